import Derived.Test.YtdhiablpobnhcaaGreatThQ
import Derived.Test.YtdhiablpobnhcaaGreatThF2
import Derived.Test.YtdhiablpobnhcaaGreatThV

namespace Go.Proofs.YtdhiablpobnhcaaGreat
open Go.RowKit
set_option linter.unusedVariables false
theorem or_nat {m : Int} {j : Nat} (h0 : 0 ≤ m) (h1 : m ≤ 9223372036854775807) (hj : j ≤ 16) : ∃ n r : Nat, m = (n : Int) ∧ bits .or .i64 m ((2 : Int) ^ j) = (r : Int) ∧ (∀ i, r.testBit i = (n.testBit i || decide (j = i))) ∧ (∀ k, n < 2 ^ k → j < k → r < 2 ^ k) := by
 obtain ⟨n, rfl⟩ := Int.eq_ofNat_of_zero_le h0
 have h2 := pow16 hj
 have e : ((2 : Int) ^ j) = ((2 ^ j : Nat) : Int) := by simp
 have hor : n ||| 2 ^ j < 2 ^ 63 := Nat.or_lt_two_pow (by omega) (Nat.pow_lt_pow_right (by omega) (by omega))
 refine ⟨n, n ||| 2 ^ j, rfl, ?_, fun i => by rw [Nat.testBit_or, Nat.testBit_two_pow], fun k hn hjk => Nat.or_lt_two_pow hn (Nat.pow_lt_pow_right (by omega) hjk)⟩
 rw [e]
 show IntKind.i64.wrap ((BitVec.ofInt 64 (n : Int) ||| BitVec.ofInt 64 ((2 ^ j : Nat) : Int)).toNat : Nat) = _
 rw [BitVec.toNat_or, ofInt_nat _ (by omega), ofInt_nat _ (by omega), IntKind.wrap_i64]
 omega
theorem bit_or {m : Int} {j : Nat} (h0 : 0 ≤ m) (h1 : m ≤ 9223372036854775807) (hj : j ≤ 16) (i : Nat) : bitI (bits .or .i64 m ((2 : Int) ^ j)) i ↔ bitI m i ∨ i = j := by
 obtain ⟨n, r, rfl, e, hb, _⟩ := or_nat h0 h1 hj
 rw [e, bitI_test, bitI_test, hb]
 simp only [Bool.or_eq_true, decide_eq_true_eq]
 exact ⟨fun h => h.imp id Eq.symm, fun h => h.imp id Eq.symm⟩
structure SameS (s t : SpanD) : Prop where
 page : t.page = s.page
 cls : t.cls = s.cls
 lens : t.lens = s.lens
 ptrs : t.ptrs = s.ptrs
structure SameO (D E : WD) : Prop where
 base : E.base = D.base
 words : E.words = D.words
 len : E.spans.length = D.spans.length
 span : ∀ (k : Nat) (s t : SpanD), D.spans[k]? = some s → E.spans[k]? = some t → SameS s t
theorem SameS.refl (s : SpanD) : SameS s s := ⟨rfl, rfl, rfl, rfl⟩
theorem SameS.symm {s t : SpanD} (h : SameS s t) : SameS t s := ⟨h.page.symm, h.cls.symm, h.lens.symm, h.ptrs.symm⟩
theorem SameO.refl (D : WD) : SameO D D := ⟨rfl, rfl, rfl, fun k s t h1 h2 => by rw [h1] at h2; cases h2; exact .refl _⟩
theorem SameO.symm {D E : WD} (h : SameO D E) : SameO E D := ⟨h.base.symm, h.words.symm, h.len.symm, fun k s t h1 h2 => (h.span k t s h2 h1).symm⟩
theorem SameO.at_ {D E : WD} (h : SameO D E) {k : Nat} {s : SpanD} (hs : D.spans[k]? = some s) : ∃ t, E.spans[k]? = some t ∧ SameS s t := by
 have hl := (List.getElem?_eq_some_iff.1 hs).1
 have e : E.spans[k]? = some (E.spans[k]'(by rw [h.len]; exact hl)) := List.getElem?_eq_getElem _
 exact ⟨_, e, h.span k s _ hs e⟩
theorem SameO.trans {D E F : WD} (h : SameO D E) (g : SameO E F) : SameO D F :=
 ⟨g.base.trans h.base, g.words.trans h.words, g.len.trans h.len, fun k s t h1 h2 => by
  obtain ⟨u, hu, hs⟩ := h.at_ h1
  have := g.span k u t hu h2
  exact ⟨this.page.trans hs.page, this.cls.trans hs.cls, this.lens.trans hs.lens, this.ptrs.trans hs.ptrs⟩⟩
theorem atW_same {s t : SpanD} (h : SameS s t) (j : Int) : atW t j = atW s j := by unfold atW; rw [h.page, h.cls]
theorem SameO.obj {D E : WD} (h : SameO D E) {a : Int} {k j : Nat} (ho : IsObj D a k j) : IsObj E a k j := by
 obtain ⟨s, hs, hj, hl, ha⟩ := ho
 obtain ⟨t, ht, hst⟩ := h.at_ hs
 exact ⟨t, ht, by rw [hst.lens]; exact hj, by rw [hst.lens]; exact hl, by rw [h.base, atW_same hst]; exact ha⟩
theorem SameO.has {D E : WD} (h : SameO D E) {a : Int} : HasObj E a ↔ HasObj D a := ⟨fun ⟨k, j, ho⟩ => ⟨k, j, h.symm.obj ho⟩, fun ⟨k, j, ho⟩ => ⟨k, j, h.obj ho⟩⟩
theorem SameO.ptrs {D E : WD} (h : SameO D E) {s t : SpanD} (hst : SameS s t) (j : Nat) : ptrW E t j = ptrW D s j := by unfold ptrW; rw [h.words, atW_same hst, hst.ptrs]
inductive ComingP (D : WD) (Z : List Int) : Int → Prop
 | grey {b : Int} : PtrsOf D D.grey b → HasObj D b → ComingP D Z b
 | more {b : Int} : b ∈ Z → HasObj D b → ComingP D Z b
 | step {a b : Int} : ComingP D Z a → Leads D (fun k j => ¬ MarkedP D k j) a b → HasObj D b → ComingP D Z b
theorem ComingP.of {D : WD} {a : Int} (h : Coming D a) (Z : List Int) : ComingP D Z a := by
 induction h with
 | start h1 h2 => exact .grey h1 h2
 | step h1 h2 h3 ih => exact .step ih h2 h3
theorem ComingP.to {D : WD} {a : Int} (h : ComingP D [] a) : Coming D a := by
 induction h with
 | grey h1 h2 => exact .start h1 h2
 | more h1 h2 => simp at h1
 | step h1 h2 h3 ih => exact .step ih h2 h3
def KeptP (D : WD) (Z : List Int) (a : Int) : Prop := a = 0 ∨ ComingP D Z a ∨ MarkedObj D a
theorem KeptP.iff {D : WD} {a : Int} : KeptP D [] a ↔ Kept D a := ⟨fun h => h.imp id (Or.imp ComingP.to id), fun h => h.imp id (Or.imp (fun h => ComingP.of h []) id)⟩
theorem KeptP.more {D : WD} {Z Y : List Int} {a : Int} (h : KeptP D Z a) (hZ : ∀ b, b ∈ Z → b ∈ Y) : KeptP D Y a := by
 refine h.imp id (Or.imp (fun hc => ?_) id)
 induction hc with
 | grey h1 h2 => exact .grey h1 h2
 | more h1 h2 => exact .more (hZ _ h1) h2
 | step h1 h2 h3 ih => exact .step (ih (.inr (.inl h1))) h2 h3
def shadeD (D : WD) (a : Int) (k j : Nat) (s : SpanD) : WD := { D with spans := D.spans.set k { s with mark := bits .or .i64 s.mark ((2 : Int) ^ j) }, grey := D.grey ++ [a] }
def ShadeIs (D : WD) (a : Int) (E : WD) : Prop :=
 (∃ k j s, (D.phase = 1 ∨ D.phase = 2) ∧ IsObj D a k j ∧ D.spans[k]? = some s ∧ ¬ bitI s.mark j ∧ E = shadeD D a k j s) ∨
 ((D.phase = 1 ∨ D.phase = 2 → ∀ k j, IsObj D a k j → MarkedP D k j) ∧ E = D)
theorem shade_same {D : WD} {a : Int} {k j : Nat} {s : SpanD} (hs : D.spans[k]? = some s) : SameO D (shadeD D a k j s) := by
 refine ⟨rfl, rfl, by simp [shadeD], fun q t u h1 h2 => ?_⟩
 by_cases e : q = k
 ·subst e
  rw [hs] at h1
  cases h1
  have hl := (List.getElem?_eq_some_iff.1 hs).1
  simp [shadeD, hl] at h2
  subst h2
  exact ⟨rfl, rfl, rfl, rfl⟩
 ·simp only [shadeD] at h2
  rw [List.getElem?_set_ne (fun h => e h.symm), h1] at h2
  cases h2
  exact .refl _
theorem ShadeIs.same {D E : WD} {a : Int} (h : ShadeIs D a E) : SameO D E := by
 rcases h with ⟨k, j, s, _, _, hs, _, rfl⟩ | ⟨_, rfl⟩
 ·exact shade_same hs
 ·exact .refl _
theorem mark_range {D : WD} (hF : HeapForm D) {k j : Nat} {s : SpanD} (hs : D.spans[k]? = some s) (hj : j < s.lens.length) : 0 ≤ s.mark ∧ s.mark ≤ 9223372036854775807 ∧ j ≤ 16 := by
 have A := hF.span k s hs
 have h1 := A.lens
 have h2 := (sl_bd s.cls).2
 have h3 := A.mk1
 have h4 := pow16 (k := s.lens.length) (by omega)
 have e : ((2 : Int) ^ s.lens.length) = ((2 ^ s.lens.length : Nat) : Int) := by simp
 rw [e] at h3
 exact ⟨A.mk0, by omega, by omega⟩
theorem shade_marked {D : WD} (hF : HeapForm D) {a : Int} {k j : Nat} {s : SpanD} (hs : D.spans[k]? = some s) (hj : j < s.lens.length) {q i : Nat} : MarkedP (shadeD D a k j s) q i ↔ MarkedP D q i ∨ (q = k ∧ i = j) := by
 obtain ⟨m0, m1, j16⟩ := mark_range hF hs hj
 have hl := (List.getElem?_eq_some_iff.1 hs).1
 by_cases e : q = k
 ·subst e
  have h1 : (shadeD D a q j s).spans[q]? = some { s with mark := bits .or .i64 s.mark ((2 : Int) ^ j) } := by simp [shadeD, hl]
  rw [MarkedP.iff h1, MarkedP.iff hs, bit_or m0 m1 j16]
  simp
 ·have h1 : (shadeD D a k j s).spans[q]? = D.spans[q]? := by simp only [shadeD]; rw [List.getElem?_set_ne (fun h => e h.symm)]
  unfold MarkedP
  rw [h1]
  simp [e]
theorem ShadeIs.kept {D E : WD} {b : Int} {Z : List Int} (hF : HeapForm D) (hph : D.phase = 1 ∨ D.phase = 2) (h : ShadeIs D b E) {a : Int} (hk : KeptP D (b :: Z) a) : KeptP E Z a := by
 have hO := h.same
 rcases h with ⟨k, j, s, _, ho, hs, hnm, rfl⟩ | ⟨hm, rfl⟩
 ·have hj : j < s.lens.length := by obtain ⟨t, ht, hj, _⟩ := ho; rw [hs] at ht; cases ht; exact hj
  have hmk : ∀ {q i}, MarkedP (shadeD D b k j s) q i ↔ MarkedP D q i ∨ (q = k ∧ i = j) := shade_marked hF hs hj
  have hob : MarkedObj (shadeD D b k j s) b := ⟨k, j, hO.obj ho, hmk.2 (.inr ⟨rfl, rfl⟩)⟩
  rcases hk with rfl | hc | ⟨q, i, hoq, hmq⟩
  ·exact .inl rfl
  ·right
   have lead : ∀ {x y : Int} {q i : Nat} {t : SpanD}, IsObj D x q i → D.spans[q]? = some t → y ∈ ptrW D t i → ∃ t', (shadeD D b k j s).spans[q]? = some t' ∧ y ∈ ptrW (shadeD D b k j s) t' i := fun hx ht hy => by
    obtain ⟨t', ht', hst⟩ := hO.at_ ht
    exact ⟨t', ht', by rw [hO.ptrs hst]; exact hy⟩
   induction hc with
   | grey h1 h2 =>
    obtain ⟨x, q, i, t, hx, hxo, ht, hy⟩ := h1
    obtain ⟨t', ht', hy'⟩ := lead hxo ht hy
    exact .inl (.grey ⟨x, q, i, t', List.mem_append.2 (.inl hx), hO.obj hxo, ht', hy'⟩ (hO.has.2 h2))
   | more h1 h2 =>
    rcases List.mem_cons.1 h1 with rfl | h1
    ·exact .inr hob
    ·exact .inl (.more h1 (hO.has.2 h2))
   | step h1 h2 h3 ih =>
    rename_i x y
    obtain ⟨q, i, t, hxo, ht, hnq, hy⟩ := h2
    obtain ⟨t', ht', hy'⟩ := lead hxo ht hy
    by_cases e : q = k ∧ i = j
    ·obtain ⟨rfl, rfl⟩ := e
     have hxb : x = b := by
      obtain ⟨u, hu, _, _, e1⟩ := hxo
      obtain ⟨u', hu', _, _, e2⟩ := ho
      rw [hu] at hu'
      cases hu'
      omega
     subst hxb
     exact .inl (.grey ⟨x, q, i, t', by simp [shadeD], hO.obj hxo, ht', hy'⟩ (hO.has.2 h3))
    ·rcases ih with hc | ⟨q', i', ho', hm'⟩
     ·exact .inl (.step hc ⟨q, i, t', hO.obj hxo, ht', fun hm => (hmk.1 hm).elim hnq e, hy'⟩ (hO.has.2 h3))
     ·obtain ⟨rfl, rfl⟩ := (hO.symm.obj ho').unique hF hxo
      exact absurd (hmk.1 hm') (fun h => h.elim hnq e)
  ·exact .inr (.inr ⟨q, i, hO.obj hoq, hmk.2 (.inl hmq)⟩)
 ·have hb : ∀ q i, IsObj E b q i → MarkedP E q i := hm hph
  rcases hk with rfl | hc | hmo
  ·exact .inl rfl
  ·right
   induction hc with
   | grey h1 h2 => exact .inl (.grey h1 h2)
   | more h1 h2 =>
    rcases List.mem_cons.1 h1 with rfl | h1
    ·obtain ⟨q, i, ho⟩ := h2
     exact .inr ⟨q, i, ho, hb q i ho⟩
    ·exact .inl (.more h1 h2)
   | step h1 h2 h3 ih =>
    rcases ih with hc | ⟨q', i', ho', hm'⟩
    ·exact .inl (.step hc h2 h3)
    ·obtain ⟨q, i, t, hxo, ht, hnq, hy⟩ := h2
     obtain ⟨rfl, rfl⟩ := ho'.unique hF hxo
     exact absurd hm' hnq
  ·exact .inr (.inr hmo)
theorem ShadeIs.marked {D E : WD} {b : Int} (hF : HeapForm D) (hph : D.phase = 1 ∨ D.phase = 2) (h : ShadeIs D b E) (hb : HasObj D b) : MarkedObj E b := by
 have hO := h.same
 rcases h with ⟨k, j, s, _, ho, hs, hnm, rfl⟩ | ⟨hm, rfl⟩
 ·have hj : j < s.lens.length := by obtain ⟨t, ht, hj, _⟩ := ho; rw [hs] at ht; cases ht; exact hj
  exact ⟨k, j, hO.obj ho, (shade_marked hF hs hj).2 (.inr ⟨rfl, rfl⟩)⟩
 ·obtain ⟨q, i, ho⟩ := hb
  exact ⟨q, i, ho, hm hph q i ho⟩
theorem ShadeIs.keeps {D E : WD} {b : Int} (hF : HeapForm D) (h : ShadeIs D b E) {a : Int} (ha : MarkedObj D a) : MarkedObj E a := by
 have hO := h.same
 rcases h with ⟨k, j, s, _, ho, hs, hnm, rfl⟩ | ⟨hm, rfl⟩
 ·have hj : j < s.lens.length := by obtain ⟨t, ht, hj, _⟩ := ho; rw [hs] at ht; cases ht; exact hj
  obtain ⟨q, i, hoq, hmq⟩ := ha
  exact ⟨q, i, hO.obj hoq, (shade_marked hF hs hj).2 (.inl hmq)⟩
 ·exact ha
theorem SameO.inSlot {s t : SpanD} (h : SameS s t) {j n x : Nat} : InSlot t j n x ↔ InSlot s j n x := by unfold InSlot; rw [atW_same h]
theorem SameO.inSlots {s t : SpanD} (h : SameS s t) {j x : Nat} : InSlots t j x ↔ InSlots s j x := by
 unfold InSlots
 rw [h.lens]
 exact ⟨fun ⟨j', h1, h2⟩ => ⟨j', h1, (SameO.inSlot h).1 h2⟩, fun ⟨j', h1, h2⟩ => ⟨j', h1, (SameO.inSlot h).2 h2⟩⟩
theorem SameO.used {D E : WD} (h : SameO D E) {x : Nat} (hu : Used D x) : Used E x := by
 obtain ⟨k, s, hk, hs, hx⟩ := hu
 obtain ⟨t, ht, hst⟩ := h.at_ hs
 exact ⟨k, t, by rw [h.len]; exact hk, ht, by rw [hst.lens]; exact (SameO.inSlots hst).2 hx⟩
theorem SameO.form {D E : WD} (h : SameO D E) (hF : HeapForm D) (hp : E.pages = D.pages) (hd : E.dirty.length = D.dirty.length) (hmu : E.muts = D.muts) (p0 : 0 ≤ E.phase) (p1 : E.phase ≤ 4)
  (hm : ∀ (k : Nat) (s t : SpanD), D.spans[k]? = some s → E.spans[k]? = some t → 0 ≤ t.mark ∧ t.mark < 2 ^ t.lens.length ∧ ∀ i, i < t.lens.length → t.lens[i]?.getD 0 = 0 → ¬ bitI t.mark i) : HeapForm E := by
 refine ⟨by rw [h.base, hp, hmu]; exact hF.geo, by rw [h.words, hp]; exact hF.words, by rw [hd, hp]; exact hF.dirty, by rw [h.len, hp]; exact hF.spans, p0, p1, fun k t ht => ?_, fun i hi hu => ?_, by rw [hmu]; exact hF.roots⟩
 ·obtain ⟨s, hs, hts⟩ := h.symm.at_ ht
  have hst := hts.symm
  have A := hF.span k s hs
  obtain ⟨m0, m1, mb⟩ := hm k s t hs ht
  refine ⟨by rw [hst.page]; exact A.pg0, by rw [hst.page, hp]; exact A.pg1, fun t' hk ht' => ?_, by rw [hst.cls]; exact A.cls, by rw [hst.lens, hst.cls]; exact A.lens, by rw [hst.ptrs, hst.cls]; exact A.ptrs, fun i hi => ?_, m0, m1⟩
  ·obtain ⟨s', hs', hts'⟩ := h.symm.at_ ht'
   have := A.prev s' hk hs'
   rw [hst.page, hts'.symm.page]
   exact this
  ·have S := A.slot i (by rw [← hst.lens]; exact hi)
   exact ⟨by rw [hst.lens]; exact S.l0, by rw [hst.lens, hst.cls]; exact S.l1, by rw [hst.ptrs]; exact S.p0, by rw [hst.ptrs, hst.lens]; exact S.p1, fun hz => mb i hi hz⟩
 ·rw [h.words] at hi ⊢
  exact hF.zero i hi fun hu' => hu (h.used hu')
theorem ShadeIs.rest {D E : WD} {a : Int} (h : ShadeIs D a E) : E.pages = D.pages ∧ E.dirty = D.dirty ∧ E.muts = D.muts ∧ E.phase = D.phase ∧ E.next = D.next := by
 rcases h with ⟨k, j, s, _, _, _, _, rfl⟩ | ⟨_, rfl⟩
 ·exact ⟨rfl, rfl, rfl, rfl, rfl⟩
 ·exact ⟨rfl, rfl, rfl, rfl, rfl⟩
theorem ShadeIs.form {D E : WD} {a : Int} (hF : HeapForm D) (h : ShadeIs D a E) : HeapForm E := by
 have hO := h.same
 have hR := h.rest
 refine hO.form hF hR.1 (by rw [hR.2.1]) hR.2.2.1 (by rw [hR.2.2.2.1]; exact hF.ph0) (by rw [hR.2.2.2.1]; exact hF.ph1) fun q t u h1 h2 => ?_
 have A := hF.span q t h1
 have old : u = t → 0 ≤ u.mark ∧ u.mark < 2 ^ u.lens.length ∧ ∀ i, i < u.lens.length → u.lens[i]?.getD 0 = 0 → ¬ bitI u.mark i := by
  rintro rfl
  exact ⟨A.mk0, A.mk1, fun i hi hz => (A.slot i hi).bit hz⟩
 rcases h with ⟨k, j, s, _, ho, hs, hnm, rfl⟩ | ⟨_, rfl⟩
 ·by_cases e : q = k
  ·subst e
   rw [hs] at h1
   cases h1
   obtain ⟨s', hs', hj, hl, _⟩ := ho
   rw [hs] at hs'
   cases hs'
   have hlen := (List.getElem?_eq_some_iff.1 hs).1
   obtain ⟨m0, m1, j16⟩ := mark_range hF hs hj
   obtain ⟨n, r, e1, e2, _, hlt⟩ := or_nat m0 m1 j16
   have hu : u = { t with mark := bits .or .i64 t.mark ((2 : Int) ^ j) } := by
    simp [shadeD, hlen] at h2
    exact h2.symm
   subst hu
   have e3 : ((2 : Int) ^ t.lens.length) = ((2 ^ t.lens.length : Nat) : Int) := by simp
   have hm1 := A.mk1
   refine ⟨by show 0 ≤ bits .or .i64 t.mark ((2 : Int) ^ j); omega, ?_, fun i hi hz hb => ?_⟩
   ·show bits .or .i64 t.mark ((2 : Int) ^ j) < 2 ^ t.lens.length
    have := hlt t.lens.length (by omega) hj
    rw [e2, e3]
    omega
   ·rcases (bit_or m0 m1 j16 i).1 hb with hb | rfl
    ·exact (A.slot i hi).bit hz hb
    ·have hz' : t.lens[i]?.getD 0 = 0 := hz
     omega
  ·simp only [shadeD] at h2
   rw [List.getElem?_set_ne (fun h => e h.symm), h1] at h2
   cases h2
   exact old rfl
 ·rw [h1] at h2
  cases h2
  exact old rfl
structure Mid (D : WD) (Z : List Int) : Prop where
 form : HeapForm D
 ph : D.phase = 1 ∨ D.phase = 2
 roots : ∀ r, r ∈ D.muts → ∀ a, a ∈ r → a = 0 ∨ HasObj D a
 ptrs : ∀ a k j s, IsObj D a k j → D.spans[k]? = some s → ∀ b, b ∈ ptrW D s j → b = 0 ∨ HasObj D b
 span : ∀ s, s ∈ D.spans → SpanRight D s
 next : NextRight D
 grey : GreyMarked D D.grey
 seen : ∀ (m : Nat) (r : List Int), D.muts[m]? = some r → SeenP D m → ∀ a, a ∈ r → KeptP D Z a
 kept : ∀ a k j s, IsObj D a k j → D.spans[k]? = some s → MarkedP D k j → ∀ b, b ∈ ptrW D s j → KeptP D Z b
theorem GreyMarked.add {D : WD} {L : List Int} {x : Int} (h : GreyMarked D L) (hm : MarkedObj D x) (hx : x ∉ L) : GreyMarked D (L ++ [x]) :=
 ⟨List.nodup_append.2 ⟨h.1, by simp, fun a ha b hb => by obtain rfl := List.mem_singleton.1 hb; exact fun e => hx (e ▸ ha)⟩, fun a ha => (List.mem_append.1 ha).elim (h.2 a) fun hb => by rw [List.mem_singleton.1 hb]; exact hm⟩
theorem Mid.shade {D E : WD} {b : Int} {Z : List Int} (h : Mid D (b :: Z)) (hs : ShadeIs D b E) : Mid E Z := by
 have hO := hs.same
 obtain ⟨r1, r2, r3, r4, r5⟩ := hs.rest
 have hE := hs.form h.form
 have hptr : ∀ a k j s, IsObj E a k j → E.spans[k]? = some s → ∀ b, b ∈ ptrW E s j → b = 0 ∨ HasObj E b := fun a k j t ho ht b hb => by
  obtain ⟨s, hs, hts⟩ := hO.symm.at_ ht
  rw [hO.ptrs hts.symm] at hb
  exact (h.ptrs a k j s (hO.symm.obj ho) hs b hb).imp id hO.has.2
 refine ⟨hE, by rw [r4]; exact h.ph, by rw [r3]; exact fun r hr a ha => (h.roots r hr a ha).imp id hO.has.2, hptr, fun t ht => ?_, ?_, ?_, ?_, fun a k j t ho ht hm c hc => ?_⟩
 ·obtain ⟨q, hq⟩ := List.mem_iff_getElem?.1 ht
  rcases hs with ⟨k, j, s, hph, ho, hsk, hnm, rfl⟩ | ⟨_, rfl⟩
  ·by_cases e : q = k
   ·subst e
    have hl := (List.getElem?_eq_some_iff.1 hsk).1
    simp [shadeD, hl] at hq
    subst hq
    have hr := h.span s (List.mem_of_getElem? hsk)
    refine ⟨fun hsw => hr.1 hsw, fun _ => ⟨fun e => ?_, ?_⟩⟩
    ·have e' : D.phase = 0 := e
     omega
    ·show s.swept = false
     cases hsw : s.swept
     ·rfl
     ·have := hr.1 hsw
      omega
   ·simp only [shadeD] at hq
    rw [List.getElem?_set_ne (fun h => e h.symm)] at hq
    exact h.span t (List.mem_of_getElem? hq)
  ·exact h.span t ht
 ·unfold NextRight
  rw [r5, r3, r4]
  exact h.next
 ·have hold : GreyMarked E D.grey := ⟨h.grey.1, fun a ha => hs.keeps h.form (h.grey.2 a ha)⟩
  rcases id hs with ⟨k, j, s, hph, ho, hsk, hnm, rfl⟩ | ⟨_, rfl⟩
  ·refine hold.add (hs.marked h.form h.ph ⟨k, j, ho⟩) fun hb => ?_
   obtain ⟨q, i, hoq, hmq⟩ := h.grey.2 b hb
   obtain ⟨rfl, rfl⟩ := hoq.unique h.form ho
   exact hnm ((MarkedP.iff hsk).1 hmq)
  ·exact hold
 ·intro m r hr hsn a ha
  rw [r3] at hr
  exact hs.kept h.form h.ph (h.seen m r hr (by unfold SeenP at hsn ⊢; rw [r4, r5] at hsn; exact hsn) a ha)
 ·obtain ⟨s, hsk, hts⟩ := hO.symm.at_ ht
  have hcD : c ∈ ptrW D s j := by rw [hO.ptrs hts.symm] at hc; exact hc
  by_cases hmD : MarkedP D k j
  ·exact hs.kept h.form h.ph (h.kept a k j s (hO.symm.obj ho) hsk hmD c hcD)
  ·rcases hptr a k j t ho ht c hc with rfl | hob
   ·exact .inl rfl
   ·right; left
    rcases id hs with ⟨k', j', s', hph, ho', hs', hnm, rfl⟩ | ⟨_, rfl⟩
    ·have hj : j' < s'.lens.length := by obtain ⟨u, hu, hj, _⟩ := ho'; rw [hs'] at hu; cases hu; exact hj
     rcases (shade_marked h.form hs' hj).1 hm with hm | ⟨rfl, rfl⟩
     ·exact absurd hm hmD
     ·have hab : a = b := by
       obtain ⟨u, hu, _, _, e1⟩ := hO.symm.obj ho
       obtain ⟨u', hu', _, _, e2⟩ := ho'
       rw [hu] at hu'
       cases hu'
       omega
      subst hab
      exact .grey ⟨a, k, j, t, by simp [shadeD], ho, ht, hc⟩ hob
    ·exact absurd hm hmD
inductive ShadesIs : WD → List Int → WD → Prop
 | nil (D : WD) : ShadesIs D [] D
 | cons {D E F : WD} {a : Int} {L : List Int} : ShadeIs D a E → ShadesIs E L F → ShadesIs D (a :: L) F
theorem Mid.shades {D E : WD} {L Z : List Int} (h : Mid D (L ++ Z)) (hs : ShadesIs D L E) : Mid E Z := by
 induction hs with
 | nil D => exact h
 | cons h1 h2 ih => exact ih (h.shade h1)
theorem ShadeIs.unique {D : WD} {a : Int} {E F : WD} (hF : HeapForm D) (h : ShadeIs D a E) (g : ShadeIs D a F) : F = E := by
 rcases h with ⟨k, j, s, hp, ho, hs, hb, rfl⟩ | ⟨hn, rfl⟩ <;> rcases g with ⟨k', j', s', hp', ho', hs', hb', rfl⟩ | ⟨hn', rfl⟩
 ·obtain ⟨rfl, rfl⟩ := ho.unique hF ho'
  rw [hs] at hs'
  cases hs'
  rfl
 ·exact absurd ((MarkedP.iff hs).1 (hn' hp k j ho)) hb
 ·exact absurd ((MarkedP.iff hs').1 (hn hp' k' j' ho')) hb'
 ·rfl
theorem wp_appF {w : World} {base : Nat} {v : Value} {L : List Int} {o : Oper} {a : Act} {K : Act → World → Prop} {Q : Exit → Act → World → Prop} (s x : Operand)
  (ho : o.op = .call { callee := .builtin .append, args := #[s, x], argTypes := #[23, 23] })
  (hs : a.eval s = v) (hown : w.ownsRow base 3 1 v L.length (L.map (Value.int .i64))) (ad : Addr) (m c : Nat) (R : List Int) (hx : a.eval x = .slice (some ad) m c) (hm : R.length = m) (hr : SrcIs w (some ad) m 1 (R.map (Value.int .i64)))
  (h63 : L.length + m ≤ 16777216) (hbase : base ≤ w.heap.size)
  (h : ∀ v' w', w'.ownsRow base 3 1 v' (L ++ R).length ((L ++ R).map (Value.int .i64)) → w.grownBy w' v.ownBlock → (∀ q, v'.ownBlock = some q → v.ownBlock = some q ∨ w.heap.size ≤ q) → K (a.put o.dst v') w') : o.wp Tryz.prog a w K Q := by
 obtain ⟨i, hi, hz, hsize, hby⟩ := info_parts infoInt
 have ht : Tryz.prog.underlying 23 = some (.slice 3) := Tryz.underlying23
 obtain ⟨v', w', hrun, h2, h3, h4⟩ := OwnQ.run_app o.type (OwnQ.of_row hown) (some ad) m c R hm hr h63 hbase
 obtain ⟨v2, w2, hrun2, g2, g3, _⟩ := run_append_own (P := Tryz.prog) (w := w) base 23 o.type 3 i (.int .i64 0) 1 8 ht hi hz hsize hby rfl (by decide) v L.length _ hown ad m c (R.map (Value.int .i64)) (by simpa using hm)
  (fun j u hu => by obtain ⟨b, e, hc⟩ := hr.at_ j u hu; cases e; exact hc) hr.one (by unfold maxLen; omega) (by omega) hbase
 rw [hrun] at hrun2
 cases hrun2
 unfold Oper.wp execOp
 simp only [ho, resolve, invoke, builtin, Sem.run_bind, Sem.run_pure, Result.andThen_ok, List.map_toArray, List.map_cons, List.map_nil, hs, hx, hrun]
 refine h v' w' ?_ h3 fun q hq => ?_
 ·rw [List.length_append, List.map_append, hm]
  exact g2
 ·rcases h4 with e | e
  ·left; rw [← e]; exact hq
  ·right; exact (e.lt q hq).1
theorem wpList_appF {w : World} {base : Nat} {v : Value} {L : List Int} {ops : Array Oper} {rest : List Oper} {o : Oper} {a : Act} {Q : Exit → Act → World → Prop} (hgd : o.guard = none) (s x : Operand)
  (ho : o.op = .call { callee := .builtin .append, args := #[s, x], argTypes := #[23, 23] })
  (hs : a.eval s = v) (hown : w.ownsRow base 3 1 v L.length (L.map (Value.int .i64))) (ad : Addr) (m c : Nat) (R : List Int) (hx : a.eval x = .slice (some ad) m c) (hm : R.length = m) (hr : SrcIs w (some ad) m 1 (R.map (Value.int .i64)))
  (h63 : L.length + m ≤ 16777216) (hbase : base ≤ w.heap.size)
  (h : ∀ v' w', w'.ownsRow base 3 1 v' (L ++ R).length ((L ++ R).map (Value.int .i64)) → w.grownBy w' v.ownBlock → (∀ q, v'.ownBlock = some q → v.ownBlock = some q ∨ w.heap.size ≤ q) → wpList Tryz.prog ops Q rest (a.put o.dst v') w') : wpList Tryz.prog ops Q (o :: rest) a w :=
 wpList_plain hgd fun _ hK => wp_appF s x ho hs hown ad m c R hx hm hr h63 hbase fun v' w' h1 h2 h3 => hK _ _ (h v' w' h1 h2 h3)
section
variable {w w' : World} {base B : Nat} {S : Shape} {D : WD}
theorem VarW.grow (h : VarW w base B S D) (g : w.grownBy w' S.vg.ownBlock) {v : Value} {L : List Int} (r : w'.ownsRow base 3 1 v L.length (L.map (Value.int .i64))) (f : ∀ q, v.ownBlock = some q → S.vg.ownBlock = some q ∨ w.heap.size ≤ q) :
  VarW (w'.setCell ⟨B, 8, none⟩ v) base B { S with vg := v } { D with grey := L } ∧ Below base w (w'.setCell ⟨B, 8, none⟩ v) := by
 have c1 : Chg (blks [S.vg]) w w' := Chg.of_grown g fun x hx => List.mem_filterMap.2 ⟨S.vg, by simp, hx⟩
 have c2 := Chg.of_grown (grown_set w' B 8 v) (bs := [B]) (by simp)
 have P := h.own.parts
 have hb := h.keep c1 (in_all (by simp [Shape.all]))
 have hbel := h.bel c1 (in_all (by simp [Shape.all]))
 have hm : ∀ x, x ∈ S.all → ∀ q, x.ownBlock = some q → q ∉ [B] := fun x hx q hq hm => h.ne (List.mem_filterMap.2 ⟨x, hx, by rw [hq, List.mem_singleton.1 hm]⟩)
 have hvB : v.ownBlock ≠ some B := fun e => by
  rcases f B e with e | e
  ·exact h.ne (List.mem_filterMap.2 ⟨S.vg, by simp [Shape.all], e⟩)
  ·have := h.lt
   omega
 have hn0 := h.own.nodup
 rw [show S.ints = (S.vw :: svInts S.sv ++ S.mv) ++ [S.vg] from rfl, List.filterMap_append] at hn0
 have h1 := List.nodup_append.1 hn0
 have hn : (({ S with vg := v } : Shape).ints.filterMap Value.ownBlock).Nodup := by
  rw [show ({ S with vg := v } : Shape).ints = (S.vw :: svInts S.sv ++ S.mv) ++ [v] from rfl, List.filterMap_append]
  refine List.nodup_append.2 ⟨h1.1, ?_, ?_⟩
  ·cases e : v.ownBlock <;> simp [e]
  ·intro a ha b hb
   obtain ⟨y, hy, hyb⟩ := List.mem_filterMap.1 hb
   obtain rfl := List.mem_singleton.1 hy
   rintro rfl
   rcases f a hyb with hf | hf
   ·exact h1.2.2 a ha a (by simp [hf]) rfl
   ·obtain ⟨y', hy', hyb'⟩ := List.mem_filterMap.1 ha
    have hal : y' ∈ S.all := by
     simp only [List.mem_append, List.mem_cons] at hy'
     rcases hy' with (rfl | hy') | hy' <;> simp [Shape.all, *]
    have := (h.own.lt a (List.mem_filterMap.2 ⟨y', hal, hyb'⟩)).2
    omega
 refine ⟨⟨?_, ?_, h.le, ?_⟩, hbel.trans ((Below.refl _ _).setCell (p := ⟨B, 8, none⟩) h.le _)⟩
 ·have := heap_setCell_same w' B 8 _ _ v hb
  simpa [Shape.cells] using this
 ·refine .mk' (own_chg (own_chg h.own.words c1 fun q hq => P.d04.not_mem (by simp) hq) c2 (hm _ (by simp [Shape.all]))) (own_chg (own_chg h.own.dirty c1 fun q hq => P.d14.not_mem (by simp) hq) c2 (hm _ (by simp [Shape.all])))
   ((h.own.ownS.chg c1 (fun q hq => P.d24.not_mem (by simp) hq) (fun x hx q hq => P.d24.not_mem (by simp [hx]) hq)).chg c2 (hm _ (by simp [Shape.all])) (fun x hx => hm x (by simp [Shape.all, hx])))
   ((h.own.ownM.chg c1 (fun q hq => P.d34.not_mem (by simp) hq) (fun x hx q hq => P.d34.not_mem (by simp [hx]) hq)).chg c2 (hm _ (by simp [Shape.all])) (fun x hx => hm x (by simp [Shape.all, hx])))
   (own_chg r c2 fun q hq hm => hvB (by rw [hq, List.mem_singleton.1 hm])) hn
 ·intro hB2
  obtain ⟨x, hx, hxB⟩ := List.mem_filterMap.1 hB2
  simp only [Shape.all, List.mem_append, List.mem_cons, List.not_mem_nil, or_false] at hx
  have old : ∀ y, y ∈ S.all → y.ownBlock ≠ some B := fun y hy e => h.ne (List.mem_filterMap.2 ⟨y, hy, e⟩)
  rcases hx with (((rfl | rfl) | (rfl | hx)) | (rfl | hx)) | rfl
  ·exact old _ (by simp [Shape.all]) hxB
  ·exact old _ (by simp [Shape.all]) hxB
  ·exact old _ (by simp [Shape.all]) hxB
  ·exact old x (by simp [Shape.all, hx]) hxB
  ·exact old _ (by simp [Shape.all]) hxB
  ·exact old x (by simp [Shape.all, hx]) hxB
  ·exact hvB hxB
end
structure Shaded (w w' : World) (B : Nat) (S S' : Shape) : Prop where
 vg : ∃ v, S' = { S with vg := v } ∧ ∀ q, v.ownBlock = some q → S.vg.ownBlock = some q ∨ w.heap.size ≤ q
 chg : Chg (B :: blks S.all) w w'
theorem Shaded.of_below {w w' : World} (B : Nat) (S : Shape) (h : Below w.heap.size w w') : Shaded w w' B S S := ⟨⟨S.vg, rfl, fun q hq => .inl hq⟩, .of_below h _⟩
theorem Shape.all_vg {S : Shape} {v : Value} {k : Nat} (h : k ∈ blks ({ S with vg := v } : Shape).all) : k ∈ blks S.all ∨ v.ownBlock = some k := by
 obtain ⟨x, hx, e⟩ := List.mem_filterMap.1 h
 simp only [Shape.all, List.mem_append, List.mem_cons, List.not_mem_nil, or_false] at hx
 rcases hx with (((rfl | rfl) | (rfl | hx)) | (rfl | hx)) | rfl
 ·exact .inl (List.mem_filterMap.2 ⟨_, by simp [Shape.all], e⟩)
 ·exact .inl (List.mem_filterMap.2 ⟨_, by simp [Shape.all], e⟩)
 ·exact .inl (List.mem_filterMap.2 ⟨_, by simp [Shape.all], e⟩)
 ·exact .inl (List.mem_filterMap.2 ⟨x, by simp [Shape.all, hx], e⟩)
 ·exact .inl (List.mem_filterMap.2 ⟨_, by simp [Shape.all], e⟩)
 ·exact .inl (List.mem_filterMap.2 ⟨x, by simp [Shape.all, hx], e⟩)
 ·exact .inr e
theorem Shaded.trans {w w1 w2 : World} {B : Nat} {S T U : Shape} (h : Shaded w w1 B S T) (g : Shaded w1 w2 B T U) : Shaded w w2 B S U := by
 obtain ⟨v, rfl, hv⟩ := h.vg
 obtain ⟨u, rfl, hu⟩ := g.vg
 have hs := h.chg.size
 refine ⟨⟨u, rfl, fun q hq => ?_⟩, ⟨g.chg.os.trans h.chg.os, g.chg.tape.trans h.chg.tape, g.chg.output.trans h.chg.output, Nat.le_trans hs g.chg.size, fun j hj hn => ?_⟩⟩
 ·rcases hu q hq with h1 | h1
  ·exact hv q h1
  ·exact .inr (by omega)
 ·refine (g.chg.block j (by omega) fun hm => ?_).trans (h.chg.block j hj hn)
  rcases List.mem_cons.1 hm with rfl | hm
  ·exact hn (by simp)
  ·rcases Shape.all_vg hm with h1 | h1
   ·exact hn (by simp [h1])
   ·rcases hv j h1 with h2 | h2
    ·exact hn (List.mem_cons_of_mem _ (List.mem_filterMap.2 ⟨S.vg, by simp [Shape.all], h2⟩))
    ·omega
set_option maxRecDepth 100000 in
set_option maxHeartbeats 4000000 in
theorem sshade_any (base B : Nat) (S : Shape) (D : WD) (addr : Int) (hF : HeapForm D) (hgl : D.grey.length ≤ 1048576) (w : World) (h : VarW w base B S D) :
  Calls Tryz.prog 76 #[.pointer (some ⟨B, 0, none⟩), .int .i64 addr] w fun e w' => e = .returned (.tuple #[]) ∧ (∃ S' E, ShadeIs D addr E ∧ VarW w' base B S' E ∧ Shaded w w' B S S') ∧ Below base w w' := by
 have h' := Lib.hid h
 have hF' := Lib.hid hF
 have hgl' := Lib.hid hgl
 have hle := Lib.hid (Nat.le_of_lt (Nat.lt_of_le_of_lt h.le h.lt))
 have hfnd := Lib.hid (find_at B _ D hF addr w h.rd h.boxW)
 have g6 := h.cell 6 (.int .i64 D.phase) rfl
 clear hF hgl h
 by_cases c1 : D.phase = 1 ∨ D.phase = 2
 case neg =>
  have y := Lib.hid (show ShadeIs D addr D from .inr ⟨fun h => absurd h c1, rfl⟩)
  have d1 : (D.phase != 1) = true := bne_iff_ne.2 fun h => c1 (.inl h)
  have d2 : (D.phase != 2) = true := bne_iff_ne.2 fun h => c1 (.inr h)
  clear c1
  go_enter Tryz.func76, Tryz.ntmps76
  go_wp2_with fail
  refine bodyPost_ret (v := .tuple #[]) (by simp [results, Tryz.results76, go_sem]) rfl ?_
  exact ⟨rfl, ⟨_, _, y.out, h'.out, .of_below _ _ (Below.refl _ _)⟩, Below.refl _ _⟩
 have hc := Lib.hid c1
 rcases c1 with c1 | c1
 all_goals rw [c1] at g6
 all_goals clear c1
 all_goals go_enter Tryz.func76, Tryz.ntmps76
 all_goals go_wp2_with fail
 all_goals
  refine hfnd.out.mono ?_
  rintro e w1 ⟨hq, b1⟩
  obtain ⟨r, q, rfl, hq⟩ := hq
  have v1 := Lib.hid (h'.out.below b1)
  have B1 := Lib.hid (b1.mono hle.out)
  have Z1 := Lib.hid b1
  clear b1 g6
  rcases hq with ⟨k, j, _, ho, rfl, rfl⟩ | ⟨hn, rfl, rfl⟩
  case inr =>
   have y := Lib.hid (show ShadeIs D addr D from .inr ⟨fun _ k j h => absurd h (hn hF'.out k j), rfl⟩)
   clear hn
   go_wp2_with fail
   refine bodyPost_ret (v := .tuple #[]) (by simp [results, Tryz.results76, go_sem]) rfl ?_
   exact ⟨rfl, ⟨_, _, y.out, v1.out, .of_below _ _ Z1.out⟩, B1.out⟩
  have ho' := Lib.hid ho
  obtain ⟨s, hs, hj, hl, ha⟩ := ho
  have hs' := Lib.hid hs
  have hj16 := Lib.hid (mark_range hF'.out hs hj)
  have hm := Lib.hid (smarked_any B _ D k j s hs hj16.out.2.2 w1 v1.out.rd v1.out.boxW)
  have hkl1 : (k : Int) < (D.spans.length : Int) := by have := (List.getElem?_eq_some_iff.1 hs).1; omega
  clear hs hj hl ha
  go_wp2_with fail
  refine hm.out.mono ?_
  rintro e w2 ⟨hq, b2⟩
  replace hq := hq.elim
  have v2 := Lib.hid (v1.out.below b2)
  have B2 := Lib.hid (B1.out.trans (b2.mono (by have := B1.out.size; have := hle.out; omega)))
  have Z2 := Lib.hid (below_trans Z1.out b2)
  clear b2 hm
  rcases hq with ⟨hmk, rfl⟩ | ⟨hmk, rfl⟩
  case inl =>
   have y := Lib.hid (show ShadeIs D addr D from .inr ⟨fun _ k' j' h => by obtain ⟨rfl, rfl⟩ := ho'.out.unique hF'.out h; exact hmk, rfl⟩)
   clear hmk
   go_wp2_with fail
   refine bodyPost_ret (v := .tuple #[]) (by simp [results, Tryz.results76, go_sem]) rfl ?_
   exact ⟨rfl, ⟨_, _, y.out, v2.out, .of_below _ _ Z2.out⟩, B2.out⟩
  have y := Lib.hid (show ShadeIs D addr (shadeD D addr k j s) from .inl ⟨k, j, s, hc.out, ho'.out, hs'.out, fun hb => hmk ((MarkedP.iff hs'.out).2 hb), rfl⟩)
  obtain ⟨p, hp⟩ := v2.out.svAt hs'.out
  obtain ⟨gs, cs, hgs⟩ := v2.out.headS (by omega)
  have g4 := v2.out.cell 4 S.vs rfl
  rw [hgs] at g4
  have x2 := (v2.out.six hgs hs'.out hp).2.2.1
  have f2 := v2.out.frzS hgs (k * 6 + 2)
  have hmx := v2.out.rd.parts.2.2.1
  obtain ⟨_, _, _, hsm, _⟩ := hmx
  unfold maxLen at hsm
  have hj1 : (j : Int) ≤ 16 := by have := hj16.out.2.2; omega
  have v3 := Lib.hid (v2.out.mark hgs k s p (bits .or .i64 s.mark (2 ^ j)) hs'.out hp)
  have hgs' := hgs
  clear hmk hp hgs
  have hgs' := Lib.hid hgs'
  go_wp2_with fail
  go_region
  rw [wrap_pow (show j ≤ 16 by omega)]
  have v4 := Lib.hid v3.out.1.drew
  have B4 := Lib.hid (below_drewN (B2.out.trans v3.out.2) 1)
  have C4 := Lib.hid ((Chg.of_below Z2.out (B :: blks S.all)).trans ((Chg.of_grown (grown_set w2 gs (k * 6 + 2) (.int .i64 (bits .or .i64 s.mark (2 ^ j)))) (bs := B :: blks S.all) (fun x hx => by cases hx; exact List.mem_cons_of_mem _ (List.mem_filterMap.2 ⟨S.vs, by simp [Shape.all], by rw [hgs'.out]; rfl⟩))).trans (Chg.of_below (below_drewN (Below.refl _ _) 1) _)))
  have q0 : bits .or .i64 s.mark (2 ^ j) = bits .or .i64 s.mark ((2 : Int) ^ j) := rfl
  clear g4 x2 f2 v2 B2 v3 v1 B1 hj1 hkl1
  generalize hw3 : (w2.setCell ⟨gs, k * 6 + 2, none⟩ (.int .i64 (bits .or .i64 s.mark (2 ^ j)))).drew = w3 at *
  have B4' : Hid (Below base w w3) := Lib.hid (by rw [← hw3]; exact B4.out)
  have C4' : Hid (Chg (B :: blks S.all) w w3) := Lib.hid (by rw [← hw3]; exact C4.out)
  clear hw3 B4 C4 hsm q0 hgs' Z1 Z2
  have hown := show w3.ownsRow base 3 1 S.vg D.grey.length (D.grey.map (Value.int .i64)) from v4.out.own.grey
  obtain ⟨ag, cg, hvg⟩ := own_slice hown
  have b8 := v4.out.cell 8 S.vg rfl
  rw [hvg] at b8 hown
  have hown' := Lib.hid hown
  have hbs := Lib.hid (show base ≤ (w3.alloc (.cells #[.int .i64 addr] 3)).heap.size by have := B4'.out.size; have := hle.out; simp; omega)
  have hgl2 := hgl'.out
  clear hown
  have src := Lib.hid (show SrcIs (w3.alloc (.cells #[.int .i64 addr] 3)) (some ⟨w3.heap.size, 0, none⟩) 1 1 ([addr].map (Value.int .i64)) from ⟨rfl, fun j u hu => ⟨_, rfl, cell_one _ _ _ j u hu⟩, by simp [Value.oneCell']⟩)
  have v5 := Lib.hid (v4.out.below (below_box w3 (.cells #[.int .i64 addr] 3)))
  have B5 := Lib.hid (B4'.out.trans ((below_box w3 (.cells #[.int .i64 addr] 3)).mono (by have := B4'.out.size; have := hle.out; omega)))
  have ex := Lib.hid (show ∀ (v : Value) (w6 : World) , w6.ownsRow base 3 1 v (D.grey ++ [addr]).length ((D.grey ++ [addr]).map (Value.int .i64)) → (w3.alloc (.cells #[.int .i64 addr] 3)).grownBy w6 (Value.slice ag D.grey.length cg).ownBlock →
    (∀ q, v.ownBlock = some q → (Value.slice ag D.grey.length cg).ownBlock = some q ∨ (w3.alloc (.cells #[.int .i64 addr] 3)).heap.size ≤ q) →
    (∃ a c, v = .slice a (D.grey.length + 1) c) ∧ w6.cell? ⟨B, 8, none⟩ = some S.vg ∧ w6.frozen? ⟨B, 8, none⟩ = false ∧ (VarW (w6.setCell ⟨B, 8, none⟩ v) base B { S with vg := v } (shadeD D addr k j s) ∧ Shaded w (w6.setCell ⟨B, 8, none⟩ v) B S { S with vg := v }) ∧ Below base w (w6.setCell ⟨B, 8, none⟩ v) from fun v w6 r g f => by
   have hg := v5.out.grow (L := D.grey ++ [addr]) (v := v) (by rw [hvg]; exact g) r (by rw [hvg]; exact f)
   have hb6 := v5.out.keep (Chg.of_grown g (bs := blks [S.vg]) fun x hx => List.mem_filterMap.2 ⟨S.vg, by simp, by rw [hvg]; exact hx⟩) (in_all (by simp [Shape.all]))
   obtain ⟨a, c, e⟩ := own_slice r
   have hsz := C4'.out.size
   have hc5 : Chg (B :: blks S.all) w (w6.setCell ⟨B, 8, none⟩ v) := ((C4'.out.trans (Chg.of_below (below_box w3 _) _)).trans (Chg.of_grown g (bs := B :: blks S.all) fun x hx => List.mem_cons_of_mem _ (List.mem_filterMap.2 ⟨S.vg, by simp [Shape.all], by rw [hvg]; exact hx⟩))).trans (Chg.of_grown (grown_set w6 B 8 v) (bs := B :: blks S.all) (by simp))
   exact ⟨⟨a, c, by rw [e, List.length_append]; rfl⟩, cell_of_heap hb6 8 S.vg rfl, frozen_of_heap hb6 8, ⟨hg.1, ⟨v, rfl, fun q hq => (f q hq).imp (fun h => by rw [hvg]; exact h) (fun h => by simp at h; omega)⟩, hc5⟩, B5.out.trans hg.2⟩)
  clear v4 v5 B4' C4' B5 hc ho' hs' hj16
  go_wp2_with (at_builtin; go_loud (refine wpList_appF rfl (.tmp 57) (.tmp 59) rfl rfl (hown'.out.alloc _) ⟨w3.heap.size, 0, none⟩ 1 1 [addr] rfl rfl src.out (by omega) hbs.out ?_; intro v6 w6 q6 g6 f6; obtain ⟨⟨a6, c6, rfl⟩, b6, z6, hv6⟩ := ex.out _ _ q6 g6 f6; have hv := Lib.hid hv6; rw [hvg] at b6; clear q6 g6 f6 hv6 ex))
  go_end0
  exact ⟨rfl, ⟨_, _, y.out, hv.out.1.1, hv.out.1.2⟩, hv.out.2⟩
theorem ShadesIs.snoc {D E F : WD} {L : List Int} {a : Int} (h : ShadesIs D L E) (g : ShadeIs E a F) : ShadesIs D (L ++ [a]) F := by
 induction h with
 | nil D => exact .cons g (.nil _)
 | cons h1 _ ih => exact .cons h1 (ih g)
theorem ShadeIs.greyLen {D E : WD} {a : Int} (h : ShadeIs D a E) : E.grey.length ≤ D.grey.length + 1 := by
 rcases h with ⟨k, j, s, _, _, _, _, rfl⟩ | ⟨_, rfl⟩
 ·simp [shadeD]
 ·omega
theorem ShadesIs.keeps {D E : WD} {L : List Int} (h : ShadesIs D L E) (hF : HeapForm D) : HeapForm E ∧ E.muts = D.muts ∧ E.grey.length ≤ D.grey.length + L.length := by
 induction h with
 | nil D => exact ⟨hF, rfl, by omega⟩
 | cons h1 _ ih =>
  obtain ⟨a, b, c⟩ := ih (h1.form hF)
  have := h1.greyLen
  exact ⟨a, b.trans h1.rest.2.2.1, by simp only [List.length_cons]; omega⟩
theorem nzK_next0 {Z : List Int} {k : Nat} (hk : k < Z.length) (h : Z[k]?.getD 0 = 0) : nz (Z.take (k + 1)) = nz (Z.take k) := by
 have h1 : Z[k] = 0 := by simpa [hk] using h
 unfold nz
 rw [List.take_succ_eq_append_getElem hk, List.filter_append, h1]
 simp
theorem nzK_next1 {Z : List Int} {k : Nat} (hk : k < Z.length) (h : Z[k]?.getD 0 ≠ 0) : nz (Z.take (k + 1)) = nz (Z.take k) ++ [Z[k]?.getD 0] := by
 have h1 : Z[k]?.getD 0 = Z[k] := by simp [hk]
 rw [h1] at h ⊢
 unfold nz
 rw [List.take_succ_eq_append_getElem hk, List.filter_append]
 congr 1
 simpa using h
theorem nzK_len (Z : List Int) (k : Nat) : (nz (Z.take k)).length ≤ Z.length :=
 Nat.le_trans (List.length_filter_le _ _) (by rw [List.length_take]; omega)
structure AllSt (base B : Nat) (S : Shape) (D : WD) (w : World) (L : List Int) (wr : World) (S' : Shape) (E : WD) : Prop where
 is : ShadesIs D L E
 var : VarW wr base B S' E
 sh : Shaded w wr B S S'
 bel : Below base w wr
theorem AllSt.next {base B : Nat} {S S' : Shape} {D E : WD} {w wr w2 : World} {L : List Int} {a : Int} (st : AllSt base B S D w L wr S' E) {S2 : Shape} {E2 : WD} (h1 : ShadeIs E a E2) (h2 : VarW w2 base B S2 E2) (h3 : Shaded wr w2 B S' S2) (h4 : Below base wr w2) : AllSt base B S D w (L ++ [a]) w2 S2 E2 :=
 ⟨st.is.snoc h1, h2, st.sh.trans h3, st.bel.trans h4⟩
set_option maxRecDepth 100000 in
set_option maxHeartbeats 4000000 in
theorem sshadeAll_any (base B : Nat) (S : Shape) (D : WD) (Z : List Int) (a : Option Addr) (c : Nat) (hF : HeapForm D) (hgl : D.grey.length + Z.length ≤ 1048576) (w : World) (h : VarW w base B S D)
  (hrd : ∀ (w' : World) (S' : Shape) (E : WD), VarW w' base B S' E → Shaded w w' B S S' → E.muts = D.muts → Rd w' (.slice a Z.length c) Z) :
  Calls Tryz.prog 155 #[.pointer (some ⟨B, 0, none⟩), .slice a Z.length c] w fun e w' => e = .returned (.tuple #[]) ∧ (∃ S' E, AllSt base B S D w (nz Z) w' S' E) := by
 have hF' := Lib.hid hF
 have hrd' := Lib.hid hrd
 have hgl' := Lib.hid hgl
 have st0 := Lib.hid (show AllSt base B S D w [] w S D from ⟨.nil _, h, .of_below _ _ (Below.refl _ _), Below.refl _ _⟩)
 have hzl : Z.length ≤ 1048576 := by omega
 clear hF hgl h hrd
 go_enter Tryz.func155, Tryz.ntmps155
 go_wp2_with fail
 go_loopw [4] (fun i wr => ∃ (k : Nat) (S' : Shape) (E : WD), k ≤ Z.length ∧ i = .int .i64 k ∧ Hid (AllSt base B S D w (nz (Z.take k)) wr S' E)) (fun i _ => Z.length - (Go.RowKit.intOf i).toNat)
 case atStart => exact ⟨0, S, D, Nat.zero_le _, rfl, st0⟩
 case round =>
  obtain ⟨k, S', E, hk, rfl, st⟩ := hrel
  have hkp := Lib.hid (st.out.is.keeps hF'.out)
  by_cases hlt : k < Z.length
  ·obtain ⟨a', c', he, hll, xl⟩ := hrd'.out wr S' E st.out.var st.out.sh hkp.out.2.1
   obtain ⟨b, o, rfl, xj⟩ := xl k hlt
   obtain ⟨rfl, rfl⟩ : some (⟨b, o, none⟩ : Addr) = a ∧ c' = c := by simp at he; exact ⟨he.1.symm, he.2.symm⟩
   have hlt1 : (k : Int) < (Z.length : Int) := by omega
   clear he xl hll
   by_cases hx : Z[k]?.getD 0 = 0
   ·have st2 := Lib.hid (show AllSt base B S D w (nz (Z.take (k + 1))) wr S' E by rw [nzK_next0 hlt hx]; exact st.out)
    rw [hx] at xj
    clear st hx
    go_wp2_with fail
    go_roundw
    case rel => exact ⟨k + 1, S', E, by omega, by go_num, st2⟩
    case measure => simp [Go.RowKit.intOf]; omega
   ·have hxb : (Z[k]?.getD 0 != 0) = true := bne_iff_ne.2 hx
    have nx := Lib.hid (nzK_next1 hlt hx)
    have hcall := Lib.hid (sshade_any base B S' E (Z[k]?.getD 0) hkp.out.1 (by have := hkp.out.2.2; have := nzK_len Z k; have := hgl'.out; omega) wr st.out.var)
    clear hx
    generalize Z[k]?.getD 0 = x at *
    go_wp2_with fail
    refine hcall.out.mono ?_
    rintro e w2 ⟨rfl, ⟨S2, E2, i2, v2, s2⟩, b2⟩
    have st2 := Lib.hid (show AllSt base B S D w (nz (Z.take (k + 1))) w2 S2 E2 by rw [nx.out]; exact st.out.next i2 v2 s2 b2)
    clear i2 v2 s2 b2 hcall st xj
    go_wp2_with fail
    go_roundw
    case rel => exact ⟨k + 1, S2, E2, by omega, by go_num, st2⟩
    case measure => simp [Go.RowKit.intOf]; omega
  ·obtain rfl : k = Z.length := by omega
   have st2 := Lib.hid (show AllSt base B S D w (nz Z) wr S' E by have := st.out; rwa [List.take_length] at this)
   clear st hkp
   go_wp2_with fail
   go_end0
   exact ⟨rfl, S', E, st2.out⟩
theorem andNot_nat {m : Int} {j : Nat} (h0 : 0 ≤ m) (h1 : m ≤ 9223372036854775807) (hj : j ≤ 16) :
  ∃ n r : Nat, m = (n : Int) ∧ bits .andNot .i64 m ((2 : Int) ^ j) = (r : Int) ∧ (∀ i, r.testBit i = (n.testBit i && !decide (i = j))) ∧ r ≤ n := by
 obtain ⟨n, rfl⟩ := Int.eq_ofNat_of_zero_le h0
 have h2 := pow16 hj
 have e : ((2 : Int) ^ j) = ((2 ^ j : Nat) : Int) := by simp
 have hX : (BitVec.ofInt 64 (n : Int) &&& ~~~ BitVec.ofInt 64 ((2 ^ j : Nat) : Int)).toNat ≤ n := by
  rw [BitVec.toNat_and, ofInt_nat n (by omega)]
  exact Nat.and_le_left
 refine ⟨n, (BitVec.ofInt 64 (n : Int) &&& ~~~ BitVec.ofInt 64 ((2 ^ j : Nat) : Int)).toNat, rfl, ?_, fun i => ?_, hX⟩
 ·rw [e]
  show IntKind.i64.wrap ((BitVec.ofInt 64 (n : Int) &&& ~~~ BitVec.ofInt 64 ((2 ^ j : Nat) : Int)).toNat : Nat) = _
  generalize (BitVec.ofInt 64 (n : Int) &&& ~~~ BitVec.ofInt 64 ((2 ^ j : Nat) : Int)).toNat = X at *
  rw [IntKind.wrap_i64]
  omega
 ·rw [BitVec.testBit_toNat, BitVec.getLsbD_and, BitVec.getLsbD_not, ← BitVec.testBit_toNat, ← BitVec.testBit_toNat, ofInt_nat n (by omega), ofInt_nat _ (by omega), Nat.testBit_two_pow]
  by_cases hi : i < 64
  ·simp [hi, eq_comm]
  ·have : n.testBit i = false := Nat.testBit_lt_two_pow (Nat.lt_of_lt_of_le (show n < 2 ^ 64 by omega) (Nat.pow_le_pow_right (by omega) (by omega)))
   simp [this]
theorem bit_andNot {m : Int} {j : Nat} (h0 : 0 ≤ m) (h1 : m ≤ 9223372036854775807) (hj : j ≤ 16) (i : Nat) : bitI (bits .andNot .i64 m ((2 : Int) ^ j)) i ↔ bitI m i ∧ i ≠ j := by
 obtain ⟨n, r, rfl, e, hb, _⟩ := andNot_nat h0 h1 hj
 rw [e, bitI_test, bitI_test, hb]
 simp
theorem zeroK_at (L : List Int) (A n i : Nat) : (zeroK L A n)[i]?.getD 0 = if A ≤ i ∧ i < A + n then 0 else L[i]?.getD 0 := by
 induction n with
 | zero => rw [if_neg (by omega)]; rfl
 | succ n ih =>
  unfold zeroK
  rw [List.getElem?_set]
  by_cases e : A + n = i
  ·rw [if_pos e, if_pos (show A ≤ i ∧ i < A + (n + 1) by omega)]
   split <;> rfl
  ·rw [if_neg e, ih]
   by_cases c : A ≤ i ∧ i < A + n
   ·rw [if_pos c, if_pos (by omega)]
   ·rw [if_neg c, if_neg (by omega)]
theorem set_get {α : Type} {L : List α} {k q : Nat} {a b t : α} (hs : L[k]? = some a) (h : (L.set k b)[q]? = some t) : (q = k ∧ t = b) ∨ (q ≠ k ∧ L[q]? = some t) := by
 by_cases e : q = k
 ·subst e
  have hl := (List.getElem?_eq_some_iff.1 hs).1
  rw [List.getElem?_set_self hl] at h
  cases h
  exact .inl ⟨rfl, rfl⟩
 ·rw [List.getElem?_set_ne (fun h => e h.symm)] at h
  exact .inr ⟨e, h⟩
theorem set_put {α : Type} {L : List α} {k q : Nat} {b t : α} (hq : q ≠ k) (h : L[q]? = some t) : (L.set k b)[q]? = some t := by
 rw [List.getElem?_set_ne (fun h => hq h.symm)]
 exact h
def UsedNot (D : WD) (k x : Nat) : Prop := ∃ q u, q ≠ k ∧ D.spans[q]? = some u ∧ InSlots u u.lens.length x
theorem used_at {D : WD} {k x : Nat} {s : SpanD} (hs : D.spans[k]? = some s) : Used D x ↔ UsedNot D k x ∨ InSlots s s.lens.length x := by
 constructor
 ·rintro ⟨q, u, _, hu, hx⟩
  by_cases e : q = k
  ·subst e
   rw [hs] at hu
   cases hu
   exact .inr hx
  ·exact .inl ⟨q, u, e, hu, hx⟩
 ·rintro (⟨q, u, _, hu, hx⟩ | hx)
  ·exact ⟨q, u, (List.getElem?_eq_some_iff.1 hu).1, hu, hx⟩
  ·exact ⟨k, s, (List.getElem?_eq_some_iff.1 hs).1, hs, hx⟩
theorem usedNot_set {D E : WD} {k x : Nat} {t : SpanD} (he : E.spans = D.spans.set k t) (h : UsedNot D k x) : UsedNot E k x := by
 obtain ⟨q, u, e, hu, hx⟩ := h
 exact ⟨q, u, e, by rw [he]; exact set_put e hu, hx⟩
theorem HeapForm.setSpan {D E : WD} (hF : HeapForm D) {k : Nat} {s t : SpanD} (hs : D.spans[k]? = some s) (hb : E.base = D.base) (hp : E.pages = D.pages) (hm : E.muts = D.muts) (h0 : 0 ≤ E.phase) (h4 : E.phase ≤ 4)
  (hw : E.words.length = D.words.length) (hd : E.dirty.length = D.dirty.length) (he : E.spans = D.spans.set k t) (pg : t.page = s.page) (cl : t.cls = s.cls) (ll : t.lens.length = s.lens.length) (pl : t.ptrs.length = s.ptrs.length)
  (slot : ∀ i, i < t.lens.length → SlotOk t i) (mk0 : 0 ≤ t.mark) (mk1 : t.mark < 2 ^ t.lens.length) (zero : ∀ i, i < E.words.length → ¬ Used E i → E.words[i]?.getD 0 = 0) : HeapForm E := by
 have A := hF.span k s hs
 refine ⟨by rw [hb, hp, hm]; exact hF.geo, by rw [hw, hp]; exact hF.words, by rw [hd, hp]; exact hF.dirty, by rw [he, List.length_set, hp]; exact hF.spans, h0, h4, fun q u hu => ?_, zero, by rw [hm]; exact hF.roots⟩
 rw [he] at hu
 have page : ∀ {q : Nat} {u : SpanD}, (D.spans.set k t)[q]? = some u → ∃ u0, D.spans[q]? = some u0 ∧ u.page = u0.page := fun {q u} h => by
  rcases set_get hs h with ⟨rfl, rfl⟩ | ⟨_, h⟩
  ·exact ⟨s, hs, pg⟩
  ·exact ⟨u, h, rfl⟩
 have prev : PrevLt E q u := fun u' hq hu' => by
  rw [he] at hu'
  obtain ⟨u0, h1, e1⟩ := page hu
  obtain ⟨u1, h2, e2⟩ := page hu'
  rw [e1, e2]
  exact (hF.span q u0 h1).prev u1 hq h2
 rcases set_get hs hu with ⟨rfl, rfl⟩ | ⟨_, hu⟩
 ·exact ⟨by rw [pg]; exact A.pg0, by rw [pg, hp]; exact A.pg1, prev, by rw [cl]; exact A.cls, by rw [ll, cl]; exact A.lens, by rw [pl, cl]; exact A.ptrs, slot, mk0, mk1⟩
 ·have B := hF.span q u hu
  exact ⟨B.pg0, by rw [hp]; exact B.pg1, prev, B.cls, B.lens, B.ptrs, B.slot, B.mk0, B.mk1⟩
theorem giveD_form {D : WD} (hF : HeapForm D) {k j : Nat} {s : SpanD} (hs : D.spans[k]? = some s) (hj : j < s.lens.length) : HeapForm (giveD D k s j) := by
 have A := hF.span k s hs
 have hin := hF.slotIn hs hj
 have hbd := hin.bd
 obtain ⟨m0, m1, j16⟩ := mark_range hF hs hj
 obtain ⟨n, r, e1, e2, _, hle⟩ := andNot_nat m0 m1 j16
 have hbit := bit_andNot m0 m1 j16
 have hjp : j < s.ptrs.length := by have := hin.lens; have := hin.ptrs; omega
 refine hF.setSpan hs rfl rfl rfl hF.ph0 hF.ph1 (zeroK_len _ _ _) (dirtyUp_len _ _ _) rfl rfl rfl (by simp [giveS]) (by simp [giveS]) (fun i hi => ?_) (by show 0 ≤ bits .andNot .i64 s.mark ((2 : Int) ^ j); omega) ?_ (fun i hi hu => ?_)
 ·have hi' : i < s.lens.length := by simpa [giveS] using hi
  have O := A.slot i hi'
  by_cases e : i = j
  ·subst e
   have z1 : (giveS s i).lens[i]?.getD 0 = 0 := by simp [giveS, hj]
   have z2 : (giveS s i).ptrs[i]?.getD 0 = 0 := by simp [giveS, hjp]
   refine ⟨by rw [z1]; omega, by rw [z1]; show 0 ≤ sz s.cls; omega, by rw [z2]; omega, by rw [z1, z2]; omega, fun _ => ?_⟩
   show ¬ bitI (bits .andNot .i64 s.mark ((2 : Int) ^ i)) i
   rw [hbit]
   exact fun h => h.2 rfl
  ·have z1 : (giveS s j).lens[i]?.getD 0 = s.lens[i]?.getD 0 := by simp only [giveS]; rw [List.getElem?_set_ne (fun h => e h.symm)]
   have z2 : (giveS s j).ptrs[i]?.getD 0 = s.ptrs[i]?.getD 0 := by simp only [giveS]; rw [List.getElem?_set_ne (fun h => e h.symm)]
   refine ⟨by rw [z1]; exact O.l0, by rw [z1]; exact O.l1, by rw [z2]; exact O.p0, by rw [z1, z2]; exact O.p1, fun h => ?_⟩
   rw [z1] at h
   show ¬ bitI (bits .andNot .i64 s.mark ((2 : Int) ^ j)) i
   rw [hbit]
   exact fun h' => O.bit h h'.1
 ·have hm1 := A.mk1
  show bits .andNot .i64 s.mark ((2 : Int) ^ j) < 2 ^ (s.lens.set j 0).length
  rw [List.length_set]
  omega
 ·show (zeroK D.words (atW s (j : Int)).toNat (sz s.cls).toNat)[i]?.getD 0 = 0
  rw [zeroK_at]
  split
  ·rfl
  ·rename_i hni
   refine hF.zero i (by have : i < (zeroK D.words (atW s (j : Int)).toNat (sz s.cls).toNat).length := hi; rwa [zeroK_len] at this) fun hu0 => hu ?_
   have hks : (giveD D k s j).spans[k]? = some (giveS s j) := List.getElem?_set_self (List.getElem?_eq_some_iff.1 hs).1
   rcases (used_at hs).1 hu0 with h | ⟨j', hj', hx⟩
   ·exact (used_at hks).2 (.inl (usedNot_set rfl h))
   ·by_cases e : j' = j
    ·subst e
     obtain ⟨t', ht', hx⟩ := hx
     have := (A.slot j' hj).l1
     exact absurd ⟨by omega, by omega⟩ hni
    ·refine (used_at hks).2 (.inr ⟨j', by simpa [giveS] using hj', ?_⟩)
     have z1 : (giveS s j).lens[j']?.getD 0 = s.lens[j']?.getD 0 := by simp only [giveS]; rw [List.getElem?_set_ne (fun h => e h.symm)]
     rw [z1]
     exact hx
theorem erase_get {α : Type} {L : List α} {k q : Nat} {t : α} (h : (L.eraseIdx k)[q]? = some t) : ∃ i : Nat, L[i]? = some t ∧ i ≠ k ∧ ((q < k ∧ i = q) ∨ (k ≤ q ∧ i = q + 1)) := by
 rw [List.getElem?_eraseIdx] at h
 split at h
 ·exact ⟨q, h, by omega, .inl ⟨by omega, rfl⟩⟩
 ·exact ⟨q + 1, h, by omega, .inr ⟨by omega, rfl⟩⟩
theorem erase_put {α : Type} {L : List α} {k q : Nat} {t : α} (h : L[q]? = some t) (hq : q ≠ k) : ∃ i : Nat, (L.eraseIdx k)[i]? = some t := by
 rcases Nat.lt_or_gt_of_ne hq with h1 | h1
 ·exact ⟨q, by rw [List.getElem?_eraseIdx, if_pos h1]; exact h⟩
 ·exact ⟨q - 1, by rw [List.getElem?_eraseIdx, if_neg (by omega), show q - 1 + 1 = q by omega]; exact h⟩
theorem dropD_form {D : WD} (hF : HeapForm D) {k : Nat} {s : SpanD} (hs : D.spans[k]? = some s) (he : EmptyS s) : HeapForm { D with spans := D.spans.eraseIdx k } := by
 refine ⟨hF.geo, hF.words, hF.dirty, ?_, hF.ph0, hF.ph1, fun q u hu => ?_, fun i hi hu => hF.zero i hi fun h => hu ?_, hF.roots⟩
 ·have h1 := hF.spans
  have h2 : (D.spans.eraseIdx k).length ≤ D.spans.length := List.length_eraseIdx_le _ _
  show ((D.spans.eraseIdx k).length : Int) ≤ D.pages
  omega
 ·obtain ⟨i, hi, _, hik⟩ := erase_get hu
  have B := hF.span i u hi
  refine ⟨B.pg0, B.pg1, fun u' hq hu' => ?_, B.cls, B.lens, B.ptrs, B.slot, B.mk0, B.mk1⟩
  obtain ⟨i', hi', _, hik'⟩ := erase_get hu'
  exact pages_up hF hi' hi (by omega)
 ·rcases (used_at hs).1 h with ⟨q, u, e, hu, hx⟩ | ⟨j, hj, t, ht, _⟩
  ·obtain ⟨i', hi'⟩ := erase_put hu e
   exact ⟨i', u, (List.getElem?_eq_some_iff.1 hi').1, hi', hx⟩
  ·have := he j hj
   omega
def sweep1 (E : WD) (k j : Nat) : WD :=
 match E.spans[k]? with
 | some s => if 0 < s.lens[j]?.getD 0 ∧ ¬ s.mark / 2 ^ j % 2 = 1 then giveD E k s j else E
 | none => E
def sweepK (D : WD) (k : Nat) : Nat → WD
 | 0 => D
 | j + 1 => sweep1 (sweepK D k j) k j
theorem sweep1_yes {E : WD} {k j : Nat} {s : SpanD} (hs : E.spans[k]? = some s) (h : 0 < s.lens[j]?.getD 0) (hb : ¬ bitI s.mark j) : sweep1 E k j = giveD E k s j := by
 unfold sweep1
 rw [hs]
 exact if_pos ⟨h, hb⟩
theorem sweep1_no {E : WD} {k j : Nat} {s : SpanD} (hs : E.spans[k]? = some s) (h : ¬ (0 < s.lens[j]?.getD 0 ∧ ¬ bitI s.mark j)) : sweep1 E k j = E := by
 unfold sweep1
 rw [hs]
 exact if_neg h
structure Like (D E : WD) (k : Nat) : Prop where
 base : E.base = D.base
 pages : E.pages = D.pages
 muts : E.muts = D.muts
 phase : E.phase = D.phase
 next : E.next = D.next
 grey : E.grey = D.grey
 wl : E.words.length = D.words.length
 dl : E.dirty.length = D.dirty.length
 len : E.spans.length = D.spans.length
 other : ∀ q, q ≠ k → E.spans[q]? = D.spans[q]?
 here : ∀ s, D.spans[k]? = some s → ∃ t, E.spans[k]? = some t ∧ t.page = s.page ∧ t.cls = s.cls ∧ t.swept = s.swept ∧ t.lens.length = s.lens.length ∧ t.ptrs.length = s.ptrs.length
 ints : AllI D.words → AllI E.words
theorem Like.refl (D : WD) (k : Nat) : Like D D k := ⟨rfl, rfl, rfl, rfl, rfl, rfl, rfl, rfl, rfl, fun _ _ => rfl, fun s hs => ⟨s, hs, rfl, rfl, rfl, rfl, rfl⟩, id⟩
theorem Like.trans {D E F : WD} {k : Nat} (h : Like D E k) (g : Like E F k) : Like D F k :=
 ⟨g.base.trans h.base, g.pages.trans h.pages, g.muts.trans h.muts, g.phase.trans h.phase, g.next.trans h.next, g.grey.trans h.grey, g.wl.trans h.wl, g.dl.trans h.dl, g.len.trans h.len, fun q hq => (g.other q hq).trans (h.other q hq),
  fun s hs => by
   obtain ⟨t, ht, a1, a2, a3, a4, a5⟩ := h.here s hs
   obtain ⟨u, hu, b1, b2, b3, b4, b5⟩ := g.here t ht
   exact ⟨u, hu, b1.trans a1, b2.trans a2, b3.trans a3, b4.trans a4, b5.trans a5⟩, fun hw => g.ints (h.ints hw)⟩
theorem zeroK_ints {L : List Int} (h : AllI L) (A n : Nat) : AllI (zeroK L A n) := by
 induction n with
 | zero => exact h
 | succ n ih =>
  intro x hx
  rcases List.mem_or_eq_of_mem_set hx with hx | rfl
  ·exact ih x hx
  ·exact ⟨by omega, by omega⟩
theorem giveD_like {D : WD} {k j : Nat} {s : SpanD} (hs : D.spans[k]? = some s) : Like D (giveD D k s j) k := by
 refine ⟨rfl, rfl, rfl, rfl, rfl, rfl, zeroK_len _ _ _, dirtyUp_len _ _ _, by simp [giveD], fun q hq => by simp only [giveD]; rw [List.getElem?_set_ne (fun h => hq h.symm)], fun t ht => ?_, fun hw => zeroK_ints hw _ _⟩
 rw [hs] at ht
 cases ht
 exact ⟨giveS s j, List.getElem?_set_self (List.getElem?_eq_some_iff.1 hs).1, rfl, rfl, rfl, by simp [giveS], by simp [giveS]⟩
theorem sweep1_like {E : WD} {k j : Nat} {s : SpanD} (hs : E.spans[k]? = some s) : Like E (sweep1 E k j) k := by
 by_cases h : 0 < s.lens[j]?.getD 0 ∧ ¬ bitI s.mark j
 ·rw [sweep1_yes hs h.1 h.2]
  exact giveD_like hs
 ·rw [sweep1_no hs h]
  exact .refl _ _
theorem sweepK_like {D : WD} {k : Nat} {s : SpanD} (hs : D.spans[k]? = some s) (j : Nat) : Like D (sweepK D k j) k := by
 induction j with
 | zero => exact .refl _ _
 | succ j ih =>
  obtain ⟨t, ht, _⟩ := ih.here s hs
  exact ih.trans (sweep1_like ht)
theorem sweepK_form {D : WD} (hF : HeapForm D) {k : Nat} {s : SpanD} (hs : D.spans[k]? = some s) {j : Nat} (hj : j ≤ s.lens.length) : HeapForm (sweepK D k j) := by
 induction j with
 | zero => exact hF
 | succ j ih =>
  have hF' := ih (by omega)
  obtain ⟨t, ht, _, _, _, hl, _⟩ := (sweepK_like hs j).here s hs
  show HeapForm (sweep1 (sweepK D k j) k j)
  by_cases h : 0 < t.lens[j]?.getD 0 ∧ ¬ bitI t.mark j
  ·rw [sweep1_yes ht h.1 h.2]
   exact giveD_form hF' ht (by omega)
  ·rw [sweep1_no ht h]
   exact hF'
def offS (t : SpanD) : SpanD := { t with mark := 0, swept := true }
def markOff (F : WD) (k : Nat) (t : SpanD) : WD := { F with spans := F.spans.set k (offS t) }
def dropD (F : WD) (k : Nat) : WD := { F with spans := F.spans.eraseIdx k }
def freshenS (s : SpanD) : SpanD := { s with swept := false }
def Unswept (D : WD) (k : Nat) (s : SpanD) : Prop := D.spans[k]? = some s ∧ s.swept = false ∧ ∀ q t, q < k → D.spans[q]? = some t → t.swept = true
def SweepIs (D : WD) (k : Nat) (s : SpanD) (E : WD) : Prop :=
 ∃ t, (sweepK D k s.lens.length).spans[k]? = some t ∧ ((EmptyS t ∧ E = dropD (markOff (sweepK D k s.lens.length) k t) k) ∨ (¬ EmptyS t ∧ E = markOff (sweepK D k s.lens.length) k t))
def LookIs (D E : WD) : Prop :=
 (∃ r F, 0 ≤ D.next ∧ D.muts[D.next.toNat]? = some r ∧ ShadesIs D (nz r) F ∧ E = { F with next := D.next + 1 }) ∨ (D.next = (D.muts.length : Int) ∧ E = { D with phase := 2, next := 0 })
def ScanIs (D E : WD) : Prop :=
 (∃ G a k j s, D.grey = G ++ [a] ∧ IsObj D a k j ∧ D.spans[k]? = some s ∧ ShadesIs { D with grey := G } (nz (ptrW D s j)) E) ∨ (D.grey = [] ∧ E = { D with phase := 3 })
def SweepTo (D E : WD) : Prop :=
 (∃ k s, Unswept D k s ∧ SweepIs D k s E) ∨ ((∀ s, s ∈ D.spans → s.swept = true) ∧ E = { D with phase := 0, spans := D.spans.map freshenS })
def StepIs (D E : WD) : Prop :=
 (D.phase = 0 ∧ E = D) ∨ (D.phase = 1 ∧ LookIs D E) ∨ (D.phase = 2 ∧ ScanIs D E) ∨ (D.phase = 3 ∧ E = { D with phase := 4 }) ∨ (D.phase = 4 ∧ SweepTo D E)
theorem ShadesIs.unique {D E F : WD} {L : List Int} (h : ShadesIs D L E) (hF : HeapForm D) (g : ShadesIs D L F) : F = E := by
 induction h with
 | nil D => cases g; rfl
 | cons h1 _ ih =>
  cases g with
  | cons g1 g2 =>
   obtain rfl := h1.unique hF g1
   exact ih (h1.form hF) g2
theorem LookIs.unique {D E F : WD} (hF : HeapForm D) (h : LookIs D E) (g : LookIs D F) : F = E := by
 rcases h with ⟨r, A, h0, hr, hA, rfl⟩ | ⟨hn, rfl⟩ <;> rcases g with ⟨r', A', h0', hr', hA', rfl⟩ | ⟨hn', rfl⟩
 ·rw [hr] at hr'
  cases hr'
  rw [hA.unique hF hA']
 ·have := (List.getElem?_eq_some_iff.1 hr).1
  omega
 ·have := (List.getElem?_eq_some_iff.1 hr').1
  omega
 ·rfl
theorem grey_form {D : WD} (hF : HeapForm D) (G : List Int) : HeapForm { D with grey := G } := ⟨hF.geo, hF.words, hF.dirty, hF.spans, hF.ph0, hF.ph1, fun k s h => ⟨(hF.span k s h).pg0, (hF.span k s h).pg1, (hF.span k s h).prev, (hF.span k s h).cls, (hF.span k s h).lens, (hF.span k s h).ptrs, (hF.span k s h).slot, (hF.span k s h).mk0, (hF.span k s h).mk1⟩, hF.zero, hF.roots⟩
theorem ScanIs.unique {D E F : WD} (hF : HeapForm D) (h : ScanIs D E) (g : ScanIs D F) : F = E := by
 rcases h with ⟨G, a, k, j, s, hg, ho, hs, hA⟩ | ⟨hn, rfl⟩ <;> rcases g with ⟨G', a', k', j', s', hg', ho', hs', hA'⟩ | ⟨hn', rfl⟩
 ·rw [hg] at hg'
  obtain ⟨rfl, h1⟩ := List.append_inj' hg' rfl
  cases h1
  obtain ⟨rfl, rfl⟩ := ho.unique hF ho'
  rw [hs] at hs'
  cases hs'
  exact hA.unique (grey_form hF _) hA'
 ·rw [hg] at hn'
  simp at hn'
 ·rw [hg'] at hn
  simp at hn
 ·rfl
theorem SweepTo.unique {D E F : WD} (h : SweepTo D E) (g : SweepTo D F) : F = E := by
 rcases h with ⟨k, s, hu, t, ht, hA⟩ | ⟨hn, rfl⟩ <;> rcases g with ⟨k', s', hu', t', ht', hA'⟩ | ⟨hn', rfl⟩
 ·obtain rfl : k = k' := by
   rcases Nat.lt_trichotomy k k' with h | h | h
   ·have := hu'.2.2 k s h hu.1
    rw [hu.2.1] at this
    cases this
   ·exact h
   ·have := hu.2.2 k' s' h hu'.1
    rw [hu'.2.1] at this
    cases this
  have hs' := hu'.1
  rw [hu.1] at hs'
  cases hs'
  rw [ht] at ht'
  cases ht'
  rcases hA with ⟨a, rfl⟩ | ⟨a, rfl⟩ <;> rcases hA' with ⟨b, rfl⟩ | ⟨b, rfl⟩
  ·rfl
  ·exact absurd a b
  ·exact absurd b a
  ·rfl
 ·have := hn' s (List.mem_of_getElem? hu.1)
  rw [hu.2.1] at this
  cases this
 ·have := hn s' (List.mem_of_getElem? hu'.1)
  rw [hu'.2.1] at this
  cases this
 ·rfl
theorem StepIs.unique {D E F : WD} (hF : HeapForm D) (h : StepIs D E) (g : StepIs D F) : F = E := by
 rcases h with ⟨p, rfl⟩ | ⟨p, h⟩ | ⟨p, h⟩ | ⟨p, rfl⟩ | ⟨p, h⟩ <;> rcases g with ⟨q, rfl⟩ | ⟨q, g⟩ | ⟨q, g⟩ | ⟨q, rfl⟩ | ⟨q, g⟩
 all_goals first
  | (exfalso; omega)
  | rfl
  | exact h.unique hF g
  | exact h.unique g
structure IntsIn (D : WD) : Prop where
 words : AllI D.words
 muts : ∀ r, r ∈ D.muts → AllI r
 grey : AllI D.grey
structure Going (D : WD) : Prop where
 form : HeapForm D
 gc : GcRight D
 ints : IntsIn D
theorem FitD.intsIn {D : WD} (h : FitD D) : IntsIn D := ⟨h.words, h.muts, h.grey⟩
theorem nodup_len (n : Nat) : ∀ (L : List Int) (lo : Int), L.Nodup → (∀ a, a ∈ L → lo ≤ a ∧ a < lo + (n : Int)) → L.length ≤ n := by
 induction n with
 | zero =>
  intro L lo _ h
  cases L with
  | nil => simp
  | cons a L => have := h a (by simp); omega
 | succ n ih =>
  intro L lo hn h
  have h1 := ih (L.erase (lo + (n : Int))) lo (hn.erase _) fun a ha => by
   obtain ⟨hne, hm⟩ := hn.mem_erase_iff.1 ha
   have := h a hm
   omega
  rw [List.length_erase] at h1
  split at h1 <;> omega
theorem IsObj.range {D : WD} (hF : HeapForm D) {a : Int} {k j : Nat} (h : IsObj D a k j) : D.base ≤ a ∧ a < D.base + 384 := by
 obtain ⟨s, hs, hj, hl, rfl⟩ := h
 have hin := hF.slotIn hs hj
 have := hin.bd
 have := hin.pg
 omega
theorem GreyMarked.len {D : WD} (hF : HeapForm D) {L : List Int} (h : GreyMarked D L) : L.length ≤ 384 :=
 nodup_len 384 L D.base h.1 fun a ha => by
  obtain ⟨k, j, ho, _⟩ := h.2 a ha
  exact ho.range hF
theorem Going.greyLen {D : WD} (h : Going D) : D.grey.length ≤ 384 := h.gc.1.2.len h.form
theorem ShadeIs.gc {D E : WD} {a : Int} (hF : HeapForm D) (hG : GcRight D) (hs : ShadeIs D a E) : GcRight E := by
 have hO := hs.same
 obtain ⟨r1, r2, r3, r4, r5⟩ := hs.rest
 rcases id hs with ⟨k, j, s, hph, ho, hsk, hnm, rfl⟩ | ⟨_, rfl⟩
 ·obtain ⟨⟨g1, g2⟩, nx, sp⟩ := hG
  refine ⟨⟨fun _ => hph, ?_⟩, nx, fun t ht => ?_⟩
  ·have hold : GreyMarked (shadeD D a k j s) D.grey := ⟨g2.1, fun b hb => hs.keeps hF (g2.2 b hb)⟩
   refine hold.add (hs.marked hF hph ⟨k, j, ho⟩) fun hb => ?_
   obtain ⟨q, i, hoq, hmq⟩ := g2.2 a hb
   obtain ⟨rfl, rfl⟩ := hoq.unique hF ho
   exact hnm ((MarkedP.iff hsk).1 hmq)
  ·obtain ⟨q, hq⟩ := List.mem_iff_getElem?.1 ht
   rcases set_get hsk hq with ⟨rfl, rfl⟩ | ⟨_, hq⟩
   ·have hr := sp s (List.mem_of_getElem? hsk)
    refine ⟨fun hsw => hr.1 hsw, fun _ => ⟨fun e => ?_, ?_⟩⟩
    ·have e' : D.phase = 0 := e
     omega
    ·show s.swept = false
     cases hsw : s.swept
     ·rfl
     ·have := hr.1 hsw
      omega
   ·exact sp t (List.mem_of_getElem? hq)
 ·exact hG
theorem ShadeIs.ints {D E : WD} {a : Int} (ha : I64 a) (hI : IntsIn D) (hs : ShadeIs D a E) : IntsIn E := by
 rcases hs with ⟨k, j, s, _, _, _, _, rfl⟩ | ⟨_, rfl⟩
 ·exact ⟨hI.words, hI.muts, fun x hx => (List.mem_append.1 hx).elim (hI.grey x) fun h => by rw [List.mem_singleton.1 h]; exact ha⟩
 ·exact hI
theorem ShadeIs.going {D E : WD} {a : Int} (ha : I64 a) (h : Going D) (hs : ShadeIs D a E) : Going E := ⟨hs.form h.form, hs.gc h.form h.gc, hs.ints ha h.ints⟩
theorem ShadesIs.going {D E : WD} {L : List Int} (hs : ShadesIs D L E) (hL : AllI L) (h : Going D) : Going E ∧ E.pages = D.pages ∧ E.muts = D.muts ∧ E.phase = D.phase ∧ E.next = D.next ∧ SameO D E := by
 induction hs with
 | nil D => exact ⟨h, rfl, rfl, rfl, rfl, .refl _⟩
 | cons h1 _ ih =>
  obtain ⟨r1, r2, r3, r4, r5⟩ := h1.rest
  obtain ⟨a, b, c, d, e, f⟩ := ih (fun x hx => hL x (List.mem_cons_of_mem _ hx)) (h1.going (hL _ (by simp)) h)
  exact ⟨a, b.trans r1, c.trans r3, d.trans r4, e.trans r5, h1.same.trans f⟩
theorem nz_ints {L : List Int} (h : AllI L) : AllI (nz L) := fun x hx => h x (List.mem_filter.1 hx).1
theorem ptrW_ints {D : WD} (h : AllI D.words) (s : SpanD) (j : Nat) : AllI (ptrW D s j) := fun x hx => h x (List.mem_of_mem_drop (List.mem_of_mem_take hx))
theorem MarksAt {D : WD} (hF : HeapForm D) {k : Nat} {t : SpanD} (h : D.spans[k]? = some t) : 0 ≤ t.mark ∧ t.mark < 2 ^ t.lens.length ∧ ∀ i, i < t.lens.length → t.lens[i]?.getD 0 = 0 → ¬ bitI t.mark i :=
 ⟨(hF.span k t h).mk0, (hF.span k t h).mk1, fun i hi hz => ((hF.span k t h).slot i hi).bit hz⟩
theorem phase_form {D : WD} (hF : HeapForm D) (p n : Int) (h0 : 0 ≤ p) (h4 : p ≤ 4) : HeapForm { D with phase := p, next := n } :=
 SameO.form (D := D) (E := { D with phase := p, next := n }) ⟨rfl, rfl, rfl, fun k s t h1 h2 => by rw [h1] at h2; cases h2; exact .refl _⟩ hF rfl rfl rfl h0 h4 fun k s t h1 h2 => MarksAt hF h2
theorem GreyMarked.of {D E : WD} (hO : SameO D E) (hm : ∀ k j, MarkedP D k j → MarkedP E k j) {L : List Int} (h : GreyMarked D L) : GreyMarked E L :=
 ⟨h.1, fun a ha => by obtain ⟨k, j, ho, hk⟩ := h.2 a ha; exact ⟨k, j, hO.obj ho, hm k j hk⟩⟩
theorem bit_zero (i : Nat) : ¬ bitI 0 i := by unfold bitI; simp
theorem markOff_same (F : WD) {k : Nat} {t : SpanD} (h : F.spans[k]? = some t) : SameO F (markOff F k t) :=
 ⟨rfl, rfl, by simp [markOff], fun q s u h1 h2 => by
  rcases set_get h h2 with ⟨rfl, rfl⟩ | ⟨_, h2⟩
  ·rw [h] at h1
   cases h1
   exact ⟨rfl, rfl, rfl, rfl⟩
  ·rw [h1] at h2
   cases h2
   exact .refl _⟩
theorem markOff_form {F : WD} (hF : HeapForm F) {k : Nat} {t : SpanD} (h : F.spans[k]? = some t) : HeapForm (markOff F k t) :=
 (markOff_same F h).form hF rfl rfl rfl hF.ph0 hF.ph1 fun q s u h1 h2 => by
  rcases set_get h h2 with ⟨rfl, rfl⟩ | ⟨_, h2⟩
  ·exact ⟨Int.le_refl _, Int.pow_pos (by omega), fun i _ _ => bit_zero i⟩
  ·exact MarksAt hF h2
theorem nil_grey {D : WD} : GreyMarked D [] := ⟨List.nodup_nil, fun a h => by simp at h⟩
theorem SweepIs.going {D E : WD} {k : Nat} {s : SpanD} (h : Going D) (hp : D.phase = 4) (hu : Unswept D k s) (hs : SweepIs D k s E) : Going E ∧ E.phase = 4 := by
 obtain ⟨t, ht, hs⟩ := hs
 have hF := sweepK_form h.form hu.1 (Nat.le_refl _)
 have hL := sweepK_like hu.1 s.lens.length
 have hM := markOff_form hF ht
 generalize sweepK D k s.lens.length = F at *
 obtain ⟨⟨g1, _⟩, ⟨n0, n1, n2⟩, sp⟩ := h.gc
 have hg : D.grey = [] := Decidable.byContradiction fun e => by have := g1 e; omega
 have hsp : ∀ u, u ∈ (markOff F k t).spans → SpanRight (markOff F k t) u := fun u hm => by
  obtain ⟨q, hq⟩ := List.mem_iff_getElem?.1 hm
  rcases set_get ht hq with ⟨rfl, rfl⟩ | ⟨hne, hq⟩
  ·exact ⟨fun _ => by show F.phase = 4; rw [hL.phase]; exact hp, fun h => absurd rfl h⟩
  ·rw [hL.other q hne] at hq
   have := sp u (List.mem_of_getElem? hq)
   unfold SpanRight at this ⊢
   rw [show (markOff F k t).phase = D.phase from hL.phase]
   exact this
 have hI : ∀ L : List SpanD, IntsIn { F with spans := L } := fun L => ⟨hL.ints h.ints.words, by show ∀ r, r ∈ F.muts → AllI r; rw [hL.muts]; exact h.ints.muts, by show AllI F.grey; rw [hL.grey]; exact h.ints.grey⟩
 have hN : ∀ L : List SpanD, NextRight { F with spans := L } := fun L => by
  unfold NextRight
  rw [show ({ F with spans := L } : WD).next = D.next from hL.next, show ({ F with spans := L } : WD).muts = D.muts from hL.muts, show ({ F with spans := L } : WD).phase = D.phase from hL.phase]
  exact ⟨n0, n1, n2⟩
 have hgF : F.grey = [] := hL.grey.trans hg
 have hGr : ∀ L : List SpanD, GreyRight { F with spans := L } := fun L => ⟨fun e => absurd hgF e, by rw [show ({ F with spans := L } : WD).grey = [] from hgF]; exact nil_grey⟩
 rcases hs with ⟨he, rfl⟩ | ⟨he, rfl⟩
 ·refine ⟨⟨dropD_form hM (s := offS t) (List.getElem?_set_self (List.getElem?_eq_some_iff.1 ht).1) he, ⟨hGr _, hN _, fun u hm => ?_⟩, hI _⟩, by show F.phase = 4; rw [hL.phase]; exact hp⟩
  have hm' : u ∈ (markOff F k t).spans := List.mem_of_mem_eraseIdx hm
  exact hsp u hm'
 ·exact ⟨⟨hM, ⟨hGr _, hN _, hsp⟩, hI _⟩, by show F.phase = 4; rw [hL.phase]; exact hp⟩
theorem freshen_get {L : List SpanD} {k : Nat} {u : SpanD} (h : (L.map freshenS)[k]? = some u) : ∃ s, L[k]? = some s ∧ u = freshenS s := by
 rw [List.getElem?_map, Option.map_eq_some_iff] at h
 obtain ⟨s, hs, rfl⟩ := h
 exact ⟨s, hs, rfl⟩
theorem StepIs.going {D E : WD} (h : Going D) (hs : StepIs D E) : Going E := by
 obtain ⟨⟨g1, g2⟩, ⟨n0, n1, n2⟩, sp⟩ := id h.gc
 have sp' : ∀ (p n : Int), (p ≠ 0 ∨ D.phase = 0 ∧ p = 0) → (D.phase = 4 → p = 4) → ∀ s, s ∈ D.spans → SpanRight { D with phase := p, next := n } s := fun p n hp hp4 s hs => by
  have := sp s hs
  refine ⟨fun h => hp4 (this.1 h), fun h => ⟨?_, (this.2 h).2⟩⟩
  have h1 := (this.2 h).1
  show p ≠ 0
  omega
 have noG : D.phase ≠ 1 → D.phase ≠ 2 → D.grey = [] := fun a b => Decidable.byContradiction fun e => by have := g1 e; omega
 rcases hs with ⟨p, rfl⟩ | ⟨p, hl⟩ | ⟨p, hl⟩ | ⟨p, rfl⟩ | ⟨p, hl⟩
 ·exact h
 ·rcases hl with ⟨r, F, _, hr, hA, rfl⟩ | ⟨hn, rfl⟩
  ·obtain ⟨hG, b, c, d, e, f⟩ := hA.going (nz_ints (h.ints.muts r (List.mem_of_getElem? hr))) h
   have hlt := (List.getElem?_eq_some_iff.1 hr).1
   obtain ⟨a1, a2, a3⟩ := hG.gc
   refine ⟨?_, ⟨⟨a1.1, a1.2.of ⟨rfl, rfl, rfl, fun k s t h1 h2 => by rw [h1] at h2; cases h2; exact .refl _⟩ fun _ _ h => h⟩, ?_, a3⟩, ⟨hG.ints.words, hG.ints.muts, hG.ints.grey⟩⟩
   ·have := phase_form hG.form F.phase (D.next + 1) hG.form.ph0 hG.form.ph1
    exact this
   ·unfold NextRight
    show 0 ≤ D.next + 1 ∧ D.next + 1 ≤ (F.muts.length : Int) ∧ (0 < D.next + 1 → F.phase = 1)
    rw [c, d]
    exact ⟨by omega, by omega, fun _ => p⟩
  ·refine ⟨phase_form h.form 2 0 (by omega) (by omega), ⟨⟨fun _ => .inr rfl, g2.of ⟨rfl, rfl, rfl, fun k s t h1 h2 => by rw [h1] at h2; cases h2; exact .refl _⟩ fun _ _ h => h⟩, ⟨Int.le_refl _, by show (0 : Int) ≤ (D.muts.length : Int); omega, fun h => absurd h (by show ¬ (0 : Int) < 0; omega)⟩, sp' 2 0 (.inl (by omega)) (by omega)⟩, ⟨h.ints.words, h.ints.muts, h.ints.grey⟩⟩
 ·rcases hl with ⟨G, a, k, j, s, hg, ho, hsk, hA⟩ | ⟨hn, rfl⟩
  ·refine (hA.going (nz_ints (ptrW_ints h.ints.words s j)) ⟨grey_form h.form G, ⟨⟨fun _ => .inr p, ?_⟩, ⟨n0, n1, n2⟩, sp⟩, ⟨h.ints.words, h.ints.muts, fun x hx => h.ints.grey x (by rw [hg]; exact List.mem_append.2 (.inl hx))⟩⟩).1
   rw [hg] at g2
   exact GreyMarked.of (D := D) (E := { D with grey := G }) ⟨rfl, rfl, rfl, fun k s t h1 h2 => by rw [h1] at h2; cases h2; exact .refl _⟩ (fun _ _ h => h) ⟨(List.nodup_append.1 g2.1).1, fun b hb => g2.2 b (List.mem_append.2 (.inl hb))⟩
  ·have hf := phase_form h.form 3 D.next (by omega) (by omega)
   exact ⟨hf, ⟨⟨fun e => absurd hn e, by show GreyMarked _ D.grey; rw [hn]; exact nil_grey⟩, ⟨n0, n1, fun e => by have := n2 e; omega⟩, sp' 3 D.next (.inl (by omega)) (by omega)⟩, ⟨h.ints.words, h.ints.muts, h.ints.grey⟩⟩
 ·have hf := phase_form h.form 4 D.next (by omega) (by omega)
  have hn := noG (by omega) (by omega)
  exact ⟨hf, ⟨⟨fun e => absurd hn e, by show GreyMarked _ D.grey; rw [hn]; exact nil_grey⟩, ⟨n0, n1, fun e => by have := n2 e; omega⟩, sp' 4 D.next (.inl (by omega)) (by omega)⟩, ⟨h.ints.words, h.ints.muts, h.ints.grey⟩⟩
 ·rcases hl with ⟨k, s, hu, hsw⟩ | ⟨hall, rfl⟩
  ·exact (hsw.going h p hu).1
  ·have hn := noG (by omega) (by omega)
   have hO : SameO D { D with phase := 0, spans := D.spans.map freshenS } := ⟨rfl, rfl, by simp, fun q s u h1 h2 => by
    obtain ⟨s', hs', rfl⟩ := freshen_get h2
    rw [h1] at hs'
    cases hs'
    exact ⟨rfl, rfl, rfl, rfl⟩⟩
   refine ⟨hO.form h.form rfl rfl rfl (Int.le_refl _) (by show (0 : Int) ≤ 4; omega) fun q s u h1 h2 => ?_, ⟨⟨fun e => absurd hn e, by show GreyMarked _ D.grey; rw [hn]; exact nil_grey⟩, ⟨n0, n1, fun e => by have := n2 e; omega⟩, fun u hm => ?_⟩, ⟨h.ints.words, h.ints.muts, h.ints.grey⟩⟩
   ·obtain ⟨s', hs', rfl⟩ := freshen_get h2
    have hm := MarksAt h.form hs'
    exact hm
   ·obtain ⟨s, hs, rfl⟩ := List.mem_map.1 hm
    refine ⟨fun e => Bool.noConfusion e, fun e => ?_⟩
    have h1 := ((sp s hs).2 e).2
    rw [hall s hs] at h1
    cases h1
end Go.Proofs.YtdhiablpobnhcaaGreat

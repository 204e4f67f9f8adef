import Derived.Test.YtmkldekangdfmaaGreatPkQ

/-
  Plain: Worlds with the same objects; an object is shaded.
-/
namespace Go.Proofs.YtmkldekangdfmaaGreat
open Go.RowKit
set_option linter.unusedVariables false

theorem or_nat {m : Int} {j : Nat} (h0 : 0 ≤ m) (h1 : m ≤ 9223372036854775807) (hj : j ≤ 16) : ∃ n r : Nat, m = (n : Int) ∧ bits .or .i64 m ((2 : Int) ^ j) = (r : Int) ∧ (∀ i, r.testBit i = (n.testBit i || decide (j = i))) ∧ (∀ k, n < 2 ^ k → j < k → r < 2 ^ k) := by
  obtain ⟨n, rfl⟩ := Int.eq_ofNat_of_zero_le h0
  have h2 := pow16 hj
  have e : ((2 : Int) ^ j) = ((2 ^ j : Nat) : Int) := by simp
  have hor : n ||| 2 ^ j < 2 ^ 63 := Nat.or_lt_two_pow (by omega) (Nat.pow_lt_pow_right (by omega) (by omega))
  refine ⟨n, n ||| 2 ^ j, rfl, ?_, fun i => by rw [Nat.testBit_or, Nat.testBit_two_pow], fun k hn hjk => Nat.or_lt_two_pow hn (Nat.pow_lt_pow_right (by omega) hjk)⟩
  rw [e]
  show IntKind.i64.wrap ((BitVec.ofInt 64 (n : Int) ||| BitVec.ofInt 64 ((2 ^ j : Nat) : Int)).toNat : Nat) = _
  rw [BitVec.toNat_or, ofInt_nat _ (by omega), ofInt_nat _ (by omega), IntKind.wrap_i64]
  omega
theorem bit_or {m : Int} {j : Nat} (h0 : 0 ≤ m) (h1 : m ≤ 9223372036854775807) (hj : j ≤ 16) (i : Nat) : bitI (bits .or .i64 m ((2 : Int) ^ j)) i ↔ bitI m i ∨ i = j := by
  obtain ⟨n, r, rfl, e, hb, _⟩ := or_nat h0 h1 hj
  rw [e, bitI_test, bitI_test, hb]
  simp only [Bool.or_eq_true, decide_eq_true_eq]
  exact ⟨fun h => h.imp id Eq.symm, fun h => h.imp id Eq.symm⟩

/-- Two spans with the same objects. -/
structure SameS (s t : SpanD) : Prop where
  page : t.page = s.page
  cls : t.cls = s.cls
  lens : t.lens = s.lens
  ptrs : t.ptrs = s.ptrs
/-- Two Worlds with the same objects and words. -/
structure SameO (D E : WD) : Prop where
  base : E.base = D.base
  words : E.words = D.words
  len : E.spans.length = D.spans.length
  span : ∀ (k : Nat) (s t : SpanD), D.spans[k]? = some s → E.spans[k]? = some t → SameS s t
theorem SameS.refl (s : SpanD) : SameS s s := ⟨rfl, rfl, rfl, rfl⟩
theorem SameS.symm {s t : SpanD} (h : SameS s t) : SameS t s := ⟨h.page.symm, h.cls.symm, h.lens.symm, h.ptrs.symm⟩
theorem SameO.refl (D : WD) : SameO D D := ⟨rfl, rfl, rfl, fun k s t h1 h2 => by rw [h1] at h2; cases h2; exact .refl _⟩
theorem SameO.symm {D E : WD} (h : SameO D E) : SameO E D := ⟨h.base.symm, h.words.symm, h.len.symm, fun k s t h1 h2 => (h.span k t s h2 h1).symm⟩
theorem SameO.at_ {D E : WD} (h : SameO D E) {k : Nat} {s : SpanD} (hs : D.spans[k]? = some s) : ∃ t, E.spans[k]? = some t ∧ SameS s t := by
  have hl := (List.getElem?_eq_some_iff.1 hs).1
  have e : E.spans[k]? = some (E.spans[k]'(by rw [h.len]; exact hl)) := List.getElem?_eq_getElem _
  exact ⟨_, e, h.span k s _ hs e⟩
theorem SameO.trans {D E F : WD} (h : SameO D E) (g : SameO E F) : SameO D F :=
  ⟨g.base.trans h.base, g.words.trans h.words, g.len.trans h.len, fun k s t h1 h2 => by
    obtain ⟨u, hu, hs⟩ := h.at_ h1
    have := g.span k u t hu h2
    exact ⟨this.page.trans hs.page, this.cls.trans hs.cls, this.lens.trans hs.lens, this.ptrs.trans hs.ptrs⟩⟩
theorem atW_same {s t : SpanD} (h : SameS s t) (j : Int) : atW t j = atW s j := by unfold atW; rw [h.page, h.cls]
theorem SameO.obj {D E : WD} (h : SameO D E) {a : Int} {k j : Nat} (ho : IsObj D a k j) : IsObj E a k j := by
  obtain ⟨s, hs, hj, hl, ha⟩ := ho
  obtain ⟨t, ht, hst⟩ := h.at_ hs
  exact ⟨t, ht, by rw [hst.lens]; exact hj, by rw [hst.lens]; exact hl, by rw [h.base, atW_same hst]; exact ha⟩
theorem SameO.obj_iff {D E : WD} (h : SameO D E) {a : Int} {k j : Nat} : IsObj E a k j ↔ IsObj D a k j := ⟨h.symm.obj, h.obj⟩
theorem SameO.has {D E : WD} (h : SameO D E) {a : Int} : HasObj E a ↔ HasObj D a := ⟨fun ⟨k, j, ho⟩ => ⟨k, j, h.symm.obj ho⟩, fun ⟨k, j, ho⟩ => ⟨k, j, h.obj ho⟩⟩
theorem SameO.ptrs {D E : WD} (h : SameO D E) {s t : SpanD} (hst : SameS s t) (j : Nat) : ptrW E t j = ptrW D s j := by unfold ptrW; rw [h.words, atW_same hst, hst.ptrs]

/-- What is got at from the pointers of Grey, and from the addresses Z, through objects that are not marked. -/
inductive ComingP (D : WD) (Z : List Int) : Int → Prop
  | grey {b : Int} : PtrsOf D D.grey b → HasObj D b → ComingP D Z b
  | more {b : Int} : b ∈ Z → HasObj D b → ComingP D Z b
  | step {a b : Int} : ComingP D Z a → Leads D (fun k j => ¬ MarkedP D k j) a b → HasObj D b → ComingP D Z b
theorem ComingP.obj {D : WD} {Z : List Int} {a : Int} (h : ComingP D Z a) : HasObj D a := by cases h <;> assumption
theorem ComingP.of {D : WD} {a : Int} (h : Coming D a) (Z : List Int) : ComingP D Z a := by
  induction h with
  | start h1 h2 => exact .grey h1 h2
  | step h1 h2 h3 ih => exact .step ih h2 h3
theorem ComingP.to {D : WD} {a : Int} (h : ComingP D [] a) : Coming D a := by
  induction h with
  | grey h1 h2 => exact .start h1 h2
  | more h1 h2 => simp at h1
  | step h1 h2 h3 ih => exact .step ih h2 h3
def KeptP (D : WD) (Z : List Int) (a : Int) : Prop := a = 0 ∨ ComingP D Z a ∨ MarkedObj D a
theorem KeptP.iff {D : WD} {a : Int} : KeptP D [] a ↔ Kept D a := ⟨fun h => h.imp id (Or.imp ComingP.to id), fun h => h.imp id (Or.imp (fun h => ComingP.of h []) id)⟩
theorem KeptP.more {D : WD} {Z Y : List Int} {a : Int} (h : KeptP D Z a) (hZ : ∀ b, b ∈ Z → b ∈ Y) : KeptP D Y a := by
  refine h.imp id (Or.imp (fun hc => ?_) id)
  induction hc with
  | grey h1 h2 => exact .grey h1 h2
  | more h1 h2 => exact .more (hZ _ h1) h2
  | step h1 h2 h3 ih => exact .step (ih (.inr (.inl h1))) h2 h3

/-- a is shaded. -/
def shadeD (D : WD) (a : Int) (k j : Nat) (s : SpanD) : WD := { D with spans := D.spans.set k { s with mark := bits .or .i64 s.mark ((2 : Int) ^ j) }, grey := D.grey ++ [a] }
def ShadeIs (D : WD) (a : Int) (E : WD) : Prop :=
  (∃ k j s, (D.phase = 1 ∨ D.phase = 2) ∧ IsObj D a k j ∧ D.spans[k]? = some s ∧ ¬ bitI s.mark j ∧ E = shadeD D a k j s) ∨
  ((D.phase = 1 ∨ D.phase = 2 → ∀ k j, IsObj D a k j → MarkedP D k j) ∧ E = D)
theorem shade_same {D : WD} {a : Int} {k j : Nat} {s : SpanD} (hs : D.spans[k]? = some s) : SameO D (shadeD D a k j s) := by
  refine ⟨rfl, rfl, by simp [shadeD], fun q t u h1 h2 => ?_⟩
  by_cases e : q = k
  · subst e
    rw [hs] at h1
    cases h1
    have hl := (List.getElem?_eq_some_iff.1 hs).1
    simp [shadeD, hl] at h2
    subst h2
    exact ⟨rfl, rfl, rfl, rfl⟩
  · simp only [shadeD] at h2
    rw [List.getElem?_set_ne (fun h => e h.symm), h1] at h2
    cases h2
    exact .refl _
theorem ShadeIs.same {D E : WD} {a : Int} (h : ShadeIs D a E) : SameO D E := by
  rcases h with ⟨k, j, s, _, _, hs, _, rfl⟩ | ⟨_, rfl⟩
  · exact shade_same hs
  · exact .refl _
theorem mark_range {D : WD} (hF : HeapForm D) {k j : Nat} {s : SpanD} (hs : D.spans[k]? = some s) (hj : j < s.lens.length) : 0 ≤ s.mark ∧ s.mark ≤ 9223372036854775807 ∧ j ≤ 16 := by
  have A := hF.span k s hs
  have h1 := A.lens
  have h2 := (sl_bd s.cls).2
  have h3 := A.mk1
  have h4 := pow16 (k := s.lens.length) (by omega)
  have e : ((2 : Int) ^ s.lens.length) = ((2 ^ s.lens.length : Nat) : Int) := by simp
  rw [e] at h3
  exact ⟨A.mk0, by omega, by omega⟩
theorem shade_marked {D : WD} (hF : HeapForm D) {a : Int} {k j : Nat} {s : SpanD} (hs : D.spans[k]? = some s) (hj : j < s.lens.length) {q i : Nat} : MarkedP (shadeD D a k j s) q i ↔ MarkedP D q i ∨ (q = k ∧ i = j) := by
  obtain ⟨m0, m1, j16⟩ := mark_range hF hs hj
  have hl := (List.getElem?_eq_some_iff.1 hs).1
  by_cases e : q = k
  · subst e
    have h1 : (shadeD D a q j s).spans[q]? = some { s with mark := bits .or .i64 s.mark ((2 : Int) ^ j) } := by simp [shadeD, hl]
    rw [MarkedP.iff h1, MarkedP.iff hs, bit_or m0 m1 j16]
    simp
  · have h1 : (shadeD D a k j s).spans[q]? = D.spans[q]? := by simp only [shadeD]; rw [List.getElem?_set_ne (fun h => e h.symm)]
    unfold MarkedP
    rw [h1]
    simp [e]
/-- What has been kept stays so, while one of the addresses that are still to be shaded is. -/
theorem ShadeIs.kept {D E : WD} {b : Int} {Z : List Int} (hF : HeapForm D) (hph : D.phase = 1 ∨ D.phase = 2) (h : ShadeIs D b E) {a : Int} (hk : KeptP D (b :: Z) a) : KeptP E Z a := by
  have hO := h.same
  rcases h with ⟨k, j, s, _, ho, hs, hnm, rfl⟩ | ⟨hm, rfl⟩
  · have hj : j < s.lens.length := by obtain ⟨t, ht, hj, _⟩ := ho; rw [hs] at ht; cases ht; exact hj
    have hmk : ∀ {q i}, MarkedP (shadeD D b k j s) q i ↔ MarkedP D q i ∨ (q = k ∧ i = j) := shade_marked hF hs hj
    have hob : MarkedObj (shadeD D b k j s) b := ⟨k, j, hO.obj ho, hmk.2 (.inr ⟨rfl, rfl⟩)⟩
    rcases hk with rfl | hc | ⟨q, i, hoq, hmq⟩
    · exact .inl rfl
    · right
      have lead : ∀ {x y : Int} {q i : Nat} {t : SpanD}, IsObj D x q i → D.spans[q]? = some t → y ∈ ptrW D t i → ∃ t', (shadeD D b k j s).spans[q]? = some t' ∧ y ∈ ptrW (shadeD D b k j s) t' i := fun hx ht hy => by
        obtain ⟨t', ht', hst⟩ := hO.at_ ht
        exact ⟨t', ht', by rw [hO.ptrs hst]; exact hy⟩
      induction hc with
      | grey h1 h2 =>
        obtain ⟨x, q, i, t, hx, hxo, ht, hy⟩ := h1
        obtain ⟨t', ht', hy'⟩ := lead hxo ht hy
        exact .inl (.grey ⟨x, q, i, t', List.mem_append.2 (.inl hx), hO.obj hxo, ht', hy'⟩ (hO.has.2 h2))
      | more h1 h2 =>
        rcases List.mem_cons.1 h1 with rfl | h1
        · exact .inr hob
        · exact .inl (.more h1 (hO.has.2 h2))
      | step h1 h2 h3 ih =>
        rename_i x y
        obtain ⟨q, i, t, hxo, ht, hnq, hy⟩ := h2
        obtain ⟨t', ht', hy'⟩ := lead hxo ht hy
        by_cases e : q = k ∧ i = j
        · obtain ⟨rfl, rfl⟩ := e
          have hxb : x = b := by
            obtain ⟨u, hu, _, _, e1⟩ := hxo
            obtain ⟨u', hu', _, _, e2⟩ := ho
            rw [hu] at hu'
            cases hu'
            omega
          subst hxb
          exact .inl (.grey ⟨x, q, i, t', by simp [shadeD], hO.obj hxo, ht', hy'⟩ (hO.has.2 h3))
        · rcases ih with hc | ⟨q', i', ho', hm'⟩
          · exact .inl (.step hc ⟨q, i, t', hO.obj hxo, ht', fun hm => (hmk.1 hm).elim hnq e, hy'⟩ (hO.has.2 h3))
          · obtain ⟨rfl, rfl⟩ := (hO.symm.obj ho').unique hF hxo
            exact absurd (hmk.1 hm') (fun h => h.elim hnq e)
    · exact .inr (.inr ⟨q, i, hO.obj hoq, hmk.2 (.inl hmq)⟩)
  · have hb : ∀ q i, IsObj E b q i → MarkedP E q i := hm hph
    rcases hk with rfl | hc | hmo
    · exact .inl rfl
    · right
      induction hc with
      | grey h1 h2 => exact .inl (.grey h1 h2)
      | more h1 h2 =>
        rcases List.mem_cons.1 h1 with rfl | h1
        · obtain ⟨q, i, ho⟩ := h2
          exact .inr ⟨q, i, ho, hb q i ho⟩
        · exact .inl (.more h1 h2)
      | step h1 h2 h3 ih =>
        rcases ih with hc | ⟨q', i', ho', hm'⟩
        · exact .inl (.step hc h2 h3)
        · obtain ⟨q, i, t, hxo, ht, hnq, hy⟩ := h2
          obtain ⟨rfl, rfl⟩ := ho'.unique hF hxo
          exact absurd hm' hnq
    · exact .inr (.inr hmo)
/-- Shaded, it is marked. -/
theorem ShadeIs.marked {D E : WD} {b : Int} (hF : HeapForm D) (hph : D.phase = 1 ∨ D.phase = 2) (h : ShadeIs D b E) (hb : HasObj D b) : MarkedObj E b := by
  have hO := h.same
  rcases h with ⟨k, j, s, _, ho, hs, hnm, rfl⟩ | ⟨hm, rfl⟩
  · have hj : j < s.lens.length := by obtain ⟨t, ht, hj, _⟩ := ho; rw [hs] at ht; cases ht; exact hj
    exact ⟨k, j, hO.obj ho, (shade_marked hF hs hj).2 (.inr ⟨rfl, rfl⟩)⟩
  · obtain ⟨q, i, ho⟩ := hb
    exact ⟨q, i, ho, hm hph q i ho⟩
/-- What was marked stays so. -/
theorem ShadeIs.keeps {D E : WD} {b : Int} (hF : HeapForm D) (h : ShadeIs D b E) {a : Int} (ha : MarkedObj D a) : MarkedObj E a := by
  have hO := h.same
  rcases h with ⟨k, j, s, _, ho, hs, hnm, rfl⟩ | ⟨hm, rfl⟩
  · have hj : j < s.lens.length := by obtain ⟨t, ht, hj, _⟩ := ho; rw [hs] at ht; cases ht; exact hj
    obtain ⟨q, i, hoq, hmq⟩ := ha
    exact ⟨q, i, hO.obj hoq, (shade_marked hF hs hj).2 (.inl hmq)⟩
  · exact ha
end Go.Proofs.YtmkldekangdfmaaGreat

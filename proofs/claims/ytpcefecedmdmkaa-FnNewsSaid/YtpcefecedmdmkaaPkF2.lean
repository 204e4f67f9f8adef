import Derived.Test.YtpcefecedmdmkaaPkF1
import Derived.Test.YtpcefecedmdmkaaPkW
import Derived.Deep.RegionWith

/-
  Plain facts on bits: the bits of the used slots, put together one by one; a mark that has such bits alone.
-/
namespace Go.Proofs.Ytpcefecedmdmkaa
open Go.RowKit
set_option linter.unusedVariables false

/-- The bits of the used ones of the first k slots. -/
def usedM (l : List Int) : Nat → Nat
  | 0 => 0
  | k + 1 => usedM l k + if 0 < l[k]?.getD 0 then 2 ^ k else 0
theorem usedM_lt (l : List Int) (k : Nat) : usedM l k < 2 ^ k := by
  induction k with
  | zero => simp [usedM]
  | succ k ih => unfold usedM; rw [Nat.pow_succ]; split <;> omega
theorem usedM_bit (l : List Int) (k i : Nat) : (usedM l k).testBit i = (decide (i < k) && decide (0 < l[i]?.getD 0)) := by
  induction k with
  | zero => simp [usedM]
  | succ k ih =>
    have hlt := usedM_lt l k
    unfold usedM
    by_cases e : 0 < l[k]?.getD 0
    · rw [if_pos e, Nat.add_comm]
      by_cases h : i = k
      · subst h
        rw [Nat.testBit_two_pow_add_eq, Nat.testBit_lt_two_pow hlt]
        simp [e]
      · by_cases h2 : i < k
        · rw [Nat.testBit_two_pow_add_gt h2, ih]
          simp [h2, show i < k + 1 by omega]
        · have h3 : ((2 ^ k + usedM l k).testBit i) = false := by
            refine Nat.testBit_lt_two_pow (Nat.lt_of_lt_of_le (show 2 ^ k + usedM l k < 2 ^ (k + 1) by rw [Nat.pow_succ]; omega) (Nat.pow_le_pow_right (by omega) (by omega)))
          rw [h3]
          simp [show ¬ i < k + 1 by omega]
    · rw [if_neg e, Nat.add_zero, ih]
      by_cases h : i = k
      · subst h; simp [e]
      · by_cases h2 : i < k
        · simp [h2, show i < k + 1 by omega]
        · simp [h2, show ¬ i < k + 1 by omega]
theorem pow16 {k : Nat} (h : k ≤ 16) : 2 ^ k ≤ 65536 := Nat.pow_le_pow_right (n := 2) (by omega) h
theorem ofInt_nat (n : Nat) (h : n < 2 ^ 64) : (BitVec.ofInt 64 (n : Int)).toNat = n := by
  rw [BitVec.toNat_ofInt]
  omega
theorem or_used (l : List Int) (k : Nat) (hk : k ≤ 16) : bits .or .i64 (usedM l k : Int) ((2 : Int) ^ k) = ((usedM l k + 2 ^ k : Nat) : Int) := by
  have h1 := usedM_lt l k
  have h2 := pow16 hk
  have e : ((2 : Int) ^ k) = ((2 ^ k : Nat) : Int) := by simp
  rw [e]
  show IntKind.i64.wrap ((BitVec.ofInt 64 (usedM l k : Int) ||| BitVec.ofInt 64 ((2 ^ k : Nat) : Int)).toNat : Nat) = _
  rw [BitVec.toNat_or, ofInt_nat _ (by omega), ofInt_nat _ (by omega)]
  have e2 : usedM l k ||| 2 ^ k = usedM l k + 2 ^ k := by
    rw [Nat.or_comm, Nat.add_comm]
    have := Nat.two_pow_add_eq_or_of_lt h1 1
    simpa using this.symm
  rw [e2, IntKind.wrap_i64]
  omega

theorem bitI_test (m : Nat) (i : Nat) : bitI (m : Int) i ↔ m.testBit i = true := by
  unfold bitI
  rw [Nat.testBit_eq_decide_div_mod_eq]
  have : ((m : Int) / 2 ^ i % 2) = ((m / 2 ^ i % 2 : Nat) : Int) := by simp
  rw [this]
  simp
  omega

/-- It has bits of used slots alone. -/
def MarkFits (l : List Int) (m : Int) (k : Nat) : Prop := 0 ≤ m ∧ m < 2 ^ k ∧ ∀ i, i < k → bitI m i → 0 < l[i]?.getD 0
theorem andNot_used (l : List Int) (m : Int) (k : Nat) (hk : k ≤ 16) (h0 : -9223372036854775808 ≤ m) (h1 : m ≤ 9223372036854775807) :
    bits .andNot .i64 m (usedM l k : Int) = 0 ↔ MarkFits l m k := by
  have hu := usedM_lt l k
  have h2 := pow16 hk
  have key : bits .andNot .i64 m (usedM l k : Int) = 0 ↔ BitVec.ofInt 64 m &&& ~~~ BitVec.ofInt 64 (usedM l k : Int) = 0#64 := by
    show IntKind.i64.wrap ((BitVec.ofInt 64 m &&& ~~~ BitVec.ofInt 64 (usedM l k : Int)).toNat : Nat) = 0 ↔ _
    generalize BitVec.ofInt 64 m &&& ~~~ BitVec.ofInt 64 (usedM l k : Int) = X
    rw [IntKind.wrap_i64]
    have hX := X.isLt
    constructor
    · intro h
      apply BitVec.eq_of_toNat_eq
      simp
      omega
    · intro h
      subst h
      simp
  have bitsU : ∀ i, (BitVec.ofInt 64 (usedM l k : Int)).getLsbD i = (decide (i < k) && decide (0 < l[i]?.getD 0)) := by
    intro i
    rw [← BitVec.testBit_toNat, ofInt_nat _ (by omega), usedM_bit]
  have key2 : BitVec.ofInt 64 m &&& ~~~ BitVec.ofInt 64 (usedM l k : Int) = 0#64 ↔ ∀ i, i < 64 → (BitVec.ofInt 64 m).getLsbD i = true → i < k ∧ 0 < l[i]?.getD 0 := by
    constructor
    · intro h i hi hm
      have := congrArg (fun X => X.getLsbD i) h
      simp only [BitVec.getLsbD_and, BitVec.getLsbD_not, bitsU, hm, hi, BitVec.getLsbD_zero, decide_true, Bool.true_and] at this
      simpa using this
    · intro h
      apply BitVec.eq_of_getLsbD_eq
      intro i hi
      simp only [BitVec.getLsbD_and, BitVec.getLsbD_not, bitsU, hi, BitVec.getLsbD_zero, decide_true, Bool.true_and]
      by_cases hm : (BitVec.ofInt 64 m).getLsbD i = true
      · have := h i hi hm
        simp [this]
      · simp [hm]
  rw [key, key2]
  by_cases hm : 0 ≤ m
  · obtain ⟨n, rfl⟩ := Int.eq_ofNat_of_zero_le hm
    have hb : ∀ i, (BitVec.ofInt 64 (n : Int)).getLsbD i = n.testBit i := fun i => by rw [← BitVec.testBit_toNat, ofInt_nat _ (by omega)]
    constructor
    · intro h
      have hlt : n < 2 ^ k := by
        apply Nat.lt_pow_two_of_testBit
        intro i hi
        by_cases hi6 : i < 64
        · cases ht : n.testBit i
          · rfl
          · have := h i hi6 (by rw [hb]; exact ht)
            omega
        · exact Nat.testBit_lt_two_pow (Nat.lt_of_lt_of_le (show n < 2 ^ 64 by omega) (Nat.pow_le_pow_right (by omega) (by omega)))
      refine ⟨by omega, by rw [show ((2 : Int) ^ k) = ((2 ^ k : Nat) : Int) by simp]; omega, fun i hi hbit => ?_⟩
      exact (h i (by omega) (by rw [hb]; exact (bitI_test n i).1 hbit)).2
    · rintro ⟨_, hlt, h⟩ i hi ht
      rw [hb] at ht
      have hik : i < k := by
        apply Decidable.byContradiction
        intro hn
        have hlt' : n < 2 ^ k := by rw [show ((2 : Int) ^ k) = ((2 ^ k : Nat) : Int) by simp] at hlt; omega
        have : n.testBit i = false := Nat.testBit_lt_two_pow (Nat.lt_of_lt_of_le hlt' (Nat.pow_le_pow_right (by omega) (by omega)))
        rw [this] at ht
        cases ht
      exact ⟨hik, h i hik ((bitI_test n i).2 ht)⟩
  · constructor
    · intro h
      have := h 63 (by omega) (by
        rw [← BitVec.testBit_toNat, BitVec.toNat_ofInt, Nat.testBit_eq_decide_div_mod_eq]
        simp
        omega)
      omega
    · intro h
      exact absurd h.1 hm
end Go.Proofs.Ytpcefecedmdmkaa

/-
  The contract of the model's l2used: which words are those of objects?
-/
namespace Go.Proofs.Ytpcefecedmdmkaa
open Go.RowKit
set_option linter.unusedVariables false

/-- Word number x is one of the first t words of slot j of span s. -/
def InSlot (s : SpanD) (j t : Nat) (x : Nat) : Prop := ∃ t', t' < t ∧ (x : Int) = atW s (j : Int) + (t' : Int)
/-- .. is one of an object's words in the first j slots of span s. -/
def InSlots (s : SpanD) (j : Nat) (x : Nat) : Prop := ∃ j', j' < j ∧ InSlot s j' (s.lens[j']?.getD 0).toNat x
/-- .. is one of an object's words in the first k spans. -/
def InSpans (D : WD) (k : Nat) (x : Nat) : Prop := ∃ k' s, k' < k ∧ D.spans[k']? = some s ∧ InSlots s s.lens.length x
def Used (D : WD) (x : Nat) : Prop := InSpans D D.spans.length x
/-- The list says of each word whether P. -/
def Tells (U : List Bool) (n : Nat) (P : Nat → Prop) : Prop := U.length = n ∧ ∀ i, i < n → (U[i]?.getD false = true ↔ P i)

theorem Tells.congr {U : List Bool} {n : Nat} {P Q : Nat → Prop} (h : Tells U n P) (hq : ∀ i, i < n → (P i ↔ Q i)) : Tells U n Q :=
  ⟨h.1, fun i hi => (h.2 i hi).trans (hq i hi)⟩
theorem Tells.set {U : List Bool} {n : Nat} {P : Nat → Prop} (h : Tells U n P) (x : Nat) (hx : x < n) : Tells (U.set x true) n (fun i => P i ∨ i = x) := by
  refine ⟨by simpa using h.1, fun i hi => ?_⟩
  have hl := h.1
  by_cases e : i = x
  · subst e
    simp [hl, hi]
  · rw [List.getElem?_set_ne (fun h => e h.symm)]
    rw [h.2 i hi]
    simp [e]
theorem Tells.zero (n : Nat) : Tells (List.replicate n false) n (fun _ => False) :=
  ⟨by simp, fun i hi => by simp [hi]⟩
theorem inSlot_succ (s : SpanD) (j t x : Nat) : InSlot s j (t + 1) x ↔ (InSlot s j t x ∨ (x : Int) = atW s (j : Int) + (t : Int)) := by
  constructor
  · rintro ⟨t', ht, hx⟩
    by_cases e : t' = t
    · subst e; exact .inr hx
    · exact .inl ⟨t', by omega, hx⟩
  · rintro (⟨t', ht, hx⟩ | hx)
    · exact ⟨t', by omega, hx⟩
    · exact ⟨t, by omega, hx⟩
theorem inSlots_succ (s : SpanD) (j x : Nat) : InSlots s (j + 1) x ↔ (InSlots s j x ∨ InSlot s j (s.lens[j]?.getD 0).toNat x) := by
  constructor
  · rintro ⟨j', hj, hx⟩
    by_cases e : j' = j
    · subst e; exact .inr hx
    · exact .inl ⟨j', by omega, hx⟩
  · rintro (⟨j', hj, hx⟩ | hx)
    · exact ⟨j', by omega, hx⟩
    · exact ⟨j, by omega, hx⟩
theorem inSpans_succ (D : WD) (k x : Nat) (s : SpanD) (hs : D.spans[k]? = some s) : InSpans D (k + 1) x ↔ (InSpans D k x ∨ InSlots s s.lens.length x) := by
  constructor
  · rintro ⟨k', s', hk, hs', hx⟩
    by_cases e : k' = k
    · subst e
      rw [hs] at hs'
      cases hs'
      exact .inr hx
    · exact .inl ⟨k', s', by omega, hs', hx⟩
  · rintro (⟨k', s', hk, hs', hx⟩ | hx)
    · exact ⟨k', s', by omega, hs', hx⟩
    · exact ⟨k, s, by omega, hs, hx⟩
theorem slot_in {c i t : Int} (hi0 : 0 ≤ i) (hi : i < sl' c) (ht0 : 0 ≤ t) (ht : t < sz c) : 0 ≤ i * sz c ∧ i * sz c + t < 32 := by
  unfold sl' at hi
  unfold sz at *
  (repeat' split at hi) <;> simp_all <;> omega

/-- The row of bools at block B, and what it tells. -/
structure RowU (B : Nat) (W wr : World) (n : Nat) (U : List Bool) (P : Nat → Prop) : Prop where
  own : wr.ownsRow B 4 1 (sl B n) n (U.map Value.bool)
  tells : Tells U n P
  below : Below B W wr
  size : B < wr.heap.size
theorem RowU.congr {B : Nat} {W wr : World} {n : Nat} {U : List Bool} {P Q : Nat → Prop} (h : RowU B W wr n U P) (hq : ∀ i, i < n → (P i ↔ Q i)) : RowU B W wr n U Q := ⟨h.own, h.tells.congr hq, h.below, h.size⟩
theorem RowU.step {B : Nat} {W wr w2 : World} {n : Nat} {U : List Bool} {P : Nat → Prop} (h : RowU B W wr n U P) (hb : Below wr.heap.size wr w2) (x : Nat) (hx : x < n) :
    RowU B W (w2.setCell ⟨B, x, none⟩ (.bool true)) n (U.set x true) (fun i => P i ∨ i = x) := by
  have ho := own_below h.own hb
  have hl := h.tells.1
  have hz := h.size
  have hz2 := hb.size
  refine ⟨?_, h.tells.set x hx, (h.below.trans (hb.mono (by omega))).setCell (p := ⟨B, x, none⟩) (Nat.le_refl _) _, by rw [World.size_setCell]; omega⟩
  rw [List.map_set]
  exact (ho.stored x (.bool true)).1
theorem RowU.cell {B : Nat} {W wr w2 : World} {n : Nat} {U : List Bool} {P : Nat → Prop} (h : RowU B W wr n U P) (hb : Below wr.heap.size wr w2) (x : Nat) (hx : x < n) :
    w2.cell? ⟨B, x, none⟩ = some (.bool (U[x]?.getD false)) ∧ w2.frozen? ⟨B, x, none⟩ = false := by
  have ho := own_below h.own hb
  have hl := h.tells.1
  refine ⟨?_, ho.frozenAt x⟩
  rw [ho.cellAt x (by omega)]
  simp [show x < U.length by omega]
theorem at_nat (D : WD) (k : Nat) (s : SpanD) (h : SpanAt D k s) (n : Nat) (hwl : (n : Int) = D.pages * 32) (j : Nat) (hj : j < s.lens.length) :
    ∃ A : Nat, atW s (j : Int) = (A : Int) ∧ ∀ t : Nat, (t : Int) < s.lens[j]?.getD 0 → A + t < n := by
  have h1 := h.pg0
  have h2 := h.pg1
  have h3 := h.lens
  have hs := h.slot j hj
  have h4 := hs.l1
  have h5 := sz_bd s.cls
  have h6 : 0 ≤ (j : Int) * sz s.cls := Int.mul_nonneg (by omega) h5.1
  refine ⟨(atW s (j : Int)).toNat, by unfold atW; omega, fun t ht => ?_⟩
  have h7 := slot_in (c := s.cls) (i := (j : Int)) (t := (t : Int)) (by omega) (by omega) (by omega) (by omega)
  unfold atW
  omega

end Go.Proofs.Ytpcefecedmdmkaa

/-
  The contract of the model's FormOk: has the World the form of a heap?
-/
namespace Go.Proofs.Ytpcefecedmdmkaa
open Go.RowKit
set_option linter.unusedVariables false

structure HeapForm (D : WD) : Prop where
  geo : Geo D.base D.pages (D.muts.length : Int)
  words : (D.words.length : Int) = D.pages * 32
  dirty : (D.dirty.length : Int) = D.pages * 4
  spans : (D.spans.length : Int) ≤ D.pages
  ph0 : 0 ≤ D.phase
  ph1 : D.phase ≤ 4
  span : ∀ (k : Nat) (s : SpanD), D.spans[k]? = some s → SpanAt D k s
  zero : ∀ i : Nat, i < D.words.length → ¬ Used D i → D.words[i]?.getD 0 = 0
  roots : ∀ (k : Nat) (r : List Int), D.muts[k]? = some r → r.length = 6

end Go.Proofs.Ytpcefecedmdmkaa

/-
  The contracts of the model's l2addr, AddrOf, l2find, Find, UsedWords, FreeWords.
-/
namespace Go.Proofs.Ytpcefecedmdmkaa
open Go.RowKit
set_option linter.unusedVariables false

/-- BLOCK B IS A VARIABLE that holds a World. -/
def BoxW (w : World) (B : Nat) (v : Value) : Prop := ∃ cs, v = .agg cs ∧ w.heap[B]? = some (.cells cs 32 (0, 0))
theorem BoxW.below {w w' : World} {B : Nat} {v : Value} (h : BoxW w B v) (hb : Below w.heap.size w w') : BoxW w' B v := by
  obtain ⟨cs, he, hh⟩ := h
  exact ⟨cs, he, heap_below hb hh⟩

theorem RdW.parts {w : World} {D : WD} {c0 c1 vw vd vs vm c6 c7 vg : Value} (h : RdW w (.agg #[c0, c1, vw, vd, vs, vm, c6, c7, vg]) D) : Rd w vw D.words ∧ RdB w vd D.dirty ∧ RdS w vs D.spans ∧ RdM w vm D.muts ∧ Rd w vg D.grey := by
  obtain ⟨uw, ud, us, um, ug, he, h1, h2, h3, h4, h5⟩ := h
  simp only [Value.agg.injEq, Array.mk.injEq, List.cons.injEq, and_true] at he
  obtain ⟨_, _, rfl, rfl, rfl, rfl, _, _, rfl⟩ := he
  exact ⟨h1, h2, h3, h4, h5⟩
theorem RdS.at_ {w : World} {a : Option Addr} {c : Nat} {L : List SpanD} (h : RdS w (.slice a L.length c) L) (k : Nat) (s : SpanD) (hk : L[k]? = some s) : ∃ b off, a = some ⟨b, off, none⟩ ∧ RdSpan w b (off + k * 6) s := by
  obtain ⟨a', c', he, _, hx⟩ := h
  obtain ⟨rfl, _⟩ : a = a' ∧ _ := by simpa using he
  exact hx k s hk
/-- There is slot number j of span number k. -/
def IsSlot (D : WD) (k slot : Int) (s : SpanD) : Prop := HeapForm D ∧ 0 ≤ k ∧ D.spans[k.toNat]? = some s ∧ 0 ≤ slot ∧ slot < s.lens.length
/-- It returned a slot's address, or 0. -/
def AddrIs (D : WD) (k slot : Int) (e : Ending) : Prop := ∃ r : Int, e = .returned (.int .i64 r) ∧ ((∃ s, IsSlot D k slot s ∧ r = D.base + atW s slot) ∨ ((∀ s, ¬ IsSlot D k slot s) ∧ r = 0))
theorem AddrIs.unique {D : WD} {k slot : Int} {e e' : Ending} (h : AddrIs D k slot e) (h' : AddrIs D k slot e') : e = e' := by
  obtain ⟨r, rfl, h⟩ := h
  obtain ⟨r', rfl, h'⟩ := h'
  rcases h with ⟨s, hs, rfl⟩ | ⟨hn, rfl⟩ <;> rcases h' with ⟨s', hs', rfl⟩ | ⟨hn', rfl⟩
  · have e1 := hs.2.2.1.symm.trans hs'.2.2.1
    cases e1
    rfl
  · exact absurd hs (hn' s)
  · exact absurd hs' (hn s')
  · rfl
theorem AddrIs.no {D : WD} {k slot : Int} (h : ∀ s, ¬ IsSlot D k slot s) : AddrIs D k slot (.returned (.int .i64 0)) := ⟨0, rfl, .inr ⟨h, rfl⟩⟩
theorem AddrIs.yes {D : WD} {k slot : Int} {s : SpanD} (h : IsSlot D k slot s) : AddrIs D k slot (.returned (.int .i64 (D.base + atW s slot))) := ⟨_, rfl, .inl ⟨s, h, rfl⟩⟩

end Go.Proofs.Ytpcefecedmdmkaa

/-
  The contracts of the model's l2find, Find.
-/
namespace Go.Proofs.Ytpcefecedmdmkaa
open Go.RowKit
set_option linter.unusedVariables false

/-- Slot j of span k has the object with that address. -/
def IsObj (D : WD) (addr : Int) (k j : Nat) : Prop := ∃ s, D.spans[k]? = some s ∧ j < s.lens.length ∧ 0 < s.lens[j]?.getD 0 ∧ D.base + atW s (j : Int) = addr
theorem pages_up {D : WD} (h : HeapForm D) {k k' : Nat} {s s' : SpanD} (hk : D.spans[k]? = some s) (hk' : D.spans[k']? = some s') (hlt : k < k') : s.page < s'.page := by
  induction k' generalizing s' with
  | zero => omega
  | succ n ih =>
    have hl := (List.getElem?_eq_some_iff.1 hk').1
    obtain ⟨t, ht⟩ : ∃ t, D.spans[n]? = some t := ⟨_, List.getElem?_eq_getElem (by omega)⟩
    have h1 := (h.span (n + 1) s' hk').prev t (by omega) (by simpa using ht)
    by_cases e : k = n
    · subst e
      rw [hk] at ht
      cases ht
      exact h1
    · have := ih ht (by omega)
      omega
theorem sz_pos {c : Int} (h : sl' c ≠ 0) : 2 ≤ sz c := by
  revert h; unfold sl' sz; (repeat' split) <;> simp
theorem mul_inj {a b z : Int} (hz : 2 ≤ z) (h : a * z = b * z) : a = b := Int.eq_of_mul_eq_mul_right (by omega) h
theorem IsObj.unique {D : WD} {addr : Int} (hF : HeapForm D) {k j k' j' : Nat} (h : IsObj D addr k j) (h' : IsObj D addr k' j') : k = k' ∧ j = j' := by
  obtain ⟨s, hs, hj, _, ha⟩ := h
  obtain ⟨s', hs', hj', _, ha'⟩ := h'
  have A := hF.span k s hs
  have A' := hF.span k' s' hs'
  have l := A.lens
  have l' := A'.lens
  have i1 := slot_in (c := s.cls) (i := (j : Int)) (t := 0) (by omega) (by omega) (by omega) (by have := sz_pos A.cls; omega)
  have i2 := slot_in (c := s'.cls) (i := (j' : Int)) (t := 0) (by omega) (by omega) (by omega) (by have := sz_pos A'.cls; omega)
  unfold atW at ha ha'
  have hp : s.page = s'.page := by omega
  have hk : k = k' := by
    rcases Nat.lt_trichotomy k k' with h | h | h
    · have := pages_up hF hs hs' h; omega
    · exact h
    · have := pages_up hF hs' hs h; omega
  subst hk
  rw [hs] at hs'
  cases hs'
  refine ⟨rfl, ?_⟩
  have := mul_inj (sz_pos A.cls) (show (j : Int) * sz s.cls = (j' : Int) * sz s.cls by omega)
  omega
/-- It returned where the object is, or -1 and -1. -/
def FindIs (D : WD) (addr : Int) (e : Ending) : Prop := ∃ r q : Int, e = .returned (.tuple #[.int .i64 r, .int .i64 q]) ∧
  ((∃ k j : Nat, HeapForm D ∧ IsObj D addr k j ∧ r = k ∧ q = j) ∨ ((HeapForm D → ∀ k j, ¬ IsObj D addr k j) ∧ r = -1 ∧ q = -1))
theorem FindIs.unique {D : WD} {addr : Int} {e e' : Ending} (h : FindIs D addr e) (h' : FindIs D addr e') : e = e' := by
  obtain ⟨r, q, rfl, h⟩ := h
  obtain ⟨r', q', rfl, h'⟩ := h'
  rcases h with ⟨k, j, hF, ho, rfl, rfl⟩ | ⟨hn, rfl, rfl⟩ <;> rcases h' with ⟨k', j', hF', ho', rfl, rfl⟩ | ⟨hn', rfl, rfl⟩
  · obtain ⟨rfl, rfl⟩ := ho.unique hF ho'
    rfl
  · exact absurd ho (hn' hF k j)
  · exact absurd ho' (hn hF' k' j')
  · rfl
theorem FindIs.no {D : WD} {addr : Int} (h : HeapForm D → ∀ k j, ¬ IsObj D addr k j) : FindIs D addr (.returned (.tuple #[.int .i64 (-1), .int .i64 (-1)])) := ⟨_, _, rfl, .inr ⟨h, rfl, rfl⟩⟩
theorem FindIs.yes {D : WD} {addr : Int} {k j : Nat} (hF : HeapForm D) (h : IsObj D addr k j) : FindIs D addr (.returned (.tuple #[.int .i64 (k : Int), .int .i64 (j : Int)])) := ⟨_, _, rfl, .inl ⟨k, j, hF, h, rfl, rfl⟩⟩

theorem no_next {D : WD} {addr : Int} {k : Nat} {s : SpanD} (hks : D.spans[k]? = some s) (h1 : ∀ k2 j2, k2 < k → ¬ IsObj D addr k2 j2) (h2 : ∀ j2, j2 < s.lens.length → ¬ IsObj D addr k j2) : ∀ k2 j2, k2 < k + 1 → ¬ IsObj D addr k2 j2 := by
  intro k2 j2 h ho
  by_cases e : k2 = k
  · subst e
    have ho' := ho
    obtain ⟨s2, g1, g2, _⟩ := ho
    rw [hks] at g1
    cases g1
    exact h2 j2 g2 ho'
  · exact h1 k2 j2 (by omega) ho
end Go.Proofs.Ytpcefecedmdmkaa

/-
  The contracts of the model's UsedWords, FreeWords.
-/
namespace Go.Proofs.Ytpcefecedmdmkaa
open Go.RowKit
set_option linter.unusedVariables false

/-- The words of the used ones of a span's first j slots. -/
def usedUp (s : SpanD) (j : Nat) : Int := (((s.lens.take j).filter fun l => decide (0 < l)).length : Int) * sz s.cls
def usedK (D : WD) (k : Nat) : Int := ((D.spans.take k).map fun s => usedUp s s.lens.length).sum
def usedN (D : WD) : Int := usedK D D.spans.length
theorem usedUp_zero (s : SpanD) : usedUp s 0 = 0 := by simp [usedUp]
theorem usedUp_succ (s : SpanD) (j : Nat) (h : j < s.lens.length) : usedUp s (j + 1) = usedUp s j + if 0 < s.lens[j]?.getD 0 then sz s.cls else 0 := by
  unfold usedUp
  rw [List.take_succ_eq_append_getElem h, List.filter_append]
  by_cases e : 0 < s.lens[j]
  · simp [e, h, Int.add_mul]
  · simp [e, h]
theorem usedUp_bd (s : SpanD) (j : Nat) : 0 ≤ usedUp s j ∧ usedUp s j ≤ 16 * (j : Int) := by
  have h1 := sz_bd s.cls
  have h2 : ((s.lens.take j).filter fun l => decide (0 < l)).length ≤ j := Nat.le_trans (List.length_filter_le _ _) (by simp; omega)
  unfold usedUp
  refine ⟨Int.mul_nonneg (by omega) h1.1, ?_⟩
  have := Int.mul_le_mul (show ((((s.lens.take j).filter fun l => decide (0 < l)).length : Nat) : Int) ≤ (j : Int) by omega) h1.2 h1.1 (by omega)
  omega
theorem usedK_succ (D : WD) (k : Nat) (s : SpanD) (h : D.spans[k]? = some s) : usedK D (k + 1) = usedK D k + usedUp s s.lens.length := by
  obtain ⟨hk, rfl⟩ := List.getElem?_eq_some_iff.1 h
  unfold usedK
  rw [List.take_succ_eq_append_getElem hk, List.map_append, List.sum_append]
  simp [-List.map_take]
theorem usedK_bd (D : WD) (hF : ∀ (k : Nat) (s : SpanD), D.spans[k]? = some s → SpanAt D k s) (k : Nat) (hk : k ≤ D.spans.length) : 0 ≤ usedK D k ∧ usedK D k ≤ 256 * (k : Int) := by
  induction k with
  | zero => simp [usedK]
  | succ n ih =>
    have := ih (by omega)
    obtain ⟨s, hs⟩ : ∃ s, D.spans[n]? = some s := ⟨_, List.getElem?_eq_getElem (by omega)⟩
    have hA := (hF n s hs).lens
    have hb := usedUp_bd s s.lens.length
    have hl := (sl_bd s.cls).2
    rw [usedK_succ D n s hs]
    omega
/-- It returned how many words are used, or -1. -/
def UsedIs (D : WD) (e : Ending) : Prop := ∃ r : Int, e = .returned (.int .i64 r) ∧ ((HeapForm D ∧ r = usedN D) ∨ (¬ HeapForm D ∧ r = -1))
def FreeIs (D : WD) (e : Ending) : Prop := ∃ r : Int, e = .returned (.int .i64 r) ∧ ((HeapForm D ∧ r = D.pages * 32 - usedN D) ∨ (¬ HeapForm D ∧ r = -1))
theorem UsedIs.unique {D : WD} {e e' : Ending} (h : UsedIs D e) (h' : UsedIs D e') : e = e' := by
  obtain ⟨r, rfl, h⟩ := h
  obtain ⟨r', rfl, h'⟩ := h'
  rcases h with ⟨hF, rfl⟩ | ⟨hn, rfl⟩ <;> rcases h' with ⟨hF', rfl⟩ | ⟨hn', rfl⟩
  · rfl
  · exact absurd hF hn'
  · exact absurd hF' hn
  · rfl
theorem FreeIs.unique {D : WD} {e e' : Ending} (h : FreeIs D e) (h' : FreeIs D e') : e = e' := by
  obtain ⟨r, rfl, h⟩ := h
  obtain ⟨r', rfl, h'⟩ := h'
  rcases h with ⟨hF, rfl⟩ | ⟨hn, rfl⟩ <;> rcases h' with ⟨hF', rfl⟩ | ⟨hn', rfl⟩
  · rfl
  · exact absurd hF hn'
  · exact absurd hF' hn
  · rfl

end Go.Proofs.Ytpcefecedmdmkaa

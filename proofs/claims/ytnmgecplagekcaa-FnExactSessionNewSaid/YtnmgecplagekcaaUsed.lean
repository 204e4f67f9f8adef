/-
  The contract of the model's l2used: which words are those of objects?
-/
import Derived.Test.YtnmgecplagekcaaSpanOk
import Derived.Test.YtnmgecplagekcaaWTo
namespace Go.Proofs.Ytnmgecplagekcaa
open Go.RowKit
set_option linter.unusedVariables false

/-- Word number x is one of the first t words of slot j of span s. -/
def InSlot (s : SpanD) (j t : Nat) (x : Nat) : Prop := ∃ t', t' < t ∧ (x : Int) = atW s (j : Int) + (t' : Int)
/-- .. is one of an object's words in the first j slots of span s. -/
def InSlots (s : SpanD) (j : Nat) (x : Nat) : Prop := ∃ j', j' < j ∧ InSlot s j' (s.lens[j']?.getD 0).toNat x
/-- .. is one of an object's words in the first k spans. -/
def InSpans (D : WD) (k : Nat) (x : Nat) : Prop := ∃ k' s, k' < k ∧ D.spans[k']? = some s ∧ InSlots s s.lens.length x
def Used (D : WD) (x : Nat) : Prop := InSpans D D.spans.length x
/-- The list says of each word whether P. -/
def Tells (U : List Bool) (n : Nat) (P : Nat → Prop) : Prop := U.length = n ∧ ∀ i, i < n → (U[i]?.getD false = true ↔ P i)

theorem Tells.congr {U : List Bool} {n : Nat} {P Q : Nat → Prop} (h : Tells U n P) (hq : ∀ i, i < n → (P i ↔ Q i)) : Tells U n Q :=
  ⟨h.1, fun i hi => (h.2 i hi).trans (hq i hi)⟩
theorem Tells.set {U : List Bool} {n : Nat} {P : Nat → Prop} (h : Tells U n P) (x : Nat) (hx : x < n) : Tells (U.set x true) n (fun i => P i ∨ i = x) := by
  refine ⟨by simpa using h.1, fun i hi => ?_⟩
  have hl := h.1
  by_cases e : i = x
  · subst e
    simp [hl, hi]
  · rw [List.getElem?_set_ne (fun h => e h.symm)]
    rw [h.2 i hi]
    simp [e]
theorem Tells.zero (n : Nat) : Tells (List.replicate n false) n (fun _ => False) :=
  ⟨by simp, fun i hi => by simp [hi]⟩
theorem inSlot_succ (s : SpanD) (j t x : Nat) : InSlot s j (t + 1) x ↔ (InSlot s j t x ∨ (x : Int) = atW s (j : Int) + (t : Int)) := by
  constructor
  · rintro ⟨t', ht, hx⟩
    by_cases e : t' = t
    · subst e; exact .inr hx
    · exact .inl ⟨t', by omega, hx⟩
  · rintro (⟨t', ht, hx⟩ | hx)
    · exact ⟨t', by omega, hx⟩
    · exact ⟨t, by omega, hx⟩
theorem inSlots_succ (s : SpanD) (j x : Nat) : InSlots s (j + 1) x ↔ (InSlots s j x ∨ InSlot s j (s.lens[j]?.getD 0).toNat x) := by
  constructor
  · rintro ⟨j', hj, hx⟩
    by_cases e : j' = j
    · subst e; exact .inr hx
    · exact .inl ⟨j', by omega, hx⟩
  · rintro (⟨j', hj, hx⟩ | hx)
    · exact ⟨j', by omega, hx⟩
    · exact ⟨j, by omega, hx⟩
theorem inSpans_succ (D : WD) (k x : Nat) (s : SpanD) (hs : D.spans[k]? = some s) : InSpans D (k + 1) x ↔ (InSpans D k x ∨ InSlots s s.lens.length x) := by
  constructor
  · rintro ⟨k', s', hk, hs', hx⟩
    by_cases e : k' = k
    · subst e
      rw [hs] at hs'
      cases hs'
      exact .inr hx
    · exact .inl ⟨k', s', by omega, hs', hx⟩
  · rintro (⟨k', s', hk, hs', hx⟩ | hx)
    · exact ⟨k', s', by omega, hs', hx⟩
    · exact ⟨k, s, by omega, hs, hx⟩
theorem slot_in {c i t : Int} (hi0 : 0 ≤ i) (hi : i < sl' c) (ht0 : 0 ≤ t) (ht : t < sz c) : 0 ≤ i * sz c ∧ i * sz c + t < 32 := by
  unfold sl' at hi
  unfold sz at *
  (repeat' split at hi) <;> simp_all <;> omega

/-- The row of bools at block B, and what it tells. -/
structure RowU (B : Nat) (W wr : World) (n : Nat) (U : List Bool) (P : Nat → Prop) : Prop where
  own : wr.ownsRow B 4 1 (sl B n) n (U.map Value.bool)
  tells : Tells U n P
  below : Below B W wr
  size : B < wr.heap.size
theorem RowU.congr {B : Nat} {W wr : World} {n : Nat} {U : List Bool} {P Q : Nat → Prop} (h : RowU B W wr n U P) (hq : ∀ i, i < n → (P i ↔ Q i)) : RowU B W wr n U Q := ⟨h.own, h.tells.congr hq, h.below, h.size⟩
theorem RowU.step {B : Nat} {W wr w2 : World} {n : Nat} {U : List Bool} {P : Nat → Prop} (h : RowU B W wr n U P) (hb : Below wr.heap.size wr w2) (x : Nat) (hx : x < n) :
    RowU B W (w2.setCell ⟨B, x, none⟩ (.bool true)) n (U.set x true) (fun i => P i ∨ i = x) := by
  have ho := own_below h.own hb
  have hl := h.tells.1
  have hz := h.size
  have hz2 := hb.size
  refine ⟨?_, h.tells.set x hx, (h.below.trans (hb.mono (by omega))).setCell (p := ⟨B, x, none⟩) (Nat.le_refl _) _, by rw [World.size_setCell]; omega⟩
  rw [List.map_set]
  exact (ho.stored x (.bool true)).1
theorem RowU.cell {B : Nat} {W wr w2 : World} {n : Nat} {U : List Bool} {P : Nat → Prop} (h : RowU B W wr n U P) (hb : Below wr.heap.size wr w2) (x : Nat) (hx : x < n) :
    w2.cell? ⟨B, x, none⟩ = some (.bool (U[x]?.getD false)) ∧ w2.frozen? ⟨B, x, none⟩ = false := by
  have ho := own_below h.own hb
  have hl := h.tells.1
  refine ⟨?_, ho.frozenAt x⟩
  rw [ho.cellAt x (by omega)]
  simp [show x < U.length by omega]
theorem at_nat (D : WD) (k : Nat) (s : SpanD) (h : SpanAt D k s) (n : Nat) (hwl : (n : Int) = D.pages * 32) (j : Nat) (hj : j < s.lens.length) :
    ∃ A : Nat, atW s (j : Int) = (A : Int) ∧ ∀ t : Nat, (t : Int) < s.lens[j]?.getD 0 → A + t < n := by
  have h1 := h.pg0
  have h2 := h.pg1
  have h3 := h.lens
  have hs := h.slot j hj
  have h4 := hs.l1
  have h5 := sz_bd s.cls
  have h6 : 0 ≤ (j : Int) * sz s.cls := Int.mul_nonneg (by omega) h5.1
  refine ⟨(atW s (j : Int)).toNat, by unfold atW; omega, fun t ht => ?_⟩
  have h7 := slot_in (c := s.cls) (i := (j : Int)) (t := (t : Int)) (by omega) (by omega) (by omega) (by omega)
  unfold atW
  omega

end Go.Proofs.Ytnmgecplagekcaa

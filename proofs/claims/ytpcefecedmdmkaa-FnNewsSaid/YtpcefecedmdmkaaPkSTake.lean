import Derived.Test.YtpcefecedmdmkaaPkSPage

/-
  The contract of the model's l2take: an object in the first place for it.
-/
namespace Go.Proofs.Ytpcefecedmdmkaa
open Go.RowKit
set_option linter.unusedVariables false

/-- What l2take does to the variable. -/
def TookIs (D : WD) (n p : Int) (base B : Nat) (S : Shape) (e : Ending) (w' : World) : Prop :=
  (∃ D1 k j s S', PlaceIs D (cl n) D1 k j ∧ D1.spans[k]? = some s ∧ e = .returned (.int .i64 (D1.base + atW s (j : Int))) ∧ VarW w' base B S' (takeD D1 k s j n p)) ∨
  (NoPlace D (cl n) ∧ e = .returned (.int .i64 0) ∧ VarW w' base B S D)
theorem fullUp_next {D : WD} {c : Int} {k : Nat} {s : SpanD} (h : FullUp D c k) (hs : D.spans[k]? = some s) (hf : s.cls = c → ∀ j, j < s.lens.length → s.lens[j]?.getD 0 ≠ 0) : FullUp D c (k + 1) := by
  intro i t hi ht
  by_cases e : i = k
  · subst e
    rw [hs] at ht
    cases ht
    exact hf
  · exact h i t (by omega) ht
theorem ins_at {L : List SpanD} {k : Nat} (h : k ≤ L.length) (s : SpanD) : (L.take k ++ s :: L.drop k)[k]? = some s := by
  rw [List.getElem?_append_right (by rw [List.length_take]; omega)]
  simp [Nat.min_eq_left h]
theorem fresh_in {D : WD} {c : Int} {k : Nat} (hF : HeapForm D) (hc : sl' c ≠ 0) (hk : k ≤ D.spans.length) (hp : (k : Int) ≠ D.pages) : SlotIn (insD D c k) (freshS D c k) 0 := by
  have h0 := sl_bd c
  have h1 := hF.spans
  have h2 : ((List.replicate (sl' c).toNat (0 : Int)).length : Int) = sl' c := by rw [List.length_replicate]; omega
  exact ⟨hc, h2, h2, by simp only [freshS, List.length_replicate]; omega, by simp only [freshS]; omega, by simp only [freshS, insD]; omega, hF.words, hF.dirty, hF.geo.2.2.2.2.1⟩

end Go.Proofs.Ytpcefecedmdmkaa

import Derived.Test.YtpcefecedmdmkaaPkSTake2

/-
  The contract of the model's Give.
-/
namespace Go.Proofs.Ytpcefecedmdmkaa
open Go.RowKit
set_option linter.unusedVariables false

theorem Find.some {D : WD} {addr r q : Int} (h : (∃ k j : Nat, HeapForm D ∧ IsObj D addr k j ∧ r = k ∧ q = j) ∨ ((HeapForm D → ∀ k j, ¬ IsObj D addr k j) ∧ r = -1 ∧ q = -1)) :
    (∃ (k j : Nat) (s : SpanD), HeapForm D ∧ IsObj D addr k j ∧ D.spans[k]? = some s ∧ j < s.lens.length ∧ r = k ∧ q = j) ∨ (GiveIs D addr zeroD false ∧ r = -1 ∧ q = -1) := by
  rcases h with ⟨k, j, hF, ho, rfl, rfl⟩ | ⟨hn, rfl, rfl⟩
  · obtain ⟨s, hs, hj, h2⟩ := ho
    exact .inl ⟨k, j, s, hF, ⟨s, hs, hj, h2⟩, hs, hj, rfl, rfl⟩
  · exact .inr ⟨.inr ⟨hn, rfl, rfl⟩, rfl, rfl⟩
end Go.Proofs.Ytpcefecedmdmkaa

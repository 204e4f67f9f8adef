/-
  The contracts of the functions of sizes: of the program (words, slots, ClassSize, SlotsOf, ClassOf) and of the model (ClassSize, SlotsOf, ClassOf). No conditions but that the argument is an int.
-/
import Derived.Test.YtnmgecplagekcaaWData
namespace Go.Proofs.Ytnmgecplagekcaa
open Go.RowKit
set_option linter.unusedVariables false

/-- How many words a slot of class c has. -/
def sz (c : Int) : Int := if c = 0 then 2 else if c = 1 then 4 else if c = 2 then 8 else if c = 3 then 16 else 0
/-- How many slots a page of class c has. -/
def sl' (c : Int) : Int := if c = 0 then 16 else if c = 1 then 8 else if c = 2 then 4 else if c = 3 then 2 else 0
/-- The class for n words. -/
def cl (n : Int) : Int := if n < 1 then -1 else if n ≤ 2 then 0 else if n ≤ 4 then 1 else if n ≤ 8 then 2 else if n ≤ 16 then 3 else -1

theorem part (c : Int) : c = 0 ∨ c = 1 ∨ c = 2 ∨ c = 3 ∨ (c ≠ 0 ∧ c ≠ 1 ∧ c ≠ 2 ∧ c ≠ 3) := by omega
theorem sz_no {c : Int} (h : c ≠ 0 ∧ c ≠ 1 ∧ c ≠ 2 ∧ c ≠ 3) : sz c = 0 := by
  obtain ⟨h0, h1, h2, h3⟩ := h
  unfold sz; rw [if_neg h0, if_neg h1, if_neg h2, if_neg h3]
theorem slno {c : Int} (h : c ≠ 0 ∧ c ≠ 1 ∧ c ≠ 2 ∧ c ≠ 3) : sl' c = 0 := by
  obtain ⟨h0, h1, h2, h3⟩ := h
  unfold sl'; rw [if_neg h0, if_neg h1, if_neg h2, if_neg h3]

end Go.Proofs.Ytnmgecplagekcaa

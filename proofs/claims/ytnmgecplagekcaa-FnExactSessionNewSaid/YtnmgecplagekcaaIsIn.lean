/-
  The contract of the program's isIn. No conditions but that the arguments are ints.
-/
import Derived.Test.YtnmgecplagekcaaWData
namespace Go.Proofs.Ytnmgecplagekcaa
open Go.RowKit
set_option linter.unusedVariables false

def inB (n l h : Int) : Bool := decide (l ≤ n) && decide (n ≤ h)
theorem inB_yes {n l h : Int} (h1 : l ≤ n) (h2 : n ≤ h) : inB n l h = true := by simp [inB, h1, h2]
theorem inB_no {n l h : Int} (h1 : n < l ∨ h < n) : inB n l h = false := by
  unfold inB
  rcases h1 with h1 | h1
  · simp [show ¬ l ≤ n by omega]
  · simp [show ¬ n ≤ h by omega]
theorem inB_iff {n l h : Int} : inB n l h = true ↔ l ≤ n ∧ n ≤ h := by simp [inB]

set_option maxHeartbeats 400000 in
theorem isIn_any (n l h : Int) (w : World) : Calls Try.prog 20 #[.int .i64 n, .int .i64 l, .int .i64 h] w fun e w' => e = .returned (.bool (inB n l h)) ∧ w = w' := by
  by_cases h1 : l ≤ n
  · by_cases h2 : n ≤ h
    · have hb := Lib.hid (inB_yes h1 h2)
      rw [hb.out]
      go_enter Try.func20, Try.ntmps20
      go_wp2
      go_ret
      exact ⟨rfl, rfl⟩
    · rw [inB_no (n := n) (l := l) (h := h) (.inr (by omega))]
      go_enter Try.func20, Try.ntmps20
      go_wp2
      go_ret
      exact ⟨rfl, rfl⟩
  · rw [inB_no (n := n) (l := l) (h := h) (.inl (by omega))]
    go_enter Try.func20, Try.ntmps20
    go_wp2
    go_ret
    exact ⟨rfl, rfl⟩
theorem isIn_eq {n l h : Int} {v : Bool} (hv : inB n l h = v) (w : World) : Calls Try.prog 20 #[.int .i64 n, .int .i64 l, .int .i64 h] w fun e w' => e = .returned (.bool v) ∧ w = w' := by
  rw [← hv]; exact isIn_any n l h w

end Go.Proofs.Ytnmgecplagekcaa

import Derived.Test.YtpcefecedmdmkaaPkW

/-
  The contract of laws.none at a World without words and users.
-/
namespace Go.Proofs.Ytpcefecedmdmkaa
open Go.RowKit
set_option linter.unusedVariables false

set_option maxRecDepth 100000 in
set_option maxHeartbeats 4000000 in
theorem none_any (c1 vd vs c6 c7 vg : Value) (a m : Option Addr) (k q : Nat) (w : World) :
    Calls Try.prog 8 #[.agg #[.int .i64 0, c1, .slice a 0 k, vd, vs, .slice m 0 q, c6, c7, vg]] w fun e w' => e = .returned (.bool true) ∧ Below w.heap.size w w' := by
  have bb := Lib.hid (below_box w (.cells #[.int .i64 0, c1, .slice a 0 k, vd, vs, .slice m 0 q, c6, c7, vg] 32))
  go_enter Try.func8, Try.ntmps8
  go_wp2_with fail
  go_ret
  exact ⟨rfl, bb.out⟩

end Go.Proofs.Ytpcefecedmdmkaa

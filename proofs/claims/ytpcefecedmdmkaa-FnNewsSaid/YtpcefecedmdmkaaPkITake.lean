import Derived.Test.YtpcefecedmdmkaaPkITakeA
import Derived.Test.YtpcefecedmdmkaaPkIPlaceL

/-
  The contract of the program's Take.
-/
namespace Go.Proofs.Ytpcefecedmdmkaa
open Go.RowKit
set_option linter.unusedVariables false

theorem take_any (base B : Nat) (S : Shape) (D : WD) (n p : Int) (hF : HeapForm D) (e1 : 1 ≤ n) (e2 : n ≤ 16) (e3 : 0 ≤ p) (e4 : p ≤ n) (w : World) (h : VarW w base B S D) :
    Calls Try.prog 53 #[.pointer (some ⟨B, 0, none⟩), .int .i64 n, .int .i64 p] w fun e w' => TookTo D n p base B S w e w' ∧ Below base w w' :=
  take_of (fun base B S D c hls w h => (freePlace_any base B S D c hls w h).mono fun e w' h => ⟨h.1, h.2⟩) base B S D n p hF e1 e2 e3 e4 w h
theorem itake_any (v : Value) (D : WD) (n p : Int) (hm : MarksIn D) (hs : Small D) (w : World) (hr : RdW w v D) :
    Calls Try.prog 26 #[v, .int .i64 n, .int .i64 p] w fun e w' => ∃ S D' a f, TakeIs D n p D' a f ∧ e = .returned (.tuple #[S.val D', .int .i64 a, .bool f]) ∧ OwnW w' w.heap.size S D' ∧ Below w.heap.size w w' :=
  itake_of (fun base B S D c hls w h => (freePlace_any base B S D c hls w h).mono fun e w' h => ⟨h.1, h.2⟩) v D n p hm hs w hr
end Go.Proofs.Ytpcefecedmdmkaa

/-
  The laws' markGraph, heldGraph at a Graph without objects.
-/
import Derived.Test.YtaaflpklbhjepaaGrN
import Derived.Test.YtaaflpklbhjepaaHeld
namespace Go.Proofs.Ytaaflpklbhjepaa
open Go.RowKit
set_option linter.unusedVariables false

set_option maxHeartbeats 1000000 in
theorem markObjS_nil (k : Int) (hk : I64 k) (w : World) : Calls Try.prog 28 #[.slice none 0 0, .int .i64 k] w fun e w' => e = .returned (.int .i64 k) ∧ w = w' := by
  go_enter Try.func28, Try.ntmps28
  go_wp2_with fail
  go_loop [1, 5] (fun q i => q = .int .i64 k ∧ i = .int .i64 0) (fun q i => 0)
  case atStart => exact ⟨rfl, rfl⟩
  case round =>
    obtain ⟨rfl, rfl⟩ := hrel
    go_wp2_with fail
    go_ret
    exact ⟨rfl, rfl⟩
set_option maxHeartbeats 1000000 in
theorem heldObjS_nil (k : Int) (hk : I64 k) (w : World) : Calls Try.prog 30 #[.slice none 0 0, .int .i64 k] w fun e w' => e = .returned (.int .i64 k) ∧ w = w' := by
  go_enter Try.func30, Try.ntmps30
  go_wp2_with fail
  go_loop [1, 5] (fun q i => q = .int .i64 k ∧ i = .int .i64 0) (fun q i => 0)
  case atStart => exact ⟨rfl, rfl⟩
  case round =>
    obtain ⟨rfl, rfl⟩ := hrel
    go_wp2_with fail
    go_ret
    exact ⟨rfl, rfl⟩

set_option maxRecDepth 100000 in
set_option maxHeartbeats 4000000 in
theorem markGraph0 (base : Nat) (v : Value) (k : Int) (L : List (List Int)) (mv : List Value) (ha : Apart mv) (hk0 : 0 ≤ k) (hk : k + (bulkM L : Int) ≤ 100000000000) (hl : L.length ≤ 100000000000) (w : World) (h : OwnM w base v L mv) :
    Calls Try.prog 13 #[.agg #[.slice none 0 0, v], .int .i64 k] w fun e w' => e = .returned (.int .i64 (markM L k L.length).2) ∧ OwnM w' base v (markM L k L.length).1 mv ∧ Chg (mv.filterMap Value.ownBlock) w w' := by
  have hI : I64 k := by unfold I64; omega
  have bb := Lib.hid (below_box w (.cells #[.slice none 0 0, v] 31))
  have ha' := Lib.hid ha
  have h1 := Lib.hid (h.below bb.out)
  clear h ha
  go_enter Try.func13, Try.ntmps13
  go_wp2_with fail
  refine (markObjS_nil k hI _).mono ?_
  rintro e w5 ⟨rfl, rfl⟩
  go_wp2_with fail
  refine (markMutS_any base v k L mv ha'.out hk0 hk hl _ h1.out).mono ?_
  rintro e w5 ⟨rfl, h5, c5⟩
  have h5' := Lib.hid h5
  have c5' := Lib.hid c5
  clear h5 c5
  go_wp2_with fail
  go_ret
  exact ⟨rfl, h5'.out, (Chg.of_below bb.out _).trans c5'.out⟩

set_option maxRecDepth 100000 in
set_option maxHeartbeats 4000000 in
theorem heldGraph0 (v : Value) (k : Int) (L : List (List Int)) (hk0 : 0 ≤ k) (hk : k + (bulkM L : Int) ≤ 100000000000) (hlL : L.length ≤ 100000000000) (w : World) (h1 : RdM w v (markM L k L.length).1) :
    Calls Try.prog 14 #[.agg #[.slice none 0 0, v], .int .i64 k] w fun e w' => e = .returned (.int .i64 (markM L k L.length).2) ∧ Below w.heap.size w w' := by
  have hI : I64 k := by unfold I64; omega
  have bb := Lib.hid (below_box w (.cells #[.slice none 0 0, v] 31))
  have h1' := Lib.hid (h1.below bb.out)
  have hlo : 0 ≤ (markM L k L.length).2 := by rw [markM_k L k L.length (Nat.le_refl _)]; omega
  have hhi : (markM L k L.length).2 ≤ 100000000000 := by rw [markM_k L k L.length (Nat.le_refl _), List.take_length]; omega
  have hcall := Lib.hid (heldMutS_yes v k L hk0 hk hlL _ h1'.out)
  clear h1
  generalize (markM L k L.length).2 = q at *
  go_enter Try.func14, Try.ntmps14
  go_wp2_with fail
  refine (heldObjS_nil k hI _).mono ?_
  rintro e w5 ⟨rfl, rfl⟩
  go_wp2_with fail
  refine hcall.out.mono ?_
  rintro e w5 ⟨rfl, rfl⟩
  go_wp2_with fail
  go_ret
  exact ⟨rfl, bb.out⟩
end Go.Proofs.Ytaaflpklbhjepaa

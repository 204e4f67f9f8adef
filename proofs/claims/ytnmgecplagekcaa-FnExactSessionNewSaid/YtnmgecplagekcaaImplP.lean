/-
  The program's WorldNew where the numbers make no World.
-/
import Derived.Test.YtnmgecplagekcaaImplN
namespace Go.Proofs.Ytnmgecplagekcaa
open Go.RowKit
set_option linter.unusedVariables false

set_option maxRecDepth 100000 in
set_option maxHeartbeats 4000000 in
theorem iworldNew_no (b p m : Int) (g : ¬ Geo b p m) (w : World) :
    Calls Try.prog 10 #[.int .i64 b, .int .i64 p, .int .i64 m] w fun e w' => e = .returned (.tuple #[zeroS.val zeroD, .bool false]) ∧ Below w.heap.size w w' := by
  have g' : ¬ (baseB b = true ∧ inB p 1 12 = true ∧ inB m 1 3 = true) := fun h => g (geo_iff.2 h)
  clear g
  have R2 := box_new w (.cells #[.int .i64 0, .int .i64 0, .slice none 0 0, .slice none 0 0, .slice none 0 0, .slice none 0 0, .int .i64 0, .int .i64 0, .slice none 0 0] 29)
  have n0 := cell_of_heap R2 0 _ rfl
  have n1 := cell_of_heap R2 1 _ rfl
  have n2 := cell_of_heap R2 2 _ rfl
  have n3 := cell_of_heap R2 3 _ rfl
  have n4 := cell_of_heap R2 4 _ rfl
  have n5 := cell_of_heap R2 5 _ rfl
  have n6 := cell_of_heap R2 6 _ rfl
  have n7 := cell_of_heap R2 7 _ rfl
  have n8 := cell_of_heap R2 8 _ rfl
  clear R2
  cases h1 : baseB b with
  | false =>
    have cb := Lib.hid (fun w => baseOk_eq h1 w)
    clear g'
    go_enter Try.func10, Try.ntmps10
    go_wp2_with (first
      | (go_at_call 18; refine (cb.out _).mono ?_; rintro e w' ⟨rfl, rfl⟩))
    refine bodyPost_ret (v := .tuple #[zeroS.val zeroD, .bool false]) (by simp [results, Try.results10, go_sem, n0, n1, n2, n3, n4, n5, n6, n7, n8, Shape.val, zeroS, zeroD]) rfl ?_
    exact ⟨rfl, below_box w _⟩
  | true =>
    have cb := Lib.hid (fun w => baseOk_eq h1 w)
    cases h2 : inB p 1 12 with
    | false =>
      have cp := Lib.hid (fun w => pagesOk_eq h2 w)
      clear g'
      go_enter Try.func10, Try.ntmps10
      go_wp2_with (first
        | (go_at_call 18; refine (cb.out _).mono ?_; rintro e w' ⟨rfl, rfl⟩)
        | (go_at_call 19; refine (cp.out _).mono ?_; rintro e w' ⟨rfl, rfl⟩))
      refine bodyPost_ret (v := .tuple #[zeroS.val zeroD, .bool false]) (by simp [results, Try.results10, go_sem, n0, n1, n2, n3, n4, n5, n6, n7, n8, Shape.val, zeroS, zeroD]) rfl ?_
      exact ⟨rfl, below_box w _⟩
    | true =>
      have cp := Lib.hid (fun w => pagesOk_eq h2 w)
      have h3 : inB m 1 3 = false := by
        cases h3 : inB m 1 3 with
        | false => rfl
        | true => exact absurd ⟨h1, h2, h3⟩ g'
      have cm := Lib.hid (fun w => isIn_eq h3 w)
      clear g'
      go_enter Try.func10, Try.ntmps10
      go_wp2_with (first
        | (go_at_call 18; refine (cb.out _).mono ?_; rintro e w' ⟨rfl, rfl⟩)
        | (go_at_call 19; refine (cp.out _).mono ?_; rintro e w' ⟨rfl, rfl⟩)
        | (go_at_call 20; refine (cm.out _).mono ?_; rintro e w' ⟨rfl, rfl⟩))
      refine bodyPost_ret (v := .tuple #[zeroS.val zeroD, .bool false]) (by simp [results, Try.results10, go_sem, n0, n1, n2, n3, n4, n5, n6, n7, n8, Shape.val, zeroS, zeroD]) rfl ?_
      exact ⟨rfl, below_box w _⟩
end Go.Proofs.Ytnmgecplagekcaa

/-
  The contracts of the laws' eqLog, eqSession where both sides read alike, and of markSession, heldSession.
-/
import Derived.Test.YtnmgecplagekcaaSesA
import Derived.Test.YtnmgecplagekcaaMarkW
import Derived.Test.YtnmgecplagekcaaWEq
namespace Go.Proofs.Ytnmgecplagekcaa
open Go.RowKit
set_option linter.unusedVariables false

set_option maxHeartbeats 1000000 in
theorem eqLog_zero (w : World) : Calls Try.prog 13 #[.agg #[.string ⟨#[]⟩, .int .i64 0, .int .i64 0, .bool false], .agg #[.string ⟨#[]⟩, .int .i64 0, .int .i64 0, .bool false]] w fun e w' => e = .returned (.bool true) ∧ Below w.heap.size w w' := by
  have bb := Lib.hid (below_trans (below_box w (.cells #[.string ⟨#[]⟩, .int .i64 0, .int .i64 0, .bool false] 31)) (below_box (w.alloc (.cells #[.string ⟨#[]⟩, .int .i64 0, .int .i64 0, .bool false] 31)) (.cells #[.string ⟨#[]⟩, .int .i64 0, .int .i64 0, .bool false] 31)))
  go_enter Try.func13, Try.ntmps13
  go_wp2_with fail
  go_ret
  exact ⟨rfl, bb.out⟩

set_option maxRecDepth 100000 in
set_option maxHeartbeats 4000000 in
theorem eqSes_same (S S' : Shape) (D : WD) (w : World) (h1 : RdW w (S.val D) D) (h2 : RdW w (S'.val D) D) :
    Calls Try.prog 6 #[S.ses D, S'.ses D] w fun e w' => e = .returned (.bool true) ∧ Below w.heap.size w w' := by
  obtain ⟨vw, vd, vs, vm, vg, sv, mv⟩ := S
  obtain ⟨vw', vd', vs', vm', vg', sv', mv'⟩ := S'
  unfold Shape.val at h1 h2
  unfold Shape.ses
  have p1 := box_new w (.cells #[.int .i64 D.base, .int .i64 D.pages, vw, vd, vs, vm, .int .i64 D.phase, .int .i64 D.next, vg, .string ⟨#[]⟩, .int .i64 0, .int .i64 0, .bool false] 33)
  have b1 := below_box w (.cells #[.int .i64 D.base, .int .i64 D.pages, vw, vd, vs, vm, .int .i64 D.phase, .int .i64 D.next, vg, .string ⟨#[]⟩, .int .i64 0, .int .i64 0, .bool false] 33)
  have p2 := Lib.hid (box_new (w.alloc (.cells #[.int .i64 D.base, .int .i64 D.pages, vw, vd, vs, vm, .int .i64 D.phase, .int .i64 D.next, vg, .string ⟨#[]⟩, .int .i64 0, .int .i64 0, .bool false] 33)) (.cells #[.int .i64 D.base, .int .i64 D.pages, vw', vd', vs', vm', .int .i64 D.phase, .int .i64 D.next, vg', .string ⟨#[]⟩, .int .i64 0, .int .i64 0, .bool false] 33))
  have b2 := below_box (w.alloc (.cells #[.int .i64 D.base, .int .i64 D.pages, vw, vd, vs, vm, .int .i64 D.phase, .int .i64 D.next, vg, .string ⟨#[]⟩, .int .i64 0, .int .i64 0, .bool false] 33)) (.cells #[.int .i64 D.base, .int .i64 D.pages, vw', vd', vs', vm', .int .i64 D.phase, .int .i64 D.next, vg', .string ⟨#[]⟩, .int .i64 0, .int .i64 0, .bool false] 33)
  have q1 := Lib.hid (heap_below b2 p1)
  have bb := Lib.hid (below_trans b1 b2)
  have r1 := Lib.hid (h1.below bb.out)
  have r2 := Lib.hid (h2.below bb.out)
  rw [World.size_alloc] at p2
  clear h1 h2 p1 b1 b2
  go_enter Try.func6, Try.ntmps6
  go_wp2_with fail
  refine (eqWorld_same _ _ D _ r1.out r2.out).mono ?_
  rintro e w3 ⟨rfl, b3⟩
  have s1 := heap_below b3 q1.out
  have s2 := heap_below b3 p2.out
  have b4 := Lib.hid (below_trans bb.out b3)
  have f9 := cell_of_heap s1 9 _ rfl
  have g9 := cell_of_heap s2 9 _ rfl
  have f10 := cell_of_heap s1 10 _ rfl
  have g10 := cell_of_heap s2 10 _ rfl
  have f11 := cell_of_heap s1 11 _ rfl
  have g11 := cell_of_heap s2 11 _ rfl
  have f12 := cell_of_heap s1 12 _ rfl
  have g12 := cell_of_heap s2 12 _ rfl
  clear s1 s2 b3
  go_wp2_with fail
  refine (eqLog_zero _).mono ?_
  rintro e w5 ⟨rfl, b5⟩
  have b6 := Lib.hid (below_trans b4.out b5)
  clear b5 f9 f10 f11 f12 g9 g10 g11 g12
  go_wp2_with fail
  go_ret
  exact ⟨rfl, b6.out⟩

set_option maxRecDepth 100000 in
set_option maxHeartbeats 4000000 in
theorem markSes_any (base : Nat) (S : Shape) (D : WD) (k : Int) (hm : Markable D) (hk0 : 0 ≤ k) (hk : k ≤ 10000000000) (w : World) (h : OwnW w base S D) :
    Calls Try.prog 7 #[S.ses D, .int .i64 k] w fun e w' => e = .returned (.int .i64 (mk5 D k)) ∧ OwnW w' base S (markD D k) ∧ Chg (blks S.all) w w' := by
  have hlt := Lib.hid h.lt
  have bb := Lib.hid (below_box w (.cells #[.int .i64 D.base, .int .i64 D.pages, S.vw, S.vd, S.vs, S.vm, .int .i64 D.phase, .int .i64 D.next, S.vg, .string ⟨#[]⟩, .int .i64 0, .int .i64 0, .bool false] 33))
  have h' := Lib.hid (h.below bb.out)
  have hc := Lib.hid (fun w => markWorld_any base S D k hm hk0 hk w)
  clear h hm
  generalize mk5 D k = M at *
  obtain ⟨vw, vd, vs, vm, vg, sv, mv⟩ := S
  unfold Shape.val at hc
  unfold Shape.ses
  go_enter Try.func7, Try.ntmps7
  go_wp2_with fail
  refine (hc.out _ h'.out).mono ?_
  rintro e w1 ⟨rfl, h1, c1⟩
  have H := Lib.hid (And.intro h1 ((Chg.of_below bb.out _).trans c1))
  clear h1 c1
  go_wp2_with fail
  go_ret
  exact ⟨rfl, H.out⟩

set_option maxRecDepth 100000 in
set_option maxHeartbeats 4000000 in
theorem heldSes_yes (S : Shape) (D : WD) (k : Int) (hm : Markable D) (hk0 : 0 ≤ k) (hk : k ≤ 10000000000) (w : World) (hr : RdW w (S.val D) (markD D k)) :
    Calls Try.prog 8 #[S.ses D, .int .i64 k] w fun e w' => e = .returned (.int .i64 (mk5 D k)) ∧ Below w.heap.size w w' := by
  have hM := mk_bd hm hk0 hk
  obtain ⟨-, -, -, -, hM0, -⟩ := hM
  have bb := Lib.hid (below_box w (.cells #[.int .i64 D.base, .int .i64 D.pages, S.vw, S.vd, S.vs, S.vm, .int .i64 D.phase, .int .i64 D.next, S.vg, .string ⟨#[]⟩, .int .i64 0, .int .i64 0, .bool false] 33))
  have h' := Lib.hid (hr.below bb.out)
  have hc := Lib.hid (fun v w => heldWorld_yes v D k hm hk0 hk w)
  clear hr hm
  generalize mk5 D k = M at *
  obtain ⟨vw, vd, vs, vm, vg, sv, mv⟩ := S
  unfold Shape.val at h'
  unfold Shape.ses
  go_enter Try.func8, Try.ntmps8
  go_wp2_with fail
  refine (hc.out _ _ h'.out).mono ?_
  rintro e w1 ⟨rfl, b1⟩
  have H := Lib.hid (below_trans bb.out b1)
  clear b1
  go_wp2_with fail
  go_ret
  exact ⟨rfl, H.out⟩
end Go.Proofs.Ytnmgecplagekcaa

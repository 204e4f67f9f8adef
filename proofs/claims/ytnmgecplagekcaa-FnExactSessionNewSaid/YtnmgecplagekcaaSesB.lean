/-
  The contract of the program's SessionNew.
-/
import Derived.Test.YtnmgecplagekcaaSesA
import Derived.Test.YtnmgecplagekcaaImplQ
import Derived.Deep.RegionWith
namespace Go.Proofs.Ytnmgecplagekcaa
open Go.RowKit
set_option linter.unusedVariables false

set_option maxRecDepth 100000 in
set_option maxHeartbeats 8000000 in
theorem iSesNew_any (b p m : Int) (w : World) :
    Calls Try.prog 5 #[.int .i64 b, .int .i64 p, .int .i64 m] w fun e w' => ∃ S D f, NewIs b p m D f ∧ e = .returned (.tuple #[S.ses D, .bool f]) ∧ OwnW w' w.heap.size S D ∧ Below w.heap.size w w' := by
  have hI := Lib.hid (fun w => iworldNew_any b p m w)
  have x0 := Lib.hid (box_new w (.cells #[.int .i64 0, .int .i64 0, .slice none 0 0, .slice none 0 0, .slice none 0 0, .slice none 0 0, .int .i64 0, .int .i64 0, .slice none 0 0, .string ⟨#[]⟩, .int .i64 0, .int .i64 0, .bool false] 33))
  go_enter Try.func5, Try.ntmps5
  go_wp2_with fail
  refine (hI.out _).mono ?_
  rintro e w1 ⟨S, D, f, hn1, rfl, h1, b1⟩
  obtain ⟨a1, k1, c1, d1, l1, e1, s1, n1, o1, m1, q1, r1, y1, z1, u1, sv1, mv1, rfl⟩ := h1.lits
  have hn := Lib.hid hn1
  have X1 := Lib.hid (heap_below (below_box w1 (.cells #[.int .i64 D.base, .int .i64 D.pages, .slice a1 k1 c1, .slice d1 l1 e1, .slice s1 n1 o1, .slice m1 q1 r1, .int .i64 D.phase, .int .i64 D.next, .slice y1 z1 u1] 29)) (heap_below b1 x0.out))
  have Y1 := Lib.hid (box_new w1 (.cells #[.int .i64 D.base, .int .i64 D.pages, .slice a1 k1 c1, .slice d1 l1 e1, .slice s1 n1 o1, .slice m1 q1 r1, .int .i64 D.phase, .int .i64 D.next, .slice y1 z1 u1] 29))
  have H := Lib.hid (And.intro (h1.below (below_box w1 (.cells #[.int .i64 D.base, .int .i64 D.pages, .slice a1 k1 c1, .slice d1 l1 e1, .slice s1 n1 o1, .slice m1 q1 r1, .int .i64 D.phase, .int .i64 D.next, .slice y1 z1 u1] 29))) (below_trans b1 (below_box w1 (.cells #[.int .i64 D.base, .int .i64 D.pages, .slice a1 k1 c1, .slice d1 l1 e1, .slice s1 n1 o1, .slice m1 q1 r1, .int .i64 D.phase, .int .i64 D.next, .slice y1 z1 u1] 29))))
  have g0x := cell_of_heap Y1.out 0 _ rfl
  have g1x := cell_of_heap Y1.out 1 _ rfl
  have g2x := cell_of_heap Y1.out 2 _ rfl
  have g3x := cell_of_heap Y1.out 3 _ rfl
  have g4x := cell_of_heap Y1.out 4 _ rfl
  have g5x := cell_of_heap Y1.out 5 _ rfl
  have g6x := cell_of_heap Y1.out 6 _ rfl
  have g7x := cell_of_heap Y1.out 7 _ rfl
  have g8x := cell_of_heap Y1.out 8 _ rfl
  clear hn1 h1 b1
  dsimp only [Shape.val]
  go_upto_region 2 with (fail)
  generalize hW : w1.alloc (.cells #[.int .i64 D.base, .int .i64 D.pages, .slice a1 k1 c1, .slice d1 l1 e1, .slice s1 n1 o1, .slice m1 q1 r1, .int .i64 D.phase, .int .i64 D.next, .slice y1 z1 u1] 29) = W at *
  go_region_with (refine (logNew_any _).mono ?_; rintro e w3 ⟨rfl, b0⟩; have b3 : Below W.heap.size W w3 := ⟨b0.os, b0.tape, b0.output, b0.size, b0.block⟩; clear b0; have X3 := heap_below b3 X1.out; have Y3 := heap_below b3 Y1.out; have n0x := cell_of_heap X3 0 _ rfl; have z0x := frozen_of_heap X3 0; have n1x := cell_of_heap X3 1 _ rfl; have z1x := frozen_of_heap X3 1; have n2x := cell_of_heap X3 2 _ rfl; have z2x := frozen_of_heap X3 2; have n3x := cell_of_heap X3 3 _ rfl; have z3x := frozen_of_heap X3 3; have n4x := cell_of_heap X3 4 _ rfl; have z4x := frozen_of_heap X3 4; have n5x := cell_of_heap X3 5 _ rfl; have z5x := frozen_of_heap X3 5; have n6x := cell_of_heap X3 6 _ rfl; have z6x := frozen_of_heap X3 6; have n7x := cell_of_heap X3 7 _ rfl; have z7x := frozen_of_heap X3 7; have n8x := cell_of_heap X3 8 _ rfl; have z8x := frozen_of_heap X3 8; have n9x := cell_of_heap X3 9 _ rfl; have z9x := frozen_of_heap X3 9; have n10x := cell_of_heap X3 10 _ rfl; have z10x := frozen_of_heap X3 10; have n11x := cell_of_heap X3 11 _ rfl; have z11x := frozen_of_heap X3 11; have n12x := cell_of_heap X3 12 _ rfl; have z12x := frozen_of_heap X3 12; have h0x := cell_of_heap Y3 0 _ rfl; have h1x := cell_of_heap Y3 1 _ rfl; have h2x := cell_of_heap Y3 2 _ rfl; have h3x := cell_of_heap Y3 3 _ rfl; have h4x := cell_of_heap Y3 4 _ rfl; have h5x := cell_of_heap Y3 5 _ rfl; have h6x := cell_of_heap Y3 6 _ rfl; have h7x := cell_of_heap Y3 7 _ rfl; have h8x := cell_of_heap Y3 8 _ rfl; have H3 := Lib.hid (And.intro (H.out.1.below b3) (below_trans H.out.2 b3)); clear b3 X3 Y3)
  all_goals clear H g0x g1x g2x g3x g4x g5x g6x g7x g8x h0x h1x h2x h3x h4x h5x h6x h7x h8x
  all_goals go_wp2_with fail
  all_goals (
   refine bodyPost_ret (v := .tuple #[.agg #[.int .i64 D.base, .int .i64 D.pages, .slice a1 k1 c1, .slice d1 l1 e1, .slice s1 n1 o1, .slice m1 q1 r1, .int .i64 D.phase, .int .i64 D.next, .slice y1 z1 u1, .string ⟨#[]⟩, .int .i64 0, .int .i64 0, .bool false], .bool f]) (by simp [results, Try.results5, go_sem, n0x, n1x, n2x, n3x, n4x, n5x, n6x, n7x, n8x, n9x, n10x, n11x, n12x]) rfl ?_
   obtain ⟨hS, hb⟩ := H3.out
   simp only [World.size_alloc] at hS
   exact ⟨_, D, f, hn.out, rfl, new_fin hS hb ((((((((((((((Chg.refl [w.heap.size] _).put (b := w.heap.size) (by simp) 0 _).put (b := w.heap.size) (by simp) 1 _).put (b := w.heap.size) (by simp) 2 _).put (b := w.heap.size) (by simp) 3 _).put (b := w.heap.size) (by simp) 4 _).put (b := w.heap.size) (by simp) 5 _).put (b := w.heap.size) (by simp) 6 _).put (b := w.heap.size) (by simp) 7 _).put (b := w.heap.size) (by simp) 8 _).put (b := w.heap.size) (by simp) 9 _).put (b := w.heap.size) (by simp) 10 _).put (b := w.heap.size) (by simp) 11 _).put (b := w.heap.size) (by simp) 12 _)⟩)
end Go.Proofs.Ytnmgecplagekcaa

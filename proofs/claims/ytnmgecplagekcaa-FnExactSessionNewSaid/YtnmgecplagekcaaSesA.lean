/-
  The contracts of SessionNew: the model's, and the program's (LogNew with it).
-/
import Derived.Test.YtnmgecplagekcaaSNew2
import Derived.Test.YtnmgecplagekcaaAppG
namespace Go.Proofs.Ytnmgecplagekcaa
open Go.RowKit
set_option linter.unusedVariables false

/-- A Session of a World and of a Log without bytes. -/
def Shape.ses (S : Shape) (D : WD) : Value := .agg #[.int .i64 D.base, .int .i64 D.pages, S.vw, S.vd, S.vs, S.vm, .int .i64 D.phase, .int .i64 D.next, S.vg, .string ⟨#[]⟩, .int .i64 0, .int .i64 0, .bool false]

set_option maxRecDepth 100000 in
set_option maxHeartbeats 4000000 in
theorem sSesNew_any (b p m : Int) (w : World) :
    Calls Try.prog 4 #[.int .i64 b, .int .i64 p, .int .i64 m] w fun e w' => ∃ S D f, NewIs b p m D f ∧ e = .returned (.tuple #[S.ses D, .bool f]) ∧ OwnW w' w.heap.size S D ∧ Below w.heap.size w w' := by
  have hI := Lib.hid (fun w => sworldNew_any b p m w)
  have x0 := Lib.hid (box_new w (.cells #[.int .i64 0, .int .i64 0, .slice none 0 0, .slice none 0 0, .slice none 0 0, .slice none 0 0, .int .i64 0, .int .i64 0, .slice none 0 0, .string ⟨#[]⟩, .int .i64 0, .int .i64 0, .bool false] 33))
  go_enter Try.func4, Try.ntmps4
  go_wp2_with fail
  refine (hI.out _).mono ?_
  rintro e w1 ⟨S, D, f, hn1, rfl, h1, b1⟩
  obtain ⟨a1, k1, c1, d1, l1, e1, s1, n1, o1, m1, q1, r1, y1, z1, u1, sv1, mv1, rfl⟩ := h1.lits
  have hn := Lib.hid hn1
  have X1 := heap_below (below_box w1 (.cells #[.int .i64 D.base, .int .i64 D.pages, .slice a1 k1 c1, .slice d1 l1 e1, .slice s1 n1 o1, .slice m1 q1 r1, .int .i64 D.phase, .int .i64 D.next, .slice y1 z1 u1] 29)) (heap_below b1 x0.out)
  have n0x := cell_of_heap X1 0 _ rfl
  have z0x := frozen_of_heap X1 0
  have n1x := cell_of_heap X1 1 _ rfl
  have z1x := frozen_of_heap X1 1
  have n2x := cell_of_heap X1 2 _ rfl
  have z2x := frozen_of_heap X1 2
  have n3x := cell_of_heap X1 3 _ rfl
  have z3x := frozen_of_heap X1 3
  have n4x := cell_of_heap X1 4 _ rfl
  have z4x := frozen_of_heap X1 4
  have n5x := cell_of_heap X1 5 _ rfl
  have z5x := frozen_of_heap X1 5
  have n6x := cell_of_heap X1 6 _ rfl
  have z6x := frozen_of_heap X1 6
  have n7x := cell_of_heap X1 7 _ rfl
  have z7x := frozen_of_heap X1 7
  have n8x := cell_of_heap X1 8 _ rfl
  have z8x := frozen_of_heap X1 8
  have n9x := cell_of_heap X1 9 _ rfl
  have z9x := frozen_of_heap X1 9
  have n10x := cell_of_heap X1 10 _ rfl
  have z10x := frozen_of_heap X1 10
  have n11x := cell_of_heap X1 11 _ rfl
  have z11x := frozen_of_heap X1 11
  have n12x := cell_of_heap X1 12 _ rfl
  have z12x := frozen_of_heap X1 12
  have Y1 := box_new w1 (.cells #[.int .i64 D.base, .int .i64 D.pages, .slice a1 k1 c1, .slice d1 l1 e1, .slice s1 n1 o1, .slice m1 q1 r1, .int .i64 D.phase, .int .i64 D.next, .slice y1 z1 u1] 29)
  have g0x := cell_of_heap Y1 0 _ rfl
  have g1x := cell_of_heap Y1 1 _ rfl
  have g2x := cell_of_heap Y1 2 _ rfl
  have g3x := cell_of_heap Y1 3 _ rfl
  have g4x := cell_of_heap Y1 4 _ rfl
  have g5x := cell_of_heap Y1 5 _ rfl
  have g6x := cell_of_heap Y1 6 _ rfl
  have g7x := cell_of_heap Y1 7 _ rfl
  have g8x := cell_of_heap Y1 8 _ rfl
  have H := Lib.hid (And.intro (h1.below (below_box w1 (.cells #[.int .i64 D.base, .int .i64 D.pages, .slice a1 k1 c1, .slice d1 l1 e1, .slice s1 n1 o1, .slice m1 q1 r1, .int .i64 D.phase, .int .i64 D.next, .slice y1 z1 u1] 29))) (below_trans b1 (below_box w1 (.cells #[.int .i64 D.base, .int .i64 D.pages, .slice a1 k1 c1, .slice d1 l1 e1, .slice s1 n1 o1, .slice m1 q1 r1, .int .i64 D.phase, .int .i64 D.next, .slice y1 z1 u1] 29))))
  clear hn1 h1 b1 X1 Y1
  dsimp only [Shape.val]
  go_wp2_with fail
  refine bodyPost_ret (v := .tuple #[.agg #[.int .i64 D.base, .int .i64 D.pages, .slice a1 k1 c1, .slice d1 l1 e1, .slice s1 n1 o1, .slice m1 q1 r1, .int .i64 D.phase, .int .i64 D.next, .slice y1 z1 u1, .string ⟨#[]⟩, .int .i64 0, .int .i64 0, .bool false], .bool f]) (by simp [results, Try.results4, go_sem, n0x, n1x, n2x, n3x, n4x, n5x, n6x, n7x, n8x, n9x, n10x, n11x, n12x]) rfl ?_
  obtain ⟨hS, hb⟩ := H.out
  simp only [World.size_alloc] at hS
  exact ⟨_, D, f, hn.out, rfl, new_fin hS hb ((((((((((((((Chg.refl [w.heap.size] _).put (b := w.heap.size) (by simp) 0 _).put (b := w.heap.size) (by simp) 1 _).put (b := w.heap.size) (by simp) 2 _).put (b := w.heap.size) (by simp) 3 _).put (b := w.heap.size) (by simp) 4 _).put (b := w.heap.size) (by simp) 5 _).put (b := w.heap.size) (by simp) 6 _).put (b := w.heap.size) (by simp) 7 _).put (b := w.heap.size) (by simp) 8 _).put (b := w.heap.size) (by simp) 9 _).put (b := w.heap.size) (by simp) 10 _).put (b := w.heap.size) (by simp) 11 _).put (b := w.heap.size) (by simp) 12 _)⟩

theorem logNew_any (w : World) : Calls Try.prog 11 #[] w fun e w' => e = .returned (.agg #[.string ⟨#[]⟩, .int .i64 0, .int .i64 0, .bool false]) ∧ Below w.heap.size w w' := by
  have x0 := box_new w (.cells #[.string ⟨#[]⟩, .int .i64 0, .int .i64 0, .bool false] 31)
  have n0 := cell_of_heap x0 0 _ rfl
  have n1 := cell_of_heap x0 1 _ rfl
  have n2 := cell_of_heap x0 2 _ rfl
  have n3 := cell_of_heap x0 3 _ rfl
  have z0 := frozen_of_heap x0 0
  have z1 := frozen_of_heap x0 1
  have z2 := frozen_of_heap x0 2
  have z3 := frozen_of_heap x0 3
  have bb := Lib.hid (below_box w (.cells #[.string ⟨#[]⟩, .int .i64 0, .int .i64 0, .bool false] 31))
  clear x0
  go_enter Try.func11, Try.ntmps11
  go_wp2_with fail
  refine bodyPost_ret (v := .agg #[.string ⟨#[]⟩, .int .i64 0, .int .i64 0, .bool false]) (by simp [results, Try.results11, go_sem, n0, n1, n2, n3]) rfl ?_
  exact ⟨rfl, bb.out⟩
end Go.Proofs.Ytnmgecplagekcaa

/-
  The walk of FnExactEvText.
-/
import Derived.Test.YtjldjeokcpjgkaaDoorTxTo
namespace Go.Proofs.YtjldjeokcpjgkaaDoor
open Go.RowKit
set_option linter.unusedVariables false

set_option maxRecDepth 100000 in
set_option maxHeartbeats 4000000 in
theorem law_evText (E : EvD) (hf : FitE E) (w : World) (ht : TabP w) : Calls Tryd.prog 3 #[.agg #[.int .i64 E.k, .int .i64 E.ok, .int .i64 E.m, .int .i64 E.h, .int .i64 E.g, .int .i64 E.i, .int .i64 E.n, .int .i64 E.v, .int .i64 E.en, .int .i64 E.base, .int .i64 E.pages]] w fun e w' => e = .returned (.bool true) ∧ Below w.heap.size w w' := by
  have hf' := Lib.hid hf
  have bb := Lib.hid (below_box w (.cells #[.int .i64 E.k, .int .i64 E.ok, .int .i64 E.m, .int .i64 E.h, .int .i64 E.g, .int .i64 E.i, .int .i64 E.n, .int .i64 E.v, .int .i64 E.en, .int .i64 E.base, .int .i64 E.pages] 25))
  have bx := Lib.hid (box_new w (.cells #[.int .i64 E.k, .int .i64 E.ok, .int .i64 E.m, .int .i64 E.h, .int .i64 E.g, .int .i64 E.i, .int .i64 E.n, .int .i64 E.v, .int .i64 E.en, .int .i64 E.base, .int .i64 E.pages] 25))
  have ht' := Lib.hid (ht.below bb.out)
  clear hf ht
  go_enter Tryd.func3, Tryd.ntmps3
  go_upto_region 1 with fail
  generalize w.alloc (.cells #[.int .i64 E.k, .int .i64 E.ok, .int .i64 E.m, .int .i64 E.h, .int .i64 E.g, .int .i64 E.i, .int .i64 E.n, .int .i64 E.v, .int .i64 E.en, .int .i64 E.base, .int .i64 E.pages] 25) = W at *
  have c0 := cell_of_heap bx.out 0 _ rfl
  have c1 := cell_of_heap bx.out 1 _ rfl
  have c2 := cell_of_heap bx.out 2 _ rfl
  have c3 := cell_of_heap bx.out 3 _ rfl
  have c4 := cell_of_heap bx.out 4 _ rfl
  have c5 := cell_of_heap bx.out 5 _ rfl
  have c6 := cell_of_heap bx.out 6 _ rfl
  have c7 := cell_of_heap bx.out 7 _ rfl
  have c8 := cell_of_heap bx.out 8 _ rfl
  have c9 := cell_of_heap bx.out 9 _ rfl
  have c10 := cell_of_heap bx.out 10 _ rfl
  go_wp2_with fail
  refine (toEv_any E W).mono ?_
  rintro e w1 ⟨rfl, b1⟩
  have h1 := Lib.hid (heap_below b1 bx.out)
  have bb1 := Lib.hid (below_trans bb.out b1)
  have ht1 := Lib.hid (ht'.out.below b1)
  clear b1 c0 c1 c2 c3 c4 c5 c6 c7 c8 c9 c10
  go_wp2_with fail
  refine (sevText_any E hf'.out w1).mono ?_
  rintro e w2 ⟨hq, b2⟩
  have hS := Lib.hid hq
  obtain ⟨X, rfl, _⟩ := hq
  have h2 := Lib.hid (heap_below b2 h1.out)
  have bb2 := Lib.hid (below_trans bb1.out b2)
  have ht2 := Lib.hid (ht1.out.below b2)
  clear b2
  have c0 := cell_of_heap h2.out 0 _ rfl
  have c1 := cell_of_heap h2.out 1 _ rfl
  have c2 := cell_of_heap h2.out 2 _ rfl
  have c3 := cell_of_heap h2.out 3 _ rfl
  have c4 := cell_of_heap h2.out 4 _ rfl
  have c5 := cell_of_heap h2.out 5 _ rfl
  have c6 := cell_of_heap h2.out 6 _ rfl
  have c7 := cell_of_heap h2.out 7 _ rfl
  have c8 := cell_of_heap h2.out 8 _ rfl
  have c9 := cell_of_heap h2.out 9 _ rfl
  have c10 := cell_of_heap h2.out 10 _ rfl
  go_wp2_with fail
  refine (toEv_any E w2).mono ?_
  rintro e w3 ⟨rfl, b3⟩
  have bb3 := Lib.hid (below_trans bb2.out b3)
  have ht3 := Lib.hid (ht2.out.below b3)
  clear b3 c0 c1 c2 c3 c4 c5 c6 c7 c8 c9 c10
  go_wp2_with fail
  refine (ievText_any E hf'.out w3 ht3.out).mono ?_
  rintro e w4 ⟨hq, b4⟩
  obtain rfl := StrIs.unique hS.out hq
  have bb4 := Lib.hid (below_trans bb3.out b4)
  clear hq b4
  go_wp2_with fail
  go_ret
  exact ⟨rfl, bb4.out⟩
end Go.Proofs.YtjldjeokcpjgkaaDoor

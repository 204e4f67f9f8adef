/-
  An operation's and an event's copy (laws.toOp, laws.toEv).
-/
import Derived.Test.YtjldjeokcpjgkaaDoorTxE
namespace Go.Proofs.YtjldjeokcpjgkaaDoor
open Go.RowKit
set_option linter.unusedVariables false
set_option linter.unusedSimpArgs false

set_option maxRecDepth 100000 in
set_option maxHeartbeats 4000000 in
theorem toOp_ev (E : EvD) (w : World) : Calls Tryd.prog 24 #[.agg #[.int .i64 E.ok, .int .i64 E.m, .int .i64 E.h, .int .i64 E.g, .int .i64 E.i, .int .i64 E.n, .int .i64 E.v]] w fun e w' => e = .returned (.agg #[.int .i64 E.ok, .int .i64 E.m, .int .i64 E.h, .int .i64 E.g, .int .i64 E.i, .int .i64 E.n, .int .i64 E.v]) ∧ Below w.heap.size w w' := by
  obtain ⟨hA0, hR0, hC0, bb0⟩ := box3 w (.cells #[.int .i64 E.ok, .int .i64 E.m, .int .i64 E.h, .int .i64 E.g, .int .i64 E.i, .int .i64 E.n, .int .i64 E.v] 23) (.cells #[.int .i64 0, .int .i64 0, .int .i64 0, .int .i64 0, .int .i64 0, .int .i64 0, .int .i64 0] 27) (.cells #[.int .i64 0, .int .i64 0, .int .i64 0, .int .i64 0, .int .i64 0, .int .i64 0, .int .i64 0] 27)
  have hA := Lib.hid hA0
  have hR := Lib.hid hR0
  have hC := Lib.hid hC0
  have bb := Lib.hid bb0
  clear hA0 hR0 hC0 bb0
  go_enter Tryd.func24, Tryd.ntmps24
  go_upto_region 2 with fail
  generalize ((w.alloc (.cells #[.int .i64 E.ok, .int .i64 E.m, .int .i64 E.h, .int .i64 E.g, .int .i64 E.i, .int .i64 E.n, .int .i64 E.v] 23)).alloc (.cells #[.int .i64 0, .int .i64 0, .int .i64 0, .int .i64 0, .int .i64 0, .int .i64 0, .int .i64 0] 27)).alloc (.cells #[.int .i64 0, .int .i64 0, .int .i64 0, .int .i64 0, .int .i64 0, .int .i64 0, .int .i64 0] 27) = W at *
  have c0 := cell_of_heap hA.out 0 _ rfl
  have c1 := cell_of_heap hA.out 1 _ rfl
  have c2 := cell_of_heap hA.out 2 _ rfl
  have c3 := cell_of_heap hA.out 3 _ rfl
  have c4 := cell_of_heap hA.out 4 _ rfl
  have c5 := cell_of_heap hA.out 5 _ rfl
  have c6 := cell_of_heap hA.out 6 _ rfl
  have r0 := cell_of_heap hR.out 0 _ rfl
  have rf0 := frozen_of_heap hR.out 0
  have r1 := cell_of_heap hR.out 1 _ rfl
  have rf1 := frozen_of_heap hR.out 1
  have r2 := cell_of_heap hR.out 2 _ rfl
  have rf2 := frozen_of_heap hR.out 2
  have r3 := cell_of_heap hR.out 3 _ rfl
  have rf3 := frozen_of_heap hR.out 3
  have r4 := cell_of_heap hR.out 4 _ rfl
  have rf4 := frozen_of_heap hR.out 4
  have r5 := cell_of_heap hR.out 5 _ rfl
  have rf5 := frozen_of_heap hR.out 5
  have r6 := cell_of_heap hR.out 6 _ rfl
  have rf6 := frozen_of_heap hR.out 6
  have u0 := cell_of_heap hC.out 0 _ rfl
  have uf0 := frozen_of_heap hC.out 0
  have u1 := cell_of_heap hC.out 1 _ rfl
  have uf1 := frozen_of_heap hC.out 1
  have u2 := cell_of_heap hC.out 2 _ rfl
  have uf2 := frozen_of_heap hC.out 2
  have u3 := cell_of_heap hC.out 3 _ rfl
  have uf3 := frozen_of_heap hC.out 3
  have u4 := cell_of_heap hC.out 4 _ rfl
  have uf4 := frozen_of_heap hC.out 4
  have u5 := cell_of_heap hC.out 5 _ rfl
  have uf5 := frozen_of_heap hC.out 5
  have u6 := cell_of_heap hC.out 6 _ rfl
  have uf6 := frozen_of_heap hC.out 6
  go_wp2_with fail
  refine bodyPost_ret (v := .agg #[.int .i64 E.ok, .int .i64 E.m, .int .i64 E.h, .int .i64 E.g, .int .i64 E.i, .int .i64 E.n, .int .i64 E.v]) (by simp [results, Tryd.results24, go_sem, r0, rf0, u0, uf0, r1, rf1, u1, uf1, r2, rf2, u2, uf2, r3, rf3, u3, uf3, r4, rf4, u4, uf4, r5, rf5, u5, uf5, r6, rf6, u6, uf6]) rfl ?_
  refine ⟨rfl, ?_⟩
  repeat (refine Below.setCell ?_ (by simp; try omega) _)
  exact bb.out

set_option maxRecDepth 100000 in
set_option maxHeartbeats 8000000 in
theorem toEv_any (E : EvD) (w : World) : Calls Tryd.prog 8 #[.agg #[.int .i64 E.k, .int .i64 E.ok, .int .i64 E.m, .int .i64 E.h, .int .i64 E.g, .int .i64 E.i, .int .i64 E.n, .int .i64 E.v, .int .i64 E.en, .int .i64 E.base, .int .i64 E.pages]] w fun e w' => e = .returned (.agg #[.int .i64 E.k, .int .i64 E.ok, .int .i64 E.m, .int .i64 E.h, .int .i64 E.g, .int .i64 E.i, .int .i64 E.n, .int .i64 E.v, .int .i64 E.en, .int .i64 E.base, .int .i64 E.pages]) ∧ Below w.heap.size w w' := by
  obtain ⟨hA0, hR0, hC0, bb0⟩ := box3 w (.cells #[.int .i64 E.k, .int .i64 E.ok, .int .i64 E.m, .int .i64 E.h, .int .i64 E.g, .int .i64 E.i, .int .i64 E.n, .int .i64 E.v, .int .i64 E.en, .int .i64 E.base, .int .i64 E.pages] 25) (.cells #[.int .i64 0, .int .i64 0, .int .i64 0, .int .i64 0, .int .i64 0, .int .i64 0, .int .i64 0, .int .i64 0, .int .i64 0, .int .i64 0, .int .i64 0] 29) (.cells #[.int .i64 0, .int .i64 0, .int .i64 0, .int .i64 0, .int .i64 0, .int .i64 0, .int .i64 0, .int .i64 0, .int .i64 0, .int .i64 0, .int .i64 0] 29)
  have hA := Lib.hid hA0
  have hR := Lib.hid hR0
  have hC := Lib.hid hC0
  have bb := Lib.hid bb0
  clear hA0 hR0 hC0 bb0
  go_enter Tryd.func8, Tryd.ntmps8
  go_upto_region 2 with fail
  generalize ((w.alloc (.cells #[.int .i64 E.k, .int .i64 E.ok, .int .i64 E.m, .int .i64 E.h, .int .i64 E.g, .int .i64 E.i, .int .i64 E.n, .int .i64 E.v, .int .i64 E.en, .int .i64 E.base, .int .i64 E.pages] 25)).alloc (.cells #[.int .i64 0, .int .i64 0, .int .i64 0, .int .i64 0, .int .i64 0, .int .i64 0, .int .i64 0, .int .i64 0, .int .i64 0, .int .i64 0, .int .i64 0] 29)).alloc (.cells #[.int .i64 0, .int .i64 0, .int .i64 0, .int .i64 0, .int .i64 0, .int .i64 0, .int .i64 0, .int .i64 0, .int .i64 0, .int .i64 0, .int .i64 0] 29) = W at *
  have c0 := cell_of_heap hA.out 0 _ rfl
  have c1 := cell_of_heap hA.out 1 _ rfl
  have c2 := cell_of_heap hA.out 2 _ rfl
  have c3 := cell_of_heap hA.out 3 _ rfl
  have c4 := cell_of_heap hA.out 4 _ rfl
  have c5 := cell_of_heap hA.out 5 _ rfl
  have c6 := cell_of_heap hA.out 6 _ rfl
  have c7 := cell_of_heap hA.out 7 _ rfl
  have u0 := cell_of_heap hC.out 0 _ rfl
  have uf0 := frozen_of_heap hC.out 0
  have hA1 := Lib.hid ((heap_setCell_other W ⟨w.heap.size + 1 + 1, 0, none⟩ w.heap.size (.int .i64 E.k) (by simp; omega)).trans hA.out)
  have hR1 := Lib.hid ((heap_setCell_other W ⟨w.heap.size + 1 + 1, 0, none⟩ (w.heap.size + 1) (.int .i64 E.k) (by simp)).trans hR.out)
  have hC1 := Lib.hid (heap_setCell_same W (w.heap.size + 1 + 1) 0 _ _ (.int .i64 E.k) hC.out)
  have bb1 := Lib.hid (bb.out.setCell (p := ⟨w.heap.size + 1 + 1, 0, none⟩) (by simp; omega) (.int .i64 E.k))
  go_wp2_with fail
  generalize W.setCell ⟨w.heap.size + 1 + 1, 0, none⟩ (.int .i64 E.k) = W1 at *
  refine (toOp_ev E W1).mono ?_
  rintro e w3 ⟨rfl, b3⟩
  have hA3 := Lib.hid (heap_below b3 hA1.out)
  have hR3 := Lib.hid (heap_below b3 hR1.out)
  have hC3 := Lib.hid (heap_below b3 hC1.out)
  have bb3 := Lib.hid (bb1.out.trans (b3.mono bb1.out.size))
  clear b3 c0 c1 c2 c3 c4 c5 c6 c7 u0 uf0
  have c0 := cell_of_heap hA3.out 0 _ rfl
  have c1 := cell_of_heap hA3.out 1 _ rfl
  have c2 := cell_of_heap hA3.out 2 _ rfl
  have c3 := cell_of_heap hA3.out 3 _ rfl
  have c4 := cell_of_heap hA3.out 4 _ rfl
  have c5 := cell_of_heap hA3.out 5 _ rfl
  have c6 := cell_of_heap hA3.out 6 _ rfl
  have c7 := cell_of_heap hA3.out 7 _ rfl
  have c8 := cell_of_heap hA3.out 8 _ rfl
  have c9 := cell_of_heap hA3.out 9 _ rfl
  have c10 := cell_of_heap hA3.out 10 _ rfl
  have r0 := cell_of_heap hR3.out 0 _ rfl
  have rf0 := frozen_of_heap hR3.out 0
  have r1 := cell_of_heap hR3.out 1 _ rfl
  have rf1 := frozen_of_heap hR3.out 1
  have r2 := cell_of_heap hR3.out 2 _ rfl
  have rf2 := frozen_of_heap hR3.out 2
  have r3 := cell_of_heap hR3.out 3 _ rfl
  have rf3 := frozen_of_heap hR3.out 3
  have r4 := cell_of_heap hR3.out 4 _ rfl
  have rf4 := frozen_of_heap hR3.out 4
  have r5 := cell_of_heap hR3.out 5 _ rfl
  have rf5 := frozen_of_heap hR3.out 5
  have r6 := cell_of_heap hR3.out 6 _ rfl
  have rf6 := frozen_of_heap hR3.out 6
  have r7 := cell_of_heap hR3.out 7 _ rfl
  have rf7 := frozen_of_heap hR3.out 7
  have r8 := cell_of_heap hR3.out 8 _ rfl
  have rf8 := frozen_of_heap hR3.out 8
  have r9 := cell_of_heap hR3.out 9 _ rfl
  have rf9 := frozen_of_heap hR3.out 9
  have r10 := cell_of_heap hR3.out 10 _ rfl
  have rf10 := frozen_of_heap hR3.out 10
  have u0 := cell_of_heap hC3.out 0 _ rfl
  have uf0 := frozen_of_heap hC3.out 0
  have u1 := cell_of_heap hC3.out 1 _ rfl
  have uf1 := frozen_of_heap hC3.out 1
  have u2 := cell_of_heap hC3.out 2 _ rfl
  have uf2 := frozen_of_heap hC3.out 2
  have u3 := cell_of_heap hC3.out 3 _ rfl
  have uf3 := frozen_of_heap hC3.out 3
  have u4 := cell_of_heap hC3.out 4 _ rfl
  have uf4 := frozen_of_heap hC3.out 4
  have u5 := cell_of_heap hC3.out 5 _ rfl
  have uf5 := frozen_of_heap hC3.out 5
  have u6 := cell_of_heap hC3.out 6 _ rfl
  have uf6 := frozen_of_heap hC3.out 6
  have u7 := cell_of_heap hC3.out 7 _ rfl
  have uf7 := frozen_of_heap hC3.out 7
  have u8 := cell_of_heap hC3.out 8 _ rfl
  have uf8 := frozen_of_heap hC3.out 8
  have u9 := cell_of_heap hC3.out 9 _ rfl
  have uf9 := frozen_of_heap hC3.out 9
  have u10 := cell_of_heap hC3.out 10 _ rfl
  have uf10 := frozen_of_heap hC3.out 10
  go_wp2_with fail
  refine bodyPost_ret (v := .agg #[.int .i64 E.k, .int .i64 E.ok, .int .i64 E.m, .int .i64 E.h, .int .i64 E.g, .int .i64 E.i, .int .i64 E.n, .int .i64 E.v, .int .i64 E.en, .int .i64 E.base, .int .i64 E.pages]) (by simp [results, Tryd.results8, go_sem, r0, rf0, u0, uf0, r1, rf1, u1, uf1, r2, rf2, u2, uf2, r3, rf3, u3, uf3, r4, rf4, u4, uf4, r5, rf5, u5, uf5, r6, rf6, u6, uf6, r7, rf7, u7, uf7, r8, rf8, u8, uf8, r9, rf9, u9, uf9, r10, rf10, u10, uf10]) rfl ?_
  refine ⟨rfl, ?_⟩
  repeat (refine Below.setCell ?_ (by simp; try omega) _)
  exact bb3.out
end Go.Proofs.YtjldjeokcpjgkaaDoor

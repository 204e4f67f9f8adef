/-
  The walk of FnExactReadEv.
-/
import Derived.Test.YtjldjeokcpjgkaaDoorTxU
import Derived.Test.YtjldjeokcpjgkaaDoorTxX
import Derived.Test.YtjldjeokcpjgkaaDoorTxR
namespace Go.Proofs.YtjldjeokcpjgkaaDoor
open Go.RowKit
set_option linter.unusedVariables false

set_option maxRecDepth 100000 in
set_option maxHeartbeats 8000000 in
theorem law_readEv (s : ByteArray) (w : World) (ht : TabP w) (m : Int) (hm : w.cell? ⟨0, 0, none⟩ = some (.int .i64 m)) : Calls Tryd.prog 4 #[.string s] w fun e w' => e = .returned (.bool true) ∧ Below w.heap.size w w' := by
  have ht' := Lib.hid ht
  have hm' := Lib.hid hm
  clear ht hm
  by_cases hs : s.size ≤ 1048576
  case neg =>
    have h1 : (1048576 : Int) < (s.size : Int) := by omega
    go_enter Tryd.func4, Tryd.ntmps4
    go_wp2_with fail
    go_ret
    exact ⟨rfl, Below.refl _ _⟩
  have h1 : ¬ (1048576 : Int) < (s.size : Int) := by omega
  have hS := Lib.hid (sread_any s hs)
  have hI := Lib.hid (iread_any s hs)
  generalize s.data.toList = l at *
  go_enter Tryd.func4, Tryd.ntmps4
  go_wp2_with fail
  refine (hS.out w).mono ?_
  rintro e w1 ⟨⟨E, b, rfl, hr1⟩, b1⟩
  have hr1' := Lib.hid hr1
  have b1' := Lib.hid b1
  clear hr1 b1
  dsimp only [EvD.cells]
  go_wp2_with fail
  have bE := Lib.hid (below_box w1 (.cells #[.int .i64 E.k, .int .i64 E.ok, .int .i64 E.m, .int .i64 E.h, .int .i64 E.g, .int .i64 E.i, .int .i64 E.n, .int .i64 E.v, .int .i64 E.en, .int .i64 E.base, .int .i64 E.pages] 29))
  have hE := Lib.hid (box_new w1 (.cells #[.int .i64 E.k, .int .i64 E.ok, .int .i64 E.m, .int .i64 E.h, .int .i64 E.g, .int .i64 E.i, .int .i64 E.n, .int .i64 E.v, .int .i64 E.en, .int .i64 E.base, .int .i64 E.pages] 29))
  generalize w1.alloc (.cells #[.int .i64 E.k, .int .i64 E.ok, .int .i64 E.m, .int .i64 E.h, .int .i64 E.g, .int .i64 E.i, .int .i64 E.n, .int .i64 E.v, .int .i64 E.en, .int .i64 E.base, .int .i64 E.pages] 29) = W1 at *
  have B1 := Lib.hid (below_trans b1'.out bE.out)
  refine (hI.out W1 (ht'.out.below B1.out) m (cell_below B1.out hm'.out)).mono ?_
  rintro e w2 ⟨⟨E2, b2, rfl, hr2⟩, bb2⟩
  obtain ⟨rfl, rfl⟩ := hr1'.out.unique hr2
  have hE2 := Lib.hid (heap_below bb2 hE.out)
  have B2 := Lib.hid (below_trans B1.out bb2)
  clear hr2 bb2 hS hI
  dsimp only [EvD.cells]
  have bG := Lib.hid (below_box w2 (.cells #[.int .i64 E.k, .int .i64 E.ok, .int .i64 E.m, .int .i64 E.h, .int .i64 E.g, .int .i64 E.i, .int .i64 E.n, .int .i64 E.v, .int .i64 E.en, .int .i64 E.base, .int .i64 E.pages] 29))
  have hG := Lib.hid (box_new w2 (.cells #[.int .i64 E.k, .int .i64 E.ok, .int .i64 E.m, .int .i64 E.h, .int .i64 E.g, .int .i64 E.i, .int .i64 E.n, .int .i64 E.v, .int .i64 E.en, .int .i64 E.base, .int .i64 E.pages] 29))
  have B3 := Lib.hid (below_trans B2.out bG.out)
  have hE3 := Lib.hid (heap_below bG.out hE2.out)
  have hne : ¬ w1.heap.size = w2.heap.size := by
    have h1 := hE2.out
    intro e
    rw [e, Array.getElem?_eq_none (Nat.le_refl _)] at h1
    cases h1
  have c0 := cell_of_heap hE3.out 0 _ rfl
  have c1 := cell_of_heap hE3.out 1 _ rfl
  have c2 := cell_of_heap hE3.out 2 _ rfl
  have c3 := cell_of_heap hE3.out 3 _ rfl
  have c4 := cell_of_heap hE3.out 4 _ rfl
  have c5 := cell_of_heap hE3.out 5 _ rfl
  have c6 := cell_of_heap hE3.out 6 _ rfl
  have c7 := cell_of_heap hE3.out 7 _ rfl
  have c8 := cell_of_heap hE3.out 8 _ rfl
  have c9 := cell_of_heap hE3.out 9 _ rfl
  have c10 := cell_of_heap hE3.out 10 _ rfl
  have d0 := cell_of_heap hG.out 0 _ rfl
  have d1 := cell_of_heap hG.out 1 _ rfl
  have d2 := cell_of_heap hG.out 2 _ rfl
  have d3 := cell_of_heap hG.out 3 _ rfl
  have d4 := cell_of_heap hG.out 4 _ rfl
  have d5 := cell_of_heap hG.out 5 _ rfl
  have d6 := cell_of_heap hG.out 6 _ rfl
  have d7 := cell_of_heap hG.out 7 _ rfl
  have d8 := cell_of_heap hG.out 8 _ rfl
  have d9 := cell_of_heap hG.out 9 _ rfl
  have d10 := cell_of_heap hG.out 10 _ rfl
  go_wp2_with fail
  generalize w2.alloc (.cells #[.int .i64 E.k, .int .i64 E.ok, .int .i64 E.m, .int .i64 E.h, .int .i64 E.g, .int .i64 E.i, .int .i64 E.n, .int .i64 E.v, .int .i64 E.en, .int .i64 E.base, .int .i64 E.pages] 29) = W2 at *
  refine (eqEv_same E W2).mono ?_
  rintro e w3 ⟨rfl, b3⟩
  have B4 := Lib.hid (below_trans B3.out b3)
  clear b3 c0 d0 c1 d1 c2 d2 c3 d3 c4 d4 c5 d5 c6 d6 c7 d7 c8 d8 c9 d9 c10 d10
  cases b
  all_goals
    go_wp2_with fail
    go_ret
    exact ⟨rfl, B4.out⟩
end Go.Proofs.YtjldjeokcpjgkaaDoor

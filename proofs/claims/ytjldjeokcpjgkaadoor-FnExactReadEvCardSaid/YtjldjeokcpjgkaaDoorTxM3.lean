/-
  The model's l11make: part 3.
-/
import Derived.Test.YtjldjeokcpjgkaaDoorTxQ
import Derived.StillTailTactics
import Derived.Deep.DeepCutAuto
import Derived.Deep.CutRange
import Derived.Deep.RegionWith
import Derived.Outline
namespace Go.Proofs.YtjldjeokcpjgkaaDoor
open Go.RowKit
set_option linter.unusedVariables false
set_option linter.unusedSimpArgs false

set_option maxRecDepth 100000 in
set_option maxHeartbeats 8000000 in
theorem smake_8 (a b c d : Int) (vn : Value) (w : World) (hn : Rd w vn [a, b, c, d]) : Calls Tryd.prog 30 #[.string ⟨#[108, 101, 110]⟩, vn] w fun e w' => e = .returned (.agg #[.int .i64 1, .int .i64 9, .int .i64 a, .int .i64 b, .int .i64 0, .int .i64 0, .int .i64 0, .int .i64 0, .int .i64 0, .int .i64 0, .int .i64 0]) ∧ Below w.heap.size w w' := by
  obtain ⟨av, cv, rfl, _, hx⟩ := hn
  obtain ⟨b1, o1, rfl, x0⟩ := hx 0 (by simp)
  have x1 : w.cell? ⟨b1, o1 + 1, none⟩ = some (.int .i64 b) := by obtain ⟨b2, o2, h1, h2⟩ := hx 1 (by simp); cases h1; exact h2
  have x2 : w.cell? ⟨b1, o1 + 2, none⟩ = some (.int .i64 c) := by obtain ⟨b2, o2, h1, h2⟩ := hx 2 (by simp); cases h1; exact h2
  have x3 : w.cell? ⟨b1, o1 + 3, none⟩ = some (.int .i64 d) := by obtain ⟨b2, o2, h1, h2⟩ := hx 3 (by simp); cases h1; exact h2
  have x0 : w.cell? ⟨b1, o1, none⟩ = some (.int .i64 a) := x0
  have hb := Lib.hid (below_box w (.cells #[.int .i64 0, .int .i64 0, .int .i64 0, .int .i64 0, .int .i64 0, .int .i64 0, .int .i64 0, .int .i64 0, .int .i64 0, .int .i64 0, .int .i64 0] 29))
  have hR := Lib.hid (box_new w (.cells #[.int .i64 0, .int .i64 0, .int .i64 0, .int .i64 0, .int .i64 0, .int .i64 0, .int .i64 0, .int .i64 0, .int .i64 0, .int .i64 0, .int .i64 0] 29))
  have x0 := cell_below hb.out x0
  have x1 := cell_below hb.out x1
  have x2 := cell_below hb.out x2
  have x3 := cell_below hb.out x3
  have hsz := Lib.hid (World.size_alloc w (.cells #[.int .i64 0, .int .i64 0, .int .i64 0, .int .i64 0, .int .i64 0, .int .i64 0, .int .i64 0, .int .i64 0, .int .i64 0, .int .i64 0, .int .i64 0] 29))
  clear hx
  rw [show [a, b, c, d].length = 4 from rfl]
  go_enter Tryd.func30, Tryd.ntmps30
  go_upto_region 1 with fail
  generalize w.alloc (.cells #[.int .i64 0, .int .i64 0, .int .i64 0, .int .i64 0, .int .i64 0, .int .i64 0, .int .i64 0, .int .i64 0, .int .i64 0, .int .i64 0, .int .i64 0] 29) = W at *
  have hbl := cell_lt x0
  have hbn : ¬ b1 = W.heap.size := by simp only at hbl; omega
  go_cut [5] (fun q wx => q = .pointer (some ⟨W.heap.size, 0, none⟩) ∧ wx = (W.alloc (.cells #[.int .i64 1, .int .i64 0, .int .i64 a, .int .i64 b, .int .i64 0, .int .i64 0, .int .i64 0, .int .i64 0, .int .i64 0, .int .i64 0, .int .i64 0] 29)).drew)
  case first =>
    go_region_with (fail)
    all_goals go_wp2_with fail
    all_goals go_meet
    all_goals exact ⟨rfl, rfl⟩
  case rest =>
    obtain ⟨rfl, rfl⟩ := hcut
    have bE : Below W.heap.size W ((W.alloc (.cells #[.int .i64 1, .int .i64 0, .int .i64 a, .int .i64 b, .int .i64 0, .int .i64 0, .int .i64 0, .int .i64 0, .int .i64 0, .int .i64 0, .int .i64 0] 29)).drew) := (below_box _ _).drew
    have bV := Lib.hid (below_trans hb.out bE)
    have hR2 := Lib.hid (heap_below bE hR.out)
    have hE2 := Lib.hid (show ((W.alloc (.cells #[.int .i64 1, .int .i64 0, .int .i64 a, .int .i64 b, .int .i64 0, .int .i64 0, .int .i64 0, .int .i64 0, .int .i64 0, .int .i64 0, .int .i64 0] 29)).drew).heap[W.heap.size]? = some (.cells #[.int .i64 1, .int .i64 0, .int .i64 a, .int .i64 b, .int .i64 0, .int .i64 0, .int .i64 0, .int .i64 0, .int .i64 0, .int .i64 0, .int .i64 0] 29 (0, 0)) from box_new W _)
    have x0 := cell_below bE x0
    have x1 := cell_below bE x1
    have x2 := cell_below bE x2
    have x3 := cell_below bE x3
    have hgt := Lib.hid (show w.heap.size < W.heap.size by rw [hsz.out]; omega)
    have hg1 : ¬ W.heap.size = w.heap.size := by have := hgt.out; omega
    have hg2 : ¬ w.heap.size = W.heap.size := by have := hgt.out; omega
    clear bE hbl
    generalize (W.alloc (.cells #[.int .i64 1, .int .i64 0, .int .i64 a, .int .i64 b, .int .i64 0, .int .i64 0, .int .i64 0, .int .i64 0, .int .i64 0, .int .i64 0, .int .i64 0] 29)).drew = V at *
    generalize W.heap.size = gE at *
    have r0 := cell_of_heap hR2.out 0 _ rfl
    have rf0 := frozen_of_heap hR2.out 0
    have r1 := cell_of_heap hR2.out 1 _ rfl
    have rf1 := frozen_of_heap hR2.out 1
    have r2 := cell_of_heap hR2.out 2 _ rfl
    have rf2 := frozen_of_heap hR2.out 2
    have r3 := cell_of_heap hR2.out 3 _ rfl
    have rf3 := frozen_of_heap hR2.out 3
    have r4 := cell_of_heap hR2.out 4 _ rfl
    have rf4 := frozen_of_heap hR2.out 4
    have r5 := cell_of_heap hR2.out 5 _ rfl
    have rf5 := frozen_of_heap hR2.out 5
    have r6 := cell_of_heap hR2.out 6 _ rfl
    have rf6 := frozen_of_heap hR2.out 6
    have r7 := cell_of_heap hR2.out 7 _ rfl
    have rf7 := frozen_of_heap hR2.out 7
    have r8 := cell_of_heap hR2.out 8 _ rfl
    have rf8 := frozen_of_heap hR2.out 8
    have r9 := cell_of_heap hR2.out 9 _ rfl
    have rf9 := frozen_of_heap hR2.out 9
    have r10 := cell_of_heap hR2.out 10 _ rfl
    have rf10 := frozen_of_heap hR2.out 10
    have u0 := cell_of_heap hE2.out 0 _ rfl
    have uf0 := frozen_of_heap hE2.out 0
    have u1 := cell_of_heap hE2.out 1 _ rfl
    have uf1 := frozen_of_heap hE2.out 1
    have u2 := cell_of_heap hE2.out 2 _ rfl
    have uf2 := frozen_of_heap hE2.out 2
    have u3 := cell_of_heap hE2.out 3 _ rfl
    have uf3 := frozen_of_heap hE2.out 3
    have u4 := cell_of_heap hE2.out 4 _ rfl
    have uf4 := frozen_of_heap hE2.out 4
    have u5 := cell_of_heap hE2.out 5 _ rfl
    have uf5 := frozen_of_heap hE2.out 5
    have u6 := cell_of_heap hE2.out 6 _ rfl
    have uf6 := frozen_of_heap hE2.out 6
    have u7 := cell_of_heap hE2.out 7 _ rfl
    have uf7 := frozen_of_heap hE2.out 7
    have u8 := cell_of_heap hE2.out 8 _ rfl
    have uf8 := frozen_of_heap hE2.out 8
    have u9 := cell_of_heap hE2.out 9 _ rfl
    have uf9 := frozen_of_heap hE2.out 9
    have u10 := cell_of_heap hE2.out 10 _ rfl
    have uf10 := frozen_of_heap hE2.out 10
    go_wp2_with fail
    refine bodyPost_ret (v := .agg #[.int .i64 1, .int .i64 9, .int .i64 a, .int .i64 b, .int .i64 0, .int .i64 0, .int .i64 0, .int .i64 0, .int .i64 0, .int .i64 0, .int .i64 0]) (by simp [results, Tryd.results30, go_sem, r0, rf0, u0, uf0, r1, rf1, u1, uf1, r2, rf2, u2, uf2, r3, rf3, u3, uf3, r4, rf4, u4, uf4, r5, rf5, u5, uf5, r6, rf6, u6, uf6, r7, rf7, u7, uf7, r8, rf8, u8, uf8, r9, rf9, u9, uf9, r10, rf10, u10, uf10]) rfl ?_
    refine ⟨rfl, ?_⟩
    repeat (refine Below.setCell ?_ (by have := hgt.out; simp; try omega) _)
    exact bV.out
set_option maxRecDepth 100000 in
set_option maxHeartbeats 8000000 in
theorem smake_9 (a b c d : Int) (vn : Value) (w : World) (hn : Rd w vn [a, b, c, d]) : Calls Tryd.prog 30 #[.string ⟨#[115, 116, 97, 114, 116]⟩, vn] w fun e w' => e = .returned (.agg #[.int .i64 2, .int .i64 0, .int .i64 0, .int .i64 0, .int .i64 0, .int .i64 0, .int .i64 0, .int .i64 0, .int .i64 0, .int .i64 0, .int .i64 0]) ∧ Below w.heap.size w w' := by
  obtain ⟨av, cv, rfl, _, hx⟩ := hn
  obtain ⟨b1, o1, rfl, x0⟩ := hx 0 (by simp)
  have x1 : w.cell? ⟨b1, o1 + 1, none⟩ = some (.int .i64 b) := by obtain ⟨b2, o2, h1, h2⟩ := hx 1 (by simp); cases h1; exact h2
  have x2 : w.cell? ⟨b1, o1 + 2, none⟩ = some (.int .i64 c) := by obtain ⟨b2, o2, h1, h2⟩ := hx 2 (by simp); cases h1; exact h2
  have x3 : w.cell? ⟨b1, o1 + 3, none⟩ = some (.int .i64 d) := by obtain ⟨b2, o2, h1, h2⟩ := hx 3 (by simp); cases h1; exact h2
  have x0 : w.cell? ⟨b1, o1, none⟩ = some (.int .i64 a) := x0
  have hb := Lib.hid (below_box w (.cells #[.int .i64 0, .int .i64 0, .int .i64 0, .int .i64 0, .int .i64 0, .int .i64 0, .int .i64 0, .int .i64 0, .int .i64 0, .int .i64 0, .int .i64 0] 29))
  have hR := Lib.hid (box_new w (.cells #[.int .i64 0, .int .i64 0, .int .i64 0, .int .i64 0, .int .i64 0, .int .i64 0, .int .i64 0, .int .i64 0, .int .i64 0, .int .i64 0, .int .i64 0] 29))
  have x0 := cell_below hb.out x0
  have x1 := cell_below hb.out x1
  have x2 := cell_below hb.out x2
  have x3 := cell_below hb.out x3
  have hsz := Lib.hid (World.size_alloc w (.cells #[.int .i64 0, .int .i64 0, .int .i64 0, .int .i64 0, .int .i64 0, .int .i64 0, .int .i64 0, .int .i64 0, .int .i64 0, .int .i64 0, .int .i64 0] 29))
  clear hx
  rw [show [a, b, c, d].length = 4 from rfl]
  go_enter Tryd.func30, Tryd.ntmps30
  go_upto_region 1 with fail
  generalize w.alloc (.cells #[.int .i64 0, .int .i64 0, .int .i64 0, .int .i64 0, .int .i64 0, .int .i64 0, .int .i64 0, .int .i64 0, .int .i64 0, .int .i64 0, .int .i64 0] 29) = W at *
  have hbl := cell_lt x0
  have hbn : ¬ b1 = W.heap.size := by simp only at hbl; omega
  go_cut [5] (fun q wx => q = .pointer (some ⟨W.heap.size, 0, none⟩) ∧ wx = (W.alloc (.cells #[.int .i64 1, .int .i64 0, .int .i64 a, .int .i64 b, .int .i64 0, .int .i64 0, .int .i64 0, .int .i64 0, .int .i64 0, .int .i64 0, .int .i64 0] 29)).drew)
  case first =>
    go_region_with (fail)
    all_goals go_wp2_with fail
    all_goals go_meet
    all_goals exact ⟨rfl, rfl⟩
  case rest =>
    obtain ⟨rfl, rfl⟩ := hcut
    have bE : Below W.heap.size W ((W.alloc (.cells #[.int .i64 1, .int .i64 0, .int .i64 a, .int .i64 b, .int .i64 0, .int .i64 0, .int .i64 0, .int .i64 0, .int .i64 0, .int .i64 0, .int .i64 0] 29)).drew) := (below_box _ _).drew
    have bV := Lib.hid (below_trans hb.out bE)
    have hR2 := Lib.hid (heap_below bE hR.out)
    have hE2 := Lib.hid (show ((W.alloc (.cells #[.int .i64 1, .int .i64 0, .int .i64 a, .int .i64 b, .int .i64 0, .int .i64 0, .int .i64 0, .int .i64 0, .int .i64 0, .int .i64 0, .int .i64 0] 29)).drew).heap[W.heap.size]? = some (.cells #[.int .i64 1, .int .i64 0, .int .i64 a, .int .i64 b, .int .i64 0, .int .i64 0, .int .i64 0, .int .i64 0, .int .i64 0, .int .i64 0, .int .i64 0] 29 (0, 0)) from box_new W _)
    have x0 := cell_below bE x0
    have x1 := cell_below bE x1
    have x2 := cell_below bE x2
    have x3 := cell_below bE x3
    have hgt := Lib.hid (show w.heap.size < W.heap.size by rw [hsz.out]; omega)
    have hg1 : ¬ W.heap.size = w.heap.size := by have := hgt.out; omega
    have hg2 : ¬ w.heap.size = W.heap.size := by have := hgt.out; omega
    clear bE hbl
    generalize (W.alloc (.cells #[.int .i64 1, .int .i64 0, .int .i64 a, .int .i64 b, .int .i64 0, .int .i64 0, .int .i64 0, .int .i64 0, .int .i64 0, .int .i64 0, .int .i64 0] 29)).drew = V at *
    generalize W.heap.size = gE at *
    have r0 := cell_of_heap hR2.out 0 _ rfl
    have rf0 := frozen_of_heap hR2.out 0
    have r1 := cell_of_heap hR2.out 1 _ rfl
    have rf1 := frozen_of_heap hR2.out 1
    have r2 := cell_of_heap hR2.out 2 _ rfl
    have rf2 := frozen_of_heap hR2.out 2
    have r3 := cell_of_heap hR2.out 3 _ rfl
    have rf3 := frozen_of_heap hR2.out 3
    have r4 := cell_of_heap hR2.out 4 _ rfl
    have rf4 := frozen_of_heap hR2.out 4
    have r5 := cell_of_heap hR2.out 5 _ rfl
    have rf5 := frozen_of_heap hR2.out 5
    have r6 := cell_of_heap hR2.out 6 _ rfl
    have rf6 := frozen_of_heap hR2.out 6
    have r7 := cell_of_heap hR2.out 7 _ rfl
    have rf7 := frozen_of_heap hR2.out 7
    have r8 := cell_of_heap hR2.out 8 _ rfl
    have rf8 := frozen_of_heap hR2.out 8
    have r9 := cell_of_heap hR2.out 9 _ rfl
    have rf9 := frozen_of_heap hR2.out 9
    have r10 := cell_of_heap hR2.out 10 _ rfl
    have rf10 := frozen_of_heap hR2.out 10
    have u0 := cell_of_heap hE2.out 0 _ rfl
    have uf0 := frozen_of_heap hE2.out 0
    have u1 := cell_of_heap hE2.out 1 _ rfl
    have uf1 := frozen_of_heap hE2.out 1
    have u2 := cell_of_heap hE2.out 2 _ rfl
    have uf2 := frozen_of_heap hE2.out 2
    have u3 := cell_of_heap hE2.out 3 _ rfl
    have uf3 := frozen_of_heap hE2.out 3
    have u4 := cell_of_heap hE2.out 4 _ rfl
    have uf4 := frozen_of_heap hE2.out 4
    have u5 := cell_of_heap hE2.out 5 _ rfl
    have uf5 := frozen_of_heap hE2.out 5
    have u6 := cell_of_heap hE2.out 6 _ rfl
    have uf6 := frozen_of_heap hE2.out 6
    have u7 := cell_of_heap hE2.out 7 _ rfl
    have uf7 := frozen_of_heap hE2.out 7
    have u8 := cell_of_heap hE2.out 8 _ rfl
    have uf8 := frozen_of_heap hE2.out 8
    have u9 := cell_of_heap hE2.out 9 _ rfl
    have uf9 := frozen_of_heap hE2.out 9
    have u10 := cell_of_heap hE2.out 10 _ rfl
    have uf10 := frozen_of_heap hE2.out 10
    go_wp2_with fail
    refine bodyPost_ret (v := .agg #[.int .i64 2, .int .i64 0, .int .i64 0, .int .i64 0, .int .i64 0, .int .i64 0, .int .i64 0, .int .i64 0, .int .i64 0, .int .i64 0, .int .i64 0]) (by simp [results, Tryd.results30, go_sem, r0, rf0, u0, uf0, r1, rf1, u1, uf1, r2, rf2, u2, uf2, r3, rf3, u3, uf3, r4, rf4, u4, uf4, r5, rf5, u5, uf5, r6, rf6, u6, uf6, r7, rf7, u7, uf7, r8, rf8, u8, uf8, r9, rf9, u9, uf9, r10, rf10, u10, uf10]) rfl ?_
    refine ⟨rfl, ?_⟩
    repeat (refine Below.setCell ?_ (by have := hgt.out; simp; try omega) _)
    exact bV.out
set_option maxRecDepth 100000 in
set_option maxHeartbeats 8000000 in
theorem smake_10 (a b c d : Int) (vn : Value) (w : World) (hn : Rd w vn [a, b, c, d]) : Calls Tryd.prog 30 #[.string ⟨#[115, 116, 101, 112, 115]⟩, vn] w fun e w' => e = .returned (.agg #[.int .i64 3, .int .i64 0, .int .i64 0, .int .i64 0, .int .i64 0, .int .i64 0, .int .i64 0, .int .i64 0, .int .i64 a, .int .i64 0, .int .i64 0]) ∧ Below w.heap.size w w' := by
  obtain ⟨av, cv, rfl, _, hx⟩ := hn
  obtain ⟨b1, o1, rfl, x0⟩ := hx 0 (by simp)
  have x1 : w.cell? ⟨b1, o1 + 1, none⟩ = some (.int .i64 b) := by obtain ⟨b2, o2, h1, h2⟩ := hx 1 (by simp); cases h1; exact h2
  have x2 : w.cell? ⟨b1, o1 + 2, none⟩ = some (.int .i64 c) := by obtain ⟨b2, o2, h1, h2⟩ := hx 2 (by simp); cases h1; exact h2
  have x3 : w.cell? ⟨b1, o1 + 3, none⟩ = some (.int .i64 d) := by obtain ⟨b2, o2, h1, h2⟩ := hx 3 (by simp); cases h1; exact h2
  have x0 : w.cell? ⟨b1, o1, none⟩ = some (.int .i64 a) := x0
  have hb := Lib.hid (below_box w (.cells #[.int .i64 0, .int .i64 0, .int .i64 0, .int .i64 0, .int .i64 0, .int .i64 0, .int .i64 0, .int .i64 0, .int .i64 0, .int .i64 0, .int .i64 0] 29))
  have hR := Lib.hid (box_new w (.cells #[.int .i64 0, .int .i64 0, .int .i64 0, .int .i64 0, .int .i64 0, .int .i64 0, .int .i64 0, .int .i64 0, .int .i64 0, .int .i64 0, .int .i64 0] 29))
  have x0 := cell_below hb.out x0
  have x1 := cell_below hb.out x1
  have x2 := cell_below hb.out x2
  have x3 := cell_below hb.out x3
  have hsz := Lib.hid (World.size_alloc w (.cells #[.int .i64 0, .int .i64 0, .int .i64 0, .int .i64 0, .int .i64 0, .int .i64 0, .int .i64 0, .int .i64 0, .int .i64 0, .int .i64 0, .int .i64 0] 29))
  clear hx
  rw [show [a, b, c, d].length = 4 from rfl]
  go_enter Tryd.func30, Tryd.ntmps30
  go_upto_region 1 with fail
  generalize w.alloc (.cells #[.int .i64 0, .int .i64 0, .int .i64 0, .int .i64 0, .int .i64 0, .int .i64 0, .int .i64 0, .int .i64 0, .int .i64 0, .int .i64 0, .int .i64 0] 29) = W at *
  have hbl := cell_lt x0
  have hbn : ¬ b1 = W.heap.size := by simp only at hbl; omega
  go_cut [5] (fun q wx => q = .pointer (some ⟨W.heap.size, 0, none⟩) ∧ wx = (W.alloc (.cells #[.int .i64 1, .int .i64 0, .int .i64 a, .int .i64 b, .int .i64 0, .int .i64 0, .int .i64 0, .int .i64 0, .int .i64 0, .int .i64 0, .int .i64 0] 29)).drew)
  case first =>
    go_region_with (fail)
    all_goals go_wp2_with fail
    all_goals go_meet
    all_goals exact ⟨rfl, rfl⟩
  case rest =>
    obtain ⟨rfl, rfl⟩ := hcut
    have bE : Below W.heap.size W ((W.alloc (.cells #[.int .i64 1, .int .i64 0, .int .i64 a, .int .i64 b, .int .i64 0, .int .i64 0, .int .i64 0, .int .i64 0, .int .i64 0, .int .i64 0, .int .i64 0] 29)).drew) := (below_box _ _).drew
    have bV := Lib.hid (below_trans hb.out bE)
    have hR2 := Lib.hid (heap_below bE hR.out)
    have hE2 := Lib.hid (show ((W.alloc (.cells #[.int .i64 1, .int .i64 0, .int .i64 a, .int .i64 b, .int .i64 0, .int .i64 0, .int .i64 0, .int .i64 0, .int .i64 0, .int .i64 0, .int .i64 0] 29)).drew).heap[W.heap.size]? = some (.cells #[.int .i64 1, .int .i64 0, .int .i64 a, .int .i64 b, .int .i64 0, .int .i64 0, .int .i64 0, .int .i64 0, .int .i64 0, .int .i64 0, .int .i64 0] 29 (0, 0)) from box_new W _)
    have x0 := cell_below bE x0
    have x1 := cell_below bE x1
    have x2 := cell_below bE x2
    have x3 := cell_below bE x3
    have hgt := Lib.hid (show w.heap.size < W.heap.size by rw [hsz.out]; omega)
    have hg1 : ¬ W.heap.size = w.heap.size := by have := hgt.out; omega
    have hg2 : ¬ w.heap.size = W.heap.size := by have := hgt.out; omega
    clear bE hbl
    generalize (W.alloc (.cells #[.int .i64 1, .int .i64 0, .int .i64 a, .int .i64 b, .int .i64 0, .int .i64 0, .int .i64 0, .int .i64 0, .int .i64 0, .int .i64 0, .int .i64 0] 29)).drew = V at *
    generalize W.heap.size = gE at *
    have r0 := cell_of_heap hR2.out 0 _ rfl
    have rf0 := frozen_of_heap hR2.out 0
    have r1 := cell_of_heap hR2.out 1 _ rfl
    have rf1 := frozen_of_heap hR2.out 1
    have r2 := cell_of_heap hR2.out 2 _ rfl
    have rf2 := frozen_of_heap hR2.out 2
    have r3 := cell_of_heap hR2.out 3 _ rfl
    have rf3 := frozen_of_heap hR2.out 3
    have r4 := cell_of_heap hR2.out 4 _ rfl
    have rf4 := frozen_of_heap hR2.out 4
    have r5 := cell_of_heap hR2.out 5 _ rfl
    have rf5 := frozen_of_heap hR2.out 5
    have r6 := cell_of_heap hR2.out 6 _ rfl
    have rf6 := frozen_of_heap hR2.out 6
    have r7 := cell_of_heap hR2.out 7 _ rfl
    have rf7 := frozen_of_heap hR2.out 7
    have r8 := cell_of_heap hR2.out 8 _ rfl
    have rf8 := frozen_of_heap hR2.out 8
    have r9 := cell_of_heap hR2.out 9 _ rfl
    have rf9 := frozen_of_heap hR2.out 9
    have r10 := cell_of_heap hR2.out 10 _ rfl
    have rf10 := frozen_of_heap hR2.out 10
    have u0 := cell_of_heap hE2.out 0 _ rfl
    have uf0 := frozen_of_heap hE2.out 0
    have u1 := cell_of_heap hE2.out 1 _ rfl
    have uf1 := frozen_of_heap hE2.out 1
    have u2 := cell_of_heap hE2.out 2 _ rfl
    have uf2 := frozen_of_heap hE2.out 2
    have u3 := cell_of_heap hE2.out 3 _ rfl
    have uf3 := frozen_of_heap hE2.out 3
    have u4 := cell_of_heap hE2.out 4 _ rfl
    have uf4 := frozen_of_heap hE2.out 4
    have u5 := cell_of_heap hE2.out 5 _ rfl
    have uf5 := frozen_of_heap hE2.out 5
    have u6 := cell_of_heap hE2.out 6 _ rfl
    have uf6 := frozen_of_heap hE2.out 6
    have u7 := cell_of_heap hE2.out 7 _ rfl
    have uf7 := frozen_of_heap hE2.out 7
    have u8 := cell_of_heap hE2.out 8 _ rfl
    have uf8 := frozen_of_heap hE2.out 8
    have u9 := cell_of_heap hE2.out 9 _ rfl
    have uf9 := frozen_of_heap hE2.out 9
    have u10 := cell_of_heap hE2.out 10 _ rfl
    have uf10 := frozen_of_heap hE2.out 10
    go_wp2_with fail
    refine bodyPost_ret (v := .agg #[.int .i64 3, .int .i64 0, .int .i64 0, .int .i64 0, .int .i64 0, .int .i64 0, .int .i64 0, .int .i64 0, .int .i64 a, .int .i64 0, .int .i64 0]) (by simp [results, Tryd.results30, go_sem, r0, rf0, u0, uf0, r1, rf1, u1, uf1, r2, rf2, u2, uf2, r3, rf3, u3, uf3, r4, rf4, u4, uf4, r5, rf5, u5, uf5, r6, rf6, u6, uf6, r7, rf7, u7, uf7, r8, rf8, u8, uf8, r9, rf9, u9, uf9, r10, rf10, u10, uf10]) rfl ?_
    refine ⟨rfl, ?_⟩
    repeat (refine Below.setCell ?_ (by have := hgt.out; simp; try omega) _)
    exact bV.out
set_option maxRecDepth 100000 in
set_option maxHeartbeats 8000000 in
theorem smake_12 (a b c d : Int) (vn : Value) (w : World) (hn : Rd w vn [a, b, c, d]) : Calls Tryd.prog 30 #[.string ⟨#[102, 117, 108, 108]⟩, vn] w fun e w' => e = .returned (.agg #[.int .i64 5, .int .i64 0, .int .i64 0, .int .i64 0, .int .i64 0, .int .i64 0, .int .i64 0, .int .i64 0, .int .i64 0, .int .i64 0, .int .i64 0]) ∧ Below w.heap.size w w' := by
  obtain ⟨av, cv, rfl, _, hx⟩ := hn
  obtain ⟨b1, o1, rfl, x0⟩ := hx 0 (by simp)
  have x1 : w.cell? ⟨b1, o1 + 1, none⟩ = some (.int .i64 b) := by obtain ⟨b2, o2, h1, h2⟩ := hx 1 (by simp); cases h1; exact h2
  have x2 : w.cell? ⟨b1, o1 + 2, none⟩ = some (.int .i64 c) := by obtain ⟨b2, o2, h1, h2⟩ := hx 2 (by simp); cases h1; exact h2
  have x3 : w.cell? ⟨b1, o1 + 3, none⟩ = some (.int .i64 d) := by obtain ⟨b2, o2, h1, h2⟩ := hx 3 (by simp); cases h1; exact h2
  have x0 : w.cell? ⟨b1, o1, none⟩ = some (.int .i64 a) := x0
  have hb := Lib.hid (below_box w (.cells #[.int .i64 0, .int .i64 0, .int .i64 0, .int .i64 0, .int .i64 0, .int .i64 0, .int .i64 0, .int .i64 0, .int .i64 0, .int .i64 0, .int .i64 0] 29))
  have hR := Lib.hid (box_new w (.cells #[.int .i64 0, .int .i64 0, .int .i64 0, .int .i64 0, .int .i64 0, .int .i64 0, .int .i64 0, .int .i64 0, .int .i64 0, .int .i64 0, .int .i64 0] 29))
  have x0 := cell_below hb.out x0
  have x1 := cell_below hb.out x1
  have x2 := cell_below hb.out x2
  have x3 := cell_below hb.out x3
  have hsz := Lib.hid (World.size_alloc w (.cells #[.int .i64 0, .int .i64 0, .int .i64 0, .int .i64 0, .int .i64 0, .int .i64 0, .int .i64 0, .int .i64 0, .int .i64 0, .int .i64 0, .int .i64 0] 29))
  clear hx
  rw [show [a, b, c, d].length = 4 from rfl]
  go_enter Tryd.func30, Tryd.ntmps30
  go_upto_region 1 with fail
  generalize w.alloc (.cells #[.int .i64 0, .int .i64 0, .int .i64 0, .int .i64 0, .int .i64 0, .int .i64 0, .int .i64 0, .int .i64 0, .int .i64 0, .int .i64 0, .int .i64 0] 29) = W at *
  have hbl := cell_lt x0
  have hbn : ¬ b1 = W.heap.size := by simp only at hbl; omega
  go_cut [5] (fun q wx => q = .pointer (some ⟨W.heap.size, 0, none⟩) ∧ wx = (W.alloc (.cells #[.int .i64 1, .int .i64 0, .int .i64 a, .int .i64 b, .int .i64 0, .int .i64 0, .int .i64 0, .int .i64 0, .int .i64 0, .int .i64 0, .int .i64 0] 29)).drew)
  case first =>
    go_region_with (fail)
    all_goals go_wp2_with fail
    all_goals go_meet
    all_goals exact ⟨rfl, rfl⟩
  case rest =>
    obtain ⟨rfl, rfl⟩ := hcut
    have bE : Below W.heap.size W ((W.alloc (.cells #[.int .i64 1, .int .i64 0, .int .i64 a, .int .i64 b, .int .i64 0, .int .i64 0, .int .i64 0, .int .i64 0, .int .i64 0, .int .i64 0, .int .i64 0] 29)).drew) := (below_box _ _).drew
    have bV := Lib.hid (below_trans hb.out bE)
    have hR2 := Lib.hid (heap_below bE hR.out)
    have hE2 := Lib.hid (show ((W.alloc (.cells #[.int .i64 1, .int .i64 0, .int .i64 a, .int .i64 b, .int .i64 0, .int .i64 0, .int .i64 0, .int .i64 0, .int .i64 0, .int .i64 0, .int .i64 0] 29)).drew).heap[W.heap.size]? = some (.cells #[.int .i64 1, .int .i64 0, .int .i64 a, .int .i64 b, .int .i64 0, .int .i64 0, .int .i64 0, .int .i64 0, .int .i64 0, .int .i64 0, .int .i64 0] 29 (0, 0)) from box_new W _)
    have x0 := cell_below bE x0
    have x1 := cell_below bE x1
    have x2 := cell_below bE x2
    have x3 := cell_below bE x3
    have hgt := Lib.hid (show w.heap.size < W.heap.size by rw [hsz.out]; omega)
    have hg1 : ¬ W.heap.size = w.heap.size := by have := hgt.out; omega
    have hg2 : ¬ w.heap.size = W.heap.size := by have := hgt.out; omega
    clear bE hbl
    generalize (W.alloc (.cells #[.int .i64 1, .int .i64 0, .int .i64 a, .int .i64 b, .int .i64 0, .int .i64 0, .int .i64 0, .int .i64 0, .int .i64 0, .int .i64 0, .int .i64 0] 29)).drew = V at *
    generalize W.heap.size = gE at *
    have r0 := cell_of_heap hR2.out 0 _ rfl
    have rf0 := frozen_of_heap hR2.out 0
    have r1 := cell_of_heap hR2.out 1 _ rfl
    have rf1 := frozen_of_heap hR2.out 1
    have r2 := cell_of_heap hR2.out 2 _ rfl
    have rf2 := frozen_of_heap hR2.out 2
    have r3 := cell_of_heap hR2.out 3 _ rfl
    have rf3 := frozen_of_heap hR2.out 3
    have r4 := cell_of_heap hR2.out 4 _ rfl
    have rf4 := frozen_of_heap hR2.out 4
    have r5 := cell_of_heap hR2.out 5 _ rfl
    have rf5 := frozen_of_heap hR2.out 5
    have r6 := cell_of_heap hR2.out 6 _ rfl
    have rf6 := frozen_of_heap hR2.out 6
    have r7 := cell_of_heap hR2.out 7 _ rfl
    have rf7 := frozen_of_heap hR2.out 7
    have r8 := cell_of_heap hR2.out 8 _ rfl
    have rf8 := frozen_of_heap hR2.out 8
    have r9 := cell_of_heap hR2.out 9 _ rfl
    have rf9 := frozen_of_heap hR2.out 9
    have r10 := cell_of_heap hR2.out 10 _ rfl
    have rf10 := frozen_of_heap hR2.out 10
    have u0 := cell_of_heap hE2.out 0 _ rfl
    have uf0 := frozen_of_heap hE2.out 0
    have u1 := cell_of_heap hE2.out 1 _ rfl
    have uf1 := frozen_of_heap hE2.out 1
    have u2 := cell_of_heap hE2.out 2 _ rfl
    have uf2 := frozen_of_heap hE2.out 2
    have u3 := cell_of_heap hE2.out 3 _ rfl
    have uf3 := frozen_of_heap hE2.out 3
    have u4 := cell_of_heap hE2.out 4 _ rfl
    have uf4 := frozen_of_heap hE2.out 4
    have u5 := cell_of_heap hE2.out 5 _ rfl
    have uf5 := frozen_of_heap hE2.out 5
    have u6 := cell_of_heap hE2.out 6 _ rfl
    have uf6 := frozen_of_heap hE2.out 6
    have u7 := cell_of_heap hE2.out 7 _ rfl
    have uf7 := frozen_of_heap hE2.out 7
    have u8 := cell_of_heap hE2.out 8 _ rfl
    have uf8 := frozen_of_heap hE2.out 8
    have u9 := cell_of_heap hE2.out 9 _ rfl
    have uf9 := frozen_of_heap hE2.out 9
    have u10 := cell_of_heap hE2.out 10 _ rfl
    have uf10 := frozen_of_heap hE2.out 10
    go_wp2_with fail
    refine bodyPost_ret (v := .agg #[.int .i64 5, .int .i64 0, .int .i64 0, .int .i64 0, .int .i64 0, .int .i64 0, .int .i64 0, .int .i64 0, .int .i64 0, .int .i64 0, .int .i64 0]) (by simp [results, Tryd.results30, go_sem, r0, rf0, u0, uf0, r1, rf1, u1, uf1, r2, rf2, u2, uf2, r3, rf3, u3, uf3, r4, rf4, u4, uf4, r5, rf5, u5, uf5, r6, rf6, u6, uf6, r7, rf7, u7, uf7, r8, rf8, u8, uf8, r9, rf9, u9, uf9, r10, rf10, u10, uf10]) rfl ?_
    refine ⟨rfl, ?_⟩
    repeat (refine Below.setCell ?_ (by have := hgt.out; simp; try omega) _)
    exact bV.out
end Go.Proofs.YtjldjeokcpjgkaaDoor

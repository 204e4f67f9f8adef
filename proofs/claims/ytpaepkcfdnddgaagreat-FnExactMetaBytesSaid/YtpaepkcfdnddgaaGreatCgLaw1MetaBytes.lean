import Derived.Test.YtpaepkcfdnddgaaGreatCgCaps
import Derived.Test.YtpaepkcfdnddgaaGreatCgMX
import Derived.Test.YtpaepkcfdnddgaaGreatCgIMeta

namespace Go.Proofs.YtpaepkcfdnddgaaGreat
open Go.RowKit
set_option linter.unusedVariables false

section
set_option maxRecDepth 100000 in
set_option maxHeartbeats 8000000 in
theorem law_metaBytes (D : WD) (hf : FitD D) (hI : ∀ (v : Value) (w : World), CapW v → Small D → D.grey.length ≤ 2000000 → RdW w v D → Calls Tryz.prog 10 #[v] w fun e w' => MetaR D e ∧ Below w.heap.size w w')
    (v : Value) (w : World) (hr : RdW w v D) :
    Calls Tryz.prog 3 #[v] w fun e w' => e = .returned (.bool true) ∧ Below w.heap.size w w' := by
  have hI' := Lib.hid hI
  have hf' := Lib.hid hf
  clear hI hf
  obtain ⟨aw, ad, aS, am, ag, cw, cd, cS, cm, cg, rfl⟩ := hr.written
  have hr' := Lib.hid hr
  have bb := Lib.hid (below_box w (.cells #[.int .i64 D.base, .int .i64 D.pages, .slice aw D.words.length cw, .slice ad D.dirty.length cd, .slice aS D.spans.length cS, .slice am D.muts.length cm, .int .i64 D.phase, .int .i64 D.next, .slice ag D.grey.length cg] 29))
  have bx := Lib.hid (box_new w (.cells #[.int .i64 D.base, .int .i64 D.pages, .slice aw D.words.length cw, .slice ad D.dirty.length cd, .slice aS D.spans.length cS, .slice am D.muts.length cm, .int .i64 D.phase, .int .i64 D.next, .slice ag D.grey.length cg] 29))
  have hrW := Lib.hid (hr.below bb.out)
  clear hr
  unfold worldV
  go_enter Tryz.func3, Tryz.ntmps3
  go_wp2_with fail
  refine (szWorld_any _ D _ (by omega) (by omega) _ hrW.out).mono ?_
  rintro e w1 ⟨r1, rfl, z1, b1⟩
  have t1 := z1.lo
  have bw1 := Lib.hid (below_trans bb.out b1)
  have bx1 := Lib.hid (heap_below b1 bx.out)
  have hr1 := Lib.hid (hr'.out.below bw1.out)
  by_cases c1 : r1 < 0
  · clear z1 b1
    go_wp2_with fail
    go_ret
    exact ⟨rfl, bw1.out⟩
  have hsm := Lib.hid (Small.of_bulk (D := D) (by have := z1.fits (by omega); omega))
  have hgr := Lib.hid (show D.grey.length ≤ 2000000 by have := hsm.out.grey; omega)
  have f0 := cell_of_heap bx1.out 0 _ rfl
  have f1 := cell_of_heap bx1.out 1 _ rfl
  have f2 := cell_of_heap bx1.out 2 _ rfl
  have f3 := cell_of_heap bx1.out 3 _ rfl
  have f4 := cell_of_heap bx1.out 4 _ rfl
  have f5 := cell_of_heap bx1.out 5 _ rfl
  have f6 := cell_of_heap bx1.out 6 _ rfl
  have f7 := cell_of_heap bx1.out 7 _ rfl
  have f8 := cell_of_heap bx1.out 8 _ rfl
  clear z1 b1
  go_wp2_with fail
  refine (toWorld_rdc _ D hsm.out _ hr1.out).mono ?_
  rintro e w2 ⟨aw2, ad2, aS2, am2, ag2, cw2, cd2, cS2, cm2, cg2, rfl, h2, hcw2, hcg2, b2⟩
  have hcg2' := Lib.hid hcg2
  have bw2 := Lib.hid (below_trans bw1.out b2)
  have bx2 := Lib.hid (heap_below b2 bx1.out)
  have h2' := Lib.hid h2
  clear h2 b2 hcw2 hcg2 f0 f1 f2 f3 f4 f5 f6 f7 f8
  unfold worldV at hcg2' h2' ⊢
  go_wp2_with fail
  refine (smetaBytes_any _ D hcg2'.out hf'.out hgr.out _ h2'.out).mono ?_
  rintro e w3 ⟨hq, b3⟩
  have bw3 := Lib.hid (below_trans bw2.out b3)
  have bx3 := Lib.hid (heap_below b3 bx2.out)
  have hr3 := Lib.hid (hr'.out.below bw3.out)
  have hq' := Lib.hid hq
  obtain ⟨X, rfl⟩ := hq.str
  have f0 := cell_of_heap bx3.out 0 _ rfl
  have f1 := cell_of_heap bx3.out 1 _ rfl
  have f2 := cell_of_heap bx3.out 2 _ rfl
  have f3 := cell_of_heap bx3.out 3 _ rfl
  have f4 := cell_of_heap bx3.out 4 _ rfl
  have f5 := cell_of_heap bx3.out 5 _ rfl
  have f6 := cell_of_heap bx3.out 6 _ rfl
  have f7 := cell_of_heap bx3.out 7 _ rfl
  have f8 := cell_of_heap bx3.out 8 _ rfl
  clear b3
  go_wp2_with fail
  refine (toWorld_rdc _ D hsm.out _ hr3.out).mono ?_
  rintro e w4 ⟨aw4, ad4, aS4, am4, ag4, cw4, cd4, cS4, cm4, cg4, rfl, h4, hcw4, hcg4, b4⟩
  have hcw4' := Lib.hid hcw4
  clear hcw4 hcg4
  clear f0 f1 f2 f3 f4 f5 f6 f7 f8
  unfold worldV at hcw4' h4 ⊢
  have bw4 := Lib.hid (below_trans bw3.out b4)
  have bx4 := Lib.hid (heap_below b4 bx3.out)
  have b5 := below_box w4 (.cells #[.int .i64 D.base, .int .i64 D.pages, .slice aw4 D.words.length cw4, .slice ad4 D.dirty.length cd4, .slice aS4 D.spans.length cS4, .slice am4 D.muts.length cm4, .int .i64 D.phase, .int .i64 D.next, .slice ag4 D.grey.length cg4] 36)
  have x5 := Lib.hid (box_new w4 (.cells #[.int .i64 D.base, .int .i64 D.pages, .slice aw4 D.words.length cw4, .slice ad4 D.dirty.length cd4, .slice aS4 D.spans.length cS4, .slice am4 D.muts.length cm4, .int .i64 D.phase, .int .i64 D.next, .slice ag4 D.grey.length cg4] 36))
  have h5 := Lib.hid (h4.below b5)
  have bw5 := Lib.hid (below_trans bw4.out b5)
  have bx5 := Lib.hid (heap_below b5 bx4.out)
  clear h4 b4 b5
  go_wp2_with fail
  refine (hI'.out _ _ hcw4'.out hsm.out hgr.out h5.out).mono ?_
  rintro e w6 ⟨hg, b6⟩
  obtain rfl := MetaR.unique hq'.out hg
  have bw6 := Lib.hid (below_trans bw5.out b6)
  have bx6 := Lib.hid (heap_below b6 bx5.out)
  have x6 := Lib.hid (heap_below b6 x5.out)
  have h6 := Lib.hid (h5.out.below b6)
  have hr6 := Lib.hid (hr'.out.below bw6.out)
  clear hg b6
  have f0 := cell_of_heap bx6.out 0 _ rfl
  have f1 := cell_of_heap bx6.out 1 _ rfl
  have f2 := cell_of_heap bx6.out 2 _ rfl
  have f3 := cell_of_heap bx6.out 3 _ rfl
  have f4 := cell_of_heap bx6.out 4 _ rfl
  have f5 := cell_of_heap bx6.out 5 _ rfl
  have f6 := cell_of_heap bx6.out 6 _ rfl
  have f7 := cell_of_heap bx6.out 7 _ rfl
  have f8 := cell_of_heap bx6.out 8 _ rfl
  have g0 := cell_of_heap x6.out 0 _ rfl
  have g1 := cell_of_heap x6.out 1 _ rfl
  have g2 := cell_of_heap x6.out 2 _ rfl
  have g3 := cell_of_heap x6.out 3 _ rfl
  have g4 := cell_of_heap x6.out 4 _ rfl
  have g5 := cell_of_heap x6.out 5 _ rfl
  have g6 := cell_of_heap x6.out 6 _ rfl
  have g7 := cell_of_heap x6.out 7 _ rfl
  have g8 := cell_of_heap x6.out 8 _ rfl
  go_wp2_with fail
  go_region_with (first
    | (go_at_call 9; refine (toWorld_rd _ D hsm.out _ ?_).mono ?_; exact hr6.out; rintro e w7 ⟨aw7, ad7, aS7, am7, ag7, cw7, cd7, cS7, cm7, cg7, rfl, h7, b7⟩; have bw7 := Lib.hid (below_trans bw6.out (show Below w6.heap.size w6 w7 from ⟨b7.os, b7.tape, b7.output, b7.size, b7.block⟩)); have h67 := Lib.hid (h6.out.below (show Below w6.heap.size w6 w7 from ⟨b7.os, b7.tape, b7.output, b7.size, b7.block⟩)); have x7 := heap_below (show Below w6.heap.size w6 w7 from ⟨b7.os, b7.tape, b7.output, b7.size, b7.block⟩) x6.out; have y0 := cell_of_heap x7 0 _ rfl; have y1 := cell_of_heap x7 1 _ rfl; have y2 := cell_of_heap x7 2 _ rfl; have y3 := cell_of_heap x7 3 _ rfl; have y4 := cell_of_heap x7 4 _ rfl; have y5 := cell_of_heap x7 5 _ rfl; have y6 := cell_of_heap x7 6 _ rfl; have y7 := cell_of_heap x7 7 _ rfl; have y8 := cell_of_heap x7 8 _ rfl; unfold worldV at h7 ⊢; clear b7 x7)
    | (go_at_call 11; refine (eqWorld_same _ _ D _ ?_ ?_).mono ?_; exact h67.out; exact h7; rintro e w8 ⟨rfl, b8⟩))
  all_goals go_wp2_with fail
  all_goals go_ret
  all_goals exact ⟨rfl, below_trans bw7.out b8⟩
end

end Go.Proofs.YtpaepkcfdnddgaaGreat

import Derived.Test.YtdhiablpobnhcaaGreatPkShade
import Derived.Test.YtdhiablpobnhcaaGreatPkCaps
import Derived.Test.YtdhiablpobnhcaaGreatPkL1
import Derived.Test.YtdhiablpobnhcaaGreatPkV
import Derived.Deep.DeepCutAuto
import Derived.Deep.CutRange
import Derived.Deep.RegionWith
import Derived.Outline

/-
  The walk of FnExactShade, the contracts of the model and of the program being premises.
-/
namespace Go.Proofs.YtdhiablpobnhcaaGreat
open Go.RowKit
set_option linter.unusedVariables false

set_option maxRecDepth 100000 in
set_option maxHeartbeats 16000000 in
theorem lawW_shade (D : WD) (addr : Int) 
    (hS : D.bulk ≤ 1048576 → ∀ (v : Value) (w : World), CapW v → CapG v → RdW w v D → Calls Tryz.prog 30 #[v, .int .i64 addr] w fun e w' => ∃ S D', ShadedIs D addr D'  ∧ e = .returned (S.val D') ∧ OwnW w' w.heap.size S D' ∧ Below w.heap.size w w')
    (hI : D.bulk ≤ 1048576 → ∀ (v : Value) (w : World), CapW v → CapG v → RdW w v D → Calls Tryz.prog 32 #[v, .int .i64 addr] w fun e w' => ∃ S D', ShadedIs D addr D'  ∧ e = .returned (S.val D') ∧ OwnW w' w.heap.size S D' ∧ Below w.heap.size w w')
    (v : Value) (w : World) (hr : RdW w v D) :
    Calls Tryz.prog 6 #[v, .int .i64 addr] w fun e w' => e = .returned (.bool true) ∧ Below w.heap.size w w' := by
  have hS' := Lib.hid hS
  have hI' := Lib.hid hI
  clear hS hI
  obtain ⟨aw, ad, aS, am, ag, cw, cd, cS, cm, cg, rfl⟩ := hr.written
  have hr' := Lib.hid hr
  have bb := Lib.hid (below_box w (.cells #[.int .i64 D.base, .int .i64 D.pages, .slice aw D.words.length cw, .slice ad D.dirty.length cd, .slice aS D.spans.length cS, .slice am D.muts.length cm, .int .i64 D.phase, .int .i64 D.next, .slice ag D.grey.length cg] 54))
  have bx := Lib.hid (box_new w (.cells #[.int .i64 D.base, .int .i64 D.pages, .slice aw D.words.length cw, .slice ad D.dirty.length cd, .slice aS D.spans.length cS, .slice am D.muts.length cm, .int .i64 D.phase, .int .i64 D.next, .slice ag D.grey.length cg] 54))
  have hrW := Lib.hid (hr.below bb.out)
  clear hr
  unfold worldV
  go_enter Tryz.func6, Tryz.ntmps6
  go_wp2_with fail
  refine (szWorld_any _ D _ (by omega) (by omega) _ hrW.out).mono ?_
  rintro e w1 ⟨r1, rfl, z1, b1⟩
  have t1 := z1.lo
  have bw1 := Lib.hid (below_trans bb.out b1)
  have bx1 := Lib.hid (heap_below b1 bx.out)
  have hr1 := Lib.hid (hr'.out.below bw1.out)
  by_cases c1 : r1 < 0
  · clear z1 b1
    go_wp2_with fail
    go_ret
    exact ⟨rfl, bw1.out⟩
  have hbk := Lib.hid (show D.bulk ≤ 1048576 by have := z1.fits (by omega); omega)
  have hsm := Lib.hid (Small.of_bulk hbk.out)
  have hzz1 := Lib.hid (show w.heap.size + 1 ≤ w1.heap.size by have := b1.size; simpa using this)
  have f0 := cell_of_heap bx1.out 0 _ rfl
  have f1 := cell_of_heap bx1.out 1 _ rfl
  have f2 := cell_of_heap bx1.out 2 _ rfl
  have f3 := cell_of_heap bx1.out 3 _ rfl
  have f4 := cell_of_heap bx1.out 4 _ rfl
  have f5 := cell_of_heap bx1.out 5 _ rfl
  have f6 := cell_of_heap bx1.out 6 _ rfl
  have f7 := cell_of_heap bx1.out 7 _ rfl
  have f8 := cell_of_heap bx1.out 8 _ rfl
  clear z1 b1
  go_wp2_with fail
  refine (toWorld_rdc _ D hsm.out _ hr1.out).mono ?_
  rintro e w2 ⟨aw2, ad2, aS2, am2, ag2, cw2, cd2, cS2, cm2, cg2, rfl, h2, hcw2, hcg2, b2⟩
  have bw2 := Lib.hid (below_trans bw1.out b2)
  have bx2 := Lib.hid (heap_below b2 bx1.out)
  have hcw2' := Lib.hid hcw2
  have hcg2' := Lib.hid hcg2
  clear hcw2 hcg2
  have h2' := Lib.hid h2
  have hzz2 := Lib.hid b2.size
  clear h2 b2
  clear f0 f1 f2 f3 f4 f5 f6 f7 f8
  unfold worldV at hcw2' hcg2' h2' ⊢
  go_wp2_with fail
  refine (hS'.out hbk.out _ _ hcw2'.out hcg2'.out h2'.out).mono ?_
  rintro e w3 ⟨S3, E, hn3, rfl, h3, b3⟩
  obtain ⟨a3, k3, c3, d3, l3, e3, s3, n3, o3, m3, q3, r3, y3, z3, u3, sv3, mv3, rfl⟩ := h3.lits
  have hn := Lib.hid hn3
  have hmE := Lib.hid (ShadedIs.markable hn3 hbk.out)
  have bw3 := Lib.hid (below_trans bw2.out (below_trans b3 (below_box w3 (.cells #[.int .i64 E.base, .int .i64 E.pages, .slice a3 k3 c3, .slice d3 l3 e3, .slice s3 n3 o3, .slice m3 q3 r3, .int .i64 E.phase, .int .i64 E.next, .slice y3 z3 u3] 30))))
  have bA3 := Lib.hid (heap_below (below_trans b3 (below_box w3 (.cells #[.int .i64 E.base, .int .i64 E.pages, .slice a3 k3 c3, .slice d3 l3 e3, .slice s3 n3 o3, .slice m3 q3 r3, .int .i64 E.phase, .int .i64 E.next, .slice y3 z3 u3] 30))) bx2.out)
  have bW3 := Lib.hid (box_new w3 (.cells #[.int .i64 E.base, .int .i64 E.pages, .slice a3 k3 c3, .slice d3 l3 e3, .slice s3 n3 o3, .slice m3 q3 r3, .int .i64 E.phase, .int .i64 E.next, .slice y3 z3 u3] 30))
  have hW3 := Lib.hid (h3.below (below_box w3 (.cells #[.int .i64 E.base, .int .i64 E.pages, .slice a3 k3 c3, .slice d3 l3 e3, .slice s3 n3 o3, .slice m3 q3 r3, .int .i64 E.phase, .int .i64 E.next, .slice y3 z3 u3] 30)))
  have lt3 := Lib.hid (fun q hq => (h3.lt q hq).2)
  have hr3 := Lib.hid (hr'.out.below bw3.out)
  have hzz3 := Lib.hid b3.size
  clear hn3 h3 b3 h2'
  dsimp only [Shape.val]
  have f0 := cell_of_heap bA3.out 0 _ rfl
  have f1 := cell_of_heap bA3.out 1 _ rfl
  have f2 := cell_of_heap bA3.out 2 _ rfl
  have f3 := cell_of_heap bA3.out 3 _ rfl
  have f4 := cell_of_heap bA3.out 4 _ rfl
  have f5 := cell_of_heap bA3.out 5 _ rfl
  have f6 := cell_of_heap bA3.out 6 _ rfl
  have f7 := cell_of_heap bA3.out 7 _ rfl
  have f8 := cell_of_heap bA3.out 8 _ rfl
  go_wp2_with fail
  refine (toWorld_any _ D hsm.out _ hr3.out).mono ?_
  rintro e w4 ⟨S4, rfl, h4, b4⟩
  obtain ⟨a4, k4, c4, d4, l4, e4, s4, n4, o4, m4, q4, r4, y4, z4, u4, sv4, mv4, rfl⟩ := h4.lits
  clear f0 f1 f2 f3 f4 f5 f6 f7 f8
  have hmD := Lib.hid (show Markable D from ⟨by have := hbk.out; have h5 : D.spans.length ≤ D.bulk := (by unfold WD.bulk; omega); omega⟩)
  have bw4 := Lib.hid (below_trans bw3.out (below_trans b4 (below_box w4 (.cells #[.int .i64 D.base, .int .i64 D.pages, .slice a4 k4 c4, .slice d4 l4 e4, .slice s4 n4 o4, .slice m4 q4 r4, .int .i64 D.phase, .int .i64 D.next, .slice y4 z4 u4] 30))))
  have bA4 := Lib.hid (heap_below (below_trans b4 (below_box w4 (.cells #[.int .i64 D.base, .int .i64 D.pages, .slice a4 k4 c4, .slice d4 l4 e4, .slice s4 n4 o4, .slice m4 q4 r4, .int .i64 D.phase, .int .i64 D.next, .slice y4 z4 u4] 30))) bA3.out)
  have bW4 := Lib.hid (heap_below (below_trans b4 (below_box w4 (.cells #[.int .i64 D.base, .int .i64 D.pages, .slice a4 k4 c4, .slice d4 l4 e4, .slice s4 n4 o4, .slice m4 q4 r4, .int .i64 D.phase, .int .i64 D.next, .slice y4 z4 u4] 30))) bW3.out)
  have hW4 := Lib.hid (hW3.out.below (below_trans b4 (below_box w4 (.cells #[.int .i64 D.base, .int .i64 D.pages, .slice a4 k4 c4, .slice d4 l4 e4, .slice s4 n4 o4, .slice m4 q4 r4, .int .i64 D.phase, .int .i64 D.next, .slice y4 z4 u4] 30))))
  have bX4 := Lib.hid (box_new w4 (.cells #[.int .i64 D.base, .int .i64 D.pages, .slice a4 k4 c4, .slice d4 l4 e4, .slice s4 n4 o4, .slice m4 q4 r4, .int .i64 D.phase, .int .i64 D.next, .slice y4 z4 u4] 30))
  have hX4 := Lib.hid (h4.below (below_box w4 (.cells #[.int .i64 D.base, .int .i64 D.pages, .slice a4 k4 c4, .slice d4 l4 e4, .slice s4 n4 o4, .slice m4 q4 r4, .int .i64 D.phase, .int .i64 D.next, .slice y4 z4 u4] 30)))
  have lt4 := Lib.hid (fun q hq => (show w3.heap.size + 1 ≤ q ∧ q < w4.heap.size by have := h4.lt q hq; simpa using this))
  have hzz4 := Lib.hid (show w3.heap.size + 1 ≤ w4.heap.size by have := b4.size; simpa using this)
  clear h4 b4 hW3 bW3 bA3
  dsimp only [Shape.val]
  go_wp2_with fail
  refine (hI'.out hbk.out _ _ hX4.out.capWords hX4.out.capGrey hX4.out.rd).mono ?_
  rintro e w5 ⟨S5, E', hn5, rfl, h5, b5⟩
  obtain rfl := ShadedIs.unique hn5 hn.out
  obtain ⟨a5, k5, c5, d5, l5, e5, s5, n5, o5, m5, q5, r5, y5, z5, u5, sv5, mv5, rfl⟩ := h5.lits
  have bb5 := below_trans b5 (below_box w5 (.cells #[.int .i64 E.base, .int .i64 E.pages, .slice a5 k5 c5, .slice d5 l5 e5, .slice s5 n5 o5, .slice m5 q5 r5, .int .i64 E.phase, .int .i64 E.next, .slice y5 z5 u5] 30))
  have bw5 := Lib.hid (below_trans bw4.out bb5)
  have bA5 := Lib.hid (heap_below bb5 bA4.out)
  have bW5 := Lib.hid (heap_below bb5 bW4.out)
  have hW5 := Lib.hid (hW4.out.below bb5)
  have bX5 := Lib.hid (heap_below bb5 bX4.out)
  have hX5 := Lib.hid (hX4.out.below bb5)
  have bG5 := Lib.hid (box_new w5 (.cells #[.int .i64 E.base, .int .i64 E.pages, .slice a5 k5 c5, .slice d5 l5 e5, .slice s5 n5 o5, .slice m5 q5 r5, .int .i64 E.phase, .int .i64 E.next, .slice y5 z5 u5] 30))
  have hG5 := Lib.hid (h5.below (below_box w5 (.cells #[.int .i64 E.base, .int .i64 E.pages, .slice a5 k5 c5, .slice d5 l5 e5, .slice s5 n5 o5, .slice m5 q5 r5, .int .i64 E.phase, .int .i64 E.next, .slice y5 z5 u5] 30)))
  have lt5 := Lib.hid (fun q hq => (show w4.heap.size + 1 ≤ q ∧ q < w5.heap.size by have := h5.lt q hq; simpa using this))
  have hzz5 := Lib.hid (show w4.heap.size + 1 ≤ w5.heap.size by have := b5.size; simpa using this)
  clear hn5 h5 b5 bb5 bA4 bW4 hW4 bX4 hX4
  dsimp only [Shape.val]
  have f0 := cell_of_heap bG5.out 0 _ rfl
  have f1 := cell_of_heap bG5.out 1 _ rfl
  have f2 := cell_of_heap bG5.out 2 _ rfl
  have f3 := cell_of_heap bG5.out 3 _ rfl
  have f4 := cell_of_heap bG5.out 4 _ rfl
  have f5 := cell_of_heap bG5.out 5 _ rfl
  have f6 := cell_of_heap bG5.out 6 _ rfl
  have f7 := cell_of_heap bG5.out 7 _ rfl
  have f8 := cell_of_heap bG5.out 8 _ rfl
  have g0 := cell_of_heap bW5.out 0 _ rfl
  have g1 := cell_of_heap bW5.out 1 _ rfl
  have g2 := cell_of_heap bW5.out 2 _ rfl
  have g3 := cell_of_heap bW5.out 3 _ rfl
  have g4 := cell_of_heap bW5.out 4 _ rfl
  have g5 := cell_of_heap bW5.out 5 _ rfl
  have g6 := cell_of_heap bW5.out 6 _ rfl
  have g7 := cell_of_heap bW5.out 7 _ rfl
  have g8 := cell_of_heap bW5.out 8 _ rfl
  go_wp2_with fail
  refine (eqWorld_same _ _ E _ hG5.out.rd hW5.out.rd).mono ?_
  rintro e w6 ⟨rfl, b6⟩
  have bw6 := Lib.hid (below_trans bw5.out b6)
  have bA6 := Lib.hid (heap_below b6 bA5.out)
  have bW6 := Lib.hid (heap_below b6 bW5.out)
  have hW6 := Lib.hid (hW5.out.below b6)
  have bX6 := Lib.hid (heap_below b6 bX5.out)
  have hX6 := Lib.hid (hX5.out.below b6)
  have bG6 := Lib.hid (heap_below b6 bG5.out)
  have hG6 := Lib.hid (hG5.out.below b6)
  have hr6 := Lib.hid (hr'.out.below bw6.out)
  have hzz6 := Lib.hid (show w5.heap.size + 1 ≤ w6.heap.size by have := b6.size; simpa using this)
  clear b6 bA5 bW5 hW5 bX5 hX5 bG5 hG5
  clear f0 f1 f2 f3 f4 f5 f6 f7 f8
  clear g0 g1 g2 g3 g4 g5 g6 g7 g8
  have f0 := cell_of_heap bA6.out 0 _ rfl
  have f1 := cell_of_heap bA6.out 1 _ rfl
  have f2 := cell_of_heap bA6.out 2 _ rfl
  have f3 := cell_of_heap bA6.out 3 _ rfl
  have f4 := cell_of_heap bA6.out 4 _ rfl
  have f5 := cell_of_heap bA6.out 5 _ rfl
  have f6 := cell_of_heap bA6.out 6 _ rfl
  have f7 := cell_of_heap bA6.out 7 _ rfl
  have f8 := cell_of_heap bA6.out 8 _ rfl
  have g0 := cell_of_heap bX6.out 0 _ rfl
  have g1 := cell_of_heap bX6.out 1 _ rfl
  have g2 := cell_of_heap bX6.out 2 _ rfl
  have g3 := cell_of_heap bX6.out 3 _ rfl
  have g4 := cell_of_heap bX6.out 4 _ rfl
  have g5 := cell_of_heap bX6.out 5 _ rfl
  have g6 := cell_of_heap bX6.out 6 _ rfl
  have g7 := cell_of_heap bX6.out 7 _ rfl
  have g8 := cell_of_heap bX6.out 8 _ rfl
  go_upto_region 10 with fail
  go_cut [35] (fun q wx => q = .bool false ∧ Hid (Below w6.heap.size w6 wx))
  case first =>
    go_region_with (first
      | (go_at_call 31; refine (toWorld_rd _ D hsm.out _ ?_).mono ?_; exact hr6.out; rintro e w7 ⟨aw7, ad7, aS7, am7, ag7, cw7, cd7, cS7, cm7, cg7, rfl, h7, b7⟩; have b77 := Lib.hid (show Below w6.heap.size w6 w7 from ⟨b7.os, b7.tape, b7.output, b7.size, b7.block⟩); have h67 := Lib.hid (hX6.out.rd.below b77.out); have x7 := heap_below b77.out bX6.out; have y0 := cell_of_heap x7 0 _ rfl; have y1 := cell_of_heap x7 1 _ rfl; have y2 := cell_of_heap x7 2 _ rfl; have y3 := cell_of_heap x7 3 _ rfl; have y4 := cell_of_heap x7 4 _ rfl; have y5 := cell_of_heap x7 5 _ rfl; have y6 := cell_of_heap x7 6 _ rfl; have y7 := cell_of_heap x7 7 _ rfl; have y8 := cell_of_heap x7 8 _ rfl; unfold worldV at h7 ⊢; clear b7 x7)
      | (go_at_call 33; refine (eqWorld_same _ _ D _ ?_ ?_).mono ?_; exact h67.out; exact h7; rintro e w8 ⟨rfl, b8⟩; have b88 := Lib.hid (show Below w7.heap.size w7 w8 from ⟨b8.os, b8.tape, b8.output, b8.size, b8.block⟩)))
    all_goals go_wp2_with fail
    all_goals go_meet
    all_goals exact ⟨rfl, below_trans b77.out b88.out⟩
  case rest =>
    obtain ⟨rfl, b7⟩ := hcut
    have bw7 := Lib.hid (below_trans bw6.out b7.out)
    have bA7 := Lib.hid (heap_below b7.out bA6.out)
    have bW7 := Lib.hid (heap_below b7.out bW6.out)
    have hW7 := Lib.hid (hW6.out.below b7.out)
    have bX7 := Lib.hid (heap_below b7.out bX6.out)
    have hX7 := Lib.hid (hX6.out.below b7.out)
    have bG7 := Lib.hid (heap_below b7.out bG6.out)
    have hG7 := Lib.hid (hG6.out.below b7.out)
    have hzz7 := Lib.hid b7.out.size
    clear b7 bw6 bA6 bW6 hW6 bX6 hX6 bG6 hG6
    clear f0 f1 f2 f3 f4 f5 f6 f7 f8
    clear g0 g1 g2 g3 g4 g5 g6 g7 g8
    have f0 := cell_of_heap bX7.out 0 _ rfl
    have f1 := cell_of_heap bX7.out 1 _ rfl
    have f2 := cell_of_heap bX7.out 2 _ rfl
    have f3 := cell_of_heap bX7.out 3 _ rfl
    have f4 := cell_of_heap bX7.out 4 _ rfl
    have f5 := cell_of_heap bX7.out 5 _ rfl
    have f6 := cell_of_heap bX7.out 6 _ rfl
    have f7 := cell_of_heap bX7.out 7 _ rfl
    have f8 := cell_of_heap bX7.out 8 _ rfl
    go_wp2_with fail
    refine (markWorld_any _ _ D 1 hmD.out (by omega) (by omega) _ hX7.out).mono ?_
    rintro e w8 ⟨rfl, h8, c8⟩
    have q1 := hzz1.out
    have q2 := hzz2.out
    have q3 := hzz3.out
    have q4 := hzz4.out
    have q5 := hzz5.out
    have q6 := hzz6.out
    have q7 := hzz7.out
    have bA8 := Lib.hid ((c8.block w.heap.size (by omega) (fun hq => by have := lt4.out _ hq; omega)).trans bA7.out)
    have bW8 := Lib.hid ((c8.block w3.heap.size (by omega) (fun hq => by have := lt4.out _ hq; omega)).trans bW7.out)
    have hW8 := Lib.hid (hW7.out.chg c8 (fun q hq hm => by have := lt4.out _ hm; have := lt3.out _ hq; omega))
    have bG8 := Lib.hid ((c8.block w5.heap.size (by omega) (fun hq => by have := lt4.out _ hq; omega)).trans bG7.out)
    have hG8 := Lib.hid (hG7.out.chg c8 (fun q hq hm => by have := lt4.out _ hm; have := lt5.out _ hq; omega))
    have bw8 := Lib.hid (Chg.below bw7.out c8 bw7.out.size (fun q hq => by have := lt4.out _ hq; omega))
    have hzz8 := Lib.hid c8.size
    have hM := mk_bd hmD.out (show (0 : Int) ≤ 1 by omega) (by omega)
    obtain ⟨-, -, -, -, hM0, -⟩ := hM
    generalize mk5 D 1 = M at *
    clear h8 c8 q1 q2 q3 q4 q5 q6 q7 bw7 bA7 bW7 hW7 bX7 hX7 bG7 hG7
    clear f0 f1 f2 f3 f4 f5 f6 f7 f8
    have f0 := cell_of_heap bG8.out 0 _ rfl
    have f1 := cell_of_heap bG8.out 1 _ rfl
    have f2 := cell_of_heap bG8.out 2 _ rfl
    have f3 := cell_of_heap bG8.out 3 _ rfl
    have f4 := cell_of_heap bG8.out 4 _ rfl
    have f5 := cell_of_heap bG8.out 5 _ rfl
    have f6 := cell_of_heap bG8.out 6 _ rfl
    have f7 := cell_of_heap bG8.out 7 _ rfl
    have f8 := cell_of_heap bG8.out 8 _ rfl
    have g0 := cell_of_heap bW8.out 0 _ rfl
    have g1 := cell_of_heap bW8.out 1 _ rfl
    have g2 := cell_of_heap bW8.out 2 _ rfl
    have g3 := cell_of_heap bW8.out 3 _ rfl
    have g4 := cell_of_heap bW8.out 4 _ rfl
    have g5 := cell_of_heap bW8.out 5 _ rfl
    have g6 := cell_of_heap bW8.out 6 _ rfl
    have g7 := cell_of_heap bW8.out 7 _ rfl
    have g8 := cell_of_heap bW8.out 8 _ rfl
    go_wp2_with fail
    refine (eqWorld_same _ _ E _ hG8.out.rd hW8.out.rd).mono ?_
    rintro e w9 ⟨rfl, b9⟩
    have bw9 := Lib.hid (below_trans bw8.out b9)
    have bA9 := Lib.hid (heap_below b9 bA8.out)
    have bW9 := Lib.hid (heap_below b9 bW8.out)
    have hW9 := Lib.hid (hW8.out.below b9)
    have bG9 := Lib.hid (heap_below b9 bG8.out)
    have hG9 := Lib.hid (hG8.out.below b9)
    have hzz9 := Lib.hid b9.size
    clear b9 bw8 bA8 bW8 hW8 bG8 hG8
    clear f0 f1 f2 f3 f4 f5 f6 f7 f8
    clear g0 g1 g2 g3 g4 g5 g6 g7 g8
    have f0 := cell_of_heap bG9.out 0 _ rfl
    have f1 := cell_of_heap bG9.out 1 _ rfl
    have f2 := cell_of_heap bG9.out 2 _ rfl
    have f3 := cell_of_heap bG9.out 3 _ rfl
    have f4 := cell_of_heap bG9.out 4 _ rfl
    have f5 := cell_of_heap bG9.out 5 _ rfl
    have f6 := cell_of_heap bG9.out 6 _ rfl
    have f7 := cell_of_heap bG9.out 7 _ rfl
    have f8 := cell_of_heap bG9.out 8 _ rfl
    go_wp2_with fail
    refine (markWorld_any _ _ E 1 hmE.out (by omega) (by omega) _ hG9.out).mono ?_
    rintro e w10 ⟨rfl, h10, c10⟩
    have q1 := hzz1.out
    have q2 := hzz2.out
    have q3 := hzz3.out
    have q4 := hzz4.out
    have q5 := hzz5.out
    have q6 := hzz6.out
    have q7 := hzz7.out
    have q8 := hzz8.out
    have q9 := hzz9.out
    have bA10 := Lib.hid ((c10.block w.heap.size (by omega) (fun hq => by have := lt5.out _ hq; omega)).trans bA9.out)
    have bW10 := Lib.hid ((c10.block w3.heap.size (by omega) (fun hq => by have := lt5.out _ hq; omega)).trans bW9.out)
    have hW10 := Lib.hid (hW9.out.chg c10 (fun q hq hm => by have := lt5.out _ hm; have := lt3.out _ hq; omega))
    have bG10 := Lib.hid ((c10.block w5.heap.size (by omega) (fun hq => by have := lt5.out _ hq; omega)).trans bG9.out)
    have hG10 := Lib.hid h10
    have bw10 := Lib.hid (Chg.below bw9.out c10 bw9.out.size (fun q hq => by have := lt5.out _ hq; omega))
    have hM2 := mk_bd hmE.out (show (0 : Int) ≤ 1 by omega) (by omega)
    obtain ⟨-, -, -, -, hM20, -⟩ := hM2
    have hheld := Lib.hid (fun v => heldWorld_yes v E 1 hmE.out (by omega) (by omega))
    generalize mk5 E 1 = M2 at *
    clear h10 c10 q1 q2 q3 q4 q5 q6 q7 q8 q9 bw9 bA9 bW9 hW9 bG9 hG9
    clear f0 f1 f2 f3 f4 f5 f6 f7 f8
    have f0 := cell_of_heap bG10.out 0 _ rfl
    have f1 := cell_of_heap bG10.out 1 _ rfl
    have f2 := cell_of_heap bG10.out 2 _ rfl
    have f3 := cell_of_heap bG10.out 3 _ rfl
    have f4 := cell_of_heap bG10.out 4 _ rfl
    have f5 := cell_of_heap bG10.out 5 _ rfl
    have f6 := cell_of_heap bG10.out 6 _ rfl
    have f7 := cell_of_heap bG10.out 7 _ rfl
    have f8 := cell_of_heap bG10.out 8 _ rfl
    go_wp2_with fail
    refine (hheld.out _ _ hG10.out.rd).mono ?_
    rintro e w11 ⟨rfl, b11⟩
    have bw11 := Lib.hid (below_trans bw10.out b11)
    have bA11 := Lib.hid (heap_below b11 bA10.out)
    have bW11 := Lib.hid (heap_below b11 bW10.out)
    have hW11 := Lib.hid (hW10.out.below b11)
    have bG11 := Lib.hid (heap_below b11 bG10.out)
    have hG11 := Lib.hid (hG10.out.below b11)
    have hr11 := Lib.hid (hr'.out.below bw11.out)
    clear b11 bw10 bA10 bW10 hW10 bG10 hG10
    clear f0 f1 f2 f3 f4 f5 f6 f7 f8
    have f0 := cell_of_heap bA11.out 0 _ rfl
    have f1 := cell_of_heap bA11.out 1 _ rfl
    have f2 := cell_of_heap bA11.out 2 _ rfl
    have f3 := cell_of_heap bA11.out 3 _ rfl
    have f4 := cell_of_heap bA11.out 4 _ rfl
    have f5 := cell_of_heap bA11.out 5 _ rfl
    have f6 := cell_of_heap bA11.out 6 _ rfl
    have f7 := cell_of_heap bA11.out 7 _ rfl
    have f8 := cell_of_heap bA11.out 8 _ rfl
    go_wp2_with fail
    refine (toWorld_rdc _ D hsm.out _ hr11.out).mono ?_
    rintro e w12 ⟨aw2, ad2, aS2, am2, ag2, cw2, cd2, cS2, cm2, cg2, rfl, h12, hcw12, hcg12, b12⟩
    have bw12 := Lib.hid (below_trans bw11.out b12)
    have bW12 := Lib.hid (heap_below b12 bW11.out)
    have hW12 := Lib.hid (hW11.out.below b12)
    have bG12 := Lib.hid (heap_below b12 bG11.out)
    have hG12 := Lib.hid (hG11.out.below b12)
    have hcw12' := Lib.hid hcw12
    have hcg12' := Lib.hid hcg12
    clear hcw12 hcg12
    have h12' := Lib.hid h12
    clear h12 b12 bw11 bA11 bW11 hW11 bG11 hG11
    clear f0 f1 f2 f3 f4 f5 f6 f7 f8
    unfold worldV at hcw12' hcg12' h12' ⊢
    go_wp2_with fail
    refine (hI'.out hbk.out _ _ hcw12'.out hcg12'.out h12'.out).mono ?_
    rintro e w13 ⟨S6, E', hn6, rfl, h13, b13⟩
    obtain rfl := ShadedIs.unique hn6 hn.out
    obtain ⟨a6, k6, c6, d6, l6, e6, s6, n6, o6, m6, q6, r6, y6, z6, u6, sv6, mv6, rfl⟩ := h13.lits
    have bb13 := below_trans b13 (below_box w13 (.cells #[.int .i64 E.base, .int .i64 E.pages, .slice a6 k6 c6, .slice d6 l6 e6, .slice s6 n6 o6, .slice m6 q6 r6, .int .i64 E.phase, .int .i64 E.next, .slice y6 z6 u6] 30))
    have bw13 := Lib.hid (below_trans bw12.out bb13)
    have bW13 := Lib.hid (heap_below bb13 bW12.out)
    have hW13 := Lib.hid (hW12.out.below bb13)
    have bG13 := Lib.hid (heap_below bb13 bG12.out)
    have hG13 := Lib.hid (hG12.out.below bb13)
    have bH13 := Lib.hid (box_new w13 (.cells #[.int .i64 E.base, .int .i64 E.pages, .slice a6 k6 c6, .slice d6 l6 e6, .slice s6 n6 o6, .slice m6 q6 r6, .int .i64 E.phase, .int .i64 E.next, .slice y6 z6 u6] 30))
    have hH13 := Lib.hid (h13.below (below_box w13 (.cells #[.int .i64 E.base, .int .i64 E.pages, .slice a6 k6 c6, .slice d6 l6 e6, .slice s6 n6 o6, .slice m6 q6 r6, .int .i64 E.phase, .int .i64 E.next, .slice y6 z6 u6] 30)))
    clear hn6 h13 b13 bb13 bw12 bW12 hW12 bG12 hG12 h12'
    dsimp only [Shape.val]
    have f0 := cell_of_heap bH13.out 0 _ rfl
    have f1 := cell_of_heap bH13.out 1 _ rfl
    have f2 := cell_of_heap bH13.out 2 _ rfl
    have f3 := cell_of_heap bH13.out 3 _ rfl
    have f4 := cell_of_heap bH13.out 4 _ rfl
    have f5 := cell_of_heap bH13.out 5 _ rfl
    have f6 := cell_of_heap bH13.out 6 _ rfl
    have f7 := cell_of_heap bH13.out 7 _ rfl
    have f8 := cell_of_heap bH13.out 8 _ rfl
    have g0 := cell_of_heap bW13.out 0 _ rfl
    have g1 := cell_of_heap bW13.out 1 _ rfl
    have g2 := cell_of_heap bW13.out 2 _ rfl
    have g3 := cell_of_heap bW13.out 3 _ rfl
    have g4 := cell_of_heap bW13.out 4 _ rfl
    have g5 := cell_of_heap bW13.out 5 _ rfl
    have g6 := cell_of_heap bW13.out 6 _ rfl
    have g7 := cell_of_heap bW13.out 7 _ rfl
    have g8 := cell_of_heap bW13.out 8 _ rfl
    go_wp2_with fail
    refine (eqWorld_same _ _ E _ hH13.out.rd hW13.out.rd).mono ?_
    rintro e w14 ⟨rfl, b14⟩
    have bw14 := Lib.hid (below_trans bw13.out b14)
    have bG14 := Lib.hid (heap_below b14 bG13.out)
    have hG14 := Lib.hid (hG13.out.below b14)
    clear b14 bw13 bW13 hW13 bG13 hG13 bH13 hH13
    clear f0 f1 f2 f3 f4 f5 f6 f7 f8
    clear g0 g1 g2 g3 g4 g5 g6 g7 g8
    have f0 := cell_of_heap bG14.out 0 _ rfl
    have f1 := cell_of_heap bG14.out 1 _ rfl
    have f2 := cell_of_heap bG14.out 2 _ rfl
    have f3 := cell_of_heap bG14.out 3 _ rfl
    have f4 := cell_of_heap bG14.out 4 _ rfl
    have f5 := cell_of_heap bG14.out 5 _ rfl
    have f6 := cell_of_heap bG14.out 6 _ rfl
    have f7 := cell_of_heap bG14.out 7 _ rfl
    have f8 := cell_of_heap bG14.out 8 _ rfl
    go_wp2_with fail
    refine (hheld.out _ _ hG14.out.rd).mono ?_
    rintro e w15 ⟨rfl, b15⟩
    clear f0 f1 f2 f3 f4 f5 f6 f7 f8
    go_wp2_with fail
    go_ret
    exact ⟨rfl, below_trans bw14.out b15⟩
end Go.Proofs.YtdhiablpobnhcaaGreat

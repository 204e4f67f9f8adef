import Derived.Test.YtdhiablpobnhcaaGreatThSW
import Derived.Test.YtdhiablpobnhcaaGreatThSTake2
import Derived.Test.YtdhiablpobnhcaaGreatThSOwn4
import Derived.Test.YtdhiablpobnhcaaGreatThDO
import Derived.Test.YtdhiablpobnhcaaGreatThRR
import Derived.Test.YtdhiablpobnhcaaGreatThR

namespace Go.Proofs.YtdhiablpobnhcaaGreat
open Go.RowKit
set_option linter.unusedVariables false
set_option linter.unusedSimpArgs false
def DoneIs (D : WD) (o : OpD) (D' : WD) (c x : Int) : Prop :=
 (Right D ∧ KindOk o.kind ∧ DoIs D o D' c x) ∨ (¬ (Right D ∧ KindOk o.kind) ∧ D' = zeroD ∧ c = 1 ∧ x = 0)
theorem DoneIs.unique {D D1 D2 : WD} {o : OpD} {c1 x1 c2 x2 : Int} (h : DoneIs D o D1 c1 x1) (g : DoneIs D o D2 c2 x2) : D2 = D1 ∧ c2 = c1 ∧ x2 = x1 := by
 rcases h with ⟨r, k, h⟩ | ⟨n, rfl, rfl, rfl⟩ <;> rcases g with ⟨r', k', g⟩ | ⟨n', rfl, rfl, rfl⟩
 ·exact h.unique r.1 g
 ·exact absurd ⟨r, k⟩ n'
 ·exact absurd ⟨r', k'⟩ n
 ·exact ⟨rfl, rfl, rfl⟩
set_option maxRecDepth 100000 in
set_option maxHeartbeats 8000000 in
theorem sspecDo_any (v : Value) (D : WD) (o : OpD) (hs : Small D) (hf : FitD D) (hg : CapG v) (w : World) (hr : RdW w v D) :
  Calls Tryz.prog 126 #[v, o.val] w fun e w' => ∃ S D' c x, DoneIs D o D' c x ∧ e = .returned (.tuple #[S.val D', .agg #[.int .i64 c, .int .i64 x]]) ∧ OwnW w' w.heap.size S D' ∧ Below w.heap.size w w' := by
 have hs' := Lib.hid hs
 have hg' := Lib.hid hg
 have hf' := Lib.hid hf
 clear hs hg hf
 obtain ⟨k, m, h, g, i, n, v0⟩ := o
 obtain ⟨vw, vd, vs, vm, vg, rfl, a1, a2, a3, a4, a5⟩ := hr
 have b1 := below_box w (.cells #[.int .i64 D.base, .int .i64 D.pages, vw, vd, vs, vm, .int .i64 D.phase, .int .i64 D.next, vg] 30)
 have b2 := below_box (w.alloc (.cells #[.int .i64 D.base, .int .i64 D.pages, vw, vd, vs, vm, .int .i64 D.phase, .int .i64 D.next, vg] 30)) (.cells #[.int .i64 k, .int .i64 m, .int .i64 h, .int .i64 g, .int .i64 i, .int .i64 n, .int .i64 v0] 149)
 have b3 := below_box ((w.alloc (.cells #[.int .i64 D.base, .int .i64 D.pages, vw, vd, vs, vm, .int .i64 D.phase, .int .i64 D.next, vg] 30)).alloc (.cells #[.int .i64 k, .int .i64 m, .int .i64 h, .int .i64 g, .int .i64 i, .int .i64 n, .int .i64 v0] 149)) (.cells #[.int .i64 0, .int .i64 0, .slice none 0 0, .slice none 0 0, .slice none 0 0, .slice none 0 0, .int .i64 0, .int .i64 0, .slice none 0 0] 30)
 have b4 := below_box (((w.alloc (.cells #[.int .i64 D.base, .int .i64 D.pages, vw, vd, vs, vm, .int .i64 D.phase, .int .i64 D.next, vg] 30)).alloc (.cells #[.int .i64 k, .int .i64 m, .int .i64 h, .int .i64 g, .int .i64 i, .int .i64 n, .int .i64 v0] 149)).alloc (.cells #[.int .i64 0, .int .i64 0, .slice none 0 0, .slice none 0 0, .slice none 0 0, .slice none 0 0, .int .i64 0, .int .i64 0, .slice none 0 0] 30)) (.cells #[.int .i64 0, .int .i64 0] 145)
 have bb := below_trans b1 (below_trans b2 (below_trans b3 b4))
 have hA' := Lib.hid (heap_below (below_trans b2 (below_trans b3 b4)) (box_new w (.cells #[.int .i64 D.base, .int .i64 D.pages, vw, vd, vs, vm, .int .i64 D.phase, .int .i64 D.next, vg] 30)))
 have hO := box_new (w.alloc (.cells #[.int .i64 D.base, .int .i64 D.pages, vw, vd, vs, vm, .int .i64 D.phase, .int .i64 D.next, vg] 30)) (.cells #[.int .i64 k, .int .i64 m, .int .i64 h, .int .i64 g, .int .i64 i, .int .i64 n, .int .i64 v0] 149)
 have hZ := box_new ((w.alloc (.cells #[.int .i64 D.base, .int .i64 D.pages, vw, vd, vs, vm, .int .i64 D.phase, .int .i64 D.next, vg] 30)).alloc (.cells #[.int .i64 k, .int .i64 m, .int .i64 h, .int .i64 g, .int .i64 i, .int .i64 n, .int .i64 v0] 149)) (.cells #[.int .i64 0, .int .i64 0, .slice none 0 0, .slice none 0 0, .slice none 0 0, .slice none 0 0, .int .i64 0, .int .i64 0, .slice none 0 0] 30)
 have hY := box_new (((w.alloc (.cells #[.int .i64 D.base, .int .i64 D.pages, vw, vd, vs, vm, .int .i64 D.phase, .int .i64 D.next, vg] 30)).alloc (.cells #[.int .i64 k, .int .i64 m, .int .i64 h, .int .i64 g, .int .i64 i, .int .i64 n, .int .i64 v0] 149)).alloc (.cells #[.int .i64 0, .int .i64 0, .slice none 0 0, .slice none 0 0, .slice none 0 0, .slice none 0 0, .int .i64 0, .int .i64 0, .slice none 0 0] 30)) (.cells #[.int .i64 0, .int .i64 0] 145)
 simp only [World.size_alloc] at hO hZ hY
 have hO' := Lib.hid (heap_below (below_trans b3 b4) hO)
 have hR' := Lib.hid (And.intro (heap_below b4 hZ) hY)
 have hW := Lib.hid (show RdW ((((w.alloc (.cells #[.int .i64 D.base, .int .i64 D.pages, vw, vd, vs, vm, .int .i64 D.phase, .int .i64 D.next, vg] 30)).alloc (.cells #[.int .i64 k, .int .i64 m, .int .i64 h, .int .i64 g, .int .i64 i, .int .i64 n, .int .i64 v0] 149)).alloc (.cells #[.int .i64 0, .int .i64 0, .slice none 0 0, .slice none 0 0, .slice none 0 0, .slice none 0 0, .int .i64 0, .int .i64 0, .slice none 0 0] 30)).alloc (.cells #[.int .i64 0, .int .i64 0] 145)) (.agg #[.int .i64 D.base, .int .i64 D.pages, vw, vd, vs, vm, .int .i64 D.phase, .int .i64 D.next, vg]) D from ⟨vw, vd, vs, vm, vg, rfl, a1.below bb, a2.below bb, a3.below bb, a4.below bb, a5.below bb⟩)
 have bb' := Lib.hid bb
 have hz := Lib.hid (show ((((w.alloc (.cells #[.int .i64 D.base, .int .i64 D.pages, vw, vd, vs, vm, .int .i64 D.phase, .int .i64 D.next, vg] 30)).alloc (.cells #[.int .i64 k, .int .i64 m, .int .i64 h, .int .i64 g, .int .i64 i, .int .i64 n, .int .i64 v0] 149)).alloc (.cells #[.int .i64 0, .int .i64 0, .slice none 0 0, .slice none 0 0, .slice none 0 0, .slice none 0 0, .int .i64 0, .int .i64 0, .slice none 0 0] 30)).alloc (.cells #[.int .i64 0, .int .i64 0] 145)).heap.size = w.heap.size + 1 + 1 + 1 + 1 by simp)
 unfold OpD.val OpD.cells
 clear a1 a2 a3 a4 a5 b1 b2 b3 b4 bb hO hZ hY
 obtain ⟨f0, f1, f2, f3, f4, f5, f6, f7, f8⟩ := cells9 hA'.out
 go_enter Tryz.func126, Tryz.ntmps126
 go_upto_region 1 with fail
 generalize ((((w.alloc (.cells #[.int .i64 D.base, .int .i64 D.pages, vw, vd, vs, vm, .int .i64 D.phase, .int .i64 D.next, vg] 30)).alloc (.cells #[.int .i64 k, .int .i64 m, .int .i64 h, .int .i64 g, .int .i64 i, .int .i64 n, .int .i64 v0] 149)).alloc (.cells #[.int .i64 0, .int .i64 0, .slice none 0 0, .slice none 0 0, .slice none 0 0, .slice none 0 0, .int .i64 0, .int .i64 0, .slice none 0 0] 30)).alloc (.cells #[.int .i64 0, .int .i64 0] 145)) = W at *
 go_wp2_with fail
 refine (sworldOk_any _ D hg'.out _ hW.out).mono ?_
 rintro e w1 ⟨hq, b1⟩
 replace hq := hq.elim
 clear f0 f1 f2 f3 f4 f5 f6 f7 f8
 have hA1 := Lib.hid (heap_below b1 hA'.out)
 have hO1 := Lib.hid (heap_below b1 hO'.out)
 have hR1 := Lib.hid (And.intro (heap_below b1 hR'.out.1) (heap_below b1 hR'.out.2))
 have bb1 := Lib.hid (below_trans bb'.out b1)
 have hW1 := Lib.hid (hW.out.below b1)
 have hz1 := Lib.hid (show w.heap.size + 1 + 1 + 1 + 1 ≤ w1.heap.size by have := hz.out; have := b1.size; omega)
 have q0 := cell_of_heap hO1.out 0 (.int .i64 k) rfl
 clear b1
 rcases hq with ⟨hG, rfl⟩ | ⟨hG, rfl⟩
 case inr =>
  obtain ⟨n0, z0, n1, z1, n2, z2, n3, z3, n4, z4, n5, z5, n6, z6, n7, z7, n8, z8⟩ := cellz9 hR1.out.1
  have a0 := cell_of_heap hR1.out.2 0 (.int .i64 0) rfl
  have b0 := frozen_of_heap hR1.out.2 0
  have a1 := cell_of_heap hR1.out.2 1 (.int .i64 0) rfl
  have b1 := frozen_of_heap hR1.out.2 1
  have y := Lib.hid (show DoneIs D ⟨k, m, h, g, i, n, v0⟩ zeroD 1 0 from .inr ⟨fun e => hG e.1, rfl, rfl, rfl⟩)
  go_wp2_with fail
  refine bodyPost_ret (v := .tuple #[zeroS.val zeroD, .agg #[.int .i64 1, .int .i64 0]]) (by simp [results, Tryz.results126, go_sem, n0, n1, n2, n3, n4, n5, n6, n7, n8, z0, z1, z2, z3, z4, z5, z6, z7, z8, a0, a1, b0, b1, Shape.val, zeroS, zeroD]) rfl ?_
  exact ⟨zeroS, zeroD, 1, 0, y.out, rfl, own_zero _ _, Chg.below bb1.out ((((((((((((Chg.refl [w.heap.size + 1 + 1, w.heap.size + 1 + 1 + 1] _).put (b := w.heap.size + 1 + 1) (by simp) 0 _).put (b := w.heap.size + 1 + 1) (by simp) 1 _).put (b := w.heap.size + 1 + 1) (by simp) 2 _).put (b := w.heap.size + 1 + 1) (by simp) 3 _).put (b := w.heap.size + 1 + 1) (by simp) 4 _).put (b := w.heap.size + 1 + 1) (by simp) 5 _).put (b := w.heap.size + 1 + 1) (by simp) 6 _).put (b := w.heap.size + 1 + 1) (by simp) 7 _).put (b := w.heap.size + 1 + 1) (by simp) 8 _).put (b := w.heap.size + 1 + 1 + 1) (by simp) 0 _).put (b := w.heap.size + 1 + 1 + 1) (by simp) 1 _) bb1.out.size (fun q hq => by simp only [List.mem_cons, List.not_mem_nil, or_false] at hq; omega)⟩
 have hG' := Lib.hid hG
 clear hG
 by_cases c1 : k < 1
 ·have d1 : decide (k < 1) = true := decide_eq_true c1
  obtain ⟨n0, z0, n1, z1, n2, z2, n3, z3, n4, z4, n5, z5, n6, z6, n7, z7, n8, z8⟩ := cellz9 hR1.out.1
  have a0 := cell_of_heap hR1.out.2 0 (.int .i64 0) rfl
  have b0 := frozen_of_heap hR1.out.2 0
  have a1 := cell_of_heap hR1.out.2 1 (.int .i64 0) rfl
  have b1 := frozen_of_heap hR1.out.2 1
  have y := Lib.hid (show DoneIs D ⟨k, m, h, g, i, n, v0⟩ zeroD 1 0 from .inr ⟨fun e => by have h1 : 1 ≤ k ∧ k ≤ 9 := e.2; omega, rfl, rfl, rfl⟩)
  go_wp2_with fail
  refine bodyPost_ret (v := .tuple #[zeroS.val zeroD, .agg #[.int .i64 1, .int .i64 0]]) (by simp [results, Tryz.results126, go_sem, n0, n1, n2, n3, n4, n5, n6, n7, n8, z0, z1, z2, z3, z4, z5, z6, z7, z8, a0, a1, b0, b1, Shape.val, zeroS, zeroD]) rfl ?_
  exact ⟨zeroS, zeroD, 1, 0, y.out, rfl, own_zero _ _, Chg.below bb1.out ((((((((((((Chg.refl [w.heap.size + 1 + 1, w.heap.size + 1 + 1 + 1] _).put (b := w.heap.size + 1 + 1) (by simp) 0 _).put (b := w.heap.size + 1 + 1) (by simp) 1 _).put (b := w.heap.size + 1 + 1) (by simp) 2 _).put (b := w.heap.size + 1 + 1) (by simp) 3 _).put (b := w.heap.size + 1 + 1) (by simp) 4 _).put (b := w.heap.size + 1 + 1) (by simp) 5 _).put (b := w.heap.size + 1 + 1) (by simp) 6 _).put (b := w.heap.size + 1 + 1) (by simp) 7 _).put (b := w.heap.size + 1 + 1) (by simp) 8 _).put (b := w.heap.size + 1 + 1 + 1) (by simp) 0 _).put (b := w.heap.size + 1 + 1 + 1) (by simp) 1 _) bb1.out.size (fun q hq => by simp only [List.mem_cons, List.not_mem_nil, or_false] at hq; omega)⟩
 by_cases c2 : 9 < k
 ·have d1 : decide (k < 1) = false := decide_eq_false c1
  have d2 : decide (9 < k) = true := decide_eq_true c2
  obtain ⟨n0, z0, n1, z1, n2, z2, n3, z3, n4, z4, n5, z5, n6, z6, n7, z7, n8, z8⟩ := cellz9 hR1.out.1
  have a0 := cell_of_heap hR1.out.2 0 (.int .i64 0) rfl
  have b0 := frozen_of_heap hR1.out.2 0
  have a1 := cell_of_heap hR1.out.2 1 (.int .i64 0) rfl
  have b1 := frozen_of_heap hR1.out.2 1
  have y := Lib.hid (show DoneIs D ⟨k, m, h, g, i, n, v0⟩ zeroD 1 0 from .inr ⟨fun e => by have h1 : 1 ≤ k ∧ k ≤ 9 := e.2; omega, rfl, rfl, rfl⟩)
  go_wp2_with fail
  refine bodyPost_ret (v := .tuple #[zeroS.val zeroD, .agg #[.int .i64 1, .int .i64 0]]) (by simp [results, Tryz.results126, go_sem, n0, n1, n2, n3, n4, n5, n6, n7, n8, z0, z1, z2, z3, z4, z5, z6, z7, z8, a0, a1, b0, b1, Shape.val, zeroS, zeroD]) rfl ?_
  exact ⟨zeroS, zeroD, 1, 0, y.out, rfl, own_zero _ _, Chg.below bb1.out ((((((((((((Chg.refl [w.heap.size + 1 + 1, w.heap.size + 1 + 1 + 1] _).put (b := w.heap.size + 1 + 1) (by simp) 0 _).put (b := w.heap.size + 1 + 1) (by simp) 1 _).put (b := w.heap.size + 1 + 1) (by simp) 2 _).put (b := w.heap.size + 1 + 1) (by simp) 3 _).put (b := w.heap.size + 1 + 1) (by simp) 4 _).put (b := w.heap.size + 1 + 1) (by simp) 5 _).put (b := w.heap.size + 1 + 1) (by simp) 6 _).put (b := w.heap.size + 1 + 1) (by simp) 7 _).put (b := w.heap.size + 1 + 1) (by simp) 8 _).put (b := w.heap.size + 1 + 1 + 1) (by simp) 0 _).put (b := w.heap.size + 1 + 1 + 1) (by simp) 1 _) bb1.out.size (fun q hq => by simp only [List.mem_cons, List.not_mem_nil, or_false] at hq; omega)⟩
 have hk := Lib.hid (show KindOk k by unfold KindOk; omega)
 have d1 : decide (k < 1) = false := decide_eq_false c1
 have d2 : decide (9 < k) = false := decide_eq_false c2
 clear c1
 obtain ⟨f0, f1, f2, f3, f4, f5, f6, f7, f8⟩ := cells9 hA1.out
 have hown := Lib.hid (sown_any _ D hs'.out w1 hW1.out)
 go_wp2_with fail
 refine hown.out.mono ?_
 rintro e w2 ⟨S, rfl, ho, b2⟩
 obtain ⟨aw, ad, aS, am, ag, cw, cd, cS, cm, cg, sv, mv, rfl⟩ := Shape.lits ho
 have hv := Lib.hid (VarW.mk_box ho b2.size)
 have bX := below_trans b2 (below_box w2 (.cells (Shape.cells ⟨.slice aw D.words.length cw, .slice ad D.dirty.length cd, .slice aS D.spans.length cS, .slice am D.muts.length cm, .slice ag D.grey.length cg, sv, mv⟩ D) 30))
 have bb2 := Lib.hid (below_trans bb1.out bX)
 have hR2 := Lib.hid (And.intro (heap_below bX hR1.out.1) (heap_below bX hR1.out.2))
 have hO2 := heap_below bX hO1.out
 have hbs := Lib.hid (show w1.heap.size ≤ w2.heap.size from b2.size)
 clear ho b2 bX hown f0 f1 f2 f3 f4 f5 f6 f7 f8 q0 d1 d2
 dsimp only [Shape.val]
 dsimp only [Shape.cells] at hv hR2 hO2 bb2
 have o0 := cell_of_heap hO2 0 (.int .i64 k) rfl
 have o1 := cell_of_heap hO2 1 (.int .i64 m) rfl
 have o2 := cell_of_heap hO2 2 (.int .i64 h) rfl
 have o3 := cell_of_heap hO2 3 (.int .i64 g) rfl
 have o4 := cell_of_heap hO2 4 (.int .i64 i) rfl
 have o5 := cell_of_heap hO2 5 (.int .i64 n) rfl
 have o6 := cell_of_heap hO2 6 (.int .i64 v0) rfl
 have hdo := Lib.hid (sdo_any _ _ _ D ⟨k, m, h, g, i, n, v0⟩ ⟨hG'.out.1, hG'.out.2.1, hf'.out.intsIn⟩ hG'.out.rootsObj _ hv.out)
 unfold OpD.val OpD.cells at hdo
 clear hO2
 go_upto_region 4 with fail
 generalize w2.alloc (.cells #[.int .i64 D.base, .int .i64 D.pages, .slice aw D.words.length cw, .slice ad D.dirty.length cd, .slice aS D.spans.length cS, .slice am D.muts.length cm, .int .i64 D.phase, .int .i64 D.next, .slice ag D.grey.length cg] 30) = W2 at *
 go_wp2_with fail
 refine hdo.out.mono ?_
 rintro e w3 ⟨⟨c, x, S', E, hd, rfl, hv3, -⟩, b3⟩
 obtain ⟨aw', ad', aS', am', ag', cw', cd', cS', cm', cg', sv', mv', rfl⟩ := Shape.lits hv3.own
 have y := Lib.hid (show DoneIs D ⟨k, m, h, g, i, n, v0⟩ E c x from .inl ⟨hG'.out, hk.out, hd⟩)
 have hR3 := And.intro ((b3.block (w.heap.size + 1 + 1) (by have := hz1.out; omega)).trans hR2.out.1) ((b3.block (w.heap.size + 1 + 1 + 1) (by have := hz1.out; omega)).trans hR2.out.2)
 have bb3 := below_trans (bb2.out.trans (b3.mono (by have := hz1.out; omega))) (below_box w3 (.cells #[.int .i64 c, .int .i64 x] 145))
 have hR4 := Lib.hid (And.intro (heap_below (below_box w3 (.cells #[.int .i64 c, .int .i64 x] 145)) hR3.1) (heap_below (below_box w3 (.cells #[.int .i64 c, .int .i64 x] 145)) hR3.2))
 have hv4 := Lib.hid (hv3.below (below_box w3 (.cells #[.int .i64 c, .int .i64 x] 145)))
 have hY4 := Lib.hid (box_new w3 (.cells #[.int .i64 c, .int .i64 x] 145))
 have bb4 := Lib.hid bb3
 have hvl := Lib.hid (show w1.heap.size ≤ w2.heap.size ∧ w2.heap.size < w3.heap.size from ⟨hbs.out, hv3.lt⟩)
 clear hd hv3 b3 hR3 bb3 hdo hv o0 o1 o2 o3 o4 o5 o6
 go_upto_region 5 with fail
 generalize w3.alloc (.cells #[.int .i64 c, .int .i64 x] 145) = W5 at *
 have bE := hv4.out.box
 dsimp only [Shape.cells] at bE
 obtain ⟨m0, m1, m2, m3, m4, m5, m6, m7, m8⟩ := cells9 bE
 obtain ⟨n0, z0, n1, z1, n2, z2, n3, z3, n4, z4, n5, z5, n6, z6, n7, z7, n8, z8⟩ := cellz9 hR4.out.1
 have a0 := cell_of_heap hR4.out.2 0 (.int .i64 0) rfl
 have b0 := frozen_of_heap hR4.out.2 0
 have a1 := cell_of_heap hR4.out.2 1 (.int .i64 0) rfl
 have b1 := frozen_of_heap hR4.out.2 1
 have i0 := cell_of_heap hY4.out 0 (.int .i64 c) rfl
 have i1 := cell_of_heap hY4.out 1 (.int .i64 x) rfl
 have e1 : ¬ (w2.heap.size = w.heap.size + 1 + 1) := by have := hvl.out; have := hz1.out; omega
 have e2 : ¬ (w.heap.size + 1 + 1 = w2.heap.size) := fun e => e1 e.symm
 have e3 : ¬ (w3.heap.size = w.heap.size + 1 + 1) := by have := hvl.out; have := hz1.out; omega
 have e4 : ¬ (w.heap.size + 1 + 1 = w3.heap.size) := fun e => e3 e.symm
 have e5 : ¬ (w2.heap.size = w.heap.size + 1 + 1 + 1) := by have := hvl.out; have := hz1.out; omega
 have e6 : ¬ (w3.heap.size = w.heap.size + 1 + 1 + 1) := by have := hvl.out; have := hz1.out; omega
 clear bE
 refine wp_region_lateW (fun w' => w'.cell? ⟨w2.heap.size, 0, none⟩ = some (.int .i64 E.base) ∧ w'.cell? ⟨w2.heap.size, 1, none⟩ = some (.int .i64 E.pages) ∧ w'.cell? ⟨w2.heap.size, 2, none⟩ = some (.slice aw' E.words.length cw') ∧ w'.cell? ⟨w2.heap.size, 3, none⟩ = some (.slice ad' E.dirty.length cd') ∧ w'.cell? ⟨w2.heap.size, 4, none⟩ = some (.slice aS' E.spans.length cS') ∧ w'.cell? ⟨w2.heap.size, 5, none⟩ = some (.slice am' E.muts.length cm') ∧ w'.cell? ⟨w2.heap.size, 6, none⟩ = some (.int .i64 E.phase) ∧ w'.cell? ⟨w2.heap.size, 7, none⟩ = some (.int .i64 E.next) ∧ w'.cell? ⟨w2.heap.size, 8, none⟩ = some (.slice ag' E.grey.length cg') ∧ w'.cell? ⟨w3.heap.size, 0, none⟩ = some (.int .i64 c) ∧ w'.cell? ⟨w3.heap.size, 1, none⟩ = some (.int .i64 x)) (fun j => j == 3) (by kernel_rfl) ?_
 intro wd hwd
 have cRd := Lib.hid (show Chg [w.heap.size + 1 + 1, w.heap.size + 1 + 1 + 1] W5 wd from by rw [hwd]; exact (Chg.of_below (below_drewN (Below.refl W5.heap.size W5) 1) [w.heap.size + 1 + 1, w.heap.size + 1 + 1 + 1]))
 have vRd := Lib.hid (show wd.heap[w2.heap.size]? = some _ from by rw [hwd]; exact hv4.out.box)
 have yRd := Lib.hid (show wd.heap[w3.heap.size]? = some _ from by rw [hwd]; exact hY4.out)
 have rRd := Lib.hid (show (wd.heap[w.heap.size + 1 + 1]? = some _) ∧ (wd.heap[w.heap.size + 1 + 1 + 1]? = some _) from by rw [hwd]; exact hR4.out)
 clear hwd
 have hS := Lib.hid (show ∀ w', Chg [w.heap.size + 1 + 1, w.heap.size + 1 + 1 + 1] W5 w' → (fun w' => w'.cell? ⟨w2.heap.size, 0, none⟩ = some (.int .i64 E.base) ∧ w'.cell? ⟨w2.heap.size, 1, none⟩ = some (.int .i64 E.pages) ∧ w'.cell? ⟨w2.heap.size, 2, none⟩ = some (.slice aw' E.words.length cw') ∧ w'.cell? ⟨w2.heap.size, 3, none⟩ = some (.slice ad' E.dirty.length cd') ∧ w'.cell? ⟨w2.heap.size, 4, none⟩ = some (.slice aS' E.spans.length cS') ∧ w'.cell? ⟨w2.heap.size, 5, none⟩ = some (.slice am' E.muts.length cm') ∧ w'.cell? ⟨w2.heap.size, 6, none⟩ = some (.int .i64 E.phase) ∧ w'.cell? ⟨w2.heap.size, 7, none⟩ = some (.int .i64 E.next) ∧ w'.cell? ⟨w2.heap.size, 8, none⟩ = some (.slice ag' E.grey.length cg') ∧ w'.cell? ⟨w3.heap.size, 0, none⟩ = some (.int .i64 c) ∧ w'.cell? ⟨w3.heap.size, 1, none⟩ = some (.int .i64 x)) w' from fun w' c => (have v6 := (c.block _ hv4.out.lt (by simp only [List.mem_cons, List.not_mem_nil, or_false]; omega)).trans hv4.out.box; have y6 := (c.block _ (Array.getElem?_eq_some_iff.1 hY4.out).1 (by simp only [List.mem_cons, List.not_mem_nil, or_false]; omega)).trans hY4.out; ⟨cell_of_heap v6 0 _ rfl, cell_of_heap v6 1 _ rfl, cell_of_heap v6 2 _ rfl, cell_of_heap v6 3 _ rfl, cell_of_heap v6 4 _ rfl, cell_of_heap v6 5 _ rfl, cell_of_heap v6 6 _ rfl, cell_of_heap v6 7 _ rfl, cell_of_heap v6 8 _ rfl, cell_of_heap y6 0 _ rfl, cell_of_heap y6 1 _ rfl⟩))
 have h0 : (fun w' => w'.cell? ⟨w2.heap.size, 0, none⟩ = some (.int .i64 E.base) ∧ w'.cell? ⟨w2.heap.size, 1, none⟩ = some (.int .i64 E.pages) ∧ w'.cell? ⟨w2.heap.size, 2, none⟩ = some (.slice aw' E.words.length cw') ∧ w'.cell? ⟨w2.heap.size, 3, none⟩ = some (.slice ad' E.dirty.length cd') ∧ w'.cell? ⟨w2.heap.size, 4, none⟩ = some (.slice aS' E.spans.length cS') ∧ w'.cell? ⟨w2.heap.size, 5, none⟩ = some (.slice am' E.muts.length cm') ∧ w'.cell? ⟨w2.heap.size, 6, none⟩ = some (.int .i64 E.phase) ∧ w'.cell? ⟨w2.heap.size, 7, none⟩ = some (.int .i64 E.next) ∧ w'.cell? ⟨w2.heap.size, 8, none⟩ = some (.slice ag' E.grey.length cg') ∧ w'.cell? ⟨w3.heap.size, 0, none⟩ = some (.int .i64 c) ∧ w'.cell? ⟨w3.heap.size, 1, none⟩ = some (.int .i64 x)) wd := ⟨cell_of_heap vRd.out 0 _ rfl, cell_of_heap vRd.out 1 _ rfl, cell_of_heap vRd.out 2 _ rfl, cell_of_heap vRd.out 3 _ rfl, cell_of_heap vRd.out 4 _ rfl, cell_of_heap vRd.out 5 _ rfl, cell_of_heap vRd.out 6 _ rfl, cell_of_heap vRd.out 7 _ rfl, cell_of_heap vRd.out 8 _ rfl, cell_of_heap yRd.out 0 _ rfl, cell_of_heap yRd.out 1 _ rfl⟩
 obtain ⟨n0, z0, n1, z1, n2, z2, n3, z3, n4, z4, n5, z5, n6, z6, n7, z7, n8, z8⟩ := cellz9 rRd.out.1
 have a0 := cell_of_heap rRd.out.2 0 (.int .i64 0) rfl
 have b0 := frozen_of_heap rRd.out.2 0
 have a1 := cell_of_heap rRd.out.2 1 (.int .i64 0) rfl
 have b1 := frozen_of_heap rRd.out.2 1
 refine wpLate_take (i := 0) (v := ?vq1) rfl (by kernel_rfl) (by kernel_rfl) (by kernel_rfl) (by kernel_rfl) (fun j hj => by simp at hj; subst hj; kernel_rfl) (fun _ _ _ h => h) (Or.inl ⟨by rfl, ?hyq1⟩) (by exact h0) ?restq1
 case hyq1 => (intro w hSw; (try dsimp only at hSw); obtain ⟨t0, t1, t2, t3, t4, t5, t6, t7, t8, t9, t10⟩ := hSw; go_simp; try with_reducible rfl)
 try simp only [Act.put, List.setIfInBounds_toArray, List.set_cons_zero, List.set_cons_succ]
 refine wpLate_take (i := 1) (v := ?vq2) rfl (by kernel_rfl) (by kernel_rfl) (by kernel_rfl) (by kernel_rfl) (fun j hj => by simp at hj; subst hj; kernel_rfl) (fun _ _ _ h => h) (Or.inl ⟨by rfl, ?hyq2⟩) (by exact h0) ?restq2
 case hyq2 => (intro w hSw; (try dsimp only at hSw); obtain ⟨t0, t1, t2, t3, t4, t5, t6, t7, t8, t9, t10⟩ := hSw; go_simp; try with_reducible rfl)
 try simp only [Act.put, List.setIfInBounds_toArray, List.set_cons_zero, List.set_cons_succ]
 refine wpLate_all (rs := [2]) (by kernel_rfl) (by simp) ?_
 intro i hi
 simp only [List.mem_cons, List.not_mem_nil, or_false] at hi
 subst hi
 refine wpLate_step (i := 2) rfl (fun K hK => ?_)
 go_simp
 refine hK.out _ _ (fun _ => (hS.out _ (((((((((cRd.out.put (b := w.heap.size + 1 + 1) (by simp) 0 _).put (b := w.heap.size + 1 + 1) (by simp) 1 _).put (b := w.heap.size + 1 + 1) (by simp) 2 _).put (b := w.heap.size + 1 + 1) (by simp) 3 _).put (b := w.heap.size + 1 + 1) (by simp) 4 _).put (b := w.heap.size + 1 + 1) (by simp) 5 _).put (b := w.heap.size + 1 + 1) (by simp) 6 _).put (b := w.heap.size + 1 + 1) (by simp) 7 _).put (b := w.heap.size + 1 + 1) (by simp) 8 _))) ?_
 clear hK K
 try simp only [Act.put, List.setIfInBounds_toArray, List.set_cons_zero, List.set_cons_succ]
 refine wpLate_all (rs := [3]) (by kernel_rfl) (by simp) ?_
 intro i hi
 simp only [List.mem_cons, List.not_mem_nil, or_false] at hi
 subst hi
 refine wpLate_step (i := 3) rfl (fun K hK => ?_)
 go_simp
 refine hK.out _ _ (fun h => Bool.noConfusion ((h 3 (by kernel_rfl)).symm.trans (show _ = true by kernel_rfl))) ?_
 clear hK K
 try simp only [Act.put, List.setIfInBounds_toArray, List.set_cons_zero, List.set_cons_succ]
 refine wpLate_done (by kernel_rfl) ?_ _
 go_wp2_with fail
 refine bodyPost_ret (v := .tuple #[.agg #[.int .i64 E.base, .int .i64 E.pages, .slice aw' E.words.length cw', .slice ad' E.dirty.length cd', .slice aS' E.spans.length cS', .slice am' E.muts.length cm', .int .i64 E.phase, .int .i64 E.next, .slice ag' E.grey.length cg'], .agg #[.int .i64 c, .int .i64 x]]) (by simp [results, Tryz.results126, go_sem, n0, n1, n2, n3, n4, n5, n6, n7, n8, z0, z1, z2, z3, z4, z5, z6, z7, z8, a0, a1, b0, b1]) rfl ?_
 exact ⟨_, E, c, x, y.out, rfl, (hv4.out.own.chg0 (bs := [w.heap.size + 1 + 1, w.heap.size + 1 + 1 + 1]) (((((((((((cRd.out.put (b := w.heap.size + 1 + 1) (by simp) 0 _).put (b := w.heap.size + 1 + 1) (by simp) 1 _).put (b := w.heap.size + 1 + 1) (by simp) 2 _).put (b := w.heap.size + 1 + 1) (by simp) 3 _).put (b := w.heap.size + 1 + 1) (by simp) 4 _).put (b := w.heap.size + 1 + 1) (by simp) 5 _).put (b := w.heap.size + 1 + 1) (by simp) 6 _).put (b := w.heap.size + 1 + 1) (by simp) 7 _).put (b := w.heap.size + 1 + 1) (by simp) 8 _).put (b := w.heap.size + 1 + 1 + 1) (by simp) 0 _).put (b := w.heap.size + 1 + 1 + 1) (by simp) 1 _) (fun q hq => by simp only [List.mem_cons, List.not_mem_nil, or_false] at hq; have := hz1.out; omega)).base_le (by have := hz1.out; omega), Chg.below bb4.out (((((((((((cRd.out.put (b := w.heap.size + 1 + 1) (by simp) 0 _).put (b := w.heap.size + 1 + 1) (by simp) 1 _).put (b := w.heap.size + 1 + 1) (by simp) 2 _).put (b := w.heap.size + 1 + 1) (by simp) 3 _).put (b := w.heap.size + 1 + 1) (by simp) 4 _).put (b := w.heap.size + 1 + 1) (by simp) 5 _).put (b := w.heap.size + 1 + 1) (by simp) 6 _).put (b := w.heap.size + 1 + 1) (by simp) 7 _).put (b := w.heap.size + 1 + 1) (by simp) 8 _).put (b := w.heap.size + 1 + 1 + 1) (by simp) 0 _).put (b := w.heap.size + 1 + 1 + 1) (by simp) 1 _) bb4.out.size (fun q hq => by simp only [List.mem_cons, List.not_mem_nil, or_false] at hq; omega)⟩
end Go.Proofs.YtdhiablpobnhcaaGreat

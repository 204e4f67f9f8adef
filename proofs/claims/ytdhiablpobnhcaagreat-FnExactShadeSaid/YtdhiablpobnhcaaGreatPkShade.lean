import Derived.Test.YtdhiablpobnhcaaGreatPkSWorldOk
import Derived.Test.YtdhiablpobnhcaaGreatPkIWorldOk
import Derived.Test.YtdhiablpobnhcaaGreatPkSTake2
import Derived.Test.YtdhiablpobnhcaaGreatPkIC
import Derived.Test.YtdhiablpobnhcaaGreatPkCaps
import Derived.Test.YtdhiablpobnhcaaGreatPkLeft
import Derived.Test.YtdhiablpobnhcaaGreatPkIShade
import Derived.Test.YtdhiablpobnhcaaGreatPkG

/-
  The contracts of the model's and the program's Shade.
-/
namespace Go.Proofs.YtdhiablpobnhcaaGreat
open Go.RowKit
set_option linter.unusedVariables false

/-- What Shade answers. -/
def ShadedIs (D : WD) (a : Int) (D' : WD) : Prop :=
  (Right D ∧ ShadeIs D a D') ∨ (¬ Right D ∧ D' = zeroD)
theorem ShadedIs.unique {D : WD} {a : Int} {D1 D2 : WD} (h1 : ShadedIs D a D1) (h2 : ShadedIs D a D2) : D2 = D1 := by
  rcases h1 with ⟨r, h1⟩ | ⟨n, rfl⟩ <;> rcases h2 with ⟨r', h2⟩ | ⟨n', rfl⟩
  · exact h1.unique r.1 h2
  · exact absurd r n'
  · exact absurd r' n
  · rfl
theorem shade_bulk {D : WD} {a : Int} {k j : Nat} {s : SpanD} (hs : D.spans[k]? = some s) : (shadeD D a k j s).bulk = D.bulk + 1 ∧ (shadeD D a k j s).spans.length = D.spans.length := by
  refine ⟨?_, by simp [shadeD]⟩
  unfold WD.bulk shadeD
  simp only [List.length_append, List.length_set, List.length_singleton]
  rw [sum_set D.spans k s { s with mark := bits .or .i64 s.mark ((2 : Int) ^ j) } hs rfl]
  omega
theorem ShadedIs.markable {D D' : WD} {a : Int} (h : ShadedIs D a D') (hb : D.bulk ≤ 1048576) : Markable D' := by
  have h3 : D.spans.length ≤ D.bulk := by unfold WD.bulk; omega
  rcases h with ⟨_, ⟨k, j, s, _, _, hs, _, rfl⟩ | ⟨_, rfl⟩⟩ | ⟨_, rfl⟩
  · obtain ⟨e1, e2⟩ := shade_bulk (a := a) (j := j) hs
    exact ⟨by rw [e1, e2]; omega⟩
  · exact ⟨by omega⟩
  · exact ⟨by decide⟩
set_option maxRecDepth 100000 in
set_option maxHeartbeats 3000000 in
theorem sshadeT_any (v : Value) (D : WD) (addr : Int) (hs : Small D) (hg : CapG v) (w : World) (hr : RdW w v D) :
    Calls Tryz.prog 30 #[v, .int .i64 addr] w fun e w' => ∃ S D', ShadedIs D addr D' ∧ e = .returned (S.val D') ∧ OwnW w' w.heap.size S D' ∧ Below w.heap.size w w' := by
  have hs' := Lib.hid hs
  have hg' := Lib.hid hg
  clear hs hg
  obtain ⟨vw, vd, vs, vm, vg, rfl, a1, a2, a3, a4, a5⟩ := hr
  have bb := below_trans (below_box w (.cells #[.int .i64 D.base, .int .i64 D.pages, vw, vd, vs, vm, .int .i64 D.phase, .int .i64 D.next, vg] 30)) (below_box _ (.cells #[.int .i64 0, .int .i64 0, .slice none 0 0, .slice none 0 0, .slice none 0 0, .slice none 0 0, .int .i64 0, .int .i64 0, .slice none 0 0] 30))
  have hA := heap_below (below_box (w.alloc (.cells #[.int .i64 D.base, .int .i64 D.pages, vw, vd, vs, vm, .int .i64 D.phase, .int .i64 D.next, vg] 30)) (.cells #[.int .i64 0, .int .i64 0, .slice none 0 0, .slice none 0 0, .slice none 0 0, .slice none 0 0, .int .i64 0, .int .i64 0, .slice none 0 0] 30)) (box_new w (.cells #[.int .i64 D.base, .int .i64 D.pages, vw, vd, vs, vm, .int .i64 D.phase, .int .i64 D.next, vg] 30))
  have hR := box_new (w.alloc (.cells #[.int .i64 D.base, .int .i64 D.pages, vw, vd, vs, vm, .int .i64 D.phase, .int .i64 D.next, vg] 30)) (.cells #[.int .i64 0, .int .i64 0, .slice none 0 0, .slice none 0 0, .slice none 0 0, .slice none 0 0, .int .i64 0, .int .i64 0, .slice none 0 0] 30)
  rw [World.size_alloc] at hR
  have hW := Lib.hid (show RdW ((w.alloc (.cells #[.int .i64 D.base, .int .i64 D.pages, vw, vd, vs, vm, .int .i64 D.phase, .int .i64 D.next, vg] 30)).alloc (.cells #[.int .i64 0, .int .i64 0, .slice none 0 0, .slice none 0 0, .slice none 0 0, .slice none 0 0, .int .i64 0, .int .i64 0, .slice none 0 0] 30)) (.agg #[.int .i64 D.base, .int .i64 D.pages, vw, vd, vs, vm, .int .i64 D.phase, .int .i64 D.next, vg]) D from ⟨vw, vd, vs, vm, vg, rfl, a1.below bb, a2.below bb, a3.below bb, a4.below bb, a5.below bb⟩)
  have bb' := Lib.hid bb
  have hA' := Lib.hid hA
  have hR' := Lib.hid hR
  have hz := Lib.hid (show ((w.alloc (.cells #[.int .i64 D.base, .int .i64 D.pages, vw, vd, vs, vm, .int .i64 D.phase, .int .i64 D.next, vg] 30)).alloc (.cells #[.int .i64 0, .int .i64 0, .slice none 0 0, .slice none 0 0, .slice none 0 0, .slice none 0 0, .int .i64 0, .int .i64 0, .slice none 0 0] 30)).heap.size = w.heap.size + 1 + 1 by simp)
  clear a1 a2 a3 a4 a5 bb hA hR
  go_enter Tryz.func30, Tryz.ntmps30
  go_wp2_with fail
  generalize (w.alloc (.cells #[.int .i64 D.base, .int .i64 D.pages, vw, vd, vs, vm, .int .i64 D.phase, .int .i64 D.next, vg] 30)).alloc (.cells #[.int .i64 0, .int .i64 0, .slice none 0 0, .slice none 0 0, .slice none 0 0, .slice none 0 0, .int .i64 0, .int .i64 0, .slice none 0 0] 30) = W at *
  refine (sworldOk_any _ D hg'.out _ hW.out).mono ?_
  rintro e w1 ⟨hq, b1⟩
  replace hq := hq.elim
  have hR1 := heap_below b1 hR'.out
  have hA1 := heap_below b1 hA'.out
  have bb1 := Lib.hid (below_trans bb'.out b1)
  have hW1 := Lib.hid (hW.out.below b1)
  have hz1 := Lib.hid (show w.heap.size + 1 + 1 ≤ w1.heap.size by have := hz.out; have := b1.size; omega)
  clear b1
  rcases hq with ⟨hG, rfl⟩ | ⟨hG, rfl⟩
  case inr =>
    have y := Lib.hid (show ShadedIs D addr zeroD from .inr ⟨hG, rfl⟩)
    have n0 := cell_of_heap hR1 0 _ rfl
    have n1 := cell_of_heap hR1 1 _ rfl
    have n2 := cell_of_heap hR1 2 _ rfl
    have n3 := cell_of_heap hR1 3 _ rfl
    have n4 := cell_of_heap hR1 4 _ rfl
    have n5 := cell_of_heap hR1 5 _ rfl
    have n6 := cell_of_heap hR1 6 _ rfl
    have n7 := cell_of_heap hR1 7 _ rfl
    have n8 := cell_of_heap hR1 8 _ rfl
    have z0 := frozen_of_heap hR1 0
    have z1 := frozen_of_heap hR1 1
    have z2 := frozen_of_heap hR1 2
    have z3 := frozen_of_heap hR1 3
    have z4 := frozen_of_heap hR1 4
    have z5 := frozen_of_heap hR1 5
    have z6 := frozen_of_heap hR1 6
    have z7 := frozen_of_heap hR1 7
    have z8 := frozen_of_heap hR1 8
    clear hR1 hA1 hG
    go_wp2_with fail
    refine bodyPost_ret (v := zeroS.val zeroD) (by simp [results, Tryz.results30, go_sem, n0, n1, n2, n3, n4, n5, n6, n7, n8, Shape.val, zeroS, zeroD]) rfl ?_
    exact ⟨zeroS, zeroD, y.out, rfl, own_zero _ _, Chg.below (bs := [w.heap.size + 1]) bb1.out ((((((((((Chg.refl _ _).put (b := w.heap.size + 1) (by simp) 0 _).put (b := w.heap.size + 1) (by simp) 1 _).put (b := w.heap.size + 1) (by simp) 2 _).put (b := w.heap.size + 1) (by simp) 3 _).put (b := w.heap.size + 1) (by simp) 4 _).put (b := w.heap.size + 1) (by simp) 5 _).put (b := w.heap.size + 1) (by simp) 6 _).put (b := w.heap.size + 1) (by simp) 7 _).put (b := w.heap.size + 1) (by simp) 8 _) bb1.out.size (fun q hq => by rw [List.mem_singleton.1 hq]; omega)⟩
  have hG' := Lib.hid hG
  clear hG
  have f0 := cell_of_heap hA1 0 _ rfl
  have f1 := cell_of_heap hA1 1 _ rfl
  have f2 := cell_of_heap hA1 2 _ rfl
  have f3 := cell_of_heap hA1 3 _ rfl
  have f4 := cell_of_heap hA1 4 _ rfl
  have f5 := cell_of_heap hA1 5 _ rfl
  have f6 := cell_of_heap hA1 6 _ rfl
  have f7 := cell_of_heap hA1 7 _ rfl
  have f8 := cell_of_heap hA1 8 _ rfl
  have hown := Lib.hid (sown_any _ D hs'.out w1 hW1.out)
  have hR1' := Lib.hid hR1
  clear hR1 hA1
  go_wp2_with fail
  refine hown.out.mono ?_
  rintro e w2 ⟨S, rfl, ho, b2⟩
  obtain ⟨aw, ad, aS, am, ag, cw, cd, cS, cm, cg, sv, mv, rfl⟩ := Shape.lits ho
  have hv := Lib.hid (VarW.mk_box ho b2.size)
  have bb2 := Lib.hid (below_trans bb1.out b2)
  have hR2 := Lib.hid (heap_below (below_trans b2 (below_box w2 (.cells (Shape.cells ⟨.slice aw D.words.length cw, .slice ad D.dirty.length cd, .slice aS D.spans.length cS, .slice am D.muts.length cm, .slice ag D.grey.length cg, sv, mv⟩ D) 30))) hR1'.out)
  clear ho b2 hown f0 f1 f2 f3 f4 f5 f6 f7 f8
  have hbs := Lib.hid (show w1.heap.size ≤ w2.heap.size from hv.out.le)
  have hRne : ¬ (w2.heap.size = w.heap.size + 1) := by have := hz1.out; have := hbs.out; omega
  have hRne' : ¬ (w.heap.size + 1 = w2.heap.size) := by omega
  dsimp only [Shape.val]
  dsimp only [Shape.cells] at hv hR2
  go_wp2_with fail
  refine (sshade_any _ _ _ D addr hG'.out.1 hs'.out.grey _ hv.out).mono ?_
  rintro e w3 ⟨rfl, ⟨S3, E, i3, hv3, -⟩, b3⟩
  have y := Lib.hid (show ShadedIs D addr E from .inl ⟨hG'.out, i3⟩)
  clear i3 hv
  have bb3 := Lib.hid (show Below w.heap.size w w3 from (below_trans bb2.out (below_box w2 _)).trans (b3.mono (by have := hz1.out; omega)))
  have hR3 := (b3.block (w.heap.size + 1) (by have := hz1.out; omega)).trans hR2.out
  clear b3 hR2
  obtain ⟨aw', ad', aS', am', ag', cw', cd', cS', cm', cg', sv', mv', rfl⟩ := Shape.lits hv3.own
  have bE := hv3.box
  dsimp only [Shape.cells] at bE
  have n0 := cell_of_heap hR3 0 _ rfl
  have n1 := cell_of_heap hR3 1 _ rfl
  have n2 := cell_of_heap hR3 2 _ rfl
  have n3 := cell_of_heap hR3 3 _ rfl
  have n4 := cell_of_heap hR3 4 _ rfl
  have n5 := cell_of_heap hR3 5 _ rfl
  have n6 := cell_of_heap hR3 6 _ rfl
  have n7 := cell_of_heap hR3 7 _ rfl
  have n8 := cell_of_heap hR3 8 _ rfl
  have z0 := frozen_of_heap hR3 0
  have z1 := frozen_of_heap hR3 1
  have z2 := frozen_of_heap hR3 2
  have z3 := frozen_of_heap hR3 3
  have z4 := frozen_of_heap hR3 4
  have z5 := frozen_of_heap hR3 5
  have z6 := frozen_of_heap hR3 6
  have z7 := frozen_of_heap hR3 7
  have z8 := frozen_of_heap hR3 8
  have m0 := cell_of_heap bE 0 _ rfl
  have m1 := cell_of_heap bE 1 _ rfl
  have m2 := cell_of_heap bE 2 _ rfl
  have m3 := cell_of_heap bE 3 _ rfl
  have m4 := cell_of_heap bE 4 _ rfl
  have m5 := cell_of_heap bE 5 _ rfl
  have m6 := cell_of_heap bE 6 _ rfl
  have m7 := cell_of_heap bE 7 _ rfl
  have m8 := cell_of_heap bE 8 _ rfl
  have hv3' := Lib.hid hv3
  clear hv3 bE hR3
  go_wp2_with fail
  refine bodyPost_ret (v := .agg #[.int .i64 E.base, .int .i64 E.pages, .slice aw' E.words.length cw', .slice ad' E.dirty.length cd', .slice aS' E.spans.length cS', .slice am' E.muts.length cm', .int .i64 E.phase, .int .i64 E.next, .slice ag' E.grey.length cg']) (by simp [results, Tryz.results30, go_sem, n0, n1, n2, n3, n4, n5, n6, n7, n8]) rfl ?_
  exact ⟨_, E, y.out, rfl, hv3'.out.handed bb3.out (R := w.heap.size + 1) (by omega) (by have := hz1.out; omega) ((((((((((Chg.refl _ _).put (b := w.heap.size + 1) (by simp) 0 _).put (b := w.heap.size + 1) (by simp) 1 _).put (b := w.heap.size + 1) (by simp) 2 _).put (b := w.heap.size + 1) (by simp) 3 _).put (b := w.heap.size + 1) (by simp) 4 _).put (b := w.heap.size + 1) (by simp) 5 _).put (b := w.heap.size + 1) (by simp) 6 _).put (b := w.heap.size + 1) (by simp) 7 _).put (b := w.heap.size + 1) (by simp) 8 _)⟩
set_option maxRecDepth 100000 in
set_option maxHeartbeats 3000000 in
theorem ishadeT_any (v : Value) (D : WD) (addr : Int) (ha : I64 addr) (hs : Small D) (hf : FitD D) (hc : CapW v) (w : World) (hr : RdW w v D) :
    Calls Tryz.prog 32 #[v, .int .i64 addr] w fun e w' => ∃ S D', ShadedIs D addr D' ∧ e = .returned (S.val D') ∧ OwnW w' w.heap.size S D' ∧ Below w.heap.size w w' := by
  have hs' := Lib.hid hs
  have hc' := Lib.hid hc
  have hf' := Lib.hid hf
  have ha' := Lib.hid ha
  clear hs hc hf ha
  obtain ⟨vw, vd, vs, vm, vg, rfl, a1, a2, a3, a4, a5⟩ := hr
  have bb := below_trans (below_box w (.cells #[.int .i64 D.base, .int .i64 D.pages, vw, vd, vs, vm, .int .i64 D.phase, .int .i64 D.next, vg] 30)) (below_box _ (.cells #[.int .i64 0, .int .i64 0, .slice none 0 0, .slice none 0 0, .slice none 0 0, .slice none 0 0, .int .i64 0, .int .i64 0, .slice none 0 0] 30))
  have hA := heap_below (below_box (w.alloc (.cells #[.int .i64 D.base, .int .i64 D.pages, vw, vd, vs, vm, .int .i64 D.phase, .int .i64 D.next, vg] 30)) (.cells #[.int .i64 0, .int .i64 0, .slice none 0 0, .slice none 0 0, .slice none 0 0, .slice none 0 0, .int .i64 0, .int .i64 0, .slice none 0 0] 30)) (box_new w (.cells #[.int .i64 D.base, .int .i64 D.pages, vw, vd, vs, vm, .int .i64 D.phase, .int .i64 D.next, vg] 30))
  have hR := box_new (w.alloc (.cells #[.int .i64 D.base, .int .i64 D.pages, vw, vd, vs, vm, .int .i64 D.phase, .int .i64 D.next, vg] 30)) (.cells #[.int .i64 0, .int .i64 0, .slice none 0 0, .slice none 0 0, .slice none 0 0, .slice none 0 0, .int .i64 0, .int .i64 0, .slice none 0 0] 30)
  rw [World.size_alloc] at hR
  have hW := Lib.hid (show RdW ((w.alloc (.cells #[.int .i64 D.base, .int .i64 D.pages, vw, vd, vs, vm, .int .i64 D.phase, .int .i64 D.next, vg] 30)).alloc (.cells #[.int .i64 0, .int .i64 0, .slice none 0 0, .slice none 0 0, .slice none 0 0, .slice none 0 0, .int .i64 0, .int .i64 0, .slice none 0 0] 30)) (.agg #[.int .i64 D.base, .int .i64 D.pages, vw, vd, vs, vm, .int .i64 D.phase, .int .i64 D.next, vg]) D from ⟨vw, vd, vs, vm, vg, rfl, a1.below bb, a2.below bb, a3.below bb, a4.below bb, a5.below bb⟩)
  have bb' := Lib.hid bb
  have hA' := Lib.hid hA
  have hR' := Lib.hid hR
  have hz := Lib.hid (show ((w.alloc (.cells #[.int .i64 D.base, .int .i64 D.pages, vw, vd, vs, vm, .int .i64 D.phase, .int .i64 D.next, vg] 30)).alloc (.cells #[.int .i64 0, .int .i64 0, .slice none 0 0, .slice none 0 0, .slice none 0 0, .slice none 0 0, .int .i64 0, .int .i64 0, .slice none 0 0] 30)).heap.size = w.heap.size + 1 + 1 by simp)
  clear a1 a2 a3 a4 a5 bb hA hR
  go_enter Tryz.func32, Tryz.ntmps32
  go_wp2_with fail
  generalize (w.alloc (.cells #[.int .i64 D.base, .int .i64 D.pages, vw, vd, vs, vm, .int .i64 D.phase, .int .i64 D.next, vg] 30)).alloc (.cells #[.int .i64 0, .int .i64 0, .slice none 0 0, .slice none 0 0, .slice none 0 0, .slice none 0 0, .int .i64 0, .int .i64 0, .slice none 0 0] 30) = W at *
  refine (iworldOk_any _ D hf'.out hc'.out _ hW.out).mono ?_
  rintro e w1 ⟨hq, b1⟩
  replace hq := hq.elim
  have hR1 := heap_below b1 hR'.out
  have hA1 := heap_below b1 hA'.out
  have bb1 := Lib.hid (below_trans bb'.out b1)
  have hW1 := Lib.hid (hW.out.below b1)
  have hz1 := Lib.hid (show w.heap.size + 1 + 1 ≤ w1.heap.size by have := hz.out; have := b1.size; omega)
  clear b1
  rcases hq with ⟨hG, rfl⟩ | ⟨hG, rfl⟩
  case inr =>
    have y := Lib.hid (show ShadedIs D addr zeroD from .inr ⟨hG, rfl⟩)
    have n0 := cell_of_heap hR1 0 _ rfl
    have n1 := cell_of_heap hR1 1 _ rfl
    have n2 := cell_of_heap hR1 2 _ rfl
    have n3 := cell_of_heap hR1 3 _ rfl
    have n4 := cell_of_heap hR1 4 _ rfl
    have n5 := cell_of_heap hR1 5 _ rfl
    have n6 := cell_of_heap hR1 6 _ rfl
    have n7 := cell_of_heap hR1 7 _ rfl
    have n8 := cell_of_heap hR1 8 _ rfl
    have z0 := frozen_of_heap hR1 0
    have z1 := frozen_of_heap hR1 1
    have z2 := frozen_of_heap hR1 2
    have z3 := frozen_of_heap hR1 3
    have z4 := frozen_of_heap hR1 4
    have z5 := frozen_of_heap hR1 5
    have z6 := frozen_of_heap hR1 6
    have z7 := frozen_of_heap hR1 7
    have z8 := frozen_of_heap hR1 8
    clear hR1 hA1 hG
    go_wp2_with fail
    refine bodyPost_ret (v := zeroS.val zeroD) (by simp [results, Tryz.results32, go_sem, n0, n1, n2, n3, n4, n5, n6, n7, n8, Shape.val, zeroS, zeroD]) rfl ?_
    exact ⟨zeroS, zeroD, y.out, rfl, own_zero _ _, Chg.below (bs := [w.heap.size + 1]) bb1.out ((((((((((Chg.refl _ _).put (b := w.heap.size + 1) (by simp) 0 _).put (b := w.heap.size + 1) (by simp) 1 _).put (b := w.heap.size + 1) (by simp) 2 _).put (b := w.heap.size + 1) (by simp) 3 _).put (b := w.heap.size + 1) (by simp) 4 _).put (b := w.heap.size + 1) (by simp) 5 _).put (b := w.heap.size + 1) (by simp) 6 _).put (b := w.heap.size + 1) (by simp) 7 _).put (b := w.heap.size + 1) (by simp) 8 _) bb1.out.size (fun q hq => by rw [List.mem_singleton.1 hq]; omega)⟩
  have hG' := Lib.hid hG
  clear hG
  have f0 := cell_of_heap hA1 0 _ rfl
  have f1 := cell_of_heap hA1 1 _ rfl
  have f2 := cell_of_heap hA1 2 _ rfl
  have f3 := cell_of_heap hA1 3 _ rfl
  have f4 := cell_of_heap hA1 4 _ rfl
  have f5 := cell_of_heap hA1 5 _ rfl
  have f6 := cell_of_heap hA1 6 _ rfl
  have f7 := cell_of_heap hA1 7 _ rfl
  have f8 := cell_of_heap hA1 8 _ rfl
  have hown := Lib.hid (copyOf_any w.heap.size _ D hs'.out w1 hW1.out ⟨_, rfl, hA1⟩)
  have hR1' := Lib.hid hR1
  clear hR1 hA1
  go_wp2_with fail
  refine hown.out.mono ?_
  rintro e w2 ⟨S, rfl, ho, b2⟩
  obtain ⟨aw, ad, aS, am, ag, cw, cd, cS, cm, cg, sv, mv, rfl⟩ := Shape.lits ho
  have hv := Lib.hid (VarW.mk_box ho b2.size)
  have bb2 := Lib.hid (below_trans bb1.out b2)
  have hR2 := Lib.hid (heap_below (below_trans b2 (below_box w2 (.cells (Shape.cells ⟨.slice aw D.words.length cw, .slice ad D.dirty.length cd, .slice aS D.spans.length cS, .slice am D.muts.length cm, .slice ag D.grey.length cg, sv, mv⟩ D) 30))) hR1'.out)
  clear ho b2 hown f0 f1 f2 f3 f4 f5 f6 f7 f8
  have hbs := Lib.hid (show w1.heap.size ≤ w2.heap.size from hv.out.le)
  have hRne : ¬ (w2.heap.size = w.heap.size + 1) := by have := hz1.out; have := hbs.out; omega
  have hRne' : ¬ (w.heap.size + 1 = w2.heap.size) := by omega
  dsimp only [Shape.val]
  dsimp only [Shape.cells] at hv hR2
  go_wp2_with fail
  refine (viewOf_new _ _ D hG'.out.1 _ hv.out.rd hv.out.boxW).mono ?_
  rintro e w5 ⟨V, g, n, M, rfl, hvw, hVge, b5⟩
  have hVB := Lib.hid (show V ∉ w2.heap.size :: blks (Shape.all ⟨.slice aw D.words.length cw, .slice ad D.dirty.length cd, .slice aS D.spans.length cS, .slice am D.muts.length cm, .slice ag D.grey.length cg, sv, mv⟩) from fun hm => by
    have h1 := hVge
    simp only [World.size_alloc] at h1
    rcases List.mem_cons.1 hm with rfl | hm
    · omega
    · have := hv.out.own.lt _ hm
      simp only [World.size_alloc] at this
      omega)
  have hvw' := Lib.hid hvw
  have hv5 := Lib.hid (hv.out.below b5)
  have b5' := Lib.hid b5
  clear hvw b5 hVge
  go_wp2_with fail
  refine (ishade_any _ _ V g n M _ D addr hG'.out.1 ha'.out hs'.out.grey _ hv5.out hvw'.out hVB.out).mono ?_
  rintro e w3 ⟨rfl, ⟨S3, E, i3, hv3, -⟩, b3⟩
  replace b3 := (b5'.out.mono (show w1.heap.size ≤ _ by have := hbs.out; simp only [World.size_alloc]; omega)).trans b3
  have y := Lib.hid (show ShadedIs D addr E from .inl ⟨hG'.out, i3⟩)
  clear i3 hv hv5 hvw' hVB b5'
  have bb3 := Lib.hid (show Below w.heap.size w w3 from (below_trans bb2.out (below_box w2 _)).trans (b3.mono (by have := hz1.out; omega)))
  have hR3 := (b3.block (w.heap.size + 1) (by have := hz1.out; omega)).trans hR2.out
  clear b3 hR2
  obtain ⟨aw', ad', aS', am', ag', cw', cd', cS', cm', cg', sv', mv', rfl⟩ := Shape.lits hv3.own
  have bE := hv3.box
  dsimp only [Shape.cells] at bE
  have n0 := cell_of_heap hR3 0 _ rfl
  have n1 := cell_of_heap hR3 1 _ rfl
  have n2 := cell_of_heap hR3 2 _ rfl
  have n3 := cell_of_heap hR3 3 _ rfl
  have n4 := cell_of_heap hR3 4 _ rfl
  have n5 := cell_of_heap hR3 5 _ rfl
  have n6 := cell_of_heap hR3 6 _ rfl
  have n7 := cell_of_heap hR3 7 _ rfl
  have n8 := cell_of_heap hR3 8 _ rfl
  have z0 := frozen_of_heap hR3 0
  have z1 := frozen_of_heap hR3 1
  have z2 := frozen_of_heap hR3 2
  have z3 := frozen_of_heap hR3 3
  have z4 := frozen_of_heap hR3 4
  have z5 := frozen_of_heap hR3 5
  have z6 := frozen_of_heap hR3 6
  have z7 := frozen_of_heap hR3 7
  have z8 := frozen_of_heap hR3 8
  have m0 := cell_of_heap bE 0 _ rfl
  have m1 := cell_of_heap bE 1 _ rfl
  have m2 := cell_of_heap bE 2 _ rfl
  have m3 := cell_of_heap bE 3 _ rfl
  have m4 := cell_of_heap bE 4 _ rfl
  have m5 := cell_of_heap bE 5 _ rfl
  have m6 := cell_of_heap bE 6 _ rfl
  have m7 := cell_of_heap bE 7 _ rfl
  have m8 := cell_of_heap bE 8 _ rfl
  have hv3' := Lib.hid hv3
  clear hv3 bE hR3
  go_wp2_with fail
  refine bodyPost_ret (v := .agg #[.int .i64 E.base, .int .i64 E.pages, .slice aw' E.words.length cw', .slice ad' E.dirty.length cd', .slice aS' E.spans.length cS', .slice am' E.muts.length cm', .int .i64 E.phase, .int .i64 E.next, .slice ag' E.grey.length cg']) (by simp [results, Tryz.results32, go_sem, n0, n1, n2, n3, n4, n5, n6, n7, n8]) rfl ?_
  exact ⟨_, E, y.out, rfl, hv3'.out.handed bb3.out (R := w.heap.size + 1) (by omega) (by have := hz1.out; omega) ((((((((((Chg.refl _ _).put (b := w.heap.size + 1) (by simp) 0 _).put (b := w.heap.size + 1) (by simp) 1 _).put (b := w.heap.size + 1) (by simp) 2 _).put (b := w.heap.size + 1) (by simp) 3 _).put (b := w.heap.size + 1) (by simp) 4 _).put (b := w.heap.size + 1) (by simp) 5 _).put (b := w.heap.size + 1) (by simp) 6 _).put (b := w.heap.size + 1) (by simp) 7 _).put (b := w.heap.size + 1) (by simp) 8 _)⟩
end Go.Proofs.YtdhiablpobnhcaaGreat

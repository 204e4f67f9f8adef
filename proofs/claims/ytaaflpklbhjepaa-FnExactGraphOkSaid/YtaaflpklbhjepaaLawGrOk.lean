/-
  The walk of FnExactGraphOk.
-/
import Derived.Test.YtaaflpklbhjepaaGrS
import Derived.Test.YtaaflpklbhjepaaGrP
import Derived.Deep.RegionWith
namespace Go.Proofs.Ytaaflpklbhjepaa
open Go.RowKit
set_option linter.unusedVariables false

theorem IsB.one {P : Prop} {e e' : Ending} (h : IsB P e) (h' : IsB P e') : e = e' := by
  obtain ⟨r, rfl, h⟩ := h
  obtain ⟨r', rfl, h'⟩ := h'
  have := h.trans h'.symm
  cases r <;> cases r' <;> simp_all

set_option maxRecDepth 100000 in
set_option maxHeartbeats 8000000 in
theorem law_graphOk (D : GD) (v : Value) (w : World) (hr : RdG w v D) :
    Calls Try.prog 3 #[v] w fun e w' => e = .returned (.bool true) ∧ Below w.heap.size w w' := by
  obtain ⟨vo, vm, rfl, ⟨ao, co, rfl, ho⟩, ⟨am, cm, rfl, hm⟩⟩ : ∃ vo vm, v = .agg #[vo, vm] ∧ (∃ a c, vo = .slice a D.objs.length c ∧ True) ∧ (∃ a c, vm = .slice a D.muts.length c ∧ True) := by
    obtain ⟨vo, vm, rfl, ⟨a, c, h1, _⟩, ⟨a', c', h2, _⟩⟩ := hr
    exact ⟨vo, vm, rfl, ⟨a, c, h1, trivial⟩, ⟨a', c', h2, trivial⟩⟩
  have hr' := Lib.hid hr
  have bb := Lib.hid (below_box w (.cells #[.slice ao D.objs.length co, .slice am D.muts.length cm] 25))
  have bx := Lib.hid (box_new w (.cells #[.slice ao D.objs.length co, .slice am D.muts.length cm] 25))
  have hrW := Lib.hid (hr.below bb.out)
  clear hr ho hm
  go_enter Try.func3, Try.ntmps3
  go_wp2_with fail
  refine (szGraph_any _ D _ (by omega) (by omega) _ hrW.out).mono ?_
  rintro e w1 ⟨r1, rfl, z1, b1⟩
  have t1 := z1.lo
  have bw1 := Lib.hid (below_trans bb.out b1)
  have bx1 := Lib.hid (heap_below b1 bx.out)
  have hr1 := Lib.hid (hr'.out.below bw1.out)
  by_cases c1 : r1 < 0
  · clear z1 b1
    go_wp2_with fail
    go_ret
    exact ⟨rfl, bw1.out⟩
  have hsm := Lib.hid (GSmall.of_bulk (D := D) (by have := z1.fits (by omega); omega))
  have f0 := cell_of_heap bx1.out 0 _ rfl
  have f1 := cell_of_heap bx1.out 1 _ rfl
  clear z1 b1
  go_wp2_with fail
  refine (toGraph_any _ D hsm.out _ hr1.out).mono ?_
  rintro e w2 ⟨g2, m2, sv2, mv2, rfl, h2, b2⟩
  have bw2 := Lib.hid (below_trans bw1.out b2)
  have bx2 := Lib.hid (heap_below b2 bx1.out)
  have h2' := Lib.hid h2.rd
  clear h2 b2 f0 f1
  go_wp2_with fail
  refine (sgraphOk_any _ D hsm.out _ h2'.out).mono ?_
  rintro e w3 ⟨hq, b3⟩
  have bw3 := Lib.hid (below_trans bw2.out b3)
  have bx3 := Lib.hid (heap_below b3 bx2.out)
  have hr3 := Lib.hid (hr'.out.below bw3.out)
  have hq' := Lib.hid hq
  obtain ⟨q0, rfl, _⟩ := hq
  have f0 := cell_of_heap bx3.out 0 _ rfl
  have f1 := cell_of_heap bx3.out 1 _ rfl
  clear b3
  go_wp2_with fail
  refine (toGraph_any _ D hsm.out _ hr3.out).mono ?_
  rintro e w4 ⟨g4, m4, sv4, mv4, rfl, h4, b4⟩
  clear f0 f1
  have bw4 := Lib.hid (below_trans bw3.out b4)
  have bx4 := Lib.hid (heap_below b4 bx3.out)
  have h4' := Lib.hid (h4.rd.below (below_box w4 (.cells #[sl g4 D.objs.length, sl m4 D.muts.length] 31)))
  have bb4 := Lib.hid (below_box w4 (.cells #[sl g4 D.objs.length, sl m4 D.muts.length] 31))
  have bn4 := Lib.hid (box_new w4 (.cells #[sl g4 D.objs.length, sl m4 D.muts.length] 31))
  clear h4 b4
  go_wp2_with fail
  refine (igraphOk_any _ D hsm.out _ h4'.out).mono ?_
  rintro e w5 ⟨hp, b5⟩
  obtain rfl := IsB.one hp hq'.out
  have bw5 := Lib.hid (below_trans (below_trans bw4.out bb4.out) b5)
  have bx5 := Lib.hid (heap_below b5 (heap_below bb4.out bx4.out))
  have bn5 := Lib.hid (heap_below b5 bn4.out)
  have h5 := Lib.hid (h4'.out.below b5)
  have hr5 := Lib.hid (hr'.out.below bw5.out)
  clear hp b5
  have f0 := cell_of_heap bx5.out 0 _ rfl
  have f1 := cell_of_heap bx5.out 1 _ rfl
  have n0 := cell_of_heap bn5.out 0 _ rfl
  have n1 := cell_of_heap bn5.out 1 _ rfl
  go_wp2_with fail
  go_region_with (first
    | (go_at_call 8; refine (toGraph_any _ D hsm.out _ ?_).mono ?_; exact hr5.out; rintro e w7 ⟨g6, m6, sv6, mv6, rfl, h7, b7⟩; have b7' : Below w5.heap.size w5 w7 := ⟨b7.os, b7.tape, b7.output, b7.size, b7.block⟩; have bw7 := Lib.hid (below_trans bw5.out b7'); have h67 := Lib.hid (h5.out.below b7'); have x7 := heap_below b7' bn5.out; have y0 := cell_of_heap x7 0 _ rfl; have y1 := cell_of_heap x7 1 _ rfl; have h7 := Lib.hid h7.rd; clear b7 b7' x7)
    | (go_at_call 10; refine (eqGraph_same _ _ D _ ?_ ?_).mono ?_; exact h67.out; exact h7.out; rintro e w8 ⟨rfl, b8⟩))
  all_goals go_wp2_with fail
  all_goals go_ret
  all_goals exact ⟨rfl, below_trans bw7.out b8⟩
end Go.Proofs.Ytaaflpklbhjepaa

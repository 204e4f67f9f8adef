/-
  The walk of FnExactSameGraph.
-/
import Derived.Test.YtaaflpklbhjepaaGrS
import Derived.Test.YtaaflpklbhjepaaGrU
import Derived.Test.YtaaflpklbhjepaaGrW
import Derived.Deep.RegionWith
namespace Go.Proofs.Ytaaflpklbhjepaa
open Go.RowKit
set_option linter.unusedVariables false

theorem IsB.one' {P : Prop} {e e' : Ending} (h : IsB P e) (h' : IsB P e') : e = e' := by
  obtain ⟨r, rfl, h⟩ := h
  obtain ⟨r', rfl, h'⟩ := h'
  have := h.trans h'.symm
  cases r <;> cases r' <;> simp_all
theorem below_draw {w w' : World} {n : Nat} (b : Below (w.drewN n).heap.size (w.drewN n) w') : Below w.heap.size w w' := ⟨b.os, b.tape, b.output, b.size, b.block⟩

set_option maxRecDepth 100000 in
set_option maxHeartbeats 8000000 in
theorem law_sameGraph (D E : GD) (v v' : Value) (w : World) (hr : RdG w v D) (hr' : RdG w v' E) :
    Calls Try.prog 5 #[v, v'] w fun e w' => e = .returned (.bool true) ∧ Below w.heap.size w w' := by
  have hA := Lib.hid hr
  have hB := Lib.hid hr'
  obtain ⟨vo, vm, rfl, ro, rm⟩ := hr
  obtain ⟨vo', vm', rfl, ro', rm'⟩ := hr'
  obtain ⟨ao, co, rfl⟩ : ∃ a c, vo = .slice a D.objs.length c := by obtain ⟨a, c, h, _⟩ := ro; exact ⟨a, c, h⟩
  obtain ⟨am, cm, rfl⟩ : ∃ a c, vm = .slice a D.muts.length c := by obtain ⟨a, c, h, _⟩ := rm; exact ⟨a, c, h⟩
  obtain ⟨ao', co', rfl⟩ : ∃ a c, vo' = .slice a E.objs.length c := by obtain ⟨a, c, h, _⟩ := ro'; exact ⟨a, c, h⟩
  obtain ⟨am', cm', rfl⟩ : ∃ a c, vm' = .slice a E.muts.length c := by obtain ⟨a, c, h, _⟩ := rm'; exact ⟨a, c, h⟩
  have bb := Lib.hid (below_trans (below_box w (.cells #[.slice ao D.objs.length co, .slice am D.muts.length cm] 25)) (below_box (w.alloc (.cells #[.slice ao D.objs.length co, .slice am D.muts.length cm] 25)) (.cells #[.slice ao' E.objs.length co', .slice am' E.muts.length cm'] 25)))
  have x2 := box_new (w.alloc (.cells #[.slice ao D.objs.length co, .slice am D.muts.length cm] 25)) (.cells #[.slice ao' E.objs.length co', .slice am' E.muts.length cm'] 25)
  rw [World.size_alloc] at x2
  have x1 := Lib.hid (heap_below (below_box (w.alloc (.cells #[.slice ao D.objs.length co, .slice am D.muts.length cm] 25)) (.cells #[.slice ao' E.objs.length co', .slice am' E.muts.length cm'] 25)) (box_new w (.cells #[.slice ao D.objs.length co, .slice am D.muts.length cm] 25)))
  have x2 := Lib.hid x2
  clear ro rm ro' rm'
  go_enter Try.func5, Try.ntmps5
  go_wp2_with fail
  refine (szGraph_any _ D _ (by omega) (by omega) _ (hA.out.below bb.out)).mono ?_
  rintro e w1 ⟨r1, rfl, z1, b1⟩
  have t1 := z1.lo
  have t2 := z1.hi (by omega)
  have bw1 := Lib.hid (below_trans bb.out b1)
  have y1 := Lib.hid (heap_below b1 x1.out)
  have y2 := Lib.hid (heap_below b1 x2.out)
  by_cases c1 : r1 < 0
  · clear z1 b1
    go_wp2_with fail
    go_ret
    exact ⟨rfl, bw1.out⟩
  have hsm := Lib.hid (GSmall.of_bulk (D := D) (by have := z1.fits (by omega); omega))
  have e0 := cell_of_heap y2.out 0 _ rfl
  have e1 := cell_of_heap y2.out 1 _ rfl
  clear z1 b1
  go_wp2_with fail
  refine (szGraph_any _ E _ (by omega) (by omega) _ (hB.out.below bw1.out)).mono ?_
  rintro e w2 ⟨r2, rfl, z2, b2⟩
  have t3 := z2.lo
  have bw2 := Lib.hid (below_trans bw1.out b2)
  have u1 := Lib.hid (heap_below b2 y1.out)
  have u2 := Lib.hid (heap_below b2 y2.out)
  clear e0 e1
  by_cases c2 : r2 < 0
  · clear z2 b2
    go_wp2_with fail
    go_ret
    exact ⟨rfl, bw2.out⟩
  have hsm2 := Lib.hid (GSmall.of_bulk (D := E) (by have := z2.fits (by omega); omega))
  have f0 := cell_of_heap u1.out 0 _ rfl
  have f1 := cell_of_heap u1.out 1 _ rfl
  have e0 := cell_of_heap u2.out 0 _ rfl
  have e1 := cell_of_heap u2.out 1 _ rfl
  have hA2 := Lib.hid (hA.out.below bw2.out)
  clear z2 b2
  go_wp2_with fail
  have mark := trivial
  go_region_with (first
    | (go_at_call 8; clear mark; refine (toGraph_any _ D hsm.out _ ?_).mono ?_; exact hA2.out; rintro e w3 ⟨g1, m1, sv1, mv1, rfl, h3, b3⟩; have b3' : Below w2.heap.size w2 w3 := ⟨b3.os, b3.tape, b3.output, b3.size, b3.block⟩; have bw3 := Lib.hid (below_trans bw2.out b3'); have hB3 := Lib.hid (hB.out.below bw3.out); have h3 := Lib.hid h3.rd; have q1 := Lib.hid (heap_below b3' u1.out); have q2 := Lib.hid (heap_below b3' u2.out); have e0 := cell_of_heap q2.out 0 _ rfl; have e1 := cell_of_heap q2.out 1 _ rfl; clear b3 b3')
    | (go_at_call 8; refine (toGraph_any _ E hsm2.out _ ?_).mono ?_; exact hB3.out; rintro e w4 ⟨g2, m2, sv2, mv2, rfl, h4, b4⟩; have b4' : Below w3.heap.size w3 w4 := ⟨b4.os, b4.tape, b4.output, b4.size, b4.block⟩; have bw4 := Lib.hid (below_trans bw3.out b4'); have h34 := Lib.hid (h3.out.below b4'); have h4 := Lib.hid h4.rd; have q1 := Lib.hid (heap_below b4' q1.out); have q2 := Lib.hid (heap_below b4' q2.out); clear b4 b4')
    | (go_at_call 15; refine (ssame_any _ _ D E hsm.out hsm2.out _ ?_ ?_).mono ?_; exact h34.out; exact h4.out; rintro e w5 ⟨hq, b5⟩; have hq' := Lib.hid hq; obtain ⟨q0, rfl, _⟩ := hq; have b5' : Below w4.heap.size w4 w5 := ⟨b5.os, b5.tape, b5.output, b5.size, b5.block⟩; have bw5 := Lib.hid (below_trans bw4.out b5'); have q1 := Lib.hid (heap_below b5' q1.out); have q2 := Lib.hid (heap_below b5' q2.out); clear b5 b5'))
  all_goals
    clear e0 e1 f0 f1
    have hA5 := Lib.hid (hA.out.below bw5.out)
    have f0 := cell_of_heap q1.out 0 _ rfl
    have f1 := cell_of_heap q1.out 1 _ rfl
    go_wp2_with fail
    refine (toGraph_any _ D hsm.out _ hA5.out).mono ?_
    rintro e w6 ⟨g4, m4, sv4, mv4, rfl, h6, b6⟩
    have b6' := below_trans b6 (below_box w6 (.cells #[sl g4 D.objs.length, sl m4 D.muts.length] 31))
    have bw6 := Lib.hid (below_trans bw5.out b6')
    have q1 := Lib.hid (heap_below b6' q1.out)
    have q2 := Lib.hid (heap_below b6' q2.out)
    have k1 := Lib.hid (box_new w6 (.cells #[sl g4 D.objs.length, sl m4 D.muts.length] 31))
    have h6 := Lib.hid (h6.rd.below (below_box w6 (.cells #[sl g4 D.objs.length, sl m4 D.muts.length] 31)))
    have hB6 := Lib.hid (hB.out.below bw6.out)
    have hs6 := Lib.hid (World.size_alloc w6 (.cells #[sl g4 D.objs.length, sl m4 D.muts.length] 31))
    have e0 := cell_of_heap q2.out 0 _ rfl
    have e1 := cell_of_heap q2.out 1 _ rfl
    clear b6 b6' f0 f1
    go_wp2_with fail
    refine (toGraph_any _ E hsm2.out _ hB6.out).mono ?_
    rintro e w7 ⟨g5, m5, sv5, mv5, rfl, h7, b7⟩
    have b7' := below_trans b7 (below_box w7 (.cells #[sl g5 E.objs.length, sl m5 E.muts.length] 31))
    have bw7 := Lib.hid (below_trans bw6.out b7')
    have q1 := Lib.hid (heap_below b7' q1.out)
    have q2 := Lib.hid (heap_below b7' q2.out)
    have k1 := Lib.hid (heap_below b7' k1.out)
    have k2 := Lib.hid (box_new w7 (.cells #[sl g5 E.objs.length, sl m5 E.muts.length] 31))
    have h6 := Lib.hid (h6.out.below b7')
    have h7 := Lib.hid (h7.rd.below (below_box w7 (.cells #[sl g5 E.objs.length, sl m5 E.muts.length] 31)))
    have c0 := cell_of_heap k1.out 0 _ rfl
    have c1 := cell_of_heap k1.out 1 _ rfl
    clear b7 b7' e0 e1
    go_wp2_with fail
    refine (isame_any _ _ D E hsm.out hsm2.out _ h6.out h7.out).mono ?_
    rintro e w8 ⟨hp, b8⟩
    obtain rfl := IsB.one' hp hq'.out
    have bw8 := Lib.hid (below_trans bw7.out b8)
    have q1 := Lib.hid (heap_below b8 q1.out)
    have q2 := Lib.hid (heap_below b8 q2.out)
    have k1 := Lib.hid (heap_below b8 k1.out)
    have k2 := Lib.hid (heap_below b8 k2.out)
    have h8 := Lib.hid (h6.out.below b8)
    have hz8 := Lib.hid (h7.out.below b8)
    have hA8 := Lib.hid (hA.out.below bw8.out)
    clear hp b8 c0 c1
    have f0 := cell_of_heap q1.out 0 _ rfl
    have f1 := cell_of_heap q1.out 1 _ rfl
    have c0 := cell_of_heap k1.out 0 _ rfl
    have c1 := cell_of_heap k1.out 1 _ rfl
    go_wp2_with fail
    go_region_with (first
      | (go_at_call 8; refine (toGraph_any _ D hsm.out _ ?_).mono ?_; exact hA8.out; rintro e wy ⟨gy, my, svy, mvy, rfl, hy, b9⟩; have b9' : Below w8.heap.size w8 wy := ⟨b9.os, b9.tape, b9.output, b9.size, b9.block⟩; have bwy := Lib.hid (below_trans bw8.out b9'); have hxy := Lib.hid (h8.out.below b9'); have hz9 := Lib.hid (hz8.out.below b9'); have k1 := Lib.hid (heap_below b9' k1.out); have c0 := cell_of_heap k1.out 0 _ rfl; have c1 := cell_of_heap k1.out 1 _ rfl; have k2 := Lib.hid (heap_below b9' k2.out); have q2 := Lib.hid (heap_below b9' q2.out); have hy := Lib.hid hy.rd; clear b9 b9')
      | (go_at_call 10; refine (eqGraph_same _ _ D _ ?_ ?_).mono ?_; exact hxy.out; exact hy.out; rintro e wz ⟨rfl, b9⟩; have b9' : Below wy.heap.size wy wz := ⟨b9.os, b9.tape, b9.output, b9.size, b9.block⟩; have bwz := Lib.hid (below_trans bwy.out b9'); have hz9 := Lib.hid (hz9.out.below b9'); have k2 := Lib.hid (heap_below b9' k2.out); have q2 := Lib.hid (heap_below b9' q2.out); clear b9 b9'))
    all_goals
      clear c0 c1 f0 f1
      have hBz := Lib.hid (hB.out.below bwz.out)
      have f0 := cell_of_heap q2.out 0 _ rfl
      have f1 := cell_of_heap q2.out 1 _ rfl
      have c0 := cell_of_heap k2.out 0 _ rfl
      have c1 := cell_of_heap k2.out 1 _ rfl
      go_wp2_with fail
      go_region_with (first
        | (go_at_call 8; refine (toGraph_any _ E hsm2.out _ ?_).mono ?_; exact hBz.out; rintro e ww ⟨gw, mw, svw, mvw, rfl, hw, b9⟩; have b9' : Below wz.heap.size wz ww := ⟨b9.os, b9.tape, b9.output, b9.size, b9.block⟩; have bww := Lib.hid (below_trans bwz.out b9'); have hzw := Lib.hid (hz9.out.below b9'); have k2 := Lib.hid (heap_below b9' k2.out); have c0 := cell_of_heap k2.out 0 _ rfl; have c1 := cell_of_heap k2.out 1 _ rfl; have hw := Lib.hid hw.rd; clear b9 b9')
        | (go_at_call 10; refine (eqGraph_same _ _ E _ ?_ ?_).mono ?_; exact hzw.out; exact hw.out; rintro e wv ⟨rfl, b9⟩; have b9' : Below ww.heap.size ww wv := ⟨b9.os, b9.tape, b9.output, b9.size, b9.block⟩; have bwv := Lib.hid (below_trans bww.out b9'); clear b9 b9'))
      all_goals go_wp2_with fail
      all_goals go_ret
      all_goals exact ⟨rfl, bwv.out⟩
end Go.Proofs.Ytaaflpklbhjepaa

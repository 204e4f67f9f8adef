import Derived.Test.YtdhiablpobnhcaaGreatPkG
import Derived.Test.YtdhiablpobnhcaaGreatPkIStep
import Derived.Test.YtdhiablpobnhcaaGreatPkIWorldOk
import Derived.Test.YtdhiablpobnhcaaGreatPkIC
import Derived.Test.YtdhiablpobnhcaaGreatPkSTake2
import Derived.Test.YtdhiablpobnhcaaGreatPkCaps

/-
  The contracts of the program's GcRun and GcStep.
-/
namespace Go.Proofs.YtdhiablpobnhcaaGreat
open Go.RowKit
set_option linter.unusedVariables false
set_option linter.unusedSimpArgs false

set_option maxRecDepth 100000 in
set_option maxHeartbeats 3000000 in
theorem igcRun_any (v : Value) (D : WD) (n : Int) (hs : Small D) (hf : FitD D) (hc : CapW v) (w : World) (hr : RdW w v D) :
    Calls Tryz.prog 40 #[v, .int .i64 n] w fun e w' => ∃ S D', RunIs D n D' ∧ e = .returned (S.val D') ∧ OwnW w' w.heap.size S D' ∧ Below w.heap.size w w' := by
  have hs' := Lib.hid hs
  have hc' := Lib.hid hc
  have hf' := Lib.hid hf
  clear hs hc hf
  obtain ⟨vw, vd, vs, vm, vg, rfl, a1, a2, a3, a4, a5⟩ := hr
  have bb := below_trans (below_box w (.cells #[.int .i64 D.base, .int .i64 D.pages, vw, vd, vs, vm, .int .i64 D.phase, .int .i64 D.next, vg] 30)) (below_box _ (.cells #[.int .i64 0, .int .i64 0, .slice none 0 0, .slice none 0 0, .slice none 0 0, .slice none 0 0, .int .i64 0, .int .i64 0, .slice none 0 0] 30))
  have hA := heap_below (below_box (w.alloc (.cells #[.int .i64 D.base, .int .i64 D.pages, vw, vd, vs, vm, .int .i64 D.phase, .int .i64 D.next, vg] 30)) (.cells #[.int .i64 0, .int .i64 0, .slice none 0 0, .slice none 0 0, .slice none 0 0, .slice none 0 0, .int .i64 0, .int .i64 0, .slice none 0 0] 30)) (box_new w (.cells #[.int .i64 D.base, .int .i64 D.pages, vw, vd, vs, vm, .int .i64 D.phase, .int .i64 D.next, vg] 30))
  have hR := box_new (w.alloc (.cells #[.int .i64 D.base, .int .i64 D.pages, vw, vd, vs, vm, .int .i64 D.phase, .int .i64 D.next, vg] 30)) (.cells #[.int .i64 0, .int .i64 0, .slice none 0 0, .slice none 0 0, .slice none 0 0, .slice none 0 0, .int .i64 0, .int .i64 0, .slice none 0 0] 30)
  rw [World.size_alloc] at hR
  have hW := Lib.hid (show RdW ((w.alloc (.cells #[.int .i64 D.base, .int .i64 D.pages, vw, vd, vs, vm, .int .i64 D.phase, .int .i64 D.next, vg] 30)).alloc (.cells #[.int .i64 0, .int .i64 0, .slice none 0 0, .slice none 0 0, .slice none 0 0, .slice none 0 0, .int .i64 0, .int .i64 0, .slice none 0 0] 30)) (.agg #[.int .i64 D.base, .int .i64 D.pages, vw, vd, vs, vm, .int .i64 D.phase, .int .i64 D.next, vg]) D from ⟨vw, vd, vs, vm, vg, rfl, a1.below bb, a2.below bb, a3.below bb, a4.below bb, a5.below bb⟩)
  have bb' := Lib.hid bb
  have hA' := Lib.hid hA
  have hR' := Lib.hid hR
  have hz := Lib.hid (show ((w.alloc (.cells #[.int .i64 D.base, .int .i64 D.pages, vw, vd, vs, vm, .int .i64 D.phase, .int .i64 D.next, vg] 30)).alloc (.cells #[.int .i64 0, .int .i64 0, .slice none 0 0, .slice none 0 0, .slice none 0 0, .slice none 0 0, .int .i64 0, .int .i64 0, .slice none 0 0] 30)).heap.size = w.heap.size + 1 + 1 by simp)
  clear a1 a2 a3 a4 a5 bb hA hR
  go_enter Tryz.func40, Tryz.ntmps40
  go_wp2_with fail
  generalize (w.alloc (.cells #[.int .i64 D.base, .int .i64 D.pages, vw, vd, vs, vm, .int .i64 D.phase, .int .i64 D.next, vg] 30)).alloc (.cells #[.int .i64 0, .int .i64 0, .slice none 0 0, .slice none 0 0, .slice none 0 0, .slice none 0 0, .int .i64 0, .int .i64 0, .slice none 0 0] 30) = W at *
  refine (iworldOk_any _ D hf'.out hc'.out _ hW.out).mono ?_
  rintro e w1 ⟨hq, b1⟩
  replace hq := hq.elim
  have hR1 := heap_below b1 hR'.out
  have hA1 := heap_below b1 hA'.out
  have bb1 := Lib.hid (below_trans bb'.out b1)
  have hW1 := Lib.hid (hW.out.below b1)
  have hz1 := Lib.hid (show w.heap.size + 1 + 1 ≤ w1.heap.size by have := hz.out; have := b1.size; omega)
  clear b1
  rcases hq with ⟨hG, rfl⟩ | ⟨hG, rfl⟩
  case inr =>
    have y := Lib.hid (show RunIs D n zeroD from .inr ⟨fun h => hG h.1, rfl⟩)
    have n0 := cell_of_heap hR1 0 _ rfl
    have n1 := cell_of_heap hR1 1 _ rfl
    have n2 := cell_of_heap hR1 2 _ rfl
    have n3 := cell_of_heap hR1 3 _ rfl
    have n4 := cell_of_heap hR1 4 _ rfl
    have n5 := cell_of_heap hR1 5 _ rfl
    have n6 := cell_of_heap hR1 6 _ rfl
    have n7 := cell_of_heap hR1 7 _ rfl
    have n8 := cell_of_heap hR1 8 _ rfl
    have z0 := frozen_of_heap hR1 0
    have z1 := frozen_of_heap hR1 1
    have z2 := frozen_of_heap hR1 2
    have z3 := frozen_of_heap hR1 3
    have z4 := frozen_of_heap hR1 4
    have z5 := frozen_of_heap hR1 5
    have z6 := frozen_of_heap hR1 6
    have z7 := frozen_of_heap hR1 7
    have z8 := frozen_of_heap hR1 8
    clear hR1 hA1 hG
    go_wp2_with fail
    refine bodyPost_ret (v := zeroS.val zeroD) (by simp [results, Tryz.results40, go_sem, n0, n1, n2, n3, n4, n5, n6, n7, n8, Shape.val, zeroS, zeroD]) rfl ?_
    exact ⟨zeroS, zeroD, y.out, rfl, own_zero _ _, Chg.below (bs := [w.heap.size + 1]) bb1.out ((((((((((Chg.refl _ _).put (b := w.heap.size + 1) (by simp) 0 _).put (b := w.heap.size + 1) (by simp) 1 _).put (b := w.heap.size + 1) (by simp) 2 _).put (b := w.heap.size + 1) (by simp) 3 _).put (b := w.heap.size + 1) (by simp) 4 _).put (b := w.heap.size + 1) (by simp) 5 _).put (b := w.heap.size + 1) (by simp) 6 _).put (b := w.heap.size + 1) (by simp) 7 _).put (b := w.heap.size + 1) (by simp) 8 _) bb1.out.size (fun q hq => by rw [List.mem_singleton.1 hq]; omega)⟩
  have hG' := Lib.hid hG
  clear hG
  have f0 := cell_of_heap hA1 0 _ rfl
  have f1 := cell_of_heap hA1 1 _ rfl
  have f2 := cell_of_heap hA1 2 _ rfl
  have f3 := cell_of_heap hA1 3 _ rfl
  have f4 := cell_of_heap hA1 4 _ rfl
  have f5 := cell_of_heap hA1 5 _ rfl
  have f6 := cell_of_heap hA1 6 _ rfl
  have f7 := cell_of_heap hA1 7 _ rfl
  have f8 := cell_of_heap hA1 8 _ rfl
  by_cases hok : RunOk n
  case neg =>
    have y := Lib.hid (show RunIs D n zeroD from .inr ⟨fun h => hok h.2, rfl⟩)
    have his := Lib.hid (fun (w : World) => isIn_eq (inB_no (n := n) (l := 0) (h := 10000) (by unfold RunOk at hok; omega)) w)
    have n0 := cell_of_heap hR1 0 _ rfl
    have n1 := cell_of_heap hR1 1 _ rfl
    have n2 := cell_of_heap hR1 2 _ rfl
    have n3 := cell_of_heap hR1 3 _ rfl
    have n4 := cell_of_heap hR1 4 _ rfl
    have n5 := cell_of_heap hR1 5 _ rfl
    have n6 := cell_of_heap hR1 6 _ rfl
    have n7 := cell_of_heap hR1 7 _ rfl
    have n8 := cell_of_heap hR1 8 _ rfl
    have z0 := frozen_of_heap hR1 0
    have z1 := frozen_of_heap hR1 1
    have z2 := frozen_of_heap hR1 2
    have z3 := frozen_of_heap hR1 3
    have z4 := frozen_of_heap hR1 4
    have z5 := frozen_of_heap hR1 5
    have z6 := frozen_of_heap hR1 6
    have z7 := frozen_of_heap hR1 7
    have z8 := frozen_of_heap hR1 8
    clear hR1 hA1 hok
    go_wp2_with (go_at_call 60; refine (his.out _).mono ?_; rintro e w' ⟨rfl, rfl⟩)
    refine bodyPost_ret (v := zeroS.val zeroD) (by simp [results, Tryz.results40, go_sem, n0, n1, n2, n3, n4, n5, n6, n7, n8, Shape.val, zeroS, zeroD]) rfl ?_
    exact ⟨zeroS, zeroD, y.out, rfl, own_zero _ _, Chg.below (bs := [w.heap.size + 1]) bb1.out ((((((((((Chg.refl _ _).put (b := w.heap.size + 1) (by simp) 0 _).put (b := w.heap.size + 1) (by simp) 1 _).put (b := w.heap.size + 1) (by simp) 2 _).put (b := w.heap.size + 1) (by simp) 3 _).put (b := w.heap.size + 1) (by simp) 4 _).put (b := w.heap.size + 1) (by simp) 5 _).put (b := w.heap.size + 1) (by simp) 6 _).put (b := w.heap.size + 1) (by simp) 7 _).put (b := w.heap.size + 1) (by simp) 8 _) bb1.out.size (fun q hq => by rw [List.mem_singleton.1 hq]; omega)⟩
  have hok' := Lib.hid hok
  obtain ⟨N, rfl⟩ := Int.eq_ofNat_of_zero_le hok.1
  have hN : N ≤ 10000 := by have := hok.2; omega
  have his := Lib.hid (fun (w : World) => isIn_eq (inB_yes (n := (N : Int)) (l := 0) (h := 10000) hok.1 hok.2) w)
  clear hok
  have hown := Lib.hid (copyOf_any w.heap.size _ D hs'.out w1 hW1.out ⟨_, rfl, hA1⟩)
  have hR1' := Lib.hid hR1
  clear hR1 hA1
  go_wp2_with (go_at_call 60; refine (his.out _).mono ?_; rintro e w' ⟨rfl, rfl⟩)
  refine hown.out.mono ?_
  rintro e w2 ⟨S, rfl, ho, b2⟩
  obtain ⟨aw, ad, aS, am, ag, cw, cd, cS, cm, cg, sv, mv, rfl⟩ := Shape.lits ho
  have hv := Lib.hid (VarW.mk_box ho b2.size)
  have bb2 := Lib.hid (below_trans bb1.out b2)
  have hR2 := Lib.hid (heap_below (below_trans b2 (below_box w2 (.cells (Shape.cells ⟨.slice aw D.words.length cw, .slice ad D.dirty.length cd, .slice aS D.spans.length cS, .slice am D.muts.length cm, .slice ag D.grey.length cg, sv, mv⟩ D) 30))) hR1'.out)
  clear ho b2 hown f0 f1 f2 f3 f4 f5 f6 f7 f8
  have hbs := Lib.hid (show w1.heap.size ≤ w2.heap.size from hv.out.le)
  have hRne : ¬ (w2.heap.size = w.heap.size + 1) := by have := hz1.out; have := hbs.out; omega
  have hRne' : ¬ (w.heap.size + 1 = w2.heap.size) := by omega
  dsimp only [Shape.val]
  dsimp only [Shape.cells] at hv hR2
  go_wp2_with fail
  go_loopw [17] (fun i wr => ∃ (k : Nat) (S' : Shape) (E : WD), k ≤ N ∧ i = .int .i64 k ∧ Hid (StepsIs k D E) ∧ Hid (VarW wr w1.heap.size w2.heap.size S' E) ∧ Hid (Below w1.heap.size (w2.alloc (.cells #[.int .i64 D.base, .int .i64 D.pages, .slice aw D.words.length cw, .slice ad D.dirty.length cd, .slice aS D.spans.length cS, .slice am D.muts.length cm, .int .i64 D.phase, .int .i64 D.next, .slice ag D.grey.length cg] 30)) wr)) (fun i _ => N - (Go.RowKit.intOf i).toNat)
  case atStart => exact ⟨0, _, D, Nat.zero_le _, rfl, Lib.hid (.none D), hv, Lib.hid (Below.refl _ _)⟩
  case round =>
    obtain ⟨k, S3, E, hk, rfl, hst, hvr, hbr⟩ := hrel
    by_cases hlt : k < N
    · have hlt1 : (k : Int) < (N : Int) := by omega
      have hgo := hst.out.going (hG'.out.going hf'.out)
      have hcl := Lib.hid (fun (w4 : World) (hb : Below w1.heap.size (w2.alloc (.cells #[.int .i64 D.base, .int .i64 D.pages, .slice aw D.words.length cw, .slice ad D.dirty.length cd, .slice aS D.spans.length cS, .slice am D.muts.length cm, .int .i64 D.phase, .int .i64 D.next, .slice ag D.grey.length cg] 30)) w4) (S4 : Shape) (E4 : WD) (i4 : StepIs E E4) (v4 : VarW w4 w1.heap.size w2.heap.size S4 E4) => (⟨StepsIs.more hst.out i4, v4, hb⟩ : StepsIs (k + 1) D E4 ∧ VarW w4 w1.heap.size w2.heap.size S4 E4 ∧ Below w1.heap.size (w2.alloc (.cells #[.int .i64 D.base, .int .i64 D.pages, .slice aw D.words.length cw, .slice ad D.dirty.length cd, .slice aS D.spans.length cS, .slice am D.muts.length cm, .int .i64 D.phase, .int .i64 D.next, .slice ag D.grey.length cg] 30)) w4))
      have h0 := hgo.form.ph0
      have h4 := hgo.form.ph1
      have hgo' := Lib.hid hgo
      have g6 := hvr.out.cell 6 (.int .i64 E.phase) rfl
      clear hgo
      rcases (show E.phase = 0 ∨ E.phase = 1 ∨ E.phase = 2 ∨ E.phase = 3 ∨ E.phase = 4 by omega) with hp | hp | hp | hp | hp
      · rw [hp] at g6
        have hpo := Lib.hid (phaseOf_0 _ _ g6)
        have hm := stepOf_0
        have hcall := Lib.hid (istep_0 _ _ S3 E hgo'.out hp wr hvr.out)
        clear hp h0 h4 g6
        go_wp2_with fail
        refine hpo.out.mono ?_
        rintro e w' ⟨rfl, rfl⟩
        clear hpo
        go_wp2_with fail
        refine hcall.out.mono ?_
        rintro e w4 ⟨rfl, ⟨S4, E4, i4, v4⟩, b4⟩
        have hall := hcl.out w4 (hbr.out.trans b4) S4 E4 i4 v4
        have hst4 := Lib.hid hall.1
        have hv4 := Lib.hid hall.2.1
        have hb4 := Lib.hid hall.2.2
        clear i4 v4 b4 hcall hst hvr hbr hall hm
        go_wp2_with fail
        go_roundw
        case rel => exact ⟨k + 1, S4, E4, by omega, by go_num, hst4, hv4, hb4⟩
        case measure => simp [Go.RowKit.intOf]; omega
      · rw [hp] at g6
        have hpo := Lib.hid (phaseOf_1 _ _ g6)
        have hm := stepOf_1
        have hcall := Lib.hid (istep_1 _ _ S3 E hgo'.out hp wr hvr.out)
        clear hp h0 h4 g6
        go_wp2_with fail
        refine hpo.out.mono ?_
        rintro e w' ⟨rfl, rfl⟩
        clear hpo
        go_wp2_with fail
        refine hcall.out.mono ?_
        rintro e w4 ⟨rfl, ⟨S4, E4, i4, v4⟩, b4⟩
        have hall := hcl.out w4 (hbr.out.trans b4) S4 E4 i4 v4
        have hst4 := Lib.hid hall.1
        have hv4 := Lib.hid hall.2.1
        have hb4 := Lib.hid hall.2.2
        clear i4 v4 b4 hcall hst hvr hbr hall hm
        go_wp2_with fail
        go_roundw
        case rel => exact ⟨k + 1, S4, E4, by omega, by go_num, hst4, hv4, hb4⟩
        case measure => simp [Go.RowKit.intOf]; omega
      · rw [hp] at g6
        have hpo := Lib.hid (phaseOf_2 _ _ g6)
        have hm := stepOf_2
        have hcall := Lib.hid (istep_2 _ _ S3 E hgo'.out hp wr hvr.out)
        clear hp h0 h4 g6
        go_wp2_with fail
        refine hpo.out.mono ?_
        rintro e w' ⟨rfl, rfl⟩
        clear hpo
        go_wp2_with fail
        refine hcall.out.mono ?_
        rintro e w4 ⟨rfl, ⟨S4, E4, i4, v4⟩, b4⟩
        have hall := hcl.out w4 (hbr.out.trans b4) S4 E4 i4 v4
        have hst4 := Lib.hid hall.1
        have hv4 := Lib.hid hall.2.1
        have hb4 := Lib.hid hall.2.2
        clear i4 v4 b4 hcall hst hvr hbr hall hm
        go_wp2_with fail
        go_roundw
        case rel => exact ⟨k + 1, S4, E4, by omega, by go_num, hst4, hv4, hb4⟩
        case measure => simp [Go.RowKit.intOf]; omega
      · rw [hp] at g6
        have hpo := Lib.hid (phaseOf_3 _ _ g6)
        have hm := stepOf_3
        have hcall := Lib.hid (istep_3 _ _ S3 E hgo'.out hp wr hvr.out)
        clear hp h0 h4 g6
        go_wp2_with fail
        refine hpo.out.mono ?_
        rintro e w' ⟨rfl, rfl⟩
        clear hpo
        go_wp2_with fail
        refine hcall.out.mono ?_
        rintro e w4 ⟨rfl, ⟨S4, E4, i4, v4⟩, b4⟩
        have hall := hcl.out w4 (hbr.out.trans b4) S4 E4 i4 v4
        have hst4 := Lib.hid hall.1
        have hv4 := Lib.hid hall.2.1
        have hb4 := Lib.hid hall.2.2
        clear i4 v4 b4 hcall hst hvr hbr hall hm
        go_wp2_with fail
        go_roundw
        case rel => exact ⟨k + 1, S4, E4, by omega, by go_num, hst4, hv4, hb4⟩
        case measure => simp [Go.RowKit.intOf]; omega
      · rw [hp] at g6
        have hpo := Lib.hid (phaseOf_4 _ _ g6)
        have hm := stepOf_4
        have hcall := Lib.hid (istep_4 _ _ S3 E hgo'.out hp wr hvr.out)
        clear hp h0 h4 g6
        go_wp2_with fail
        refine hpo.out.mono ?_
        rintro e w' ⟨rfl, rfl⟩
        clear hpo
        go_wp2_with fail
        refine hcall.out.mono ?_
        rintro e w4 ⟨rfl, ⟨S4, E4, i4, v4⟩, b4⟩
        have hall := hcl.out w4 (hbr.out.trans b4) S4 E4 i4 v4
        have hst4 := Lib.hid hall.1
        have hv4 := Lib.hid hall.2.1
        have hb4 := Lib.hid hall.2.2
        clear i4 v4 b4 hcall hst hvr hbr hall hm
        go_wp2_with fail
        go_roundw
        case rel => exact ⟨k + 1, S4, E4, by omega, by go_num, hst4, hv4, hb4⟩
        case measure => simp [Go.RowKit.intOf]; omega
    obtain rfl : k = N := by omega
    have y := Lib.hid (show RunIs D (k : Int) E from .inl ⟨hG'.out, hok'.out, by rw [Int.toNat_natCast]; exact hst.out⟩)
    have hv3 := hvr.out
    have b3 := hbr.out
    obtain ⟨w3, hw3⟩ : ∃ w3, w3 = wr := ⟨_, rfl⟩
    subst hw3
    clear hvr hbr hst hv
    have bb3 := Lib.hid (show Below w.heap.size w w3 from (below_trans bb2.out (below_box w2 _)).trans (b3.mono (by have := hz1.out; omega)))
    have hR3 := (b3.block (w.heap.size + 1) (by have := hz1.out; omega)).trans hR2.out
    clear b3 hR2
    obtain ⟨aw', ad', aS', am', ag', cw', cd', cS', cm', cg', sv', mv', rfl⟩ := Shape.lits hv3.own
    have bE := hv3.box
    dsimp only [Shape.cells] at bE
    have n0 := cell_of_heap hR3 0 _ rfl
    have n1 := cell_of_heap hR3 1 _ rfl
    have n2 := cell_of_heap hR3 2 _ rfl
    have n3 := cell_of_heap hR3 3 _ rfl
    have n4 := cell_of_heap hR3 4 _ rfl
    have n5 := cell_of_heap hR3 5 _ rfl
    have n6 := cell_of_heap hR3 6 _ rfl
    have n7 := cell_of_heap hR3 7 _ rfl
    have n8 := cell_of_heap hR3 8 _ rfl
    have z0 := frozen_of_heap hR3 0
    have z1 := frozen_of_heap hR3 1
    have z2 := frozen_of_heap hR3 2
    have z3 := frozen_of_heap hR3 3
    have z4 := frozen_of_heap hR3 4
    have z5 := frozen_of_heap hR3 5
    have z6 := frozen_of_heap hR3 6
    have z7 := frozen_of_heap hR3 7
    have z8 := frozen_of_heap hR3 8
    have m0 := cell_of_heap bE 0 _ rfl
    have m1 := cell_of_heap bE 1 _ rfl
    have m2 := cell_of_heap bE 2 _ rfl
    have m3 := cell_of_heap bE 3 _ rfl
    have m4 := cell_of_heap bE 4 _ rfl
    have m5 := cell_of_heap bE 5 _ rfl
    have m6 := cell_of_heap bE 6 _ rfl
    have m7 := cell_of_heap bE 7 _ rfl
    have m8 := cell_of_heap bE 8 _ rfl
    have hv3' := Lib.hid hv3
    clear hv3 bE hR3
    go_wp2_with fail
    refine bodyPost_ret (v := .agg #[.int .i64 E.base, .int .i64 E.pages, .slice aw' E.words.length cw', .slice ad' E.dirty.length cd', .slice aS' E.spans.length cS', .slice am' E.muts.length cm', .int .i64 E.phase, .int .i64 E.next, .slice ag' E.grey.length cg']) (by simp [results, Tryz.results40, go_sem, n0, n1, n2, n3, n4, n5, n6, n7, n8]) rfl ?_
    exact ⟨_, E, y.out, rfl, hv3'.out.handed bb3.out (R := w.heap.size + 1) (by omega) (by have := hz1.out; omega) ((((((((((Chg.refl _ _).put (b := w.heap.size + 1) (by simp) 0 _).put (b := w.heap.size + 1) (by simp) 1 _).put (b := w.heap.size + 1) (by simp) 2 _).put (b := w.heap.size + 1) (by simp) 3 _).put (b := w.heap.size + 1) (by simp) 4 _).put (b := w.heap.size + 1) (by simp) 5 _).put (b := w.heap.size + 1) (by simp) 6 _).put (b := w.heap.size + 1) (by simp) 7 _).put (b := w.heap.size + 1) (by simp) 8 _)⟩
/-- A World that was handed over goes on through block R. -/
theorem OwnW.through {w w1 wF : World} {base R : Nat} {S : Shape} {D : WD} (h : OwnW w1 base S D) (hb : Below w.heap.size w w1) (h1 : w.heap.size ≤ R) (h2 : R < base) (hc : Chg [R] w1 wF) : OwnW wF w.heap.size S D ∧ Below w.heap.size w wF :=
  ⟨(h.chg0 hc (fun q hq => by rw [List.mem_singleton.1 hq]; omega)).base_le (by omega), Chg.below hb hc hb.size (fun q hq => by rw [List.mem_singleton.1 hq]; omega)⟩
set_option maxRecDepth 100000 in
set_option maxHeartbeats 3000000 in
theorem igcStep_any (v : Value) (D : WD) (hs : Small D) (hf : FitD D) (hc : CapW v) (w : World) (hr : RdW w v D) :
    Calls Tryz.prog 38 #[v] w fun e w' => ∃ S D', SteppedIs D D' ∧ e = .returned (S.val D') ∧ OwnW w' w.heap.size S D' ∧ Below w.heap.size w w' := by
  have hs' := Lib.hid hs
  have hc' := Lib.hid hc
  have hf' := Lib.hid hf
  clear hs hc hf
  obtain ⟨vw, vd, vs, vm, vg, rfl, a1, a2, a3, a4, a5⟩ := hr
  have bb := below_trans (below_box w (.cells #[.int .i64 D.base, .int .i64 D.pages, vw, vd, vs, vm, .int .i64 D.phase, .int .i64 D.next, vg] 30)) (below_box _ (.cells #[.int .i64 0, .int .i64 0, .slice none 0 0, .slice none 0 0, .slice none 0 0, .slice none 0 0, .int .i64 0, .int .i64 0, .slice none 0 0] 30))
  have hA := heap_below (below_box (w.alloc (.cells #[.int .i64 D.base, .int .i64 D.pages, vw, vd, vs, vm, .int .i64 D.phase, .int .i64 D.next, vg] 30)) (.cells #[.int .i64 0, .int .i64 0, .slice none 0 0, .slice none 0 0, .slice none 0 0, .slice none 0 0, .int .i64 0, .int .i64 0, .slice none 0 0] 30)) (box_new w (.cells #[.int .i64 D.base, .int .i64 D.pages, vw, vd, vs, vm, .int .i64 D.phase, .int .i64 D.next, vg] 30))
  have hR := box_new (w.alloc (.cells #[.int .i64 D.base, .int .i64 D.pages, vw, vd, vs, vm, .int .i64 D.phase, .int .i64 D.next, vg] 30)) (.cells #[.int .i64 0, .int .i64 0, .slice none 0 0, .slice none 0 0, .slice none 0 0, .slice none 0 0, .int .i64 0, .int .i64 0, .slice none 0 0] 30)
  rw [World.size_alloc] at hR
  have hW := Lib.hid (show RdW ((w.alloc (.cells #[.int .i64 D.base, .int .i64 D.pages, vw, vd, vs, vm, .int .i64 D.phase, .int .i64 D.next, vg] 30)).alloc (.cells #[.int .i64 0, .int .i64 0, .slice none 0 0, .slice none 0 0, .slice none 0 0, .slice none 0 0, .int .i64 0, .int .i64 0, .slice none 0 0] 30)) (.agg #[.int .i64 D.base, .int .i64 D.pages, vw, vd, vs, vm, .int .i64 D.phase, .int .i64 D.next, vg]) D from ⟨vw, vd, vs, vm, vg, rfl, a1.below bb, a2.below bb, a3.below bb, a4.below bb, a5.below bb⟩)
  have bb' := Lib.hid bb
  have hA' := Lib.hid hA
  have hR' := Lib.hid hR
  have hz := Lib.hid (show ((w.alloc (.cells #[.int .i64 D.base, .int .i64 D.pages, vw, vd, vs, vm, .int .i64 D.phase, .int .i64 D.next, vg] 30)).alloc (.cells #[.int .i64 0, .int .i64 0, .slice none 0 0, .slice none 0 0, .slice none 0 0, .slice none 0 0, .int .i64 0, .int .i64 0, .slice none 0 0] 30)).heap.size = w.heap.size + 1 + 1 by simp)
  have hrun := Lib.hid (igcRun_any _ D 1 hs'.out hf'.out hc'.out _ hW.out)
  clear a1 a2 a3 a4 a5 bb hA hR
  go_enter Tryz.func38, Tryz.ntmps38
  go_wp2_with fail
  refine hrun.out.mono ?_
  rintro e w1 ⟨S, E, hE, rfl, ho, b1⟩
  obtain ⟨aw, nw, cw, ad, nd, cd, aS, nS, cS, am, nm, cm, ag, ng, cg, sv, mv, rfl⟩ := ho.lits
  have y := Lib.hid hE.one
  have hR1 := heap_below b1 hR'.out
  have bb1 := Lib.hid (below_trans bb'.out b1)
  have ho' := Lib.hid ho
  have hz1 := Lib.hid (show w.heap.size + 1 + 1 ≤ w1.heap.size by have := hz.out; have := b1.size; omega)
  clear b1 hE ho hrun
  dsimp only [Shape.val]
  have n0 := cell_of_heap hR1 0 _ rfl
  have n1 := cell_of_heap hR1 1 _ rfl
  have n2 := cell_of_heap hR1 2 _ rfl
  have n3 := cell_of_heap hR1 3 _ rfl
  have n4 := cell_of_heap hR1 4 _ rfl
  have n5 := cell_of_heap hR1 5 _ rfl
  have n6 := cell_of_heap hR1 6 _ rfl
  have n7 := cell_of_heap hR1 7 _ rfl
  have n8 := cell_of_heap hR1 8 _ rfl
  have z0 := frozen_of_heap hR1 0
  have z1 := frozen_of_heap hR1 1
  have z2 := frozen_of_heap hR1 2
  have z3 := frozen_of_heap hR1 3
  have z4 := frozen_of_heap hR1 4
  have z5 := frozen_of_heap hR1 5
  have z6 := frozen_of_heap hR1 6
  have z7 := frozen_of_heap hR1 7
  have z8 := frozen_of_heap hR1 8
  clear hR1
  go_wp2_with fail
  refine bodyPost_ret (v := .agg #[.int .i64 E.base, .int .i64 E.pages, .slice aw nw cw, .slice ad nd cd, .slice aS nS cS, .slice am nm cm, .int .i64 E.phase, .int .i64 E.next, .slice ag ng cg]) (by simp [results, Tryz.results38, go_sem, n0, n1, n2, n3, n4, n5, n6, n7, n8]) rfl ?_
  exact ⟨_, E, y.out, rfl, ho'.out.through bb1.out (R := w.heap.size + 1) (by omega) (by have := hz.out; omega) ((((((((((Chg.refl _ _).put (b := w.heap.size + 1) (by simp) 0 _).put (b := w.heap.size + 1) (by simp) 1 _).put (b := w.heap.size + 1) (by simp) 2 _).put (b := w.heap.size + 1) (by simp) 3 _).put (b := w.heap.size + 1) (by simp) 4 _).put (b := w.heap.size + 1) (by simp) 5 _).put (b := w.heap.size + 1) (by simp) 6 _).put (b := w.heap.size + 1) (by simp) 7 _).put (b := w.heap.size + 1) (by simp) 8 _)⟩
end Go.Proofs.YtdhiablpobnhcaaGreat

/-
  The program's WorldNew: its contract where the numbers make a World.
-/
import Derived.Test.YtajogfnlbdiokaaImplN
namespace Go.Proofs.Ytajogfnlbdiokaa
open Go.RowKit
set_option linter.unusedVariables false

set_option maxRecDepth 100000 in
set_option maxHeartbeats 40000000 in
theorem iworldNew_yes (b : Int) (p m : Nat) (g : Geo b p m) (w : World) :
    Calls Try.prog 12 #[.int .i64 b, .int .i64 p, .int .i64 m] w fun e w' => ∃ S, e = .returned (.tuple #[S.val (newD b p m), .bool true]) ∧ OwnW w' w.heap.size S (newD b p m) ∧ Below w.heap.size w w' := by
  obtain ⟨i0, hi, hz0, hz1, hz2⟩ := info_parts infoMut
  obtain ⟨g1, g2, g3⟩ := geo_iff.1 g
  have cb := Lib.hid (fun w => baseOk_eq g1 w)
  have cp := Lib.hid (fun w => pagesOk_eq g2 w)
  have cm := Lib.hid (fun w => isIn_eq g3 w)
  obtain ⟨-, -, -, hp0, hp1, hm0, hm1⟩ := g
  have cw := Lib.hid (fun w => wordsOf_any p (by omega) (by omega) w)
  have cc := Lib.hid (fun w => cardsOf_at p (by omega) (by omega) w)
  have e1 : ((p * 32 : Nat) : Int) = (p : Int) * 32 := by omega
  have e2 : ((p * 4 : Nat) : Int) = (p : Int) * 4 := by omega
  have m1 := run_make_row' (P := Try.prog) 25 3 (.int .i64 0) 8 Try.underlying25 infoInt rfl .i64 .i64 (p * 32) (by omega) (by omega)
  have m2 := run_make_row' (P := Try.prog) 26 4 (.bool false) 1 Try.underlying26 infoBool rfl .i64 .i64 (p * 4) (by omega) (by omega)
  simp only [e1] at m1
  simp only [e2] at m2
  have m3 : ∀ w : World, (Instr.makeSlice 28 (.int .i64 (m : Int)) (.int .i64 (m : Int))).run Try.prog w = .ok (.slice (some ⟨w.heap.size, 0, none⟩) m m) (w.alloc (.cells (madeCells #[.slice none 0 0] m) 69)) := fun w => by
    have := run_make (P := Try.prog) w 28 69 i0 _ Try.underlying28 hi hz0 .i64 .i64 (m : Int) (m : Int) (by omega) (by omega) (by rw [hz2]; omega) (by omega)
    rw [this, hz1]
    simp [show (Value.agg #[.slice none 0 0]).cells = #[.slice none 0 0] from rfl]
  clear e1 e2 hi hz0 hz1 hz2 g1 g2 g3
  go_enter Try.func12, Try.ntmps12
  go_upto_region 3 with (first
    | (go_at_call 44; refine (cb.out _).mono ?_; rintro e w' ⟨rfl, rfl⟩)
    | (go_at_call 45; refine (cp.out _).mono ?_; rintro e w' ⟨rfl, rfl⟩)
    | (go_at_call 46; refine (cm.out _).mono ?_; rintro e w' ⟨rfl, rfl⟩))
  go_cut [8] from 10 to 34 (fun q wr => ∃ B g1 g2 g3 : Nat, q = .pointer (some ⟨B, 0, none⟩) ∧ Hid (NewJ w wr b p m B g1 g2 g3))
  case first =>
    go_region_with (first
      | (go_at_call 47; refine (cw.out _).mono ?_; rintro e w' ⟨rfl, rfl⟩)
      | (go_at_call 48; refine (cc.out _).mono ?_; rintro e w' ⟨rfl, rfl⟩))
    all_goals go_wp2_with fail
    all_goals go_meet
    all_goals exact newJ_intro rfl (by first | exact (alloc5 w _ _ _ _ _).2.1 | exact (alloc5 w _ _ _ _ _).2.2.1 | exact (alloc5 w _ _ _ _ _).2.2.2.1 | exact (alloc5 w _ _ _ _ _).2.2.2.2.1) (alloc5 w _ _ _ _ _).2.2.2.2.2.1 (alloc5 w _ _ _ _ _).2.2.2.2.2.2 (alloc5 w _ _ _ _ _).1 (by first | exact (alloc5 w _ _ _ _ _).2.1 | exact (alloc5 w _ _ _ _ _).2.2.1 | exact (alloc5 w _ _ _ _ _).2.2.2.1 | exact (alloc5 w _ _ _ _ _).2.2.2.2.1) (by first | exact (alloc5 w _ _ _ _ _).2.1 | exact (alloc5 w _ _ _ _ _).2.2.1 | exact (alloc5 w _ _ _ _ _).2.2.2.1 | exact (alloc5 w _ _ _ _ _).2.2.2.2.1) (by first | exact (alloc5 w _ _ _ _ _).2.1 | exact (alloc5 w _ _ _ _ _).2.2.1 | exact (alloc5 w _ _ _ _ _).2.2.2.1 | exact (alloc5 w _ _ _ _ _).2.2.2.2.1) (by omega) (by omega) (by omega) (by omega)
  case rest =>
    obtain ⟨B, g1, g2, g3, rfl, hJ⟩ := hcut
    have y5 : wc.cell? ⟨B, 5, none⟩ = some (.slice (some ⟨g3, 0, none⟩) m m) := cell_of_heap hJ.out.boxB 5 _ rfl
    go_wp2_with fail
    go_loopw [38] (fun i wr => ∃ (k : Nat) (mv : List Value), k ≤ m ∧ i = .int .i64 k ∧ Hid (NewT w wr b p m B g1 g2 g3 mv k)) (fun i _ => m - (intOf i).toNat)
    case atStart => exact ⟨0, [], Nat.zero_le _, rfl, Lib.hid (hJ.out.start (by omega))⟩
    case round =>
      obtain ⟨k, mv, hk, rfl, st⟩ := hrel
      have hB := st.out.hB
      have hsz := Lib.hid st.out.size
      have szb : w.heap.size + 1 + 1 + 1 + 1 + 1 ≤ wr.heap.size := hsz.out
      clear y5
      by_cases hlt : k < m
      · have hlt1 : (k : Int) < (m : Int) := by omega
        have z5 : wr.cell? ⟨B, 5, none⟩ = some (.slice (some ⟨g3, 0, none⟩) m m) := cell_of_heap st.out.boxB 5 _ rfl
        obtain ⟨u0, z0⟩ : ∃ u, wr.cell? ⟨g3, k, none⟩ = some u := by
          rw [st.out.row.cellAt k (by omega), List.getElem?_eq_getElem (by have := st.out.row.1; omega)]
          exact ⟨_, rfl⟩
        have z0f := st.out.row.frozenAt k
        have h3 := st.out.h3
        have lt3 : g3 < wr.heap.size := by omega
        have ltB : B < wr.heap.size := by omega
        have hY := Lib.hid (show Below wr.heap.size wr (wr.alloc (.cells (madeCells #[.int .i64 0] 6) 3)).drew from below_drewN (below_box wr _) 1)
        have hr := Lib.hid (show (wr.alloc (.cells (madeCells #[.int .i64 0] 6) 3)).drew.heap[wr.heap.size]? = some (.cells (madeCells #[.int .i64 0] 6) 3 (0, 0)) from box_new wr (.cells (madeCells #[.int .i64 0] 6) 3))
        have hcm : (wr.alloc (.cells (madeCells #[.int .i64 0] 6) 3)).drew.setCell ⟨g3, k, none⟩ (.slice (some ⟨wr.heap.size, 0, none⟩) 6 6) = ((wr.setCell ⟨g3, k, none⟩ (.slice (some ⟨wr.heap.size, 0, none⟩) 6 6)).alloc (.cells (madeCells #[.int .i64 0] 6) 3)).drew :=
          congrArg World.drew (World.setCell_alloc_past (w := wr) (.cells (madeCells #[.int .i64 0] 6) 3) g3 k (.slice (some ⟨wr.heap.size, 0, none⟩) 6 6) lt3)
        have nst0 := st.out.next hlt hY.out (by simp [World.drew]) hr.out
        rw [hcm] at nst0
        have nst := Lib.hid nst0
        clear nst0 hcm
        have z5a := cell_below (below_box wr (.cells (madeCells #[.int .i64 0] 6) 3)) z5
        have z0a := cell_below (below_box wr (.cells (madeCells #[.int .i64 0] 6) 3)) z0
        have z0b : (wr.alloc (.cells (madeCells #[.int .i64 0] 6) 3)).frozen? ⟨g3, k, none⟩ = false := (own_below st.out.row (below_box wr (.cells (madeCells #[.int .i64 0] 6) 3))).frozenAt k
        have mk6 : ∀ (w : World), (Instr.makeSlice 25 (.int .i64 6) (.int .i64 6)).run Try.prog w = .ok (.slice (some ⟨w.heap.size, 0, none⟩) 6 6) (w.alloc (.cells (madeCells #[.int .i64 0] 6) 3)) := run_make_row' (P := Try.prog) 25 3 (.int .i64 0) 8 Try.underlying25 infoInt rfl .i64 .i64 6 (by omega) (by omega)
        go_wp2_with fail
        go_region
        all_goals go_wp2_with fail
        all_goals exact ⟨⟨k + 1, _, by omega, by go_num, nst⟩, by simp [intOf]; omega⟩
      · obtain rfl : k = m := by omega
        have hneB : ¬ (w.heap.size = B) := by omega
        have boxB := st.out.boxB
        have boxR := st.out.boxR
        have m0' := cell_of_heap boxB 0 _ rfl
        have n0 := cell_of_heap boxR 0 _ rfl
        have z0 := frozen_of_heap boxR 0
        have m1' := cell_of_heap boxB 1 _ rfl
        have n1 := cell_of_heap boxR 1 _ rfl
        have z1 := frozen_of_heap boxR 1
        have m2' := cell_of_heap boxB 2 _ rfl
        have n2 := cell_of_heap boxR 2 _ rfl
        have z2 := frozen_of_heap boxR 2
        have m3' := cell_of_heap boxB 3 _ rfl
        have n3 := cell_of_heap boxR 3 _ rfl
        have z3 := frozen_of_heap boxR 3
        have m4' := cell_of_heap boxB 4 _ rfl
        have n4 := cell_of_heap boxR 4 _ rfl
        have z4 := frozen_of_heap boxR 4
        have m5' := cell_of_heap boxB 5 _ rfl
        have n5 := cell_of_heap boxR 5 _ rfl
        have z5 := frozen_of_heap boxR 5
        have m6' := cell_of_heap boxB 6 _ rfl
        have n6 := cell_of_heap boxR 6 _ rfl
        have z6 := frozen_of_heap boxR 6
        have m7' := cell_of_heap boxB 7 _ rfl
        have n7 := cell_of_heap boxR 7 _ rfl
        have z7 := frozen_of_heap boxR 7
        have m8' := cell_of_heap boxB 8 _ rfl
        have n8 := cell_of_heap boxR 8 _ rfl
        have z8 := frozen_of_heap boxR 8
        clear boxB boxR
        go_wp2_with fail
        refine bodyPost_ret (v := .tuple #[.agg #[.int .i64 b, .int .i64 p, .slice (some ⟨g1, 0, none⟩) (p * 32) (p * 32), .slice (some ⟨g2, 0, none⟩) (p * 4) (p * 4), .slice none 0 0, .slice (some ⟨g3, 0, none⟩) k k, .int .i64 0, .int .i64 0, .slice none 0 0], .bool true]) (by simp [results, Try.results12, go_sem, n0, n1, n2, n3, n4, n5, n6, n7, n8]) rfl ?_
        exact ⟨_, rfl, NewT.own st.out (by omega) ((((((((((Chg.refl [w.heap.size] wr).put (b := w.heap.size) (by simp) 0 _).put (b := w.heap.size) (by simp) 1 _).put (b := w.heap.size) (by simp) 2 _).put (b := w.heap.size) (by simp) 3 _).put (b := w.heap.size) (by simp) 4 _).put (b := w.heap.size) (by simp) 5 _).put (b := w.heap.size) (by simp) 6 _).put (b := w.heap.size) (by simp) 7 _).put (b := w.heap.size) (by simp) 8 _)⟩
end Go.Proofs.Ytajogfnlbdiokaa

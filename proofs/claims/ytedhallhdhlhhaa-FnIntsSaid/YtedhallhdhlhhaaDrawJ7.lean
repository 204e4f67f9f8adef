/-
  The draw DrawGetInt: some text, and a number.
-/
import Derived.Test.YtedhallhdhlhhaaDrawI7
namespace Go.Proofs.Ytedhallhdhlhhaa
open Go.RowKit
set_option linter.unusedVariables false

theorem tab_at (j : Nat) (hj : j < 4) : ∃ T : ByteArray, (#[.string ⟨#[128, 0]⟩, .string ⟨#[255, 255, 255, 255, 255, 255, 255, 255, 255, 1]⟩, .string ⟨#[255, 255, 255, 255, 255, 255, 255, 255, 255, 2]⟩, .string ⟨#[255]⟩] : Array Value)[j]? = some (.string T) ∧ T.size ≤ 10 := by
  match j, hj with
  | 0, _ => exact ⟨_, rfl, by decide⟩
  | 1, _ => exact ⟨_, rfl, by decide⟩
  | 2, _ => exact ⟨_, rfl, by decide⟩
  | 3, _ => exact ⟨_, rfl, by decide⟩
theorem tab_cell {w w' : World} {o : Obj} {B j : Nat} {v : Value} (hg : (w.alloc o).drew.grownBy w' (some B)) (hB : B < w.heap.size) (h : (w.alloc o).cell? ⟨w.heap.size, j, none⟩ = some v) : w'.cell? ⟨w.heap.size, j, none⟩ = some v := by
  have e : w'.heap[w.heap.size]? = (w.alloc o).heap[w.heap.size]? := hg.block _ (by simp) (fun e => by cases e; omega)
  exact (World.cell?_of_block (a := ⟨w.heap.size, j, none⟩) e).trans h
set_option maxRecDepth 100000 in
set_option maxHeartbeats 4000000 in
theorem drawGetInt_any (a : Option Addr) (len cap : Nat) (w : World) (hb : Bytes w a len) (ha : 0 < len → ∀ x, a = some x → x.block < w.heap.size) :
    Calls Try.prog 17 #[.slice a len cap] w fun e w' => ∃ (s : ByteArray) (k : Int), e = .returned (.tuple #[.string s, .int .i64 k]) ∧ I64 k ∧ s.size ≤ 100 ∧ Below w.heap.size w w' := by
  have hnew := Lib.hid (new_any a len cap w hb ha)
  clear hb ha
  go_enter Try.func17, Try.ntmps17
  go_wp2_with fail
  refine hnew.out.mono ?_
  rintro e w1 ⟨B, rfl, b1, h1⟩
  have B1 := Lib.hid b1
  have A1 := Lib.hid h1
  clear b1 h1
  go_wp2_with fail
  refine (text_at A1.out 3 (by omega)).mono ?_
  rintro e w2 ⟨s0, rfl, hs0, g2, a2⟩
  have B2 := Lib.hid (B1.out.trans (A1.out.below g2))
  have A2 := Lib.hid a2
  clear g2 a2
  go_wp2_with fail
  refine (num_at A2.out).mono ?_
  rintro e w3 ⟨x, rfl, hx, g3, a3⟩
  have B3 := Lib.hid (B2.out.trans (A2.out.below g3))
  have A3 := Lib.hid a3
  have HP := Lib.hid (fun v => spec_putInt_any x hx v)
  obtain ⟨P, hP⟩ : ∃ P : ByteArray, P = ⟨(pi x).toArray⟩ := ⟨_, rfl⟩
  rw [← hP] at HP
  have hPs : P.size ≤ 10 := by
    rw [hP]
    show (pi x).toArray.size ≤ 10
    rw [List.size_toArray]
    exact (pi_len hx.1 hx.2).2
  have ap := fun W => run_string_add_sum (P := Try.prog) W s0 P (by omega)
  obtain ⟨s, hs⟩ : ∃ s, s = s0 ++ P := ⟨_, rfl⟩
  rw [← hs] at ap
  have hss : s0.size ≤ s.size ∧ s.size ≤ 13 := by rw [hs, ByteArray.size_append]; omega
  clear hx hP hs g3 a3
  go_wp2_with fail
  refine (HP.out _).mono ?_
  rintro e w4 ⟨rfl, b4⟩
  have B4 := Lib.hid (B3.out.trans (b4.mono B3.out.size))
  have A4 := Lib.hid (A3.out.kept b4)
  clear b4
  go_wp2_with fail
  refine (below_at A4.out 5 (by omega)).mono ?_
  rintro e w5 ⟨q, rfl, hq0, hq1, g5, a5⟩
  have B5 := Lib.hid (B4.out.trans (A4.out.below g5))
  have A5 := Lib.hid a5
  clear g5 a5
  have hk : I64 (s0.size : Int) := by constructor <;> omega
  by_cases c0 : q = 0
  · subst c0
    go_wp2_with fail
    refine (bend_at A5.out s (by omega)).mono ?_
    rintro e w6 ⟨s', rfl, hs', g6, a6⟩
    have B6 := Lib.hid (B5.out.trans (A5.out.below g6))
    clear g6 a6
    go_wp2
    go_ret2
    exact ⟨_, _, rfl, hk, by omega, B6.out⟩
  have n0 : (q == 0) = false := beq_eq_false_iff_ne.2 c0
  by_cases c1 : q = 1
  · subst c1
    have d1 : Below w5.heap.size w5 (w5.alloc (.cells #[.int .i64 (-1), .int .i64 0, .int .i64 (s.size : Int), .int .i64 ((s.size : Int) + 1)] 3)) := (Below.refl _ _).alloc (Nat.le_refl _) _
    have A6 := Lib.hid (A5.out.kept d1)
    have hB1 := A5.out.lt
    have hr1 := Lib.hid (show ∀ w', (w5.alloc (.cells #[.int .i64 (-1), .int .i64 0, .int .i64 (s.size : Int), .int .i64 ((s.size : Int) + 1)] 3)).grownBy w' (some B) → Rd w' (.slice (some ⟨w5.heap.size, 0, none⟩) 4 4) [-1, 0, (s.size : Int), (s.size : Int) + 1] from fun w' hg =>
      rd_grown (rd_new w5 3 [-1, 0, (s.size : Int), (s.size : Int) + 1] (by simp)) hg (by omega))
    have B6 := Lib.hid (B5.out.trans (d1.mono B5.out.size))
    clear d1 hB1
    go_wp2_with fail
    refine (pickInt_at A6.out _ [-1, 0, (s.size : Int), (s.size : Int) + 1] (by simp) hr1.out).mono ?_
    rintro e w7 ⟨b, rfl, hy, g7, a7⟩
    have hb : I64 b := by
      unfold I64
      simp only [List.mem_cons, List.not_mem_nil, or_false] at hy
      omega
    have HB := Lib.hid hb
    have B7 := Lib.hid (B6.out.trans (A6.out.below g7))
    clear hy hb g7 a7
    go_wp2
    go_ret2
    exact ⟨_, _, rfl, HB.out, by omega, B7.out⟩
  have n1 : (q == 1) = false := beq_eq_false_iff_ne.2 c1
  by_cases c2 : q = 2
  · subst c2
    have e1 : (s.extract 0 s0.size).size = s0.size := by simp; omega
    have E1 := Lib.hid e1
    have s1 : ∀ W : World, (Instr.slice 9 (.string s) none (some (.int .i64 (s0.size : Int))) none).run Try.prog W = .ok (.string (s.extract 0 s0.size)) W := fun W => by
      have h := run_slice_string_to_if (P := Try.prog) W 9 s .i64 (s0.size : Int) Try.underlying9
      rw [if_pos ⟨by omega, by omega⟩] at h
      exact h
    clear e1
    go_wp2_with fail
    go_region_with (first
      | (go_at_call 41; refine (below_at (A5.out.kept (below_box w5 (.cells #[.string ⟨#[128, 0]⟩, .string ⟨#[255, 255, 255, 255, 255, 255, 255, 255, 255, 1]⟩, .string ⟨#[255, 255, 255, 255, 255, 255, 255, 255, 255, 2]⟩, .string ⟨#[255]⟩] 9))).drew 4 (by omega)).mono ?_; rintro e w6 ⟨r, rfl, hr0, hr1, g6, a6⟩; obtain ⟨j, rfl⟩ := Int.eq_ofNat_of_zero_le hr0; obtain ⟨T, hT, hTs⟩ := tab_at j (by omega); have hcell := tab_cell (w := w5) (o := .cells #[.string ⟨#[128, 0]⟩, .string ⟨#[255, 255, 255, 255, 255, 255, 255, 255, 255, 1]⟩, .string ⟨#[255, 255, 255, 255, 255, 255, 255, 255, 255, 2]⟩, .string ⟨#[255]⟩] 9) g6 A5.out.lt (cell_of_heap (heap_alloc_new w5 _) j _ hT); have ad := fun W => run_string_add_sum (P := Try.prog) W (s.extract 0 s0.size) T (by rw [E1.out]; omega); have B6 := Lib.hid (B5.out.trans ((below_box w5 (.cells #[.string ⟨#[128, 0]⟩, .string ⟨#[255, 255, 255, 255, 255, 255, 255, 255, 255, 1]⟩, .string ⟨#[255, 255, 255, 255, 255, 255, 255, 255, 255, 2]⟩, .string ⟨#[255]⟩] 9)).mono B5.out.size |>.trans ((A5.out.kept (below_box w5 (.cells #[.string ⟨#[128, 0]⟩, .string ⟨#[255, 255, 255, 255, 255, 255, 255, 255, 255, 1]⟩, .string ⟨#[255, 255, 255, 255, 255, 255, 255, 255, 255, 2]⟩, .string ⟨#[255]⟩] 9))).below (grow_undrew g6)))); have HT := Lib.hid hTs; clear g6 a6 hT hTs)
      | (go_at_call 41; refine (below_at A5.out.drew 4 (by omega)).mono ?_; rintro e w6 ⟨r, rfl, hr0, hr1, g6, a6⟩; obtain ⟨j, rfl⟩ := Int.eq_ofNat_of_zero_le hr0; obtain ⟨T, hT, hTs⟩ := tab_at j (by omega); have hcell := cell_of_heap (heap_alloc_new w6 (.cells #[.string ⟨#[128, 0]⟩, .string ⟨#[255, 255, 255, 255, 255, 255, 255, 255, 255, 1]⟩, .string ⟨#[255, 255, 255, 255, 255, 255, 255, 255, 255, 2]⟩, .string ⟨#[255]⟩] 9)) j _ hT; have ad := fun W => run_string_add_sum (P := Try.prog) W (s.extract 0 s0.size) T (by rw [E1.out]; omega); have B6 := Lib.hid (B5.out.trans (A5.out.below (grow_undrew g6)) |>.trans ((below_box w6 (.cells #[.string ⟨#[128, 0]⟩, .string ⟨#[255, 255, 255, 255, 255, 255, 255, 255, 255, 1]⟩, .string ⟨#[255, 255, 255, 255, 255, 255, 255, 255, 255, 2]⟩, .string ⟨#[255]⟩] 9)).mono (Nat.le_trans B5.out.size g6.size))); have HT := Lib.hid hTs; clear g6 a6 hT hTs))
    all_goals go_wp2_with fail
    all_goals go_ret2
    all_goals refine ⟨_, _, rfl, hk, ?_, B6.out⟩
    all_goals rw [ByteArray.size_append, E1.out]
    all_goals have := HT.out
    all_goals omega
  · have n2 : (q == 2) = false := beq_eq_false_iff_ne.2 c2
    go_wp2
    go_ret2
    exact ⟨_, _, rfl, hk, by omega, B5.out⟩
end Go.Proofs.Ytedhallhdhlhhaa

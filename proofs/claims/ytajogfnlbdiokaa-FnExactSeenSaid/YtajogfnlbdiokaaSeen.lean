/-
  The contracts of the model's and the program's Seen.
-/
import Derived.Test.YtajogfnlbdiokaaImplE
namespace Go.Proofs.Ytajogfnlbdiokaa
open Go.RowKit
set_option linter.unusedVariables false

/-- The roots of user m have been looked at. -/
def SeenP (D : WD) (m : Int) : Prop := (D.phase = 1 ∧ m < D.next) ∨ D.phase = 2 ∨ D.phase = 3
def SeenIs (D : WD) (m : Int) : Prop := HeapForm D ∧ 0 ≤ m ∧ m < (D.muts.length : Int) ∧ SeenP D m
theorem BoxW.cell {w : World} {B : Nat} {cs : Array Value} (h : BoxW w B (.agg cs)) (j : Nat) (u : Value) (hu : cs[j]? = some u) : w.cell? ⟨B, j, none⟩ = some u := by
  obtain ⟨cs', he, hh⟩ := h
  obtain rfl := (Value.agg.inj he).symm
  exact cell_of_heap hh j u hu

set_option maxHeartbeats 1000000 in
theorem l3seen_any (B : Nat) (v : Value) (D : WD) (m : Int) (w : World) (hr : RdW w v D) (hB : BoxW w B v) :
    Calls Try.prog 107 #[.pointer (some ⟨B, 0, none⟩), .int .i64 m] w fun e w' => IsB (SeenP D m) e ∧ w = w' := by
  obtain ⟨vw, vd, vs, vm, vg, rfl, _⟩ := hr
  have g6 := hB.cell 6 _ rfl
  have g7 := hB.cell 7 _ rfl
  have hP := Lib.hid (show SeenP D m ↔ ((D.phase = 1 ∧ m < D.next) ∨ D.phase = 2 ∨ D.phase = 3) from Iff.rfl)
  clear hB
  generalize SeenP D m = P at *
  generalize D.phase = ph at *
  generalize D.next = nx at *
  by_cases c2 : ph = 2
  · subst c2
    have y := Lib.hid (IsB.yes (hP.out.2 (.inr (.inl rfl))))
    clear hP
    go_enter Try.func107, Try.ntmps107
    go_wp2_with fail
    go_ret
    exact ⟨y.out, rfl⟩
  by_cases c3 : ph = 3
  · subst c3
    have y := Lib.hid (IsB.yes (hP.out.2 (.inr (.inr rfl))))
    clear hP
    go_enter Try.func107, Try.ntmps107
    go_wp2_with fail
    go_ret
    exact ⟨y.out, rfl⟩
  by_cases c1 : ph = 1
  · subst c1
    by_cases c4 : m < nx
    · have y := Lib.hid (IsB.yes (hP.out.2 (.inl ⟨rfl, c4⟩)))
      clear hP
      go_enter Try.func107, Try.ntmps107
      go_wp2_with fail
      go_ret
      exact ⟨y.out, rfl⟩
    · have y := Lib.hid (IsB.no (fun h => c4 ((hP.out.1 h).elim (fun h => h.2) fun h => h.elim (fun h => absurd h (by decide)) fun h => absurd h (by decide))))
      clear hP
      go_enter Try.func107, Try.ntmps107
      go_wp2_with fail
      go_ret
      exact ⟨y.out, rfl⟩
  · have y := Lib.hid (IsB.no (fun h => (hP.out.1 h).elim (fun h => c1 h.1) fun h => h.elim c2 c3))
    have d1 : (ph == 1) = false := beq_eq_false_iff_ne.2 c1
    have d2 : (ph == 2) = false := beq_eq_false_iff_ne.2 c2
    have d3 : (ph == 3) = false := beq_eq_false_iff_ne.2 c3
    clear hP c1 c2 c3
    go_enter Try.func107, Try.ntmps107
    go_wp2_with fail
    go_ret
    exact ⟨y.out, rfl⟩

set_option maxHeartbeats 1000000 in
theorem hasSeen_any (B : Nat) (v : Value) (D : WD) (m : Int) (w : World) (hr : RdW w v D) (hB : BoxW w B v) :
    Calls Try.prog 108 #[.pointer (some ⟨B, 0, none⟩), .int .i64 m] w fun e w' => IsB (SeenP D m) e ∧ w = w' := by
  obtain ⟨vw, vd, vs, vm, vg, rfl, _⟩ := hr
  have g6 := hB.cell 6 _ rfl
  have g7 := hB.cell 7 _ rfl
  have hP := Lib.hid (show SeenP D m ↔ ((D.phase = 1 ∧ m < D.next) ∨ D.phase = 2 ∨ D.phase = 3) from Iff.rfl)
  clear hB
  generalize SeenP D m = P at *
  generalize D.phase = ph at *
  generalize D.next = nx at *
  by_cases c2 : ph = 2
  · subst c2
    have y := Lib.hid (IsB.yes (hP.out.2 (.inr (.inl rfl))))
    clear hP
    go_enter Try.func108, Try.ntmps108
    go_wp2_with fail
    go_ret
    exact ⟨y.out, rfl⟩
  by_cases c3 : ph = 3
  · subst c3
    have y := Lib.hid (IsB.yes (hP.out.2 (.inr (.inr rfl))))
    clear hP
    go_enter Try.func108, Try.ntmps108
    go_wp2_with fail
    go_ret
    exact ⟨y.out, rfl⟩
  by_cases c1 : ph = 1
  · subst c1
    by_cases c4 : m < nx
    · have y := Lib.hid (IsB.yes (hP.out.2 (.inl ⟨rfl, c4⟩)))
      clear hP
      go_enter Try.func108, Try.ntmps108
      go_wp2_with fail
      go_ret
      exact ⟨by simpa [c4] using y.out, rfl⟩
    · have y := Lib.hid (IsB.no (fun h => c4 ((hP.out.1 h).elim (fun h => h.2) fun h => h.elim (fun h => absurd h (by decide)) fun h => absurd h (by decide))))
      clear hP
      go_enter Try.func108, Try.ntmps108
      go_wp2_with fail
      go_ret
      exact ⟨by simpa [c4] using y.out, rfl⟩
  · have y := Lib.hid (IsB.no (fun h => (hP.out.1 h).elim (fun h => c1 h.1) fun h => h.elim c2 c3))
    have d1 : (ph == 1) = false := beq_eq_false_iff_ne.2 c1
    have d2 : (ph == 2) = false := beq_eq_false_iff_ne.2 c2
    have d3 : (ph == 3) = false := beq_eq_false_iff_ne.2 c3
    clear hP c1 c2 c3
    go_enter Try.func108, Try.ntmps108
    go_wp2_with fail
    go_ret
    exact ⟨y.out, rfl⟩

set_option maxRecDepth 100000 in
set_option maxHeartbeats 4000000 in
theorem seen_any (v : Value) (D : WD) (m : Int) (w : World) (hr : RdW w v D) :
    Calls Try.prog 38 #[v, .int .i64 m] w fun e w' => IsB (SeenIs D m) e ∧ Below w.heap.size w w' := by
  obtain ⟨vw, vd, vs, vm, vg, rfl, a1, a2, a3, a4, a5⟩ := hr
  have bx := box_new w (.cells #[.int .i64 D.base, .int .i64 D.pages, vw, vd, vs, vm, .int .i64 D.phase, .int .i64 D.next, vg] 32)
  have bw := below_box w (.cells #[.int .i64 D.base, .int .i64 D.pages, vw, vd, vs, vm, .int .i64 D.phase, .int .i64 D.next, vg] 32)
  have hW := Lib.hid (show RdW (w.alloc (.cells #[.int .i64 D.base, .int .i64 D.pages, vw, vd, vs, vm, .int .i64 D.phase, .int .i64 D.next, vg] 32)) (.agg #[.int .i64 D.base, .int .i64 D.pages, vw, vd, vs, vm, .int .i64 D.phase, .int .i64 D.next, vg]) D from ⟨vw, vd, vs, vm, vg, rfl, a1.below bw, a2.below bw, a3.below bw, a4.below bw, a5.below bw⟩)
  have hBx := Lib.hid (show BoxW (w.alloc (.cells #[.int .i64 D.base, .int .i64 D.pages, vw, vd, vs, vm, .int .i64 D.phase, .int .i64 D.next, vg] 32)) w.heap.size (.agg #[.int .i64 D.base, .int .i64 D.pages, vw, vd, vs, vm, .int .i64 D.phase, .int .i64 D.next, vg]) from ⟨_, rfl, bx⟩)
  have bw' := Lib.hid bw
  clear a1 a2 a3 a4 a5 bx bw
  go_enter Try.func38, Try.ntmps38
  go_wp2_with fail
  refine (formOk_any _ D _ hW.out).mono ?_
  rintro e w1 ⟨hq, b1⟩
  have hq := hq.elim
  obtain ⟨x1, rfl⟩ := Ext.of b1
  clear b1
  generalize w.alloc (.cells #[.int .i64 D.base, .int .i64 D.pages, vw, vd, vs, vm, .int .i64 D.phase, .int .i64 D.next, vg] 32) = W at *
  rcases hq with ⟨hF, rfl⟩ | ⟨hF, rfl⟩
  case inr =>
    have n := Lib.hid (show ¬ SeenIs D m from fun h => hF h.1)
    clear hF
    go_wp2_with fail
    go_ret
    exact ⟨IsB.no n.out, below_trans bw'.out x1.below⟩
  have hF' := Lib.hid hF
  have hml := hF.geo.2.2.2.2.2.2
  obtain ⟨aM, cM, rfl, hlm, _⟩ := hW.out.parts.2.2.2.1
  clear hlm
  have g5 := Ext.cell (hBx.out.cell 5 _ rfl)
  clear hF
  by_cases c1 : m < 0
  · have n := Lib.hid (show ¬ SeenIs D m from fun h => by have := h.2.1; omega)
    go_wp2_with fail
    go_ret
    exact ⟨IsB.no n.out, below_trans bw'.out x1.below⟩
  by_cases c2 : (D.muts.length : Int) ≤ m
  · have n := Lib.hid (show ¬ SeenIs D m from fun h => by have := h.2.2.1; omega)
    go_wp2_with fail
    go_ret
    exact ⟨IsB.no n.out, below_trans bw'.out x1.below⟩
  have hcall := Lib.hid (l3seen_any w.heap.size _ D m x1.val (hW.out.below x1.below) (hBx.out.below x1.below))
  have hiff := Lib.hid (show SeenIs D m ↔ SeenP D m from ⟨fun h => h.2.2.2, fun h => ⟨hF'.out, by omega, by omega, h⟩⟩)
  have c1' : 0 ≤ m := by omega
  have c2' : m < (D.muts.length : Int) := by omega
  clear c1 c2
  go_wp2_with fail
  refine hcall.out.mono ?_
  rintro e w2 ⟨⟨r, rfl, hr2⟩, rfl⟩
  have hr3 := Lib.hid (show r = true ↔ SeenIs D m from hr2.trans hiff.out.symm)
  clear hr2
  cases r
  all_goals go_wp2_with fail
  all_goals go_ret
  all_goals exact ⟨⟨_, rfl, by simpa using hr3.out⟩, below_trans bw'.out x1.below⟩

set_option maxRecDepth 100000 in
set_option maxHeartbeats 4000000 in
theorem seenI_any (v : Value) (D : WD) (hm : MarksIn D) (m : Int) (w : World) (hr : RdW w v D) :
    Calls Try.prog 39 #[v, .int .i64 m] w fun e w' => IsB (SeenIs D m) e ∧ Below w.heap.size w w' := by
  have hm' := Lib.hid hm
  clear hm
  obtain ⟨vw, vd, vs, vm, vg, rfl, a1, a2, a3, a4, a5⟩ := hr
  have bx := box_new w (.cells #[.int .i64 D.base, .int .i64 D.pages, vw, vd, vs, vm, .int .i64 D.phase, .int .i64 D.next, vg] 32)
  have bw := below_box w (.cells #[.int .i64 D.base, .int .i64 D.pages, vw, vd, vs, vm, .int .i64 D.phase, .int .i64 D.next, vg] 32)
  have hW := Lib.hid (show RdW (w.alloc (.cells #[.int .i64 D.base, .int .i64 D.pages, vw, vd, vs, vm, .int .i64 D.phase, .int .i64 D.next, vg] 32)) (.agg #[.int .i64 D.base, .int .i64 D.pages, vw, vd, vs, vm, .int .i64 D.phase, .int .i64 D.next, vg]) D from ⟨vw, vd, vs, vm, vg, rfl, a1.below bw, a2.below bw, a3.below bw, a4.below bw, a5.below bw⟩)
  have hBx := Lib.hid (show BoxW (w.alloc (.cells #[.int .i64 D.base, .int .i64 D.pages, vw, vd, vs, vm, .int .i64 D.phase, .int .i64 D.next, vg] 32)) w.heap.size (.agg #[.int .i64 D.base, .int .i64 D.pages, vw, vd, vs, vm, .int .i64 D.phase, .int .i64 D.next, vg]) from ⟨_, rfl, bx⟩)
  have bw' := Lib.hid bw
  clear a1 a2 a3 a4 a5 bx bw
  go_enter Try.func39, Try.ntmps39
  go_wp2_with fail
  refine (formOkI_any _ D hm'.out _ hW.out).mono ?_
  rintro e w1 ⟨hq, b1⟩
  have hq := hq.elim
  obtain ⟨x1, rfl⟩ := Ext.of b1
  clear b1
  generalize w.alloc (.cells #[.int .i64 D.base, .int .i64 D.pages, vw, vd, vs, vm, .int .i64 D.phase, .int .i64 D.next, vg] 32) = W at *
  rcases hq with ⟨hF, rfl⟩ | ⟨hF, rfl⟩
  case inr =>
    have n := Lib.hid (show ¬ SeenIs D m from fun h => hF h.1)
    clear hF
    go_wp2_with fail
    go_ret
    exact ⟨IsB.no n.out, below_trans bw'.out x1.below⟩
  have hF' := Lib.hid hF
  have hml := hF.geo.2.2.2.2.2.2
  obtain ⟨aM, cM, rfl, hlm, _⟩ := hW.out.parts.2.2.2.1
  clear hlm
  have g5 := Ext.cell (hBx.out.cell 5 _ rfl)
  clear hF
  by_cases c1 : 0 ≤ m ∧ m ≤ (D.muts.length : Int) - 1
  case neg =>
    have n := Lib.hid (show ¬ SeenIs D m from fun h => by have := h.2.1; have := h.2.2.1; omega)
    have hb := Lib.hid (inB_no (n := m) (l := 0) (h := (D.muts.length : Int) - 1) (by omega))
    clear c1
    go_wp2_with (go_at_call 46; refine (isIn_eq hb.out _).mono ?_; rintro e w' ⟨rfl, rfl⟩)
    go_ret
    exact ⟨IsB.no n.out, below_trans bw'.out x1.below⟩
  have hb := Lib.hid (inB_yes c1.1 c1.2)
  have hcall := Lib.hid (hasSeen_any w.heap.size _ D m x1.val (hW.out.below x1.below) (hBx.out.below x1.below))
  have hiff := Lib.hid (show SeenIs D m ↔ SeenP D m from ⟨fun h => h.2.2.2, fun h => ⟨hF'.out, by omega, by omega, h⟩⟩)
  clear c1
  go_wp2_with (go_at_call 46; refine (isIn_eq hb.out _).mono ?_; rintro e w' ⟨rfl, rfl⟩)
  refine hcall.out.mono ?_
  rintro e w2 ⟨⟨r, rfl, hr2⟩, rfl⟩
  have hr3 := Lib.hid (show r = true ↔ SeenIs D m from hr2.trans hiff.out.symm)
  clear hr2
  cases r
  all_goals go_wp2_with fail
  all_goals go_ret
  all_goals exact ⟨⟨_, rfl, by simpa using hr3.out⟩, below_trans bw'.out x1.below⟩
end Go.Proofs.Ytajogfnlbdiokaa

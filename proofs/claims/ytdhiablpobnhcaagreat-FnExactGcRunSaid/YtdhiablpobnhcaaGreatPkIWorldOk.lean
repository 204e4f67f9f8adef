import Derived.Test.YtdhiablpobnhcaaGreatPkIKept
import Derived.Laws.EntriesVeiled

/-
  The program's WorldOk.
-/
namespace Go.Proofs.YtdhiablpobnhcaaGreat
open Go.RowKit
open Go.Maps (Keyed)
set_option linter.unusedVariables false

def partLo : Nat → Int | 0 => 0 | 1 => 1 | 2 => 0 | 3 => 3 | 4 => 0 | 5 => 0 | 6 => 0 | 7 => 4 | _ => 1
def partHi : Nat → Int | 0 => 4 | 1 => 2 | 2 => 0 | 3 => 4 | 4 => 4 | 5 => 3 | 6 => 0 | 7 => 4 | _ => 3
def partP (D : WD) : Nat → Prop
  | 0 => Stays D
  | 1 => GreyMarked D D.grey
  | 2 => D.grey = []
  | 3 => D.grey = []
  | 4 => (D.phase = 1 → 0 ≤ D.next ∧ D.next ≤ (D.muts.length : Int)) ∧ (D.phase ≠ 1 → D.next = 0)
  | 5 => ¬ ∃ s, s ∈ D.spans ∧ (s.swept = true)
  | 6 => ¬ ∃ s, s ∈ D.spans ∧ (s.mark ≠ 0)
  | 7 => ¬ ∃ s, s ∈ D.spans ∧ (s.swept = true ∧ s.mark ≠ 0)
  | _ => MutsKept D D.muts.length ∧ SlotsKept D D.spans.length 0
/-- The first i parts hold, where they are asked. -/
def PartsOk (D : WD) (i : Nat) : Prop := ∀ q, q < i → partLo q ≤ D.phase → D.phase ≤ partHi q → partP D q
theorem PartsOk.step {D : WD} {i : Nat} (h : PartsOk D i) (h1 : partLo i ≤ D.phase → D.phase ≤ partHi i → partP D i) : PartsOk D (i + 1) := fun q hq => if e : q = i then by subst e; exact h1 else h q (by omega)
theorem parts_grey' {D : WD} (h : PartsOk D 4) (h0 : 0 ≤ D.phase) (h4 : D.phase ≤ 4) : GreyRight D := by
  by_cases e : D.phase = 1 ∨ D.phase = 2
  · exact ⟨fun _ => e, h 1 (by omega) (by show (1 : Int) ≤ _; omega) (by show _ ≤ (2 : Int); omega)⟩
  · have hz : D.grey = [] := by
      by_cases e0 : D.phase = 0
      · exact h 2 (by omega) (by show (0 : Int) ≤ _; omega) (by show _ ≤ (0 : Int); omega)
      · exact h 3 (by omega) (by show (3 : Int) ≤ _; omega) (by show _ ≤ (4 : Int); omega)
    exact ⟨fun hn => absurd hz hn, by rw [hz]; exact GreyMarked.nil D⟩
theorem parts_grey {D : WD} (hF : HeapForm D) (h : PartsOk D 8) (hp : 0 ≤ D.phase ∧ D.phase ≤ 4) : D.grey.length ≤ 384 := by
  have hg := (parts_grey' (fun q hq => h q (by omega)) hp.1 hp.2).2
  exact nodup_range (lo := D.base) hg.1 fun a ha => obj_range hF (hg.obj a ha)
theorem parts_right {D : WD} (hF : HeapForm D) (h : PartsOk D 9) : Right D := by
  have h0 := hF.ph0
  have h4 := hF.ph1
  have hn := h 4 (by omega) (show (0 : Int) ≤ _ by omega) (show _ ≤ (4 : Int) by omega)
  refine ⟨hF, ⟨parts_grey' (fun q hq => h q (by omega)) h0 h4, ?_, fun s hs => ⟨fun hsw => ?_, fun hm => ⟨fun e => ?_, ?_⟩⟩⟩, h 0 (by omega) (show (0 : Int) ≤ _ by omega) (show _ ≤ (4 : Int) by omega), fun e0 e4 => h 8 (by omega) (show (1 : Int) ≤ _ by omega) (show _ ≤ (3 : Int) by omega)⟩
  · by_cases e : D.phase = 1
    · exact ⟨(hn.1 e).1, (hn.1 e).2, fun _ => e⟩
    · have := hn.2 e
      exact ⟨by omega, by omega, fun h => by omega⟩
  · apply Classical.byContradiction
    intro e
    exact h 5 (by omega) (show (0 : Int) ≤ _ by omega) (show _ ≤ (3 : Int) by omega) ⟨s, hs, hsw⟩
  · exact h 6 (by omega) (show (0 : Int) ≤ _ by omega) (show _ ≤ (0 : Int) by omega) ⟨s, hs, hm⟩
  · cases hsw : s.swept
    · rfl
    · exfalso
      by_cases e : D.phase = 4
      · exact h 7 (by omega) (show (4 : Int) ≤ _ by omega) (show _ ≤ (4 : Int) by omega) ⟨s, hs, hsw, hm⟩
      · exact h 5 (by omega) (show (0 : Int) ≤ _ by omega) (show _ ≤ (3 : Int) by omega) ⟨s, hs, hsw⟩
theorem right_part {D : WD} (h : Right D) {q : Nat} (hl : partLo q ≤ D.phase) (hh : D.phase ≤ partHi q) : partP D q := by
  obtain ⟨hF, ⟨⟨g1, g2⟩, ⟨n1, n2, n3⟩, hs⟩, hS, hK⟩ := h
  match q with
  | 0 => exact hS
  | 1 => exact g2
  | 2 => exact Classical.byContradiction fun h => by have h1 : D.phase ≤ 0 := hh; have := g1 h; omega
  | 3 => exact Classical.byContradiction fun h => by have h1 : 3 ≤ D.phase := hl; have := g1 h; omega
  | 4 => exact ⟨fun _ => ⟨n1, n2⟩, fun h => by
      by_cases e : 0 < D.next
      · exact absurd (n3 e) h
      · omega⟩
  | 5 => exact fun ⟨s, hm, hsw⟩ => by have h1 : D.phase ≤ 3 := hh; have := (hs s hm).1 hsw; omega
  | 6 => exact fun ⟨s, hm, hmk⟩ => by have h1 : D.phase ≤ 0 := hh; have h2 : 0 ≤ D.phase := hl; have := ((hs s hm).2 hmk).1; omega
  | 7 => exact fun ⟨s, hm, hsw, hmk⟩ => by have := ((hs s hm).2 hmk).2; rw [hsw] at this; cases this
  | q + 8 => exact hK (by have h1 : 1 ≤ D.phase := hl; omega) (by have h1 : D.phase ≤ 3 := hh; omega)

theorem parts_any (w : World) : Calls Tryz.prog 67 #[] w fun e w' => ∃ P, e = .returned (.slice (some ⟨P, 0, none⟩) 9 9) ∧ w'.heap[P]? = some (.cells #[.int .i64 0, .int .i64 4, .func (.func 137) #[] #[], .int .i64 1, .int .i64 2, .func (.func 138) #[] #[], .int .i64 0, .int .i64 0, .func (.func 139) #[] #[], .int .i64 3, .int .i64 4, .func (.func 139) #[] #[], .int .i64 0, .int .i64 4, .func (.func 140) #[] #[], .int .i64 0, .int .i64 3, .func (.func 141) #[] #[], .int .i64 0, .int .i64 0, .func (.func 142) #[] #[], .int .i64 4, .int .i64 4, .func (.func 143) #[] #[], .int .i64 1, .int .i64 3, .func (.func 144) #[] #[]] 97 (0, 0)) ∧ Below w.heap.size w w' := by
  have bx := box_new w (.cells #[.int .i64 0, .int .i64 4, .func (.func 137) #[] #[], .int .i64 1, .int .i64 2, .func (.func 138) #[] #[], .int .i64 0, .int .i64 0, .func (.func 139) #[] #[], .int .i64 3, .int .i64 4, .func (.func 139) #[] #[], .int .i64 0, .int .i64 4, .func (.func 140) #[] #[], .int .i64 0, .int .i64 3, .func (.func 141) #[] #[], .int .i64 0, .int .i64 0, .func (.func 142) #[] #[], .int .i64 4, .int .i64 4, .func (.func 143) #[] #[], .int .i64 1, .int .i64 3, .func (.func 144) #[] #[]] 97)
  have bb := Lib.hid (below_box w (.cells #[.int .i64 0, .int .i64 4, .func (.func 137) #[] #[], .int .i64 1, .int .i64 2, .func (.func 138) #[] #[], .int .i64 0, .int .i64 0, .func (.func 139) #[] #[], .int .i64 3, .int .i64 4, .func (.func 139) #[] #[], .int .i64 0, .int .i64 4, .func (.func 140) #[] #[], .int .i64 0, .int .i64 3, .func (.func 141) #[] #[], .int .i64 0, .int .i64 0, .func (.func 142) #[] #[], .int .i64 4, .int .i64 4, .func (.func 143) #[] #[], .int .i64 1, .int .i64 3, .func (.func 144) #[] #[]] 97))
  have bx' := Lib.hid bx
  clear bx
  go_enter Tryz.func67, Tryz.ntmps67
  go_wp2_with fail
  go_ret
  exact ⟨_, rfl, bx'.out, bb.out⟩

set_option maxRecDepth 100000 in
set_option maxHeartbeats 16000000 in
theorem iworldOk_any (v : Value) (D : WD) (hfit : FitD D) (hcap : CapW v) (w : World) (hr : RdW w v D) :
    Calls Tryz.prog 27 #[v] w fun e w' => IsB (Right D) e ∧ Below w.heap.size w w' := by
  have hfit := Lib.hid hfit
  have hcap' := Lib.hid hcap
  clear hcap
  obtain ⟨vw, vd, vs, vm, vg, rfl, a1, a2, a3, a4, a5⟩ := hr
  have bx := box_new w (.cells #[.int .i64 D.base, .int .i64 D.pages, vw, vd, vs, vm, .int .i64 D.phase, .int .i64 D.next, vg] 30)
  have bw := below_box w (.cells #[.int .i64 D.base, .int .i64 D.pages, vw, vd, vs, vm, .int .i64 D.phase, .int .i64 D.next, vg] 30)
  have hW := Lib.hid (show RdW (w.alloc (.cells #[.int .i64 D.base, .int .i64 D.pages, vw, vd, vs, vm, .int .i64 D.phase, .int .i64 D.next, vg] 30)) (.agg #[.int .i64 D.base, .int .i64 D.pages, vw, vd, vs, vm, .int .i64 D.phase, .int .i64 D.next, vg]) D from ⟨vw, vd, vs, vm, vg, rfl, a1.below bw, a2.below bw, a3.below bw, a4.below bw, a5.below bw⟩)
  have hBx := Lib.hid (show BoxW (w.alloc (.cells #[.int .i64 D.base, .int .i64 D.pages, vw, vd, vs, vm, .int .i64 D.phase, .int .i64 D.next, vg] 30)) w.heap.size (.agg #[.int .i64 D.base, .int .i64 D.pages, vw, vd, vs, vm, .int .i64 D.phase, .int .i64 D.next, vg]) from ⟨_, rfl, bx⟩)
  have bw' := Lib.hid bw
  clear a1 a2 a3 a4 a5 bx bw
  go_enter Tryz.func27, Tryz.ntmps27
  go_wp2_with fail
  go_step3
  go_wp2_with fail
  refine (formOkI_any _ D hfit.out.marks _ hW.out).mono ?_
  rintro e w1 ⟨hq, b1⟩
  have hq := hq.elim
  obtain ⟨x1, rfl⟩ := Ext.of b1
  clear b1
  generalize w.alloc (.cells #[.int .i64 D.base, .int .i64 D.pages, vw, vd, vs, vm, .int .i64 D.phase, .int .i64 D.next, vg] 30) = W at *
  rcases hq with ⟨hF, rfl⟩ | ⟨hF, rfl⟩
  case inr =>
    have y := Lib.hid (IsB.no (right_no1 hF))
    clear hF
    go_wp2_with fail
    try rw [Exit.noGoto_ret]
    go_ret
    exact ⟨y.out, below_trans bw'.out x1.below⟩
  have hF' := Lib.hid hF
  have hcall := Lib.hid (viewOf_any w.heap.size _ D hF x1.val (hW.out.below x1.below) (hBx.out.below x1.below))
  clear hF
  go_wp2_with fail
  refine hcall.out.mono ?_
  rintro e w2 ⟨V, g, n, M, rfl, hv, b2⟩
  have hv' := Lib.hid hv
  have b2' := Lib.hid (below_trans x1.below b2)
  clear hv b2 hcall
  go_wp2_with fail
  go_step3
  go_wp2_with fail
  refine (parts_any w2).mono ?_
  rintro e w3 ⟨P, rfl, hPx, b3⟩
  have hr3 := Lib.hid ((hW.out.below b2'.out).below b3)
  have hB3 := Lib.hid ((hBx.out.below b2'.out).below b3)
  have hv3 := Lib.hid (hv'.out.below b3)
  have bb3 := Lib.hid (below_trans bw'.out (below_trans b2'.out b3))
  have g6 := Lib.hid (fun (w' : World) (hb : Below w3.heap.size w3 w') => (hB3.out.below hb).cell 6 (.int .i64 D.phase) rfl)
  have hPc := Lib.hid (fun (w' : World) (hb : Below w3.heap.size w3 w') => heap_below hb hPx)
  have h0 := hF'.out.ph0
  have h4 := hF'.out.ph1
  clear hPx b3
  go_wp2_with fail
  go_loopw [4, 13] (fun q i wr => ∃ k : Nat, k ≤ 9 ∧ q = .bool true ∧ i = .int .i64 k ∧ Hid (PartsOk D k) ∧ Hid (Below w3.heap.size w3 wr)) (fun _ i _ => 9 - (Go.RowKit.intOf i).toNat)
  case atStart => exact ⟨0, Nat.zero_le _, rfl, rfl, Lib.hid (fun q h => absurd h (by omega)), Lib.hid (Below.refl _ _)⟩
  case round =>
    obtain ⟨k, hk, rfl, rfl, hok, hb⟩ := hrel
    by_cases hlt : k < 9
    · have z6 := g6.out _ hb.out
      have hP := hPc.out _ hb.out
      rcases (show k = 0 ∨ k = 1 ∨ k = 2 ∨ k = 3 ∨ k = 4 ∨ k = 5 ∨ k = 6 ∨ k = 7 ∨ k = 8 by omega) with rfl | rfl | rfl | rfl | rfl | rfl | rfl | rfl | rfl
      · have y0 := cell_of_heap hP 0 (.int .i64 0) rfl
        have y1 := cell_of_heap hP 1 (.int .i64 4) rfl
        have y2 := cell_of_heap hP 2 (.func (.func 137) #[] #[]) rfl
        have bp := Lib.hid (below_box wr (.cells #[.int .i64 0, .int .i64 4, .func (.func 137) #[] #[]] 97))
        have hbp := Lib.hid (below_trans hb.out bp.out)
        have z6 := g6.out _ hbp.out
        cases hin : inB D.phase 0 4
        · have hn := Lib.hid (hok.out.step fun h1 h2 => by have := inB_iff.2 (⟨h1, h2⟩ : (0 : Int) ≤ D.phase ∧ D.phase ≤ 4); rw [hin] at this; cases this)
          have hin' := Lib.hid hin
          clear hin hP
          go_wp2_with (go_at_call 60; refine (isIn_eq hin'.out _).mono ?_; rintro e w' ⟨rfl, rfl⟩)
          go_roundw
          case rel => exact ⟨0 + 1, by omega, rfl, by go_num, hn, hbp⟩
          case measure => simp [Go.RowKit.intOf]
        · have hc := Lib.hid (pLed V w.heap.size g n M _ D hF'.out hfit.out.words hfit.out.muts hcap'.out _ (hr3.out.below hbp.out) (hB3.out.below hbp.out) (hv3.out.below hbp.out))
          have hnot := Lib.hid (show ¬ partP D 0 → ¬ Right D from fun h h2 => h (right_part h2 (inB_iff.1 hin).1 (inB_iff.1 hin).2))
          have hin' := Lib.hid hin
          clear hin hP
          go_wp2_with (go_at_call 60; refine (isIn_eq hin'.out _).mono ?_; rintro e w' ⟨rfl, rfl⟩)
          refine hc.out.mono ?_
          rintro e w5 ⟨hq, b5⟩
          replace hq := hq.elim
          have hb5 := Lib.hid (below_trans hbp.out b5)
          clear b5 hc y0 y1 y2 z6
          rcases hq with ⟨hq, rfl⟩ | ⟨hq, rfl⟩
          · have hn := Lib.hid (hok.out.step fun _ _ => hq)
            clear hq
            go_wp2_with fail
            go_roundw
            case rel => exact ⟨0 + 1, by omega, rfl, by go_num, hn, hb5⟩
            case measure => simp [Go.RowKit.intOf]
          · have y := Lib.hid (IsB.no (hnot.out hq))
            clear hq
            go_wp2_with fail
            try rw [Exit.noGoto_ret]
            go_ret
            exact ⟨y.out, below_trans bb3.out hb5.out⟩
      · have y0 := cell_of_heap hP 3 (.int .i64 1) rfl
        have y1 := cell_of_heap hP 4 (.int .i64 2) rfl
        have y2 := cell_of_heap hP 5 (.func (.func 138) #[] #[]) rfl
        have bp := Lib.hid (below_box wr (.cells #[.int .i64 1, .int .i64 2, .func (.func 138) #[] #[]] 97))
        have hbp := Lib.hid (below_trans hb.out bp.out)
        have z6 := g6.out _ hbp.out
        cases hin : inB D.phase 1 2
        · have hn := Lib.hid (hok.out.step fun h1 h2 => by have := inB_iff.2 (⟨h1, h2⟩ : (1 : Int) ≤ D.phase ∧ D.phase ≤ 2); rw [hin] at this; cases this)
          have hin' := Lib.hid hin
          clear hin hP
          go_wp2_with (go_at_call 60; refine (isIn_eq hin'.out _).mono ?_; rintro e w' ⟨rfl, rfl⟩)
          go_roundw
          case rel => exact ⟨1 + 1, by omega, rfl, by go_num, hn, hbp⟩
          case measure => simp [Go.RowKit.intOf]
        · have hc := Lib.hid (pGrey V w.heap.size g n M _ D hF'.out hfit.out.grey _ (hr3.out.below hbp.out) (hB3.out.below hbp.out) (hv3.out.below hbp.out))
          have hnot := Lib.hid (show ¬ partP D 1 → ¬ Right D from fun h h2 => h (right_part h2 (inB_iff.1 hin).1 (inB_iff.1 hin).2))
          have hin' := Lib.hid hin
          clear hin hP
          go_wp2_with (go_at_call 60; refine (isIn_eq hin'.out _).mono ?_; rintro e w' ⟨rfl, rfl⟩)
          refine hc.out.mono ?_
          rintro e w5 ⟨hq, b5⟩
          replace hq := hq.elim
          have hb5 := Lib.hid (below_trans hbp.out b5)
          clear b5 hc y0 y1 y2 z6
          rcases hq with ⟨hq, rfl⟩ | ⟨hq, rfl⟩
          · have hn := Lib.hid (hok.out.step fun _ _ => hq)
            clear hq
            go_wp2_with fail
            go_roundw
            case rel => exact ⟨1 + 1, by omega, rfl, by go_num, hn, hb5⟩
            case measure => simp [Go.RowKit.intOf]
          · have y := Lib.hid (IsB.no (hnot.out hq))
            clear hq
            go_wp2_with fail
            try rw [Exit.noGoto_ret]
            go_ret
            exact ⟨y.out, below_trans bb3.out hb5.out⟩
      · have y0 := cell_of_heap hP 6 (.int .i64 0) rfl
        have y1 := cell_of_heap hP 7 (.int .i64 0) rfl
        have y2 := cell_of_heap hP 8 (.func (.func 139) #[] #[]) rfl
        have bp := Lib.hid (below_box wr (.cells #[.int .i64 0, .int .i64 0, .func (.func 139) #[] #[]] 97))
        have hbp := Lib.hid (below_trans hb.out bp.out)
        have z6 := g6.out _ hbp.out
        cases hin : inB D.phase 0 0
        · have hn := Lib.hid (hok.out.step fun h1 h2 => by have := inB_iff.2 (⟨h1, h2⟩ : (0 : Int) ≤ D.phase ∧ D.phase ≤ 0); rw [hin] at this; cases this)
          have hin' := Lib.hid hin
          clear hin hP
          go_wp2_with (go_at_call 60; refine (isIn_eq hin'.out _).mono ?_; rintro e w' ⟨rfl, rfl⟩)
          go_roundw
          case rel => exact ⟨2 + 1, by omega, rfl, by go_num, hn, hbp⟩
          case measure => simp [Go.RowKit.intOf]
        · have hc := Lib.hid (pGreyEmpty V w.heap.size g n M _ D _ (hr3.out.below hbp.out) (hB3.out.below hbp.out) (hv3.out.below hbp.out))
          have hnot := Lib.hid (show ¬ partP D 2 → ¬ Right D from fun h h2 => h (right_part h2 (inB_iff.1 hin).1 (inB_iff.1 hin).2))
          have hin' := Lib.hid hin
          clear hin hP
          go_wp2_with (go_at_call 60; refine (isIn_eq hin'.out _).mono ?_; rintro e w' ⟨rfl, rfl⟩)
          refine hc.out.mono ?_
          rintro e w5 ⟨hq, b5⟩
          replace hq := hq.elim
          have hb5 := Lib.hid (below_trans hbp.out b5)
          clear b5 hc y0 y1 y2 z6
          rcases hq with ⟨hq, rfl⟩ | ⟨hq, rfl⟩
          · have hn := Lib.hid (hok.out.step fun _ _ => hq)
            clear hq
            go_wp2_with fail
            go_roundw
            case rel => exact ⟨2 + 1, by omega, rfl, by go_num, hn, hb5⟩
            case measure => simp [Go.RowKit.intOf]
          · have y := Lib.hid (IsB.no (hnot.out hq))
            clear hq
            go_wp2_with fail
            try rw [Exit.noGoto_ret]
            go_ret
            exact ⟨y.out, below_trans bb3.out hb5.out⟩
      · have y0 := cell_of_heap hP 9 (.int .i64 3) rfl
        have y1 := cell_of_heap hP 10 (.int .i64 4) rfl
        have y2 := cell_of_heap hP 11 (.func (.func 139) #[] #[]) rfl
        have bp := Lib.hid (below_box wr (.cells #[.int .i64 3, .int .i64 4, .func (.func 139) #[] #[]] 97))
        have hbp := Lib.hid (below_trans hb.out bp.out)
        have z6 := g6.out _ hbp.out
        cases hin : inB D.phase 3 4
        · have hn := Lib.hid (hok.out.step fun h1 h2 => by have := inB_iff.2 (⟨h1, h2⟩ : (3 : Int) ≤ D.phase ∧ D.phase ≤ 4); rw [hin] at this; cases this)
          have hin' := Lib.hid hin
          clear hin hP
          go_wp2_with (go_at_call 60; refine (isIn_eq hin'.out _).mono ?_; rintro e w' ⟨rfl, rfl⟩)
          go_roundw
          case rel => exact ⟨3 + 1, by omega, rfl, by go_num, hn, hbp⟩
          case measure => simp [Go.RowKit.intOf]
        · have hc := Lib.hid (pGreyEmpty V w.heap.size g n M _ D _ (hr3.out.below hbp.out) (hB3.out.below hbp.out) (hv3.out.below hbp.out))
          have hnot := Lib.hid (show ¬ partP D 3 → ¬ Right D from fun h h2 => h (right_part h2 (inB_iff.1 hin).1 (inB_iff.1 hin).2))
          have hin' := Lib.hid hin
          clear hin hP
          go_wp2_with (go_at_call 60; refine (isIn_eq hin'.out _).mono ?_; rintro e w' ⟨rfl, rfl⟩)
          refine hc.out.mono ?_
          rintro e w5 ⟨hq, b5⟩
          replace hq := hq.elim
          have hb5 := Lib.hid (below_trans hbp.out b5)
          clear b5 hc y0 y1 y2 z6
          rcases hq with ⟨hq, rfl⟩ | ⟨hq, rfl⟩
          · have hn := Lib.hid (hok.out.step fun _ _ => hq)
            clear hq
            go_wp2_with fail
            go_roundw
            case rel => exact ⟨3 + 1, by omega, rfl, by go_num, hn, hb5⟩
            case measure => simp [Go.RowKit.intOf]
          · have y := Lib.hid (IsB.no (hnot.out hq))
            clear hq
            go_wp2_with fail
            try rw [Exit.noGoto_ret]
            go_ret
            exact ⟨y.out, below_trans bb3.out hb5.out⟩
      · have y0 := cell_of_heap hP 12 (.int .i64 0) rfl
        have y1 := cell_of_heap hP 13 (.int .i64 4) rfl
        have y2 := cell_of_heap hP 14 (.func (.func 140) #[] #[]) rfl
        have bp := Lib.hid (below_box wr (.cells #[.int .i64 0, .int .i64 4, .func (.func 140) #[] #[]] 97))
        have hbp := Lib.hid (below_trans hb.out bp.out)
        have z6 := g6.out _ hbp.out
        cases hin : inB D.phase 0 4
        · have hn := Lib.hid (hok.out.step fun h1 h2 => by have := inB_iff.2 (⟨h1, h2⟩ : (0 : Int) ≤ D.phase ∧ D.phase ≤ 4); rw [hin] at this; cases this)
          have hin' := Lib.hid hin
          clear hin hP
          go_wp2_with (go_at_call 60; refine (isIn_eq hin'.out _).mono ?_; rintro e w' ⟨rfl, rfl⟩)
          go_roundw
          case rel => exact ⟨4 + 1, by omega, rfl, by go_num, hn, hbp⟩
          case measure => simp [Go.RowKit.intOf]
        · have hc := Lib.hid (pNext V w.heap.size g n M _ D _ (hr3.out.below hbp.out) (hB3.out.below hbp.out) (hv3.out.below hbp.out))
          have hnot := Lib.hid (show ¬ partP D 4 → ¬ Right D from fun h h2 => h (right_part h2 (inB_iff.1 hin).1 (inB_iff.1 hin).2))
          have hin' := Lib.hid hin
          clear hin hP
          go_wp2_with (go_at_call 60; refine (isIn_eq hin'.out _).mono ?_; rintro e w' ⟨rfl, rfl⟩)
          refine hc.out.mono ?_
          rintro e w5 ⟨hq, b5⟩
          replace hq := hq.elim
          have hb5 := Lib.hid (below_trans hbp.out b5)
          clear b5 hc y0 y1 y2 z6
          rcases hq with ⟨hq, rfl⟩ | ⟨hq, rfl⟩
          · have hn := Lib.hid (hok.out.step fun _ _ => hq)
            clear hq
            go_wp2_with fail
            go_roundw
            case rel => exact ⟨4 + 1, by omega, rfl, by go_num, hn, hb5⟩
            case measure => simp [Go.RowKit.intOf]
          · have y := Lib.hid (IsB.no (hnot.out hq))
            clear hq
            go_wp2_with fail
            try rw [Exit.noGoto_ret]
            go_ret
            exact ⟨y.out, below_trans bb3.out hb5.out⟩
      · have y0 := cell_of_heap hP 15 (.int .i64 0) rfl
        have y1 := cell_of_heap hP 16 (.int .i64 3) rfl
        have y2 := cell_of_heap hP 17 (.func (.func 141) #[] #[]) rfl
        have bp := Lib.hid (below_box wr (.cells #[.int .i64 0, .int .i64 3, .func (.func 141) #[] #[]] 97))
        have hbp := Lib.hid (below_trans hb.out bp.out)
        have z6 := g6.out _ hbp.out
        cases hin : inB D.phase 0 3
        · have hn := Lib.hid (hok.out.step fun h1 h2 => by have := inB_iff.2 (⟨h1, h2⟩ : (0 : Int) ≤ D.phase ∧ D.phase ≤ 3); rw [hin] at this; cases this)
          have hin' := Lib.hid hin
          clear hin hP
          go_wp2_with (go_at_call 60; refine (isIn_eq hin'.out _).mono ?_; rintro e w' ⟨rfl, rfl⟩)
          go_roundw
          case rel => exact ⟨5 + 1, by omega, rfl, by go_num, hn, hbp⟩
          case measure => simp [Go.RowKit.intOf]
        · have hc := Lib.hid (pSwept V w.heap.size g n M _ D _ (hr3.out.below hbp.out) (hB3.out.below hbp.out) (hv3.out.below hbp.out))
          have hnot := Lib.hid (show ¬ partP D 5 → ¬ Right D from fun h h2 => h (right_part h2 (inB_iff.1 hin).1 (inB_iff.1 hin).2))
          have hin' := Lib.hid hin
          clear hin hP
          go_wp2_with (go_at_call 60; refine (isIn_eq hin'.out _).mono ?_; rintro e w' ⟨rfl, rfl⟩)
          refine hc.out.mono ?_
          rintro e w5 ⟨hq, b5⟩
          replace hq := hq.elim
          have hb5 := Lib.hid (below_trans hbp.out b5)
          clear b5 hc y0 y1 y2 z6
          rcases hq with ⟨hq, rfl⟩ | ⟨hq, rfl⟩
          · have hn := Lib.hid (hok.out.step fun _ _ => hq)
            clear hq
            go_wp2_with fail
            go_roundw
            case rel => exact ⟨5 + 1, by omega, rfl, by go_num, hn, hb5⟩
            case measure => simp [Go.RowKit.intOf]
          · have y := Lib.hid (IsB.no (hnot.out hq))
            clear hq
            go_wp2_with fail
            try rw [Exit.noGoto_ret]
            go_ret
            exact ⟨y.out, below_trans bb3.out hb5.out⟩
      · have y0 := cell_of_heap hP 18 (.int .i64 0) rfl
        have y1 := cell_of_heap hP 19 (.int .i64 0) rfl
        have y2 := cell_of_heap hP 20 (.func (.func 142) #[] #[]) rfl
        have bp := Lib.hid (below_box wr (.cells #[.int .i64 0, .int .i64 0, .func (.func 142) #[] #[]] 97))
        have hbp := Lib.hid (below_trans hb.out bp.out)
        have z6 := g6.out _ hbp.out
        cases hin : inB D.phase 0 0
        · have hn := Lib.hid (hok.out.step fun h1 h2 => by have := inB_iff.2 (⟨h1, h2⟩ : (0 : Int) ≤ D.phase ∧ D.phase ≤ 0); rw [hin] at this; cases this)
          have hin' := Lib.hid hin
          clear hin hP
          go_wp2_with (go_at_call 60; refine (isIn_eq hin'.out _).mono ?_; rintro e w' ⟨rfl, rfl⟩)
          go_roundw
          case rel => exact ⟨6 + 1, by omega, rfl, by go_num, hn, hbp⟩
          case measure => simp [Go.RowKit.intOf]
        · have hc := Lib.hid (pMarked V w.heap.size g n M _ D _ (hr3.out.below hbp.out) (hB3.out.below hbp.out) (hv3.out.below hbp.out))
          have hnot := Lib.hid (show ¬ partP D 6 → ¬ Right D from fun h h2 => h (right_part h2 (inB_iff.1 hin).1 (inB_iff.1 hin).2))
          have hin' := Lib.hid hin
          clear hin hP
          go_wp2_with (go_at_call 60; refine (isIn_eq hin'.out _).mono ?_; rintro e w' ⟨rfl, rfl⟩)
          refine hc.out.mono ?_
          rintro e w5 ⟨hq, b5⟩
          replace hq := hq.elim
          have hb5 := Lib.hid (below_trans hbp.out b5)
          clear b5 hc y0 y1 y2 z6
          rcases hq with ⟨hq, rfl⟩ | ⟨hq, rfl⟩
          · have hn := Lib.hid (hok.out.step fun _ _ => hq)
            clear hq
            go_wp2_with fail
            go_roundw
            case rel => exact ⟨6 + 1, by omega, rfl, by go_num, hn, hb5⟩
            case measure => simp [Go.RowKit.intOf]
          · have y := Lib.hid (IsB.no (hnot.out hq))
            clear hq
            go_wp2_with fail
            try rw [Exit.noGoto_ret]
            go_ret
            exact ⟨y.out, below_trans bb3.out hb5.out⟩
      · have y0 := cell_of_heap hP 21 (.int .i64 4) rfl
        have y1 := cell_of_heap hP 22 (.int .i64 4) rfl
        have y2 := cell_of_heap hP 23 (.func (.func 143) #[] #[]) rfl
        have bp := Lib.hid (below_box wr (.cells #[.int .i64 4, .int .i64 4, .func (.func 143) #[] #[]] 97))
        have hbp := Lib.hid (below_trans hb.out bp.out)
        have z6 := g6.out _ hbp.out
        cases hin : inB D.phase 4 4
        · have hn := Lib.hid (hok.out.step fun h1 h2 => by have := inB_iff.2 (⟨h1, h2⟩ : (4 : Int) ≤ D.phase ∧ D.phase ≤ 4); rw [hin] at this; cases this)
          have hin' := Lib.hid hin
          clear hin hP
          go_wp2_with (go_at_call 60; refine (isIn_eq hin'.out _).mono ?_; rintro e w' ⟨rfl, rfl⟩)
          go_roundw
          case rel => exact ⟨7 + 1, by omega, rfl, by go_num, hn, hbp⟩
          case measure => simp [Go.RowKit.intOf]
        · have hc := Lib.hid (pBoth V w.heap.size g n M _ D _ (hr3.out.below hbp.out) (hB3.out.below hbp.out) (hv3.out.below hbp.out))
          have hnot := Lib.hid (show ¬ partP D 7 → ¬ Right D from fun h h2 => h (right_part h2 (inB_iff.1 hin).1 (inB_iff.1 hin).2))
          have hin' := Lib.hid hin
          clear hin hP
          go_wp2_with (go_at_call 60; refine (isIn_eq hin'.out _).mono ?_; rintro e w' ⟨rfl, rfl⟩)
          refine hc.out.mono ?_
          rintro e w5 ⟨hq, b5⟩
          replace hq := hq.elim
          have hb5 := Lib.hid (below_trans hbp.out b5)
          clear b5 hc y0 y1 y2 z6
          rcases hq with ⟨hq, rfl⟩ | ⟨hq, rfl⟩
          · have hn := Lib.hid (hok.out.step fun _ _ => hq)
            clear hq
            go_wp2_with fail
            go_roundw
            case rel => exact ⟨7 + 1, by omega, rfl, by go_num, hn, hb5⟩
            case measure => simp [Go.RowKit.intOf]
          · have y := Lib.hid (IsB.no (hnot.out hq))
            clear hq
            go_wp2_with fail
            try rw [Exit.noGoto_ret]
            go_ret
            exact ⟨y.out, below_trans bb3.out hb5.out⟩
      · have y0 := cell_of_heap hP 24 (.int .i64 1) rfl
        have y1 := cell_of_heap hP 25 (.int .i64 3) rfl
        have y2 := cell_of_heap hP 26 (.func (.func 144) #[] #[]) rfl
        have bp := Lib.hid (below_box wr (.cells #[.int .i64 1, .int .i64 3, .func (.func 144) #[] #[]] 97))
        have hbp := Lib.hid (below_trans hb.out bp.out)
        have z6 := g6.out _ hbp.out
        cases hin : inB D.phase 1 3
        · have hn := Lib.hid (hok.out.step fun h1 h2 => by have := inB_iff.2 (⟨h1, h2⟩ : (1 : Int) ≤ D.phase ∧ D.phase ≤ 3); rw [hin] at this; cases this)
          have hin' := Lib.hid hin
          clear hin hP
          go_wp2_with (go_at_call 60; refine (isIn_eq hin'.out _).mono ?_; rintro e w' ⟨rfl, rfl⟩)
          go_roundw
          case rel => exact ⟨8 + 1, by omega, rfl, by go_num, hn, hbp⟩
          case measure => simp [Go.RowKit.intOf]
        · have hc := Lib.hid (pKept V w.heap.size g n M _ D hF'.out hfit.out.words hfit.out.grey (parts_grey hF'.out hok.out (by have := inB_iff.1 hin; omega)) hfit.out.muts hcap'.out _ (hr3.out.below hbp.out) (hB3.out.below hbp.out) (hv3.out.below hbp.out))
          have hnot := Lib.hid (show ¬ partP D 8 → ¬ Right D from fun h h2 => h (right_part h2 (inB_iff.1 hin).1 (inB_iff.1 hin).2))
          have hin' := Lib.hid hin
          clear hin hP
          go_wp2_with (go_at_call 60; refine (isIn_eq hin'.out _).mono ?_; rintro e w' ⟨rfl, rfl⟩)
          refine hc.out.mono ?_
          rintro e w5 ⟨hq, b5⟩
          replace hq := hq.elim
          have hb5 := Lib.hid (below_trans hbp.out b5)
          clear b5 hc y0 y1 y2 z6
          rcases hq with ⟨hq, rfl⟩ | ⟨hq, rfl⟩
          · have hn := Lib.hid (hok.out.step fun _ _ => hq)
            clear hq
            go_wp2_with fail
            go_roundw
            case rel => exact ⟨8 + 1, by omega, rfl, by go_num, hn, hb5⟩
            case measure => simp [Go.RowKit.intOf]
          · have y := Lib.hid (IsB.no (hnot.out hq))
            clear hq
            go_wp2_with fail
            try rw [Exit.noGoto_ret]
            go_ret
            exact ⟨y.out, below_trans bb3.out hb5.out⟩
    obtain rfl : k = 9 := by omega
    have y := Lib.hid (IsB.yes (parts_right hF'.out hok.out))
    go_wp2_with fail
    try rw [Exit.noGoto_ret]
    go_ret
    exact ⟨y.out, below_trans bb3.out hb.out⟩
end Go.Proofs.YtdhiablpobnhcaaGreat

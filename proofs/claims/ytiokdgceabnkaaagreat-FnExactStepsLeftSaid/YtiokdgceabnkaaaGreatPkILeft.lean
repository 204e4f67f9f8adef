import Derived.Test.YtiokdgceabnkaaaGreatPkIWorldOk
import Derived.Test.YtiokdgceabnkaaaGreatPkLeft

/-
  The contract of the program's StepsLeft.
-/
namespace Go.Proofs.YtiokdgceabnkaaaGreat
open Go.RowKit
set_option linter.unusedVariables false

set_option maxRecDepth 100000 in
set_option maxHeartbeats 4000000 in
theorem unmarked_any (B : Nat) (v : Value) (D : WD) (hF : HeapForm D) (w : World) (hr : RdW w v D) (hB : BoxW w B v) :
    Calls Tryz.prog 71 #[.pointer (some ⟨B, 0, none⟩)] w fun e w' => e = .returned (.int .i64 (whiteK D D.spans.length : Int)) ∧ Below w.heap.size w w' := by
  have hF' := Lib.hid hF
  have hl12 : D.spans.length ≤ 12 := by have := hF.spans; have := hF.geo.2.2.2.2.1; omega
  have hwk := Lib.hid (fun k hk => whiteK_le (D := D) hF.lens16 k hk)
  obtain ⟨vw, vd, vs, vm, vg, rfl, a1, a2, a3, a4, a5⟩ := hr
  obtain ⟨aS, cS, rfl, hls, hx⟩ := a3
  have hx' := Lib.hid hx
  have g4w := hB.cell 4 _ rfl
  have g4 := Ext.cell g4w
  clear hF hx hls a1 a2 a4 a5 hB
  go_enter Tryz.func71, Tryz.ntmps71
  go_wp2_with fail
  go_loopw [3, 11] (fun u i wr => ∃ k : Nat, k ≤ D.spans.length ∧ i = .int .i64 k ∧ u = .int .i64 (whiteK D k : Int) ∧ ∃ x : Ext w, wr = x.val) (fun u i _ => D.spans.length - (Go.RowKit.intOf i).toNat)
  case atStart => exact ⟨0, Nat.zero_le _, rfl, rfl, Ext.self w, rfl⟩
  case round =>
    obtain ⟨k, hk, rfl, rfl, x, rfl⟩ := hrel
    have hwb := hwk.out k hk
    by_cases hlt : k < D.spans.length
    · have hlt1 : (k : Int) < (D.spans.length : Int) := by omega
      obtain ⟨s, hks⟩ : ∃ s, D.spans[k]? = some s := ⟨_, List.getElem?_eq_getElem hlt⟩
      obtain ⟨b1, o1, rfl, hs⟩ := hx'.out k s hks
      have hs' := Lib.hid hs
      obtain ⟨vl, vp, y0, y1, y2, _⟩ := hs
      have y2 := Ext.cell y2
      obtain ⟨m0, m1, hcnt⟩ := hF'.out.white hks
      have hl16 := hF'.out.lens16 s (List.mem_of_getElem? hks)
      have hws := whiteK_succ hks
      have hwb2 := hwk.out (k + 1) (by omega)
      have hone := Lib.hid (fun w => ones_any s.mark m0 m1 w)
      have huc := usedCnt_le s s.lens.length
      have hmc := markCnt_le s.mark 16
      have hd : IntKind.i64.wrap ((usedCnt s s.lens.length : Int) - (markCnt s.mark 16 : Int)) = (whiteS s s.lens.length : Int) := by
        rw [← hcnt]; rw [IntWalk.i64_in _ (by omega)]; omega
      have he : IntKind.i64.wrap ((whiteK D k : Int) + (whiteS s s.lens.length : Int)) = (whiteK D (k + 1) : Int) := by
        rw [hws]; rw [IntWalk.i64_in _ (by omega)]; omega
      have hu : IntKind.u64.wrap s.mark = s.mark := IntWalk.u64_in _ (by omega)
      clear hcnt hws hks y0 y1 huc hmc hwb2
      go_wp2_with fail
      refine wp_region_ext x.below (by kernel_rfl) (by kernel_rfl) ?_
      repeat (go_big_quiet_step ((first | (go_at_call 99; exact Ext.same (usedSlots_any _ _ s _ (hs'.out.below (Ext.below _)))) | (go_at_call 100; exact Ext.same (hone.out _)))))
      refine wpQuiet_nil ?_
      intro _ hw'
      obtain ⟨x9, hw''⟩ := hw'
      subst hw''
      clear hd he hu
      go_wp2_with fail
      go_roundw
      case rel => exact ⟨k + 1, by omega, by go_num, rfl, x9, rfl⟩
      case measure => simp [Go.RowKit.intOf]; omega
    · obtain rfl : k = D.spans.length := by omega
      go_wp2_with fail
      go_ret
      exact ⟨rfl, x.below⟩

set_option maxRecDepth 100000 in
set_option maxHeartbeats 1000000 in
theorem unswept_any (B : Nat) (v : Value) (D : WD) (hl12 : D.spans.length ≤ 12) (w : World) (hr : RdW w v D) (hB : BoxW w B v) :
    Calls Tryz.prog 72 #[.pointer (some ⟨B, 0, none⟩)] w fun e w' => e = .returned (.int .i64 (unsK D D.spans.length : Int)) ∧ w = w' := by
  have huk := Lib.hid (fun k hk => unsK_le D k hk)
  obtain ⟨vw, vd, vs, vm, vg, rfl, a1, a2, a3, a4, a5⟩ := hr
  obtain ⟨aS, cS, rfl, hls, hx⟩ := a3
  have hx' := Lib.hid hx
  have g4 := hB.cell 4 _ rfl
  clear hx hls a1 a2 a4 a5 hB
  go_enter Tryz.func72, Tryz.ntmps72
  go_wp2_with fail
  go_loop [3, 10] (fun u i => ∃ k : Nat, k ≤ D.spans.length ∧ i = .int .i64 k ∧ u = .int .i64 (unsK D k : Int)) (fun u i => D.spans.length - (Go.RowKit.intOf i).toNat)
  case atStart => exact ⟨0, Nat.zero_le _, rfl, rfl⟩
  case round =>
    obtain ⟨k, hk, rfl, rfl⟩ := hrel
    have hub := huk.out k hk
    by_cases hlt : k < D.spans.length
    · have hlt1 : (k : Int) < (D.spans.length : Int) := by omega
      obtain ⟨s, hks⟩ : ∃ s, D.spans[k]? = some s := ⟨_, List.getElem?_eq_getElem hlt⟩
      obtain ⟨b1, o1, rfl, hs⟩ := hx'.out k s hks
      obtain ⟨vl, vp, y0, y1, y2, y3, _⟩ := hs
      have hus := Lib.hid (unsK_succ hks)
      obtain ⟨sw, hsw⟩ : ∃ b, s.swept = b := ⟨_, rfl⟩
      have hn3 : unsK D (k + 1) = unsK D k + (if sw = true then 0 else 1) := by rw [hus.out, hsw]
      rw [hsw] at y3
      clear hks y0 y1 y2 hsw
      cases sw
      all_goals
        simp only [if_true, if_false, Bool.false_eq_true] at hn3
        have hn4 := Lib.hid hn3
        clear hn3
        go_wp2_with fail
        go_round
        case rel => exact ⟨k + 1, by omega, by go_num, by rw [hn4.out]; go_num⟩
        case measure => simp [Go.RowKit.intOf]; omega
    · obtain rfl : k = D.spans.length := by omega
      go_wp2_with fail
      go_ret
      exact ⟨rfl, rfl⟩

set_option maxRecDepth 100000 in
set_option maxHeartbeats 8000000 in
theorem ileft_any (v : Value) (D : WD) (hfit : FitD D) (hcap : CapW v) (w : World) (hr : RdW w v D) :
    Calls Tryz.prog 21 #[v] w fun e w' => LeftIs D e ∧ Below w.heap.size w w' := by
  have hcap' := Lib.hid hcap
  have hfit' := Lib.hid hfit
  clear hcap hfit
  obtain ⟨vw, vd, vs, vm, vg, rfl, a1, a2, a3, a4, a5⟩ := hr
  have bx := box_new w (.cells #[.int .i64 D.base, .int .i64 D.pages, vw, vd, vs, vm, .int .i64 D.phase, .int .i64 D.next, vg] 35)
  have bw := below_box w (.cells #[.int .i64 D.base, .int .i64 D.pages, vw, vd, vs, vm, .int .i64 D.phase, .int .i64 D.next, vg] 35)
  have hW := Lib.hid (show RdW (w.alloc (.cells #[.int .i64 D.base, .int .i64 D.pages, vw, vd, vs, vm, .int .i64 D.phase, .int .i64 D.next, vg] 35)) (.agg #[.int .i64 D.base, .int .i64 D.pages, vw, vd, vs, vm, .int .i64 D.phase, .int .i64 D.next, vg]) D from ⟨vw, vd, vs, vm, vg, rfl, a1.below bw, a2.below bw, a3.below bw, a4.below bw, a5.below bw⟩)
  have hBx := Lib.hid (show BoxW (w.alloc (.cells #[.int .i64 D.base, .int .i64 D.pages, vw, vd, vs, vm, .int .i64 D.phase, .int .i64 D.next, vg] 35)) w.heap.size (.agg #[.int .i64 D.base, .int .i64 D.pages, vw, vd, vs, vm, .int .i64 D.phase, .int .i64 D.next, vg]) from ⟨_, rfl, bx⟩)
  have bw' := Lib.hid bw
  clear a1 a2 a3 a4 a5 bx bw
  go_enter Tryz.func21, Tryz.ntmps21
  go_wp2_with fail
  refine (iworldOk_any _ D hfit'.out hcap'.out _ hW.out).mono ?_
  rintro e w1 ⟨hq, b1⟩
  replace hq := hq.elim
  obtain ⟨x1, rfl⟩ := Ext.of b1
  clear b1
  generalize w.alloc (.cells #[.int .i64 D.base, .int .i64 D.pages, vw, vd, vs, vm, .int .i64 D.phase, .int .i64 D.next, vg] 35) = W at *
  rcases hq with ⟨hG, rfl⟩ | ⟨hG, rfl⟩
  case inr =>
    have n := Lib.hid (show LeftIs D (.returned (.int .i64 0)) from ⟨0, rfl, .inr ⟨hG, rfl⟩⟩)
    clear hG
    go_wp2_with fail
    go_ret
    exact ⟨n.out, below_trans bw'.out x1.below⟩
  have hF' := Lib.hid hG.1
  have hl12 : D.spans.length ≤ 12 := by have := hG.1.spans; have := hG.1.geo.2.2.2.2.1; omega
  have hml : D.muts.length ≤ 3 := by have := hG.1.geo.2.2.2.2.2.2; omega
  have hnx := hG.2.1.2.1.1
  have hnx2 := hG.2.1.2.1.2.1
  have hph0 := hG.1.ph0
  have hph1 := hG.1.ph1
  have hwb := whiteK_le (D := D) hG.1.lens16 _ (Nat.le_refl _)
  have hub := unsK_le D _ (Nat.le_refl _)
  have hun := Lib.hid (Right.uns hG)
  have y := Lib.hid (show LeftIs D (.returned (.int .i64 (leftN D))) from ⟨_, rfl, .inl ⟨hG, rfl⟩⟩)
  have h1 := Lib.hid (fun (x : Ext W) => unmarked_any w.heap.size _ D hF'.out x.val (hW.out.below x.below) (hBx.out.below x.below))
  have h2 := Lib.hid (fun (x : Ext W) => unswept_any w.heap.size _ D hl12 x.val (hW.out.below x.below) (hBx.out.below x.below))
  obtain ⟨am, cm, rfl, hmm, _⟩ := hW.out.parts.2.2.2.1
  obtain ⟨ag, cg, rfl, -, _⟩ := hW.out.parts.2.2.2.2
  have hg3 := Right.greyLen hG
  have g5 := Ext.cell (hBx.out.elim fun cs h => by obtain rfl := (Value.agg.inj h.1).symm; exact cell_of_heap h.2 5 _ rfl)
  have g6 := Ext.cell (hBx.out.elim fun cs h => by obtain rfl := (Value.agg.inj h.1).symm; exact cell_of_heap h.2 6 _ rfl)
  have g7 := Ext.cell (hBx.out.elim fun cs h => by obtain rfl := (Value.agg.inj h.1).symm; exact cell_of_heap h.2 7 _ rfl)
  have g8 := Ext.cell (hBx.out.elim fun cs h => by obtain rfl := (Value.agg.inj h.1).symm; exact cell_of_heap h.2 8 _ rfl)
  clear hG hmm
  have hp : D.phase = 0 ∨ D.phase = 1 ∨ D.phase = 2 ∨ D.phase = 3 ∨ D.phase = 4 := by omega
  clear hph0 hph1
  rcases hp with hp | hp | hp | hp | hp
  · rw [leftN_0 hp] at y
    rw [hp] at g6
    clear hp
    go_wp2_with fail
    go_ret
    exact ⟨y.out, below_trans bw'.out x1.below⟩
  · rw [leftN_1 hp] at y
    rw [hp] at g6
    have hu := hun.out (by omega)
    rw [hu] at h2
    clear hp hub hu
    generalize whiteK D D.spans.length = wh at *
    go_wp2_with fail
    refine wp_region_ext x1.below (by kernel_rfl) (by kernel_rfl) ?_
    repeat (go_big_quiet_step ((go_at_call 71; exact Ext.call (h1.out _))))
    refine wpQuiet_nil ?_
    intro _ hw'
    obtain ⟨x9, hw''⟩ := hw'
    subst hw''
    go_wp2_with fail
    refine (h2.out x9).mono ?_
    rintro e w' ⟨rfl, rfl⟩
    go_wp2_with fail
    go_ret
    refine ⟨?_, below_trans bw'.out x9.below⟩
    have y2 := y.out
    refine cast (congrArg (fun z : Int => LeftIs D (.returned (.int .i64 z))) ?_) y2
    omega
  · rw [leftN_2 hp] at y
    rw [hp] at g6
    have hu := hun.out (by omega)
    rw [hu] at h2
    clear hp hub hu
    generalize whiteK D D.spans.length = wh at *
    go_wp2_with fail
    refine wp_region_ext x1.below (by kernel_rfl) (by kernel_rfl) ?_
    repeat (go_big_quiet_step ((go_at_call 71; exact Ext.call (h1.out _))))
    refine wpQuiet_nil ?_
    intro _ hw'
    obtain ⟨x9, hw''⟩ := hw'
    subst hw''
    go_wp2_with fail
    refine (h2.out x9).mono ?_
    rintro e w' ⟨rfl, rfl⟩
    go_wp2_with fail
    go_ret
    refine ⟨?_, below_trans bw'.out x9.below⟩
    have y2 := y.out
    refine cast (congrArg (fun z : Int => LeftIs D (.returned (.int .i64 z))) ?_) y2
    omega
  · rw [leftN_3 hp] at y
    rw [hp] at g6
    have hu := hun.out (by omega)
    rw [hu] at h2
    clear hp hub hu
    go_wp2_with fail
    refine (h2.out x1).mono ?_
    rintro e w' ⟨rfl, rfl⟩
    go_wp2_with fail
    go_ret
    refine ⟨?_, below_trans bw'.out x1.below⟩
    have y2 := y.out
    refine cast (congrArg (fun z : Int => LeftIs D (.returned (.int .i64 z))) ?_) y2
    omega
  · rw [leftN_4 hp] at y
    rw [hp] at g6
    clear hp
    generalize unsK D D.spans.length = un at *
    go_wp2_with fail
    refine (h2.out x1).mono ?_
    rintro e w' ⟨rfl, rfl⟩
    go_wp2_with fail
    go_ret
    refine ⟨?_, below_trans bw'.out x1.below⟩
    have y2 := y.out
    refine cast (congrArg (fun z : Int => LeftIs D (.returned (.int .i64 z))) ?_) y2
    omega
end Go.Proofs.YtiokdgceabnkaaaGreat

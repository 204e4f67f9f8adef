/-
  The contracts of the program's UsedWords, FreeWords, AddrOf.
-/
import Derived.Test.YtajogfnlbdiokaaImplD
import Derived.Test.YtajogfnlbdiokaaWordsOf
namespace Go.Proofs.Ytajogfnlbdiokaa
open Go.RowKit
set_option linter.unusedVariables false

def usedCnt (s : SpanD) (j : Nat) : Nat := ((s.lens.take j).filter fun l => decide (0 < l)).length
theorem usedCnt_zero (s : SpanD) : usedCnt s 0 = 0 := by simp [usedCnt]
theorem usedCnt_succ (s : SpanD) (j : Nat) (h : j < s.lens.length) : usedCnt s (j + 1) = usedCnt s j + if 0 < s.lens[j]?.getD 0 then 1 else 0 := by
  unfold usedCnt
  rw [List.take_succ_eq_append_getElem h, List.filter_append]
  by_cases e : 0 < s.lens[j]
  · simp [e, h]
  · simp [e, h]
theorem usedCnt_le (s : SpanD) (j : Nat) : usedCnt s j ≤ j := Nat.le_trans (List.length_filter_le _ _) (by simp; omega)
theorem usedUp_cnt (s : SpanD) (j : Nat) : usedUp s j = (usedCnt s j : Int) * sz s.cls := rfl

set_option maxHeartbeats 1000000 in
theorem usedSlots_any (b o : Nat) (s : SpanD) (w : World) (hr : RdSpan w b o s) :
    Calls Try.prog 56 #[.pointer (some ⟨b, o, none⟩)] w fun e w' => e = .returned (.int .i64 (usedCnt s s.lens.length : Int)) ∧ w = w' := by
  obtain ⟨vl, vp, x0, x1, x2, x3, x4, x5, ⟨al, cl, rfl, hll, xl⟩, _⟩ := hr
  unfold maxLen at hll
  have xl' := Lib.hid xl
  clear xl x0 x1 x2 x3 x5
  go_enter Try.func56, Try.ntmps56
  go_wp2_with fail
  go_loop [3, 11] (fun u i => ∃ j : Nat, j ≤ s.lens.length ∧ i = .int .i64 j ∧ u = .int .i64 (usedCnt s j : Int)) (fun u i => s.lens.length - (intOf i).toNat)
  case atStart => exact ⟨0, Nat.zero_le _, rfl, by rw [usedCnt_zero]; rfl⟩
  case round =>
    obtain ⟨j, hj, rfl, rfl⟩ := hrel
    by_cases hlt : j < s.lens.length
    · have hlt1 : (j : Int) < (s.lens.length : Int) := by omega
      obtain ⟨bl, ol, rfl, gl⟩ := xl'.out j hlt
      have hus := Lib.hid (usedCnt_succ s j hlt)
      have hle := usedCnt_le s j
      generalize s.lens[j]?.getD 0 = l at *
      by_cases hl : 0 < l
      · have hus2 := Lib.hid (show usedCnt s (j + 1) = usedCnt s j + 1 by rw [hus.out, if_pos hl])
        go_wp2_with fail
        go_round
        case rel => exact ⟨j + 1, by omega, by go_num, by rw [hus2.out]; go_num⟩
        case measure => simp [intOf]; omega
      · have hus2 := Lib.hid (show usedCnt s (j + 1) = usedCnt s j by rw [hus.out, if_neg hl]; rfl)
        go_wp2_with fail
        go_round
        case rel => exact ⟨j + 1, by omega, by go_num, by rw [hus2.out]⟩
        case measure => simp [intOf]; omega
    · obtain rfl : j = s.lens.length := by omega
      go_wp2_with fail
      go_ret
      exact ⟨rfl, rfl⟩

set_option maxRecDepth 100000 in
set_option maxHeartbeats 4000000 in
theorem usedWordsI_any (v : Value) (D : WD) (hm : MarksIn D) (w : World) (hr : RdW w v D) :
    Calls Try.prog 18 #[v] w fun e w' => UsedIs D e ∧ Below w.heap.size w w' := by
  have hm' := Lib.hid hm
  clear hm
  obtain ⟨vw, vd, vs, vm, vg, rfl, a1, a2, a3, a4, a5⟩ := hr
  have bx := box_new w (.cells #[.int .i64 D.base, .int .i64 D.pages, vw, vd, vs, vm, .int .i64 D.phase, .int .i64 D.next, vg] 32)
  have bw := below_box w (.cells #[.int .i64 D.base, .int .i64 D.pages, vw, vd, vs, vm, .int .i64 D.phase, .int .i64 D.next, vg] 32)
  have hW := Lib.hid (show RdW (w.alloc (.cells #[.int .i64 D.base, .int .i64 D.pages, vw, vd, vs, vm, .int .i64 D.phase, .int .i64 D.next, vg] 32)) (.agg #[.int .i64 D.base, .int .i64 D.pages, vw, vd, vs, vm, .int .i64 D.phase, .int .i64 D.next, vg]) D from ⟨vw, vd, vs, vm, vg, rfl, a1.below bw, a2.below bw, a3.below bw, a4.below bw, a5.below bw⟩)
  have hBx := Lib.hid (show BoxW (w.alloc (.cells #[.int .i64 D.base, .int .i64 D.pages, vw, vd, vs, vm, .int .i64 D.phase, .int .i64 D.next, vg] 32)) w.heap.size (.agg #[.int .i64 D.base, .int .i64 D.pages, vw, vd, vs, vm, .int .i64 D.phase, .int .i64 D.next, vg]) from ⟨_, rfl, bx⟩)
  have bw' := Lib.hid bw
  clear a1 a2 a3 a4 a5 bx bw
  go_enter Try.func18, Try.ntmps18
  go_wp2_with fail
  refine (formOkI_any _ D hm'.out _ hW.out).mono ?_
  rintro e w1 ⟨hq, b1⟩
  have hq := hq.elim
  obtain ⟨x1, rfl⟩ := Ext.of b1
  clear b1
  generalize w.alloc (.cells #[.int .i64 D.base, .int .i64 D.pages, vw, vd, vs, vm, .int .i64 D.phase, .int .i64 D.next, vg] 32) = W at *
  rcases hq with ⟨hF, rfl⟩ | ⟨hF, rfl⟩
  case inr =>
    have n := Lib.hid (show UsedIs D (.returned (.int .i64 (-1))) from ⟨-1, rfl, .inr ⟨hF, rfl⟩⟩)
    clear hF
    go_wp2_with fail
    go_ret
    exact ⟨n.out, below_trans bw'.out x1.below⟩
  have hF' := Lib.hid hF
  have hsl := hF.spans
  have hpl := hF.geo.2.2.2.2.1
  have hub := Lib.hid (usedK_bd D hF.span)
  obtain ⟨aS, cS, rfl, hls, hx⟩ := hW.out.parts.2.2.1
  have hx' := Lib.hid hx
  have g4 := Ext.cell (hBx.out.elim fun cs h => by obtain rfl := (Value.agg.inj h.1).symm; exact cell_of_heap h.2 4 _ rfl)
  clear hF hx hls
  go_wp2_with fail
  go_loopw [3, 12] (fun u i wr => ∃ k : Nat, k ≤ D.spans.length ∧ i = .int .i64 k ∧ u = .int .i64 (usedK D k) ∧ ∃ x : Ext W, wr = x.val) (fun u i _ => D.spans.length - (intOf i).toNat)
  case atStart => exact ⟨0, Nat.zero_le _, rfl, rfl, x1, rfl⟩
  case round =>
    obtain ⟨k, hk, rfl, rfl, x, rfl⟩ := hrel
    by_cases hlt : k < D.spans.length
    · have hlt1 : (k : Int) < (D.spans.length : Int) := by omega
      obtain ⟨s, hks⟩ : ∃ s, D.spans[k]? = some s := ⟨_, List.getElem?_eq_getElem hlt⟩
      obtain ⟨b1, o1, rfl, hs⟩ := hx'.out k s hks
      have hs' := Lib.hid hs
      obtain ⟨vl, vp, y0, y1, _⟩ := hs
      have y1 := Ext.cell y1
      have hA := hF'.out.span k s hks
      have hl16 : s.lens.length ≤ 16 := by have := hA.lens; have := (sl_bd s.cls).2; omega
      have hcl := usedCnt_le s s.lens.length
      have hszb := sz_bd s.cls
      have hb1 := usedUp_bd s s.lens.length
      have hb0 := hub.out k hk
      have hsu := usedK_succ D k s hks
      have hw1 : IntKind.i64.wrap ((usedCnt s s.lens.length : Int) * sz s.cls) = usedUp s s.lens.length := by
        rw [← usedUp_cnt]; exact IntWalk.i64_in _ (by omega)
      have hw2 : IntKind.i64.wrap (usedK D k + usedUp s s.lens.length) = usedK D (k + 1) := by
        rw [hsu]; exact IntWalk.i64_in _ (by omega)
      clear hA hsu hks hb1 hb0 y0
      go_wp2_with fail
      refine wp_region_ext x.below (by kernel_rfl) (by kernel_rfl) ?_
      repeat (go_big_quiet_step ((first | (go_at_call 56; exact Ext.same (usedSlots_any _ _ s _ (hs'.out.below (Ext.below _)))) | (go_at_call 57; exact Ext.same (size_any _ _)))))
      refine wpQuiet_nil ?_
      intro _ hw'
      obtain ⟨x9, hw''⟩ := hw'
      subst hw''
      clear hw1 hw2
      go_wp2_with fail
      go_roundw
      case rel => exact ⟨k + 1, by omega, by go_num, rfl, x9, rfl⟩
      case measure => simp [intOf]; omega
    · obtain rfl : k = D.spans.length := by omega
      have y := Lib.hid (show UsedIs D (.returned (.int .i64 (usedK D D.spans.length))) from ⟨_, rfl, .inl ⟨hF'.out, rfl⟩⟩)
      go_wp2_with fail
      go_ret
      exact ⟨y.out, below_trans bw'.out x.below⟩

set_option maxRecDepth 100000 in
set_option maxHeartbeats 4000000 in
theorem freeWordsI_any (v : Value) (D : WD) (hm : MarksIn D) (w : World) (hr : RdW w v D) :
    Calls Try.prog 17 #[v] w fun e w' => FreeIs D e ∧ Below w.heap.size w w' := by
  have hm' := Lib.hid hm
  clear hm
  obtain ⟨vw, vd, vs, vm, vg, rfl, a1, a2, a3, a4, a5⟩ := hr
  have bx := box_new w (.cells #[.int .i64 D.base, .int .i64 D.pages, vw, vd, vs, vm, .int .i64 D.phase, .int .i64 D.next, vg] 32)
  have bw := below_box w (.cells #[.int .i64 D.base, .int .i64 D.pages, vw, vd, vs, vm, .int .i64 D.phase, .int .i64 D.next, vg] 32)
  have hW := Lib.hid (show RdW (w.alloc (.cells #[.int .i64 D.base, .int .i64 D.pages, vw, vd, vs, vm, .int .i64 D.phase, .int .i64 D.next, vg] 32)) (.agg #[.int .i64 D.base, .int .i64 D.pages, vw, vd, vs, vm, .int .i64 D.phase, .int .i64 D.next, vg]) D from ⟨vw, vd, vs, vm, vg, rfl, a1.below bw, a2.below bw, a3.below bw, a4.below bw, a5.below bw⟩)
  have hBx := Lib.hid (show BoxW (w.alloc (.cells #[.int .i64 D.base, .int .i64 D.pages, vw, vd, vs, vm, .int .i64 D.phase, .int .i64 D.next, vg] 32)) w.heap.size (.agg #[.int .i64 D.base, .int .i64 D.pages, vw, vd, vs, vm, .int .i64 D.phase, .int .i64 D.next, vg]) from ⟨_, rfl, bx⟩)
  have bw' := Lib.hid bw
  clear a1 a2 a3 a4 a5 bx bw
  go_enter Try.func17, Try.ntmps17
  go_wp2_with fail
  refine (usedWordsI_any _ D hm'.out _ hW.out).mono ?_
  rintro e w1 ⟨⟨r, rfl, hr⟩, b1⟩
  obtain ⟨x1, rfl⟩ := Ext.of b1
  clear b1
  generalize w.alloc (.cells #[.int .i64 D.base, .int .i64 D.pages, vw, vd, vs, vm, .int .i64 D.phase, .int .i64 D.next, vg] 32) = W at *
  rcases hr with ⟨hF, rfl⟩ | ⟨hF, rfl⟩
  case inr =>
    have n := Lib.hid (show FreeIs D (.returned (.int .i64 (-1))) from ⟨-1, rfl, .inr ⟨hF, rfl⟩⟩)
    clear hF
    go_wp2_with fail
    go_ret
    exact ⟨n.out, below_trans bw'.out x1.below⟩
  have hsl := hF.spans
  have hp0 := hF.geo.2.2.2.1
  have hp1 := hF.geo.2.2.2.2.1
  have hub := usedK_bd D hF.span D.spans.length (Nat.le_refl _)
  have hu1 : 0 ≤ usedN D := hub.1
  have hu2 : usedN D ≤ 4000 := by have := hub.2; unfold usedN; omega
  have g1 := Ext.cell (hBx.out.elim fun cs h => by obtain rfl := (Value.agg.inj h.1).symm; exact cell_of_heap h.2 1 _ rfl)
  have y := Lib.hid (show FreeIs D (.returned (.int .i64 (D.pages * 32 - usedN D))) from ⟨_, rfl, .inl ⟨hF, rfl⟩⟩)
  clear hF hub
  go_wp2_with (go_at_call 47; refine (wordsOf_any _ (by omega) (by omega) _).mono ?_; rintro e w' ⟨rfl, rfl⟩)
  go_ret
  exact ⟨y.out, below_trans bw'.out x1.below⟩

set_option maxHeartbeats 1000000 in
theorem addrI_any (B : Nat) (v : Value) (D : WD) (k slot : Nat) (s : SpanD) (hk : D.spans[k]? = some s) (hp0 : 0 ≤ s.page) (hp1 : s.page ≤ 1000) (hs : slot ≤ 1000) (hb0 : 0 ≤ D.base) (hb1 : D.base ≤ 1048576) (w : World) (hr : RdW w v D) (hB : BoxW w B v) :
    Calls Try.prog 76 #[.pointer (some ⟨B, 0, none⟩), .agg #[.int .i64 k, .int .i64 slot]] w fun e w' => e = .returned (.int .i64 (D.base + atW s slot)) ∧ Below w.heap.size w w' := by
  obtain ⟨vw, vd, vs, vm, vg, rfl, a1, a2, a3, a4, a5⟩ := hr
  obtain ⟨aS, cS, rfl, hsl, hx⟩ := a3
  obtain ⟨cs, he, hh⟩ := hB
  obtain rfl := (Value.agg.inj he).symm
  have hkl := (List.getElem?_eq_some_iff.1 hk).1
  obtain ⟨b1, o1, rfl, hss⟩ := hx k s hk
  have hkl' : (k : Int) < (D.spans.length : Int) := by omega
  unfold maxLen at hsl
  have hm := sz_bd s.cls
  have hm0 : 0 ≤ (slot : Int) * sz s.cls := Int.mul_nonneg (by omega) hm.1
  have hm1 : (slot : Int) * sz s.cls ≤ 16000 := by
    have := Int.mul_le_mul (show (slot : Int) ≤ 1000 by omega) hm.2 hm.1 (by omega)
    omega
  have hA0 : 0 ≤ atW s slot := by unfold atW; omega
  have hA1 : atW s slot ≤ 100000 := by unfold atW; omega
  have hsum : IntKind.i64.wrap (D.base + atW s slot) = D.base + atW s slot := IntWalk.i64_in _ (by omega)
  have hss' := Lib.hid hss
  have bb := below_box w (.cells #[.int .i64 k, .int .i64 slot] 93)
  have bn := box_new w (.cells #[.int .i64 k, .int .i64 slot] 93)
  have g0 := Ext.cell (cell_below bb (cell_of_heap hh 0 _ rfl))
  have g4 := Ext.cell (cell_below bb (cell_of_heap hh 4 _ rfl))
  have h0 := Ext.cell (cell_of_heap bn 0 _ rfl)
  have h1 := Ext.cell (cell_of_heap bn 1 _ rfl)
  have bb' := Lib.hid bb
  have hs2 := Lib.hid (hss.below bb)
  clear hx hk a1 a2 a4 a5 he hh hss bb bn
  go_enter Try.func76, Try.ntmps76
  go_wp2_with fail
  generalize w.alloc (.cells #[.int .i64 k, .int .i64 slot] 93) = W at *
  refine wp_region_ext (Below.refl _ _) (by kernel_rfl) (by kernel_rfl) ?_
  repeat (go_big_quiet_step ((go_at_call 75; exact Ext.call ((firstWord_any _ _ s _ hp0 hp1 (by omega) (by omega) _ (hs2.out.below (Ext.below _))).mono fun _ _ ⟨a, b⟩ => ⟨a, b.below⟩))))
  refine wpQuiet_nil ?_
  intro _ hw'
  obtain ⟨x9, hw''⟩ := hw'
  subst hw''
  go_wp2
  go_ret
  exact ⟨rfl, below_trans bb'.out x9.below⟩

set_option maxRecDepth 100000 in
set_option maxHeartbeats 4000000 in
theorem addrOfI_any (v : Value) (D : WD) (hm : MarksIn D) (k slot : Int) (w : World) (hr : RdW w v D) :
    Calls Try.prog 52 #[v, .int .i64 k, .int .i64 slot] w fun e w' => AddrIs D k slot e ∧ Below w.heap.size w w' := by
  have hm' := Lib.hid hm
  clear hm
  obtain ⟨vw, vd, vs, vm, vg, rfl, a1, a2, a3, a4, a5⟩ := hr
  have bx := box_new w (.cells #[.int .i64 D.base, .int .i64 D.pages, vw, vd, vs, vm, .int .i64 D.phase, .int .i64 D.next, vg] 32)
  have bw := below_box w (.cells #[.int .i64 D.base, .int .i64 D.pages, vw, vd, vs, vm, .int .i64 D.phase, .int .i64 D.next, vg] 32)
  have hW := Lib.hid (show RdW (w.alloc (.cells #[.int .i64 D.base, .int .i64 D.pages, vw, vd, vs, vm, .int .i64 D.phase, .int .i64 D.next, vg] 32)) (.agg #[.int .i64 D.base, .int .i64 D.pages, vw, vd, vs, vm, .int .i64 D.phase, .int .i64 D.next, vg]) D from ⟨vw, vd, vs, vm, vg, rfl, a1.below bw, a2.below bw, a3.below bw, a4.below bw, a5.below bw⟩)
  have hBx := Lib.hid (show BoxW (w.alloc (.cells #[.int .i64 D.base, .int .i64 D.pages, vw, vd, vs, vm, .int .i64 D.phase, .int .i64 D.next, vg] 32)) w.heap.size (.agg #[.int .i64 D.base, .int .i64 D.pages, vw, vd, vs, vm, .int .i64 D.phase, .int .i64 D.next, vg]) from ⟨_, rfl, bx⟩)
  have bw' := Lib.hid bw
  clear a1 a2 a3 a4 a5 bx bw
  go_enter Try.func52, Try.ntmps52
  go_wp2_with fail
  refine (formOkI_any _ D hm'.out _ hW.out).mono ?_
  rintro e w1 ⟨hq, b1⟩
  have hq := hq.elim
  obtain ⟨x1, rfl⟩ := Ext.of b1
  clear b1
  generalize w.alloc (.cells #[.int .i64 D.base, .int .i64 D.pages, vw, vd, vs, vm, .int .i64 D.phase, .int .i64 D.next, vg] 32) = W at *
  rcases hq with ⟨hF, rfl⟩ | ⟨hF, rfl⟩
  case inr =>
    have n := Lib.hid (show ∀ s, ¬ IsSlot D k slot s from fun s h => hF h.1)
    clear hF
    go_wp2_with fail
    go_ret
    exact ⟨AddrIs.no n.out, below_trans bw'.out x1.below⟩
  have hF' := Lib.hid hF
  have hsl := hF.spans
  have hpl := hF.geo.2.2.2.2.1
  clear hF
  have hW2 := Lib.hid (hW.out.parts.2.2.1)
  obtain ⟨aS, cS, rfl, hls, hx⟩ := hW2.out
  have hx' := Lib.hid hx
  have g4 := Ext.cell (hBx.out.elim fun cs h => by obtain rfl := (Value.agg.inj h.1).symm; exact cell_of_heap h.2 4 _ rfl)
  clear hx hls
  by_cases c1 : 0 ≤ k ∧ k ≤ (D.spans.length : Int) - 1
  case neg =>
    have n := Lib.hid (show ∀ s, ¬ IsSlot D k slot s from fun s h => by
      have h1 := (List.getElem?_eq_some_iff.1 h.2.2.1).1
      have h2 := h.2.1
      omega)
    have hb := Lib.hid (inB_no (n := k) (l := 0) (h := (D.spans.length : Int) - 1) (by omega))
    clear c1
    go_wp2_with (go_at_call 46; refine (isIn_eq hb.out _).mono ?_; rintro e w' ⟨rfl, rfl⟩)
    go_ret
    exact ⟨AddrIs.no n.out, below_trans bw'.out x1.below⟩
  have hb := Lib.hid (inB_yes c1.1 c1.2)
  obtain ⟨k, rfl⟩ := Int.eq_ofNat_of_zero_le c1.1
  have hkl : (k : Int) < (D.spans.length : Int) := by omega
  clear c1
  obtain ⟨s, hs⟩ : ∃ s, D.spans[k]? = some s := ⟨_, List.getElem?_eq_getElem (by omega)⟩
  obtain ⟨b1, o1, rfl, hrs⟩ := hx'.out k s hs
  have hs' := Lib.hid hs
  obtain ⟨vl, vp, _, _, _, _, x4, _, ⟨al, cl, rfl, hll, _⟩, _⟩ := hrs
  have x4 := Ext.cell x4
  have hA := hF'.out.span k s hs
  have hl16 : s.lens.length ≤ 16 := by have := hA.lens; have := (sl_bd s.cls).2; omega
  clear hs hA hll
  by_cases c2 : 0 ≤ slot ∧ slot ≤ (s.lens.length : Int) - 1
  case neg =>
    have n := Lib.hid (show ∀ s, ¬ IsSlot D (k : Int) slot s from fun s2 h => by
      have h1 := h.2.2.1
      rw [Int.toNat_natCast, hs'.out] at h1
      cases h1
      have h2 := h.2.2.2.1
      have h3 := h.2.2.2.2
      omega)
    have hb2 := Lib.hid (inB_no (n := slot) (l := 0) (h := (s.lens.length : Int) - 1) (by omega))
    clear c2
    go_wp2_with (go_at_call 46; first | ((with_reducible refine (isIn_eq hb.out _).mono ?_); rintro e w' ⟨rfl, rfl⟩) | ((with_reducible refine (isIn_eq hb2.out _).mono ?_); rintro e w' ⟨rfl, rfl⟩))
    go_ret
    exact ⟨AddrIs.no n.out, below_trans bw'.out x1.below⟩
  have hb2 := Lib.hid (inB_yes c2.1 c2.2)
  obtain ⟨slot, rfl⟩ := Int.eq_ofNat_of_zero_le c2.1
  have hsl2 : (slot : Int) < (s.lens.length : Int) := by omega
  clear c2
  have hA := hF'.out.span k s hs'.out
  have hg := hF'.out.geo
  have y := Lib.hid (AddrIs.yes (D := D) (k := (k : Int)) (slot := (slot : Int)) (s := s) ⟨hF'.out, by omega, by rw [Int.toNat_natCast]; exact hs'.out, by omega, by omega⟩)
  have hcall := Lib.hid (fun (x : Ext W) => addrI_any w.heap.size _ D k slot s hs'.out hA.pg0 (by have := hA.pg1; omega) (by omega) (by have := hg.1; omega) hg.2.1 x.val (hW.out.below x.below) (hBx.out.below x.below))
  clear hA hg
  go_wp2_with (first
    | (go_at_call 46; first | ((with_reducible refine (isIn_eq hb.out _).mono ?_); rintro e w' ⟨rfl, rfl⟩) | ((with_reducible refine (isIn_eq hb2.out _).mono ?_); rintro e w' ⟨rfl, rfl⟩))
    | (go_at_call 76; refine (hcall.out _).mono ?_; rintro e w' ⟨rfl, b2⟩))
  go_ret
  exact ⟨y.out, below_trans bw'.out (below_trans x1.below b2)⟩
end Go.Proofs.Ytajogfnlbdiokaa

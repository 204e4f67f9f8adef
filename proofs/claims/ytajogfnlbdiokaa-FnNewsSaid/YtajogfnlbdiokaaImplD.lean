/-
  The contract of the program's FormOk.
-/
import Derived.Test.YtajogfnlbdiokaaImplC
import Derived.Test.YtajogfnlbdiokaaFind
import Derived.Test.YtajogfnlbdiokaaExt
namespace Go.Proofs.Ytajogfnlbdiokaa
open Go.RowKit
set_option linter.unusedVariables false

theorem baseOk_eq {b : Int} {v : Bool} (hv : baseB b = v) (w : World) : Calls Try.prog 44 #[.int .i64 b] w fun e w' => e = .returned (.bool v) ∧ w = w' := by rw [← hv]; exact baseOk_any b w
theorem pagesOk_eq {p : Int} {v : Bool} (hv : inB p 1 12 = v) (w : World) : Calls Try.prog 45 #[.int .i64 p] w fun e w' => e = .returned (.bool v) ∧ w = w' := by rw [← hv]; exact pagesOk_any p w
theorem mutsOk_yes {v : Value} {L : List (List Int)} (h : MutsForm L) {w : World} (hr : RdM w v L) : Calls Try.prog 53 #[v] w fun e w' => e = .returned (.bool true) ∧ w = w' := Calls.isTrue (mutsOk_any v L w hr) h
theorem mutsOk_no {v : Value} {L : List (List Int)} (h : ¬ MutsForm L) {w : World} (hr : RdM w v L) : Calls Try.prog 53 #[v] w fun e w' => e = .returned (.bool false) ∧ w = w' := Calls.isFalse (mutsOk_any v L w hr) h
theorem spans_le {D : WD} (h : SpansForm D) : ∀ (k : Nat) (s : SpanD), D.spans[k]? = some s → (k : Int) ≤ s.page := by
  intro k
  induction k with
  | zero => intro s hs; exact (h 0 s hs).pg0
  | succ k ih =>
    intro s hs
    have hl := (List.getElem?_eq_some_iff.1 hs).1
    obtain ⟨t, ht⟩ : ∃ t, D.spans[k]? = some t := ⟨_, List.getElem?_eq_getElem (by omega)⟩
    have h1 := ih t ht
    have h2 := (h (k + 1) s hs).prev t (by omega) (by simpa using ht)
    omega
theorem spans_le' {D : WD} (h : SpansForm D) (hp : 0 ≤ D.pages) : (D.spans.length : Int) ≤ D.pages := by
  rcases Nat.eq_zero_or_pos D.spans.length with e | e
  · omega
  · obtain ⟨t, ht⟩ : ∃ t, D.spans[D.spans.length - 1]? = some t := ⟨_, List.getElem?_eq_getElem (by omega)⟩
    have h1 := spans_le h _ t ht
    have h2 := (h _ t ht).pg1
    omega
theorem heapForm_iff {D : WD} : HeapForm D ↔ (baseB D.base = true ∧ inB D.pages 1 12 = true ∧ MutsForm D.muts ∧ inB D.phase 0 4 = true ∧ (D.words.length : Int) = D.pages * 32 ∧ (D.dirty.length : Int) = D.pages * 4 ∧ SpansForm D ∧ RestZero D) := by
  have hb : baseB D.base = true ↔ (32 ≤ D.base ∧ D.base ≤ 1048576 ∧ D.base % 32 = 0) := by
    unfold baseB
    rw [Bool.and_eq_true, inB_iff, beq_iff_eq, and_assoc]
  rw [hb, inB_iff, inB_iff]
  constructor
  · intro h
    obtain ⟨g1, g2, g3, g4, g5, g6, g7⟩ := h.geo
    exact ⟨⟨g1, g2, g3⟩, ⟨g4, g5⟩, ⟨by omega, by omega, h.roots⟩, ⟨h.ph0, h.ph1⟩, h.words, h.dirty, h.span, h.zero⟩
  · rintro ⟨⟨g1, g2, g3⟩, ⟨g4, g5⟩, ⟨m1, m2, m3⟩, ⟨p1, p2⟩, h5, h6, h7, h8⟩
    exact ⟨⟨g1, g2, g3, g4, g5, by omega, by omega⟩, h5, h6, spans_le' h7 (by omega), p1, p2, h7, h8, m3⟩
theorem RdW.drew {w : World} {v : Value} {D : WD} (h : RdW w v D) : RdW w.drew v D := h
theorem BoxW.drew {w : World} {B : Nat} {v : Value} (h : BoxW w B v) : BoxW w.drew B v := h
theorem RdM.drew {w : World} {v : Value} {L : List (List Int)} (h : RdM w v L) : RdM w.drew v L := h
theorem Drawn.drew (w : World) : Drawn w w.drew := ⟨1, rfl⟩
theorem Drawn.drewN (w : World) (n : Nat) : Drawn w (w.drewN n) := ⟨n, rfl⟩

theorem spans_ext {P : Prop} {b : Bool} {f : FuncId} {args : Array Value} {w : World} (F : ∀ {P : Prop} {R : World → Prop}, (Calls Try.prog f args w fun e w' => IsB P e ∧ R w') → (if b then P else ¬ P) → Calls Try.prog f args w fun e w' => e = .returned (.bool b) ∧ R w')
    (h : Calls Try.prog f args w fun e w' => IsB P e ∧ Drawn w w') (hp : if b then P else ¬ P) : Calls Try.prog f args w fun e w' => e = .returned (.bool b) ∧ Below w.heap.size w w' :=
  (F h hp).mono fun _ _ ⟨a, c⟩ => ⟨a, c.below⟩

set_option maxRecDepth 100000 in
set_option maxHeartbeats 8000000 in
theorem formOkI_any (v : Value) (D : WD) (hm : MarksIn D) (w : World) (hr : RdW w v D) :
    Calls Try.prog 16 #[v] w fun e w' => IsB (HeapForm D) e ∧ Below w.heap.size w w' := by
  have hm' := Lib.hid hm
  clear hm
  obtain ⟨vw, vd, vs, vm, vg, rfl, a1, a2, a3, a4, a5⟩ := hr
  obtain ⟨aw, cw, rfl, hlw, a1'⟩ := a1
  obtain ⟨ad, cd, rfl, hld, a2'⟩ := a2
  unfold maxLen at hlw hld
  have a1 : Rd w (.slice aw D.words.length cw) D.words := ⟨aw, cw, rfl, hlw, a1'⟩
  have a2 : RdB w (.slice ad D.dirty.length cd) D.dirty := ⟨ad, cd, rfl, hld, a2'⟩
  clear a1' a2'
  have bx := box_new w (.cells #[.int .i64 D.base, .int .i64 D.pages, .slice aw D.words.length cw, .slice ad D.dirty.length cd, vs, vm, .int .i64 D.phase, .int .i64 D.next, vg] 32)
  have bw := below_box w (.cells #[.int .i64 D.base, .int .i64 D.pages, .slice aw D.words.length cw, .slice ad D.dirty.length cd, vs, vm, .int .i64 D.phase, .int .i64 D.next, vg] 32)
  have hW := Lib.hid (show RdW (w.alloc (.cells #[.int .i64 D.base, .int .i64 D.pages, .slice aw D.words.length cw, .slice ad D.dirty.length cd, vs, vm, .int .i64 D.phase, .int .i64 D.next, vg] 32)) (.agg #[.int .i64 D.base, .int .i64 D.pages, .slice aw D.words.length cw, .slice ad D.dirty.length cd, vs, vm, .int .i64 D.phase, .int .i64 D.next, vg]) D from ⟨_, _, vs, vm, vg, rfl, a1.below bw, a2.below bw, a3.below bw, a4.below bw, a5.below bw⟩)
  have hM := Lib.hid (a4.below bw)
  have hBx := Lib.hid (show BoxW (w.alloc (.cells #[.int .i64 D.base, .int .i64 D.pages, .slice aw D.words.length cw, .slice ad D.dirty.length cd, vs, vm, .int .i64 D.phase, .int .i64 D.next, vg] 32)) w.heap.size (.agg #[.int .i64 D.base, .int .i64 D.pages, .slice aw D.words.length cw, .slice ad D.dirty.length cd, vs, vm, .int .i64 D.phase, .int .i64 D.next, vg]) from ⟨_, rfl, bx⟩)
  have bw' := Lib.hid bw
  have hF := Lib.hid (heapForm_iff (D := D))
  have g0 := Ext.cell (cell_of_heap bx 0 _ rfl)
  have g1 := Ext.cell (cell_of_heap bx 1 _ rfl)
  have g2 := Ext.cell (cell_of_heap bx 2 _ rfl)
  have g3 := Ext.cell (cell_of_heap bx 3 _ rfl)
  have g5 := Ext.cell (cell_of_heap bx 5 _ rfl)
  have g6 := Ext.cell (cell_of_heap bx 6 _ rfl)
  clear a1 a2 a3 a4 a5 bx bw
  cases e1 : baseB D.base
  case false =>
    have h1 := Lib.hid e1
    have n := Lib.hid (show ¬ HeapForm D from fun h => by have := (hF.out.1 h).1; rw [h1.out] at this; cases this)
    clear e1
    go_enter Try.func16, Try.ntmps16
    go_wp2_with fail
    generalize w.alloc (.cells #[.int .i64 D.base, .int .i64 D.pages, .slice aw D.words.length cw, .slice ad D.dirty.length cd, vs, vm, .int .i64 D.phase, .int .i64 D.next, vg] 32) = W at *
    refine wp_region_ext (Below.refl _ _) (by kernel_rfl) (by kernel_rfl) ?_
    repeat (go_big_quiet_step ((first | (go_at_call 44; exact Ext.same (baseOk_eq h1.out _)) | (go_at_call 45; exact Ext.same (pagesOk_eq h2.out _)) | (go_at_call 53; exact Ext.same (mutsOk_yes h3.out (hM.out.below (Ext.below _)))) | (go_at_call 46; exact Ext.same (isIn_eq h4.out _)) | (go_at_call 47; exact Ext.same (wordsOf_any _ hp0 hp1 _)) | (go_at_call 48; exact Ext.same (cardsOf_at _ hp0 hp1 _)) | (go_at_call 54; exact Ext.call (spans_ext (b := true) (fun h hp => Calls.isTrue h (by simpa using hp)) (spansOk_any _ _ D hp2 hp3 hm'.out _ (hW.out.below (Ext.below _)) (hBx.out.below (Ext.below _))) h7.out)) | (go_at_call 55; exact Ext.call (Calls.isTrue (restIsZero_any _ _ D hn h5.out hp3 h7.out _ (hW.out.below (Ext.below _)) (hBx.out.below (Ext.below _))) h8.out)))))
    refine wpQuiet_nil ?_
    intro _ hw'
    obtain ⟨x9, hw''⟩ := hw'
    subst hw''
    go_wp2
    go_ret
    exact ⟨IsB.no n.out, below_trans bw'.out (Ext.below _)⟩
  have h1 := Lib.hid e1
  clear e1
  cases e2 : inB D.pages 1 12
  case false =>
    have h2 := Lib.hid e2
    have n := Lib.hid (show ¬ HeapForm D from fun h => by have := (hF.out.1 h).2.1; rw [h2.out] at this; cases this)
    clear e2
    go_enter Try.func16, Try.ntmps16
    go_wp2_with fail
    generalize w.alloc (.cells #[.int .i64 D.base, .int .i64 D.pages, .slice aw D.words.length cw, .slice ad D.dirty.length cd, vs, vm, .int .i64 D.phase, .int .i64 D.next, vg] 32) = W at *
    refine wp_region_ext (Below.refl _ _) (by kernel_rfl) (by kernel_rfl) ?_
    repeat (go_big_quiet_step ((first | (go_at_call 44; exact Ext.same (baseOk_eq h1.out _)) | (go_at_call 45; exact Ext.same (pagesOk_eq h2.out _)) | (go_at_call 53; exact Ext.same (mutsOk_yes h3.out (hM.out.below (Ext.below _)))) | (go_at_call 46; exact Ext.same (isIn_eq h4.out _)) | (go_at_call 47; exact Ext.same (wordsOf_any _ hp0 hp1 _)) | (go_at_call 48; exact Ext.same (cardsOf_at _ hp0 hp1 _)) | (go_at_call 54; exact Ext.call (spans_ext (b := true) (fun h hp => Calls.isTrue h (by simpa using hp)) (spansOk_any _ _ D hp2 hp3 hm'.out _ (hW.out.below (Ext.below _)) (hBx.out.below (Ext.below _))) h7.out)) | (go_at_call 55; exact Ext.call (Calls.isTrue (restIsZero_any _ _ D hn h5.out hp3 h7.out _ (hW.out.below (Ext.below _)) (hBx.out.below (Ext.below _))) h8.out)))))
    refine wpQuiet_nil ?_
    intro _ hw'
    obtain ⟨x9, hw''⟩ := hw'
    subst hw''
    go_wp2
    go_ret
    exact ⟨IsB.no n.out, below_trans bw'.out (Ext.below _)⟩
  have h2 := Lib.hid e2
  clear e2
  have hp0 : 0 ≤ D.pages := by have := inB_iff.1 h2.out; omega
  have hp1 : D.pages ≤ 1000 := by have := inB_iff.1 h2.out; omega
  have hp2 : 1 ≤ D.pages := by have := inB_iff.1 h2.out; omega
  have hp3 : D.pages ≤ 12 := by have := inB_iff.1 h2.out; omega
  by_cases e3 : MutsForm D.muts
  case neg =>
    have h3 := Lib.hid e3
    have n := Lib.hid (show ¬ HeapForm D from fun h => h3.out (hF.out.1 h).2.2.1)
    clear e3
    go_enter Try.func16, Try.ntmps16
    go_wp2_with fail
    generalize w.alloc (.cells #[.int .i64 D.base, .int .i64 D.pages, .slice aw D.words.length cw, .slice ad D.dirty.length cd, vs, vm, .int .i64 D.phase, .int .i64 D.next, vg] 32) = W at *
    refine wp_region_ext (Below.refl _ _) (by kernel_rfl) (by kernel_rfl) ?_
    repeat (go_big_quiet_step ((first | (go_at_call 44; exact Ext.same (baseOk_eq h1.out _)) | (go_at_call 45; exact Ext.same (pagesOk_eq h2.out _)) | (go_at_call 53; exact Ext.same (mutsOk_no h3.out (hM.out.below (Ext.below _)))) | (go_at_call 46; exact Ext.same (isIn_eq h4.out _)) | (go_at_call 47; exact Ext.same (wordsOf_any _ hp0 hp1 _)) | (go_at_call 48; exact Ext.same (cardsOf_at _ hp0 hp1 _)) | (go_at_call 54; exact Ext.call (spans_ext (b := true) (fun h hp => Calls.isTrue h (by simpa using hp)) (spansOk_any _ _ D hp2 hp3 hm'.out _ (hW.out.below (Ext.below _)) (hBx.out.below (Ext.below _))) h7.out)) | (go_at_call 55; exact Ext.call (Calls.isTrue (restIsZero_any _ _ D hn h5.out hp3 h7.out _ (hW.out.below (Ext.below _)) (hBx.out.below (Ext.below _))) h8.out)))))
    refine wpQuiet_nil ?_
    intro _ hw'
    obtain ⟨x9, hw''⟩ := hw'
    subst hw''
    go_wp2
    go_ret
    exact ⟨IsB.no n.out, below_trans bw'.out (Ext.below _)⟩
  have h3 := Lib.hid e3
  clear e3
  cases e4 : inB D.phase 0 4
  case false =>
    have h4 := Lib.hid e4
    have n := Lib.hid (show ¬ HeapForm D from fun h => by have := (hF.out.1 h).2.2.2.1; rw [h4.out] at this; cases this)
    clear e4
    go_enter Try.func16, Try.ntmps16
    go_wp2_with fail
    generalize w.alloc (.cells #[.int .i64 D.base, .int .i64 D.pages, .slice aw D.words.length cw, .slice ad D.dirty.length cd, vs, vm, .int .i64 D.phase, .int .i64 D.next, vg] 32) = W at *
    refine wp_region_ext (Below.refl _ _) (by kernel_rfl) (by kernel_rfl) ?_
    repeat (go_big_quiet_step ((first | (go_at_call 44; exact Ext.same (baseOk_eq h1.out _)) | (go_at_call 45; exact Ext.same (pagesOk_eq h2.out _)) | (go_at_call 53; exact Ext.same (mutsOk_yes h3.out (hM.out.below (Ext.below _)))) | (go_at_call 46; exact Ext.same (isIn_eq h4.out _)) | (go_at_call 47; exact Ext.same (wordsOf_any _ hp0 hp1 _)) | (go_at_call 48; exact Ext.same (cardsOf_at _ hp0 hp1 _)) | (go_at_call 54; exact Ext.call (spans_ext (b := true) (fun h hp => Calls.isTrue h (by simpa using hp)) (spansOk_any _ _ D hp2 hp3 hm'.out _ (hW.out.below (Ext.below _)) (hBx.out.below (Ext.below _))) h7.out)) | (go_at_call 55; exact Ext.call (Calls.isTrue (restIsZero_any _ _ D hn h5.out hp3 h7.out _ (hW.out.below (Ext.below _)) (hBx.out.below (Ext.below _))) h8.out)))))
    refine wpQuiet_nil ?_
    intro _ hw'
    obtain ⟨x9, hw''⟩ := hw'
    subst hw''
    go_wp2
    go_ret
    exact ⟨IsB.no n.out, below_trans bw'.out (Ext.below _)⟩
  have h4 := Lib.hid e4
  clear e4
  by_cases e5 : (D.words.length : Int) = D.pages * 32
  case neg =>
    have d5 : ((D.words.length : Int) == D.pages * 32) = false := beq_eq_false_iff_ne.2 e5
    have h5 := Lib.hid e5
    have n := Lib.hid (show ¬ HeapForm D from fun h => h5.out (hF.out.1 h).2.2.2.2.1)
    clear e5
    go_enter Try.func16, Try.ntmps16
    go_wp2_with fail
    generalize w.alloc (.cells #[.int .i64 D.base, .int .i64 D.pages, .slice aw D.words.length cw, .slice ad D.dirty.length cd, vs, vm, .int .i64 D.phase, .int .i64 D.next, vg] 32) = W at *
    refine wp_region_ext (Below.refl _ _) (by kernel_rfl) (by kernel_rfl) ?_
    repeat (go_big_quiet_step ((first | (go_at_call 44; exact Ext.same (baseOk_eq h1.out _)) | (go_at_call 45; exact Ext.same (pagesOk_eq h2.out _)) | (go_at_call 53; exact Ext.same (mutsOk_yes h3.out (hM.out.below (Ext.below _)))) | (go_at_call 46; exact Ext.same (isIn_eq h4.out _)) | (go_at_call 47; exact Ext.same (wordsOf_any _ hp0 hp1 _)) | (go_at_call 48; exact Ext.same (cardsOf_at _ hp0 hp1 _)) | (go_at_call 54; exact Ext.call (spans_ext (b := true) (fun h hp => Calls.isTrue h (by simpa using hp)) (spansOk_any _ _ D hp2 hp3 hm'.out _ (hW.out.below (Ext.below _)) (hBx.out.below (Ext.below _))) h7.out)) | (go_at_call 55; exact Ext.call (Calls.isTrue (restIsZero_any _ _ D hn h5.out hp3 h7.out _ (hW.out.below (Ext.below _)) (hBx.out.below (Ext.below _))) h8.out)))))
    refine wpQuiet_nil ?_
    intro _ hw'
    obtain ⟨x9, hw''⟩ := hw'
    subst hw''
    go_wp2
    go_ret
    exact ⟨IsB.no n.out, below_trans bw'.out (Ext.below _)⟩
  have d5 : ((D.words.length : Int) == D.pages * 32) = true := beq_iff_eq.2 e5
  have h5 := Lib.hid e5
  clear e5
  by_cases e6 : (D.dirty.length : Int) = D.pages * 4
  case neg =>
    have d6 : ((D.dirty.length : Int) == D.pages * 4) = false := beq_eq_false_iff_ne.2 e6
    have h6 := Lib.hid e6
    have n := Lib.hid (show ¬ HeapForm D from fun h => h6.out (hF.out.1 h).2.2.2.2.2.1)
    clear e6
    go_enter Try.func16, Try.ntmps16
    go_wp2_with fail
    generalize w.alloc (.cells #[.int .i64 D.base, .int .i64 D.pages, .slice aw D.words.length cw, .slice ad D.dirty.length cd, vs, vm, .int .i64 D.phase, .int .i64 D.next, vg] 32) = W at *
    refine wp_region_ext (Below.refl _ _) (by kernel_rfl) (by kernel_rfl) ?_
    repeat (go_big_quiet_step ((first | (go_at_call 44; exact Ext.same (baseOk_eq h1.out _)) | (go_at_call 45; exact Ext.same (pagesOk_eq h2.out _)) | (go_at_call 53; exact Ext.same (mutsOk_yes h3.out (hM.out.below (Ext.below _)))) | (go_at_call 46; exact Ext.same (isIn_eq h4.out _)) | (go_at_call 47; exact Ext.same (wordsOf_any _ hp0 hp1 _)) | (go_at_call 48; exact Ext.same (cardsOf_at _ hp0 hp1 _)) | (go_at_call 54; exact Ext.call (spans_ext (b := true) (fun h hp => Calls.isTrue h (by simpa using hp)) (spansOk_any _ _ D hp2 hp3 hm'.out _ (hW.out.below (Ext.below _)) (hBx.out.below (Ext.below _))) h7.out)) | (go_at_call 55; exact Ext.call (Calls.isTrue (restIsZero_any _ _ D hn h5.out hp3 h7.out _ (hW.out.below (Ext.below _)) (hBx.out.below (Ext.below _))) h8.out)))))
    refine wpQuiet_nil ?_
    intro _ hw'
    obtain ⟨x9, hw''⟩ := hw'
    subst hw''
    go_wp2
    go_ret
    exact ⟨IsB.no n.out, below_trans bw'.out (Ext.below _)⟩
  have d6 : ((D.dirty.length : Int) == D.pages * 4) = true := beq_iff_eq.2 e6
  have h6 := Lib.hid e6
  clear e6
  by_cases e7 : SpansForm D
  case neg =>
    have h7 := Lib.hid e7
    have n := Lib.hid (show ¬ HeapForm D from fun h => h7.out (hF.out.1 h).2.2.2.2.2.2.1)
    clear e7
    go_enter Try.func16, Try.ntmps16
    go_wp2_with fail
    generalize w.alloc (.cells #[.int .i64 D.base, .int .i64 D.pages, .slice aw D.words.length cw, .slice ad D.dirty.length cd, vs, vm, .int .i64 D.phase, .int .i64 D.next, vg] 32) = W at *
    refine wp_region_ext (Below.refl _ _) (by kernel_rfl) (by kernel_rfl) ?_
    repeat (go_big_quiet_step ((first | (go_at_call 44; exact Ext.same (baseOk_eq h1.out _)) | (go_at_call 45; exact Ext.same (pagesOk_eq h2.out _)) | (go_at_call 53; exact Ext.same (mutsOk_yes h3.out (hM.out.below (Ext.below _)))) | (go_at_call 46; exact Ext.same (isIn_eq h4.out _)) | (go_at_call 47; exact Ext.same (wordsOf_any _ hp0 hp1 _)) | (go_at_call 48; exact Ext.same (cardsOf_at _ hp0 hp1 _)) | (go_at_call 54; exact Ext.call (spans_ext (b := false) (fun h hp => Calls.isFalse h (by simpa using hp)) (spansOk_any _ _ D hp2 hp3 hm'.out _ (hW.out.below (Ext.below _)) (hBx.out.below (Ext.below _))) h7.out)) | (go_at_call 55; exact Ext.call (Calls.isTrue (restIsZero_any _ _ D hn h5.out hp3 h7.out _ (hW.out.below (Ext.below _)) (hBx.out.below (Ext.below _))) h8.out)))))
    refine wpQuiet_nil ?_
    intro _ hw'
    obtain ⟨x9, hw''⟩ := hw'
    subst hw''
    go_wp2
    go_ret
    exact ⟨IsB.no n.out, below_trans bw'.out (Ext.below _)⟩
  have h7 := Lib.hid e7
  clear e7
  have hn : D.words.length ≤ 1048576 := by have := h5.out; omega
  by_cases e8 : RestZero D
  case neg =>
    have h8 := Lib.hid e8
    have n := Lib.hid (show ¬ HeapForm D from fun h => h8.out (hF.out.1 h).2.2.2.2.2.2.2)
    clear e8
    go_enter Try.func16, Try.ntmps16
    go_wp2_with fail
    generalize w.alloc (.cells #[.int .i64 D.base, .int .i64 D.pages, .slice aw D.words.length cw, .slice ad D.dirty.length cd, vs, vm, .int .i64 D.phase, .int .i64 D.next, vg] 32) = W at *
    refine wp_region_ext (Below.refl _ _) (by kernel_rfl) (by kernel_rfl) ?_
    repeat (go_big_quiet_step ((first | (go_at_call 44; exact Ext.same (baseOk_eq h1.out _)) | (go_at_call 45; exact Ext.same (pagesOk_eq h2.out _)) | (go_at_call 53; exact Ext.same (mutsOk_yes h3.out (hM.out.below (Ext.below _)))) | (go_at_call 46; exact Ext.same (isIn_eq h4.out _)) | (go_at_call 47; exact Ext.same (wordsOf_any _ hp0 hp1 _)) | (go_at_call 48; exact Ext.same (cardsOf_at _ hp0 hp1 _)) | (go_at_call 54; exact Ext.call (spans_ext (b := true) (fun h hp => Calls.isTrue h (by simpa using hp)) (spansOk_any _ _ D hp2 hp3 hm'.out _ (hW.out.below (Ext.below _)) (hBx.out.below (Ext.below _))) h7.out)) | (go_at_call 55; exact Ext.call (Calls.isFalse (restIsZero_any _ _ D hn h5.out hp3 h7.out _ (hW.out.below (Ext.below _)) (hBx.out.below (Ext.below _))) h8.out)))))
    refine wpQuiet_nil ?_
    intro _ hw'
    obtain ⟨x9, hw''⟩ := hw'
    subst hw''
    go_wp2
    go_ret
    exact ⟨IsB.no n.out, below_trans bw'.out (Ext.below _)⟩
  case pos =>
    have h8 := Lib.hid e8
    have n := Lib.hid (show HeapForm D from hF.out.2 ⟨h1.out, h2.out, h3.out, h4.out, h5.out, h6.out, h7.out, h8.out⟩)
    clear e8
    go_enter Try.func16, Try.ntmps16
    go_wp2_with fail
    generalize w.alloc (.cells #[.int .i64 D.base, .int .i64 D.pages, .slice aw D.words.length cw, .slice ad D.dirty.length cd, vs, vm, .int .i64 D.phase, .int .i64 D.next, vg] 32) = W at *
    refine wp_region_ext (Below.refl _ _) (by kernel_rfl) (by kernel_rfl) ?_
    repeat (go_big_quiet_step ((first | (go_at_call 44; exact Ext.same (baseOk_eq h1.out _)) | (go_at_call 45; exact Ext.same (pagesOk_eq h2.out _)) | (go_at_call 53; exact Ext.same (mutsOk_yes h3.out (hM.out.below (Ext.below _)))) | (go_at_call 46; exact Ext.same (isIn_eq h4.out _)) | (go_at_call 47; exact Ext.same (wordsOf_any _ hp0 hp1 _)) | (go_at_call 48; exact Ext.same (cardsOf_at _ hp0 hp1 _)) | (go_at_call 54; exact Ext.call (spans_ext (b := true) (fun h hp => Calls.isTrue h (by simpa using hp)) (spansOk_any _ _ D hp2 hp3 hm'.out _ (hW.out.below (Ext.below _)) (hBx.out.below (Ext.below _))) h7.out)) | (go_at_call 55; exact Ext.call (Calls.isTrue (restIsZero_any _ _ D hn h5.out hp3 h7.out _ (hW.out.below (Ext.below _)) (hBx.out.below (Ext.below _))) h8.out)))))
    refine wpQuiet_nil ?_
    intro _ hw'
    obtain ⟨x9, hw''⟩ := hw'
    subst hw''
    go_wp2
    go_ret
    exact ⟨IsB.yes n.out, below_trans bw'.out (Ext.below _)⟩
end Go.Proofs.Ytajogfnlbdiokaa

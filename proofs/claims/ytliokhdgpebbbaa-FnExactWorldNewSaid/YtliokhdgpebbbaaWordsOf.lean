/-
  The contracts of the model's UsedWords, FreeWords.
-/
import Derived.Test.YtliokhdgpebbbaaFind
namespace Go.Proofs.Ytliokhdgpebbbaa
open Go.RowKit
set_option linter.unusedVariables false

/-- The words of the used ones of a span's first j slots. -/
def usedUp (s : SpanD) (j : Nat) : Int := (((s.lens.take j).filter fun l => decide (0 < l)).length : Int) * sz s.cls
def usedK (D : WD) (k : Nat) : Int := ((D.spans.take k).map fun s => usedUp s s.lens.length).sum
def usedN (D : WD) : Int := usedK D D.spans.length
theorem usedUp_zero (s : SpanD) : usedUp s 0 = 0 := by simp [usedUp]
theorem usedUp_succ (s : SpanD) (j : Nat) (h : j < s.lens.length) : usedUp s (j + 1) = usedUp s j + if 0 < s.lens[j]?.getD 0 then sz s.cls else 0 := by
  unfold usedUp
  rw [List.take_succ_eq_append_getElem h, List.filter_append]
  by_cases e : 0 < s.lens[j]
  · simp [e, h, Int.add_mul]
  · simp [e, h]
theorem usedUp_bd (s : SpanD) (j : Nat) : 0 ≤ usedUp s j ∧ usedUp s j ≤ 16 * (j : Int) := by
  have h1 := sz_bd s.cls
  have h2 : ((s.lens.take j).filter fun l => decide (0 < l)).length ≤ j := Nat.le_trans (List.length_filter_le _ _) (by simp; omega)
  unfold usedUp
  refine ⟨Int.mul_nonneg (by omega) h1.1, ?_⟩
  have := Int.mul_le_mul (show ((((s.lens.take j).filter fun l => decide (0 < l)).length : Nat) : Int) ≤ (j : Int) by omega) h1.2 h1.1 (by omega)
  omega
theorem usedK_succ (D : WD) (k : Nat) (s : SpanD) (h : D.spans[k]? = some s) : usedK D (k + 1) = usedK D k + usedUp s s.lens.length := by
  obtain ⟨hk, rfl⟩ := List.getElem?_eq_some_iff.1 h
  unfold usedK
  rw [List.take_succ_eq_append_getElem hk, List.map_append, List.sum_append]
  simp [-List.map_take]
theorem usedK_bd (D : WD) (hF : ∀ (k : Nat) (s : SpanD), D.spans[k]? = some s → SpanAt D k s) (k : Nat) (hk : k ≤ D.spans.length) : 0 ≤ usedK D k ∧ usedK D k ≤ 256 * (k : Int) := by
  induction k with
  | zero => simp [usedK]
  | succ n ih =>
    have := ih (by omega)
    obtain ⟨s, hs⟩ : ∃ s, D.spans[n]? = some s := ⟨_, List.getElem?_eq_getElem (by omega)⟩
    have hA := (hF n s hs).lens
    have hb := usedUp_bd s s.lens.length
    have hl := (sl_bd s.cls).2
    rw [usedK_succ D n s hs]
    omega
/-- It returned how many words are used, or -1. -/
def UsedIs (D : WD) (e : Ending) : Prop := ∃ r : Int, e = .returned (.int .i64 r) ∧ ((HeapForm D ∧ r = usedN D) ∨ (¬ HeapForm D ∧ r = -1))
def FreeIs (D : WD) (e : Ending) : Prop := ∃ r : Int, e = .returned (.int .i64 r) ∧ ((HeapForm D ∧ r = D.pages * 32 - usedN D) ∨ (¬ HeapForm D ∧ r = -1))
theorem UsedIs.unique {D : WD} {e e' : Ending} (h : UsedIs D e) (h' : UsedIs D e') : e = e' := by
  obtain ⟨r, rfl, h⟩ := h
  obtain ⟨r', rfl, h'⟩ := h'
  rcases h with ⟨hF, rfl⟩ | ⟨hn, rfl⟩ <;> rcases h' with ⟨hF', rfl⟩ | ⟨hn', rfl⟩
  · rfl
  · exact absurd hF hn'
  · exact absurd hF' hn
  · rfl
theorem FreeIs.unique {D : WD} {e e' : Ending} (h : FreeIs D e) (h' : FreeIs D e') : e = e' := by
  obtain ⟨r, rfl, h⟩ := h
  obtain ⟨r', rfl, h'⟩ := h'
  rcases h with ⟨hF, rfl⟩ | ⟨hn, rfl⟩ <;> rcases h' with ⟨hF', rfl⟩ | ⟨hn', rfl⟩
  · rfl
  · exact absurd hF hn'
  · exact absurd hF' hn
  · rfl

set_option maxRecDepth 100000 in
set_option maxHeartbeats 4000000 in
theorem usedWords_any (v : Value) (D : WD) (w : World) (hr : RdW w v D) :
    Calls Try.prog 33 #[v] w fun e w' => UsedIs D e ∧ Below w.heap.size w w' := by
  obtain ⟨vw, vd, vs, vm, vg, rfl, a1, a2, a3, a4, a5⟩ := hr
  have bx := Lib.hid (box_new w (.cells #[.int .i64 D.base, .int .i64 D.pages, vw, vd, vs, vm, .int .i64 D.phase, .int .i64 D.next, vg] 32))
  have bw := below_box w (.cells #[.int .i64 D.base, .int .i64 D.pages, vw, vd, vs, vm, .int .i64 D.phase, .int .i64 D.next, vg] 32)
  have hW := Lib.hid (show RdW (w.alloc (.cells #[.int .i64 D.base, .int .i64 D.pages, vw, vd, vs, vm, .int .i64 D.phase, .int .i64 D.next, vg] 32)) (.agg #[.int .i64 D.base, .int .i64 D.pages, vw, vd, vs, vm, .int .i64 D.phase, .int .i64 D.next, vg]) D from
    ⟨vw, vd, vs, vm, vg, rfl, a1.below bw, a2.below bw, a3.below bw, a4.below bw, a5.below bw⟩)
  have bw' := Lib.hid bw
  obtain ⟨aS, cS, rfl, hsl, _⟩ := a3
  unfold maxLen at hsl
  clear a1 a2 a4 a5 bw
  go_enter Try.func33, Try.ntmps33
  go_wp2_with fail
  refine (formOk_any _ D _ hW.out).mono ?_
  rintro e w1 ⟨hq, b1⟩
  have hB := below_trans bw'.out b1
  have hx1 := Lib.hid (heap_below b1 bx.out)
  have hW1 := Lib.hid (hW.out.below b1)
  have hq := hq.elim
  clear b1
  rcases hq with ⟨hF, rfl⟩ | ⟨hF, rfl⟩
  case inr =>
    have n := Lib.hid (show UsedIs D (.returned (.int .i64 (-1))) from ⟨-1, rfl, .inr ⟨hF, rfl⟩⟩)
    clear hF
    go_wp2_with fail
    go_ret
    exact ⟨n.out, hB⟩
  have hg := hF.geo
  have hl12 : D.spans.length ≤ 12 := by have := hF.spans; have := hg.2.2.2.2.1; omega
  have hF' := Lib.hid hF
  have hf4 := Lib.hid (fun (w' : World) (hb : Below w1.heap.size w1 w') => cell_below hb (cell_of_heap hx1.out 4 _ rfl))
  have hbd := Lib.hid (usedK_bd D hF.span)
  clear hF hg
  go_wp2_with fail
  go_loop [3, 4] (fun q k => ∃ k' : Nat, k' ≤ D.spans.length ∧ k = .int .i64 k' ∧ q = .int .i64 (usedK D k')) (fun _ k => D.spans.length - (intOf k).toNat)
  case atStart => exact ⟨0, Nat.zero_le _, rfl, by simp [usedK]⟩
  case round =>
    obtain ⟨k, hk, rfl, rfl⟩ := hrel
    have g4 := hf4.out _ (Below.refl _ _)
    have hbk := hbd.out k hk
    by_cases hlt : k < D.spans.length
    · obtain ⟨s, hks⟩ : ∃ s, D.spans[k]? = some s := ⟨_, List.getElem?_eq_getElem hlt⟩
      have hks' := Lib.hid hks
      have hlt1 : (k : Int) < (D.spans.length : Int) := by omega
      obtain ⟨b1, o1, rfl, vl, vp, x0, x1, x2, x3, x4, x5, ⟨al, cl, rfl, hll, xl⟩, _⟩ := hW1.out.parts.2.2.1.at_ k s hks
      unfold maxLen at hll
      have xl' := Lib.hid xl
      have A := hF'.out.span k s hks
      have hl16 : s.lens.length ≤ 16 := by have := A.lens; have := (sl_bd s.cls).2; omega
      have hsucc := Lib.hid (usedK_succ D k s hks)
      have hszb := sz_bd s.cls
      clear hks x0 x2 x3 x5 xl A
      go_wp2_with fail
      go_loop [3, 5] (fun q j => ∃ j' : Nat, j' ≤ s.lens.length ∧ j = .int .i64 j' ∧ q = .int .i64 (usedK D k + usedUp s j')) (fun _ j => s.lens.length - (intOf j).toNat)
      case atStart => exact ⟨0, Nat.zero_le _, rfl, by rw [usedUp_zero, Int.add_zero]⟩
      case round =>
        obtain ⟨j, hj, rfl, rfl⟩ := hrel
        have hbu := usedUp_bd s j
        by_cases hjl : j < s.lens.length
        · have hj1 : (j : Int) < (s.lens.length : Int) := by omega
          obtain ⟨bl, ol, rfl, xj⟩ := xl'.out j hjl
          have hus := Lib.hid (usedUp_succ s j hjl)
          generalize s.lens[j]?.getD 0 = l at *
          by_cases hl : 0 < l
          · have hus2 := Lib.hid (show usedUp s (j + 1) = usedUp s j + sz s.cls by rw [hus.out, if_pos hl])
            go_wp2_with (go_at_call 68; refine (spec_size_any _ _).mono ?_; rintro e w2 ⟨rfl, rfl⟩)
            go_round
            case rel => exact ⟨j + 1, by omega, by go_num, by rw [hus2.out]; go_num⟩
            case measure => simp [intOf]; omega
          · have hus2 := Lib.hid (show usedUp s (j + 1) = usedUp s j by rw [hus.out, if_neg hl, Int.add_zero])
            go_wp2_with fail
            go_round
            case rel => exact ⟨j + 1, by omega, by go_num, by rw [hus2.out]⟩
            case measure => simp [intOf]; omega
        · obtain rfl : j = s.lens.length := by omega
          go_wp2_with fail
          go_round
          case rel => exact ⟨k + 1, by omega, by go_num, by rw [hsucc.out]⟩
          case measure => simp [intOf]; omega
    · obtain rfl : k = D.spans.length := by omega
      have y := Lib.hid (show UsedIs D (.returned (.int .i64 (usedK D D.spans.length))) from ⟨_, rfl, .inl ⟨hF'.out, rfl⟩⟩)
      go_wp2_with fail
      go_ret
      exact ⟨y.out, hB⟩

set_option maxRecDepth 100000 in
set_option maxHeartbeats 4000000 in
theorem freeWords_any (v : Value) (D : WD) (w : World) (hr : RdW w v D) :
    Calls Try.prog 44 #[v] w fun e w' => FreeIs D e ∧ Below w.heap.size w w' := by
  obtain ⟨vw, vd, vs, vm, vg, rfl, a1, a2, a3, a4, a5⟩ := hr
  have bx := Lib.hid (box_new w (.cells #[.int .i64 D.base, .int .i64 D.pages, vw, vd, vs, vm, .int .i64 D.phase, .int .i64 D.next, vg] 32))
  have bw := below_box w (.cells #[.int .i64 D.base, .int .i64 D.pages, vw, vd, vs, vm, .int .i64 D.phase, .int .i64 D.next, vg] 32)
  have hW := Lib.hid (show RdW (w.alloc (.cells #[.int .i64 D.base, .int .i64 D.pages, vw, vd, vs, vm, .int .i64 D.phase, .int .i64 D.next, vg] 32)) (.agg #[.int .i64 D.base, .int .i64 D.pages, vw, vd, vs, vm, .int .i64 D.phase, .int .i64 D.next, vg]) D from
    ⟨vw, vd, vs, vm, vg, rfl, a1.below bw, a2.below bw, a3.below bw, a4.below bw, a5.below bw⟩)
  have bw' := Lib.hid bw
  clear a1 a2 a3 a4 a5 bw
  go_enter Try.func44, Try.ntmps44
  go_wp2_with fail
  refine (formOk_any _ D _ hW.out).mono ?_
  rintro e w1 ⟨hq, b1⟩
  have hB := below_trans bw'.out b1
  have hx1 := Lib.hid (heap_below b1 bx.out)
  have hW1 := Lib.hid (hW.out.below b1)
  have hq := hq.elim
  clear b1
  rcases hq with ⟨hF, rfl⟩ | ⟨hF, rfl⟩
  case inr =>
    have n := Lib.hid (show FreeIs D (.returned (.int .i64 (-1))) from ⟨-1, rfl, .inr ⟨hF, rfl⟩⟩)
    clear hF
    go_wp2_with fail
    go_ret
    exact ⟨n.out, hB⟩
  have hg := hF.geo
  have hp1 := hg.2.2.2.1
  have hp2 := hg.2.2.2.2.1
  have hF' := Lib.hid hF
  have hub := usedK_bd D hF.span D.spans.length (Nat.le_refl _)
  have hsl := hF.spans
  have hu1 : 0 ≤ usedN D := hub.1
  have hu2 : usedN D ≤ 4000 := by have := hub.2; unfold usedN; omega
  have f0 := cell_of_heap hx1.out 0 _ rfl
  have f1 := cell_of_heap hx1.out 1 _ rfl
  have f2 := cell_of_heap hx1.out 2 _ rfl
  have f3 := cell_of_heap hx1.out 3 _ rfl
  have f4 := cell_of_heap hx1.out 4 _ rfl
  have f5 := cell_of_heap hx1.out 5 _ rfl
  have f6 := cell_of_heap hx1.out 6 _ rfl
  have f7 := cell_of_heap hx1.out 7 _ rfl
  have f8 := cell_of_heap hx1.out 8 _ rfl
  have hw1 := Lib.hid (show IntKind.i64.wrap (IntKind.i64.wrap (D.pages * 32) - usedN D) = D.pages * 32 - usedN D by
    rw [show IntKind.i64.wrap (D.pages * 32) = D.pages * 32 from IntWalk.i64_in _ (by omega)]; exact IntWalk.i64_in _ (by omega))
  have hw2 := Lib.hid (show IntKind.i64.wrap (D.pages * 32 - usedN D) = D.pages * 32 - usedN D from IntWalk.i64_in _ (by omega))
  have y := Lib.hid (show FreeIs D (.returned (.int .i64 (D.pages * 32 - usedN D))) from ⟨_, rfl, .inl ⟨hF, rfl⟩⟩)
  clear hF hg hub hsl
  go_wp2_with fail
  go_region_with (first
    | (go_at_call 33; refine (usedWords_any _ D _ ?_).mono ?_; exact hW1.out; rintro e w2 ⟨⟨r, rfl, hr⟩, b2⟩; have hr2 : r = usedN D := hr.elim (fun h => h.2) (fun h => absurd hF'.out h.1); subst hr2; have b2' : Below w1.heap.size w1 w2 := ⟨b2.os, b2.tape, b2.output, b2.size, b2.block⟩; have g1 := cell_below b2' f1; clear b2 hr))
  all_goals (try rw [hw1.out])
  all_goals (try rw [hw2.out])
  all_goals go_wp2_with fail
  all_goals go_ret
  all_goals exact ⟨y.out, below_trans hB b2'⟩
end Go.Proofs.Ytliokhdgpebbbaa

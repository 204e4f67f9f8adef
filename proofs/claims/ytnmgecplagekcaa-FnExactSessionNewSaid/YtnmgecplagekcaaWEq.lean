/-
  The contracts of the laws' 'eq..' functions where both sides read alike: true.
-/
import Derived.Test.YtnmgecplagekcaaWSize
import Derived.StillTailTactics
namespace Go.Proofs.Ytnmgecplagekcaa
open Go.RowKit
set_option linter.unusedVariables false

set_option maxHeartbeats 1000000 in
theorem eqIntS_same (v1 v2 : Value) (L : List Int) (w : World) (h1 : Rd w v1 L) (h2 : Rd w v2 L) :
    Calls Try.prog 24 #[v1, v2] w fun e w' => e = .returned (.bool true) ∧ ∃ n, w' = w.drewN n := by
  obtain ⟨a1, c1, rfl, hL, r1⟩ := h1
  obtain ⟨a2, c2, rfl, _, r2⟩ := h2
  unfold maxLen at hL
  obtain ⟨r1⟩ : Nonempty (Hid _) := ⟨Lib.hid r1⟩
  obtain ⟨r2⟩ : Nonempty (Hid _) := ⟨Lib.hid r2⟩
  go_enter Try.func24, Try.ntmps24
  go_wp2
  go_loopw [5] (fun i wr => ∃ k n : Nat, k ≤ L.length ∧ i = .int .i64 k ∧ wr = w.drewN n) (fun i _ => L.length - (intOf i).toNat)
  case atStart => exact ⟨0, 0, Nat.zero_le _, rfl, rfl⟩
  case round =>
    obtain ⟨k, n, hk, rfl, rfl⟩ := hrel
    by_cases hlt : k < L.length
    · obtain ⟨b1, o1, rfl, x1⟩ := r1.out k hlt
      obtain ⟨b2, o2, rfl, x2⟩ := r2.out k hlt
      go_wp2
      go_quiet (fail)
      go_wp2
      go_roundw
      case rel => exact ⟨k + 1, _, by omega, by go_num, rfl⟩
      case measure => simp [intOf]; omega
    · obtain rfl : k = L.length := by omega
      go_wp2
      go_ret
      exact ⟨rfl, n, rfl⟩

set_option maxHeartbeats 1000000 in
theorem eqBoolS_same (v1 v2 : Value) (L : List Bool) (w : World) (h1 : RdB w v1 L) (h2 : RdB w v2 L) :
    Calls Try.prog 25 #[v1, v2] w fun e w' => e = .returned (.bool true) ∧ ∃ n, w' = w.drewN n := by
  obtain ⟨a1, c1, rfl, hL, r1⟩ := h1
  obtain ⟨a2, c2, rfl, _, r2⟩ := h2
  unfold maxLen at hL
  obtain ⟨r1⟩ : Nonempty (Hid _) := ⟨Lib.hid r1⟩
  obtain ⟨r2⟩ : Nonempty (Hid _) := ⟨Lib.hid r2⟩
  go_enter Try.func25, Try.ntmps25
  go_wp2
  go_loopw [5] (fun i wr => ∃ k n : Nat, k ≤ L.length ∧ i = .int .i64 k ∧ wr = w.drewN n) (fun i _ => L.length - (intOf i).toNat)
  case atStart => exact ⟨0, 0, Nat.zero_le _, rfl, rfl⟩
  case round =>
    obtain ⟨k, n, hk, rfl, rfl⟩ := hrel
    by_cases hlt : k < L.length
    · obtain ⟨b1, o1, rfl, x1⟩ := r1.out k hlt
      obtain ⟨b2, o2, rfl, x2⟩ := r2.out k hlt
      go_wp2
      go_quiet (fail)
      go_wp2
      go_roundw
      case rel => exact ⟨k + 1, _, by omega, by go_num, rfl⟩
      case measure => simp [intOf]; omega
    · obtain rfl : k = L.length := by omega
      go_wp2
      go_ret
      exact ⟨rfl, n, rfl⟩

theorem below_drewN' {w : World} (n : Nat) : Below w.heap.size w (w.drewN n) := below_drewN (Below.refl _ _) n

set_option maxHeartbeats 1000000 in
theorem eqSpan_same (s : SpanD) (vl vp vl' vp' : Value) (w : World) (hl : Rd w vl s.lens) (hp : Rd w vp s.ptrs) (hl' : Rd w vl' s.lens) (hp' : Rd w vp' s.ptrs) :
    Calls Try.prog 39 #[spanV s vl vp, spanV s vl' vp'] w fun e w' => e = .returned (.bool true) ∧ Below w.heap.size w w' := by
  unfold spanV
  have bb : Below w.heap.size w ((w.alloc (.cells #[.int .i64 s.page, .int .i64 s.cls, .int .i64 s.mark, .bool s.swept, vl, vp] 63)).alloc (.cells #[.int .i64 s.page, .int .i64 s.cls, .int .i64 s.mark, .bool s.swept, vl', vp'] 63)) :=
    below_trans (below_box _ _) (below_box _ _)
  have xl := hl.below bb
  have xp := hp.below bb
  have xl' := hl'.below bb
  have xp' := hp'.below bb
  clear hl hp hl' hp'
  go_enter Try.func39, Try.ntmps39
  go_wp2_with fail
  refine (eqIntS_same _ _ s.lens _ xl xl').mono ?_
  rintro e w1 ⟨rfl, n, rfl⟩
  go_wp2_with fail
  refine (eqIntS_same _ _ s.ptrs _ (xp.drewN n) (xp'.drewN n)).mono ?_
  rintro e w1 ⟨rfl, m, rfl⟩
  go_wp2_with fail
  go_ret
  exact ⟨rfl, below_trans bb (below_drewN' _)⟩

set_option maxHeartbeats 1000000 in
theorem eqMut_same (r : List Int) (vr vr' : Value) (w : World) (hl : Rd w vr r) (hl' : Rd w vr' r) :
    Calls Try.prog 40 #[.agg #[vr], .agg #[vr']] w fun e w' => e = .returned (.bool true) ∧ Below w.heap.size w w' := by
  have bb : Below w.heap.size w ((w.alloc (.cells #[vr] 60)).alloc (.cells #[vr'] 60)) := below_trans (below_box _ _) (below_box _ _)
  have xl := hl.below bb
  have xl' := hl'.below bb
  clear hl hl'
  go_enter Try.func40, Try.ntmps40
  go_wp2_with fail
  refine (eqIntS_same _ _ r _ xl xl').mono ?_
  rintro e w1 ⟨rfl, n, rfl⟩
  go_wp2_with fail
  go_ret
  exact ⟨rfl, below_trans bb (below_drewN' n)⟩

set_option maxHeartbeats 1000000 in
theorem eqGc_same (p q : Int) (g : List Int) (vg vg' : Value) (w : World) (hl : Rd w vg g) (hl' : Rd w vg' g) :
    Calls Try.prog 28 #[.agg #[.int .i64 p, .int .i64 q, vg], .agg #[.int .i64 p, .int .i64 q, vg']] w fun e w' => e = .returned (.bool true) ∧ Below w.heap.size w w' := by
  have bb : Below w.heap.size w ((w.alloc (.cells #[.int .i64 p, .int .i64 q, vg] 27)).alloc (.cells #[.int .i64 p, .int .i64 q, vg'] 27)) := below_trans (below_box _ _) (below_box _ _)
  have xl := hl.below bb
  have xl' := hl'.below bb
  clear hl hl'
  go_enter Try.func28, Try.ntmps28
  go_wp2_with fail
  refine (eqIntS_same _ _ g _ xl xl').mono ?_
  rintro e w1 ⟨rfl, n, rfl⟩
  go_wp2_with fail
  go_ret
  exact ⟨rfl, below_trans bb (below_drewN' n)⟩

set_option maxRecDepth 100000 in
set_option maxHeartbeats 2000000 in
theorem eqSpanS_same (v1 v2 : Value) (L : List SpanD) (w : World) (h1 : RdS w v1 L) (h2 : RdS w v2 L) :
    Calls Try.prog 26 #[v1, v2] w fun e w' => e = .returned (.bool true) ∧ Below w.heap.size w w' := by
  obtain ⟨a1, c1, rfl, hL, r1⟩ := h1
  obtain ⟨a2, c2, rfl, _, r2⟩ := h2
  unfold maxLen at hL
  obtain ⟨r1⟩ : Nonempty (Hid _) := ⟨Lib.hid r1⟩
  obtain ⟨r2⟩ : Nonempty (Hid _) := ⟨Lib.hid r2⟩
  go_enter Try.func26, Try.ntmps26
  go_wp2
  go_loopw [5] (fun i wr => ∃ k : Nat, k ≤ L.length ∧ i = .int .i64 k ∧ Below w.heap.size w wr) (fun i _ => L.length - (intOf i).toNat)
  case atStart => exact ⟨0, Nat.zero_le _, rfl, Below.refl _ _⟩
  case round =>
    obtain ⟨k, hk, rfl, hB⟩ := hrel
    by_cases hlt : k < L.length
    · obtain ⟨s, hs⟩ : ∃ s, L[k]? = some s := ⟨_, List.getElem?_eq_getElem hlt⟩
      obtain ⟨b1, o1, rfl, p1⟩ := r1.out k s hs
      obtain ⟨b2, o2, rfl, p2⟩ := r2.out k s hs
      obtain ⟨vl, vp, x0, x1, x2, x3, x4, x5, xl, xp⟩ := p1.below hB
      obtain ⟨vl', vp', y0, y1, y2, y3, y4, y5, yl, yp⟩ := p2.below hB
      have hlt' : (k : Int) < (L.length : Int) := by omega
      clear hs p1 p2
      go_wp2_with fail
      go_still_tail 8, (by kernel_rfl)
      change wpList _ _ _ _ _ wr.drew
      go_wp2_with fail
      refine (eqSpan_same s vl vp vl' vp' wr.drew xl xp yl yp).mono ?_
      rintro e w2 ⟨rfl, b2⟩
      have hB2 := below_trans hB.drew b2
      clear x0 x1 x2 x3 x4 x5 y0 y1 y2 y3 y4 y5 xl xp yl yp hB b2
      go_wp2_with fail
      go_roundw
      case rel => exact ⟨k + 1, by omega, by go_num, hB2⟩
      case measure => simp [intOf]; omega
    · obtain rfl : k = L.length := by omega
      go_wp2
      go_ret
      exact ⟨rfl, hB⟩

set_option maxRecDepth 100000 in
set_option maxHeartbeats 2000000 in
theorem eqMutS_same (v1 v2 : Value) (L : List (List Int)) (w : World) (h1 : RdM w v1 L) (h2 : RdM w v2 L) :
    Calls Try.prog 27 #[v1, v2] w fun e w' => e = .returned (.bool true) ∧ Below w.heap.size w w' := by
  obtain ⟨a1, c1, rfl, hL, r1⟩ := h1
  obtain ⟨a2, c2, rfl, _, r2⟩ := h2
  unfold maxLen at hL
  obtain ⟨r1⟩ : Nonempty (Hid _) := ⟨Lib.hid r1⟩
  obtain ⟨r2⟩ : Nonempty (Hid _) := ⟨Lib.hid r2⟩
  go_enter Try.func27, Try.ntmps27
  go_wp2
  go_loopw [5] (fun i wr => ∃ k : Nat, k ≤ L.length ∧ i = .int .i64 k ∧ Below w.heap.size w wr) (fun i _ => L.length - (intOf i).toNat)
  case atStart => exact ⟨0, Nat.zero_le _, rfl, Below.refl _ _⟩
  case round =>
    obtain ⟨k, hk, rfl, hB⟩ := hrel
    by_cases hlt : k < L.length
    · obtain ⟨s, hs⟩ : ∃ s, L[k]? = some s := ⟨_, List.getElem?_eq_getElem hlt⟩
      obtain ⟨b1, o1, vr, rfl, x0, p1⟩ := r1.out k s hs
      obtain ⟨b2, o2, vr', rfl, y0, p2⟩ := r2.out k s hs
      have x1 := cell_below hB x0
      have y1 := cell_below hB y0
      have xr := p1.below hB
      have yr := p2.below hB
      have hlt' : (k : Int) < (L.length : Int) := by omega
      clear hs p1 p2 x0 y0
      go_wp2_with fail
      go_still_tail 8, (by kernel_rfl)
      change wpList _ _ _ _ _ wr.drew
      go_wp2_with fail
      refine (eqMut_same s vr vr' wr.drew xr yr).mono ?_
      rintro e w2 ⟨rfl, b2⟩
      have hB2 := below_trans hB.drew b2
      clear x1 y1 xr yr hB b2
      go_wp2_with fail
      go_roundw
      case rel => exact ⟨k + 1, by omega, by go_num, hB2⟩
      case measure => simp [intOf]; omega
    · obtain rfl : k = L.length := by omega
      go_wp2
      go_ret
      exact ⟨rfl, hB⟩

set_option maxRecDepth 100000 in
set_option maxHeartbeats 2000000 in
theorem eqWorld_same (v1 v2 : Value) (D : WD) (w : World) (h1 : RdW w v1 D) (h2 : RdW w v2 D) :
    Calls Try.prog 12 #[v1, v2] w fun e w' => e = .returned (.bool true) ∧ Below w.heap.size w w' := by
  obtain ⟨vw, vd, vs, vm, vg, rfl, a1, a2, a3, a4, a5⟩ := h1
  obtain ⟨vw', vd', vs', vm', vg', rfl, c1, c2, c3, c4, c5⟩ := h2
  go_enter Try.func12, Try.ntmps12
  go_wp2_with fail
  have p1 := box_new w (.cells #[.int .i64 D.base, .int .i64 D.pages, vw, vd, vs, vm, .int .i64 D.phase, .int .i64 D.next, vg] 29)
  have b1 := below_box w (.cells #[.int .i64 D.base, .int .i64 D.pages, vw, vd, vs, vm, .int .i64 D.phase, .int .i64 D.next, vg] 29)
  have p2 := box_new (w.alloc (.cells #[.int .i64 D.base, .int .i64 D.pages, vw, vd, vs, vm, .int .i64 D.phase, .int .i64 D.next, vg] 29)) (.cells #[.int .i64 D.base, .int .i64 D.pages, vw', vd', vs', vm', .int .i64 D.phase, .int .i64 D.next, vg'] 29)
  have b2 := below_box (w.alloc (.cells #[.int .i64 D.base, .int .i64 D.pages, vw, vd, vs, vm, .int .i64 D.phase, .int .i64 D.next, vg] 29)) (.cells #[.int .i64 D.base, .int .i64 D.pages, vw', vd', vs', vm', .int .i64 D.phase, .int .i64 D.next, vg'] 29)
  rw [World.size_alloc] at p2
  have bb := below_trans b1 b2
  have p1' := heap_below b2 p1
  obtain ⟨p1⟩ : Nonempty (Hid _) := ⟨Lib.hid p1'⟩
  obtain ⟨p2⟩ : Nonempty (Hid _) := ⟨Lib.hid p2⟩
  clear p1' b1 b2
  refine (eqIntS_same _ _ D.words _ (a1.below bb) (c1.below bb)).mono ?_
  rintro e w1 ⟨rfl, n, rfl⟩
  go_wp2_with fail
  refine (eqBoolS_same _ _ D.dirty _ ((a2.below bb).drewN n) ((c2.below bb).drewN n)).mono ?_
  rintro e w1 ⟨rfl, m, rfl⟩
  have bn := below_trans bb (below_drewN' (n + m))
  go_wp2_with fail
  refine (eqSpanS_same _ _ D.spans _ (a3.below bn) (c3.below bn)).mono ?_
  rintro e w3 ⟨rfl, b3⟩
  have q1 : w3.heap[w.heap.size]? = _ := heap_below b3 p1.out
  have q2 : w3.heap[w.heap.size + 1]? = _ := heap_below b3 p2.out
  have bb3 := below_trans bn b3
  have f5 := cell_of_heap q1 5 _ rfl
  have g5 := cell_of_heap q2 5 _ rfl
  obtain ⟨q1⟩ : Nonempty (Hid _) := ⟨Lib.hid q1⟩
  obtain ⟨q2⟩ : Nonempty (Hid _) := ⟨Lib.hid q2⟩
  clear b3
  go_wp2_with fail
  refine (eqMutS_same _ _ D.muts _ (a4.below bb3) (c4.below bb3)).mono ?_
  rintro e w4 ⟨rfl, b4⟩
  have s1 := heap_below b4 q1.out
  have s2 := heap_below b4 q2.out
  have bb4 := below_trans bb3 b4
  have f6 := cell_of_heap s1 6 _ rfl
  have f7 := cell_of_heap s1 7 _ rfl
  have f8 := cell_of_heap s1 8 _ rfl
  have g6 := cell_of_heap s2 6 _ rfl
  have g7 := cell_of_heap s2 7 _ rfl
  have g8 := cell_of_heap s2 8 _ rfl
  clear s1 s2 b4 f5 g5
  go_wp2_with fail
  refine (eqGc_same _ _ D.grey _ _ _ (a5.below bb4) (c5.below bb4)).mono ?_
  rintro e w5 ⟨rfl, b5⟩
  clear f6 f7 f8 g6 g7 g8
  go_wp2_with fail
  go_ret
  exact ⟨rfl, below_trans bb4 b5⟩
end Go.Proofs.Ytnmgecplagekcaa

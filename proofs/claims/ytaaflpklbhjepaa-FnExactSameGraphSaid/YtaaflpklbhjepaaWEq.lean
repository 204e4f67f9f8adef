/-
  The contracts of the laws' 'eq..' functions where both sides read alike: true.
-/
import Derived.Test.YtaaflpklbhjepaaWSize
import Derived.StillTailTactics
namespace Go.Proofs.Ytaaflpklbhjepaa
open Go.RowKit
set_option linter.unusedVariables false

set_option maxHeartbeats 1000000 in
theorem eqIntS_same (v1 v2 : Value) (L : List Int) (w : World) (h1 : Rd w v1 L) (h2 : Rd w v2 L) :
    Calls Try.prog 52 #[v1, v2] w fun e w' => e = .returned (.bool true) ∧ ∃ n, w' = w.drewN n := by
  obtain ⟨a1, c1, rfl, hL, r1⟩ := h1
  obtain ⟨a2, c2, rfl, _, r2⟩ := h2
  unfold maxLen at hL
  obtain ⟨r1⟩ : Nonempty (Hid _) := ⟨Lib.hid r1⟩
  obtain ⟨r2⟩ : Nonempty (Hid _) := ⟨Lib.hid r2⟩
  go_enter Try.func52, Try.ntmps52
  go_wp2
  go_loopw [5] (fun i wr => ∃ k n : Nat, k ≤ L.length ∧ i = .int .i64 k ∧ wr = w.drewN n) (fun i _ => L.length - (intOf i).toNat)
  case atStart => exact ⟨0, 0, Nat.zero_le _, rfl, rfl⟩
  case round =>
    obtain ⟨k, n, hk, rfl, rfl⟩ := hrel
    by_cases hlt : k < L.length
    · obtain ⟨b1, o1, rfl, x1⟩ := r1.out k hlt
      obtain ⟨b2, o2, rfl, x2⟩ := r2.out k hlt
      go_wp2
      go_quiet (fail)
      go_wp2
      go_roundw
      case rel => exact ⟨k + 1, _, by omega, by go_num, rfl⟩
      case measure => simp [intOf]; omega
    · obtain rfl : k = L.length := by omega
      go_wp2
      go_ret
      exact ⟨rfl, n, rfl⟩

theorem below_drewN' {w : World} (n : Nat) : Below w.heap.size w (w.drewN n) := below_drewN (Below.refl _ _) n

set_option maxHeartbeats 1000000 in
theorem eqMut_same (r : List Int) (vr vr' : Value) (w : World) (hl : Rd w vr r) (hl' : Rd w vr' r) :
    Calls Try.prog 44 #[.agg #[vr], .agg #[vr']] w fun e w' => e = .returned (.bool true) ∧ Below w.heap.size w w' := by
  have bb : Below w.heap.size w ((w.alloc (.cells #[vr] 47)).alloc (.cells #[vr'] 47)) := below_trans (below_box _ _) (below_box _ _)
  have xl := hl.below bb
  have xl' := hl'.below bb
  clear hl hl'
  go_enter Try.func44, Try.ntmps44
  go_wp2_with fail
  refine (eqIntS_same _ _ r _ xl xl').mono ?_
  rintro e w1 ⟨rfl, n, rfl⟩
  go_wp2_with fail
  go_ret
  exact ⟨rfl, below_trans bb (below_drewN' n)⟩

set_option maxRecDepth 100000 in
set_option maxHeartbeats 2000000 in
theorem eqMutS_same (v1 v2 : Value) (L : List (List Int)) (w : World) (h1 : RdM w v1 L) (h2 : RdM w v2 L) :
    Calls Try.prog 26 #[v1, v2] w fun e w' => e = .returned (.bool true) ∧ Below w.heap.size w w' := by
  obtain ⟨a1, c1, rfl, hL, r1⟩ := h1
  obtain ⟨a2, c2, rfl, _, r2⟩ := h2
  unfold maxLen at hL
  obtain ⟨r1⟩ : Nonempty (Hid _) := ⟨Lib.hid r1⟩
  obtain ⟨r2⟩ : Nonempty (Hid _) := ⟨Lib.hid r2⟩
  go_enter Try.func26, Try.ntmps26
  go_wp2
  go_loopw [5] (fun i wr => ∃ k : Nat, k ≤ L.length ∧ i = .int .i64 k ∧ Below w.heap.size w wr) (fun i _ => L.length - (intOf i).toNat)
  case atStart => exact ⟨0, Nat.zero_le _, rfl, Below.refl _ _⟩
  case round =>
    obtain ⟨k, hk, rfl, hB⟩ := hrel
    by_cases hlt : k < L.length
    · obtain ⟨s, hs⟩ : ∃ s, L[k]? = some s := ⟨_, List.getElem?_eq_getElem hlt⟩
      obtain ⟨b1, o1, vr, rfl, x0, p1⟩ := r1.out k s hs
      obtain ⟨b2, o2, vr', rfl, y0, p2⟩ := r2.out k s hs
      have x1 := cell_below hB x0
      have y1 := cell_below hB y0
      have xr := p1.below hB
      have yr := p2.below hB
      have hlt' : (k : Int) < (L.length : Int) := by omega
      clear hs p1 p2 x0 y0
      go_wp2_with fail
      go_still_tail 8, (by kernel_rfl)
      change wpList _ _ _ _ _ wr.drew
      go_wp2_with fail
      refine (eqMut_same s vr vr' wr.drew xr yr).mono ?_
      rintro e w2 ⟨rfl, b2⟩
      have hB2 := below_trans hB.drew b2
      clear x1 y1 xr yr hB b2
      go_wp2_with fail
      go_roundw
      case rel => exact ⟨k + 1, by omega, by go_num, hB2⟩
      case measure => simp [intOf]; omega
    · obtain rfl : k = L.length := by omega
      go_wp2
      go_ret
      exact ⟨rfl, hB⟩

end Go.Proofs.Ytaaflpklbhjepaa

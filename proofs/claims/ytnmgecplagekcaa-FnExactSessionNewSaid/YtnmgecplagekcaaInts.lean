/-
  The contracts of the laws' helpers on lists of ints (eqIntS, sameInts, has, markIntS, heldIntS).
-/
import Derived.Test.YtnmgecplagekcaaWEq
import Derived.Test.YtnmgecplagekcaaWWorld
namespace Go.Proofs.Ytnmgecplagekcaa
open Go.RowKit
set_option linter.unusedVariables false

theorem grow_trans {a w w' : World} {row : Option Nat} (h : a.grownBy w row) (k : w.grownBy w' row) : a.grownBy w' row :=
  ⟨k.os.trans h.os, k.tape.trans h.tape, k.output.trans h.output, Nat.le_trans h.size k.size, fun j hj e => (k.block j (Nat.lt_of_lt_of_le hj h.size) e).trans (h.block j hj e)⟩
/-- k, k + 1, .. -/
def seqL (k : Int) (n : Nat) : List Int := (List.range n).map fun j : Nat => k + (j : Int)
theorem seqL_length (k : Int) (n : Nat) : (seqL k n).length = n := by simp [seqL]
theorem seqL_at (k : Int) (n j : Nat) (h : j < n) : (seqL k n)[j]?.getD 0 = k + (j : Int) := by simp [seqL, h]

set_option maxHeartbeats 1000000 in
/-- What was marked is still held. -/
theorem heldIntS_yes (v : Value) (k : Int) (n : Nat) (hk0 : -1000000 ≤ k) (hk : k ≤ 1000000000000) (hn : n ≤ 1000000000000000000) (w : World) (h1 : Rd w v (seqL k n)) :
    Calls Try.prog 34 #[v, .int .i64 k] w fun e w' => e = .returned (.int .i64 (k + (n : Int))) ∧ w = w' := by
  obtain ⟨a1, c1, rfl, _, r1⟩ := h1
  simp only [seqL_length] at r1 ⊢
  obtain ⟨r1⟩ : Nonempty (Hid _) := ⟨Lib.hid r1⟩
  go_enter Try.func34, Try.ntmps34
  go_wp2
  go_loop [1, 5] (fun q i => ∃ j : Nat, j ≤ n ∧ q = .int .i64 (k + (j : Int)) ∧ i = .int .i64 j) (fun q i => n - (intOf i).toNat)
  case atStart => exact ⟨0, Nat.zero_le _, by simp, rfl⟩
  case round =>
    obtain ⟨j, hj, rfl, rfl⟩ := hrel
    by_cases hlt : j < n
    · obtain ⟨b1, o1, rfl, x1⟩ := r1.out j hlt
      rw [seqL_at k n j hlt] at x1
      go_wp2
      go_round
      case rel => exact ⟨j + 1, by omega, by go_num, by go_num⟩
      case measure => simp [intOf]; omega
    · obtain rfl : j = n := by omega
      go_wp2
      go_ret
      exact ⟨rfl, rfl⟩

/-- A row of which the first j are marked. -/
def markL (L : List Int) (k : Int) (j : Nat) : List Int := seqL k j ++ L.drop j
theorem markL_zero (L : List Int) (k : Int) : markL L k 0 = L := by simp [markL, seqL]
theorem markL_all (L : List Int) (k : Int) : markL L k L.length = seqL k L.length := by simp [markL]
theorem markL_length (L : List Int) (k : Int) (j : Nat) (h : j ≤ L.length) : (markL L k j).length = L.length := by simp [markL, seqL]; omega
theorem markL_set (L : List Int) (k : Int) (j : Nat) (h : j < L.length) : (markL L k j).set j (k + (j : Int)) = markL L k (j + 1) := by
  unfold markL
  have e : seqL k (j + 1) = seqL k j ++ [k + (j : Int)] := by simp [seqL, List.range_succ]
  rw [e, List.set_append_right _ _ (by rw [seqL_length]; omega), seqL_length, Nat.sub_self]
  rw [List.drop_eq_getElem_cons h, List.set_cons_zero, List.append_assoc]
  rfl

set_option maxHeartbeats 1000000 in
theorem markIntS_any (base : Nat) (v : Value) (k : Int) (L : List Int) (hk0 : -1000000 ≤ k) (hk : k ≤ 1000000000000) (hL : L.length ≤ 1000000000000000000) (w : World) (h1 : w.ownsRow base 3 1 v L.length (L.map (Value.int .i64))) :
    Calls Try.prog 29 #[v, .int .i64 k] w fun e w' => e = .returned (.int .i64 (k + (L.length : Int))) ∧ w'.ownsRow base 3 1 v L.length ((seqL k L.length).map (Value.int .i64)) ∧ w.grownBy w' v.ownBlock := by
  have hv := h1.2
  rcases hv with ⟨rfl, h0⟩ | ⟨g, cap, cur, rfl, hb, _, _, _, _, _⟩
  · obtain rfl : L = [] := List.length_eq_zero_iff.1 h0
    go_enter Try.func29, Try.ntmps29
    go_wp2
    go_loop [1, 5] (fun q i => q = .int .i64 k ∧ i = .int .i64 0) (fun q i => 0)
    case atStart => exact ⟨rfl, rfl⟩
    case round =>
      obtain ⟨rfl, rfl⟩ := hrel
      go_wp2
      go_ret
      exact ⟨by simp, by simpa [seqL] using h1, World.grownBy.refl _ _⟩
  · go_enter Try.func29, Try.ntmps29
    go_wp2
    go_loopw [1, 5] (fun q i wr => ∃ j : Nat, j ≤ L.length ∧ q = .int .i64 (k + (j : Int)) ∧ i = .int .i64 j ∧ wr.ownsRow base 3 1 (.slice (some ⟨g, 0, none⟩) L.length cap) L.length ((markL L k j).map (Value.int .i64)) ∧ w.grownBy wr (some g)) (fun q i _ => L.length - (intOf i).toNat)
    case atStart => exact ⟨0, Nat.zero_le _, by simp, rfl, by rw [markL_zero]; exact h1, World.grownBy.refl _ _⟩
    case round =>
      obtain ⟨j, hj, rfl, rfl, hown, hgr⟩ := hrel
      by_cases hlt : j < L.length
      · have hc : wr.cell? ⟨g, j, none⟩ = some (.int .i64 ((markL L k j)[j]?.getD 0)) := by
          rw [hown.cellAt j (by omega)]
          have : j < (markL L k j).length := by rw [markL_length L k j hj]; exact hlt
          simp [this]
        have hfz := hown.frozenAt j
        have hst := hown.stored j (.int .i64 (k + (j : Int)))
        rw [← List.map_set, markL_set L k j hlt] at hst
        obtain ⟨hst⟩ : Nonempty (Hid _) := ⟨Lib.hid hst⟩
        go_wp2
        go_roundw
        case rel => exact ⟨j + 1, by omega, by go_num, by go_num, hst.out.1, grow_trans hgr hst.out.2⟩
        case measure => simp [intOf]; omega
      · obtain rfl : j = L.length := by omega
        rw [markL_all] at hown
        go_wp2
        go_ret
        exact ⟨rfl, hown, hgr⟩
end Go.Proofs.Ytnmgecplagekcaa

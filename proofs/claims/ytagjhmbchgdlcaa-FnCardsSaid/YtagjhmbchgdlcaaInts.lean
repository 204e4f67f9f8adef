/-
  The contracts of the laws' helpers on lists of ints (eqIntS, sameInts, has, markIntS, heldIntS).
-/
import Derived.Test.YtagjhmbchgdlcaaRows
import Derived.WalkKit
import Derived.ProofKit
import Derived.BigQuiet
import Derived.Lib.Hide
import Derived.Deep.QuietTactic
import Derived.WalkSmall
import Derived.OwnWalk
import Derived.Laws.OwnMore
import Derived.LoopTactic
namespace Go.Proofs.Ytagjhmbchgdlcaa
open Go.RowKit
set_option linter.unusedVariables false

/-- THE SLICE VALUE v READS AS THE ints L. -/
def Rd (w : World) (v : Value) (L : List Int) : Prop :=
  ∃ a cap, v = .slice a L.length cap ∧ ∀ j, j < L.length → ∃ b off, a = some ⟨b, off, none⟩ ∧ w.cell? ⟨b, off + j, none⟩ = some (.int .i64 (L[j]?.getD 0))

theorem grow_trans {a w w' : World} {row : Option Nat} (h : a.grownBy w row) (k : w.grownBy w' row) : a.grownBy w' row :=
  ⟨k.os.trans h.os, k.tape.trans h.tape, k.output.trans h.output, Nat.le_trans h.size k.size, fun j hj e => (k.block j (Nat.lt_of_lt_of_le hj h.size) e).trans (h.block j hj e)⟩
theorem Rd.drewN {w : World} {v : Value} {L : List Int} (h : Rd w v L) (n : Nat) : Rd (w.drewN n) v L := h
theorem Rd.of_owns {w : World} {base : Nat} {v : Value} {L : List Int} (h : w.ownsRow base 3 1 v L.length (L.map (Value.int .i64))) : Rd w v L := by
  have h' := h
  rcases h.2 with ⟨rfl, h0⟩ | ⟨g, cap, cur, rfl, _, _, _, _, _, _⟩
  · exact ⟨none, 0, by rw [h0], fun j hj => by omega⟩
  · refine ⟨some ⟨g, 0, none⟩, cap, rfl, fun j hj => ⟨g, 0, rfl, ?_⟩⟩
    rw [Nat.zero_add, h'.cellAt j (by simpa using hj)]
    simp [hj]

set_option maxHeartbeats 1000000 in
theorem eqIntS_same (v1 v2 : Value) (L : List Int) (hL : L.length ≤ maxLen) (w : World) (h1 : Rd w v1 L) (h2 : Rd w v2 L) :
    Calls Try.prog 21 #[v1, v2] w fun e w' => e = .returned (.bool true) ∧ ∃ n, w' = w.drewN n := by
  unfold maxLen at hL
  obtain ⟨a1, c1, rfl, r1⟩ := h1
  obtain ⟨a2, c2, rfl, r2⟩ := h2
  obtain ⟨r1⟩ : Nonempty (Hid _) := ⟨Lib.hid r1⟩
  obtain ⟨r2⟩ : Nonempty (Hid _) := ⟨Lib.hid r2⟩
  go_enter Try.func21, Try.ntmps21
  go_wp2
  go_loopw [5] (fun i wr => ∃ k n : Nat, k ≤ L.length ∧ i = .int .i64 k ∧ wr = w.drewN n) (fun i _ => L.length - (intOf i).toNat)
  case atStart => exact ⟨0, 0, Nat.zero_le _, rfl, rfl⟩
  case round =>
    obtain ⟨k, n, hk, rfl, rfl⟩ := hrel
    by_cases hlt : k < L.length
    · obtain ⟨b1, o1, rfl, x1⟩ := r1.out k hlt
      obtain ⟨b2, o2, rfl, x2⟩ := r2.out k hlt
      go_wp2
      go_quiet (fail)
      go_wp2
      go_roundw
      case rel => exact ⟨k + 1, _, by omega, by go_num, rfl⟩
      case measure => simp [intOf]; omega
    · obtain rfl : k = L.length := by omega
      go_wp2
      go_ret
      exact ⟨rfl, n, rfl⟩
set_option maxHeartbeats 1000000 in
theorem sameInts_same (v1 v2 : Value) (L : List Int) (hL : L.length ≤ maxLen) (w : World) (h1 : Rd w v1 L) (h2 : Rd w v2 L) :
    Calls Try.prog 27 #[v1, v2] w fun e w' => e = .returned (.bool true) ∧ ∃ n, w' = w.drewN n := by
  unfold maxLen at hL
  obtain ⟨a1, c1, rfl, r1⟩ := h1
  obtain ⟨a2, c2, rfl, r2⟩ := h2
  obtain ⟨r1⟩ : Nonempty (Hid _) := ⟨Lib.hid r1⟩
  obtain ⟨r2⟩ : Nonempty (Hid _) := ⟨Lib.hid r2⟩
  go_enter Try.func27, Try.ntmps27
  go_wp2
  go_loopw [5] (fun i wr => ∃ k n : Nat, k ≤ L.length ∧ i = .int .i64 k ∧ wr = w.drewN n) (fun i _ => L.length - (intOf i).toNat)
  case atStart => exact ⟨0, 0, Nat.zero_le _, rfl, rfl⟩
  case round =>
    obtain ⟨k, n, hk, rfl, rfl⟩ := hrel
    by_cases hlt : k < L.length
    · obtain ⟨b1, o1, rfl, x1⟩ := r1.out k hlt
      obtain ⟨b2, o2, rfl, x2⟩ := r2.out k hlt
      go_wp2
      go_quiet (fail)
      go_wp2
      go_roundw
      case rel => exact ⟨k + 1, _, by omega, by go_num, rfl⟩
      case measure => simp [intOf]; omega
    · obtain rfl : k = L.length := by omega
      go_wp2
      go_ret
      exact ⟨rfl, n, rfl⟩

set_option maxHeartbeats 1000000 in
theorem has_yes (v : Value) (x : Int) (L : List Int) (hL : L.length ≤ maxLen) (w : World) (h1 : Rd w v L) (hx : x ∈ L) :
    Calls Try.prog 16 #[v, .int .i64 x] w fun e w' => e = .returned (.bool true) ∧ w = w' := by
  unfold maxLen at hL
  obtain ⟨a1, c1, rfl, r1⟩ := h1
  obtain ⟨r1⟩ : Nonempty (Hid _) := ⟨Lib.hid r1⟩
  obtain ⟨hx⟩ : Nonempty (Hid _) := ⟨Lib.hid hx⟩
  go_enter Try.func16, Try.ntmps16
  go_wp2
  go_loop [5] (fun i => ∃ k : Nat, k ≤ L.length ∧ i = .int .i64 k ∧ x ∉ L.take k) (fun i => L.length - (intOf i).toNat)
  case atStart => exact ⟨0, Nat.zero_le _, rfl, by simp⟩
  case round =>
    obtain ⟨k, hk, rfl, hno⟩ := hrel
    by_cases hlt : k < L.length
    · obtain ⟨b1, o1, rfl, x1⟩ := r1.out k hlt
      have hno' : ¬ L[k]?.getD 0 = x → x ∉ L.take (k + 1) := fun h => by
        rw [List.take_succ_eq_append_getElem hlt]
        simp only [hlt, getElem?_pos, Option.getD_some] at h
        simp only [List.mem_append, List.mem_singleton, not_or]
        exact ⟨hno, fun e => h e.symm⟩
      obtain ⟨hno'⟩ : Nonempty (Hid _) := ⟨Lib.hid hno'⟩
      clear hno
      generalize L[k]?.getD 0 = y at *
      by_cases he : y = x
      · subst he
        clear hno'
        go_wp2
        go_ret
        exact ⟨rfl, rfl⟩
      · have hn := Lib.hid (hno'.out he)
        have hb : (y == x) = false := beq_eq_false_iff_ne.2 he
        clear hno'
        go_wp2
        go_round
        case rel => exact ⟨k + 1, by omega, by go_num, hn.out⟩
        case measure => simp [intOf]; omega
    · exfalso
      obtain rfl : k = L.length := by omega
      rw [List.take_length] at hno
      exact hno hx.out

/-- k, k + 1, .. -/
def seqL (k : Int) (n : Nat) : List Int := (List.range n).map fun j : Nat => k + (j : Int)
theorem seqL_length (k : Int) (n : Nat) : (seqL k n).length = n := by simp [seqL]
theorem seqL_at (k : Int) (n j : Nat) (h : j < n) : (seqL k n)[j]?.getD 0 = k + (j : Int) := by simp [seqL, h]

set_option maxHeartbeats 1000000 in
/-- What was marked is still held. -/
theorem heldIntS_yes (v : Value) (k : Int) (n : Nat) (hk0 : -1000000 ≤ k) (hk : k ≤ 1000000) (hn : n ≤ 1000000000000000000) (w : World) (h1 : Rd w v (seqL k n)) :
    Calls Try.prog 23 #[v, .int .i64 k] w fun e w' => e = .returned (.int .i64 (k + (n : Int))) ∧ w = w' := by
  obtain ⟨a1, c1, rfl, r1⟩ := h1
  rw [seqL_length] at r1 ⊢
  obtain ⟨r1⟩ : Nonempty (Hid _) := ⟨Lib.hid r1⟩
  go_enter Try.func23, Try.ntmps23
  go_wp2
  go_loop [1, 5] (fun q i => ∃ j : Nat, j ≤ n ∧ q = .int .i64 (k + (j : Int)) ∧ i = .int .i64 j) (fun q i => n - (intOf i).toNat)
  case atStart => exact ⟨0, Nat.zero_le _, by simp, rfl⟩
  case round =>
    obtain ⟨j, hj, rfl, rfl⟩ := hrel
    by_cases hlt : j < n
    · obtain ⟨b1, o1, rfl, x1⟩ := r1.out j hlt
      rw [seqL_at k n j hlt] at x1
      go_wp2
      go_round
      case rel => exact ⟨j + 1, by omega, by go_num, by go_num⟩
      case measure => simp [intOf]; omega
    · obtain rfl : j = n := by omega
      go_wp2
      go_ret
      exact ⟨rfl, rfl⟩

/-- A row of which the first j are marked. -/
def markL (L : List Int) (k : Int) (j : Nat) : List Int := seqL k j ++ L.drop j
theorem markL_zero (L : List Int) (k : Int) : markL L k 0 = L := by simp [markL, seqL]
theorem markL_all (L : List Int) (k : Int) : markL L k L.length = seqL k L.length := by simp [markL]
theorem markL_length (L : List Int) (k : Int) (j : Nat) (h : j ≤ L.length) : (markL L k j).length = L.length := by simp [markL, seqL]; omega
theorem markL_set (L : List Int) (k : Int) (j : Nat) (h : j < L.length) : (markL L k j).set j (k + (j : Int)) = markL L k (j + 1) := by
  unfold markL
  have e : seqL k (j + 1) = seqL k j ++ [k + (j : Int)] := by simp [seqL, List.range_succ]
  rw [e, List.set_append_right _ _ (by rw [seqL_length]; omega), seqL_length, Nat.sub_self]
  rw [List.drop_eq_getElem_cons h, List.set_cons_zero, List.append_assoc]
  rfl

set_option maxHeartbeats 1000000 in
theorem markIntS_any (base : Nat) (v : Value) (k : Int) (L : List Int) (hk0 : -1000000 ≤ k) (hk : k ≤ 1000000) (hL : L.length ≤ 1000000000000000000) (w : World) (h1 : w.ownsRow base 3 1 v L.length (L.map (Value.int .i64))) :
    Calls Try.prog 22 #[v, .int .i64 k] w fun e w' => e = .returned (.int .i64 (k + (L.length : Int))) ∧ w'.ownsRow base 3 1 v L.length ((seqL k L.length).map (Value.int .i64)) ∧ w.grownBy w' v.ownBlock := by
  have hv := h1.2
  rcases hv with ⟨rfl, h0⟩ | ⟨g, cap, cur, rfl, hb, _, _, _, _, _⟩
  · obtain rfl : L = [] := List.length_eq_zero_iff.1 h0
    go_enter Try.func22, Try.ntmps22
    go_wp2
    go_loop [1, 5] (fun q i => q = .int .i64 k ∧ i = .int .i64 0) (fun q i => 0)
    case atStart => exact ⟨rfl, rfl⟩
    case round =>
      obtain ⟨rfl, rfl⟩ := hrel
      go_wp2
      go_ret
      exact ⟨by simp, by simpa [seqL] using h1, World.grownBy.refl _ _⟩
  · go_enter Try.func22, Try.ntmps22
    go_wp2
    go_loopw [1, 5] (fun q i wr => ∃ j : Nat, j ≤ L.length ∧ q = .int .i64 (k + (j : Int)) ∧ i = .int .i64 j ∧ wr.ownsRow base 3 1 (.slice (some ⟨g, 0, none⟩) L.length cap) L.length ((markL L k j).map (Value.int .i64)) ∧ w.grownBy wr (some g)) (fun q i _ => L.length - (intOf i).toNat)
    case atStart => exact ⟨0, Nat.zero_le _, by simp, rfl, by rw [markL_zero]; exact h1, World.grownBy.refl _ _⟩
    case round =>
      obtain ⟨j, hj, rfl, rfl, hown, hgr⟩ := hrel
      by_cases hlt : j < L.length
      · have hc : wr.cell? ⟨g, j, none⟩ = some (.int .i64 ((markL L k j)[j]?.getD 0)) := by
          rw [hown.cellAt j (by omega)]
          have : j < (markL L k j).length := by rw [markL_length L k j hj]; exact hlt
          simp [this]
        have hfz := hown.frozenAt j
        have hst := hown.stored j (.int .i64 (k + (j : Int)))
        rw [← List.map_set, markL_set L k j hlt] at hst
        obtain ⟨hst⟩ : Nonempty (Hid _) := ⟨Lib.hid hst⟩
        go_wp2
        go_roundw
        case rel => exact ⟨j + 1, by omega, by go_num, by go_num, hst.out.1, grow_trans hgr hst.out.2⟩
        case measure => simp [intOf]; omega
      · obtain rfl : j = L.length := by omega
        rw [markL_all] at hown
        go_wp2
        go_ret
        exact ⟨rfl, hown, hgr⟩
end Go.Proofs.Ytagjhmbchgdlcaa

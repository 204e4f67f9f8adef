/-
  The contracts of the laws' 'held..' functions: what was marked is still held.
-/
import Derived.Test.YtnmgecplagekcaaMarkM
namespace Go.Proofs.Ytnmgecplagekcaa
open Go.RowKit
set_option linter.unusedVariables false

theorem seqB_at (k : Int) (n j : Nat) (h : j < n) : (seqB k n)[j]?.getD false = ((k + (j : Int)) % 3 == 0) := by simp [seqB, h]

set_option maxHeartbeats 1000000 in
theorem heldBoolS_yes (v : Value) (k : Int) (n : Nat) (hk0 : 0 ≤ k) (hk : k ≤ 1000000000000) (hn : n ≤ 1000000000000000000) (w : World) (h1 : RdB w v (seqB k n)) :
    Calls Try.prog 35 #[v, .int .i64 k] w fun e w' => e = .returned (.int .i64 (k + (n : Int))) ∧ w = w' := by
  obtain ⟨a1, c1, rfl, _, r1⟩ := h1
  simp only [seqB_length] at r1 ⊢
  have r1' := Lib.hid r1
  clear r1
  go_enter Try.func35, Try.ntmps35
  go_wp2
  go_loop [1, 5] (fun q i => ∃ j : Nat, j ≤ n ∧ q = .int .i64 (k + (j : Int)) ∧ i = .int .i64 j) (fun q i => n - (intOf i).toNat)
  case atStart => exact ⟨0, Nat.zero_le _, by simp, rfl⟩
  case round =>
    obtain ⟨j, hj, rfl, rfl⟩ := hrel
    by_cases hlt : j < n
    · obtain ⟨b1, o1, rfl, x1⟩ := r1'.out j hlt
      rw [seqB_at k n j hlt] at x1
      go_wp2
      go_round
      case rel => exact ⟨j + 1, by omega, by go_num, by go_num⟩
      case measure => simp [intOf]; omega
    · obtain rfl : j = n := by omega
      go_wp2
      go_ret
      exact ⟨rfl, rfl⟩

set_option maxRecDepth 100000 in
set_option maxHeartbeats 4000000 in
theorem heldSpanS_yes (v : Value) (k : Int) (L : List SpanD) (hk0 : 0 ≤ k) (hk : k + 4 * (L.length : Int) + (bulkS L : Int) ≤ 100000000000) (w : World) (h1 : RdS w v (markUp L k L.length).1) :
    Calls Try.prog 36 #[v, .int .i64 k] w fun e w' => e = .returned (.int .i64 (markUp L k L.length).2) ∧ w = w' := by
  obtain ⟨a1, c1, rfl, _, r1⟩ := h1
  simp only [markUp_len] at r1 ⊢
  have r1' := Lib.hid r1
  have hK := Lib.hid (markUp_k L k)
  have hbl : L.length ≤ 100000000000 := by omega
  clear r1
  go_enter Try.func36, Try.ntmps36
  go_wp2_with fail
  go_loop [1, 5] (fun q i => ∃ i' : Nat, i' ≤ L.length ∧ q = .int .i64 (markUp L k i').2 ∧ i = .int .i64 i') (fun q i => L.length - (intOf i).toNat)
  case atStart => exact ⟨0, Nat.zero_le _, rfl, rfl⟩
  case round =>
    obtain ⟨i, hi, rfl, rfl⟩ := hrel
    by_cases hlt : i < L.length
    · obtain ⟨s, hs⟩ : ∃ s, L[i]? = some s := ⟨_, List.getElem?_eq_getElem hlt⟩
      have hst := Lib.hid (markUp_step L k i s hs)
      have hKi := hK.out i hi
      have hKb := bulkS_take L i s hs
      have hKl := bulkS_le L (i + 1)
      have hkk0 : 0 ≤ (markUp L k i).2 := by omega
      have hkk1 : (markUp L k i).2 + 4 + (s.lens.length : Int) + (s.ptrs.length : Int) ≤ 100000000000 := by
        simp only [SpanD.bulk] at hKb
        omega
      have hlt1 : (i : Int) < (L.length : Int) := by omega
      have hme := Lib.hid (spanEnd_eq s (markUp L k i).2)
      obtain ⟨b1, o1, rfl, hr⟩ := r1'.out i _ (markUp_done L k i L.length s hs hlt)
      rw [markSpan_eq] at hr
      obtain ⟨vl, vp, y0, y1, y2, y3, y4, y5, hl, hp⟩ := hr
      have hl' := Lib.hid hl
      have hp' := Lib.hid hp
      clear hs hKi hKb hKl hl hp
      generalize (markUp L k i).2 = kk at *
      have hll : s.lens.length ≤ 100000000000 := by omega
      have hpl : s.ptrs.length ≤ 100000000000 := by omega
      go_wp2_with fail
      refine (heldIntS_yes vl (kk + 1 + 1 + 1 + 1) s.lens.length (by omega) (by omega) (by omega) _ hl'.out).mono ?_
      rintro e w5 ⟨rfl, rfl⟩
      go_wp2_with fail
      refine (heldIntS_yes vp (kk + 1 + 1 + 1 + 1 + (s.lens.length : Int)) s.ptrs.length (by omega) (by omega) (by omega) _ hp'.out).mono ?_
      rintro e w5 ⟨rfl, rfl⟩
      go_wp2_with fail
      go_round
      case rel => exact ⟨i + 1, by omega, by rw [hst.out, hme.out], by go_num⟩
      case measure => simp [intOf]; omega
    · obtain rfl : i = L.length := by omega
      go_wp2_with fail
      go_ret
      exact ⟨rfl, rfl⟩

set_option maxRecDepth 100000 in
set_option maxHeartbeats 4000000 in
theorem heldMutS_yes (v : Value) (k : Int) (L : List (List Int)) (hk0 : 0 ≤ k) (hk : k + (bulkM L : Int) ≤ 100000000000) (hlL : L.length ≤ 100000000000) (w : World) (h1 : RdM w v (markM L k L.length).1) :
    Calls Try.prog 37 #[v, .int .i64 k] w fun e w' => e = .returned (.int .i64 (markM L k L.length).2) ∧ w = w' := by
  obtain ⟨a1, c1, rfl, _, r1⟩ := h1
  simp only [markM_len] at r1 ⊢
  have r1' := Lib.hid r1
  have hK := Lib.hid (markM_k L k)
  clear r1
  go_enter Try.func37, Try.ntmps37
  go_wp2_with fail
  go_loop [1, 5] (fun q i => ∃ i' : Nat, i' ≤ L.length ∧ q = .int .i64 (markM L k i').2 ∧ i = .int .i64 i') (fun q i => L.length - (intOf i).toNat)
  case atStart => exact ⟨0, Nat.zero_le _, rfl, rfl⟩
  case round =>
    obtain ⟨i, hi, rfl, rfl⟩ := hrel
    by_cases hlt : i < L.length
    · obtain ⟨r, hs⟩ : ∃ s, L[i]? = some s := ⟨_, List.getElem?_eq_getElem hlt⟩
      have hst := Lib.hid (markM_step L k i r hs)
      have hKi := hK.out i hi
      have hKb := bulkM_step L i r hs
      have hKl := bulkM_upto L (i + 1)
      have hkk0 : 0 ≤ (markM L k i).2 := by omega
      have hkk1 : (markM L k i).2 + (r.length : Int) ≤ 100000000000 := by omega
      have hlt1 : (i : Int) < (L.length : Int) := by omega
      obtain ⟨b1, o1, vr, rfl, y0, hr⟩ := r1'.out i _ (markM_done L k i L.length r hs hlt)
      have hr' := Lib.hid hr
      clear hs hKi hKb hKl hr
      generalize (markM L k i).2 = kk at *
      have hll : r.length ≤ 100000000000 := by omega
      go_wp2_with fail
      refine (heldIntS_yes vr kk r.length (by omega) (by omega) (by omega) _ hr'.out).mono ?_
      rintro e w5 ⟨rfl, rfl⟩
      go_wp2_with fail
      go_round
      case rel => exact ⟨i + 1, by omega, by rw [hst.out], by go_num⟩
      case measure => simp [intOf]; omega
    · obtain rfl : i = L.length := by omega
      go_wp2_with fail
      go_ret
      exact ⟨rfl, rfl⟩

set_option maxHeartbeats 1000000 in
theorem heldGc_yes (p q : Int) (v : Value) (k : Int) (n : Nat) (hk0 : 0 ≤ k) (hk : k ≤ 1000000000000) (hn : n ≤ 100000000000) (w : World) (h1 : Rd w v (seqL k n)) :
    Calls Try.prog 38 #[.agg #[.int .i64 p, .int .i64 q, v], .int .i64 k] w fun e w' => e = .returned (.int .i64 (k + (n : Int))) ∧ Below w.heap.size w w' := by
  have bb := below_box w (.cells #[.int .i64 p, .int .i64 q, v] 27)
  have hcall := Lib.hid (heldIntS_yes v k n (by omega) hk (by omega) _ (h1.below bb))
  have bb' := Lib.hid bb
  clear h1 bb
  go_enter Try.func38, Try.ntmps38
  go_wp2_with fail
  refine hcall.out.mono ?_
  rintro e w5 ⟨rfl, rfl⟩
  go_wp2_with fail
  go_ret
  exact ⟨rfl, bb'.out⟩
end Go.Proofs.Ytnmgecplagekcaa

/-
  The contracts of the laws' 'held..' functions: what was marked is still held.
-/
import Derived.Test.YtaaflpklbhjepaaMarkM
namespace Go.Proofs.Ytaaflpklbhjepaa
open Go.RowKit
set_option linter.unusedVariables false

theorem seqB_at (k : Int) (n j : Nat) (h : j < n) : (seqB k n)[j]?.getD false = ((k + (j : Int)) % 3 == 0) := by simp [seqB, h]

set_option maxRecDepth 100000 in
set_option maxHeartbeats 4000000 in
theorem heldMutS_yes (v : Value) (k : Int) (L : List (List Int)) (hk0 : 0 ≤ k) (hk : k + (bulkM L : Int) ≤ 100000000000) (hlL : L.length ≤ 100000000000) (w : World) (h1 : RdM w v (markM L k L.length).1) :
    Calls Try.prog 31 #[v, .int .i64 k] w fun e w' => e = .returned (.int .i64 (markM L k L.length).2) ∧ w = w' := by
  obtain ⟨a1, c1, rfl, _, r1⟩ := h1
  simp only [markM_len] at r1 ⊢
  have r1' := Lib.hid r1
  have hK := Lib.hid (markM_k L k)
  clear r1
  go_enter Try.func31, Try.ntmps31
  go_wp2_with fail
  go_loop [1, 5] (fun q i => ∃ i' : Nat, i' ≤ L.length ∧ q = .int .i64 (markM L k i').2 ∧ i = .int .i64 i') (fun q i => L.length - (intOf i).toNat)
  case atStart => exact ⟨0, Nat.zero_le _, rfl, rfl⟩
  case round =>
    obtain ⟨i, hi, rfl, rfl⟩ := hrel
    by_cases hlt : i < L.length
    · obtain ⟨r, hs⟩ : ∃ s, L[i]? = some s := ⟨_, List.getElem?_eq_getElem hlt⟩
      have hst := Lib.hid (markM_step L k i r hs)
      have hKi := hK.out i hi
      have hKb := bulkM_step L i r hs
      have hKl := bulkM_upto L (i + 1)
      have hkk0 : 0 ≤ (markM L k i).2 := by omega
      have hkk1 : (markM L k i).2 + (r.length : Int) ≤ 100000000000 := by omega
      have hlt1 : (i : Int) < (L.length : Int) := by omega
      obtain ⟨b1, o1, vr, rfl, y0, hr⟩ := r1'.out i _ (markM_done L k i L.length r hs hlt)
      have hr' := Lib.hid hr
      clear hs hKi hKb hKl hr
      generalize (markM L k i).2 = kk at *
      have hll : r.length ≤ 100000000000 := by omega
      go_wp2_with fail
      refine (heldIntS_yes vr kk r.length (by omega) (by omega) (by omega) _ hr'.out).mono ?_
      rintro e w5 ⟨rfl, rfl⟩
      go_wp2_with fail
      go_round
      case rel => exact ⟨i + 1, by omega, by rw [hst.out], by go_num⟩
      case measure => simp [intOf]; omega
    · obtain rfl : i = L.length := by omega
      go_wp2_with fail
      go_ret
      exact ⟨rfl, rfl⟩

end Go.Proofs.Ytaaflpklbhjepaa

/-
  Lists without their zeros: the program's withoutZeros.
-/
import Derived.Test.YtajogfnlbdiokaaSpecCards
import Derived.Test.YtajogfnlbdiokaaImplE
namespace Go.Proofs.Ytajogfnlbdiokaa
open Go.RowKit
set_option linter.unusedVariables false

def nz (L : List Int) : List Int := L.filter fun x => x != 0
theorem nz_zero {L : List Int} {k : Nat} (h : k < L.length) (hz : L[k]?.getD 0 = 0) : nz (L.take (k + 1)) = nz (L.take k) := by
  have e : L[k] = 0 := by simpa [List.getElem?_eq_getElem h] using hz
  unfold nz
  rw [List.take_succ_eq_append_getElem h, List.filter_append, e]
  simp
theorem nz_succ {L : List Int} {k : Nat} (h : k < L.length) (hz : ¬ L[k]?.getD 0 = 0) : nz (L.take (k + 1)) = nz (L.take k) ++ [L[k]?.getD 0] := by
  have e : L[k]?.getD 0 = L[k] := by simp [List.getElem?_eq_getElem h]
  rw [e] at hz ⊢
  unfold nz
  rw [List.take_succ_eq_append_getElem h, List.filter_append]
  simp [hz]
theorem nz_le (L : List Int) (k : Nat) : (nz (L.take k)).length ≤ k := Nat.le_trans (List.length_filter_le _ _) (by rw [List.length_take]; omega)

set_option maxRecDepth 100000 in
set_option maxHeartbeats 4000000 in
theorem withoutZeros_any (a : Option Addr) (c : Nat) (L : List Int) (hl : L.length ≤ 1048576) (w : World) (hr : Rd w (.slice a L.length c) L) :
    Calls Try.prog 104 #[.slice a L.length c] w fun e w' => ∃ v, e = .returned v ∧ w'.ownsRow w.heap.size 3 1 v (nz L).length ((nz L).map (Value.int .i64)) ∧ Below w.heap.size w w' := by
  have hr' := Lib.hid hr
  have hl' := Lib.hid hl
  obtain ⟨i0, hi, hz0, hz1, hz2⟩ := info_parts info3
  clear hr
  go_enter Try.func104, Try.ntmps104
  go_wp2_with fail
  go_loopw [3, 8] (fun v i wr => ∃ k : Nat, k ≤ L.length ∧ i = .int .i64 k ∧ wr.ownsRow w.heap.size 3 1 v (nz (L.take k)).length ((nz (L.take k)).map (Value.int .i64)) ∧ Below w.heap.size w wr) (fun v i _ => L.length - (intOf i).toNat)
  case atStart => exact ⟨0, Nat.zero_le _, rfl, World.ownsRow_nil _ _ _ _, Below.refl _ _⟩
  case round =>
    obtain ⟨k, hk, rfl, hown, hB⟩ := hrel
    by_cases hlt : k < L.length
    · obtain ⟨a', c', he, hll, xl⟩ := hr'.out.below hB
      obtain ⟨b, o, rfl, xj⟩ := xl k hlt
      obtain ⟨rfl, rfl⟩ : some (⟨b, o, none⟩ : Addr) = a ∧ c' = c := by simp at he; exact ⟨he.1.symm, he.2.symm⟩
      have hlt1 : (k : Int) < (L.length : Int) := by omega
      clear he xl hll
      by_cases hz : L[k]?.getD 0 = 0
      · have ho2 := Lib.hid (show wr.ownsRow w.heap.size 3 1 _ (nz (L.take (k + 1))).length ((nz (L.take (k + 1))).map (Value.int .i64)) by rw [nz_zero hlt hz]; exact hown)
        rw [hz] at xj
        have hB' := Lib.hid hB
        clear hown hB hz
        go_wp2_with fail
        go_roundw
        case rel => exact ⟨k + 1, by omega, by go_num, ho2.out, hB'.out⟩
        case measure => simp [intOf]; omega
      · have hBs := hB.size
        have hle := nz_le L k
        have e2 := Lib.hid (nz_succ hlt hz)
        generalize L[k]?.getD 0 = x at *
        have hzb : (x == 0) = false := beq_eq_false_iff_ne.2 hz
        go_wp2_with (at_builtin; refine wpList_append_own _ rfl _ _ 25 rfl w.heap.size 3 i0 (.int .i64 0) 1 8 Try.underlying25 hi hz0 hz1 hz2 rfl (by decide) _ _ _ rfl (hown.alloc _) ⟨wr.heap.size, 0, none⟩ 1 1 [.int .i64 x] rfl rfl (cell_one _ _ _) (by simp [Value.oneCell']) (by unfold maxLen; omega) (by omega) (by simp; omega) ?_; intro v' w1 hown' hgrow _)
        have hB' := row_below (hB.alloc hBs _) (hown.alloc _) hgrow (by simp; omega)
        have ho2 : w1.ownsRow w.heap.size 3 1 v' (nz (L.take (k + 1))).length ((nz (L.take (k + 1))).map (Value.int .i64)) := by rw [e2.out]; simpa using hown'
        clear hown' hgrow hown hB hBs xj
        go_wp2_with fail
        go_roundw
        case rel => exact ⟨k + 1, by omega, by go_num, ho2, hB'⟩
        case measure => simp [intOf]; omega
    · obtain rfl : k = L.length := by omega
      rw [List.take_length] at hown
      have hown' := Lib.hid hown
      clear hown
      go_wp2_with fail
      go_ret
      exact ⟨_, rfl, hown'.out, hB⟩
end Go.Proofs.Ytajogfnlbdiokaa

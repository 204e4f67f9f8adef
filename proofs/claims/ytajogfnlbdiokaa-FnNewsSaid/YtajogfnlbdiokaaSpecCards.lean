/-
  The contract of the model's CardsOf: as the program's. No conditions but that the arguments are ints.
-/
import Derived.Test.YtajogfnlbdiokaaCardsBase
import Derived.OwnWalk
import Derived.LoopTactic
namespace Go.Proofs.Ytajogfnlbdiokaa
open Go.RowKit
set_option linter.unusedVariables false

theorem cell_one (w : World) (t : TypeId) (x : Value) : ∀ j u, [x][j]? = some u → (w.alloc (.cells #[x] t)).cell? ((⟨w.heap.size, 0, none⟩ : Addr).add j) = some u := by
  intro j u hj
  match j, hj with
  | 0, hj => simp at hj; subst hj; simp [Addr.add]

theorem row_below {B : Nat} {a w w' : World} {size : Nat} {e : TypeId} {v : Value} {n : Nat} {xs : List Value} (h : Below B a w) (hr : w.ownsRow B e size v n xs) (hg : w.grownBy w' v.ownBlock) (hB : B ≤ w.heap.size) : Below B a w' :=
  h.grown hg hB fun k hk => (hr.lt k hk).1

set_option maxRecDepth 100000 in
set_option maxHeartbeats 1000000 in
theorem spec_cardsOf_in (f m : Int) (hf0 : 0 ≤ f) (hf : f ≤ 1000000) (hm1 : 1 ≤ m) (hm : m ≤ 32) (w : World) :
    Calls Try.prog 162 #[.int .i64 f, .int .i64 m] w fun e w' => ∃ v, e = .returned v ∧ w'.ownsRow w.heap.size 3 1 v (cnt f m) ((upto f (cnt f m)).map (Value.int .i64)) ∧ Below w.heap.size w w' := by
  have hcnt := cnt_le (f := f) hm1 hm
  obtain ⟨i0, hi, hz0, hz1, hz2⟩ := info_parts info3
  go_enter Try.func162, Try.ntmps162
  go_wp2
  go_loopw [5, 6] (fun v c wr => ∃ k : Nat, k ≤ cnt f m ∧ c = .int .i64 (f / 8 + (k : Int)) ∧ wr.ownsRow w.heap.size 3 1 v k ((upto f k).map (Value.int .i64)) ∧ Below w.heap.size w wr) (fun v c _ => cnt f m - (intOf c - f / 8).toNat)
  case atStart => exact ⟨0, Nat.zero_le _, by simp, World.ownsRow_nil _ _ _ _, Below.refl _ _⟩
  case round =>
    obtain ⟨k, hk, rfl, hown, hB⟩ := hrel
    by_cases hlt : k < cnt f m
    · have hle := cnt_lt hlt
      have hBs := hB.size
      go_wp2_with (at_builtin; refine wpList_append_own _ rfl _ _ 25 rfl w.heap.size 3 i0 (.int .i64 0) 1 8 Try.underlying25 hi hz0 hz1 hz2 rfl (by decide) _ _ _ rfl (hown.alloc _) ⟨wr.heap.size, 0, none⟩ 1 1 [.int .i64 (f / 8 + (k : Int))] rfl rfl (cell_one _ _ _) (by simp [Value.oneCell']) (by unfold maxLen; omega) (by omega) (by simp; omega) ?_; intro v' w1 hown' hgrow _)
      have hB' := row_below (hB.alloc hBs _) (hown.alloc _) hgrow (by simp; omega)
      have ho2 : w1.ownsRow w.heap.size 3 1 v' (k + 1) ((upto f (k + 1)).map (Value.int .i64)) := by rw [upto_succ]; simpa using hown'
      clear hown' hgrow hown hB hBs
      go_wp2
      go_roundw
      case rel => exact ⟨k + 1, by omega, by go_num, ho2, hB'⟩
      case measure => simp [intOf]; omega
    · have hkk : k = cnt f m := by omega
      have hle := cnt_end hkk hm1
      have hown' := hown
      rw [hkk] at hown'
      clear hkk hown hlt
      go_wp2
      go_ret
      exact ⟨_, rfl, hown', hB⟩

set_option maxHeartbeats 400000 in
theorem spec_cardsOf_no (f m : Int) (h : f < 0 ∨ 1000000 < f ∨ m < 1 ∨ 32 < m) (w : World) :
    Calls Try.prog 162 #[.int .i64 f, .int .i64 m] w fun e w' => e = .returned (.slice none 0 0) ∧ w = w' := by
  by_cases h1 : f < 0
  · go_enter Try.func162, Try.ntmps162
    go_wp2
    go_ret
    exact ⟨rfl, rfl⟩
  by_cases h2 : 1000000 < f
  · go_enter Try.func162, Try.ntmps162
    go_wp2
    go_ret
    exact ⟨rfl, rfl⟩
  by_cases h3 : m < 1
  · go_enter Try.func162, Try.ntmps162
    go_wp2
    go_ret
    exact ⟨rfl, rfl⟩
  have h4 : 32 < m := by omega
  clear h
  go_enter Try.func162, Try.ntmps162
  go_wp2
  go_ret
  exact ⟨rfl, rfl⟩

theorem spec_cardsOf_any (f m : Int) (w : World) :
    Calls Try.prog 162 #[.int .i64 f, .int .i64 m] w fun e w' => ∃ v, e = .returned v ∧ w'.ownsRow w.heap.size 3 1 v (cardsL f m).length ((cardsL f m).map (Value.int .i64)) ∧ Below w.heap.size w w' := by
  by_cases h : f < 0 ∨ 1000000 < f ∨ m < 1 ∨ 32 < m
  · refine (spec_cardsOf_no f m h w).mono fun e w' ⟨he, hw⟩ => ?_
    subst hw
    unfold cardsL
    rw [if_pos h]
    exact ⟨_, he, World.ownsRow_nil _ _ _ _, Below.refl _ _⟩
  · have hh := h
    refine (spec_cardsOf_in f m (by omega) (by omega) (by omega) (by omega) w).mono fun e w' ⟨v, he, hr, hb⟩ => ?_
    unfold cardsL
    rw [if_neg hh, upto_length]
    exact ⟨v, he, hr, hb⟩
end Go.Proofs.Ytajogfnlbdiokaa

/-
  The contract of the program's iterator of cards, and what the cards of a row of words are.
-/
import Derived.Test.YtajogfnlbdiokaaSizes
import Derived.RangeFuncNested
import Derived.RangeFuncBound
import Derived.RangeFuncCalls
import Derived.RangeFuncBox
import Derived.RangeFuncLeaves
import Derived.Shelf.Abstract
import Derived.Shelf.RegionOpen
import Derived.OwnWalkIn
import Derived.TacticsInMore
import Derived.LoopNIn
import Derived.LoopIn
import Derived.Maps.AppendAt
namespace Go.Proofs.Ytajogfnlbdiokaa
open Go.RowKit Go.Shelf
set_option linter.unusedVariables false

attribute [local go_sem] Oper.semAt_some

/-- How many cards there are. -/
def cnt (f m : Int) : Nat := ((f + m - 1) / 8 + 1 - f / 8).toNat
/-- The first k cards. -/
def upto (f : Int) (k : Nat) : List Int := (List.range k).map fun j : Nat => f / 8 + (j : Int)
theorem upto_succ (f : Int) (k : Nat) : upto f (k + 1) = upto f k ++ [f / 8 + (k : Int)] := by simp [upto, List.range_succ]
theorem upto_length (f : Int) (k : Nat) : (upto f k).length = k := by simp [upto]
theorem cnt_pos {f m : Int} (hm : 1 ≤ m) : 1 ≤ cnt f m := by unfold cnt; omega
theorem cnt_le {f m : Int} (hm : 1 ≤ m) (hm' : m ≤ 32) : cnt f m ≤ 5 := by unfold cnt; omega
theorem cnt_lt {f m : Int} {k : Nat} (h : k < cnt f m) : f / 8 + (k : Int) ≤ (f + m - 1) / 8 := by unfold cnt at h; omega
theorem cnt_end {f m : Int} {k : Nat} (h : k = cnt f m) (hm : 1 ≤ m) : (f + m - 1) / 8 < f / 8 + (k : Int) := by unfold cnt at h; omega

set_option maxRecDepth 100000 in
set_option maxHeartbeats 2000000 in
theorem cards1_in (F : Fence) (n : Nat) (h33 : F.fn 164) (hro : F.round = none) (hn : 1 ≤ n) (l B1 B2 n₀ : Nat) (f m : Int) (hf0 : 0 ≤ f) (hf : f ≤ 1000000) (hm1 : 1 ≤ m) (hm : m ≤ 32) (J Jx : List Int → World → Prop)
    (hY : ∀ pre x W, J pre W → pre.length < cnt f m → YieldAt F (n - 1) Try.prog l #[.int .i64 x] W fun e W' =>
      (e = .returned (.bool true) ∧ J (pre ++ [x]) W' ∧ Below n₀ W W') ∨ (e = .returned (.bool false) ∧ Jx (pre ++ [x]) W'))
    (W : World) (hB1 : W.cell? ⟨B1, 0, none⟩ = some (.int .i64 f)) (hB2 : W.cell? ⟨B2, 0, none⟩ = some (.int .i64 m)) (h0 : J [] W) :
    CallsIn F n Try.prog 164 #[.func (.yield l) #[] #[], .pointer (some ⟨B1, 0, none⟩), .pointer (some ⟨B2, 0, none⟩)] W fun e W' => (∃ v, e = .returned v) ∧
      ((∃ ys, ys = upto f (cnt f m) ∧ J ys W') ∨ (∃ pre, (∃ k, k ≤ cnt f m ∧ pre = upto f k) ∧ Jx pre W')) := by
  refine callsIn_of_wp Try.func164 rfl h33 ?_ hro
  simp only [Try.ntmps164, List.size_toArray, List.length_cons, List.length_nil, Nat.reduceAdd, Nat.reduceSub, Array.replicate_succ, Array.replicate_zero, List.push_toArray, List.append_toArray, List.nil_append, List.cons_append]
  gi_wp2
  gi_loopw [5] (fun c wr => ∃ k : Nat, k ≤ cnt f m ∧ c = .int .i64 (f / 8 + (k : Int)) ∧ J (upto f k) wr)
    (fun c _ => cnt f m - (intOf c - f / 8).toNat)
  case atStart => exact ⟨0, Nat.zero_le _, by simp, h0⟩
  case round =>
    obtain ⟨k, hk, rfl, hJs⟩ := hrel
    by_cases hlt : k < cnt f m
    · have hle := cnt_lt hlt
      obtain ⟨fn, tmps, assign, body, hy, hR⟩ := hY _ (f / 8 + (k : Int)) wr hJs (by rw [upto_length]; exact hlt)
      gi_wp2
      refine hR.mono ?_
      rintro e W3 (⟨rfl, hJ3, hk3⟩ | ⟨rfl, hJx3⟩)
      · gi_wp2
        go_roundw
        case rel => exact ⟨k + 1, by omega, by simp; omega, by rw [upto_succ]; exact hJ3⟩
        case measure => simp [intOf]; omega
      · gi_wp2
        refine bodyPost_ret (results_none rfl _ _ _) rfl ?_
        exact ⟨⟨_, rfl⟩, .inr ⟨_, ⟨k + 1, by omega, (upto_succ _ _).symm⟩, hJx3⟩⟩
    · have hkk : k = cnt f m := by omega
      have hle := cnt_end hkk hm1
      have hJs' : J (upto f (cnt f m)) wr := by rw [← hkk]; exact hJs
      clear hkk hJs hlt
      gi_wp2
      go_end0
      exact ⟨⟨_, rfl⟩, .inl ⟨_, rfl, hJs'⟩⟩

set_option maxHeartbeats 1000000 in
/-- cards(from, n): both are boxed; the function value captures the boxes. -/
theorem cards_in (F : Fence) (n : Nat) (h31 : F.fn 136) (hro : F.round = none) (f m : Int) (w : World) :
    CallsIn F n Try.prog 136 #[.int .i64 f, .int .i64 m] w fun e w' => e = .returned (.func (.func 164) #[] #[.pointer (some ⟨w.heap.size, 0, none⟩), .pointer (some ⟨w.heap.size + 1, 0, none⟩)]) ∧ w' = (w.alloc (.cells #[.int .i64 f] 3)).alloc (.cells #[.int .i64 m] 3) := by
  refine callsIn_of_wp Try.func136 rfl h31 ?_ hro
  simp only [Try.ntmps136, List.size_toArray, List.length_cons, List.length_nil, Nat.reduceAdd, Nat.reduceSub, Array.replicate_succ, Array.replicate_zero, List.push_toArray, List.append_toArray, List.nil_append, List.cons_append]
  gi_wp2
  go_ret
  exact ⟨rfl, rfl⟩

theorem cards_stops (F : Fence) (n : Nat) (h33 : F.fn 164) (hro : F.round = none) (hn : 1 ≤ n) (B1 B2 n₀ : Nat) (f m : Int) (hf0 : 0 ≤ f) (hf : f ≤ 1000000) (hm1 : 1 ≤ m) (hm : m ≤ 32) (w : World) (hb1 : B1 < w.heap.size) (hb2 : B2 < w.heap.size)
    (hc1 : w.cell? ⟨B1, 0, none⟩ = some (.int .i64 f)) (hc2 : w.cell? ⟨B2, 0, none⟩ = some (.int .i64 m)) :
    SeqStopsK F n Try.prog 164 #[.pointer (some ⟨B1, 0, none⟩), .pointer (some ⟨B2, 0, none⟩)] (fun x : Int => #[Value.int .i64 x]) (Below n₀) (fun ys => ys = upto f (cnt f m)) (fun pre => ∃ k, k ≤ cnt f m ∧ pre = upto f k) (cnt f m) w := fun l J Jx W hW _ _ hY h0 =>
  cards1_in F n h33 hro hn l B1 B2 n₀ f m hf0 hf hm1 hm J Jx hY W ((hW.cell (p := ⟨B1, 0, none⟩) hb1).trans hc1) ((hW.cell (p := ⟨B2, 0, none⟩) hb2).trans hc2) h0

theorem info3 : (Try.prog.info? 3).map (fun i => (i.zero, i.size, i.bytes)) = some (some (.int .i64 0), 1, 8) := by kernel_rfl

/-- The cards that are told: none where an argument is not as the chapter wants it. -/
def cardsL (f m : Int) : List Int := if f < 0 ∨ 1000000 < f ∨ m < 1 ∨ 32 < m then [] else upto f (cnt f m)

end Go.Proofs.Ytajogfnlbdiokaa

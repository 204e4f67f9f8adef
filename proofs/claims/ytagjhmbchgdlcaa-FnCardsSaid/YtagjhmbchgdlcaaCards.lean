/-
  The contract of the program's CardsOf: in range it hands back a new slice that owns the cards, ascending; else nil. No conditions but that the arguments are ints.
-/
import Derived.Test.YtagjhmbchgdlcaaSizes
import Derived.RangeFuncNested
import Derived.RangeFuncBound
import Derived.RangeFuncCalls
import Derived.RangeFuncBox
import Derived.RangeFuncLeaves
import Derived.Shelf.Abstract
import Derived.Shelf.RegionOpen
import Derived.OwnWalkIn
import Derived.TacticsInMore
import Derived.LoopNIn
import Derived.LoopIn
import Derived.Maps.AppendAt
import Derived.Outline
namespace Go.Proofs.Ytagjhmbchgdlcaa
open Go.RowKit Go.Shelf
set_option linter.unusedVariables false

attribute [local go_sem] Oper.semAt_some

/-- How many cards there are. -/
def cnt (f m : Int) : Nat := ((f + m - 1) / 8 + 1 - f / 8).toNat
/-- The first k cards. -/
def upto (f : Int) (k : Nat) : List Int := (List.range k).map fun j : Nat => f / 8 + (j : Int)
theorem upto_succ (f : Int) (k : Nat) : upto f (k + 1) = upto f k ++ [f / 8 + (k : Int)] := by simp [upto, List.range_succ]
theorem upto_length (f : Int) (k : Nat) : (upto f k).length = k := by simp [upto]
theorem cnt_pos {f m : Int} (hm : 1 ≤ m) : 1 ≤ cnt f m := by unfold cnt; omega
theorem cnt_le {f m : Int} (hm : 1 ≤ m) (hm' : m ≤ 32) : cnt f m ≤ 5 := by unfold cnt; omega
theorem cnt_lt {f m : Int} {k : Nat} (h : k < cnt f m) : f / 8 + (k : Int) ≤ (f + m - 1) / 8 := by unfold cnt at h; omega
theorem cnt_end {f m : Int} {k : Nat} (h : k = cnt f m) (hm : 1 ≤ m) : (f + m - 1) / 8 < f / 8 + (k : Int) := by unfold cnt at h; omega

set_option maxRecDepth 100000 in
set_option maxHeartbeats 2000000 in
theorem cards1_in (F : Fence) (n : Nat) (h33 : F.fn 33) (hro : F.round = none) (hn : 1 ≤ n) (l B1 B2 n₀ : Nat) (f m : Int) (hf0 : 0 ≤ f) (hf : f ≤ 1000000) (hm1 : 1 ≤ m) (hm : m ≤ 32) (J Jx : List Int → World → Prop)
    (hY : ∀ pre x W, J pre W → pre.length < cnt f m → YieldAt F (n - 1) Try.prog l #[.int .i64 x] W fun e W' =>
      (e = .returned (.bool true) ∧ J (pre ++ [x]) W' ∧ Below n₀ W W') ∨ (e = .returned (.bool false) ∧ Jx (pre ++ [x]) W'))
    (W : World) (hB1 : W.cell? ⟨B1, 0, none⟩ = some (.int .i64 f)) (hB2 : W.cell? ⟨B2, 0, none⟩ = some (.int .i64 m)) (h0 : J [] W) :
    CallsIn F n Try.prog 33 #[.func (.yield l) #[] #[], .pointer (some ⟨B1, 0, none⟩), .pointer (some ⟨B2, 0, none⟩)] W fun e W' => (∃ v, e = .returned v) ∧
      ((∃ ys, ys = upto f (cnt f m) ∧ J ys W') ∨ (∃ pre, (∃ k, k ≤ cnt f m ∧ pre = upto f k) ∧ Jx pre W')) := by
  refine callsIn_of_wp Try.func33 rfl h33 ?_ hro
  simp only [Try.ntmps33, List.size_toArray, List.length_cons, List.length_nil, Nat.reduceAdd, Nat.reduceSub, Array.replicate_succ, Array.replicate_zero, List.push_toArray, List.append_toArray, List.nil_append, List.cons_append]
  gi_wp2
  gi_loopw [5] (fun c wr => ∃ k : Nat, k ≤ cnt f m ∧ c = .int .i64 (f / 8 + (k : Int)) ∧ J (upto f k) wr)
    (fun c _ => cnt f m - (intOf c - f / 8).toNat)
  case atStart => exact ⟨0, Nat.zero_le _, by simp, h0⟩
  case round =>
    obtain ⟨k, hk, rfl, hJs⟩ := hrel
    by_cases hlt : k < cnt f m
    · have hle := cnt_lt hlt
      obtain ⟨fn, tmps, assign, body, hy, hR⟩ := hY _ (f / 8 + (k : Int)) wr hJs (by rw [upto_length]; exact hlt)
      gi_wp2
      refine hR.mono ?_
      rintro e W3 (⟨rfl, hJ3, hk3⟩ | ⟨rfl, hJx3⟩)
      · gi_wp2
        go_roundw
        case rel => exact ⟨k + 1, by omega, by simp; omega, by rw [upto_succ]; exact hJ3⟩
        case measure => simp [intOf]; omega
      · gi_wp2
        refine bodyPost_ret (results_none rfl _ _ _) rfl ?_
        exact ⟨⟨_, rfl⟩, .inr ⟨_, ⟨k + 1, by omega, (upto_succ _ _).symm⟩, hJx3⟩⟩
    · have hkk : k = cnt f m := by omega
      have hle := cnt_end hkk hm1
      have hJs' : J (upto f (cnt f m)) wr := by rw [← hkk]; exact hJs
      clear hkk hJs hlt
      gi_wp2
      go_end0
      exact ⟨⟨_, rfl⟩, .inl ⟨_, rfl, hJs'⟩⟩

set_option maxHeartbeats 1000000 in
/-- cards(from, n): both are boxed; the function value captures the boxes. -/
theorem cards_in (F : Fence) (n : Nat) (h31 : F.fn 31) (hro : F.round = none) (f m : Int) (w : World) :
    CallsIn F n Try.prog 31 #[.int .i64 f, .int .i64 m] w fun e w' => e = .returned (.func (.func 33) #[] #[.pointer (some ⟨w.heap.size, 0, none⟩), .pointer (some ⟨w.heap.size + 1, 0, none⟩)]) ∧ w' = (w.alloc (.cells #[.int .i64 f] 3)).alloc (.cells #[.int .i64 m] 3) := by
  refine callsIn_of_wp Try.func31 rfl h31 ?_ hro
  simp only [Try.ntmps31, List.size_toArray, List.length_cons, List.length_nil, Nat.reduceAdd, Nat.reduceSub, Array.replicate_succ, Array.replicate_zero, List.push_toArray, List.append_toArray, List.nil_append, List.cons_append]
  gi_wp2
  go_ret
  exact ⟨rfl, rfl⟩

theorem cards_stops (F : Fence) (n : Nat) (h33 : F.fn 33) (hro : F.round = none) (hn : 1 ≤ n) (B1 B2 n₀ : Nat) (f m : Int) (hf0 : 0 ≤ f) (hf : f ≤ 1000000) (hm1 : 1 ≤ m) (hm : m ≤ 32) (w : World) (hb1 : B1 < w.heap.size) (hb2 : B2 < w.heap.size)
    (hc1 : w.cell? ⟨B1, 0, none⟩ = some (.int .i64 f)) (hc2 : w.cell? ⟨B2, 0, none⟩ = some (.int .i64 m)) :
    SeqStopsK F n Try.prog 33 #[.pointer (some ⟨B1, 0, none⟩), .pointer (some ⟨B2, 0, none⟩)] (fun x : Int => #[Value.int .i64 x]) (Below n₀) (fun ys => ys = upto f (cnt f m)) (fun pre => ∃ k, k ≤ cnt f m ∧ pre = upto f k) (cnt f m) w := fun l J Jx W hW _ _ hY h0 =>
  cards1_in F n h33 hro hn l B1 B2 n₀ f m hf0 hf hm1 hm J Jx hY W ((hW.cell (p := ⟨B1, 0, none⟩) hb1).trans hc1) ((hW.cell (p := ⟨B2, 0, none⟩) hb2).trans hc2) h0

theorem info3 : (Try.prog.info? 3).map (fun i => (i.zero, i.size, i.bytes)) = some (some (.int .i64 0), 1, 8) := by kernel_rfl

set_option maxRecDepth 100000 in
set_option maxHeartbeats 2000000 in
theorem cardsOf_in (F : Fence) (n : Nat) (h15 : F.fn 15) (h31 : F.fn 31) (h33 : F.fn 33) (hro : F.round = none) (hn : 3 ≤ n) (f m : Int) (hf0 : 0 ≤ f) (hf : f ≤ 1000000) (hm1 : 1 ≤ m) (hm : m ≤ 32) (w : World) :
    CallsIn F n Try.prog 15 #[.int .i64 f, .int .i64 m] w fun e W' => ∃ v, e = .returned v ∧ W'.ownsRow w.heap.size 3 1 v (cnt f m) ((upto f (cnt f m)).map (Value.int .i64)) ∧ Below w.heap.size w W' := by
  have h1 : 1 ≤ n := by omega
  have hcnt := cnt_le (f := f) hm1 hm
  obtain ⟨i0, hi, hz0, hz1, hz2⟩ := info_parts info3
  refine callsIn_of_wp_marks Try.func15 rfl h15 ?_ hro
  simp only [Try.ntmps15, List.size_toArray, List.length_cons, List.length_nil, Nat.reduceAdd, Nat.reduceSub, Array.replicate_succ, Array.replicate_zero, List.push_toArray, List.append_toArray, List.nil_append, List.cons_append]
  gi_wp2_with (gi_at_call 31; refine (cards_in F (n - 1) h31 hro _ _ _).mono ?_; rintro e w' ⟨rfl, rfl⟩)
  have bO := Boxed.new w 29 (.slice none 0 0)
  have bF := Boxed.new (w.alloc (.cells #[.slice none 0 0] 29)) 3 (.int .i64 f)
  have bN := Boxed.new ((w.alloc (.cells #[.slice none 0 0] 29)).alloc (.cells #[.int .i64 f] 3)) 3 (.int .i64 m)
  rw [World.size_alloc] at bF bN
  rw [World.size_alloc] at bN
  have bF' := bF.alloc (.cells #[.int .i64 m] 3)
  have hB0 : Below w.heap.size w (((w.alloc (.cells #[.slice none 0 0] 29)).alloc (.cells #[.int .i64 f] 3)).alloc (.cells #[.int .i64 m] 3)) := (((Below.refl _ w).alloc (Nat.le_refl _) _).alloc (by simp) _).alloc (by simp; omega) _
  refine wpIn_rangeFunc_ownG hro h1 (gf := 33) (lb := #[.pointer (some ⟨w.heap.size + 1, 0, none⟩), .pointer (some ⟨w.heap.size + 1 + 1, 0, none⟩)]) rfl h33 (enters_of Try.func33 (by kernel_rfl) rfl)
    (cards_stops F (n - 1) h33 hro (by omega) (w.heap.size + 1) (w.heap.size + 1 + 1) w.heap.size f m hf0 hf hm1 hm _ (by simp) (by simp) bF'.cell bN.cell) belowK_t (belowK_b (by simp; omega)) (Below.refl _ _) (fun _ => rfl)
    (fun (pre : List Int) W => (∃ v, Boxed W w.heap.size 29 v ∧ W.ownsRow w.heap.size 3 1 v pre.length (pre.map (Value.int .i64)) ∧ True) ∧ Below w.heap.size w W)
    (fun _ _ _ => False)
    (OwnFrom.and (Own.from (holdsRow_own w.heap.size w.heap.size 29 3 1 (fun pre : List Int => pre.length) (fun pre : List Int => pre.map (Value.int .i64)) (fun _ _ => True)) _) (ownFrom_below (Nat.le_refl _) (by simp; omega)))
    (fun _ _ _ _ _ hs _ _ => hs)
    ⟨⟨_, (bO.alloc _).alloc _, World.ownsRow_nil _ _ _ _, trivial⟩, hB0⟩
    (fun x => { tmps := #[.int .i64 f, .int .i64 m, undef, undef, .slice none 0 0, .pointer (some ⟨w.heap.size, 0, none⟩), .int .i64 x, .int .i64 f,
      .bool (decide (f < 0)), .bool (decide (f < 0)), .int .i64 f, .bool (decide (1000000 < f)), .bool (decide (f < 0) || decide (1000000 < f)),
      .bool (decide (f < 0) || decide (1000000 < f)), .int .i64 m, .bool (decide (m < 1)), .bool (decide (f < 0) || decide (1000000 < f) || decide (m < 1)),
      .bool (decide (f < 0) || decide (1000000 < f) || decide (m < 1)), .int .i64 m, .bool (decide (32 < m)), .bool (decide (f < 0) || decide (1000000 < f) || decide (m < 1) || decide (32 < m)),
      .int .i64 f, .int .i64 m, .func (.func 33) #[] #[.pointer (some ⟨w.heap.size + 1, 0, none⟩), .pointer (some ⟨w.heap.size + 1 + 1, 0, none⟩)], .int .i64 x, undef, undef, undef, undef, undef], defers := [] }) ?assign ?body ?done ?stop
  case assign =>
    intro l x W K hK
    gi_wp2
    exact hK
  case body =>
    rintro l pre x W ⟨⟨v, hv, hrow, _⟩, hB⟩ hlt
    have hc := hv.cell
    gi_wp2_with (gi_at_builtin; refine wpListIn_append_own _ rfl _ _ 29 rfl w.heap.size 3 i0 (.int .i64 0) 1 8 Try.underlying29 hi hz0 hz1 hz2 rfl (by decide) _ _ _ rfl (hrow.alloc _) ⟨W.heap.size, 0, none⟩ 1 1 [.int .i64 x] rfl rfl (cell_one_new _ _ _) (by simp [Value.oneCell']) (by unfold maxLen; omega) (by omega) (by have := hB.size; simp; omega) ?_; intro v' w1 hown' hgrow _; obtain ⟨g', cap', rfl⟩ := ownsRow_succ hown'; obtain ⟨hv1, hv2, hr2, hk2, hb2⟩ := hv.appended (by decide) hrow hB.size (Nat.le_refl _) hown' hgrow; have hc1 := hv1.cell; have hf1 := hv1.frozen)
    exact ⟨hk2.from _, hb2, ⟨_, hv2, by simpa using hr2, trivial⟩, hB.trans hb2⟩
  case done =>
    rintro D ys W hD rfl ⟨⟨v, hv, hrow, _⟩, hB⟩ hK
    have hc := hv.cell
    rw [upto_length] at hrow
    gi_wp2
    refine ⟨by simp, .inl ⟨_, _, rfl, run_takeDeferred hK, ?_⟩⟩
    exact ⟨_, results_tmp rfl _ _ _, v, rfl, ownsRow_putObj hrow _ hK rfl, hB.trans (belowK_b (w := w) (Nat.le_refl _) W D _ _ (by simp at hD; omega) hK rfl rfl)⟩
  case stop =>
    rintro D c pre W _ _ h _
    exact h.elim

/-- The cards that are told: none where an argument is not as the chapter wants it. -/
def cardsL (f m : Int) : List Int := if f < 0 ∨ 1000000 < f ∨ m < 1 ∨ 32 < m then [] else upto f (cnt f m)

set_option maxHeartbeats 400000 in
theorem cardsOf_no (f m : Int) (h : f < 0 ∨ 1000000 < f ∨ m < 1 ∨ 32 < m) (w : World) :
    Calls Try.prog 15 #[.int .i64 f, .int .i64 m] w fun e w' => e = .returned (.slice none 0 0) ∧ w = w' := by
  by_cases h1 : f < 0
  · go_enter Try.func15, Try.ntmps15
    go_wp2
    go_ret
    exact ⟨rfl, rfl⟩
  by_cases h2 : 1000000 < f
  · go_enter Try.func15, Try.ntmps15
    go_wp2
    go_ret
    exact ⟨rfl, rfl⟩
  by_cases h3 : m < 1
  · go_enter Try.func15, Try.ntmps15
    go_wp2
    go_ret
    exact ⟨rfl, rfl⟩
  have h4 : 32 < m := by omega
  clear h
  go_enter Try.func15, Try.ntmps15
  go_wp2
  go_ret
  exact ⟨rfl, rfl⟩

/-- WHAT CardsOf HANDS BACK: a slice of its own that holds the cards. -/
theorem cardsOf_any (f m : Int) (w : World) :
    Calls Try.prog 15 #[.int .i64 f, .int .i64 m] w fun e w' => ∃ v, e = .returned v ∧ w'.ownsRow w.heap.size 3 1 v (cardsL f m).length ((cardsL f m).map (Value.int .i64)) ∧ Below w.heap.size w w' := by
  by_cases h : f < 0 ∨ 1000000 < f ∨ m < 1 ∨ 32 < m
  · refine (cardsOf_no f m h w).mono fun e w' ⟨he, hw⟩ => ?_
    subst hw
    unfold cardsL
    rw [if_pos h]
    exact ⟨_, he, World.ownsRow_nil _ _ _ _, Below.refl _ _⟩
  · have hh := h
    refine (callsIn_wide (n := 3)).1 ((cardsOf_in Fence.wide 3 trivial trivial trivial rfl (by omega) f m (by omega) (by omega) (by omega) (by omega) w).mono fun e w' ⟨v, he, hr, hb⟩ => ?_)
    unfold cardsL
    rw [if_neg hh, upto_length]
    exact ⟨v, he, hr, hb⟩
end Go.Proofs.Ytagjhmbchgdlcaa

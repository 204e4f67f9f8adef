/-
  The program's writtenEvents and eventNamed.
-/
import Derived.Test.YtjldjeokcpjgkaaDoorTxP
import Derived.Test.YtjldjeokcpjgkaaDoorTxR
namespace Go.Proofs.YtjldjeokcpjgkaaDoor
open Go.RowKit
set_option linter.unusedVariables false
set_option linter.unusedSimpArgs false

def evK (k ok : Int) : EvD := { zeroE with k := k, ok := ok }
def list1 (q : Nat) : List EvD := (List.range q).map fun (j : Nat) => evK 1 ((j : Int) + 1)
def list2 (q : Nat) : List EvD := list1 9 ++ (List.range q).map fun (j : Nat) => evK ((j : Int) + 2) 0
theorem list1_succ (q : Nat) : list1 (q + 1) = list1 q ++ [evK 1 ((q : Int) + 1)] := by unfold list1; rw [List.range_succ, List.map_append]; rfl
theorem list2_succ (q : Nat) : list2 (q + 1) = list2 q ++ [evK ((q : Int) + 2) 0] := by unfold list2; rw [List.range_succ, List.map_append, List.append_assoc]; rfl
theorem list1_len (q : Nat) : (list1 q).length = q := by simp [list1]
theorem list2_len (q : Nat) : (list2 q).length = 9 + q := by simp [list2, list1_len]
theorem list2_all : list2 6 = kinds.map fun r => evK r.k r.ok := by rfl
theorem flatE_snoc (L : List EvD) (E : EvD) : flatE (L ++ [E]) = flatE L ++ E.cells.toList := by simp [flatE]
theorem cell_of_row (w : World) (xs : Array Value) (t : TypeId) : ∀ j u, xs.toList[j]? = some u → (w.alloc (.cells xs t)).cell? ((⟨w.heap.size, 0, none⟩ : Addr).add j) = some u := by
  intro j u h
  have h1 : xs[j]? = some u := by simpa using h
  have := cell_of_heap (box_new w (.cells xs t)) j u h1
  rw [show (⟨w.heap.size, 0, none⟩ : Addr).add j = ⟨w.heap.size, 0 + j, none⟩ from Addr.add_lit .., Nat.zero_add]
  exact this

set_option maxRecDepth 100000 in
set_option maxHeartbeats 8000000 in
theorem iwritten_any (w : World) : Calls Tryd.prog 47 #[] w fun e w' => ∃ v, e = .returned v ∧ w'.ownsRow w.heap.size 29 11 v 15 (flatE (list2 6)) ∧ Below w.heap.size w w' := by
  obtain ⟨i0, hi, hz0, hz1, hz2⟩ := info_parts infoEv
  go_enter Tryd.func47, Tryd.ntmps47
  go_wp2_with fail
  go_loopw [1, 2] (fun v i wr => ∃ (q : Nat), q ≤ 9 ∧ i = .int .i64 ((q : Int) + 1) ∧ wr.ownsRow w.heap.size 29 11 v q (flatE (list1 q)) ∧ Below w.heap.size w wr) (fun v i _ => 10 - (Go.RowKit.intOf i).toNat)
  case atStart => exact ⟨0, by omega, rfl, World.ownsRow_nil _ _ _ _, Below.refl _ _⟩
  case round =>
    obtain ⟨q, hq, rfl, hown, hB⟩ := hrel
    have hBs := hB.size
    have hown' := Lib.hid hown
    have hB' := Lib.hid hB
    by_cases hlt : q < 9
    · have hl1 : (q : Int) + 1 ≤ 9 := by omega
      have hs := Lib.hid (show flatE (list1 (q + 1)) = flatE (list1 q) ++ (evK 1 ((q : Int) + 1)).cells.toList by rw [list1_succ, flatE_snoc])
      clear hown hB
      generalize flatE (list1 q) = xs at *
      go_wp2_with (at_builtin; refine wpList_append_own _ rfl _ _ 39 rfl w.heap.size 29 i0 (.agg zero11.toArray) 11 88 Tryd.underlying39 hi hz0 hz1 hz2 rfl (by decide) _ _ _ rfl (hown'.out.alloc _) ⟨wr.heap.size, 0, none⟩ 1 1 (evK 1 ((q : Int) + 1)).cells.toList rfl rfl (cell_of_row _ _ _) (by simp [Value.oneCell', evK, EvD.cells]) (by unfold maxLen; omega) (by omega) (by simp; omega) ?_; intro v' w4 hown4 hgrow _)
      have hB4 := hB'.out.trans ((below_box wr (.cells (evK 1 ((q : Int) + 1)).cells 29)).mono hBs)
      have hB5 := Lib.hid (hB4.grown hgrow (by simp; omega) fun q hq => (hown'.out.lt q hq).1)
      have hown5 := Lib.hid hown4
      clear hown4 hgrow hB4
      go_wp2_with fail
      go_roundw
      case rel => exact ⟨q + 1, by omega, by go_num, by rw [hs.out]; exact hown5.out, hB5.out⟩
      case measure => simp [Go.RowKit.intOf]; omega
    · obtain rfl : q = 9 := by omega
      clear hown hB
      go_wp2_with fail
      go_loopw [1, 3] (fun v i wr => ∃ (q : Nat), q ≤ 6 ∧ i = .int .i64 ((q : Int) + 2) ∧ wr.ownsRow w.heap.size 29 11 v (9 + q) (flatE (list2 q)) ∧ Below w.heap.size w wr) (fun v i _ => 8 - (Go.RowKit.intOf i).toNat)
      case atStart => exact ⟨0, by omega, rfl, by simpa [list2] using hown'.out, hB'.out⟩
      case round =>
        obtain ⟨q, hq, rfl, hown, hB⟩ := hrel
        have hBs := hB.size
        have hown' := Lib.hid hown
        have hB' := Lib.hid hB
        by_cases hlt : q < 6
        · have hl1 : (q : Int) + 2 ≤ 7 := by omega
          have hs := Lib.hid (show flatE (list2 (q + 1)) = flatE (list2 q) ++ (evK ((q : Int) + 2) 0).cells.toList by rw [list2_succ, flatE_snoc])
          clear hown hB
          generalize flatE (list2 q) = xs at *
          go_wp2_with (at_builtin; refine wpList_append_own _ rfl _ _ 39 rfl w.heap.size 29 i0 (.agg zero11.toArray) 11 88 Tryd.underlying39 hi hz0 hz1 hz2 rfl (by decide) _ _ _ rfl (hown'.out.alloc _) ⟨wr.heap.size, 0, none⟩ 1 1 (evK ((q : Int) + 2) 0).cells.toList rfl rfl (cell_of_row _ _ _) (by simp [Value.oneCell', evK, EvD.cells]) (by unfold maxLen; omega) (by omega) (by simp; omega) ?_; intro v' w4 hown4 hgrow _)
          have hB4 := hB'.out.trans ((below_box wr (.cells (evK ((q : Int) + 2) 0).cells 29)).mono hBs)
          have hB5 := Lib.hid (hB4.grown hgrow (by simp; omega) fun q hq => (hown'.out.lt q hq).1)
          have hown5 := Lib.hid hown4
          clear hown4 hgrow hB4
          go_wp2_with fail
          go_roundw
          case rel => first | exact ⟨q + 1, by omega, by go_num, by rw [hs.out]; exact hown5.out, hB5.out⟩ | ((repeat apply Exists.intro); exact ⟨⟨q + 1, by omega, by go_num, by rw [hs.out]; exact hown5.out, hB5.out⟩, rfl⟩)
          case measure => simp [Go.RowKit.intOf]; omega
        · obtain rfl : q = 6 := by omega
          clear hown hB
          go_wp2_with fail
          go_ret
          exact ⟨_, rfl, hown'.out, hB'.out⟩
end Go.Proofs.YtjldjeokcpjgkaaDoor

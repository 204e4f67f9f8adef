/-
  The program's listOf at int, bool and Mut: a list of one's own with the same elements.
-/
import Derived.Test.YtajogfnlbdiokaaApp
import Derived.Laws.CopyOwn
import Derived.Deep.OwnRows
namespace Go.Proofs.Ytajogfnlbdiokaa
open Go.RowKit
set_option linter.unusedVariables false
set_option linter.unusedSimpArgs false

set_option maxRecDepth 100000 in
set_option maxHeartbeats 4000000 in
theorem listInt_any (A : Option Addr) (n c : Nat) (news : List Value) (hs : n ≤ 1048576) (w : World) (h : SrcIs w A n 1 news) :
    Calls Try.prog 128 #[.slice A n c] w fun e w' => ∃ v, e = .returned v ∧ w'.ownsRow w.heap.size 3 1 v n news ∧ Below w.heap.size w w' := by
  by_cases hn : n = 0
  · subst hn
    obtain rfl : news = [] := List.length_eq_zero_iff.1 (by simpa using h.len)
    clear h
    go_enter Try.func128, Try.ntmps128
    go_wp2_with fail
    go_ret
    exact ⟨_, rfl, World.ownsRow_nil _ _ _ _, Below.refl _ _⟩
  · have hlen : news.length = n := by have := h.len; omega
    obtain ⟨ad, rfl⟩ : ∃ ad, A = some ad := by
      obtain ⟨a, e, _⟩ := h.at_ 0 news[0] (List.getElem?_eq_getElem (by omega))
      exact ⟨a, e⟩
    have h' := Lib.hid (h.below (below_box w (.cells (madeCells #[.int .i64 0] n) 3)))
    have mk := run_make_row' (P := Try.prog) 25 3 (.int .i64 0) 8 Try.underlying25 infoInt rfl .i64 .i64 n (by omega) (by omega)
    have hlen' := Lib.hid hlen
    have hnz : ¬ (n : Int) = 0 := by omega
    clear h hlen
    go_enter Try.func128, Try.ntmps128
    go_wp2_with (first
      | (refine wpList_copy_own rfl (.tmp 10) (.tmp 11) 25 25 rfl 3 Try.underlying25 (by kernel_rfl) w.heap.size 0 n n ad n c rfl rfl (madeCells #[.int .i64 0] n) 3 (box_new w _) news (by rw [hlen'.out]; exact (Nat.min_self n).symm) (fun j u hj => (by obtain ⟨a, e, hc⟩ := h'.out.at_ j u hj; cases e; exact hc)) (by rw [hlen'.out]; simp [size_madeCells]) h'.out.one ?_))
    go_ret
    refine ⟨_, rfl, ⟨by simpa using hlen'.out, .inr ⟨w.heap.size, n, _, rfl, Nat.le_refl _, setRow_heap _ _ _ _ _ _ (box_new w _), Nat.le_refl _, by unfold maxLen; omega, ?_, ?_⟩⟩, below_setRow (below_box w _) (Nat.le_refl _) _⟩
    · simp [hlen'.out, size_madeCells]
    · have e : List.drop n (madeCells #[.int .i64 0] n).toList = [] := List.drop_eq_nil_iff.2 (by simp [size_madeCells])
      have hl := hlen'.out
      rw [List.toList_toArray, hl, e, List.append_nil, Nat.mul_one, List.take_of_length_le (by omega)]

set_option maxRecDepth 100000 in
set_option maxHeartbeats 4000000 in
theorem listBool_any (A : Option Addr) (n c : Nat) (news : List Value) (hs : n ≤ 1048576) (w : World) (h : SrcIs w A n 1 news) :
    Calls Try.prog 129 #[.slice A n c] w fun e w' => ∃ v, e = .returned v ∧ w'.ownsRow w.heap.size 4 1 v n news ∧ Below w.heap.size w w' := by
  by_cases hn : n = 0
  · subst hn
    obtain rfl : news = [] := List.length_eq_zero_iff.1 (by simpa using h.len)
    clear h
    go_enter Try.func129, Try.ntmps129
    go_wp2_with fail
    go_ret
    exact ⟨_, rfl, World.ownsRow_nil _ _ _ _, Below.refl _ _⟩
  · have hlen : news.length = n := by have := h.len; omega
    obtain ⟨ad, rfl⟩ : ∃ ad, A = some ad := by
      obtain ⟨a, e, _⟩ := h.at_ 0 news[0] (List.getElem?_eq_getElem (by omega))
      exact ⟨a, e⟩
    have h' := Lib.hid (h.below (below_box w (.cells (madeCells #[.bool false] n) 4)))
    have mk := run_make_row' (P := Try.prog) 26 4 (.bool false) 1 Try.underlying26 infoBool rfl .i64 .i64 n (by omega) (by omega)
    have hlen' := Lib.hid hlen
    have hnz : ¬ (n : Int) = 0 := by omega
    clear h hlen
    go_enter Try.func129, Try.ntmps129
    go_wp2_with (first
      | (refine wpList_copy_own rfl (.tmp 10) (.tmp 11) 26 26 rfl 4 Try.underlying26 (by kernel_rfl) w.heap.size 0 n n ad n c rfl rfl (madeCells #[.bool false] n) 4 (box_new w _) news (by rw [hlen'.out]; exact (Nat.min_self n).symm) (fun j u hj => (by obtain ⟨a, e, hc⟩ := h'.out.at_ j u hj; cases e; exact hc)) (by rw [hlen'.out]; simp [size_madeCells]) h'.out.one ?_))
    go_ret
    refine ⟨_, rfl, ⟨by simpa using hlen'.out, .inr ⟨w.heap.size, n, _, rfl, Nat.le_refl _, setRow_heap _ _ _ _ _ _ (box_new w _), Nat.le_refl _, by unfold maxLen; omega, ?_, ?_⟩⟩, below_setRow (below_box w _) (Nat.le_refl _) _⟩
    · simp [hlen'.out, size_madeCells]
    · have e : List.drop n (madeCells #[.bool false] n).toList = [] := List.drop_eq_nil_iff.2 (by simp [size_madeCells])
      have hl := hlen'.out
      rw [List.toList_toArray, hl, e, List.append_nil, Nat.mul_one, List.take_of_length_le (by omega)]

set_option maxRecDepth 100000 in
set_option maxHeartbeats 4000000 in
theorem listMut_any (A : Option Addr) (n c : Nat) (news : List Value) (hs : n ≤ 1048576) (w : World) (h : SrcIs w A n 1 news) :
    Calls Try.prog 131 #[.slice A n c] w fun e w' => ∃ v, e = .returned v ∧ w'.ownsRow w.heap.size 69 1 v n news ∧ Below w.heap.size w w' := by
  by_cases hn : n = 0
  · subst hn
    obtain rfl : news = [] := List.length_eq_zero_iff.1 (by simpa using h.len)
    clear h
    go_enter Try.func131, Try.ntmps131
    go_wp2_with fail
    go_ret
    exact ⟨_, rfl, World.ownsRow_nil _ _ _ _, Below.refl _ _⟩
  · have hlen : news.length = n := by have := h.len; omega
    obtain ⟨ad, rfl⟩ : ∃ ad, A = some ad := by
      obtain ⟨a, e, _⟩ := h.at_ 0 news[0] (List.getElem?_eq_getElem (by omega))
      exact ⟨a, e⟩
    have h' := Lib.hid (h.below (below_box w (.cells (madeCells #[.slice none 0 0] n) 69)))
    obtain ⟨i0, hi, hz0, hz1, hz2⟩ := info_parts infoMut
    have mk : ∀ w : World, (Instr.makeSlice 28 (.int .i64 (n : Int)) (.int .i64 (n : Int))).run Try.prog w = .ok (.slice (some ⟨w.heap.size, 0, none⟩) n n) (w.alloc (.cells (madeCells #[.slice none 0 0] n) 69)) := fun w => by
      have := run_make (P := Try.prog) w 28 69 i0 _ Try.underlying28 hi hz0 .i64 .i64 (n : Int) (n : Int) (by omega) (by omega) (by rw [hz2]; omega) (by omega)
      rw [this, hz1]
      simp [show (Value.agg #[.slice none 0 0]).cells = #[.slice none 0 0] from rfl]
    clear hi hz0 hz1 hz2
    have hlen' := Lib.hid hlen
    have hnz : ¬ (n : Int) = 0 := by omega
    clear h hlen
    go_enter Try.func131, Try.ntmps131
    go_wp2_with (first
      | (refine wpList_copy_own rfl (.tmp 10) (.tmp 11) 28 28 rfl 69 Try.underlying28 (by kernel_rfl) w.heap.size 0 n n ad n c rfl rfl (madeCells #[.slice none 0 0] n) 69 (box_new w _) news (by rw [hlen'.out]; exact (Nat.min_self n).symm) (fun j u hj => (by obtain ⟨a, e, hc⟩ := h'.out.at_ j u hj; cases e; exact hc)) (by rw [hlen'.out]; simp [size_madeCells]) h'.out.one ?_))
    go_ret
    refine ⟨_, rfl, ⟨by simpa using hlen'.out, .inr ⟨w.heap.size, n, _, rfl, Nat.le_refl _, setRow_heap _ _ _ _ _ _ (box_new w _), Nat.le_refl _, by unfold maxLen; omega, ?_, ?_⟩⟩, below_setRow (below_box w _) (Nat.le_refl _) _⟩
    · simp [hlen'.out, size_madeCells]
    · have e : List.drop n (madeCells #[.slice none 0 0] n).toList = [] := List.drop_eq_nil_iff.2 (by simp [size_madeCells])
      have hl := hlen'.out
      rw [List.toList_toArray, hl, e, List.append_nil, Nat.mul_one, List.take_of_length_le (by omega)]
end Go.Proofs.Ytajogfnlbdiokaa

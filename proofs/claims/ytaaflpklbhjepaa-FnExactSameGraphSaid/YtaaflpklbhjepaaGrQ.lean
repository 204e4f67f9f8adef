/-
  Are two lists of ints alike: the model's l6same, slices.Equal.
-/
import Derived.Test.YtaaflpklbhjepaaGrF
namespace Go.Proofs.Ytaaflpklbhjepaa
open Go.RowKit
set_option linter.unusedVariables false

/-- Both are Graphs, and alike. -/
def SameG (D E : GD) : Prop := GForm D ∧ GForm E ∧ D.objs = E.objs ∧ D.muts = E.muts
theorem ObD.ext' {s t : ObD} (h1 : s.p = t.p) (h2 : s.v = t.v) : s = t := by cases s; cases t; simp_all

theorem take_eq_at {α : Type} {L M : List α} {k : Nat} {a b : α} (h : L.take k = M.take k) (h1 : L[k]? = some a) (h2 : M[k]? = some b) (e : a = b) : L.take (k + 1) = M.take (k + 1) := by
  obtain ⟨hk, rfl⟩ := List.getElem?_eq_some_iff.1 h1
  obtain ⟨hm, rfl⟩ := List.getElem?_eq_some_iff.1 h2
  rw [List.take_succ_eq_append_getElem hk, List.take_succ_eq_append_getElem hm, h, e]
theorem take_eq_next {L M : List Int} {k : Nat} (h : L.take k = M.take k) (hk : k < L.length) (hm : k < M.length) (e : L[k]?.getD 0 = M[k]?.getD 0) : L.take (k + 1) = M.take (k + 1) := by
  refine take_eq_at h (List.getElem?_eq_getElem hk) (List.getElem?_eq_getElem hm) ?_
  simpa [List.getElem?_eq_getElem hk, List.getElem?_eq_getElem hm] using e
theorem take_eq_all {α : Type} {L M : List α} (h : L.take L.length = M.take L.length) (e : L.length = M.length) : L = M := by
  rw [List.take_length, e, List.take_length] at h
  exact h

set_option maxRecDepth 100000 in
set_option maxHeartbeats 4000000 in
theorem l6same_any (v1 v2 : Value) (L M : List Int) (w : World) (h1 : Rd w v1 L) (h2 : Rd w v2 M) :
    Calls Try.prog 32 #[v1, v2] w fun e w' => IsB (L = M) e ∧ Below w.heap.size w w' := by
  obtain ⟨a1, c1, rfl, hl, r1⟩ := h1
  obtain ⟨a2, c2, rfl, hm, r2⟩ := h2
  unfold maxLen at hl hm
  have r1 := Lib.hid r1
  have r2 := Lib.hid r2
  go_enter Try.func32, Try.ntmps32
  by_cases hn : L.length = M.length
  case neg =>
    have n := Lib.hid (show ¬ L = M from fun h => hn (by rw [h]))
    have hb : ((L.length : Int) != (M.length : Int)) = true := by rw [bne_iff_ne]; omega
    clear hn
    go_wp2_with fail
    go_ret
    exact ⟨IsB.no n.out, Below.refl _ _⟩
  have hb : ((L.length : Int) != (M.length : Int)) = false := by rw [bne_eq_false_iff_eq]; omega
  have hn' := Lib.hid hn
  go_wp2_with fail
  go_loopw [5] (fun i wr => ∃ k : Nat, k ≤ L.length ∧ i = .int .i64 k ∧ Hid (L.take k = M.take k) ∧ ∃ x : Ext w, wr = x.val) (fun i _ => L.length - (intOf i).toNat)
  case atStart => exact ⟨0, Nat.zero_le _, rfl, Lib.hid rfl, Ext.self w, rfl⟩
  case round =>
    obtain ⟨k, hk, rfl, hno, x, rfl⟩ := hrel
    by_cases hlt : k < L.length
    · have hlt1 : (k : Int) < (L.length : Int) := by omega
      have hlt2 : (k : Int) < (M.length : Int) := by omega
      obtain ⟨b1, o1, rfl, x0⟩ := r1.out k hlt
      obtain ⟨b2, o2, rfl, y0⟩ := r2.out k (by omega)
      have X0 := Ext.cell x0
      have Y0 := Ext.cell y0
      have hstep := Lib.hid (fun (h : L[k]?.getD 0 = M[k]?.getD 0) => take_eq_next hno.out hlt (by omega) h)
      have hneq := Lib.hid (fun (h : L[k]?.getD 0 ≠ M[k]?.getD 0) (e : L = M) => h (by rw [e]))
      clear x0 y0 hn
      generalize L[k]?.getD 0 = p at *
      generalize M[k]?.getD 0 = q at *
      by_cases c : p = q
      case neg =>
        have n := Lib.hid (hneq.out c)
        have hd : (p != q) = true := by rw [bne_iff_ne]; exact c
        clear c
        go_wp2_with fail
        refine wp_region_ext x.below (by kernel_rfl) (by kernel_rfl) ?_
        repeat (go_big_quiet_step (fail))
        refine wpQuiet_nil ?_
        intro _ hw'
        obtain ⟨x9, hw''⟩ := hw'
        subst hw''
        go_wp2_with fail
        go_ret
        exact ⟨IsB.no n.out, x9.below⟩
      have hn2 := Lib.hid (hstep.out c)
      have hd : (p != q) = false := by rw [bne_eq_false_iff_eq]; exact c
      clear c
      go_wp2_with fail
      refine wp_region_ext x.below (by kernel_rfl) (by kernel_rfl) ?_
      repeat (go_big_quiet_step (fail))
      refine wpQuiet_nil ?_
      intro _ hw'
      obtain ⟨x9, hw''⟩ := hw'
      subst hw''
      go_wp2_with fail
      go_roundw
      case rel => exact ⟨k + 1, by omega, by go_num, hn2, x9, rfl⟩
      case measure => simp [intOf]; omega
    · obtain rfl : k = L.length := by omega
      have y := Lib.hid (show L = M from take_eq_all hno.out hn'.out)
      go_wp2_with fail
      go_ret
      exact ⟨IsB.yes y.out, x.below⟩

set_option maxRecDepth 100000 in
set_option maxHeartbeats 4000000 in
theorem equal_any (v1 v2 : Value) (L M : List Int) (w : World) (h1 : Rd w v1 L) (h2 : Rd w v2 M) :
    Calls Try.prog 47 #[v1, v2] w fun e w' => IsB (L = M) e ∧ Below w.heap.size w w' := by
  obtain ⟨a1, c1, rfl, hl, r1⟩ := h1
  obtain ⟨a2, c2, rfl, hm, r2⟩ := h2
  unfold maxLen at hl hm
  have r1 := Lib.hid r1
  have r2 := Lib.hid r2
  go_enter Try.func47, Try.ntmps47
  by_cases hn : L.length = M.length
  case neg =>
    have n := Lib.hid (show ¬ L = M from fun h => hn (by rw [h]))
    have hb : ((L.length : Int) != (M.length : Int)) = true := by rw [bne_iff_ne]; omega
    clear hn
    go_wp2_with fail
    go_ret
    exact ⟨IsB.no n.out, Below.refl _ _⟩
  have hb : ((L.length : Int) != (M.length : Int)) = false := by rw [bne_eq_false_iff_eq]; omega
  have hn' := Lib.hid hn
  go_wp2_with fail
  go_loopw [13] (fun i wr => ∃ k : Nat, k ≤ L.length ∧ i = .int .i64 k ∧ Hid (L.take k = M.take k) ∧ ∃ x : Ext w, wr = x.val) (fun i _ => L.length - (intOf i).toNat)
  case atStart => exact ⟨0, Nat.zero_le _, rfl, Lib.hid rfl, Ext.self w, rfl⟩
  case round =>
    obtain ⟨k, hk, rfl, hno, x, rfl⟩ := hrel
    by_cases hlt : k < L.length
    · have hlt1 : (k : Int) < (L.length : Int) := by omega
      have hlt2 : (k : Int) < (M.length : Int) := by omega
      obtain ⟨b1, o1, rfl, x0⟩ := r1.out k hlt
      obtain ⟨b2, o2, rfl, y0⟩ := r2.out k (by omega)
      have X0 := Ext.cell x0
      have Y0 := Ext.cell y0
      have hstep := Lib.hid (fun (h : L[k]?.getD 0 = M[k]?.getD 0) => take_eq_next hno.out hlt (by omega) h)
      have hneq := Lib.hid (fun (h : L[k]?.getD 0 ≠ M[k]?.getD 0) (e : L = M) => h (by rw [e]))
      clear x0 y0 hn
      generalize L[k]?.getD 0 = p at *
      generalize M[k]?.getD 0 = q at *
      by_cases c : p = q
      case neg =>
        have n := Lib.hid (hneq.out c)
        have hd : (p != q) = true := by rw [bne_iff_ne]; exact c
        clear c
        go_wp2_with fail
        refine wp_region_ext x.below (by kernel_rfl) (by kernel_rfl) ?_
        repeat (go_big_quiet_step (fail))
        refine wpQuiet_nil ?_
        intro _ hw'
        obtain ⟨x9, hw''⟩ := hw'
        subst hw''
        go_wp2_with fail
        go_ret
        exact ⟨IsB.no n.out, x9.below⟩
      have hn2 := Lib.hid (hstep.out c)
      have hd : (p != q) = false := by rw [bne_eq_false_iff_eq]; exact c
      clear c
      go_wp2_with fail
      refine wp_region_ext x.below (by kernel_rfl) (by kernel_rfl) ?_
      repeat (go_big_quiet_step (fail))
      refine wpQuiet_nil ?_
      intro _ hw'
      obtain ⟨x9, hw''⟩ := hw'
      subst hw''
      go_wp2_with fail
      go_roundw
      case rel => exact ⟨k + 1, by omega, by go_num, hn2, x9, rfl⟩
      case measure => simp [intOf]; omega
    · obtain rfl : k = L.length := by omega
      have y := Lib.hid (show L = M from take_eq_all hno.out hn'.out)
      go_wp2_with fail
      go_ret
      exact ⟨IsB.yes y.out, x.below⟩
end Go.Proofs.Ytaaflpklbhjepaa

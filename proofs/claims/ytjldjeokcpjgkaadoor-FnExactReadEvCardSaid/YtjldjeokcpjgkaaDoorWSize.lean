/-
  The contracts of the laws' 'sz..' functions: what is left of a measure behind all that a World holds.
-/
import Derived.Test.YtjldjeokcpjgkaaDoorWData
namespace Go.Proofs.YtjldjeokcpjgkaaDoor
open Go.RowKit
set_option linter.unusedVariables false

/-- r is what is left of 'left' behind n; -1: too little. -/
def Sz (left : Int) (n : Nat) (r : Int) : Prop := r = szF left n
theorem Sz.lo {left r : Int} {n : Nat} (h : Sz left n r) : -1 ≤ r := by unfold Sz szF at h; split at h <;> omega
theorem Sz.hi {left r : Int} {n : Nat} (h : Sz left n r) (h0 : 0 ≤ left) : r ≤ left := by unfold Sz szF at h; split at h <;> omega
theorem Sz.stop {left r : Int} {n : Nat} (h : Sz left n r) (h0 : 0 ≤ left) (hr : r < 0) (m : Nat) : Sz left (n + m) (-1) := by
  unfold Sz szF at *; split at h <;> split <;> omega
theorem Sz.next {left r r' : Int} {n m : Nat} (h : Sz left n r) (h0 : 0 ≤ left) (hr : 0 ≤ r) (h' : Sz r m r') : Sz left (n + m) r' := by
  unfold Sz szF at *; split at h <;> split at h' <;> split <;> omega
theorem Sz.fits {left r : Int} {n : Nat} (h : Sz left n r) (hr : 0 ≤ r) : (n : Int) ≤ left := by unfold Sz szF at h; split at h <;> omega
theorem sz_stop {left : Int} {n : Nat} (h : left < n) : Sz left n (-1) := by unfold Sz szF; rw [if_pos h]
theorem sz_next {left : Int} {n : Nat} (h : ¬ left < n) : Sz left n (left - n) := by unfold Sz szF; rw [if_neg h]

/-- A span as a value. -/
def spanV (s : SpanD) (vl vp : Value) : Value := .agg #[.int .i64 s.page, .int .i64 s.cls, .int .i64 s.mark, .bool s.swept, vl, vp]
theorem below_box (w : World) (o : Obj) : Below w.heap.size w (w.alloc o) := (Below.refl _ _).alloc (Nat.le_refl _) o

theorem heap_below {w w' : World} (hb : Below w.heap.size w w') {g : Nat} {o : Obj} (h : w.heap[g]? = some o) : w'.heap[g]? = some o :=
  (hb.block g (Array.getElem?_eq_some_iff.1 h).1).trans h
theorem cell_of_heap {w : World} {B : Nat} {c : Array Value} {t : TypeId} (h : w.heap[B]? = some (.cells c t (0, 0))) (j : Nat) (v : Value) (hv : c[j]? = some v) : w.cell? ⟨B, j, none⟩ = some v := by
  simp [World.cell?, h, hv]
theorem frozen_of_heap {w : World} {B : Nat} {c : Array Value} {t : TypeId} (h : w.heap[B]? = some (.cells c t (0, 0))) (j : Nat) : w.frozen? ⟨B, j, none⟩ = false := by
  simp [World.frozen?, h]
theorem box_new (w : World) (o : Obj) : (w.alloc o).heap[w.heap.size]? = some o := heap_alloc_new w o

theorem bulkS_take (L : List SpanD) (k : Nat) (s : SpanD) (h : L[k]? = some s) : bulkS (L.take (k + 1)) = bulkS (L.take k) + s.bulk := by
  obtain ⟨hk, rfl⟩ := List.getElem?_eq_some_iff.1 h
  rw [List.take_succ_eq_append_getElem hk, bulkS, List.map_append, List.sum_append]
  simp [bulkS, -List.map_take]
theorem bulkS_le (L : List SpanD) (k : Nat) : bulkS L = bulkS (L.take k) + bulkS (L.drop k) := by
  rw [bulkS, bulkS, bulkS, ← List.sum_append, ← List.map_append, List.take_append_drop]
theorem bulkM_take (L : List (List Int)) (k : Nat) (s : List Int) (h : L[k]? = some s) : bulkM (L.take (k + 1)) = bulkM (L.take k) + s.length := by
  obtain ⟨hk, rfl⟩ := List.getElem?_eq_some_iff.1 h
  rw [List.take_succ_eq_append_getElem hk, bulkM, List.map_append, List.sum_append]
  simp [bulkM, -List.map_take]
theorem bulkM_le (L : List (List Int)) (k : Nat) : bulkM L = bulkM (L.take k) + bulkM (L.drop k) := by
  rw [bulkM, bulkM, bulkM, ← List.sum_append, ← List.map_append, List.take_append_drop]

end Go.Proofs.YtjldjeokcpjgkaaDoor

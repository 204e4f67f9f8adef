/-
  The contracts of the laws' 'sz..' functions: what is left of a measure behind all that a World holds.
-/
import Derived.Test.YtaaflpklbhjepaaWData
namespace Go.Proofs.Ytaaflpklbhjepaa
open Go.RowKit
set_option linter.unusedVariables false

/-- r is what is left of 'left' behind n; -1: too little. -/
def Sz (left : Int) (n : Nat) (r : Int) : Prop := r = szF left n
theorem Sz.lo {left r : Int} {n : Nat} (h : Sz left n r) : -1 ≤ r := by unfold Sz szF at h; split at h <;> omega
theorem Sz.hi {left r : Int} {n : Nat} (h : Sz left n r) (h0 : 0 ≤ left) : r ≤ left := by unfold Sz szF at h; split at h <;> omega
theorem Sz.stop {left r : Int} {n : Nat} (h : Sz left n r) (h0 : 0 ≤ left) (hr : r < 0) (m : Nat) : Sz left (n + m) (-1) := by
  unfold Sz szF at *; split at h <;> split <;> omega
theorem Sz.next {left r r' : Int} {n m : Nat} (h : Sz left n r) (h0 : 0 ≤ left) (hr : 0 ≤ r) (h' : Sz r m r') : Sz left (n + m) r' := by
  unfold Sz szF at *; split at h <;> split at h' <;> split <;> omega
theorem Sz.fits {left r : Int} {n : Nat} (h : Sz left n r) (hr : 0 ≤ r) : (n : Int) ≤ left := by unfold Sz szF at h; split at h <;> omega
theorem sz_stop {left : Int} {n : Nat} (h : left < n) : Sz left n (-1) := by unfold Sz szF; rw [if_pos h]
theorem sz_next {left : Int} {n : Nat} (h : ¬ left < n) : Sz left n (left - n) := by unfold Sz szF; rw [if_neg h]

set_option maxHeartbeats 400000 in
theorem szIntS_any (v : Value) (L : List Int) (left : Int) (h0 : 0 ≤ left) (h1 : left ≤ 1048576) (w : World) (hr : Rd w v L) :
    Calls Try.prog 48 #[v, .int .i64 left] w fun e w' => ∃ r, e = .returned (.int .i64 r) ∧ Sz left L.length r ∧ w = w' := by
  obtain ⟨a, cap, rfl, hl, _⟩ := hr
  unfold maxLen at hl
  by_cases h : left < L.length
  · have hz := Lib.hid (sz_stop h)
    go_enter Try.func48, Try.ntmps48
    go_wp2
    go_ret
    exact ⟨_, rfl, hz.out, rfl⟩
  · have hz := Lib.hid (sz_next h)
    go_enter Try.func48, Try.ntmps48
    go_wp2
    go_ret
    exact ⟨_, rfl, hz.out, rfl⟩

/-- A span as a value. -/
def spanV (s : SpanD) (vl vp : Value) : Value := .agg #[.int .i64 s.page, .int .i64 s.cls, .int .i64 s.mark, .bool s.swept, vl, vp]
theorem below_box (w : World) (o : Obj) : Below w.heap.size w (w.alloc o) := (Below.refl _ _).alloc (Nat.le_refl _) o

theorem heap_below {w w' : World} (hb : Below w.heap.size w w') {g : Nat} {o : Obj} (h : w.heap[g]? = some o) : w'.heap[g]? = some o :=
  (hb.block g (Array.getElem?_eq_some_iff.1 h).1).trans h
theorem cell_of_heap {w : World} {B : Nat} {c : Array Value} {t : TypeId} (h : w.heap[B]? = some (.cells c t (0, 0))) (j : Nat) (v : Value) (hv : c[j]? = some v) : w.cell? ⟨B, j, none⟩ = some v := by
  simp [World.cell?, h, hv]
theorem frozen_of_heap {w : World} {B : Nat} {c : Array Value} {t : TypeId} (h : w.heap[B]? = some (.cells c t (0, 0))) (j : Nat) : w.frozen? ⟨B, j, none⟩ = false := by
  simp [World.frozen?, h]
theorem box_new (w : World) (o : Obj) : (w.alloc o).heap[w.heap.size]? = some o := heap_alloc_new w o

set_option maxHeartbeats 400000 in
theorem szMut_any (r : List Int) (vr : Value) (left : Int) (h0 : 0 ≤ left) (h1 : left ≤ 1048576) (w : World) (hl : Rd w vr r) :
    Calls Try.prog 38 #[.agg #[vr], .int .i64 left] w fun e w' => ∃ q, e = .returned (.int .i64 q) ∧ Sz left r.length q ∧ Below w.heap.size w w' := by
  go_enter Try.func38, Try.ntmps38
  go_wp2_with fail
  refine (szIntS_any _ r _ h0 h1 _ (hl.below (below_box _ _))).mono ?_
  rintro e w1 ⟨r1, rfl, z1, rfl⟩
  have t1 := z1.lo
  obtain ⟨z1⟩ : Nonempty (Hid _) := ⟨Lib.hid z1⟩
  by_cases c1 : r1 < 0
  · obtain rfl : r1 = -1 := by omega
    go_wp2_with fail
    go_ret
    exact ⟨_, rfl, z1.out, below_box _ _⟩
  · go_wp2_with fail
    go_ret
    exact ⟨_, rfl, z1.out, below_box _ _⟩

theorem bulkS_take (L : List SpanD) (k : Nat) (s : SpanD) (h : L[k]? = some s) : bulkS (L.take (k + 1)) = bulkS (L.take k) + s.bulk := by
  obtain ⟨hk, rfl⟩ := List.getElem?_eq_some_iff.1 h
  rw [List.take_succ_eq_append_getElem hk, bulkS, List.map_append, List.sum_append]
  simp [bulkS, -List.map_take]
theorem bulkS_le (L : List SpanD) (k : Nat) : bulkS L = bulkS (L.take k) + bulkS (L.drop k) := by
  rw [bulkS, bulkS, bulkS, ← List.sum_append, ← List.map_append, List.take_append_drop]
theorem bulkM_take (L : List (List Int)) (k : Nat) (s : List Int) (h : L[k]? = some s) : bulkM (L.take (k + 1)) = bulkM (L.take k) + s.length := by
  obtain ⟨hk, rfl⟩ := List.getElem?_eq_some_iff.1 h
  rw [List.take_succ_eq_append_getElem hk, bulkM, List.map_append, List.sum_append]
  simp [bulkM, -List.map_take]
theorem bulkM_le (L : List (List Int)) (k : Nat) : bulkM L = bulkM (L.take k) + bulkM (L.drop k) := by
  rw [bulkM, bulkM, bulkM, ← List.sum_append, ← List.map_append, List.take_append_drop]

set_option maxHeartbeats 1000000 in
theorem szMutS_any (v : Value) (L : List (List Int)) (left : Int) (h0 : 0 ≤ left) (h1 : left ≤ 1048576) (w : World) (hr : RdM w v L) :
    Calls Try.prog 18 #[v, .int .i64 left] w fun e w' => ∃ r, e = .returned (.int .i64 r) ∧ Sz left (L.length + bulkM L) r ∧ Below w.heap.size w w' := by
  obtain ⟨a, cap, rfl, hl, hx⟩ := hr
  unfold maxLen at hl
  by_cases h : left < L.length
  · have hz := Lib.hid ((sz_stop h).stop h0 (by omega) (bulkM L))
    clear hx
    go_enter Try.func18, Try.ntmps18
    go_wp2
    go_ret
    exact ⟨_, rfl, hz.out, Below.refl _ _⟩
  · have hz := Lib.hid (sz_next h)
    obtain ⟨hx⟩ : Nonempty (Hid _) := ⟨Lib.hid hx⟩
    go_enter Try.func18, Try.ntmps18
    go_wp2
    go_loopw [1, 5] (fun q i wr => ∃ (k : Nat) (r : Int), k ≤ L.length ∧ i = .int .i64 k ∧ q = .int .i64 r ∧ 0 ≤ r ∧ r ≤ left ∧ Hid (Sz left (L.length + bulkM (L.take k)) r) ∧ Below w.heap.size w wr) (fun _ i _ => L.length - (intOf i).toNat)
    case atStart => exact ⟨0, _, Nat.zero_le _, rfl, rfl, by omega, by omega, hz.out, Below.refl _ _⟩
    case round =>
      obtain ⟨k, r, hk, rfl, rfl, hr0, hr1, hsz, hB⟩ := hrel
      by_cases hlt : k < L.length
      · obtain ⟨s, hs⟩ : ∃ s, L[k]? = some s := ⟨_, List.getElem?_eq_getElem hlt⟩
        obtain ⟨b, off, vr, rfl, hc, hrd⟩ := hx.out k s hs
        have hc' := cell_below hB hc
        have hrd' := hrd.below hB
        clear hc hrd
        go_wp2_with fail
        refine (szMut_any s vr r hr0 (by omega) wr hrd').mono ?_
        rintro e w2 ⟨r2, rfl, z2, b2⟩
        have u1 := z2.lo
        have u2 := z2.hi hr0
        have hsz2 := Lib.hid (hsz.out.next h0 hr0 z2)
        have hb2 := below_trans hB b2
        have hbk := Lib.hid (bulkM_take L k s hs)
        have hbl := Lib.hid (bulkM_le L (k + 1))
        clear z2 b2 hsz hs hB hc' hrd'
        by_cases c2 : r2 < 0
        · obtain rfl : r2 = -1 := by omega
          go_wp2_with fail
          go_ret
          have e : L.length + bulkM L = L.length + bulkM (L.take k) + s.length + bulkM (L.drop (k + 1)) := by
            have := hbk.out
            have := hbl.out
            omega
          exact ⟨_, rfl, by rw [e]; exact hsz2.out.stop h0 c2 _, hb2⟩
        · go_wp2_with fail
          go_roundw
          case rel => exact ⟨k + 1, r2, by omega, by go_num, rfl, by omega, by omega, by rw [hbk.out, ← Nat.add_assoc]; exact hsz2, hb2⟩
          case measure => simp [intOf]; omega
      · obtain rfl : k = L.length := by omega
        rw [List.take_length] at hsz
        go_wp2
        go_ret
        exact ⟨_, rfl, hsz.out, hB⟩

end Go.Proofs.Ytaaflpklbhjepaa

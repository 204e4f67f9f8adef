/-
  The contracts of the laws' 'sz..' functions: what is left of a measure behind all that a World holds.
-/
import Derived.Test.YtajogfnlbdiokaaWData
namespace Go.Proofs.Ytajogfnlbdiokaa
open Go.RowKit
set_option linter.unusedVariables false

/-- r is what is left of 'left' behind n; -1: too little. -/
def Sz (left : Int) (n : Nat) (r : Int) : Prop := r = szF left n
theorem Sz.lo {left r : Int} {n : Nat} (h : Sz left n r) : -1 ≤ r := by unfold Sz szF at h; split at h <;> omega
theorem Sz.hi {left r : Int} {n : Nat} (h : Sz left n r) (h0 : 0 ≤ left) : r ≤ left := by unfold Sz szF at h; split at h <;> omega
theorem Sz.stop {left r : Int} {n : Nat} (h : Sz left n r) (h0 : 0 ≤ left) (hr : r < 0) (m : Nat) : Sz left (n + m) (-1) := by
  unfold Sz szF at *; split at h <;> split <;> omega
theorem Sz.next {left r r' : Int} {n m : Nat} (h : Sz left n r) (h0 : 0 ≤ left) (hr : 0 ≤ r) (h' : Sz r m r') : Sz left (n + m) r' := by
  unfold Sz szF at *; split at h <;> split at h' <;> split <;> omega
theorem Sz.fits {left r : Int} {n : Nat} (h : Sz left n r) (hr : 0 ≤ r) : (n : Int) ≤ left := by unfold Sz szF at h; split at h <;> omega
theorem sz_stop {left : Int} {n : Nat} (h : left < n) : Sz left n (-1) := by unfold Sz szF; rw [if_pos h]
theorem sz_next {left : Int} {n : Nat} (h : ¬ left < n) : Sz left n (left - n) := by unfold Sz szF; rw [if_neg h]

set_option maxHeartbeats 400000 in
theorem szIntS_any (v : Value) (L : List Int) (left : Int) (h0 : 0 ≤ left) (h1 : left ≤ 1048576) (w : World) (hr : Rd w v L) :
    Calls Try.prog 58 #[v, .int .i64 left] w fun e w' => ∃ r, e = .returned (.int .i64 r) ∧ Sz left L.length r ∧ w = w' := by
  obtain ⟨a, cap, rfl, hl, _⟩ := hr
  unfold maxLen at hl
  by_cases h : left < L.length
  · have hz := Lib.hid (sz_stop h)
    go_enter Try.func58, Try.ntmps58
    go_wp2
    go_ret
    exact ⟨_, rfl, hz.out, rfl⟩
  · have hz := Lib.hid (sz_next h)
    go_enter Try.func58, Try.ntmps58
    go_wp2
    go_ret
    exact ⟨_, rfl, hz.out, rfl⟩

set_option maxHeartbeats 400000 in
theorem szBoolS_any (v : Value) (L : List Bool) (left : Int) (h0 : 0 ≤ left) (h1 : left ≤ 1048576) (w : World) (hr : RdB w v L) :
    Calls Try.prog 59 #[v, .int .i64 left] w fun e w' => ∃ r, e = .returned (.int .i64 r) ∧ Sz left L.length r ∧ w = w' := by
  obtain ⟨a, cap, rfl, hl, _⟩ := hr
  unfold maxLen at hl
  by_cases h : left < L.length
  · have hz := Lib.hid (sz_stop h)
    go_enter Try.func59, Try.ntmps59
    go_wp2
    go_ret
    exact ⟨_, rfl, hz.out, rfl⟩
  · have hz := Lib.hid (sz_next h)
    go_enter Try.func59, Try.ntmps59
    go_wp2
    go_ret
    exact ⟨_, rfl, hz.out, rfl⟩

/-- A span as a value. -/
def spanV (s : SpanD) (vl vp : Value) : Value := .agg #[.int .i64 s.page, .int .i64 s.cls, .int .i64 s.mark, .bool s.swept, vl, vp]
theorem below_box (w : World) (o : Obj) : Below w.heap.size w (w.alloc o) := (Below.refl _ _).alloc (Nat.le_refl _) o

theorem heap_below {w w' : World} (hb : Below w.heap.size w w') {g : Nat} {o : Obj} (h : w.heap[g]? = some o) : w'.heap[g]? = some o :=
  (hb.block g (Array.getElem?_eq_some_iff.1 h).1).trans h
theorem cell_of_heap {w : World} {B : Nat} {c : Array Value} {t : TypeId} (h : w.heap[B]? = some (.cells c t (0, 0))) (j : Nat) (v : Value) (hv : c[j]? = some v) : w.cell? ⟨B, j, none⟩ = some v := by
  simp [World.cell?, h, hv]
theorem frozen_of_heap {w : World} {B : Nat} {c : Array Value} {t : TypeId} (h : w.heap[B]? = some (.cells c t (0, 0))) (j : Nat) : w.frozen? ⟨B, j, none⟩ = false := by
  simp [World.frozen?, h]
theorem box_new (w : World) (o : Obj) : (w.alloc o).heap[w.heap.size]? = some o := heap_alloc_new w o

set_option maxHeartbeats 400000 in
theorem szSpan_any (s : SpanD) (vl vp : Value) (left : Int) (h0 : 0 ≤ left) (h1 : left ≤ 1048576) (w : World) (hl : Rd w vl s.lens) (hp : Rd w vp s.ptrs) :
    Calls Try.prog 117 #[spanV s vl vp, .int .i64 left] w fun e w' => ∃ r, e = .returned (.int .i64 r) ∧ Sz left s.bulk r ∧ Below w.heap.size w w' := by
  unfold spanV SpanD.bulk
  go_enter Try.func117, Try.ntmps117
  go_wp2_with fail
  refine (szIntS_any _ s.lens _ h0 h1 _ (hl.below (below_box _ _))).mono ?_
  rintro e w1 ⟨r1, rfl, z1, rfl⟩
  have t1 := z1.lo
  have t2 := z1.hi h0
  obtain ⟨z1⟩ : Nonempty (Hid _) := ⟨Lib.hid z1⟩
  by_cases c1 : r1 < 0
  · go_wp2_with fail
    go_ret
    exact ⟨_, rfl, z1.out.stop h0 c1 _, below_box _ _⟩
  · go_wp2_with fail
    refine (szIntS_any _ s.ptrs _ (by omega) (by omega) _ (hp.below (below_box _ _))).mono ?_
    rintro e w2 ⟨r2, rfl, z2, rfl⟩
    have u1 := z2.lo
    obtain ⟨z2⟩ : Nonempty (Hid _) := ⟨Lib.hid (z1.out.next h0 c1 z2)⟩
    by_cases c2 : r2 < 0
    · obtain rfl : r2 = -1 := by omega
      go_wp2_with fail
      go_ret
      exact ⟨_, rfl, z2.out, below_box _ _⟩
    · go_wp2_with fail
      go_ret
      exact ⟨_, rfl, z2.out, below_box _ _⟩

set_option maxHeartbeats 400000 in
theorem szMut_any (r : List Int) (vr : Value) (left : Int) (h0 : 0 ≤ left) (h1 : left ≤ 1048576) (w : World) (hl : Rd w vr r) :
    Calls Try.prog 118 #[.agg #[vr], .int .i64 left] w fun e w' => ∃ q, e = .returned (.int .i64 q) ∧ Sz left r.length q ∧ Below w.heap.size w w' := by
  go_enter Try.func118, Try.ntmps118
  go_wp2_with fail
  refine (szIntS_any _ r _ h0 h1 _ (hl.below (below_box _ _))).mono ?_
  rintro e w1 ⟨r1, rfl, z1, rfl⟩
  have t1 := z1.lo
  obtain ⟨z1⟩ : Nonempty (Hid _) := ⟨Lib.hid z1⟩
  by_cases c1 : r1 < 0
  · obtain rfl : r1 = -1 := by omega
    go_wp2_with fail
    go_ret
    exact ⟨_, rfl, z1.out, below_box _ _⟩
  · go_wp2_with fail
    go_ret
    exact ⟨_, rfl, z1.out, below_box _ _⟩

set_option maxHeartbeats 400000 in
theorem szGc_any (p q : Int) (g : List Int) (vg : Value) (left : Int) (h0 : 0 ≤ left) (h1 : left ≤ 1048576) (w : World) (hl : Rd w vg g) :
    Calls Try.prog 62 #[.agg #[.int .i64 p, .int .i64 q, vg], .int .i64 left] w fun e w' => ∃ r, e = .returned (.int .i64 r) ∧ Sz left g.length r ∧ Below w.heap.size w w' := by
  go_enter Try.func62, Try.ntmps62
  go_wp2_with fail
  refine (szIntS_any _ g _ h0 h1 _ (hl.below (below_box _ _))).mono ?_
  rintro e w1 ⟨r1, rfl, z1, rfl⟩
  have t1 := z1.lo
  obtain ⟨z1⟩ : Nonempty (Hid _) := ⟨Lib.hid z1⟩
  by_cases c1 : r1 < 0
  · obtain rfl : r1 = -1 := by omega
    go_wp2_with fail
    go_ret
    exact ⟨_, rfl, z1.out, below_box _ _⟩
  · go_wp2_with fail
    go_ret
    exact ⟨_, rfl, z1.out, below_box _ _⟩

theorem bulkS_take (L : List SpanD) (k : Nat) (s : SpanD) (h : L[k]? = some s) : bulkS (L.take (k + 1)) = bulkS (L.take k) + s.bulk := by
  obtain ⟨hk, rfl⟩ := List.getElem?_eq_some_iff.1 h
  rw [List.take_succ_eq_append_getElem hk, bulkS, List.map_append, List.sum_append]
  simp [bulkS, -List.map_take]
theorem bulkS_le (L : List SpanD) (k : Nat) : bulkS L = bulkS (L.take k) + bulkS (L.drop k) := by
  rw [bulkS, bulkS, bulkS, ← List.sum_append, ← List.map_append, List.take_append_drop]
theorem bulkM_take (L : List (List Int)) (k : Nat) (s : List Int) (h : L[k]? = some s) : bulkM (L.take (k + 1)) = bulkM (L.take k) + s.length := by
  obtain ⟨hk, rfl⟩ := List.getElem?_eq_some_iff.1 h
  rw [List.take_succ_eq_append_getElem hk, bulkM, List.map_append, List.sum_append]
  simp [bulkM, -List.map_take]
theorem bulkM_le (L : List (List Int)) (k : Nat) : bulkM L = bulkM (L.take k) + bulkM (L.drop k) := by
  rw [bulkM, bulkM, bulkM, ← List.sum_append, ← List.map_append, List.take_append_drop]

set_option maxHeartbeats 1000000 in
theorem szSpanS_any (v : Value) (L : List SpanD) (left : Int) (h0 : 0 ≤ left) (h1 : left ≤ 1048576) (w : World) (hr : RdS w v L) :
    Calls Try.prog 60 #[v, .int .i64 left] w fun e w' => ∃ r, e = .returned (.int .i64 r) ∧ Sz left (L.length + bulkS L) r ∧ Below w.heap.size w w' := by
  have hr0 := hr
  obtain ⟨a, cap, rfl, hl, hx⟩ := hr
  unfold maxLen at hl
  by_cases h : left < L.length
  · have hz := Lib.hid ((sz_stop h).stop h0 (by omega) (bulkS L))
    clear hx hr0
    go_enter Try.func60, Try.ntmps60
    go_wp2
    go_ret
    exact ⟨_, rfl, hz.out, Below.refl _ _⟩
  · have hz := Lib.hid (sz_next h)
    obtain ⟨hx⟩ : Nonempty (Hid _) := ⟨Lib.hid hx⟩
    clear hr0
    go_enter Try.func60, Try.ntmps60
    go_wp2
    go_loopw [1, 5] (fun q i wr => ∃ (k : Nat) (r : Int), k ≤ L.length ∧ i = .int .i64 k ∧ q = .int .i64 r ∧ 0 ≤ r ∧ r ≤ left ∧ Hid (Sz left (L.length + bulkS (L.take k)) r) ∧ Below w.heap.size w wr) (fun _ i _ => L.length - (intOf i).toNat)
    case atStart => exact ⟨0, _, Nat.zero_le _, rfl, rfl, by omega, by omega, hz.out, Below.refl _ _⟩
    case round =>
      obtain ⟨k, r, hk, rfl, rfl, hr0, hr1, hsz, hB⟩ := hrel
      by_cases hlt : k < L.length
      · obtain ⟨s, hs⟩ : ∃ s, L[k]? = some s := ⟨_, List.getElem?_eq_getElem hlt⟩
        obtain ⟨b, off, rfl, hsp⟩ := hx.out k s hs
        obtain ⟨vl, vp, x0, x1, x2, x3, x4, x5, xl, xp⟩ := hsp.below hB
        go_wp2_with fail
        refine (szSpan_any s vl vp r hr0 (by omega) wr xl xp).mono ?_
        rintro e w2 ⟨r2, rfl, z2, b2⟩
        have u1 := z2.lo
        have u2 := z2.hi hr0
        have hsz2 := Lib.hid (hsz.out.next h0 hr0 z2)
        have hb2 := below_trans hB b2
        have hbk := Lib.hid (bulkS_take L k s hs)
        have hbl := Lib.hid (bulkS_le L (k + 1))
        clear z2 b2 hsz xl xp x0 x1 x2 x3 x4 x5 hsp hs hB
        by_cases c2 : r2 < 0
        · obtain rfl : r2 = -1 := by omega
          go_wp2_with fail
          go_ret
          have e : L.length + bulkS L = L.length + bulkS (L.take k) + s.bulk + bulkS (L.drop (k + 1)) := by
            have := hbk.out
            have := hbl.out
            omega
          exact ⟨_, rfl, by rw [e]; exact hsz2.out.stop h0 c2 _, hb2⟩
        · go_wp2_with fail
          go_roundw
          case rel => exact ⟨k + 1, r2, by omega, by go_num, rfl, by omega, by omega, by rw [hbk.out, ← Nat.add_assoc]; exact hsz2, hb2⟩
          case measure => simp [intOf]; omega
      · obtain rfl : k = L.length := by omega
        rw [List.take_length] at hsz
        go_wp2
        go_ret
        exact ⟨_, rfl, hsz.out, hB⟩

set_option maxHeartbeats 1000000 in
theorem szMutS_any (v : Value) (L : List (List Int)) (left : Int) (h0 : 0 ≤ left) (h1 : left ≤ 1048576) (w : World) (hr : RdM w v L) :
    Calls Try.prog 61 #[v, .int .i64 left] w fun e w' => ∃ r, e = .returned (.int .i64 r) ∧ Sz left (L.length + bulkM L) r ∧ Below w.heap.size w w' := by
  obtain ⟨a, cap, rfl, hl, hx⟩ := hr
  unfold maxLen at hl
  by_cases h : left < L.length
  · have hz := Lib.hid ((sz_stop h).stop h0 (by omega) (bulkM L))
    clear hx
    go_enter Try.func61, Try.ntmps61
    go_wp2
    go_ret
    exact ⟨_, rfl, hz.out, Below.refl _ _⟩
  · have hz := Lib.hid (sz_next h)
    obtain ⟨hx⟩ : Nonempty (Hid _) := ⟨Lib.hid hx⟩
    go_enter Try.func61, Try.ntmps61
    go_wp2
    go_loopw [1, 5] (fun q i wr => ∃ (k : Nat) (r : Int), k ≤ L.length ∧ i = .int .i64 k ∧ q = .int .i64 r ∧ 0 ≤ r ∧ r ≤ left ∧ Hid (Sz left (L.length + bulkM (L.take k)) r) ∧ Below w.heap.size w wr) (fun _ i _ => L.length - (intOf i).toNat)
    case atStart => exact ⟨0, _, Nat.zero_le _, rfl, rfl, by omega, by omega, hz.out, Below.refl _ _⟩
    case round =>
      obtain ⟨k, r, hk, rfl, rfl, hr0, hr1, hsz, hB⟩ := hrel
      by_cases hlt : k < L.length
      · obtain ⟨s, hs⟩ : ∃ s, L[k]? = some s := ⟨_, List.getElem?_eq_getElem hlt⟩
        obtain ⟨b, off, vr, rfl, hc, hrd⟩ := hx.out k s hs
        have hc' := cell_below hB hc
        have hrd' := hrd.below hB
        clear hc hrd
        go_wp2_with fail
        refine (szMut_any s vr r hr0 (by omega) wr hrd').mono ?_
        rintro e w2 ⟨r2, rfl, z2, b2⟩
        have u1 := z2.lo
        have u2 := z2.hi hr0
        have hsz2 := Lib.hid (hsz.out.next h0 hr0 z2)
        have hb2 := below_trans hB b2
        have hbk := Lib.hid (bulkM_take L k s hs)
        have hbl := Lib.hid (bulkM_le L (k + 1))
        clear z2 b2 hsz hs hB hc' hrd'
        by_cases c2 : r2 < 0
        · obtain rfl : r2 = -1 := by omega
          go_wp2_with fail
          go_ret
          have e : L.length + bulkM L = L.length + bulkM (L.take k) + s.length + bulkM (L.drop (k + 1)) := by
            have := hbk.out
            have := hbl.out
            omega
          exact ⟨_, rfl, by rw [e]; exact hsz2.out.stop h0 c2 _, hb2⟩
        · go_wp2_with fail
          go_roundw
          case rel => exact ⟨k + 1, r2, by omega, by go_num, rfl, by omega, by omega, by rw [hbk.out, ← Nat.add_assoc]; exact hsz2, hb2⟩
          case measure => simp [intOf]; omega
      · obtain rfl : k = L.length := by omega
        rw [List.take_length] at hsz
        go_wp2
        go_ret
        exact ⟨_, rfl, hsz.out, hB⟩

set_option maxHeartbeats 2000000 in
theorem szWorld_any (v : Value) (D : WD) (left : Int) (h0 : 0 ≤ left) (h1 : left ≤ 1048576) (w : World) (hr : RdW w v D) :
    Calls Try.prog 19 #[v, .int .i64 left] w fun e w' => ∃ r, e = .returned (.int .i64 r) ∧ Sz left D.bulk r ∧ Below w.heap.size w w' := by
  obtain ⟨vw, vd, vs, vm, vg, rfl, rw1, rd1, rs1, rm1, rg1⟩ := hr
  unfold WD.bulk
  go_enter Try.func19, Try.ntmps19
  go_wp2_with fail
  have bx := box_new w (.cells #[.int .i64 D.base, .int .i64 D.pages, vw, vd, vs, vm, .int .i64 D.phase, .int .i64 D.next, vg] 43)
  have bb := below_box w (.cells #[.int .i64 D.base, .int .i64 D.pages, vw, vd, vs, vm, .int .i64 D.phase, .int .i64 D.next, vg] 43)
  obtain ⟨bx⟩ : Nonempty (Hid _) := ⟨Lib.hid bx⟩
  refine (szIntS_any _ D.words _ h0 h1 _ (rw1.below bb)).mono ?_
  rintro e w1 ⟨r1, rfl, z1, rfl⟩
  have t1 := z1.lo
  have t2 := z1.hi h0
  obtain ⟨z1⟩ : Nonempty (Hid _) := ⟨Lib.hid z1⟩
  by_cases c1 : r1 < 0
  · go_wp2_with fail
    go_ret
    exact ⟨_, rfl, (((z1.out.stop h0 c1 _).stop h0 (by omega) _).stop h0 (by omega) _).stop h0 (by omega) _, bb⟩
  have g1 : 0 ≤ r1 := by omega
  clear c1
  go_wp2_with fail
  refine (szBoolS_any _ D.dirty _ g1 (by omega) _ (rd1.below bb)).mono ?_
  rintro e w2 ⟨r2, rfl, z2, rfl⟩
  have t3 := z2.lo
  have t4 := z2.hi g1
  obtain ⟨z2⟩ : Nonempty (Hid _) := ⟨Lib.hid (z1.out.next h0 g1 z2)⟩
  by_cases c2 : r2 < 0
  · obtain rfl : r2 = -1 := by omega
    go_wp2_with fail
    go_ret
    exact ⟨_, rfl, ((z2.out.stop h0 c2 _).stop h0 (by omega) _).stop h0 (by omega) _, bb⟩
  have g2 : 0 ≤ r2 := by omega
  clear c2 z1
  go_wp2_with fail
  refine (szSpanS_any _ D.spans _ g2 (by omega) _ (rs1.below bb)).mono ?_
  rintro e w3 ⟨r3, rfl, z3, b3⟩
  have t5 := z3.lo
  have t6 := z3.hi g2
  have bx3 := heap_below b3 bx.out
  have bb3 := below_trans bb b3
  obtain ⟨z3⟩ : Nonempty (Hid _) := ⟨Lib.hid (z2.out.next h0 g2 z3)⟩
  have f5 := cell_of_heap bx3 5 _ rfl
  clear b3
  obtain ⟨bx3⟩ : Nonempty (Hid _) := ⟨Lib.hid bx3⟩
  by_cases c3 : r3 < 0
  · obtain rfl : r3 = -1 := by omega
    go_wp2_with fail
    go_ret
    exact ⟨_, rfl, (z3.out.stop h0 c3 _).stop h0 (by omega) _, bb3⟩
  have g3 : 0 ≤ r3 := by omega
  clear c3 z2
  go_wp2_with fail
  refine (szMutS_any _ D.muts _ g3 (by omega) _ (rm1.below bb3)).mono ?_
  rintro e w4 ⟨r4, rfl, z4, b4⟩
  have t7 := z4.lo
  have t8 := z4.hi g3
  have bx4 := heap_below b4 bx3.out
  have bb4 := below_trans bb3 b4
  obtain ⟨z4⟩ : Nonempty (Hid _) := ⟨Lib.hid (z3.out.next h0 g3 z4)⟩
  have f6 := cell_of_heap bx4 6 _ rfl
  have f7 := cell_of_heap bx4 7 _ rfl
  have f8 := cell_of_heap bx4 8 _ rfl
  clear b4 bx4 f5
  by_cases c4 : r4 < 0
  · obtain rfl : r4 = -1 := by omega
    go_wp2_with fail
    go_ret
    exact ⟨_, rfl, z4.out.stop h0 c4 _, bb4⟩
  have g4 : 0 ≤ r4 := by omega
  clear c4 z3
  go_wp2_with fail
  refine (szGc_any _ _ D.grey _ _ g4 (by omega) _ (rg1.below bb4)).mono ?_
  rintro e w5 ⟨r5, rfl, z5, b5⟩
  have t9 := z5.lo
  have bb5 := below_trans bb4 b5
  obtain ⟨z5⟩ : Nonempty (Hid _) := ⟨Lib.hid (z4.out.next h0 g4 z5)⟩
  clear b5 f6 f7 f8
  by_cases c5 : r5 < 0
  · obtain rfl : r5 = -1 := by omega
    go_wp2_with fail
    go_ret
    exact ⟨_, rfl, z5.out, bb5⟩
  go_wp2_with fail
  go_ret
  exact ⟨_, rfl, z5.out, bb5⟩
end Go.Proofs.Ytajogfnlbdiokaa

/-
  The laws' szObj, szObjS, szGraph.
-/
import Derived.Test.YtaaflpklbhjepaaGrD
namespace Go.Proofs.Ytaaflpklbhjepaa
open Go.RowKit
set_option linter.unusedVariables false

set_option maxHeartbeats 400000 in
theorem szObj_any (s : ObD) (vl vp : Value) (left : Int) (h0 : 0 ≤ left) (h1 : left ≤ 1048576) (w : World) (hl : Rd w vl s.p) (hp : Rd w vp s.v) :
    Calls Try.prog 37 #[.agg #[vl, vp], .int .i64 left] w fun e w' => ∃ r, e = .returned (.int .i64 r) ∧ Sz left s.bulk r ∧ Below w.heap.size w w' := by
  unfold ObD.bulk
  go_enter Try.func37, Try.ntmps37
  go_wp2_with fail
  refine (szIntS_any _ s.p _ h0 h1 _ (hl.below (below_box _ _))).mono ?_
  rintro e w1 ⟨r1, rfl, z1, rfl⟩
  have t1 := z1.lo
  have t2 := z1.hi h0
  obtain ⟨z1⟩ : Nonempty (Hid _) := ⟨Lib.hid z1⟩
  by_cases c1 : r1 < 0
  · go_wp2_with fail
    go_ret
    exact ⟨_, rfl, z1.out.stop h0 c1 _, below_box _ _⟩
  · go_wp2_with fail
    refine (szIntS_any _ s.v _ (by omega) (by omega) _ (hp.below (below_box _ _))).mono ?_
    rintro e w2 ⟨r2, rfl, z2, rfl⟩
    have u1 := z2.lo
    obtain ⟨z2⟩ : Nonempty (Hid _) := ⟨Lib.hid (z1.out.next h0 c1 z2)⟩
    by_cases c2 : r2 < 0
    · obtain rfl : r2 = -1 := by omega
      go_wp2_with fail
      go_ret
      exact ⟨_, rfl, z2.out, below_box _ _⟩
    · go_wp2_with fail
      go_ret
      exact ⟨_, rfl, z2.out, below_box _ _⟩
theorem bulkO_take (L : List ObD) (k : Nat) (s : ObD) (h : L[k]? = some s) : bulkO (L.take (k + 1)) = bulkO (L.take k) + s.bulk := by
  obtain ⟨hk, rfl⟩ := List.getElem?_eq_some_iff.1 h
  rw [List.take_succ_eq_append_getElem hk, bulkO, List.map_append, List.sum_append]
  simp [bulkO, -List.map_take]
theorem bulkO_le (L : List ObD) (k : Nat) : bulkO L = bulkO (L.take k) + bulkO (L.drop k) := by
  rw [bulkO, bulkO, bulkO, ← List.sum_append, ← List.map_append, List.take_append_drop]

set_option maxHeartbeats 1000000 in
theorem szObjS_any (v : Value) (L : List ObD) (left : Int) (h0 : 0 ≤ left) (h1 : left ≤ 1048576) (w : World) (hr : RdO w v L) :
    Calls Try.prog 17 #[v, .int .i64 left] w fun e w' => ∃ r, e = .returned (.int .i64 r) ∧ Sz left (L.length + bulkO L) r ∧ Below w.heap.size w w' := by
  have hr0 := hr
  obtain ⟨a, cap, rfl, hl, hx⟩ := hr
  unfold maxLen at hl
  by_cases h : left < L.length
  · have hz := Lib.hid ((sz_stop h).stop h0 (by omega) (bulkO L))
    clear hx hr0
    go_enter Try.func17, Try.ntmps17
    go_wp2
    go_ret
    exact ⟨_, rfl, hz.out, Below.refl _ _⟩
  · have hz := Lib.hid (sz_next h)
    obtain ⟨hx⟩ : Nonempty (Hid _) := ⟨Lib.hid hx⟩
    clear hr0
    go_enter Try.func17, Try.ntmps17
    go_wp2
    go_loopw [1, 5] (fun q i wr => ∃ (k : Nat) (r : Int), k ≤ L.length ∧ i = .int .i64 k ∧ q = .int .i64 r ∧ 0 ≤ r ∧ r ≤ left ∧ Hid (Sz left (L.length + bulkO (L.take k)) r) ∧ Below w.heap.size w wr) (fun _ i _ => L.length - (intOf i).toNat)
    case atStart => exact ⟨0, _, Nat.zero_le _, rfl, rfl, by omega, by omega, hz.out, Below.refl _ _⟩
    case round =>
      obtain ⟨k, r, hk, rfl, rfl, hr0, hr1, hsz, hB⟩ := hrel
      by_cases hlt : k < L.length
      · obtain ⟨s, hs⟩ : ∃ s, L[k]? = some s := ⟨_, List.getElem?_eq_getElem hlt⟩
        obtain ⟨b, off, rfl, hsp⟩ := hx.out k s hs
        obtain ⟨vl, vp, x0, x1, xl, xp⟩ := hsp.below hB
        go_wp2_with fail
        refine (szObj_any s vl vp r hr0 (by omega) wr xl xp).mono ?_
        rintro e w2 ⟨r2, rfl, z2, b2⟩
        have u1 := z2.lo
        have u2 := z2.hi hr0
        have hsz2 := Lib.hid (hsz.out.next h0 hr0 z2)
        have hb2 := below_trans hB b2
        have hbk := Lib.hid (bulkO_take L k s hs)
        have hbl := Lib.hid (bulkO_le L (k + 1))
        clear z2 b2 hsz xl xp x0 x1 hsp hs hB
        by_cases c2 : r2 < 0
        · obtain rfl : r2 = -1 := by omega
          go_wp2_with fail
          go_ret
          have e : L.length + bulkO L = L.length + bulkO (L.take k) + s.bulk + bulkO (L.drop (k + 1)) := by
            have := hbk.out
            have := hbl.out
            omega
          exact ⟨_, rfl, by rw [e]; exact hsz2.out.stop h0 c2 _, hb2⟩
        · go_wp2_with fail
          go_roundw
          case rel => exact ⟨k + 1, r2, by omega, by go_num, rfl, by omega, by omega, by rw [hbk.out, ← Nat.add_assoc]; exact hsz2, hb2⟩
          case measure => simp [intOf]; omega
      · obtain rfl : k = L.length := by omega
        rw [List.take_length] at hsz
        go_wp2
        go_ret
        exact ⟨_, rfl, hsz.out, hB⟩

set_option maxHeartbeats 1000000 in
theorem szGraph_any (v : Value) (D : GD) (left : Int) (h0 : 0 ≤ left) (h1 : left ≤ 1048576) (w : World) (hr : RdG w v D) :
    Calls Try.prog 6 #[v, .int .i64 left] w fun e w' => ∃ r, e = .returned (.int .i64 r) ∧ Sz left D.bulk r ∧ Below w.heap.size w w' := by
  obtain ⟨vs, vm, rfl, rs1, rm1⟩ := hr
  unfold GD.bulk
  go_enter Try.func6, Try.ntmps6
  go_wp2_with fail
  have bx := box_new w (.cells #[vs, vm] 25)
  have bb := below_box w (.cells #[vs, vm] 25)
  obtain ⟨bx⟩ : Nonempty (Hid _) := ⟨Lib.hid bx⟩
  refine (szObjS_any _ D.objs _ h0 h1 _ (rs1.below bb)).mono ?_
  rintro e w3 ⟨r3, rfl, z3, b3⟩
  have t5 := z3.lo
  have t6 := z3.hi h0
  have bx3 := heap_below b3 bx.out
  have bb3 := below_trans bb b3
  obtain ⟨z3⟩ : Nonempty (Hid _) := ⟨Lib.hid z3⟩
  have f1 := cell_of_heap bx3 1 _ rfl
  clear b3 bx3
  by_cases c3 : r3 < 0
  · obtain rfl : r3 = -1 := by omega
    go_wp2_with fail
    go_ret
    exact ⟨_, rfl, z3.out.stop h0 (by omega) _, bb3⟩
  have g3 : 0 ≤ r3 := by omega
  clear c3
  go_wp2_with fail
  refine (szMutS_any _ D.muts _ g3 (by omega) _ (rm1.below bb3)).mono ?_
  rintro e w4 ⟨r4, rfl, z4, b4⟩
  have t7 := z4.lo
  have bb4 := below_trans bb3 b4
  obtain ⟨z4⟩ : Nonempty (Hid _) := ⟨Lib.hid (z3.out.next h0 g3 z4)⟩
  clear b4 f1
  by_cases c4 : r4 < 0
  · obtain rfl : r4 = -1 := by omega
    go_wp2_with fail
    go_ret
    exact ⟨_, rfl, z4.out, bb4⟩
  go_wp2_with fail
  go_ret
  exact ⟨_, rfl, z4.out, bb4⟩
end Go.Proofs.Ytaaflpklbhjepaa

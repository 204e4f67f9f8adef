/-
  The contract of the program's newMuts.
-/
import Derived.Test.YtnmgecplagekcaaAppG
import Derived.Test.YtnmgecplagekcaaWTo2
import Derived.Deep.DeepCutAuto
import Derived.Deep.CutRange
import Derived.Deep.OwnRows
import Derived.Outline
namespace Go.Proofs.Ytnmgecplagekcaa
open Go.RowKit
set_option linter.unusedVariables false

def rep6 (m : Nat) : List (List Int) := List.replicate m (List.replicate 6 0)
theorem rep6_at {m i : Nat} {r : List Int} (h : (rep6 m)[i]? = some r) : r = List.replicate 6 0 := by
  unfold rep6 at h
  rw [List.getElem?_replicate] at h
  split at h
  · cases h; rfl
  · cases h
theorem rep6_len (m : Nat) : (rep6 m).length = m := List.length_replicate
theorem rep6_get {m i : Nat} (h : i < m) : (rep6 m)[i]? = some (List.replicate 6 0) := by unfold rep6; rw [List.getElem?_replicate, if_pos h]

set_option maxRecDepth 100000 in
set_option maxHeartbeats 4000000 in
theorem newMuts_any (m : Nat) (hm : m ≤ 1024) (w : World) :
    Calls Try.prog 23 #[.int .i64 m] w fun e w' => ∃ (g : Nat) (mv : List Nat), e = .returned (sl g m) ∧ mv.length = m ∧
      w'.ownsRow w.heap.size 60 1 (sl g m) m (valsM (rep6 m) mv) ∧ InnerM w' w.heap.size (rep6 m) mv ∧ Fresh w.heap.size w'.heap.size (valsM (rep6 m) mv) ∧ Below w.heap.size w w' := by
  obtain ⟨i0, hi, hz0, hz1, hz2⟩ := info_parts infoMut
  go_enter Try.func23, Try.ntmps23
  go_wp2_with (at_make; refine wpList_make_full _ rfl _ _ 25 rfl w.heap.size 60 i0 _ 1 Try.underlying25 hi hz0 hz1 .i64 .i64 _ _ m rfl rfl rfl rfl (by rw [hz2]; omega) (by unfold maxLen; omega) (Nat.le_refl _) ?_; intro w0 hown0 hgrow0)
  have hB0 : Below w.heap.size w w0 := (Below.refl _ _).grown hgrow0 (Nat.le_refl _) (fun k e => by cases e)
  have ho0 : w0.ownsRow w.heap.size 60 1 (sl w.heap.size m) m (rowM (rep6 m) []) := by
    have := hown0
    rw [show (Value.agg #[.slice none 0 0]).cells = #[.slice none 0 0] from rfl, Nat.mul_one, toList_madeCells_one] at this
    simpa [rowM, valsM, rep6_len] using this
  have hz0 : w.heap.size + 1 ≤ w0.heap.size := by
    have := (ho0.lt w.heap.size rfl).2
    omega
  clear hown0 hgrow0
  go_wp2_with fail
  go_loopw [9] (fun i wr => ∃ (k : Nat) (mv : List Nat), k ≤ m ∧ i = .int .i64 k ∧ Hid (mv.length = k) ∧ wr.ownsRow w.heap.size 60 1 (sl w.heap.size m) m (rowM (rep6 m) mv) ∧
      InnerM wr (w.heap.size + 1) (rep6 m) mv ∧ Fresh (w.heap.size + 1) wr.heap.size (valsM (rep6 m) mv) ∧ Below w.heap.size w wr ∧ w.heap.size + 1 ≤ wr.heap.size) (fun i _ => m - (intOf i).toNat)
  case atStart => exact ⟨0, [], Nat.zero_le _, rfl, rfl, ho0, (fun i s p _ h => by simp at h), by simpa [valsM] using Fresh.nil _ _, hB0, hz0⟩
  case round =>
    obtain ⟨k, mv, hk, rfl, hsv, hown, hin, hfr, hB, hsz⟩ := hrel
    by_cases hlt : k < m
    · have hks := rep6_get hlt
      have hlt1 : (k : Int) < (m : Int) := by omega
      obtain ⟨hks⟩ : Nonempty (Hid _) := ⟨Lib.hid hks⟩
      obtain ⟨j0, hj, hy0, hy1, hy2⟩ := info_parts infoInt
      obtain ⟨w2, hw2e⟩ : ∃ w2, w2 = wr.alloc (.cells (madeCells #[.int .i64 0] 6) 3) := ⟨_, rfl⟩
      have b2 : Below wr.heap.size wr w2 := by rw [hw2e]; exact below_box _ _
      have mk6 : (Instr.makeSlice 22 (.int .i64 6) (.int .i64 6)).run Try.prog wr = .ok (.slice (some ⟨wr.heap.size, 0, none⟩) 6 6) w2 := by rw [hw2e]; exact run_make_row' (P := Try.prog) 22 3 (.int .i64 0) 8 Try.underlying22 infoInt rfl .i64 .i64 6 (by omega) (by omega) wr
      have ol : w2.ownsRow wr.heap.size 3 1 (sl wr.heap.size (List.replicate 6 (0 : Int)).length) (List.replicate 6 (0 : Int)).length ((List.replicate 6 (0 : Int)).map (Value.int .i64)) := by
        have hg : w2.heap[wr.heap.size]? = some (.cells (madeCells #[.int .i64 0] 6) 3 (0, 0)) := by rw [hw2e]; exact box_new _ _
        exact own_made (n := 6) hg (Nat.le_refl _) (by unfold maxLen; omega)
      clear hw2e
      obtain ⟨hown⟩ : Nonempty (Hid _) := ⟨Lib.hid hown⟩
      have hlen := hown.out.1
      have hown2 := own_below hown.out b2
      obtain ⟨u0, y0⟩ : ∃ u, w2.cell? ⟨w.heap.size, k, none⟩ = some u := by
        rw [hown2.cellAt k (by omega), List.getElem?_eq_getElem (by omega)]
        exact ⟨_, rfl⟩
      have z0 := hown2.frozenAt k
      have hsv' := hsv.out
      subst hsv'
      have hst := hown2.stored mv.length (sl wr.heap.size (List.replicate 6 (0 : Int)).length)
      rw [rowM_next (rep6 m) mv _ wr.heap.size hks.out] at hst
      have hw2 : w.heap.size < wr.heap.size := by omega
      have hin2 := ((hin.below b2).snoc hks.out (own_base ol hw2)).set (Nat.lt_succ_self _) mv.length (sl wr.heap.size (List.replicate 6 (0 : Int)).length)
      have hfr2 : Fresh (w.heap.size + 1) w2.heap.size (valsM (rep6 m) (mv ++ [wr.heap.size])) := by
        rw [valsM_snoc (rep6 m) mv _ wr.heap.size hks.out]
        exact hfr.append (Fresh.one ol) hsz b2.size
      have hB2 := (below_trans hB b2).setCell (p := ⟨w.heap.size, mv.length, none⟩) (Nat.le_refl _) (sl wr.heap.size (List.replicate 6 (0 : Int)).length)
      have hfin := Lib.hid (And.intro hst.1 (And.intro hin2 (And.intro hfr2 (And.intro hB2 (Nat.le_trans hsz b2.size)))))
      clear hst hin2 hfr2 hB2 hlen hown2 hin hfr hB b2 ol hown
      go_wp2_with fail
      go_roundw
      case rel =>
        obtain ⟨f1, f2, f3, f4, f5⟩ := hfin.out
        exact ⟨mv.length + 1, mv ++ [wr.heap.size], by omega, by go_num, by show List.length _ = _; simp, f1, f2, by simpa using f3, f4, by simpa using f5⟩
      case measure => simp [intOf]; omega
    · obtain rfl : k = m := by omega
      have hown' := hown
      rw [show rowM (rep6 k) mv = valsM (rep6 k) mv by simp [rowM, hsv.out, rep6_len]] at hown'
      clear hown
      go_wp2_with fail
      go_ret
      exact ⟨_, mv, rfl, hsv.out, hown', hin.base (by omega), hfr.mono (by omega) (Nat.le_refl _), hB⟩
theorem ownM_of {w : World} {base : Nat} {v : Value} {L : List (List Int)} {mv : List Nat} (hl : mv.length = L.length) (h : w.ownsRow base 60 1 v L.length (valsM L mv)) (hi : InnerM w base L mv) : OwnM w base v L (valsM L mv) := by
  refine ⟨h, by rw [valsM_len L mv (by omega)]; exact hl, fun i r u hr hu => ?_⟩
  have hlt := (List.getElem?_eq_some_iff.1 hr).1
  obtain ⟨g, hg⟩ : ∃ g, mv[i]? = some g := ⟨_, List.getElem?_eq_getElem (by omega)⟩
  have : (valsM L mv)[i]? = some (sl g r.length) := by
    unfold valsM
    rw [List.getElem?_map, List.zip, List.getElem?_zipWith, hr, hg]
    rfl
  rw [this] at hu
  cases hu
  exact hi i r g hr hg

end Go.Proofs.Ytnmgecplagekcaa

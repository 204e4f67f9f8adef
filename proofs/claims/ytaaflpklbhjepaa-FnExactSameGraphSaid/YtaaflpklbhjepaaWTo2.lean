/-
  The contracts of the laws' 'toMutS', 'toGc', 'toWorld': a copy of its own, that reads alike.
-/
import Derived.Test.YtaaflpklbhjepaaWTo
namespace Go.Proofs.Ytaaflpklbhjepaa
open Go.RowKit
set_option linter.unusedVariables false

set_option maxRecDepth 100000 in
set_option maxHeartbeats 2000000 in
theorem toMut_any (r : List Int) (vr : Value) (hs1 : r.length ≤ 1048576) (w : World) (hl : Rd w vr r) :
    Calls Try.prog 40 #[.agg #[vr]] w fun e w' => ∃ g : Nat, e = .returned (.agg #[sl g r.length]) ∧
      w'.ownsRow w.heap.size 3 1 (sl g r.length) r.length (r.map (Value.int .i64)) ∧ Below w.heap.size w w' := by
  obtain ⟨hA, hR, hC, bb⟩ := box3 w (.cells #[vr] 67) (.cells #[.slice none 0 0] 47) (.cells #[.slice none 0 0] 47)
  obtain ⟨hA⟩ : Nonempty (Hid _) := ⟨Lib.hid hA⟩
  obtain ⟨hR⟩ : Nonempty (Hid _) := ⟨Lib.hid hR⟩
  obtain ⟨hC⟩ : Nonempty (Hid _) := ⟨Lib.hid hC⟩
  go_enter Try.func40, Try.ntmps40
  go_wp2_with fail
  refine (toIntS_any vr r hs1 _ (hl.below bb)).mono ?_
  rintro e w1 ⟨g1, rfl, o1, b1⟩
  have z1 := b1.size
  simp only [World.size_alloc] at z1
  have R1 := heap_below b1 hR.out
  have C1 := heap_below b1 hC.out
  have bw1 := Lib.hid (below_trans bb b1)
  have fC := cell_of_heap C1 0 _ rfl
  have gC := frozen_of_heap C1 0
  have fR := cell_of_heap R1 0 _ rfl
  have gR := frozen_of_heap R1 0
  obtain ⟨o1⟩ : Nonempty (Hid _) := ⟨Lib.hid o1⟩
  clear b1 R1 C1
  go_wp2_with fail
  refine bodyPost_ret (v := .agg #[sl g1 r.length]) (by simp [results, Try.results40, go_sem, fR]) rfl ?_
  have L1 : w1.ownsRow (w.heap.size + 1 + 1 + 1) 3 1 (sl g1 r.length) r.length (r.map (Value.int .i64)) := by simpa using o1.out
  refine ⟨g1, rfl, own_base (own_set (own_set L1 (b := w.heap.size + 1 + 1) (by omega) _ _) (b := w.heap.size + 1) (by omega) _ _) (by omega), ?_⟩
  exact (bw1.out.setCell (p := ⟨w.heap.size + 1 + 1, 0, none⟩) (by simp; omega) _).setCell (p := ⟨w.heap.size + 1, 0, none⟩) (by simp) _

/-- The users' rows. -/
def valsM (L : List (List Int)) (mv : List Nat) : List Value := (List.zip L mv).map fun x => sl x.2 x.1.length
def rowM (L : List (List Int)) (mv : List Nat) : List Value := valsM L mv ++ List.replicate (L.length - mv.length) (.slice none 0 0)
def InnerM (w : World) (base : Nat) (L : List (List Int)) (mv : List Nat) : Prop :=
  ∀ (i : Nat) (r : List Int) (g : Nat), L[i]? = some r → mv[i]? = some g → w.ownsRow base 3 1 (sl g r.length) r.length (r.map (Value.int .i64))
theorem InnerM.below {w w' : World} {base : Nat} {L : List (List Int)} {mv : List Nat} (h : InnerM w base L mv) (hb : Below w.heap.size w w') : InnerM w' base L mv :=
  fun i s p h1 h2 => own_below (h i s p h1 h2) hb
theorem InnerM.set {w : World} {base b : Nat} {L : List (List Int)} {mv : List Nat} (h : InnerM w base L mv) (hb : b < base) (i : Nat) (u : Value) : InnerM (w.setCell ⟨b, i, none⟩ u) base L mv :=
  fun j s p h1 h2 => own_set (h j s p h1 h2) hb i u
theorem InnerM.base {w : World} {base base' : Nat} {L : List (List Int)} {mv : List Nat} (h : InnerM w base L mv) (hb : base' ≤ base) : InnerM w base' L mv :=
  fun j s p h1 h2 => own_base (h j s p h1 h2) hb
theorem InnerM.snoc {w : World} {base : Nat} {L : List (List Int)} {mv : List Nat} (h : InnerM w base L mv) {r : List Int} {g : Nat} (hs : L[mv.length]? = some r)
    (h1 : w.ownsRow base 3 1 (sl g r.length) r.length (r.map (Value.int .i64))) : InnerM w base L (mv ++ [g]) := by
  intro i s' p' hi hp
  by_cases hlt : i < mv.length
  · rw [List.getElem?_append_left hlt] at hp
    exact h i s' p' hi hp
  · have hi2 : i = mv.length := by
      have := (List.getElem?_eq_some_iff.1 hp).1
      simp at this
      omega
    subst hi2
    rw [hs] at hi
    simp at hp
    cases hi
    subst hp
    exact h1
theorem valsM_snoc (L : List (List Int)) (mv : List Nat) (r : List Int) (g : Nat) (h : L[mv.length]? = some r) : valsM L (mv ++ [g]) = valsM L mv ++ [sl g r.length] := by
  induction mv generalizing L with
  | nil =>
    cases L with
    | nil => simp at h
    | cons s' L => simp at h; subst h; simp [valsM]
  | cons q sv ih =>
    cases L with
    | nil => simp at h
    | cons s' L =>
      have := ih L (by simpa using h)
      simp only [valsM, List.cons_append, List.zip_cons_cons, List.map_cons] at this ⊢
      rw [this]
theorem valsM_len (L : List (List Int)) (mv : List Nat) (h : mv.length ≤ L.length) : (valsM L mv).length = mv.length := by simp [valsM]; omega
theorem rowM_next (L : List (List Int)) (mv : List Nat) (r : List Int) (g : Nat) (h : L[mv.length]? = some r) : (rowM L mv).set mv.length (sl g r.length) = rowM L (mv ++ [g]) := by
  have hk := (List.getElem?_eq_some_iff.1 h).1
  have e : L.length - mv.length = (L.length - (mv.length + 1)) + 1 := by omega
  unfold rowM
  rw [e, List.replicate_succ, valsM_snoc L mv r g h, List.length_append, List.length_singleton, List.set_append_right _ _ (by rw [valsM_len L mv (by omega)]; omega), valsM_len L mv (by omega), Nat.sub_self, List.set_cons_zero, List.append_assoc]
  rfl

set_option maxRecDepth 100000 in
set_option maxHeartbeats 4000000 in
theorem toMutS_any (v : Value) (L : List (List Int)) (hs : L.length ≤ 1048576) (hs1 : ∀ r ∈ L, r.length ≤ 1048576) (w : World) (hr : RdM w v L) :
    Calls Try.prog 21 #[v] w fun e w' => ∃ (g : Nat) (mv : List Nat), e = .returned (sl g L.length) ∧ mv.length = L.length ∧
      w'.ownsRow w.heap.size 47 1 (sl g L.length) L.length (valsM L mv) ∧ InnerM w' w.heap.size L mv ∧ Fresh w.heap.size w'.heap.size (valsM L mv) ∧ Below w.heap.size w w' := by
  obtain ⟨i0, hi, hz0, hz1, hz2⟩ := info_parts infoMut
  obtain ⟨a, cap, rfl, _, hx⟩ := hr
  obtain ⟨hx⟩ : Nonempty (Hid _) := ⟨Lib.hid hx⟩
  obtain ⟨hs1⟩ : Nonempty (Hid _) := ⟨Lib.hid hs1⟩
  go_enter Try.func21, Try.ntmps21
  go_wp2_with (at_make; refine wpList_make_full _ rfl _ _ 29 rfl w.heap.size 47 i0 _ 1 Try.underlying29 hi hz0 hz1 .i64 .i64 _ _ L.length rfl rfl rfl rfl (by rw [hz2]; omega) (by unfold maxLen; omega) (Nat.le_refl _) ?_; intro w0 hown0 hgrow0)
  have hB0 : Below w.heap.size w w0 := (Below.refl _ _).grown hgrow0 (Nat.le_refl _) (fun k e => by cases e)
  have ho0 : w0.ownsRow w.heap.size 47 1 (sl w.heap.size L.length) L.length (rowM L []) := by
    have := hown0
    rw [show (Value.agg #[.slice none 0 0]).cells = #[.slice none 0 0] from rfl, Nat.mul_one, toList_madeCells_one] at this
    simpa [rowM, valsM] using this
  have hz0 : w.heap.size + 1 ≤ w0.heap.size := by
    have := (ho0.lt w.heap.size rfl).2
    omega
  clear hown0 hgrow0
  go_wp2
  go_loopw [4] (fun i wr => ∃ (k : Nat) (mv : List Nat), k ≤ L.length ∧ i = .int .i64 k ∧ Hid (mv.length = k) ∧ wr.ownsRow w.heap.size 47 1 (sl w.heap.size L.length) L.length (rowM L mv) ∧
      InnerM wr (w.heap.size + 1) L mv ∧ Fresh (w.heap.size + 1) wr.heap.size (valsM L mv) ∧ Below w.heap.size w wr ∧ w.heap.size + 1 ≤ wr.heap.size) (fun i _ => L.length - (intOf i).toNat)
  case atStart => exact ⟨0, [], Nat.zero_le _, rfl, rfl, ho0, (fun i s p _ h => by simp at h), by simpa [valsM] using Fresh.nil _ _, hB0, hz0⟩
  case round =>
    obtain ⟨k, mv, hk, rfl, hsv, hown, hin, hfr, hB, hsz⟩ := hrel
    by_cases hlt : k < L.length
    · obtain ⟨r, hks⟩ : ∃ r, L[k]? = some r := ⟨_, List.getElem?_eq_getElem hlt⟩
      obtain ⟨b1, o1, vr, rfl, x0, xr⟩ := hx.out k r hks
      have x1 := cell_below hB x0
      have xr1 := xr.below hB
      have hm := hs1.out r (List.mem_of_getElem? hks)
      obtain ⟨hks⟩ : Nonempty (Hid _) := ⟨Lib.hid hks⟩
      obtain ⟨hown⟩ : Nonempty (Hid _) := ⟨Lib.hid hown⟩
      clear x0 xr
      go_wp2_with fail
      refine (toMut_any r vr hm wr xr1).mono ?_
      rintro e w2 ⟨g1, rfl, ol, b2⟩
      clear x1 xr1
      have hlen := hown.out.1
      have hown2 := own_below hown.out b2
      obtain ⟨u0, y0⟩ : ∃ u, w2.cell? ⟨w.heap.size, k, none⟩ = some u := by
        rw [hown2.cellAt k (by omega), List.getElem?_eq_getElem (by omega)]
        exact ⟨_, rfl⟩
      have z0 := hown2.frozenAt k
      have hsv' := hsv.out
      subst hsv'
      have hst := hown2.stored mv.length (sl g1 r.length)
      rw [rowM_next L mv r g1 hks.out] at hst
      have hw2 : w.heap.size < wr.heap.size := by omega
      have hin2 := ((hin.below b2).snoc hks.out (own_base ol hw2)).set (Nat.lt_succ_self _) mv.length (sl g1 r.length)
      have hfr2 : Fresh (w.heap.size + 1) w2.heap.size (valsM L (mv ++ [g1])) := by
        rw [valsM_snoc L mv r g1 hks.out]
        exact hfr.append (Fresh.one ol) hsz b2.size
      have hB2 := (below_trans hB b2).setCell (p := ⟨w.heap.size, mv.length, none⟩) (Nat.le_refl _) (sl g1 r.length)
      have hfin := Lib.hid (And.intro hst.1 (And.intro hin2 (And.intro hfr2 (And.intro hB2 (Nat.le_trans hsz b2.size)))))
      clear hst hin2 hfr2 hB2 hlen hown2 hin hfr hB b2 ol hown
      go_wp2_with fail
      go_roundw
      case rel =>
        obtain ⟨f1, f2, f3, f4, f5⟩ := hfin.out
        exact ⟨mv.length + 1, mv ++ [g1], by omega, by go_num, by show List.length _ = _; simp, f1, f2, by simpa using f3, f4, by simpa using f5⟩
      case measure => simp [intOf]; omega
    · obtain rfl : k = L.length := by omega
      have hown' := hown
      rw [show rowM L mv = valsM L mv by simp [rowM, hsv.out]] at hown'
      clear hown
      go_wp2
      go_ret
      exact ⟨_, mv, rfl, hsv.out, hown', hin.base (by omega), hfr.mono (by omega) (Nat.le_refl _), hB⟩
end Go.Proofs.Ytaaflpklbhjepaa

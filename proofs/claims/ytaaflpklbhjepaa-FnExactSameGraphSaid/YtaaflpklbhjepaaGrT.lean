/-
  The laws' toObj, toObjS, toGraph: a copy of its own, that reads alike.
-/
import Derived.Test.YtaaflpklbhjepaaGrD
import Derived.Test.YtaaflpklbhjepaaWTo2
import Derived.Test.YtaaflpklbhjepaaWWorld
namespace Go.Proofs.Ytaaflpklbhjepaa
open Go.RowKit
set_option linter.unusedVariables false

theorem infoObj : (Try.prog.info? 44).map (fun i => (i.zero, i.size, i.bytes)) = some (some (.agg #[.slice none 0 0, .slice none 0 0]), 2, 48) := by kernel_rfl

set_option maxRecDepth 100000 in
set_option maxHeartbeats 2000000 in
theorem toObj_any (s : ObD) (vl vp : Value) (hs1 : s.p.length ≤ 1048576) (hs2 : s.v.length ≤ 1048576) (w : World) (hl : Rd w vl s.p) (hp : Rd w vp s.v) :
    Calls Try.prog 39 #[.agg #[vl, vp]] w fun e w' => ∃ p : Nat × Nat, e = .returned (.agg #[sl p.1 s.p.length, sl p.2 s.v.length]) ∧
      w'.ownsRow w.heap.size 3 1 (sl p.1 s.p.length) s.p.length (s.p.map (Value.int .i64)) ∧ w'.ownsRow w.heap.size 3 1 (sl p.2 s.v.length) s.v.length (s.v.map (Value.int .i64)) ∧ Fresh w.heap.size w'.heap.size [sl p.1 s.p.length, sl p.2 s.v.length] ∧ Below w.heap.size w w' := by
  obtain ⟨hA, hR, hC, bb⟩ := box3 w (.cells #[vl, vp] 65) (.cells #[.slice none 0 0, .slice none 0 0] 44) (.cells #[.slice none 0 0, .slice none 0 0] 44)
  obtain ⟨hA⟩ : Nonempty (Hid _) := ⟨Lib.hid hA⟩
  obtain ⟨hR⟩ : Nonempty (Hid _) := ⟨Lib.hid hR⟩
  obtain ⟨hC⟩ : Nonempty (Hid _) := ⟨Lib.hid hC⟩
  go_enter Try.func39, Try.ntmps39
  go_wp2_with fail
  refine (toIntS_any vl s.p hs1 _ (hl.below bb)).mono ?_
  rintro e w1 ⟨g1, rfl, o1, b1⟩
  have z1 := b1.size
  simp only [World.size_alloc] at z1
  have A1 := heap_below b1 hA.out
  have R1 := heap_below b1 hR.out
  have C1 := heap_below b1 hC.out
  have bw1 := below_trans bb b1
  have fA5 := cell_of_heap A1 1 _ rfl
  have fC4 := cell_of_heap C1 0 _ rfl
  have gC4 := frozen_of_heap C1 0
  have R2 := Lib.hid ((heap_setCell_other w1 ⟨w.heap.size + 1 + 1, 0, none⟩ (w.heap.size + 1) (.slice (some ⟨g1, 0, none⟩) s.p.length s.p.length) (by simp)).trans R1)
  have C2 := Lib.hid (heap_setCell_same w1 (w.heap.size + 1 + 1) 0 _ _ (.slice (some ⟨g1, 0, none⟩) s.p.length s.p.length) C1)
  have bw2 := bw1.setCell (p := ⟨w.heap.size + 1 + 1, 0, none⟩) (by simp; omega) (.slice (some ⟨g1, 0, none⟩) s.p.length s.p.length)
  have o2 := Lib.hid (own_set o1 (b := w.heap.size + 1 + 1) (by simp) 0 (.slice (some ⟨g1, 0, none⟩) s.p.length s.p.length))
  obtain ⟨bw2⟩ : Nonempty (Hid _) := ⟨Lib.hid bw2⟩
  have fr1 := Lib.hid (Fresh.one o1)
  clear A1 R1 C1 b1 bw1 o1
  go_wp2_with fail
  refine (toIntS_any vp s.v hs2 _ (hp.below bw2.out)).mono ?_
  rintro e w3 ⟨g3, rfl, o3, b3⟩
  have z3 := b3.size
  simp only [World.size_setCell] at z3
  have R3 := heap_below b3 R2.out
  have C3 := heap_below b3 C2.out
  have bw3 := Lib.hid (below_trans bw2.out b3)
  have q0 := cell_of_heap C3 0 _ rfl
  have q1 := cell_of_heap C3 1 _ rfl
  have gC5 := frozen_of_heap C3 1
  have r0 := cell_of_heap R3 0 _ rfl
  have y0 := frozen_of_heap R3 0
  have r1 := cell_of_heap R3 1 _ rfl
  have y1 := frozen_of_heap R3 1
  have o4 := Lib.hid (own_below o2.out b3)
  obtain ⟨o3⟩ : Nonempty (Hid _) := ⟨Lib.hid o3⟩
  obtain ⟨C3⟩ : Nonempty (Hid _) := ⟨Lib.hid C3⟩
  obtain ⟨R3⟩ : Nonempty (Hid _) := ⟨Lib.hid R3⟩
  clear b3 fA5 fC4 gC4
  go_wp2_with fail
  refine bodyPost_ret (v := .agg #[.slice (some ⟨g1, 0, none⟩) s.p.length s.p.length, .slice (some ⟨g3, 0, none⟩) s.v.length s.v.length])
    (by simp [results, Try.results39, go_sem, r0, r1]) rfl ?_
  have L3 : w3.ownsRow (w.heap.size + 1 + 1 + 1) 3 1 (.slice (some ⟨g1, 0, none⟩) s.p.length s.p.length) s.p.length (s.p.map (Value.int .i64)) := by simpa using o4.out
  have P3 : w3.ownsRow (w1.heap.size) 3 1 (.slice (some ⟨g3, 0, none⟩) s.v.length s.v.length) s.v.length (s.v.map (Value.int .i64)) := by simpa using o3.out
  have F1 := fr1.out
  have F3 := Fresh.one P3
  simp only [World.size_alloc] at F1
  have ha : w.heap.size + 1 < w.heap.size + 1 + 1 + 1 := by omega
  have hb : w.heap.size + 1 + 1 < w.heap.size + 1 + 1 + 1 := by omega
  have ha' : w.heap.size + 1 < w1.heap.size := by omega
  have hb' : w.heap.size + 1 + 1 < w1.heap.size := by omega
  refine ⟨(g1, g3), rfl, own_base (own_set (own_set (own_set L3 hb _ _) ha _ _) ha _ _) (by omega),
    own_base (own_set (own_set (own_set P3 hb' _ _) ha' _ _) ha' _ _) (by omega), ?_, ?_⟩
  · simp only [World.size_setCell]
    exact (Fresh.append F1 F3 (by omega) (by omega)).mono (by omega) (Nat.le_refl _)
  · have hn : w.heap.size ≤ w.heap.size + 1 := by omega
    have hn2 : w.heap.size ≤ w.heap.size + 1 + 1 := by omega
    exact ((bw3.out.setCell (p := ⟨w.heap.size + 1 + 1, 1, none⟩) hn2 _).setCell (p := ⟨w.heap.size + 1, 0, none⟩) hn _).setCell (p := ⟨w.heap.size + 1, 1, none⟩) hn _

/-- The two cells of an object. -/
def objC (s : ObD) (p : Nat × Nat) : List Value := [sl p.1 s.p.length, sl p.2 s.v.length]
def zero2 : List Value := [.slice none 0 0, .slice none 0 0]
def flatO (L : List ObD) (sv : List (Nat × Nat)) : List Value := (List.zip L sv).flatMap fun x => objC x.1 x.2
/-- A row of objects of which the first are filled. -/
def rowO (L : List ObD) (sv : List (Nat × Nat)) : List Value := flatO L sv ++ (List.replicate (L.length - sv.length) zero2).flatten
theorem flatO_len (L : List ObD) (sv : List (Nat × Nat)) (h : sv.length ≤ L.length) : (flatO L sv).length = sv.length * 2 := by
  induction sv generalizing L with
  | nil => simp [flatO]
  | cons p sv ih =>
    cases L with
    | nil => simp at h
    | cons s L =>
      simp only [List.length_cons] at h
      have := ih L (by omega)
      simp only [flatO, List.zip_cons_cons, List.flatMap_cons, List.length_append, List.length_cons] at this ⊢
      rw [this]
      simp [objC]; omega
theorem flatO_snoc (L : List ObD) (sv : List (Nat × Nat)) (s : ObD) (p : Nat × Nat) (h : L[sv.length]? = some s) : flatO L (sv ++ [p]) = flatO L sv ++ objC s p := by
  induction sv generalizing L with
  | nil =>
    cases L with
    | nil => simp at h
    | cons s' L => simp at h; subst h; simp [flatO]
  | cons q sv ih =>
    cases L with
    | nil => simp at h
    | cons s' L =>
      have := ih L (by simpa using h)
      simp only [flatO, List.cons_append, List.zip_cons_cons, List.flatMap_cons, List.append_assoc] at this ⊢
      rw [this]
theorem set2 (A B : List Value) (z0 z1 u0 u1 : Value) (m : Nat) (h : A.length = m) :
    ((A ++ z0 :: z1 :: B).set m u0).set (m + 1) u1 = A ++ u0 :: u1 :: B := by
  subst h
  simp
theorem rowO_next (L : List ObD) (sv : List (Nat × Nat)) (s : ObD) (p : Nat × Nat) (h : L[sv.length]? = some s) :
    ((rowO L sv).set (sv.length * 2) (sl p.1 s.p.length)).set (sv.length * 2 + 1) (sl p.2 s.v.length) = rowO L (sv ++ [p]) := by
  have hk := (List.getElem?_eq_some_iff.1 h).1
  have e : L.length - sv.length = (L.length - (sv.length + 1)) + 1 := by omega
  unfold rowO
  rw [e, List.replicate_succ, List.flatten_cons, flatO_snoc L sv s p h, List.length_append, List.length_singleton]
  exact (set2 (flatO L sv) _ _ _ _ _ _ (flatO_len L sv (by omega))).trans (by simp [objC])
theorem rowO_zero (L : List ObD) : rowO L [] = (List.replicate L.length zero2).flatten := by simp [rowO, flatO]
theorem rowO_all (L : List ObD) (sv : List (Nat × Nat)) (h : sv.length = L.length) : rowO L sv = flatO L sv := by simp [rowO, h]
theorem made2 (n : Nat) : (madeCells zero2.toArray (n * 2)).toList = (List.replicate n zero2).flatten := by
  induction n with
  | zero => simp [madeCells]
  | succ n ih =>
    have e : (n + 1) * 2 = n * 2 + 1 + 1 := by omega
    have m0 : n * 2 % 2 = 0 := by omega
    have m1 : (n * 2 + 1) % 2 = 1 := by omega
    have hsz : zero2.toArray.size = 2 := rfl
    have hm : ∀ m, (madeCells zero2.toArray m).toList = (List.range m).map (fun j => zero2.toArray[j % 2]!) := by
      intro m; unfold madeCells; rw [hsz]; simp
    rw [List.replicate_succ', List.flatten_append, ← ih, hm, hm, e]
    simp only [List.range_succ, List.map_append, List.map_cons, List.map_nil, m0, m1, List.append_assoc]
    rfl

/-- The rows of the spans' own lists. -/
def InnerO (w : World) (base : Nat) (L : List ObD) (sv : List (Nat × Nat)) : Prop :=
  ∀ (i : Nat) (s : ObD) (p : Nat × Nat), L[i]? = some s → sv[i]? = some p → w.ownsRow base 3 1 (sl p.1 s.p.length) s.p.length (s.p.map (Value.int .i64)) ∧ w.ownsRow base 3 1 (sl p.2 s.v.length) s.v.length (s.v.map (Value.int .i64))
def valsO (L : List ObD) (sv : List (Nat × Nat)) : List Value := (List.zip L sv).flatMap fun x => [sl x.2.1 x.1.p.length, sl x.2.2 x.1.v.length]
theorem InnerO.below {w w' : World} {base : Nat} {L : List ObD} {sv : List (Nat × Nat)} (h : InnerO w base L sv) (hb : Below w.heap.size w w') : InnerO w' base L sv :=
  fun i s p h1 h2 => ⟨own_below (h i s p h1 h2).1 hb, own_below (h i s p h1 h2).2 hb⟩
theorem InnerO.set {w : World} {base b : Nat} {L : List ObD} {sv : List (Nat × Nat)} (h : InnerO w base L sv) (hb : b < base) (i : Nat) (u : Value) : InnerO (w.setCell ⟨b, i, none⟩ u) base L sv :=
  fun j s p h1 h2 => ⟨own_set (h j s p h1 h2).1 hb i u, own_set (h j s p h1 h2).2 hb i u⟩
theorem InnerO.base {w : World} {base base' : Nat} {L : List ObD} {sv : List (Nat × Nat)} (h : InnerO w base L sv) (hb : base' ≤ base) : InnerO w base' L sv :=
  fun j s p h1 h2 => ⟨own_base (h j s p h1 h2).1 hb, own_base (h j s p h1 h2).2 hb⟩
theorem InnerO.snoc {w : World} {base : Nat} {L : List ObD} {sv : List (Nat × Nat)} (h : InnerO w base L sv) {s : ObD} {p : Nat × Nat} (hs : L[sv.length]? = some s)
    (h1 : w.ownsRow base 3 1 (sl p.1 s.p.length) s.p.length (s.p.map (Value.int .i64))) (h2 : w.ownsRow base 3 1 (sl p.2 s.v.length) s.v.length (s.v.map (Value.int .i64))) : InnerO w base L (sv ++ [p]) := by
  intro i s' p' hi hp
  by_cases hlt : i < sv.length
  · rw [List.getElem?_append_left hlt] at hp
    exact h i s' p' hi hp
  · have hi2 : i = sv.length := by
      have := (List.getElem?_eq_some_iff.1 hp).1
      simp at this
      omega
    subst hi2
    rw [hs] at hi
    simp at hp
    cases hi
    subst hp
    exact ⟨h1, h2⟩
theorem valsO_snoc (L : List ObD) (sv : List (Nat × Nat)) (s : ObD) (p : Nat × Nat) (h : L[sv.length]? = some s) : valsO L (sv ++ [p]) = valsO L sv ++ [sl p.1 s.p.length, sl p.2 s.v.length] := by
  induction sv generalizing L with
  | nil =>
    cases L with
    | nil => simp at h
    | cons s' L => simp at h; subst h; simp [valsO]
  | cons q sv ih =>
    cases L with
    | nil => simp at h
    | cons s' L =>
      have := ih L (by simpa using h)
      simp only [valsO, List.cons_append, List.zip_cons_cons, List.flatMap_cons, List.append_assoc] at this ⊢
      rw [this]

set_option maxRecDepth 100000 in
set_option maxHeartbeats 4000000 in
theorem toObjS_any (v : Value) (L : List ObD) (hs : L.length ≤ 1048576) (hs1 : ∀ s ∈ L, s.p.length ≤ 1048576 ∧ s.v.length ≤ 1048576) (w : World) (hr : RdO w v L) :
    Calls Try.prog 20 #[v] w fun e w' => ∃ (g : Nat) (sv : List (Nat × Nat)), e = .returned (sl g L.length) ∧ sv.length = L.length ∧
      w'.ownsRow w.heap.size 44 2 (sl g L.length) L.length (flatO L sv) ∧ InnerO w' w.heap.size L sv ∧ Fresh w.heap.size w'.heap.size (valsO L sv) ∧ Below w.heap.size w w' := by
  obtain ⟨i0, hi, hz0, hz1, hz2⟩ := info_parts infoObj
  obtain ⟨a, cap, rfl, _, hx⟩ := hr
  obtain ⟨hx⟩ : Nonempty (Hid _) := ⟨Lib.hid hx⟩
  obtain ⟨hs1⟩ : Nonempty (Hid _) := ⟨Lib.hid hs1⟩
  go_enter Try.func20, Try.ntmps20
  go_wp2_with (at_make; refine wpList_make_full _ rfl _ _ 28 rfl w.heap.size 44 i0 _ 2 Try.underlying28 hi hz0 hz1 .i64 .i64 _ _ L.length rfl rfl rfl rfl (by rw [hz2]; omega) (by unfold maxLen; omega) (Nat.le_refl _) ?_; intro w0 hown0 hgrow0)
  have hB0 : Below w.heap.size w w0 := (Below.refl _ _).grown hgrow0 (Nat.le_refl _) (fun k e => by cases e)
  have ho0 : w0.ownsRow w.heap.size 44 2 (sl w.heap.size L.length) L.length (rowO L []) := by
    rw [rowO_zero, ← made2]
    exact hown0
  have hz0 : w.heap.size + 1 ≤ w0.heap.size := by
    have := (ho0.lt w.heap.size rfl).2
    omega
  clear hown0 hgrow0
  go_wp2
  go_loopw [4] (fun i wr => ∃ (k : Nat) (sv : List (Nat × Nat)), k ≤ L.length ∧ i = .int .i64 k ∧ Hid (sv.length = k) ∧ wr.ownsRow w.heap.size 44 2 (sl w.heap.size L.length) L.length (rowO L sv) ∧
      InnerO wr (w.heap.size + 1) L sv ∧ Fresh (w.heap.size + 1) wr.heap.size (valsO L sv) ∧ Below w.heap.size w wr ∧ w.heap.size + 1 ≤ wr.heap.size) (fun i _ => L.length - (intOf i).toNat)
  case atStart => exact ⟨0, [], Nat.zero_le _, rfl, rfl, ho0, (fun i s p _ h => by simp at h), by simpa [valsO] using Fresh.nil _ _, hB0, hz0⟩
  case round =>
    obtain ⟨k, sv, hk, rfl, hsv, hown, hin, hfr, hB, hsz⟩ := hrel
    by_cases hlt : k < L.length
    · obtain ⟨s, hks⟩ : ∃ s, L[k]? = some s := ⟨_, List.getElem?_eq_getElem hlt⟩
      obtain ⟨b1, o1, rfl, p1⟩ := hx.out k s hks
      obtain ⟨vl, vp, x0, x1, xl, xp⟩ := p1.below hB
      have hm := hs1.out s (List.mem_of_getElem? hks)
      obtain ⟨hks⟩ : Nonempty (Hid _) := ⟨Lib.hid hks⟩
      obtain ⟨hown⟩ : Nonempty (Hid _) := ⟨Lib.hid hown⟩
      go_wp2_with fail
      refine (toObj_any s vl vp hm.1 hm.2 wr xl xp).mono ?_
      rintro e w2 ⟨⟨g1, g3⟩, rfl, ol, op, fr2, b2⟩
      clear x0 x1 xl xp p1
      have hlen := hown.out.1
      have hown2 := own_below hown.out b2
      have old : ∀ j, j < 2 → ∃ u, w2.cell? ⟨w.heap.size, k * 2 + j, none⟩ = some u := fun j hj => by
        rw [hown2.cellAt (k * 2 + j) (by omega), List.getElem?_eq_getElem (by omega)]
        exact ⟨_, rfl⟩
      obtain ⟨u0, y0⟩ := old 0 (by omega)
      obtain ⟨u1, y1⟩ := old 1 (by omega)
      rw [Nat.add_zero] at y0
      have z0 := hown2.frozenAt (k * 2)
      have z1 := hown2.frozenAt (k * 2 + 1)
      have hsv' := hsv.out
      subst hsv'
      have hst := (hown2.stored (sv.length * 2) (sl g1 s.p.length)).1.stored (sv.length * 2 + 1) (sl g3 s.v.length)
      rw [rowO_next L sv s (g1, g3) hks.out] at hst
      have hw2 : w.heap.size < wr.heap.size := by omega
      have hin3 := (((hin.below b2).snoc hks.out (own_base ol hw2) (own_base op hw2)).set (Nat.lt_succ_self _) (sv.length * 2) (sl g1 s.p.length)).set (Nat.lt_succ_self _) (sv.length * 2 + 1) (sl g3 s.v.length)
      have hfr2 : Fresh (w.heap.size + 1) w2.heap.size (valsO L (sv ++ [(g1, g3)])) := by
        rw [valsO_snoc L sv s (g1, g3) hks.out]
        exact hfr.append fr2 hsz b2.size
      have hB3 := ((below_trans hB b2).setCell (p := ⟨w.heap.size, sv.length * 2, none⟩) (Nat.le_refl _) (sl g1 s.p.length)).setCell (p := ⟨w.heap.size, sv.length * 2 + 1, none⟩) (Nat.le_refl _) (sl g3 s.v.length)
      have hfin := Lib.hid (And.intro hst.1 (And.intro hin3 (And.intro hfr2 (And.intro hB3 (Nat.le_trans hsz b2.size)))))
      clear hst hin3 hfr2 hB3 hlen hown2 old hin hfr hB b2 ol op fr2 hown
      go_wp2_with fail
      go_roundw
      case rel =>
        obtain ⟨f1, f2, f3, f4, f5⟩ := hfin.out
        exact ⟨sv.length + 1, sv ++ [(g1, g3)], by omega, by go_num, by show List.length _ = _; simp, f1, f2, by simpa using f3, f4, by simpa using f5⟩
      case measure => simp [intOf]; omega
    · obtain rfl : k = L.length := by omega
      have hown' := hown
      rw [rowO_all L sv hsv.out] at hown'
      clear hown
      go_wp2
      go_ret
      exact ⟨_, sv, rfl, hsv.out, hown', hin.base (by omega), hfr.mono (by omega) (Nat.le_refl _), hB⟩
theorem flatO_at (L : List ObD) (sv : List (Nat × Nat)) (j : Nat) (s : ObD) (p : Nat × Nat) (h1 : L[j]? = some s) (h2 : sv[j]? = some p) (i : Nat) (hi : i < 2) : (flatO L sv)[j * 2 + i]? = (objC s p)[i]? := by
  induction j generalizing L sv with
  | zero =>
    cases L with
    | nil => simp at h1
    | cons a L =>
      cases sv with
      | nil => simp at h2
      | cons b sv =>
        simp at h1 h2
        subst h1 h2
        simp only [flatO, List.zip_cons_cons, List.flatMap_cons]
        rw [List.getElem?_append_left (by simp [objC]; omega)]
        congr 1
        omega
  | succ j ih =>
    cases L with
    | nil => simp at h1
    | cons a L =>
      cases sv with
      | nil => simp at h2
      | cons b sv =>
        have := ih L sv (by simpa using h1) (by simpa using h2)
        simp only [flatO, List.zip_cons_cons, List.flatMap_cons] at this ⊢
        rw [List.getElem?_append_right (by simp [objC]; omega), ← this]
        congr 1
        simp [objC]
        omega
theorem RdO.of_owns {w : World} {base : Nat} {v : Value} {L : List ObD} {sv : List (Nat × Nat)} (h : w.ownsRow base 44 2 v L.length (flatO L sv)) (hl : sv.length = L.length) (hi : InnerO w base L sv) : RdO w v L := by
  have h' := h
  rcases h.2 with ⟨rfl, h0⟩ | ⟨g, cap, cur, rfl, _, _, hc1, hc2, _, _⟩
  · obtain rfl : L = [] := List.length_eq_zero_iff.1 h0
    exact ⟨none, 0, rfl, by unfold maxLen; simp, fun j s hj => by simp at hj⟩
  · refine ⟨some ⟨g, 0, none⟩, cap, rfl, by omega, fun j s hj => ⟨g, 0, rfl, ?_⟩⟩
    have hlt := (List.getElem?_eq_some_iff.1 hj).1
    obtain ⟨p, hp⟩ : ∃ p, sv[j]? = some p := ⟨_, List.getElem?_eq_getElem (by omega)⟩
    have hc : ∀ i, i < 2 → w.cell? ⟨g, 0 + j * 2 + i, none⟩ = (objC s p)[i]? := fun i hi6 => by
      rw [Nat.zero_add, h'.cellAt (j * 2 + i) (by omega), flatO_at L sv j s p hj hp i hi6]
    exact ⟨_, _, hc 0 (by omega), hc 1 (by omega), Rd.of_owns (hi j s p hj hp).1, Rd.of_owns (hi j s p hj hp).2⟩
/-- Small enough to be copied. -/
structure GSmall (D : GD) : Prop where
  objs : D.objs.length ≤ 1048576
  inner : ∀ s ∈ D.objs, s.p.length ≤ 1048576 ∧ s.v.length ≤ 1048576
  muts : D.muts.length ≤ 1048576
  innerM : ∀ r ∈ D.muts, r.length ≤ 1048576
theorem GSmall.of_bulk {D : GD} (h : D.bulk ≤ 1048576) : GSmall D := by
  unfold GD.bulk at h
  refine ⟨by omega, fun s hs => ?_, by omega, fun r hr => ?_⟩
  · have := sum_ge ObD.bulk D.objs s hs
    unfold bulkO at h
    unfold ObD.bulk at this
    have e : (D.objs.map ObD.bulk).sum = (D.objs.map fun s => s.p.length + s.v.length).sum := rfl
    rw [e] at h
    omega
  · have := sum_ge List.length D.muts r hr
    unfold bulkM at h
    omega
/-- A Graph's lists, owned. -/
structure OwnG (w : World) (base : Nat) (vo vm : Value) (D : GD) (sv : List (Nat × Nat)) (mv : List Nat) : Prop where
  objs : w.ownsRow base 44 2 vo D.objs.length (flatO D.objs sv)
  len : sv.length = D.objs.length
  inner : InnerO w base D.objs sv
  muts : w.ownsRow base 47 1 vm D.muts.length (valsM D.muts mv)
  mlen : mv.length = D.muts.length
  innerM : InnerM w base D.muts mv
  fresh : Fresh base w.heap.size (valsO D.objs sv ++ valsM D.muts mv)
theorem RdM.of_inner {w : World} {base : Nat} {v : Value} {L : List (List Int)} {mv : List Nat} (h : w.ownsRow base 47 1 v L.length (valsM L mv)) (hl : mv.length = L.length) (hi : InnerM w base L mv) : RdM w v L :=
  RdM.of_owns h (by rw [valsM_len L mv (by omega)]; exact hl) fun i r u h1 h2 => by
    obtain ⟨g, hg, rfl⟩ := valsM_at L mv i r u h1 h2
    exact hi i r g h1 hg
theorem OwnG.rd {w : World} {base : Nat} {vo vm : Value} {D : GD} {sv : List (Nat × Nat)} {mv : List Nat} (h : OwnG w base vo vm D sv mv) : RdG w (.agg #[vo, vm]) D :=
  ⟨vo, vm, rfl, RdO.of_owns h.objs h.len h.inner, RdM.of_inner h.muts h.mlen h.innerM⟩

set_option maxRecDepth 100000 in
set_option maxHeartbeats 4000000 in
theorem toGraph_any (v : Value) (D : GD) (hs : GSmall D) (w : World) (hr : RdG w v D) :
    Calls Try.prog 8 #[v] w fun e w' => ∃ g gm sv mv, e = .returned (.agg #[sl g D.objs.length, sl gm D.muts.length]) ∧ OwnG w' w.heap.size (sl g D.objs.length) (sl gm D.muts.length) D sv mv ∧ Below w.heap.size w w' := by
  obtain ⟨vo, vm, rfl, a1, a2⟩ := hr
  obtain ⟨hA, hR, hC, bb⟩ := box3 w (.cells #[vo, vm] 25) (.cells #[.slice none 0 0, .slice none 0 0] 31) (.cells #[.slice none 0 0, .slice none 0 0] 31)
  obtain ⟨hA⟩ : Nonempty (Hid _) := ⟨Lib.hid hA⟩
  obtain ⟨hR⟩ : Nonempty (Hid _) := ⟨Lib.hid hR⟩
  obtain ⟨hC⟩ : Nonempty (Hid _) := ⟨Lib.hid hC⟩
  go_enter Try.func8, Try.ntmps8
  go_wp2_with fail
  refine (toObjS_any vo D.objs hs.objs hs.inner _ (a1.below bb)).mono ?_
  rintro e w1 ⟨g1, sv, rfl, l1, o1, i1, fr1, b1⟩
  have z1 := b1.size
  simp only [World.size_alloc] at z1
  have A1 := heap_below b1 hA.out
  have R1 := heap_below b1 hR.out
  have C1 := heap_below b1 hC.out
  have bw1 := below_trans bb b1
  have fA5 := cell_of_heap A1 1 _ rfl
  have fC4 := cell_of_heap C1 0 _ rfl
  have gC4 := frozen_of_heap C1 0
  have R2 := Lib.hid ((heap_setCell_other w1 ⟨w.heap.size + 1 + 1, 0, none⟩ (w.heap.size + 1) (sl g1 D.objs.length) (by simp)).trans R1)
  have C2 := Lib.hid (heap_setCell_same w1 (w.heap.size + 1 + 1) 0 _ _ (sl g1 D.objs.length) C1)
  have bw2 := Lib.hid (bw1.setCell (p := ⟨w.heap.size + 1 + 1, 0, none⟩) (by simp; omega) (sl g1 D.objs.length))
  simp only [World.size_alloc] at o1 i1 fr1
  have o2 := Lib.hid (own_set o1 (b := w.heap.size + 1 + 1) (by omega) 0 (sl g1 D.objs.length))
  have i2 := Lib.hid (i1.set (b := w.heap.size + 1 + 1) (by omega) 0 (sl g1 D.objs.length))
  have fr1' := Lib.hid fr1
  have l1' := Lib.hid l1
  clear A1 R1 C1 b1 bw1 o1 i1 fr1 l1
  go_wp2_with fail
  refine (toMutS_any vm D.muts hs.muts hs.innerM _ (a2.below bw2.out)).mono ?_
  rintro e w3 ⟨g3, mv, rfl, l3, o3, i3, fr3, b3⟩
  have z3 := b3.size
  simp only [World.size_setCell] at z3
  have R3 := heap_below b3 R2.out
  have C3 := heap_below b3 C2.out
  have bw3 := Lib.hid (below_trans bw2.out b3)
  have q0 := cell_of_heap C3 0 _ rfl
  have q1 := cell_of_heap C3 1 _ rfl
  have gC5 := frozen_of_heap C3 1
  have r0 := cell_of_heap R3 0 _ rfl
  have y0 := frozen_of_heap R3 0
  have r1 := cell_of_heap R3 1 _ rfl
  have y1 := frozen_of_heap R3 1
  have o4 := Lib.hid (own_below o2.out b3)
  have i4 := Lib.hid (i2.out.below b3)
  simp only [World.size_setCell] at o3 i3 fr3
  have H3 := Lib.hid (And.intro l3 (And.intro o3 (And.intro i3 fr3)))
  obtain ⟨C3⟩ : Nonempty (Hid _) := ⟨Lib.hid C3⟩
  obtain ⟨R3⟩ : Nonempty (Hid _) := ⟨Lib.hid R3⟩
  clear b3 fA5 fC4 gC4 l3 o3 i3 fr3
  go_wp2_with fail
  refine bodyPost_ret (v := .agg #[sl g1 D.objs.length, sl g3 D.muts.length])
    (by simp [results, Try.results8, go_sem, r0, r1]) rfl ?_
  obtain ⟨l3, P3, I3, F3⟩ := H3.out
  have ha : w.heap.size + 1 < w.heap.size + 1 + 1 + 1 := by omega
  have hb : w.heap.size + 1 + 1 < w.heap.size + 1 + 1 + 1 := by omega
  have ha' : w.heap.size + 1 < w1.heap.size := by omega
  have hb' : w.heap.size + 1 + 1 < w1.heap.size := by omega
  have lo : w.heap.size ≤ w.heap.size + 1 + 1 + 1 := by omega
  have lo' : w.heap.size ≤ w1.heap.size := by omega
  refine ⟨g1, g3, sv, mv, rfl, ⟨own_base (own_set (own_set (own_set o4.out hb _ _) ha _ _) ha _ _) lo, l1'.out, (((i4.out.set hb _ _).set ha _ _).set ha _ _).base lo,
    own_base (own_set (own_set (own_set P3 hb' _ _) ha' _ _) ha' _ _) lo', l3, (((I3.set hb' _ _).set ha' _ _).set ha' _ _).base lo', ?_⟩, ?_⟩
  · simp only [World.size_setCell]
    exact (Fresh.append fr1'.out F3 (by omega) (by omega)).mono (by omega) (Nat.le_refl _)
  · have hn : w.heap.size ≤ w.heap.size + 1 := by omega
    have hn2 : w.heap.size ≤ w.heap.size + 1 + 1 := by omega
    exact ((bw3.out.setCell (p := ⟨w.heap.size + 1 + 1, 1, none⟩) hn2 _).setCell (p := ⟨w.heap.size + 1, 0, none⟩) hn _).setCell (p := ⟨w.heap.size + 1, 1, none⟩) hn _
end Go.Proofs.Ytaaflpklbhjepaa

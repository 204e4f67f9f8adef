/-
  What it means that a World in memory owns all its lists; the contract of the laws' 'toWorld'.
-/
import Derived.Test.YtnmgecplagekcaaWTo2
namespace Go.Proofs.Ytnmgecplagekcaa
open Go.RowKit
set_option linter.unusedVariables false

/-- The slice values of a World. -/
structure Shape where
  vw : Value
  vd : Value
  vs : Value
  vm : Value
  vg : Value
  sv : List (Value × Value)
  mv : List Value
def spanCv (s : SpanD) (p : Value × Value) : List Value := [.int .i64 s.page, .int .i64 s.cls, .int .i64 s.mark, .bool s.swept, p.1, p.2]
def flatV (L : List SpanD) (sv : List (Value × Value)) : List Value := (List.zip L sv).flatMap fun x => spanCv x.1 x.2
def Shape.val (S : Shape) (D : WD) : Value := .agg #[.int .i64 D.base, .int .i64 D.pages, S.vw, S.vd, S.vs, S.vm, .int .i64 D.phase, .int .i64 D.next, S.vg]
/-- All lists of ints. -/
def Shape.ints (S : Shape) : List Value := S.vw :: (S.sv.flatMap fun p => [p.1, p.2]) ++ S.mv ++ [S.vg]
/-- THE WORLD OWNS ALL ITS LISTS, in blocks from base on; no two lists share one. -/
structure OwnW (w : World) (base : Nat) (S : Shape) (D : WD) : Prop where
  words : w.ownsRow base 3 1 S.vw D.words.length (D.words.map (Value.int .i64))
  dirty : w.ownsRow base 4 1 S.vd D.dirty.length (D.dirty.map Value.bool)
  spans : w.ownsRow base 63 6 S.vs D.spans.length (flatV D.spans S.sv)
  svl : S.sv.length = D.spans.length
  inner : ∀ (i : Nat) (s : SpanD) (p : Value × Value), D.spans[i]? = some s → S.sv[i]? = some p → w.ownsRow base 3 1 p.1 s.lens.length (s.lens.map (Value.int .i64)) ∧ w.ownsRow base 3 1 p.2 s.ptrs.length (s.ptrs.map (Value.int .i64))
  muts : w.ownsRow base 60 1 S.vm D.muts.length S.mv
  mvl : S.mv.length = D.muts.length
  innerM : ∀ (i : Nat) (r : List Int) (v : Value), D.muts[i]? = some r → S.mv[i]? = some v → w.ownsRow base 3 1 v r.length (r.map (Value.int .i64))
  grey : w.ownsRow base 3 1 S.vg D.grey.length (D.grey.map (Value.int .i64))
  nodup : (S.ints.filterMap Value.ownBlock).Nodup

theorem OwnW.below {w w' : World} {base : Nat} {S : Shape} {D : WD} (h : OwnW w base S D) (hb : Below w.heap.size w w') : OwnW w' base S D :=
  ⟨own_below h.words hb, own_below h.dirty hb, own_below h.spans hb, h.svl, fun i s p h1 h2 => ⟨own_below (h.inner i s p h1 h2).1 hb, own_below (h.inner i s p h1 h2).2 hb⟩,
    own_below h.muts hb, h.mvl, fun i r v h1 h2 => own_below (h.innerM i r v h1 h2) hb, own_below h.grey hb, h.nodup⟩
theorem OwnW.base {w : World} {base base' : Nat} {S : Shape} {D : WD} (h : OwnW w base S D) (hb : base' ≤ base) : OwnW w base' S D :=
  ⟨own_base h.words hb, own_base h.dirty hb, own_base h.spans hb, h.svl, fun i s p h1 h2 => ⟨own_base (h.inner i s p h1 h2).1 hb, own_base (h.inner i s p h1 h2).2 hb⟩,
    own_base h.muts hb, h.mvl, fun i r v h1 h2 => own_base (h.innerM i r v h1 h2) hb, own_base h.grey hb, h.nodup⟩

theorem Rd.of_owns {w : World} {base : Nat} {v : Value} {L : List Int} (h : w.ownsRow base 3 1 v L.length (L.map (Value.int .i64))) : Rd w v L := by
  have h' := h
  rcases h.2 with ⟨rfl, h0⟩ | ⟨g, cap, cur, rfl, _, _, hc1, hc2, _, _⟩
  · exact ⟨none, 0, by rw [h0], by rw [h0]; unfold maxLen; omega, fun j hj => by omega⟩
  · refine ⟨some ⟨g, 0, none⟩, cap, rfl, by omega, fun j hj => ⟨g, 0, rfl, ?_⟩⟩
    rw [Nat.zero_add, h'.cellAt j (by simpa using hj)]
    simp [hj]
theorem RdB.of_owns {w : World} {base : Nat} {v : Value} {L : List Bool} (h : w.ownsRow base 4 1 v L.length (L.map Value.bool)) : RdB w v L := by
  have h' := h
  rcases h.2 with ⟨rfl, h0⟩ | ⟨g, cap, cur, rfl, _, _, hc1, hc2, _, _⟩
  · exact ⟨none, 0, by rw [h0], by rw [h0]; unfold maxLen; omega, fun j hj => by omega⟩
  · refine ⟨some ⟨g, 0, none⟩, cap, rfl, by omega, fun j hj => ⟨g, 0, rfl, ?_⟩⟩
    rw [Nat.zero_add, h'.cellAt j (by simpa using hj)]
    simp [hj]
theorem flatV_len (L : List SpanD) (sv : List (Value × Value)) (h : sv.length = L.length) : (flatV L sv).length = L.length * 6 := by
  induction sv generalizing L with
  | nil => cases L with
    | nil => simp [flatV]
    | cons s L => simp at h
  | cons p sv ih =>
    cases L with
    | nil => simp at h
    | cons s L =>
      simp only [List.length_cons] at h
      have := ih L (by omega)
      simp only [flatV, List.zip_cons_cons, List.flatMap_cons, List.length_append, List.length_cons] at this ⊢
      rw [this]
      simp [spanCv]; omega
theorem flatV_at (L : List SpanD) (sv : List (Value × Value)) (k : Nat) (s : SpanD) (p : Value × Value) (h1 : L[k]? = some s) (h2 : sv[k]? = some p) (j : Nat) (hj : j < 6) : (flatV L sv)[k * 6 + j]? = (spanCv s p)[j]? := by
  induction k generalizing L sv with
  | zero =>
    cases L with
    | nil => simp at h1
    | cons s' L =>
      cases sv with
      | nil => simp at h2
      | cons p' sv =>
        simp at h1 h2
        subst h1; subst h2
        simp only [flatV, List.zip_cons_cons, List.flatMap_cons]
        rw [List.getElem?_append_left (by simp [spanCv]; omega)]
        simp
  | succ k ih =>
    cases L with
    | nil => simp at h1
    | cons s' L =>
      cases sv with
      | nil => simp at h2
      | cons p' sv =>
        simp at h1 h2
        have := ih L sv h1 h2
        simp only [flatV, List.zip_cons_cons, List.flatMap_cons] at this ⊢
        rw [List.getElem?_append_right (by simp [spanCv]; omega)]
        have e : (k + 1) * 6 + j - (spanCv s' p').length = k * 6 + j := by simp [spanCv]; omega
        rw [e, this]
theorem RdS.of_owns {w : World} {base : Nat} {v : Value} {L : List SpanD} {sv : List (Value × Value)} (h : w.ownsRow base 63 6 v L.length (flatV L sv)) (hl : sv.length = L.length)
    (hi : ∀ (i : Nat) (s : SpanD) (p : Value × Value), L[i]? = some s → sv[i]? = some p → w.ownsRow base 3 1 p.1 s.lens.length (s.lens.map (Value.int .i64)) ∧ w.ownsRow base 3 1 p.2 s.ptrs.length (s.ptrs.map (Value.int .i64))) : RdS w v L := by
  have h' := h
  rcases h.2 with ⟨rfl, h0⟩ | ⟨g, cap, cur, rfl, _, _, hc1, hc2, _, _⟩
  · obtain rfl : L = [] := List.length_eq_zero_iff.1 h0
    exact ⟨none, 0, rfl, by unfold maxLen; simp, fun j s hj => by simp at hj⟩
  · refine ⟨some ⟨g, 0, none⟩, cap, rfl, by omega, fun j s hj => ⟨g, 0, rfl, ?_⟩⟩
    have hlt := (List.getElem?_eq_some_iff.1 hj).1
    obtain ⟨p, hp⟩ : ∃ p, sv[j]? = some p := ⟨_, List.getElem?_eq_getElem (by omega)⟩
    have hc : ∀ i, i < 6 → w.cell? ⟨g, 0 + j * 6 + i, none⟩ = (spanCv s p)[i]? := fun i hi6 => by
      rw [Nat.zero_add, h'.cellAt (j * 6 + i) (by omega), flatV_at L sv j s p hj hp i hi6]
    exact ⟨p.1, p.2, hc 0 (by omega), hc 1 (by omega), hc 2 (by omega), hc 3 (by omega), hc 4 (by omega), hc 5 (by omega), Rd.of_owns (hi j s p hj hp).1, Rd.of_owns (hi j s p hj hp).2⟩
theorem RdM.of_owns {w : World} {base : Nat} {v : Value} {L : List (List Int)} {mv : List Value} (h : w.ownsRow base 60 1 v L.length mv) (hl : mv.length = L.length)
    (hi : ∀ (i : Nat) (r : List Int) (u : Value), L[i]? = some r → mv[i]? = some u → w.ownsRow base 3 1 u r.length (r.map (Value.int .i64))) : RdM w v L := by
  have h' := h
  rcases h.2 with ⟨rfl, h0⟩ | ⟨g, cap, cur, rfl, _, _, hc1, hc2, _, _⟩
  · obtain rfl : L = [] := List.length_eq_zero_iff.1 h0
    exact ⟨none, 0, rfl, by unfold maxLen; simp, fun j s hj => by simp at hj⟩
  · refine ⟨some ⟨g, 0, none⟩, cap, rfl, by omega, fun j r hj => ?_⟩
    have hlt := (List.getElem?_eq_some_iff.1 hj).1
    obtain ⟨u, hu⟩ : ∃ u, mv[j]? = some u := ⟨_, List.getElem?_eq_getElem (by omega)⟩
    refine ⟨g, 0, u, rfl, ?_, Rd.of_owns (hi j r u hj hu)⟩
    rw [Nat.zero_add, h'.cellAt j (by omega), hu]
theorem OwnW.rd {w : World} {base : Nat} {S : Shape} {D : WD} (h : OwnW w base S D) : RdW w (S.val D) D :=
  ⟨_, _, _, _, _, rfl, Rd.of_owns h.words, RdB.of_owns h.dirty, RdS.of_owns h.spans h.svl h.inner, RdM.of_owns h.muts h.mvl h.innerM, Rd.of_owns h.grey⟩

/-- The shape of a World that was copied. -/
def pairsS (L : List SpanD) (sv : List (Nat × Nat)) : List (Value × Value) := (List.zip L sv).map fun x => (sl x.2.1 x.1.lens.length, sl x.2.2 x.1.ptrs.length)
theorem pairsS_len (L : List SpanD) (sv : List (Nat × Nat)) (h : sv.length = L.length) : (pairsS L sv).length = L.length := by simp [pairsS, h]
theorem flatS_eq (L : List SpanD) (sv : List (Nat × Nat)) : flatS L sv = flatV L (pairsS L sv) := by
  induction sv generalizing L with
  | nil => simp [flatS, flatV, pairsS]
  | cons p sv ih =>
    cases L with
    | nil => simp [flatS, flatV, pairsS]
    | cons s L =>
      have := ih L
      simp only [flatS, flatV, pairsS, List.zip_cons_cons, List.flatMap_cons, List.map_cons] at this ⊢
      rw [this]
      rfl
theorem valsS_eq (L : List SpanD) (sv : List (Nat × Nat)) : (pairsS L sv).flatMap (fun p => [p.1, p.2]) = valsS L sv := by
  simp [pairsS, valsS, List.flatMap_map]
theorem pairsS_at (L : List SpanD) (sv : List (Nat × Nat)) (i : Nat) (s : SpanD) (p : Value × Value) (h1 : L[i]? = some s) (h2 : (pairsS L sv)[i]? = some p) : ∃ q, sv[i]? = some q ∧ p = (sl q.1 s.lens.length, sl q.2 s.ptrs.length) := by
  simp only [pairsS, List.getElem?_map, Option.map_eq_some_iff] at h2
  obtain ⟨x, hx, rfl⟩ := h2
  obtain ⟨ha, hb⟩ := List.getElem?_zip_eq_some.1 hx
  rw [h1] at ha
  cases ha
  exact ⟨_, hb, rfl⟩
theorem valsM_at (L : List (List Int)) (mv : List Nat) (i : Nat) (r : List Int) (v : Value) (h1 : L[i]? = some r) (h2 : (valsM L mv)[i]? = some v) : ∃ g, mv[i]? = some g ∧ v = sl g r.length := by
  simp only [valsM, List.getElem?_map, Option.map_eq_some_iff] at h2
  obtain ⟨x, hx, rfl⟩ := h2
  obtain ⟨ha, hb⟩ := List.getElem?_zip_eq_some.1 hx
  rw [h1] at ha
  cases ha
  exact ⟨_, hb, rfl⟩
/-- Small enough to be copied. -/
structure Small (D : WD) : Prop where
  words : D.words.length ≤ 1048576
  dirty : D.dirty.length ≤ 1048576
  spans : D.spans.length ≤ 1048576
  inner : ∀ s ∈ D.spans, s.lens.length ≤ 1048576 ∧ s.ptrs.length ≤ 1048576
  muts : D.muts.length ≤ 1048576
  innerM : ∀ r ∈ D.muts, r.length ≤ 1048576
  grey : D.grey.length ≤ 1048576
theorem sum_ge {α : Type} (f : α → Nat) (l : List α) (x : α) (h : x ∈ l) : f x ≤ (l.map f).sum := by
  induction l with
  | nil => simp at h
  | cons y l ih =>
    simp only [List.mem_cons] at h
    simp only [List.map_cons, List.sum_cons]
    rcases h with rfl | h
    · omega
    · have := ih h; omega
theorem Small.of_bulk {D : WD} (h : D.bulk ≤ 1048576) : Small D := by
  unfold WD.bulk at h
  refine ⟨by omega, by omega, by omega, fun s hs => ?_, by omega, fun r hr => ?_, by omega⟩
  · have := sum_ge SpanD.bulk D.spans s hs
    unfold bulkS at h
    unfold SpanD.bulk at this
    have e : (D.spans.map SpanD.bulk).sum = (D.spans.map fun s => s.lens.length + s.ptrs.length).sum := rfl
    rw [e] at h
    omega
  · have := sum_ge List.length D.muts r hr
    unfold bulkM at h
    omega

/-- Blocks c1 and c2 alone have turned. -/
structure Two (c1 c2 : Nat) (w w' : World) : Prop where
  os : w'.os = w.os
  tape : w'.tape = w.tape
  output : w'.output = w.output
  size : w'.heap.size = w.heap.size
  block : ∀ k, k ≠ c1 → k ≠ c2 → w'.heap[k]? = w.heap[k]?
theorem Two.refl (c1 c2 : Nat) (w : World) : Two c1 c2 w w := ⟨rfl, rfl, rfl, rfl, fun _ _ _ => rfl⟩
theorem Two.set {c1 c2 b : Nat} {w w' : World} (h : Two c1 c2 w w') (hb : b = c1 ∨ b = c2) (i : Nat) (u : Value) : Two c1 c2 w (w'.setCell ⟨b, i, none⟩ u) :=
  ⟨h.os, h.tape, h.output, by rw [World.size_setCell]; exact h.size, fun k h1 h2 => (heap_setCell_other w' ⟨b, i, none⟩ k u (by rcases hb with rfl | rfl <;> assumption)).trans (h.block k h1 h2)⟩
theorem Two.own {c1 c2 : Nat} {w w' : World} (h : Two c1 c2 w w') {base size n : Nat} {e : TypeId} {v : Value} {xs : List Value} (ho : w.ownsRow base e size v n xs) (h1 : c1 < base) (h2 : c2 < base) : w'.ownsRow base e size v n xs := by
  refine ⟨ho.1, ho.2.imp id fun ⟨g, cap, cur, hv, hb, hg, hr⟩ => ⟨g, cap, cur, hv, hb, ?_, hr⟩⟩
  rw [h.block g (by omega) (by omega)]
  exact hg
theorem Two.below {c1 c2 B : Nat} {a w w' : World} (h : Two c1 c2 w w') (hb : Below B a w) (h1 : B ≤ c1) (h2 : B ≤ c2) : Below B a w' :=
  ⟨h.os.trans hb.os, h.tape.trans hb.tape, h.output.trans hb.output, by rw [h.size]; exact hb.size, fun k hk => (h.block k (by omega) (by omega)).trans (hb.block k hk)⟩

theorem toWorld_fin (D : WD) (w w5 W' : World) (n h1 h2 h3 h4 : Nat) (s1 : n + 1 + 1 + 1 ≤ h1) (s2 : h1 ≤ h2) (s3 : h2 ≤ h3) (s4 : h3 ≤ h4) (s5 : h4 ≤ w5.heap.size) (hn : n = w.heap.size) (g1 g2 g3 g4 g5 : Nat) (sv : List (Nat × Nat)) (mv : List Nat)
    (l3 : sv.length = D.spans.length) (l4 : mv.length = D.muts.length)
    (o1 : w5.ownsRow (n + 1 + 1 + 1) 3 1 (sl g1 D.words.length) D.words.length (D.words.map (Value.int .i64)))
    (o2 : w5.ownsRow h1 4 1 (sl g2 D.dirty.length) D.dirty.length (D.dirty.map Value.bool))
    (o3 : w5.ownsRow h2 63 6 (sl g3 D.spans.length) D.spans.length (flatS D.spans sv)) (i3 : InnerS w5 h2 D.spans sv)
    (o4 : w5.ownsRow h3 60 1 (sl g4 D.muts.length) D.muts.length (valsM D.muts mv)) (i4 : InnerM w5 h3 D.muts mv)
    (o5 : w5.ownsRow h4 3 1 (sl g5 D.grey.length) D.grey.length (D.grey.map (Value.int .i64)))
    (Q : Below n w w5) (f1 : Fresh (n + 1 + 1 + 1) h1 [sl g1 D.words.length]) (f3 : Fresh h2 h3 (valsS D.spans sv)) (f4 : Fresh h3 h4 (valsM D.muts mv)) (f5 : Fresh h4 w5.heap.size [sl g5 D.grey.length]) (T : Two (n + 1) (n + 1 + 1) w5 W') :
    ∃ S : Shape, Ending.returned (.agg #[.int .i64 D.base, .int .i64 D.pages, sl g1 D.words.length, sl g2 D.dirty.length, sl g3 D.spans.length, sl g4 D.muts.length, .int .i64 D.phase, .int .i64 D.next, sl g5 D.grey.length]) = .returned (S.val D) ∧ OwnW W' n S D ∧ Below n w W' := by
  have fin : ∀ {base size m : Nat} {e : TypeId} {v : Value} {xs : List Value}, w5.ownsRow base e size v m xs → n + 1 + 1 < base → W'.ownsRow n e size v m xs := fun h hb => own_base (T.own h (by omega) hb) (by omega)
  refine ⟨⟨sl g1 D.words.length, sl g2 D.dirty.length, sl g3 D.spans.length, sl g4 D.muts.length, sl g5 D.grey.length, pairsS D.spans sv, valsM D.muts mv⟩, rfl, ?_, T.below Q (by omega) (by omega)⟩
  refine ⟨fin o1 (by omega), fin o2 (by omega), by rw [← flatS_eq]; exact fin o3 (by omega), pairsS_len _ _ l3, fun i s p h1 h2 => ?_, fin o4 (by omega), by simp [valsM, l4], fun i r v h1 h2 => ?_, fin o5 (by omega), ?_⟩
  · obtain ⟨q, hq, rfl⟩ := pairsS_at _ _ _ _ _ h1 h2
    exact ⟨fin (i3 i s q h1 hq).1 (by omega), fin (i3 i s q h1 hq).2 (by omega)⟩
  · obtain ⟨q, hq, rfl⟩ := valsM_at _ _ _ _ _ h1 h2
    exact fin (i4 i r q h1 hq) (by omega)
  · have e : Shape.ints ⟨sl g1 D.words.length, sl g2 D.dirty.length, sl g3 D.spans.length, sl g4 D.muts.length, sl g5 D.grey.length, pairsS D.spans sv, valsM D.muts mv⟩ = [sl g1 D.words.length] ++ valsS D.spans sv ++ valsM D.muts mv ++ [sl g5 D.grey.length] := by
      simp only [Shape.ints, valsS_eq, List.singleton_append]
    rw [e]
    exact ((((f1.mono (Nat.le_refl _) s2).append f3 (by omega) s3).append f4 (by omega) s4).append f5 (by omega) s5).1

end Go.Proofs.Ytnmgecplagekcaa

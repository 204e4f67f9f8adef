import Derived.Test.YtmkldekangdfmaaGreatPkSrc
import Derived.Test.YtmkldekangdfmaaGreatPkV

/-
  The program's copyOf: what holds in its two loops.
-/
namespace Go.Proofs.YtmkldekangdfmaaGreat
open Go.RowKit
set_option linter.unusedVariables false

def zero9 : Array Value := #[.int .i64 0, .int .i64 0, .slice none 0 0, .slice none 0 0, .slice none 0 0, .slice none 0 0, .int .i64 0, .int .i64 0, .slice none 0 0]
theorem flatV_setsv (L : List SpanD) (sv : List (Value × Value)) (i : Nat) (p : Value × Value) (u1 u2 : Value) (h1 : i < L.length) (h2 : sv[i]? = some p) :
    ((flatV L sv).set (i * 6 + 4) u1).set (i * 6 + 5) u2 = flatV L (sv.set i (u1, u2)) := by
  induction i generalizing L sv with
  | zero =>
    cases L with
    | nil => simp at h1
    | cons a L =>
      cases sv with
      | nil => simp at h2
      | cons q sv =>
        simp only [flatV, List.zip_cons_cons, List.flatMap_cons, List.set_cons_zero]
        simp [spanCv]
  | succ i ih =>
    cases L with
    | nil => simp at h1
    | cons a L =>
      cases sv with
      | nil => simp at h2
      | cons q sv =>
        simp at h1 h2
        have := ih L sv (by omega) h2
        simp only [flatV, List.zip_cons_cons, List.flatMap_cons, List.set_cons_succ] at this ⊢
        rw [← this, List.set_append_right _ _ (by simp [spanCv]; omega), List.set_append_right _ _ (by simp [spanCv]; omega)]
        rw [show (i + 1) * 6 + 4 - (spanCv a q).length = i * 6 + 4 by simp [spanCv]; omega, show (i + 1) * 6 + 5 - (spanCv a q).length = i * 6 + 5 by simp [spanCv]; omega]

/-- The first loop's state. -/
structure Cp1 (w wr : World) (D : WD) (v1 v2 v3 v5 v8 : Value) (sv : List (Value × Value)) (mv : List Value) (k : Nat) : Prop where
  below : Below w.heap.size w wr
  boxR : wr.heap[w.heap.size]? = some (.cells zero9 35 (0, 0))
  boxB : wr.heap[w.heap.size + 1]? = some (.cells #[.int .i64 D.base, .int .i64 D.pages, v1, v2, v3, v5, .int .i64 D.phase, .int .i64 D.next, v8] 35 (0, 0))
  size : w.heap.size + 1 + 1 ≤ wr.heap.size
  words : wr.ownsRow (w.heap.size + 1 + 1) 3 1 v1 D.words.length (D.words.map (Value.int .i64))
  dirty : wr.ownsRow (w.heap.size + 1 + 1) 4 1 v2 D.dirty.length (D.dirty.map Value.bool)
  row : wr.ownsRow (w.heap.size + 1 + 1) 105 6 v3 D.spans.length (flatV D.spans sv)
  svl : sv.length = D.spans.length
  innerN : ∀ (i : Nat) (s : SpanD) (p : Value × Value), i < k → D.spans[i]? = some s → sv[i]? = some p → wr.ownsRow (w.heap.size + 1 + 1) 3 1 p.1 s.lens.length (s.lens.map (Value.int .i64)) ∧ wr.ownsRow (w.heap.size + 1 + 1) 3 1 p.2 s.ptrs.length (s.ptrs.map (Value.int .i64))
  innerO : ∀ (i : Nat) (s : SpanD) (p : Value × Value), k ≤ i → D.spans[i]? = some s → sv[i]? = some p → Rd w p.1 s.lens ∧ Rd w p.2 s.ptrs
  mrow : wr.ownsRow (w.heap.size + 1 + 1) 106 1 v5 D.muts.length mv
  mvl : mv.length = D.muts.length
  mutsO : ∀ (i : Nat) (r : List Int) (u : Value), D.muts[i]? = some r → mv[i]? = some u → Rd w u r
  grey : wr.ownsRow (w.heap.size + 1 + 1) 3 1 v8 D.grey.length (D.grey.map (Value.int .i64))
  nodup : ((v1 :: svInts (sv.take k) ++ [v8]).filterMap Value.ownBlock).Nodup
theorem svInts_set (sv : List (Value × Value)) (k : Nat) (h : k < sv.length) (p : Value × Value) : svInts ((sv.set k p).take (k + 1)) = svInts (sv.take k) ++ [p.1, p.2] := by
  rw [List.take_succ_eq_append_getElem (by simpa using h), svInts_app]
  have e1 : (sv.set k p).take k = sv.take k := by rw [List.take_set_of_le (Nat.le_refl _)]
  rw [e1]
  simp [svInts]
/-- A new value at the end of some whose blocks are older. -/
theorem nodup_end {X : List Value} {a b c : Value} {n : Nat} (h : ((X ++ [c]).filterMap Value.ownBlock).Nodup) (ho : ∀ q, q ∈ blks (X ++ [c]) → q < n) (ha : ∀ q, a.ownBlock = some q → n ≤ q) (hb : ∀ q, b.ownBlock = some q → n ≤ q) (hab : ∀ q, a.ownBlock = some q → b.ownBlock ≠ some q) :
    ((X ++ [a, b] ++ [c]).filterMap Value.ownBlock).Nodup := by
  have hp : (X ++ [a, b] ++ [c]).Perm (a :: b :: (X ++ [c])) := by
    rw [List.append_assoc]
    exact List.perm_middle.trans (List.perm_middle.cons a)
  rw [(hp.filterMap _).nodup_iff]
  have hb' : ((b :: (X ++ [c])).filterMap Value.ownBlock).Nodup := by
    cases hv : b.ownBlock with
    | none => rw [List.filterMap_cons_none hv]; exact h
    | some q => rw [List.filterMap_cons_some hv, List.nodup_cons]; exact ⟨fun hm => by have := ho q hm; have := hb q hv; omega, h⟩
  cases hv : a.ownBlock with
  | none => rw [List.filterMap_cons_none hv]; exact hb'
  | some q =>
    rw [List.filterMap_cons_some hv, List.nodup_cons]
    refine ⟨fun hm => ?_, hb'⟩
    obtain ⟨x, hx, hxq⟩ := List.mem_filterMap.1 hm
    rcases List.mem_cons.1 hx with rfl | hx
    · exact hab q hv hxq
    · have := ho q (List.mem_filterMap.2 ⟨x, hx, hxq⟩)
      have := ha q hv
      omega
theorem Cp1.next {w wr y wF : World} {D : WD} {v1 v2 v5 v8 u1 u2 : Value} {g3 c3 : Nat} {sv : List (Value × Value)} {mv : List Value} {k : Nat} (h : Cp1 w wr D v1 v2 (.slice (some ⟨g3, 0, none⟩) D.spans.length c3) v5 v8 sv mv k) {s : SpanD} (hs : D.spans[k]? = some s)
    (hy : Below wr.heap.size wr y) (o1 : y.ownsRow wr.heap.size 3 1 u1 s.lens.length (s.lens.map (Value.int .i64))) (o2 : y.ownsRow wr.heap.size 3 1 u2 s.ptrs.length (s.ptrs.map (Value.int .i64))) (hne : ∀ q, u1.ownBlock = some q → u2.ownBlock ≠ some q)
    (hF : wF = (y.setCell ⟨g3, k * 6 + 4, none⟩ u1).setCell ⟨g3, k * 6 + 5, none⟩ u2) :
    Cp1 w wF D v1 v2 (.slice (some ⟨g3, 0, none⟩) D.spans.length c3) v5 v8 (sv.set k (u1, u2)) mv (k + 1) := by
  subst hF
  have hk := (List.getElem?_eq_some_iff.1 hs).1
  have hsz := h.size
  have hyz := hy.size
  obtain ⟨p, hp⟩ : ∃ p, sv[k]? = some p := ⟨_, List.getElem?_eq_getElem (by have := h.svl; omega)⟩
  have hrow := own_below h.row hy
  have st1 := hrow.stored (k * 6 + 4) u1
  have st2 := st1.1.stored (k * 6 + 5) u2
  rw [flatV_setsv D.spans sv k p u1 u2 hk hp] at st2
  have cF : Chg [g3] y ((y.setCell ⟨g3, k * 6 + 4, none⟩ u1).setCell ⟨g3, k * 6 + 5, none⟩ u2) := (Chg.of_grown (grown_set y g3 _ u1) (by simp)).trans (Chg.of_grown (grown_set _ g3 _ u2) (by simp))
  have hg3 := hrow.lt g3 rfl
  have keep : ∀ {x : Value} {n b : Nat} {xs : List Value} {t : TypeId} {sz : Nat}, y.ownsRow b t sz x n xs → t ≠ 105 → ((y.setCell ⟨g3, k * 6 + 4, none⟩ u1).setCell ⟨g3, k * 6 + 5, none⟩ u2).ownsRow b t sz x n xs := fun hx ht =>
    own_chg hx cF fun q hq hm => own_types hx hrow ht q hq (by rw [List.mem_singleton.1 hm]; rfl)
  have blk : ∀ {b : Nat} {o : Obj}, b < w.heap.size + 1 + 1 → wr.heap[b]? = some o → ((y.setCell ⟨g3, k * 6 + 4, none⟩ u1).setCell ⟨g3, k * 6 + 5, none⟩ u2).heap[b]? = some o := fun hb ho =>
    (cF.block _ (by omega) (by simp only [List.mem_singleton]; omega)).trans (heap_below hy ho)
  refine ⟨Chg.below (h.below.trans (hy.mono h.below.size)) cF (by have := h.below.size; omega) (fun x hx => by rw [List.mem_singleton.1 hx]; omega), blk (by omega) h.boxR, blk (by omega) h.boxB, by have := cF.size; omega,
    keep (own_below h.words hy) (by decide), keep (own_below h.dirty hy) (by decide), st2.1, by rw [List.length_set]; exact h.svl, fun i t q hi ht hq => ?_, fun i t q hi ht hq => ?_, keep (own_below h.mrow hy) (by decide), h.mvl, h.mutsO, keep (own_below h.grey hy) (by decide), ?_⟩
  · by_cases e : i = k
    · subst e
      rw [hs] at ht
      cases ht
      rw [List.getElem?_set_self (by have := h.svl; omega)] at hq
      cases hq
      exact ⟨own_base (keep o1 (by decide)) hsz, own_base (keep o2 (by decide)) hsz⟩
    · rw [List.getElem?_set_ne (fun h => e h.symm)] at hq
      have hi := h.innerN i t q (by omega) ht hq
      exact ⟨keep (own_below hi.1 hy) (by decide), keep (own_below hi.2 hy) (by decide)⟩
  · rw [List.getElem?_set_ne (by omega)] at hq
    exact h.innerO i t q (by omega) ht hq
  · rw [svInts_set sv k (by have := h.svl; omega)]
    have e : v1 :: (svInts (sv.take k) ++ [u1, u2]) ++ [v8] = (v1 :: svInts (sv.take k)) ++ [u1, u2] ++ [v8] := by simp
    rw [e]
    refine nodup_end (n := wr.heap.size) h.nodup (fun q hq => ?_) (fun q hq => (o1.lt q hq).1) (fun q hq => (o2.lt q hq).1) hne
    obtain ⟨x, hx, hxq⟩ := List.mem_filterMap.1 hq
    simp only [List.mem_append, List.mem_cons, List.not_mem_nil, or_false] at hx
    rcases hx with (rfl | hx) | rfl
    · exact (h.words.lt q hxq).2
    · obtain ⟨p2, hp2, hx⟩ := List.mem_flatMap.1 hx
      obtain ⟨i, hi⟩ := List.mem_iff_getElem?.1 hp2
      have hil := (List.getElem?_eq_some_iff.1 hi).1
      rw [List.length_take] at hil
      rw [List.getElem?_take_of_lt (by omega)] at hi
      obtain ⟨t, ht⟩ : ∃ t, D.spans[i]? = some t := ⟨_, List.getElem?_eq_getElem (by omega)⟩
      have hin := h.innerN i t p2 (by omega) ht hi
      simp only [List.mem_cons, List.not_mem_nil, or_false] at hx
      rcases hx with rfl | rfl
      · exact (hin.1.lt q hxq).2
      · exact (hin.2.lt q hxq).2
    · exact (h.grey.lt q hxq).2

/-- The second loop's state. -/
structure Cp2 (w wr : World) (D : WD) (v1 v2 v3 v5 v8 : Value) (sv : List (Value × Value)) (mv : List Value) (k : Nat) : Prop where
  below : Below w.heap.size w wr
  boxR : wr.heap[w.heap.size]? = some (.cells zero9 35 (0, 0))
  boxB : wr.heap[w.heap.size + 1]? = some (.cells #[.int .i64 D.base, .int .i64 D.pages, v1, v2, v3, v5, .int .i64 D.phase, .int .i64 D.next, v8] 35 (0, 0))
  size : w.heap.size + 1 + 1 ≤ wr.heap.size
  words : wr.ownsRow (w.heap.size + 1 + 1) 3 1 v1 D.words.length (D.words.map (Value.int .i64))
  dirty : wr.ownsRow (w.heap.size + 1 + 1) 4 1 v2 D.dirty.length (D.dirty.map Value.bool)
  spans : OwnS wr (w.heap.size + 1 + 1) v3 D.spans sv
  mrow : wr.ownsRow (w.heap.size + 1 + 1) 106 1 v5 D.muts.length mv
  mvl : mv.length = D.muts.length
  mutsN : ∀ (i : Nat) (r : List Int) (u : Value), i < k → D.muts[i]? = some r → mv[i]? = some u → wr.ownsRow (w.heap.size + 1 + 1) 3 1 u r.length (r.map (Value.int .i64))
  mutsO : ∀ (i : Nat) (r : List Int) (u : Value), k ≤ i → D.muts[i]? = some r → mv[i]? = some u → Rd w u r
  grey : wr.ownsRow (w.heap.size + 1 + 1) 3 1 v8 D.grey.length (D.grey.map (Value.int .i64))
  nodup : ((v1 :: svInts sv ++ mv.take k ++ [v8]).filterMap Value.ownBlock).Nodup
theorem Cp2.start {w wr : World} {D : WD} {v1 v2 v3 v5 v8 : Value} {sv : List (Value × Value)} {mv : List Value} (h : Cp1 w wr D v1 v2 v3 v5 v8 sv mv D.spans.length) : Cp2 w wr D v1 v2 v3 v5 v8 sv mv 0 :=
  ⟨h.below, h.boxR, h.boxB, h.size, h.words, h.dirty, ⟨h.row, h.svl, fun i s p hs hp => h.innerN i s p (List.getElem?_eq_some_iff.1 hs).1 hs hp⟩, h.mrow, h.mvl, fun i r u hi => absurd hi (by omega), fun i r u _ => h.mutsO i r u, h.grey, by
    have := h.nodup
    rw [show sv.take D.spans.length = sv by rw [← h.svl]; exact List.take_length] at this
    simpa using this⟩
theorem Cp2.next {w wr y wF : World} {D : WD} {v1 v2 v3 v8 u : Value} {g5 c5 : Nat} {sv : List (Value × Value)} {mv : List Value} {k : Nat} (h : Cp2 w wr D v1 v2 v3 (.slice (some ⟨g5, 0, none⟩) D.muts.length c5) v8 sv mv k) {r : List Int} (hr : D.muts[k]? = some r)
    (hy : Below wr.heap.size wr y) (o1 : y.ownsRow wr.heap.size 3 1 u r.length (r.map (Value.int .i64))) (hF : wF = y.setCell ⟨g5, k, none⟩ u) :
    Cp2 w wF D v1 v2 v3 (.slice (some ⟨g5, 0, none⟩) D.muts.length c5) v8 sv (mv.set k u) (k + 1) := by
  subst hF
  have hk := (List.getElem?_eq_some_iff.1 hr).1
  have hsz := h.size
  have hyz := hy.size
  have hmv := h.mvl
  have hrow := own_below h.mrow hy
  have st1 := hrow.stored k u
  have cF : Chg [g5] y (y.setCell ⟨g5, k, none⟩ u) := Chg.of_grown (grown_set y g5 _ u) (by simp)
  have hg5 := hrow.lt g5 rfl
  have keep : ∀ {x : Value} {n b : Nat} {xs : List Value} {t : TypeId} {sz : Nat}, y.ownsRow b t sz x n xs → t ≠ 106 → (y.setCell ⟨g5, k, none⟩ u).ownsRow b t sz x n xs := fun hx ht =>
    own_chg hx cF fun q hq hm => own_types hx hrow ht q hq (by rw [List.mem_singleton.1 hm]; rfl)
  have blk : ∀ {b : Nat} {o : Obj}, b < w.heap.size + 1 + 1 → wr.heap[b]? = some o → (y.setCell ⟨g5, k, none⟩ u).heap[b]? = some o := fun hb ho =>
    (cF.block _ (by omega) (by simp only [List.mem_singleton]; omega)).trans (heap_below hy ho)
  have hS := h.spans.below hy
  have hSF : OwnS (y.setCell ⟨g5, k, none⟩ u) (w.heap.size + 1 + 1) v3 D.spans sv := ⟨keep hS.row (by decide), hS.len, fun i s p hs hp => ⟨keep (hS.inner i s p hs hp).1 (by decide), keep (hS.inner i s p hs hp).2 (by decide)⟩⟩
  refine ⟨Chg.below (h.below.trans (hy.mono h.below.size)) cF (by have := h.below.size; omega) (fun x hx => by rw [List.mem_singleton.1 hx]; omega), blk (by omega) h.boxR, blk (by omega) h.boxB, by have := cF.size; omega,
    keep (own_below h.words hy) (by decide), keep (own_below h.dirty hy) (by decide), hSF, st1.1, by rw [List.length_set]; exact h.mvl, fun i t q hi ht hq => ?_, fun i t q hi ht hq => ?_, keep (own_below h.grey hy) (by decide), ?_⟩
  · by_cases e : i = k
    · subst e
      rw [hr] at ht
      cases ht
      rw [List.getElem?_set_self (by omega)] at hq
      cases hq
      exact own_base (keep o1 (by decide)) hsz
    · rw [List.getElem?_set_ne (fun h => e h.symm)] at hq
      exact keep (own_below (h.mutsN i t q (by omega) ht hq) hy) (by decide)
  · rw [List.getElem?_set_ne (by omega)] at hq
    exact h.mutsO i t q (by omega) ht hq
  · have e1 : (mv.set k u).take (k + 1) = mv.take k ++ [u] := by
      rw [List.take_succ_eq_append_getElem (by simp; omega), List.take_set_of_le (Nat.le_refl _)]
      simp
    have e : v1 :: svInts sv ++ (mv.take k ++ [u]) ++ [v8] = (v1 :: svInts sv ++ mv.take k) ++ [u, .slice none 0 0] ++ [v8] → True := fun _ => trivial
    clear e
    have hp : (v1 :: svInts sv ++ (mv.take k ++ [u]) ++ [v8]).Perm (u :: (v1 :: svInts sv ++ mv.take k ++ [v8])) := by
      have e2 : v1 :: svInts sv ++ (mv.take k ++ [u]) ++ [v8] = (v1 :: svInts sv ++ mv.take k) ++ u :: [v8] := by simp
      rw [e2]
      exact List.perm_middle
    rw [e1, (hp.filterMap _).nodup_iff]
    cases hv : u.ownBlock with
    | none => rw [List.filterMap_cons_none hv]; exact h.nodup
    | some q =>
      rw [List.filterMap_cons_some hv, List.nodup_cons]
      refine ⟨fun hm => ?_, h.nodup⟩
      have hq1 := (o1.lt q hv).1
      obtain ⟨x, hx, hxq⟩ := List.mem_filterMap.1 hm
      simp only [List.mem_append, List.mem_cons, List.not_mem_nil, or_false] at hx
      have hlt : q < wr.heap.size := by
        rcases hx with ((rfl | hx) | hx) | rfl
        · exact (h.words.lt q hxq).2
        · obtain ⟨p2, hp2, hx⟩ := List.mem_flatMap.1 hx
          obtain ⟨i, hi⟩ := List.mem_iff_getElem?.1 hp2
          have hil := (List.getElem?_eq_some_iff.1 hi).1
          obtain ⟨t, ht⟩ : ∃ t, D.spans[i]? = some t := ⟨_, List.getElem?_eq_getElem (by have := h.spans.len; omega)⟩
          have hin := h.spans.inner i t p2 ht hi
          simp only [List.mem_cons, List.not_mem_nil, or_false] at hx
          rcases hx with rfl | rfl
          · exact (hin.1.lt q hxq).2
          · exact (hin.2.lt q hxq).2
        · obtain ⟨i, hi⟩ := List.mem_iff_getElem?.1 hx
          have hil := (List.getElem?_eq_some_iff.1 hi).1
          rw [List.length_take] at hil
          rw [List.getElem?_take_of_lt (by omega)] at hi
          obtain ⟨t, ht⟩ : ∃ t, D.muts[i]? = some t := ⟨_, List.getElem?_eq_getElem (by omega)⟩
          exact ((h.mutsN i t x (by omega) ht hi).lt q hxq).2
        · exact (h.grey.lt q hxq).2
      omega
theorem Cp2.own {w wr : World} {D : WD} {v1 v2 v3 v5 v8 : Value} {sv : List (Value × Value)} {mv : List Value} (h : Cp2 w wr D v1 v2 v3 v5 v8 sv mv D.muts.length) {wF : World} (hF : Chg [w.heap.size] wr wF) :
    OwnW wF w.heap.size ⟨v1, v2, v3, v5, v8, sv, mv⟩ D ∧ Below w.heap.size w wF := by
  have ho : OwnW wr (w.heap.size + 1 + 1) ⟨v1, v2, v3, v5, v8, sv, mv⟩ D := ⟨h.words, h.dirty, h.spans.row, h.spans.len, h.spans.inner, h.mrow, h.mvl, fun i r u hr hu => h.mutsN i r u (List.getElem?_eq_some_iff.1 hr).1 hr hu, h.grey, by
    have := h.nodup
    rw [show mv.take D.muts.length = mv by rw [← h.mvl]; exact List.take_length] at this
    exact this⟩
  exact ⟨(ho.chg0 hF (fun q hq => by rw [List.mem_singleton.1 hq]; omega)).base_le (by omega), Chg.below h.below hF h.below.size (fun q hq => by rw [List.mem_singleton.1 hq]; exact Nat.le_refl _)⟩
end Go.Proofs.YtmkldekangdfmaaGreat

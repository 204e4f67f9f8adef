import Derived.Test.YtpaepkcfdnddgaaGreatCgSL
import Derived.Test.YtpaepkcfdnddgaaGreatCgV
import Derived.Test.YtpaepkcfdnddgaaGreatCgW
import Derived.Deep.RegionWith
import Derived.Test.YtpaepkcfdnddgaaGreatCgSM
import Derived.Test.YtpaepkcfdnddgaaGreatCgL1
import Derived.Test.YtpaepkcfdnddgaaGreatCgP
import Derived.Deep.DeepCutAuto
import Derived.Deep.CutRange
import Derived.Outline

namespace Go.Proofs.YtpaepkcfdnddgaaGreat
open Go.RowKit
set_option linter.unusedVariables false

theorem OwnM.baseLe {w : World} {base base' : Nat} {v : Value} {L : List (List Int)} {mv : List Value} (h : OwnM w base v L mv) (hb : base' ≤ base) : OwnM w base' v L mv :=
  ⟨own_base h.row hb, h.len, fun i r u h1 h2 => own_base (h.inner i r u h1 h2) hb⟩
theorem OwnM.set {w : World} {base b : Nat} {v : Value} {L : List (List Int)} {mv : List Value} (h : OwnM w base v L mv) (hb : b < base) (i : Nat) (u : Value) : OwnM (w.setCell ⟨b, i, none⟩ u) base v L mv :=
  ⟨own_set h.row hb i u, h.len, fun j r x h1 h2 => own_set (h.inner j r x h1 h2) hb i u⟩
theorem OwnM.mvIn {w : World} {base : Nat} {v : Value} {L : List (List Int)} {mv : List Value} (h : OwnM w base v L mv) : ∀ q, q ∈ mv.filterMap Value.ownBlock → base ≤ q ∧ q < w.heap.size := fun q hq => by
  obtain ⟨x, hx, hxa⟩ := List.mem_filterMap.1 hq
  obtain ⟨i, hi⟩ := List.mem_iff_getElem?.1 hx
  have hil := (List.getElem?_eq_some_iff.1 hi).1
  obtain ⟨r, hr⟩ : ∃ r, L[i]? = some r := ⟨_, List.getElem?_eq_getElem (by have := h.len; omega)⟩
  exact (h.inner i r x hr hi).lt q hxa
def zero9 : Array Value := #[.int .i64 0, .int .i64 0, .slice none 0 0, .slice none 0 0, .slice none 0 0, .slice none 0 0, .int .i64 0, .int .i64 0, .slice none 0 0]
theorem flatV_setsv (L : List SpanD) (sv : List (Value × Value)) (i : Nat) (p : Value × Value) (u1 u2 : Value) (h1 : i < L.length) (h2 : sv[i]? = some p) :
    ((flatV L sv).set (i * 6 + 4) u1).set (i * 6 + 5) u2 = flatV L (sv.set i (u1, u2)) := by
  induction i generalizing L sv with
  | zero =>
    cases L with
    | nil => simp at h1
    | cons a L =>
      cases sv with
      | nil => simp at h2
      | cons q sv =>
        simp only [flatV, List.zip_cons_cons, List.flatMap_cons, List.set_cons_zero]
        simp [spanCv]
  | succ i ih =>
    cases L with
    | nil => simp at h1
    | cons a L =>
      cases sv with
      | nil => simp at h2
      | cons q sv =>
        simp at h1 h2
        have := ih L sv (by omega) h2
        simp only [flatV, List.zip_cons_cons, List.flatMap_cons, List.set_cons_succ] at this ⊢
        rw [← this, List.set_append_right _ _ (by simp [spanCv]; omega), List.set_append_right _ _ (by simp [spanCv]; omega)]
        rw [show (i + 1) * 6 + 4 - (spanCv a q).length = i * 6 + 4 by simp [spanCv]; omega, show (i + 1) * 6 + 5 - (spanCv a q).length = i * 6 + 5 by simp [spanCv]; omega]

/-- The first loop's state. -/
structure Cp1 (w wr : World) (D : WD) (v1 v2 v3 v5 v8 : Value) (sv : List (Value × Value)) (mv : List Value) (k : Nat) : Prop where
  below : Below w.heap.size w wr
  boxR : wr.heap[w.heap.size]? = some (.cells zero9 36 (0, 0))
  boxB : wr.heap[w.heap.size + 1]? = some (.cells #[.int .i64 D.base, .int .i64 D.pages, v1, v2, v3, v5, .int .i64 D.phase, .int .i64 D.next, v8] 36 (0, 0))
  size : w.heap.size + 1 + 1 ≤ wr.heap.size
  words : wr.ownsRow (w.heap.size + 1 + 1) 3 1 v1 D.words.length (D.words.map (Value.int .i64))
  dirty : wr.ownsRow (w.heap.size + 1 + 1) 4 1 v2 D.dirty.length (D.dirty.map Value.bool)
  row : wr.ownsRow (w.heap.size + 1 + 1) 73 6 v3 D.spans.length (flatV D.spans sv)
  svl : sv.length = D.spans.length
  innerN : ∀ (i : Nat) (s : SpanD) (p : Value × Value), i < k → D.spans[i]? = some s → sv[i]? = some p → wr.ownsRow (w.heap.size + 1 + 1) 3 1 p.1 s.lens.length (s.lens.map (Value.int .i64)) ∧ wr.ownsRow (w.heap.size + 1 + 1) 3 1 p.2 s.ptrs.length (s.ptrs.map (Value.int .i64))
  innerO : ∀ (i : Nat) (s : SpanD) (p : Value × Value), k ≤ i → D.spans[i]? = some s → sv[i]? = some p → Rd w p.1 s.lens ∧ Rd w p.2 s.ptrs
  muts : OwnM wr (w.heap.size + 1 + 1) v5 D.muts mv
  grey : wr.ownsRow (w.heap.size + 1 + 1) 3 1 v8 D.grey.length (D.grey.map (Value.int .i64))
  nodup : ((v1 :: svInts (sv.take k) ++ (mv ++ [v8])).filterMap Value.ownBlock).Nodup
theorem svInts_set (sv : List (Value × Value)) (k : Nat) (h : k < sv.length) (p : Value × Value) : svInts ((sv.set k p).take (k + 1)) = svInts (sv.take k) ++ [p.1, p.2] := by
  rw [List.take_succ_eq_append_getElem (by simpa using h), svInts_app]
  have e1 : (sv.set k p).take k = sv.take k := by rw [List.take_set_of_le (Nat.le_refl _)]
  rw [e1]
  simp [svInts]
/-- A new value at the end of some whose blocks are older. -/
theorem nodup_end {X : List Value} {C : List Value} {a b : Value} {n : Nat} (h : ((X ++ C).filterMap Value.ownBlock).Nodup) (ho : ∀ q, q ∈ blks (X ++ C) → q < n) (ha : ∀ q, a.ownBlock = some q → n ≤ q) (hb : ∀ q, b.ownBlock = some q → n ≤ q) (hab : ∀ q, a.ownBlock = some q → b.ownBlock ≠ some q) :
    ((X ++ [a, b] ++ C).filterMap Value.ownBlock).Nodup := by
  have hp : (X ++ [a, b] ++ C).Perm (a :: b :: (X ++ C)) := by
    rw [List.append_assoc]
    exact List.perm_middle.trans (List.perm_middle.cons a)
  rw [(hp.filterMap _).nodup_iff]
  have hb' : ((b :: (X ++ C)).filterMap Value.ownBlock).Nodup := by
    cases hv : b.ownBlock with
    | none => rw [List.filterMap_cons_none hv]; exact h
    | some q => rw [List.filterMap_cons_some hv, List.nodup_cons]; exact ⟨fun hm => by have := ho q hm; have := hb q hv; omega, h⟩
  cases hv : a.ownBlock with
  | none => rw [List.filterMap_cons_none hv]; exact hb'
  | some q =>
    rw [List.filterMap_cons_some hv, List.nodup_cons]
    refine ⟨fun hm => ?_, hb'⟩
    obtain ⟨x, hx, hxq⟩ := List.mem_filterMap.1 hm
    rcases List.mem_cons.1 hx with rfl | hx
    · exact hab q hv hxq
    · have := ho q (List.mem_filterMap.2 ⟨x, hx, hxq⟩)
      have := ha q hv
      omega
theorem Cp1.next {w wr y wF : World} {D : WD} {v1 v2 v5 v8 u1 u2 : Value} {g3 c3 : Nat} {sv : List (Value × Value)} {mv : List Value} {k : Nat} (h : Cp1 w wr D v1 v2 (.slice (some ⟨g3, 0, none⟩) D.spans.length c3) v5 v8 sv mv k) {s : SpanD} (hs : D.spans[k]? = some s)
    (hy : Below wr.heap.size wr y) (o1 : y.ownsRow wr.heap.size 3 1 u1 s.lens.length (s.lens.map (Value.int .i64))) (o2 : y.ownsRow wr.heap.size 3 1 u2 s.ptrs.length (s.ptrs.map (Value.int .i64))) (hne : ∀ q, u1.ownBlock = some q → u2.ownBlock ≠ some q)
    (hF : wF = (y.setCell ⟨g3, k * 6 + 4, none⟩ u1).setCell ⟨g3, k * 6 + 5, none⟩ u2) :
    Cp1 w wF D v1 v2 (.slice (some ⟨g3, 0, none⟩) D.spans.length c3) v5 v8 (sv.set k (u1, u2)) mv (k + 1) := by
  subst hF
  have hk := (List.getElem?_eq_some_iff.1 hs).1
  have hsz := h.size
  have hyz := hy.size
  obtain ⟨p, hp⟩ : ∃ p, sv[k]? = some p := ⟨_, List.getElem?_eq_getElem (by have := h.svl; omega)⟩
  have hrow := own_below h.row hy
  have st1 := hrow.stored (k * 6 + 4) u1
  have st2 := st1.1.stored (k * 6 + 5) u2
  rw [flatV_setsv D.spans sv k p u1 u2 hk hp] at st2
  have cF : Chg [g3] y ((y.setCell ⟨g3, k * 6 + 4, none⟩ u1).setCell ⟨g3, k * 6 + 5, none⟩ u2) := (Chg.of_grown (grown_set y g3 _ u1) (by simp)).trans (Chg.of_grown (grown_set _ g3 _ u2) (by simp))
  have hg3 := hrow.lt g3 rfl
  have keep : ∀ {x : Value} {n b : Nat} {xs : List Value} {t : TypeId} {sz : Nat}, y.ownsRow b t sz x n xs → t ≠ 73 → ((y.setCell ⟨g3, k * 6 + 4, none⟩ u1).setCell ⟨g3, k * 6 + 5, none⟩ u2).ownsRow b t sz x n xs := fun hx ht =>
    own_chg hx cF fun q hq hm => own_types hx hrow ht q hq (by rw [List.mem_singleton.1 hm]; rfl)
  have blk : ∀ {b : Nat} {o : Obj}, b < w.heap.size + 1 + 1 → wr.heap[b]? = some o → ((y.setCell ⟨g3, k * 6 + 4, none⟩ u1).setCell ⟨g3, k * 6 + 5, none⟩ u2).heap[b]? = some o := fun hb ho =>
    (cF.block _ (by omega) (by simp only [List.mem_singleton]; omega)).trans (heap_below hy ho)
  refine ⟨Chg.below (h.below.trans (hy.mono h.below.size)) cF (by have := h.below.size; omega) (fun x hx => by rw [List.mem_singleton.1 hx]; omega), blk (by omega) h.boxR, blk (by omega) h.boxB, by have := cF.size; omega,
    keep (own_below h.words hy) (by decide), keep (own_below h.dirty hy) (by decide), st2.1, by rw [List.length_set]; exact h.svl, fun i t q hi ht hq => ?_, fun i t q hi ht hq => ?_, ⟨keep (own_below h.muts.row hy) (by decide), h.muts.len, fun i r u h1 h2 => keep (own_below (h.muts.inner i r u h1 h2) hy) (by decide)⟩, keep (own_below h.grey hy) (by decide), ?_⟩
  · by_cases e : i = k
    · subst e
      rw [hs] at ht
      cases ht
      rw [List.getElem?_set_self (by have := h.svl; omega)] at hq
      cases hq
      exact ⟨own_base (keep o1 (by decide)) hsz, own_base (keep o2 (by decide)) hsz⟩
    · rw [List.getElem?_set_ne (fun h => e h.symm)] at hq
      have hi := h.innerN i t q (by omega) ht hq
      exact ⟨keep (own_below hi.1 hy) (by decide), keep (own_below hi.2 hy) (by decide)⟩
  · rw [List.getElem?_set_ne (by omega)] at hq
    exact h.innerO i t q (by omega) ht hq
  · rw [svInts_set sv k (by have := h.svl; omega)]
    have e : v1 :: (svInts (sv.take k) ++ [u1, u2]) ++ (mv ++ [v8]) = (v1 :: svInts (sv.take k)) ++ [u1, u2] ++ (mv ++ [v8]) := by simp
    rw [e]
    refine nodup_end (n := wr.heap.size) h.nodup (fun q hq => ?_) (fun q hq => (o1.lt q hq).1) (fun q hq => (o2.lt q hq).1) hne
    obtain ⟨x, hx, hxq⟩ := List.mem_filterMap.1 hq
    simp only [List.mem_append, List.mem_cons, List.not_mem_nil, or_false] at hx
    rcases hx with (rfl | hx) | hx | rfl
    · exact (h.words.lt q hxq).2
    · obtain ⟨p2, hp2, hx⟩ := List.mem_flatMap.1 hx
      obtain ⟨i, hi⟩ := List.mem_iff_getElem?.1 hp2
      have hil := (List.getElem?_eq_some_iff.1 hi).1
      rw [List.length_take] at hil
      rw [List.getElem?_take_of_lt (by omega)] at hi
      obtain ⟨t, ht⟩ : ∃ t, D.spans[i]? = some t := ⟨_, List.getElem?_eq_getElem (by omega)⟩
      have hin := h.innerN i t p2 (by omega) ht hi
      simp only [List.mem_cons, List.not_mem_nil, or_false] at hx
      rcases hx with rfl | rfl
      · exact (hin.1.lt q hxq).2
      · exact (hin.2.lt q hxq).2
    · exact (h.muts.mvIn q (List.mem_filterMap.2 ⟨x, hx, hxq⟩)).2
    · exact (h.grey.lt q hxq).2

theorem Cp1.own {w wr : World} {D : WD} {v1 v2 v3 v5 v8 : Value} {sv : List (Value × Value)} {mv : List Value} (h : Cp1 w wr D v1 v2 v3 v5 v8 sv mv D.spans.length) {wF : World} (hF : Chg [w.heap.size] wr wF) :
    OwnW wF w.heap.size ⟨v1, v2, v3, v5, v8, sv, mv⟩ D ∧ Below w.heap.size w wF := by
  have ho : OwnW wr (w.heap.size + 1 + 1) ⟨v1, v2, v3, v5, v8, sv, mv⟩ D := ⟨h.words, h.dirty, h.row, h.svl, fun i s p hs hp => h.innerN i s p (List.getElem?_eq_some_iff.1 hs).1 hs hp, h.muts.row, h.muts.len, h.muts.inner, h.grey, by
    have := h.nodup
    rw [show sv.take D.spans.length = sv by rw [← h.svl]; exact List.take_length] at this
    rw [← List.append_assoc] at this
    exact this⟩
  exact ⟨(ho.chg0 hF (fun q hq => by rw [List.mem_singleton.1 hq]; omega)).base_le (by omega), Chg.below h.below hF h.below.size (fun q hq => by rw [List.mem_singleton.1 hq]; exact Nat.le_refl _)⟩
theorem nodup3 {v1 v8 : Value} {mv : List Value} {n n' : Nat} (hm : (mv.filterMap Value.ownBlock).Nodup) (h1 : ∀ q, v1.ownBlock = some q → q < n) (h2 : ∀ q, q ∈ mv.filterMap Value.ownBlock → n ≤ q ∧ q < n') (h8 : ∀ q, v8.ownBlock = some q → n' ≤ q) (hn : n ≤ n') : ((v1 :: svInts [] ++ (mv ++ [v8])).filterMap Value.ownBlock).Nodup := by
  have hC : ((mv ++ [v8]).filterMap Value.ownBlock).Nodup := by
    rw [List.filterMap_append, List.nodup_append]
    refine ⟨hm, by cases hv : v8.ownBlock <;> simp [hv], fun a ha c hc e => ?_⟩
    obtain ⟨y, hy, hyc⟩ := List.mem_filterMap.1 hc
    rw [List.mem_singleton] at hy
    subst hy
    have := (h2 a ha).2
    have := h8 c hyc
    omega
  have e : v1 :: svInts [] ++ (mv ++ [v8]) = v1 :: (mv ++ [v8]) := by simp [svInts]
  rw [e]
  cases hv : v1.ownBlock with
  | none => rw [List.filterMap_cons_none hv]; exact hC
  | some q =>
    rw [List.filterMap_cons_some hv, List.nodup_cons]
    refine ⟨fun hq => ?_, hC⟩
    have a1 := h1 q hv
    rw [List.filterMap_append, List.mem_append] at hq
    rcases hq with hq | hq
    · have := (h2 q hq).1; omega
    · obtain ⟨y, hy, hyc⟩ := List.mem_filterMap.1 hq
      rw [List.mem_singleton] at hy
      subst hy
      have := h8 q hyc
      omega
end Go.Proofs.YtpaepkcfdnddgaaGreat

namespace Go.Proofs.YtpaepkcfdnddgaaGreat
open Go.RowKit
set_option linter.unusedVariables false

/-- The loop's state. -/
structure CpM (w wr : World) (L : List (List Int)) (v5 : Value) (mv : List Value) (k : Nat) : Prop where
  below : Below w.heap.size w wr
  mrow : wr.ownsRow w.heap.size 78 1 v5 L.length mv
  mvl : mv.length = L.length
  mutsN : ∀ (i : Nat) (r : List Int) (u : Value), i < k → L[i]? = some r → mv[i]? = some u → wr.ownsRow w.heap.size 3 1 u r.length (r.map (Value.int .i64))
  mutsO : ∀ (i : Nat) (r : List Int) (u : Value), k ≤ i → L[i]? = some r → mv[i]? = some u → Rd w u r
  nodup : ((mv.take k).filterMap Value.ownBlock).Nodup
theorem CpM.next {w wr y wF : World} {L : List (List Int)} {u : Value} {g5 c5 : Nat} {mv : List Value} {k : Nat} (h : CpM w wr L (.slice (some ⟨g5, 0, none⟩) L.length c5) mv k) {r : List Int} (hr : L[k]? = some r)
    (hy : Below wr.heap.size wr y) (o1 : y.ownsRow wr.heap.size 3 1 u r.length (r.map (Value.int .i64))) (hF : wF = y.setCell ⟨g5, k, none⟩ u) :
    CpM w wF L (.slice (some ⟨g5, 0, none⟩) L.length c5) (mv.set k u) (k + 1) := by
  subst hF
  have hk := (List.getElem?_eq_some_iff.1 hr).1
  have hsz := h.below.size
  have hyz := hy.size
  have hmv := h.mvl
  have hrow := own_below h.mrow hy
  have st1 := hrow.stored k u
  have cF : Chg [g5] y (y.setCell ⟨g5, k, none⟩ u) := Chg.of_grown (grown_set y g5 _ u) (by simp)
  have hg5 := hrow.lt g5 rfl
  have keep : ∀ {x : Value} {n b : Nat} {xs : List Value} {t : TypeId} {sz : Nat}, y.ownsRow b t sz x n xs → t ≠ 78 → (y.setCell ⟨g5, k, none⟩ u).ownsRow b t sz x n xs := fun hx ht =>
    own_chg hx cF fun q hq hm => own_types hx hrow ht q hq (by rw [List.mem_singleton.1 hm]; rfl)
  refine ⟨Chg.below (h.below.trans (hy.mono hsz)) cF (by omega) (fun x hx => by rw [List.mem_singleton.1 hx]; omega), st1.1, by rw [List.length_set]; exact h.mvl, fun i t q hi ht hq => ?_, fun i t q hi ht hq => ?_, ?_⟩
  · by_cases e : i = k
    · subst e
      rw [hr] at ht
      cases ht
      rw [List.getElem?_set_self (by omega)] at hq
      cases hq
      exact own_base (keep o1 (by decide)) hsz
    · rw [List.getElem?_set_ne (fun h => e h.symm)] at hq
      exact keep (own_below (h.mutsN i t q (by omega) ht hq) hy) (by decide)
  · rw [List.getElem?_set_ne (by omega)] at hq
    exact h.mutsO i t q (by omega) ht hq
  · have e1 : (mv.set k u).take (k + 1) = mv.take k ++ [u] := by
      rw [List.take_succ_eq_append_getElem (by simp; omega), List.take_set_of_le (Nat.le_refl _)]
      simp
    rw [e1, List.filterMap_append, List.nodup_append]
    refine ⟨h.nodup, by cases hv : u.ownBlock <;> simp [hv], fun a ha c hc eac => ?_⟩
    obtain ⟨x, hx, hxa⟩ := List.mem_filterMap.1 ha
    obtain ⟨i, hi⟩ := List.mem_iff_getElem?.1 hx
    have hil := (List.getElem?_eq_some_iff.1 hi).1
    rw [List.length_take] at hil
    rw [List.getElem?_take_of_lt (by omega)] at hi
    obtain ⟨t, ht⟩ : ∃ t, L[i]? = some t := ⟨_, List.getElem?_eq_getElem (by omega)⟩
    have h1 := ((h.mutsN i t x (by omega) ht hi).lt a hxa).2
    obtain ⟨y', hy', hyc⟩ := List.mem_filterMap.1 hc
    rw [List.mem_singleton] at hy'
    subst hy'
    have h2 := (o1.lt c hyc).1
    omega

set_option maxRecDepth 100000 in
set_option maxHeartbeats 8000000 in
theorem copyOfMuts_any (v : Value) (L : List (List Int)) (hs : L.length ≤ 1048576) (hs1 : ∀ r ∈ L, r.length ≤ 1048576) (w : World) (hr : RdM w v L) :
    Calls Tryz.prog 141 #[v] w fun e w' => ∃ a c mv, e = .returned (.slice a L.length c) ∧ OwnM w' w.heap.size (.slice a L.length c) L mv ∧ (mv.filterMap Value.ownBlock).Nodup ∧ Below w.heap.size w w' := by
  obtain ⟨am, cm, rfl⟩ : ∃ a c, v = .slice a L.length c := by obtain ⟨a, c, h, _⟩ := hr; exact ⟨a, c, h⟩
  obtain ⟨mv0, hl0, hsrc, hin0⟩ := hr.src
  have hcall := Lib.hid (listMut_any am L.length cm mv0 hs w hsrc)
  have hs1' := Lib.hid hs1
  have H0 := Lib.hid (And.intro hl0 hin0)
  clear hl0 hin0 hsrc hr hs1
  go_enter Tryz.func141, Tryz.ntmps141
  go_wp2_with fail
  refine hcall.out.mono ?_
  rintro e w1 ⟨v, rfl, ho, hb⟩
  obtain ⟨a5, c5, rfl⟩ := own_slice ho
  have st0 := Lib.hid (show CpM w w1 L (.slice a5 L.length c5) mv0 0 from ⟨hb, ho, H0.out.1, fun i r u hi => absurd hi (by omega), fun i r u _ => H0.out.2 i r u, by simp⟩)
  clear ho hb hcall
  go_wp2_with fail
  go_loopw [9] (fun i wr => ∃ (k : Nat) (mv : List Value), k ≤ L.length ∧ i = .int .i64 k ∧ Hid (CpM w wr L (.slice a5 L.length c5) mv k)) (fun i _ => L.length - (RowKit.intOf i).toNat)
  case atStart => exact ⟨0, mv0, Nat.zero_le _, rfl, st0⟩
  case round =>
    clear st0
    obtain ⟨k, mv, hk, rfl, st⟩ := hrel
    by_cases hltk : k < L.length
    · have hlt1 : (k : Int) < (L.length : Int) := by omega
      obtain ⟨r, hks⟩ : ∃ s, L[k]? = some s := ⟨_, List.getElem?_eq_getElem hltk⟩
      obtain ⟨u, hu⟩ : ∃ p, mv[k]? = some p := ⟨_, List.getElem?_eq_getElem (by have := st.out.mvl; omega)⟩
      obtain ⟨g5, rfl⟩ : ∃ g5, a5 = some ⟨g5, 0, none⟩ := by
        rcases st.out.mrow.2 with ⟨he, h0⟩ | ⟨g, cap, cur, he, _⟩
        · omega
        · exact ⟨g, by simp at he; exact he.1⟩
      have hrow := st.out.mrow
      have x0 : wr.cell? ⟨g5, k, none⟩ = some u := by rw [hrow.cellAt k (by have := st.out.mvl; omega), hu]
      have f0 := hrow.frozenAt k
      have ho := st.out.mutsO k r u (Nat.le_refl _) hks hu
      obtain ⟨al, cl, hul, hll, -⟩ := id ho
      unfold maxLen at hll
      have hi := hs1'.out r (List.mem_of_getElem? hks)
      have rL := Lib.hid (show SrcIs wr al r.length 1 (r.map (Value.int .i64)) from by have := ho; rw [hul] at this; exact (this.src.below st.out.below))
      rw [hul] at x0
      have cL := Lib.hid (listInt_any al r.length cl (r.map (Value.int .i64)) hi wr rL.out)
      have hg5 := Lib.hid (hrow.lt g5 rfl)
      have hg5a : g5 < wr.heap.size := hg5.out.2
      have hrow' := Lib.hid hrow
      have hlen := hrow.1
      have nxt := Lib.hid (fun (y wF : World) (u : Value) hy o1 hF => st.out.next (y := y) (wF := wF) (u := u) hks hy o1 hF)
      clear hks hu hrow ho hul hi f0
      go_wp2_with fail
      refine cL.out.mono ?_
      rintro e w1 ⟨v, rfl, o1, b1⟩
      obtain ⟨aL, cL2, rfl⟩ := own_slice o1
      have hown2 := own_below hrow'.out b1
      have x1 := cell_below b1 x0
      have f1 := hown2.frozenAt k
      have oL := Lib.hid o1
      have bL := Lib.hid b1
      clear o1 b1 hown2 x0
      go_wp2_with fail
      go_roundw
      case rel => exact ⟨k + 1, _, by omega, by go_num, nxt.out _ _ _ bL.out oL.out rfl⟩
      case measure => simp [RowKit.intOf]; omega
    · obtain rfl : k = L.length := by omega
      have y := Lib.hid (show OwnM wr w.heap.size (.slice a5 L.length c5) L mv ∧ (mv.filterMap Value.ownBlock).Nodup ∧ Below w.heap.size w wr from
        ⟨⟨st.out.mrow, st.out.mvl, fun i r u h1 h2 => st.out.mutsN i r u (List.getElem?_eq_some_iff.1 h1).1 h1 h2⟩, by
          have := st.out.nodup
          rwa [show mv.take L.length = mv by rw [← st.out.mvl]; exact List.take_length] at this, st.out.below⟩)
      go_wp2_with fail
      go_ret
      exact ⟨_, _, mv, rfl, y.out⟩
end Go.Proofs.YtpaepkcfdnddgaaGreat

namespace Go.Proofs.YtpaepkcfdnddgaaGreat
open Go.RowKit
set_option linter.unusedVariables false

theorem Ext.frozen {W : World} {b o : Nat} {v : Value} (hc : W.cell? ⟨b, o, none⟩ = some v) (h : W.frozen? ⟨b, o, none⟩ = false) : ∀ x : Ext W, x.val.frozen? ⟨b, o, none⟩ = false := fun x => (x.below.frozen (p := ⟨b, o, none⟩) (cell_lt hc)).trans h
/-- Two rows that were made one after the other. -/
theorem two_rows {w0 y1 y2 : World} {b n1 n2 : Nat} {u1 u2 : Value} {xs1 xs2 : List Value} (b1 : Below b w0 y1) (hb : b ≤ w0.heap.size) (o1 : y1.ownsRow b 3 1 u1 n1 xs1) (b2 : Below y1.heap.size y1 y2) (o2 : y2.ownsRow y1.heap.size 3 1 u2 n2 xs2) :
    Below b w0 y2 ∧ y2.ownsRow b 3 1 u1 n1 xs1 ∧ y2.ownsRow b 3 1 u2 n2 xs2 ∧ ∀ q, u1.ownBlock = some q → u2.ownBlock ≠ some q := by
  have z := b1.size
  refine ⟨b1.trans (b2.mono (by omega)), own_below o1 b2, own_base o2 (by omega), fun q h1 h2 => ?_⟩
  have := (o1.lt q h1).2
  have := (o2.lt q h2).1
  omega

set_option maxRecDepth 100000 in
set_option maxHeartbeats 16000000 in
theorem copyOf_any (B0 : Nat) (v : Value) (D : WD) (hs : Small D) (w : World) (hr : RdW w v D) (hB : BoxW w B0 v) :
    Calls Tryz.prog 101 #[.pointer (some ⟨B0, 0, none⟩)] w fun e w' => ∃ S, e = .returned (S.val D) ∧ OwnW w' w.heap.size S D ∧ Below w.heap.size w w' := by
  obtain ⟨aw, ad, aS, am, ag, cw, cd, cS, cm, cg, rfl⟩ := hr.written
  unfold worldV at hr hB
  obtain ⟨q1, q2, q3, q4, q5⟩ := hr.parts
  have e1 := Lib.hid q1.src
  have e2 := Lib.hid q2.src
  obtain ⟨sv0, svl, e3, e3i⟩ := q3.src
  have q4' := Lib.hid q4
  have e5 := Lib.hid q5.src
  have e3 := Lib.hid e3
  have e3i := Lib.hid e3i
  have svl := Lib.hid svl
  have hs1 := hs.words
  have hs2 := hs.dirty
  have hs3 := hs.spans
  have hs4 := hs.muts
  have hs5 := hs.grey
  have hs' := Lib.hid hs
  have g0 := hB.cell 0 _ rfl
  have g1 := hB.cell 1 _ rfl
  have g2 := hB.cell 2 _ rfl
  have g3 := hB.cell 3 _ rfl
  have g4 := hB.cell 4 _ rfl
  have g5 := hB.cell 5 _ rfl
  have g6 := hB.cell 6 _ rfl
  have g7 := hB.cell 7 _ rfl
  have g8 := hB.cell 8 _ rfl
  have G2 := Lib.hid g2
  have G3 := Lib.hid g3
  have G4 := Lib.hid g4
  have G5 := Lib.hid g5
  have G8 := Lib.hid g8
  have hlt := cell_lt g0
  dsimp only at hlt
  obtain ⟨l1, l2, l3, l4, l5⟩ := hr.parts
  obtain ⟨_, _, -, m1, -⟩ := l1
  obtain ⟨_, _, -, m2, -⟩ := l2
  obtain ⟨_, _, -, m3, -⟩ := l3
  obtain ⟨_, _, -, m4, -⟩ := l4
  obtain ⟨_, _, -, m5, -⟩ := l5
  unfold maxLen at m1 m2 m3 m4 m5
  have hz : (w.alloc (.cells zero9 36)).heap.size = w.heap.size + 1 := by simp
  have bb := Lib.hid (below_trans (below_box w (.cells zero9 36)) (below_box (w.alloc (.cells zero9 36)) (.cells #[.int .i64 D.base, .int .i64 D.pages, .slice aw D.words.length cw, .slice ad D.dirty.length cd, .slice aS D.spans.length cS, .slice am D.muts.length cm, .int .i64 D.phase, .int .i64 D.next, .slice ag D.grey.length cg] 36)))
  have hR := Lib.hid (heap_below (below_box (w.alloc (.cells zero9 36)) (.cells #[.int .i64 D.base, .int .i64 D.pages, .slice aw D.words.length cw, .slice ad D.dirty.length cd, .slice aS D.spans.length cS, .slice am D.muts.length cm, .int .i64 D.phase, .int .i64 D.next, .slice ag D.grey.length cg] 36)) (box_new w (.cells zero9 36)))
  have hC := Lib.hid (show ((w.alloc (.cells zero9 36)).alloc (.cells #[.int .i64 D.base, .int .i64 D.pages, .slice aw D.words.length cw, .slice ad D.dirty.length cd, .slice aS D.spans.length cS, .slice am D.muts.length cm, .int .i64 D.phase, .int .i64 D.next, .slice ag D.grey.length cg] 36)).heap[w.heap.size + 1]? = some (.cells #[.int .i64 D.base, .int .i64 D.pages, .slice aw D.words.length cw, .slice ad D.dirty.length cd, .slice aS D.spans.length cS, .slice am D.muts.length cm, .int .i64 D.phase, .int .i64 D.next, .slice ag D.grey.length cg] 36) from by have := box_new (w.alloc (.cells zero9 36)) (.cells #[.int .i64 D.base, .int .i64 D.pages, .slice aw D.words.length cw, .slice ad D.dirty.length cd, .slice aS D.spans.length cS, .slice am D.muts.length cm, .int .i64 D.phase, .int .i64 D.next, .slice ag D.grey.length cg] 36); rwa [hz] at this)
  have g0a : (w.alloc (.cells zero9 36)).cell? ⟨B0, 0, none⟩ = some (.int .i64 D.base) := cell_below (below_box _ _) g0
  have g1a : (w.alloc (.cells zero9 36)).cell? ⟨B0, 1, none⟩ = some (.int .i64 D.pages) := cell_below (below_box _ _) g1
  have g2a := cell_below (below_box w (.cells zero9 36)) g2
  have g3a := cell_below (below_box w (.cells zero9 36)) g3
  have g4a := cell_below (below_box w (.cells zero9 36)) g4
  have g5a := cell_below (below_box w (.cells zero9 36)) g5
  have g6a := cell_below (below_box w (.cells zero9 36)) g6
  have g7a := cell_below (below_box w (.cells zero9 36)) g7
  have g8a := cell_below (below_box w (.cells zero9 36)) g8
  have y2 := cell_below bb.out G2.out
  clear hr hB q1 q2 q3 q4 q5 hs g0 g1 g2 g3 g4 g5 g6 g7 g8 hz
  unfold zero9 at *
  go_enter Tryz.func101, Tryz.ntmps101
  go_wp2_with fail
  generalize (w.alloc (.cells #[.int .i64 0, .int .i64 0, .slice none 0 0, .slice none 0 0, .slice none 0 0, .slice none 0 0, .int .i64 0, .int .i64 0, .slice none 0 0] 36)).alloc (.cells #[.int .i64 D.base, .int .i64 D.pages, .slice aw D.words.length cw, .slice ad D.dirty.length cd, .slice aS D.spans.length cS, .slice am D.muts.length cm, .int .i64 D.phase, .int .i64 D.next, .slice ag D.grey.length cg] 36) = W1 at *
  refine (listInt_any aw D.words.length cw _ hs1 _ (e1.out.below (bb.out))).mono ?_
  rintro e w2 ⟨v, rfl, ho, hb⟩
  obtain ⟨a2, c2, rfl⟩ := own_slice ho
  have C2 := heap_below hb hC.out
  have R2 := heap_below hb hR.out
  have f2 := frozen_of_heap C2 2
  have z2 := cell_of_heap C2 2 _ rfl
  have hz2 : w.heap.size + 1 < w2.heap.size := (Array.getElem?_eq_some_iff.1 C2).1
  have bb' := Lib.hid (show Below w.heap.size w (w2.setCell ⟨w.heap.size + 1, 2, none⟩ (.slice a2 D.words.length c2)) from (below_trans bb.out hb).setCell (p := ⟨w.heap.size + 1, 2, none⟩) (by simp) _)
  have hC' := Lib.hid (show (w2.setCell ⟨w.heap.size + 1, 2, none⟩ (.slice a2 D.words.length c2)).heap[w.heap.size + 1]? = some (.cells #[.int .i64 D.base, .int .i64 D.pages, .slice a2 D.words.length c2, .slice ad D.dirty.length cd, .slice aS D.spans.length cS, .slice am D.muts.length cm, .int .i64 D.phase, .int .i64 D.next, .slice ag D.grey.length cg] 36 (0, 0)) from heap_setCell_same w2 (w.heap.size + 1) 2 _ _ _ C2)
  have hR' := Lib.hid ((heap_setCell_other w2 ⟨w.heap.size + 1, 2, none⟩ w.heap.size (.slice a2 D.words.length c2) (by simp)).trans R2)
  have o2' := Lib.hid (own_set (own_base ho (show w.heap.size + 1 + 1 ≤ _ by have := (Array.getElem?_eq_some_iff.1 hC.out).1; omega)) (show w.heap.size + 1 < w.heap.size + 1 + 1 by omega) 2 (.slice a2 D.words.length c2))
  have y3 := cell_below bb'.out G3.out
  clear ho hb C2 R2 bb hC hR y2
  have bb := bb'
  have hC := hC'
  have hR := hR'
  clear bb' hC' hR'
  have o2 := o2'
  clear o2'
  go_wp2_with fail
  generalize w2.setCell ⟨w.heap.size + 1, 2, none⟩ (.slice a2 D.words.length c2) = W2 at *
  clear f2 z2 hz2
  refine (listBool_any ad D.dirty.length cd _ hs2 _ (e2.out.below (bb.out))).mono ?_
  rintro e w3 ⟨v, rfl, ho, hb⟩
  obtain ⟨a3, c3, rfl⟩ := own_slice ho
  have C3 := heap_below hb hC.out
  have R3 := heap_below hb hR.out
  have f3 := frozen_of_heap C3 3
  have z3 := cell_of_heap C3 3 _ rfl
  have hz3 : w.heap.size + 1 < w3.heap.size := (Array.getElem?_eq_some_iff.1 C3).1
  have bb' := Lib.hid (show Below w.heap.size w (w3.setCell ⟨w.heap.size + 1, 3, none⟩ (.slice a3 D.dirty.length c3)) from (below_trans bb.out hb).setCell (p := ⟨w.heap.size + 1, 3, none⟩) (by simp) _)
  have hC' := Lib.hid (show (w3.setCell ⟨w.heap.size + 1, 3, none⟩ (.slice a3 D.dirty.length c3)).heap[w.heap.size + 1]? = some (.cells #[.int .i64 D.base, .int .i64 D.pages, .slice a2 D.words.length c2, .slice a3 D.dirty.length c3, .slice aS D.spans.length cS, .slice am D.muts.length cm, .int .i64 D.phase, .int .i64 D.next, .slice ag D.grey.length cg] 36 (0, 0)) from heap_setCell_same w3 (w.heap.size + 1) 3 _ _ _ C3)
  have hR' := Lib.hid ((heap_setCell_other w3 ⟨w.heap.size + 1, 3, none⟩ w.heap.size (.slice a3 D.dirty.length c3) (by simp)).trans R3)
  have o2' := Lib.hid (own_set (own_below o2.out hb) (show w.heap.size + 1 < w.heap.size + 1 + 1 by omega) 3 (.slice a3 D.dirty.length c3))
  have o3' := Lib.hid (own_set (own_base ho (show w.heap.size + 1 + 1 ≤ _ by have := (Array.getElem?_eq_some_iff.1 hC.out).1; omega)) (show w.heap.size + 1 < w.heap.size + 1 + 1 by omega) 3 (.slice a3 D.dirty.length c3))
  have y4 := cell_below bb'.out G4.out
  clear ho hb C3 R3 bb hC hR o2 y3
  have bb := bb'
  have hC := hC'
  have hR := hR'
  clear bb' hC' hR'
  have o2 := o2'
  clear o2'
  have o3 := o3'
  clear o3'
  go_wp2_with fail
  generalize w3.setCell ⟨w.heap.size + 1, 3, none⟩ (.slice a3 D.dirty.length c3) = W3 at *
  clear f3 z3 hz3
  refine (listSpan_any aS D.spans.length cS _ hs3 _ (e3.out.below (bb.out))).mono ?_
  rintro e w4 ⟨v, rfl, ho, hb⟩
  obtain ⟨a4, c4, rfl⟩ := own_slice ho
  have C4 := heap_below hb hC.out
  have R4 := heap_below hb hR.out
  have f4 := frozen_of_heap C4 4
  have z4 := cell_of_heap C4 4 _ rfl
  have hz4 : w.heap.size + 1 < w4.heap.size := (Array.getElem?_eq_some_iff.1 C4).1
  have bb' := Lib.hid (show Below w.heap.size w (w4.setCell ⟨w.heap.size + 1, 4, none⟩ (.slice a4 D.spans.length c4)) from (below_trans bb.out hb).setCell (p := ⟨w.heap.size + 1, 4, none⟩) (by simp) _)
  have hC' := Lib.hid (show (w4.setCell ⟨w.heap.size + 1, 4, none⟩ (.slice a4 D.spans.length c4)).heap[w.heap.size + 1]? = some (.cells #[.int .i64 D.base, .int .i64 D.pages, .slice a2 D.words.length c2, .slice a3 D.dirty.length c3, .slice a4 D.spans.length c4, .slice am D.muts.length cm, .int .i64 D.phase, .int .i64 D.next, .slice ag D.grey.length cg] 36 (0, 0)) from heap_setCell_same w4 (w.heap.size + 1) 4 _ _ _ C4)
  have hR' := Lib.hid ((heap_setCell_other w4 ⟨w.heap.size + 1, 4, none⟩ w.heap.size (.slice a4 D.spans.length c4) (by simp)).trans R4)
  have o2' := Lib.hid (own_set (own_below o2.out hb) (show w.heap.size + 1 < w.heap.size + 1 + 1 by omega) 4 (.slice a4 D.spans.length c4))
  have o3' := Lib.hid (own_set (own_below o3.out hb) (show w.heap.size + 1 < w.heap.size + 1 + 1 by omega) 4 (.slice a4 D.spans.length c4))
  have o4' := Lib.hid (own_set (own_base ho (show w.heap.size + 1 + 1 ≤ _ by have := (Array.getElem?_eq_some_iff.1 hC.out).1; omega)) (show w.heap.size + 1 < w.heap.size + 1 + 1 by omega) 4 (.slice a4 D.spans.length c4))
  have y5 := cell_below bb'.out G5.out
  clear ho hb C4 R4 bb hC hR o2 o3 y4
  have bb := bb'
  have hC := hC'
  have hR := hR'
  clear bb' hC' hR'
  have o2 := o2'
  clear o2'
  have o3 := o3'
  clear o3'
  have o4 := o4'
  clear o4'
  go_wp2_with fail
  generalize w4.setCell ⟨w.heap.size + 1, 4, none⟩ (.slice a4 D.spans.length c4) = W4 at *
  clear f4 z4 hz4
  refine (copyOfMuts_any _ D.muts hs4 hs'.out.innerM _ (q4'.out.below bb.out)).mono ?_
  rintro e w5 ⟨a5, c5, mv, rfl, hM, hmd, hb⟩
  have C5 := heap_below hb hC.out
  have R5 := heap_below hb hR.out
  have f5 := frozen_of_heap C5 5
  have z5 := cell_of_heap C5 5 _ rfl
  have hz5 : w.heap.size + 1 < w5.heap.size := (Array.getElem?_eq_some_iff.1 C5).1
  have bb' := Lib.hid (show Below w.heap.size w (w5.setCell ⟨w.heap.size + 1, 5, none⟩ (.slice a5 D.muts.length c5)) from (below_trans bb.out hb).setCell (p := ⟨w.heap.size + 1, 5, none⟩) (by simp) _)
  have hC' := Lib.hid (show (w5.setCell ⟨w.heap.size + 1, 5, none⟩ (.slice a5 D.muts.length c5)).heap[w.heap.size + 1]? = some (.cells #[.int .i64 D.base, .int .i64 D.pages, .slice a2 D.words.length c2, .slice a3 D.dirty.length c3, .slice a4 D.spans.length c4, .slice a5 D.muts.length c5, .int .i64 D.phase, .int .i64 D.next, .slice ag D.grey.length cg] 36 (0, 0)) from heap_setCell_same w5 (w.heap.size + 1) 5 _ _ _ C5)
  have hR' := Lib.hid ((heap_setCell_other w5 ⟨w.heap.size + 1, 5, none⟩ w.heap.size (.slice a5 D.muts.length c5) (by simp)).trans R5)
  have o2' := Lib.hid (own_set (own_below o2.out hb) (show w.heap.size + 1 < w.heap.size + 1 + 1 by omega) 5 (.slice a5 D.muts.length c5))
  have o3' := Lib.hid (own_set (own_below o3.out hb) (show w.heap.size + 1 < w.heap.size + 1 + 1 by omega) 5 (.slice a5 D.muts.length c5))
  have o4' := Lib.hid (own_set (own_below o4.out hb) (show w.heap.size + 1 < w.heap.size + 1 + 1 by omega) 5 (.slice a5 D.muts.length c5))
  have o5' := Lib.hid ((hM.baseLe (show w.heap.size + 1 + 1 ≤ _ by have := (Array.getElem?_eq_some_iff.1 hC.out).1; omega)).set (show w.heap.size + 1 < w.heap.size + 1 + 1 by omega) 5 (.slice a5 D.muts.length c5))
  have hmd' := Lib.hid hmd
  have hN := Lib.hid (show ∃ n n', n ≤ n' ∧ (∀ q, (Value.slice a2 D.words.length c2).ownBlock = some q → q < n) ∧ (∀ q, q ∈ mv.filterMap Value.ownBlock → n ≤ q ∧ q < n') ∧ n' ≤ (w5.setCell ⟨w.heap.size + 1, 5, none⟩ (.slice a5 D.muts.length c5)).heap.size from
    ⟨_, _, hb.size, fun q hq => (o2.out.lt q hq).2, hM.mvIn, by simp⟩)
  have y8 := cell_below bb'.out G8.out
  clear hM hmd hb C5 R5 bb hC hR o2 o3 o4 y5
  have bb := bb'
  have hC := hC'
  have hR := hR'
  clear bb' hC' hR'
  have o2 := o2'
  clear o2'
  have o3 := o3'
  clear o3'
  have o4 := o4'
  clear o4'
  have o5 := o5'
  clear o5'
  go_wp2_with fail
  generalize w5.setCell ⟨w.heap.size + 1, 5, none⟩ (.slice a5 D.muts.length c5) = W5 at *
  clear f5 z5 hz5
  refine (listInt_any ag D.grey.length cg _ hs5 _ (e5.out.below (bb.out))).mono ?_
  rintro e w8 ⟨v, rfl, ho, hb⟩
  obtain ⟨a8, c8, rfl⟩ := own_slice ho
  have C8 := heap_below hb hC.out
  have R8 := heap_below hb hR.out
  have f8 := frozen_of_heap C8 8
  have z8 := cell_of_heap C8 8 _ rfl
  have hz8 : w.heap.size + 1 < w8.heap.size := (Array.getElem?_eq_some_iff.1 C8).1
  have bb' := Lib.hid (show Below w.heap.size w (w8.setCell ⟨w.heap.size + 1, 8, none⟩ (.slice a8 D.grey.length c8)) from (below_trans bb.out hb).setCell (p := ⟨w.heap.size + 1, 8, none⟩) (by simp) _)
  have hC' := Lib.hid (show (w8.setCell ⟨w.heap.size + 1, 8, none⟩ (.slice a8 D.grey.length c8)).heap[w.heap.size + 1]? = some (.cells #[.int .i64 D.base, .int .i64 D.pages, .slice a2 D.words.length c2, .slice a3 D.dirty.length c3, .slice a4 D.spans.length c4, .slice a5 D.muts.length c5, .int .i64 D.phase, .int .i64 D.next, .slice a8 D.grey.length c8] 36 (0, 0)) from heap_setCell_same w8 (w.heap.size + 1) 8 _ _ _ C8)
  have hR' := Lib.hid ((heap_setCell_other w8 ⟨w.heap.size + 1, 8, none⟩ w.heap.size (.slice a8 D.grey.length c8) (by simp)).trans R8)
  have o2' := Lib.hid (own_set (own_below o2.out hb) (show w.heap.size + 1 < w.heap.size + 1 + 1 by omega) 8 (.slice a8 D.grey.length c8))
  have o3' := Lib.hid (own_set (own_below o3.out hb) (show w.heap.size + 1 < w.heap.size + 1 + 1 by omega) 8 (.slice a8 D.grey.length c8))
  have o4' := Lib.hid (own_set (own_below o4.out hb) (show w.heap.size + 1 < w.heap.size + 1 + 1 by omega) 8 (.slice a8 D.grey.length c8))
  have o5' := Lib.hid ((o5.out.below hb).set (show w.heap.size + 1 < w.heap.size + 1 + 1 by omega) 8 (.slice a8 D.grey.length c8))
  have o8' := Lib.hid (own_set (own_base ho (show w.heap.size + 1 + 1 ≤ _ by have := (Array.getElem?_eq_some_iff.1 hC.out).1; omega)) (show w.heap.size + 1 < w.heap.size + 1 + 1 by omega) 8 (.slice a8 D.grey.length c8))
  have hd18 := Lib.hid (show (((Value.slice a2 D.words.length c2) :: svInts [] ++ (mv ++ [Value.slice a8 D.grey.length c8])).filterMap Value.ownBlock).Nodup from by obtain ⟨n, n', k1, k2, k3, k4⟩ := hN.out; exact nodup3 hmd'.out k2 k3 (fun q hq => Nat.le_trans k4 (ho.lt q hq).1) k1)
  clear ho hb C8 R8 bb hC hR o2 o3 o4 o5 y8
  have bb := bb'
  have hC := hC'
  have hR := hR'
  clear bb' hC' hR'
  have o2 := o2'
  clear o2'
  have o3 := o3'
  clear o3'
  have o4 := o4'
  clear o4'
  have o5 := o5'
  clear o5'
  have o8 := o8'
  clear o8'
  have z4 := cell_of_heap hC.out 4 _ rfl
  go_wp2_with fail
  generalize w8.setCell ⟨w.heap.size + 1, 8, none⟩ (.slice a8 D.grey.length c8) = W8 at *
  clear f8 z8 hz8
  have st0 := Lib.hid (show Cp1 w W8 D (.slice a2 D.words.length c2) (.slice a3 D.dirty.length c3) (.slice a4 D.spans.length c4) (.slice a5 D.muts.length c5) (.slice a8 D.grey.length c8) sv0 mv 0 from
    ⟨bb.out, hR.out, hC.out, by have := (Array.getElem?_eq_some_iff.1 hC.out).1; omega, o2.out, o3.out, o4.out, svl.out, fun i s p hi => absurd hi (by omega), fun i s p _ => e3i.out i s p, o5.out, o8.out, hd18.out⟩)
  clear bb hC hR o2 o3 o4 o5 o8 hd18 z4 e1 e2 e3 e5 e3i svl q4' hmd' hN G2 G3 G4 G5 G8 g0a g1a g2a g3a g4a g5a g6a g7a g8a
  go_loopw [44] (fun i wr => ∃ (k : Nat) (sv : List (Value × Value)), k ≤ D.spans.length ∧ i = .int .i64 k ∧ Hid (Cp1 w wr D (.slice a2 D.words.length c2) (.slice a3 D.dirty.length c3) (.slice a4 D.spans.length c4) (.slice a5 D.muts.length c5) (.slice a8 D.grey.length c8) sv mv k)) (fun i _ => D.spans.length - (RowKit.intOf i).toNat)
  case atStart => exact ⟨0, sv0, Nat.zero_le _, rfl, st0⟩
  case round =>
    obtain ⟨k, sv, hk, rfl, st⟩ := hrel
    clear st0
    have hsz := Lib.hid st.out.size
    have hsz1 : w.heap.size + 1 < wr.heap.size := by have := hsz.out; omega
    have z4 := cell_of_heap st.out.boxB 4 _ rfl
    have z5 := cell_of_heap st.out.boxB 5 _ rfl
    by_cases hltk : k < D.spans.length
    · have hlt1 : (k : Int) < (D.spans.length : Int) := by omega
      obtain ⟨s, hks⟩ : ∃ s, D.spans[k]? = some s := ⟨_, List.getElem?_eq_getElem hltk⟩
      obtain ⟨p, hp⟩ : ∃ p, sv[k]? = some p := ⟨_, List.getElem?_eq_getElem (by have := st.out.svl; omega)⟩
      obtain ⟨g3, rfl⟩ : ∃ g3, a4 = some ⟨g3, 0, none⟩ := by
        rcases st.out.row.2 with ⟨he, h0⟩ | ⟨g, cap, cur, he, _⟩
        · omega
        · exact ⟨g, by simp at he; exact he.1⟩
      have hrow := st.out.row
      have x4 : wr.cell? ⟨g3, k * 6 + 4, none⟩ = some p.1 := by rw [hrow.cellAt (k * 6 + 4) (by omega), flatV_at D.spans sv k s p hks hp 4 (by omega)]; rfl
      have x5 : wr.cell? ⟨g3, k * 6 + 5, none⟩ = some p.2 := by rw [hrow.cellAt (k * 6 + 5) (by omega), flatV_at D.spans sv k s p hks hp 5 (by omega)]; rfl
      have f4 := hrow.frozenAt (k * 6 + 4)
      have f5 := hrow.frozenAt (k * 6 + 5)
      have ho := st.out.innerO k s p (Nat.le_refl _) hks hp
      obtain ⟨al, cl, hpl, hll, -⟩ := id ho.1
      obtain ⟨ap, cp, hpp, hpl2, -⟩ := id ho.2
      unfold maxLen at hll hpl2
      have hi := hs'.out.inner s (List.mem_of_getElem? hks)
      have rL := Lib.hid (show SrcIs wr al s.lens.length 1 (s.lens.map (Value.int .i64)) from by have := ho.1; rw [hpl] at this; exact this.src.below st.out.below)
      have rP := Lib.hid (show SrcIs wr ap s.ptrs.length 1 (s.ptrs.map (Value.int .i64)) from by have := ho.2; rw [hpp] at this; exact this.src.below st.out.below)
      rw [hpl] at x4
      rw [hpp] at x5
      have X4 := Ext.cell x4
      have X5 := Ext.cell x5
      have F4 := Ext.frozen x4 f4
      have F5 := Ext.frozen x5 f5
      have cL := Lib.hid (fun (w' : World) h => listInt_any al s.lens.length cl (s.lens.map (Value.int .i64)) hi.1 w' h)
      have cP := Lib.hid (fun (w' : World) h => listInt_any ap s.ptrs.length cp (s.ptrs.map (Value.int .i64)) hi.2 w' h)
      have hg3 := Lib.hid (hrow.lt g3 rfl)
      have hg3a : g3 < wr.heap.size := hg3.out.2
      have hsml : D.spans.length ≤ 1048576 := hs3
      have nxt := Lib.hid (fun (y wF : World) (u1 u2 : Value) hy o1 o2 hne hF => st.out.next (y := y) (wF := wF) (u1 := u1) (u2 := u2) hks hy o1 o2 hne hF)
      have bd := Lib.hid (show Below wr.heap.size wr wr.drew from below_drewN (Below.refl _ _) 1)
      have hks' := Lib.hid hks
      clear hks hp hrow ho hpl hpp hi
      go_wp2_with fail
      clear z4 z5
      go_region_with (first
        | (go_at_call 138; ((with_reducible refine (cL.out _ ?_).mono ?_); (first | exact rL.out.below bd.out | exact rL.out.below bP.out); rintro e w1 ⟨v, rfl, o1, b1⟩; obtain ⟨aL, cL2, rfl⟩ := own_slice o1; have oL := Lib.hid o1; have bL := Lib.hid (show Below wr.heap.size wr w1 from (by first | exact below_trans bP.out b1 | exact below_trans bd.out b1)); have bL1 := Lib.hid b1; obtain ⟨xL, rfl⟩ := Ext.of bL.out; clear o1 b1))
        | (go_at_call 138; ((with_reducible refine (cP.out _ ?_).mono ?_); (first | exact rP.out.below bd.out | exact rP.out.below bL.out); rintro e w1 ⟨v, rfl, o1, b1⟩; obtain ⟨aP, cP2, rfl⟩ := own_slice o1; have oP := Lib.hid o1; have bP := Lib.hid (show Below wr.heap.size wr w1 from (by first | exact below_trans bL.out b1 | exact below_trans bd.out b1)); have bP1 := Lib.hid b1; obtain ⟨xP, rfl⟩ := Ext.of bP.out; clear o1 b1)))
      all_goals go_wp2_with fail
      all_goals first
        | (have t := two_rows (b := wr.heap.size) bL.out (Nat.le_refl _) oL.out bP1.out oP.out; exact ⟨⟨k + 1, _, by omega, by go_num, nxt.out _ _ _ _ t.1 t.2.1 t.2.2.1 t.2.2.2 rfl⟩, by simp [RowKit.intOf]; omega⟩)
        | (have t := two_rows (b := wr.heap.size) bP.out (Nat.le_refl _) oP.out bL1.out oL.out; exact ⟨⟨k + 1, _, by omega, by go_num, nxt.out _ _ _ _ t.1 t.2.2.1 t.2.1 (fun q h1 h2 => t.2.2.2 q h2 h1) rfl⟩, by simp [RowKit.intOf]; omega⟩)
    · obtain rfl : k = D.spans.length := by omega
      have C8 := st.out.boxB
      have R8 := st.out.boxR
      unfold zero9 at R8
      have m0 := cell_of_heap C8 0 _ rfl
      have m1 := cell_of_heap C8 1 _ rfl
      have m2 := cell_of_heap C8 2 _ rfl
      have m3 := cell_of_heap C8 3 _ rfl
      have m4 := cell_of_heap C8 4 _ rfl
      have m5 := cell_of_heap C8 5 _ rfl
      have m6 := cell_of_heap C8 6 _ rfl
      have m7 := cell_of_heap C8 7 _ rfl
      have m8 := cell_of_heap C8 8 _ rfl
      have n0 := cell_of_heap R8 0 _ rfl
      have y0 := frozen_of_heap R8 0
      have n1 := cell_of_heap R8 1 _ rfl
      have y1 := frozen_of_heap R8 1
      have n2 := cell_of_heap R8 2 _ rfl
      have y2 := frozen_of_heap R8 2
      have n3 := cell_of_heap R8 3 _ rfl
      have y3 := frozen_of_heap R8 3
      have n4 := cell_of_heap R8 4 _ rfl
      have y4 := frozen_of_heap R8 4
      have n5 := cell_of_heap R8 5 _ rfl
      have y5 := frozen_of_heap R8 5
      have n6 := cell_of_heap R8 6 _ rfl
      have y6 := frozen_of_heap R8 6
      have n7 := cell_of_heap R8 7 _ rfl
      have y7 := frozen_of_heap R8 7
      have n8 := cell_of_heap R8 8 _ rfl
      have y8 := frozen_of_heap R8 8
      have fin := Lib.hid (fun wF hF => st.out.own (wF := wF) hF)
      clear C8 R8 z4 z5 st hk
      go_wp2_with fail
      refine bodyPost_ret (v := .agg #[.int .i64 D.base, .int .i64 D.pages, .slice a2 D.words.length c2, .slice a3 D.dirty.length c3, .slice a4 D.spans.length c4, .slice a5 D.muts.length c5, .int .i64 D.phase, .int .i64 D.next, .slice a8 D.grey.length c8]) (by simp [results, Tryz.results101, go_sem, n0, n1, n2, n3, n4, n5, n6, n7, n8]) rfl ?_
      exact ⟨⟨.slice a2 D.words.length c2, .slice a3 D.dirty.length c3, .slice a4 D.spans.length c4, .slice a5 D.muts.length c5, .slice a8 D.grey.length c8, sv, mv⟩, rfl, fin.out _ ((((((((((Chg.refl _ _).put (b := w.heap.size) (by simp) 0 _).put (b := w.heap.size) (by simp) 1 _).put (b := w.heap.size) (by simp) 2 _).put (b := w.heap.size) (by simp) 3 _).put (b := w.heap.size) (by simp) 4 _).put (b := w.heap.size) (by simp) 5 _).put (b := w.heap.size) (by simp) 6 _).put (b := w.heap.size) (by simp) 7 _).put (b := w.heap.size) (by simp) 8 _)⟩
end Go.Proofs.YtpaepkcfdnddgaaGreat

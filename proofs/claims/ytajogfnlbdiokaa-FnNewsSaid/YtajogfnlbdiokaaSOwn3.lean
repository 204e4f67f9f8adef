/-
  The model's l2own, second loop: the users' rows.
-/
import Derived.Test.YtajogfnlbdiokaaSOwn2
namespace Go.Proofs.Ytajogfnlbdiokaa
open Go.RowKit
set_option linter.unusedVariables false

/-- The second loop's state. -/
structure St2 (w wr : World) (A : Array Value) (D : WD) (v1 v2 v3 v5 vg : Value) (sv : List (Value × Value)) (mv : List Value) (k : Nat) : Prop where
  below : Below w.heap.size w wr
  boxA : wr.heap[w.heap.size]? = some (.cells A 32 (0, 0))
  boxR : wr.heap[w.heap.size + 1]? = some (.cells #[.int .i64 0, .int .i64 0, .slice none 0 0, .slice none 0 0, .slice none 0 0, .slice none 0 0, .int .i64 0, .int .i64 0, .slice none 0 0] 32 (0, 0))
  boxC : wr.heap[w.heap.size + 1 + 1]? = some (.cells #[.int .i64 D.base, .int .i64 D.pages, v1, v2, v3, v5, .int .i64 D.phase, .int .i64 D.next, vg] 32 (0, 0))
  size : w.heap.size + 1 + 1 + 1 ≤ wr.heap.size
  words : wr.ownsRow (w.heap.size + 1 + 1 + 1) 3 1 v1 D.words.length (D.words.map (Value.int .i64))
  dirty : wr.ownsRow (w.heap.size + 1 + 1 + 1) 4 1 v2 D.dirty.length (D.dirty.map Value.bool)
  spans : OwnS wr (w.heap.size + 1 + 1 + 1) v3 D.spans sv
  muts : OwnM wr (w.heap.size + 1 + 1 + 1) v5 (D.muts.take k) mv
  nodup : ((v1 :: svInts sv ++ mv).filterMap Value.ownBlock).Nodup
  lt : ∀ x, x ∈ v1 :: v2 :: v3 :: v5 :: (svInts sv ++ mv) → ∀ q, x.ownBlock = some q → w.heap.size + 1 + 1 + 1 ≤ q ∧ q < wr.heap.size

theorem OwnS.below {w w' : World} {base : Nat} {v : Value} {L : List SpanD} {sv : List (Value × Value)} (h : OwnS w base v L sv) (hb : Below w.heap.size w w') : OwnS w' base v L sv := h.chg (Chg.of_below hb []) (fun _ _ => by simp) (fun _ _ _ _ => by simp)
theorem OwnM.below {w w' : World} {base : Nat} {v : Value} {L : List (List Int)} {mv : List Value} (h : OwnM w base v L mv) (hb : Below w.heap.size w w') : OwnM w' base v L mv := h.chg (Chg.of_below hb []) (fun _ _ => by simp) (fun _ _ _ _ => by simp)

theorem St2.start {w wr : World} {A : Array Value} {D : WD} {v1 v2 v3 vm vg : Value} {sv : List (Value × Value)} (h : St1 w wr A D v1 v2 v3 vm vg sv D.spans.length) :
    St2 w (wr.setCell ⟨w.heap.size + 1 + 1, 5, none⟩ (.slice none 0 0)) A D v1 v2 v3 (.slice none 0 0) vg sv [] 0 := by
  have c : Chg [w.heap.size + 1 + 1] wr (wr.setCell ⟨w.heap.size + 1 + 1, 5, none⟩ (.slice none 0 0)) := Chg.of_grown (grown_set wr (w.heap.size + 1 + 1) 5 (.slice none 0 0)) (by simp)
  have hs := h.size
  have k := h.cop.kept c (fun q hq => by rw [List.mem_singleton.1 hq]; omega)
  have e : D.spans.take D.spans.length = D.spans := List.take_length
  refine ⟨h.below.setCell (p := ⟨w.heap.size + 1 + 1, 5, none⟩) (by simp; omega) _, ?_, ?_, heap_setCell_same wr (w.heap.size + 1 + 1) 5 _ _ _ h.boxC, by simpa using hs, k.words, k.dirty, by have := k.spans; rwa [e] at this, ⟨World.ownsRow_nil _ _ _ _, rfl, fun i r u hr => by simp at hr⟩, by simpa using k.nodup, fun x hx q hq => ?_⟩
  · rw [heap_setCell_other wr ⟨w.heap.size + 1 + 1, 5, none⟩ w.heap.size _ (by simp; omega)]
    exact h.boxA
  · rw [heap_setCell_other wr ⟨w.heap.size + 1 + 1, 5, none⟩ (w.heap.size + 1) _ (by simp)]
    exact h.boxR
  · simp only [List.append_nil, List.mem_cons] at hx
    rcases hx with rfl | rfl | rfl | rfl | hx
    · exact k.lt _ (by simp) q hq
    · exact k.lt _ (by simp) q hq
    · exact k.lt _ (by simp) q hq
    · cases hq
    · exact k.lt _ (by simp [hx]) q hq

theorem St2.next {w wr y0 w1 y1 w2 wF : World} {A : Array Value} {D : WD} {v1 v2 v3 v5 vg v5' u : Value} {sv : List (Value × Value)} {mv : List Value} {k : Nat} (h : St2 w wr A D v1 v2 v3 v5 vg sv mv k) {r : List Int} (hr : D.muts[k]? = some r)
    (hy0 : Below wr.heap.size wr y0) (g1 : y0.grownBy w1 (some wr.heap.size)) (o1 : w1.ownsRow wr.heap.size 3 1 u r.length (r.map (Value.int .i64)))
    (hy1 : Below w1.heap.size w1 y1) (g2 : y1.grownBy w2 v5.ownBlock) (o2 : w2.ownsRow (w.heap.size + 1 + 1 + 1) 69 1 v5' ((D.muts.take k).length + 1) (mv ++ [u]))
    (hF : Chg [w.heap.size + 1 + 1] w2 wF) (hC : wF.heap[w.heap.size + 1 + 1]? = some (.cells #[.int .i64 D.base, .int .i64 D.pages, v1, v2, v3, v5', .int .i64 D.phase, .int .i64 D.next, vg] 32 (0, 0))) :
    St2 w wF A D v1 v2 v3 v5' vg sv (mv ++ [u]) (k + 1) := by
  obtain ⟨hk, rfl⟩ := List.getElem?_eq_some_iff.1 hr
  have hsz := h.size
  have b1 : Below wr.heap.size wr w1 := hy0.grown g1 hy0.size (fun q hq => by cases hq; exact Nat.le_refl _)
  have b2 : Below wr.heap.size wr y1 := b1.trans (hy1.mono b1.size)
  have c2 : Chg v5.ownBlock.toList y1 w2 := Chg.of_grown g2 fun x hx => by rw [hx]; simp
  have e : D.muts.take (k + 1) = D.muts.take k ++ [D.muts[k]] := List.take_succ_eq_append_getElem hk
  have hl := h.muts.len
  have m1 := h.muts.below b2
  have ty : ∀ {x : Value} {n : Nat} {xs : List Value} {t : TypeId} {sz b : Nat}, y1.ownsRow b t sz x n xs → t ≠ 69 → ∀ q, x.ownBlock = some q → q ∉ v5.ownBlock.toList := fun hx ht q hq hm => by
    refine own_types hx m1.row ht q hq ?_
    cases hv : v5.ownBlock with
    | none => rw [hv] at hm; simp at hm
    | some b => rw [hv] at hm; simp at hm; rw [hm]
  have fin : ∀ {x : Value} {n b : Nat} {xs : List Value} {t : TypeId} {sz : Nat}, y1.ownsRow b t sz x n xs → t ≠ 69 → w.heap.size + 1 + 1 + 1 ≤ b → wF.ownsRow b t sz x n xs := fun hx ht hb =>
    own_chg (own_chg hx c2 (ty hx ht)) hF fun q hq hm => by have := (hx.lt q hq).1; rw [List.mem_singleton.1 hm] at this; omega
  have o1' := own_below o1 hy1
  have u1 := fin o1' (by decide) hsz
  have z1 := b1.size
  have z2 := b2.size
  have z3 := c2.size
  have z4 := hF.size
  have z5 := hy1.size
  have hlt : ∀ x, x ∈ v1 :: v2 :: v3 :: v5 :: (svInts sv ++ mv) → ∀ q, x.ownBlock = some q → w.heap.size + 1 + 1 + 1 ≤ q ∧ q < wF.heap.size := fun x hx q hq => by have := h.lt x hx q hq; omega
  refine ⟨?_, ?_, ?_, hC, by omega, fin (own_below h.words b2) (by decide) (Nat.le_refl _), fin (own_below h.dirty b2) (by decide) (Nat.le_refl _), ?_, ⟨?_, by rw [e, List.length_append, List.length_append, hl]; rfl, ?_⟩, ?_, ?_⟩
  · have e1 : Below w.heap.size w y1 := h.below.trans (b2.mono (by omega))
    have e2 : Below w.heap.size w w2 := e1.grown g2 (by omega) (fun q hq => by have := (h.lt v5 (by simp) q hq).1; omega)
    exact Chg.below e2 hF (by omega) (fun x hx => by rw [List.mem_singleton.1 hx]; omega)
  · rw [hF.block _ (by omega) (by simp only [List.mem_singleton]; omega)]
    exact grown_block g2 (by omega) (fun q hq => by have := (h.lt v5 (by simp) q hq).1; omega) (heap_below b2 h.boxA)
  · rw [hF.block _ (by omega) (by simp only [List.mem_singleton]; omega)]
    exact grown_block g2 (by omega) (fun q hq => by have := (h.lt v5 (by simp) q hq).1; omega) (heap_below b2 h.boxR)
  · refine ⟨fin (own_below h.spans.row b2) (by decide) (Nat.le_refl _), h.spans.len, fun i s p hs hp => ?_⟩
    have := (h.spans.below b2).inner i s p hs hp
    exact ⟨fin this.1 (by decide) (Nat.le_refl _), fin this.2 (by decide) (Nat.le_refl _)⟩
  · rw [e, List.length_append]
    exact own_chg o2 hF fun q hq hm => by have := (o2.lt q hq).1; rw [List.mem_singleton.1 hm] at this; omega
  · intro i r' u' hr' hu'
    rw [e] at hr'
    by_cases hi : i < (D.muts.take k).length
    · rw [List.getElem?_append_left hi] at hr'
      rw [List.getElem?_append_left (by omega)] at hu'
      exact fin (m1.inner i r' u' hr' hu') (by decide) (Nat.le_refl _)
    · have hi2 : i = (D.muts.take k).length := by
        have := (List.getElem?_eq_some_iff.1 hr').1
        simp at this hi ⊢
        omega
      subst hi2
      rw [List.getElem?_append_right (Nat.le_refl _)] at hr'
      rw [List.getElem?_append_right (by omega)] at hu'
      simp [hl] at hr' hu'
      subst hr'
      subst hu'
      exact own_base u1 hsz
  · rw [← List.append_assoc, List.filterMap_append, List.nodup_append]
    refine ⟨h.nodup, by cases hq : u.ownBlock <;> simp [hq], fun a ha b hb eab => ?_⟩
    obtain ⟨x, hx, hxa⟩ := List.mem_filterMap.1 ha
    have l1 : a < wr.heap.size := (h.lt x (by
      simp only [List.cons_append, List.mem_cons] at hx ⊢
      rcases hx with rfl | hx
      · exact .inl rfl
      · exact .inr (.inr (.inr (.inr hx)))) a hxa).2
    obtain ⟨y, hy, hyb⟩ := List.mem_filterMap.1 hb
    rw [List.mem_singleton] at hy
    subst hy
    have := (o1.lt b hyb).1
    omega
  · intro x hx q hq
    simp only [List.mem_cons, List.mem_append, List.not_mem_nil, or_false] at hx
    rcases hx with rfl | rfl | rfl | rfl | hx | hx | rfl
    · exact hlt _ (by simp) q hq
    · exact hlt _ (by simp) q hq
    · exact hlt _ (by simp) q hq
    · have := o2.lt q hq; omega
    · exact hlt _ (by simp [hx]) q hq
    · exact hlt _ (by simp [hx]) q hq
    · have := u1.lt q hq; omega

/-- The end: all lists owned. -/
theorem St2.own {w wr : World} {A : Array Value} {D : WD} {v1 v2 v3 v5 vg vg' : Value} {sv : List (Value × Value)} {mv : List Value} (h : St2 w wr A D v1 v2 v3 v5 vg sv mv D.muts.length) {y0 w1 : World}
    (hy0 : Below wr.heap.size wr y0) (g1 : y0.grownBy w1 (some wr.heap.size)) (o1 : w1.ownsRow wr.heap.size 3 1 vg' D.grey.length (D.grey.map (Value.int .i64))) {wF : World} {bs : List Nat} (hF : Chg bs w1 wF) (hbs : ∀ q, q ∈ bs → q < w.heap.size + 1 + 1 + 1 ∧ w.heap.size ≤ q) :
    OwnW wF w.heap.size ⟨v1, v2, v3, v5, vg', sv, mv⟩ D ∧ Below w.heap.size w wF := by
  have hsz := h.size
  have b1 : Below wr.heap.size wr w1 := hy0.grown g1 hy0.size (fun q hq => by cases hq; exact Nat.le_refl _)
  have z1 := b1.size
  have fin : ∀ {x : Value} {n b : Nat} {xs : List Value} {t : TypeId} {sz : Nat}, w1.ownsRow b t sz x n xs → w.heap.size + 1 + 1 + 1 ≤ b → wF.ownsRow w.heap.size t sz x n xs := fun hx hb =>
    own_base (own_chg hx hF fun q hq hm => by have := (hx.lt q hq).1; have := (hbs q hm).1; omega) (by omega)
  have e : D.muts.take D.muts.length = D.muts := List.take_length
  have m := h.muts.below b1
  rw [e] at m
  have s := h.spans.below b1
  refine ⟨⟨fin (own_below h.words b1) (Nat.le_refl _), fin (own_below h.dirty b1) (Nat.le_refl _), fin s.row (Nat.le_refl _), s.len, fun i s' p h1 h2 => ⟨fin (s.inner i s' p h1 h2).1 (Nat.le_refl _), fin (s.inner i s' p h1 h2).2 (Nat.le_refl _)⟩, fin m.row (Nat.le_refl _), m.len, fun i r v h1 h2 => fin (m.inner i r v h1 h2) (Nat.le_refl _), fin o1 hsz, ?_⟩, Chg.below (h.below.trans (b1.mono (by omega))) hF (by have := h.below.size; omega) (fun q hq => (hbs q hq).2)⟩
  show ((v1 :: svInts sv ++ mv ++ [vg']).filterMap Value.ownBlock).Nodup
  rw [List.filterMap_append, List.nodup_append]
  refine ⟨h.nodup, by cases hq : vg'.ownBlock <;> simp [hq], fun a ha b hb eab => ?_⟩
  obtain ⟨x, hx, hxa⟩ := List.mem_filterMap.1 ha
  have l1 : a < wr.heap.size := (h.lt x (by
    simp only [List.cons_append, List.mem_cons] at hx ⊢
    rcases hx with rfl | hx
    · exact .inl rfl
    · exact .inr (.inr (.inr (.inr hx)))) a hxa).2
  obtain ⟨y, hy, hyb⟩ := List.mem_filterMap.1 hb
  rw [List.mem_singleton] at hy
  subst hy
  have := (o1.lt b hyb).1
  omega
end Go.Proofs.Ytajogfnlbdiokaa

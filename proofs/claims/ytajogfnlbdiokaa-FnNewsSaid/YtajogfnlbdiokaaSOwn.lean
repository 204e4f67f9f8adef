/-
  The contract of the model's l2own: a World with lists of its own.
-/
import Derived.Test.YtajogfnlbdiokaaApp
namespace Go.Proofs.Ytajogfnlbdiokaa
open Go.RowKit
set_option linter.unusedVariables false

theorem grown_block {w w' : World} {row : Option Nat} (h : w.grownBy w' row) {b : Nat} (hb : b < w.heap.size) (hne : ∀ r, row = some r → b ≠ r) {o : Obj} (ho : w.heap[b]? = some o) : w'.heap[b]? = some o :=
  (h.block b hb (fun e => hne b e.symm rfl)).trans ho
/-- The words, flags and first spans of a copy are owned; no two lists share a block. -/
structure Cop (w : World) (base : Nat) (v1 v2 v3 : Value) (sv : List (Value × Value)) (D : WD) (k : Nat) : Prop where
  words : w.ownsRow base 3 1 v1 D.words.length (D.words.map (Value.int .i64))
  dirty : w.ownsRow base 4 1 v2 D.dirty.length (D.dirty.map Value.bool)
  spans : OwnS w base v3 (D.spans.take k) sv
  nodup : ((v1 :: svInts sv).filterMap Value.ownBlock).Nodup
  lt : ∀ x, x ∈ v1 :: v2 :: v3 :: svInts sv → ∀ q, x.ownBlock = some q → base ≤ q ∧ q < w.heap.size
theorem Cop.kept {w w' : World} {base : Nat} {v1 v2 v3 : Value} {sv : List (Value × Value)} {D : WD} {k : Nat} (h : Cop w base v1 v2 v3 sv D k) {bs : List Nat} (c : Chg bs w w') (hn : ∀ q, q ∈ bs → q < base ∨ w.heap.size ≤ q) : Cop w' base v1 v2 v3 sv D k := by
  have ne : ∀ x, x ∈ v1 :: v2 :: v3 :: svInts sv → ∀ q, x.ownBlock = some q → q ∉ bs := fun x hx q hq hm => by
    have := h.lt x hx q hq
    rcases hn q hm with h | h <;> omega
  exact ⟨own_chg h.words c (ne v1 (by simp)), own_chg h.dirty c (ne v2 (by simp)), h.spans.chg c (ne v3 (by simp)) (fun x hx => ne x (by simp [hx])), h.nodup, fun x hx q hq => by have := h.lt x hx q hq; have := c.size; omega⟩
theorem Cop.grown {w w' : World} {base : Nat} {v1 v2 v3 : Value} {sv : List (Value × Value)} {D : WD} {k : Nat} (h : Cop w base v1 v2 v3 sv D k) {row : Option Nat} (c : w.grownBy w' row) (hn : ∀ q, row = some q → q < base ∨ w.heap.size ≤ q) : Cop w' base v1 v2 v3 sv D k :=
  h.kept (bs := row.toList) (Chg.of_grown c fun x hx => by rw [hx]; simp) fun q hq => hn q (by simpa using hq)
/-- One span more. -/
theorem Cop.snoc {w w' : World} {base : Nat} {v1 v2 v3 v3' : Value} {sv : List (Value × Value)} {D : WD} {k : Nat} (h : Cop w base v1 v2 v3 sv D k) {s : SpanD} (hs : D.spans[k]? = some s) {p : Value × Value} {lo : Nat} (hlo : w.heap.size ≤ lo ∨ True)
    (g : w.grownBy w' v3.ownBlock) (hr : w'.ownsRow base 79 6 v3' ((D.spans.take k).length + 1) (flatV (D.spans.take k) sv ++ spanCv s p)) (h1 : w.ownsRow base 3 1 p.1 s.lens.length (s.lens.map (Value.int .i64))) (h2 : w.ownsRow base 3 1 p.2 s.ptrs.length (s.ptrs.map (Value.int .i64)))
    (hd : (((v1 :: svInts sv) ++ [p.1, p.2]).filterMap Value.ownBlock).Nodup) : Cop w' base v1 v2 v3' (sv ++ [p]) D (k + 1) := by
  obtain ⟨hk, rfl⟩ := List.getElem?_eq_some_iff.1 hs
  have e : D.spans.take (k + 1) = D.spans.take k ++ [D.spans[k]] := List.take_succ_eq_append_getElem hk
  have hl := h.spans.len
  have c : Chg v3.ownBlock.toList w w' := Chg.of_grown g fun x hx => by rw [hx]; simp
  have ty : ∀ {x : Value} {n : Nat} {xs : List Value} {t : TypeId} {sz : Nat}, w.ownsRow base t sz x n xs → t ≠ 79 → ∀ q, x.ownBlock = some q → q ∉ v3.ownBlock.toList := fun hx ht q hq hm => by
    refine own_types hx h.spans.row ht q hq ?_
    cases hv : v3.ownBlock with
    | none => rw [hv] at hm; simp at hm
    | some b => rw [hv] at hm; simp at hm; rw [hm]
  refine ⟨own_chg h.words c (ty h.words (by decide)), own_chg h.dirty c (ty h.dirty (by decide)), ⟨?_, ?_, ?_⟩, ?_, ?_⟩
  · have e2 : flatV [D.spans[k]] [p] = spanCv D.spans[k] p := by simp [flatV]
    rw [e, flatV_app _ _ _ _ hl, e2, List.length_append]
    exact hr
  · rw [e, List.length_append, List.length_append, hl]; rfl
  · intro i s' p' hs' hp'
    rw [e] at hs'
    by_cases hi : i < (D.spans.take k).length
    · rw [List.getElem?_append_left hi] at hs'
      rw [List.getElem?_append_left (by omega)] at hp'
      have := h.spans.inner i s' p' hs' hp'
      exact ⟨own_chg this.1 c (ty this.1 (by decide)), own_chg this.2 c (ty this.2 (by decide))⟩
    · have hi2 : i = (D.spans.take k).length := by
        have := (List.getElem?_eq_some_iff.1 hs').1
        simp at this hi ⊢
        omega
      subst hi2
      rw [List.getElem?_append_right (Nat.le_refl _)] at hs'
      rw [List.getElem?_append_right (by omega)] at hp'
      simp [hl] at hs' hp'
      subst hs'
      subst hp'
      exact ⟨own_chg h1 c (ty h1 (by decide)), own_chg h2 c (ty h2 (by decide))⟩
  · rw [svInts_app]
    exact hd
  · intro x hx q hq
    rw [svInts_app] at hx
    have hz := c.size
    rcases List.mem_cons.1 hx with rfl | hx
    · have := h.lt x (by simp) q hq; omega
    rcases List.mem_cons.1 hx with rfl | hx
    · have := h.lt x (by simp) q hq; omega
    rcases List.mem_cons.1 hx with rfl | hx
    · exact hr.lt q hq
    rcases List.mem_append.1 hx with hx | hx
    · have := h.lt x (by simp [hx]) q hq; omega
    · simp [svInts] at hx
      rcases hx with rfl | rfl
      · have := h1.lt q hq; omega
      · have := h2.lt q hq; omega

theorem own_empty' {w : World} {n : Nat} (hn : w.heap.size = n) (e : TypeId) (size : Nat) : (w.alloc (.cells #[] e)).ownsRow n e size (.slice (some ⟨n, 0, none⟩) 0 0) 0 [] := by subst hn; exact own_empty w e size
/-- The first loop's state: the argument's box, the copy's box, what the copy owns. -/
structure St1 (w wr : World) (A : Array Value) (D : WD) (v1 v2 v3 vm vg : Value) (sv : List (Value × Value)) (k : Nat) : Prop where
  below : Below w.heap.size w wr
  boxA : wr.heap[w.heap.size]? = some (.cells A 32 (0, 0))
  boxR : wr.heap[w.heap.size + 1]? = some (.cells #[.int .i64 0, .int .i64 0, .slice none 0 0, .slice none 0 0, .slice none 0 0, .slice none 0 0, .int .i64 0, .int .i64 0, .slice none 0 0] 32 (0, 0))
  boxC : wr.heap[w.heap.size + 1 + 1]? = some (.cells #[.int .i64 D.base, .int .i64 D.pages, v1, v2, v3, vm, .int .i64 D.phase, .int .i64 D.next, vg] 32 (0, 0))
  size : w.heap.size + 1 + 1 + 1 ≤ wr.heap.size
  cop : Cop wr (w.heap.size + 1 + 1 + 1) v1 v2 v3 sv D k

/-- A store into a block, a new empty row, an append onto it: all else is as it was. -/
theorem step3 {x x' : World} {b i : Nat} {u : Value} {e : TypeId} {cs : Array Value} {T : TypeId} (hb : b < x.heap.size) (hC : x.heap[b]? = some (.cells cs T (0, 0))) (g : ((x.setCell ⟨b, i, none⟩ u).alloc (.cells #[] e)).grownBy x' (some x.heap.size)) :
    x'.heap[b]? = some (.cells (cs.setIfInBounds i u) T (0, 0)) ∧ Chg [b] x x' ∧ x.heap.size < x'.heap.size := by
  have hz := g.size
  simp only [World.size_alloc, World.size_setCell] at hz
  have h1 := heap_setCell_same x b i _ _ u hC
  refine ⟨grown_block g (by simp; omega) (fun r hr => by cases hr; omega) (heap_below (below_box _ _) h1), ?_, by omega⟩
  refine ⟨g.os, g.tape, g.output, by omega, fun k hk hn => ?_⟩
  have hkb : k ≠ b := fun e => hn (by simp [e])
  rw [g.block k (by simp; omega) (fun e => by cases e; omega), (below_box (x.setCell ⟨b, i, none⟩ u) (.cells #[] e)).block k (by simp; omega), heap_setCell_other x ⟨b, i, none⟩ k u (by simpa using hkb)]
theorem step2 {x x' : World} {e : TypeId} (g : (x.alloc (.cells #[] e)).grownBy x' (some x.heap.size)) : Below x.heap.size x x' ∧ x.heap.size < x'.heap.size := by
  have hz := g.size
  simp only [World.size_alloc] at hz
  exact ⟨(below_box x _).grown g (by simp) (fun k hk => by cases hk; exact Nat.le_refl _), by omega⟩

theorem St1.next {w wr w1 w2 w3 : World} {A : Array Value} {D : WD} {v1 v2 v3 vm vg : Value} {sv : List (Value × Value)} {k : Nat} (h : St1 w wr A D v1 v2 v3 vm vg sv k) {s : SpanD} (hs : D.spans[k]? = some s) {S6 X6 : Array Value} {p : Value × Value} {v3' : Value}
    (g1 : ((wr.alloc (.cells S6 79)).alloc (.cells #[] 3)).grownBy w1 (some (wr.heap.size + 1))) (o1 : w1.ownsRow (wr.heap.size + 1) 3 1 p.1 s.lens.length (s.lens.map (Value.int .i64)))
    (g2 : ((w1.setCell ⟨wr.heap.size, 4, none⟩ p.1).alloc (.cells #[] 3)).grownBy w2 (some w1.heap.size)) (o2 : w2.ownsRow w1.heap.size 3 1 p.2 s.ptrs.length (s.ptrs.map (Value.int .i64)))
    (g3 : ((w2.setCell ⟨wr.heap.size, 5, none⟩ p.2).alloc (.cells X6 79)).grownBy w3 v3.ownBlock) (o3 : w3.ownsRow (w.heap.size + 1 + 1 + 1) 79 6 v3' ((D.spans.take k).length + 1) (flatV (D.spans.take k) sv ++ spanCv s p)) :
    St1 w (w3.setCell ⟨w.heap.size + 1 + 1, 4, none⟩ v3') A D v1 v2 v3' vm vg (sv ++ [p]) (k + 1) := by
  have hsz := h.size
  have b1 : Below wr.heap.size wr w1 := (below_trans (below_box wr _) (below_box _ _)).grown g1 (by simp; omega) (fun q hq => by cases hq; omega)
  have z1 := g1.size
  simp only [World.size_alloc] at z1
  have c1 : Cop w1 (w.heap.size + 1 + 1 + 1) v1 v2 v3 sv D k := h.cop.kept (bs := []) ⟨b1.os, b1.tape, b1.output, b1.size, fun q hq _ => b1.block q hq⟩ (fun q hq => by cases hq)
  have t1 : w1.heap[wr.heap.size]? = some (.cells S6 79 (0, 0)) := grown_block g1 (by simp; omega) (fun r hr => by cases hr; omega) (heap_below (below_box _ _) (box_new wr _))
  obtain ⟨t2, k2, z2⟩ := step3 (by omega) t1 g2
  have hc2 : Chg [wr.heap.size] w1 w2 := k2
  have c2 : Cop w2 (w.heap.size + 1 + 1 + 1) v1 v2 v3 sv D k := by
    refine ⟨own_chg c1.words hc2 fun q hq hm => ?_, own_chg c1.dirty hc2 fun q hq hm => ?_, c1.spans.chg hc2 (fun q hq hm => ?_) (fun x hx q hq hm => ?_), c1.nodup, fun x hx q hq => by have := c1.lt x hx q hq; have := hc2.size; omega⟩
    all_goals (rw [List.mem_singleton.1 hm] at hq)
    · have := (h.cop.lt v1 (by simp) _ hq).2; omega
    · have := (h.cop.lt v2 (by simp) _ hq).2; omega
    · have := (h.cop.lt v3 (by simp) _ hq).2; omega
    · have := (h.cop.lt x (by simp [hx]) _ hq).2; omega
  have o12 : w2.ownsRow (wr.heap.size + 1) 3 1 p.1 s.lens.length (s.lens.map (Value.int .i64)) := own_chg o1 hc2 fun q hq hm => by
    have := (o1.lt q hq).1
    rw [List.mem_singleton.1 hm] at this
    omega
  -- the store into the span's box, the new row of one
  have z3 := g3.size
  simp only [World.size_alloc, World.size_setCell] at z3
  have m3 : ∀ {y : World}, y = (w2.setCell ⟨wr.heap.size, 5, none⟩ p.2).alloc (.cells X6 79) → Chg [wr.heap.size] w2 y := fun {y} e => by
    subst e
    refine (Chg.of_grown (grown_set w2 wr.heap.size 5 p.2) (by simp)).trans ?_
    exact Chg.of_below (below_box _ _) _
  have hc3 := m3 rfl
  have own3 : ∀ {x : Value} {n : Nat} {xs : List Value} {t : TypeId} {sz b : Nat}, w2.ownsRow b t sz x n xs → (∀ q, x.ownBlock = some q → q ≠ wr.heap.size) → ((w2.setCell ⟨wr.heap.size, 5, none⟩ p.2).alloc (.cells X6 79)).ownsRow b t sz x n xs := fun hx hn => own_chg hx hc3 fun q hq hm => hn q hq (List.mem_singleton.1 hm)
  have lt3 : ∀ x, x ∈ v1 :: v2 :: v3 :: svInts sv → ∀ q, x.ownBlock = some q → q ≠ wr.heap.size := fun x hx q hq => by have := (h.cop.lt x hx q hq).2; omega
  have c3 : Cop ((w2.setCell ⟨wr.heap.size, 5, none⟩ p.2).alloc (.cells X6 79)) (w.heap.size + 1 + 1 + 1) v1 v2 v3 sv D k :=
    ⟨own3 c2.words (lt3 v1 (by simp)), own3 c2.dirty (lt3 v2 (by simp)), c2.spans.chg hc3 (fun q hq hm => lt3 v3 (by simp) q hq (List.mem_singleton.1 hm)) (fun x hx q hq hm => lt3 x (by simp [hx]) q hq (List.mem_singleton.1 hm)), c2.nodup,
      fun x hx q hq => by have := c2.lt x hx q hq; have := hc3.size; omega⟩
  have p1 := own_base (own3 o12 fun q hq => by have := (o1.lt q hq).1; omega) (show w.heap.size + 1 + 1 + 1 ≤ wr.heap.size + 1 by omega)
  have p2 := own_base (own3 o2 fun q hq => by have := (o2.lt q hq).1; omega) (show w.heap.size + 1 + 1 + 1 ≤ w1.heap.size by omega)
  have nd : (((v1 :: svInts sv) ++ [p.1, p.2]).filterMap Value.ownBlock).Nodup := by
    rw [List.filterMap_append, List.nodup_append]
    refine ⟨h.cop.nodup, ?_, fun a ha b hb e => ?_⟩
    · have : ∀ q r, p.1.ownBlock = some q → p.2.ownBlock = some r → q ≠ r := fun q r hq hr => by
        have := (o1.lt q hq).2
        have := (o2.lt r hr).1
        omega
      cases h1 : p.1.ownBlock with
      | none => cases h2 : p.2.ownBlock <;> simp [h1, h2]
      | some q => cases h2 : p.2.ownBlock with
        | none => simp [h1, h2]
        | some r => simp [h1, h2, this q r h1 h2]
    · obtain ⟨x, hx, hxa⟩ := List.mem_filterMap.1 ha
      have l1 : a < wr.heap.size := by
        rcases List.mem_cons.1 hx with rfl | hx
        · exact (h.cop.lt x (by simp) a hxa).2
        · exact (h.cop.lt x (by simp [hx]) a hxa).2
      obtain ⟨y, hy, hyb⟩ := List.mem_filterMap.1 hb
      simp at hy
      rcases hy with rfl | rfl
      · have := (o1.lt b hyb).1; omega
      · have := (o2.lt b hyb).1; omega
  have c4 : Cop w3 (w.heap.size + 1 + 1 + 1) v1 v2 v3' (sv ++ [p]) D (k + 1) := c3.snoc hs (lo := 0) (.inr trivial) g3 o3 p1 p2 nd
  have hB3 : w.heap.size + 1 + 1 < wr.heap.size := by omega
  have keep : ∀ {b : Nat} {o : Obj}, b < w.heap.size + 1 + 1 + 1 → wr.heap[b]? = some o → w3.heap[b]? = some o := fun {b o} hb ho => by
    refine grown_block g3 (by simp; omega) (fun r hr => by have := (h.cop.lt v3 (by simp) r hr).1; omega) ?_
    refine heap_below (below_box _ _) ?_
    rw [heap_setCell_other w2 ⟨wr.heap.size, 5, none⟩ b p.2 (by simp; omega), k2.block b (by omega) (by simp; omega)]
    exact heap_below b1 ho
  have bA := keep (by omega) h.boxA
  have bC := keep (by omega) h.boxC
  have bR := keep (by omega) h.boxR
  refine ⟨?_, ?_, ?_, ?_, by simp; omega, ?_⟩
  · have e1 : Below w.heap.size w w1 := h.below.trans (b1.mono (by omega))
    have e2 : Below w.heap.size w w2 := Chg.below e1 hc2 (by omega) (fun x hx => by rw [List.mem_singleton.1 hx]; omega)
    have e3 := Chg.below e2 hc3 (by omega) (fun x hx => by rw [List.mem_singleton.1 hx]; omega)
    have e4 : Below w.heap.size w w3 := e3.grown g3 (by simp; omega) (fun q hq => by have := (h.cop.lt v3 (by simp) q hq).1; omega)
    exact e4.setCell (p := ⟨w.heap.size + 1 + 1, 4, none⟩) (by simp; omega) _
  · rw [heap_setCell_other w3 ⟨w.heap.size + 1 + 1, 4, none⟩ w.heap.size v3' (by simp; omega)]
    exact bA
  · rw [heap_setCell_other w3 ⟨w.heap.size + 1 + 1, 4, none⟩ (w.heap.size + 1) v3' (by simp)]
    exact bR
  · exact heap_setCell_same w3 (w.heap.size + 1 + 1) 4 _ _ v3' bC
  · exact c4.kept (Chg.of_grown (grown_set w3 (w.heap.size + 1 + 1) 4 v3') (bs := [w.heap.size + 1 + 1]) (by simp)) (fun q hq => by rw [List.mem_singleton.1 hq]; omega)
end Go.Proofs.Ytajogfnlbdiokaa

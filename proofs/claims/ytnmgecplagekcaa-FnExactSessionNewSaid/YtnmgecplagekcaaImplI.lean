/-
  The program's WorldNew: what holds in the region that makes the World, whatever of it is done.
-/
import Derived.Test.YtnmgecplagekcaaImplN
import Derived.Test.YtnmgecplagekcaaNewM
import Derived.Test.YtnmgecplagekcaaRegAll
import Derived.Test.YtnmgecplagekcaaRefill
namespace Go.Proofs.Ytnmgecplagekcaa
open Go.RowKit
set_option linter.unusedVariables false

/-- What the simple operations yield. -/
def NewZV (b p m : Int) (l : Nat → Bool) (x23 x24 x25 x26 x28 x29 x31 : Value) : Prop :=
  (l 0 = true → x23 = .int .i64 b) ∧ (l 1 = true → x24 = .int .i64 p) ∧ (l 2 = true → x25 = .int .i64 p) ∧ (l 3 = true → x26 = .int .i64 (p * 32)) ∧ (l 5 = true → x28 = .int .i64 p) ∧ (l 6 = true → x29 = .int .i64 (p * 4)) ∧ (l 8 = true → x31 = .int .i64 m)
abbrev zeroBox : Array Value := #[.int .i64 0, .int .i64 0, .slice none 0 0, .slice none 0 0, .slice none 0 0, .slice none 0 0, .int .i64 0, .int .i64 0, .slice none 0 0]
abbrev fullBox (b p : Int) (x27 x30 x32 : Value) : Array Value := #[.int .i64 b, .int .i64 p, x27, x30, .slice none 0 0, x32, .int .i64 0, .int .i64 0, .slice none 0 0]
/-- The memory that the region makes. -/
structure NewZ (w0 w : World) (b : Int) (p m : Nat) (l : Nat → Bool) (x8 x27 x30 x32 x33 : Value) (mv : List Value) : Prop where
  below : Below w0.heap.size w0 w
  size : w0.heap.size + 1 ≤ w.heap.size
  boxR : w.heap[w0.heap.size]? = some (.cells zeroBox 29 (0, 0))
  r4 : l 4 = true → w.ownsRow (w0.heap.size + 1) 3 1 x27 (p * 32) (List.replicate (p * 32) (.int .i64 0))
  r7 : l 7 = true → w.ownsRow (w0.heap.size + 1) 4 1 x30 (p * 4) (List.replicate (p * 4) (.bool false))
  r9 : l 9 = true → OwnM w (w0.heap.size + 1) x32 (rep6 m) mv ∧ (mv.filterMap Value.ownBlock).Nodup
  ne : l 4 = true → l 9 = true → ∀ q, x27.ownBlock = some q → q ∉ mv.filterMap Value.ownBlock
  x10 : l 10 = true → x33 = .agg (fullBox b p x27 x30 x32) ∧ l 4 = true ∧ l 7 = true ∧ l 9 = true
  x11 : l 11 = true → ∃ B, x8 = .pointer (some ⟨B, 0, none⟩) ∧ w0.heap.size < B ∧ (l 12 = false → w.heap[B]? = some (.cells zeroBox 29 (0, 0))) ∧ (l 12 = true → w.heap[B]? = some (.cells (fullBox b p x27 x30 x32) 29 (0, 0)))
  x12 : l 12 = true → l 10 = true ∧ l 11 = true

section
variable {w0 w w' : World} {b : Int} {p m : Nat} {l l' : Nat → Bool} {x8 x27 x30 x32 x33 : Value} {mv : List Value}
/-- Nothing but memory is made. -/
theorem NewZ.grow (h : NewZ w0 w b p m l x8 x27 x30 x32 x33 mv) (hb : Below w.heap.size w w') : NewZ w0 w' b p m l x8 x27 x30 x32 x33 mv :=
  ⟨h.below.trans (hb.mono (by have := h.size; omega)), by have := h.size; have := hb.size; omega, heap_below hb h.boxR, fun e => own_below (h.r4 e) hb, fun e => own_below (h.r7 e) hb, fun e => ⟨(h.r9 e).1.below hb, (h.r9 e).2⟩, h.ne, h.x10,
    fun e => by obtain ⟨B, h1, h2, h3, h4⟩ := h.x11 e; exact ⟨B, h1, h2, fun e => heap_below hb (h3 e), fun e => heap_below hb (h4 e)⟩, h.x12⟩
/-- An operation that makes none of it. -/
theorem NewZ.skip (h : NewZ w0 w b p m l x8 x27 x30 x32 x33 mv) (hl : ∀ j, j = 4 ∨ j = 7 ∨ j = 9 ∨ j = 10 ∨ j = 11 ∨ j = 12 → l' j = l j) : NewZ w0 w b p m l' x8 x27 x30 x32 x33 mv := by
  have e4 := hl 4 (by simp)
  have e7 := hl 7 (by simp)
  have e9 := hl 9 (by simp)
  have e10 := hl 10 (by simp)
  have e11 := hl 11 (by simp)
  have e12 := hl 12 (by simp)
  refine ⟨h.below, h.size, h.boxR, ?_, ?_, ?_, ?_, ?_, ?_, ?_⟩
  · rw [e4]; exact h.r4
  · rw [e7]; exact h.r7
  · rw [e9]; exact h.r9
  · rw [e4, e9]; exact h.ne
  · rw [e10, e4, e7, e9]; exact h.x10
  · rw [e11, e12]; exact h.x11
  · rw [e12, e10, e11]; exact h.x12
/-- The words are made. -/
theorem NewZ.words (h : NewZ w0 w b p m l x8 x27 x30 x32 x33 mv) (hp : p ≤ 1024) (hn : l 4 = false) (hs : l' 4 = true) (hl : ∀ j, j ≠ 4 → l' j = l j) :
    NewZ w0 (w.alloc (.cells (madeCells #[.int .i64 0] (p * 32)) 3)) b p m l' x8 (.slice (some ⟨w.heap.size, 0, none⟩) (p * 32) (p * 32)) x30 x32 x33 mv := by
  have g := h.grow (below_box w (.cells (madeCells #[.int .i64 0] (p * 32)) 3))
  have hsz := h.size
  have n10 : l 10 = false := by cases e : l 10; rfl; have := (h.x10 e).2.1; rw [hn] at this; cases this
  have n12 : l 12 = false := by cases e : l 12; rfl; have := (h.x12 e).1; rw [n10] at this; cases this
  have e7 := hl 7 (by decide)
  have e9 := hl 9 (by decide)
  have e10 := hl 10 (by decide)
  have e11 := hl 11 (by decide)
  have e12 := hl 12 (by decide)
  refine ⟨g.below, g.size, g.boxR, fun _ => own_made (box_new _ _) (by omega) (by unfold maxLen; omega), ?_, ?_, ?_, ?_, ?_, ?_⟩
  · rw [e7]; exact g.r7
  · rw [e9]; exact g.r9
  · rw [e9]
    intro _ e q hq hm
    simp [Value.ownBlock] at hq
    obtain ⟨x, hx, hxq⟩ := List.mem_filterMap.1 hm
    obtain ⟨i, hi⟩ := List.mem_iff_getElem?.1 hx
    have hi2 : i < (rep6 m).length := by
      have h1 := (h.r9 e).1.len
      have h2 := (List.getElem?_eq_some_iff.1 hi).1
      omega
    have := (((h.r9 e).1.inner i _ x (List.getElem?_eq_getElem hi2) hi).lt q hxq).2
    omega
  · rw [e10, n10]; intro e; cases e
  · rw [e11, e12]
    intro e
    obtain ⟨B, h1, h2, h3, h4⟩ := g.x11 e
    exact ⟨B, h1, h2, h3, fun e => by rw [n12] at e; cases e⟩
  · rw [e12, n12]; intro e; cases e
/-- The cards are made. -/
theorem NewZ.cards (h : NewZ w0 w b p m l x8 x27 x30 x32 x33 mv) (hp : p ≤ 1024) (hn : l 7 = false) (hs : l' 7 = true) (hl : ∀ j, j ≠ 7 → l' j = l j) :
    NewZ w0 (w.alloc (.cells (madeCells #[.bool false] (p * 4)) 4)) b p m l' x8 x27 (.slice (some ⟨w.heap.size, 0, none⟩) (p * 4) (p * 4)) x32 x33 mv := by
  have g := h.grow (below_box w (.cells (madeCells #[.bool false] (p * 4)) 4))
  have hsz := h.size
  have n10 : l 10 = false := by cases e : l 10; rfl; have := (h.x10 e).2.2.1; rw [hn] at this; cases this
  have n12 : l 12 = false := by cases e : l 12; rfl; have := (h.x12 e).1; rw [n10] at this; cases this
  have e4 := hl 4 (by decide)
  have e9 := hl 9 (by decide)
  have e10 := hl 10 (by decide)
  have e11 := hl 11 (by decide)
  have e12 := hl 12 (by decide)
  refine ⟨g.below, g.size, g.boxR, ?_, fun _ => own_made (box_new _ _) (by omega) (by unfold maxLen; omega), ?_, ?_, ?_, ?_, ?_⟩
  · rw [e4]; exact g.r4
  · rw [e9]; exact g.r9
  · rw [e4, e9]; exact g.ne
  · rw [e10, n10]; intro e; cases e
  · rw [e11, e12]
    intro e
    obtain ⟨B, h1, h2, h3, h4⟩ := g.x11 e
    exact ⟨B, h1, h2, h3, fun e => by rw [n12] at e; cases e⟩
  · rw [e12, n12]; intro e; cases e
/-- The users are made. -/
theorem NewZ.users {v : Value} {mw : List Value} (h : NewZ w0 w b p m l x8 x27 x30 x32 x33 mv) (hb : Below w.heap.size w w') (hM : OwnM w' w.heap.size v (rep6 m) mw) (hnd : (mw.filterMap Value.ownBlock).Nodup) (hn : l 9 = false) (hs : l' 9 = true) (hl : ∀ j, j ≠ 9 → l' j = l j) :
    NewZ w0 w' b p m l' x8 x27 x30 v x33 mw := by
  have g := h.grow hb
  have hsz := h.size
  have n10 : l 10 = false := by cases e : l 10; rfl; have := (h.x10 e).2.2.2; rw [hn] at this; cases this
  have n12 : l 12 = false := by cases e : l 12; rfl; have := (h.x12 e).1; rw [n10] at this; cases this
  have e4 := hl 4 (by decide)
  have e7 := hl 7 (by decide)
  have e10 := hl 10 (by decide)
  have e11 := hl 11 (by decide)
  have e12 := hl 12 (by decide)
  refine ⟨g.below, g.size, g.boxR, ?_, ?_, fun _ => ⟨⟨own_base hM.row hsz, hM.len, fun i r u h1 h2 => own_base (hM.inner i r u h1 h2) hsz⟩, hnd⟩, ?_, ?_, ?_, ?_⟩
  · rw [e4]; exact g.r4
  · rw [e7]; exact g.r7
  · rw [e4]
    intro e _ q hq hm
    have h1 := ((h.r4 e).lt q hq).2
    obtain ⟨x, hx, hxq⟩ := List.mem_filterMap.1 hm
    obtain ⟨i, hi⟩ := List.mem_iff_getElem?.1 hx
    have hi2 : i < (rep6 m).length := by
      have h1 := hM.len
      have h2 := (List.getElem?_eq_some_iff.1 hi).1
      omega
    have := ((hM.inner i _ x (List.getElem?_eq_getElem hi2) hi).lt q hxq).1
    omega
  · rw [e10, n10]; intro e; cases e
  · rw [e11, e12]
    intro e
    obtain ⟨B, h1, h2, h3, h4⟩ := g.x11 e
    exact ⟨B, h1, h2, h3, fun e => by rw [n12] at e; cases e⟩
  · rw [e12, n12]; intro e; cases e
/-- The value is built. -/
theorem NewZ.built (h : NewZ w0 w b p m l x8 x27 x30 x32 x33 mv) (d4 : l 4 = true) (d7 : l 7 = true) (d9 : l 9 = true) (hn : l 10 = false) (hl : ∀ j, j ≠ 10 → l' j = l j) :
    NewZ w0 w b p m l' x8 x27 x30 x32 (.agg (fullBox b p x27 x30 x32)) mv := by
  have n12 : l 12 = false := by cases e : l 12; rfl; have := (h.x12 e).1; rw [hn] at this; cases this
  have e4 := hl 4 (by decide)
  have e7 := hl 7 (by decide)
  have e9 := hl 9 (by decide)
  have e11 := hl 11 (by decide)
  have e12 := hl 12 (by decide)
  refine ⟨h.below, h.size, h.boxR, ?_, ?_, ?_, ?_, fun _ => ⟨rfl, by rw [e4, e7, e9]; exact ⟨d4, d7, d9⟩⟩, ?_, ?_⟩
  · rw [e4]; exact h.r4
  · rw [e7]; exact h.r7
  · rw [e9]; exact h.r9
  · rw [e4, e9]; exact h.ne
  · rw [e11, e12]; exact h.x11
  · rw [e12, n12]; intro e; cases e
/-- Its box is made. -/
theorem NewZ.boxed (h : NewZ w0 w b p m l x8 x27 x30 x32 x33 mv) (hn : l 11 = false) (hl : ∀ j, j ≠ 11 → l' j = l j) :
    NewZ w0 (w.alloc (.cells zeroBox 29)) b p m l' (.pointer (some ⟨w.heap.size, 0, none⟩)) x27 x30 x32 x33 mv := by
  have g := h.grow (below_box w (.cells zeroBox 29))
  have hsz := h.size
  have n12 : l 12 = false := by cases e : l 12; rfl; have := (h.x12 e).2; rw [hn] at this; cases this
  have e4 := hl 4 (by decide)
  have e7 := hl 7 (by decide)
  have e9 := hl 9 (by decide)
  have e10 := hl 10 (by decide)
  have e12 := hl 12 (by decide)
  refine ⟨g.below, g.size, g.boxR, ?_, ?_, ?_, ?_, ?_, fun _ => ⟨w.heap.size, rfl, by omega, fun _ => box_new _ _, fun e => by rw [e12, n12] at e; cases e⟩, ?_⟩
  · rw [e4]; exact g.r4
  · rw [e7]; exact g.r7
  · rw [e9]; exact g.r9
  · rw [e4, e9]; exact g.ne
  · rw [e10, e4, e7, e9]; exact g.x10
  · rw [e12, n12]; intro e; cases e
/-- A row of another type lies in another block. -/
theorem own_off {B : Nat} {t : TypeId} {sz base n : Nat} {v : Value} {xs : List Value} {cs : Array Value} (h : w.ownsRow base t sz v n xs) (hB : w.heap[B]? = some (.cells cs 29 (0, 0))) (ht : t ≠ 29) : ∀ q, v.ownBlock = some q → q ∉ [B] := by
  intro q hq hm
  obtain rfl := List.mem_singleton.1 hm
  rcases h.2 with ⟨rfl, _⟩ | ⟨g, cap, cur, rfl, _, h3, _⟩
  · simp [Value.ownBlock] at hq
  · simp [Value.ownBlock] at hq
    subst hq
    rw [hB] at h3
    simp at h3
    exact ht h3.2.symm
/-- The value is stored in its box. -/
theorem NewZ.stored {B : Nat} (h : NewZ w0 w b p m l (.pointer (some ⟨B, 0, none⟩)) x27 x30 x32 x33 mv) (d10 : l 10 = true) (d11 : l 11 = true) (hn : l 12 = false) (hc : Chg [B] w w') (hB' : w'.heap[B]? = some (.cells (fullBox b p x27 x30 x32) 29 (0, 0))) (hs : l' 12 = true) (hl : ∀ j, j ≠ 12 → l' j = l j) :
    NewZ w0 w' b p m l' (.pointer (some ⟨B, 0, none⟩)) x27 x30 x32 x33 mv := by
  have hsz := h.size
  obtain ⟨B1, e1, h2, h3, _⟩ := h.x11 d11
  obtain rfl : B = B1 := by simpa using e1
  have hB := h3 hn
  have e4 := hl 4 (by decide)
  have e7 := hl 7 (by decide)
  have e9 := hl 9 (by decide)
  have e10 := hl 10 (by decide)
  have e11 := hl 11 (by decide)
  refine ⟨Chg.below h.below hc h.below.size (fun q hq => by rw [List.mem_singleton.1 hq]; omega), by have := hc.size; omega, ?_, ?_, ?_, ?_, ?_, ?_, fun _ => ⟨B, rfl, h2, fun e => by (rw [hs] at e; cases e), fun _ => hB'⟩, fun _ => by rw [e10, e11]; exact ⟨d10, d11⟩⟩
  · rw [hc.block _ (Array.getElem?_eq_some_iff.1 h.boxR).1 (fun hm => by rw [List.mem_singleton.1 hm] at h2; omega)]; exact h.boxR
  · rw [e4]; exact fun e => own_chg (h.r4 e) hc (own_off (h.r4 e) hB (by decide))
  · rw [e7]; exact fun e => own_chg (h.r7 e) hc (own_off (h.r7 e) hB (by decide))
  · rw [e9]; exact fun e => ⟨⟨own_chg (h.r9 e).1.row hc (own_off (h.r9 e).1.row hB (by decide)), (h.r9 e).1.len, fun i r u h1 h2 => own_chg ((h.r9 e).1.inner i r u h1 h2) hc (own_off ((h.r9 e).1.inner i r u h1 h2) hB (by decide))⟩, (h.r9 e).2⟩
  · rw [e4, e9]; exact h.ne
  · rw [e10, e4, e7, e9]; exact h.x10
/-- All is done: the World owns its rows. -/
theorem NewZ.own {wF : World} (h : NewZ w0 w b p m l x8 x27 x30 x32 x33 mv) (d4 : l 4 = true) (d7 : l 7 = true) (d9 : l 9 = true) (hF : Chg [w0.heap.size] w wF) :
    OwnW wF w0.heap.size ⟨x27, x30, .slice none 0 0, x32, .slice none 0 0, [], mv⟩ (newD b p m) ∧ Below w0.heap.size w0 wF := by
  have off : ∀ {v : Value} {n sz : Nat} {xs : List Value} {t : TypeId}, w.ownsRow (w0.heap.size + 1) t sz v n xs → wF.ownsRow w0.heap.size t sz v n xs := fun hx =>
    own_base (own_chg hx hF fun q hq hm => by have := (hx.lt q hq).1; rw [List.mem_singleton.1 hm] at this; omega) (by omega)
  have hM := (h.r9 d9).1
  have hr := rep6_len m
  refine ⟨⟨by simpa [newD] using off (h.r4 d4), by simpa [newD] using off (h.r7 d7), World.ownsRow_nil _ _ _ _, rfl, fun i s q hs => by simp [newD] at hs, ?_, ?_, fun i r v h1 h2 => off (hM.inner i r v h1 h2), World.ownsRow_nil _ _ _ _, ?_⟩, Chg.below h.below hF h.below.size (fun q hq => by rw [List.mem_singleton.1 hq]; omega)⟩
  · have := off hM.row
    rw [hr] at this
    simpa [newD] using this
  · have := hM.len
    rw [hr] at this
    simpa [newD] using this
  · show ((x27 :: [] ++ mv ++ [Value.slice none 0 0]).filterMap Value.ownBlock).Nodup
    rw [List.filterMap_append, List.filterMap_append, show [Value.slice none 0 0].filterMap Value.ownBlock = [] from rfl, List.append_nil]
    have hn := h.ne d4 d9
    have h9 := (h.r9 d9).2
    cases e : x27.ownBlock with
    | none => rw [List.filterMap_cons_none e]; exact h9
    | some q =>
      rw [List.filterMap_cons_some e]
      exact List.nodup_cons.2 ⟨hn q e, h9⟩
end
end Go.Proofs.Ytnmgecplagekcaa

/-
  A World in a variable of its own, that owns all its lists; what becomes of it when one of its lists turns.
-/
import Derived.Test.YtnmgecplagekcaaMarkW
import Derived.Test.YtnmgecplagekcaaRead
namespace Go.Proofs.Ytnmgecplagekcaa
open Go.RowKit
set_option linter.unusedVariables false

def Shape.cells (S : Shape) (D : WD) : Array Value := #[.int .i64 D.base, .int .i64 D.pages, S.vw, S.vd, S.vs, S.vm, .int .i64 D.phase, .int .i64 D.next, S.vg]
structure VarW (w : World) (base B : Nat) (S : Shape) (D : WD) : Prop where
  box : w.heap[B]? = some (.cells (S.cells D) 29 (0, 0))
  own : OwnW w base S D
  le : base ≤ B
  ne : B ∉ blks S.all

section
variable {w w' : World} {base B : Nat} {S : Shape} {D : WD}
theorem OwnW.mk' (h1 : w.ownsRow base 3 1 S.vw D.words.length (D.words.map (Value.int .i64))) (h2 : w.ownsRow base 4 1 S.vd D.dirty.length (D.dirty.map Value.bool)) (h3 : OwnS w base S.vs D.spans S.sv) (h4 : OwnM w base S.vm D.muts S.mv)
    (h5 : w.ownsRow base 3 1 S.vg D.grey.length (D.grey.map (Value.int .i64))) (h6 : (S.ints.filterMap Value.ownBlock).Nodup) : OwnW w base S D :=
  ⟨h1, h2, h3.row, h3.len, h3.inner, h4.row, h4.len, h4.inner, h5, h6⟩
theorem OwnW.putWords (h : OwnW w base S D) (c : Chg (blks [S.vw]) w w') {L : List Int} (r : w'.ownsRow base 3 1 S.vw L.length (L.map (Value.int .i64))) : OwnW w' base S { D with words := L } := by
  have P := h.parts
  exact .mk' r (own_chg h.dirty c fun q hq => P.d01.symm.not_mem (by simp) hq) (h.ownS.chg c (fun q hq => P.d02.symm.not_mem (by simp) hq) (fun x hx q hq => P.d02.symm.not_mem (by simp [hx]) hq))
    (h.ownM.chg c (fun q hq => P.d03.symm.not_mem (by simp) hq) (fun x hx q hq => P.d03.symm.not_mem (by simp [hx]) hq)) (own_chg h.grey c fun q hq => P.d04.symm.not_mem (by simp) hq) h.nodup
theorem OwnW.putDirty (h : OwnW w base S D) (c : Chg (blks [S.vd]) w w') {L : List Bool} (r : w'.ownsRow base 4 1 S.vd L.length (L.map Value.bool)) : OwnW w' base S { D with dirty := L } := by
  have P := h.parts
  exact .mk' (own_chg h.words c fun q hq => P.d01.not_mem (by simp) hq) r (h.ownS.chg c (fun q hq => P.d12.symm.not_mem (by simp) hq) (fun x hx q hq => P.d12.symm.not_mem (by simp [hx]) hq))
    (h.ownM.chg c (fun q hq => P.d13.symm.not_mem (by simp) hq) (fun x hx q hq => P.d13.symm.not_mem (by simp [hx]) hq)) (own_chg h.grey c fun q hq => P.d14.symm.not_mem (by simp) hq) h.nodup
theorem OwnW.putSpans (h : OwnW w base S D) (c : Chg (blks (S.vs :: svInts S.sv)) w w') {L : List SpanD} (r : OwnS w' base S.vs L S.sv) : OwnW w' base S { D with spans := L } := by
  have P := h.parts
  exact .mk' (own_chg h.words c fun q hq => P.d02.not_mem (by simp) hq) (own_chg h.dirty c fun q hq => P.d12.not_mem (by simp) hq) r
    (h.ownM.chg c (fun q hq => P.d23.symm.not_mem (by simp) hq) (fun x hx q hq => P.d23.symm.not_mem (by simp [hx]) hq)) (own_chg h.grey c fun q hq => P.d24.symm.not_mem (by simp) hq) h.nodup
theorem OwnW.putMuts (h : OwnW w base S D) (c : Chg (blks (S.vm :: S.mv)) w w') {L : List (List Int)} (r : OwnM w' base S.vm L S.mv) : OwnW w' base S { D with muts := L } := by
  have P := h.parts
  exact .mk' (own_chg h.words c fun q hq => P.d03.not_mem (by simp) hq) (own_chg h.dirty c fun q hq => P.d13.not_mem (by simp) hq)
    (h.ownS.chg c (fun q hq => P.d23.not_mem (by simp) hq) (fun x hx q hq => P.d23.not_mem (by simp [hx]) hq)) r (own_chg h.grey c fun q hq => P.d34.symm.not_mem (by simp) hq) h.nodup
theorem OwnW.putGrey (h : OwnW w base S D) (c : Chg (blks [S.vg]) w w') {L : List Int} (r : w'.ownsRow base 3 1 S.vg L.length (L.map (Value.int .i64))) : OwnW w' base S { D with grey := L } := by
  have P := h.parts
  exact .mk' (own_chg h.words c fun q hq => P.d04.not_mem (by simp) hq) (own_chg h.dirty c fun q hq => P.d14.not_mem (by simp) hq)
    (h.ownS.chg c (fun q hq => P.d24.not_mem (by simp) hq) (fun x hx q hq => P.d24.not_mem (by simp [hx]) hq)) (h.ownM.chg c (fun q hq => P.d34.not_mem (by simp) hq) (fun x hx q hq => P.d34.not_mem (by simp [hx]) hq)) r h.nodup
/-- Blocks that are none of its own turn. -/
theorem OwnW.chg (h : OwnW w base S D) {bs : List Nat} (c : Chg bs w w') (hn : ∀ k, k ∈ blks S.all → k ∉ bs) : OwnW w' base S D := by
  have hm : ∀ x, x ∈ S.all → ∀ q, x.ownBlock = some q → q ∉ bs := fun x hx q hq => hn q (List.mem_filterMap.2 ⟨x, hx, hq⟩)
  exact .mk' (own_chg h.words c (hm _ (by simp [Shape.all]))) (own_chg h.dirty c (hm _ (by simp [Shape.all]))) (h.ownS.chg c (hm _ (by simp [Shape.all])) (fun x hx => hm x (by simp [Shape.all, hx])))
    (h.ownM.chg c (hm _ (by simp [Shape.all])) (fun x hx => hm x (by simp [Shape.all, hx]))) (own_chg h.grey c (hm _ (by simp [Shape.all]))) h.nodup

theorem VarW.rd (h : VarW w base B S D) : RdW w (S.val D) D := h.own.rd
theorem VarW.boxW (h : VarW w base B S D) : BoxW w B (S.val D) := ⟨_, rfl, h.box⟩
theorem VarW.cell (h : VarW w base B S D) (j : Nat) (u : Value) (hu : (S.cells D)[j]? = some u) : w.cell? ⟨B, j, none⟩ = some u := cell_of_heap h.box j u hu
theorem VarW.frz (h : VarW w base B S D) (j : Nat) : w.frozen? ⟨B, j, none⟩ = false := frozen_of_heap h.box j
theorem VarW.lt (h : VarW w base B S D) : B < w.heap.size := (Array.getElem?_eq_some_iff.1 h.box).1
theorem VarW.below (h : VarW w base B S D) (hb : Below w.heap.size w w') : VarW w' base B S D := ⟨heap_below hb h.box, h.own.below hb, h.le, h.ne⟩
theorem VarW.drewN (h : VarW w base B S D) (n : Nat) : VarW (w.drewN n) base B S D := h.below (below_drewN (Below.refl _ _) n)
theorem VarW.drew (h : VarW w base B S D) : VarW w.drew base B S D := h.drewN 1
theorem VarW.keep (h : VarW w base B S D) {bs : List Nat} (c : Chg bs w w') (hn : ∀ k, k ∈ bs → k ∈ blks S.all) : w'.heap[B]? = some (.cells (S.cells D) 29 (0, 0)) :=
  (c.block B h.lt fun hm => h.ne (hn B hm)).trans h.box
theorem in_all {x : Value} (hx : x ∈ S.all) : ∀ k, k ∈ blks [x] → k ∈ blks S.all := fun k hk => by
  obtain ⟨y, hy, e⟩ := List.mem_filterMap.1 hk
  obtain rfl := List.mem_singleton.1 hy
  exact List.mem_filterMap.2 ⟨y, hx, e⟩
/-- What turned lies from base on. -/
theorem VarW.bel (h : VarW w base B S D) {bs : List Nat} (c : Chg bs w w') (hn : ∀ k, k ∈ bs → k ∈ blks S.all) : Below base w w' := by
  have hB := h.lt
  have hle := h.le
  exact Chg.below (Below.refl _ _) c (by omega) fun x hx => (h.own.lt x (hn x hx)).1
theorem VarW.putWords (h : VarW w base B S D) (c : Chg (blks [S.vw]) w w') {L : List Int} (r : w'.ownsRow base 3 1 S.vw L.length (L.map (Value.int .i64))) : VarW w' base B S { D with words := L } ∧ Below base w w' :=
  ⟨⟨h.keep c (in_all (by simp [Shape.all])), h.own.putWords c r, h.le, h.ne⟩, h.bel c (in_all (by simp [Shape.all]))⟩
theorem VarW.putDirty (h : VarW w base B S D) (c : Chg (blks [S.vd]) w w') {L : List Bool} (r : w'.ownsRow base 4 1 S.vd L.length (L.map Value.bool)) : VarW w' base B S { D with dirty := L } ∧ Below base w w' :=
  ⟨⟨h.keep c (in_all (by simp [Shape.all])), h.own.putDirty c r, h.le, h.ne⟩, h.bel c (in_all (by simp [Shape.all]))⟩
theorem VarW.putGrey (h : VarW w base B S D) (c : Chg (blks [S.vg]) w w') {L : List Int} (r : w'.ownsRow base 3 1 S.vg L.length (L.map (Value.int .i64))) : VarW w' base B S { D with grey := L } ∧ Below base w w' :=
  ⟨⟨h.keep c (in_all (by simp [Shape.all])), h.own.putGrey c r, h.le, h.ne⟩, h.bel c (in_all (by simp [Shape.all]))⟩
theorem spans_all : ∀ k, k ∈ blks (S.vs :: svInts S.sv) → k ∈ blks S.all := sub_all fun x hx => by
  simp only [Shape.all, List.mem_append, List.mem_cons] at hx ⊢
  rcases hx with hx | hx <;> simp [hx]
theorem muts_all : ∀ k, k ∈ blks (S.vm :: S.mv) → k ∈ blks S.all := sub_all fun x hx => by
  simp only [Shape.all, List.mem_append, List.mem_cons] at hx ⊢
  rcases hx with hx | hx <;> simp [hx]
theorem VarW.putSpans (h : VarW w base B S D) (c : Chg (blks (S.vs :: svInts S.sv)) w w') {L : List SpanD} (r : OwnS w' base S.vs L S.sv) : VarW w' base B S { D with spans := L } ∧ Below base w w' :=
  ⟨⟨h.keep c spans_all, h.own.putSpans c r, h.le, h.ne⟩, h.bel c spans_all⟩
theorem VarW.putMuts (h : VarW w base B S D) (c : Chg (blks (S.vm :: S.mv)) w w') {L : List (List Int)} (r : OwnM w' base S.vm L S.mv) : VarW w' base B S { D with muts := L } ∧ Below base w w' :=
  ⟨⟨h.keep c muts_all, h.own.putMuts c r, h.le, h.ne⟩, h.bel c muts_all⟩

/-! ### One cell is set -/
theorem VarW.word (h : VarW w base B S D) {g cap : Nat} (hg : S.vw = .slice (some ⟨g, 0, none⟩) D.words.length cap) (i : Nat) (x : Int) :
    VarW (w.setCell ⟨g, i, none⟩ (.int .i64 x)) base B S { D with words := D.words.set i x } ∧ Below base w (w.setCell ⟨g, i, none⟩ (.int .i64 x)) := by
  have hr := h.own.words
  rw [hg] at hr
  have hst := hr.stored i (.int .i64 x)
  refine h.putWords (L := D.words.set i x) (chg_one (x := S.vw) (by rw [hg]; exact hst.2)) ?_
  rw [List.length_set, hg, List.map_set]
  exact hst.1
theorem VarW.dirty (h : VarW w base B S D) {g cap : Nat} (hg : S.vd = .slice (some ⟨g, 0, none⟩) D.dirty.length cap) (i : Nat) (x : Bool) :
    VarW (w.setCell ⟨g, i, none⟩ (.bool x)) base B S { D with dirty := D.dirty.set i x } ∧ Below base w (w.setCell ⟨g, i, none⟩ (.bool x)) := by
  have hr := h.own.dirty
  rw [hg] at hr
  have hst := hr.stored i (.bool x)
  refine h.putDirty (L := D.dirty.set i x) (chg_one (x := S.vd) (by rw [hg]; exact hst.2)) ?_
  rw [List.length_set, hg, List.map_set]
  exact hst.1
theorem VarW.headD (h : VarW w base B S D) (hl : 0 < D.dirty.length) : ∃ g cap, S.vd = .slice (some ⟨g, 0, none⟩) D.dirty.length cap := by
  rcases h.own.dirty.2 with ⟨_, h0⟩ | ⟨g, cap, cur, e, _⟩
  · omega
  · exact ⟨g, cap, e⟩
theorem VarW.headW (h : VarW w base B S D) (hl : 0 < D.words.length) : ∃ g cap, S.vw = .slice (some ⟨g, 0, none⟩) D.words.length cap := by
  rcases h.own.words.2 with ⟨_, h0⟩ | ⟨g, cap, cur, e, _⟩
  · omega
  · exact ⟨g, cap, e⟩
theorem VarW.headS (h : VarW w base B S D) (hl : 0 < D.spans.length) : ∃ g cap, S.vs = .slice (some ⟨g, 0, none⟩) D.spans.length cap := by
  rcases h.own.spans.2 with ⟨_, h0⟩ | ⟨g, cap, cur, e, _⟩
  · omega
  · exact ⟨g, cap, e⟩
/-- One of the variable's own numbers is set. -/
theorem VarW.phase (h : VarW w base B S D) (x : Int) : VarW (w.setCell ⟨B, 6, none⟩ (.int .i64 x)) base B S { D with phase := x } ∧ Below base w (w.setCell ⟨B, 6, none⟩ (.int .i64 x)) := by
  have c := Chg.of_grown (grown_set w B 6 (.int .i64 x)) (bs := [B]) (by simp)
  refine ⟨⟨?_, ?_, h.le, h.ne⟩, (Below.refl _ _).setCell (p := ⟨B, 6, none⟩) h.le _⟩
  · have := heap_setCell_same w B 6 _ _ (.int .i64 x) h.box
    simpa [Shape.cells] using this
  · have k : OwnW _ base S D := h.own.chg c fun k hk hm => h.ne (by rw [List.mem_singleton.1 hm] at hk; exact hk)
    exact ⟨k.words, k.dirty, k.spans, k.svl, k.inner, k.muts, k.mvl, k.innerM, k.grey, k.nodup⟩
theorem VarW.next (h : VarW w base B S D) (x : Int) : VarW (w.setCell ⟨B, 7, none⟩ (.int .i64 x)) base B S { D with next := x } ∧ Below base w (w.setCell ⟨B, 7, none⟩ (.int .i64 x)) := by
  have c := Chg.of_grown (grown_set w B 7 (.int .i64 x)) (bs := [B]) (by simp)
  refine ⟨⟨?_, ?_, h.le, h.ne⟩, (Below.refl _ _).setCell (p := ⟨B, 7, none⟩) h.le _⟩
  · have := heap_setCell_same w B 7 _ _ (.int .i64 x) h.box
    simpa [Shape.cells] using this
  · have k : OwnW _ base S D := h.own.chg c fun k hk hm => h.ne (by rw [List.mem_singleton.1 hm] at hk; exact hk)
    exact ⟨k.words, k.dirty, k.spans, k.svl, k.inner, k.muts, k.mvl, k.innerM, k.grey, k.nodup⟩
end
end Go.Proofs.Ytnmgecplagekcaa

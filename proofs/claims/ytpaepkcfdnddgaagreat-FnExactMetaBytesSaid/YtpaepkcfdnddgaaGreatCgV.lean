import Derived.Test.YtpaepkcfdnddgaaGreatCgM
import Derived.Test.YtpaepkcfdnddgaaGreatCgF2
import Derived.Test.YtpaepkcfdnddgaaGreatCgW
import Derived.Test.YtpaepkcfdnddgaaGreatCgA
import Derived.Deep.DeepCutAuto
import Derived.Deep.CutRange
import Derived.Deep.OwnRows
import Derived.Outline
import Derived.Test.YtpaepkcfdnddgaaGreatCgF1
import Derived.Deep.RegionLaw
import Derived.Laws.CopyOwn

namespace Go.Proofs.YtpaepkcfdnddgaaGreat
open Go.RowKit
set_option linter.unusedVariables false

def Shape.cells (S : Shape) (D : WD) : Array Value := #[.int .i64 D.base, .int .i64 D.pages, S.vw, S.vd, S.vs, S.vm, .int .i64 D.phase, .int .i64 D.next, S.vg]
structure VarW (w : World) (base B : Nat) (S : Shape) (D : WD) : Prop where
  box : w.heap[B]? = some (.cells (S.cells D) 36 (0, 0))
  own : OwnW w base S D
  le : base ≤ B
  ne : B ∉ blks S.all

section
variable {w w' : World} {base B : Nat} {S : Shape} {D : WD}
theorem OwnW.mk' (h1 : w.ownsRow base 3 1 S.vw D.words.length (D.words.map (Value.int .i64))) (h2 : w.ownsRow base 4 1 S.vd D.dirty.length (D.dirty.map Value.bool)) (h3 : OwnS w base S.vs D.spans S.sv) (h4 : OwnM w base S.vm D.muts S.mv)
    (h5 : w.ownsRow base 3 1 S.vg D.grey.length (D.grey.map (Value.int .i64))) (h6 : (S.ints.filterMap Value.ownBlock).Nodup) : OwnW w base S D :=
  ⟨h1, h2, h3.row, h3.len, h3.inner, h4.row, h4.len, h4.inner, h5, h6⟩
theorem OwnW.putWords (h : OwnW w base S D) (c : Chg (blks [S.vw]) w w') {L : List Int} (r : w'.ownsRow base 3 1 S.vw L.length (L.map (Value.int .i64))) : OwnW w' base S { D with words := L } := by
  have P := h.parts
  exact .mk' r (own_chg h.dirty c fun q hq => P.d01.symm.not_mem (by simp) hq) (h.ownS.chg c (fun q hq => P.d02.symm.not_mem (by simp) hq) (fun x hx q hq => P.d02.symm.not_mem (by simp [hx]) hq))
    (h.ownM.chg c (fun q hq => P.d03.symm.not_mem (by simp) hq) (fun x hx q hq => P.d03.symm.not_mem (by simp [hx]) hq)) (own_chg h.grey c fun q hq => P.d04.symm.not_mem (by simp) hq) h.nodup
theorem OwnW.putDirty (h : OwnW w base S D) (c : Chg (blks [S.vd]) w w') {L : List Bool} (r : w'.ownsRow base 4 1 S.vd L.length (L.map Value.bool)) : OwnW w' base S { D with dirty := L } := by
  have P := h.parts
  exact .mk' (own_chg h.words c fun q hq => P.d01.not_mem (by simp) hq) r (h.ownS.chg c (fun q hq => P.d12.symm.not_mem (by simp) hq) (fun x hx q hq => P.d12.symm.not_mem (by simp [hx]) hq))
    (h.ownM.chg c (fun q hq => P.d13.symm.not_mem (by simp) hq) (fun x hx q hq => P.d13.symm.not_mem (by simp [hx]) hq)) (own_chg h.grey c fun q hq => P.d14.symm.not_mem (by simp) hq) h.nodup
theorem OwnW.putSpans (h : OwnW w base S D) (c : Chg (blks (S.vs :: svInts S.sv)) w w') {L : List SpanD} (r : OwnS w' base S.vs L S.sv) : OwnW w' base S { D with spans := L } := by
  have P := h.parts
  exact .mk' (own_chg h.words c fun q hq => P.d02.not_mem (by simp) hq) (own_chg h.dirty c fun q hq => P.d12.not_mem (by simp) hq) r
    (h.ownM.chg c (fun q hq => P.d23.symm.not_mem (by simp) hq) (fun x hx q hq => P.d23.symm.not_mem (by simp [hx]) hq)) (own_chg h.grey c fun q hq => P.d24.symm.not_mem (by simp) hq) h.nodup
theorem OwnW.putMuts (h : OwnW w base S D) (c : Chg (blks (S.vm :: S.mv)) w w') {L : List (List Int)} (r : OwnM w' base S.vm L S.mv) : OwnW w' base S { D with muts := L } := by
  have P := h.parts
  exact .mk' (own_chg h.words c fun q hq => P.d03.not_mem (by simp) hq) (own_chg h.dirty c fun q hq => P.d13.not_mem (by simp) hq)
    (h.ownS.chg c (fun q hq => P.d23.not_mem (by simp) hq) (fun x hx q hq => P.d23.not_mem (by simp [hx]) hq)) r (own_chg h.grey c fun q hq => P.d34.symm.not_mem (by simp) hq) h.nodup
theorem OwnW.putGrey (h : OwnW w base S D) (c : Chg (blks [S.vg]) w w') {L : List Int} (r : w'.ownsRow base 3 1 S.vg L.length (L.map (Value.int .i64))) : OwnW w' base S { D with grey := L } := by
  have P := h.parts
  exact .mk' (own_chg h.words c fun q hq => P.d04.not_mem (by simp) hq) (own_chg h.dirty c fun q hq => P.d14.not_mem (by simp) hq)
    (h.ownS.chg c (fun q hq => P.d24.not_mem (by simp) hq) (fun x hx q hq => P.d24.not_mem (by simp [hx]) hq)) (h.ownM.chg c (fun q hq => P.d34.not_mem (by simp) hq) (fun x hx q hq => P.d34.not_mem (by simp [hx]) hq)) r h.nodup
/-- Blocks that are none of its own turn. -/
theorem OwnW.chg (h : OwnW w base S D) {bs : List Nat} (c : Chg bs w w') (hn : ∀ k, k ∈ blks S.all → k ∉ bs) : OwnW w' base S D := by
  have hm : ∀ x, x ∈ S.all → ∀ q, x.ownBlock = some q → q ∉ bs := fun x hx q hq => hn q (List.mem_filterMap.2 ⟨x, hx, hq⟩)
  exact .mk' (own_chg h.words c (hm _ (by simp [Shape.all]))) (own_chg h.dirty c (hm _ (by simp [Shape.all]))) (h.ownS.chg c (hm _ (by simp [Shape.all])) (fun x hx => hm x (by simp [Shape.all, hx])))
    (h.ownM.chg c (hm _ (by simp [Shape.all])) (fun x hx => hm x (by simp [Shape.all, hx]))) (own_chg h.grey c (hm _ (by simp [Shape.all]))) h.nodup

theorem VarW.rd (h : VarW w base B S D) : RdW w (S.val D) D := h.own.rd
theorem VarW.boxW (h : VarW w base B S D) : BoxW w B (S.val D) := ⟨_, rfl, h.box⟩
theorem VarW.cell (h : VarW w base B S D) (j : Nat) (u : Value) (hu : (S.cells D)[j]? = some u) : w.cell? ⟨B, j, none⟩ = some u := cell_of_heap h.box j u hu
theorem VarW.frz (h : VarW w base B S D) (j : Nat) : w.frozen? ⟨B, j, none⟩ = false := frozen_of_heap h.box j
theorem VarW.lt (h : VarW w base B S D) : B < w.heap.size := (Array.getElem?_eq_some_iff.1 h.box).1
theorem VarW.below (h : VarW w base B S D) (hb : Below w.heap.size w w') : VarW w' base B S D := ⟨heap_below hb h.box, h.own.below hb, h.le, h.ne⟩
theorem VarW.drewN (h : VarW w base B S D) (n : Nat) : VarW (w.drewN n) base B S D := h.below (below_drewN (Below.refl _ _) n)
theorem VarW.drew (h : VarW w base B S D) : VarW w.drew base B S D := h.drewN 1
theorem VarW.keep (h : VarW w base B S D) {bs : List Nat} (c : Chg bs w w') (hn : ∀ k, k ∈ bs → k ∈ blks S.all) : w'.heap[B]? = some (.cells (S.cells D) 36 (0, 0)) :=
  (c.block B h.lt fun hm => h.ne (hn B hm)).trans h.box
theorem in_all {x : Value} (hx : x ∈ S.all) : ∀ k, k ∈ blks [x] → k ∈ blks S.all := fun k hk => by
  obtain ⟨y, hy, e⟩ := List.mem_filterMap.1 hk
  obtain rfl := List.mem_singleton.1 hy
  exact List.mem_filterMap.2 ⟨y, hx, e⟩
/-- What turned lies from base on. -/
theorem VarW.bel (h : VarW w base B S D) {bs : List Nat} (c : Chg bs w w') (hn : ∀ k, k ∈ bs → k ∈ blks S.all) : Below base w w' := by
  have hB := h.lt
  have hle := h.le
  exact Chg.below (Below.refl _ _) c (by omega) fun x hx => (h.own.lt x (hn x hx)).1
theorem VarW.putWords (h : VarW w base B S D) (c : Chg (blks [S.vw]) w w') {L : List Int} (r : w'.ownsRow base 3 1 S.vw L.length (L.map (Value.int .i64))) : VarW w' base B S { D with words := L } ∧ Below base w w' :=
  ⟨⟨h.keep c (in_all (by simp [Shape.all])), h.own.putWords c r, h.le, h.ne⟩, h.bel c (in_all (by simp [Shape.all]))⟩
theorem VarW.putDirty (h : VarW w base B S D) (c : Chg (blks [S.vd]) w w') {L : List Bool} (r : w'.ownsRow base 4 1 S.vd L.length (L.map Value.bool)) : VarW w' base B S { D with dirty := L } ∧ Below base w w' :=
  ⟨⟨h.keep c (in_all (by simp [Shape.all])), h.own.putDirty c r, h.le, h.ne⟩, h.bel c (in_all (by simp [Shape.all]))⟩
theorem VarW.putGrey (h : VarW w base B S D) (c : Chg (blks [S.vg]) w w') {L : List Int} (r : w'.ownsRow base 3 1 S.vg L.length (L.map (Value.int .i64))) : VarW w' base B S { D with grey := L } ∧ Below base w w' :=
  ⟨⟨h.keep c (in_all (by simp [Shape.all])), h.own.putGrey c r, h.le, h.ne⟩, h.bel c (in_all (by simp [Shape.all]))⟩
theorem spans_all : ∀ k, k ∈ blks (S.vs :: svInts S.sv) → k ∈ blks S.all := sub_all fun x hx => by
  simp only [Shape.all, List.mem_append, List.mem_cons] at hx ⊢
  rcases hx with hx | hx <;> simp [hx]
theorem muts_all : ∀ k, k ∈ blks (S.vm :: S.mv) → k ∈ blks S.all := sub_all fun x hx => by
  simp only [Shape.all, List.mem_append, List.mem_cons] at hx ⊢
  rcases hx with hx | hx <;> simp [hx]
theorem VarW.putSpans (h : VarW w base B S D) (c : Chg (blks (S.vs :: svInts S.sv)) w w') {L : List SpanD} (r : OwnS w' base S.vs L S.sv) : VarW w' base B S { D with spans := L } ∧ Below base w w' :=
  ⟨⟨h.keep c spans_all, h.own.putSpans c r, h.le, h.ne⟩, h.bel c spans_all⟩
theorem VarW.putMuts (h : VarW w base B S D) (c : Chg (blks (S.vm :: S.mv)) w w') {L : List (List Int)} (r : OwnM w' base S.vm L S.mv) : VarW w' base B S { D with muts := L } ∧ Below base w w' :=
  ⟨⟨h.keep c muts_all, h.own.putMuts c r, h.le, h.ne⟩, h.bel c muts_all⟩

/-! ### One cell is set -/
theorem VarW.word (h : VarW w base B S D) {g cap : Nat} (hg : S.vw = .slice (some ⟨g, 0, none⟩) D.words.length cap) (i : Nat) (x : Int) :
    VarW (w.setCell ⟨g, i, none⟩ (.int .i64 x)) base B S { D with words := D.words.set i x } ∧ Below base w (w.setCell ⟨g, i, none⟩ (.int .i64 x)) := by
  have hr := h.own.words
  rw [hg] at hr
  have hst := hr.stored i (.int .i64 x)
  refine h.putWords (L := D.words.set i x) (chg_one (x := S.vw) (by rw [hg]; exact hst.2)) ?_
  rw [List.length_set, hg, List.map_set]
  exact hst.1
theorem VarW.dirty (h : VarW w base B S D) {g cap : Nat} (hg : S.vd = .slice (some ⟨g, 0, none⟩) D.dirty.length cap) (i : Nat) (x : Bool) :
    VarW (w.setCell ⟨g, i, none⟩ (.bool x)) base B S { D with dirty := D.dirty.set i x } ∧ Below base w (w.setCell ⟨g, i, none⟩ (.bool x)) := by
  have hr := h.own.dirty
  rw [hg] at hr
  have hst := hr.stored i (.bool x)
  refine h.putDirty (L := D.dirty.set i x) (chg_one (x := S.vd) (by rw [hg]; exact hst.2)) ?_
  rw [List.length_set, hg, List.map_set]
  exact hst.1
theorem VarW.headD (h : VarW w base B S D) (hl : 0 < D.dirty.length) : ∃ g cap, S.vd = .slice (some ⟨g, 0, none⟩) D.dirty.length cap := by
  rcases h.own.dirty.2 with ⟨_, h0⟩ | ⟨g, cap, cur, e, _⟩
  · omega
  · exact ⟨g, cap, e⟩
theorem VarW.headW (h : VarW w base B S D) (hl : 0 < D.words.length) : ∃ g cap, S.vw = .slice (some ⟨g, 0, none⟩) D.words.length cap := by
  rcases h.own.words.2 with ⟨_, h0⟩ | ⟨g, cap, cur, e, _⟩
  · omega
  · exact ⟨g, cap, e⟩
theorem VarW.headS (h : VarW w base B S D) (hl : 0 < D.spans.length) : ∃ g cap, S.vs = .slice (some ⟨g, 0, none⟩) D.spans.length cap := by
  rcases h.own.spans.2 with ⟨_, h0⟩ | ⟨g, cap, cur, e, _⟩
  · omega
  · exact ⟨g, cap, e⟩
/-- One of the variable's own numbers is set. -/
theorem VarW.phase (h : VarW w base B S D) (x : Int) : VarW (w.setCell ⟨B, 6, none⟩ (.int .i64 x)) base B S { D with phase := x } ∧ Below base w (w.setCell ⟨B, 6, none⟩ (.int .i64 x)) := by
  have c := Chg.of_grown (grown_set w B 6 (.int .i64 x)) (bs := [B]) (by simp)
  refine ⟨⟨?_, ?_, h.le, h.ne⟩, (Below.refl _ _).setCell (p := ⟨B, 6, none⟩) h.le _⟩
  · have := heap_setCell_same w B 6 _ _ (.int .i64 x) h.box
    simpa [Shape.cells] using this
  · have k : OwnW _ base S D := h.own.chg c fun k hk hm => h.ne (by rw [List.mem_singleton.1 hm] at hk; exact hk)
    exact ⟨k.words, k.dirty, k.spans, k.svl, k.inner, k.muts, k.mvl, k.innerM, k.grey, k.nodup⟩
theorem VarW.next (h : VarW w base B S D) (x : Int) : VarW (w.setCell ⟨B, 7, none⟩ (.int .i64 x)) base B S { D with next := x } ∧ Below base w (w.setCell ⟨B, 7, none⟩ (.int .i64 x)) := by
  have c := Chg.of_grown (grown_set w B 7 (.int .i64 x)) (bs := [B]) (by simp)
  refine ⟨⟨?_, ?_, h.le, h.ne⟩, (Below.refl _ _).setCell (p := ⟨B, 7, none⟩) h.le _⟩
  · have := heap_setCell_same w B 7 _ _ (.int .i64 x) h.box
    simpa [Shape.cells] using this
  · have k : OwnW _ base S D := h.own.chg c fun k hk hm => h.ne (by rw [List.mem_singleton.1 hm] at hk; exact hk)
    exact ⟨k.words, k.dirty, k.spans, k.svl, k.inner, k.muts, k.mvl, k.innerM, k.grey, k.nodup⟩
end
end Go.Proofs.YtpaepkcfdnddgaaGreat

namespace Go.Proofs.YtpaepkcfdnddgaaGreat
open Go.RowKit
set_option linter.unusedVariables false

/-- The first k cards of the words from f on are dirty. -/
def dirtyK (L : List Bool) (f : Int) : Nat → List Bool
  | 0 => L
  | k + 1 => (dirtyK L f k).set (f / 8 + (k : Int)).toNat true
def dirtyUp (L : List Bool) (f m : Int) : List Bool := dirtyK L f (cnt f m)
theorem dirtyK_len (L : List Bool) (f : Int) (k : Nat) : (dirtyK L f k).length = L.length := by
  induction k with
  | zero => rfl
  | succ k ih => unfold dirtyK; rw [List.length_set, ih]
theorem dirtyUp_len (L : List Bool) (f m : Int) : (dirtyUp L f m).length = L.length := dirtyK_len _ _ _
theorem upto_at (f : Int) (n k : Nat) (h : k < n) : (upto f n)[k]?.getD 0 = f / 8 + (k : Int) := by simp [upto, h]

end Go.Proofs.YtpaepkcfdnddgaaGreat

namespace Go.Proofs.YtpaepkcfdnddgaaGreat
open Go.RowKit
set_option linter.unusedVariables false

theorem flatV_set1 (L : List SpanD) (sv : List (Value × Value)) (i j : Nat) (s s' : SpanD) (p : Value × Value) (u : Value) (h1 : L[i]? = some s) (h2 : sv[i]? = some p) (hj : j < 6) (he : (spanCv s p).set j u = spanCv s' p) :
    (flatV L sv).set (i * 6 + j) u = flatV (L.set i s') sv := by
  induction i generalizing L sv with
  | zero =>
    cases L with
    | nil => simp at h1
    | cons a L =>
      cases sv with
      | nil => simp at h2
      | cons q sv =>
        simp at h1 h2
        subst h1; subst h2
        simp only [flatV, List.zip_cons_cons, List.flatMap_cons, List.set_cons_zero]
        rw [List.set_append_left _ _ (by simp [spanCv]; omega), Nat.zero_mul, Nat.zero_add, he]
  | succ i ih =>
    cases L with
    | nil => simp at h1
    | cons a L =>
      cases sv with
      | nil => simp at h2
      | cons q sv =>
        simp at h1 h2
        have := ih L sv h1 h2
        simp only [flatV, List.zip_cons_cons, List.flatMap_cons, List.set_cons_succ] at this ⊢
        rw [← this, List.set_append_right _ _ (by simp [spanCv]; omega)]
        rw [show (i + 1) * 6 + j - (spanCv a q).length = i * 6 + j by simp [spanCv]; omega]

section
variable {w w' : World} {base B : Nat} {S : Shape} {D : WD}
/-- One of a span's own cells is set. -/
theorem OwnS.head1 {v : Value} {L : List SpanD} {sv : List (Value × Value)} {g cap : Nat} (h : OwnS w base (.slice (some ⟨g, 0, none⟩) L.length cap) L sv) (i j : Nat) (s s' : SpanD) (p : Value × Value) (u : Value) (hs : L[i]? = some s) (hp : sv[i]? = some p) (hj : j < 4)
    (he : (spanCv s p).set j u = spanCv s' p) (el : s'.lens = s.lens) (ep : s'.ptrs = s.ptrs) :
    OwnS (w.setCell ⟨g, i * 6 + j, none⟩ u) base (.slice (some ⟨g, 0, none⟩) L.length cap) (L.set i s') sv ∧ Chg [g] w (w.setCell ⟨g, i * 6 + j, none⟩ u) := by
  have c := Chg.of_grown (grown_set w g (i * 6 + j) u) (bs := [g]) (by simp)
  refine ⟨⟨?_, by rw [List.length_set]; exact h.len, fun q t r ht hq => ?_⟩, c⟩
  · have hst := h.row.stored (i * 6 + j) u
    rw [flatV_set1 L sv i j s s' p u hs hp (by omega) he] at hst
    rw [List.length_set]
    exact hst.1
  · have hlt := (List.getElem?_eq_some_iff.1 hs).1
    have key : ∃ t0, L[q]? = some t0 ∧ t.lens = t0.lens ∧ t.ptrs = t0.ptrs := by
      by_cases e : q = i
      · subst e
        simp [hlt] at ht
        subst ht
        exact ⟨s, hs, el, ep⟩
      · rw [List.getElem?_set_ne (fun h => e h.symm)] at ht
        exact ⟨t, ht, rfl, rfl⟩
    obtain ⟨t0, h0, e1, e2⟩ := key
    rw [e1, e2]
    have hi := h.inner q t0 r h0 hq
    have ne : ∀ {size m : Nat} {x : Value} {xs : List Value}, w.ownsRow base 3 size x m xs → ∀ k, x.ownBlock = some k → k ∉ [g] := fun hx k hk => by
      have := own_types hx h.row (by decide) k hk
      simp only [List.mem_singleton]
      intro e
      subst e
      exact this rfl
    exact ⟨own_chg hi.1 c (ne hi.1), own_chg hi.2 c (ne hi.2)⟩
theorem VarW.head (h : VarW w base B S D) {g cap : Nat} (hg : S.vs = .slice (some ⟨g, 0, none⟩) D.spans.length cap) (i j : Nat) (s s' : SpanD) (p : Value × Value) (u : Value) (hs : D.spans[i]? = some s) (hp : S.sv[i]? = some p) (hj : j < 4)
    (he : (spanCv s p).set j u = spanCv s' p) (el : s'.lens = s.lens) (ep : s'.ptrs = s.ptrs) :
    VarW (w.setCell ⟨g, i * 6 + j, none⟩ u) base B S { D with spans := D.spans.set i s' } ∧ Below base w (w.setCell ⟨g, i * 6 + j, none⟩ u) := by
  have ho := h.own.ownS
  rw [hg] at ho
  have hst := ho.head1 (v := S.vs) i j s s' p u hs hp hj he el ep
  refine h.putSpans (L := D.spans.set i s') (hst.2.mono fun x hx => ?_) (by rw [hg]; exact hst.1)
  rw [List.mem_singleton.1 hx]
  exact List.mem_filterMap.2 ⟨S.vs, by simp, by rw [hg]; rfl⟩
theorem VarW.mark (h : VarW w base B S D) {g cap : Nat} (hg : S.vs = .slice (some ⟨g, 0, none⟩) D.spans.length cap) (i : Nat) (s : SpanD) (p : Value × Value) (m : Int) (hs : D.spans[i]? = some s) (hp : S.sv[i]? = some p) :
    VarW (w.setCell ⟨g, i * 6 + 2, none⟩ (.int .i64 m)) base B S { D with spans := D.spans.set i { s with mark := m } } ∧ Below base w (w.setCell ⟨g, i * 6 + 2, none⟩ (.int .i64 m)) :=
  h.head hg i 2 s _ p _ hs hp (by omega) rfl rfl rfl
theorem VarW.swept (h : VarW w base B S D) {g cap : Nat} (hg : S.vs = .slice (some ⟨g, 0, none⟩) D.spans.length cap) (i : Nat) (s : SpanD) (p : Value × Value) (m : Bool) (hs : D.spans[i]? = some s) (hp : S.sv[i]? = some p) :
    VarW (w.setCell ⟨g, i * 6 + 3, none⟩ (.bool m)) base B S { D with spans := D.spans.set i { s with swept := m } } ∧ Below base w (w.setCell ⟨g, i * 6 + 3, none⟩ (.bool m)) :=
  h.head hg i 3 s _ p _ hs hp (by omega) rfl rfl rfl
theorem VarW.svAt (h : VarW w base B S D) {i : Nat} {s : SpanD} (hs : D.spans[i]? = some s) : ∃ p, S.sv[i]? = some p :=
  ⟨_, List.getElem?_eq_getElem (by have := h.own.svl; have := (List.getElem?_eq_some_iff.1 hs).1; omega)⟩
theorem chg_x {x : Value} {g cap n i : Nat} {u : Value} (hx : x = .slice (some ⟨g, 0, none⟩) n cap) : w.grownBy (w.setCell ⟨g, i, none⟩ u) x.ownBlock := by
  rw [hx]
  exact grown_set w g i u
theorem VarW.lens (h : VarW w base B S D) {g cap : Nat} (k i : Nat) (s : SpanD) (p : Value × Value) (x : Int) (hs : D.spans[k]? = some s) (hp : S.sv[k]? = some p) (hg : p.1 = .slice (some ⟨g, 0, none⟩) s.lens.length cap) :
    VarW (w.setCell ⟨g, i, none⟩ (.int .i64 x)) base B S { D with spans := D.spans.set k { s with lens := s.lens.set i x } } ∧ Below base w (w.setCell ⟨g, i, none⟩ (.int .i64 x)) := by
  have ho := h.own.ownS
  have hi := (ho.inner k s p hs hp).1
  rw [hg] at hi
  have hst := hi.stored i (.int .i64 x)
  have hr := ho.lists h.own.parts.sv k s { s with lens := s.lens.set i x } p hs hp rfl rfl rfl rfl p.1 (.inl rfl) (chg_x hg) (.inl ⟨rfl, rfl, by rw [hg, List.length_set, List.map_set]; exact hst.1⟩)
  refine h.putSpans (L := D.spans.set k _) (Chg.of_grown (chg_x (u := .int .i64 x) (i := i) hg) fun y hy => ?_) hr
  exact List.mem_filterMap.2 ⟨p.1, List.mem_cons_of_mem _ (List.mem_flatMap.2 ⟨p, List.mem_of_getElem? hp, by simp⟩), hy⟩
theorem VarW.ptrs (h : VarW w base B S D) {g cap : Nat} (k i : Nat) (s : SpanD) (p : Value × Value) (x : Int) (hs : D.spans[k]? = some s) (hp : S.sv[k]? = some p) (hg : p.2 = .slice (some ⟨g, 0, none⟩) s.ptrs.length cap) :
    VarW (w.setCell ⟨g, i, none⟩ (.int .i64 x)) base B S { D with spans := D.spans.set k { s with ptrs := s.ptrs.set i x } } ∧ Below base w (w.setCell ⟨g, i, none⟩ (.int .i64 x)) := by
  have ho := h.own.ownS
  have hi := (ho.inner k s p hs hp).2
  rw [hg] at hi
  have hst := hi.stored i (.int .i64 x)
  have hr := ho.lists h.own.parts.sv k s { s with ptrs := s.ptrs.set i x } p hs hp rfl rfl rfl rfl p.2 (.inr rfl) (chg_x hg) (.inr ⟨rfl, rfl, by rw [hg, List.length_set, List.map_set]; exact hst.1⟩)
  refine h.putSpans (L := D.spans.set k _) (Chg.of_grown (chg_x (u := .int .i64 x) (i := i) hg) fun y hy => ?_) hr
  exact List.mem_filterMap.2 ⟨p.2, List.mem_cons_of_mem _ (List.mem_flatMap.2 ⟨p, List.mem_of_getElem? hp, by simp⟩), hy⟩
theorem head_of {v : Value} {L : List Int} (h : w.ownsRow base 3 1 v L.length (L.map (Value.int .i64))) (hl : 0 < L.length) : ∃ g cap, v = .slice (some ⟨g, 0, none⟩) L.length cap := by
  rcases h.2 with ⟨_, h0⟩ | ⟨g, cap, cur, e, _⟩
  · omega
  · exact ⟨g, cap, e⟩
/-- A user's root is set. -/
theorem VarW.root (h : VarW w base B S D) {g cap : Nat} (m i : Nat) (r : List Int) (u : Value) (x : Int) (hs : D.muts[m]? = some r) (hp : S.mv[m]? = some u) (hg : u = .slice (some ⟨g, 0, none⟩) r.length cap) :
    VarW (w.setCell ⟨g, i, none⟩ (.int .i64 x)) base B S { D with muts := D.muts.set m (r.set i x) } ∧ Below base w (w.setCell ⟨g, i, none⟩ (.int .i64 x)) := by
  have ho := h.own.ownM
  have hi := ho.inner m r u hs hp
  rw [hg] at hi
  have hst := hi.stored i (.int .i64 x)
  have hr := ho.list h.own.parts.mv m r (r.set i x) u hs hp (chg_x hg) (by rw [hg, List.length_set, List.map_set]; exact hst.1)
  refine h.putMuts (L := D.muts.set m _) (Chg.of_grown (chg_x (u := .int .i64 x) (i := i) hg) fun y hy => ?_) hr
  exact List.mem_filterMap.2 ⟨u, List.mem_cons_of_mem _ (List.mem_of_getElem? hp), hy⟩

/-- Blocks of a span's lists, of the spans, of the variable: no two are one. -/
theorem VarW.nes (h : VarW w base B S D) {gs cs gl cl gp cp : Nat} {k : Nat} {s : SpanD} {p : Value × Value} (hg : S.vs = .slice (some ⟨gs, 0, none⟩) D.spans.length cs) (hs : D.spans[k]? = some s) (hp : S.sv[k]? = some p)
    (h1 : p.1 = .slice (some ⟨gl, 0, none⟩) s.lens.length cl) (h2 : p.2 = .slice (some ⟨gp, 0, none⟩) s.ptrs.length cp) : gl ≠ gs ∧ gp ≠ gs ∧ gl ≠ gp ∧ B ≠ gs ∧ B ≠ gl ∧ B ≠ gp := by
  have hi := h.own.inner k s p hs hp
  have hr := h.own.spans
  rw [hg] at hr
  rw [h1, h2] at hi
  have hm := List.mem_of_getElem? hp
  have n1 : gl ≠ gs := fun e => own_types hi.1 hr (by decide) gl rfl (by rw [e]; rfl)
  have n2 : gp ≠ gs := fun e => own_types hi.2 hr (by decide) gp rfl (by rw [e]; rfl)
  have n3 : gl ≠ gp := by
    obtain ⟨A, C, hab, _⟩ := svInts_at S.sv k p hp
    have ha := h.own.parts.sv
    rw [hab] at ha
    intro e
    exact ((apart_at ha (k := gl)).1 (by rw [h1]; rfl)).1 (by rw [h2, e]; rfl)
  have inS : ∀ x, x ∈ S.all → ∀ q, x.ownBlock = some q → B ≠ q := fun x hx q hq e => h.ne (by rw [e]; exact List.mem_filterMap.2 ⟨x, hx, hq⟩)
  have mS : ∀ x, x = p.1 ∨ x = p.2 → x ∈ S.all := fun x hx => by
    have : x ∈ svInts S.sv := List.mem_flatMap.2 ⟨p, hm, by rcases hx with rfl | rfl <;> simp⟩
    simp [Shape.all, this]
  exact ⟨n1, n2, n3, inS S.vs (by simp [Shape.all]) gs (by rw [hg]; rfl), inS p.1 (mS _ (.inl rfl)) gl (by rw [h1]; rfl), inS p.2 (mS _ (.inr rfl)) gp (by rw [h2]; rfl)⟩

/-- The cells that a walk reads of span k. -/
theorem VarW.spanAt (h : VarW w base B S D) {g cap : Nat} (hg : S.vs = .slice (some ⟨g, 0, none⟩) D.spans.length cap) {k : Nat} {s : SpanD} {p : Value × Value} (hs : D.spans[k]? = some s) (hp : S.sv[k]? = some p) (j : Nat) (hj : j < 6) :
    w.cell? ⟨g, k * 6 + j, none⟩ = (spanCv s p)[j]? := by
  have ho := h.own.ownS
  rw [hg] at ho
  exact ho.cellOf k s p hs hp j hj
theorem VarW.six (h : VarW w base B S D) {g cap : Nat} (hg : S.vs = .slice (some ⟨g, 0, none⟩) D.spans.length cap) {k : Nat} {s : SpanD} {p : Value × Value} (hs : D.spans[k]? = some s) (hp : S.sv[k]? = some p) :
    w.cell? ⟨g, k * 6, none⟩ = some (.int .i64 s.page) ∧ w.cell? ⟨g, k * 6 + 1, none⟩ = some (.int .i64 s.cls) ∧ w.cell? ⟨g, k * 6 + 2, none⟩ = some (.int .i64 s.mark) ∧ w.cell? ⟨g, k * 6 + 3, none⟩ = some (.bool s.swept) ∧ w.cell? ⟨g, k * 6 + 4, none⟩ = some p.1 ∧ w.cell? ⟨g, k * 6 + 5, none⟩ = some p.2 :=
  ⟨h.spanAt hg hs hp 0 (by omega), h.spanAt hg hs hp 1 (by omega), h.spanAt hg hs hp 2 (by omega), h.spanAt hg hs hp 3 (by omega), h.spanAt hg hs hp 4 (by omega), h.spanAt hg hs hp 5 (by omega)⟩
theorem VarW.frzS (h : VarW w base B S D) {g cap : Nat} (hg : S.vs = .slice (some ⟨g, 0, none⟩) D.spans.length cap) (j : Nat) : w.frozen? ⟨g, j, none⟩ = false := by
  have ho := h.own.ownS
  rw [hg] at ho
  exact ho.frz j
theorem ints_cell {v : Value} {L : List Int} {g cap : Nat} (h : w.ownsRow base 3 1 v L.length (L.map (Value.int .i64))) (hv : v = .slice (some ⟨g, 0, none⟩) L.length cap) (i : Nat) (hi : i < L.length) :
    w.cell? ⟨g, i, none⟩ = some (.int .i64 (L[i]?.getD 0)) ∧ w.frozen? ⟨g, i, none⟩ = false := by
  subst hv
  refine ⟨?_, h.frozenAt i⟩
  rw [h.cellAt i (by omega)]
  simp [hi]
end
end Go.Proofs.YtpaepkcfdnddgaaGreat

namespace Go.Proofs.YtpaepkcfdnddgaaGreat
open Go.RowKit
set_option linter.unusedVariables false

theorem wrap_pow {i : Nat} (h1 : i ≤ 16) : wrap64 ((2 : Int) ^ i) = 2 ^ i := by
  have hp := pow16 h1
  have e : ((2 : Int) ^ i) = ((2 ^ i : Nat) : Int) := (Int.natCast_pow 2 i).symm
  rw [e]
  generalize 2 ^ i = p at hp ⊢
  exact IntWalk.wrap64_in _ (by omega)
/-- n words from A on are 0. -/
def zeroK (L : List Int) (A : Nat) : Nat → List Int
  | 0 => L
  | n + 1 => (zeroK L A n).set (A + n) 0
theorem zeroK_len (L : List Int) (A n : Nat) : (zeroK L A n).length = L.length := by
  induction n with
  | zero => rfl
  | succ n ih => unfold zeroK; rw [List.length_set, ih]
def giveS (s : SpanD) (j : Nat) : SpanD := { s with lens := s.lens.set j 0, ptrs := s.ptrs.set j 0, mark := bits .andNot .i64 s.mark (2 ^ j) }
def giveD (D : WD) (k : Nat) (s : SpanD) (j : Nat) : WD :=
  { D with words := zeroK D.words (atW s (j : Int)).toNat (sz s.cls).toNat, dirty := dirtyUp D.dirty (atW s (j : Int)) (sz s.cls), spans := D.spans.set k (giveS s j) }
/-- What a slot's words need. -/
structure SlotIn (D : WD) (s : SpanD) (j : Nat) : Prop where
  cls : sl' s.cls ≠ 0
  lens : (s.lens.length : Int) = sl' s.cls
  ptrs : (s.ptrs.length : Int) = sl' s.cls
  j : j < s.lens.length
  pg0 : 0 ≤ s.page
  pg1 : s.page < D.pages
  words : (D.words.length : Int) = D.pages * 32
  dirty : (D.dirty.length : Int) = D.pages * 4
  pg : D.pages ≤ 12
theorem SlotIn.bd {D : WD} {s : SpanD} {j : Nat} (h : SlotIn D s j) : 0 ≤ atW s (j : Int) ∧ atW s (j : Int) + sz s.cls ≤ D.pages * 32 ∧ 2 ≤ sz s.cls ∧ sz s.cls ≤ 16 ∧ (j : Int) ≤ 15 ∧ atW s (j : Int) ≤ 1000 := by
  have h1 := h.lens
  have h2 := h.j
  have h3 := slot_in (c := s.cls) (i := (j : Int)) (t := sz s.cls - 1) (by omega) (by omega) (by have := sz_pos h.cls; omega) (by omega)
  have h4 := sz_pos h.cls
  have h5 := sz_bd s.cls
  have h6 := sl_bd s.cls
  have h7 := h.pg0
  have h8 := h.pg1
  have h9 := h.pg
  unfold atW
  omega

end Go.Proofs.YtpaepkcfdnddgaaGreat

namespace Go.Proofs.YtpaepkcfdnddgaaGreat
open Go.RowKit
set_option linter.unusedVariables false

/-- The fresh World. -/
def newD (b : Int) (p m : Nat) : WD := ⟨b, p, List.replicate (p * 32) 0, List.replicate (p * 4) false, [], List.replicate m (List.replicate 6 0), 0, 0, []⟩

theorem alloc4 (w : World) (a b c d : Obj) : ((((w.alloc a).alloc b).alloc c).alloc d).drew.heap[w.heap.size]? = some a ∧ ((((w.alloc a).alloc b).alloc c).alloc d).drew.heap[w.heap.size + 1]? = some b ∧ ((((w.alloc a).alloc b).alloc c).alloc d).drew.heap[w.heap.size + 1 + 1]? = some c ∧
    ((((w.alloc a).alloc b).alloc c).alloc d).drew.heap[w.heap.size + 1 + 1 + 1]? = some d ∧ Below w.heap.size w ((((w.alloc a).alloc b).alloc c).alloc d).drew ∧ ((((w.alloc a).alloc b).alloc c).alloc d).drew.heap.size = w.heap.size + 1 + 1 + 1 + 1 := by
  obtain ⟨h1, h2, h3, hb⟩ := box3 w a b c
  have hz : (((w.alloc a).alloc b).alloc c).heap.size = w.heap.size + 1 + 1 + 1 := by simp
  have hn := below_box (((w.alloc a).alloc b).alloc c) d
  have h4 := box_new (((w.alloc a).alloc b).alloc c) d
  rw [hz] at h4
  exact ⟨heap_below hn h1, heap_below hn h2, heap_below hn h3, h4, below_drewN (below_trans hb hn) 1, by simp [World.drew]⟩
/-- Behind the first statement: the result's box, the new World's box, its words, its flags. -/
structure NewI (w wr : World) (b : Int) (p B g1 g2 : Nat) : Prop where
  below : Below w.heap.size w wr
  size : wr.heap.size = w.heap.size + 1 + 1 + 1 + 1
  boxR : wr.heap[w.heap.size]? = some (.cells #[.int .i64 0, .int .i64 0, .slice none 0 0, .slice none 0 0, .slice none 0 0, .slice none 0 0, .int .i64 0, .int .i64 0, .slice none 0 0] 36 (0, 0))
  boxB : wr.heap[B]? = some (.cells #[.int .i64 b, .int .i64 p, .slice (some ⟨g1, 0, none⟩) (p * 32) (p * 32), .slice (some ⟨g2, 0, none⟩) (p * 4) (p * 4), .slice none 0 0, .slice none 0 0, .int .i64 0, .int .i64 0, .slice none 0 0] 36 (0, 0))
  r1 : wr.heap[g1]? = some (.cells (madeCells #[.int .i64 0] (p * 32)) 3 (0, 0))
  r2 : wr.heap[g2]? = some (.cells (madeCells #[.bool false] (p * 4)) 4 (0, 0))
  hB : w.heap.size < B ∧ B < w.heap.size + 1 + 1 + 1 + 1
  h1 : w.heap.size < g1 ∧ g1 < w.heap.size + 1 + 1 + 1 + 1
  h2 : w.heap.size < g2 ∧ g2 < w.heap.size + 1 + 1 + 1 + 1

/-- The loop's state. -/
structure NewS (w wr : World) (b : Int) (p B g1 g2 : Nat) (v5 : Value) (mv : List Value) (k : Nat) : Prop where
  below : Below w.heap.size w wr
  size : w.heap.size + 1 + 1 + 1 + 1 ≤ wr.heap.size
  boxR : wr.heap[w.heap.size]? = some (.cells #[.int .i64 0, .int .i64 0, .slice none 0 0, .slice none 0 0, .slice none 0 0, .slice none 0 0, .int .i64 0, .int .i64 0, .slice none 0 0] 36 (0, 0))
  boxB : wr.heap[B]? = some (.cells #[.int .i64 b, .int .i64 p, .slice (some ⟨g1, 0, none⟩) (p * 32) (p * 32), .slice (some ⟨g2, 0, none⟩) (p * 4) (p * 4), .slice none 0 0, v5, .int .i64 0, .int .i64 0, .slice none 0 0] 36 (0, 0))
  r1 : wr.heap[g1]? = some (.cells (madeCells #[.int .i64 0] (p * 32)) 3 (0, 0))
  r2 : wr.heap[g2]? = some (.cells (madeCells #[.bool false] (p * 4)) 4 (0, 0))
  hB : w.heap.size < B ∧ B < w.heap.size + 1 + 1 + 1 + 1
  h1 : w.heap.size < g1 ∧ g1 < w.heap.size + 1 + 1 + 1 + 1
  h2 : w.heap.size < g2 ∧ g2 < w.heap.size + 1 + 1 + 1 + 1
  muts : OwnM wr (w.heap.size + 1 + 1 + 1 + 1) v5 (List.replicate k (List.replicate 6 0)) mv
  nodup : (mv.filterMap Value.ownBlock).Nodup
theorem NewI.start {w wr : World} {b : Int} {p B g1 g2 : Nat} (h : NewI w wr b p B g1 g2) : NewS w wr b p B g1 g2 (.slice none 0 0) [] 0 :=
  ⟨h.below, by have := h.size; omega, h.boxR, h.boxB, h.r1, h.r2, h.hB, h.h1, h.h2, ⟨World.ownsRow_nil _ _ _ _, rfl, fun i r u hr => by simp at hr⟩, by simp⟩
theorem NewS.ne {w wr : World} {b : Int} {p B g1 g2 : Nat} {v5 : Value} {mv : List Value} {k : Nat} (h : NewS w wr b p B g1 g2 v5 mv k) : g1 ≠ B ∧ g2 ≠ B := by
  have hB := h.boxB
  refine ⟨fun e => ?_, fun e => ?_⟩
  · have := h.r1
    rw [e, hB] at this
    simp at this
  · have := h.r2
    rw [e, hB] at this
    simp at this
theorem NewS.next {w wr Y w1 : World} {b : Int} {p B g1 g2 : Nat} {v5 v5' : Value} {mv : List Value} {k : Nat} (h : NewS w wr b p B g1 g2 v5 mv k) (hY : Below wr.heap.size wr Y)
    (hr : Y.heap[wr.heap.size]? = some (.cells (madeCells #[.int .i64 0] 6) 3 (0, 0))) (g : Y.grownBy w1 v5.ownBlock) (o : w1.ownsRow (w.heap.size + 1 + 1 + 1 + 1) 78 1 v5' (k + 1) (mv ++ [.slice (some ⟨wr.heap.size, 0, none⟩) 6 6])) :
    NewS w (w1.setCell ⟨B, 5, none⟩ v5') b p B g1 g2 v5' (mv ++ [.slice (some ⟨wr.heap.size, 0, none⟩) 6 6]) (k + 1) := by
  have hsz := h.size
  have hB := h.hB
  have hn := h.ne
  have lt5 : ∀ q, v5.ownBlock = some q → w.heap.size + 1 + 1 + 1 + 1 ≤ q := fun q hq => (h.muts.row.lt q hq).1
  have at1 : ∀ {q : Nat} {o : Obj}, q < w.heap.size + 1 + 1 + 1 + 1 → wr.heap[q]? = some o → w1.heap[q]? = some o := fun {q o} hq ho =>
    grown_block g (by have := hY.size; omega) (fun r hr => by have := lt5 r hr; omega) (heap_below hY ho)
  have keep : ∀ {q : Nat} {o : Obj}, q < w.heap.size + 1 + 1 + 1 + 1 → q ≠ B → wr.heap[q]? = some o → (w1.setCell ⟨B, 5, none⟩ v5').heap[q]? = some o := fun {q o} hq hne ho => by
    rw [heap_setCell_other w1 ⟨B, 5, none⟩ q v5' (by simpa using hne)]
    exact at1 hq ho
  have cF : Chg [B] w1 (w1.setCell ⟨B, 5, none⟩ v5') := Chg.of_grown (grown_set w1 B 5 v5') (by simp)
  have c5 : Chg v5.ownBlock.toList Y w1 := Chg.of_grown g fun x hx => by rw [hx]; simp
  have m1 := h.muts.below hY
  have o1 : Y.ownsRow wr.heap.size 3 1 (.slice (some ⟨wr.heap.size, 0, none⟩) 6 6) 6 (List.replicate 6 (.int .i64 0)) := own_made hr (Nat.le_refl _) (by unfold maxLen; omega)
  have ty : ∀ {x : Value} {n : Nat} {xs : List Value} {t : TypeId} {sz b : Nat}, Y.ownsRow b t sz x n xs → t ≠ 78 → ∀ q, x.ownBlock = some q → q ∉ v5.ownBlock.toList := fun hx ht q hq hm => by
    refine own_types hx m1.row ht q hq ?_
    cases hv : v5.ownBlock with
    | none => rw [hv] at hm; simp at hm
    | some b => rw [hv] at hm; simp at hm; rw [hm]
  have fin : ∀ {x : Value} {n b : Nat} {xs : List Value} {t : TypeId} {sz : Nat}, Y.ownsRow b t sz x n xs → t ≠ 78 → w.heap.size + 1 + 1 + 1 + 1 ≤ b → (w1.setCell ⟨B, 5, none⟩ v5').ownsRow b t sz x n xs := fun hx ht hb =>
    own_chg (own_chg hx c5 (ty hx ht)) cF fun q hq hm => by have := (hx.lt q hq).1; rw [List.mem_singleton.1 hm] at this; omega
  have hl := h.muts.len
  rw [List.length_replicate] at hl
  have e : List.replicate (k + 1) (List.replicate 6 (0 : Int)) = List.replicate k (List.replicate 6 0) ++ [List.replicate 6 0] := List.replicate_succ'
  refine ⟨?_, by have := hY.size; have := c5.size; simp; omega, keep (by omega) (by omega) h.boxR, heap_setCell_same w1 B 5 _ _ v5' (at1 hB.2 h.boxB), keep h.h1.2 hn.1 h.r1, keep h.h2.2 hn.2 h.r2, hB, h.h1, h.h2, ⟨?_, by simp [hl], ?_⟩, ?_⟩
  · have e1 : Below w.heap.size w Y := h.below.trans (hY.mono (by omega))
    have e2 : Below w.heap.size w w1 := e1.grown g (by have := hY.size; omega) (fun q hq => by have := lt5 q hq; omega)
    exact Chg.below e2 cF (by have := e2.size; omega) (fun x hx => by rw [List.mem_singleton.1 hx]; omega)
  · rw [List.length_replicate]
    exact own_chg o cF fun q hq hm => by have := (o.lt q hq).1; rw [List.mem_singleton.1 hm] at this; omega
  · intro i r u hr' hu
    rw [e] at hr'
    by_cases hi : i < k
    · rw [List.getElem?_append_left (by simpa using hi)] at hr'
      rw [List.getElem?_append_left (by omega)] at hu
      exact fin (m1.inner i r u hr' hu) (by decide) (Nat.le_refl _)
    · have hi2 : i = k := by
        have := (List.getElem?_eq_some_iff.1 hr').1
        simp at this
        omega
      subst hi2
      rw [List.getElem?_append_right (by simp)] at hr'
      rw [List.getElem?_append_right (by omega)] at hu
      simp only [List.length_replicate, Nat.sub_self, List.getElem?_cons_zero, Option.some.injEq] at hr'
      simp only [hl, Nat.sub_self, List.getElem?_cons_zero, Option.some.injEq] at hu
      subst hr'
      subst hu
      exact own_base (fin o1 (by decide) hsz) hsz
  · rw [List.filterMap_append, List.nodup_append]
    refine ⟨h.nodup, by simp [Value.ownBlock], fun a ha c hc eac => ?_⟩
    obtain ⟨x, hx, hxa⟩ := List.mem_filterMap.1 ha
    obtain ⟨i, hi⟩ := List.mem_iff_getElem?.1 hx
    have hik : i < k := by have := (List.getElem?_eq_some_iff.1 hi).1; omega
    have := ((h.muts.inner i (List.replicate 6 0) x (by simp [hik]) hi).lt a hxa).2
    obtain ⟨y, hy, hyc⟩ := List.mem_filterMap.1 hc
    rw [List.mem_singleton] at hy
    subst hy
    simp [Value.ownBlock] at hyc
    omega

theorem NewS.own {w wr wF : World} {b : Int} {p B g1 g2 m : Nat} {v5 : Value} {mv : List Value} (h : NewS w wr b p B g1 g2 v5 mv m) (hp : p ≤ 1024) (hF : Chg [w.heap.size] wr wF) :
    OwnW wF w.heap.size ⟨.slice (some ⟨g1, 0, none⟩) (p * 32) (p * 32), .slice (some ⟨g2, 0, none⟩) (p * 4) (p * 4), .slice none 0 0, v5, .slice none 0 0, [], mv⟩ (newD b p m) ∧ Below w.heap.size w wF := by
  have h1 := h.h1
  have h2 := h.h2
  have o1 : wr.ownsRow w.heap.size 3 1 _ (p * 32) _ := own_made h.r1 (by omega) (by unfold maxLen; omega)
  have o2 : wr.ownsRow w.heap.size 4 1 _ (p * 4) _ := own_made h.r2 (by omega) (by unfold maxLen; omega)
  have f1 := own_chg o1 hF (fun q hq hm => by simp [Value.ownBlock] at hq; rw [List.mem_singleton.1 hm] at hq; omega)
  have f2 := own_chg o2 hF (fun q hq hm => by simp [Value.ownBlock] at hq; rw [List.mem_singleton.1 hm] at hq; omega)
  have m5 : OwnM wF (w.heap.size + 1 + 1 + 1 + 1) v5 (List.replicate m (List.replicate 6 0)) mv := h.muts.chg hF (fun q hq hm => by have := (h.muts.row.lt q hq).1; rw [List.mem_singleton.1 hm] at this; omega) (fun x hx q hq hm => by
    obtain ⟨i, hi⟩ := List.mem_iff_getElem?.1 hx
    have hl := h.muts.len
    rw [List.length_replicate] at hl
    have hik : i < m := by have := (List.getElem?_eq_some_iff.1 hi).1; omega
    have := ((h.muts.inner i (List.replicate 6 0) x (by simp [hik]) hi).lt q hq).1
    rw [List.mem_singleton.1 hm] at this
    omega)
  refine ⟨⟨by simpa [newD] using f1, by simpa [newD] using f2, World.ownsRow_nil _ _ _ _, rfl, fun i s q hs => by simp [newD] at hs, own_base m5.row (by omega), m5.len, fun i r v hr hv => own_base (m5.inner i r v hr hv) (by omega), World.ownsRow_nil _ _ _ _, ?_⟩, Chg.below h.below hF h.below.size (fun q hq => by rw [List.mem_singleton.1 hq]; omega)⟩
  show (((Value.slice (some ⟨g1, 0, none⟩) (p * 32) (p * 32)) :: [] ++ mv ++ [Value.slice none 0 0]).filterMap Value.ownBlock).Nodup
  rw [List.filterMap_append, List.filterMap_append]
  simp only [List.filterMap_cons, List.filterMap_nil, Value.ownBlock, List.append_nil, List.singleton_append, List.nodup_cons]
  refine ⟨fun hm => ?_, h.nodup⟩
  obtain ⟨x, hx, hq⟩ := List.mem_filterMap.1 hm
  obtain ⟨i, hi⟩ := List.mem_iff_getElem?.1 hx
  have hl := h.muts.len
  rw [List.length_replicate] at hl
  have hik : i < m := by have := (List.getElem?_eq_some_iff.1 hi).1; omega
  have := ((h.muts.inner i (List.replicate 6 0) x (by simp [hik]) hi).lt _ hq).1
  omega

set_option maxRecDepth 100000 in
set_option maxHeartbeats 8000000 in
theorem snew_any (b : Int) (p m : Nat) (hp : p ≤ 1024) (hm : m ≤ 1024) (w : World) :
    Calls Tryz.prog 47 #[.int .i64 b, .int .i64 p, .int .i64 m] w fun e w' => ∃ S, e = .returned (S.val (newD b p m)) ∧ OwnW w' w.heap.size S (newD b p m) ∧ Below w.heap.size w w' := by
  have e1 : ((p * 32 : Nat) : Int) = (p : Int) * 32 := by omega
  have e2 : ((p * 4 : Nat) : Int) = (p : Int) * 4 := by omega
  have m1 := run_make_row' (P := Tryz.prog) 22 3 (.int .i64 0) 8 Tryz.underlying22 infoInt rfl .i64 .i64 (p * 32) (by omega) (by omega)
  have m2 := run_make_row' (P := Tryz.prog) 23 4 (.bool false) 1 Tryz.underlying23 infoBool rfl .i64 .i64 (p * 4) (by omega) (by omega)
  simp only [e1] at m1
  simp only [e2] at m2
  clear e1 e2
  go_enter Tryz.func47, Tryz.ntmps47
  go_upto_region 1 with fail
  go_cut [7] from 9 to 17 (fun q wr => ∃ B g1 g2 : Nat, q = .pointer (some ⟨B, 0, none⟩) ∧ Hid (NewI w wr b p B g1 g2))
  case first =>
    go_region
    all_goals go_wp2_with fail
    all_goals go_meet
    all_goals first
      | exact ⟨w.heap.size + 1 + 1 + 1, w.heap.size + 1, w.heap.size + 1 + 1, rfl, ⟨(alloc4 w _ _ _ _).2.2.2.2.1, (alloc4 w _ _ _ _).2.2.2.2.2, (alloc4 w _ _ _ _).1, (by first | exact (alloc4 w _ _ _ _).2.1 | exact (alloc4 w _ _ _ _).2.2.1 | exact (alloc4 w _ _ _ _).2.2.2.1), (by first | exact (alloc4 w _ _ _ _).2.1 | exact (alloc4 w _ _ _ _).2.2.1 | exact (alloc4 w _ _ _ _).2.2.2.1), (by first | exact (alloc4 w _ _ _ _).2.1 | exact (alloc4 w _ _ _ _).2.2.1 | exact (alloc4 w _ _ _ _).2.2.2.1), by omega, by omega, by omega⟩⟩
      | exact ⟨w.heap.size + 1 + 1, w.heap.size + 1, w.heap.size + 1 + 1 + 1, rfl, ⟨(alloc4 w _ _ _ _).2.2.2.2.1, (alloc4 w _ _ _ _).2.2.2.2.2, (alloc4 w _ _ _ _).1, (by first | exact (alloc4 w _ _ _ _).2.1 | exact (alloc4 w _ _ _ _).2.2.1 | exact (alloc4 w _ _ _ _).2.2.2.1), (by first | exact (alloc4 w _ _ _ _).2.1 | exact (alloc4 w _ _ _ _).2.2.1 | exact (alloc4 w _ _ _ _).2.2.2.1), (by first | exact (alloc4 w _ _ _ _).2.1 | exact (alloc4 w _ _ _ _).2.2.1 | exact (alloc4 w _ _ _ _).2.2.2.1), by omega, by omega, by omega⟩⟩
      | exact ⟨w.heap.size + 1 + 1 + 1, w.heap.size + 1 + 1, w.heap.size + 1, rfl, ⟨(alloc4 w _ _ _ _).2.2.2.2.1, (alloc4 w _ _ _ _).2.2.2.2.2, (alloc4 w _ _ _ _).1, (by first | exact (alloc4 w _ _ _ _).2.1 | exact (alloc4 w _ _ _ _).2.2.1 | exact (alloc4 w _ _ _ _).2.2.2.1), (by first | exact (alloc4 w _ _ _ _).2.1 | exact (alloc4 w _ _ _ _).2.2.1 | exact (alloc4 w _ _ _ _).2.2.2.1), (by first | exact (alloc4 w _ _ _ _).2.1 | exact (alloc4 w _ _ _ _).2.2.1 | exact (alloc4 w _ _ _ _).2.2.2.1), by omega, by omega, by omega⟩⟩
      | exact ⟨w.heap.size + 1 + 1, w.heap.size + 1 + 1 + 1, w.heap.size + 1, rfl, ⟨(alloc4 w _ _ _ _).2.2.2.2.1, (alloc4 w _ _ _ _).2.2.2.2.2, (alloc4 w _ _ _ _).1, (by first | exact (alloc4 w _ _ _ _).2.1 | exact (alloc4 w _ _ _ _).2.2.1 | exact (alloc4 w _ _ _ _).2.2.2.1), (by first | exact (alloc4 w _ _ _ _).2.1 | exact (alloc4 w _ _ _ _).2.2.1 | exact (alloc4 w _ _ _ _).2.2.2.1), (by first | exact (alloc4 w _ _ _ _).2.1 | exact (alloc4 w _ _ _ _).2.2.1 | exact (alloc4 w _ _ _ _).2.2.2.1), by omega, by omega, by omega⟩⟩
      | exact ⟨w.heap.size + 1, w.heap.size + 1 + 1, w.heap.size + 1 + 1 + 1, rfl, ⟨(alloc4 w _ _ _ _).2.2.2.2.1, (alloc4 w _ _ _ _).2.2.2.2.2, (alloc4 w _ _ _ _).1, (by first | exact (alloc4 w _ _ _ _).2.1 | exact (alloc4 w _ _ _ _).2.2.1 | exact (alloc4 w _ _ _ _).2.2.2.1), (by first | exact (alloc4 w _ _ _ _).2.1 | exact (alloc4 w _ _ _ _).2.2.1 | exact (alloc4 w _ _ _ _).2.2.2.1), (by first | exact (alloc4 w _ _ _ _).2.1 | exact (alloc4 w _ _ _ _).2.2.1 | exact (alloc4 w _ _ _ _).2.2.2.1), by omega, by omega, by omega⟩⟩
      | exact ⟨w.heap.size + 1, w.heap.size + 1 + 1 + 1, w.heap.size + 1 + 1, rfl, ⟨(alloc4 w _ _ _ _).2.2.2.2.1, (alloc4 w _ _ _ _).2.2.2.2.2, (alloc4 w _ _ _ _).1, (by first | exact (alloc4 w _ _ _ _).2.1 | exact (alloc4 w _ _ _ _).2.2.1 | exact (alloc4 w _ _ _ _).2.2.2.1), (by first | exact (alloc4 w _ _ _ _).2.1 | exact (alloc4 w _ _ _ _).2.2.1 | exact (alloc4 w _ _ _ _).2.2.2.1), (by first | exact (alloc4 w _ _ _ _).2.1 | exact (alloc4 w _ _ _ _).2.2.1 | exact (alloc4 w _ _ _ _).2.2.2.1), by omega, by omega, by omega⟩⟩
  case rest =>
    obtain ⟨B, g1, g2, rfl, hI⟩ := hcut
    go_wp2_with fail
    go_loopw [8] (fun i wr => ∃ (k : Nat) (v5 : Value) (mv : List Value), k ≤ m ∧ i = .int .i64 k ∧ Hid (NewS w wr b p B g1 g2 v5 mv k)) (fun i _ => m - (RowKit.intOf i).toNat)
    case atStart => exact ⟨0, .slice none 0 0, [], Nat.zero_le _, rfl, Lib.hid hI.out.start⟩
    case round =>
      obtain ⟨k, v5, mv, hk, rfl, st⟩ := hrel
      have hB := st.out.hB
      have hsz := Lib.hid st.out.size
      have szb : w.heap.size + 1 + 1 + 1 + 1 ≤ wr.heap.size := hsz.out
      by_cases hlt : k < m
      · have hlt1 : (k : Int) < (m : Int) := by omega
        have z5 : wr.cell? ⟨B, 5, none⟩ = some v5 := cell_of_heap st.out.boxB 5 _ rfl
        have hY := Lib.hid (show Below wr.heap.size wr ((wr.alloc (.cells (madeCells #[.int .i64 0] 6) 3)).alloc (.cells #[.slice (some ⟨wr.heap.size, 0, none⟩) 6 6] 78)).drew from below_drewN (below_trans (below_box wr _) (below_box _ _)) 1)
        have hr := Lib.hid (show ((wr.alloc (.cells (madeCells #[.int .i64 0] 6) 3)).alloc (.cells #[.slice (some ⟨wr.heap.size, 0, none⟩) 6 6] 78)).drew.heap[wr.heap.size]? = some (.cells (madeCells #[.int .i64 0] 6) 3 (0, 0)) from heap_below (below_box _ _) (box_new wr (.cells (madeCells #[.int .i64 0] 6) 3)))
        have z5a := cell_below (below_box wr (.cells (madeCells #[.int .i64 0] 6) 3)) z5
        have z5b := cell_below hY.out z5
        have row5 := Lib.hid (show ((wr.alloc (.cells (madeCells #[.int .i64 0] 6) 3)).alloc (.cells #[.slice (some ⟨wr.heap.size, 0, none⟩) 6 6] 78)).drew.ownsRow (w.heap.size + 1 + 1 + 1 + 1) 78 1 v5 k mv from by have := own_below st.out.muts.row hY.out; rwa [List.length_replicate] at this)
        have boxB := Lib.hid st.out.boxB
        have hv5 := Lib.hid (show ∀ q, v5.ownBlock = some q → w.heap.size + 1 + 1 + 1 + 1 ≤ q from fun q hq => (st.out.muts.row.lt q hq).1)
        obtain ⟨a0, c0, rfl⟩ := own_slice row5.out
        have mk6 : ∀ (w : World), (Instr.makeSlice 22 (.int .i64 6) (.int .i64 6)).run Tryz.prog w = .ok (.slice (some ⟨w.heap.size, 0, none⟩) 6 6) (w.alloc (.cells (madeCells #[.int .i64 0] 6) 3)) := run_make_row' (P := Tryz.prog) 22 3 (.int .i64 0) 8 Tryz.underlying22 infoInt rfl .i64 .i64 6 (by omega) (by omega)
        have r3 := Lib.hid (show SrcIs ((wr.alloc (.cells (madeCells #[.int .i64 0] 6) 3)).alloc (.cells #[.slice (some ⟨wr.heap.size, 0, none⟩) 6 6] 78)).drew (some ⟨wr.heap.size + 1, 0, none⟩) 1 1 [.slice (some ⟨wr.heap.size, 0, none⟩) 6 6] from by
          have := src_box (wr.alloc (.cells (madeCells #[.int .i64 0] 6) 3)) (cs := #[.slice (some ⟨wr.heap.size, 0, none⟩) 6 6]) (T := 78) (m := 1) (size := 1) rfl (fun u hu => by simp only [List.mem_singleton] at hu; subst hu; rfl)
          rw [World.size_alloc] at this
          exact this.below (below_drewN (Below.refl _ _) 1))
        have le3 := Lib.hid (Nat.le_trans szb hY.out.size)
        go_wp2_with fail
        go_region_law (first
          | (refine step_own rfl (wp_app (.tmp 24) (.tmp 27) 33 rfl (w.heap.size + 1 + 1 + 1 + 1) 78 (.agg #[.slice none 0 0]) 1 24 Tryz.underlying33 infoMut (by rfl) (by decide) (.slice a0 k c0) k mv rfl row5.out (some ⟨wr.heap.size + 1, 0, none⟩) 1 1 [.slice (some ⟨wr.heap.size, 0, none⟩) 6 6] rfl r3.out (by unfold maxLen; omega) (by omega) le3.out ?_); intro u2 x2 p2 h2; obtain ⟨a5, c5, rfl⟩ := own_slice p2; have boxB2 := St1.at4 hY.out h2 hv5.out hB.2 boxB.out; have z5d := cell_of_heap boxB2 5 _ rfl; have f5d := frozen_of_heap boxB2 5; have nst := Lib.hid (NewS.next st.out hY.out hr.out h2 p2); clear p2 h2 boxB2))
        all_goals go_wp2_with fail
        all_goals exact ⟨⟨k + 1, _, _, by omega, by go_num, nst⟩, by simp [RowKit.intOf]; omega⟩
      · obtain rfl : k = m := by omega
        obtain ⟨a0, c0, rfl⟩ := own_slice st.out.muts.row
        simp only [List.length_replicate] at st
        have hneB : ¬ (w.heap.size = B) := by omega
        have boxB := st.out.boxB
        have boxR := st.out.boxR
        have m0 := cell_of_heap boxB 0 _ rfl
        have n0 := cell_of_heap boxR 0 _ rfl
        have z0 := frozen_of_heap boxR 0
        have m1 := cell_of_heap boxB 1 _ rfl
        have n1 := cell_of_heap boxR 1 _ rfl
        have z1 := frozen_of_heap boxR 1
        have m2 := cell_of_heap boxB 2 _ rfl
        have n2 := cell_of_heap boxR 2 _ rfl
        have z2 := frozen_of_heap boxR 2
        have m3 := cell_of_heap boxB 3 _ rfl
        have n3 := cell_of_heap boxR 3 _ rfl
        have z3 := frozen_of_heap boxR 3
        have m4 := cell_of_heap boxB 4 _ rfl
        have n4 := cell_of_heap boxR 4 _ rfl
        have z4 := frozen_of_heap boxR 4
        have m5 := cell_of_heap boxB 5 _ rfl
        have n5 := cell_of_heap boxR 5 _ rfl
        have z5 := frozen_of_heap boxR 5
        have m6 := cell_of_heap boxB 6 _ rfl
        have n6 := cell_of_heap boxR 6 _ rfl
        have z6 := frozen_of_heap boxR 6
        have m7 := cell_of_heap boxB 7 _ rfl
        have n7 := cell_of_heap boxR 7 _ rfl
        have z7 := frozen_of_heap boxR 7
        have m8 := cell_of_heap boxB 8 _ rfl
        have n8 := cell_of_heap boxR 8 _ rfl
        have z8 := frozen_of_heap boxR 8
        clear boxB boxR
        go_wp2_with fail
        refine bodyPost_ret (v := .agg #[.int .i64 b, .int .i64 p, .slice (some ⟨g1, 0, none⟩) (p * 32) (p * 32), .slice (some ⟨g2, 0, none⟩) (p * 4) (p * 4), .slice none 0 0, .slice a0 k c0, .int .i64 0, .int .i64 0, .slice none 0 0]) (by simp [results, Tryz.results47, go_sem, n0, n1, n2, n3, n4, n5, n6, n7, n8]) rfl ?_
        exact ⟨_, rfl, NewS.own st.out hp ((((((((((Chg.refl [w.heap.size] wr).put (b := w.heap.size) (by simp) 0 _).put (b := w.heap.size) (by simp) 1 _).put (b := w.heap.size) (by simp) 2 _).put (b := w.heap.size) (by simp) 3 _).put (b := w.heap.size) (by simp) 4 _).put (b := w.heap.size) (by simp) 5 _).put (b := w.heap.size) (by simp) 6 _).put (b := w.heap.size) (by simp) 7 _).put (b := w.heap.size) (by simp) 8 _)⟩
end Go.Proofs.YtpaepkcfdnddgaaGreat

namespace Go.Proofs.YtpaepkcfdnddgaaGreat
open Go.RowKit
set_option linter.unusedVariables false

def zeroD : WD := ⟨0, 0, [], [], [], [], 0, 0, []⟩
def zeroS : Shape := ⟨.slice none 0 0, .slice none 0 0, .slice none 0 0, .slice none 0 0, .slice none 0 0, [], []⟩
theorem own_zero (w : World) (base : Nat) : OwnW w base zeroS zeroD :=
  ⟨World.ownsRow_nil _ _ _ _, World.ownsRow_nil _ _ _ _, World.ownsRow_nil _ _ _ _, rfl, fun i s p h => by simp [zeroD] at h, World.ownsRow_nil _ _ _ _, rfl, fun i r v h => by simp [zeroD] at h, World.ownsRow_nil _ _ _ _, (show ([] : List Nat).Nodup from List.nodup_nil)⟩
theorem OwnW.lits {w : World} {base : Nat} {S : Shape} {D : WD} (h : OwnW w base S D) : ∃ a1 n1 c1 a2 n2 c2 a3 n3 c3 a4 n4 c4 a5 n5 c5 sv mv, S = ⟨.slice a1 n1 c1, .slice a2 n2 c2, .slice a3 n3 c3, .slice a4 n4 c4, .slice a5 n5 c5, sv, mv⟩ := by
  obtain ⟨vw, vd, vs, vm, vg, sv, mv⟩ := S
  obtain ⟨a1, c1, h1⟩ := own_slice h.words
  obtain ⟨a2, c2, h2⟩ := own_slice h.dirty
  obtain ⟨a3, c3, h3⟩ := own_slice h.spans
  obtain ⟨a4, c4, h4⟩ := own_slice h.muts
  obtain ⟨a5, c5, h5⟩ := own_slice h.grey
  simp only at h1 h2 h3 h4 h5
  subst h1 h2 h3 h4 h5
  exact ⟨_, _, _, _, _, _, _, _, _, _, _, _, _, _, _, _, _, rfl⟩
theorem OwnW.chg0 {w w' : World} {base : Nat} {S : Shape} {D : WD} {bs : List Nat} (h : OwnW w base S D) (hc : Chg bs w w') (hn : ∀ q, q ∈ bs → q < base) : OwnW w' base S D := by
  have f : ∀ {x : Value} {n : Nat} {xs : List Value} {t : TypeId} {sz : Nat}, w.ownsRow base t sz x n xs → w'.ownsRow base t sz x n xs := fun hx => own_chg hx hc fun q hq hm => by have := (hx.lt q hq).1; have := hn q hm; omega
  exact ⟨f h.words, f h.dirty, f h.spans, h.svl, fun i s p h1 h2 => ⟨f (h.inner i s p h1 h2).1, f (h.inner i s p h1 h2).2⟩, f h.muts, h.mvl, fun i r v h1 h2 => f (h.innerM i r v h1 h2), f h.grey, h.nodup⟩
theorem OwnW.base_le {w : World} {base base' : Nat} {S : Shape} {D : WD} (h : OwnW w base S D) (hb : base' ≤ base) : OwnW w base' S D :=
  ⟨own_base h.words hb, own_base h.dirty hb, own_base h.spans hb, h.svl, fun i s p h1 h2 => ⟨own_base (h.inner i s p h1 h2).1 hb, own_base (h.inner i s p h1 h2).2 hb⟩, own_base h.muts hb, h.mvl, fun i r v h1 h2 => own_base (h.innerM i r v h1 h2) hb, own_base h.grey hb, h.nodup⟩
theorem new_fin {w w2 wF : World} {o : Obj} {S : Shape} {D : WD} (h : OwnW w2 (w.heap.size + 1) S D) (hb : Below (w.alloc o).heap.size (w.alloc o) w2) (hc : Chg [w.heap.size] w2 wF) : OwnW wF w.heap.size S D ∧ Below w.heap.size w wF :=
  ⟨(h.chg0 hc (fun q hq => by rw [List.mem_singleton.1 hq]; omega)).base_le (by omega), Chg.below (below_trans (below_box w o) hb) hc (below_trans (below_box w o) hb).size (fun q hq => by rw [List.mem_singleton.1 hq]; omega)⟩
/-- What WorldNew answers. -/
def NewIs (b p m : Int) (D : WD) (f : Bool) : Prop := (Geo b p m ∧ D = newD b p.toNat m.toNat ∧ f = true) ∨ (¬ Geo b p m ∧ D = zeroD ∧ f = false)

end Go.Proofs.YtpaepkcfdnddgaaGreat

namespace Go.Proofs.YtpaepkcfdnddgaaGreat
open Go.RowKit
set_option linter.unusedVariables false

/-- No slot is used. -/
def EmptyS (s : SpanD) : Prop := ∀ i, i < s.lens.length → ¬ 0 < s.lens[i]?.getD 0
section
variable {w w1 : World} {base B : Nat} {S : Shape} {D : WD}
/-- The variable's spans are others now: an owned row of them. -/
theorem VarW.newSpans (h : VarW w base B S D) {v : Value} {L : List SpanD} {sv : List (Value × Value)} (r : OwnS w base v L sv) (hn : (({ S with vs := v, sv := sv } : Shape).ints.filterMap Value.ownBlock).Nodup)
    (hB : ∀ x, x ∈ v :: svInts sv → x.ownBlock ≠ some B) :
    VarW (w.setCell ⟨B, 4, none⟩ v) base B { S with vs := v, sv := sv } { D with spans := L } ∧ Below base w (w.setCell ⟨B, 4, none⟩ v) := by
  have c := Chg.of_grown (grown_set w B 4 v) (bs := [B]) (by simp)
  have hne : ∀ k, k ∈ blks S.all → k ∉ [B] := fun k hk hm => h.ne (by rw [List.mem_singleton.1 hm] at hk; exact hk)
  have hm : ∀ x, x ∈ S.all → ∀ q, x.ownBlock = some q → q ∉ [B] := fun x hx q hq => hne q (List.mem_filterMap.2 ⟨x, hx, hq⟩)
  refine ⟨⟨?_, ?_, h.le, ?_⟩, (Below.refl _ _).setCell (p := ⟨B, 4, none⟩) h.le _⟩
  · have := heap_setCell_same w B 4 _ _ v h.box
    simpa [Shape.cells] using this
  · refine .mk' (own_chg h.own.words c (hm _ (by simp [Shape.all]))) (own_chg h.own.dirty c (hm _ (by simp [Shape.all]))) (r.chg c (fun q hq hm => hB v (by simp) (by rw [hq, List.mem_singleton.1 hm])) (fun x hx q hq hm => hB x (by simp [hx]) (by rw [hq, List.mem_singleton.1 hm])))
      (h.own.ownM.chg c (hm _ (by simp [Shape.all])) (fun x hx => hm x (by simp [Shape.all, hx]))) (own_chg h.own.grey c (hm _ (by simp [Shape.all]))) hn
  · intro hB2
    obtain ⟨x, hx, hxB⟩ := List.mem_filterMap.1 hB2
    simp only [Shape.all, List.mem_append, List.mem_cons, List.not_mem_nil, or_false] at hx
    have old : ∀ y, y ∈ S.all → y.ownBlock ≠ some B := fun y hy e => h.ne (List.mem_filterMap.2 ⟨y, hy, e⟩)
    rcases hx with (((rfl | rfl) | (rfl | hx)) | (rfl | hx)) | rfl
    · exact old _ (by simp [Shape.all]) hxB
    · exact old _ (by simp [Shape.all]) hxB
    · exact hB _ (by simp) hxB
    · exact hB x (by simp [hx]) hxB
    · exact old _ (by simp [Shape.all]) hxB
    · exact old x (by simp [Shape.all, hx]) hxB
    · exact old _ (by simp [Shape.all]) hxB
end

theorem flatV_take (L : List SpanD) (sv : List (Value × Value)) (k : Nat) (h : sv.length = L.length) : (flatV L sv).take (k * 6) = flatV (L.take k) (sv.take k) := by
  induction k generalizing L sv with
  | zero => simp [flatV]
  | succ k ih =>
    cases L with
    | nil => simp [flatV]
    | cons s L =>
      cases sv with
      | nil => simp at h
      | cons p sv =>
        have := ih L sv (by simpa using h)
        simp only [flatV, List.take_succ_cons, List.zip_cons_cons, List.flatMap_cons] at this ⊢
        rw [← this, show (k + 1) * 6 = (spanCv s p).length + k * 6 by simp [spanCv]; omega, List.take_length_add_append]
theorem flatV_drop (L : List SpanD) (sv : List (Value × Value)) (k : Nat) (h : sv.length = L.length) : (flatV L sv).drop (k * 6) = flatV (L.drop k) (sv.drop k) := by
  induction k generalizing L sv with
  | zero => simp
  | succ k ih =>
    cases L with
    | nil =>
      cases sv with
      | nil => simp [flatV]
      | cons p sv => simp at h
    | cons s L =>
      cases sv with
      | nil => simp at h
      | cons p sv =>
        have := ih L sv (by simpa using h)
        simp only [flatV, List.drop_succ_cons, List.zip_cons_cons, List.flatMap_cons] at this ⊢
        rw [← this, show (k + 1) * 6 = (spanCv s p).length + k * 6 by simp [spanCv]; omega, List.drop_append]
        simp
theorem flatV_app (L M : List SpanD) (sv mv : List (Value × Value)) (h : sv.length = L.length) : flatV (L ++ M) (sv ++ mv) = flatV L sv ++ flatV M mv := by
  unfold flatV
  rw [List.zip_append (by omega), List.flatMap_append]
theorem oneV (L : List SpanD) (sv : List (Value × Value)) (h : ∀ p, p ∈ sv → p.1.oneCell' = true ∧ p.2.oneCell' = true) : ∀ u, u ∈ flatV L sv → u.oneCell' = true := by
  intro u hu
  obtain ⟨x, hx, hu⟩ := List.mem_flatMap.1 hu
  have hp := h x.2 (List.of_mem_zip hx).2
  simp only [spanCv, List.mem_cons, List.not_mem_nil, or_false] at hu
  rcases hu with rfl | rfl | rfl | rfl | rfl | rfl
  · rfl
  · rfl
  · rfl
  · rfl
  · exact hp.1
  · exact hp.2
theorem oneV_own {w : World} {base : Nat} {v : Value} {L : List SpanD} {sv : List (Value × Value)} (h : OwnS w base v L sv) : ∀ u, u ∈ flatV L sv → u.oneCell' = true := by
  refine oneV L sv fun p hp => ?_
  obtain ⟨i, hi⟩ := List.mem_iff_getElem?.1 hp
  have hlt := (List.getElem?_eq_some_iff.1 hi).1
  obtain ⟨s, hs⟩ : ∃ s, L[i]? = some s := ⟨_, List.getElem?_eq_getElem (by have := h.len; omega)⟩
  have hin := h.inner i s p hs hi
  have one : ∀ {n : Nat} {x : Value} {xs : List Value}, w.ownsRow base 3 1 x n xs → x.oneCell' = true := fun hx => by
    rcases hx.2 with ⟨rfl, _⟩ | ⟨g, cap, cur, rfl, _⟩ <;> rfl
  exact ⟨one hin.1, one hin.2⟩
theorem erase_eq {α : Type} (L : List α) (k : Nat) : L.eraseIdx k = L.take k ++ L.drop (k + 1) := List.eraseIdx_eq_take_drop_succ L k
theorem svInts_app (a b : List (Value × Value)) : svInts (a ++ b) = svInts a ++ svInts b := by simp [svInts]
theorem svInts_sub (sv : List (Value × Value)) (k : Nat) : (svInts (sv.eraseIdx k)).Sublist (svInts sv) := by
  induction sv generalizing k with
  | nil => simp
  | cons a sv ih =>
    cases k with
    | zero => exact List.sublist_append_right [a.1, a.2] (svInts sv)
    | succ k => exact (List.Sublist.refl [a.1, a.2]).append (ih k)
theorem OwnS.erase {w : World} {base : Nat} {v : Value} {L : List SpanD} {sv : List (Value × Value)} (hin : ∀ (i : Nat) (s : SpanD) (p : Value × Value), L[i]? = some s → sv[i]? = some p → w.ownsRow base 3 1 p.1 s.lens.length (s.lens.map (Value.int .i64)) ∧ w.ownsRow base 3 1 p.2 s.ptrs.length (s.ptrs.map (Value.int .i64)))
    (hl : sv.length = L.length) (k : Nat) (hk : k < L.length) {base' : Nat} (hb : base ≤ base') (hr : w.ownsRow base' 73 6 v (k + (L.length - (k + 1))) ((flatV L sv).take (k * 6) ++ (flatV L sv).drop ((k + 1) * 6))) : OwnS w base v (L.eraseIdx k) (sv.eraseIdx k) := by
  have e : (flatV L sv).take (k * 6) ++ (flatV L sv).drop ((k + 1) * 6) = flatV (L.eraseIdx k) (sv.eraseIdx k) := by
    rw [flatV_take L sv k hl, flatV_drop L sv (k + 1) hl, erase_eq, erase_eq, flatV_app]
    simp [hl]
  have len : (L.eraseIdx k).length = k + (L.length - (k + 1)) := by rw [List.length_eraseIdx]; simp [hk]; omega
  refine ⟨?_, by rw [List.length_eraseIdx, List.length_eraseIdx, hl], fun i s p hs hp => ?_⟩
  · rw [len, ← e]
    exact own_base hr hb
  · rw [List.getElem?_eraseIdx] at hs hp
    split at hs
    · rename_i hik
      rw [if_pos hik] at hp
      exact hin i s p hs hp
    · rename_i hik
      rw [if_neg hik] at hp
      exact hin (i + 1) s p hs hp


end Go.Proofs.YtpaepkcfdnddgaaGreat

namespace Go.Proofs.YtpaepkcfdnddgaaGreat
open Go.RowKit
set_option linter.unusedVariables false

/-! ### Give -/
def GiveIs (D : WD) (addr : Int) (D' : WD) (f : Bool) : Prop :=
  (∃ k j s, HeapForm D ∧ IsObj D addr k j ∧ D.spans[k]? = some s ∧ f = true ∧
    ((EmptyS (giveS s j) ∧ D' = { giveD D k s j with spans := (giveD D k s j).spans.eraseIdx k }) ∨ (¬ EmptyS (giveS s j) ∧ D' = giveD D k s j))) ∨
  ((HeapForm D → ∀ k j, ¬ IsObj D addr k j) ∧ D' = zeroD ∧ f = false)
theorem GiveIs.unique {D : WD} {addr : Int} {D1 D2 : WD} {f1 f2 : Bool} (h1 : GiveIs D addr D1 f1) (h2 : GiveIs D addr D2 f2) : D2 = D1 ∧ f2 = f1 := by
  rcases h1 with ⟨k, j, s, hF, ho, hs, rfl, he⟩ | ⟨hn, rfl, rfl⟩ <;> rcases h2 with ⟨k', j', s', hF', ho', hs', rfl, he'⟩ | ⟨hn', rfl, rfl⟩
  · obtain ⟨rfl, rfl⟩ := ho.unique hF ho'
    rw [hs] at hs'
    cases hs'
    rcases he with ⟨e, rfl⟩ | ⟨e, rfl⟩ <;> rcases he' with ⟨e', rfl⟩ | ⟨e', rfl⟩
    · exact ⟨rfl, rfl⟩
    · exact absurd e e'
    · exact absurd e' e
    · exact ⟨rfl, rfl⟩
  · exact absurd ho (hn' hF k j)
  · exact absurd ho' (hn hF' k' j')
  · exact ⟨rfl, rfl⟩
theorem sum_set (L : List SpanD) (k : Nat) (s t : SpanD) (hs : L[k]? = some s) (hb : t.bulk = s.bulk) : bulkS (L.set k t) = bulkS L := by
  induction L generalizing k with
  | nil => simp at hs
  | cons a L ih =>
    cases k with
    | zero =>
      simp at hs
      subst hs
      simp [bulkS, hb]
    | succ k =>
      have := ih k (by simpa using hs)
      simp only [bulkS, List.set_cons_succ, List.map_cons, List.sum_cons] at this ⊢
      omega
theorem sum_erase (L : List SpanD) (k : Nat) : bulkS (L.eraseIdx k) ≤ bulkS L := by
  induction L generalizing k with
  | nil => simp [bulkS]
  | cons a L ih =>
    cases k with
    | zero => simp [bulkS]
    | succ k =>
      have := ih k
      simp only [bulkS, List.eraseIdx_cons_succ, List.map_cons, List.sum_cons] at this ⊢
      omega
theorem giveD_bulk {D : WD} {k j : Nat} {s : SpanD} (hs : D.spans[k]? = some s) : (giveD D k s j).bulk = D.bulk ∧ (giveD D k s j).spans.length = D.spans.length := by
  have h1 : bulkS (D.spans.set k (giveS s j)) = bulkS D.spans := sum_set _ _ _ _ hs (by simp [giveS, SpanD.bulk])
  refine ⟨?_, by simp [giveD]⟩
  simp only [WD.bulk, giveD, zeroK_len, dirtyUp_len, List.length_set, h1]
theorem GiveIs.markable {D : WD} {addr : Int} {D' : WD} {f : Bool} (h : GiveIs D addr D' f) (hs : D.bulk ≤ 1048576) : Markable D' := by
  rcases h with ⟨k, j, s, hF, ho, hk, rfl, he⟩ | ⟨hn, rfl, rfl⟩
  · obtain ⟨h1, h2⟩ := giveD_bulk (j := j) hk
    have h3 : D.spans.length ≤ D.bulk := by unfold WD.bulk; omega
    rcases he with ⟨e, rfl⟩ | ⟨e, rfl⟩
    · have h4 := sum_erase (giveD D k s j).spans k
      have h5 : ((giveD D k s j).spans.eraseIdx k).length ≤ (giveD D k s j).spans.length := List.length_eraseIdx_le _ _
      refine ⟨?_⟩
      unfold WD.bulk at h1 ⊢
      simp only at *
      unfold WD.bulk at hs h3
      omega
    · exact ⟨by omega⟩
  · exact ⟨by decide⟩

/-! ### Take -/
/-- There is no slot left in a span of class c ahead of span k. -/
def FullUp (D : WD) (c : Int) (k : Nat) : Prop := ∀ (i : Nat) (s : SpanD), i < k → D.spans[i]? = some s → s.cls = c → ∀ j, j < s.lens.length → s.lens[j]?.getD 0 ≠ 0
/-- A new span at page k. -/
def freshS (D : WD) (c : Int) (k : Nat) : SpanD := ⟨(k : Int), c, 0, D.phase == 4, List.replicate (sl' c).toNat 0, List.replicate (sl' c).toNat 0⟩
def insD (D : WD) (c : Int) (k : Nat) : WD := { D with spans := D.spans.take k ++ freshS D c k :: D.spans.drop k }
/-- The next object of class c comes to slot j of span k of D1. -/
def PlaceIs (D : WD) (c : Int) (D1 : WD) (k j : Nat) : Prop :=
  (D1 = D ∧ ∃ s, D.spans[k]? = some s ∧ s.cls = c ∧ j < s.lens.length ∧ s.lens[j]?.getD 0 = 0 ∧ (∀ i, i < j → s.lens[i]?.getD 0 ≠ 0) ∧ FullUp D c k) ∨
  (FullUp D c D.spans.length ∧ FreePg D k ∧ (k : Int) ≠ D.pages ∧ D1 = insD D c k ∧ j = 0)
/-- There is no such place. -/
def NoPlace (D : WD) (c : Int) : Prop := FullUp D c D.spans.length ∧ ∃ k : Nat, FreePg D k ∧ (k : Int) = D.pages
def takeS (s : SpanD) (j : Nat) (n p : Int) : SpanD := { s with lens := s.lens.set j n, ptrs := s.ptrs.set j p }
def takeD (D : WD) (k : Nat) (s : SpanD) (j : Nat) (n p : Int) : WD :=
  { D with dirty := dirtyUp D.dirty (atW s (j : Int)) n, spans := D.spans.set k (takeS s j n p) }
def TakeOk (D : WD) (n p : Int) : Prop := HeapForm D ∧ 1 ≤ n ∧ n ≤ 16 ∧ 0 ≤ p ∧ p ≤ n
def TakeIs (D : WD) (n p : Int) (D' : WD) (a : Int) (f : Bool) : Prop :=
  (TakeOk D n p ∧ ∃ D1 k j s, PlaceIs D (cl n) D1 k j ∧ D1.spans[k]? = some s ∧ D' = takeD D1 k s j n p ∧ a = D1.base + atW s (j : Int) ∧ f = true) ∨
  ((TakeOk D n p → NoPlace D (cl n)) ∧ D' = zeroD ∧ a = 0 ∧ f = false)
theorem FreePg.unique {D : WD} {k k' : Nat} (h : FreePg D k) (h' : FreePg D k') : k = k' := by
  have key : ∀ {a b : Nat}, FreePg D a → FreePg D b → ¬ a < b := fun {a b} ha hb hlt => by
    obtain ⟨s, hs⟩ : ∃ s, D.spans[a]? = some s := ⟨_, List.getElem?_eq_getElem (by have := hb.1; omega)⟩
    exact ha.2.2 s hs (hb.2.1 a s hlt hs)
  have h1 := key h h'
  have h2 := key h' h
  omega
theorem PlaceIs.unique {D : WD} {c : Int} {D1 D2 : WD} {k j k' j' : Nat} (h : PlaceIs D c D1 k j) (h' : PlaceIs D c D2 k' j') : D2 = D1 ∧ k' = k ∧ j' = j := by
  rcases h with ⟨rfl, s, hs, hc, hj, h0, hb, hf⟩ | ⟨hf, hp, hn, rfl, rfl⟩ <;> rcases h' with ⟨rfl, s', hs', hc', hj', h0', hb', hf'⟩ | ⟨hf', hp', hn', rfl, rfl⟩
  · have e : k' = k := by
      rcases Nat.lt_trichotomy k k' with h | h | h
      · exact absurd h0 (hf' k s h hs hc j hj)
      · exact h.symm
      · exact absurd h0' (hf k' s' h hs' hc' j' hj')
    subst e
    rw [hs] at hs'
    cases hs'
    refine ⟨rfl, rfl, ?_⟩
    rcases Nat.lt_trichotomy j j' with h | h | h
    · exact absurd h0 (hb' j h)
    · exact h.symm
    · exact absurd h0' (hb j' h)
  · exact absurd h0 (hf' k s (List.getElem?_eq_some_iff.1 hs).1 hs hc j hj)
  · exact absurd h0' (hf k' s' (List.getElem?_eq_some_iff.1 hs').1 hs' hc' j' hj')
  · obtain rfl := hp.unique hp'
    exact ⟨rfl, rfl, rfl⟩
theorem PlaceIs.some {D : WD} {c : Int} {D1 : WD} {k j : Nat} (h : PlaceIs D c D1 k j) : ¬ NoPlace D c := by
  rintro ⟨hf, q, hq, hn⟩
  rcases h with ⟨rfl, s, hs, hc, hj, h0, hb, _⟩ | ⟨_, hp, hn', rfl, rfl⟩
  · exact absurd h0 (hf k s (List.getElem?_eq_some_iff.1 hs).1 hs hc j hj)
  · obtain rfl := hp.unique hq
    exact hn' hn
theorem TakeIs.unique {D : WD} {n p : Int} {D1 D2 : WD} {a1 a2 : Int} {f1 f2 : Bool} (h : TakeIs D n p D1 a1 f1) (h' : TakeIs D n p D2 a2 f2) : D2 = D1 ∧ a2 = a1 ∧ f2 = f1 := by
  rcases h with ⟨ok, E, k, j, s, hp, hs, rfl, rfl, rfl⟩ | ⟨hn, rfl, rfl, rfl⟩ <;> rcases h' with ⟨ok', E', k', j', s', hp', hs', rfl, rfl, rfl⟩ | ⟨hn', rfl, rfl, rfl⟩
  · obtain ⟨rfl, rfl, rfl⟩ := hp.unique hp'
    rw [hs] at hs'
    cases hs'
    exact ⟨rfl, rfl, rfl⟩
  · exact absurd (hn' ok) hp.some
  · exact absurd (hn ok') hp'.some
  · exact ⟨rfl, rfl, rfl⟩
theorem takeD_bulk {D : WD} {k j : Nat} {s : SpanD} {n p : Int} (hs : D.spans[k]? = some s) : (takeD D k s j n p).bulk = D.bulk ∧ (takeD D k s j n p).spans.length = D.spans.length := by
  have h1 : bulkS (D.spans.set k (takeS s j n p)) = bulkS D.spans := sum_set _ _ _ _ hs (by simp [takeS, SpanD.bulk])
  refine ⟨?_, by simp [takeD]⟩
  simp only [WD.bulk, takeD, dirtyUp_len, List.length_set, h1]
theorem insD_bulk (D : WD) (c : Int) (k : Nat) : (insD D c k).bulk ≤ D.bulk + 33 ∧ (insD D c k).spans.length ≤ D.spans.length + 1 := by
  have hl : (D.spans.take k ++ freshS D c k :: D.spans.drop k).length = D.spans.length + 1 := by
    have := congrArg List.length (List.take_append_drop k D.spans)
    simp only [List.length_append, List.length_cons] at this ⊢
    omega
  have hb : bulkS (D.spans.take k ++ freshS D c k :: D.spans.drop k) = bulkS D.spans + (freshS D c k).bulk := by
    have := congrArg bulkS (List.take_append_drop k D.spans)
    simp only [bulkS, List.map_append, List.sum_append, List.map_cons, List.sum_cons] at this ⊢
    omega
  have hf : (freshS D c k).bulk ≤ 32 := by
    have := (sl_bd c).2
    simp only [freshS, SpanD.bulk, List.length_replicate]
    omega
  refine ⟨?_, by show (D.spans.take k ++ freshS D c k :: D.spans.drop k).length ≤ _; omega⟩
  simp only [WD.bulk, insD]
  omega
theorem TakeIs.markable {D : WD} {n p : Int} {D' : WD} {a : Int} {f : Bool} (h : TakeIs D n p D' a f) (hs : D.bulk ≤ 1048576) : Markable D' := by
  rcases h with ⟨ok, E, k, j, s, hp, hk, rfl, rfl, rfl⟩ | ⟨hn, rfl, rfl, rfl⟩
  · obtain ⟨h1, h2⟩ := takeD_bulk (j := j) (n := n) (p := p) hk
    have h3 : D.spans.length ≤ D.bulk := by unfold WD.bulk; omega
    refine ⟨?_⟩
    rw [h1, h2]
    rcases hp with ⟨rfl, _⟩ | ⟨_, _, _, rfl, _⟩
    · omega
    · have := insD_bulk D (cl n) k
      omega
  · exact ⟨by decide⟩
theorem cl_ok {n : Int} (h1 : 1 ≤ n) (h2 : n ≤ 16) : 0 ≤ cl n ∧ cl n ≤ 3 ∧ sl' (cl n) ≠ 0 ∧ n ≤ sz (cl n) := by
  unfold cl
  rw [if_neg (by omega)]
  (repeat' split) <;> simp [sl', sz] <;> omega
theorem cl_no {n : Int} (h : n < 1 ∨ 16 < n) : cl n = -1 := by
  unfold cl
  rcases h with h | h
  · rw [if_pos h]
  · rw [if_neg (by omega), if_neg (by omega), if_neg (by omega), if_neg (by omega), if_neg (by omega)]
theorem HeapForm.slotIn {D : WD} (h : HeapForm D) {k j : Nat} {s : SpanD} (hk : D.spans[k]? = some s) (hj : j < s.lens.length) : SlotIn D s j := by
  have A := h.span k s hk
  have g := h.geo
  exact ⟨A.cls, A.lens, A.ptrs, hj, A.pg0, A.pg1, h.words, h.dirty, g.2.2.2.2.1⟩
end Go.Proofs.YtpaepkcfdnddgaaGreat

namespace Go.Proofs.YtpaepkcfdnddgaaGreat
open Go.RowKit
set_option linter.unusedVariables false

end Go.Proofs.YtpaepkcfdnddgaaGreat

namespace Go.Proofs.YtpaepkcfdnddgaaGreat
open Go.RowKit
set_option linter.unusedVariables false
set_option linter.unusedSimpArgs false

set_option maxRecDepth 100000 in
set_option maxHeartbeats 4000000 in
theorem listInt_any (A : Option Addr) (n c : Nat) (news : List Value) (hs : n ≤ 1048576) (w : World) (h : SrcIs w A n 1 news) :
    Calls Tryz.prog 138 #[.slice A n c] w fun e w' => ∃ v, e = .returned v ∧ w'.ownsRow w.heap.size 3 1 v n news ∧ Below w.heap.size w w' := by
  by_cases hn : n = 0
  · subst hn
    obtain rfl : news = [] := List.length_eq_zero_iff.1 (by simpa using h.len)
    clear h
    go_enter Tryz.func138, Tryz.ntmps138
    go_wp2_with fail
    go_ret
    exact ⟨_, rfl, World.ownsRow_nil _ _ _ _, Below.refl _ _⟩
  · have hlen : news.length = n := by have := h.len; omega
    obtain ⟨ad, rfl⟩ : ∃ ad, A = some ad := by
      obtain ⟨a, e, _⟩ := h.at_ 0 news[0] (List.getElem?_eq_getElem (by omega))
      exact ⟨a, e⟩
    have h' := Lib.hid (h.below (below_box w (.cells (madeCells #[.int .i64 0] n) 3)))
    have mk := run_make_row' (P := Tryz.prog) 22 3 (.int .i64 0) 8 Tryz.underlying22 infoInt rfl .i64 .i64 n (by omega) (by omega)
    have hlen' := Lib.hid hlen
    have hnz : ¬ (n : Int) = 0 := by omega
    clear h hlen
    go_enter Tryz.func138, Tryz.ntmps138
    go_wp2_with (first
      | (refine wpList_copy_own rfl (.tmp 10) (.tmp 11) 22 22 rfl 3 Tryz.underlying22 (by kernel_rfl) w.heap.size 0 n n ad n c rfl rfl (madeCells #[.int .i64 0] n) 3 (box_new w _) news (by rw [hlen'.out]; exact (Nat.min_self n).symm) (fun j u hj => (by obtain ⟨a, e, hc⟩ := h'.out.at_ j u hj; cases e; exact hc)) (by rw [hlen'.out]; simp [size_madeCells]) h'.out.one ?_))
    go_ret
    refine ⟨_, rfl, ⟨by simpa using hlen'.out, .inr ⟨w.heap.size, n, _, rfl, Nat.le_refl _, setRow_heap _ _ _ _ _ _ (box_new w _), Nat.le_refl _, by unfold maxLen; omega, ?_, ?_⟩⟩, below_setRow (below_box w _) (Nat.le_refl _) _⟩
    · simp [hlen'.out, size_madeCells]
    · have e : List.drop n (madeCells #[.int .i64 0] n).toList = [] := List.drop_eq_nil_iff.2 (by simp [size_madeCells])
      have hl := hlen'.out
      rw [List.toList_toArray, hl, e, List.append_nil, Nat.mul_one, List.take_of_length_le (by omega)]

set_option maxRecDepth 100000 in
set_option maxHeartbeats 4000000 in
theorem listBool_any (A : Option Addr) (n c : Nat) (news : List Value) (hs : n ≤ 1048576) (w : World) (h : SrcIs w A n 1 news) :
    Calls Tryz.prog 139 #[.slice A n c] w fun e w' => ∃ v, e = .returned v ∧ w'.ownsRow w.heap.size 4 1 v n news ∧ Below w.heap.size w w' := by
  by_cases hn : n = 0
  · subst hn
    obtain rfl : news = [] := List.length_eq_zero_iff.1 (by simpa using h.len)
    clear h
    go_enter Tryz.func139, Tryz.ntmps139
    go_wp2_with fail
    go_ret
    exact ⟨_, rfl, World.ownsRow_nil _ _ _ _, Below.refl _ _⟩
  · have hlen : news.length = n := by have := h.len; omega
    obtain ⟨ad, rfl⟩ : ∃ ad, A = some ad := by
      obtain ⟨a, e, _⟩ := h.at_ 0 news[0] (List.getElem?_eq_getElem (by omega))
      exact ⟨a, e⟩
    have h' := Lib.hid (h.below (below_box w (.cells (madeCells #[.bool false] n) 4)))
    have mk := run_make_row' (P := Tryz.prog) 23 4 (.bool false) 1 Tryz.underlying23 infoBool rfl .i64 .i64 n (by omega) (by omega)
    have hlen' := Lib.hid hlen
    have hnz : ¬ (n : Int) = 0 := by omega
    clear h hlen
    go_enter Tryz.func139, Tryz.ntmps139
    go_wp2_with (first
      | (refine wpList_copy_own rfl (.tmp 10) (.tmp 11) 23 23 rfl 4 Tryz.underlying23 (by kernel_rfl) w.heap.size 0 n n ad n c rfl rfl (madeCells #[.bool false] n) 4 (box_new w _) news (by rw [hlen'.out]; exact (Nat.min_self n).symm) (fun j u hj => (by obtain ⟨a, e, hc⟩ := h'.out.at_ j u hj; cases e; exact hc)) (by rw [hlen'.out]; simp [size_madeCells]) h'.out.one ?_))
    go_ret
    refine ⟨_, rfl, ⟨by simpa using hlen'.out, .inr ⟨w.heap.size, n, _, rfl, Nat.le_refl _, setRow_heap _ _ _ _ _ _ (box_new w _), Nat.le_refl _, by unfold maxLen; omega, ?_, ?_⟩⟩, below_setRow (below_box w _) (Nat.le_refl _) _⟩
    · simp [hlen'.out, size_madeCells]
    · have e : List.drop n (madeCells #[.bool false] n).toList = [] := List.drop_eq_nil_iff.2 (by simp [size_madeCells])
      have hl := hlen'.out
      rw [List.toList_toArray, hl, e, List.append_nil, Nat.mul_one, List.take_of_length_le (by omega)]

set_option maxRecDepth 100000 in
set_option maxHeartbeats 4000000 in
theorem listMut_any (A : Option Addr) (n c : Nat) (news : List Value) (hs : n ≤ 1048576) (w : World) (h : SrcIs w A n 1 news) :
    Calls Tryz.prog 163 #[.slice A n c] w fun e w' => ∃ v, e = .returned v ∧ w'.ownsRow w.heap.size 78 1 v n news ∧ Below w.heap.size w w' := by
  by_cases hn : n = 0
  · subst hn
    obtain rfl : news = [] := List.length_eq_zero_iff.1 (by simpa using h.len)
    clear h
    go_enter Tryz.func163, Tryz.ntmps163
    go_wp2_with fail
    go_ret
    exact ⟨_, rfl, World.ownsRow_nil _ _ _ _, Below.refl _ _⟩
  · have hlen : news.length = n := by have := h.len; omega
    obtain ⟨ad, rfl⟩ : ∃ ad, A = some ad := by
      obtain ⟨a, e, _⟩ := h.at_ 0 news[0] (List.getElem?_eq_getElem (by omega))
      exact ⟨a, e⟩
    have h' := Lib.hid (h.below (below_box w (.cells (madeCells #[.slice none 0 0] n) 78)))
    obtain ⟨i0, hi, hz0, hz1, hz2⟩ := info_parts infoMut
    have mk : ∀ w : World, (Instr.makeSlice 33 (.int .i64 (n : Int)) (.int .i64 (n : Int))).run Tryz.prog w = .ok (.slice (some ⟨w.heap.size, 0, none⟩) n n) (w.alloc (.cells (madeCells #[.slice none 0 0] n) 78)) := fun w => by
      have := run_make (P := Tryz.prog) w 33 78 i0 _ Tryz.underlying33 hi hz0 .i64 .i64 (n : Int) (n : Int) (by omega) (by omega) (by rw [hz2]; omega) (by omega)
      rw [this, hz1]
      simp [show (Value.agg #[.slice none 0 0]).cells = #[.slice none 0 0] from rfl]
    clear hi hz0 hz1 hz2
    have hlen' := Lib.hid hlen
    have hnz : ¬ (n : Int) = 0 := by omega
    clear h hlen
    go_enter Tryz.func163, Tryz.ntmps163
    go_wp2_with (first
      | (refine wpList_copy_own rfl (.tmp 10) (.tmp 11) 33 33 rfl 78 Tryz.underlying33 (by kernel_rfl) w.heap.size 0 n n ad n c rfl rfl (madeCells #[.slice none 0 0] n) 78 (box_new w _) news (by rw [hlen'.out]; exact (Nat.min_self n).symm) (fun j u hj => (by obtain ⟨a, e, hc⟩ := h'.out.at_ j u hj; cases e; exact hc)) (by rw [hlen'.out]; simp [size_madeCells]) h'.out.one ?_))
    go_ret
    refine ⟨_, rfl, ⟨by simpa using hlen'.out, .inr ⟨w.heap.size, n, _, rfl, Nat.le_refl _, setRow_heap _ _ _ _ _ _ (box_new w _), Nat.le_refl _, by unfold maxLen; omega, ?_, ?_⟩⟩, below_setRow (below_box w _) (Nat.le_refl _) _⟩
    · simp [hlen'.out, size_madeCells]
    · have e : List.drop n (madeCells #[.slice none 0 0] n).toList = [] := List.drop_eq_nil_iff.2 (by simp [size_madeCells])
      have hl := hlen'.out
      rw [List.toList_toArray, hl, e, List.append_nil, Nat.mul_one, List.take_of_length_le (by omega)]
end Go.Proofs.YtpaepkcfdnddgaaGreat

namespace Go.Proofs.YtpaepkcfdnddgaaGreat
open Go.RowKit
set_option linter.unusedVariables false

/-- The words, flags and first spans of a copy are owned; no two lists share a block. -/
structure Cop (w : World) (base : Nat) (v1 v2 v3 : Value) (sv : List (Value × Value)) (D : WD) (k : Nat) : Prop where
  words : w.ownsRow base 3 1 v1 D.words.length (D.words.map (Value.int .i64))
  dirty : w.ownsRow base 4 1 v2 D.dirty.length (D.dirty.map Value.bool)
  spans : OwnS w base v3 (D.spans.take k) sv
  nodup : ((v1 :: svInts sv).filterMap Value.ownBlock).Nodup
  lt : ∀ x, x ∈ v1 :: v2 :: v3 :: svInts sv → ∀ q, x.ownBlock = some q → base ≤ q ∧ q < w.heap.size
theorem Cop.kept {w w' : World} {base : Nat} {v1 v2 v3 : Value} {sv : List (Value × Value)} {D : WD} {k : Nat} (h : Cop w base v1 v2 v3 sv D k) {bs : List Nat} (c : Chg bs w w') (hn : ∀ q, q ∈ bs → q < base ∨ w.heap.size ≤ q) : Cop w' base v1 v2 v3 sv D k := by
  have ne : ∀ x, x ∈ v1 :: v2 :: v3 :: svInts sv → ∀ q, x.ownBlock = some q → q ∉ bs := fun x hx q hq hm => by
    have := h.lt x hx q hq
    rcases hn q hm with h | h <;> omega
  exact ⟨own_chg h.words c (ne v1 (by simp)), own_chg h.dirty c (ne v2 (by simp)), h.spans.chg c (ne v3 (by simp)) (fun x hx => ne x (by simp [hx])), h.nodup, fun x hx q hq => by have := h.lt x hx q hq; have := c.size; omega⟩
theorem Cop.grown {w w' : World} {base : Nat} {v1 v2 v3 : Value} {sv : List (Value × Value)} {D : WD} {k : Nat} (h : Cop w base v1 v2 v3 sv D k) {row : Option Nat} (c : w.grownBy w' row) (hn : ∀ q, row = some q → q < base ∨ w.heap.size ≤ q) : Cop w' base v1 v2 v3 sv D k :=
  h.kept (bs := row.toList) (Chg.of_grown c fun x hx => by rw [hx]; simp) fun q hq => hn q (by simpa using hq)
/-- One span more. -/
theorem Cop.snoc {w w' : World} {base : Nat} {v1 v2 v3 v3' : Value} {sv : List (Value × Value)} {D : WD} {k : Nat} (h : Cop w base v1 v2 v3 sv D k) {s : SpanD} (hs : D.spans[k]? = some s) {p : Value × Value} {lo : Nat} (hlo : w.heap.size ≤ lo ∨ True)
    (g : w.grownBy w' v3.ownBlock) (hr : w'.ownsRow base 73 6 v3' ((D.spans.take k).length + 1) (flatV (D.spans.take k) sv ++ spanCv s p)) (h1 : w.ownsRow base 3 1 p.1 s.lens.length (s.lens.map (Value.int .i64))) (h2 : w.ownsRow base 3 1 p.2 s.ptrs.length (s.ptrs.map (Value.int .i64)))
    (hd : (((v1 :: svInts sv) ++ [p.1, p.2]).filterMap Value.ownBlock).Nodup) : Cop w' base v1 v2 v3' (sv ++ [p]) D (k + 1) := by
  obtain ⟨hk, rfl⟩ := List.getElem?_eq_some_iff.1 hs
  have e : D.spans.take (k + 1) = D.spans.take k ++ [D.spans[k]] := List.take_succ_eq_append_getElem hk
  have hl := h.spans.len
  have c : Chg v3.ownBlock.toList w w' := Chg.of_grown g fun x hx => by rw [hx]; simp
  have ty : ∀ {x : Value} {n : Nat} {xs : List Value} {t : TypeId} {sz : Nat}, w.ownsRow base t sz x n xs → t ≠ 73 → ∀ q, x.ownBlock = some q → q ∉ v3.ownBlock.toList := fun hx ht q hq hm => by
    refine own_types hx h.spans.row ht q hq ?_
    cases hv : v3.ownBlock with
    | none => rw [hv] at hm; simp at hm
    | some b => rw [hv] at hm; simp at hm; rw [hm]
  refine ⟨own_chg h.words c (ty h.words (by decide)), own_chg h.dirty c (ty h.dirty (by decide)), ⟨?_, ?_, ?_⟩, ?_, ?_⟩
  · have e2 : flatV [D.spans[k]] [p] = spanCv D.spans[k] p := by simp [flatV]
    rw [e, flatV_app _ _ _ _ hl, e2, List.length_append]
    exact hr
  · rw [e, List.length_append, List.length_append, hl]; rfl
  · intro i s' p' hs' hp'
    rw [e] at hs'
    by_cases hi : i < (D.spans.take k).length
    · rw [List.getElem?_append_left hi] at hs'
      rw [List.getElem?_append_left (by omega)] at hp'
      have := h.spans.inner i s' p' hs' hp'
      exact ⟨own_chg this.1 c (ty this.1 (by decide)), own_chg this.2 c (ty this.2 (by decide))⟩
    · have hi2 : i = (D.spans.take k).length := by
        have := (List.getElem?_eq_some_iff.1 hs').1
        simp at this hi ⊢
        omega
      subst hi2
      rw [List.getElem?_append_right (Nat.le_refl _)] at hs'
      rw [List.getElem?_append_right (by omega)] at hp'
      simp [hl] at hs' hp'
      subst hs'
      subst hp'
      exact ⟨own_chg h1 c (ty h1 (by decide)), own_chg h2 c (ty h2 (by decide))⟩
  · rw [svInts_app]
    exact hd
  · intro x hx q hq
    rw [svInts_app] at hx
    have hz := c.size
    rcases List.mem_cons.1 hx with rfl | hx
    · have := h.lt x (by simp) q hq; omega
    rcases List.mem_cons.1 hx with rfl | hx
    · have := h.lt x (by simp) q hq; omega
    rcases List.mem_cons.1 hx with rfl | hx
    · exact hr.lt q hq
    rcases List.mem_append.1 hx with hx | hx
    · have := h.lt x (by simp [hx]) q hq; omega
    · simp [svInts] at hx
      rcases hx with rfl | rfl
      · have := h1.lt q hq; omega
      · have := h2.lt q hq; omega

theorem own_empty' {w : World} {n : Nat} (hn : w.heap.size = n) (e : TypeId) (size : Nat) : (w.alloc (.cells #[] e)).ownsRow n e size (.slice (some ⟨n, 0, none⟩) 0 0) 0 [] := by subst hn; exact own_empty w e size
/-- The first loop's state: the argument's box, the copy's box, what the copy owns. -/
structure St1 (w wr : World) (A : Array Value) (D : WD) (v1 v2 v3 vm vg : Value) (sv : List (Value × Value)) (k : Nat) : Prop where
  below : Below w.heap.size w wr
  boxA : wr.heap[w.heap.size]? = some (.cells A 36 (0, 0))
  boxR : wr.heap[w.heap.size + 1]? = some (.cells #[.int .i64 0, .int .i64 0, .slice none 0 0, .slice none 0 0, .slice none 0 0, .slice none 0 0, .int .i64 0, .int .i64 0, .slice none 0 0] 36 (0, 0))
  boxC : wr.heap[w.heap.size + 1 + 1]? = some (.cells #[.int .i64 D.base, .int .i64 D.pages, v1, v2, v3, vm, .int .i64 D.phase, .int .i64 D.next, vg] 36 (0, 0))
  size : w.heap.size + 1 + 1 + 1 ≤ wr.heap.size
  cop : Cop wr (w.heap.size + 1 + 1 + 1) v1 v2 v3 sv D k

/-- A store into a block, a new empty row, an append onto it: all else is as it was. -/
theorem step3 {x x' : World} {b i : Nat} {u : Value} {e : TypeId} {cs : Array Value} {T : TypeId} (hb : b < x.heap.size) (hC : x.heap[b]? = some (.cells cs T (0, 0))) (g : ((x.setCell ⟨b, i, none⟩ u).alloc (.cells #[] e)).grownBy x' (some x.heap.size)) :
    x'.heap[b]? = some (.cells (cs.setIfInBounds i u) T (0, 0)) ∧ Chg [b] x x' ∧ x.heap.size < x'.heap.size := by
  have hz := g.size
  simp only [World.size_alloc, World.size_setCell] at hz
  have h1 := heap_setCell_same x b i _ _ u hC
  refine ⟨grown_block g (by simp; omega) (fun r hr => by cases hr; omega) (heap_below (below_box _ _) h1), ?_, by omega⟩
  refine ⟨g.os, g.tape, g.output, by omega, fun k hk hn => ?_⟩
  have hkb : k ≠ b := fun e => hn (by simp [e])
  rw [g.block k (by simp; omega) (fun e => by cases e; omega), (below_box (x.setCell ⟨b, i, none⟩ u) (.cells #[] e)).block k (by simp; omega), heap_setCell_other x ⟨b, i, none⟩ k u (by simpa using hkb)]
theorem step2 {x x' : World} {e : TypeId} (g : (x.alloc (.cells #[] e)).grownBy x' (some x.heap.size)) : Below x.heap.size x x' ∧ x.heap.size < x'.heap.size := by
  have hz := g.size
  simp only [World.size_alloc] at hz
  exact ⟨(below_box x _).grown g (by simp) (fun k hk => by cases hk; exact Nat.le_refl _), by omega⟩

theorem St1.next {w wr w1 w2 w3 : World} {A : Array Value} {D : WD} {v1 v2 v3 vm vg : Value} {sv : List (Value × Value)} {k : Nat} (h : St1 w wr A D v1 v2 v3 vm vg sv k) {s : SpanD} (hs : D.spans[k]? = some s) {S6 X6 : Array Value} {p : Value × Value} {v3' : Value}
    (g1 : ((wr.alloc (.cells S6 73)).alloc (.cells #[] 3)).grownBy w1 (some (wr.heap.size + 1))) (o1 : w1.ownsRow (wr.heap.size + 1) 3 1 p.1 s.lens.length (s.lens.map (Value.int .i64)))
    (g2 : ((w1.setCell ⟨wr.heap.size, 4, none⟩ p.1).alloc (.cells #[] 3)).grownBy w2 (some w1.heap.size)) (o2 : w2.ownsRow w1.heap.size 3 1 p.2 s.ptrs.length (s.ptrs.map (Value.int .i64)))
    (g3 : ((w2.setCell ⟨wr.heap.size, 5, none⟩ p.2).alloc (.cells X6 73)).grownBy w3 v3.ownBlock) (o3 : w3.ownsRow (w.heap.size + 1 + 1 + 1) 73 6 v3' ((D.spans.take k).length + 1) (flatV (D.spans.take k) sv ++ spanCv s p)) :
    St1 w (w3.setCell ⟨w.heap.size + 1 + 1, 4, none⟩ v3') A D v1 v2 v3' vm vg (sv ++ [p]) (k + 1) := by
  have hsz := h.size
  have b1 : Below wr.heap.size wr w1 := (below_trans (below_box wr _) (below_box _ _)).grown g1 (by simp; omega) (fun q hq => by cases hq; omega)
  have z1 := g1.size
  simp only [World.size_alloc] at z1
  have c1 : Cop w1 (w.heap.size + 1 + 1 + 1) v1 v2 v3 sv D k := h.cop.kept (bs := []) ⟨b1.os, b1.tape, b1.output, b1.size, fun q hq _ => b1.block q hq⟩ (fun q hq => by cases hq)
  have t1 : w1.heap[wr.heap.size]? = some (.cells S6 73 (0, 0)) := grown_block g1 (by simp; omega) (fun r hr => by cases hr; omega) (heap_below (below_box _ _) (box_new wr _))
  obtain ⟨t2, k2, z2⟩ := step3 (by omega) t1 g2
  have hc2 : Chg [wr.heap.size] w1 w2 := k2
  have c2 : Cop w2 (w.heap.size + 1 + 1 + 1) v1 v2 v3 sv D k := by
    refine ⟨own_chg c1.words hc2 fun q hq hm => ?_, own_chg c1.dirty hc2 fun q hq hm => ?_, c1.spans.chg hc2 (fun q hq hm => ?_) (fun x hx q hq hm => ?_), c1.nodup, fun x hx q hq => by have := c1.lt x hx q hq; have := hc2.size; omega⟩
    all_goals (rw [List.mem_singleton.1 hm] at hq)
    · have := (h.cop.lt v1 (by simp) _ hq).2; omega
    · have := (h.cop.lt v2 (by simp) _ hq).2; omega
    · have := (h.cop.lt v3 (by simp) _ hq).2; omega
    · have := (h.cop.lt x (by simp [hx]) _ hq).2; omega
  have o12 : w2.ownsRow (wr.heap.size + 1) 3 1 p.1 s.lens.length (s.lens.map (Value.int .i64)) := own_chg o1 hc2 fun q hq hm => by
    have := (o1.lt q hq).1
    rw [List.mem_singleton.1 hm] at this
    omega
  -- the store into the span's box, the new row of one
  have z3 := g3.size
  simp only [World.size_alloc, World.size_setCell] at z3
  have m3 : ∀ {y : World}, y = (w2.setCell ⟨wr.heap.size, 5, none⟩ p.2).alloc (.cells X6 73) → Chg [wr.heap.size] w2 y := fun {y} e => by
    subst e
    refine (Chg.of_grown (grown_set w2 wr.heap.size 5 p.2) (by simp)).trans ?_
    exact Chg.of_below (below_box _ _) _
  have hc3 := m3 rfl
  have own3 : ∀ {x : Value} {n : Nat} {xs : List Value} {t : TypeId} {sz b : Nat}, w2.ownsRow b t sz x n xs → (∀ q, x.ownBlock = some q → q ≠ wr.heap.size) → ((w2.setCell ⟨wr.heap.size, 5, none⟩ p.2).alloc (.cells X6 73)).ownsRow b t sz x n xs := fun hx hn => own_chg hx hc3 fun q hq hm => hn q hq (List.mem_singleton.1 hm)
  have lt3 : ∀ x, x ∈ v1 :: v2 :: v3 :: svInts sv → ∀ q, x.ownBlock = some q → q ≠ wr.heap.size := fun x hx q hq => by have := (h.cop.lt x hx q hq).2; omega
  have c3 : Cop ((w2.setCell ⟨wr.heap.size, 5, none⟩ p.2).alloc (.cells X6 73)) (w.heap.size + 1 + 1 + 1) v1 v2 v3 sv D k :=
    ⟨own3 c2.words (lt3 v1 (by simp)), own3 c2.dirty (lt3 v2 (by simp)), c2.spans.chg hc3 (fun q hq hm => lt3 v3 (by simp) q hq (List.mem_singleton.1 hm)) (fun x hx q hq hm => lt3 x (by simp [hx]) q hq (List.mem_singleton.1 hm)), c2.nodup,
      fun x hx q hq => by have := c2.lt x hx q hq; have := hc3.size; omega⟩
  have p1 := own_base (own3 o12 fun q hq => by have := (o1.lt q hq).1; omega) (show w.heap.size + 1 + 1 + 1 ≤ wr.heap.size + 1 by omega)
  have p2 := own_base (own3 o2 fun q hq => by have := (o2.lt q hq).1; omega) (show w.heap.size + 1 + 1 + 1 ≤ w1.heap.size by omega)
  have nd : (((v1 :: svInts sv) ++ [p.1, p.2]).filterMap Value.ownBlock).Nodup := by
    rw [List.filterMap_append, List.nodup_append]
    refine ⟨h.cop.nodup, ?_, fun a ha b hb e => ?_⟩
    · have : ∀ q r, p.1.ownBlock = some q → p.2.ownBlock = some r → q ≠ r := fun q r hq hr => by
        have := (o1.lt q hq).2
        have := (o2.lt r hr).1
        omega
      cases h1 : p.1.ownBlock with
      | none => cases h2 : p.2.ownBlock <;> simp [h1, h2]
      | some q => cases h2 : p.2.ownBlock with
        | none => simp [h1, h2]
        | some r => simp [h1, h2, this q r h1 h2]
    · obtain ⟨x, hx, hxa⟩ := List.mem_filterMap.1 ha
      have l1 : a < wr.heap.size := by
        rcases List.mem_cons.1 hx with rfl | hx
        · exact (h.cop.lt x (by simp) a hxa).2
        · exact (h.cop.lt x (by simp [hx]) a hxa).2
      obtain ⟨y, hy, hyb⟩ := List.mem_filterMap.1 hb
      simp at hy
      rcases hy with rfl | rfl
      · have := (o1.lt b hyb).1; omega
      · have := (o2.lt b hyb).1; omega
  have c4 : Cop w3 (w.heap.size + 1 + 1 + 1) v1 v2 v3' (sv ++ [p]) D (k + 1) := c3.snoc hs (lo := 0) (.inr trivial) g3 o3 p1 p2 nd
  have hB3 : w.heap.size + 1 + 1 < wr.heap.size := by omega
  have keep : ∀ {b : Nat} {o : Obj}, b < w.heap.size + 1 + 1 + 1 → wr.heap[b]? = some o → w3.heap[b]? = some o := fun {b o} hb ho => by
    refine grown_block g3 (by simp; omega) (fun r hr => by have := (h.cop.lt v3 (by simp) r hr).1; omega) ?_
    refine heap_below (below_box _ _) ?_
    rw [heap_setCell_other w2 ⟨wr.heap.size, 5, none⟩ b p.2 (by simp; omega), k2.block b (by omega) (by simp; omega)]
    exact heap_below b1 ho
  have bA := keep (by omega) h.boxA
  have bC := keep (by omega) h.boxC
  have bR := keep (by omega) h.boxR
  refine ⟨?_, ?_, ?_, ?_, by simp; omega, ?_⟩
  · have e1 : Below w.heap.size w w1 := h.below.trans (b1.mono (by omega))
    have e2 : Below w.heap.size w w2 := Chg.below e1 hc2 (by omega) (fun x hx => by rw [List.mem_singleton.1 hx]; omega)
    have e3 := Chg.below e2 hc3 (by omega) (fun x hx => by rw [List.mem_singleton.1 hx]; omega)
    have e4 : Below w.heap.size w w3 := e3.grown g3 (by simp; omega) (fun q hq => by have := (h.cop.lt v3 (by simp) q hq).1; omega)
    exact e4.setCell (p := ⟨w.heap.size + 1 + 1, 4, none⟩) (by simp; omega) _
  · rw [heap_setCell_other w3 ⟨w.heap.size + 1 + 1, 4, none⟩ w.heap.size v3' (by simp; omega)]
    exact bA
  · rw [heap_setCell_other w3 ⟨w.heap.size + 1 + 1, 4, none⟩ (w.heap.size + 1) v3' (by simp)]
    exact bR
  · exact heap_setCell_same w3 (w.heap.size + 1 + 1) 4 _ _ v3' bC
  · exact c4.kept (Chg.of_grown (grown_set w3 (w.heap.size + 1 + 1) 4 v3') (bs := [w.heap.size + 1 + 1]) (by simp)) (fun q hq => by rw [List.mem_singleton.1 hq]; omega)
end Go.Proofs.YtpaepkcfdnddgaaGreat

namespace Go.Proofs.YtpaepkcfdnddgaaGreat
open Go.RowKit
set_option linter.unusedVariables false

theorem step2n {x x' : World} {e : TypeId} {n : Nat} (hn : x.heap.size = n) (g : (x.alloc (.cells #[] e)).grownBy x' (some n)) : Below x.heap.size x x' ∧ n < x'.heap.size := by subst hn; exact step2 g

theorem St1.start {w w1 w2 : World} {A : Array Value} {D : WD} {v1 v2 vs vm vg vw vd : Value}
    (hA : (((w.alloc (.cells A 36)).alloc (.cells #[.int .i64 0, .int .i64 0, .slice none 0 0, .slice none 0 0, .slice none 0 0, .slice none 0 0, .int .i64 0, .int .i64 0, .slice none 0 0] 36)).alloc (.cells #[.int .i64 D.base, .int .i64 D.pages, vw, vd, vs, vm, .int .i64 D.phase, .int .i64 D.next, vg] 36)).heap[w.heap.size]? = some (.cells A 36 (0, 0)))
    (hR : (((w.alloc (.cells A 36)).alloc (.cells #[.int .i64 0, .int .i64 0, .slice none 0 0, .slice none 0 0, .slice none 0 0, .slice none 0 0, .int .i64 0, .int .i64 0, .slice none 0 0] 36)).alloc (.cells #[.int .i64 D.base, .int .i64 D.pages, vw, vd, vs, vm, .int .i64 D.phase, .int .i64 D.next, vg] 36)).heap[w.heap.size + 1]? = some (.cells #[.int .i64 0, .int .i64 0, .slice none 0 0, .slice none 0 0, .slice none 0 0, .slice none 0 0, .int .i64 0, .int .i64 0, .slice none 0 0] 36 (0, 0)))
    (hC : (((w.alloc (.cells A 36)).alloc (.cells #[.int .i64 0, .int .i64 0, .slice none 0 0, .slice none 0 0, .slice none 0 0, .slice none 0 0, .int .i64 0, .int .i64 0, .slice none 0 0] 36)).alloc (.cells #[.int .i64 D.base, .int .i64 D.pages, vw, vd, vs, vm, .int .i64 D.phase, .int .i64 D.next, vg] 36)).heap[w.heap.size + 1 + 1]? = some (.cells #[.int .i64 D.base, .int .i64 D.pages, vw, vd, vs, vm, .int .i64 D.phase, .int .i64 D.next, vg] 36 (0, 0)))
    (hb : Below w.heap.size w (((w.alloc (.cells A 36)).alloc (.cells #[.int .i64 0, .int .i64 0, .slice none 0 0, .slice none 0 0, .slice none 0 0, .slice none 0 0, .int .i64 0, .int .i64 0, .slice none 0 0] 36)).alloc (.cells #[.int .i64 D.base, .int .i64 D.pages, vw, vd, vs, vm, .int .i64 D.phase, .int .i64 D.next, vg] 36)))
    (g1 : ((((w.alloc (.cells A 36)).alloc (.cells #[.int .i64 0, .int .i64 0, .slice none 0 0, .slice none 0 0, .slice none 0 0, .slice none 0 0, .int .i64 0, .int .i64 0, .slice none 0 0] 36)).alloc (.cells #[.int .i64 D.base, .int .i64 D.pages, vw, vd, vs, vm, .int .i64 D.phase, .int .i64 D.next, vg] 36)).alloc (.cells #[] 3)).grownBy w1 (some (w.heap.size + 1 + 1 + 1)))
    (o1 : w1.ownsRow (w.heap.size + 1 + 1 + 1) 3 1 v1 D.words.length (D.words.map (Value.int .i64)))
    (g2 : ((w1.setCell ⟨w.heap.size + 1 + 1, 2, none⟩ v1).alloc (.cells #[] 4)).grownBy w2 (some w1.heap.size))
    (o2 : w2.ownsRow w1.heap.size 4 1 v2 D.dirty.length (D.dirty.map Value.bool)) :
    St1 w ((w2.setCell ⟨w.heap.size + 1 + 1, 3, none⟩ v2).setCell ⟨w.heap.size + 1 + 1, 4, none⟩ (.slice none 0 0)) A D v1 v2 (.slice none 0 0) vm vg [] 0 := by
  generalize hW : ((w.alloc (.cells A 36)).alloc (.cells #[.int .i64 0, .int .i64 0, .slice none 0 0, .slice none 0 0, .slice none 0 0, .slice none 0 0, .int .i64 0, .int .i64 0, .slice none 0 0] 36)).alloc (.cells #[.int .i64 D.base, .int .i64 D.pages, vw, vd, vs, vm, .int .i64 D.phase, .int .i64 D.next, vg] 36) = W at *
  have hz : W.heap.size = w.heap.size + 1 + 1 + 1 := by rw [← hW]; simp
  obtain ⟨b1, z1⟩ := step2 (by rw [hz]; exact g1)
  have A1 := heap_below b1 hA
  have R1 := heap_below b1 hR
  have C1 := heap_below b1 hC
  obtain ⟨C2, k2, z2⟩ := step3 (by omega) C1 g2
  have A2 : w2.heap[w.heap.size]? = some (.cells A 36 (0, 0)) := (k2.block _ (by omega) (by simp only [List.mem_singleton]; omega)).trans A1
  have C3 := heap_setCell_same w2 (w.heap.size + 1 + 1) 3 _ _ v2 C2
  have C4 := heap_setCell_same (w2.setCell ⟨w.heap.size + 1 + 1, 3, none⟩ v2) (w.heap.size + 1 + 1) 4 _ _ (.slice none 0 0) C3
  have kk : Chg [w.heap.size + 1 + 1] w2 ((w2.setCell ⟨w.heap.size + 1 + 1, 3, none⟩ v2).setCell ⟨w.heap.size + 1 + 1, 4, none⟩ (.slice none 0 0)) :=
    (Chg.of_grown (grown_set w2 (w.heap.size + 1 + 1) 3 v2) (by simp)).trans (Chg.of_grown (grown_set (w2.setCell ⟨w.heap.size + 1 + 1, 3, none⟩ v2) (w.heap.size + 1 + 1) 4 (.slice none 0 0)) (by simp))
  have l1 : ∀ q, v1.ownBlock = some q → w.heap.size + 1 + 1 + 1 ≤ q ∧ q < w1.heap.size := o1.lt
  have l2 : ∀ q, v2.ownBlock = some q → w1.heap.size ≤ q ∧ q < w2.heap.size := o2.lt
  refine ⟨?_, ?_, ?_, C4, by simp; omega, ⟨?_, ?_, ⟨World.ownsRow_nil _ _ _ _, rfl, fun i s p hs => by simp at hs⟩, ?_, ?_⟩⟩
  · have e1 : Below w.heap.size w w1 := hb.trans (b1.mono (by omega))
    have e2 := Chg.below e1 k2 (by omega) (fun x hx => by rw [List.mem_singleton.1 hx]; omega)
    exact Chg.below e2 kk (by omega) (fun x hx => by rw [List.mem_singleton.1 hx]; omega)
  · exact (kk.block _ (by omega) (by simp only [List.mem_singleton]; omega)).trans A2
  · exact (kk.block _ (by omega) (by simp only [List.mem_singleton]; omega)).trans ((k2.block _ (by omega) (by simp only [List.mem_singleton]; omega)).trans R1)
  · refine own_chg (own_chg o1 k2 fun q hq hm => ?_) kk fun q hq hm => ?_
    all_goals (rw [List.mem_singleton.1 hm] at hq; have := l1 _ hq; omega)
  · refine own_base (own_chg o2 kk fun q hq hm => ?_) (by omega)
    rw [List.mem_singleton.1 hm] at hq; have := l2 _ hq; omega
  · cases h : v1.ownBlock <;> simp [svInts, h]
  · intro x hx q hq
    have hz3 := kk.size
    simp only [svInts, List.flatMap_nil, List.mem_cons, List.not_mem_nil, or_false] at hx
    rcases hx with rfl | rfl | rfl
    · have := l1 q hq; omega
    · have := l2 q hq; omega
    · cases hq

theorem src_span (w2 : World) (at_ : Addr) (u : Value) (s : SpanD) (a3 a4 : Option Addr) (n3 n4 c3 c4 : Nat) : SrcIs ((w2.setCell at_ u).alloc (.cells #[.int .i64 s.page, .int .i64 s.cls, .int .i64 s.mark, .bool s.swept, .slice a3 n3 c3, .slice a4 n4 c4] 73)) (some ⟨w2.heap.size, 0, none⟩) 1 6 (spanCv s (.slice a3 n3 c3, .slice a4 n4 c4)) := by
  have := src_box (w2.setCell at_ u) (cs := #[.int .i64 s.page, .int .i64 s.cls, .int .i64 s.mark, .bool s.swept, .slice a3 n3 c3, .slice a4 n4 c4]) (T := 73) (m := 1) (size := 6) rfl (by
    intro u hu
    simp only [List.mem_cons, List.not_mem_nil, or_false] at hu
    rcases hu with rfl | rfl | rfl | rfl | rfl | rfl <;> rfl)
  rwa [World.size_setCell] at this
/-- A box, a new row in it: the second append's world. -/
theorem St1.at1 {wr w1 : World} {S6 : Array Value} {T e : TypeId} (g1 : ((wr.alloc (.cells S6 T)).alloc (.cells #[] e)).grownBy w1 (some (wr.heap.size + 1))) :
    w1.heap[wr.heap.size]? = some (.cells S6 T (0, 0)) ∧ Below wr.heap.size wr w1 ∧ wr.heap.size + 1 < w1.heap.size := by
  have hz : (wr.alloc (.cells S6 T)).heap.size = wr.heap.size + 1 := by simp
  obtain ⟨b, z⟩ := step2n hz g1
  exact ⟨heap_below b (box_new wr _), below_trans (below_box wr _) b, z⟩
theorem St1.at2 {wr w1 w2 : World} {S6 : Array Value} {T e : TypeId} {u : Value} {i : Nat} (h1 : w1.heap[wr.heap.size]? = some (.cells S6 T (0, 0))) (b1 : Below wr.heap.size wr w1) (hz : wr.heap.size + 1 < w1.heap.size)
    (g2 : ((w1.setCell ⟨wr.heap.size, i, none⟩ u).alloc (.cells #[] e)).grownBy w2 (some w1.heap.size)) :
    w2.heap[wr.heap.size]? = some (.cells (S6.setIfInBounds i u) T (0, 0)) ∧ Below wr.heap.size wr w2 ∧ w1.heap.size < w2.heap.size := by
  obtain ⟨t2, k2, z2⟩ := step3 (by omega) h1 g2
  exact ⟨t2, Chg.below b1 k2 (by omega) (fun x hx => by rw [List.mem_singleton.1 hx]; omega), z2⟩
theorem St1.at3 {wr w2 : World} (b2 : Below wr.heap.size wr w2) {i : Nat} {u : Value} {X : Array Value} {T : TypeId} : Below wr.heap.size wr ((w2.setCell ⟨wr.heap.size, i, none⟩ u).alloc (.cells X T)) :=
  (b2.setCell (p := ⟨wr.heap.size, i, none⟩) (Nat.le_refl _) u).trans ((below_box _ _).mono (by simpa using b2.size))
end Go.Proofs.YtpaepkcfdnddgaaGreat

namespace Go.Proofs.YtpaepkcfdnddgaaGreat
open Go.RowKit
set_option linter.unusedVariables false

/-- The second loop's state. -/
structure St2 (w wr : World) (A : Array Value) (D : WD) (v1 v2 v3 v5 vg : Value) (sv : List (Value × Value)) (mv : List Value) (k : Nat) : Prop where
  below : Below w.heap.size w wr
  boxA : wr.heap[w.heap.size]? = some (.cells A 36 (0, 0))
  boxR : wr.heap[w.heap.size + 1]? = some (.cells #[.int .i64 0, .int .i64 0, .slice none 0 0, .slice none 0 0, .slice none 0 0, .slice none 0 0, .int .i64 0, .int .i64 0, .slice none 0 0] 36 (0, 0))
  boxC : wr.heap[w.heap.size + 1 + 1]? = some (.cells #[.int .i64 D.base, .int .i64 D.pages, v1, v2, v3, v5, .int .i64 D.phase, .int .i64 D.next, vg] 36 (0, 0))
  size : w.heap.size + 1 + 1 + 1 ≤ wr.heap.size
  words : wr.ownsRow (w.heap.size + 1 + 1 + 1) 3 1 v1 D.words.length (D.words.map (Value.int .i64))
  dirty : wr.ownsRow (w.heap.size + 1 + 1 + 1) 4 1 v2 D.dirty.length (D.dirty.map Value.bool)
  spans : OwnS wr (w.heap.size + 1 + 1 + 1) v3 D.spans sv
  muts : OwnM wr (w.heap.size + 1 + 1 + 1) v5 (D.muts.take k) mv
  nodup : ((v1 :: svInts sv ++ mv).filterMap Value.ownBlock).Nodup
  lt : ∀ x, x ∈ v1 :: v2 :: v3 :: v5 :: (svInts sv ++ mv) → ∀ q, x.ownBlock = some q → w.heap.size + 1 + 1 + 1 ≤ q ∧ q < wr.heap.size

theorem OwnS.below {w w' : World} {base : Nat} {v : Value} {L : List SpanD} {sv : List (Value × Value)} (h : OwnS w base v L sv) (hb : Below w.heap.size w w') : OwnS w' base v L sv := h.chg (Chg.of_below hb []) (fun _ _ => by simp) (fun _ _ _ _ => by simp)
theorem St2.start {w wr : World} {A : Array Value} {D : WD} {v1 v2 v3 vm vg : Value} {sv : List (Value × Value)} (h : St1 w wr A D v1 v2 v3 vm vg sv D.spans.length) :
    St2 w (wr.setCell ⟨w.heap.size + 1 + 1, 5, none⟩ (.slice none 0 0)) A D v1 v2 v3 (.slice none 0 0) vg sv [] 0 := by
  have c : Chg [w.heap.size + 1 + 1] wr (wr.setCell ⟨w.heap.size + 1 + 1, 5, none⟩ (.slice none 0 0)) := Chg.of_grown (grown_set wr (w.heap.size + 1 + 1) 5 (.slice none 0 0)) (by simp)
  have hs := h.size
  have k := h.cop.kept c (fun q hq => by rw [List.mem_singleton.1 hq]; omega)
  have e : D.spans.take D.spans.length = D.spans := List.take_length
  refine ⟨h.below.setCell (p := ⟨w.heap.size + 1 + 1, 5, none⟩) (by simp; omega) _, ?_, ?_, heap_setCell_same wr (w.heap.size + 1 + 1) 5 _ _ _ h.boxC, by simpa using hs, k.words, k.dirty, by have := k.spans; rwa [e] at this, ⟨World.ownsRow_nil _ _ _ _, rfl, fun i r u hr => by simp at hr⟩, by simpa using k.nodup, fun x hx q hq => ?_⟩
  · rw [heap_setCell_other wr ⟨w.heap.size + 1 + 1, 5, none⟩ w.heap.size _ (by simp; omega)]
    exact h.boxA
  · rw [heap_setCell_other wr ⟨w.heap.size + 1 + 1, 5, none⟩ (w.heap.size + 1) _ (by simp)]
    exact h.boxR
  · simp only [List.append_nil, List.mem_cons] at hx
    rcases hx with rfl | rfl | rfl | rfl | hx
    · exact k.lt _ (by simp) q hq
    · exact k.lt _ (by simp) q hq
    · exact k.lt _ (by simp) q hq
    · cases hq
    · exact k.lt _ (by simp [hx]) q hq

theorem St2.next {w wr y0 w1 y1 w2 wF : World} {A : Array Value} {D : WD} {v1 v2 v3 v5 vg v5' u : Value} {sv : List (Value × Value)} {mv : List Value} {k : Nat} (h : St2 w wr A D v1 v2 v3 v5 vg sv mv k) {r : List Int} (hr : D.muts[k]? = some r)
    (hy0 : Below wr.heap.size wr y0) (g1 : y0.grownBy w1 (some wr.heap.size)) (o1 : w1.ownsRow wr.heap.size 3 1 u r.length (r.map (Value.int .i64)))
    (hy1 : Below w1.heap.size w1 y1) (g2 : y1.grownBy w2 v5.ownBlock) (o2 : w2.ownsRow (w.heap.size + 1 + 1 + 1) 78 1 v5' ((D.muts.take k).length + 1) (mv ++ [u]))
    (hF : Chg [w.heap.size + 1 + 1] w2 wF) (hC : wF.heap[w.heap.size + 1 + 1]? = some (.cells #[.int .i64 D.base, .int .i64 D.pages, v1, v2, v3, v5', .int .i64 D.phase, .int .i64 D.next, vg] 36 (0, 0))) :
    St2 w wF A D v1 v2 v3 v5' vg sv (mv ++ [u]) (k + 1) := by
  obtain ⟨hk, rfl⟩ := List.getElem?_eq_some_iff.1 hr
  have hsz := h.size
  have b1 : Below wr.heap.size wr w1 := hy0.grown g1 hy0.size (fun q hq => by cases hq; exact Nat.le_refl _)
  have b2 : Below wr.heap.size wr y1 := b1.trans (hy1.mono b1.size)
  have c2 : Chg v5.ownBlock.toList y1 w2 := Chg.of_grown g2 fun x hx => by rw [hx]; simp
  have e : D.muts.take (k + 1) = D.muts.take k ++ [D.muts[k]] := List.take_succ_eq_append_getElem hk
  have hl := h.muts.len
  have m1 := h.muts.below b2
  have ty : ∀ {x : Value} {n : Nat} {xs : List Value} {t : TypeId} {sz b : Nat}, y1.ownsRow b t sz x n xs → t ≠ 78 → ∀ q, x.ownBlock = some q → q ∉ v5.ownBlock.toList := fun hx ht q hq hm => by
    refine own_types hx m1.row ht q hq ?_
    cases hv : v5.ownBlock with
    | none => rw [hv] at hm; simp at hm
    | some b => rw [hv] at hm; simp at hm; rw [hm]
  have fin : ∀ {x : Value} {n b : Nat} {xs : List Value} {t : TypeId} {sz : Nat}, y1.ownsRow b t sz x n xs → t ≠ 78 → w.heap.size + 1 + 1 + 1 ≤ b → wF.ownsRow b t sz x n xs := fun hx ht hb =>
    own_chg (own_chg hx c2 (ty hx ht)) hF fun q hq hm => by have := (hx.lt q hq).1; rw [List.mem_singleton.1 hm] at this; omega
  have o1' := own_below o1 hy1
  have u1 := fin o1' (by decide) hsz
  have z1 := b1.size
  have z2 := b2.size
  have z3 := c2.size
  have z4 := hF.size
  have z5 := hy1.size
  have hlt : ∀ x, x ∈ v1 :: v2 :: v3 :: v5 :: (svInts sv ++ mv) → ∀ q, x.ownBlock = some q → w.heap.size + 1 + 1 + 1 ≤ q ∧ q < wF.heap.size := fun x hx q hq => by have := h.lt x hx q hq; omega
  refine ⟨?_, ?_, ?_, hC, by omega, fin (own_below h.words b2) (by decide) (Nat.le_refl _), fin (own_below h.dirty b2) (by decide) (Nat.le_refl _), ?_, ⟨?_, by rw [e, List.length_append, List.length_append, hl]; rfl, ?_⟩, ?_, ?_⟩
  · have e1 : Below w.heap.size w y1 := h.below.trans (b2.mono (by omega))
    have e2 : Below w.heap.size w w2 := e1.grown g2 (by omega) (fun q hq => by have := (h.lt v5 (by simp) q hq).1; omega)
    exact Chg.below e2 hF (by omega) (fun x hx => by rw [List.mem_singleton.1 hx]; omega)
  · rw [hF.block _ (by omega) (by simp only [List.mem_singleton]; omega)]
    exact grown_block g2 (by omega) (fun q hq => by have := (h.lt v5 (by simp) q hq).1; omega) (heap_below b2 h.boxA)
  · rw [hF.block _ (by omega) (by simp only [List.mem_singleton]; omega)]
    exact grown_block g2 (by omega) (fun q hq => by have := (h.lt v5 (by simp) q hq).1; omega) (heap_below b2 h.boxR)
  · refine ⟨fin (own_below h.spans.row b2) (by decide) (Nat.le_refl _), h.spans.len, fun i s p hs hp => ?_⟩
    have := (h.spans.below b2).inner i s p hs hp
    exact ⟨fin this.1 (by decide) (Nat.le_refl _), fin this.2 (by decide) (Nat.le_refl _)⟩
  · rw [e, List.length_append]
    exact own_chg o2 hF fun q hq hm => by have := (o2.lt q hq).1; rw [List.mem_singleton.1 hm] at this; omega
  · intro i r' u' hr' hu'
    rw [e] at hr'
    by_cases hi : i < (D.muts.take k).length
    · rw [List.getElem?_append_left hi] at hr'
      rw [List.getElem?_append_left (by omega)] at hu'
      exact fin (m1.inner i r' u' hr' hu') (by decide) (Nat.le_refl _)
    · have hi2 : i = (D.muts.take k).length := by
        have := (List.getElem?_eq_some_iff.1 hr').1
        simp at this hi ⊢
        omega
      subst hi2
      rw [List.getElem?_append_right (Nat.le_refl _)] at hr'
      rw [List.getElem?_append_right (by omega)] at hu'
      simp [hl] at hr' hu'
      subst hr'
      subst hu'
      exact own_base u1 hsz
  · rw [← List.append_assoc, List.filterMap_append, List.nodup_append]
    refine ⟨h.nodup, by cases hq : u.ownBlock <;> simp [hq], fun a ha b hb eab => ?_⟩
    obtain ⟨x, hx, hxa⟩ := List.mem_filterMap.1 ha
    have l1 : a < wr.heap.size := (h.lt x (by
      simp only [List.cons_append, List.mem_cons] at hx ⊢
      rcases hx with rfl | hx
      · exact .inl rfl
      · exact .inr (.inr (.inr (.inr hx)))) a hxa).2
    obtain ⟨y, hy, hyb⟩ := List.mem_filterMap.1 hb
    rw [List.mem_singleton] at hy
    subst hy
    have := (o1.lt b hyb).1
    omega
  · intro x hx q hq
    simp only [List.mem_cons, List.mem_append, List.not_mem_nil, or_false] at hx
    rcases hx with rfl | rfl | rfl | rfl | hx | hx | rfl
    · exact hlt _ (by simp) q hq
    · exact hlt _ (by simp) q hq
    · exact hlt _ (by simp) q hq
    · have := o2.lt q hq; omega
    · exact hlt _ (by simp [hx]) q hq
    · exact hlt _ (by simp [hx]) q hq
    · have := u1.lt q hq; omega

/-- The end: all lists owned. -/
theorem St2.own {w wr : World} {A : Array Value} {D : WD} {v1 v2 v3 v5 vg vg' : Value} {sv : List (Value × Value)} {mv : List Value} (h : St2 w wr A D v1 v2 v3 v5 vg sv mv D.muts.length) {y0 w1 : World}
    (hy0 : Below wr.heap.size wr y0) (g1 : y0.grownBy w1 (some wr.heap.size)) (o1 : w1.ownsRow wr.heap.size 3 1 vg' D.grey.length (D.grey.map (Value.int .i64))) {wF : World} {bs : List Nat} (hF : Chg bs w1 wF) (hbs : ∀ q, q ∈ bs → q < w.heap.size + 1 + 1 + 1 ∧ w.heap.size ≤ q) :
    OwnW wF w.heap.size ⟨v1, v2, v3, v5, vg', sv, mv⟩ D ∧ Below w.heap.size w wF := by
  have hsz := h.size
  have b1 : Below wr.heap.size wr w1 := hy0.grown g1 hy0.size (fun q hq => by cases hq; exact Nat.le_refl _)
  have z1 := b1.size
  have fin : ∀ {x : Value} {n b : Nat} {xs : List Value} {t : TypeId} {sz : Nat}, w1.ownsRow b t sz x n xs → w.heap.size + 1 + 1 + 1 ≤ b → wF.ownsRow w.heap.size t sz x n xs := fun hx hb =>
    own_base (own_chg hx hF fun q hq hm => by have := (hx.lt q hq).1; have := (hbs q hm).1; omega) (by omega)
  have e : D.muts.take D.muts.length = D.muts := List.take_length
  have m := h.muts.below b1
  rw [e] at m
  have s := h.spans.below b1
  refine ⟨⟨fin (own_below h.words b1) (Nat.le_refl _), fin (own_below h.dirty b1) (Nat.le_refl _), fin s.row (Nat.le_refl _), s.len, fun i s' p h1 h2 => ⟨fin (s.inner i s' p h1 h2).1 (Nat.le_refl _), fin (s.inner i s' p h1 h2).2 (Nat.le_refl _)⟩, fin m.row (Nat.le_refl _), m.len, fun i r v h1 h2 => fin (m.inner i r v h1 h2) (Nat.le_refl _), fin o1 hsz, ?_⟩, Chg.below (h.below.trans (b1.mono (by omega))) hF (by have := h.below.size; omega) (fun q hq => (hbs q hq).2)⟩
  show ((v1 :: svInts sv ++ mv ++ [vg']).filterMap Value.ownBlock).Nodup
  rw [List.filterMap_append, List.nodup_append]
  refine ⟨h.nodup, by cases hq : vg'.ownBlock <;> simp [hq], fun a ha b hb eab => ?_⟩
  obtain ⟨x, hx, hxa⟩ := List.mem_filterMap.1 ha
  have l1 : a < wr.heap.size := (h.lt x (by
    simp only [List.cons_append, List.mem_cons] at hx ⊢
    rcases hx with rfl | hx
    · exact .inl rfl
    · exact .inr (.inr (.inr (.inr hx)))) a hxa).2
  obtain ⟨y, hy, hyb⟩ := List.mem_filterMap.1 hb
  rw [List.mem_singleton] at hy
  subst hy
  have := (o1.lt b hyb).1
  omega
end Go.Proofs.YtpaepkcfdnddgaaGreat

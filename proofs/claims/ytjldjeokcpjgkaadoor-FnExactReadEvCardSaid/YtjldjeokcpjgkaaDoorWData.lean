/-
  What a World is as plain data, and what it means that a value in memory reads as such data.
-/
import Derived.Test.YtjldjeokcpjgkaaDoorRows
import Derived.WalkKit
import Derived.ProofKit
import Derived.BigQuiet
import Derived.Lib.Hide
import Derived.Deep.QuietTactic
import Derived.WalkSmall
import Derived.OwnWalk
import Derived.Laws.OwnMore
import Derived.LoopTactic
import Derived.Below
namespace Go.Proofs.YtjldjeokcpjgkaaDoor
open Go.RowKit
set_option linter.unusedVariables false

structure SpanD where
  page : Int
  cls : Int
  mark : Int
  swept : Bool
  lens : List Int
  ptrs : List Int
structure WD where
  base : Int
  pages : Int
  words : List Int
  dirty : List Bool
  spans : List SpanD
  muts : List (List Int)
  phase : Int
  next : Int
  grey : List Int

/-- A number of 64 bits; lists, spans, Worlds of such. -/
def I64 (x : Int) : Prop := -9223372036854775808 ≤ x ∧ x ≤ 9223372036854775807
def AllI (L : List Int) : Prop := ∀ x, x ∈ L → I64 x
structure FitS (s : SpanD) : Prop where
  page : I64 s.page
  cls : I64 s.cls
  mark : I64 s.mark
  lens : AllI s.lens
  ptrs : AllI s.ptrs
structure FitD (D : WD) : Prop where
  base : I64 D.base
  pages : I64 D.pages
  words : AllI D.words
  spans : ∀ s, s ∈ D.spans → FitS s
  muts : ∀ r, r ∈ D.muts → AllI r
  phase : I64 D.phase
  next : I64 D.next
  grey : AllI D.grey
/-- The marks are numbers of 64 bits. -/
def MarksIn (D : WD) : Prop := ∀ (k : Nat) (s : SpanD), D.spans[k]? = some s → I64 s.mark
theorem FitD.marks {D : WD} (h : FitD D) : MarksIn D := fun k s hs => (h.spans s (List.mem_of_getElem? hs)).mark
theorem i64_wf {n : Int} (h : (Lit.int .i64 n).wf = true) : I64 n := by
  simp only [Lit.wf, IntKind.min, IntKind.max, IntKind.signed, IntKind.bits, Bool.and_eq_true, decide_eq_true_eq, if_true] at h
  unfold I64
  omega

theorem ret_int {k : IntKind} {a b : Int} (h : a = b) : Ending.returned (.int k a) = .returned (.int k b) := by rw [h]
theorem cell_lt {w : World} {a : Addr} {v : Value} (h : w.cell? a = some v) : a.block < w.heap.size := by
  apply Decidable.byContradiction
  intro hn
  have : w.heap[a.block]? = none := Array.getElem?_eq_none (by omega)
  simp [World.cell?, this] at h
theorem cell_below {w w' : World} (hb : Below w.heap.size w w') {a : Addr} {v : Value} (h : w.cell? a = some v) : w'.cell? a = some v :=
  (hb.cell (cell_lt h)).trans h
theorem below_trans {a b c : World} (h : Below a.heap.size a b) (k : Below b.heap.size b c) : Below a.heap.size a c := h.trans (k.mono h.size)

/-- The slice value v reads as the ints L. -/
def Rd (w : World) (v : Value) (L : List Int) : Prop :=
  ∃ a cap, v = .slice a L.length cap ∧ L.length ≤ maxLen ∧ ∀ j, j < L.length → ∃ b off, a = some ⟨b, off, none⟩ ∧ w.cell? ⟨b, off + j, none⟩ = some (.int .i64 (L[j]?.getD 0))
/-- The slice value v reads as the bools L. -/
def RdB (w : World) (v : Value) (L : List Bool) : Prop :=
  ∃ a cap, v = .slice a L.length cap ∧ L.length ≤ maxLen ∧ ∀ j, j < L.length → ∃ b off, a = some ⟨b, off, none⟩ ∧ w.cell? ⟨b, off + j, none⟩ = some (.bool (L[j]?.getD false))
/-- Six cells from (b, o) on read as the span s. -/
def RdSpan (w : World) (b o : Nat) (s : SpanD) : Prop :=
  ∃ vl vp, w.cell? ⟨b, o, none⟩ = some (.int .i64 s.page) ∧ w.cell? ⟨b, o + 1, none⟩ = some (.int .i64 s.cls) ∧ w.cell? ⟨b, o + 2, none⟩ = some (.int .i64 s.mark) ∧
    w.cell? ⟨b, o + 3, none⟩ = some (.bool s.swept) ∧ w.cell? ⟨b, o + 4, none⟩ = some vl ∧ w.cell? ⟨b, o + 5, none⟩ = some vp ∧ Rd w vl s.lens ∧ Rd w vp s.ptrs
/-- The slice value v reads as the spans L. -/
def RdS (w : World) (v : Value) (L : List SpanD) : Prop :=
  ∃ a cap, v = .slice a L.length cap ∧ L.length ≤ maxLen ∧ ∀ j s, L[j]? = some s → ∃ b off, a = some ⟨b, off, none⟩ ∧ RdSpan w b (off + j * 6) s
/-- The slice value v reads as the users whose roots are L. -/
def RdM (w : World) (v : Value) (L : List (List Int)) : Prop :=
  ∃ a cap, v = .slice a L.length cap ∧ L.length ≤ maxLen ∧ ∀ j r, L[j]? = some r → ∃ b off vr, a = some ⟨b, off, none⟩ ∧ w.cell? ⟨b, off + j, none⟩ = some vr ∧ Rd w vr r
/-- The struct's nine values. -/
def RdW (w : World) (v : Value) (D : WD) : Prop :=
  ∃ vw vd vs vm vg, v = .agg #[.int .i64 D.base, .int .i64 D.pages, vw, vd, vs, vm, .int .i64 D.phase, .int .i64 D.next, vg] ∧
    Rd w vw D.words ∧ RdB w vd D.dirty ∧ RdS w vs D.spans ∧ RdM w vm D.muts ∧ Rd w vg D.grey

section
variable {w w' : World} {v : Value}
theorem Rd.below {L : List Int} (h : Rd w v L) (hb : Below w.heap.size w w') : Rd w' v L := by
  obtain ⟨a, cap, rfl, hl, hc⟩ := h
  refine ⟨a, cap, rfl, hl, fun j hj => ?_⟩
  obtain ⟨b, off, rfl, hx⟩ := hc j hj
  exact ⟨b, off, rfl, cell_below hb hx⟩
theorem RdB.below {L : List Bool} (h : RdB w v L) (hb : Below w.heap.size w w') : RdB w' v L := by
  obtain ⟨a, cap, rfl, hl, hc⟩ := h
  refine ⟨a, cap, rfl, hl, fun j hj => ?_⟩
  obtain ⟨b, off, rfl, hx⟩ := hc j hj
  exact ⟨b, off, rfl, cell_below hb hx⟩
theorem RdSpan.below {b o : Nat} {s : SpanD} (h : RdSpan w b o s) (hb : Below w.heap.size w w') : RdSpan w' b o s := by
  obtain ⟨vl, vp, h0, h1, h2, h3, h4, h5, hl, hp⟩ := h
  exact ⟨vl, vp, cell_below hb h0, cell_below hb h1, cell_below hb h2, cell_below hb h3, cell_below hb h4, cell_below hb h5, hl.below hb, hp.below hb⟩
theorem RdS.below {L : List SpanD} (h : RdS w v L) (hb : Below w.heap.size w w') : RdS w' v L := by
  obtain ⟨a, cap, rfl, hl, hc⟩ := h
  refine ⟨a, cap, rfl, hl, fun j s hj => ?_⟩
  obtain ⟨b, off, rfl, hx⟩ := hc j s hj
  exact ⟨b, off, rfl, hx.below hb⟩
theorem RdM.below {L : List (List Int)} (h : RdM w v L) (hb : Below w.heap.size w w') : RdM w' v L := by
  obtain ⟨a, cap, rfl, hl, hc⟩ := h
  refine ⟨a, cap, rfl, hl, fun j r hj => ?_⟩
  obtain ⟨b, off, vr, rfl, hx, hr⟩ := hc j r hj
  exact ⟨b, off, vr, rfl, cell_below hb hx, hr.below hb⟩
theorem RdW.below {D : WD} (h : RdW w v D) (hb : Below w.heap.size w w') : RdW w' v D := by
  obtain ⟨vw, vd, vs, vm, vg, rfl, h1, h2, h3, h4, h5⟩ := h
  exact ⟨vw, vd, vs, vm, vg, rfl, h1.below hb, h2.below hb, h3.below hb, h4.below hb, h5.below hb⟩
theorem Rd.drewN {L : List Int} (h : Rd w v L) (n : Nat) : Rd (w.drewN n) v L := h
theorem RdB.drewN {L : List Bool} (h : RdB w v L) (n : Nat) : RdB (w.drewN n) v L := h
end

/-- How many values and letters a span holds; a World. -/
def SpanD.bulk (s : SpanD) : Nat := s.lens.length + s.ptrs.length
def bulkS (l : List SpanD) : Nat := (l.map SpanD.bulk).sum
def bulkM (l : List (List Int)) : Nat := (l.map List.length).sum
def WD.bulk (D : WD) : Nat := D.words.length + D.dirty.length + (D.spans.length + bulkS D.spans) + (D.muts.length + bulkM D.muts) + D.grey.length
/-- What is left of 'left' behind n; -1: too little. -/
def szF (left : Int) (n : Nat) : Int := if left < n then -1 else left - n
end Go.Proofs.YtjldjeokcpjgkaaDoor

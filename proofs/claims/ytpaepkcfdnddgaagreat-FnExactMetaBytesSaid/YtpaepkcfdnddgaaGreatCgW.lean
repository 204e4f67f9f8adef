import Derived.Test.YtpaepkcfdnddgaaGreatRows
import Derived.WalkKit
import Derived.ProofKit
import Derived.BigQuiet
import Derived.Lib.Hide
import Derived.Deep.QuietTactic
import Derived.WalkSmall
import Derived.OwnWalk
import Derived.Laws.OwnMore
import Derived.LoopTactic
import Derived.Below
import Derived.StillTailTactics
import Derived.RangeFuncNested
import Derived.RangeFuncBound
import Derived.RangeFuncCalls
import Derived.RangeFuncBox
import Derived.RangeFuncLeaves
import Derived.Shelf.Abstract
import Derived.Shelf.RegionOpen
import Derived.OwnWalkIn
import Derived.TacticsInMore
import Derived.LoopNIn
import Derived.LoopIn
import Derived.Maps.AppendAt
import Derived.Deep.Quiet

namespace Go.Proofs.YtpaepkcfdnddgaaGreat
open Go.RowKit
set_option linter.unusedVariables false

structure SpanD where
  page : Int
  cls : Int
  mark : Int
  swept : Bool
  lens : List Int
  ptrs : List Int
structure WD where
  base : Int
  pages : Int
  words : List Int
  dirty : List Bool
  spans : List SpanD
  muts : List (List Int)
  phase : Int
  next : Int
  grey : List Int

/-- A number of 64 bits; lists, spans, Worlds of such. -/
def I64 (x : Int) : Prop := -9223372036854775808 ≤ x ∧ x ≤ 9223372036854775807
def AllI (L : List Int) : Prop := ∀ x, x ∈ L → I64 x
structure FitS (s : SpanD) : Prop where
  page : I64 s.page
  cls : I64 s.cls
  mark : I64 s.mark
  lens : AllI s.lens
  ptrs : AllI s.ptrs
structure FitD (D : WD) : Prop where
  base : I64 D.base
  pages : I64 D.pages
  words : AllI D.words
  spans : ∀ s, s ∈ D.spans → FitS s
  muts : ∀ r, r ∈ D.muts → AllI r
  phase : I64 D.phase
  next : I64 D.next
  grey : AllI D.grey
/-- The marks are numbers of 64 bits. -/
def MarksIn (D : WD) : Prop := ∀ (k : Nat) (s : SpanD), D.spans[k]? = some s → I64 s.mark
theorem FitD.marks {D : WD} (h : FitD D) : MarksIn D := fun k s hs => (h.spans s (List.mem_of_getElem? hs)).mark
theorem i64_wf {n : Int} (h : (Lit.int .i64 n).wf = true) : I64 n := by
  simp only [Lit.wf, IntKind.min, IntKind.max, IntKind.signed, IntKind.bits, Bool.and_eq_true, decide_eq_true_eq, if_true] at h
  unfold I64
  omega

theorem ret_int {k : IntKind} {a b : Int} (h : a = b) : Ending.returned (.int k a) = .returned (.int k b) := by rw [h]
theorem cell_lt {w : World} {a : Addr} {v : Value} (h : w.cell? a = some v) : a.block < w.heap.size := by
  apply Decidable.byContradiction
  intro hn
  have : w.heap[a.block]? = none := Array.getElem?_eq_none (by omega)
  simp [World.cell?, this] at h
theorem cell_below {w w' : World} (hb : Below w.heap.size w w') {a : Addr} {v : Value} (h : w.cell? a = some v) : w'.cell? a = some v :=
  (hb.cell (cell_lt h)).trans h
theorem below_trans {a b c : World} (h : Below a.heap.size a b) (k : Below b.heap.size b c) : Below a.heap.size a c := h.trans (k.mono h.size)

/-- The slice value v reads as the ints L. -/
def Rd (w : World) (v : Value) (L : List Int) : Prop :=
  ∃ a cap, v = .slice a L.length cap ∧ L.length ≤ maxLen ∧ ∀ j, j < L.length → ∃ b off, a = some ⟨b, off, none⟩ ∧ w.cell? ⟨b, off + j, none⟩ = some (.int .i64 (L[j]?.getD 0))
/-- The slice value v reads as the bools L. -/
def RdB (w : World) (v : Value) (L : List Bool) : Prop :=
  ∃ a cap, v = .slice a L.length cap ∧ L.length ≤ maxLen ∧ ∀ j, j < L.length → ∃ b off, a = some ⟨b, off, none⟩ ∧ w.cell? ⟨b, off + j, none⟩ = some (.bool (L[j]?.getD false))
/-- Six cells from (b, o) on read as the span s. -/
def RdSpan (w : World) (b o : Nat) (s : SpanD) : Prop :=
  ∃ vl vp, w.cell? ⟨b, o, none⟩ = some (.int .i64 s.page) ∧ w.cell? ⟨b, o + 1, none⟩ = some (.int .i64 s.cls) ∧ w.cell? ⟨b, o + 2, none⟩ = some (.int .i64 s.mark) ∧
    w.cell? ⟨b, o + 3, none⟩ = some (.bool s.swept) ∧ w.cell? ⟨b, o + 4, none⟩ = some vl ∧ w.cell? ⟨b, o + 5, none⟩ = some vp ∧ Rd w vl s.lens ∧ Rd w vp s.ptrs
/-- The slice value v reads as the spans L. -/
def RdS (w : World) (v : Value) (L : List SpanD) : Prop :=
  ∃ a cap, v = .slice a L.length cap ∧ L.length ≤ maxLen ∧ ∀ j s, L[j]? = some s → ∃ b off, a = some ⟨b, off, none⟩ ∧ RdSpan w b (off + j * 6) s
/-- The slice value v reads as the users whose roots are L. -/
def RdM (w : World) (v : Value) (L : List (List Int)) : Prop :=
  ∃ a cap, v = .slice a L.length cap ∧ L.length ≤ maxLen ∧ ∀ j r, L[j]? = some r → ∃ b off vr, a = some ⟨b, off, none⟩ ∧ w.cell? ⟨b, off + j, none⟩ = some vr ∧ Rd w vr r
/-- The struct's nine values. -/
def RdW (w : World) (v : Value) (D : WD) : Prop :=
  ∃ vw vd vs vm vg, v = .agg #[.int .i64 D.base, .int .i64 D.pages, vw, vd, vs, vm, .int .i64 D.phase, .int .i64 D.next, vg] ∧
    Rd w vw D.words ∧ RdB w vd D.dirty ∧ RdS w vs D.spans ∧ RdM w vm D.muts ∧ Rd w vg D.grey

section
variable {w w' : World} {v : Value}
theorem Rd.below {L : List Int} (h : Rd w v L) (hb : Below w.heap.size w w') : Rd w' v L := by
  obtain ⟨a, cap, rfl, hl, hc⟩ := h
  refine ⟨a, cap, rfl, hl, fun j hj => ?_⟩
  obtain ⟨b, off, rfl, hx⟩ := hc j hj
  exact ⟨b, off, rfl, cell_below hb hx⟩
theorem RdB.below {L : List Bool} (h : RdB w v L) (hb : Below w.heap.size w w') : RdB w' v L := by
  obtain ⟨a, cap, rfl, hl, hc⟩ := h
  refine ⟨a, cap, rfl, hl, fun j hj => ?_⟩
  obtain ⟨b, off, rfl, hx⟩ := hc j hj
  exact ⟨b, off, rfl, cell_below hb hx⟩
theorem RdSpan.below {b o : Nat} {s : SpanD} (h : RdSpan w b o s) (hb : Below w.heap.size w w') : RdSpan w' b o s := by
  obtain ⟨vl, vp, h0, h1, h2, h3, h4, h5, hl, hp⟩ := h
  exact ⟨vl, vp, cell_below hb h0, cell_below hb h1, cell_below hb h2, cell_below hb h3, cell_below hb h4, cell_below hb h5, hl.below hb, hp.below hb⟩
theorem RdS.below {L : List SpanD} (h : RdS w v L) (hb : Below w.heap.size w w') : RdS w' v L := by
  obtain ⟨a, cap, rfl, hl, hc⟩ := h
  refine ⟨a, cap, rfl, hl, fun j s hj => ?_⟩
  obtain ⟨b, off, rfl, hx⟩ := hc j s hj
  exact ⟨b, off, rfl, hx.below hb⟩
theorem RdM.below {L : List (List Int)} (h : RdM w v L) (hb : Below w.heap.size w w') : RdM w' v L := by
  obtain ⟨a, cap, rfl, hl, hc⟩ := h
  refine ⟨a, cap, rfl, hl, fun j r hj => ?_⟩
  obtain ⟨b, off, vr, rfl, hx, hr⟩ := hc j r hj
  exact ⟨b, off, vr, rfl, cell_below hb hx, hr.below hb⟩
theorem RdW.below {D : WD} (h : RdW w v D) (hb : Below w.heap.size w w') : RdW w' v D := by
  obtain ⟨vw, vd, vs, vm, vg, rfl, h1, h2, h3, h4, h5⟩ := h
  exact ⟨vw, vd, vs, vm, vg, rfl, h1.below hb, h2.below hb, h3.below hb, h4.below hb, h5.below hb⟩
theorem Rd.drewN {L : List Int} (h : Rd w v L) (n : Nat) : Rd (w.drewN n) v L := h
theorem RdB.drewN {L : List Bool} (h : RdB w v L) (n : Nat) : RdB (w.drewN n) v L := h
end

/-- How many values and letters a span holds; a World. -/
def SpanD.bulk (s : SpanD) : Nat := s.lens.length + s.ptrs.length
def bulkS (l : List SpanD) : Nat := (l.map SpanD.bulk).sum
def bulkM (l : List (List Int)) : Nat := (l.map List.length).sum
def WD.bulk (D : WD) : Nat := D.words.length + D.dirty.length + (D.spans.length + bulkS D.spans) + (D.muts.length + bulkM D.muts) + D.grey.length
/-- What is left of 'left' behind n; -1: too little. -/
def szF (left : Int) (n : Nat) : Int := if left < n then -1 else left - n
end Go.Proofs.YtpaepkcfdnddgaaGreat

namespace Go.Proofs.YtpaepkcfdnddgaaGreat
open Go.RowKit
set_option linter.unusedVariables false

/-- How many words a slot of class c has. -/
def sz (c : Int) : Int := if c = 0 then 2 else if c = 1 then 4 else if c = 2 then 8 else if c = 3 then 16 else 0
/-- How many slots a page of class c has. -/
def sl' (c : Int) : Int := if c = 0 then 16 else if c = 1 then 8 else if c = 2 then 4 else if c = 3 then 2 else 0
/-- The class for n words. -/
def cl (n : Int) : Int := if n < 1 then -1 else if n ≤ 2 then 0 else if n ≤ 4 then 1 else if n ≤ 8 then 2 else if n ≤ 16 then 3 else -1

set_option maxHeartbeats 400000 in
theorem words_any (c : Int) (w : World) : Calls Tryz.prog 171 #[.int .i64 c] w fun e w' => e = .returned (.int .i64 (sz c)) ∧ w = w' := by
  by_cases h0 : c = 0
  · subst h0
    go_enter Tryz.func171, Tryz.ntmps171
    go_wp2
    go_ret
    exact ⟨rfl, rfl⟩
  by_cases h1 : c = 1
  · subst h1
    go_enter Tryz.func171, Tryz.ntmps171
    go_wp2
    go_ret
    exact ⟨rfl, rfl⟩
  by_cases h2 : c = 2
  · subst h2
    go_enter Tryz.func171, Tryz.ntmps171
    go_wp2
    go_ret
    exact ⟨rfl, rfl⟩
  by_cases h3 : c = 3
  · subst h3
    go_enter Tryz.func171, Tryz.ntmps171
    go_wp2
    go_ret
    exact ⟨rfl, rfl⟩
  have e0 : (c == 0) = false := beq_eq_false_iff_ne.2 h0
  have e1 : (c == 1) = false := beq_eq_false_iff_ne.2 h1
  have e2 : (c == 2) = false := beq_eq_false_iff_ne.2 h2
  have e3 : (c == 3) = false := beq_eq_false_iff_ne.2 h3
  have hz : sz c = 0 := by unfold sz; rw [if_neg h0, if_neg h1, if_neg h2, if_neg h3]
  rw [hz]
  clear hz
  go_enter Tryz.func171, Tryz.ntmps171
  go_wp2
  go_ret
  exact ⟨rfl, rfl⟩

theorem size_any (c : Int) (w : World) : Calls Tryz.prog 164 #[.int .i64 c] w fun e w' => e = .returned (.int .i64 (sz c)) ∧ w = w' := by
  go_enter Tryz.func164, Tryz.ntmps164
  go_wp2_with (go_at_call 171; refine (words_any _ _).mono ?_; rintro e w' ⟨rfl, rfl⟩)
  go_ret
  exact ⟨rfl, rfl⟩

theorem part (c : Int) : c = 0 ∨ c = 1 ∨ c = 2 ∨ c = 3 ∨ (c ≠ 0 ∧ c ≠ 1 ∧ c ≠ 2 ∧ c ≠ 3) := by omega
theorem sz_no {c : Int} (h : c ≠ 0 ∧ c ≠ 1 ∧ c ≠ 2 ∧ c ≠ 3) : sz c = 0 := by
  obtain ⟨h0, h1, h2, h3⟩ := h
  unfold sz; rw [if_neg h0, if_neg h1, if_neg h2, if_neg h3]
theorem slno {c : Int} (h : c ≠ 0 ∧ c ≠ 1 ∧ c ≠ 2 ∧ c ≠ 3) : sl' c = 0 := by
  obtain ⟨h0, h1, h2, h3⟩ := h
  unfold sl'; rw [if_neg h0, if_neg h1, if_neg h2, if_neg h3]

theorem words_eq {c v : Int} (h : sz c = v) (w : World) : Calls Tryz.prog 171 #[.int .i64 c] w fun e w' => e = .returned (.int .i64 v) ∧ w = w' := by
  rw [← h]; exact words_any c w

set_option maxHeartbeats 400000 in
theorem slots28_any (c : Int) (w : World) : Calls Tryz.prog 172 #[.int .i64 c] w fun e w' => e = .returned (.int .i64 (sl' c)) ∧ w = w' := by
  rcases part c with rfl | rfl | rfl | rfl | h
  · go_enter Tryz.func172, Tryz.ntmps172
    go_wp2_with (go_at_call 171; refine (words_eq (v := 2) rfl _).mono ?_; rintro e w' ⟨rfl, rfl⟩)
    go_ret
    exact ⟨rfl, rfl⟩
  · go_enter Tryz.func172, Tryz.ntmps172
    go_wp2_with (go_at_call 171; refine (words_eq (v := 4) rfl _).mono ?_; rintro e w' ⟨rfl, rfl⟩)
    go_ret
    exact ⟨rfl, rfl⟩
  · go_enter Tryz.func172, Tryz.ntmps172
    go_wp2_with (go_at_call 171; refine (words_eq (v := 8) rfl _).mono ?_; rintro e w' ⟨rfl, rfl⟩)
    go_ret
    exact ⟨rfl, rfl⟩
  · go_enter Tryz.func172, Tryz.ntmps172
    go_wp2_with (go_at_call 171; refine (words_eq (v := 16) rfl _).mono ?_; rintro e w' ⟨rfl, rfl⟩)
    go_ret
    exact ⟨rfl, rfl⟩
  · rw [slno h]
    have hs := Lib.hid (sz_no h)
    clear h
    go_enter Tryz.func172, Tryz.ntmps172
    go_wp2_with (go_at_call 171; refine (words_eq (v := 0) hs.out _).mono ?_; rintro e w' ⟨rfl, rfl⟩)
    go_ret
    exact ⟨rfl, rfl⟩

theorem slots_any (c : Int) (w : World) : Calls Tryz.prog 166 #[.int .i64 c] w fun e w' => e = .returned (.int .i64 (sl' c)) ∧ w = w' := by
  go_enter Tryz.func166, Tryz.ntmps166
  go_wp2_with (go_at_call 172; refine (slots28_any _ _).mono ?_; rintro e w' ⟨rfl, rfl⟩)
  go_ret
  exact ⟨rfl, rfl⟩

set_option maxHeartbeats 400000 in
theorem spec_size_any (c : Int) (w : World) : Calls Tryz.prog 93 #[.int .i64 c] w fun e w' => e = .returned (.int .i64 (sz c)) ∧ w = w' := by
  rcases part c with rfl | rfl | rfl | rfl | h
  · go_enter Tryz.func93, Tryz.ntmps93
    go_wp2
    go_ret
    exact ⟨rfl, rfl⟩
  · go_enter Tryz.func93, Tryz.ntmps93
    go_wp2
    go_ret
    exact ⟨rfl, rfl⟩
  · go_enter Tryz.func93, Tryz.ntmps93
    go_wp2
    go_ret
    exact ⟨rfl, rfl⟩
  · go_enter Tryz.func93, Tryz.ntmps93
    go_wp2
    go_ret
    exact ⟨rfl, rfl⟩
  · rw [sz_no h]
    rcases (show c < 0 ∨ 4 ≤ c by omega) with h' | h'
    · clear h
      go_enter Tryz.func93, Tryz.ntmps93
      go_wp2
      go_ret
      exact ⟨rfl, rfl⟩
    · have h2 : ¬ c < 0 := by omega
      clear h
      go_enter Tryz.func93, Tryz.ntmps93
      go_wp2
      go_ret
      exact ⟨rfl, rfl⟩

theorem spec_size_eq {c v : Int} (h : sz c = v) (w : World) : Calls Tryz.prog 93 #[.int .i64 c] w fun e w' => e = .returned (.int .i64 v) ∧ w = w' := by
  rw [← h]; exact spec_size_any c w

set_option maxHeartbeats 400000 in
theorem spec_slots_any (c : Int) (w : World) : Calls Tryz.prog 144 #[.int .i64 c] w fun e w' => e = .returned (.int .i64 (sl' c)) ∧ w = w' := by
  rcases part c with rfl | rfl | rfl | rfl | h
  · go_enter Tryz.func144, Tryz.ntmps144
    go_wp2_with (go_at_call 93; refine (spec_size_eq (v := 2) rfl _).mono ?_; rintro e w' ⟨rfl, rfl⟩)
    go_ret
    exact ⟨rfl, rfl⟩
  · go_enter Tryz.func144, Tryz.ntmps144
    go_wp2_with (go_at_call 93; refine (spec_size_eq (v := 4) rfl _).mono ?_; rintro e w' ⟨rfl, rfl⟩)
    go_ret
    exact ⟨rfl, rfl⟩
  · go_enter Tryz.func144, Tryz.ntmps144
    go_wp2_with (go_at_call 93; refine (spec_size_eq (v := 8) rfl _).mono ?_; rintro e w' ⟨rfl, rfl⟩)
    go_ret
    exact ⟨rfl, rfl⟩
  · go_enter Tryz.func144, Tryz.ntmps144
    go_wp2_with (go_at_call 93; refine (spec_size_eq (v := 16) rfl _).mono ?_; rintro e w' ⟨rfl, rfl⟩)
    go_ret
    exact ⟨rfl, rfl⟩
  · rw [slno h]
    rcases (show c < 0 ∨ 4 ≤ c by omega) with h' | h'
    · clear h
      go_enter Tryz.func144, Tryz.ntmps144
      go_wp2
      go_ret
      exact ⟨rfl, rfl⟩
    · have h2 : ¬ c < 0 := by omega
      clear h
      go_enter Tryz.func144, Tryz.ntmps144
      go_wp2
      go_ret
      exact ⟨rfl, rfl⟩
end Go.Proofs.YtpaepkcfdnddgaaGreat

namespace Go.Proofs.YtpaepkcfdnddgaaGreat
open Go.RowKit
set_option linter.unusedVariables false

/-- r is what is left of 'left' behind n; -1: too little. -/
def Sz (left : Int) (n : Nat) (r : Int) : Prop := r = szF left n
theorem Sz.lo {left r : Int} {n : Nat} (h : Sz left n r) : -1 ≤ r := by unfold Sz szF at h; split at h <;> omega
theorem Sz.hi {left r : Int} {n : Nat} (h : Sz left n r) (h0 : 0 ≤ left) : r ≤ left := by unfold Sz szF at h; split at h <;> omega
theorem Sz.stop {left r : Int} {n : Nat} (h : Sz left n r) (h0 : 0 ≤ left) (hr : r < 0) (m : Nat) : Sz left (n + m) (-1) := by
  unfold Sz szF at *; split at h <;> split <;> omega
theorem Sz.next {left r r' : Int} {n m : Nat} (h : Sz left n r) (h0 : 0 ≤ left) (hr : 0 ≤ r) (h' : Sz r m r') : Sz left (n + m) r' := by
  unfold Sz szF at *; split at h <;> split at h' <;> split <;> omega
theorem Sz.fits {left r : Int} {n : Nat} (h : Sz left n r) (hr : 0 ≤ r) : (n : Int) ≤ left := by unfold Sz szF at h; split at h <;> omega
theorem sz_stop {left : Int} {n : Nat} (h : left < n) : Sz left n (-1) := by unfold Sz szF; rw [if_pos h]
theorem sz_next {left : Int} {n : Nat} (h : ¬ left < n) : Sz left n (left - n) := by unfold Sz szF; rw [if_neg h]

set_option maxHeartbeats 400000 in
theorem szIntS_any (v : Value) (L : List Int) (left : Int) (h0 : 0 ≤ left) (h1 : left ≤ 1048576) (w : World) (hr : Rd w v L) :
    Calls Tryz.prog 22 #[v, .int .i64 left] w fun e w' => ∃ r, e = .returned (.int .i64 r) ∧ Sz left L.length r ∧ w = w' := by
  obtain ⟨a, cap, rfl, hl, _⟩ := hr
  unfold maxLen at hl
  by_cases h : left < L.length
  · have hz := Lib.hid (sz_stop h)
    go_enter Tryz.func22, Tryz.ntmps22
    go_wp2
    go_ret
    exact ⟨_, rfl, hz.out, rfl⟩
  · have hz := Lib.hid (sz_next h)
    go_enter Tryz.func22, Tryz.ntmps22
    go_wp2
    go_ret
    exact ⟨_, rfl, hz.out, rfl⟩

set_option maxHeartbeats 400000 in
theorem szBoolS_any (v : Value) (L : List Bool) (left : Int) (h0 : 0 ≤ left) (h1 : left ≤ 1048576) (w : World) (hr : RdB w v L) :
    Calls Tryz.prog 23 #[v, .int .i64 left] w fun e w' => ∃ r, e = .returned (.int .i64 r) ∧ Sz left L.length r ∧ w = w' := by
  obtain ⟨a, cap, rfl, hl, _⟩ := hr
  unfold maxLen at hl
  by_cases h : left < L.length
  · have hz := Lib.hid (sz_stop h)
    go_enter Tryz.func23, Tryz.ntmps23
    go_wp2
    go_ret
    exact ⟨_, rfl, hz.out, rfl⟩
  · have hz := Lib.hid (sz_next h)
    go_enter Tryz.func23, Tryz.ntmps23
    go_wp2
    go_ret
    exact ⟨_, rfl, hz.out, rfl⟩

/-- A span as a value. -/
def spanV (s : SpanD) (vl vp : Value) : Value := .agg #[.int .i64 s.page, .int .i64 s.cls, .int .i64 s.mark, .bool s.swept, vl, vp]
theorem below_box (w : World) (o : Obj) : Below w.heap.size w (w.alloc o) := (Below.refl _ _).alloc (Nat.le_refl _) o

theorem heap_below {w w' : World} (hb : Below w.heap.size w w') {g : Nat} {o : Obj} (h : w.heap[g]? = some o) : w'.heap[g]? = some o :=
  (hb.block g (Array.getElem?_eq_some_iff.1 h).1).trans h
theorem cell_of_heap {w : World} {B : Nat} {c : Array Value} {t : TypeId} (h : w.heap[B]? = some (.cells c t (0, 0))) (j : Nat) (v : Value) (hv : c[j]? = some v) : w.cell? ⟨B, j, none⟩ = some v := by
  simp [World.cell?, h, hv]
theorem frozen_of_heap {w : World} {B : Nat} {c : Array Value} {t : TypeId} (h : w.heap[B]? = some (.cells c t (0, 0))) (j : Nat) : w.frozen? ⟨B, j, none⟩ = false := by
  simp [World.frozen?, h]
theorem box_new (w : World) (o : Obj) : (w.alloc o).heap[w.heap.size]? = some o := heap_alloc_new w o

set_option maxHeartbeats 400000 in
theorem szSpan_any (s : SpanD) (vl vp : Value) (left : Int) (h0 : 0 ≤ left) (h1 : left ≤ 1048576) (w : World) (hl : Rd w vl s.lens) (hp : Rd w vp s.ptrs) :
    Calls Tryz.prog 70 #[spanV s vl vp, .int .i64 left] w fun e w' => ∃ r, e = .returned (.int .i64 r) ∧ Sz left s.bulk r ∧ Below w.heap.size w w' := by
  unfold spanV SpanD.bulk
  go_enter Tryz.func70, Tryz.ntmps70
  go_wp2_with fail
  refine (szIntS_any _ s.lens _ h0 h1 _ (hl.below (below_box _ _))).mono ?_
  rintro e w1 ⟨r1, rfl, z1, rfl⟩
  have t1 := z1.lo
  have t2 := z1.hi h0
  obtain ⟨z1⟩ : Nonempty (Hid _) := ⟨Lib.hid z1⟩
  by_cases c1 : r1 < 0
  · go_wp2_with fail
    go_ret
    exact ⟨_, rfl, z1.out.stop h0 c1 _, below_box _ _⟩
  · go_wp2_with fail
    refine (szIntS_any _ s.ptrs _ (by omega) (by omega) _ (hp.below (below_box _ _))).mono ?_
    rintro e w2 ⟨r2, rfl, z2, rfl⟩
    have u1 := z2.lo
    obtain ⟨z2⟩ : Nonempty (Hid _) := ⟨Lib.hid (z1.out.next h0 c1 z2)⟩
    by_cases c2 : r2 < 0
    · obtain rfl : r2 = -1 := by omega
      go_wp2_with fail
      go_ret
      exact ⟨_, rfl, z2.out, below_box _ _⟩
    · go_wp2_with fail
      go_ret
      exact ⟨_, rfl, z2.out, below_box _ _⟩

set_option maxHeartbeats 400000 in
theorem szMut_any (r : List Int) (vr : Value) (left : Int) (h0 : 0 ≤ left) (h1 : left ≤ 1048576) (w : World) (hl : Rd w vr r) :
    Calls Tryz.prog 71 #[.agg #[vr], .int .i64 left] w fun e w' => ∃ q, e = .returned (.int .i64 q) ∧ Sz left r.length q ∧ Below w.heap.size w w' := by
  go_enter Tryz.func71, Tryz.ntmps71
  go_wp2_with fail
  refine (szIntS_any _ r _ h0 h1 _ (hl.below (below_box _ _))).mono ?_
  rintro e w1 ⟨r1, rfl, z1, rfl⟩
  have t1 := z1.lo
  obtain ⟨z1⟩ : Nonempty (Hid _) := ⟨Lib.hid z1⟩
  by_cases c1 : r1 < 0
  · obtain rfl : r1 = -1 := by omega
    go_wp2_with fail
    go_ret
    exact ⟨_, rfl, z1.out, below_box _ _⟩
  · go_wp2_with fail
    go_ret
    exact ⟨_, rfl, z1.out, below_box _ _⟩

set_option maxHeartbeats 400000 in
theorem szGc_any (p q : Int) (g : List Int) (vg : Value) (left : Int) (h0 : 0 ≤ left) (h1 : left ≤ 1048576) (w : World) (hl : Rd w vg g) :
    Calls Tryz.prog 26 #[.agg #[.int .i64 p, .int .i64 q, vg], .int .i64 left] w fun e w' => ∃ r, e = .returned (.int .i64 r) ∧ Sz left g.length r ∧ Below w.heap.size w w' := by
  go_enter Tryz.func26, Tryz.ntmps26
  go_wp2_with fail
  refine (szIntS_any _ g _ h0 h1 _ (hl.below (below_box _ _))).mono ?_
  rintro e w1 ⟨r1, rfl, z1, rfl⟩
  have t1 := z1.lo
  obtain ⟨z1⟩ : Nonempty (Hid _) := ⟨Lib.hid z1⟩
  by_cases c1 : r1 < 0
  · obtain rfl : r1 = -1 := by omega
    go_wp2_with fail
    go_ret
    exact ⟨_, rfl, z1.out, below_box _ _⟩
  · go_wp2_with fail
    go_ret
    exact ⟨_, rfl, z1.out, below_box _ _⟩

theorem bulkS_take (L : List SpanD) (k : Nat) (s : SpanD) (h : L[k]? = some s) : bulkS (L.take (k + 1)) = bulkS (L.take k) + s.bulk := by
  obtain ⟨hk, rfl⟩ := List.getElem?_eq_some_iff.1 h
  rw [List.take_succ_eq_append_getElem hk, bulkS, List.map_append, List.sum_append]
  simp [bulkS, -List.map_take]
theorem bulkS_le (L : List SpanD) (k : Nat) : bulkS L = bulkS (L.take k) + bulkS (L.drop k) := by
  rw [bulkS, bulkS, bulkS, ← List.sum_append, ← List.map_append, List.take_append_drop]
theorem bulkM_take (L : List (List Int)) (k : Nat) (s : List Int) (h : L[k]? = some s) : bulkM (L.take (k + 1)) = bulkM (L.take k) + s.length := by
  obtain ⟨hk, rfl⟩ := List.getElem?_eq_some_iff.1 h
  rw [List.take_succ_eq_append_getElem hk, bulkM, List.map_append, List.sum_append]
  simp [bulkM, -List.map_take]
theorem bulkM_le (L : List (List Int)) (k : Nat) : bulkM L = bulkM (L.take k) + bulkM (L.drop k) := by
  rw [bulkM, bulkM, bulkM, ← List.sum_append, ← List.map_append, List.take_append_drop]

set_option maxHeartbeats 1000000 in
theorem szSpanS_any (v : Value) (L : List SpanD) (left : Int) (h0 : 0 ≤ left) (h1 : left ≤ 1048576) (w : World) (hr : RdS w v L) :
    Calls Tryz.prog 24 #[v, .int .i64 left] w fun e w' => ∃ r, e = .returned (.int .i64 r) ∧ Sz left (L.length + bulkS L) r ∧ Below w.heap.size w w' := by
  have hr0 := hr
  obtain ⟨a, cap, rfl, hl, hx⟩ := hr
  unfold maxLen at hl
  by_cases h : left < L.length
  · have hz := Lib.hid ((sz_stop h).stop h0 (by omega) (bulkS L))
    clear hx hr0
    go_enter Tryz.func24, Tryz.ntmps24
    go_wp2
    go_ret
    exact ⟨_, rfl, hz.out, Below.refl _ _⟩
  · have hz := Lib.hid (sz_next h)
    obtain ⟨hx⟩ : Nonempty (Hid _) := ⟨Lib.hid hx⟩
    clear hr0
    go_enter Tryz.func24, Tryz.ntmps24
    go_wp2
    go_loopw [1, 5] (fun q i wr => ∃ (k : Nat) (r : Int), k ≤ L.length ∧ i = .int .i64 k ∧ q = .int .i64 r ∧ 0 ≤ r ∧ r ≤ left ∧ Hid (Sz left (L.length + bulkS (L.take k)) r) ∧ Below w.heap.size w wr) (fun _ i _ => L.length - (RowKit.intOf i).toNat)
    case atStart => exact ⟨0, _, Nat.zero_le _, rfl, rfl, by omega, by omega, hz.out, Below.refl _ _⟩
    case round =>
      obtain ⟨k, r, hk, rfl, rfl, hr0, hr1, hsz, hB⟩ := hrel
      by_cases hlt : k < L.length
      · obtain ⟨s, hs⟩ : ∃ s, L[k]? = some s := ⟨_, List.getElem?_eq_getElem hlt⟩
        obtain ⟨b, off, rfl, hsp⟩ := hx.out k s hs
        obtain ⟨vl, vp, x0, x1, x2, x3, x4, x5, xl, xp⟩ := hsp.below hB
        go_wp2_with fail
        refine (szSpan_any s vl vp r hr0 (by omega) wr xl xp).mono ?_
        rintro e w2 ⟨r2, rfl, z2, b2⟩
        have u1 := z2.lo
        have u2 := z2.hi hr0
        have hsz2 := Lib.hid (hsz.out.next h0 hr0 z2)
        have hb2 := below_trans hB b2
        have hbk := Lib.hid (bulkS_take L k s hs)
        have hbl := Lib.hid (bulkS_le L (k + 1))
        clear z2 b2 hsz xl xp x0 x1 x2 x3 x4 x5 hsp hs hB
        by_cases c2 : r2 < 0
        · obtain rfl : r2 = -1 := by omega
          go_wp2_with fail
          go_ret
          have e : L.length + bulkS L = L.length + bulkS (L.take k) + s.bulk + bulkS (L.drop (k + 1)) := by
            have := hbk.out
            have := hbl.out
            omega
          exact ⟨_, rfl, by rw [e]; exact hsz2.out.stop h0 c2 _, hb2⟩
        · go_wp2_with fail
          go_roundw
          case rel => exact ⟨k + 1, r2, by omega, by go_num, rfl, by omega, by omega, by rw [hbk.out, ← Nat.add_assoc]; exact hsz2, hb2⟩
          case measure => simp [RowKit.intOf]; omega
      · obtain rfl : k = L.length := by omega
        rw [List.take_length] at hsz
        go_wp2
        go_ret
        exact ⟨_, rfl, hsz.out, hB⟩

set_option maxHeartbeats 1000000 in
theorem szMutS_any (v : Value) (L : List (List Int)) (left : Int) (h0 : 0 ≤ left) (h1 : left ≤ 1048576) (w : World) (hr : RdM w v L) :
    Calls Tryz.prog 25 #[v, .int .i64 left] w fun e w' => ∃ r, e = .returned (.int .i64 r) ∧ Sz left (L.length + bulkM L) r ∧ Below w.heap.size w w' := by
  obtain ⟨a, cap, rfl, hl, hx⟩ := hr
  unfold maxLen at hl
  by_cases h : left < L.length
  · have hz := Lib.hid ((sz_stop h).stop h0 (by omega) (bulkM L))
    clear hx
    go_enter Tryz.func25, Tryz.ntmps25
    go_wp2
    go_ret
    exact ⟨_, rfl, hz.out, Below.refl _ _⟩
  · have hz := Lib.hid (sz_next h)
    obtain ⟨hx⟩ : Nonempty (Hid _) := ⟨Lib.hid hx⟩
    go_enter Tryz.func25, Tryz.ntmps25
    go_wp2
    go_loopw [1, 5] (fun q i wr => ∃ (k : Nat) (r : Int), k ≤ L.length ∧ i = .int .i64 k ∧ q = .int .i64 r ∧ 0 ≤ r ∧ r ≤ left ∧ Hid (Sz left (L.length + bulkM (L.take k)) r) ∧ Below w.heap.size w wr) (fun _ i _ => L.length - (RowKit.intOf i).toNat)
    case atStart => exact ⟨0, _, Nat.zero_le _, rfl, rfl, by omega, by omega, hz.out, Below.refl _ _⟩
    case round =>
      obtain ⟨k, r, hk, rfl, rfl, hr0, hr1, hsz, hB⟩ := hrel
      by_cases hlt : k < L.length
      · obtain ⟨s, hs⟩ : ∃ s, L[k]? = some s := ⟨_, List.getElem?_eq_getElem hlt⟩
        obtain ⟨b, off, vr, rfl, hc, hrd⟩ := hx.out k s hs
        have hc' := cell_below hB hc
        have hrd' := hrd.below hB
        clear hc hrd
        go_wp2_with fail
        refine (szMut_any s vr r hr0 (by omega) wr hrd').mono ?_
        rintro e w2 ⟨r2, rfl, z2, b2⟩
        have u1 := z2.lo
        have u2 := z2.hi hr0
        have hsz2 := Lib.hid (hsz.out.next h0 hr0 z2)
        have hb2 := below_trans hB b2
        have hbk := Lib.hid (bulkM_take L k s hs)
        have hbl := Lib.hid (bulkM_le L (k + 1))
        clear z2 b2 hsz hs hB hc' hrd'
        by_cases c2 : r2 < 0
        · obtain rfl : r2 = -1 := by omega
          go_wp2_with fail
          go_ret
          have e : L.length + bulkM L = L.length + bulkM (L.take k) + s.length + bulkM (L.drop (k + 1)) := by
            have := hbk.out
            have := hbl.out
            omega
          exact ⟨_, rfl, by rw [e]; exact hsz2.out.stop h0 c2 _, hb2⟩
        · go_wp2_with fail
          go_roundw
          case rel => exact ⟨k + 1, r2, by omega, by go_num, rfl, by omega, by omega, by rw [hbk.out, ← Nat.add_assoc]; exact hsz2, hb2⟩
          case measure => simp [RowKit.intOf]; omega
      · obtain rfl : k = L.length := by omega
        rw [List.take_length] at hsz
        go_wp2
        go_ret
        exact ⟨_, rfl, hsz.out, hB⟩

set_option maxHeartbeats 2000000 in
theorem szWorld_any (v : Value) (D : WD) (left : Int) (h0 : 0 ≤ left) (h1 : left ≤ 1048576) (w : World) (hr : RdW w v D) :
    Calls Tryz.prog 7 #[v, .int .i64 left] w fun e w' => ∃ r, e = .returned (.int .i64 r) ∧ Sz left D.bulk r ∧ Below w.heap.size w w' := by
  obtain ⟨vw, vd, vs, vm, vg, rfl, rw1, rd1, rs1, rm1, rg1⟩ := hr
  unfold WD.bulk
  go_enter Tryz.func7, Tryz.ntmps7
  go_wp2_with fail
  have bx := box_new w (.cells #[.int .i64 D.base, .int .i64 D.pages, vw, vd, vs, vm, .int .i64 D.phase, .int .i64 D.next, vg] 29)
  have bb := below_box w (.cells #[.int .i64 D.base, .int .i64 D.pages, vw, vd, vs, vm, .int .i64 D.phase, .int .i64 D.next, vg] 29)
  obtain ⟨bx⟩ : Nonempty (Hid _) := ⟨Lib.hid bx⟩
  refine (szIntS_any _ D.words _ h0 h1 _ (rw1.below bb)).mono ?_
  rintro e w1 ⟨r1, rfl, z1, rfl⟩
  have t1 := z1.lo
  have t2 := z1.hi h0
  obtain ⟨z1⟩ : Nonempty (Hid _) := ⟨Lib.hid z1⟩
  by_cases c1 : r1 < 0
  · go_wp2_with fail
    go_ret
    exact ⟨_, rfl, (((z1.out.stop h0 c1 _).stop h0 (by omega) _).stop h0 (by omega) _).stop h0 (by omega) _, bb⟩
  have g1 : 0 ≤ r1 := by omega
  clear c1
  go_wp2_with fail
  refine (szBoolS_any _ D.dirty _ g1 (by omega) _ (rd1.below bb)).mono ?_
  rintro e w2 ⟨r2, rfl, z2, rfl⟩
  have t3 := z2.lo
  have t4 := z2.hi g1
  obtain ⟨z2⟩ : Nonempty (Hid _) := ⟨Lib.hid (z1.out.next h0 g1 z2)⟩
  by_cases c2 : r2 < 0
  · obtain rfl : r2 = -1 := by omega
    go_wp2_with fail
    go_ret
    exact ⟨_, rfl, ((z2.out.stop h0 c2 _).stop h0 (by omega) _).stop h0 (by omega) _, bb⟩
  have g2 : 0 ≤ r2 := by omega
  clear c2 z1
  go_wp2_with fail
  refine (szSpanS_any _ D.spans _ g2 (by omega) _ (rs1.below bb)).mono ?_
  rintro e w3 ⟨r3, rfl, z3, b3⟩
  have t5 := z3.lo
  have t6 := z3.hi g2
  have bx3 := heap_below b3 bx.out
  have bb3 := below_trans bb b3
  obtain ⟨z3⟩ : Nonempty (Hid _) := ⟨Lib.hid (z2.out.next h0 g2 z3)⟩
  have f5 := cell_of_heap bx3 5 _ rfl
  clear b3
  obtain ⟨bx3⟩ : Nonempty (Hid _) := ⟨Lib.hid bx3⟩
  by_cases c3 : r3 < 0
  · obtain rfl : r3 = -1 := by omega
    go_wp2_with fail
    go_ret
    exact ⟨_, rfl, (z3.out.stop h0 c3 _).stop h0 (by omega) _, bb3⟩
  have g3 : 0 ≤ r3 := by omega
  clear c3 z2
  go_wp2_with fail
  refine (szMutS_any _ D.muts _ g3 (by omega) _ (rm1.below bb3)).mono ?_
  rintro e w4 ⟨r4, rfl, z4, b4⟩
  have t7 := z4.lo
  have t8 := z4.hi g3
  have bx4 := heap_below b4 bx3.out
  have bb4 := below_trans bb3 b4
  obtain ⟨z4⟩ : Nonempty (Hid _) := ⟨Lib.hid (z3.out.next h0 g3 z4)⟩
  have f6 := cell_of_heap bx4 6 _ rfl
  have f7 := cell_of_heap bx4 7 _ rfl
  have f8 := cell_of_heap bx4 8 _ rfl
  clear b4 bx4 f5
  by_cases c4 : r4 < 0
  · obtain rfl : r4 = -1 := by omega
    go_wp2_with fail
    go_ret
    exact ⟨_, rfl, z4.out.stop h0 c4 _, bb4⟩
  have g4 : 0 ≤ r4 := by omega
  clear c4 z3
  go_wp2_with fail
  refine (szGc_any _ _ D.grey _ _ g4 (by omega) _ (rg1.below bb4)).mono ?_
  rintro e w5 ⟨r5, rfl, z5, b5⟩
  have t9 := z5.lo
  have bb5 := below_trans bb4 b5
  obtain ⟨z5⟩ : Nonempty (Hid _) := ⟨Lib.hid (z4.out.next h0 g4 z5)⟩
  clear b5 f6 f7 f8
  by_cases c5 : r5 < 0
  · obtain rfl : r5 = -1 := by omega
    go_wp2_with fail
    go_ret
    exact ⟨_, rfl, z5.out, bb5⟩
  go_wp2_with fail
  go_ret
  exact ⟨_, rfl, z5.out, bb5⟩
end Go.Proofs.YtpaepkcfdnddgaaGreat

namespace Go.Proofs.YtpaepkcfdnddgaaGreat
open Go.RowKit
set_option linter.unusedVariables false

/-- It returned whether P. -/
def IsB (P : Prop) (e : Ending) : Prop := ∃ r : Bool, e = .returned (.bool r) ∧ (r = true ↔ P)
theorem IsB.yes {P : Prop} (h : P) : IsB P (.returned (.bool true)) := ⟨true, rfl, by simp [h]⟩
theorem IsB.no {P : Prop} (h : ¬ P) : IsB P (.returned (.bool false)) := ⟨false, rfl, by simp [h]⟩
theorem IsB.elim {P : Prop} {e : Ending} (h : IsB P e) : (P ∧ e = .returned (.bool true)) ∨ (¬ P ∧ e = .returned (.bool false)) := by
  obtain ⟨r, rfl, hr⟩ := h
  cases r
  · exact .inr ⟨by simpa using hr, rfl⟩
  · exact .inl ⟨by simpa using hr, rfl⟩

theorem Calls.isTrue {P : Prop} {R : World → Prop} {f : FuncId} {args : Array Value} {w : World} (h : Calls Tryz.prog f args w fun e w' => IsB P e ∧ R w') (hp : P) : Calls Tryz.prog f args w fun e w' => e = .returned (.bool true) ∧ R w' :=
  h.mono fun e w' ⟨hb, hr⟩ => ⟨by rcases hb.elim with ⟨_, rfl⟩ | ⟨hn, _⟩; rfl; exact absurd hp hn, hr⟩
theorem Calls.isFalse {P : Prop} {R : World → Prop} {f : FuncId} {args : Array Value} {w : World} (h : Calls Tryz.prog f args w fun e w' => IsB P e ∧ R w') (hp : ¬ P) : Calls Tryz.prog f args w fun e w' => e = .returned (.bool false) ∧ R w' :=
  h.mono fun e w' ⟨hb, hr⟩ => ⟨by rcases hb.elim with ⟨hn, _⟩ | ⟨_, rfl⟩; exact absurd hn hp; rfl, hr⟩
theorem IsB.of_yes {P : Prop} {e : Ending} (h : IsB P e) (hp : P) : e = .returned (.bool true) := by
  obtain ⟨r, rfl, hr⟩ := h
  rw [hr.2 hp]
theorem IsB.of_no {P : Prop} {e : Ending} (h : IsB P e) (hp : ¬ P) : e = .returned (.bool false) := by
  obtain ⟨r, rfl, hr⟩ := h
  cases r
  · rfl
  · exact absurd (hr.1 rfl) hp
/-- A flag that is decided. -/
theorem IsB.at_ {P : Prop} (d : Bool) (hd : d = true ↔ P) {e : Ending} (h : IsB P e) : e = .returned (.bool d) := by
  cases d
  · exact h.of_no fun hp => by have := hd.2 hp; cases this
  · exact h.of_yes (hd.1 rfl)
theorem IsB.unique {P : Prop} {e e' : Ending} (h : IsB P e) (h' : IsB P e') : e = e' := by
  obtain ⟨r, rfl, h⟩ := h
  obtain ⟨r', rfl, h'⟩ := h'
  have := h.trans h'.symm
  cases r <;> cases r' <;> simp_all
theorem take_one {L : List Int} {k : Nat} (h : k < L.length) : L.take (k + 1) = L.take k ++ [L[k]?.getD 0] := by
  rw [List.take_succ_eq_append_getElem h]; simp [List.getElem?_eq_getElem h]
/-- Each is 0, or as wanted. -/
def ZeroOr (P : Int → Prop) (L : List Int) : Prop := ∀ a, a ∈ L → a = 0 ∨ P a
theorem zeroOr_not {P : Int → Prop} {L : List Int} : (∃ a, a ∈ L ∧ a ≠ 0 ∧ ¬ P a) ↔ ¬ ZeroOr P L := by
  constructor
  · rintro ⟨a, ha, h0, hn⟩ h
    exact (h a ha).elim h0 hn
  · intro h
    apply Classical.byContradiction
    intro hn
    exact h fun a ha => Classical.byContradiction fun h2 => hn ⟨a, ha, fun e => h2 (.inl e), fun e => h2 (.inr e)⟩

end Go.Proofs.YtpaepkcfdnddgaaGreat

namespace Go.Proofs.YtpaepkcfdnddgaaGreat
open Go.RowKit
set_option linter.unusedVariables false

theorem infoInt : (Tryz.prog.info? 3).map (fun i => (i.zero, i.size, i.bytes)) = some (some (.int .i64 0), 1, 8) := by kernel_rfl
theorem infoBool : (Tryz.prog.info? 4).map (fun i => (i.zero, i.size, i.bytes)) = some (some (.bool false), 1, 1) := by kernel_rfl
theorem infoSpan : (Tryz.prog.info? 73).map (fun i => (i.zero, i.size, i.bytes)) = some (some (.agg #[.int .i64 0, .int .i64 0, .int .i64 0, .bool false, .slice none 0 0, .slice none 0 0]), 6, 80) := by kernel_rfl
theorem infoMut : (Tryz.prog.info? 78).map (fun i => (i.zero, i.size, i.bytes)) = some (some (.agg #[.slice none 0 0]), 1, 24) := by kernel_rfl

/-- A row of zeros of which the first k cells are filled. -/
def fillL (L : List Value) (z : Value) (k : Nat) : List Value := L.take k ++ List.replicate (L.length - k) z
theorem fillL_zero (L : List Value) (z : Value) : fillL L z 0 = List.replicate L.length z := by simp [fillL]
theorem fillL_all (L : List Value) (z : Value) : fillL L z L.length = L := by simp [fillL]
theorem fillL_set (L : List Value) (z : Value) (k : Nat) (h : k < L.length) : (fillL L z k).set k L[k] = fillL L z (k + 1) := by
  unfold fillL
  rw [List.set_append_right _ _ (by simp; omega)]
  have e : L.length - k = (L.length - (k + 1)) + 1 := by omega
  rw [List.length_take, Nat.min_eq_left (by omega), Nat.sub_self, e, List.replicate_succ, List.set_cons_zero, List.take_succ_eq_append_getElem h, List.append_assoc]
  rfl
theorem fillL_len (L : List Value) (z : Value) (k : Nat) (h : k ≤ L.length) : (fillL L z k).length = L.length := by simp [fillL]; omega

set_option maxHeartbeats 1000000 in
theorem toIntS_any (v : Value) (L : List Int) (hs : L.length ≤ 1048576) (w : World) (hr : Rd w v L) :
    Calls Tryz.prog 13 #[v] w fun e w' => ∃ g, e = .returned (.slice (some ⟨g, 0, none⟩) L.length L.length) ∧ w'.ownsRow w.heap.size 3 1 (.slice (some ⟨g, 0, none⟩) L.length L.length) L.length (L.map (Value.int .i64)) ∧ Below w.heap.size w w' := by
  obtain ⟨i0, hi, hz0, hz1, hz2⟩ := info_parts infoInt
  obtain ⟨a, cap, rfl, hl, hx⟩ := hr
  obtain ⟨hx⟩ : Nonempty (Hid _) := ⟨Lib.hid hx⟩
  clear hl
  go_enter Tryz.func13, Tryz.ntmps13
  go_wp2_with (at_make; refine wpList_make_full _ rfl _ _ 22 rfl w.heap.size 3 i0 (.int .i64 0) 1 Tryz.underlying22 hi hz0 hz1 .i64 .i64 _ _ L.length rfl rfl rfl rfl (by rw [hz2]; omega) (by unfold maxLen; omega) (Nat.le_refl _) ?_; intro w0 hown0 hgrow0)
  have hB0 : Below w.heap.size w w0 := (Below.refl _ _).grown hgrow0 (Nat.le_refl _) (fun k e => by cases e)
  have ho0 : w0.ownsRow w.heap.size 3 1 (.slice (some ⟨w.heap.size, 0, none⟩) L.length L.length) L.length (fillL (L.map (Value.int .i64)) (.int .i64 0) 0) := by
    rw [fillL_zero]
    have := hown0
    rw [show (Value.int .i64 0).cells = #[.int .i64 0] from rfl, Nat.mul_one, toList_madeCells_one] at this
    simpa using this
  clear hown0 hgrow0
  go_wp2
  go_loopw [4] (fun i wr => ∃ k : Nat, k ≤ L.length ∧ i = .int .i64 k ∧ wr.ownsRow w.heap.size 3 1 (.slice (some ⟨w.heap.size, 0, none⟩) L.length L.length) L.length (fillL (L.map (Value.int .i64)) (.int .i64 0) k) ∧ Below w.heap.size w wr) (fun i _ => L.length - (RowKit.intOf i).toNat)
  case atStart => exact ⟨0, Nat.zero_le _, rfl, ho0, hB0⟩
  case round =>
    obtain ⟨k, hk, rfl, hown, hB⟩ := hrel
    by_cases hlt : k < L.length
    · obtain ⟨b1, o1, rfl, x1⟩ := hx.out k hlt
      have x2 := cell_below hB x1
      have hlen : (fillL (L.map (Value.int .i64)) (.int .i64 0) k).length = L.length := by rw [fillL_len _ _ _ (by simpa using hk)]; simp
      have hc : wr.cell? ⟨w.heap.size, k, none⟩ = some ((fillL (L.map (Value.int .i64)) (.int .i64 0) k)[k]'(by omega)) := by
        rw [hown.cellAt k (by omega), List.getElem?_eq_getElem (by omega)]
      have hfz := hown.frozenAt k
      have hst := hown.stored k ((L.map (Value.int .i64))[k]'(by simpa using hlt))
      rw [fillL_set _ _ _ (by simpa using hlt)] at hst
      have he : (L.map (Value.int .i64))[k]'(by simpa using hlt) = .int .i64 (L[k]?.getD 0) := by simp [hlt]
      rw [he] at hst
      obtain ⟨hst⟩ : Nonempty (Hid _) := ⟨Lib.hid hst⟩
      generalize (fillL (L.map (Value.int .i64)) (.int .i64 0) k)[k]'(by omega) = old at hc
      have hB1 := Lib.hid (hB.setCell (p := ⟨w.heap.size, k, none⟩) (Nat.le_refl _) (.int .i64 (L[k]?.getD 0)))
      clear he hlen x1 hown hB
      generalize L[k]?.getD 0 = y at *
      go_wp2
      go_roundw
      case rel => exact ⟨k + 1, by omega, by go_num, hst.out.1, hB1.out⟩
      case measure => simp [RowKit.intOf]; omega
    · obtain rfl : k = L.length := by omega
      have hown' : wr.ownsRow w.heap.size 3 1 (.slice (some ⟨w.heap.size, 0, none⟩) L.length L.length) L.length (L.map (Value.int .i64)) := by
        have e : fillL (L.map (Value.int .i64)) (.int .i64 0) L.length = L.map (Value.int .i64) := by
          have := fillL_all (L.map (Value.int .i64)) (.int .i64 0)
          rwa [List.length_map] at this
        rw [e] at hown
        exact hown
      clear hown
      go_wp2
      go_ret
      exact ⟨_, rfl, hown', hB⟩
set_option maxHeartbeats 1000000 in
theorem toBoolS_any (v : Value) (L : List Bool) (hs : L.length ≤ 1048576) (w : World) (hr : RdB w v L) :
    Calls Tryz.prog 29 #[v] w fun e w' => ∃ g, e = .returned (.slice (some ⟨g, 0, none⟩) L.length L.length) ∧ w'.ownsRow w.heap.size 4 1 (.slice (some ⟨g, 0, none⟩) L.length L.length) L.length (L.map Value.bool) ∧ Below w.heap.size w w' := by
  obtain ⟨i0, hi, hz0, hz1, hz2⟩ := info_parts infoBool
  obtain ⟨a, cap, rfl, hl, hx⟩ := hr
  obtain ⟨hx⟩ : Nonempty (Hid _) := ⟨Lib.hid hx⟩
  clear hl
  go_enter Tryz.func29, Tryz.ntmps29
  go_wp2_with (at_make; refine wpList_make_full _ rfl _ _ 23 rfl w.heap.size 4 i0 (.bool false) 1 Tryz.underlying23 hi hz0 hz1 .i64 .i64 _ _ L.length rfl rfl rfl rfl (by rw [hz2]; omega) (by unfold maxLen; omega) (Nat.le_refl _) ?_; intro w0 hown0 hgrow0)
  have hB0 : Below w.heap.size w w0 := (Below.refl _ _).grown hgrow0 (Nat.le_refl _) (fun k e => by cases e)
  have ho0 : w0.ownsRow w.heap.size 4 1 (.slice (some ⟨w.heap.size, 0, none⟩) L.length L.length) L.length (fillL (L.map Value.bool) (.bool false) 0) := by
    rw [fillL_zero]
    have := hown0
    rw [show (Value.bool false).cells = #[.bool false] from rfl, Nat.mul_one, toList_madeCells_one] at this
    simpa using this
  clear hown0 hgrow0
  go_wp2
  go_loopw [4] (fun i wr => ∃ k : Nat, k ≤ L.length ∧ i = .int .i64 k ∧ wr.ownsRow w.heap.size 4 1 (.slice (some ⟨w.heap.size, 0, none⟩) L.length L.length) L.length (fillL (L.map Value.bool) (.bool false) k) ∧ Below w.heap.size w wr) (fun i _ => L.length - (RowKit.intOf i).toNat)
  case atStart => exact ⟨0, Nat.zero_le _, rfl, ho0, hB0⟩
  case round =>
    obtain ⟨k, hk, rfl, hown, hB⟩ := hrel
    by_cases hlt : k < L.length
    · obtain ⟨b1, o1, rfl, x1⟩ := hx.out k hlt
      have x2 := cell_below hB x1
      have hlen : (fillL (L.map Value.bool) (.bool false) k).length = L.length := by rw [fillL_len _ _ _ (by simpa using hk)]; simp
      have hc : wr.cell? ⟨w.heap.size, k, none⟩ = some ((fillL (L.map Value.bool) (.bool false) k)[k]'(by omega)) := by
        rw [hown.cellAt k (by omega), List.getElem?_eq_getElem (by omega)]
      have hfz := hown.frozenAt k
      have hst := hown.stored k ((L.map Value.bool)[k]'(by simpa using hlt))
      rw [fillL_set _ _ _ (by simpa using hlt)] at hst
      have he : (L.map Value.bool)[k]'(by simpa using hlt) = .bool (L[k]?.getD false) := by simp [hlt]
      rw [he] at hst
      obtain ⟨hst⟩ : Nonempty (Hid _) := ⟨Lib.hid hst⟩
      generalize (fillL (L.map Value.bool) (.bool false) k)[k]'(by omega) = old at hc
      have hB1 := Lib.hid (hB.setCell (p := ⟨w.heap.size, k, none⟩) (Nat.le_refl _) (.bool (L[k]?.getD false)))
      clear he hlen x1 hown hB
      generalize L[k]?.getD false = y at *
      go_wp2
      go_roundw
      case rel => exact ⟨k + 1, by omega, by go_num, hst.out.1, hB1.out⟩
      case measure => simp [RowKit.intOf]; omega
    · obtain rfl : k = L.length := by omega
      have hown' : wr.ownsRow w.heap.size 4 1 (.slice (some ⟨w.heap.size, 0, none⟩) L.length L.length) L.length (L.map Value.bool) := by
        have e : fillL (L.map Value.bool) (.bool false) L.length = L.map Value.bool := by
          have := fillL_all (L.map Value.bool) (.bool false)
          rwa [List.length_map] at this
        rw [e] at hown
        exact hown
      clear hown
      go_wp2
      go_ret
      exact ⟨_, rfl, hown', hB⟩

/-- The blocks of these values, all between lo and hi, no two alike. -/
def Fresh (lo hi : Nat) (vs : List Value) : Prop := (vs.filterMap Value.ownBlock).Nodup ∧ ∀ b, b ∈ vs.filterMap Value.ownBlock → lo ≤ b ∧ b < hi
theorem Fresh.nil (lo hi : Nat) : Fresh lo hi [] := ⟨by simp, by simp⟩
theorem Fresh.one {w : World} {lo size n : Nat} {e : TypeId} {v : Value} {xs : List Value} (h : w.ownsRow lo e size v n xs) : Fresh lo w.heap.size [v] := by
  refine ⟨?_, fun b hb => ?_⟩
  · cases hv : v.ownBlock <;> simp [hv]
  · cases hv : v.ownBlock with
    | none => simp [hv] at hb
    | some k =>
      simp [hv] at hb
      subst hb
      exact h.lt b hv
theorem Fresh.append {lo mid hi : Nat} {us vs : List Value} (h : Fresh lo mid us) (h' : Fresh mid hi vs) (h1 : lo ≤ mid) (h2 : mid ≤ hi) : Fresh lo hi (us ++ vs) := by
  refine ⟨?_, fun b hb => ?_⟩
  · rw [List.filterMap_append, List.nodup_append]
    refine ⟨h.1, h'.1, fun a ha b hb e => ?_⟩
    have := (h.2 a ha).2
    have := (h'.2 b hb).1
    omega
  · rw [List.filterMap_append, List.mem_append] at hb
    rcases hb with hb | hb
    · have := h.2 b hb; omega
    · have := h'.2 b hb; omega
theorem Fresh.mono {lo hi lo' hi' : Nat} {vs : List Value} (h : Fresh lo hi vs) (h1 : lo' ≤ lo) (h2 : hi ≤ hi') : Fresh lo' hi' vs :=
  ⟨h.1, fun b hb => by have := h.2 b hb; omega⟩

theorem grown_of_below {w w' : World} (h : Below w.heap.size w w') : w.grownBy w' none := ⟨h.os, h.tape, h.output, h.size, fun k hk _ => h.block k hk⟩
theorem own_below {w w' : World} {base size n : Nat} {e : TypeId} {v : Value} {xs : List Value} (h : w.ownsRow base e size v n xs) (hb : Below w.heap.size w w') : w'.ownsRow base e size v n xs :=
  h.kept (grown_of_below hb) (by cases v.ownBlock <;> simp)
theorem own_base {w : World} {base base' size n : Nat} {e : TypeId} {v : Value} {xs : List Value} (h : w.ownsRow base e size v n xs) (hb : base' ≤ base) : w.ownsRow base' e size v n xs :=
  ⟨h.1, h.2.imp id fun ⟨g, cap, cur, h1, h2, h3⟩ => ⟨g, cap, cur, h1, Nat.le_trans hb h2, h3⟩⟩

theorem box3 (w : World) (A B C : Obj) : (((w.alloc A).alloc B).alloc C).heap[w.heap.size]? = some A ∧ (((w.alloc A).alloc B).alloc C).heap[w.heap.size + 1]? = some B ∧ (((w.alloc A).alloc B).alloc C).heap[w.heap.size + 1 + 1]? = some C ∧ Below w.heap.size w (((w.alloc A).alloc B).alloc C) := by
  have h1 := box_new w A
  have h2 := box_new (w.alloc A) B
  have h3 := box_new ((w.alloc A).alloc B) C
  have b2 := below_box (w.alloc A) B
  have b3 := below_box ((w.alloc A).alloc B) C
  rw [World.size_alloc] at h2 h3
  rw [World.size_alloc] at h3
  exact ⟨heap_below b3 (heap_below b2 h1), heap_below b3 h2, h3, below_trans (below_trans (below_box w A) b2) b3⟩
theorem grown_set (w : World) (b i : Nat) (v : Value) : w.grownBy (w.setCell ⟨b, i, none⟩ v) (some b) :=
  ⟨rfl, rfl, rfl, by simp, fun k _ hk => heap_setCell_other w ⟨b, i, none⟩ k v (fun e => hk (by simp [e]))⟩
theorem own_set {w : World} {base size n b : Nat} {e : TypeId} {v : Value} {xs : List Value} (h : w.ownsRow base e size v n xs) (hb : b < base) (i : Nat) (u : Value) : (w.setCell ⟨b, i, none⟩ u).ownsRow base e size v n xs := by
  refine h.kept (grown_set w b i u) ?_
  cases hv : v.ownBlock with
  | none => exact .inl rfl
  | some k => refine .inr fun e => ?_; have := (h.lt k hv).1; cases e; omega

/-- A slice of n at the head of block g, no spare room. -/
abbrev sl (g n : Nat) : Value := .slice (some ⟨g, 0, none⟩) n n

set_option maxRecDepth 100000 in
set_option maxHeartbeats 2000000 in
theorem toSpan_any (s : SpanD) (vl vp : Value) (hs1 : s.lens.length ≤ 1048576) (hs2 : s.ptrs.length ≤ 1048576) (w : World) (hl : Rd w vl s.lens) (hp : Rd w vp s.ptrs) :
    Calls Tryz.prog 79 #[spanV s vl vp] w fun e w' => ∃ p : Nat × Nat, e = .returned (spanV s (sl p.1 s.lens.length) (sl p.2 s.ptrs.length)) ∧
      w'.ownsRow w.heap.size 3 1 (sl p.1 s.lens.length) s.lens.length (s.lens.map (Value.int .i64)) ∧ w'.ownsRow w.heap.size 3 1 (sl p.2 s.ptrs.length) s.ptrs.length (s.ptrs.map (Value.int .i64)) ∧ Fresh w.heap.size w'.heap.size [sl p.1 s.lens.length, sl p.2 s.ptrs.length] ∧ Below w.heap.size w w' := by
  unfold spanV
  obtain ⟨hA, hR, hC, bb⟩ := box3 w (.cells #[.int .i64 s.page, .int .i64 s.cls, .int .i64 s.mark, .bool s.swept, vl, vp] 88) (.cells #[.int .i64 0, .int .i64 0, .int .i64 0, .bool false, .slice none 0 0, .slice none 0 0] 73) (.cells #[.int .i64 s.page, .int .i64 s.cls, .int .i64 s.mark, .bool s.swept, .slice none 0 0, .slice none 0 0] 73)
  obtain ⟨hA⟩ : Nonempty (Hid _) := ⟨Lib.hid hA⟩
  obtain ⟨hR⟩ : Nonempty (Hid _) := ⟨Lib.hid hR⟩
  obtain ⟨hC⟩ : Nonempty (Hid _) := ⟨Lib.hid hC⟩
  go_enter Tryz.func79, Tryz.ntmps79
  go_wp2_with fail
  refine (toIntS_any vl s.lens hs1 _ (hl.below bb)).mono ?_
  rintro e w1 ⟨g1, rfl, o1, b1⟩
  have z1 := b1.size
  simp only [World.size_alloc] at z1
  have A1 := heap_below b1 hA.out
  have R1 := heap_below b1 hR.out
  have C1 := heap_below b1 hC.out
  have bw1 := below_trans bb b1
  have fA5 := cell_of_heap A1 5 _ rfl
  have fC4 := cell_of_heap C1 4 _ rfl
  have gC4 := frozen_of_heap C1 4
  have A2 := Lib.hid ((heap_setCell_other w1 ⟨w.heap.size + 1 + 1, 4, none⟩ w.heap.size (.slice (some ⟨g1, 0, none⟩) s.lens.length s.lens.length) (by simp; omega)).trans A1)
  have R2 := Lib.hid ((heap_setCell_other w1 ⟨w.heap.size + 1 + 1, 4, none⟩ (w.heap.size + 1) (.slice (some ⟨g1, 0, none⟩) s.lens.length s.lens.length) (by simp)).trans R1)
  have C2 := Lib.hid (heap_setCell_same w1 (w.heap.size + 1 + 1) 4 _ _ (.slice (some ⟨g1, 0, none⟩) s.lens.length s.lens.length) C1)
  have bw2 := bw1.setCell (p := ⟨w.heap.size + 1 + 1, 4, none⟩) (by simp; omega) (.slice (some ⟨g1, 0, none⟩) s.lens.length s.lens.length)
  have o2 := Lib.hid (own_set o1 (b := w.heap.size + 1 + 1) (by simp) 4 (.slice (some ⟨g1, 0, none⟩) s.lens.length s.lens.length))
  obtain ⟨bw2⟩ : Nonempty (Hid _) := ⟨Lib.hid bw2⟩
  have fr1 := Lib.hid (Fresh.one o1)
  clear A1 R1 C1 b1 bw1 o1
  go_wp2_with fail
  refine (toIntS_any vp s.ptrs hs2 _ (hp.below bw2.out)).mono ?_
  rintro e w3 ⟨g3, rfl, o3, b3⟩
  have z3 := b3.size
  simp only [World.size_setCell] at z3
  have R3 := heap_below b3 R2.out
  have C3 := heap_below b3 C2.out
  have bw3 := Lib.hid (below_trans bw2.out b3)
  have q0 := cell_of_heap C3 0 _ rfl
  have q1 := cell_of_heap C3 1 _ rfl
  have q2 := cell_of_heap C3 2 _ rfl
  have q3 := cell_of_heap C3 3 _ rfl
  have q4 := cell_of_heap C3 4 _ rfl
  have q5 := cell_of_heap C3 5 _ rfl
  have gC5 := frozen_of_heap C3 5
  have r0 := cell_of_heap R3 0 _ rfl
  have y0 := frozen_of_heap R3 0
  have r1 := cell_of_heap R3 1 _ rfl
  have y1 := frozen_of_heap R3 1
  have r2 := cell_of_heap R3 2 _ rfl
  have y2 := frozen_of_heap R3 2
  have r3 := cell_of_heap R3 3 _ rfl
  have y3 := frozen_of_heap R3 3
  have r4 := cell_of_heap R3 4 _ rfl
  have y4 := frozen_of_heap R3 4
  have r5 := cell_of_heap R3 5 _ rfl
  have y5 := frozen_of_heap R3 5
  have o4 := Lib.hid (own_below o2.out b3)
  obtain ⟨o3⟩ : Nonempty (Hid _) := ⟨Lib.hid o3⟩
  obtain ⟨C3⟩ : Nonempty (Hid _) := ⟨Lib.hid C3⟩
  obtain ⟨R3⟩ : Nonempty (Hid _) := ⟨Lib.hid R3⟩
  clear b3 fA5 fC4 gC4
  go_wp2_with fail
  refine bodyPost_ret (v := .agg #[.int .i64 s.page, .int .i64 s.cls, .int .i64 s.mark, .bool s.swept, .slice (some ⟨g1, 0, none⟩) s.lens.length s.lens.length, .slice (some ⟨g3, 0, none⟩) s.ptrs.length s.ptrs.length])
    (by simp [results, Tryz.results79, go_sem, r0, r1, r2, r3, r4, r5]) rfl ?_
  have L3 : w3.ownsRow (w.heap.size + 1 + 1 + 1) 3 1 (.slice (some ⟨g1, 0, none⟩) s.lens.length s.lens.length) s.lens.length (s.lens.map (Value.int .i64)) := by simpa using o4.out
  have P3 : w3.ownsRow (w1.heap.size) 3 1 (.slice (some ⟨g3, 0, none⟩) s.ptrs.length s.ptrs.length) s.ptrs.length (s.ptrs.map (Value.int .i64)) := by simpa using o3.out
  have F1 := fr1.out
  have F3 := Fresh.one P3
  simp only [World.size_alloc] at F1
  have ha : w.heap.size + 1 < w.heap.size + 1 + 1 + 1 := by omega
  have hb : w.heap.size + 1 + 1 < w.heap.size + 1 + 1 + 1 := by omega
  have ha' : w.heap.size + 1 < w1.heap.size := by omega
  have hb' : w.heap.size + 1 + 1 < w1.heap.size := by omega
  refine ⟨(g1, g3), rfl, own_base (own_set (own_set (own_set (own_set (own_set (own_set (own_set L3 hb _ _) ha _ _) ha _ _) ha _ _) ha _ _) ha _ _) ha _ _) (by omega),
    own_base (own_set (own_set (own_set (own_set (own_set (own_set (own_set P3 hb' _ _) ha' _ _) ha' _ _) ha' _ _) ha' _ _) ha' _ _) ha' _ _) (by omega), ?_, ?_⟩
  · simp only [World.size_setCell]
    exact (Fresh.append F1 F3 (by omega) (by omega)).mono (by omega) (Nat.le_refl _)
  · have hn : w.heap.size ≤ w.heap.size + 1 := by omega
    have hn2 : w.heap.size ≤ w.heap.size + 1 + 1 := by omega
    exact ((((((bw3.out.setCell (p := ⟨w.heap.size + 1 + 1, 5, none⟩) hn2 _).setCell (p := ⟨w.heap.size + 1, 0, none⟩) hn _).setCell (p := ⟨w.heap.size + 1, 1, none⟩) hn _).setCell (p := ⟨w.heap.size + 1, 2, none⟩) hn _).setCell (p := ⟨w.heap.size + 1, 3, none⟩) hn _).setCell (p := ⟨w.heap.size + 1, 4, none⟩) hn _).setCell (p := ⟨w.heap.size + 1, 5, none⟩) hn _

/-- The six cells of a span. -/
def spanC (s : SpanD) (p : Nat × Nat) : List Value := [.int .i64 s.page, .int .i64 s.cls, .int .i64 s.mark, .bool s.swept, sl p.1 s.lens.length, sl p.2 s.ptrs.length]
def zero6 : List Value := [.int .i64 0, .int .i64 0, .int .i64 0, .bool false, .slice none 0 0, .slice none 0 0]
def flatS (L : List SpanD) (sv : List (Nat × Nat)) : List Value := (List.zip L sv).flatMap fun x => spanC x.1 x.2
/-- A row of spans of which the first are filled. -/
def rowS (L : List SpanD) (sv : List (Nat × Nat)) : List Value := flatS L sv ++ (List.replicate (L.length - sv.length) zero6).flatten
theorem flatS_len (L : List SpanD) (sv : List (Nat × Nat)) (h : sv.length ≤ L.length) : (flatS L sv).length = sv.length * 6 := by
  induction sv generalizing L with
  | nil => simp [flatS]
  | cons p sv ih =>
    cases L with
    | nil => simp at h
    | cons s L =>
      simp only [List.length_cons] at h
      have := ih L (by omega)
      simp only [flatS, List.zip_cons_cons, List.flatMap_cons, List.length_append, List.length_cons] at this ⊢
      rw [this]
      simp [spanC]; omega
theorem flatS_snoc (L : List SpanD) (sv : List (Nat × Nat)) (s : SpanD) (p : Nat × Nat) (h : L[sv.length]? = some s) : flatS L (sv ++ [p]) = flatS L sv ++ spanC s p := by
  induction sv generalizing L with
  | nil =>
    cases L with
    | nil => simp at h
    | cons s' L => simp at h; subst h; simp [flatS]
  | cons q sv ih =>
    cases L with
    | nil => simp at h
    | cons s' L =>
      have := ih L (by simpa using h)
      simp only [flatS, List.cons_append, List.zip_cons_cons, List.flatMap_cons, List.append_assoc] at this ⊢
      rw [this]
theorem set6 (A B : List Value) (z0 z1 z2 z3 z4 z5 u0 u1 u2 u3 u4 u5 : Value) (m : Nat) (h : A.length = m) :
    ((((((A ++ z0 :: z1 :: z2 :: z3 :: z4 :: z5 :: B).set m u0).set (m + 1) u1).set (m + 2) u2).set (m + 3) u3).set (m + 4) u4).set (m + 5) u5 = A ++ u0 :: u1 :: u2 :: u3 :: u4 :: u5 :: B := by
  subst h
  simp
theorem rowS_next (L : List SpanD) (sv : List (Nat × Nat)) (s : SpanD) (p : Nat × Nat) (h : L[sv.length]? = some s) :
    ((((((rowS L sv).set (sv.length * 6) (.int .i64 s.page)).set (sv.length * 6 + 1) (.int .i64 s.cls)).set (sv.length * 6 + 2) (.int .i64 s.mark)).set (sv.length * 6 + 3) (.bool s.swept)).set (sv.length * 6 + 4) (sl p.1 s.lens.length)).set (sv.length * 6 + 5) (sl p.2 s.ptrs.length) = rowS L (sv ++ [p]) := by
  have hk := (List.getElem?_eq_some_iff.1 h).1
  have e : L.length - sv.length = (L.length - (sv.length + 1)) + 1 := by omega
  unfold rowS
  rw [e, List.replicate_succ, List.flatten_cons, flatS_snoc L sv s p h, List.length_append, List.length_singleton]
  exact (set6 (flatS L sv) _ _ _ _ _ _ _ _ _ _ _ _ _ _ (flatS_len L sv (by omega))).trans (by simp [spanC])
theorem rowS_zero (L : List SpanD) : rowS L [] = (List.replicate L.length zero6).flatten := by simp [rowS, flatS]
theorem rowS_all (L : List SpanD) (sv : List (Nat × Nat)) (h : sv.length = L.length) : rowS L sv = flatS L sv := by simp [rowS, h]
theorem made6 (n : Nat) : (madeCells zero6.toArray (n * 6)).toList = (List.replicate n zero6).flatten := by
  induction n with
  | zero => simp [madeCells]
  | succ n ih =>
    have e : (n + 1) * 6 = n * 6 + 1 + 1 + 1 + 1 + 1 + 1 := by omega
    have m0 : n * 6 % 6 = 0 := by omega
    have m1 : (n * 6 + 1) % 6 = 1 := by omega
    have m2 : (n * 6 + 1 + 1) % 6 = 2 := by omega
    have m3 : (n * 6 + 1 + 1 + 1) % 6 = 3 := by omega
    have m4 : (n * 6 + 1 + 1 + 1 + 1) % 6 = 4 := by omega
    have m5 : (n * 6 + 1 + 1 + 1 + 1 + 1) % 6 = 5 := by omega
    have hsz : zero6.toArray.size = 6 := rfl
    have hm : ∀ m, (madeCells zero6.toArray m).toList = (List.range m).map (fun j => zero6.toArray[j % 6]!) := by
      intro m; unfold madeCells; rw [hsz]; simp
    rw [List.replicate_succ', List.flatten_append, ← ih, hm, hm, e]
    simp only [List.range_succ, List.map_append, List.map_cons, List.map_nil, m0, m1, m2, m3, m4, m5, List.append_assoc]
    rfl

/-- The rows of the spans' own lists. -/
def InnerS (w : World) (base : Nat) (L : List SpanD) (sv : List (Nat × Nat)) : Prop :=
  ∀ (i : Nat) (s : SpanD) (p : Nat × Nat), L[i]? = some s → sv[i]? = some p → w.ownsRow base 3 1 (sl p.1 s.lens.length) s.lens.length (s.lens.map (Value.int .i64)) ∧ w.ownsRow base 3 1 (sl p.2 s.ptrs.length) s.ptrs.length (s.ptrs.map (Value.int .i64))
def valsS (L : List SpanD) (sv : List (Nat × Nat)) : List Value := (List.zip L sv).flatMap fun x => [sl x.2.1 x.1.lens.length, sl x.2.2 x.1.ptrs.length]
theorem InnerS.below {w w' : World} {base : Nat} {L : List SpanD} {sv : List (Nat × Nat)} (h : InnerS w base L sv) (hb : Below w.heap.size w w') : InnerS w' base L sv :=
  fun i s p h1 h2 => ⟨own_below (h i s p h1 h2).1 hb, own_below (h i s p h1 h2).2 hb⟩
theorem InnerS.set {w : World} {base b : Nat} {L : List SpanD} {sv : List (Nat × Nat)} (h : InnerS w base L sv) (hb : b < base) (i : Nat) (u : Value) : InnerS (w.setCell ⟨b, i, none⟩ u) base L sv :=
  fun j s p h1 h2 => ⟨own_set (h j s p h1 h2).1 hb i u, own_set (h j s p h1 h2).2 hb i u⟩
theorem InnerS.base {w : World} {base base' : Nat} {L : List SpanD} {sv : List (Nat × Nat)} (h : InnerS w base L sv) (hb : base' ≤ base) : InnerS w base' L sv :=
  fun j s p h1 h2 => ⟨own_base (h j s p h1 h2).1 hb, own_base (h j s p h1 h2).2 hb⟩
theorem InnerS.snoc {w : World} {base : Nat} {L : List SpanD} {sv : List (Nat × Nat)} (h : InnerS w base L sv) {s : SpanD} {p : Nat × Nat} (hs : L[sv.length]? = some s)
    (h1 : w.ownsRow base 3 1 (sl p.1 s.lens.length) s.lens.length (s.lens.map (Value.int .i64))) (h2 : w.ownsRow base 3 1 (sl p.2 s.ptrs.length) s.ptrs.length (s.ptrs.map (Value.int .i64))) : InnerS w base L (sv ++ [p]) := by
  intro i s' p' hi hp
  by_cases hlt : i < sv.length
  · rw [List.getElem?_append_left hlt] at hp
    exact h i s' p' hi hp
  · have hi2 : i = sv.length := by
      have := (List.getElem?_eq_some_iff.1 hp).1
      simp at this
      omega
    subst hi2
    rw [hs] at hi
    simp at hp
    cases hi
    subst hp
    exact ⟨h1, h2⟩
theorem valsS_snoc (L : List SpanD) (sv : List (Nat × Nat)) (s : SpanD) (p : Nat × Nat) (h : L[sv.length]? = some s) : valsS L (sv ++ [p]) = valsS L sv ++ [sl p.1 s.lens.length, sl p.2 s.ptrs.length] := by
  induction sv generalizing L with
  | nil =>
    cases L with
    | nil => simp at h
    | cons s' L => simp at h; subst h; simp [valsS]
  | cons q sv ih =>
    cases L with
    | nil => simp at h
    | cons s' L =>
      have := ih L (by simpa using h)
      simp only [valsS, List.cons_append, List.zip_cons_cons, List.flatMap_cons, List.append_assoc] at this ⊢
      rw [this]

set_option maxRecDepth 100000 in
set_option maxHeartbeats 4000000 in
theorem toSpanS_any (v : Value) (L : List SpanD) (hs : L.length ≤ 1048576) (hs1 : ∀ s ∈ L, s.lens.length ≤ 1048576 ∧ s.ptrs.length ≤ 1048576) (w : World) (hr : RdS w v L) :
    Calls Tryz.prog 30 #[v] w fun e w' => ∃ (g : Nat) (sv : List (Nat × Nat)), e = .returned (sl g L.length) ∧ sv.length = L.length ∧
      w'.ownsRow w.heap.size 73 6 (sl g L.length) L.length (flatS L sv) ∧ InnerS w' w.heap.size L sv ∧ Fresh w.heap.size w'.heap.size (valsS L sv) ∧ Below w.heap.size w w' := by
  obtain ⟨i0, hi, hz0, hz1, hz2⟩ := info_parts infoSpan
  obtain ⟨a, cap, rfl, _, hx⟩ := hr
  obtain ⟨hx⟩ : Nonempty (Hid _) := ⟨Lib.hid hx⟩
  obtain ⟨hs1⟩ : Nonempty (Hid _) := ⟨Lib.hid hs1⟩
  go_enter Tryz.func30, Tryz.ntmps30
  go_wp2_with (at_make; refine wpList_make_full _ rfl _ _ 32 rfl w.heap.size 73 i0 _ 6 Tryz.underlying32 hi hz0 hz1 .i64 .i64 _ _ L.length rfl rfl rfl rfl (by rw [hz2]; omega) (by unfold maxLen; omega) (Nat.le_refl _) ?_; intro w0 hown0 hgrow0)
  have hB0 : Below w.heap.size w w0 := (Below.refl _ _).grown hgrow0 (Nat.le_refl _) (fun k e => by cases e)
  have ho0 : w0.ownsRow w.heap.size 73 6 (sl w.heap.size L.length) L.length (rowS L []) := by
    rw [rowS_zero, ← made6]
    exact hown0
  have hz0 : w.heap.size + 1 ≤ w0.heap.size := by
    have := (ho0.lt w.heap.size rfl).2
    omega
  clear hown0 hgrow0
  go_wp2
  go_loopw [4] (fun i wr => ∃ (k : Nat) (sv : List (Nat × Nat)), k ≤ L.length ∧ i = .int .i64 k ∧ Hid (sv.length = k) ∧ wr.ownsRow w.heap.size 73 6 (sl w.heap.size L.length) L.length (rowS L sv) ∧
      InnerS wr (w.heap.size + 1) L sv ∧ Fresh (w.heap.size + 1) wr.heap.size (valsS L sv) ∧ Below w.heap.size w wr ∧ w.heap.size + 1 ≤ wr.heap.size) (fun i _ => L.length - (RowKit.intOf i).toNat)
  case atStart => exact ⟨0, [], Nat.zero_le _, rfl, rfl, ho0, (fun i s p _ h => by simp at h), by simpa [valsS] using Fresh.nil _ _, hB0, hz0⟩
  case round =>
    obtain ⟨k, sv, hk, rfl, hsv, hown, hin, hfr, hB, hsz⟩ := hrel
    by_cases hlt : k < L.length
    · obtain ⟨s, hks⟩ : ∃ s, L[k]? = some s := ⟨_, List.getElem?_eq_getElem hlt⟩
      obtain ⟨b1, o1, rfl, p1⟩ := hx.out k s hks
      obtain ⟨vl, vp, x0, x1, x2, x3, x4, x5, xl, xp⟩ := p1.below hB
      have hm := hs1.out s (List.mem_of_getElem? hks)
      obtain ⟨hks⟩ : Nonempty (Hid _) := ⟨Lib.hid hks⟩
      obtain ⟨hown⟩ : Nonempty (Hid _) := ⟨Lib.hid hown⟩
      go_wp2_with fail
      refine (toSpan_any s vl vp hm.1 hm.2 wr xl xp).mono ?_
      rintro e w2 ⟨⟨g1, g3⟩, rfl, ol, op, fr2, b2⟩
      clear x0 x1 x2 x3 x4 x5 xl xp p1
      have hlen := hown.out.1
      have hown2 := own_below hown.out b2
      have old : ∀ j, j < 6 → ∃ u, w2.cell? ⟨w.heap.size, k * 6 + j, none⟩ = some u := fun j hj => by
        rw [hown2.cellAt (k * 6 + j) (by omega), List.getElem?_eq_getElem (by omega)]
        exact ⟨_, rfl⟩
      obtain ⟨u0, y0⟩ := old 0 (by omega)
      obtain ⟨u1, y1⟩ := old 1 (by omega)
      obtain ⟨u2, y2⟩ := old 2 (by omega)
      obtain ⟨u3, y3⟩ := old 3 (by omega)
      obtain ⟨u4, y4⟩ := old 4 (by omega)
      obtain ⟨u5, y5⟩ := old 5 (by omega)
      rw [Nat.add_zero] at y0
      have z0 := hown2.frozenAt (k * 6)
      have z1 := hown2.frozenAt (k * 6 + 1)
      have z2 := hown2.frozenAt (k * 6 + 2)
      have z3 := hown2.frozenAt (k * 6 + 3)
      have z4 := hown2.frozenAt (k * 6 + 4)
      have z5 := hown2.frozenAt (k * 6 + 5)
      have hsv' := hsv.out
      subst hsv'
      have hst := (((((hown2.stored (sv.length * 6) (.int .i64 s.page)).1.stored (sv.length * 6 + 1) (.int .i64 s.cls)).1.stored (sv.length * 6 + 2) (.int .i64 s.mark)).1.stored (sv.length * 6 + 3) (.bool s.swept)).1.stored (sv.length * 6 + 4) (sl g1 s.lens.length)).1.stored (sv.length * 6 + 5) (sl g3 s.ptrs.length)
      rw [rowS_next L sv s (g1, g3) hks.out] at hst
      have hw2 : w.heap.size < wr.heap.size := by omega
      have hin2 := ((((((hin.below b2).snoc hks.out (own_base ol hw2) (own_base op hw2)).set (Nat.lt_succ_self _) (sv.length * 6) (.int .i64 s.page)).set (Nat.lt_succ_self _) (sv.length * 6 + 1) (.int .i64 s.cls)).set (Nat.lt_succ_self _) (sv.length * 6 + 2) (.int .i64 s.mark)).set (Nat.lt_succ_self _) (sv.length * 6 + 3) (.bool s.swept)).set (Nat.lt_succ_self _) (sv.length * 6 + 4) (sl g1 s.lens.length)
      have hin3 := hin2.set (Nat.lt_succ_self _) (sv.length * 6 + 5) (sl g3 s.ptrs.length)
      have hfr2 : Fresh (w.heap.size + 1) w2.heap.size (valsS L (sv ++ [(g1, g3)])) := by
        rw [valsS_snoc L sv s (g1, g3) hks.out]
        exact hfr.append fr2 hsz b2.size
      have hB2 := (((((below_trans hB b2).setCell (p := ⟨w.heap.size, sv.length * 6, none⟩) (Nat.le_refl _) (.int .i64 s.page)).setCell (p := ⟨w.heap.size, sv.length * 6 + 1, none⟩) (Nat.le_refl _) (.int .i64 s.cls)).setCell (p := ⟨w.heap.size, sv.length * 6 + 2, none⟩) (Nat.le_refl _) (.int .i64 s.mark)).setCell (p := ⟨w.heap.size, sv.length * 6 + 3, none⟩) (Nat.le_refl _) (.bool s.swept)).setCell (p := ⟨w.heap.size, sv.length * 6 + 4, none⟩) (Nat.le_refl _) (sl g1 s.lens.length)
      have hB3 := hB2.setCell (p := ⟨w.heap.size, sv.length * 6 + 5, none⟩) (Nat.le_refl _) (sl g3 s.ptrs.length)
      have hfin := Lib.hid (And.intro hst.1 (And.intro hin3 (And.intro hfr2 (And.intro hB3 (Nat.le_trans hsz b2.size)))))
      clear hst hin2 hin3 hfr2 hB2 hB3 hlen hown2 old hin hfr hB b2 ol op fr2 hown
      unfold spanV
      go_wp2_with fail
      go_roundw
      case rel =>
        obtain ⟨f1, f2, f3, f4, f5⟩ := hfin.out
        exact ⟨sv.length + 1, sv ++ [(g1, g3)], by omega, by go_num, by show List.length _ = _; simp, f1, f2, by simpa using f3, f4, by simpa using f5⟩
      case measure => simp [RowKit.intOf]; omega
    · obtain rfl : k = L.length := by omega
      have hown' := hown
      rw [rowS_all L sv hsv.out] at hown'
      clear hown
      go_wp2
      go_ret
      exact ⟨_, sv, rfl, hsv.out, hown', hin.base (by omega), hfr.mono (by omega) (Nat.le_refl _), hB⟩
end Go.Proofs.YtpaepkcfdnddgaaGreat

namespace Go.Proofs.YtpaepkcfdnddgaaGreat
open Go.RowKit
set_option linter.unusedVariables false

set_option maxRecDepth 100000 in
set_option maxHeartbeats 2000000 in
theorem toMut_any (r : List Int) (vr : Value) (hs1 : r.length ≤ 1048576) (w : World) (hl : Rd w vr r) :
    Calls Tryz.prog 80 #[.agg #[vr]] w fun e w' => ∃ g : Nat, e = .returned (.agg #[sl g r.length]) ∧
      w'.ownsRow w.heap.size 3 1 (sl g r.length) r.length (r.map (Value.int .i64)) ∧ Below w.heap.size w w' := by
  obtain ⟨hA, hR, hC, bb⟩ := box3 w (.cells #[vr] 90) (.cells #[.slice none 0 0] 78) (.cells #[.slice none 0 0] 78)
  obtain ⟨hA⟩ : Nonempty (Hid _) := ⟨Lib.hid hA⟩
  obtain ⟨hR⟩ : Nonempty (Hid _) := ⟨Lib.hid hR⟩
  obtain ⟨hC⟩ : Nonempty (Hid _) := ⟨Lib.hid hC⟩
  go_enter Tryz.func80, Tryz.ntmps80
  go_wp2_with fail
  refine (toIntS_any vr r hs1 _ (hl.below bb)).mono ?_
  rintro e w1 ⟨g1, rfl, o1, b1⟩
  have z1 := b1.size
  simp only [World.size_alloc] at z1
  have R1 := heap_below b1 hR.out
  have C1 := heap_below b1 hC.out
  have bw1 := Lib.hid (below_trans bb b1)
  have fC := cell_of_heap C1 0 _ rfl
  have gC := frozen_of_heap C1 0
  have fR := cell_of_heap R1 0 _ rfl
  have gR := frozen_of_heap R1 0
  obtain ⟨o1⟩ : Nonempty (Hid _) := ⟨Lib.hid o1⟩
  clear b1 R1 C1
  go_wp2_with fail
  refine bodyPost_ret (v := .agg #[sl g1 r.length]) (by simp [results, Tryz.results80, go_sem, fR]) rfl ?_
  have L1 : w1.ownsRow (w.heap.size + 1 + 1 + 1) 3 1 (sl g1 r.length) r.length (r.map (Value.int .i64)) := by simpa using o1.out
  refine ⟨g1, rfl, own_base (own_set (own_set L1 (b := w.heap.size + 1 + 1) (by omega) _ _) (b := w.heap.size + 1) (by omega) _ _) (by omega), ?_⟩
  exact (bw1.out.setCell (p := ⟨w.heap.size + 1 + 1, 0, none⟩) (by simp; omega) _).setCell (p := ⟨w.heap.size + 1, 0, none⟩) (by simp) _

set_option maxRecDepth 100000 in
set_option maxHeartbeats 2000000 in
theorem toGc_any (p q : Int) (r : List Int) (vr : Value) (hs1 : r.length ≤ 1048576) (w : World) (hl : Rd w vr r) :
    Calls Tryz.prog 32 #[.agg #[.int .i64 p, .int .i64 q, vr]] w fun e w' => ∃ g : Nat, e = .returned (.agg #[.int .i64 p, .int .i64 q, sl g r.length]) ∧
      w'.ownsRow w.heap.size 3 1 (sl g r.length) r.length (r.map (Value.int .i64)) ∧ Below w.heap.size w w' := by
  obtain ⟨hA, hR, hC, bb⟩ := box3 w (.cells #[.int .i64 p, .int .i64 q, vr] 27) (.cells #[.int .i64 0, .int .i64 0, .slice none 0 0] 34) (.cells #[.int .i64 p, .int .i64 q, .slice none 0 0] 34)
  obtain ⟨hA⟩ : Nonempty (Hid _) := ⟨Lib.hid hA⟩
  obtain ⟨hR⟩ : Nonempty (Hid _) := ⟨Lib.hid hR⟩
  obtain ⟨hC⟩ : Nonempty (Hid _) := ⟨Lib.hid hC⟩
  go_enter Tryz.func32, Tryz.ntmps32
  go_wp2_with fail
  refine (toIntS_any vr r hs1 _ (hl.below bb)).mono ?_
  rintro e w1 ⟨g1, rfl, o1, b1⟩
  have z1 := b1.size
  simp only [World.size_alloc] at z1
  have R1 := heap_below b1 hR.out
  have C1 := heap_below b1 hC.out
  have bw1 := Lib.hid (below_trans bb b1)
  have fC0 := cell_of_heap C1 0 _ rfl
  have fC1 := cell_of_heap C1 1 _ rfl
  have fC2 := cell_of_heap C1 2 _ rfl
  have gC := frozen_of_heap C1 2
  have fR0 := cell_of_heap R1 0 _ rfl
  have fR1 := cell_of_heap R1 1 _ rfl
  have fR2 := cell_of_heap R1 2 _ rfl
  have gR0 := frozen_of_heap R1 0
  have gR1 := frozen_of_heap R1 1
  have gR2 := frozen_of_heap R1 2
  obtain ⟨o1⟩ : Nonempty (Hid _) := ⟨Lib.hid o1⟩
  clear b1 R1 C1
  go_wp2_with fail
  refine bodyPost_ret (v := .agg #[.int .i64 p, .int .i64 q, sl g1 r.length]) (by simp [results, Tryz.results32, go_sem, fR0, fR1, fR2]) rfl ?_
  have L1 : w1.ownsRow (w.heap.size + 1 + 1 + 1) 3 1 (sl g1 r.length) r.length (r.map (Value.int .i64)) := by simpa using o1.out
  refine ⟨g1, rfl, own_base (own_set (own_set (own_set (own_set L1 (b := w.heap.size + 1 + 1) (by omega) _ _) (b := w.heap.size + 1) (by omega) _ _) (b := w.heap.size + 1) (by omega) _ _) (b := w.heap.size + 1) (by omega) _ _) (by omega), ?_⟩
  exact (((bw1.out.setCell (p := ⟨w.heap.size + 1 + 1, 2, none⟩) (by simp; omega) _).setCell (p := ⟨w.heap.size + 1, 0, none⟩) (by simp) _).setCell (p := ⟨w.heap.size + 1, 1, none⟩) (by simp) _).setCell (p := ⟨w.heap.size + 1, 2, none⟩) (by simp) _

/-- The users' rows. -/
def valsM (L : List (List Int)) (mv : List Nat) : List Value := (List.zip L mv).map fun x => sl x.2 x.1.length
def rowM (L : List (List Int)) (mv : List Nat) : List Value := valsM L mv ++ List.replicate (L.length - mv.length) (.slice none 0 0)
def InnerM (w : World) (base : Nat) (L : List (List Int)) (mv : List Nat) : Prop :=
  ∀ (i : Nat) (r : List Int) (g : Nat), L[i]? = some r → mv[i]? = some g → w.ownsRow base 3 1 (sl g r.length) r.length (r.map (Value.int .i64))
theorem InnerM.below {w w' : World} {base : Nat} {L : List (List Int)} {mv : List Nat} (h : InnerM w base L mv) (hb : Below w.heap.size w w') : InnerM w' base L mv :=
  fun i s p h1 h2 => own_below (h i s p h1 h2) hb
theorem InnerM.set {w : World} {base b : Nat} {L : List (List Int)} {mv : List Nat} (h : InnerM w base L mv) (hb : b < base) (i : Nat) (u : Value) : InnerM (w.setCell ⟨b, i, none⟩ u) base L mv :=
  fun j s p h1 h2 => own_set (h j s p h1 h2) hb i u
theorem InnerM.base {w : World} {base base' : Nat} {L : List (List Int)} {mv : List Nat} (h : InnerM w base L mv) (hb : base' ≤ base) : InnerM w base' L mv :=
  fun j s p h1 h2 => own_base (h j s p h1 h2) hb
theorem InnerM.snoc {w : World} {base : Nat} {L : List (List Int)} {mv : List Nat} (h : InnerM w base L mv) {r : List Int} {g : Nat} (hs : L[mv.length]? = some r)
    (h1 : w.ownsRow base 3 1 (sl g r.length) r.length (r.map (Value.int .i64))) : InnerM w base L (mv ++ [g]) := by
  intro i s' p' hi hp
  by_cases hlt : i < mv.length
  · rw [List.getElem?_append_left hlt] at hp
    exact h i s' p' hi hp
  · have hi2 : i = mv.length := by
      have := (List.getElem?_eq_some_iff.1 hp).1
      simp at this
      omega
    subst hi2
    rw [hs] at hi
    simp at hp
    cases hi
    subst hp
    exact h1
theorem valsM_snoc (L : List (List Int)) (mv : List Nat) (r : List Int) (g : Nat) (h : L[mv.length]? = some r) : valsM L (mv ++ [g]) = valsM L mv ++ [sl g r.length] := by
  induction mv generalizing L with
  | nil =>
    cases L with
    | nil => simp at h
    | cons s' L => simp at h; subst h; simp [valsM]
  | cons q sv ih =>
    cases L with
    | nil => simp at h
    | cons s' L =>
      have := ih L (by simpa using h)
      simp only [valsM, List.cons_append, List.zip_cons_cons, List.map_cons] at this ⊢
      rw [this]
theorem valsM_len (L : List (List Int)) (mv : List Nat) (h : mv.length ≤ L.length) : (valsM L mv).length = mv.length := by simp [valsM]; omega
theorem rowM_next (L : List (List Int)) (mv : List Nat) (r : List Int) (g : Nat) (h : L[mv.length]? = some r) : (rowM L mv).set mv.length (sl g r.length) = rowM L (mv ++ [g]) := by
  have hk := (List.getElem?_eq_some_iff.1 h).1
  have e : L.length - mv.length = (L.length - (mv.length + 1)) + 1 := by omega
  unfold rowM
  rw [e, List.replicate_succ, valsM_snoc L mv r g h, List.length_append, List.length_singleton, List.set_append_right _ _ (by rw [valsM_len L mv (by omega)]; omega), valsM_len L mv (by omega), Nat.sub_self, List.set_cons_zero, List.append_assoc]
  rfl

set_option maxRecDepth 100000 in
set_option maxHeartbeats 4000000 in
theorem toMutS_any (v : Value) (L : List (List Int)) (hs : L.length ≤ 1048576) (hs1 : ∀ r ∈ L, r.length ≤ 1048576) (w : World) (hr : RdM w v L) :
    Calls Tryz.prog 31 #[v] w fun e w' => ∃ (g : Nat) (mv : List Nat), e = .returned (sl g L.length) ∧ mv.length = L.length ∧
      w'.ownsRow w.heap.size 78 1 (sl g L.length) L.length (valsM L mv) ∧ InnerM w' w.heap.size L mv ∧ Fresh w.heap.size w'.heap.size (valsM L mv) ∧ Below w.heap.size w w' := by
  obtain ⟨i0, hi, hz0, hz1, hz2⟩ := info_parts infoMut
  obtain ⟨a, cap, rfl, _, hx⟩ := hr
  obtain ⟨hx⟩ : Nonempty (Hid _) := ⟨Lib.hid hx⟩
  obtain ⟨hs1⟩ : Nonempty (Hid _) := ⟨Lib.hid hs1⟩
  go_enter Tryz.func31, Tryz.ntmps31
  go_wp2_with (at_make; refine wpList_make_full _ rfl _ _ 33 rfl w.heap.size 78 i0 _ 1 Tryz.underlying33 hi hz0 hz1 .i64 .i64 _ _ L.length rfl rfl rfl rfl (by rw [hz2]; omega) (by unfold maxLen; omega) (Nat.le_refl _) ?_; intro w0 hown0 hgrow0)
  have hB0 : Below w.heap.size w w0 := (Below.refl _ _).grown hgrow0 (Nat.le_refl _) (fun k e => by cases e)
  have ho0 : w0.ownsRow w.heap.size 78 1 (sl w.heap.size L.length) L.length (rowM L []) := by
    have := hown0
    rw [show (Value.agg #[.slice none 0 0]).cells = #[.slice none 0 0] from rfl, Nat.mul_one, toList_madeCells_one] at this
    simpa [rowM, valsM] using this
  have hz0 : w.heap.size + 1 ≤ w0.heap.size := by
    have := (ho0.lt w.heap.size rfl).2
    omega
  clear hown0 hgrow0
  go_wp2
  go_loopw [4] (fun i wr => ∃ (k : Nat) (mv : List Nat), k ≤ L.length ∧ i = .int .i64 k ∧ Hid (mv.length = k) ∧ wr.ownsRow w.heap.size 78 1 (sl w.heap.size L.length) L.length (rowM L mv) ∧
      InnerM wr (w.heap.size + 1) L mv ∧ Fresh (w.heap.size + 1) wr.heap.size (valsM L mv) ∧ Below w.heap.size w wr ∧ w.heap.size + 1 ≤ wr.heap.size) (fun i _ => L.length - (RowKit.intOf i).toNat)
  case atStart => exact ⟨0, [], Nat.zero_le _, rfl, rfl, ho0, (fun i s p _ h => by simp at h), by simpa [valsM] using Fresh.nil _ _, hB0, hz0⟩
  case round =>
    obtain ⟨k, mv, hk, rfl, hsv, hown, hin, hfr, hB, hsz⟩ := hrel
    by_cases hlt : k < L.length
    · obtain ⟨r, hks⟩ : ∃ r, L[k]? = some r := ⟨_, List.getElem?_eq_getElem hlt⟩
      obtain ⟨b1, o1, vr, rfl, x0, xr⟩ := hx.out k r hks
      have x1 := cell_below hB x0
      have xr1 := xr.below hB
      have hm := hs1.out r (List.mem_of_getElem? hks)
      obtain ⟨hks⟩ : Nonempty (Hid _) := ⟨Lib.hid hks⟩
      obtain ⟨hown⟩ : Nonempty (Hid _) := ⟨Lib.hid hown⟩
      clear x0 xr
      go_wp2_with fail
      refine (toMut_any r vr hm wr xr1).mono ?_
      rintro e w2 ⟨g1, rfl, ol, b2⟩
      clear x1 xr1
      have hlen := hown.out.1
      have hown2 := own_below hown.out b2
      obtain ⟨u0, y0⟩ : ∃ u, w2.cell? ⟨w.heap.size, k, none⟩ = some u := by
        rw [hown2.cellAt k (by omega), List.getElem?_eq_getElem (by omega)]
        exact ⟨_, rfl⟩
      have z0 := hown2.frozenAt k
      have hsv' := hsv.out
      subst hsv'
      have hst := hown2.stored mv.length (sl g1 r.length)
      rw [rowM_next L mv r g1 hks.out] at hst
      have hw2 : w.heap.size < wr.heap.size := by omega
      have hin2 := ((hin.below b2).snoc hks.out (own_base ol hw2)).set (Nat.lt_succ_self _) mv.length (sl g1 r.length)
      have hfr2 : Fresh (w.heap.size + 1) w2.heap.size (valsM L (mv ++ [g1])) := by
        rw [valsM_snoc L mv r g1 hks.out]
        exact hfr.append (Fresh.one ol) hsz b2.size
      have hB2 := (below_trans hB b2).setCell (p := ⟨w.heap.size, mv.length, none⟩) (Nat.le_refl _) (sl g1 r.length)
      have hfin := Lib.hid (And.intro hst.1 (And.intro hin2 (And.intro hfr2 (And.intro hB2 (Nat.le_trans hsz b2.size)))))
      clear hst hin2 hfr2 hB2 hlen hown2 hin hfr hB b2 ol hown
      go_wp2_with fail
      go_roundw
      case rel =>
        obtain ⟨f1, f2, f3, f4, f5⟩ := hfin.out
        exact ⟨mv.length + 1, mv ++ [g1], by omega, by go_num, by show List.length _ = _; simp, f1, f2, by simpa using f3, f4, by simpa using f5⟩
      case measure => simp [RowKit.intOf]; omega
    · obtain rfl : k = L.length := by omega
      have hown' := hown
      rw [show rowM L mv = valsM L mv by simp [rowM, hsv.out]] at hown'
      clear hown
      go_wp2
      go_ret
      exact ⟨_, mv, rfl, hsv.out, hown', hin.base (by omega), hfr.mono (by omega) (Nat.le_refl _), hB⟩
end Go.Proofs.YtpaepkcfdnddgaaGreat

namespace Go.Proofs.YtpaepkcfdnddgaaGreat
open Go.RowKit
set_option linter.unusedVariables false

/-- The slice values of a World. -/
structure Shape where
  vw : Value
  vd : Value
  vs : Value
  vm : Value
  vg : Value
  sv : List (Value × Value)
  mv : List Value
def spanCv (s : SpanD) (p : Value × Value) : List Value := [.int .i64 s.page, .int .i64 s.cls, .int .i64 s.mark, .bool s.swept, p.1, p.2]
def flatV (L : List SpanD) (sv : List (Value × Value)) : List Value := (List.zip L sv).flatMap fun x => spanCv x.1 x.2
def Shape.val (S : Shape) (D : WD) : Value := .agg #[.int .i64 D.base, .int .i64 D.pages, S.vw, S.vd, S.vs, S.vm, .int .i64 D.phase, .int .i64 D.next, S.vg]
/-- All lists of ints. -/
def Shape.ints (S : Shape) : List Value := S.vw :: (S.sv.flatMap fun p => [p.1, p.2]) ++ S.mv ++ [S.vg]
/-- THE WORLD OWNS ALL ITS LISTS, in blocks from base on; no two lists share one. -/
structure OwnW (w : World) (base : Nat) (S : Shape) (D : WD) : Prop where
  words : w.ownsRow base 3 1 S.vw D.words.length (D.words.map (Value.int .i64))
  dirty : w.ownsRow base 4 1 S.vd D.dirty.length (D.dirty.map Value.bool)
  spans : w.ownsRow base 73 6 S.vs D.spans.length (flatV D.spans S.sv)
  svl : S.sv.length = D.spans.length
  inner : ∀ (i : Nat) (s : SpanD) (p : Value × Value), D.spans[i]? = some s → S.sv[i]? = some p → w.ownsRow base 3 1 p.1 s.lens.length (s.lens.map (Value.int .i64)) ∧ w.ownsRow base 3 1 p.2 s.ptrs.length (s.ptrs.map (Value.int .i64))
  muts : w.ownsRow base 78 1 S.vm D.muts.length S.mv
  mvl : S.mv.length = D.muts.length
  innerM : ∀ (i : Nat) (r : List Int) (v : Value), D.muts[i]? = some r → S.mv[i]? = some v → w.ownsRow base 3 1 v r.length (r.map (Value.int .i64))
  grey : w.ownsRow base 3 1 S.vg D.grey.length (D.grey.map (Value.int .i64))
  nodup : (S.ints.filterMap Value.ownBlock).Nodup

theorem OwnW.below {w w' : World} {base : Nat} {S : Shape} {D : WD} (h : OwnW w base S D) (hb : Below w.heap.size w w') : OwnW w' base S D :=
  ⟨own_below h.words hb, own_below h.dirty hb, own_below h.spans hb, h.svl, fun i s p h1 h2 => ⟨own_below (h.inner i s p h1 h2).1 hb, own_below (h.inner i s p h1 h2).2 hb⟩,
    own_below h.muts hb, h.mvl, fun i r v h1 h2 => own_below (h.innerM i r v h1 h2) hb, own_below h.grey hb, h.nodup⟩
theorem OwnW.base {w : World} {base base' : Nat} {S : Shape} {D : WD} (h : OwnW w base S D) (hb : base' ≤ base) : OwnW w base' S D :=
  ⟨own_base h.words hb, own_base h.dirty hb, own_base h.spans hb, h.svl, fun i s p h1 h2 => ⟨own_base (h.inner i s p h1 h2).1 hb, own_base (h.inner i s p h1 h2).2 hb⟩,
    own_base h.muts hb, h.mvl, fun i r v h1 h2 => own_base (h.innerM i r v h1 h2) hb, own_base h.grey hb, h.nodup⟩

theorem Rd.of_owns {w : World} {base : Nat} {v : Value} {L : List Int} (h : w.ownsRow base 3 1 v L.length (L.map (Value.int .i64))) : Rd w v L := by
  have h' := h
  rcases h.2 with ⟨rfl, h0⟩ | ⟨g, cap, cur, rfl, _, _, hc1, hc2, _, _⟩
  · exact ⟨none, 0, by rw [h0], by rw [h0]; unfold maxLen; omega, fun j hj => by omega⟩
  · refine ⟨some ⟨g, 0, none⟩, cap, rfl, by omega, fun j hj => ⟨g, 0, rfl, ?_⟩⟩
    rw [Nat.zero_add, h'.cellAt j (by simpa using hj)]
    simp [hj]
theorem RdB.of_owns {w : World} {base : Nat} {v : Value} {L : List Bool} (h : w.ownsRow base 4 1 v L.length (L.map Value.bool)) : RdB w v L := by
  have h' := h
  rcases h.2 with ⟨rfl, h0⟩ | ⟨g, cap, cur, rfl, _, _, hc1, hc2, _, _⟩
  · exact ⟨none, 0, by rw [h0], by rw [h0]; unfold maxLen; omega, fun j hj => by omega⟩
  · refine ⟨some ⟨g, 0, none⟩, cap, rfl, by omega, fun j hj => ⟨g, 0, rfl, ?_⟩⟩
    rw [Nat.zero_add, h'.cellAt j (by simpa using hj)]
    simp [hj]
theorem flatV_len (L : List SpanD) (sv : List (Value × Value)) (h : sv.length = L.length) : (flatV L sv).length = L.length * 6 := by
  induction sv generalizing L with
  | nil => cases L with
    | nil => simp [flatV]
    | cons s L => simp at h
  | cons p sv ih =>
    cases L with
    | nil => simp at h
    | cons s L =>
      simp only [List.length_cons] at h
      have := ih L (by omega)
      simp only [flatV, List.zip_cons_cons, List.flatMap_cons, List.length_append, List.length_cons] at this ⊢
      rw [this]
      simp [spanCv]; omega
theorem flatV_at (L : List SpanD) (sv : List (Value × Value)) (k : Nat) (s : SpanD) (p : Value × Value) (h1 : L[k]? = some s) (h2 : sv[k]? = some p) (j : Nat) (hj : j < 6) : (flatV L sv)[k * 6 + j]? = (spanCv s p)[j]? := by
  induction k generalizing L sv with
  | zero =>
    cases L with
    | nil => simp at h1
    | cons s' L =>
      cases sv with
      | nil => simp at h2
      | cons p' sv =>
        simp at h1 h2
        subst h1; subst h2
        simp only [flatV, List.zip_cons_cons, List.flatMap_cons]
        rw [List.getElem?_append_left (by simp [spanCv]; omega)]
        simp
  | succ k ih =>
    cases L with
    | nil => simp at h1
    | cons s' L =>
      cases sv with
      | nil => simp at h2
      | cons p' sv =>
        simp at h1 h2
        have := ih L sv h1 h2
        simp only [flatV, List.zip_cons_cons, List.flatMap_cons] at this ⊢
        rw [List.getElem?_append_right (by simp [spanCv]; omega)]
        have e : (k + 1) * 6 + j - (spanCv s' p').length = k * 6 + j := by simp [spanCv]; omega
        rw [e, this]
theorem RdS.of_owns {w : World} {base : Nat} {v : Value} {L : List SpanD} {sv : List (Value × Value)} (h : w.ownsRow base 73 6 v L.length (flatV L sv)) (hl : sv.length = L.length)
    (hi : ∀ (i : Nat) (s : SpanD) (p : Value × Value), L[i]? = some s → sv[i]? = some p → w.ownsRow base 3 1 p.1 s.lens.length (s.lens.map (Value.int .i64)) ∧ w.ownsRow base 3 1 p.2 s.ptrs.length (s.ptrs.map (Value.int .i64))) : RdS w v L := by
  have h' := h
  rcases h.2 with ⟨rfl, h0⟩ | ⟨g, cap, cur, rfl, _, _, hc1, hc2, _, _⟩
  · obtain rfl : L = [] := List.length_eq_zero_iff.1 h0
    exact ⟨none, 0, rfl, by unfold maxLen; simp, fun j s hj => by simp at hj⟩
  · refine ⟨some ⟨g, 0, none⟩, cap, rfl, by omega, fun j s hj => ⟨g, 0, rfl, ?_⟩⟩
    have hlt := (List.getElem?_eq_some_iff.1 hj).1
    obtain ⟨p, hp⟩ : ∃ p, sv[j]? = some p := ⟨_, List.getElem?_eq_getElem (by omega)⟩
    have hc : ∀ i, i < 6 → w.cell? ⟨g, 0 + j * 6 + i, none⟩ = (spanCv s p)[i]? := fun i hi6 => by
      rw [Nat.zero_add, h'.cellAt (j * 6 + i) (by omega), flatV_at L sv j s p hj hp i hi6]
    exact ⟨p.1, p.2, hc 0 (by omega), hc 1 (by omega), hc 2 (by omega), hc 3 (by omega), hc 4 (by omega), hc 5 (by omega), Rd.of_owns (hi j s p hj hp).1, Rd.of_owns (hi j s p hj hp).2⟩
theorem RdM.of_owns {w : World} {base : Nat} {v : Value} {L : List (List Int)} {mv : List Value} (h : w.ownsRow base 78 1 v L.length mv) (hl : mv.length = L.length)
    (hi : ∀ (i : Nat) (r : List Int) (u : Value), L[i]? = some r → mv[i]? = some u → w.ownsRow base 3 1 u r.length (r.map (Value.int .i64))) : RdM w v L := by
  have h' := h
  rcases h.2 with ⟨rfl, h0⟩ | ⟨g, cap, cur, rfl, _, _, hc1, hc2, _, _⟩
  · obtain rfl : L = [] := List.length_eq_zero_iff.1 h0
    exact ⟨none, 0, rfl, by unfold maxLen; simp, fun j s hj => by simp at hj⟩
  · refine ⟨some ⟨g, 0, none⟩, cap, rfl, by omega, fun j r hj => ?_⟩
    have hlt := (List.getElem?_eq_some_iff.1 hj).1
    obtain ⟨u, hu⟩ : ∃ u, mv[j]? = some u := ⟨_, List.getElem?_eq_getElem (by omega)⟩
    refine ⟨g, 0, u, rfl, ?_, Rd.of_owns (hi j r u hj hu)⟩
    rw [Nat.zero_add, h'.cellAt j (by omega), hu]
theorem OwnW.rd {w : World} {base : Nat} {S : Shape} {D : WD} (h : OwnW w base S D) : RdW w (S.val D) D :=
  ⟨_, _, _, _, _, rfl, Rd.of_owns h.words, RdB.of_owns h.dirty, RdS.of_owns h.spans h.svl h.inner, RdM.of_owns h.muts h.mvl h.innerM, Rd.of_owns h.grey⟩

/-- The shape of a World that was copied. -/
def pairsS (L : List SpanD) (sv : List (Nat × Nat)) : List (Value × Value) := (List.zip L sv).map fun x => (sl x.2.1 x.1.lens.length, sl x.2.2 x.1.ptrs.length)
theorem pairsS_len (L : List SpanD) (sv : List (Nat × Nat)) (h : sv.length = L.length) : (pairsS L sv).length = L.length := by simp [pairsS, h]
theorem flatS_eq (L : List SpanD) (sv : List (Nat × Nat)) : flatS L sv = flatV L (pairsS L sv) := by
  induction sv generalizing L with
  | nil => simp [flatS, flatV, pairsS]
  | cons p sv ih =>
    cases L with
    | nil => simp [flatS, flatV, pairsS]
    | cons s L =>
      have := ih L
      simp only [flatS, flatV, pairsS, List.zip_cons_cons, List.flatMap_cons, List.map_cons] at this ⊢
      rw [this]
      rfl
theorem valsS_eq (L : List SpanD) (sv : List (Nat × Nat)) : (pairsS L sv).flatMap (fun p => [p.1, p.2]) = valsS L sv := by
  simp [pairsS, valsS, List.flatMap_map]
theorem pairsS_at (L : List SpanD) (sv : List (Nat × Nat)) (i : Nat) (s : SpanD) (p : Value × Value) (h1 : L[i]? = some s) (h2 : (pairsS L sv)[i]? = some p) : ∃ q, sv[i]? = some q ∧ p = (sl q.1 s.lens.length, sl q.2 s.ptrs.length) := by
  simp only [pairsS, List.getElem?_map, Option.map_eq_some_iff] at h2
  obtain ⟨x, hx, rfl⟩ := h2
  obtain ⟨ha, hb⟩ := List.getElem?_zip_eq_some.1 hx
  rw [h1] at ha
  cases ha
  exact ⟨_, hb, rfl⟩
theorem valsM_at (L : List (List Int)) (mv : List Nat) (i : Nat) (r : List Int) (v : Value) (h1 : L[i]? = some r) (h2 : (valsM L mv)[i]? = some v) : ∃ g, mv[i]? = some g ∧ v = sl g r.length := by
  simp only [valsM, List.getElem?_map, Option.map_eq_some_iff] at h2
  obtain ⟨x, hx, rfl⟩ := h2
  obtain ⟨ha, hb⟩ := List.getElem?_zip_eq_some.1 hx
  rw [h1] at ha
  cases ha
  exact ⟨_, hb, rfl⟩
/-- Small enough to be copied. -/
structure Small (D : WD) : Prop where
  words : D.words.length ≤ 1048576
  dirty : D.dirty.length ≤ 1048576
  spans : D.spans.length ≤ 1048576
  inner : ∀ s ∈ D.spans, s.lens.length ≤ 1048576 ∧ s.ptrs.length ≤ 1048576
  muts : D.muts.length ≤ 1048576
  innerM : ∀ r ∈ D.muts, r.length ≤ 1048576
  grey : D.grey.length ≤ 1048576
theorem sum_ge {α : Type} (f : α → Nat) (l : List α) (x : α) (h : x ∈ l) : f x ≤ (l.map f).sum := by
  induction l with
  | nil => simp at h
  | cons y l ih =>
    simp only [List.mem_cons] at h
    simp only [List.map_cons, List.sum_cons]
    rcases h with rfl | h
    · omega
    · have := ih h; omega
theorem Small.of_bulk {D : WD} (h : D.bulk ≤ 1048576) : Small D := by
  unfold WD.bulk at h
  refine ⟨by omega, by omega, by omega, fun s hs => ?_, by omega, fun r hr => ?_, by omega⟩
  · have := sum_ge SpanD.bulk D.spans s hs
    unfold bulkS at h
    unfold SpanD.bulk at this
    have e : (D.spans.map SpanD.bulk).sum = (D.spans.map fun s => s.lens.length + s.ptrs.length).sum := rfl
    rw [e] at h
    omega
  · have := sum_ge List.length D.muts r hr
    unfold bulkM at h
    omega

/-- Blocks c1 and c2 alone have turned. -/
structure Two (c1 c2 : Nat) (w w' : World) : Prop where
  os : w'.os = w.os
  tape : w'.tape = w.tape
  output : w'.output = w.output
  size : w'.heap.size = w.heap.size
  block : ∀ k, k ≠ c1 → k ≠ c2 → w'.heap[k]? = w.heap[k]?
theorem Two.refl (c1 c2 : Nat) (w : World) : Two c1 c2 w w := ⟨rfl, rfl, rfl, rfl, fun _ _ _ => rfl⟩
theorem Two.set {c1 c2 b : Nat} {w w' : World} (h : Two c1 c2 w w') (hb : b = c1 ∨ b = c2) (i : Nat) (u : Value) : Two c1 c2 w (w'.setCell ⟨b, i, none⟩ u) :=
  ⟨h.os, h.tape, h.output, by rw [World.size_setCell]; exact h.size, fun k h1 h2 => (heap_setCell_other w' ⟨b, i, none⟩ k u (by rcases hb with rfl | rfl <;> assumption)).trans (h.block k h1 h2)⟩
theorem Two.own {c1 c2 : Nat} {w w' : World} (h : Two c1 c2 w w') {base size n : Nat} {e : TypeId} {v : Value} {xs : List Value} (ho : w.ownsRow base e size v n xs) (h1 : c1 < base) (h2 : c2 < base) : w'.ownsRow base e size v n xs := by
  refine ⟨ho.1, ho.2.imp id fun ⟨g, cap, cur, hv, hb, hg, hr⟩ => ⟨g, cap, cur, hv, hb, ?_, hr⟩⟩
  rw [h.block g (by omega) (by omega)]
  exact hg
theorem Two.below {c1 c2 B : Nat} {a w w' : World} (h : Two c1 c2 w w') (hb : Below B a w) (h1 : B ≤ c1) (h2 : B ≤ c2) : Below B a w' :=
  ⟨h.os.trans hb.os, h.tape.trans hb.tape, h.output.trans hb.output, by rw [h.size]; exact hb.size, fun k hk => (h.block k (by omega) (by omega)).trans (hb.block k hk)⟩

theorem toWorld_fin (D : WD) (w w5 W' : World) (n h1 h2 h3 h4 : Nat) (s1 : n + 1 + 1 + 1 ≤ h1) (s2 : h1 ≤ h2) (s3 : h2 ≤ h3) (s4 : h3 ≤ h4) (s5 : h4 ≤ w5.heap.size) (hn : n = w.heap.size) (g1 g2 g3 g4 g5 : Nat) (sv : List (Nat × Nat)) (mv : List Nat)
    (l3 : sv.length = D.spans.length) (l4 : mv.length = D.muts.length)
    (o1 : w5.ownsRow (n + 1 + 1 + 1) 3 1 (sl g1 D.words.length) D.words.length (D.words.map (Value.int .i64)))
    (o2 : w5.ownsRow h1 4 1 (sl g2 D.dirty.length) D.dirty.length (D.dirty.map Value.bool))
    (o3 : w5.ownsRow h2 73 6 (sl g3 D.spans.length) D.spans.length (flatS D.spans sv)) (i3 : InnerS w5 h2 D.spans sv)
    (o4 : w5.ownsRow h3 78 1 (sl g4 D.muts.length) D.muts.length (valsM D.muts mv)) (i4 : InnerM w5 h3 D.muts mv)
    (o5 : w5.ownsRow h4 3 1 (sl g5 D.grey.length) D.grey.length (D.grey.map (Value.int .i64)))
    (Q : Below n w w5) (f1 : Fresh (n + 1 + 1 + 1) h1 [sl g1 D.words.length]) (f3 : Fresh h2 h3 (valsS D.spans sv)) (f4 : Fresh h3 h4 (valsM D.muts mv)) (f5 : Fresh h4 w5.heap.size [sl g5 D.grey.length]) (T : Two (n + 1) (n + 1 + 1) w5 W') :
    ∃ S : Shape, Ending.returned (.agg #[.int .i64 D.base, .int .i64 D.pages, sl g1 D.words.length, sl g2 D.dirty.length, sl g3 D.spans.length, sl g4 D.muts.length, .int .i64 D.phase, .int .i64 D.next, sl g5 D.grey.length]) = .returned (S.val D) ∧ OwnW W' n S D ∧ Below n w W' := by
  have fin : ∀ {base size m : Nat} {e : TypeId} {v : Value} {xs : List Value}, w5.ownsRow base e size v m xs → n + 1 + 1 < base → W'.ownsRow n e size v m xs := fun h hb => own_base (T.own h (by omega) hb) (by omega)
  refine ⟨⟨sl g1 D.words.length, sl g2 D.dirty.length, sl g3 D.spans.length, sl g4 D.muts.length, sl g5 D.grey.length, pairsS D.spans sv, valsM D.muts mv⟩, rfl, ?_, T.below Q (by omega) (by omega)⟩
  refine ⟨fin o1 (by omega), fin o2 (by omega), by rw [← flatS_eq]; exact fin o3 (by omega), pairsS_len _ _ l3, fun i s p h1 h2 => ?_, fin o4 (by omega), by simp [valsM, l4], fun i r v h1 h2 => ?_, fin o5 (by omega), ?_⟩
  · obtain ⟨q, hq, rfl⟩ := pairsS_at _ _ _ _ _ h1 h2
    exact ⟨fin (i3 i s q h1 hq).1 (by omega), fin (i3 i s q h1 hq).2 (by omega)⟩
  · obtain ⟨q, hq, rfl⟩ := valsM_at _ _ _ _ _ h1 h2
    exact fin (i4 i r q h1 hq) (by omega)
  · have e : Shape.ints ⟨sl g1 D.words.length, sl g2 D.dirty.length, sl g3 D.spans.length, sl g4 D.muts.length, sl g5 D.grey.length, pairsS D.spans sv, valsM D.muts mv⟩ = [sl g1 D.words.length] ++ valsS D.spans sv ++ valsM D.muts mv ++ [sl g5 D.grey.length] := by
      simp only [Shape.ints, valsS_eq, List.singleton_append]
    rw [e]
    exact ((((f1.mono (Nat.le_refl _) s2).append f3 (by omega) s3).append f4 (by omega) s4).append f5 (by omega) s5).1

set_option maxRecDepth 100000 in
set_option maxHeartbeats 8000000 in
theorem toWorld_any (v : Value) (D : WD) (hs : Small D) (w : World) (hr : RdW w v D) :
    Calls Tryz.prog 9 #[v] w fun e w' => ∃ S : Shape, e = .returned (S.val D) ∧ OwnW w' w.heap.size S D ∧ Below w.heap.size w w' := by
  obtain ⟨vw, vd, vs, vm, vg, rfl, a1, a2, a3, a4, a5⟩ := hr
  obtain ⟨hA, hR, hC, bb⟩ := box3 w (.cells #[.int .i64 D.base, .int .i64 D.pages, vw, vd, vs, vm, .int .i64 D.phase, .int .i64 D.next, vg] 29) (.cells #[.int .i64 0, .int .i64 0, .slice none 0 0, .slice none 0 0, .slice none 0 0, .slice none 0 0, .int .i64 0, .int .i64 0, .slice none 0 0] 36) (.cells #[.int .i64 D.base, .int .i64 D.pages, .slice none 0 0, .slice none 0 0, .slice none 0 0, .slice none 0 0, .int .i64 0, .int .i64 0, .slice none 0 0] 36)
  obtain ⟨hA⟩ : Nonempty (Hid _) := ⟨Lib.hid hA⟩
  obtain ⟨hR⟩ : Nonempty (Hid _) := ⟨Lib.hid hR⟩
  obtain ⟨hC⟩ : Nonempty (Hid _) := ⟨Lib.hid hC⟩
  obtain ⟨q0⟩ : Nonempty (Hid _) := ⟨Lib.hid bb⟩
  go_enter Tryz.func9, Tryz.ntmps9
  go_wp2_with fail
  refine (toIntS_any vw D.words hs.words _ (a1.below bb)).mono ?_
  rintro e w1 ⟨g1, rfl, o1, b1⟩
  have s1 := b1.size
  simp only [World.size_alloc] at s1
  have A := heap_below b1 hA.out
  have R := heap_below b1 hR.out
  have C := heap_below b1 hC.out
  have Q := below_trans q0.out b1
  have fr1 := Lib.hid (Fresh.one o1)
  have fA3 := cell_of_heap A 3 _ rfl
  have fC := cell_of_heap C 2 _ rfl
  have gC := frozen_of_heap C 2
  have A' := Lib.hid ((heap_setCell_other w1 ⟨w.heap.size + 1 + 1, 2, none⟩ w.heap.size (sl g1 D.words.length) (by simp; omega)).trans A)
  have R' := Lib.hid ((heap_setCell_other w1 ⟨w.heap.size + 1 + 1, 2, none⟩ (w.heap.size + 1) (sl g1 D.words.length) (by simp)).trans R)
  have C' := Lib.hid (heap_setCell_same w1 (w.heap.size + 1 + 1) 2 _ _ (sl g1 D.words.length) C)
  have Q' := Lib.hid (Q.setCell (p := ⟨w.heap.size + 1 + 1, 2, none⟩) (by simp; omega) (sl g1 D.words.length))
  have o1' := Lib.hid (own_set o1 (b := w.heap.size + 1 + 1) (by simp at s1 ⊢; try omega) 2 (sl g1 D.words.length))
  clear A R C Q o1 b1
  go_wp2_with fail
  refine (toBoolS_any vd D.dirty hs.dirty _ (a2.below Q'.out)).mono ?_
  rintro e w2 ⟨g2, rfl, o2, b2⟩
  have s2 := b2.size
  simp only [World.size_setCell] at s2
  have A := heap_below b2 A'.out
  have R := heap_below b2 R'.out
  have C := heap_below b2 C'.out
  have Q := below_trans Q'.out b2
  have o1 := own_below o1'.out b2
  clear A' R' C' Q' o1' fC gC fA3
  have fA4 := cell_of_heap A 4 _ rfl
  have fC := cell_of_heap C 3 _ rfl
  have gC := frozen_of_heap C 3
  have A' := Lib.hid ((heap_setCell_other w2 ⟨w.heap.size + 1 + 1, 3, none⟩ w.heap.size (sl g2 D.dirty.length) (by simp; omega)).trans A)
  have R' := Lib.hid ((heap_setCell_other w2 ⟨w.heap.size + 1 + 1, 3, none⟩ (w.heap.size + 1) (sl g2 D.dirty.length) (by simp)).trans R)
  have C' := Lib.hid (heap_setCell_same w2 (w.heap.size + 1 + 1) 3 _ _ (sl g2 D.dirty.length) C)
  have Q' := Lib.hid (Q.setCell (p := ⟨w.heap.size + 1 + 1, 3, none⟩) (by simp; omega) (sl g2 D.dirty.length))
  have o1' := Lib.hid (own_set o1 (b := w.heap.size + 1 + 1) (by simp at s2 ⊢; try omega) 3 (sl g2 D.dirty.length))
  have o2' := Lib.hid (own_set o2 (b := w.heap.size + 1 + 1) (by simp at s2 ⊢; try omega) 3 (sl g2 D.dirty.length))
  clear A R C Q o1 o2 b2
  go_wp2_with fail
  refine (toSpanS_any vs D.spans hs.spans hs.inner _ (a3.below Q'.out)).mono ?_
  rintro e w3 ⟨g3, sv, rfl, l3, o3, i3, f3, b3⟩
  have s3 := b3.size
  simp only [World.size_setCell] at s3
  have A := heap_below b3 A'.out
  have R := heap_below b3 R'.out
  have C := heap_below b3 C'.out
  have Q := below_trans Q'.out b3
  have o1 := own_below o1'.out b3
  have o2 := own_below o2'.out b3
  clear A' R' C' Q' o1' o2' fC gC fA4
  obtain ⟨l3⟩ : Nonempty (Hid _) := ⟨Lib.hid l3⟩
  obtain ⟨f3⟩ : Nonempty (Hid _) := ⟨Lib.hid f3⟩
  have fA5 := cell_of_heap A 5 _ rfl
  have fC := cell_of_heap C 4 _ rfl
  have gC := frozen_of_heap C 4
  have A' := Lib.hid ((heap_setCell_other w3 ⟨w.heap.size + 1 + 1, 4, none⟩ w.heap.size (sl g3 D.spans.length) (by simp; omega)).trans A)
  have R' := Lib.hid ((heap_setCell_other w3 ⟨w.heap.size + 1 + 1, 4, none⟩ (w.heap.size + 1) (sl g3 D.spans.length) (by simp)).trans R)
  have C' := Lib.hid (heap_setCell_same w3 (w.heap.size + 1 + 1) 4 _ _ (sl g3 D.spans.length) C)
  have Q' := Lib.hid (Q.setCell (p := ⟨w.heap.size + 1 + 1, 4, none⟩) (by simp; omega) (sl g3 D.spans.length))
  have o1' := Lib.hid (own_set o1 (b := w.heap.size + 1 + 1) (by simp at s3 ⊢; try omega) 4 (sl g3 D.spans.length))
  have o2' := Lib.hid (own_set o2 (b := w.heap.size + 1 + 1) (by simp at s3 ⊢; try omega) 4 (sl g3 D.spans.length))
  have o3' := Lib.hid (own_set o3 (b := w.heap.size + 1 + 1) (by simp at s3 ⊢; try omega) 4 (sl g3 D.spans.length))
  have i3' := Lib.hid (i3.set (b := w.heap.size + 1 + 1) (by simp at s3 ⊢; try omega) 4 (sl g3 D.spans.length))
  clear A R C Q o1 o2 o3 i3 b3
  go_wp2_with fail
  refine (toMutS_any vm D.muts hs.muts hs.innerM _ (a4.below Q'.out)).mono ?_
  rintro e w4 ⟨g4, mv, rfl, l4, o4, i4, f4, b4⟩
  have s4 := b4.size
  simp only [World.size_setCell] at s4
  have A := heap_below b4 A'.out
  have R := heap_below b4 R'.out
  have C := heap_below b4 C'.out
  have Q := below_trans Q'.out b4
  have o1 := own_below o1'.out b4
  have o2 := own_below o2'.out b4
  have o3 := own_below o3'.out b4
  have i3 := i3'.out.below b4
  clear A' R' C' Q' o1' o2' o3' i3' fC gC fA5
  obtain ⟨l4⟩ : Nonempty (Hid _) := ⟨Lib.hid l4⟩
  obtain ⟨f4⟩ : Nonempty (Hid _) := ⟨Lib.hid f4⟩
  have fA6 := cell_of_heap A 6 _ rfl
  have fA7 := cell_of_heap A 7 _ rfl
  have fA8 := cell_of_heap A 8 _ rfl
  have fC := cell_of_heap C 5 _ rfl
  have gC := frozen_of_heap C 5
  have A' := Lib.hid ((heap_setCell_other w4 ⟨w.heap.size + 1 + 1, 5, none⟩ w.heap.size (sl g4 D.muts.length) (by simp; omega)).trans A)
  have R' := Lib.hid ((heap_setCell_other w4 ⟨w.heap.size + 1 + 1, 5, none⟩ (w.heap.size + 1) (sl g4 D.muts.length) (by simp)).trans R)
  have C' := Lib.hid (heap_setCell_same w4 (w.heap.size + 1 + 1) 5 _ _ (sl g4 D.muts.length) C)
  have Q' := Lib.hid (Q.setCell (p := ⟨w.heap.size + 1 + 1, 5, none⟩) (by simp; omega) (sl g4 D.muts.length))
  have o1' := Lib.hid (own_set o1 (b := w.heap.size + 1 + 1) (by simp at s4 ⊢; try omega) 5 (sl g4 D.muts.length))
  have o2' := Lib.hid (own_set o2 (b := w.heap.size + 1 + 1) (by simp at s4 ⊢; try omega) 5 (sl g4 D.muts.length))
  have o3' := Lib.hid (own_set o3 (b := w.heap.size + 1 + 1) (by simp at s4 ⊢; try omega) 5 (sl g4 D.muts.length))
  have i3' := Lib.hid (i3.set (b := w.heap.size + 1 + 1) (by simp at s4 ⊢; try omega) 5 (sl g4 D.muts.length))
  have o4' := Lib.hid (own_set o4 (b := w.heap.size + 1 + 1) (by simp at s4 ⊢; try omega) 5 (sl g4 D.muts.length))
  have i4' := Lib.hid (i4.set (b := w.heap.size + 1 + 1) (by simp at s4 ⊢; try omega) 5 (sl g4 D.muts.length))
  clear A R C Q o1 o2 o3 i3 o4 i4 b4
  go_wp2_with fail
  refine (toGc_any D.phase D.next D.grey vg hs.grey _ (a5.below Q'.out)).mono ?_
  rintro e w5 ⟨g5, rfl, o5, b5⟩
  have s5 := b5.size
  simp only [World.size_setCell] at s5
  have A := heap_below b5 A'.out
  have R := heap_below b5 R'.out
  have C := heap_below b5 C'.out
  have Q := below_trans Q'.out b5
  have o1 := own_below o1'.out b5
  have o2 := own_below o2'.out b5
  have o3 := own_below o3'.out b5
  have i3 := i3'.out.below b5
  have o4 := own_below o4'.out b5
  have i4 := i4'.out.below b5
  clear A' R' C' Q' o1' o2' o3' i3' o4' i4' fC gC fA6 fA7 fA8
  have fr5 := Lib.hid (Fresh.one o5)
  have gC6 := frozen_of_heap C 6
  have gC7 := frozen_of_heap C 7
  have gC8 := frozen_of_heap C 8
  have fC0 := cell_of_heap C 0 _ rfl
  have fR0 := cell_of_heap R 0 _ rfl
  have gR0 := frozen_of_heap R 0
  have fC1 := cell_of_heap C 1 _ rfl
  have fR1 := cell_of_heap R 1 _ rfl
  have gR1 := frozen_of_heap R 1
  have fC2 := cell_of_heap C 2 _ rfl
  have fR2 := cell_of_heap R 2 _ rfl
  have gR2 := frozen_of_heap R 2
  have fC3 := cell_of_heap C 3 _ rfl
  have fR3 := cell_of_heap R 3 _ rfl
  have gR3 := frozen_of_heap R 3
  have fC4 := cell_of_heap C 4 _ rfl
  have fR4 := cell_of_heap R 4 _ rfl
  have gR4 := frozen_of_heap R 4
  have fC5 := cell_of_heap C 5 _ rfl
  have fR5 := cell_of_heap R 5 _ rfl
  have gR5 := frozen_of_heap R 5
  have fC6 := cell_of_heap C 6 _ rfl
  have fR6 := cell_of_heap R 6 _ rfl
  have gR6 := frozen_of_heap R 6
  have fC7 := cell_of_heap C 7 _ rfl
  have fR7 := cell_of_heap R 7 _ rfl
  have gR7 := frozen_of_heap R 7
  have fC8 := cell_of_heap C 8 _ rfl
  have fR8 := cell_of_heap R 8 _ rfl
  have gR8 := frozen_of_heap R 8
  have Z := Lib.hid (And.intro o1 (And.intro o2 (And.intro o3 (And.intro i3 (And.intro o4 (And.intro i4 (And.intro o5 Q)))))))
  clear A R C Q o1 o2 o3 i3 o4 i4 o5 b5
  go_wp2_with fail
  refine bodyPost_ret (v := .agg #[.int .i64 D.base, .int .i64 D.pages, sl g1 D.words.length, sl g2 D.dirty.length, sl g3 D.spans.length, sl g4 D.muts.length, .int .i64 D.phase, .int .i64 D.next, sl g5 D.grey.length])
    (by simp [results, Tryz.results9, go_sem, fR0, fR1, fR2, fR3, fR4, fR5, fR6, fR7, fR8]) rfl ?_
  obtain ⟨o1, o2, o3, i3, o4, i4, o5, Q⟩ := Z.out
  simp only [World.size_alloc, World.size_setCell] at o1 o2 o3 i3 o4 i4 o5
  have fr1' := fr1.out
  have f3' := f3.out
  have f4' := f4.out
  have fr5' := fr5.out
  simp only [World.size_alloc, World.size_setCell] at fr1' f3' f4' fr5'
  exact toWorld_fin D w w5 _ w.heap.size w1.heap.size w2.heap.size w3.heap.size w4.heap.size (by omega) (by omega) (by omega) (by omega) (by omega) rfl g1 g2 g3 g4 g5 sv mv l3.out l4.out o1 o2 o3 i3 o4 i4 o5 Q fr1' f3' f4' fr5' (((((((((((((Two.refl _ _ _).set (.inr rfl) 6 _).set (.inr rfl) 7 _).set (.inr rfl) 8 _).set (.inl rfl) 0 _).set (.inl rfl) 1 _).set (.inl rfl) 2 _).set (.inl rfl) 3 _).set (.inl rfl) 4 _).set (.inl rfl) 5 _).set (.inl rfl) 6 _).set (.inl rfl) 7 _).set (.inl rfl) 8 _)
end Go.Proofs.YtpaepkcfdnddgaaGreat

namespace Go.Proofs.YtpaepkcfdnddgaaGreat
open Go.RowKit
set_option linter.unusedVariables false

set_option maxHeartbeats 1000000 in
theorem eqIntS_same (v1 v2 : Value) (L : List Int) (w : World) (h1 : Rd w v1 L) (h2 : Rd w v2 L) :
    Calls Tryz.prog 15 #[v1, v2] w fun e w' => e = .returned (.bool true) ∧ ∃ n, w' = w.drewN n := by
  obtain ⟨a1, c1, rfl, hL, r1⟩ := h1
  obtain ⟨a2, c2, rfl, _, r2⟩ := h2
  unfold maxLen at hL
  obtain ⟨r1⟩ : Nonempty (Hid _) := ⟨Lib.hid r1⟩
  obtain ⟨r2⟩ : Nonempty (Hid _) := ⟨Lib.hid r2⟩
  go_enter Tryz.func15, Tryz.ntmps15
  go_wp2
  go_loopw [5] (fun i wr => ∃ k n : Nat, k ≤ L.length ∧ i = .int .i64 k ∧ wr = w.drewN n) (fun i _ => L.length - (RowKit.intOf i).toNat)
  case atStart => exact ⟨0, 0, Nat.zero_le _, rfl, rfl⟩
  case round =>
    obtain ⟨k, n, hk, rfl, rfl⟩ := hrel
    by_cases hlt : k < L.length
    · obtain ⟨b1, o1, rfl, x1⟩ := r1.out k hlt
      obtain ⟨b2, o2, rfl, x2⟩ := r2.out k hlt
      go_wp2
      go_quiet (fail)
      go_wp2
      go_roundw
      case rel => exact ⟨k + 1, _, by omega, by go_num, rfl⟩
      case measure => simp [RowKit.intOf]; omega
    · obtain rfl : k = L.length := by omega
      go_wp2
      go_ret
      exact ⟨rfl, n, rfl⟩

set_option maxHeartbeats 1000000 in
theorem eqBoolS_same (v1 v2 : Value) (L : List Bool) (w : World) (h1 : RdB w v1 L) (h2 : RdB w v2 L) :
    Calls Tryz.prog 37 #[v1, v2] w fun e w' => e = .returned (.bool true) ∧ ∃ n, w' = w.drewN n := by
  obtain ⟨a1, c1, rfl, hL, r1⟩ := h1
  obtain ⟨a2, c2, rfl, _, r2⟩ := h2
  unfold maxLen at hL
  obtain ⟨r1⟩ : Nonempty (Hid _) := ⟨Lib.hid r1⟩
  obtain ⟨r2⟩ : Nonempty (Hid _) := ⟨Lib.hid r2⟩
  go_enter Tryz.func37, Tryz.ntmps37
  go_wp2
  go_loopw [5] (fun i wr => ∃ k n : Nat, k ≤ L.length ∧ i = .int .i64 k ∧ wr = w.drewN n) (fun i _ => L.length - (RowKit.intOf i).toNat)
  case atStart => exact ⟨0, 0, Nat.zero_le _, rfl, rfl⟩
  case round =>
    obtain ⟨k, n, hk, rfl, rfl⟩ := hrel
    by_cases hlt : k < L.length
    · obtain ⟨b1, o1, rfl, x1⟩ := r1.out k hlt
      obtain ⟨b2, o2, rfl, x2⟩ := r2.out k hlt
      go_wp2
      go_quiet (fail)
      go_wp2
      go_roundw
      case rel => exact ⟨k + 1, _, by omega, by go_num, rfl⟩
      case measure => simp [RowKit.intOf]; omega
    · obtain rfl : k = L.length := by omega
      go_wp2
      go_ret
      exact ⟨rfl, n, rfl⟩

theorem below_drewN' {w : World} (n : Nat) : Below w.heap.size w (w.drewN n) := below_drewN (Below.refl _ _) n

set_option maxHeartbeats 1000000 in
theorem eqSpan_same (s : SpanD) (vl vp vl' vp' : Value) (w : World) (hl : Rd w vl s.lens) (hp : Rd w vp s.ptrs) (hl' : Rd w vl' s.lens) (hp' : Rd w vp' s.ptrs) :
    Calls Tryz.prog 85 #[spanV s vl vp, spanV s vl' vp'] w fun e w' => e = .returned (.bool true) ∧ Below w.heap.size w w' := by
  unfold spanV
  have bb : Below w.heap.size w ((w.alloc (.cells #[.int .i64 s.page, .int .i64 s.cls, .int .i64 s.mark, .bool s.swept, vl, vp] 73)).alloc (.cells #[.int .i64 s.page, .int .i64 s.cls, .int .i64 s.mark, .bool s.swept, vl', vp'] 73)) :=
    below_trans (below_box _ _) (below_box _ _)
  have xl := hl.below bb
  have xp := hp.below bb
  have xl' := hl'.below bb
  have xp' := hp'.below bb
  clear hl hp hl' hp'
  go_enter Tryz.func85, Tryz.ntmps85
  go_wp2_with fail
  refine (eqIntS_same _ _ s.lens _ xl xl').mono ?_
  rintro e w1 ⟨rfl, n, rfl⟩
  go_wp2_with fail
  refine (eqIntS_same _ _ s.ptrs _ (xp.drewN n) (xp'.drewN n)).mono ?_
  rintro e w1 ⟨rfl, m, rfl⟩
  go_wp2_with fail
  go_ret
  exact ⟨rfl, below_trans bb (below_drewN' _)⟩

set_option maxHeartbeats 1000000 in
theorem eqMut_same (r : List Int) (vr vr' : Value) (w : World) (hl : Rd w vr r) (hl' : Rd w vr' r) :
    Calls Tryz.prog 86 #[.agg #[vr], .agg #[vr']] w fun e w' => e = .returned (.bool true) ∧ Below w.heap.size w w' := by
  have bb : Below w.heap.size w ((w.alloc (.cells #[vr] 78)).alloc (.cells #[vr'] 78)) := below_trans (below_box _ _) (below_box _ _)
  have xl := hl.below bb
  have xl' := hl'.below bb
  clear hl hl'
  go_enter Tryz.func86, Tryz.ntmps86
  go_wp2_with fail
  refine (eqIntS_same _ _ r _ xl xl').mono ?_
  rintro e w1 ⟨rfl, n, rfl⟩
  go_wp2_with fail
  go_ret
  exact ⟨rfl, below_trans bb (below_drewN' n)⟩

set_option maxHeartbeats 1000000 in
theorem eqGc_same (p q : Int) (g : List Int) (vg vg' : Value) (w : World) (hl : Rd w vg g) (hl' : Rd w vg' g) :
    Calls Tryz.prog 40 #[.agg #[.int .i64 p, .int .i64 q, vg], .agg #[.int .i64 p, .int .i64 q, vg']] w fun e w' => e = .returned (.bool true) ∧ Below w.heap.size w w' := by
  have bb : Below w.heap.size w ((w.alloc (.cells #[.int .i64 p, .int .i64 q, vg] 34)).alloc (.cells #[.int .i64 p, .int .i64 q, vg'] 34)) := below_trans (below_box _ _) (below_box _ _)
  have xl := hl.below bb
  have xl' := hl'.below bb
  clear hl hl'
  go_enter Tryz.func40, Tryz.ntmps40
  go_wp2_with fail
  refine (eqIntS_same _ _ g _ xl xl').mono ?_
  rintro e w1 ⟨rfl, n, rfl⟩
  go_wp2_with fail
  go_ret
  exact ⟨rfl, below_trans bb (below_drewN' n)⟩

set_option maxRecDepth 100000 in
set_option maxHeartbeats 2000000 in
theorem eqSpanS_same (v1 v2 : Value) (L : List SpanD) (w : World) (h1 : RdS w v1 L) (h2 : RdS w v2 L) :
    Calls Tryz.prog 38 #[v1, v2] w fun e w' => e = .returned (.bool true) ∧ Below w.heap.size w w' := by
  obtain ⟨a1, c1, rfl, hL, r1⟩ := h1
  obtain ⟨a2, c2, rfl, _, r2⟩ := h2
  unfold maxLen at hL
  obtain ⟨r1⟩ : Nonempty (Hid _) := ⟨Lib.hid r1⟩
  obtain ⟨r2⟩ : Nonempty (Hid _) := ⟨Lib.hid r2⟩
  go_enter Tryz.func38, Tryz.ntmps38
  go_wp2
  go_loopw [5] (fun i wr => ∃ k : Nat, k ≤ L.length ∧ i = .int .i64 k ∧ Below w.heap.size w wr) (fun i _ => L.length - (RowKit.intOf i).toNat)
  case atStart => exact ⟨0, Nat.zero_le _, rfl, Below.refl _ _⟩
  case round =>
    obtain ⟨k, hk, rfl, hB⟩ := hrel
    by_cases hlt : k < L.length
    · obtain ⟨s, hs⟩ : ∃ s, L[k]? = some s := ⟨_, List.getElem?_eq_getElem hlt⟩
      obtain ⟨b1, o1, rfl, p1⟩ := r1.out k s hs
      obtain ⟨b2, o2, rfl, p2⟩ := r2.out k s hs
      obtain ⟨vl, vp, x0, x1, x2, x3, x4, x5, xl, xp⟩ := p1.below hB
      obtain ⟨vl', vp', y0, y1, y2, y3, y4, y5, yl, yp⟩ := p2.below hB
      have hlt' : (k : Int) < (L.length : Int) := by omega
      clear hs p1 p2
      go_wp2_with fail
      go_still_tail 8, (by kernel_rfl)
      change wpList _ _ _ _ _ wr.drew
      go_wp2_with fail
      refine (eqSpan_same s vl vp vl' vp' wr.drew xl xp yl yp).mono ?_
      rintro e w2 ⟨rfl, b2⟩
      have hB2 := below_trans hB.drew b2
      clear x0 x1 x2 x3 x4 x5 y0 y1 y2 y3 y4 y5 xl xp yl yp hB b2
      go_wp2_with fail
      go_roundw
      case rel => exact ⟨k + 1, by omega, by go_num, hB2⟩
      case measure => simp [RowKit.intOf]; omega
    · obtain rfl : k = L.length := by omega
      go_wp2
      go_ret
      exact ⟨rfl, hB⟩

set_option maxRecDepth 100000 in
set_option maxHeartbeats 2000000 in
theorem eqMutS_same (v1 v2 : Value) (L : List (List Int)) (w : World) (h1 : RdM w v1 L) (h2 : RdM w v2 L) :
    Calls Tryz.prog 39 #[v1, v2] w fun e w' => e = .returned (.bool true) ∧ Below w.heap.size w w' := by
  obtain ⟨a1, c1, rfl, hL, r1⟩ := h1
  obtain ⟨a2, c2, rfl, _, r2⟩ := h2
  unfold maxLen at hL
  obtain ⟨r1⟩ : Nonempty (Hid _) := ⟨Lib.hid r1⟩
  obtain ⟨r2⟩ : Nonempty (Hid _) := ⟨Lib.hid r2⟩
  go_enter Tryz.func39, Tryz.ntmps39
  go_wp2
  go_loopw [5] (fun i wr => ∃ k : Nat, k ≤ L.length ∧ i = .int .i64 k ∧ Below w.heap.size w wr) (fun i _ => L.length - (RowKit.intOf i).toNat)
  case atStart => exact ⟨0, Nat.zero_le _, rfl, Below.refl _ _⟩
  case round =>
    obtain ⟨k, hk, rfl, hB⟩ := hrel
    by_cases hlt : k < L.length
    · obtain ⟨s, hs⟩ : ∃ s, L[k]? = some s := ⟨_, List.getElem?_eq_getElem hlt⟩
      obtain ⟨b1, o1, vr, rfl, x0, p1⟩ := r1.out k s hs
      obtain ⟨b2, o2, vr', rfl, y0, p2⟩ := r2.out k s hs
      have x1 := cell_below hB x0
      have y1 := cell_below hB y0
      have xr := p1.below hB
      have yr := p2.below hB
      have hlt' : (k : Int) < (L.length : Int) := by omega
      clear hs p1 p2 x0 y0
      go_wp2_with fail
      go_still_tail 8, (by kernel_rfl)
      change wpList _ _ _ _ _ wr.drew
      go_wp2_with fail
      refine (eqMut_same s vr vr' wr.drew xr yr).mono ?_
      rintro e w2 ⟨rfl, b2⟩
      have hB2 := below_trans hB.drew b2
      clear x1 y1 xr yr hB b2
      go_wp2_with fail
      go_roundw
      case rel => exact ⟨k + 1, by omega, by go_num, hB2⟩
      case measure => simp [RowKit.intOf]; omega
    · obtain rfl : k = L.length := by omega
      go_wp2
      go_ret
      exact ⟨rfl, hB⟩

set_option maxRecDepth 100000 in
set_option maxHeartbeats 2000000 in
theorem eqWorld_same (v1 v2 : Value) (D : WD) (w : World) (h1 : RdW w v1 D) (h2 : RdW w v2 D) :
    Calls Tryz.prog 11 #[v1, v2] w fun e w' => e = .returned (.bool true) ∧ Below w.heap.size w w' := by
  obtain ⟨vw, vd, vs, vm, vg, rfl, a1, a2, a3, a4, a5⟩ := h1
  obtain ⟨vw', vd', vs', vm', vg', rfl, c1, c2, c3, c4, c5⟩ := h2
  go_enter Tryz.func11, Tryz.ntmps11
  go_wp2_with fail
  have p1 := box_new w (.cells #[.int .i64 D.base, .int .i64 D.pages, vw, vd, vs, vm, .int .i64 D.phase, .int .i64 D.next, vg] 36)
  have b1 := below_box w (.cells #[.int .i64 D.base, .int .i64 D.pages, vw, vd, vs, vm, .int .i64 D.phase, .int .i64 D.next, vg] 36)
  have p2 := box_new (w.alloc (.cells #[.int .i64 D.base, .int .i64 D.pages, vw, vd, vs, vm, .int .i64 D.phase, .int .i64 D.next, vg] 36)) (.cells #[.int .i64 D.base, .int .i64 D.pages, vw', vd', vs', vm', .int .i64 D.phase, .int .i64 D.next, vg'] 36)
  have b2 := below_box (w.alloc (.cells #[.int .i64 D.base, .int .i64 D.pages, vw, vd, vs, vm, .int .i64 D.phase, .int .i64 D.next, vg] 36)) (.cells #[.int .i64 D.base, .int .i64 D.pages, vw', vd', vs', vm', .int .i64 D.phase, .int .i64 D.next, vg'] 36)
  rw [World.size_alloc] at p2
  have bb := below_trans b1 b2
  have p1' := heap_below b2 p1
  obtain ⟨p1⟩ : Nonempty (Hid _) := ⟨Lib.hid p1'⟩
  obtain ⟨p2⟩ : Nonempty (Hid _) := ⟨Lib.hid p2⟩
  clear p1' b1 b2
  refine (eqIntS_same _ _ D.words _ (a1.below bb) (c1.below bb)).mono ?_
  rintro e w1 ⟨rfl, n, rfl⟩
  go_wp2_with fail
  refine (eqBoolS_same _ _ D.dirty _ ((a2.below bb).drewN n) ((c2.below bb).drewN n)).mono ?_
  rintro e w1 ⟨rfl, m, rfl⟩
  have bn := below_trans bb (below_drewN' (n + m))
  go_wp2_with fail
  refine (eqSpanS_same _ _ D.spans _ (a3.below bn) (c3.below bn)).mono ?_
  rintro e w3 ⟨rfl, b3⟩
  have q1 : w3.heap[w.heap.size]? = _ := heap_below b3 p1.out
  have q2 : w3.heap[w.heap.size + 1]? = _ := heap_below b3 p2.out
  have bb3 := below_trans bn b3
  have f5 := cell_of_heap q1 5 _ rfl
  have g5 := cell_of_heap q2 5 _ rfl
  obtain ⟨q1⟩ : Nonempty (Hid _) := ⟨Lib.hid q1⟩
  obtain ⟨q2⟩ : Nonempty (Hid _) := ⟨Lib.hid q2⟩
  clear b3
  go_wp2_with fail
  refine (eqMutS_same _ _ D.muts _ (a4.below bb3) (c4.below bb3)).mono ?_
  rintro e w4 ⟨rfl, b4⟩
  have s1 := heap_below b4 q1.out
  have s2 := heap_below b4 q2.out
  have bb4 := below_trans bb3 b4
  have f6 := cell_of_heap s1 6 _ rfl
  have f7 := cell_of_heap s1 7 _ rfl
  have f8 := cell_of_heap s1 8 _ rfl
  have g6 := cell_of_heap s2 6 _ rfl
  have g7 := cell_of_heap s2 7 _ rfl
  have g8 := cell_of_heap s2 8 _ rfl
  clear s1 s2 b4 f5 g5
  go_wp2_with fail
  refine (eqGc_same _ _ D.grey _ _ _ (a5.below bb4) (c5.below bb4)).mono ?_
  rintro e w5 ⟨rfl, b5⟩
  clear f6 f7 f8 g6 g7 g8
  go_wp2_with fail
  go_ret
  exact ⟨rfl, below_trans bb4 b5⟩
end Go.Proofs.YtpaepkcfdnddgaaGreat

namespace Go.Proofs.YtpaepkcfdnddgaaGreat
open Go.RowKit Go.Shelf
set_option linter.unusedVariables false

attribute [local go_sem] Oper.semAt_some

/-- How many cards there are. -/
def cnt (f m : Int) : Nat := ((f + m - 1) / 8 + 1 - f / 8).toNat
/-- The first k cards. -/
def upto (f : Int) (k : Nat) : List Int := (List.range k).map fun j : Nat => f / 8 + (j : Int)
theorem upto_succ (f : Int) (k : Nat) : upto f (k + 1) = upto f k ++ [f / 8 + (k : Int)] := by simp [upto, List.range_succ]
theorem upto_length (f : Int) (k : Nat) : (upto f k).length = k := by simp [upto]
theorem cnt_pos {f m : Int} (hm : 1 ≤ m) : 1 ≤ cnt f m := by unfold cnt; omega
theorem cnt_le {f m : Int} (hm : 1 ≤ m) (hm' : m ≤ 32) : cnt f m ≤ 5 := by unfold cnt; omega
theorem cnt_lt {f m : Int} {k : Nat} (h : k < cnt f m) : f / 8 + (k : Int) ≤ (f + m - 1) / 8 := by unfold cnt at h; omega
theorem cnt_end {f m : Int} {k : Nat} (h : k = cnt f m) (hm : 1 ≤ m) : (f + m - 1) / 8 < f / 8 + (k : Int) := by unfold cnt at h; omega

theorem info3 : (Tryz.prog.info? 3).map (fun i => (i.zero, i.size, i.bytes)) = some (some (.int .i64 0), 1, 8) := by kernel_rfl

/-- The cards that are told: none where an argument is not as the chapter wants it. -/
def cardsL (f m : Int) : List Int := if f < 0 ∨ 1000000 < f ∨ m < 1 ∨ 32 < m then [] else upto f (cnt f m)

end Go.Proofs.YtpaepkcfdnddgaaGreat

namespace Go.Proofs.YtpaepkcfdnddgaaGreat
open Go.RowKit
set_option linter.unusedVariables false

theorem cell_one (w : World) (t : TypeId) (x : Value) : ∀ j u, [x][j]? = some u → (w.alloc (.cells #[x] t)).cell? ((⟨w.heap.size, 0, none⟩ : Addr).add j) = some u := by
  intro j u hj
  match j, hj with
  | 0, hj => simp at hj; subst hj; simp [Addr.add]

theorem row_below {B : Nat} {a w w' : World} {size : Nat} {e : TypeId} {v : Value} {n : Nat} {xs : List Value} (h : Below B a w) (hr : w.ownsRow B e size v n xs) (hg : w.grownBy w' v.ownBlock) (hB : B ≤ w.heap.size) : Below B a w' :=
  h.grown hg hB fun k hk => (hr.lt k hk).1

end Go.Proofs.YtpaepkcfdnddgaaGreat

namespace Go.Proofs.YtpaepkcfdnddgaaGreat
open Go.RowKit
set_option linter.unusedVariables false

/-- A world in which all of W is as it was. -/
structure Ext (W : World) where
  val : World
  below : Below W.heap.size W val
def Ext.self (W : World) : Ext W := ⟨W, Below.refl _ _⟩
instance Ext.inh (W : World) : Nonempty (Ext W) := ⟨Ext.self W⟩
theorem Ext.cell {W : World} {a : Addr} {v : Value} (h : W.cell? a = some v) : ∀ x : Ext W, x.val.cell? a = some v := fun x => cell_below x.below h
theorem Ext.then {W : World} (x : Ext W) {w' : World} (h : Below x.val.heap.size x.val w') : ∃ y : Ext W, w' = y.val := ⟨⟨w', below_trans x.below h⟩, rfl⟩
theorem Ext.of {W w' : World} (h : Below W.heap.size W w') : ∃ y : Ext W, w' = y.val := ⟨⟨w', h⟩, rfl⟩
theorem Ext.size {W : World} (x : Ext W) : W.heap.size ≤ x.val.heap.size := x.below.size
/-- A callee that makes memory at most, met in the class. -/
theorem Ext.call {P : Program} {W : World} {f : FuncId} {args : Array Value} {x : Ext W} {v : Value} (h : Calls P f args x.val fun e w' => e = .returned v ∧ Below x.val.heap.size x.val w') :
    Calls P f args x.val fun e w'' => e = .returned v ∧ ∃ y : Ext W, w'' = y.val :=
  h.mono fun _ _ ⟨a, b⟩ => ⟨a, x.then b⟩
/-- .. that leaves the world alone. -/
theorem Ext.same {P : Program} {W : World} {f : FuncId} {args : Array Value} {x : Ext W} {v : Value} (h : Calls P f args x.val fun e w' => e = .returned v ∧ x.val = w') :
    Calls P f args x.val fun e w'' => e = .returned v ∧ ∃ y : Ext W, w'' = y.val :=
  h.mono fun _ _ ⟨a, b⟩ => ⟨a, x, b.symm⟩
theorem Ext.drew {W : World} (x : Ext W) : Below W.heap.size W { x.val with drawn := x.val.drawn + 1 } := ⟨x.below.os, x.below.tape, x.below.output, x.below.size, x.below.block⟩
/-- THE REGION, walked in the text's order. -/
theorem wp_region_ext {P : Program} {id : Nat} {Q : Exit → Act → World → Prop} {a : Act} {W w : World} {l : List Oper} (hb : Below W.heap.size W w) (hm : P.follows .mixedOrders = true) (hB : Region.lexB .any l.toArray = true)
    (h : wpQuiet P l.toArray (fun w' => ∃ x : Ext W, w' = x.val) (fun a' => ∀ w', (∃ x : Ext W, w' = x.val) → Q .normal a' w') l a) : (Code.region id l.toArray true).wp P Q a w :=
  wp_region_quiet (C := fun w' => ∃ x : Ext W, w' = x.val) hm hB ⟨⟨{ w with drawn := w.drawn + 1 }, ⟨hb.os, hb.tape, hb.output, hb.size, hb.block⟩⟩, rfl⟩ (by simpa using h)
end Go.Proofs.YtpaepkcfdnddgaaGreat

namespace Go.Proofs.YtpaepkcfdnddgaaGreat
open Go.RowKit
set_option linter.unusedVariables false

/-- The classes below k have no room for n. -/
def Lo (k : Nat) (n : Int) : Prop := k = 0 ∨ (k = 1 ∧ 2 < n) ∨ (k = 2 ∧ 4 < n) ∨ (k = 3 ∧ 8 < n) ∨ (k = 4 ∧ 16 < n)
theorem lo_next {k : Nat} {n : Int} (h : Lo k n) (hk : k ≤ 3) (hs : sz k < n) : Lo (k + 1) n := by
  rcases (show k = 0 ∨ k = 1 ∨ k = 2 ∨ k = 3 by omega) with rfl | rfl | rfl | rfl <;> simp [sz] at hs <;> unfold Lo <;> omega
theorem lo_cl {k : Nat} {n : Int} (h : Lo k n) (h1 : 1 ≤ n) (hk : k ≤ 3) (hs : n ≤ sz k) : (k : Int) = cl n := by
  unfold Lo at h; unfold cl
  rcases (show k = 0 ∨ k = 1 ∨ k = 2 ∨ k = 3 by omega) with rfl | rfl | rfl | rfl <;> simp [sz] at hs <;> simp at h <;> (repeat' split) <;> omega
theorem lo_end {n : Int} (h : Lo 4 n) : (-1 : Int) = cl n := by
  unfold Lo at h; unfold cl; simp at h; (repeat' split) <;> omega
theorem lo_16 {k : Nat} {n : Int} (h : Lo k n) (h16 : n ≤ 16) : k ≤ 3 := by
  unfold Lo at h; omega

end Go.Proofs.YtpaepkcfdnddgaaGreat

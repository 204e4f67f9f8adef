/-
  The contracts of the program's small functions of the heap: isIn, wordsOf, cardsOf, baseOk, pagesOk, markBit, mutsOk, (*Span).formOk.
-/
import Derived.Test.YtnmgecplagekcaaBits
import Derived.Test.YtnmgecplagekcaaIsIn
import Derived.Test.YtnmgecplagekcaaMutsOk
import Derived.Deep.RegionWith
namespace Go.Proofs.Ytnmgecplagekcaa
open Go.RowKit
set_option linter.unusedVariables false

def baseB (b : Int) : Bool := inB b 32 1048576 && (b % 32 == 0)
set_option maxHeartbeats 400000 in
theorem baseOk_any (b : Int) (w : World) : Calls Try.prog 18 #[.int .i64 b] w fun e w' => e = .returned (.bool (baseB b)) ∧ w = w' := by
  cases hv : inB b 32 1048576
  · have hb : baseB b = false := by simp [baseB, hv]
    rw [hb]
    clear hb
    have hv' := Lib.hid hv
    clear hv
    go_enter Try.func18, Try.ntmps18
    go_wp2_with (go_at_call 20; refine (isIn_eq hv'.out _).mono ?_; rintro e w' ⟨rfl, rfl⟩)
    go_ret
    exact ⟨rfl, rfl⟩
  · have h0 := inB_iff.1 hv
    obtain ⟨h1, h2⟩ := h0
    have hv' := Lib.hid hv
    have hb : baseB b = (b % 32 == 0) := by simp [baseB, hv]
    rw [hb]
    clear hb hv
    go_enter Try.func18, Try.ntmps18
    go_wp2_with (go_at_call 20; refine (isIn_eq hv'.out _).mono ?_; rintro e w' ⟨rfl, rfl⟩)
    go_ret
    exact ⟨rfl, rfl⟩
theorem pagesOk_any (p : Int) (w : World) : Calls Try.prog 19 #[.int .i64 p] w fun e w' => e = .returned (.bool (inB p 1 12)) ∧ w = w' := by
  go_enter Try.func19, Try.ntmps19
  go_wp2_with (go_at_call 20; refine (isIn_any _ _ _ _).mono ?_; rintro e w' ⟨rfl, rfl⟩)
  go_ret
  exact ⟨rfl, rfl⟩
theorem wordsOf_any (p : Int) (h0 : 0 ≤ p) (h1 : p ≤ 1000) (w : World) : Calls Try.prog 21 #[.int .i64 p] w fun e w' => e = .returned (.int .i64 (p * 32)) ∧ w = w' := by
  go_enter Try.func21, Try.ntmps21
  go_wp2
  go_ret
  exact ⟨rfl, rfl⟩
theorem cardsOf_at (p : Int) (h0 : 0 ≤ p) (h1 : p ≤ 1000) (w : World) : Calls Try.prog 22 #[.int .i64 p] w fun e w' => e = .returned (.int .i64 (p * 4)) ∧ w = w' := by
  go_enter Try.func22, Try.ntmps22
  go_wp2_with (go_at_call 21; refine (wordsOf_any _ h0 h1 _).mono ?_; rintro e w' ⟨rfl, rfl⟩)
  go_ret
  exact ⟨ret_int (by omega), rfl⟩
theorem wrapEq (x : Int) : IntKind.i64.wrap x = wrap64 x := IntWalk.i64_left x
/-- A span but for its page. -/
structure SpanForm (s : SpanD) : Prop where
  cls : sl' s.cls ≠ 0
  lens : (s.lens.length : Int) = sl' s.cls
  ptrs : (s.ptrs.length : Int) = sl' s.cls
  slot : ∀ i, i < s.lens.length → SlotOk s i
  mk0 : 0 ≤ s.mark
  mk1 : s.mark < 2 ^ s.lens.length
structure SlotLen (s : SpanD) (i : Nat) : Prop where
  l0 : 0 ≤ s.lens[i]?.getD 0
  l1 : s.lens[i]?.getD 0 ≤ sz s.cls
  p0 : 0 ≤ s.ptrs[i]?.getD 0
  p1 : s.ptrs[i]?.getD 0 ≤ s.lens[i]?.getD 0
theorem SpanForm.mk' {s : SpanD} (h1 : sl' s.cls ≠ 0) (h2 : (s.lens.length : Int) = sl' s.cls) (h3 : (s.ptrs.length : Int) = sl' s.cls) (h4 : ∀ i, i < s.lens.length → SlotLen s i) :
    MarkFits s.lens s.mark s.lens.length ↔ SpanForm s := by
  constructor
  · rintro ⟨h5, h6, h7⟩
    exact ⟨h1, h2, h3, fun i hi => ⟨(h4 i hi).l0, (h4 i hi).l1, (h4 i hi).p0, (h4 i hi).p1, fun h0 hb => by have := h7 i hi hb; omega⟩, h5, h6⟩
  · intro h
    refine ⟨h.mk0, h.mk1, fun i hi hb => ?_⟩
    have := (h.slot i hi).l0
    have hne : s.lens[i]?.getD 0 ≠ 0 := fun h0 => (h.slot i hi).bit h0 hb
    omega
theorem SpanForm.len (s : SpanD) (h : SpanForm s) (i : Nat) (hi : i < s.lens.length) : SlotLen s i := ⟨(h.slot i hi).l0, (h.slot i hi).l1, (h.slot i hi).p0, (h.slot i hi).p1⟩

end Go.Proofs.Ytnmgecplagekcaa

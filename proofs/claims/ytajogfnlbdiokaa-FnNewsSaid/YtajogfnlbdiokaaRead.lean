/-
  The contracts of the model's l2addr, AddrOf, l2find, Find, UsedWords, FreeWords.
-/
import Derived.Test.YtajogfnlbdiokaaFormOk
import Derived.Deep.RegionWith
namespace Go.Proofs.Ytajogfnlbdiokaa
open Go.RowKit
set_option linter.unusedVariables false

/-- BLOCK B IS A VARIABLE that holds a World. -/
def BoxW (w : World) (B : Nat) (v : Value) : Prop := ∃ cs, v = .agg cs ∧ w.heap[B]? = some (.cells cs 32 (0, 0))
theorem BoxW.below {w w' : World} {B : Nat} {v : Value} (h : BoxW w B v) (hb : Below w.heap.size w w') : BoxW w' B v := by
  obtain ⟨cs, he, hh⟩ := h
  exact ⟨cs, he, heap_below hb hh⟩

set_option maxRecDepth 100000 in
set_option maxHeartbeats 4000000 in
theorem addr_any (B : Nat) (v : Value) (D : WD) (k slot : Nat) (s : SpanD) (hk : D.spans[k]? = some s) (hp0 : 0 ≤ s.page) (hp1 : s.page ≤ 1000) (hs : slot ≤ 1000) (hb0 : 0 ≤ D.base) (hb1 : D.base ≤ 1048576) (w : World) (hr : RdW w v D) (hB : BoxW w B v) :
    Calls Try.prog 125 #[.pointer (some ⟨B, 0, none⟩), .int .i64 k, .int .i64 slot] w fun e w' => e = .returned (.int .i64 (D.base + atW s slot)) ∧ Below w.heap.size w w' := by
  obtain ⟨vw, vd, vs, vm, vg, rfl, a1, a2, a3, a4, a5⟩ := hr
  obtain ⟨aS, cS, rfl, hsl, hx⟩ := a3
  obtain ⟨cs, he, hh⟩ := hB
  obtain rfl := (Value.agg.inj he).symm
  have f0 := cell_of_heap hh 0 _ rfl
  have f4 := cell_of_heap hh 4 _ rfl
  have hkl := (List.getElem?_eq_some_iff.1 hk).1
  obtain ⟨b1, o1, rfl, vl, vp, x0, x1, x2, x3, x4, x5, xl, xp⟩ := hx k s hk
  have hkl' : (k : Int) < (D.spans.length : Int) := by omega
  unfold maxLen at hsl
  have hat := at_any s vl vp (slot : Int) hp0 hp1 (by omega) (by omega)
  have hat' := Lib.hid hat
  have hm := sz_bd s.cls
  have hm0 : 0 ≤ (slot : Int) * sz s.cls := Int.mul_nonneg (by omega) hm.1
  have hm1 : (slot : Int) * sz s.cls ≤ 16000 := by
    have := Int.mul_le_mul (show (slot : Int) ≤ 1000 by omega) hm.2 hm.1 (by omega)
    omega
  have hA0 : 0 ≤ atW s slot := by unfold atW; omega
  have hA1 : atW s slot ≤ 100000 := by unfold atW; omega
  have hsum : IntKind.i64.wrap (D.base + atW s slot) = D.base + atW s slot := IntWalk.i64_in _ (by omega)
  have hsum' := Lib.hid hsum
  have hf0 := Lib.hid (fun (w' : World) (hb : Below w.heap.size w w') => cell_below hb f0)
  clear hx hk a1 a2 a4 a5 hat xl xp he hsum hh
  go_enter Try.func125, Try.ntmps125
  go_wp2_with fail
  go_region_with (first
    | (go_at_call 124; refine (hat'.out _).mono ?_; rintro e w2 ⟨rfl, b2⟩; have b2' : Below w.heap.size w w2 := ⟨b2.os, b2.tape, b2.output, b2.size, b2.block⟩; have g0 := hf0.out w2 b2'; clear b2))
  all_goals rw [hsum'.out]
  all_goals go_wp2_with fail
  all_goals go_ret
  all_goals exact ⟨rfl, b2'⟩

theorem RdW.parts {w : World} {D : WD} {c0 c1 vw vd vs vm c6 c7 vg : Value} (h : RdW w (.agg #[c0, c1, vw, vd, vs, vm, c6, c7, vg]) D) : Rd w vw D.words ∧ RdB w vd D.dirty ∧ RdS w vs D.spans ∧ RdM w vm D.muts ∧ Rd w vg D.grey := by
  obtain ⟨uw, ud, us, um, ug, he, h1, h2, h3, h4, h5⟩ := h
  simp only [Value.agg.injEq, Array.mk.injEq, List.cons.injEq, and_true] at he
  obtain ⟨_, _, rfl, rfl, rfl, rfl, _, _, rfl⟩ := he
  exact ⟨h1, h2, h3, h4, h5⟩
theorem RdS.at_ {w : World} {a : Option Addr} {c : Nat} {L : List SpanD} (h : RdS w (.slice a L.length c) L) (k : Nat) (s : SpanD) (hk : L[k]? = some s) : ∃ b off, a = some ⟨b, off, none⟩ ∧ RdSpan w b (off + k * 6) s := by
  obtain ⟨a', c', he, _, hx⟩ := h
  obtain ⟨rfl, _⟩ : a = a' ∧ _ := by simpa using he
  exact hx k s hk
/-- There is slot number j of span number k. -/
def IsSlot (D : WD) (k slot : Int) (s : SpanD) : Prop := HeapForm D ∧ 0 ≤ k ∧ D.spans[k.toNat]? = some s ∧ 0 ≤ slot ∧ slot < s.lens.length
/-- It returned a slot's address, or 0. -/
def AddrIs (D : WD) (k slot : Int) (e : Ending) : Prop := ∃ r : Int, e = .returned (.int .i64 r) ∧ ((∃ s, IsSlot D k slot s ∧ r = D.base + atW s slot) ∨ ((∀ s, ¬ IsSlot D k slot s) ∧ r = 0))
theorem AddrIs.unique {D : WD} {k slot : Int} {e e' : Ending} (h : AddrIs D k slot e) (h' : AddrIs D k slot e') : e = e' := by
  obtain ⟨r, rfl, h⟩ := h
  obtain ⟨r', rfl, h'⟩ := h'
  rcases h with ⟨s, hs, rfl⟩ | ⟨hn, rfl⟩ <;> rcases h' with ⟨s', hs', rfl⟩ | ⟨hn', rfl⟩
  · have e1 := hs.2.2.1.symm.trans hs'.2.2.1
    cases e1
    rfl
  · exact absurd hs (hn' s)
  · exact absurd hs' (hn s')
  · rfl
theorem AddrIs.no {D : WD} {k slot : Int} (h : ∀ s, ¬ IsSlot D k slot s) : AddrIs D k slot (.returned (.int .i64 0)) := ⟨0, rfl, .inr ⟨h, rfl⟩⟩
theorem AddrIs.yes {D : WD} {k slot : Int} {s : SpanD} (h : IsSlot D k slot s) : AddrIs D k slot (.returned (.int .i64 (D.base + atW s slot))) := ⟨_, rfl, .inl ⟨s, h, rfl⟩⟩

end Go.Proofs.Ytajogfnlbdiokaa

/-
  The contracts of the model's l2addr, AddrOf, l2find, Find, UsedWords, FreeWords.
-/
import Derived.Test.YtliokhdgpebbbaaFormOk
import Derived.Deep.RegionWith
namespace Go.Proofs.Ytliokhdgpebbbaa
open Go.RowKit
set_option linter.unusedVariables false

/-- BLOCK B IS A VARIABLE that holds a World. -/
def BoxW (w : World) (B : Nat) (v : Value) : Prop := ∃ cs, v = .agg cs ∧ w.heap[B]? = some (.cells cs 32 (0, 0))
theorem BoxW.below {w w' : World} {B : Nat} {v : Value} (h : BoxW w B v) (hb : Below w.heap.size w w') : BoxW w' B v := by
  obtain ⟨cs, he, hh⟩ := h
  exact ⟨cs, he, heap_below hb hh⟩

set_option maxRecDepth 100000 in
set_option maxHeartbeats 4000000 in
theorem addr_any (B : Nat) (v : Value) (D : WD) (k slot : Nat) (s : SpanD) (hk : D.spans[k]? = some s) (hp0 : 0 ≤ s.page) (hp1 : s.page ≤ 1000) (hs : slot ≤ 1000) (hb0 : 0 ≤ D.base) (hb1 : D.base ≤ 1048576) (w : World) (hr : RdW w v D) (hB : BoxW w B v) :
    Calls Try.prog 78 #[.pointer (some ⟨B, 0, none⟩), .int .i64 k, .int .i64 slot] w fun e w' => e = .returned (.int .i64 (D.base + atW s slot)) ∧ Below w.heap.size w w' := by
  obtain ⟨vw, vd, vs, vm, vg, rfl, a1, a2, a3, a4, a5⟩ := hr
  obtain ⟨aS, cS, rfl, hsl, hx⟩ := a3
  obtain ⟨cs, he, hh⟩ := hB
  obtain rfl := (Value.agg.inj he).symm
  have f0 := cell_of_heap hh 0 _ rfl
  have f4 := cell_of_heap hh 4 _ rfl
  have hkl := (List.getElem?_eq_some_iff.1 hk).1
  obtain ⟨b1, o1, rfl, vl, vp, x0, x1, x2, x3, x4, x5, xl, xp⟩ := hx k s hk
  have hkl' : (k : Int) < (D.spans.length : Int) := by omega
  unfold maxLen at hsl
  have hat := at_any s vl vp (slot : Int) hp0 hp1 (by omega) (by omega)
  have hat' := Lib.hid hat
  have hm := sz_bd s.cls
  have hm0 : 0 ≤ (slot : Int) * sz s.cls := Int.mul_nonneg (by omega) hm.1
  have hm1 : (slot : Int) * sz s.cls ≤ 16000 := by
    have := Int.mul_le_mul (show (slot : Int) ≤ 1000 by omega) hm.2 hm.1 (by omega)
    omega
  have hA0 : 0 ≤ atW s slot := by unfold atW; omega
  have hA1 : atW s slot ≤ 100000 := by unfold atW; omega
  have hsum : IntKind.i64.wrap (D.base + atW s slot) = D.base + atW s slot := IntWalk.i64_in _ (by omega)
  have hsum' := Lib.hid hsum
  have hf0 := Lib.hid (fun (w' : World) (hb : Below w.heap.size w w') => cell_below hb f0)
  clear hx hk a1 a2 a4 a5 hat xl xp he hsum hh
  go_enter Try.func78, Try.ntmps78
  go_wp2_with fail
  go_region_with (first
    | (go_at_call 122; refine (hat'.out _).mono ?_; rintro e w2 ⟨rfl, b2⟩; have b2' : Below w.heap.size w w2 := ⟨b2.os, b2.tape, b2.output, b2.size, b2.block⟩; have g0 := hf0.out w2 b2'; clear b2))
  all_goals rw [hsum'.out]
  all_goals go_wp2_with fail
  all_goals go_ret
  all_goals exact ⟨rfl, b2'⟩

theorem RdW.parts {w : World} {D : WD} {c0 c1 vw vd vs vm c6 c7 vg : Value} (h : RdW w (.agg #[c0, c1, vw, vd, vs, vm, c6, c7, vg]) D) : Rd w vw D.words ∧ RdB w vd D.dirty ∧ RdS w vs D.spans ∧ RdM w vm D.muts ∧ Rd w vg D.grey := by
  obtain ⟨uw, ud, us, um, ug, he, h1, h2, h3, h4, h5⟩ := h
  simp only [Value.agg.injEq, Array.mk.injEq, List.cons.injEq, and_true] at he
  obtain ⟨_, _, rfl, rfl, rfl, rfl, _, _, rfl⟩ := he
  exact ⟨h1, h2, h3, h4, h5⟩
theorem RdS.at_ {w : World} {a : Option Addr} {c : Nat} {L : List SpanD} (h : RdS w (.slice a L.length c) L) (k : Nat) (s : SpanD) (hk : L[k]? = some s) : ∃ b off, a = some ⟨b, off, none⟩ ∧ RdSpan w b (off + k * 6) s := by
  obtain ⟨a', c', he, _, hx⟩ := h
  obtain ⟨rfl, _⟩ : a = a' ∧ _ := by simpa using he
  exact hx k s hk
/-- There is slot number j of span number k. -/
def IsSlot (D : WD) (k slot : Int) (s : SpanD) : Prop := HeapForm D ∧ 0 ≤ k ∧ D.spans[k.toNat]? = some s ∧ 0 ≤ slot ∧ slot < s.lens.length
/-- It returned a slot's address, or 0. -/
def AddrIs (D : WD) (k slot : Int) (e : Ending) : Prop := ∃ r : Int, e = .returned (.int .i64 r) ∧ ((∃ s, IsSlot D k slot s ∧ r = D.base + atW s slot) ∨ ((∀ s, ¬ IsSlot D k slot s) ∧ r = 0))
theorem AddrIs.unique {D : WD} {k slot : Int} {e e' : Ending} (h : AddrIs D k slot e) (h' : AddrIs D k slot e') : e = e' := by
  obtain ⟨r, rfl, h⟩ := h
  obtain ⟨r', rfl, h'⟩ := h'
  rcases h with ⟨s, hs, rfl⟩ | ⟨hn, rfl⟩ <;> rcases h' with ⟨s', hs', rfl⟩ | ⟨hn', rfl⟩
  · have e1 := hs.2.2.1.symm.trans hs'.2.2.1
    cases e1
    rfl
  · exact absurd hs (hn' s)
  · exact absurd hs' (hn s')
  · rfl
theorem AddrIs.no {D : WD} {k slot : Int} (h : ∀ s, ¬ IsSlot D k slot s) : AddrIs D k slot (.returned (.int .i64 0)) := ⟨0, rfl, .inr ⟨h, rfl⟩⟩
theorem AddrIs.yes {D : WD} {k slot : Int} {s : SpanD} (h : IsSlot D k slot s) : AddrIs D k slot (.returned (.int .i64 (D.base + atW s slot))) := ⟨_, rfl, .inl ⟨s, h, rfl⟩⟩

set_option maxRecDepth 100000 in
set_option maxHeartbeats 4000000 in
theorem addrOf_any (v : Value) (D : WD) (k slot : Int) (w : World) (hr : RdW w v D) :
    Calls Try.prog 37 #[v, .int .i64 k, .int .i64 slot] w fun e w' => AddrIs D k slot e ∧ Below w.heap.size w w' := by
  obtain ⟨vw, vd, vs, vm, vg, rfl, a1, a2, a3, a4, a5⟩ := hr
  have bx := Lib.hid (box_new w (.cells #[.int .i64 D.base, .int .i64 D.pages, vw, vd, vs, vm, .int .i64 D.phase, .int .i64 D.next, vg] 32))
  have bw := below_box w (.cells #[.int .i64 D.base, .int .i64 D.pages, vw, vd, vs, vm, .int .i64 D.phase, .int .i64 D.next, vg] 32)
  have hW := Lib.hid (show RdW (w.alloc (.cells #[.int .i64 D.base, .int .i64 D.pages, vw, vd, vs, vm, .int .i64 D.phase, .int .i64 D.next, vg] 32)) (.agg #[.int .i64 D.base, .int .i64 D.pages, vw, vd, vs, vm, .int .i64 D.phase, .int .i64 D.next, vg]) D from
    ⟨vw, vd, vs, vm, vg, rfl, a1.below bw, a2.below bw, a3.below bw, a4.below bw, a5.below bw⟩)
  have bw' := Lib.hid bw
  obtain ⟨aS, cS, rfl, hls, hx⟩ := a3
  unfold maxLen at hls
  clear a1 a2 a4 a5 bw hx
  go_enter Try.func37, Try.ntmps37
  go_wp2_with fail
  refine (formOk_any _ D _ hW.out).mono ?_
  rintro e w1 ⟨hq, b1⟩
  have hB := Lib.hid (below_trans bw'.out b1)
  have hx1 := Lib.hid (heap_below b1 bx.out)
  have hW1 := Lib.hid (hW.out.below b1)
  have hq := hq.elim
  clear b1
  rcases hq with ⟨hF, rfl⟩ | ⟨hF, rfl⟩
  case inr =>
    have n := Lib.hid (show ∀ s, ¬ IsSlot D k slot s from fun s h => hF h.1)
    clear hF
    go_wp2_with fail
    go_ret
    exact ⟨AddrIs.no n.out, hB.out⟩
  have hF' := Lib.hid hF
  clear hF
  have f4 := cell_of_heap hx1.out 4 _ rfl
  by_cases c1 : k < 0
  · have n := Lib.hid (show ∀ s, ¬ IsSlot D k slot s from fun s h => by have := h.2.1; omega)
    go_wp2_with fail
    go_ret
    exact ⟨AddrIs.no n.out, hB.out⟩
  obtain ⟨k, rfl⟩ := Int.eq_ofNat_of_zero_le (show 0 ≤ k by omega)
  by_cases c2 : (D.spans.length : Int) ≤ (k : Int)
  · have n := Lib.hid (show ∀ s, ¬ IsSlot D (k : Int) slot s from fun s h => by
      have := (List.getElem?_eq_some_iff.1 h.2.2.1).1
      rw [Int.toNat_natCast] at this
      omega)
    go_wp2_with fail
    go_ret
    exact ⟨AddrIs.no n.out, hB.out⟩
  have c2' : (k : Int) < (D.spans.length : Int) := by omega
  by_cases c3 : slot < 0
  · have n := Lib.hid (show ∀ s, ¬ IsSlot D (k : Int) slot s from fun s h => by have := h.2.2.2.1; omega)
    go_wp2_with fail
    go_ret
    exact ⟨AddrIs.no n.out, hB.out⟩
  obtain ⟨slot, rfl⟩ := Int.eq_ofNat_of_zero_le (show 0 ≤ slot by omega)
  obtain ⟨s, hs⟩ : ∃ s, D.spans[k]? = some s := ⟨_, List.getElem?_eq_getElem (by omega)⟩
  obtain ⟨b1, o1, rfl, vl, vp, _, _, _, _, x4, _, ⟨al, cl, rfl, hll, _⟩, _⟩ := hW1.out.parts.2.2.1.at_ k s hs
  unfold maxLen at hll
  have hs' := Lib.hid hs
  clear hs
  by_cases c4 : (s.lens.length : Int) ≤ (slot : Int)
  · have n := Lib.hid (show ∀ s, ¬ IsSlot D (k : Int) (slot : Int) s from fun s2 h => by
      have h1 := h.2.2.1
      rw [Int.toNat_natCast, hs'.out] at h1
      cases h1
      have := h.2.2.2.2
      omega)
    go_wp2_with fail
    go_ret
    exact ⟨AddrIs.no n.out, hB.out⟩
  have hA := hF'.out.span k s hs'.out
  have hg := hF'.out.geo
  have hl := hA.lens
  have hl2 := (sl_bd s.cls).2
  have y := Lib.hid (AddrIs.yes (D := D) (k := (k : Int)) (slot := (slot : Int)) (s := s) ⟨hF'.out, by omega, by rw [Int.toNat_natCast]; exact hs'.out, by omega, by omega⟩)
  have hcall := Lib.hid (addr_any w.heap.size _ D k slot s hs'.out hA.pg0 (by have := hA.pg1; have := hg.2.2.2.2.1; omega) (by omega) (by have := hg.1; omega) hg.2.1 w1 hW1.out ⟨_, rfl, hx1.out⟩)
  clear hA hg hl hl2
  go_wp2_with fail
  refine hcall.out.mono ?_
  rintro e w2 ⟨rfl, b2⟩
  go_wp2_with fail
  go_ret
  exact ⟨y.out, below_trans hB.out b2⟩
end Go.Proofs.Ytliokhdgpebbbaa

import Derived.Test.YtimokhjjnhnajaaPkRefD
import Derived.Test.YtimokhjjnhnajaaPkW

/-
  The contracts of the model's l8ref, RefOf, l8addr, AddrRef.
-/
namespace Go.Proofs.Ytimokhjjnhnajaa
open Go.RowKit
set_option linter.unusedVariables false

set_option maxRecDepth 100000 in
set_option maxHeartbeats 4000000 in
theorem sref_at (B : Nat) (v : Value) (D : WD) (hF : HeapForm D) (addr : Int) (w : World) (hr : RdW w v D) (hB : BoxW w B v) :
    Calls Try.prog 18 #[.pointer (some ⟨B, 0, none⟩), .int .i64 addr] w fun e w' => (∃ r : Int, e = .returned (.int .i64 r) ∧ RefV D addr r) ∧ Below w.heap.size w w' := by
  have hF' := Lib.hid hF
  have hf := Lib.hid (find_at B v D hF addr w hr hB)
  clear hr hB hF
  go_enter Try.func18, Try.ntmps18
  by_cases h0 : addr = 0
  · subst h0
    go_wp2_with fail
    go_ret
    exact ⟨⟨_, rfl, RefV.zero D⟩, Below.refl _ _⟩
  have h0' := Lib.hid h0
  have hb : (addr == 0) = false := beq_eq_false_iff_ne.2 h0
  clear h0
  go_wp2_with fail
  refine hf.out.mono ?_
  rintro e w1 ⟨⟨r, q, rfl, hq⟩, b1⟩
  have b1' := Lib.hid b1
  clear b1 hf
  rcases hq with ⟨k, j, _, ho, rfl, rfl⟩ | ⟨hn, rfl, rfl⟩
  · have hs := obj_small hF'.out ho
    have y := Lib.hid (RefV.obj h0'.out ho)
    clear ho
    go_wp2_with fail
    go_ret
    exact ⟨⟨_, rfl, y.out⟩, b1'.out⟩
  · have y := Lib.hid (RefV.none h0'.out (hn hF'.out))
    clear hn
    go_wp2_with fail
    go_ret
    exact ⟨⟨_, rfl, y.out⟩, b1'.out⟩

set_option maxRecDepth 100000 in
set_option maxHeartbeats 4000000 in
theorem srefOf_any (v : Value) (D : WD) (addr : Int) (w : World) (hr : RdW w v D) :
    Calls Try.prog 6 #[v, .int .i64 addr] w fun e w' => RefIs D addr e ∧ Below w.heap.size w w' := by
  obtain ⟨vw, vd, vs, vm, vg, rfl, a1, a2, a3, a4, a5⟩ := hr
  have bx := box_new w (.cells #[.int .i64 D.base, .int .i64 D.pages, vw, vd, vs, vm, .int .i64 D.phase, .int .i64 D.next, vg] 36)
  have bw := below_box w (.cells #[.int .i64 D.base, .int .i64 D.pages, vw, vd, vs, vm, .int .i64 D.phase, .int .i64 D.next, vg] 36)
  have hW := Lib.hid (show RdW (w.alloc (.cells #[.int .i64 D.base, .int .i64 D.pages, vw, vd, vs, vm, .int .i64 D.phase, .int .i64 D.next, vg] 36)) (.agg #[.int .i64 D.base, .int .i64 D.pages, vw, vd, vs, vm, .int .i64 D.phase, .int .i64 D.next, vg]) D from ⟨vw, vd, vs, vm, vg, rfl, a1.below bw, a2.below bw, a3.below bw, a4.below bw, a5.below bw⟩)
  have hBx := Lib.hid (show BoxW (w.alloc (.cells #[.int .i64 D.base, .int .i64 D.pages, vw, vd, vs, vm, .int .i64 D.phase, .int .i64 D.next, vg] 36)) w.heap.size (.agg #[.int .i64 D.base, .int .i64 D.pages, vw, vd, vs, vm, .int .i64 D.phase, .int .i64 D.next, vg]) from ⟨_, rfl, bx⟩)
  have bw' := Lib.hid bw
  clear a1 a2 a3 a4 a5 bx bw
  go_enter Try.func6, Try.ntmps6
  go_wp2_with fail
  refine (formOk_any _ D _ hW.out).mono ?_
  rintro e w1 ⟨hq, b1⟩
  have hq := hq.elim
  obtain ⟨x1, rfl⟩ := Ext.of b1
  clear b1
  generalize w.alloc (.cells #[.int .i64 D.base, .int .i64 D.pages, vw, vd, vs, vm, .int .i64 D.phase, .int .i64 D.next, vg] 36) = W at *
  rcases hq with ⟨hF, rfl⟩ | ⟨hF, rfl⟩
  case inr =>
    have n := Lib.hid (RefIs.no (addr := addr) hF)
    clear hF
    go_wp2_with fail
    go_ret
    exact ⟨n.out, below_trans bw'.out x1.below⟩
  have hF' := Lib.hid hF
  have hcall := Lib.hid (sref_at w.heap.size _ D hF addr x1.val (hW.out.below x1.below) (hBx.out.below x1.below))
  clear hF
  go_wp2_with fail
  refine hcall.out.mono ?_
  rintro e w2 ⟨⟨r, rfl, hy⟩, b2⟩
  have y := Lib.hid hy
  clear hy
  go_wp2_with fail
  go_ret
  exact ⟨RefIs.yes hF'.out y.out, below_trans bw'.out (below_trans x1.below b2)⟩

set_option maxRecDepth 100000 in
set_option maxHeartbeats 4000000 in
theorem saddr_at (B : Nat) (v : Value) (D : WD) (hF : HeapForm D) (ref : Int) (hi : I64 ref) (w : World) (hr : RdW w v D) (hB : BoxW w B v) :
    Calls Try.prog 32 #[.pointer (some ⟨B, 0, none⟩), .int .i64 ref] w fun e w' => (∃ a : Int, e = .returned (.int .i64 a) ∧ ARefV D ref a) ∧ Below w.heap.size w w' := by
  have hF' := Lib.hid hF
  have hr' := Lib.hid hr
  have hB' := Lib.hid hB
  obtain ⟨vw, vd, vs, vm, vg, rfl, a1, a2, a3, a4, a5⟩ := hr
  obtain ⟨cs, he, hh⟩ := hB
  obtain rfl := (Value.agg.inj he).symm
  obtain ⟨aS, cS, rfl, hsl, hx⟩ := a3
  unfold maxLen at hsl
  have f4 := cell_of_heap hh 4 _ rfl
  have hx' := Lib.hid hx
  clear a1 a2 a4 a5 he hh hx hF
  go_enter Try.func32, Try.ntmps32
  by_cases h0 : ref = 0
  · subst h0
    go_wp2_with fail
    go_ret
    exact ⟨⟨_, rfl, ARefV.zero D⟩, Below.refl _ _⟩
  have hb0 : (ref == 0) = false := beq_eq_false_iff_ne.2 h0
  by_cases h1 : ref < 0
  · have y := Lib.hid (ARefV.neg (D := D) h1)
    clear h0
    go_wp2_with fail
    go_ret
    exact ⟨⟨_, rfl, y.out⟩, Below.refl _ _⟩
  obtain ⟨k, j, hsp, hj⟩ := ref_split (show 0 < ref by omega)
  unfold I64 at hi
  obtain ⟨m, hm⟩ : ∃ m : Nat, (m : Int) = ref - 1 := ⟨(ref - 1).toNat, by omega⟩
  have e1 : IntKind.i64.wrap (ref - 1) = (m : Int) := by rw [IntWalk.i64_in _ (by omega)]; omega
  have e2 : (m : Int).tdiv 16 = (k : Int) := by rw [Int.tdiv_eq_ediv_of_nonneg (by omega)]; omega
  have e3 : IntKind.i64.wrap (k : Int) = (k : Int) := IntWalk.i64_in _ (by omega)
  have e4 : (m : Int).tmod 16 = (j : Int) := by rw [Int.tmod_eq_emod_of_nonneg (by omega)]; omega
  have e5 : IntKind.i64.wrap (j : Int) = (j : Int) := IntWalk.i64_in _ (by omega)
  have hneg : decide (ref < 0) = false := decide_eq_false h1
  have hj' := Lib.hid hj
  have hno := Lib.hid (fun (h : ∀ s, ¬ UsedAt D k j s) => (show ARefV D ref (-1) by rw [hsp]; exact ARefV.none hj h))
  have hyes := Lib.hid (fun (s : SpanD) (h : UsedAt D k j s) => (show ARefV D ref (D.base + atW s (j : Int)) by rw [hsp]; exact ARefV.used hj h))
  clear h0 hm hsp hi
  by_cases c1 : (D.spans.length : Int) ≤ (k : Int)
  · have y := Lib.hid (hno.out fun s h => by have := (List.getElem?_eq_some_iff.1 h.1).1; omega)
    go_wp2_with fail
    go_ret
    exact ⟨⟨_, rfl, y.out⟩, Below.refl _ _⟩
  have c1' : (k : Int) < (D.spans.length : Int) := by omega
  obtain ⟨s, hs⟩ : ∃ s, D.spans[k]? = some s := ⟨_, List.getElem?_eq_getElem (by omega)⟩
  obtain ⟨b1, o1, rfl, vl, vp, _, _, _, _, x4, _, ⟨al, cl, rfl, hll, xl⟩, _⟩ := hx'.out k s hs
  unfold maxLen at hll
  have hs' := Lib.hid hs
  have hA := hF'.out.span k s hs
  have hg := hF'.out.geo
  have hcall := Lib.hid (addr_any B _ D k j s hs hA.pg0 (by have := hA.pg1; have := hg.2.2.2.2.1; omega) (by omega) (by have := hg.1; omega) hg.2.1 w hr'.out hB'.out)
  have hA' := Lib.hid hA
  clear hA hg hs
  by_cases c2 : (s.lens.length : Int) ≤ (j : Int)
  · have y := Lib.hid (hno.out fun s2 h => by
      have h1 := h.1
      rw [hs'.out] at h1
      cases h1
      have := h.2.1
      omega)
    clear xl
    go_wp2_with fail
    go_ret
    exact ⟨⟨_, rfl, y.out⟩, Below.refl _ _⟩
  have c2' : (j : Int) < (s.lens.length : Int) := by omega
  obtain ⟨bl, ol, rfl, xj⟩ := xl j (by omega)
  have hl0 := (hA'.out.slot j (by omega)).l0
  have hu := Lib.hid (show UsedAt D k j s ↔ 0 < s.lens[j]?.getD 0 from ⟨fun h => h.2.2, fun h => ⟨hs'.out, by omega, h⟩⟩)
  clear xl
  generalize s.lens[j]?.getD 0 = l at *
  by_cases c3 : l = 0
  · have y := Lib.hid (hno.out fun s2 h => by
      have h1 := h.1
      rw [hs'.out] at h1
      cases h1
      have := hu.out.1 h
      omega)
    clear hl0
    subst c3
    go_wp2_with fail
    go_ret
    exact ⟨⟨_, rfl, y.out⟩, Below.refl _ _⟩
  have c3' : (l == 0) = false := beq_eq_false_iff_ne.2 c3
  have y := Lib.hid (hyes.out s (hu.out.2 (by omega)))
  clear hl0 c3
  go_wp2_with fail
  refine hcall.out.mono ?_
  rintro e w2 ⟨rfl, b2⟩
  have b2' := Lib.hid b2
  clear b2
  go_wp2_with fail
  go_ret
  exact ⟨⟨_, rfl, y.out⟩, b2'.out⟩

set_option maxRecDepth 100000 in
set_option maxHeartbeats 4000000 in
theorem saddrRef_any (v : Value) (D : WD) (ref : Int) (hi : I64 ref) (w : World) (hr : RdW w v D) :
    Calls Try.prog 10 #[v, .int .i64 ref] w fun e w' => ARefIs D ref e ∧ Below w.heap.size w w' := by
  have hi' := Lib.hid hi
  clear hi
  obtain ⟨vw, vd, vs, vm, vg, rfl, a1, a2, a3, a4, a5⟩ := hr
  have bx := box_new w (.cells #[.int .i64 D.base, .int .i64 D.pages, vw, vd, vs, vm, .int .i64 D.phase, .int .i64 D.next, vg] 36)
  have bw := below_box w (.cells #[.int .i64 D.base, .int .i64 D.pages, vw, vd, vs, vm, .int .i64 D.phase, .int .i64 D.next, vg] 36)
  have hW := Lib.hid (show RdW (w.alloc (.cells #[.int .i64 D.base, .int .i64 D.pages, vw, vd, vs, vm, .int .i64 D.phase, .int .i64 D.next, vg] 36)) (.agg #[.int .i64 D.base, .int .i64 D.pages, vw, vd, vs, vm, .int .i64 D.phase, .int .i64 D.next, vg]) D from ⟨vw, vd, vs, vm, vg, rfl, a1.below bw, a2.below bw, a3.below bw, a4.below bw, a5.below bw⟩)
  have hBx := Lib.hid (show BoxW (w.alloc (.cells #[.int .i64 D.base, .int .i64 D.pages, vw, vd, vs, vm, .int .i64 D.phase, .int .i64 D.next, vg] 36)) w.heap.size (.agg #[.int .i64 D.base, .int .i64 D.pages, vw, vd, vs, vm, .int .i64 D.phase, .int .i64 D.next, vg]) from ⟨_, rfl, bx⟩)
  have bw' := Lib.hid bw
  clear a1 a2 a3 a4 a5 bx bw
  go_enter Try.func10, Try.ntmps10
  go_wp2_with fail
  refine (formOk_any _ D _ hW.out).mono ?_
  rintro e w1 ⟨hq, b1⟩
  have hq := hq.elim
  obtain ⟨x1, rfl⟩ := Ext.of b1
  clear b1
  generalize w.alloc (.cells #[.int .i64 D.base, .int .i64 D.pages, vw, vd, vs, vm, .int .i64 D.phase, .int .i64 D.next, vg] 36) = W at *
  rcases hq with ⟨hF, rfl⟩ | ⟨hF, rfl⟩
  case inr =>
    have n := Lib.hid (ARefIs.no (ref := ref) hF)
    clear hF
    go_wp2_with fail
    go_ret
    exact ⟨n.out, below_trans bw'.out x1.below⟩
  have hF' := Lib.hid hF
  have hcall := Lib.hid (saddr_at w.heap.size _ D hF ref hi'.out x1.val (hW.out.below x1.below) (hBx.out.below x1.below))
  clear hF
  go_wp2_with fail
  refine hcall.out.mono ?_
  rintro e w2 ⟨⟨r, rfl, hy⟩, b2⟩
  have y := Lib.hid hy
  clear hy
  go_wp2_with fail
  go_ret
  exact ⟨ARefIs.yes hF'.out y.out, below_trans bw'.out (below_trans x1.below b2)⟩
end Go.Proofs.Ytimokhjjnhnajaa

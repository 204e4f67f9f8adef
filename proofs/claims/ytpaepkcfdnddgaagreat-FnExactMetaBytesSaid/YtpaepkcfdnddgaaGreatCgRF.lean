import Derived.Test.YtpaepkcfdnddgaaGreatCgF2
import Derived.Test.YtpaepkcfdnddgaaGreatCgW
import Derived.Test.YtpaepkcfdnddgaaGreatCgP

namespace Go.Proofs.YtpaepkcfdnddgaaGreat
open Go.RowKit
set_option linter.unusedVariables false

/-- What RefOf tells of an address. -/
def RefV (D : WD) (addr r : Int) : Prop := (addr = 0 ∧ r = 0) ∨ (addr ≠ 0 ∧ ∃ k j : Nat, IsObj D addr k j ∧ r = 1 + 16 * (k : Int) + (j : Int)) ∨ (addr ≠ 0 ∧ (∀ k j, ¬ IsObj D addr k j) ∧ r = -1)
theorem RefV.unique {D : WD} (hF : HeapForm D) {addr r r' : Int} (h : RefV D addr r) (h' : RefV D addr r') : r = r' := by
  rcases h with ⟨h1, rfl⟩ | ⟨h1, k, j, ho, rfl⟩ | ⟨h1, hn, rfl⟩ <;> rcases h' with ⟨h1', rfl⟩ | ⟨h1', k', j', ho', rfl⟩ | ⟨h1', hn', rfl⟩
  · rfl
  · exact absurd h1 h1'
  · exact absurd h1 h1'
  · exact absurd h1' h1
  · obtain ⟨rfl, rfl⟩ := ho.unique hF ho'
    rfl
  · exact absurd ho (hn' k j)
  · exact absurd h1' h1
  · exact absurd ho' (hn k' j')
  · rfl
/-- It returned what RefOf tells. -/
def RefIs (D : WD) (addr : Int) (e : Ending) : Prop := ∃ r : Int, e = .returned (.int .i64 r) ∧ ((HeapForm D ∧ RefV D addr r) ∨ (¬ HeapForm D ∧ r = -1))
theorem RefIs.unique {D : WD} {addr : Int} {e e' : Ending} (h : RefIs D addr e) (h' : RefIs D addr e') : e = e' := by
  obtain ⟨r, rfl, h⟩ := h
  obtain ⟨r', rfl, h'⟩ := h'
  rcases h with ⟨hF, h⟩ | ⟨hF, rfl⟩ <;> rcases h' with ⟨hF', h'⟩ | ⟨hF', rfl⟩
  · rw [h.unique hF h']
  · exact absurd hF hF'
  · exact absurd hF' hF
  · rfl
theorem RefIs.no {D : WD} {addr : Int} (h : ¬ HeapForm D) : RefIs D addr (.returned (.int .i64 (-1))) := ⟨_, rfl, .inr ⟨h, rfl⟩⟩
theorem RefIs.yes {D : WD} {addr r : Int} (hF : HeapForm D) (h : RefV D addr r) : RefIs D addr (.returned (.int .i64 r)) := ⟨_, rfl, .inl ⟨hF, h⟩⟩
theorem RefV.zero (D : WD) : RefV D 0 0 := .inl ⟨rfl, rfl⟩
theorem RefV.obj {D : WD} {addr : Int} {k j : Nat} (h : addr ≠ 0) (ho : IsObj D addr k j) : RefV D addr (1 + 16 * (k : Int) + (j : Int)) := .inr (.inl ⟨h, k, j, ho, rfl⟩)
theorem RefV.none {D : WD} {addr : Int} (h : addr ≠ 0) (hn : ∀ k j, ¬ IsObj D addr k j) : RefV D addr (-1) := .inr (.inr ⟨h, hn, rfl⟩)
theorem obj_small {D : WD} {addr : Int} {k j : Nat} (hF : HeapForm D) (ho : IsObj D addr k j) : k < 12 ∧ j < 16 := by
  obtain ⟨s, hs, hj, _⟩ := ho
  have A := hF.span k s hs
  have h1 := A.lens
  have h2 := (sl_bd s.cls).2
  have h3 := (List.getElem?_eq_some_iff.1 hs).1
  have h4 := hF.spans
  have h5 := hF.geo.2.2.2.2.1
  omega

/-- Slot j of span k, and an object in it. -/
def UsedAt (D : WD) (k j : Nat) (s : SpanD) : Prop := D.spans[k]? = some s ∧ j < s.lens.length ∧ 0 < s.lens[j]?.getD 0
theorem UsedAt.unique {D : WD} {k j : Nat} {s s' : SpanD} (h : UsedAt D k j s) (h' : UsedAt D k j s') : s = s' := by
  have := h.1.symm.trans h'.1
  simpa using this
theorem UsedAt.obj {D : WD} {k j : Nat} {s : SpanD} (h : UsedAt D k j s) : IsObj D (D.base + atW s (j : Int)) k j := ⟨s, h.1, h.2.1, h.2.2, rfl⟩
/-- What AddrRef tells of a reference. -/
def ARefV (D : WD) (ref a : Int) : Prop := (ref = 0 ∧ a = 0) ∨ (∃ (k j : Nat) (s : SpanD), ref = 1 + 16 * (k : Int) + (j : Int) ∧ j < 16 ∧ UsedAt D k j s ∧ a = D.base + atW s (j : Int)) ∨ (ref ≠ 0 ∧ (∀ (k j : Nat) s, ref = 1 + 16 * (k : Int) + (j : Int) → j < 16 → ¬ UsedAt D k j s) ∧ a = -1)
theorem ARefV.unique {D : WD} {ref a a' : Int} (h : ARefV D ref a) (h' : ARefV D ref a') : a = a' := by
  rcases h with ⟨h1, rfl⟩ | ⟨k, j, s, h1, hj, hu, rfl⟩ | ⟨h1, hn, rfl⟩ <;> rcases h' with ⟨h1', rfl⟩ | ⟨k', j', s', h1', hj', hu', rfl⟩ | ⟨h1', hn', rfl⟩
  · rfl
  · omega
  · exact absurd h1 h1'
  · omega
  · obtain ⟨rfl, rfl⟩ : k = k' ∧ j = j' := by omega
    rw [hu.unique hu']
  · exact absurd hu (hn' k j s h1 hj)
  · exact absurd h1' h1
  · exact absurd hu' (hn k' j' s' h1' hj')
  · rfl
/-- It returned what AddrRef tells. -/
def ARefIs (D : WD) (ref : Int) (e : Ending) : Prop := ∃ a : Int, e = .returned (.int .i64 a) ∧ ((HeapForm D ∧ ARefV D ref a) ∨ (¬ HeapForm D ∧ a = -1))
theorem ARefIs.unique {D : WD} {ref : Int} {e e' : Ending} (h : ARefIs D ref e) (h' : ARefIs D ref e') : e = e' := by
  obtain ⟨r, rfl, h⟩ := h
  obtain ⟨r', rfl, h'⟩ := h'
  rcases h with ⟨hF, h⟩ | ⟨hF, rfl⟩ <;> rcases h' with ⟨hF', h'⟩ | ⟨hF', rfl⟩
  · rw [h.unique h']
  · exact absurd hF hF'
  · exact absurd hF' hF
  · rfl
theorem ARefIs.no {D : WD} {ref : Int} (h : ¬ HeapForm D) : ARefIs D ref (.returned (.int .i64 (-1))) := ⟨_, rfl, .inr ⟨h, rfl⟩⟩
theorem ARefIs.yes {D : WD} {ref a : Int} (hF : HeapForm D) (h : ARefV D ref a) : ARefIs D ref (.returned (.int .i64 a)) := ⟨_, rfl, .inl ⟨hF, h⟩⟩
theorem ARefV.zero (D : WD) : ARefV D 0 0 := .inl ⟨rfl, rfl⟩
theorem ARefV.neg {D : WD} {ref : Int} (h : ref < 0) : ARefV D ref (-1) := .inr (.inr ⟨by omega, fun k j s e _ => by omega, rfl⟩)
theorem ARefV.used {D : WD} {k j : Nat} {s : SpanD} (hj : j < 16) (h : UsedAt D k j s) : ARefV D (1 + 16 * (k : Int) + (j : Int)) (D.base + atW s (j : Int)) := .inr (.inl ⟨k, j, s, rfl, hj, h, rfl⟩)
theorem ARefV.none {D : WD} {k j : Nat} (hj : j < 16) (h : ∀ s, ¬ UsedAt D k j s) : ARefV D (1 + 16 * (k : Int) + (j : Int)) (-1) := .inr (.inr ⟨by omega, fun k' j' s e hj' => by
  obtain ⟨rfl, rfl⟩ : k = k' ∧ j = j' := by omega
  exact h s, rfl⟩)
/-- A reference above 0: the number of its span, and that of its slot. -/
theorem ref_split {ref : Int} (h : 0 < ref) : ∃ k j : Nat, ref = 1 + 16 * (k : Int) + (j : Int) ∧ j < 16 := ⟨((ref - 1) / 16).toNat, ((ref - 1) % 16).toNat, by omega, by omega⟩
theorem ref_div (k j : Nat) (hj : j < 16) : (1 + 16 * (k : Int) + (j : Int) - 1).tdiv 16 = (k : Int) ∧ (1 + 16 * (k : Int) + (j : Int) - 1).tmod 16 = (j : Int) := by
  rw [Int.tdiv_eq_ediv_of_nonneg (by omega), Int.tmod_eq_emod_of_nonneg (by omega)]
  omega
end Go.Proofs.YtpaepkcfdnddgaaGreat

namespace Go.Proofs.YtpaepkcfdnddgaaGreat
open Go.RowKit
set_option linter.unusedVariables false

set_option maxRecDepth 100000 in
set_option maxHeartbeats 4000000 in
theorem sref_at (B : Nat) (v : Value) (D : WD) (hF : HeapForm D) (addr : Int) (w : World) (hr : RdW w v D) (hB : BoxW w B v) :
    Calls Tryz.prog 52 #[.pointer (some ⟨B, 0, none⟩), .int .i64 addr] w fun e w' => (∃ r : Int, e = .returned (.int .i64 r) ∧ RefV D addr r) ∧ Below w.heap.size w w' := by
  have hF' := Lib.hid hF
  have hf := Lib.hid (find_at B v D hF addr w hr hB)
  clear hr hB hF
  go_enter Tryz.func52, Tryz.ntmps52
  by_cases h0 : addr = 0
  · subst h0
    go_wp2_with fail
    go_ret
    exact ⟨⟨_, rfl, RefV.zero D⟩, Below.refl _ _⟩
  have h0' := Lib.hid h0
  have hb : (addr == 0) = false := beq_eq_false_iff_ne.2 h0
  clear h0
  go_wp2_with fail
  refine hf.out.mono ?_
  rintro e w1 ⟨⟨r, q, rfl, hq⟩, b1⟩
  have b1' := Lib.hid b1
  clear b1 hf
  rcases hq with ⟨k, j, _, ho, rfl, rfl⟩ | ⟨hn, rfl, rfl⟩
  · have hs := obj_small hF'.out ho
    have y := Lib.hid (RefV.obj h0'.out ho)
    clear ho
    go_wp2_with fail
    go_ret
    exact ⟨⟨_, rfl, y.out⟩, b1'.out⟩
  · have y := Lib.hid (RefV.none h0'.out (hn hF'.out))
    clear hn
    go_wp2_with fail
    go_ret
    exact ⟨⟨_, rfl, y.out⟩, b1'.out⟩


set_option maxRecDepth 100000 in
set_option maxHeartbeats 4000000 in
theorem saddr_at (B : Nat) (v : Value) (D : WD) (hF : HeapForm D) (ref : Int) (hi : I64 ref) (w : World) (hr : RdW w v D) (hB : BoxW w B v) :
    Calls Tryz.prog 51 #[.pointer (some ⟨B, 0, none⟩), .int .i64 ref] w fun e w' => (∃ a : Int, e = .returned (.int .i64 a) ∧ ARefV D ref a) ∧ Below w.heap.size w w' := by
  have hF' := Lib.hid hF
  have hr' := Lib.hid hr
  have hB' := Lib.hid hB
  obtain ⟨vw, vd, vs, vm, vg, rfl, a1, a2, a3, a4, a5⟩ := hr
  obtain ⟨cs, he, hh⟩ := hB
  obtain rfl := (Value.agg.inj he).symm
  obtain ⟨aS, cS, rfl, hsl, hx⟩ := a3
  unfold maxLen at hsl
  have f4 := cell_of_heap hh 4 _ rfl
  have hx' := Lib.hid hx
  clear a1 a2 a4 a5 he hh hx hF
  go_enter Tryz.func51, Tryz.ntmps51
  by_cases h0 : ref = 0
  · subst h0
    go_wp2_with fail
    go_ret
    exact ⟨⟨_, rfl, ARefV.zero D⟩, Below.refl _ _⟩
  have hb0 : (ref == 0) = false := beq_eq_false_iff_ne.2 h0
  by_cases h1 : ref < 0
  · have y := Lib.hid (ARefV.neg (D := D) h1)
    clear h0
    go_wp2_with fail
    go_ret
    exact ⟨⟨_, rfl, y.out⟩, Below.refl _ _⟩
  obtain ⟨k, j, hsp, hj⟩ := ref_split (show 0 < ref by omega)
  unfold I64 at hi
  obtain ⟨m, hm⟩ : ∃ m : Nat, (m : Int) = ref - 1 := ⟨(ref - 1).toNat, by omega⟩
  have e1 : IntKind.i64.wrap (ref - 1) = (m : Int) := by rw [IntWalk.i64_in _ (by omega)]; omega
  have e2 : (m : Int).tdiv 16 = (k : Int) := by rw [Int.tdiv_eq_ediv_of_nonneg (by omega)]; omega
  have e3 : IntKind.i64.wrap (k : Int) = (k : Int) := IntWalk.i64_in _ (by omega)
  have e4 : (m : Int).tmod 16 = (j : Int) := by rw [Int.tmod_eq_emod_of_nonneg (by omega)]; omega
  have e5 : IntKind.i64.wrap (j : Int) = (j : Int) := IntWalk.i64_in _ (by omega)
  have hneg : decide (ref < 0) = false := decide_eq_false h1
  have hj' := Lib.hid hj
  have hno := Lib.hid (fun (h : ∀ s, ¬ UsedAt D k j s) => (show ARefV D ref (-1) by rw [hsp]; exact ARefV.none hj h))
  have hyes := Lib.hid (fun (s : SpanD) (h : UsedAt D k j s) => (show ARefV D ref (D.base + atW s (j : Int)) by rw [hsp]; exact ARefV.used hj h))
  clear h0 hm hsp hi
  by_cases c1 : (D.spans.length : Int) ≤ (k : Int)
  · have y := Lib.hid (hno.out fun s h => by have := (List.getElem?_eq_some_iff.1 h.1).1; omega)
    go_wp2_with fail
    go_ret
    exact ⟨⟨_, rfl, y.out⟩, Below.refl _ _⟩
  have c1' : (k : Int) < (D.spans.length : Int) := by omega
  obtain ⟨s, hs⟩ : ∃ s, D.spans[k]? = some s := ⟨_, List.getElem?_eq_getElem (by omega)⟩
  obtain ⟨b1, o1, rfl, vl, vp, _, _, _, _, x4, _, ⟨al, cl, rfl, hll, xl⟩, _⟩ := hx'.out k s hs
  unfold maxLen at hll
  have hs' := Lib.hid hs
  have hA := hF'.out.span k s hs
  have hg := hF'.out.geo
  have hcall := Lib.hid (addr_any B _ D k j s hs hA.pg0 (by have := hA.pg1; have := hg.2.2.2.2.1; omega) (by omega) (by have := hg.1; omega) hg.2.1 w hr'.out hB'.out)
  have hA' := Lib.hid hA
  clear hA hg hs
  by_cases c2 : (s.lens.length : Int) ≤ (j : Int)
  · have y := Lib.hid (hno.out fun s2 h => by
      have h1 := h.1
      rw [hs'.out] at h1
      cases h1
      have := h.2.1
      omega)
    clear xl
    go_wp2_with fail
    go_ret
    exact ⟨⟨_, rfl, y.out⟩, Below.refl _ _⟩
  have c2' : (j : Int) < (s.lens.length : Int) := by omega
  obtain ⟨bl, ol, rfl, xj⟩ := xl j (by omega)
  have hl0 := (hA'.out.slot j (by omega)).l0
  have hu := Lib.hid (show UsedAt D k j s ↔ 0 < s.lens[j]?.getD 0 from ⟨fun h => h.2.2, fun h => ⟨hs'.out, by omega, h⟩⟩)
  clear xl
  generalize s.lens[j]?.getD 0 = l at *
  by_cases c3 : l = 0
  · have y := Lib.hid (hno.out fun s2 h => by
      have h1 := h.1
      rw [hs'.out] at h1
      cases h1
      have := hu.out.1 h
      omega)
    clear hl0
    subst c3
    go_wp2_with fail
    go_ret
    exact ⟨⟨_, rfl, y.out⟩, Below.refl _ _⟩
  have c3' : (l == 0) = false := beq_eq_false_iff_ne.2 c3
  have y := Lib.hid (hyes.out s (hu.out.2 (by omega)))
  clear hl0 c3
  go_wp2_with fail
  refine hcall.out.mono ?_
  rintro e w2 ⟨rfl, b2⟩
  have b2' := Lib.hid b2
  clear b2
  go_wp2_with fail
  go_ret
  exact ⟨⟨_, rfl, y.out⟩, b2'.out⟩

end Go.Proofs.YtpaepkcfdnddgaaGreat

namespace Go.Proofs.YtpaepkcfdnddgaaGreat
open Go.RowKit
open Go.Maps (Keyed)
set_option linter.unusedVariables false

set_option maxRecDepth 100000 in
set_option maxHeartbeats 4000000 in
theorem irefOf_at (V B g n : Nat) (M : DataW Unit) (D : WD) (hF : HeapForm D) (addr : Int) (ha : I64 addr) (w : World) (hv : ViewIs D w V B g n M) :
    Calls Tryz.prog 103 #[.pointer (some ⟨V, 0, none⟩), .int .i64 addr] w fun e w' => (∃ r : Int, e = .returned (.int .i64 r) ∧ RefV D addr r) ∧ Below w.heap.size w w' := by
  have hF' := Lib.hid hF
  have hv' := Lib.hid hv
  have hkey := Lib.hid (key_i64 ha)
  have c0 := cell_of_heap hv.box 0 (.pointer (some ⟨B, 0, none⟩)) rfl
  have c1 := cell_of_heap hv.box 1 (.map (some g)) rfl
  clear hF hv ha
  by_cases h0 : addr = 0
  · subst h0
    clear hkey
    go_enter Tryz.func103, Tryz.ntmps103
    go_wp2_with fail
    go_ret
    exact ⟨⟨_, rfl, RefV.zero D⟩, Below.refl _ _⟩
  have h0' := Lib.hid h0
  have hb : (addr == 0) = false := beq_eq_false_iff_ne.2 h0
  clear h0
  by_cases hh : ∃ k j, IsObj D addr k j
  · obtain ⟨k, j, ho⟩ := hh
    have hs := obj_small hF'.out ho
    have hk := Lib.hid (show Ahead D.spans.length 0 k j from .inl (ho.elim fun s hs => (List.getElem?_eq_some_iff.1 hs.1).1))
    have h1 := Lib.hid ((hv'.out.is.has addr).2 ⟨k, j, hk.out, ho⟩)
    have h2 := Lib.hid (hv'.out.is.is addr k j (dat 0 0) hk.out ho)
    have y := Lib.hid (RefV.obj h0'.out ho)
    have bb := Lib.hid (below_box w (.cells #[.int .i64 k, .int .i64 j] 126))
    clear ho
    go_enter Tryz.func103, Tryz.ntmps103
    go_wp2_with (at_lookup; refine lookup_place _ rfl rfl _ _ rfl g n M rfl hv'.out.own _ _ rfl hkey.out true h1.out (k : Int) (j : Int) h2.out ?_)
    go_ret
    exact ⟨⟨_, rfl, y.out⟩, bb.out⟩
  · have h1 := Lib.hid (show Maps.has M (.int .i64 addr) = false from by
      cases h : Maps.has M (.int .i64 addr)
      · rfl
      · obtain ⟨k, j, _, ho⟩ := (hv'.out.is.has addr).1 h
        exact absurd ⟨k, j, ho⟩ hh)
    have h2 := Lib.hid (show M.atKey (.int .i64 addr) (dat 0 0) = dat 0 0 from Maps.atKey_of_not_has h1.out _)
    have y := Lib.hid (RefV.none h0'.out (fun k j h => hh ⟨k, j, h⟩))
    clear hh
    go_enter Tryz.func103, Tryz.ntmps103
    go_wp2_with (at_lookup; refine lookup_place _ rfl rfl _ _ rfl g n M rfl hv'.out.own _ _ rfl hkey.out false h1.out 0 0 h2.out ?_)
    go_ret
    exact ⟨⟨_, rfl, y.out⟩, below_box _ _⟩


set_option maxRecDepth 100000 in
set_option maxHeartbeats 4000000 in
theorem isUsed_any (B : Nat) (v : Value) (D : WD) (hF : HeapForm D) (k j : Nat) (hj : j < 16) (w : World) (hr : RdW w v D) (hB : BoxW w B v) :
    Calls Tryz.prog 107 #[.pointer (some ⟨B, 0, none⟩), .agg #[.int .i64 k, .int .i64 j]] w fun e w' => IsB (∃ s, UsedAt D k j s) e ∧ Below w.heap.size w w' := by
  have hF' := Lib.hid hF
  obtain ⟨vw, vd, vs, vm, vg, rfl, a1, a2, a3, a4, a5⟩ := hr
  obtain ⟨cs, he, hh⟩ := hB
  obtain rfl := (Value.agg.inj he).symm
  obtain ⟨aS, cS, rfl, hsl, hx⟩ := a3
  have hsl12 := hF.spans
  have hpg := hF.geo.2.2.2.2.1
  have bb := below_box w (.cells #[.int .i64 k, .int .i64 j] 126)
  have bn := box_new w (.cells #[.int .i64 k, .int .i64 j] 126)
  have g4 := cell_below bb (cell_of_heap hh 4 _ rfl)
  have h0 := cell_of_heap bn 0 _ rfl
  have h1 := cell_of_heap bn 1 _ rfl
  have bb' := Lib.hid bb
  have hx' := Lib.hid hx
  clear hx a1 a2 a4 a5 he hh bn hF hsl
  go_enter Tryz.func107, Tryz.ntmps107
  by_cases c1 : (k : Int) < (D.spans.length : Int)
  case neg =>
    have n := Lib.hid (show ¬ ∃ s, UsedAt D k j s from fun ⟨s, h⟩ => by have := (List.getElem?_eq_some_iff.1 h.1).1; omega)
    have hb := Lib.hid (inB_no (n := (k : Int)) (l := 0) (h := (D.spans.length : Int) - 1) (by omega))
    clear bb
    go_wp2_with fail
    go_quiet ((go_at_call 100; exact Calls.quiet_of_same ((isIn_eq hb.out _).mono fun _ _ ⟨a, b⟩ => ⟨a, b.symm⟩)))
    go_wp2_with fail
    go_ret
    exact ⟨IsB.no n.out, below_drewN bb'.out _⟩
  have hb := Lib.hid (inB_yes (n := (k : Int)) (l := 0) (h := (D.spans.length : Int) - 1) (by omega) (by omega))
  obtain ⟨s, hs⟩ : ∃ s, D.spans[k]? = some s := ⟨_, List.getElem?_eq_getElem (by omega)⟩
  obtain ⟨b1, o1, rfl, hrs⟩ := hx'.out k s hs
  have hs' := Lib.hid hs
  obtain ⟨vl, vp, _, _, _, _, x4, _, ⟨al, cl, rfl, hll, xl⟩, _⟩ := hrs.below bb
  have hA := hF'.out.span k s hs
  have hl16 : s.lens.length ≤ 16 := by have := hA.lens; have := (sl_bd s.cls).2; omega
  have hn' := Lib.hid (fun (h : ¬ (j < s.lens.length ∧ 0 < s.lens[j]?.getD 0)) => (show ¬ ∃ s, UsedAt D k j s from fun ⟨s2, h2⟩ => by
    have h1 := h2.1
    rw [hs'.out] at h1
    cases h1
    exact h h2.2))
  clear hs hA hll bb
  by_cases c2 : (j : Int) < (s.lens.length : Int)
  case neg =>
    have n := Lib.hid (hn'.out fun h => by omega)
    have hb2 := Lib.hid (inB_no (n := (j : Int)) (l := 0) (h := (s.lens.length : Int) - 1) (by omega))
    clear xl
    go_wp2_with fail
    go_quiet ((go_at_call 100; exact Calls.quiet_of_same ((isIn_eq hb.out _).mono fun _ _ ⟨a, b⟩ => ⟨a, b.symm⟩)))
    go_wp2_with fail
    go_quiet (fail)
    go_wp2_with (go_at_call 100; refine (isIn_eq hb2.out _).mono ?_; rintro e w' ⟨rfl, rfl⟩)
    go_ret
    exact ⟨IsB.no n.out, below_drewN bb'.out _⟩
  have hb2 := Lib.hid (inB_yes (n := (j : Int)) (l := 0) (h := (s.lens.length : Int) - 1) (by omega) (by omega))
  obtain ⟨bl, ol, rfl, xj⟩ := xl j (by omega)
  have hu := Lib.hid (show 0 < s.lens[j]?.getD 0 → ∃ s, UsedAt D k j s from fun h => ⟨s, hs'.out, by omega, h⟩)
  clear xl
  generalize s.lens[j]?.getD 0 = l at *
  by_cases c3 : 0 < l
  · have y := Lib.hid (hu.out c3)
    have d3 : decide (0 < l) = true := decide_eq_true c3
    go_wp2_with fail
    go_quiet ((go_at_call 100; exact Calls.quiet_of_same ((isIn_eq hb.out _).mono fun _ _ ⟨a, b⟩ => ⟨a, b.symm⟩)))
    go_wp2_with fail
    go_quiet (fail)
    go_wp2_with (go_at_call 100; refine (isIn_eq hb2.out _).mono ?_; rintro e w' ⟨rfl, rfl⟩)
    go_ret
    exact ⟨IsB.yes y.out, below_drewN bb'.out _⟩
  · have n := Lib.hid (hn'.out fun h => c3 h.2)
    have d3 : decide (0 < l) = false := decide_eq_false c3
    go_wp2_with fail
    go_quiet ((go_at_call 100; exact Calls.quiet_of_same ((isIn_eq hb.out _).mono fun _ _ ⟨a, b⟩ => ⟨a, b.symm⟩)))
    go_wp2_with fail
    go_quiet (fail)
    go_wp2_with (go_at_call 100; refine (isIn_eq hb2.out _).mono ?_; rintro e w' ⟨rfl, rfl⟩)
    go_ret
    exact ⟨IsB.no n.out, below_drewN bb'.out _⟩

set_option maxRecDepth 100000 in
set_option maxHeartbeats 4000000 in
theorem iaddrOf_ref (B : Nat) (v : Value) (D : WD) (hF : HeapForm D) (ref : Int) (hi : I64 ref) (w : World) (hr : RdW w v D) (hB : BoxW w B v) :
    Calls Tryz.prog 59 #[.pointer (some ⟨B, 0, none⟩), .int .i64 ref] w fun e w' => (∃ a : Int, e = .returned (.int .i64 a) ∧ ARefV D ref a) ∧ Below w.heap.size w w' := by
  have hF' := Lib.hid hF
  have hr' := Lib.hid hr
  have hB' := Lib.hid hB
  clear hr hB hF
  go_enter Tryz.func59, Tryz.ntmps59
  by_cases h0 : ref = 0
  · subst h0
    go_wp2_with fail
    go_ret
    exact ⟨⟨_, rfl, ARefV.zero D⟩, Below.refl _ _⟩
  have hb0 : (ref == 0) = false := beq_eq_false_iff_ne.2 h0
  have h0' := Lib.hid h0
  clear h0
  unfold I64 at hi
  by_cases h1 : ref < 0
  · have y := Lib.hid (ARefV.neg (D := D) h1)
    have hneg : decide (ref < 0) = true := decide_eq_true h1
    obtain ⟨x, hx⟩ : ∃ x : Int, x = IntKind.i64.wrap (IntKind.i64.wrap (ref - 1) |>.tdiv 16) := ⟨_, rfl⟩
    obtain ⟨z, hz⟩ : ∃ z : Int, z = IntKind.i64.wrap (IntKind.i64.wrap (ref - 1) |>.tmod 16) := ⟨_, rfl⟩
    clear hi
    go_wp2_with fail
    go_ret
    exact ⟨⟨_, rfl, y.out⟩, below_box _ _⟩
  obtain ⟨k, j, hsp, hj⟩ := ref_split (show 0 < ref by have := h0'.out; omega)
  obtain ⟨m, hm⟩ : ∃ m : Nat, (m : Int) = ref - 1 := ⟨(ref - 1).toNat, by have := h0'.out; omega⟩
  have e1 : IntKind.i64.wrap (ref - 1) = (m : Int) := by rw [IntWalk.i64_in _ (by omega)]; omega
  have e2 : (m : Int).tdiv 16 = (k : Int) := by rw [Int.tdiv_eq_ediv_of_nonneg (by omega)]; omega
  have e3 : IntKind.i64.wrap (k : Int) = (k : Int) := IntWalk.i64_in _ (by omega)
  have e4 : (m : Int).tmod 16 = (j : Int) := by rw [Int.tmod_eq_emod_of_nonneg (by omega)]; omega
  have e5 : IntKind.i64.wrap (j : Int) = (j : Int) := IntWalk.i64_in _ (by omega)
  have hneg : decide (ref < 0) = false := decide_eq_false h1
  have hj' := Lib.hid hj
  have hno := Lib.hid (fun (h : ¬ ∃ s, UsedAt D k j s) => (show ARefV D ref (-1) by rw [hsp]; exact ARefV.none hj fun s hs => h ⟨s, hs⟩))
  have hyes := Lib.hid (fun (s : SpanD) (h : UsedAt D k j s) => (show ARefV D ref (D.base + atW s (j : Int)) by rw [hsp]; exact ARefV.used hj h))
  have bb := Lib.hid (below_box w (.cells #[.int .i64 k, .int .i64 j] 126))
  have bn := Lib.hid (box_new w (.cells #[.int .i64 k, .int .i64 j] 126))
  have hr1 := Lib.hid (hr'.out.below bb.out)
  have hB1 := Lib.hid (hB'.out.below bb.out)
  clear hm hsp hi
  go_wp2_with fail
  refine (isUsed_any B v D hF'.out k j hj'.out _ hr1.out hB1.out).mono ?_
  rintro e w2 ⟨hq, b2⟩
  replace hq := hq.elim
  have bb2 := Lib.hid (below_trans bb.out b2)
  have bn2 := Lib.hid (heap_below b2 bn.out)
  have hr2 := Lib.hid (hr1.out.below b2)
  have hB2 := Lib.hid (hB1.out.below b2)
  clear b2
  rcases hq with ⟨hu, rfl⟩ | ⟨hu, rfl⟩
  case inr =>
    have y := Lib.hid (hno.out hu)
    clear hu
    go_wp2_with fail
    go_ret
    exact ⟨⟨_, rfl, y.out⟩, bb2.out⟩
  obtain ⟨s, hs⟩ := hu
  have y := Lib.hid (hyes.out s hs)
  have A := hF'.out.span k s hs.1
  have hg := hF'.out.geo
  have hcall := Lib.hid (addrI_any B v D k j s hs.1 A.pg0 (by have := A.pg1; have := hg.2.2.2.2.1; omega) (by omega) (by have := hg.1; omega) hg.2.1 w2 hr2.out hB2.out)
  have g0 := cell_of_heap bn2.out 0 _ rfl
  have g1 := cell_of_heap bn2.out 1 _ rfl
  clear hs A hg
  go_wp2_with fail
  refine hcall.out.mono ?_
  rintro e w3 ⟨rfl, b3⟩
  have b3' := Lib.hid b3
  clear b3
  go_wp2_with fail
  go_ret
  exact ⟨⟨_, rfl, y.out⟩, below_trans bb2.out b3'.out⟩

end Go.Proofs.YtpaepkcfdnddgaaGreat

import Derived.Test.YtpaepkcfdnddgaaGreatCgP
import Derived.Test.YtpaepkcfdnddgaaGreatCgQ
import Derived.Test.YtpaepkcfdnddgaaGreatCgA
import Derived.Lib.SlicesCompact
import Derived.Lib.SlKeysI

namespace Go.Proofs.YtpaepkcfdnddgaaGreat
open Go.RowKit
open Go.Maps (Keyed)
set_option linter.unusedVariables false

theorem and_bit (m : Int) (j : Nat) (h0 : 0 ≤ m) (h1 : m ≤ 9223372036854775807) (hj : j ≤ 16) : bits .and .i64 m ((2 : Int) ^ j) ≠ 0 ↔ bitI m j := by
  obtain ⟨n, rfl⟩ := Int.eq_ofNat_of_zero_le h0
  have h2 := pow16 hj
  have e : ((2 : Int) ^ j) = ((2 ^ j : Nat) : Int) := by simp
  rw [bitI_test, e]
  have e2 : bits .and .i64 (n : Int) ((2 ^ j : Nat) : Int) = ((n &&& 2 ^ j : Nat) : Int) := by
    show IntKind.i64.wrap ((BitVec.ofInt 64 (n : Int) &&& BitVec.ofInt 64 ((2 ^ j : Nat) : Int)).toNat : Nat) = _
    rw [BitVec.toNat_and, ofInt_nat _ (by omega), ofInt_nat _ (by omega), IntKind.wrap_i64]
    have := Nat.and_le_right (n := n) (m := 2 ^ j)
    omega
  have e3 : n &&& 2 ^ j ≠ 0 ↔ n.testBit j = true := by
    constructor
    · intro h
      cases ht : n.testBit j
      · exfalso
        apply h
        apply Nat.eq_of_testBit_eq
        intro i
        rw [Nat.testBit_and, Nat.testBit_two_pow, Nat.zero_testBit]
        by_cases e : j = i
        · subst e
          simp [ht]
        · simp [e]
      · rfl
    · intro ht h
      have := congrArg (fun x => x.testBit j) h
      simp [Nat.testBit_and, ht] at this
  rw [e2, ← e3]
  omega
theorem SlotIn.mk16 {D : WD} {s : SpanD} {k j : Nat} (hF : HeapForm D) (hs : D.spans[k]? = some s) (hj : j < s.lens.length) : 0 ≤ s.mark ∧ s.mark ≤ 9223372036854775807 ∧ j ≤ 16 := by
  have A := hF.span k s hs
  have h1 := A.lens
  have h2 := (sl_bd s.cls).2
  have h3 := A.mk1
  have h4 := pow16 (k := s.lens.length) (by omega)
  have e : ((2 : Int) ^ s.lens.length) = ((2 ^ s.lens.length : Nat) : Int) := by simp
  rw [e] at h3
  exact ⟨A.mk0, by omega, by omega⟩

set_option maxRecDepth 100000 in
set_option maxHeartbeats 4000000 in
theorem imarked_any (B : Nat) (v : Value) (D : WD) (k j : Nat) (s : SpanD) (hks : D.spans[k]? = some s) (hm : 0 ≤ s.mark ∧ s.mark ≤ 9223372036854775807 ∧ j ≤ 16) (w : World) (hr : RdW w v D) (hB : BoxW w B v) :
    Calls Tryz.prog 160 #[.pointer (some ⟨B, 0, none⟩), .agg #[.int .i64 k, .int .i64 j]] w fun e w' => IsB (MarkedP D k j) e ∧ Below w.heap.size w w' := by
  obtain ⟨vw, vd, vs, vm, vg, rfl, a1, a2, a3, a4, a5⟩ := hr
  obtain ⟨aS, cS, rfl, hsl, hx⟩ := a3
  obtain ⟨b1, o1, rfl, hrs⟩ := hx k s hks
  have bb := below_box w (.cells #[.int .i64 k, .int .i64 j] 126)
  have bx := box_new w (.cells #[.int .i64 k, .int .i64 j] 126)
  obtain ⟨vl, vp, x0, x1, x2, x3, x4, x5, xl, xp⟩ := hrs.below bb
  have g4 := cell_below bb (hB.cell 4 _ rfl)
  have q0 := cell_of_heap bx 0 _ rfl
  have q1 := cell_of_heap bx 1 _ rfl
  have hkl1 : (k : Int) < (D.spans.length : Int) := by have := (List.getElem?_eq_some_iff.1 hks).1; omega
  have y := Lib.hid (show ∀ r : Bool, r = (bits BinOp.and IntKind.i64 s.mark (2 ^ j) != 0) → IsB (MarkedP D k j) (.returned (.bool r)) from fun r hr => ⟨_, rfl, by rw [hr, bne_iff_ne, and_bit _ _ hm.1 hm.2.1 hm.2.2, MarkedP.iff hks]⟩)
  have hj16 := hm.2.2
  have hcall := Lib.hid (fun (w : World) => markBit_any j hj16 w)
  have bb' := Lib.hid bb
  clear a1 a2 a4 a5 hB hx xl xp x0 x1 x3 x4 x5 hks hrs bb bx hm
  go_enter Tryz.func160, Tryz.ntmps160
  go_upto_region 1 with fail
  generalize w.alloc (.cells #[.int .i64 k, .int .i64 j] 126) = W at *
  go_quiet ((go_at_call 167; exact Calls.quiet_of_same ((hcall.out _).mono fun _ _ ⟨a, b⟩ => ⟨a, b.symm⟩)))
  go_wp2_with fail
  go_ret
  exact ⟨y.out _ rfl, below_drewN bb'.out _⟩
end Go.Proofs.YtpaepkcfdnddgaaGreat

namespace Go.Proofs.YtpaepkcfdnddgaaGreat
open Go.RowKit
open Go.Maps (Keyed)
set_option linter.unusedVariables false

open Classical in
theorem flag_of (P : Prop) : ∃ d : Bool, d = true ↔ P := ⟨decide P, by simp⟩

set_option maxRecDepth 100000 in
set_option maxHeartbeats 4000000 in
theorem idoomed_any (B : Nat) (v : Value) (D : WD) (k j : Nat) (s : SpanD) (hks : D.spans[k]? = some s) (hm : 0 ≤ s.mark ∧ s.mark ≤ 9223372036854775807 ∧ j ≤ 16) (w : World) (hr : RdW w v D) (hB : BoxW w B v) :
    Calls Tryz.prog 143 #[.pointer (some ⟨B, 0, none⟩), .agg #[.int .i64 k, .int .i64 j]] w fun e w' => IsB (DoomP D k j) e ∧ Below w.heap.size w w' := by
  have bb := below_box w (.cells #[.int .i64 k, .int .i64 j] 126)
  have bx := box_new w (.cells #[.int .i64 k, .int .i64 j] 126)
  obtain ⟨mk, hmk⟩ := flag_of (MarkedP D k j)
  have hcall := Lib.hid (fun (x : Ext (w.alloc (.cells #[.int .i64 k, .int .i64 j] 126))) => (imarked_any B v D k j s hks hm x.val ((hr.below bb).below x.below) ((hB.below bb).below x.below)).mono fun e w' ⟨h1, h2⟩ => (⟨h1.at_ mk hmk, h2⟩ : e = Ending.returned (.bool mk) ∧ Below x.val.heap.size x.val w'))
  obtain ⟨vw, vd, vs, vm, vg, rfl, a1, a2, a3, a4, a5⟩ := hr
  obtain ⟨aS, cS, rfl, hsl, hx⟩ := a3
  obtain ⟨b1, o1, rfl, hrs⟩ := hx k s hks
  obtain ⟨vl, vp, x0, x1, x2, x3, x4, x5, xl, xp⟩ := hrs.below bb
  have g4 := cell_below bb (hB.cell 4 _ rfl)
  have g6 := cell_below bb (hB.cell 6 _ rfl)
  have q0 := cell_of_heap bx 0 _ rfl
  have q1 := cell_of_heap bx 1 _ rfl
  have hkl1 : (k : Int) < (D.spans.length : Int) := by have := (List.getElem?_eq_some_iff.1 hks).1; omega
  have hP := Lib.hid (show DoomP D k j ↔ (D.phase = 4 ∧ s.swept = false ∧ mk = false) from by rw [DoomP.iff hks, ← MarkedP.iff hks, ← hmk]; simp)
  have bb' := Lib.hid bb
  clear a1 a2 a4 a5 hB hx xl xp x0 x1 x2 x4 x5 hks hrs bb bx hm hmk hsl
  generalize DoomP D k j = P at *
  go_enter Tryz.func143, Tryz.ntmps143
  go_upto_region 1 with fail
  generalize w.alloc (.cells #[.int .i64 k, .int .i64 j] 126) = W at *
  have G4 := Ext.cell g4
  have G6 := Ext.cell g6
  have Q0 := Ext.cell q0
  have Q1 := Ext.cell q1
  have X3 := Ext.cell x3
  clear g4 g6 q0 q1 x3
  generalize s.swept = sw at *
  generalize D.phase = ph at *
  by_cases c1 : ph = 4
  case neg =>
    have n := Lib.hid (IsB.no (P := P) fun h => c1 (hP.out.1 h).1)
    have d1 : (ph == 4) = false := beq_eq_false_iff_ne.2 c1
    clear hP c1
    refine wp_region_ext (Below.refl _ _) (by kernel_rfl) (by kernel_rfl) ?_
    repeat (go_big_quiet_step ((fail)))
    refine wpQuiet_nil ?_
    intro _ hw'
    obtain ⟨x9, hw''⟩ := hw'
    subst hw''
    go_wp2_with fail
    go_ret
    exact ⟨n.out, below_trans bb'.out x9.below⟩
  subst c1
  cases sw
  case true =>
    have n := Lib.hid (IsB.no (P := P) fun h => by have := (hP.out.1 h).2.1; cases this)
    clear hP
    refine wp_region_ext (Below.refl _ _) (by kernel_rfl) (by kernel_rfl) ?_
    repeat (go_big_quiet_step ((fail)))
    refine wpQuiet_nil ?_
    intro _ hw'
    obtain ⟨x9, hw''⟩ := hw'
    subst hw''
    go_wp2_with fail
    go_ret
    exact ⟨n.out, below_trans bb'.out x9.below⟩
  have n := Lib.hid (show IsB P (.returned (.bool (!mk))) from ⟨_, rfl, by rw [hP.out]; cases mk <;> simp⟩)
  clear hP
  refine wp_region_ext (Below.refl _ _) (by kernel_rfl) (by kernel_rfl) ?_
  repeat (go_big_quiet_step ((go_at_call 160; exact Ext.call (hcall.out _))))
  refine wpQuiet_nil ?_
  intro _ hw'
  obtain ⟨x9, hw''⟩ := hw'
  subst hw''
  go_wp2_with fail
  go_ret
  exact ⟨n.out, below_trans bb'.out x9.below⟩

/-- At an address: is there an object of which the callee says so? -/
def ObjP (D : WD) (P : Nat → Nat → Prop) (a : Int) : Prop := ∃ k j, IsObj D a k j ∧ P k j
theorem ObjP.at_ {D : WD} {P : Nat → Nat → Prop} (hF : HeapForm D) {a : Int} {k j : Nat} (ho : IsObj D a k j) : ObjP D P a ↔ P k j :=
  ⟨fun ⟨k', j', ho', h⟩ => by obtain ⟨rfl, rfl⟩ := ho'.unique hF ho; exact h, fun h => ⟨k, j, ho, h⟩⟩
theorem ObjP.no {D : WD} {P : Nat → Nat → Prop} {a : Int} (h : ¬ ∃ k j, IsObj D a k j) : ¬ ObjP D P a := fun ⟨k, j, ho, _⟩ => h ⟨k, j, ho⟩

set_option maxRecDepth 100000 in
set_option maxHeartbeats 4000000 in
theorem vmarked_any (V B g n : Nat) (M : DataW Unit) (v : Value) (D : WD) (hF : HeapForm D) (addr : Int) (ha : I64 addr) (w : World) (hr : RdW w v D) (hB : BoxW w B v) (hv : ViewIs D w V B g n M) :
    Calls Tryz.prog 153 #[.pointer (some ⟨V, 0, none⟩), .int .i64 addr] w fun e w' => IsB (ObjP D (MarkedP D) addr) e ∧ Below w.heap.size w w' := by
  have hF' := Lib.hid hF
  have hr' := Lib.hid hr
  have hB' := Lib.hid hB
  have hv' := Lib.hid hv
  have hkey := Lib.hid (key_i64 ha)
  have c0 := cell_of_heap hv.box 0 (.pointer (some ⟨B, 0, none⟩)) rfl
  have c1 := cell_of_heap hv.box 1 (.map (some g)) rfl
  clear hF hr hB hv ha
  by_cases hh : ∃ k j, IsObj D addr k j
  · obtain ⟨k, j, ho⟩ := hh
    obtain ⟨s, hks, hin, p0, p1⟩ := obj_slot hF'.out ho
    have hk := Lib.hid (show Ahead D.spans.length 0 k j from .inl (List.getElem?_eq_some_iff.1 hks).1)
    have h1 := Lib.hid ((hv'.out.is.has addr).2 ⟨k, j, hk.out, ho⟩)
    have h2 := Lib.hid (hv'.out.is.is addr k j (dat 0 0) hk.out ho)
    obtain ⟨mk, hmk⟩ := flag_of (MarkedP D k j)
    have hcall := Lib.hid (fun (w' : World) (hb : Below w.heap.size w w') => (imarked_any B v D k j s hks (SlotIn.mk16 hF'.out hks hin.j) w' (hr'.out.below hb) (hB'.out.below hb)).mono fun e w'' ⟨h1, h2⟩ => (⟨h1.at_ mk hmk, h2⟩ : e = Ending.returned (.bool mk) ∧ Below w'.heap.size w' w''))
    have y := Lib.hid (show IsB (ObjP D (MarkedP D) addr) (.returned (.bool mk)) from ⟨_, rfl, by rw [ObjP.at_ hF'.out ho, ← hmk]⟩)
    have bb := below_box w (.cells #[.int .i64 k, .int .i64 j] 126)
    have bx := box_new w (.cells #[.int .i64 k, .int .i64 j] 126)
    have d0 := Lib.hid (cell_below bb c0)
    have q0 := Lib.hid (cell_of_heap bx 0 (.int .i64 k) rfl)
    have q1 := Lib.hid (cell_of_heap bx 1 (.int .i64 j) rfl)
    have bb' := Lib.hid bb
    clear ho hks hin p0 p1 bb bx hmk
    go_enter Tryz.func153, Tryz.ntmps153
    go_wp2_with (at_lookup; refine lookup_place _ rfl rfl _ _ rfl g n M rfl hv'.out.own _ _ rfl hkey.out true h1.out (k : Int) (j : Int) h2.out ?_)
    go_upto_region 2 with fail
    clear c0 c1
    generalize w.alloc (.cells #[.int .i64 k, .int .i64 j] 126) = W at *
    have D0 := Ext.cell d0.out
    have Q0 := Ext.cell q0.out
    have Q1 := Ext.cell q1.out
    refine wp_region_ext (Below.refl _ _) (by kernel_rfl) (by kernel_rfl) ?_
    repeat (go_big_quiet_step ((go_at_call 160; exact Ext.call (hcall.out _ (below_trans bb'.out (Ext.below _))))))
    refine wpQuiet_nil ?_
    intro _ hw'
    obtain ⟨x9, hw''⟩ := hw'
    subst hw''
    go_wp2_with fail
    go_ret
    exact ⟨y.out, below_trans bb'.out x9.below⟩
  · have h1 := Lib.hid (show Maps.has M (.int .i64 addr) = false from by
      cases h : Maps.has M (.int .i64 addr)
      · rfl
      · obtain ⟨k, j, _, ho⟩ := (hv'.out.is.has addr).1 h
        exact absurd ⟨k, j, ho⟩ hh)
    have h2 := Lib.hid (show M.atKey (.int .i64 addr) (dat 0 0) = dat 0 0 from Maps.atKey_of_not_has h1.out _)
    have y := Lib.hid (IsB.no (ObjP.no hh : ¬ ObjP D (MarkedP D) addr))
    have bb' := Lib.hid (below_box w (.cells #[.int .i64 0, .int .i64 0] 126))
    clear hh
    go_enter Tryz.func153, Tryz.ntmps153
    go_wp2_with (at_lookup; refine lookup_place _ rfl rfl _ _ rfl g n M rfl hv'.out.own _ _ rfl hkey.out false h1.out 0 0 h2.out ?_)
    go_upto_region 2 with fail
    clear c0 c1
    generalize w.alloc (.cells #[.int .i64 0, .int .i64 0] 126) = W at *
    refine wp_region_ext (Below.refl _ _) (by kernel_rfl) (by kernel_rfl) ?_
    repeat (go_big_quiet_step ((fail)))
    refine wpQuiet_nil ?_
    intro _ hw'
    obtain ⟨x9, hw''⟩ := hw'
    subst hw''
    go_wp2_with fail
    go_ret
    exact ⟨y.out, below_trans bb'.out x9.below⟩

set_option maxRecDepth 100000 in
set_option maxHeartbeats 4000000 in
theorem vstays_any (V B g n : Nat) (M : DataW Unit) (v : Value) (D : WD) (hF : HeapForm D) (addr : Int) (ha : I64 addr) (w : World) (hr : RdW w v D) (hB : BoxW w B v) (hv : ViewIs D w V B g n M) :
    Calls Tryz.prog 152 #[.pointer (some ⟨V, 0, none⟩), .int .i64 addr] w fun e w' => IsB (ObjP D (fun k j => ¬ DoomP D k j) addr) e ∧ Below w.heap.size w w' := by
  have hF' := Lib.hid hF
  have hr' := Lib.hid hr
  have hB' := Lib.hid hB
  have hv' := Lib.hid hv
  have hkey := Lib.hid (key_i64 ha)
  have c0 := cell_of_heap hv.box 0 (.pointer (some ⟨B, 0, none⟩)) rfl
  have c1 := cell_of_heap hv.box 1 (.map (some g)) rfl
  clear hF hr hB hv ha
  by_cases hh : ∃ k j, IsObj D addr k j
  · obtain ⟨k, j, ho⟩ := hh
    obtain ⟨s, hks, hin, p0, p1⟩ := obj_slot hF'.out ho
    have hk := Lib.hid (show Ahead D.spans.length 0 k j from .inl (List.getElem?_eq_some_iff.1 hks).1)
    have h1 := Lib.hid ((hv'.out.is.has addr).2 ⟨k, j, hk.out, ho⟩)
    have h2 := Lib.hid (hv'.out.is.is addr k j (dat 0 0) hk.out ho)
    obtain ⟨mk, hmk⟩ := flag_of (DoomP D k j)
    have hcall := Lib.hid (fun (w' : World) (hb : Below w.heap.size w w') => (idoomed_any B v D k j s hks (SlotIn.mk16 hF'.out hks hin.j) w' (hr'.out.below hb) (hB'.out.below hb)).mono fun e w'' ⟨h1, h2⟩ => (⟨h1.at_ mk hmk, h2⟩ : e = Ending.returned (.bool mk) ∧ Below w'.heap.size w' w''))
    have y := Lib.hid (show IsB (ObjP D (fun k j => ¬ DoomP D k j) addr) (.returned (.bool (!mk))) from ⟨_, rfl, by rw [ObjP.at_ hF'.out ho, ← hmk]; cases mk <;> simp⟩)
    have bb := below_box w (.cells #[.int .i64 k, .int .i64 j] 126)
    have bx := box_new w (.cells #[.int .i64 k, .int .i64 j] 126)
    have d0 := Lib.hid (cell_below bb c0)
    have q0 := Lib.hid (cell_of_heap bx 0 (.int .i64 k) rfl)
    have q1 := Lib.hid (cell_of_heap bx 1 (.int .i64 j) rfl)
    have bb' := Lib.hid bb
    clear ho hks hin p0 p1 bb bx hmk
    go_enter Tryz.func152, Tryz.ntmps152
    go_wp2_with (at_lookup; refine lookup_place _ rfl rfl _ _ rfl g n M rfl hv'.out.own _ _ rfl hkey.out true h1.out (k : Int) (j : Int) h2.out ?_)
    go_upto_region 2 with fail
    clear c0 c1
    generalize w.alloc (.cells #[.int .i64 k, .int .i64 j] 126) = W at *
    have D0 := Ext.cell d0.out
    have Q0 := Ext.cell q0.out
    have Q1 := Ext.cell q1.out
    refine wp_region_ext (Below.refl _ _) (by kernel_rfl) (by kernel_rfl) ?_
    repeat (go_big_quiet_step ((go_at_call 143; exact Ext.call (hcall.out _ (below_trans bb'.out (Ext.below _))))))
    refine wpQuiet_nil ?_
    intro _ hw'
    obtain ⟨x9, hw''⟩ := hw'
    subst hw''
    go_wp2_with fail
    go_ret
    exact ⟨y.out, below_trans bb'.out x9.below⟩
  · have h1 := Lib.hid (show Maps.has M (.int .i64 addr) = false from by
      cases h : Maps.has M (.int .i64 addr)
      · rfl
      · obtain ⟨k, j, _, ho⟩ := (hv'.out.is.has addr).1 h
        exact absurd ⟨k, j, ho⟩ hh)
    have h2 := Lib.hid (show M.atKey (.int .i64 addr) (dat 0 0) = dat 0 0 from Maps.atKey_of_not_has h1.out _)
    have y := Lib.hid (IsB.no (ObjP.no hh : ¬ ObjP D (fun k j => ¬ DoomP D k j) addr))
    have bb' := Lib.hid (below_box w (.cells #[.int .i64 0, .int .i64 0] 126))
    clear hh
    go_enter Tryz.func152, Tryz.ntmps152
    go_wp2_with (at_lookup; refine lookup_place _ rfl rfl _ _ rfl g n M rfl hv'.out.own _ _ rfl hkey.out false h1.out 0 0 h2.out ?_)
    go_upto_region 2 with fail
    clear c0 c1
    generalize w.alloc (.cells #[.int .i64 0, .int .i64 0] 126) = W at *
    refine wp_region_ext (Below.refl _ _) (by kernel_rfl) (by kernel_rfl) ?_
    repeat (go_big_quiet_step ((fail)))
    refine wpQuiet_nil ?_
    intro _ hw'
    obtain ⟨x9, hw''⟩ := hw'
    subst hw''
    go_wp2_with fail
    go_ret
    exact ⟨y.out, below_trans bb'.out x9.below⟩
end Go.Proofs.YtpaepkcfdnddgaaGreat

namespace Go.Proofs.YtpaepkcfdnddgaaGreat
open Go.RowKit
open Go.Maps (Keyed)
set_option linter.unusedVariables false

def flag (b : Bool) : DataW Unit := .lit (.bool b)
def boolElem : Value → Option (DataW Unit × List MemPlace)
  | .bool b => some (flag b, [])
  | _ => none
theorem boolElem_mk (b : Bool) : boolElem (.bool b) = some (flag b, []) := rfl
theorem boolElem_inv {v : Value} {z : DataW Unit × List MemPlace} (h : boolElem v = some z) : ∃ b, v = .bool b ∧ z = (flag b, []) := by
  unfold boolElem at h
  split at h
  · cases h
    exact ⟨_, rfl, rfl⟩
  · cases h
theorem flag_inj {a b : Bool} (h : flag a = flag b) : a = b := by simpa [flag] using h
theorem zeroFlag (w : World) : (zeroValue 4).run Tryz.prog w = .ok (.bool false) w := by kernel_rfl
def OwnB (w : World) (g n : Nat) (M : DataW Unit) : Prop := w.ownsMap Tryz.prog 3 boolElem g n M
theorem OwnB.below {w w' : World} {g n : Nat} {M : DataW Unit} (h : OwnB w g n M) (hb : Below w.heap.size w w') : OwnB w' g n M := World.ownsMap.kept h (grown_of_below hb) (by simp)
theorem OwnB.lt {w : World} {g n : Nat} {M : DataW Unit} (h : OwnB w g n M) : g < w.heap.size := World.ownsMap.lt h
theorem OwnB.ne_row {w : World} {g n base size k : Nat} {e : TypeId} {v : Value} {xs : List Value} {M : DataW Unit} (h : OwnB w g n M) (hr : w.ownsRow base e size v k xs) : v.ownBlock ≠ some g := by
  intro hq
  obtain ⟨es, clock, hb, _⟩ := h
  rcases hr.2 with ⟨rfl, _⟩ | ⟨g', cap, cur, rfl, _, hg, _⟩
  · simp [Value.ownBlock] at hq
  · simp [Value.ownBlock] at hq
    subst hq
    rw [hb] at hg
    cases hg
structure MetIs (M : DataW Unit) (S : List Int) : Prop where
  isMap : Maps.IsMap M
  has : ∀ a : Int, Maps.has M (.int .i64 a) = true ↔ a ∈ S
  is : ∀ (a : Int) (z : DataW Unit), a ∈ S → M.atKey (.int .i64 a) z = flag true
theorem MetIs.zero : MetIs (.map []) [] :=
  ⟨Maps.isMap_empty, fun a => ⟨fun h => by simp [Maps.has_eq] at h, fun h => by simp at h⟩, fun a z h => by simp at h⟩
theorem MetIs.put {M : DataW Unit} {S : List Int} (h : MetIs M S) (x : Int) : MetIs (M.put (.int .i64 x) (flag true)) (x :: S) := by
  have lit : ∀ a : Int, a ≠ x → (Lit.int .i64 a) ≠ (Lit.int .i64 x) := fun a hne e => hne (by simpa using e)
  refine ⟨h.isMap.put _ _, fun a => ?_, fun a z ha => ?_⟩
  · by_cases e : a = x
    · subst e
      rw [Maps.has_put_same h.isMap (isKey _)]
      simp
    · rw [Maps.has_put_other (lit a e), h.has a]
      simp [e]
  · by_cases e : a = x
    · subst e
      rw [Maps.atKey_put_same h.isMap (isKey _)]
    · rw [Maps.atKey_put_other (lit a e)]
      exact h.is a z (by simpa [e] using ha)
theorem MetIs.look {M : DataW Unit} {S : List Int} (h : MetIs M S) (a : Int) : M.atKey (.int .i64 a) (flag false) = flag (decide (a ∈ S)) := by
  by_cases e : a ∈ S
  · rw [h.is a _ e]
    simp [e]
  · rw [Maps.atKey_of_not_has (by
      cases hh : Maps.has M (.int .i64 a)
      · rfl
      · exact absurd ((h.has a).1 hh) e)]
    simp [e]
theorem lookup_met {P : Program} (w : World) {ops : Array Oper} {rest : List Oper} {o : Oper} {a : Act} {Q : Exit → Act → World → Prop} (hP : P = Tryz.prog) (hg : o.guard = none) (m x : Operand) (hop : o.op = Op.lookup 157 m x false) (b n : Nat) (D : DataW Unit)
    (hm : a.eval m = .map (some b)) (hown : OwnB w b n D) (key : Value) (kl : Lit) (hx : a.eval x = key) (hkey : keyOf P 3 key = some kl) (c : Bool) (hc : D.atKey kl (flag false) = flag c)
    (hK : wpList P ops Q rest (a.put o.dst (.bool c)) w) : wpList P ops Q (o :: rest) a w := by
  subst hP
  refine wpList_plain hg fun K' hK' => ?_
  obtain ⟨v, ps, hrun, hv⟩ := World.ownsMap.lookup hown mapLaw Tryz.underlying157 (zeroFlag w) (boolElem_mk false) hkey
  obtain ⟨d, rfl, he⟩ := boolElem_inv hv
  have e := congrArg Prod.fst he
  simp only at e
  rw [hc] at e
  obtain rfl := flag_inj e
  unfold Oper.wp
  simp [execOp, hop, hm, hx, hrun, Result.andThen]
  exact hK' _ _ hK
theorem look_met {w : World} {g n : Nat} {M : DataW Unit} (hown : OwnB w g n M) {x : Int} (hkey : keyOf Tryz.prog 3 (.int .i64 x) = some (.int .i64 x)) {c : Bool} (hc : M.atKey (.int .i64 x) (flag false) = flag c) :
    (Instr.lookup 157 (.map (some g)) (.int .i64 x) false).run Tryz.prog w = .ok (.bool c) w := by
  obtain ⟨v, ps, hrun, hv⟩ := World.ownsMap.lookup hown mapLaw Tryz.underlying157 (zeroFlag w) (boolElem_mk false) hkey
  obtain ⟨d, rfl, he⟩ := boolElem_inv hv
  have e := congrArg Prod.fst he
  simp only at e
  rw [hc] at e
  obtain rfl := flag_inj e
  exact hrun
end Go.Proofs.YtpaepkcfdnddgaaGreat

namespace Go.Proofs.YtpaepkcfdnddgaaGreat
open Go.RowKit
set_option linter.unusedVariables false

def srt (L : List Int) : List Int := L.mergeSort fun x y => decide (x ≤ y)
theorem srt_pair (L : List Int) : (srt L).Pairwise (· ≤ ·) := by
  have h := List.pairwise_mergeSort (le := fun x y : Int => decide (x ≤ y)) (fun a b c h1 h2 => by simp at *; omega) (fun a b => by simp; omega) L
  exact h.imp fun h => by simpa using h
theorem srt_mem (L : List Int) (y : Int) : y ∈ srt L ↔ y ∈ L := by unfold srt; rw [List.mem_mergeSort]
theorem compact_upto {Z : List Int} (hs : Z.Pairwise (· ≤ ·)) : ∀ m, m ≤ Z.length → Asc (Lib.compactUpTo Z.toArray m) ∧ (∀ y, y ∈ Lib.compactUpTo Z.toArray m ↔ y ∈ Z.take m)
  | 0, _ => ⟨by simp [Lib.compactUpTo, Asc], fun y => by simp [Lib.compactUpTo]⟩
  | m + 1, hm => by
    obtain ⟨h1, h2⟩ := compact_upto hs m (by omega)
    have hlt : m < Z.length := by omega
    have e : Z.toArray[m]! = Z[m] := by simp [hlt]
    have hle : ∀ y, y ∈ Z.take m → y ≤ Z[m] := fun y hy => by
      have hp : (Z.take (m + 1)).Pairwise (· ≤ ·) := List.Pairwise.sublist (List.take_sublist _ _) hs
      rw [List.take_succ_eq_append_getElem hlt] at hp
      exact (List.pairwise_append.1 hp).2.2 y hy _ (List.mem_singleton.2 rfl)
    rw [Lib.compactUpTo_succ, e, List.take_succ_eq_append_getElem hlt]
    by_cases hk : Lib.keeps Z.toArray m = true
    · rw [if_pos hk]
      have hlt2 : ∀ y, y ∈ Z.take m → y < Z[m] := fun y hy => by
        have h3 := hle y hy
        rcases Int.lt_or_eq_of_le h3 with h | h
        · exact h
        · exfalso
          obtain ⟨i, hi, hy2⟩ := List.mem_iff_getElem.1 hy
          have hi2 : i < m := by rw [List.length_take] at hi; omega
          rw [List.getElem_take] at hy2
          have h4 : Z[m - 1]'(by omega) = Z[m] := by
            have a1 : Z[m - 1]'(by omega) ≤ Z[m] := List.pairwise_iff_getElem.1 hs (m - 1) m (by omega) hlt (by omega)
            have a2 : Z[i]'(by omega) ≤ Z[m - 1]'(by omega) := by
              by_cases h5 : i = m - 1
              · subst h5; exact Int.le_refl _
              · exact List.pairwise_iff_getElem.1 hs i (m - 1) (by omega) (by omega) (by omega)
            omega
          have hm0 : m - 1 < Z.length := by omega
          simp [Lib.keeps, hlt, hm0, h4] at hk
          omega
      refine ⟨List.pairwise_append.2 ⟨h1, List.pairwise_singleton _ _, fun a ha b hb => by rw [List.mem_singleton.1 hb]; exact hlt2 a ((h2 a).1 ha)⟩, fun y => ?_⟩
      rw [List.mem_append, List.mem_append, h2]
    · rw [if_neg hk, List.append_nil]
      refine ⟨h1, fun y => (h2 y).trans ⟨fun h => List.mem_append.2 (.inl h), fun h => ?_⟩⟩
      rcases List.mem_append.1 h with h | h
      · exact h
      · have hm1 : 0 < m ∧ Z[m - 1]'(by omega) = Z[m] := by
          have hm0 : m - 1 < Z.length := by omega
          simp [Lib.keeps, hlt, hm0] at hk
          omega
        rw [List.mem_singleton.1 h, ← hm1.2]
        exact List.mem_iff_getElem.2 ⟨m - 1, by rw [List.length_take]; omega, by rw [List.getElem_take]⟩
def cmp (L : List Int) : List Int := Lib.compact (srt L)
theorem cmp_asc (L : List Int) : Asc (cmp L) := (compact_upto (srt_pair L) (srt L).length (Nat.le_refl _)).1
theorem cmp_mem (L : List Int) (y : Int) : y ∈ cmp L ↔ y ∈ L := by
  rw [← srt_mem L y, show cmp L = Lib.compactUpTo (srt L).toArray (srt L).length from rfl, (compact_upto (srt_pair L) (srt L).length (Nat.le_refl _)).2, List.take_length]
end Go.Proofs.YtpaepkcfdnddgaaGreat

namespace Go.Proofs.YtpaepkcfdnddgaaGreat
open Go.RowKit
set_option linter.unusedVariables false

theorem met_keys {w : World} {g n : Nat} {M : DataW Unit} {S ss : List Int} (h : OwnB w g n M) (hM : MetIs M S) (hn : S.Nodup) (hs : ss.Perm (intKeys M)) : Asc (srt ss) ∧ ∀ a, a ∈ srt ss ↔ a ∈ S := by
  have hp : S.Perm (intKeys M) := CollectedI.perm (left := fun _ => false) ⟨hn, fun x => by rw [← hM.has]; simp⟩ h mapLaw Tryz.underlying3 (fun _ => rfl)
  have hps : ss.Perm S := hs.trans hp.symm
  have hnd : (srt ss).Nodup := (List.mergeSort_perm ss _).nodup_iff.2 (hps.nodup_iff.2 hn)
  refine ⟨List.Pairwise.imp₂ (fun a b h1 h2 => ?_) (srt_pair ss) hnd, fun a => ?_⟩
  · have : a ≠ b := h2
    omega
  · rw [srt_mem]
    exact hps.mem_iff
theorem srt_len' (L : List Int) : (srt L).length = L.length := by unfold srt; exact List.length_mergeSort L
end Go.Proofs.YtpaepkcfdnddgaaGreat

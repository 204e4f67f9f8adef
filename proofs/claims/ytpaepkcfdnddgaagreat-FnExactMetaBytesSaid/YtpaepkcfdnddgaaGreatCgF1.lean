import Derived.Test.YtpaepkcfdnddgaaGreatCgW
import Derived.StillTailTactics

namespace Go.Proofs.YtpaepkcfdnddgaaGreat
open Go.RowKit
set_option linter.unusedVariables false

def Geo (b p m : Int) : Prop := 32 ≤ b ∧ b ≤ 1048576 ∧ b % 32 = 0 ∧ 1 ≤ p ∧ p ≤ 12 ∧ 1 ≤ m ∧ m ≤ 3

set_option maxHeartbeats 1000000 in
theorem geometry_any (b p m : Int) (w : World) : Calls Tryz.prog 46 #[.int .i64 b, .int .i64 p, .int .i64 m] w fun e w' => IsB (Geo b p m) e ∧ w = w' := by
  by_cases c1 : 32 ≤ b
  case neg =>
    have n := Lib.hid (show ¬ Geo b p m from fun h => c1 h.1)
    go_enter Tryz.func46, Tryz.ntmps46
    go_wp2
    go_ret
    exact ⟨IsB.no n.out, rfl⟩
  by_cases c2 : b ≤ 1048576
  case neg =>
    have n := Lib.hid (show ¬ Geo b p m from fun h => c2 h.2.1)
    go_enter Tryz.func46, Tryz.ntmps46
    go_wp2
    go_ret
    exact ⟨IsB.no n.out, rfl⟩
  by_cases c3 : b % 32 = 0
  case neg =>
    have n := Lib.hid (show ¬ Geo b p m from fun h => c3 h.2.2.1)
    have c3' : (b % 32 == 0) = false := beq_eq_false_iff_ne.2 c3
    clear c3
    go_enter Tryz.func46, Tryz.ntmps46
    go_wp2
    go_ret
    exact ⟨IsB.no n.out, rfl⟩
  have c3' : (b % 32 == 0) = true := beq_iff_eq.2 c3
  by_cases c4 : 1 ≤ p
  case neg =>
    have n := Lib.hid (show ¬ Geo b p m from fun h => c4 h.2.2.2.1)
    clear c3
    go_enter Tryz.func46, Tryz.ntmps46
    go_wp2
    go_ret
    exact ⟨IsB.no n.out, rfl⟩
  by_cases c5 : p ≤ 12
  case neg =>
    have n := Lib.hid (show ¬ Geo b p m from fun h => c5 h.2.2.2.2.1)
    clear c3
    go_enter Tryz.func46, Tryz.ntmps46
    go_wp2
    go_ret
    exact ⟨IsB.no n.out, rfl⟩
  by_cases c6 : 1 ≤ m
  case neg =>
    have n := Lib.hid (show ¬ Geo b p m from fun h => c6 h.2.2.2.2.2.1)
    clear c3
    go_enter Tryz.func46, Tryz.ntmps46
    go_wp2
    go_ret
    exact ⟨IsB.no n.out, rfl⟩
  by_cases c7 : m ≤ 3
  case neg =>
    have n := Lib.hid (show ¬ Geo b p m from fun h => c7 h.2.2.2.2.2.2)
    clear c3
    go_enter Tryz.func46, Tryz.ntmps46
    go_wp2
    go_ret
    exact ⟨IsB.no n.out, rfl⟩
  have n := Lib.hid (show Geo b p m from ⟨c1, c2, c3, c4, c5, c6, c7⟩)
  clear c3
  go_enter Tryz.func46, Tryz.ntmps46
  go_wp2
  go_ret
  exact ⟨IsB.yes n.out, rfl⟩

theorem i64_and1 (n : Int) : bits .and .i64 n 1 = n % 2 := by
  have h127 : (BitVec.ofInt 64 1).toNat = 2 ^ 1 - 1 := by decide
  have key : (BitVec.ofInt 64 n &&& BitVec.ofInt 64 1).toNat = (n % ((2 ^ 64 : Nat) : Int)).toNat % 2 ^ 1 := by
    rw [BitVec.toNat_and, BitVec.toNat_ofInt, h127, Nat.and_two_pow_sub_one_eq_mod]
  show IntKind.i64.wrap ((BitVec.ofInt 64 n &&& BitVec.ofInt 64 1).toNat : Nat) = n % 2
  rw [key, IntKind.wrap_i64]
  omega
theorem sl_some {c : Int} (h : sl' c ≠ 0) : sl' c = 16 ∨ sl' c = 8 ∨ sl' c = 4 ∨ sl' c = 2 := by
  revert h; unfold sl'; (repeat' split) <;> simp
theorem sz_bd (c : Int) : 0 ≤ sz c ∧ sz c ≤ 16 := by unfold sz; (repeat' split) <;> omega
theorem sl_bd (c : Int) : 0 ≤ sl' c ∧ sl' c ≤ 16 := by unfold sl'; (repeat' split) <;> omega

/-- The number of a slot's first word. -/
def atW (s : SpanD) (slot : Int) : Int := s.page * 32 + slot * sz s.cls

set_option maxHeartbeats 1000000 in
theorem at_any (s : SpanD) (vl vp : Value) (slot : Int) (hp0 : 0 ≤ s.page) (hp : s.page ≤ 1000) (h0 : 0 ≤ slot) (h1 : slot ≤ 1000) (w : World) :
    Calls Tryz.prog 49 #[spanV s vl vp, .int .i64 slot] w fun e w' => e = .returned (.int .i64 (atW s slot)) ∧ Below w.heap.size w w' := by
  have hb := sz_bd s.cls
  have hm0 : 0 ≤ slot * sz s.cls := Int.mul_nonneg h0 hb.1
  have hm1 : slot * sz s.cls ≤ 16000 := by
    have := Int.mul_le_mul h1 hb.2 hb.1 (by omega)
    omega
  unfold spanV atW
  go_enter Tryz.func49, Tryz.ntmps49
  go_wp2
  go_quiet ((go_at_call 93; exact Calls.quiet_of_same ((spec_size_any _ _).mono fun _ _ ⟨a, b⟩ => ⟨a, b.symm⟩)))
  go_wp2
  go_ret
  exact ⟨rfl, below_drewN (below_box _ _) _⟩
end Go.Proofs.YtpaepkcfdnddgaaGreat

namespace Go.Proofs.YtpaepkcfdnddgaaGreat
open Go.RowKit
set_option linter.unusedVariables false

def bitI (mark : Int) (i : Nat) : Prop := mark / 2 ^ i % 2 = 1
structure SlotOk (s : SpanD) (i : Nat) : Prop where
  l0 : 0 ≤ s.lens[i]?.getD 0
  l1 : s.lens[i]?.getD 0 ≤ sz s.cls
  p0 : 0 ≤ s.ptrs[i]?.getD 0
  p1 : s.ptrs[i]?.getD 0 ≤ s.lens[i]?.getD 0
  bit : s.lens[i]?.getD 0 = 0 → ¬ bitI s.mark i
def PrevLt (D : WD) (k : Nat) (s : SpanD) : Prop := ∀ s', k ≠ 0 → D.spans[k - 1]? = some s' → s'.page < s.page
structure SpanAt (D : WD) (k : Nat) (s : SpanD) : Prop where
  pg0 : 0 ≤ s.page
  pg1 : s.page < D.pages
  prev : PrevLt D k s
  cls : sl' s.cls ≠ 0
  lens : (s.lens.length : Int) = sl' s.cls
  ptrs : (s.ptrs.length : Int) = sl' s.cls
  slot : ∀ i, i < s.lens.length → SlotOk s i
  mk0 : 0 ≤ s.mark
  mk1 : s.mark < 2 ^ s.lens.length

set_option maxRecDepth 100000 in
set_option maxHeartbeats 8000000 in
theorem span_any0 (v : Value) (D : WD) (s : SpanD) (hk : D.spans[0]? = some s) (w : World) (hr : RdW w v D) :
    Calls Tryz.prog 109 #[v, .int .i64 0] w fun e w' => IsB (SpanAt D 0 s) e ∧ Below w.heap.size w w' := by
  obtain ⟨vw, vd, vs, vm, vg, rfl, a1, a2, a3, a4, a5⟩ := hr
  obtain ⟨aS, cS, rfl, hsl, hx⟩ := a3
  have hkl := (List.getElem?_eq_some_iff.1 hk).1
  obtain ⟨b1, o1, rfl, vl, vp, x0, x1, x2, x3, x4, x5, xl, xp⟩ := hx (0) s hk
  obtain ⟨al, cl, rfl, hll, xl⟩ := xl
  obtain ⟨ap, cp, rfl, hpl, xp⟩ := xp
  have hprev := Lib.hid (show PrevLt D 0 s from fun s' h => absurd rfl h)
  unfold maxLen at hll hpl hsl
  simp only [Nat.zero_mul, Nat.add_zero] at x0 x1 x2 x3 x4 x5
  have xl' := Lib.hid xl
  have xp' := Lib.hid xp
  have hk' := Lib.hid hk
  have hkl' : ((0 : Int)) < (D.spans.length : Int) := by omega
  clear xl xp hx hk a1 a2 a4 a5
  have hb : b1 < w.heap.size := cell_lt x0
  have B0 := Lib.hid (below_trans (below_box w (.cells #[.int .i64 D.base, .int .i64 D.pages, vw, vd, .slice (some ⟨b1, o1, none⟩) D.spans.length cS, vm, .int .i64 D.phase, .int .i64 D.next, vg] 36)) (below_box _ (.cells #[.int .i64 s.page, .int .i64 s.cls, .int .i64 s.mark, .bool s.swept, .slice al s.lens.length cl, .slice ap s.ptrs.length cp] 73)))
  go_enter Tryz.func109, Tryz.ntmps109
  go_wp2_with (go_at_call 144; refine (spec_slots_any _ _).mono ?_; rintro e w1 ⟨rfl, rfl⟩)
  by_cases c1 : s.page < 0
  case pos =>
    have n := Lib.hid (show ¬ SpanAt D (0) s from fun h => by have := h.pg0; omega)
    go_quiet (fail)
    go_wp2
    go_ret
    exact ⟨IsB.no n.out, below_drewN B0.out _⟩
  have d1 : decide (s.page < 0) = false := by simpa using c1
  by_cases c2 : D.pages ≤ s.page
  case pos =>
    have n := Lib.hid (show ¬ SpanAt D (0) s from fun h => by have := h.pg1; omega)
    go_quiet (fail)
    go_wp2
    go_ret
    exact ⟨IsB.no n.out, below_drewN B0.out _⟩
  have d2 : decide (D.pages ≤ s.page) = false := by simpa using c2
  have hpv := Lib.hid hprev.out
  by_cases c4 : sl' s.cls = 0
  case pos =>
    have n := Lib.hid (show ¬ SpanAt D (0) s from fun h => h.cls c4)
    have d4 : (sl' s.cls == 0) = true := beq_iff_eq.2 c4
    clear c4
    go_quiet (fail)
    go_wp2
    go_ret
    exact ⟨IsB.no n.out, below_drewN B0.out _⟩
  have d4 : (sl' s.cls == 0) = false := beq_eq_false_iff_ne.2 c4
  by_cases c5 : (s.lens.length : Int) = sl' s.cls
  case neg =>
    have n := Lib.hid (show ¬ SpanAt D (0) s from fun h => c5 h.lens)
    have d5 : ((s.lens.length : Int) != sl' s.cls) = true := by rw [bne_iff_ne]; exact c5
    clear c5
    go_quiet (fail)
    go_wp2
    go_ret
    exact ⟨IsB.no n.out, below_drewN B0.out _⟩
  have d5 : ((s.lens.length : Int) != sl' s.cls) = false := by rw [bne_eq_false_iff_eq]; exact c5
  by_cases c6 : (s.ptrs.length : Int) = sl' s.cls
  case neg =>
    have n := Lib.hid (show ¬ SpanAt D (0) s from fun h => c6 h.ptrs)
    have d6 : ((s.ptrs.length : Int) != sl' s.cls) = true := by rw [bne_iff_ne]; exact c6
    clear c5 c6
    go_quiet (fail)
    go_wp2
    go_ret
    exact ⟨IsB.no n.out, below_drewN B0.out _⟩
  have d6 : ((s.ptrs.length : Int) != sl' s.cls) = false := by rw [bne_eq_false_iff_eq]; exact c6
  have e5 := Lib.hid c5
  have e6 := Lib.hid c6
  have e4 := Lib.hid c4
  clear c4 c5 c6
  go_quiet (fail)
  go_wp2
  have hC := box_new (w.alloc (.cells #[.int .i64 D.base, .int .i64 D.pages, vw, vd, .slice (some ⟨b1, o1, none⟩) D.spans.length cS, vm, .int .i64 D.phase, .int .i64 D.next, vg] 36)) (.cells #[.int .i64 s.page, .int .i64 s.cls, .int .i64 s.mark, .bool s.swept, .slice al s.lens.length cl, .slice ap s.ptrs.length cp] 73)
  rw [World.size_alloc] at hC
  generalize (w.alloc (.cells #[.int .i64 D.base, .int .i64 D.pages, vw, vd, .slice (some ⟨b1, o1, none⟩) D.spans.length cS, vm, .int .i64 D.phase, .int .i64 D.next, vg] 36)).alloc (.cells #[.int .i64 s.page, .int .i64 s.cls, .int .i64 s.mark, .bool s.swept, .slice al s.lens.length cl, .slice ap s.ptrs.length cp] 73) = W at *
  have xlW := Lib.hid (fun j (hj : j < s.lens.length) => (xl'.out j hj).elim fun b h => h.elim fun off h => (⟨b, off, h.1, cell_below B0.out h.2⟩ : ∃ b off, al = some ⟨b, off, none⟩ ∧ W.cell? ⟨b, off + j, none⟩ = some (.int .i64 (s.lens[j]?.getD 0))))
  have xpW := Lib.hid (fun j (hj : j < s.ptrs.length) => (xp'.out j hj).elim fun b h => h.elim fun off h => (⟨b, off, h.1, cell_below B0.out h.2⟩ : ∃ b off, ap = some ⟨b, off, none⟩ ∧ W.cell? ⟨b, off + j, none⟩ = some (.int .i64 (s.ptrs[j]?.getD 0))))
  have f1 := cell_of_heap hC 1 _ rfl
  have f2 := cell_of_heap hC 2 _ rfl
  have f4 := cell_of_heap hC 4 _ rfl
  have f5 := cell_of_heap hC 5 _ rfl
  have F := Lib.hid (And.intro f1 (And.intro f2 (And.intro f4 f5)))
  clear hC f1 f2 f4 f5 x0 x1 x2 x3 x4 x5 d1 d2 d4 d5 d6 
  go_loopw [7] (fun i wr => ∃ i' : Nat, i' ≤ s.lens.length ∧ i = .int .i64 i' ∧ Hid (wr.heap = W.heap) ∧ Hid (∀ j, j < i' → SlotOk s j) ∧ Below w.heap.size w wr) (fun i _ => s.lens.length - (RowKit.intOf i).toNat)
  case atStart => exact ⟨0, Nat.zero_le _, rfl, rfl, fun j hj => absurd hj (by omega), below_drewN B0.out _⟩
  case round =>
    obtain ⟨i, hi, rfl, hH, hok, hB⟩ := hrel
    have eqc : ∀ a : Addr, wr.cell? a = W.cell? a := fun a => World.cell?_of_block (by rw [hH.out])
    obtain ⟨f1, f2, f4, f5⟩ := F.out
    rw [← eqc] at f1 f2 f4 f5
    have hll' := e5.out
    have hpl' := e6.out
    have hsb := sl_bd s.cls
    by_cases hlt : i < s.lens.length
    · have hlt1 : (i : Int) < sl' s.cls := by omega
      have hlt2 : (i : Int) < (s.lens.length : Int) := by omega
      have hlt3 : (i : Int) < (s.ptrs.length : Int) := by omega
      obtain ⟨bl, ol, rfl, gl⟩ := xlW.out i hlt
      obtain ⟨bp, op, rfl, gp⟩ := xpW.out i (by omega)
      rw [← eqc] at gl gp
      have hl16 : s.lens.length ≤ 16 := by omega
      have hszb := sz_bd s.cls
      have hall := Lib.hid (show SlotOk s i ↔ _ from ⟨fun h => (⟨h.l0, h.l1, h.p0, h.p1, h.bit⟩ : 0 ≤ s.lens[i]?.getD 0 ∧ s.lens[i]?.getD 0 ≤ sz s.cls ∧ 0 ≤ s.ptrs[i]?.getD 0 ∧ s.ptrs[i]?.getD 0 ≤ s.lens[i]?.getD 0 ∧ (s.lens[i]?.getD 0 = 0 → ¬ bitI s.mark i)), fun h => ⟨h.1, h.2.1, h.2.2.1, h.2.2.2.1, h.2.2.2.2⟩⟩)
      clear eqc hll' hpl'
      generalize s.lens[i]?.getD 0 = l at *
      generalize s.ptrs[i]?.getD 0 = q at *
      go_wp2_with fail
      by_cases q1 : l < 0
      case pos =>
        have n := Lib.hid (show ¬ SpanAt D (0) s from fun h => by have := (hall.out.1 (h.slot i hlt)).1; omega)
        go_quiet (fail)
        go_wp2
        go_ret
        exact ⟨IsB.no n.out, below_drewN hB _⟩
      have r1 : decide (l < 0) = false := by simpa using q1
      by_cases q2 : sz s.cls < l
      case pos =>
        have n := Lib.hid (show ¬ SpanAt D (0) s from fun h => by have := (hall.out.1 (h.slot i hlt)).2.1; omega)
        go_quiet ((go_at_call 93; exact Calls.quiet_of_same ((spec_size_any _ _).mono fun _ _ ⟨a, b⟩ => ⟨a, b.symm⟩)))
        go_wp2
        go_ret
        exact ⟨IsB.no n.out, below_drewN hB _⟩
      have r2 : decide (sz s.cls < l) = false := by simpa using q2
      by_cases q3 : q < 0
      case pos =>
        have n := Lib.hid (show ¬ SpanAt D (0) s from fun h => by have := (hall.out.1 (h.slot i hlt)).2.2.1; omega)
        go_quiet ((go_at_call 93; exact Calls.quiet_of_same ((spec_size_any _ _).mono fun _ _ ⟨a, b⟩ => ⟨a, b.symm⟩)))
        go_wp2
        go_ret
        exact ⟨IsB.no n.out, below_drewN hB _⟩
      have r3 : decide (q < 0) = false := by simpa using q3
      by_cases q4 : l < q
      case pos =>
        have n := Lib.hid (show ¬ SpanAt D (0) s from fun h => by have := (hall.out.1 (h.slot i hlt)).2.2.2.1; omega)
        go_quiet ((go_at_call 93; exact Calls.quiet_of_same ((spec_size_any _ _).mono fun _ _ ⟨a, b⟩ => ⟨a, b.symm⟩)))
        go_wp2
        go_ret
        exact ⟨IsB.no n.out, below_drewN hB _⟩
      have r4 : decide (l < q) = false := by simpa using q4
      by_cases q5 : l = 0
      case neg =>
        have ok := Lib.hid (show SlotOk s i from hall.out.2 ⟨by omega, by omega, by omega, by omega, fun h => absurd h q5⟩)
        have r5 : (l == 0) = false := beq_eq_false_iff_ne.2 q5
        clear q5
        go_quiet ((go_at_call 93; exact Calls.quiet_of_same ((spec_size_any _ _).mono fun _ _ ⟨a, b⟩ => ⟨a, b.symm⟩)))
        go_wp2
        go_roundw
        case rel => exact ⟨i + 1, by omega, by go_num, hH, (fun j hj => if hj' : j < i then hok.out j hj' else by rw [show j = i by omega]; exact ok.out), below_drewN hB _⟩
        case measure => simp [RowKit.intOf]; omega
      subst q5
      by_cases qb : bitI s.mark i
      case pos =>
        have n := Lib.hid (show ¬ SpanAt D (0) s from fun h => (hall.out.1 (h.slot i hlt)).2.2.2.2 rfl qb)
        have rb : (bits BinOp.and IntKind.i64 (s.mark / 2 ^ i) 1 == 1) = true := by rw [beq_iff_eq, i64_and1]; exact qb
        clear qb
        go_quiet ((go_at_call 93; exact Calls.quiet_of_same ((spec_size_any _ _).mono fun _ _ ⟨a, b⟩ => ⟨a, b.symm⟩)))
        go_wp2
        go_ret
        exact ⟨IsB.no n.out, below_drewN hB _⟩
      have ok := Lib.hid (show SlotOk s i from hall.out.2 ⟨by omega, by omega, by omega, by omega, fun _ => qb⟩)
      have rb : (bits BinOp.and IntKind.i64 (s.mark / 2 ^ i) 1 == 1) = false := by rw [beq_eq_false_iff_ne, i64_and1]; exact qb
      clear qb
      go_quiet ((go_at_call 93; exact Calls.quiet_of_same ((spec_size_any _ _).mono fun _ _ ⟨a, b⟩ => ⟨a, b.symm⟩)))
      go_wp2
      go_roundw
      case rel => exact ⟨i + 1, by omega, by go_num, hH, (fun j hj => if hj' : j < i then hok.out j hj' else by rw [show j = i by omega]; exact ok.out), below_drewN hB _⟩
      case measure => simp [RowKit.intOf]; omega
    · obtain rfl : i = s.lens.length := by omega
      have hge : sl' s.cls ≤ (s.lens.length : Int) := by omega
      have hcl := Lib.hid (sl_some e4.out)
      have hmain := Lib.hid (show (0 ≤ s.mark ∧ s.mark < 2 ^ s.lens.length) ↔ SpanAt D (0) s from ⟨fun h => ⟨by omega, by omega, hpv.out, e4.out, e5.out, e6.out, hok.out, h.1, h.2⟩, fun h => ⟨h.mk0, h.mk1⟩⟩)
      clear eqc hlt hpl'
      go_wp2_with fail
      rcases hcl.out with hc | hc | hc | hc
      · have hL : s.lens.length = 16 := by omega
        rw [hL] at hmain
        have hm := Lib.hid (show (0 ≤ s.mark ∧ s.mark < 65536) ↔ SpanAt D (0) s from hmain.out)
        by_cases m1 : 0 ≤ s.mark
        case neg =>
          have n := Lib.hid (show ¬ SpanAt D (0) s from fun h => m1 (hm.out.2 h).1)
          clear hL hll' hge
          go_quiet (fail)
          go_wp2
          go_ret
          exact ⟨IsB.no n.out, below_drewN hB _⟩
        by_cases m2 : s.mark < 65536
        case neg =>
          have n := Lib.hid (show ¬ SpanAt D (0) s from fun h => m2 (hm.out.2 h).2)
          clear hL hll' hge
          go_quiet (fail)
          go_wp2
          go_ret
          exact ⟨IsB.no n.out, below_drewN hB _⟩
        have n := Lib.hid (hm.out.1 ⟨m1, m2⟩)
        clear hL hll' hge
        go_quiet (fail)
        go_wp2
        go_ret
        exact ⟨IsB.yes n.out, below_drewN hB _⟩
      · have hL : s.lens.length = 8 := by omega
        rw [hL] at hmain
        have hm := Lib.hid (show (0 ≤ s.mark ∧ s.mark < 256) ↔ SpanAt D (0) s from hmain.out)
        by_cases m1 : 0 ≤ s.mark
        case neg =>
          have n := Lib.hid (show ¬ SpanAt D (0) s from fun h => m1 (hm.out.2 h).1)
          clear hL hll' hge
          go_quiet (fail)
          go_wp2
          go_ret
          exact ⟨IsB.no n.out, below_drewN hB _⟩
        by_cases m2 : s.mark < 256
        case neg =>
          have n := Lib.hid (show ¬ SpanAt D (0) s from fun h => m2 (hm.out.2 h).2)
          clear hL hll' hge
          go_quiet (fail)
          go_wp2
          go_ret
          exact ⟨IsB.no n.out, below_drewN hB _⟩
        have n := Lib.hid (hm.out.1 ⟨m1, m2⟩)
        clear hL hll' hge
        go_quiet (fail)
        go_wp2
        go_ret
        exact ⟨IsB.yes n.out, below_drewN hB _⟩
      · have hL : s.lens.length = 4 := by omega
        rw [hL] at hmain
        have hm := Lib.hid (show (0 ≤ s.mark ∧ s.mark < 16) ↔ SpanAt D (0) s from hmain.out)
        by_cases m1 : 0 ≤ s.mark
        case neg =>
          have n := Lib.hid (show ¬ SpanAt D (0) s from fun h => m1 (hm.out.2 h).1)
          clear hL hll' hge
          go_quiet (fail)
          go_wp2
          go_ret
          exact ⟨IsB.no n.out, below_drewN hB _⟩
        by_cases m2 : s.mark < 16
        case neg =>
          have n := Lib.hid (show ¬ SpanAt D (0) s from fun h => m2 (hm.out.2 h).2)
          clear hL hll' hge
          go_quiet (fail)
          go_wp2
          go_ret
          exact ⟨IsB.no n.out, below_drewN hB _⟩
        have n := Lib.hid (hm.out.1 ⟨m1, m2⟩)
        clear hL hll' hge
        go_quiet (fail)
        go_wp2
        go_ret
        exact ⟨IsB.yes n.out, below_drewN hB _⟩
      · have hL : s.lens.length = 2 := by omega
        rw [hL] at hmain
        have hm := Lib.hid (show (0 ≤ s.mark ∧ s.mark < 4) ↔ SpanAt D (0) s from hmain.out)
        by_cases m1 : 0 ≤ s.mark
        case neg =>
          have n := Lib.hid (show ¬ SpanAt D (0) s from fun h => m1 (hm.out.2 h).1)
          clear hL hll' hge
          go_quiet (fail)
          go_wp2
          go_ret
          exact ⟨IsB.no n.out, below_drewN hB _⟩
        by_cases m2 : s.mark < 4
        case neg =>
          have n := Lib.hid (show ¬ SpanAt D (0) s from fun h => m2 (hm.out.2 h).2)
          clear hL hll' hge
          go_quiet (fail)
          go_wp2
          go_ret
          exact ⟨IsB.no n.out, below_drewN hB _⟩
        have n := Lib.hid (hm.out.1 ⟨m1, m2⟩)
        clear hL hll' hge
        go_quiet (fail)
        go_wp2
        go_ret
        exact ⟨IsB.yes n.out, below_drewN hB _⟩

set_option maxRecDepth 100000 in
set_option maxHeartbeats 8000000 in
theorem span_anyS (v : Value) (D : WD) (k : Nat) (s : SpanD) (hk : D.spans[k + 1]? = some s) (w : World) (hr : RdW w v D) :
    Calls Tryz.prog 109 #[v, .int .i64 ((k + 1 : Nat) : Int)] w fun e w' => IsB (SpanAt D (k + 1) s) e ∧ Below w.heap.size w w' := by
  obtain ⟨vw, vd, vs, vm, vg, rfl, a1, a2, a3, a4, a5⟩ := hr
  obtain ⟨aS, cS, rfl, hsl, hx⟩ := a3
  have hkl := (List.getElem?_eq_some_iff.1 hk).1
  obtain ⟨b1, o1, rfl, vl, vp, x0, x1, x2, x3, x4, x5, xl, xp⟩ := hx (k + 1) s hk
  obtain ⟨al, cl, rfl, hll, xl⟩ := xl
  obtain ⟨ap, cp, rfl, hpl, xp⟩ := xp
  obtain ⟨s0, hs0⟩ : ∃ s0, D.spans[k]? = some s0 := ⟨_, List.getElem?_eq_getElem (by omega)⟩
  obtain ⟨b2, o2, he, vl0, vp0, y0, _⟩ := hx k s0 hs0
  obtain ⟨rfl, rfl⟩ : b1 = b2 ∧ o1 = o2 := by simpa using he
  have hprev := Lib.hid (show PrevLt D (k + 1) s ↔ s0.page < s.page from ⟨fun h => h s0 (by omega) hs0, fun h s' _ hs' => by
    rw [show k + 1 - 1 = k from rfl, hs0] at hs'
    cases hs'
    exact h⟩)
  have hkk := Lib.hid hs0
  clear hs0 he
  have hk2 : (k : Int) < (D.spans.length : Int) := by omega
  have hw1 : IntKind.i64.wrap ((k : Int) + 1 - 1) = (k : Int) := by
    unfold maxLen at hsl
    rw [show (k : Int) + 1 - 1 = (k : Int) by omega]; exact IntWalk.i64_in _ (by omega)
  unfold maxLen at hll hpl hsl
  have xl' := Lib.hid xl
  have xp' := Lib.hid xp
  have hk' := Lib.hid hk
  have hkl' : ((k : Int) + 1) < (D.spans.length : Int) := by omega
  clear xl xp hx hk a1 a2 a4 a5
  have hb : b1 < w.heap.size := cell_lt x0
  have B0 := Lib.hid (below_trans (below_box w (.cells #[.int .i64 D.base, .int .i64 D.pages, vw, vd, .slice (some ⟨b1, o1, none⟩) D.spans.length cS, vm, .int .i64 D.phase, .int .i64 D.next, vg] 36)) (below_box _ (.cells #[.int .i64 s.page, .int .i64 s.cls, .int .i64 s.mark, .bool s.swept, .slice al s.lens.length cl, .slice ap s.ptrs.length cp] 73)))
  go_enter Tryz.func109, Tryz.ntmps109
  go_wp2_with (go_at_call 144; refine (spec_slots_any _ _).mono ?_; rintro e w1 ⟨rfl, rfl⟩)
  by_cases c1 : s.page < 0
  case pos =>
    have n := Lib.hid (show ¬ SpanAt D (k + 1) s from fun h => by have := h.pg0; omega)
    go_quiet (fail)
    go_wp2
    go_ret
    exact ⟨IsB.no n.out, below_drewN B0.out _⟩
  have d1 : decide (s.page < 0) = false := by simpa using c1
  by_cases c2 : D.pages ≤ s.page
  case pos =>
    have n := Lib.hid (show ¬ SpanAt D (k + 1) s from fun h => by have := h.pg1; omega)
    go_quiet (fail)
    go_wp2
    go_ret
    exact ⟨IsB.no n.out, below_drewN B0.out _⟩
  have d2 : decide (D.pages ≤ s.page) = false := by simpa using c2
  by_cases c3 : s.page ≤ s0.page
  case pos =>
    have n := Lib.hid (show ¬ SpanAt D (k + 1) s from fun h => by have := hprev.out.1 h.prev; omega)
    go_quiet (fail)
    go_wp2
    go_ret
    exact ⟨IsB.no n.out, below_drewN B0.out _⟩
  have d3 : decide (s.page ≤ s0.page) = false := by simpa using c3
  have hpv := Lib.hid (hprev.out.2 (by omega))
  by_cases c4 : sl' s.cls = 0
  case pos =>
    have n := Lib.hid (show ¬ SpanAt D (k + 1) s from fun h => h.cls c4)
    have d4 : (sl' s.cls == 0) = true := beq_iff_eq.2 c4
    clear c4
    go_quiet (fail)
    go_wp2
    go_ret
    exact ⟨IsB.no n.out, below_drewN B0.out _⟩
  have d4 : (sl' s.cls == 0) = false := beq_eq_false_iff_ne.2 c4
  by_cases c5 : (s.lens.length : Int) = sl' s.cls
  case neg =>
    have n := Lib.hid (show ¬ SpanAt D (k + 1) s from fun h => c5 h.lens)
    have d5 : ((s.lens.length : Int) != sl' s.cls) = true := by rw [bne_iff_ne]; exact c5
    clear c5
    go_quiet (fail)
    go_wp2
    go_ret
    exact ⟨IsB.no n.out, below_drewN B0.out _⟩
  have d5 : ((s.lens.length : Int) != sl' s.cls) = false := by rw [bne_eq_false_iff_eq]; exact c5
  by_cases c6 : (s.ptrs.length : Int) = sl' s.cls
  case neg =>
    have n := Lib.hid (show ¬ SpanAt D (k + 1) s from fun h => c6 h.ptrs)
    have d6 : ((s.ptrs.length : Int) != sl' s.cls) = true := by rw [bne_iff_ne]; exact c6
    clear c5 c6
    go_quiet (fail)
    go_wp2
    go_ret
    exact ⟨IsB.no n.out, below_drewN B0.out _⟩
  have d6 : ((s.ptrs.length : Int) != sl' s.cls) = false := by rw [bne_eq_false_iff_eq]; exact c6
  have e5 := Lib.hid c5
  have e6 := Lib.hid c6
  have e4 := Lib.hid c4
  clear c4 c5 c6
  go_quiet (fail)
  go_wp2
  have hC := box_new (w.alloc (.cells #[.int .i64 D.base, .int .i64 D.pages, vw, vd, .slice (some ⟨b1, o1, none⟩) D.spans.length cS, vm, .int .i64 D.phase, .int .i64 D.next, vg] 36)) (.cells #[.int .i64 s.page, .int .i64 s.cls, .int .i64 s.mark, .bool s.swept, .slice al s.lens.length cl, .slice ap s.ptrs.length cp] 73)
  rw [World.size_alloc] at hC
  generalize (w.alloc (.cells #[.int .i64 D.base, .int .i64 D.pages, vw, vd, .slice (some ⟨b1, o1, none⟩) D.spans.length cS, vm, .int .i64 D.phase, .int .i64 D.next, vg] 36)).alloc (.cells #[.int .i64 s.page, .int .i64 s.cls, .int .i64 s.mark, .bool s.swept, .slice al s.lens.length cl, .slice ap s.ptrs.length cp] 73) = W at *
  have xlW := Lib.hid (fun j (hj : j < s.lens.length) => (xl'.out j hj).elim fun b h => h.elim fun off h => (⟨b, off, h.1, cell_below B0.out h.2⟩ : ∃ b off, al = some ⟨b, off, none⟩ ∧ W.cell? ⟨b, off + j, none⟩ = some (.int .i64 (s.lens[j]?.getD 0))))
  have xpW := Lib.hid (fun j (hj : j < s.ptrs.length) => (xp'.out j hj).elim fun b h => h.elim fun off h => (⟨b, off, h.1, cell_below B0.out h.2⟩ : ∃ b off, ap = some ⟨b, off, none⟩ ∧ W.cell? ⟨b, off + j, none⟩ = some (.int .i64 (s.ptrs[j]?.getD 0))))
  have f1 := cell_of_heap hC 1 _ rfl
  have f2 := cell_of_heap hC 2 _ rfl
  have f4 := cell_of_heap hC 4 _ rfl
  have f5 := cell_of_heap hC 5 _ rfl
  have F := Lib.hid (And.intro f1 (And.intro f2 (And.intro f4 f5)))
  clear hC f1 f2 f4 f5 x0 x1 x2 x3 x4 x5 d1 d2 d4 d5 d6 y0 d3 hk2 hw1
  go_loopw [7] (fun i wr => ∃ i' : Nat, i' ≤ s.lens.length ∧ i = .int .i64 i' ∧ Hid (wr.heap = W.heap) ∧ Hid (∀ j, j < i' → SlotOk s j) ∧ Below w.heap.size w wr) (fun i _ => s.lens.length - (RowKit.intOf i).toNat)
  case atStart => exact ⟨0, Nat.zero_le _, rfl, rfl, fun j hj => absurd hj (by omega), below_drewN B0.out _⟩
  case round =>
    obtain ⟨i, hi, rfl, hH, hok, hB⟩ := hrel
    have eqc : ∀ a : Addr, wr.cell? a = W.cell? a := fun a => World.cell?_of_block (by rw [hH.out])
    obtain ⟨f1, f2, f4, f5⟩ := F.out
    rw [← eqc] at f1 f2 f4 f5
    have hll' := e5.out
    have hpl' := e6.out
    have hsb := sl_bd s.cls
    by_cases hlt : i < s.lens.length
    · have hlt1 : (i : Int) < sl' s.cls := by omega
      have hlt2 : (i : Int) < (s.lens.length : Int) := by omega
      have hlt3 : (i : Int) < (s.ptrs.length : Int) := by omega
      obtain ⟨bl, ol, rfl, gl⟩ := xlW.out i hlt
      obtain ⟨bp, op, rfl, gp⟩ := xpW.out i (by omega)
      rw [← eqc] at gl gp
      have hl16 : s.lens.length ≤ 16 := by omega
      have hszb := sz_bd s.cls
      have hall := Lib.hid (show SlotOk s i ↔ _ from ⟨fun h => (⟨h.l0, h.l1, h.p0, h.p1, h.bit⟩ : 0 ≤ s.lens[i]?.getD 0 ∧ s.lens[i]?.getD 0 ≤ sz s.cls ∧ 0 ≤ s.ptrs[i]?.getD 0 ∧ s.ptrs[i]?.getD 0 ≤ s.lens[i]?.getD 0 ∧ (s.lens[i]?.getD 0 = 0 → ¬ bitI s.mark i)), fun h => ⟨h.1, h.2.1, h.2.2.1, h.2.2.2.1, h.2.2.2.2⟩⟩)
      clear eqc hll' hpl'
      generalize s.lens[i]?.getD 0 = l at *
      generalize s.ptrs[i]?.getD 0 = q at *
      go_wp2_with fail
      by_cases q1 : l < 0
      case pos =>
        have n := Lib.hid (show ¬ SpanAt D (k + 1) s from fun h => by have := (hall.out.1 (h.slot i hlt)).1; omega)
        go_quiet (fail)
        go_wp2
        go_ret
        exact ⟨IsB.no n.out, below_drewN hB _⟩
      have r1 : decide (l < 0) = false := by simpa using q1
      by_cases q2 : sz s.cls < l
      case pos =>
        have n := Lib.hid (show ¬ SpanAt D (k + 1) s from fun h => by have := (hall.out.1 (h.slot i hlt)).2.1; omega)
        go_quiet ((go_at_call 93; exact Calls.quiet_of_same ((spec_size_any _ _).mono fun _ _ ⟨a, b⟩ => ⟨a, b.symm⟩)))
        go_wp2
        go_ret
        exact ⟨IsB.no n.out, below_drewN hB _⟩
      have r2 : decide (sz s.cls < l) = false := by simpa using q2
      by_cases q3 : q < 0
      case pos =>
        have n := Lib.hid (show ¬ SpanAt D (k + 1) s from fun h => by have := (hall.out.1 (h.slot i hlt)).2.2.1; omega)
        go_quiet ((go_at_call 93; exact Calls.quiet_of_same ((spec_size_any _ _).mono fun _ _ ⟨a, b⟩ => ⟨a, b.symm⟩)))
        go_wp2
        go_ret
        exact ⟨IsB.no n.out, below_drewN hB _⟩
      have r3 : decide (q < 0) = false := by simpa using q3
      by_cases q4 : l < q
      case pos =>
        have n := Lib.hid (show ¬ SpanAt D (k + 1) s from fun h => by have := (hall.out.1 (h.slot i hlt)).2.2.2.1; omega)
        go_quiet ((go_at_call 93; exact Calls.quiet_of_same ((spec_size_any _ _).mono fun _ _ ⟨a, b⟩ => ⟨a, b.symm⟩)))
        go_wp2
        go_ret
        exact ⟨IsB.no n.out, below_drewN hB _⟩
      have r4 : decide (l < q) = false := by simpa using q4
      by_cases q5 : l = 0
      case neg =>
        have ok := Lib.hid (show SlotOk s i from hall.out.2 ⟨by omega, by omega, by omega, by omega, fun h => absurd h q5⟩)
        have r5 : (l == 0) = false := beq_eq_false_iff_ne.2 q5
        clear q5
        go_quiet ((go_at_call 93; exact Calls.quiet_of_same ((spec_size_any _ _).mono fun _ _ ⟨a, b⟩ => ⟨a, b.symm⟩)))
        go_wp2
        go_roundw
        case rel => exact ⟨i + 1, by omega, by go_num, hH, (fun j hj => if hj' : j < i then hok.out j hj' else by rw [show j = i by omega]; exact ok.out), below_drewN hB _⟩
        case measure => simp [RowKit.intOf]; omega
      subst q5
      by_cases qb : bitI s.mark i
      case pos =>
        have n := Lib.hid (show ¬ SpanAt D (k + 1) s from fun h => (hall.out.1 (h.slot i hlt)).2.2.2.2 rfl qb)
        have rb : (bits BinOp.and IntKind.i64 (s.mark / 2 ^ i) 1 == 1) = true := by rw [beq_iff_eq, i64_and1]; exact qb
        clear qb
        go_quiet ((go_at_call 93; exact Calls.quiet_of_same ((spec_size_any _ _).mono fun _ _ ⟨a, b⟩ => ⟨a, b.symm⟩)))
        go_wp2
        go_ret
        exact ⟨IsB.no n.out, below_drewN hB _⟩
      have ok := Lib.hid (show SlotOk s i from hall.out.2 ⟨by omega, by omega, by omega, by omega, fun _ => qb⟩)
      have rb : (bits BinOp.and IntKind.i64 (s.mark / 2 ^ i) 1 == 1) = false := by rw [beq_eq_false_iff_ne, i64_and1]; exact qb
      clear qb
      go_quiet ((go_at_call 93; exact Calls.quiet_of_same ((spec_size_any _ _).mono fun _ _ ⟨a, b⟩ => ⟨a, b.symm⟩)))
      go_wp2
      go_roundw
      case rel => exact ⟨i + 1, by omega, by go_num, hH, (fun j hj => if hj' : j < i then hok.out j hj' else by rw [show j = i by omega]; exact ok.out), below_drewN hB _⟩
      case measure => simp [RowKit.intOf]; omega
    · obtain rfl : i = s.lens.length := by omega
      have hge : sl' s.cls ≤ (s.lens.length : Int) := by omega
      have hcl := Lib.hid (sl_some e4.out)
      have hmain := Lib.hid (show (0 ≤ s.mark ∧ s.mark < 2 ^ s.lens.length) ↔ SpanAt D (k + 1) s from ⟨fun h => ⟨by omega, by omega, hpv.out, e4.out, e5.out, e6.out, hok.out, h.1, h.2⟩, fun h => ⟨h.mk0, h.mk1⟩⟩)
      clear eqc hlt hpl'
      go_wp2_with fail
      rcases hcl.out with hc | hc | hc | hc
      · have hL : s.lens.length = 16 := by omega
        rw [hL] at hmain
        have hm := Lib.hid (show (0 ≤ s.mark ∧ s.mark < 65536) ↔ SpanAt D (k + 1) s from hmain.out)
        by_cases m1 : 0 ≤ s.mark
        case neg =>
          have n := Lib.hid (show ¬ SpanAt D (k + 1) s from fun h => m1 (hm.out.2 h).1)
          clear hL hll' hge
          go_quiet (fail)
          go_wp2
          go_ret
          exact ⟨IsB.no n.out, below_drewN hB _⟩
        by_cases m2 : s.mark < 65536
        case neg =>
          have n := Lib.hid (show ¬ SpanAt D (k + 1) s from fun h => m2 (hm.out.2 h).2)
          clear hL hll' hge
          go_quiet (fail)
          go_wp2
          go_ret
          exact ⟨IsB.no n.out, below_drewN hB _⟩
        have n := Lib.hid (hm.out.1 ⟨m1, m2⟩)
        clear hL hll' hge
        go_quiet (fail)
        go_wp2
        go_ret
        exact ⟨IsB.yes n.out, below_drewN hB _⟩
      · have hL : s.lens.length = 8 := by omega
        rw [hL] at hmain
        have hm := Lib.hid (show (0 ≤ s.mark ∧ s.mark < 256) ↔ SpanAt D (k + 1) s from hmain.out)
        by_cases m1 : 0 ≤ s.mark
        case neg =>
          have n := Lib.hid (show ¬ SpanAt D (k + 1) s from fun h => m1 (hm.out.2 h).1)
          clear hL hll' hge
          go_quiet (fail)
          go_wp2
          go_ret
          exact ⟨IsB.no n.out, below_drewN hB _⟩
        by_cases m2 : s.mark < 256
        case neg =>
          have n := Lib.hid (show ¬ SpanAt D (k + 1) s from fun h => m2 (hm.out.2 h).2)
          clear hL hll' hge
          go_quiet (fail)
          go_wp2
          go_ret
          exact ⟨IsB.no n.out, below_drewN hB _⟩
        have n := Lib.hid (hm.out.1 ⟨m1, m2⟩)
        clear hL hll' hge
        go_quiet (fail)
        go_wp2
        go_ret
        exact ⟨IsB.yes n.out, below_drewN hB _⟩
      · have hL : s.lens.length = 4 := by omega
        rw [hL] at hmain
        have hm := Lib.hid (show (0 ≤ s.mark ∧ s.mark < 16) ↔ SpanAt D (k + 1) s from hmain.out)
        by_cases m1 : 0 ≤ s.mark
        case neg =>
          have n := Lib.hid (show ¬ SpanAt D (k + 1) s from fun h => m1 (hm.out.2 h).1)
          clear hL hll' hge
          go_quiet (fail)
          go_wp2
          go_ret
          exact ⟨IsB.no n.out, below_drewN hB _⟩
        by_cases m2 : s.mark < 16
        case neg =>
          have n := Lib.hid (show ¬ SpanAt D (k + 1) s from fun h => m2 (hm.out.2 h).2)
          clear hL hll' hge
          go_quiet (fail)
          go_wp2
          go_ret
          exact ⟨IsB.no n.out, below_drewN hB _⟩
        have n := Lib.hid (hm.out.1 ⟨m1, m2⟩)
        clear hL hll' hge
        go_quiet (fail)
        go_wp2
        go_ret
        exact ⟨IsB.yes n.out, below_drewN hB _⟩
      · have hL : s.lens.length = 2 := by omega
        rw [hL] at hmain
        have hm := Lib.hid (show (0 ≤ s.mark ∧ s.mark < 4) ↔ SpanAt D (k + 1) s from hmain.out)
        by_cases m1 : 0 ≤ s.mark
        case neg =>
          have n := Lib.hid (show ¬ SpanAt D (k + 1) s from fun h => m1 (hm.out.2 h).1)
          clear hL hll' hge
          go_quiet (fail)
          go_wp2
          go_ret
          exact ⟨IsB.no n.out, below_drewN hB _⟩
        by_cases m2 : s.mark < 4
        case neg =>
          have n := Lib.hid (show ¬ SpanAt D (k + 1) s from fun h => m2 (hm.out.2 h).2)
          clear hL hll' hge
          go_quiet (fail)
          go_wp2
          go_ret
          exact ⟨IsB.no n.out, below_drewN hB _⟩
        have n := Lib.hid (hm.out.1 ⟨m1, m2⟩)
        clear hL hll' hge
        go_quiet (fail)
        go_wp2
        go_ret
        exact ⟨IsB.yes n.out, below_drewN hB _⟩

end Go.Proofs.YtpaepkcfdnddgaaGreat

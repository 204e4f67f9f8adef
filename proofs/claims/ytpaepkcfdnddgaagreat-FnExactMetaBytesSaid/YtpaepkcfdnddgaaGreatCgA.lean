import Derived.Test.YtpaepkcfdnddgaaGreatCgW
import Derived.StillTailTactics
import Derived.Test.YtpaepkcfdnddgaaGreatCgF2
import Derived.Deep.RegionWith
import Derived.Maps.OwnSet
import Derived.Maps.OwnOps

namespace Go.Proofs.YtpaepkcfdnddgaaGreat
open Go.RowKit
set_option linter.unusedVariables false

def inB (n l h : Int) : Bool := decide (l ≤ n) && decide (n ≤ h)
theorem inB_yes {n l h : Int} (h1 : l ≤ n) (h2 : n ≤ h) : inB n l h = true := by simp [inB, h1, h2]
theorem inB_no {n l h : Int} (h1 : n < l ∨ h < n) : inB n l h = false := by
  unfold inB
  rcases h1 with h1 | h1
  · simp [show ¬ l ≤ n by omega]
  · simp [show ¬ n ≤ h by omega]
theorem inB_iff {n l h : Int} : inB n l h = true ↔ l ≤ n ∧ n ≤ h := by simp [inB]

set_option maxHeartbeats 400000 in
theorem isIn_any (n l h : Int) (w : World) : Calls Tryz.prog 100 #[.int .i64 n, .int .i64 l, .int .i64 h] w fun e w' => e = .returned (.bool (inB n l h)) ∧ w = w' := by
  by_cases h1 : l ≤ n
  · by_cases h2 : n ≤ h
    · have hb := Lib.hid (inB_yes h1 h2)
      rw [hb.out]
      go_enter Tryz.func100, Tryz.ntmps100
      go_wp2
      go_ret
      exact ⟨rfl, rfl⟩
    · rw [inB_no (n := n) (l := l) (h := h) (.inr (by omega))]
      go_enter Tryz.func100, Tryz.ntmps100
      go_wp2
      go_ret
      exact ⟨rfl, rfl⟩
  · rw [inB_no (n := n) (l := l) (h := h) (.inl (by omega))]
    go_enter Tryz.func100, Tryz.ntmps100
    go_wp2
    go_ret
    exact ⟨rfl, rfl⟩
theorem isIn_eq {n l h : Int} {v : Bool} (hv : inB n l h = v) (w : World) : Calls Tryz.prog 100 #[.int .i64 n, .int .i64 l, .int .i64 h] w fun e w' => e = .returned (.bool v) ∧ w = w' := by
  rw [← hv]; exact isIn_any n l h w

end Go.Proofs.YtpaepkcfdnddgaaGreat

namespace Go.Proofs.YtpaepkcfdnddgaaGreat
open Go.RowKit
set_option linter.unusedVariables false

/-- The lists of roots are as they should be. -/
def MutsForm (L : List (List Int)) : Prop := 1 ≤ L.length ∧ L.length ≤ 3 ∧ ∀ (j : Nat) (r : List Int), L[j]? = some r → r.length = 6
set_option maxHeartbeats 1000000 in
theorem mutsOk_any (v : Value) (L : List (List Int)) (w : World) (hr : RdM w v L) : Calls Tryz.prog 126 #[v] w fun e w' => IsB (MutsForm L) e ∧ w = w' := by
  obtain ⟨am, cm, rfl, hlm, xm⟩ := hr
  unfold maxLen at hlm
  have xm' := Lib.hid xm
  clear xm
  go_enter Tryz.func126, Tryz.ntmps126
  go_wp2_with fail
  go_loop [6] (fun i => ∃ i' : Nat, i' ≤ L.length ∧ i = .int .i64 i' ∧ Hid (∀ (j : Nat) (r : List Int), j < i' → L[j]? = some r → r.length = 6)) (fun i => L.length - (RowKit.intOf i).toNat)
  case atStart => exact ⟨0, Nat.zero_le _, rfl, fun j r hj => absurd hj (by omega)⟩
  case round =>
    obtain ⟨i, hi, rfl, hz⟩ := hrel
    by_cases hil : i < L.length
    · have hil1 : (i : Int) < (L.length : Int) := by omega
      obtain ⟨r, hr⟩ : ∃ r, L[i]? = some r := ⟨_, List.getElem?_eq_getElem hil⟩
      obtain ⟨bm, om, vr, rfl, xc, xr⟩ := xm'.out i r hr
      obtain ⟨ar, cr, rfl, hlr, _⟩ := xr
      unfold maxLen at hlr
      have hr' := Lib.hid hr
      clear hr
      by_cases h6 : (r.length : Int) = 6
      · have hn := Lib.hid (show ∀ (j : Nat) (r : List Int), j < i + 1 → L[j]? = some r → r.length = 6 from fun j r2 hj hr2 => if e : j = i then by subst e; rw [hr'.out] at hr2; cases hr2; omega else hz.out j r2 (by omega) hr2)
        have hb6 : ((r.length : Int) != 6) = false := by rw [bne_eq_false_iff_eq]; exact h6
        clear h6 hz
        go_wp2_with fail
        go_round
        case rel => exact ⟨i + 1, by omega, by go_num, hn⟩
        case measure => simp [RowKit.intOf]; omega
      · have n := Lib.hid (show ¬ MutsForm L from fun h => h6 (by have := h.2.2 i r hr'.out; omega))
        have hb6 : ((r.length : Int) != 6) = true := by rw [bne_iff_ne]; exact h6
        clear h6 hz
        go_wp2_with fail
        go_ret
        exact ⟨IsB.no n.out, rfl⟩
    · obtain rfl : i = L.length := by omega
      have hall := Lib.hid (show inB (L.length : Int) 1 3 = true ↔ MutsForm L from by
        rw [inB_iff]
        exact ⟨fun h => ⟨by omega, by omega, fun k r hr => hz.out k r (List.getElem?_eq_some_iff.1 hr).1 hr⟩, fun h => ⟨by have := h.1; omega, by have := h.2.1; omega⟩⟩)
      clear hz
      go_wp2_with (go_at_call 100; refine (isIn_any _ _ _ _).mono ?_; rintro e w' ⟨rfl, rfl⟩)
      go_ret
      exact ⟨⟨_, rfl, hall.out⟩, rfl⟩

end Go.Proofs.YtpaepkcfdnddgaaGreat

namespace Go.Proofs.YtpaepkcfdnddgaaGreat
open Go.RowKit
set_option linter.unusedVariables false

def baseB (b : Int) : Bool := inB b 32 1048576 && (b % 32 == 0)
set_option maxHeartbeats 400000 in
theorem baseOk_any (b : Int) (w : World) : Calls Tryz.prog 54 #[.int .i64 b] w fun e w' => e = .returned (.bool (baseB b)) ∧ w = w' := by
  cases hv : inB b 32 1048576
  · have hb : baseB b = false := by simp [baseB, hv]
    rw [hb]
    clear hb
    have hv' := Lib.hid hv
    clear hv
    go_enter Tryz.func54, Tryz.ntmps54
    go_wp2_with (go_at_call 100; refine (isIn_eq hv'.out _).mono ?_; rintro e w' ⟨rfl, rfl⟩)
    go_ret
    exact ⟨rfl, rfl⟩
  · have h0 := inB_iff.1 hv
    obtain ⟨h1, h2⟩ := h0
    have hv' := Lib.hid hv
    have hb : baseB b = (b % 32 == 0) := by simp [baseB, hv]
    rw [hb]
    clear hb hv
    go_enter Tryz.func54, Tryz.ntmps54
    go_wp2_with (go_at_call 100; refine (isIn_eq hv'.out _).mono ?_; rintro e w' ⟨rfl, rfl⟩)
    go_ret
    exact ⟨rfl, rfl⟩
theorem pagesOk_any (p : Int) (w : World) : Calls Tryz.prog 55 #[.int .i64 p] w fun e w' => e = .returned (.bool (inB p 1 12)) ∧ w = w' := by
  go_enter Tryz.func55, Tryz.ntmps55
  go_wp2_with (go_at_call 100; refine (isIn_any _ _ _ _).mono ?_; rintro e w' ⟨rfl, rfl⟩)
  go_ret
  exact ⟨rfl, rfl⟩
theorem wordsOf_any (p : Int) (h0 : 0 ≤ p) (h1 : p ≤ 1000) (w : World) : Calls Tryz.prog 104 #[.int .i64 p] w fun e w' => e = .returned (.int .i64 (p * 32)) ∧ w = w' := by
  go_enter Tryz.func104, Tryz.ntmps104
  go_wp2
  go_ret
  exact ⟨rfl, rfl⟩
theorem cardsOf_at (p : Int) (h0 : 0 ≤ p) (h1 : p ≤ 1000) (w : World) : Calls Tryz.prog 92 #[.int .i64 p] w fun e w' => e = .returned (.int .i64 (p * 4)) ∧ w = w' := by
  go_enter Tryz.func92, Tryz.ntmps92
  go_wp2_with (go_at_call 104; refine (wordsOf_any _ h0 h1 _).mono ?_; rintro e w' ⟨rfl, rfl⟩)
  go_ret
  exact ⟨ret_int (by omega), rfl⟩
theorem wrapEq (x : Int) : IntKind.i64.wrap x = wrap64 x := IntWalk.i64_left x
theorem markBit_any (i : Nat) (h1 : i ≤ 16) (w : World) : Calls Tryz.prog 167 #[.int .i64 (i : Int)] w fun e w' => e = .returned (.int .i64 (2 ^ i)) ∧ w = w' := by
  have hp := pow16 h1
  have e : ((2 : Int) ^ i) = ((2 ^ i : Nat) : Int) := (Int.natCast_pow 2 i).symm
  have hw : IntKind.i64.wrap ((2 : Int) ^ i) = 2 ^ i := by
    rw [e]
    generalize 2 ^ i = p at hp ⊢
    exact IntWalk.i64_in _ (by omega)
  have hw' := Lib.hid (show wrap64 ((2 : Int) ^ i) = 2 ^ i from (wrapEq _).symm.trans hw)
  clear hw hp e
  go_enter Tryz.func167, Tryz.ntmps167
  go_wp2
  go_ret
  exact ⟨ret_int (by simpa using hw'.out), rfl⟩

/-- A span but for its page. -/
structure SpanForm (s : SpanD) : Prop where
  cls : sl' s.cls ≠ 0
  lens : (s.lens.length : Int) = sl' s.cls
  ptrs : (s.ptrs.length : Int) = sl' s.cls
  slot : ∀ i, i < s.lens.length → SlotOk s i
  mk0 : 0 ≤ s.mark
  mk1 : s.mark < 2 ^ s.lens.length
structure SlotLen (s : SpanD) (i : Nat) : Prop where
  l0 : 0 ≤ s.lens[i]?.getD 0
  l1 : s.lens[i]?.getD 0 ≤ sz s.cls
  p0 : 0 ≤ s.ptrs[i]?.getD 0
  p1 : s.ptrs[i]?.getD 0 ≤ s.lens[i]?.getD 0
theorem SpanForm.mk' {s : SpanD} (h1 : sl' s.cls ≠ 0) (h2 : (s.lens.length : Int) = sl' s.cls) (h3 : (s.ptrs.length : Int) = sl' s.cls) (h4 : ∀ i, i < s.lens.length → SlotLen s i) :
    MarkFits s.lens s.mark s.lens.length ↔ SpanForm s := by
  constructor
  · rintro ⟨h5, h6, h7⟩
    exact ⟨h1, h2, h3, fun i hi => ⟨(h4 i hi).l0, (h4 i hi).l1, (h4 i hi).p0, (h4 i hi).p1, fun h0 hb => by have := h7 i hi hb; omega⟩, h5, h6⟩
  · intro h
    refine ⟨h.mk0, h.mk1, fun i hi hb => ?_⟩
    have := (h.slot i hi).l0
    have hne : s.lens[i]?.getD 0 ≠ 0 := fun h0 => (h.slot i hi).bit h0 hb
    omega
theorem SpanForm.len (s : SpanD) (h : SpanForm s) (i : Nat) (hi : i < s.lens.length) : SlotLen s i := ⟨(h.slot i hi).l0, (h.slot i hi).l1, (h.slot i hi).p0, (h.slot i hi).p1⟩

set_option maxRecDepth 100000 in
set_option maxHeartbeats 4000000 in
theorem spanForm_any (b o : Nat) (s : SpanD) (hm0 : -9223372036854775808 ≤ s.mark) (hm1 : s.mark ≤ 9223372036854775807) (w : World) (hr : RdSpan w b o s) :
    Calls Tryz.prog 150 #[.pointer (some ⟨b, o, none⟩)] w fun e w' => IsB (SpanForm s) e ∧ w = w' := by
  obtain ⟨vl, vp, x0, x1, x2, x3, x4, x5, xl, xp⟩ := hr
  obtain ⟨al, cl, rfl, hll, xl⟩ := xl
  obtain ⟨ap, cp, rfl, hpl, xp⟩ := xp
  unfold maxLen at hll hpl
  have xl' := Lib.hid xl
  have xp' := Lib.hid xp
  have hmm := Lib.hid (And.intro hm0 hm1)
  clear xl xp x0 x3 hm0 hm1
  by_cases c4 : sl' s.cls = 0
  case pos =>
    have n := Lib.hid (show ¬ SpanForm s from fun h => h.cls c4)
    have d4 : (sl' s.cls == 0) = true := beq_iff_eq.2 c4
    clear c4
    go_enter Tryz.func150, Tryz.ntmps150
    go_wp2_with (go_at_call 166; refine (slots_any _ _).mono ?_; rintro e w' ⟨rfl, rfl⟩)
    go_ret
    exact ⟨IsB.no n.out, rfl⟩
  have d4 : (sl' s.cls == 0) = false := beq_eq_false_iff_ne.2 c4
  have e4 := Lib.hid c4
  clear c4
  by_cases c5 : (s.lens.length : Int) = sl' s.cls
  case neg =>
    have n := Lib.hid (show ¬ SpanForm s from fun h => c5 h.lens)
    have d5 : ((s.lens.length : Int) != sl' s.cls) = true := by rw [bne_iff_ne]; exact c5
    clear c5
    go_enter Tryz.func150, Tryz.ntmps150
    go_wp2_with (go_at_call 166; refine (slots_any _ _).mono ?_; rintro e w' ⟨rfl, rfl⟩)
    go_ret
    exact ⟨IsB.no n.out, rfl⟩
  have d5 : ((s.lens.length : Int) != sl' s.cls) = false := by rw [bne_eq_false_iff_eq]; exact c5
  have e5 := Lib.hid c5
  clear c5
  by_cases c6 : (s.ptrs.length : Int) = sl' s.cls
  case neg =>
    have n := Lib.hid (show ¬ SpanForm s from fun h => c6 h.ptrs)
    have d6 : ((s.ptrs.length : Int) != sl' s.cls) = true := by rw [bne_iff_ne]; exact c6
    clear c6
    go_enter Tryz.func150, Tryz.ntmps150
    go_wp2_with (go_at_call 166; refine (slots_any _ _).mono ?_; rintro e w' ⟨rfl, rfl⟩)
    go_ret
    exact ⟨IsB.no n.out, rfl⟩
  have d6 : ((s.ptrs.length : Int) != sl' s.cls) = false := by rw [bne_eq_false_iff_eq]; exact c6
  have e6 := Lib.hid c6
  clear c6
  have hl16 : s.lens.length ≤ 16 := by have := e5.out; have := (sl_bd s.cls).2; omega
  have hpp := Lib.hid (show s.ptrs.length = s.lens.length by have := e5.out; have := e6.out; omega)
  go_enter Tryz.func150, Tryz.ntmps150
  go_wp2_with (go_at_call 166; refine (slots_any _ _).mono ?_; rintro e w' ⟨rfl, rfl⟩)
  clear d4 d5 d6
  go_loop [4, 37] (fun u i => ∃ i' : Nat, i' ≤ s.lens.length ∧ i = .int .i64 i' ∧ u = .int .i64 (usedM s.lens i' : Int) ∧ Hid (∀ j, j < i' → SlotLen s j)) (fun u i => s.lens.length - (RowKit.intOf i).toNat)
  case atStart => exact ⟨0, Nat.zero_le _, rfl, rfl, fun j hj => absurd hj (by omega)⟩
  case round =>
    obtain ⟨i, hi, rfl, rfl, hok⟩ := hrel
    by_cases hlt : i < s.lens.length
    · have hlt1 : (i : Int) < (s.lens.length : Int) := by omega
      obtain ⟨bl, ol, rfl, gl⟩ := xl'.out i hlt
      obtain ⟨bp, op, rfl, gp⟩ := xp'.out i (by have := hpp.out; omega)
      have hlt2 : (i : Int) < (s.ptrs.length : Int) := by have := hpp.out; omega
      have hszb := sz_bd s.cls
      have hall := Lib.hid (show SlotLen s i ↔ _ from ⟨fun h => (⟨h.l0, h.l1, h.p0, h.p1⟩ : 0 ≤ s.lens[i]?.getD 0 ∧ s.lens[i]?.getD 0 ≤ sz s.cls ∧ 0 ≤ s.ptrs[i]?.getD 0 ∧ s.ptrs[i]?.getD 0 ≤ s.lens[i]?.getD 0), fun h => ⟨h.1, h.2.1, h.2.2.1, h.2.2.2⟩⟩)
      have hor := Lib.hid (or_used s.lens i (by omega))
      have hsu := Lib.hid (show usedM s.lens (i + 1) = usedM s.lens i + if 0 < s.lens[i]?.getD 0 then 2 ^ i else 0 from rfl)
      have hub := usedM_lt s.lens i
      have hub2 := pow16 (show i ≤ 16 by omega)
      have hub3 : usedM s.lens i ≤ 65536 := by omega
      clear hub hub2
      generalize s.lens[i]?.getD 0 = l at *
      generalize s.ptrs[i]?.getD 0 = q at *
      by_cases q1 : 0 ≤ l ∧ l ≤ sz s.cls
      case neg =>
        have n := Lib.hid (show ¬ SpanForm s from fun h => q1 ⟨(hall.out.1 (h.len _ i hlt)).1, (hall.out.1 (h.len _ i hlt)).2.1⟩)
        have hb := Lib.hid (inB_no (n := l) (l := 0) (h := sz s.cls) (by omega))
        clear q1
        go_wp2_with (first
          | (go_at_call 164; refine (size_any _ _).mono ?_; rintro e w' ⟨rfl, rfl⟩)
          | (go_at_call 100; refine (isIn_eq hb.out _).mono ?_; rintro e w' ⟨rfl, rfl⟩))
        go_ret
        exact ⟨IsB.no n.out, rfl⟩
      have hb := Lib.hid (inB_yes q1.1 q1.2)
      by_cases q2 : 0 ≤ q ∧ q ≤ l
      case neg =>
        have n := Lib.hid (show ¬ SpanForm s from fun h => q2 ⟨(hall.out.1 (h.len _ i hlt)).2.2.1, (hall.out.1 (h.len _ i hlt)).2.2.2⟩)
        have hb2 := Lib.hid (inB_no (n := q) (l := 0) (h := l) (by omega))
        clear q1 q2
        go_wp2_with (first
          | (go_at_call 164; refine (size_any _ _).mono ?_; rintro e w' ⟨rfl, rfl⟩)
          | (go_at_call 100; first | ((with_reducible refine (isIn_eq hb.out _).mono ?_); rintro e w' ⟨rfl, rfl⟩) | ((with_reducible refine (isIn_eq hb2.out _).mono ?_); rintro e w' ⟨rfl, rfl⟩)))
        go_ret
        exact ⟨IsB.no n.out, rfl⟩
      have hb2 := Lib.hid (inB_yes q2.1 q2.2)
      have ok := Lib.hid (hall.out.2 ⟨q1.1, q1.2, q2.1, q2.2⟩)
      clear q2
      by_cases q3 : 0 < l
      · have hsu2 := Lib.hid (show usedM s.lens (i + 1) = usedM s.lens i + 2 ^ i by rw [hsu.out, if_pos q3])
        clear q1
        go_wp2_with (first
          | (go_at_call 164; refine (size_any _ _).mono ?_; rintro e w' ⟨rfl, rfl⟩)
          | (go_at_call 167; refine (markBit_any i (by omega) _).mono ?_; rintro e w' ⟨rfl, rfl⟩)
          | (go_at_call 100; first | ((with_reducible refine (isIn_eq hb.out _).mono ?_); rintro e w' ⟨rfl, rfl⟩) | ((with_reducible refine (isIn_eq hb2.out _).mono ?_); rintro e w' ⟨rfl, rfl⟩)))
        go_round
        case rel => exact ⟨i + 1, by omega, by go_num, by rw [hsu2.out, hor.out], fun j hj => if hj' : j < i then hok.out j hj' else by rw [show j = i by omega]; exact ok.out⟩
        case measure => simp [RowKit.intOf]; omega
      · have hsu2 := Lib.hid (show usedM s.lens (i + 1) = usedM s.lens i by rw [hsu.out, if_neg q3, Nat.add_zero])
        clear q1
        go_wp2_with (first
          | (go_at_call 164; refine (size_any _ _).mono ?_; rintro e w' ⟨rfl, rfl⟩)
          | (go_at_call 100; first | ((with_reducible refine (isIn_eq hb.out _).mono ?_); rintro e w' ⟨rfl, rfl⟩) | ((with_reducible refine (isIn_eq hb2.out _).mono ?_); rintro e w' ⟨rfl, rfl⟩)))
        go_round
        case rel => exact ⟨i + 1, by omega, by go_num, by rw [hsu2.out], fun j hj => if hj' : j < i then hok.out j hj' else by rw [show j = i by omega]; exact ok.out⟩
        case measure => simp [RowKit.intOf]; omega
    · obtain rfl : i = s.lens.length := by omega
      have hF := SpanForm.mk' e4.out e5.out e6.out hok.out
      have hA := andNot_used s.lens s.mark s.lens.length hl16 hmm.out.1 hmm.out.2
      have hend := Lib.hid (show (bits BinOp.andNot IntKind.i64 s.mark (usedM s.lens s.lens.length : Int) == 0) = true ↔ SpanForm s by rw [beq_iff_eq, hA, hF])
      clear hF hA hok
      go_wp2_with fail
      go_ret
      exact ⟨⟨_, rfl, hend.out⟩, rfl⟩
end Go.Proofs.YtpaepkcfdnddgaaGreat

namespace Go.Proofs.YtpaepkcfdnddgaaGreat
open Go.RowKit
set_option linter.unusedVariables false

theorem same_symm {R : Ending → Prop} {f : FuncId} {args : Array Value} {w : World} (h : Calls Tryz.prog f args w fun e w' => R e ∧ w = w') : Calls Tryz.prog f args w fun e w' => R e ∧ w' = w :=
  h.mono fun _ _ ⟨a, b⟩ => ⟨a, b.symm⟩

/-- Nothing has been done but that orders were drawn. -/
structure Drawn (w w' : World) : Prop where
  mk :: (is : ∃ n, w' = w.drewN n)
theorem Drawn.refl (w : World) : Drawn w w := ⟨0, rfl⟩
theorem Drawn.more {w w' : World} (h : Drawn w w') (n : Nat) : Drawn w (w'.drewN n) := by
  obtain ⟨m, rfl⟩ := h.is
  exact ⟨_, World.drewN_drewN _ _ _⟩
theorem Drawn.trans {a b c : World} (h : Drawn a b) (k : Drawn b c) : Drawn a c := by
  obtain ⟨m, rfl⟩ := k.is
  exact h.more m
theorem Drawn.heap {w w' : World} (h : Drawn w w') : w'.heap = w.heap := by
  obtain ⟨m, rfl⟩ := h.is
  rfl
theorem Drawn.cell {w w' : World} (h : Drawn w w') {a : Addr} {v : Value} (hc : w.cell? a = some v) : w'.cell? a = some v := by
  obtain ⟨m, rfl⟩ := h.is
  exact hc
theorem Drawn.below {w w' : World} (h : Drawn w w') : Below w.heap.size w w' := by
  obtain ⟨m, rfl⟩ := h.is
  exact below_drewN (Below.refl _ _) _
theorem Drawn.quiet {f : FuncId} {args : Array Value} {w : World} {n : Nat} {v : Value} (h : Calls Tryz.prog f args (w.drewN n) fun e w' => e = .returned v ∧ Drawn (w.drewN n) w') :
    Calls Tryz.prog f args (w.drewN n) fun e w'' => e = .returned v ∧ ∃ m, w'' = w.drewN m :=
  Calls.quiet_of (h.mono fun _ _ ⟨a, b⟩ => ⟨a, b.is⟩)

def SpansForm (D : WD) : Prop := ∀ (k : Nat) (s : SpanD), D.spans[k]? = some s → SpanAt D k s
/-- The least page that span number k may have. -/
def leastD (D : WD) : Nat → Int
  | 0 => 0
  | k + 1 => (D.spans[k]?.map fun s => s.page + 1).getD 0
theorem leastD_succ {D : WD} {k : Nat} {s : SpanD} (h : D.spans[k]? = some s) : leastD D (k + 1) = s.page + 1 := by simp [leastD, h]
theorem spanAt_iff {D : WD} {k : Nat} {s : SpanD} (hk : D.spans[k]? = some s) (hp : ∀ (j : Nat) (s : SpanD), j < k → D.spans[j]? = some s → SpanAt D j s) :
    SpanAt D k s ↔ (leastD D k ≤ s.page ∧ s.page ≤ D.pages - 1) ∧ SpanForm s := by
  have hlt := (List.getElem?_eq_some_iff.1 hk).1
  constructor
  · intro h
    refine ⟨⟨?_, by have := h.pg1; omega⟩, h.cls, h.lens, h.ptrs, h.slot, h.mk0, h.mk1⟩
    cases k with
    | zero => exact h.pg0
    | succ k =>
      obtain ⟨t, ht⟩ : ∃ t, D.spans[k]? = some t := ⟨_, List.getElem?_eq_getElem (by omega)⟩
      rw [leastD_succ ht]
      have := h.prev t (by omega) (by simpa using ht)
      omega
  · rintro ⟨⟨h1, h2⟩, h⟩
    have h0 : 0 ≤ leastD D k := by
      cases k with
      | zero => exact Int.le_refl 0
      | succ k =>
        obtain ⟨t, ht⟩ : ∃ t, D.spans[k]? = some t := ⟨_, List.getElem?_eq_getElem (by omega)⟩
        rw [leastD_succ ht]
        have := (hp k t (by omega) ht).pg0
        omega
    refine ⟨by omega, by omega, fun s' hk0 hs' => ?_, h.cls, h.lens, h.ptrs, h.slot, h.mk0, h.mk1⟩
    cases k with
    | zero => exact absurd rfl hk0
    | succ k =>
      have hs2 : D.spans[k]? = some s' := by simpa using hs'
      rw [leastD_succ hs2] at h1
      omega

theorem RdSpan.drewN {w : World} {b o : Nat} {s : SpanD} (h : RdSpan w b o s) (n : Nat) : RdSpan (w.drewN n) b o s := h
theorem RdS.drewN {w : World} {v : Value} {L : List SpanD} (h : RdS w v L) (n : Nat) : RdS (w.drewN n) v L := h
theorem RdM.drewN {w : World} {v : Value} {L : List (List Int)} (h : RdM w v L) (n : Nat) : RdM (w.drewN n) v L := h
theorem RdW.drewN {w : World} {v : Value} {D : WD} (h : RdW w v D) (n : Nat) : RdW (w.drewN n) v D := h
theorem BoxW.drewN {w : World} {B : Nat} {v : Value} (h : BoxW w B v) (n : Nat) : BoxW (w.drewN n) B v := h

set_option maxRecDepth 100000 in
set_option maxHeartbeats 4000000 in
theorem spansOk_any (B : Nat) (v : Value) (D : WD) (hp0 : 1 ≤ D.pages) (hp1 : D.pages ≤ 12) (hm : MarksIn D) (w : World) (hr : RdW w v D) (hB : BoxW w B v) :
    Calls Tryz.prog 127 #[.pointer (some ⟨B, 0, none⟩)] w fun e w' => IsB (SpansForm D) e ∧ Drawn w w' := by
  obtain ⟨vw, vd, vs, vm, vg, rfl, a1, a2, a3, a4, a5⟩ := hr
  obtain ⟨aS, cS, rfl, hsl, hx⟩ := a3
  obtain ⟨cs, he, hh⟩ := hB
  obtain rfl := (Value.agg.inj he).symm
  unfold maxLen at hsl
  have f1 := cell_of_heap hh 1 _ rfl
  have f4 := cell_of_heap hh 4 _ rfl
  have hx' := Lib.hid hx
  have hm' := Lib.hid hm
  have F := Lib.hid (And.intro f1 f4)
  clear hx hh he a1 a2 a4 a5 hm
  go_enter Tryz.func127, Tryz.ntmps127
  go_wp2_with fail
  clear f1 f4
  go_loopw [3, 11] (fun l i wr => ∃ (k : Nat), k ≤ D.spans.length ∧ i = .int .i64 k ∧ l = .int .i64 (leastD D k) ∧ Hid (∀ (j : Nat) (s : SpanD), j < k → D.spans[j]? = some s → SpanAt D j s) ∧ Drawn w wr) (fun l i _ => D.spans.length - (RowKit.intOf i).toNat)
  case atStart => exact ⟨0, Nat.zero_le _, rfl, rfl, fun j s hj => absurd hj (by omega), Drawn.refl w⟩
  case round =>
    obtain ⟨k, hk, rfl, rfl, hok, hw⟩ := hrel
    have g1 := hw.cell F.out.1
    have g4 := hw.cell F.out.2
    by_cases hlt : k < D.spans.length
    · obtain ⟨s, hks⟩ : ∃ s, D.spans[k]? = some s := ⟨_, List.getElem?_eq_getElem hlt⟩
      have hlt1 : (k : Int) < (D.spans.length : Int) := by omega
      have hiff := Lib.hid (spanAt_iff hks hok.out)
      have hks' := Lib.hid hks
      obtain ⟨b1, o1, rfl, hs0⟩ := hx'.out k s hks
      have hs := hs0.below hw.below
      clear hs0
      have hs' := Lib.hid hs
      obtain ⟨vl, vp, x0, _⟩ := hs
      have hls := Lib.hid (leastD_succ hks)
      have hmk := Lib.hid (hm'.out k s hks)
      clear hks
      by_cases q1 : leastD D k ≤ s.page ∧ s.page ≤ D.pages - 1
      case neg =>
        have n' := Lib.hid (show ¬ SpansForm D from fun h => q1 (hiff.out.1 (h k s hks'.out)).1)
        have hb := Lib.hid (inB_no (n := s.page) (l := leastD D k) (h := D.pages - 1) (by omega))
        clear q1
        go_wp2_with fail
        have hwr : IntKind.i64.wrap (D.pages - 1) = D.pages - 1 := IntWalk.i64_in _ (by omega)
        go_quiet ((go_at_call 100; exact Calls.quiet_of_same (same_symm (isIn_eq hb.out _))))
        go_wp2
        go_ret
        exact ⟨IsB.no n'.out, hw.more _⟩
      have hb := Lib.hid (inB_yes q1.1 q1.2)
      have hpg0 : s.page ≤ 12 := by omega
      have hpg1 : -1 ≤ s.page := by
        have h0 : 0 ≤ leastD D k := by
          cases k with
          | zero => exact Int.le_refl 0
          | succ k =>
            obtain ⟨t, ht⟩ : ∃ t, D.spans[k]? = some t := ⟨_, List.getElem?_eq_getElem (by omega)⟩
            rw [leastD_succ ht]
            have := (hok.out k t (by omega) ht).pg0
            omega
        omega
      by_cases q2 : SpanForm s
      case neg =>
        have n' := Lib.hid (show ¬ SpansForm D from fun h => q2 (hiff.out.1 (h k s hks'.out)).2)
        have hc := Lib.hid (fun (w : World) (h : RdSpan w b1 (o1 + k * 6) s) => same_symm (Calls.isFalse (spanForm_any b1 (o1 + k * 6) s hmk.out.1 hmk.out.2 w h) q2))
        clear q1 q2
        go_wp2_with fail
        have hwr : IntKind.i64.wrap (D.pages - 1) = D.pages - 1 := IntWalk.i64_in _ (by omega)
        go_quiet ((first
          | (go_at_call 100; exact Calls.quiet_of_same (same_symm (isIn_eq hb.out _)))
          | (go_at_call 150; exact Calls.quiet_of_same (hc.out _ hs'.out))))
        go_wp2
        go_ret
        exact ⟨IsB.no n'.out, hw.more _⟩
      have hok2 := Lib.hid (show ∀ (j : Nat) (s : SpanD), j < k + 1 → D.spans[j]? = some s → SpanAt D j s from fun j s2 hj hs2 => if e : j = k then by subst e; rw [hks'.out] at hs2; cases hs2; exact hiff.out.2 ⟨q1, q2⟩ else hok.out j s2 (by omega) hs2)
      have hc := Lib.hid (fun (w : World) (h : RdSpan w b1 (o1 + k * 6) s) => same_symm (Calls.isTrue (spanForm_any b1 (o1 + k * 6) s hmk.out.1 hmk.out.2 w h) q2))
      clear q1 q2 hok
      go_wp2_with fail
      have hwr : IntKind.i64.wrap (D.pages - 1) = D.pages - 1 := IntWalk.i64_in _ (by omega)
      go_quiet ((first
        | (go_at_call 100; exact Calls.quiet_of_same (same_symm (isIn_eq hb.out _)))
        | (go_at_call 150; exact Calls.quiet_of_same (hc.out _ hs'.out))))
      go_wp2
      go_roundw
      case rel => exact ⟨k + 1, by omega, by go_num, by rw [hls.out], hok2, hw.more _⟩
      case measure => simp [RowKit.intOf]; omega
    · obtain rfl : k = D.spans.length := by omega
      have y := Lib.hid (show SpansForm D from fun j s hs => hok.out j s (List.getElem?_eq_some_iff.1 hs).1 hs)
      clear hok
      go_wp2_with fail
      go_ret
      exact ⟨IsB.yes y.out, hw⟩

set_option maxHeartbeats 1000000 in
theorem firstWord_any (b o : Nat) (s : SpanD) (slot : Int) (hp0 : 0 ≤ s.page) (hp : s.page ≤ 1000) (h0 : 0 ≤ slot) (h1 : slot ≤ 1000) (w : World) (hr : RdSpan w b o s) :
    Calls Tryz.prog 142 #[.pointer (some ⟨b, o, none⟩), .int .i64 slot] w fun e w' => e = .returned (.int .i64 (atW s slot)) ∧ Drawn w w' := by
  have hb := sz_bd s.cls
  have hm0 : 0 ≤ slot * sz s.cls := Int.mul_nonneg h0 hb.1
  have hm1 : slot * sz s.cls ≤ 16000 := by
    have := Int.mul_le_mul h1 hb.2 hb.1 (by omega)
    omega
  obtain ⟨vl, vp, x0, x1, _⟩ := hr
  have e1 := Lib.hid (show IntKind.i64.wrap (s.page * 32) = s.page * 32 from IntWalk.i64_in _ (by omega))
  have e2 := Lib.hid (show IntKind.i64.wrap (slot * sz s.cls) = slot * sz s.cls from IntWalk.i64_in _ (by omega))
  have e3 := Lib.hid (show IntKind.i64.wrap (s.page * 32 + slot * sz s.cls) = s.page * 32 + slot * sz s.cls from IntWalk.i64_in _ (by omega))
  unfold atW
  go_enter Tryz.func142, Tryz.ntmps142
  go_wp2_with fail
  go_quiet ((go_at_call 164; exact Calls.quiet_of_same (same_symm (size_any _ _))))
  go_wp2
  go_ret
  exact ⟨rfl, _, rfl⟩
end Go.Proofs.YtpaepkcfdnddgaaGreat

namespace Go.Proofs.YtpaepkcfdnddgaaGreat
open Go.RowKit
set_option linter.unusedVariables false

def RestZero (D : WD) : Prop := ∀ i : Nat, i < D.words.length → ¬ Used D i → D.words[i]?.getD 0 = 0

set_option maxRecDepth 100000 in
set_option maxHeartbeats 8000000 in
theorem restIsZero_any (B : Nat) (v : Value) (D : WD) (hn : D.words.length ≤ 1048576) (hwl : (D.words.length : Int) = D.pages * 32) (hpg : D.pages ≤ 12) (hsp : SpansForm D) (w : World) (hr : RdW w v D) (hBx : BoxW w B v) :
    Calls Tryz.prog 128 #[.pointer (some ⟨B, 0, none⟩)] w fun e w' => IsB (RestZero D) e ∧ Below w.heap.size w w' := by
  obtain ⟨i0, hi, hz0, hz1, hz2⟩ := info_parts infoBool
  obtain ⟨vw, vd, vs, vm, vg, rfl, a1, a2, a3, a4, a5⟩ := hr
  have a1' := Lib.hid a1
  obtain ⟨aw, cw, rfl, _, _⟩ := a1
  have a3' := Lib.hid a3
  obtain ⟨aS, cS, rfl, hsl, hx⟩ := a3
  obtain ⟨cs, he, hh⟩ := hBx
  obtain rfl := (Value.agg.inj he).symm
  unfold maxLen at hsl
  have f2 := cell_of_heap hh 2 _ rfl
  have f4 := cell_of_heap hh 4 _ rfl
  have hsp' := Lib.hid hsp
  have hin := Lib.hid (fun (wr : World) (hb : Below w.heap.size w wr) (k : Nat) (s : SpanD) (hk : D.spans[k]? = some s) => (hx k s hk).elim fun b h => h.elim fun off h => (⟨b, off, h.1, h.2.below hb⟩ : ∃ b off, aS = some ⟨b, off, none⟩ ∧ RdSpan wr b (off + k * 6) s))
  have f4' := Lib.hid (fun (wr : World) (hb : Below w.heap.size w wr) => cell_below (w' := wr) hb f4)
  have f2' := Lib.hid (fun (wr : World) (hb : Below w.heap.size w wr) => cell_below (w' := wr) hb f2)
  have hwl' := Lib.hid hwl
  clear hx hh he a2 a4 a5 hsp hwl
  go_enter Tryz.func128, Tryz.ntmps128
  go_wp2_with (at_make; refine wpList_make_full _ rfl _ _ 23 rfl w.heap.size 4 i0 (.bool false) 1 Tryz.underlying23 hi hz0 hz1 .i64 .i64 _ _ D.words.length rfl rfl rfl rfl (by rw [hz2]; omega) (by unfold maxLen; omega) (Nat.le_refl _) ?_; intro w0 hown0 hgrow0; have f4w := f4'.out w0 ((Below.refl _ _).grown hgrow0 (Nat.le_refl _) (fun k e => by cases e)))
  have R0 : RowU w.heap.size w w0 D.words.length (List.replicate D.words.length false) (InSpans D 0) := by
    have ho : w0.ownsRow w.heap.size 4 1 (sl w.heap.size D.words.length) D.words.length ((List.replicate D.words.length false).map Value.bool) := by
      have := hown0
      rw [show (Value.bool false).cells = #[.bool false] from rfl, Nat.mul_one, toList_madeCells_one] at this
      simpa using this
    exact ⟨ho, (Tells.zero _).congr (fun i _ => ⟨fun h => h.elim, fun ⟨k', s, hk, _⟩ => absurd hk (by omega)⟩), (Below.refl _ _).grown hgrow0 (by omega) (fun k e => by cases e), (ho.lt w.heap.size rfl).2⟩
  have hB0 := R0.below
  clear hown0 hgrow0 f2 f4 f4w
  go_loopw [23] (fun k wr => ∃ (k' : Nat) (U : List Bool), k' ≤ D.spans.length ∧ k = .int .i64 k' ∧ RowU w.heap.size w wr D.words.length U (InSpans D k')) (fun k _ => D.spans.length - (RowKit.intOf k).toNat)
  case atStart => exact ⟨0, _, Nat.zero_le _, rfl, R0⟩
  case round =>
    obtain ⟨k, U, hk, rfl, R⟩ := hrel
    have g4 := f4'.out wr R.below
    by_cases hlt : k < D.spans.length
    · obtain ⟨s, hks⟩ : ∃ s, D.spans[k]? = some s := ⟨_, List.getElem?_eq_getElem hlt⟩
      have hA := hsp'.out k s hks
      have hks' := Lib.hid hks
      obtain ⟨b1, o1, rfl, vl, vp, x0, x1, x2, x3, x4, x5, xl, xp⟩ := hin.out wr R.below k s hks
      obtain ⟨al, cl, rfl, hll, xl⟩ := xl
      unfold maxLen at hll
      have hlt1 : (k : Int) < (D.spans.length : Int) := by omega
      clear hks xp xl x0 x1 x2 x3 x5
      go_wp2_with fail
      have x4' := Lib.hid (show ∀ (wj : World), Below w.heap.size w wj → RdSpan wj b1 (o1 + k * 6) s from fun wj hb => by
        obtain ⟨b, o, he, h⟩ := hin.out wj hb k s hks'.out
        obtain ⟨rfl, rfl⟩ : b1 = b ∧ o1 = o := by simpa using he
        exact h)
      have x4h := Lib.hid x4
      clear x4 g4
      go_loopw [37] (fun j wj => ∃ (j' : Nat) (U : List Bool), j' ≤ s.lens.length ∧ j = .int .i64 j' ∧ Hid (wj.cell? ⟨b1, o1 + k * 6 + 4, none⟩ = some (.slice al s.lens.length cl)) ∧ RowU w.heap.size w wj D.words.length U (fun x => InSpans D k x ∨ InSlots s j' x)) (fun j _ => s.lens.length - (RowKit.intOf j).toNat)
      case atStart =>
        exact ⟨0, U, Nat.zero_le _, rfl, x4h, R.congr (fun i _ => ⟨.inl, fun h => h.elim id fun ⟨j', hj, _⟩ => absurd hj (by omega)⟩)⟩
      case round =>
        obtain ⟨j, U, hj, rfl, hlc, R⟩ := hrel
        have hsp1 := x4'.out _ R.below
        have hrs := Lib.hid hsp1
        obtain ⟨vl', vp', x0, x1, x2, x3, x4, x5, xl', xp⟩ := hsp1
        obtain rfl : vl' = .slice al s.lens.length cl := by
          have := x4.symm.trans hlc.out
          simpa using this
        obtain ⟨al', cl', he2, _, xl'⟩ := xl'
        obtain ⟨rfl, rfl⟩ : al = al' ∧ cl = cl' := by simpa using he2
        have g4 := f4'.out _ R.below
        clear he2
        by_cases hjl : j < s.lens.length
        · have hj1 : (j : Int) < (s.lens.length : Int) := by omega
          have hS := hA.slot j hjl
          obtain ⟨A, hAt, hAin⟩ := at_nat D k s hA D.words.length hwl'.out j hjl
          have hl0 := hS.l0
          obtain ⟨bl2, ol2, rfl, xj⟩ := xl' j hjl
          have hp0 := hA.pg0
          have hp1 := hA.pg1
          have hl3 := hA.lens
          have hl4 := (sl_bd s.cls).2
          have hjb : (j : Int) ≤ 1000 := by omega
          have hpb : s.page ≤ 1000 := by omega
          have hcall := Lib.hid (firstWord_any b1 (o1 + k * 6) s (j : Int) hp0 hpb (by omega) hjb _ hrs.out)
          have hlw := hS.l1
          have hz16 := (sz_bd s.cls).2
          have hAt' := Lib.hid hAt
          clear hl3 hl4 xl' xp x0 x1 x2 x3 x4 x5 hS hAt
          generalize hlj : s.lens[j]?.getD 0 = l at *
          have hlj' := Lib.hid hlj
          clear hlj
          go_wp2_with fail
          refine hcall.out.mono ?_
          rintro e w2 ⟨rfl, hdr⟩
          rw [hAt'.out]
          have R2 : RowU w.heap.size w w2 D.words.length U (fun x => InSpans D k x ∨ InSlots s j x) := ⟨own_below R.own hdr.below, R.tells, R.below.trans (hdr.below.mono (Nat.le_of_lt R.size)), by have := hdr.below.size; have := R.size; omega⟩
          have hlc2 := Lib.hid (hdr.cell hlc.out)
          have hAb : (A : Int) ≤ 1000000 := by
            have := hAt'.out
            have h5 := sz_bd s.cls
            have h6 : 0 ≤ (j : Int) * sz s.cls := Int.mul_nonneg (by omega) h5.1
            have h7 : (j : Int) * sz s.cls ≤ 16000 := by
              have := Int.mul_le_mul hjb h5.2 h5.1 (by omega)
              omega
            unfold atW at this
            omega
          clear R hdr xj g4 hcall
          go_wp2_with fail
          go_loopw [9] (fun t wt => ∃ (t' : Nat) (U : List Bool), (t' : Int) ≤ l ∧ t = .int .i64 ((A : Int) + (t' : Int)) ∧ Hid (wt.cell? ⟨b1, o1 + k * 6 + 4, none⟩ = some (.slice (some ⟨bl2, ol2, none⟩) s.lens.length cl)) ∧ RowU w.heap.size w wt D.words.length U (fun x => (InSpans D k x ∨ InSlots s j x) ∨ InSlot s j t' x)) (fun t _ => l.toNat - (RowKit.intOf t - A).toNat)
          case atStart => exact ⟨0, U, hl0, by simp, hlc2, R2.congr (fun i _ => ⟨.inl, fun h => h.elim id fun ⟨t', ht, _⟩ => absurd ht (by omega)⟩)⟩
          case round =>
            obtain ⟨t, U, ht, rfl, hlc3, R⟩ := hrel
            by_cases htl : (t : Int) < l
            · have hx := hAin t htl
              have ho1 : A + t < D.words.length := hx
              have hx1 : ((A : Int) + (t : Int)) < (D.words.length : Int) := by omega
              obtain ⟨c1, c2⟩ := R.cell (Below.refl _ _) (A + t) ho1
              have hstep := Lib.hid (R.step (Below.refl _ _) (A + t) ho1)
              have hne : b1 < w.heap.size := by
                obtain ⟨b3, o3, he3, hsp3⟩ := hin.out w (Below.refl _ _) k s hks'.out
                obtain ⟨rfl, rfl⟩ : b1 = b3 ∧ o1 = o3 := by simpa using he3
                obtain ⟨_, _, y0, _⟩ := hsp3
                exact cell_lt y0
              have hlc4 := Lib.hid (show (wr.setCell ⟨w.heap.size, A + t, none⟩ (.bool true)).cell? ⟨b1, o1 + k * 6 + 4, none⟩ = some (.slice (some ⟨bl2, ol2, none⟩) s.lens.length cl) from by
                have hb : (wr.setCell ⟨w.heap.size, A + t, none⟩ (.bool true)).heap[b1]? = wr.heap[b1]? := heap_setCell_other wr ⟨w.heap.size, A + t, none⟩ b1 (.bool true) (by simp; omega)
                rw [World.cell?_of_block hb]
                exact hlc3.out)
              clear R hAin hlc3
              generalize U[A + t]?.getD false = old at c1
              go_wp2_with fail
              go_roundw
              case rel => exact ⟨t + 1, _, by omega, by go_num, hlc4, hstep.out.congr (fun i _ => by rw [inSlot_succ, hAt'.out, show (i = A + t) ↔ ((i : Int) = (A : Int) + (t : Int)) by omega, or_assoc])⟩
              case measure => simp [RowKit.intOf]; omega
            · have htt : t = l.toNat := by omega
              have hR := Lib.hid (R.congr (Q := fun x => InSpans D k x ∨ InSlots s (j + 1) x) (fun i _ => by rw [inSlots_succ, hlj'.out, ← htt, or_assoc]))
              clear R hAin htt
              go_wp2_with fail
              go_roundw
              case rel => exact ⟨j + 1, U, by omega, by go_num, hlc3, hR.out⟩
              case measure => simp [RowKit.intOf]; omega
        · obtain rfl : j = s.lens.length := by omega
          have hR := Lib.hid (R.congr (fun i _ => (inSpans_succ D k i s hks'.out).symm))
          clear R x0 x1 x2 x3 xl' xp
          go_wp2_with fail
          go_roundw
          case rel => exact ⟨k + 1, U, by omega, by go_num, hR.out⟩
          case measure => simp [RowKit.intOf]; omega
    · obtain rfl : k = D.spans.length := by omega
      have g2 := f2'.out wr R.below
      have hb := Lib.hid R.below
      have oU' := Lib.hid R.own
      have tU' := Lib.hid R.tells
      obtain ⟨aw', cw', hwe, hwm, xw⟩ := (a1'.out.below R.below)
      obtain ⟨rfl, rfl⟩ : aw = aw' ∧ cw = cw' := by simpa using hwe
      have xw' := Lib.hid xw
      clear hwe xw R
      unfold maxLen at hwm
      go_wp2_with fail
      go_loop [63] (fun i => ∃ i' : Nat, i' ≤ D.words.length ∧ i = .int .i64 i' ∧ Hid (∀ j, j < i' → ¬ Used D j → D.words[j]?.getD 0 = 0)) (fun i => D.words.length - (RowKit.intOf i).toNat)
      case atStart => exact ⟨0, Nat.zero_le _, rfl, fun j hj => absurd hj (by omega)⟩
      case round =>
        obtain ⟨i, hi, rfl, hz⟩ := hrel
        by_cases hil : i < D.words.length
        · have hil1 : (i : Int) < (D.words.length : Int) := by omega
          obtain ⟨bw1, ow1, rfl, xi⟩ := xw'.out i hil
          have hU := tU'.out
          have ui : wr.cell? ⟨w.heap.size, i, none⟩ = some (.bool (U[i]?.getD false)) := by
            rw [oU'.out.cellAt i (by omega)]
            simp [hU.1, hil]
          have hUi := Lib.hid (hU.2 i hil)
          have hfz := Lib.hid (fun (h : RestZero D) => h i hil)
          have hnext := Lib.hid (fun (h : ¬ Used D i → D.words[i]?.getD 0 = 0) => (fun j (hj : j < i + 1) => if e : j = i then by subst e; exact h else hz.out j (by omega) : ∀ j, j < i + 1 → ¬ Used D j → D.words[j]?.getD 0 = 0))
          clear hU hz
          generalize U[i]?.getD false = u at *
          generalize D.words[i]?.getD 0 = y at *
          by_cases hy : y = 0
          · have hn := Lib.hid (hnext.out (fun _ => hy))
            have hyb : (y != 0) = false := by rw [bne_eq_false_iff_eq]; exact hy
            clear hy
            go_wp2_with fail
            go_round
            case rel => exact ⟨i + 1, by omega, by go_num, hn⟩
            case measure => simp [RowKit.intOf]; omega
          · have hyb : (y != 0) = true := by rw [bne_iff_ne]; exact hy
            have hy' := Lib.hid hy
            clear hy
            cases u
            · have n := Lib.hid (show ¬ RestZero D from fun h => hy'.out (hfz.out h (fun hu => absurd (hUi.out.2 hu) (by simp))))
              go_wp2_with fail
              go_ret
              exact ⟨IsB.no n.out, hb.out⟩
            · have hn := Lib.hid (hnext.out (fun hu => absurd (hUi.out.1 rfl) hu))
              go_wp2_with fail
              go_round
              case rel => exact ⟨i + 1, by omega, by go_num, hn⟩
              case measure => simp [RowKit.intOf]; omega
        · obtain rfl : i = D.words.length := by omega
          have hy := Lib.hid (show RestZero D from hz.out)
          clear hz
          go_wp2_with fail
          go_ret
          exact ⟨IsB.yes hy.out, hb.out⟩
end Go.Proofs.YtpaepkcfdnddgaaGreat

namespace Go.Proofs.YtpaepkcfdnddgaaGreat
open Go.RowKit
set_option linter.unusedVariables false

theorem baseOk_eq {b : Int} {v : Bool} (hv : baseB b = v) (w : World) : Calls Tryz.prog 54 #[.int .i64 b] w fun e w' => e = .returned (.bool v) ∧ w = w' := by rw [← hv]; exact baseOk_any b w
theorem pagesOk_eq {p : Int} {v : Bool} (hv : inB p 1 12 = v) (w : World) : Calls Tryz.prog 55 #[.int .i64 p] w fun e w' => e = .returned (.bool v) ∧ w = w' := by rw [← hv]; exact pagesOk_any p w
theorem mutsOk_yes {v : Value} {L : List (List Int)} (h : MutsForm L) {w : World} (hr : RdM w v L) : Calls Tryz.prog 126 #[v] w fun e w' => e = .returned (.bool true) ∧ w = w' := Calls.isTrue (mutsOk_any v L w hr) h
theorem mutsOk_no {v : Value} {L : List (List Int)} (h : ¬ MutsForm L) {w : World} (hr : RdM w v L) : Calls Tryz.prog 126 #[v] w fun e w' => e = .returned (.bool false) ∧ w = w' := Calls.isFalse (mutsOk_any v L w hr) h
theorem spans_le {D : WD} (h : SpansForm D) : ∀ (k : Nat) (s : SpanD), D.spans[k]? = some s → (k : Int) ≤ s.page := by
  intro k
  induction k with
  | zero => intro s hs; exact (h 0 s hs).pg0
  | succ k ih =>
    intro s hs
    have hl := (List.getElem?_eq_some_iff.1 hs).1
    obtain ⟨t, ht⟩ : ∃ t, D.spans[k]? = some t := ⟨_, List.getElem?_eq_getElem (by omega)⟩
    have h1 := ih t ht
    have h2 := (h (k + 1) s hs).prev t (by omega) (by simpa using ht)
    omega
theorem spans_le' {D : WD} (h : SpansForm D) (hp : 0 ≤ D.pages) : (D.spans.length : Int) ≤ D.pages := by
  rcases Nat.eq_zero_or_pos D.spans.length with e | e
  · omega
  · obtain ⟨t, ht⟩ : ∃ t, D.spans[D.spans.length - 1]? = some t := ⟨_, List.getElem?_eq_getElem (by omega)⟩
    have h1 := spans_le h _ t ht
    have h2 := (h _ t ht).pg1
    omega
theorem heapForm_iff {D : WD} : HeapForm D ↔ (baseB D.base = true ∧ inB D.pages 1 12 = true ∧ MutsForm D.muts ∧ inB D.phase 0 4 = true ∧ (D.words.length : Int) = D.pages * 32 ∧ (D.dirty.length : Int) = D.pages * 4 ∧ SpansForm D ∧ RestZero D) := by
  have hb : baseB D.base = true ↔ (32 ≤ D.base ∧ D.base ≤ 1048576 ∧ D.base % 32 = 0) := by
    unfold baseB
    rw [Bool.and_eq_true, inB_iff, beq_iff_eq, and_assoc]
  rw [hb, inB_iff, inB_iff]
  constructor
  · intro h
    obtain ⟨g1, g2, g3, g4, g5, g6, g7⟩ := h.geo
    exact ⟨⟨g1, g2, g3⟩, ⟨g4, g5⟩, ⟨by omega, by omega, h.roots⟩, ⟨h.ph0, h.ph1⟩, h.words, h.dirty, h.span, h.zero⟩
  · rintro ⟨⟨g1, g2, g3⟩, ⟨g4, g5⟩, ⟨m1, m2, m3⟩, ⟨p1, p2⟩, h5, h6, h7, h8⟩
    exact ⟨⟨g1, g2, g3, g4, g5, by omega, by omega⟩, h5, h6, spans_le' h7 (by omega), p1, p2, h7, h8, m3⟩
theorem RdW.drew {w : World} {v : Value} {D : WD} (h : RdW w v D) : RdW w.drew v D := h
theorem BoxW.drew {w : World} {B : Nat} {v : Value} (h : BoxW w B v) : BoxW w.drew B v := h
theorem RdM.drew {w : World} {v : Value} {L : List (List Int)} (h : RdM w v L) : RdM w.drew v L := h
theorem Drawn.drew (w : World) : Drawn w w.drew := ⟨1, rfl⟩
theorem Drawn.drewN (w : World) (n : Nat) : Drawn w (w.drewN n) := ⟨n, rfl⟩

theorem spans_ext {P : Prop} {b : Bool} {f : FuncId} {args : Array Value} {w : World} (F : ∀ {P : Prop} {R : World → Prop}, (Calls Tryz.prog f args w fun e w' => IsB P e ∧ R w') → (if b then P else ¬ P) → Calls Tryz.prog f args w fun e w' => e = .returned (.bool b) ∧ R w')
    (h : Calls Tryz.prog f args w fun e w' => IsB P e ∧ Drawn w w') (hp : if b then P else ¬ P) : Calls Tryz.prog f args w fun e w' => e = .returned (.bool b) ∧ Below w.heap.size w w' :=
  (F h hp).mono fun _ _ ⟨a, c⟩ => ⟨a, c.below⟩

set_option maxRecDepth 100000 in
set_option maxHeartbeats 8000000 in
theorem formOkI_any (v : Value) (D : WD) (hm : MarksIn D) (w : World) (hr : RdW w v D) :
    Calls Tryz.prog 97 #[v] w fun e w' => IsB (HeapForm D) e ∧ Below w.heap.size w w' := by
  have hm' := Lib.hid hm
  clear hm
  obtain ⟨vw, vd, vs, vm, vg, rfl, a1, a2, a3, a4, a5⟩ := hr
  obtain ⟨aw, cw, rfl, hlw, a1'⟩ := a1
  obtain ⟨ad, cd, rfl, hld, a2'⟩ := a2
  unfold maxLen at hlw hld
  have a1 : Rd w (.slice aw D.words.length cw) D.words := ⟨aw, cw, rfl, hlw, a1'⟩
  have a2 : RdB w (.slice ad D.dirty.length cd) D.dirty := ⟨ad, cd, rfl, hld, a2'⟩
  clear a1' a2'
  have bx := box_new w (.cells #[.int .i64 D.base, .int .i64 D.pages, .slice aw D.words.length cw, .slice ad D.dirty.length cd, vs, vm, .int .i64 D.phase, .int .i64 D.next, vg] 36)
  have bw := below_box w (.cells #[.int .i64 D.base, .int .i64 D.pages, .slice aw D.words.length cw, .slice ad D.dirty.length cd, vs, vm, .int .i64 D.phase, .int .i64 D.next, vg] 36)
  have hW := Lib.hid (show RdW (w.alloc (.cells #[.int .i64 D.base, .int .i64 D.pages, .slice aw D.words.length cw, .slice ad D.dirty.length cd, vs, vm, .int .i64 D.phase, .int .i64 D.next, vg] 36)) (.agg #[.int .i64 D.base, .int .i64 D.pages, .slice aw D.words.length cw, .slice ad D.dirty.length cd, vs, vm, .int .i64 D.phase, .int .i64 D.next, vg]) D from ⟨_, _, vs, vm, vg, rfl, a1.below bw, a2.below bw, a3.below bw, a4.below bw, a5.below bw⟩)
  have hM := Lib.hid (a4.below bw)
  have hBx := Lib.hid (show BoxW (w.alloc (.cells #[.int .i64 D.base, .int .i64 D.pages, .slice aw D.words.length cw, .slice ad D.dirty.length cd, vs, vm, .int .i64 D.phase, .int .i64 D.next, vg] 36)) w.heap.size (.agg #[.int .i64 D.base, .int .i64 D.pages, .slice aw D.words.length cw, .slice ad D.dirty.length cd, vs, vm, .int .i64 D.phase, .int .i64 D.next, vg]) from ⟨_, rfl, bx⟩)
  have bw' := Lib.hid bw
  have hF := Lib.hid (heapForm_iff (D := D))
  have g0 := Ext.cell (cell_of_heap bx 0 _ rfl)
  have g1 := Ext.cell (cell_of_heap bx 1 _ rfl)
  have g2 := Ext.cell (cell_of_heap bx 2 _ rfl)
  have g3 := Ext.cell (cell_of_heap bx 3 _ rfl)
  have g5 := Ext.cell (cell_of_heap bx 5 _ rfl)
  have g6 := Ext.cell (cell_of_heap bx 6 _ rfl)
  clear a1 a2 a3 a4 a5 bx bw
  cases e1 : baseB D.base
  case false =>
    have h1 := Lib.hid e1
    have n := Lib.hid (show ¬ HeapForm D from fun h => by have := (hF.out.1 h).1; rw [h1.out] at this; cases this)
    clear e1
    go_enter Tryz.func97, Tryz.ntmps97
    go_wp2_with fail
    generalize w.alloc (.cells #[.int .i64 D.base, .int .i64 D.pages, .slice aw D.words.length cw, .slice ad D.dirty.length cd, vs, vm, .int .i64 D.phase, .int .i64 D.next, vg] 36) = W at *
    refine wp_region_ext (Below.refl _ _) (by kernel_rfl) (by kernel_rfl) ?_
    repeat (go_big_quiet_step ((first | (go_at_call 54; exact Ext.same (baseOk_eq h1.out _)) | (go_at_call 55; exact Ext.same (pagesOk_eq h2.out _)) | (go_at_call 126; exact Ext.same (mutsOk_yes h3.out (hM.out.below (Ext.below _)))) | (go_at_call 100; exact Ext.same (isIn_eq h4.out _)) | (go_at_call 104; exact Ext.same (wordsOf_any _ hp0 hp1 _)) | (go_at_call 92; exact Ext.same (cardsOf_at _ hp0 hp1 _)) | (go_at_call 127; exact Ext.call (spans_ext (b := true) (fun h hp => Calls.isTrue h (by simpa using hp)) (spansOk_any _ _ D hp2 hp3 hm'.out _ (hW.out.below (Ext.below _)) (hBx.out.below (Ext.below _))) h7.out)) | (go_at_call 128; exact Ext.call (Calls.isTrue (restIsZero_any _ _ D hn h5.out hp3 h7.out _ (hW.out.below (Ext.below _)) (hBx.out.below (Ext.below _))) h8.out)))))
    refine wpQuiet_nil ?_
    intro _ hw'
    obtain ⟨x9, hw''⟩ := hw'
    subst hw''
    go_wp2
    go_ret
    exact ⟨IsB.no n.out, below_trans bw'.out (Ext.below _)⟩
  have h1 := Lib.hid e1
  clear e1
  cases e2 : inB D.pages 1 12
  case false =>
    have h2 := Lib.hid e2
    have n := Lib.hid (show ¬ HeapForm D from fun h => by have := (hF.out.1 h).2.1; rw [h2.out] at this; cases this)
    clear e2
    go_enter Tryz.func97, Tryz.ntmps97
    go_wp2_with fail
    generalize w.alloc (.cells #[.int .i64 D.base, .int .i64 D.pages, .slice aw D.words.length cw, .slice ad D.dirty.length cd, vs, vm, .int .i64 D.phase, .int .i64 D.next, vg] 36) = W at *
    refine wp_region_ext (Below.refl _ _) (by kernel_rfl) (by kernel_rfl) ?_
    repeat (go_big_quiet_step ((first | (go_at_call 54; exact Ext.same (baseOk_eq h1.out _)) | (go_at_call 55; exact Ext.same (pagesOk_eq h2.out _)) | (go_at_call 126; exact Ext.same (mutsOk_yes h3.out (hM.out.below (Ext.below _)))) | (go_at_call 100; exact Ext.same (isIn_eq h4.out _)) | (go_at_call 104; exact Ext.same (wordsOf_any _ hp0 hp1 _)) | (go_at_call 92; exact Ext.same (cardsOf_at _ hp0 hp1 _)) | (go_at_call 127; exact Ext.call (spans_ext (b := true) (fun h hp => Calls.isTrue h (by simpa using hp)) (spansOk_any _ _ D hp2 hp3 hm'.out _ (hW.out.below (Ext.below _)) (hBx.out.below (Ext.below _))) h7.out)) | (go_at_call 128; exact Ext.call (Calls.isTrue (restIsZero_any _ _ D hn h5.out hp3 h7.out _ (hW.out.below (Ext.below _)) (hBx.out.below (Ext.below _))) h8.out)))))
    refine wpQuiet_nil ?_
    intro _ hw'
    obtain ⟨x9, hw''⟩ := hw'
    subst hw''
    go_wp2
    go_ret
    exact ⟨IsB.no n.out, below_trans bw'.out (Ext.below _)⟩
  have h2 := Lib.hid e2
  clear e2
  have hp0 : 0 ≤ D.pages := by have := inB_iff.1 h2.out; omega
  have hp1 : D.pages ≤ 1000 := by have := inB_iff.1 h2.out; omega
  have hp2 : 1 ≤ D.pages := by have := inB_iff.1 h2.out; omega
  have hp3 : D.pages ≤ 12 := by have := inB_iff.1 h2.out; omega
  by_cases e3 : MutsForm D.muts
  case neg =>
    have h3 := Lib.hid e3
    have n := Lib.hid (show ¬ HeapForm D from fun h => h3.out (hF.out.1 h).2.2.1)
    clear e3
    go_enter Tryz.func97, Tryz.ntmps97
    go_wp2_with fail
    generalize w.alloc (.cells #[.int .i64 D.base, .int .i64 D.pages, .slice aw D.words.length cw, .slice ad D.dirty.length cd, vs, vm, .int .i64 D.phase, .int .i64 D.next, vg] 36) = W at *
    refine wp_region_ext (Below.refl _ _) (by kernel_rfl) (by kernel_rfl) ?_
    repeat (go_big_quiet_step ((first | (go_at_call 54; exact Ext.same (baseOk_eq h1.out _)) | (go_at_call 55; exact Ext.same (pagesOk_eq h2.out _)) | (go_at_call 126; exact Ext.same (mutsOk_no h3.out (hM.out.below (Ext.below _)))) | (go_at_call 100; exact Ext.same (isIn_eq h4.out _)) | (go_at_call 104; exact Ext.same (wordsOf_any _ hp0 hp1 _)) | (go_at_call 92; exact Ext.same (cardsOf_at _ hp0 hp1 _)) | (go_at_call 127; exact Ext.call (spans_ext (b := true) (fun h hp => Calls.isTrue h (by simpa using hp)) (spansOk_any _ _ D hp2 hp3 hm'.out _ (hW.out.below (Ext.below _)) (hBx.out.below (Ext.below _))) h7.out)) | (go_at_call 128; exact Ext.call (Calls.isTrue (restIsZero_any _ _ D hn h5.out hp3 h7.out _ (hW.out.below (Ext.below _)) (hBx.out.below (Ext.below _))) h8.out)))))
    refine wpQuiet_nil ?_
    intro _ hw'
    obtain ⟨x9, hw''⟩ := hw'
    subst hw''
    go_wp2
    go_ret
    exact ⟨IsB.no n.out, below_trans bw'.out (Ext.below _)⟩
  have h3 := Lib.hid e3
  clear e3
  cases e4 : inB D.phase 0 4
  case false =>
    have h4 := Lib.hid e4
    have n := Lib.hid (show ¬ HeapForm D from fun h => by have := (hF.out.1 h).2.2.2.1; rw [h4.out] at this; cases this)
    clear e4
    go_enter Tryz.func97, Tryz.ntmps97
    go_wp2_with fail
    generalize w.alloc (.cells #[.int .i64 D.base, .int .i64 D.pages, .slice aw D.words.length cw, .slice ad D.dirty.length cd, vs, vm, .int .i64 D.phase, .int .i64 D.next, vg] 36) = W at *
    refine wp_region_ext (Below.refl _ _) (by kernel_rfl) (by kernel_rfl) ?_
    repeat (go_big_quiet_step ((first | (go_at_call 54; exact Ext.same (baseOk_eq h1.out _)) | (go_at_call 55; exact Ext.same (pagesOk_eq h2.out _)) | (go_at_call 126; exact Ext.same (mutsOk_yes h3.out (hM.out.below (Ext.below _)))) | (go_at_call 100; exact Ext.same (isIn_eq h4.out _)) | (go_at_call 104; exact Ext.same (wordsOf_any _ hp0 hp1 _)) | (go_at_call 92; exact Ext.same (cardsOf_at _ hp0 hp1 _)) | (go_at_call 127; exact Ext.call (spans_ext (b := true) (fun h hp => Calls.isTrue h (by simpa using hp)) (spansOk_any _ _ D hp2 hp3 hm'.out _ (hW.out.below (Ext.below _)) (hBx.out.below (Ext.below _))) h7.out)) | (go_at_call 128; exact Ext.call (Calls.isTrue (restIsZero_any _ _ D hn h5.out hp3 h7.out _ (hW.out.below (Ext.below _)) (hBx.out.below (Ext.below _))) h8.out)))))
    refine wpQuiet_nil ?_
    intro _ hw'
    obtain ⟨x9, hw''⟩ := hw'
    subst hw''
    go_wp2
    go_ret
    exact ⟨IsB.no n.out, below_trans bw'.out (Ext.below _)⟩
  have h4 := Lib.hid e4
  clear e4
  by_cases e5 : (D.words.length : Int) = D.pages * 32
  case neg =>
    have d5 : ((D.words.length : Int) == D.pages * 32) = false := beq_eq_false_iff_ne.2 e5
    have h5 := Lib.hid e5
    have n := Lib.hid (show ¬ HeapForm D from fun h => h5.out (hF.out.1 h).2.2.2.2.1)
    clear e5
    go_enter Tryz.func97, Tryz.ntmps97
    go_wp2_with fail
    generalize w.alloc (.cells #[.int .i64 D.base, .int .i64 D.pages, .slice aw D.words.length cw, .slice ad D.dirty.length cd, vs, vm, .int .i64 D.phase, .int .i64 D.next, vg] 36) = W at *
    refine wp_region_ext (Below.refl _ _) (by kernel_rfl) (by kernel_rfl) ?_
    repeat (go_big_quiet_step ((first | (go_at_call 54; exact Ext.same (baseOk_eq h1.out _)) | (go_at_call 55; exact Ext.same (pagesOk_eq h2.out _)) | (go_at_call 126; exact Ext.same (mutsOk_yes h3.out (hM.out.below (Ext.below _)))) | (go_at_call 100; exact Ext.same (isIn_eq h4.out _)) | (go_at_call 104; exact Ext.same (wordsOf_any _ hp0 hp1 _)) | (go_at_call 92; exact Ext.same (cardsOf_at _ hp0 hp1 _)) | (go_at_call 127; exact Ext.call (spans_ext (b := true) (fun h hp => Calls.isTrue h (by simpa using hp)) (spansOk_any _ _ D hp2 hp3 hm'.out _ (hW.out.below (Ext.below _)) (hBx.out.below (Ext.below _))) h7.out)) | (go_at_call 128; exact Ext.call (Calls.isTrue (restIsZero_any _ _ D hn h5.out hp3 h7.out _ (hW.out.below (Ext.below _)) (hBx.out.below (Ext.below _))) h8.out)))))
    refine wpQuiet_nil ?_
    intro _ hw'
    obtain ⟨x9, hw''⟩ := hw'
    subst hw''
    go_wp2
    go_ret
    exact ⟨IsB.no n.out, below_trans bw'.out (Ext.below _)⟩
  have d5 : ((D.words.length : Int) == D.pages * 32) = true := beq_iff_eq.2 e5
  have h5 := Lib.hid e5
  clear e5
  by_cases e6 : (D.dirty.length : Int) = D.pages * 4
  case neg =>
    have d6 : ((D.dirty.length : Int) == D.pages * 4) = false := beq_eq_false_iff_ne.2 e6
    have h6 := Lib.hid e6
    have n := Lib.hid (show ¬ HeapForm D from fun h => h6.out (hF.out.1 h).2.2.2.2.2.1)
    clear e6
    go_enter Tryz.func97, Tryz.ntmps97
    go_wp2_with fail
    generalize w.alloc (.cells #[.int .i64 D.base, .int .i64 D.pages, .slice aw D.words.length cw, .slice ad D.dirty.length cd, vs, vm, .int .i64 D.phase, .int .i64 D.next, vg] 36) = W at *
    refine wp_region_ext (Below.refl _ _) (by kernel_rfl) (by kernel_rfl) ?_
    repeat (go_big_quiet_step ((first | (go_at_call 54; exact Ext.same (baseOk_eq h1.out _)) | (go_at_call 55; exact Ext.same (pagesOk_eq h2.out _)) | (go_at_call 126; exact Ext.same (mutsOk_yes h3.out (hM.out.below (Ext.below _)))) | (go_at_call 100; exact Ext.same (isIn_eq h4.out _)) | (go_at_call 104; exact Ext.same (wordsOf_any _ hp0 hp1 _)) | (go_at_call 92; exact Ext.same (cardsOf_at _ hp0 hp1 _)) | (go_at_call 127; exact Ext.call (spans_ext (b := true) (fun h hp => Calls.isTrue h (by simpa using hp)) (spansOk_any _ _ D hp2 hp3 hm'.out _ (hW.out.below (Ext.below _)) (hBx.out.below (Ext.below _))) h7.out)) | (go_at_call 128; exact Ext.call (Calls.isTrue (restIsZero_any _ _ D hn h5.out hp3 h7.out _ (hW.out.below (Ext.below _)) (hBx.out.below (Ext.below _))) h8.out)))))
    refine wpQuiet_nil ?_
    intro _ hw'
    obtain ⟨x9, hw''⟩ := hw'
    subst hw''
    go_wp2
    go_ret
    exact ⟨IsB.no n.out, below_trans bw'.out (Ext.below _)⟩
  have d6 : ((D.dirty.length : Int) == D.pages * 4) = true := beq_iff_eq.2 e6
  have h6 := Lib.hid e6
  clear e6
  by_cases e7 : SpansForm D
  case neg =>
    have h7 := Lib.hid e7
    have n := Lib.hid (show ¬ HeapForm D from fun h => h7.out (hF.out.1 h).2.2.2.2.2.2.1)
    clear e7
    go_enter Tryz.func97, Tryz.ntmps97
    go_wp2_with fail
    generalize w.alloc (.cells #[.int .i64 D.base, .int .i64 D.pages, .slice aw D.words.length cw, .slice ad D.dirty.length cd, vs, vm, .int .i64 D.phase, .int .i64 D.next, vg] 36) = W at *
    refine wp_region_ext (Below.refl _ _) (by kernel_rfl) (by kernel_rfl) ?_
    repeat (go_big_quiet_step ((first | (go_at_call 54; exact Ext.same (baseOk_eq h1.out _)) | (go_at_call 55; exact Ext.same (pagesOk_eq h2.out _)) | (go_at_call 126; exact Ext.same (mutsOk_yes h3.out (hM.out.below (Ext.below _)))) | (go_at_call 100; exact Ext.same (isIn_eq h4.out _)) | (go_at_call 104; exact Ext.same (wordsOf_any _ hp0 hp1 _)) | (go_at_call 92; exact Ext.same (cardsOf_at _ hp0 hp1 _)) | (go_at_call 127; exact Ext.call (spans_ext (b := false) (fun h hp => Calls.isFalse h (by simpa using hp)) (spansOk_any _ _ D hp2 hp3 hm'.out _ (hW.out.below (Ext.below _)) (hBx.out.below (Ext.below _))) h7.out)) | (go_at_call 128; exact Ext.call (Calls.isTrue (restIsZero_any _ _ D hn h5.out hp3 h7.out _ (hW.out.below (Ext.below _)) (hBx.out.below (Ext.below _))) h8.out)))))
    refine wpQuiet_nil ?_
    intro _ hw'
    obtain ⟨x9, hw''⟩ := hw'
    subst hw''
    go_wp2
    go_ret
    exact ⟨IsB.no n.out, below_trans bw'.out (Ext.below _)⟩
  have h7 := Lib.hid e7
  clear e7
  have hn : D.words.length ≤ 1048576 := by have := h5.out; omega
  by_cases e8 : RestZero D
  case neg =>
    have h8 := Lib.hid e8
    have n := Lib.hid (show ¬ HeapForm D from fun h => h8.out (hF.out.1 h).2.2.2.2.2.2.2)
    clear e8
    go_enter Tryz.func97, Tryz.ntmps97
    go_wp2_with fail
    generalize w.alloc (.cells #[.int .i64 D.base, .int .i64 D.pages, .slice aw D.words.length cw, .slice ad D.dirty.length cd, vs, vm, .int .i64 D.phase, .int .i64 D.next, vg] 36) = W at *
    refine wp_region_ext (Below.refl _ _) (by kernel_rfl) (by kernel_rfl) ?_
    repeat (go_big_quiet_step ((first | (go_at_call 54; exact Ext.same (baseOk_eq h1.out _)) | (go_at_call 55; exact Ext.same (pagesOk_eq h2.out _)) | (go_at_call 126; exact Ext.same (mutsOk_yes h3.out (hM.out.below (Ext.below _)))) | (go_at_call 100; exact Ext.same (isIn_eq h4.out _)) | (go_at_call 104; exact Ext.same (wordsOf_any _ hp0 hp1 _)) | (go_at_call 92; exact Ext.same (cardsOf_at _ hp0 hp1 _)) | (go_at_call 127; exact Ext.call (spans_ext (b := true) (fun h hp => Calls.isTrue h (by simpa using hp)) (spansOk_any _ _ D hp2 hp3 hm'.out _ (hW.out.below (Ext.below _)) (hBx.out.below (Ext.below _))) h7.out)) | (go_at_call 128; exact Ext.call (Calls.isFalse (restIsZero_any _ _ D hn h5.out hp3 h7.out _ (hW.out.below (Ext.below _)) (hBx.out.below (Ext.below _))) h8.out)))))
    refine wpQuiet_nil ?_
    intro _ hw'
    obtain ⟨x9, hw''⟩ := hw'
    subst hw''
    go_wp2
    go_ret
    exact ⟨IsB.no n.out, below_trans bw'.out (Ext.below _)⟩
  case pos =>
    have h8 := Lib.hid e8
    have n := Lib.hid (show HeapForm D from hF.out.2 ⟨h1.out, h2.out, h3.out, h4.out, h5.out, h6.out, h7.out, h8.out⟩)
    clear e8
    go_enter Tryz.func97, Tryz.ntmps97
    go_wp2_with fail
    generalize w.alloc (.cells #[.int .i64 D.base, .int .i64 D.pages, .slice aw D.words.length cw, .slice ad D.dirty.length cd, vs, vm, .int .i64 D.phase, .int .i64 D.next, vg] 36) = W at *
    refine wp_region_ext (Below.refl _ _) (by kernel_rfl) (by kernel_rfl) ?_
    repeat (go_big_quiet_step ((first | (go_at_call 54; exact Ext.same (baseOk_eq h1.out _)) | (go_at_call 55; exact Ext.same (pagesOk_eq h2.out _)) | (go_at_call 126; exact Ext.same (mutsOk_yes h3.out (hM.out.below (Ext.below _)))) | (go_at_call 100; exact Ext.same (isIn_eq h4.out _)) | (go_at_call 104; exact Ext.same (wordsOf_any _ hp0 hp1 _)) | (go_at_call 92; exact Ext.same (cardsOf_at _ hp0 hp1 _)) | (go_at_call 127; exact Ext.call (spans_ext (b := true) (fun h hp => Calls.isTrue h (by simpa using hp)) (spansOk_any _ _ D hp2 hp3 hm'.out _ (hW.out.below (Ext.below _)) (hBx.out.below (Ext.below _))) h7.out)) | (go_at_call 128; exact Ext.call (Calls.isTrue (restIsZero_any _ _ D hn h5.out hp3 h7.out _ (hW.out.below (Ext.below _)) (hBx.out.below (Ext.below _))) h8.out)))))
    refine wpQuiet_nil ?_
    intro _ hw'
    obtain ⟨x9, hw''⟩ := hw'
    subst hw''
    go_wp2
    go_ret
    exact ⟨IsB.yes n.out, below_trans bw'.out (Ext.below _)⟩
end Go.Proofs.YtpaepkcfdnddgaaGreat

namespace Go.Proofs.YtpaepkcfdnddgaaGreat
open Go.RowKit
set_option linter.unusedVariables false

def usedCnt (s : SpanD) (j : Nat) : Nat := ((s.lens.take j).filter fun l => decide (0 < l)).length
theorem usedCnt_zero (s : SpanD) : usedCnt s 0 = 0 := by simp [usedCnt]
theorem usedCnt_succ (s : SpanD) (j : Nat) (h : j < s.lens.length) : usedCnt s (j + 1) = usedCnt s j + if 0 < s.lens[j]?.getD 0 then 1 else 0 := by
  unfold usedCnt
  rw [List.take_succ_eq_append_getElem h, List.filter_append]
  by_cases e : 0 < s.lens[j]
  · simp [e, h]
  · simp [e, h]
theorem usedCnt_le (s : SpanD) (j : Nat) : usedCnt s j ≤ j := Nat.le_trans (List.length_filter_le _ _) (by simp; omega)
theorem usedUp_cnt (s : SpanD) (j : Nat) : usedUp s j = (usedCnt s j : Int) * sz s.cls := rfl

set_option maxHeartbeats 1000000 in
theorem addrI_any (B : Nat) (v : Value) (D : WD) (k slot : Nat) (s : SpanD) (hk : D.spans[k]? = some s) (hp0 : 0 ≤ s.page) (hp1 : s.page ≤ 1000) (hs : slot ≤ 1000) (hb0 : 0 ≤ D.base) (hb1 : D.base ≤ 1048576) (w : World) (hr : RdW w v D) (hB : BoxW w B v) :
    Calls Tryz.prog 108 #[.pointer (some ⟨B, 0, none⟩), .agg #[.int .i64 k, .int .i64 slot]] w fun e w' => e = .returned (.int .i64 (D.base + atW s slot)) ∧ Below w.heap.size w w' := by
  obtain ⟨vw, vd, vs, vm, vg, rfl, a1, a2, a3, a4, a5⟩ := hr
  obtain ⟨aS, cS, rfl, hsl, hx⟩ := a3
  obtain ⟨cs, he, hh⟩ := hB
  obtain rfl := (Value.agg.inj he).symm
  have hkl := (List.getElem?_eq_some_iff.1 hk).1
  obtain ⟨b1, o1, rfl, hss⟩ := hx k s hk
  have hkl' : (k : Int) < (D.spans.length : Int) := by omega
  unfold maxLen at hsl
  have hm := sz_bd s.cls
  have hm0 : 0 ≤ (slot : Int) * sz s.cls := Int.mul_nonneg (by omega) hm.1
  have hm1 : (slot : Int) * sz s.cls ≤ 16000 := by
    have := Int.mul_le_mul (show (slot : Int) ≤ 1000 by omega) hm.2 hm.1 (by omega)
    omega
  have hA0 : 0 ≤ atW s slot := by unfold atW; omega
  have hA1 : atW s slot ≤ 100000 := by unfold atW; omega
  have hsum : IntKind.i64.wrap (D.base + atW s slot) = D.base + atW s slot := IntWalk.i64_in _ (by omega)
  have hss' := Lib.hid hss
  have bb := below_box w (.cells #[.int .i64 k, .int .i64 slot] 126)
  have bn := box_new w (.cells #[.int .i64 k, .int .i64 slot] 126)
  have g0 := Ext.cell (cell_below bb (cell_of_heap hh 0 _ rfl))
  have g4 := Ext.cell (cell_below bb (cell_of_heap hh 4 _ rfl))
  have h0 := Ext.cell (cell_of_heap bn 0 _ rfl)
  have h1 := Ext.cell (cell_of_heap bn 1 _ rfl)
  have bb' := Lib.hid bb
  have hs2 := Lib.hid (hss.below bb)
  clear hx hk a1 a2 a4 a5 he hh hss bb bn
  go_enter Tryz.func108, Tryz.ntmps108
  go_wp2_with fail
  generalize w.alloc (.cells #[.int .i64 k, .int .i64 slot] 126) = W at *
  refine wp_region_ext (Below.refl _ _) (by kernel_rfl) (by kernel_rfl) ?_
  repeat (go_big_quiet_step ((go_at_call 142; exact Ext.call ((firstWord_any _ _ s _ hp0 hp1 (by omega) (by omega) _ (hs2.out.below (Ext.below _))).mono fun _ _ ⟨a, b⟩ => ⟨a, b.below⟩))))
  refine wpQuiet_nil ?_
  intro _ hw'
  obtain ⟨x9, hw''⟩ := hw'
  subst hw''
  go_wp2
  go_ret
  exact ⟨rfl, below_trans bb'.out x9.below⟩

end Go.Proofs.YtpaepkcfdnddgaaGreat

namespace Go.Proofs.YtpaepkcfdnddgaaGreat
open Go.RowKit
set_option linter.unusedVariables false

/-- The least slot whose length is 0; -1: none. -/
def freeS (s : SpanD) : Int := match s.lens.findIdx? (fun l => decide (l = 0)) with | some j => (j : Int) | none => -1
theorem freeS_yes {s : SpanD} {j : Nat} (hj : j < s.lens.length) (h0 : s.lens[j]?.getD 0 = 0) (h : ∀ i, i < j → s.lens[i]?.getD 0 ≠ 0) : freeS s = j := by
  have : s.lens.findIdx? (fun l => decide (l = 0)) = some j := by
    rw [List.findIdx?_eq_some_iff_getElem]
    refine ⟨hj, by simpa [hj] using h0, fun i hi => ?_⟩
    have := h i hi
    rw [List.getElem?_eq_getElem (by omega)] at this
    simpa using this
  unfold freeS
  rw [this]
theorem freeS_no {s : SpanD} (h : ∀ i, i < s.lens.length → s.lens[i]?.getD 0 ≠ 0) : freeS s = -1 := by
  have : s.lens.findIdx? (fun l => decide (l = 0)) = none := by
    rw [List.findIdx?_eq_none_iff]
    intro x hx
    obtain ⟨i, hi⟩ := List.mem_iff_getElem?.1 hx
    have := h i (List.getElem?_eq_some_iff.1 hi).1
    rw [hi] at this
    simpa using this
  unfold freeS
  rw [this]

/-- The least page that no span has, the spans standing in order. -/
def FreePg (D : WD) (k : Nat) : Prop := k ≤ D.spans.length ∧ (∀ (j : Nat) (s : SpanD), j < k → D.spans[j]? = some s → s.page = j) ∧ (∀ s, D.spans[k]? = some s → s.page ≠ k)

end Go.Proofs.YtpaepkcfdnddgaaGreat

namespace Go.Proofs.YtpaepkcfdnddgaaGreat
open Go.RowKit
open Go.Maps (Keyed)
set_option linter.unusedVariables false

/-- What a place reads as. -/
def dat (k j : Int) : DataW Unit := .agg [.lit (.int .i64 k), .lit (.int .i64 j)]
def placeElem : Value → Option (DataW Unit × List MemPlace)
  | .agg cs => match cs.toList with
    | [.int .i64 a, .int .i64 b] => some (dat a b, [])
    | _ => none
  | _ => none
theorem placeElem_mk (a b : Int) : placeElem (.agg #[.int .i64 a, .int .i64 b]) = some (dat a b, []) := rfl
theorem dat_inj {a b c d : Int} (h : dat a b = dat c d) : a = c ∧ b = d := by simpa [dat] using h
theorem placeElem_inv {v : Value} {z : DataW Unit × List MemPlace} (h : placeElem v = some z) : ∃ a b : Int, v = .agg #[.int .i64 a, .int .i64 b] ∧ z = (dat a b, []) := by
  unfold placeElem at h
  split at h
  · rename_i cs
    obtain ⟨l⟩ := cs
    split at h
    · rename_i heq
      simp at heq
      subst heq
      cases h
      exact ⟨_, _, rfl, rfl⟩
    · cases h
  · cases h
theorem zeroPlace (w : World) : (zeroValue 126).run Tryz.prog w = .ok (.agg #[.int .i64 0, .int .i64 0]) w := by kernel_rfl
theorem mapLaw : Keyed Tryz.prog 3 := Maps.int_keyed Tryz.underlying3
theorem key_i64 {a : Int} (h : I64 a) : keyOf Tryz.prog 3 (.int .i64 a) = some (.int .i64 a) := by
  obtain ⟨h1, h2⟩ := h
  exact Maps.keyOf_int_mk Tryz.underlying3 (WalkArith.wf_i64 (by omega))
theorem isKey (a : Int) : WideAt.IsKeyLit (.int .i64 a) := by first | trivial | simp [WideAt.IsKeyLit]

/-- Ahead of slot J of span K. -/
def Ahead (K J k j : Nat) : Prop := k < K ∨ (k = K ∧ j < J)
structure PlacesIs (D : WD) (M : DataW Unit) (K J : Nat) : Prop where
  isMap : Maps.IsMap M
  has : ∀ a : Int, Maps.has M (.int .i64 a) = true ↔ ∃ k j, Ahead K J k j ∧ IsObj D a k j
  is : ∀ (a : Int) (k j : Nat) (z : DataW Unit), Ahead K J k j → IsObj D a k j → M.atKey (.int .i64 a) z = dat k j
theorem PlacesIs.zero (D : WD) : PlacesIs D (.map []) 0 0 :=
  ⟨Maps.isMap_empty, fun a => ⟨fun h => by simp [Maps.has_eq] at h, fun ⟨k, j, h, _⟩ => by unfold Ahead at h; omega⟩, fun a k j z h => by unfold Ahead at h; omega⟩
theorem PlacesIs.skip {D : WD} {M : DataW Unit} {K J : Nat} {s : SpanD} (h : PlacesIs D M K J) (hs : D.spans[K]? = some s) (hl : ¬ 0 < s.lens[J]?.getD 0) : PlacesIs D M K (J + 1) := by
  have key : ∀ a k j, Ahead K (J + 1) k j → IsObj D a k j → Ahead K J k j := fun a k j ha ho => by
    rcases ha with ha | ⟨rfl, ha⟩
    · exact .inl ha
    · refine .inr ⟨rfl, ?_⟩
      by_cases e : j = J
      · subst e
        obtain ⟨t, ht, _, hpos, _⟩ := ho
        rw [hs] at ht
        cases ht
        exact absurd hpos hl
      · omega
  refine ⟨h.isMap, fun a => ?_, fun a k j z ha ho => h.is a k j z (key a k j ha ho) ho⟩
  rw [h.has a]
  exact ⟨fun ⟨k, j, ha, ho⟩ => ⟨k, j, ha.imp id fun ⟨e, hlt⟩ => ⟨e, by omega⟩, ho⟩, fun ⟨k, j, ha, ho⟩ => ⟨k, j, key a k j ha ho, ho⟩⟩
theorem PlacesIs.put {D : WD} (hF : HeapForm D) {M : DataW Unit} {K J : Nat} {s : SpanD} (h : PlacesIs D M K J) (hs : D.spans[K]? = some s) (hJ : J < s.lens.length) (hl : 0 < s.lens[J]?.getD 0) :
    PlacesIs D (M.put (.int .i64 (D.base + atW s (J : Int))) (dat K J)) K (J + 1) := by
  have ho : IsObj D (D.base + atW s (J : Int)) K J := ⟨s, hs, hJ, hl, rfl⟩
  have key : ∀ a k j, Ahead K (J + 1) k j → IsObj D a k j → a ≠ D.base + atW s (J : Int) → Ahead K J k j := fun a k j ha hi hne => by
    rcases ha with ha | ⟨rfl, ha⟩
    · exact .inl ha
    · refine .inr ⟨rfl, ?_⟩
      by_cases e : j = J
      · subst e
        obtain ⟨t, ht, _, _, he⟩ := hi
        rw [hs] at ht
        cases ht
        exact absurd he.symm hne
      · omega
  have lit : ∀ a : Int, a ≠ D.base + atW s (J : Int) → (Lit.int .i64 a) ≠ (Lit.int .i64 (D.base + atW s (J : Int))) := fun a hne e => hne (by simpa using e)
  refine ⟨h.isMap.put _ _, fun a => ?_, fun a k j z ha hi => ?_⟩
  · by_cases e : a = D.base + atW s (J : Int)
    · subst e
      rw [Maps.has_put_same h.isMap (isKey _)]
      exact ⟨fun _ => ⟨K, J, .inr ⟨rfl, by omega⟩, ho⟩, fun _ => rfl⟩
    · rw [Maps.has_put_other (lit a e), h.has a]
      exact ⟨fun ⟨k, j, ha, hi⟩ => ⟨k, j, ha.imp id fun ⟨e, hlt⟩ => ⟨e, by omega⟩, hi⟩, fun ⟨k, j, ha, hi⟩ => ⟨k, j, key a k j ha hi e, hi⟩⟩
  · by_cases e : a = D.base + atW s (J : Int)
    · subst e
      rw [Maps.atKey_put_same h.isMap (isKey _)]
      obtain ⟨rfl, rfl⟩ := hi.unique hF ho
      rfl
    · rw [Maps.atKey_put_other (lit a e)]
      exact h.is a k j z (key a k j ha hi e) hi
theorem PlacesIs.next {D : WD} {M : DataW Unit} {K : Nat} {s : SpanD} (h : PlacesIs D M K s.lens.length) (hs : D.spans[K]? = some s) : PlacesIs D M (K + 1) 0 := by
  have key : ∀ a k j, Ahead (K + 1) 0 k j → IsObj D a k j → Ahead K s.lens.length k j := fun a k j ha ho => by
    rcases ha with ha | ⟨_, ha⟩
    · by_cases e : k = K
      · subst e
        obtain ⟨t, ht, hj, _⟩ := ho
        rw [hs] at ht
        cases ht
        exact .inr ⟨rfl, hj⟩
      · exact .inl (by omega)
    · omega
  refine ⟨h.isMap, fun a => ?_, fun a k j z ha ho => h.is a k j z (key a k j ha ho) ho⟩
  rw [h.has a]
  exact ⟨fun ⟨k, j, ha, ho⟩ => ⟨k, j, .inl (by unfold Ahead at ha; omega), ho⟩, fun ⟨k, j, ha, ho⟩ => ⟨k, j, key a k j ha ho, ho⟩⟩

/-- The map of places, in a block of its own. -/
def OwnP (w : World) (g n : Nat) (M : DataW Unit) : Prop := w.ownsMap Tryz.prog 3 placeElem g n M
theorem OwnP.below {w w' : World} {g n : Nat} {M : DataW Unit} (h : OwnP w g n M) (hb : Below w.heap.size w w') : OwnP w' g n M := World.ownsMap.kept h (grown_of_below hb) (by simp)

set_option maxRecDepth 100000 in
set_option maxHeartbeats 8000000 in
theorem places_any (B : Nat) (v : Value) (D : WD) (hF : HeapForm D) (w : World) (hr : RdW w v D) (hB : BoxW w B v) :
    Calls Tryz.prog 129 #[.pointer (some ⟨B, 0, none⟩)] w fun e w' => ∃ g n M, e = .returned (.map (some g)) ∧ OwnP w' g n M ∧ PlacesIs D M D.spans.length 0 ∧ Below w.heap.size w w' := by
  have hr' := Lib.hid hr
  have hB' := Lib.hid hB
  have hF' := Lib.hid hF
  obtain ⟨vw, vd, vs, vm, vg, rfl, a1, a2, a3, a4, a5⟩ := hr
  obtain ⟨aS, cS, rfl, hls, hx⟩ := a3
  have g4 := Ext.cell (hB.elim fun cs h => by obtain rfl := (Value.agg.inj h.1).symm; exact cell_of_heap h.2 4 _ rfl)
  have f4 := g4 (Ext.self w)
  have hx' := Lib.hid hx
  have hsl := hF.spans
  have hpl := hF.geo.2.2.2.2.1
  have hbw : Below w.heap.size w (w.alloc (.map #[] 0)) := below_box w _
  have hmk := @run_makeMap Tryz.prog
  have hown0 := Lib.hid (show OwnP (w.alloc (.map #[] 0)) w.heap.size 0 (.map []) from World.ownsMap_made w Tryz.prog 3 placeElem)
  have hbw' := Lib.hid hbw
  have f4' := cell_below hbw f4
  clear hF hB hx hls a1 a2 a4 a5 hbw f4
  go_enter Tryz.func129, Tryz.ntmps129
  go_wp2_with fail
  clear f4'
  go_loopw [14] (fun i wr => ∃ (k : Nat) (M : DataW Unit), k ≤ D.spans.length ∧ i = .int .i64 k ∧ Hid (PlacesIs D M k 0) ∧ ∃ x : Ext w, wr = x.val ∧ Hid (OwnP x.val w.heap.size (k * 16) M)) (fun i _ => D.spans.length - (RowKit.intOf i).toNat)
  case atStart => exact ⟨0, .map [], Nat.zero_le _, rfl, PlacesIs.zero D, ⟨_, hbw'.out⟩, rfl, hown0.out⟩
  case round =>
    obtain ⟨k, M, hk, rfl, hP, x, rfl, hown⟩ := hrel
    by_cases hlt : k < D.spans.length
    · have hlt1 : (k : Int) < (D.spans.length : Int) := by omega
      obtain ⟨s, hks⟩ : ∃ s, D.spans[k]? = some s := ⟨_, List.getElem?_eq_getElem hlt⟩
      obtain ⟨b1, o1, rfl, hs⟩ := hx'.out k s hks
      obtain ⟨vl, vp, _, _, _, _, y4, _, ⟨al, cl, rfl, hll, xl⟩, _⟩ := hs
      have y4 := Ext.cell y4
      have xl' := Lib.hid xl
      have hA := hF'.out.span k s hks
      have hks' := Lib.hid hks
      have hl16 : s.lens.length ≤ 16 := by have := hA.lens; have := (sl_bd s.cls).2; omega
      clear hA hks xl hll
      go_wp2_with fail
      go_loopw [26] (fun i wr => ∃ (j : Nat) (M : DataW Unit), j ≤ s.lens.length ∧ i = .int .i64 j ∧ Hid (PlacesIs D M k j) ∧ ∃ x : Ext w, wr = x.val ∧ Hid (OwnP x.val w.heap.size (k * 16 + j) M)) (fun i _ => s.lens.length - (RowKit.intOf i).toNat)
      case atStart => exact ⟨0, M, Nat.zero_le _, rfl, hP, x, rfl, hown⟩
      case round =>
        clear hP hown
        obtain ⟨j, M, hj, rfl, hP, x, rfl, hown⟩ := hrel
        by_cases hjl : j < s.lens.length
        · have hj1 : (j : Int) < (s.lens.length : Int) := by omega
          obtain ⟨bl, ol, rfl, gl⟩ := xl'.out j hjl
          have gl := Ext.cell gl
          have hskip := Lib.hid (hP.out.skip hks'.out (J := j))
          have hput := Lib.hid (hP.out.put hF'.out hks'.out hjl)
          have hbd := Lib.hid (show I64 (D.base + atW s (j : Int)) from by
            have hA := hF'.out.span k s hks'.out
            have hg := hF'.out.geo
            have h1 := hA.pg0
            have h2 := hA.pg1
            have hm := sz_bd s.cls
            have hm0 : 0 ≤ (j : Int) * sz s.cls := Int.mul_nonneg (by omega) hm.1
            have hm1 : (j : Int) * sz s.cls ≤ 16000 := by
              have := Int.mul_le_mul (show (j : Int) ≤ 1000 by omega) hm.2 hm.1 (by omega)
              omega
            have hg1 := hg.1
            have hg2 := hg.2.1
            unfold I64 atW
            omega)
          generalize s.lens[j]?.getD 0 = l at *
          by_cases hl : 0 < l
          · have hP2 := Lib.hid (hput.out hl)
            have bb := below_box x.val (.cells #[.int .i64 k, .int .i64 j] 126)
            have bn := box_new x.val (.cells #[.int .i64 k, .int .i64 j] 126)
            have bbh := Lib.hid (below_trans x.below bb)
            have bnh := Lib.hid bn
            have hown1 := Lib.hid (OwnP.below hown.out bb)
            have hcall := Lib.hid (fun (w2 : World) (hb : Below w.heap.size w w2) => addrI_any B _ D k j s hks'.out (hF'.out.span k s hks'.out).pg0 (by have := (hF'.out.span k s hks'.out).pg1; omega) (by omega) (by have := hF'.out.geo.1; omega) hF'.out.geo.2.1 w2 (hr'.out.below hb) (hB'.out.below hb))
            have hstep := Lib.hid (show ∀ w2, Below (x.val.alloc (.cells #[.int .i64 k, .int .i64 j] 126)).heap.size (x.val.alloc (.cells #[.int .i64 k, .int .i64 j] 126)) w2 →
                w2.cell? ⟨x.val.heap.size, 0, none⟩ = some (.int .i64 k) ∧ w2.cell? ⟨x.val.heap.size, 1, none⟩ = some (.int .i64 j) ∧
                ∃ w3, (Instr.mapUpdate 142 (.map (some w.heap.size)) (.int .i64 (D.base + atW s (j : Int))) (.agg #[.int .i64 k, .int .i64 j])).run Tryz.prog w2 = .ok () w3 ∧ Hid (OwnP w3 w.heap.size (k * 16 + (j + 1)) (M.put (.int .i64 (D.base + atW s (j : Int))) (dat k j))) ∧ Hid (Below w.heap.size w w3) from fun w2 b3 => by
              refine ⟨cell_of_heap (heap_below b3 bnh.out) 0 _ rfl, cell_of_heap (heap_below b3 bnh.out) 1 _ rfl, ?_⟩
              obtain ⟨w3, hrun, hown3, hg3⟩ := World.ownsMap.update (OwnP.below hown1.out b3) mapLaw Tryz.underlying142 (by unfold maxLen; omega) (key_i64 hbd.out) (placeElem_mk k j)
              exact ⟨w3, hrun, hown3, (below_trans bbh.out b3).grown hg3 (Nat.le_trans bbh.out.size b3.size) (fun q hq => by cases hq; exact Nat.le_refl _)⟩)
            clear hP hown hskip hput bb bn
            go_wp2_with fail
            go_region_with (first
              | (go_at_call 108; refine (hcall.out _ ?_).mono ?_; exact ⟨bbh.out.os, bbh.out.tape, bbh.out.output, bbh.out.size, bbh.out.block⟩; rintro e w2 ⟨rfl, b2⟩; obtain ⟨c0, c1, w3, hrun, hown4, b4⟩ := hstep.out w2 ⟨b2.os, b2.tape, b2.output, b2.size, b2.block⟩; clear b2))
            all_goals clear c0 c1 hrun
            all_goals obtain ⟨x2, rfl⟩ := Ext.of b4.out
            all_goals go_wp2_with fail
            all_goals go_roundw
            all_goals first
              | exact ⟨j + 1, _, by omega, by go_num, hP2, x2, rfl, hown4⟩
              | (simp [RowKit.intOf]; omega)
          · have hP2 := Lib.hid (hskip.out hl)
            have hown2 := Lib.hid (show OwnP x.val w.heap.size (k * 16 + (j + 1)) M from World.ownsMap.mono hown.out (by omega))
            clear hP hown
            go_wp2_with fail
            go_roundw
            case rel => exact ⟨j + 1, M, by omega, by go_num, hP2, x, rfl, hown2⟩
            case measure => simp [RowKit.intOf]; omega
        · obtain rfl : j = s.lens.length := by omega
          have hP2 := Lib.hid (hP.out.next hks'.out)
          have hown2 := Lib.hid (show OwnP x.val w.heap.size ((k + 1) * 16) M from World.ownsMap.mono hown.out (by omega))
          clear hP hown
          go_wp2_with fail
          go_roundw
          case rel => exact ⟨k + 1, M, by omega, by go_num, hP2, x, rfl, hown2⟩
          case measure => simp [RowKit.intOf]; omega
    · obtain rfl : k = D.spans.length := by omega
      go_wp2_with fail
      go_ret
      exact ⟨_, _, _, rfl, hown.out, hP.out, x.below⟩
end Go.Proofs.YtpaepkcfdnddgaaGreat

namespace Go.Proofs.YtpaepkcfdnddgaaGreat
open Go.RowKit
open Go.Maps (Keyed)
set_option linter.unusedVariables false

/-- 'at, ok := places[addr]': what comes is a place; ok as it is known. -/
theorem lookup_place {P : Program} (w : World) {ops : Array Oper} {rest : List Oper} {o : Oper} {a : Act} {Q : Exit → Act → World → Prop} (hP : P = Tryz.prog) (hg : o.guard = none) (m x : Operand) (hop : o.op = Op.lookup 142 m x true) (b n : Nat) (D : DataW Unit)
    (hm : a.eval m = .map (some b)) (hown : OwnP w b n D) (key : Value) (kl : Lit) (hx : a.eval x = key) (hkey : keyOf P 3 key = some kl) (ok : Bool) (hok : Maps.has D kl = ok) (c d : Int) (hcd : D.atKey kl (dat 0 0) = dat c d)
    (hK : wpList P ops Q rest (a.put o.dst (.tuple #[.agg #[.int .i64 c, .int .i64 d], .bool ok])) w) : wpList P ops Q (o :: rest) a w := by
  subst hP
  refine wpList_lookup_own_ok w hg m x _ hop 3 126 mapLaw Tryz.underlying142 placeElem (zeroPlace w) (dat 0 0) [] (placeElem_mk 0 0) b n D hm hown key kl hx hkey fun v ps hv => ?_
  obtain ⟨c', d', rfl, he⟩ := placeElem_inv hv
  have e := congrArg Prod.fst he
  simp only at e
  rw [hcd] at e
  obtain ⟨rfl, rfl⟩ := dat_inj e
  rw [hok]
  exact hK

end Go.Proofs.YtpaepkcfdnddgaaGreat

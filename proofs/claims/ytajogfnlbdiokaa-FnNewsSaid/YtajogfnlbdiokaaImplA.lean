/-
  The contracts of the program's small functions of the heap: isIn, wordsOf, cardsOf, baseOk, pagesOk, markBit, mutsOk, (*Span).formOk.
-/
import Derived.Test.YtajogfnlbdiokaaBits
import Derived.Deep.RegionWith
namespace Go.Proofs.Ytajogfnlbdiokaa
open Go.RowKit
set_option linter.unusedVariables false

def inB (n l h : Int) : Bool := decide (l ≤ n) && decide (n ≤ h)
theorem inB_yes {n l h : Int} (h1 : l ≤ n) (h2 : n ≤ h) : inB n l h = true := by simp [inB, h1, h2]
theorem inB_no {n l h : Int} (h1 : n < l ∨ h < n) : inB n l h = false := by
  unfold inB
  rcases h1 with h1 | h1
  · simp [show ¬ l ≤ n by omega]
  · simp [show ¬ n ≤ h by omega]
theorem inB_iff {n l h : Int} : inB n l h = true ↔ l ≤ n ∧ n ≤ h := by simp [inB]

set_option maxHeartbeats 400000 in
theorem isIn_any (n l h : Int) (w : World) : Calls Try.prog 46 #[.int .i64 n, .int .i64 l, .int .i64 h] w fun e w' => e = .returned (.bool (inB n l h)) ∧ w = w' := by
  by_cases h1 : l ≤ n
  · by_cases h2 : n ≤ h
    · have hb := Lib.hid (inB_yes h1 h2)
      rw [hb.out]
      go_enter Try.func46, Try.ntmps46
      go_wp2
      go_ret
      exact ⟨rfl, rfl⟩
    · rw [inB_no (n := n) (l := l) (h := h) (.inr (by omega))]
      go_enter Try.func46, Try.ntmps46
      go_wp2
      go_ret
      exact ⟨rfl, rfl⟩
  · rw [inB_no (n := n) (l := l) (h := h) (.inl (by omega))]
    go_enter Try.func46, Try.ntmps46
    go_wp2
    go_ret
    exact ⟨rfl, rfl⟩
theorem isIn_eq {n l h : Int} {v : Bool} (hv : inB n l h = v) (w : World) : Calls Try.prog 46 #[.int .i64 n, .int .i64 l, .int .i64 h] w fun e w' => e = .returned (.bool v) ∧ w = w' := by
  rw [← hv]; exact isIn_any n l h w

def baseB (b : Int) : Bool := inB b 32 1048576 && (b % 32 == 0)
set_option maxHeartbeats 400000 in
theorem baseOk_any (b : Int) (w : World) : Calls Try.prog 44 #[.int .i64 b] w fun e w' => e = .returned (.bool (baseB b)) ∧ w = w' := by
  cases hv : inB b 32 1048576
  · have hb : baseB b = false := by simp [baseB, hv]
    rw [hb]
    clear hb
    have hv' := Lib.hid hv
    clear hv
    go_enter Try.func44, Try.ntmps44
    go_wp2_with (go_at_call 46; refine (isIn_eq hv'.out _).mono ?_; rintro e w' ⟨rfl, rfl⟩)
    go_ret
    exact ⟨rfl, rfl⟩
  · have h0 := inB_iff.1 hv
    obtain ⟨h1, h2⟩ := h0
    have hv' := Lib.hid hv
    have hb : baseB b = (b % 32 == 0) := by simp [baseB, hv]
    rw [hb]
    clear hb hv
    go_enter Try.func44, Try.ntmps44
    go_wp2_with (go_at_call 46; refine (isIn_eq hv'.out _).mono ?_; rintro e w' ⟨rfl, rfl⟩)
    go_ret
    exact ⟨rfl, rfl⟩
theorem pagesOk_any (p : Int) (w : World) : Calls Try.prog 45 #[.int .i64 p] w fun e w' => e = .returned (.bool (inB p 1 12)) ∧ w = w' := by
  go_enter Try.func45, Try.ntmps45
  go_wp2_with (go_at_call 46; refine (isIn_any _ _ _ _).mono ?_; rintro e w' ⟨rfl, rfl⟩)
  go_ret
  exact ⟨rfl, rfl⟩
theorem wordsOf_any (p : Int) (h0 : 0 ≤ p) (h1 : p ≤ 1000) (w : World) : Calls Try.prog 47 #[.int .i64 p] w fun e w' => e = .returned (.int .i64 (p * 32)) ∧ w = w' := by
  go_enter Try.func47, Try.ntmps47
  go_wp2
  go_ret
  exact ⟨rfl, rfl⟩
theorem cardsOf_at (p : Int) (h0 : 0 ≤ p) (h1 : p ≤ 1000) (w : World) : Calls Try.prog 48 #[.int .i64 p] w fun e w' => e = .returned (.int .i64 (p * 4)) ∧ w = w' := by
  go_enter Try.func48, Try.ntmps48
  go_wp2_with (go_at_call 47; refine (wordsOf_any _ h0 h1 _).mono ?_; rintro e w' ⟨rfl, rfl⟩)
  go_ret
  exact ⟨ret_int (by omega), rfl⟩
theorem wrapEq (x : Int) : IntKind.i64.wrap x = wrap64 x := IntWalk.i64_left x
theorem markBit_any (i : Nat) (h1 : i ≤ 16) (w : World) : Calls Try.prog 140 #[.int .i64 (i : Int)] w fun e w' => e = .returned (.int .i64 (2 ^ i)) ∧ w = w' := by
  have hp := pow16 h1
  have e : ((2 : Int) ^ i) = ((2 ^ i : Nat) : Int) := (Int.natCast_pow 2 i).symm
  have hw : IntKind.i64.wrap ((2 : Int) ^ i) = 2 ^ i := by
    rw [e]
    generalize 2 ^ i = p at hp ⊢
    exact IntWalk.i64_in _ (by omega)
  have hw' := Lib.hid (show wrap64 ((2 : Int) ^ i) = 2 ^ i from (wrapEq _).symm.trans hw)
  clear hw hp e
  go_enter Try.func140, Try.ntmps140
  go_wp2
  go_ret
  exact ⟨ret_int (by simpa using hw'.out), rfl⟩

/-- The lists of roots are as they should be. -/
def MutsForm (L : List (List Int)) : Prop := 1 ≤ L.length ∧ L.length ≤ 3 ∧ ∀ (j : Nat) (r : List Int), L[j]? = some r → r.length = 6
set_option maxHeartbeats 1000000 in
theorem mutsOk_any (v : Value) (L : List (List Int)) (w : World) (hr : RdM w v L) : Calls Try.prog 53 #[v] w fun e w' => IsB (MutsForm L) e ∧ w = w' := by
  obtain ⟨am, cm, rfl, hlm, xm⟩ := hr
  unfold maxLen at hlm
  have xm' := Lib.hid xm
  clear xm
  go_enter Try.func53, Try.ntmps53
  go_wp2_with fail
  go_loop [6] (fun i => ∃ i' : Nat, i' ≤ L.length ∧ i = .int .i64 i' ∧ Hid (∀ (j : Nat) (r : List Int), j < i' → L[j]? = some r → r.length = 6)) (fun i => L.length - (intOf i).toNat)
  case atStart => exact ⟨0, Nat.zero_le _, rfl, fun j r hj => absurd hj (by omega)⟩
  case round =>
    obtain ⟨i, hi, rfl, hz⟩ := hrel
    by_cases hil : i < L.length
    · have hil1 : (i : Int) < (L.length : Int) := by omega
      obtain ⟨r, hr⟩ : ∃ r, L[i]? = some r := ⟨_, List.getElem?_eq_getElem hil⟩
      obtain ⟨bm, om, vr, rfl, xc, xr⟩ := xm'.out i r hr
      obtain ⟨ar, cr, rfl, hlr, _⟩ := xr
      unfold maxLen at hlr
      have hr' := Lib.hid hr
      clear hr
      by_cases h6 : (r.length : Int) = 6
      · have hn := Lib.hid (show ∀ (j : Nat) (r : List Int), j < i + 1 → L[j]? = some r → r.length = 6 from fun j r2 hj hr2 => if e : j = i then by subst e; rw [hr'.out] at hr2; cases hr2; omega else hz.out j r2 (by omega) hr2)
        have hb6 : ((r.length : Int) != 6) = false := by rw [bne_eq_false_iff_eq]; exact h6
        clear h6 hz
        go_wp2_with fail
        go_round
        case rel => exact ⟨i + 1, by omega, by go_num, hn⟩
        case measure => simp [intOf]; omega
      · have n := Lib.hid (show ¬ MutsForm L from fun h => h6 (by have := h.2.2 i r hr'.out; omega))
        have hb6 : ((r.length : Int) != 6) = true := by rw [bne_iff_ne]; exact h6
        clear h6 hz
        go_wp2_with fail
        go_ret
        exact ⟨IsB.no n.out, rfl⟩
    · obtain rfl : i = L.length := by omega
      have hall := Lib.hid (show inB (L.length : Int) 1 3 = true ↔ MutsForm L from by
        rw [inB_iff]
        exact ⟨fun h => ⟨by omega, by omega, fun k r hr => hz.out k r (List.getElem?_eq_some_iff.1 hr).1 hr⟩, fun h => ⟨by have := h.1; omega, by have := h.2.1; omega⟩⟩)
      clear hz
      go_wp2_with (go_at_call 46; refine (isIn_any _ _ _ _).mono ?_; rintro e w' ⟨rfl, rfl⟩)
      go_ret
      exact ⟨⟨_, rfl, hall.out⟩, rfl⟩

/-- A span but for its page. -/
structure SpanForm (s : SpanD) : Prop where
  cls : sl' s.cls ≠ 0
  lens : (s.lens.length : Int) = sl' s.cls
  ptrs : (s.ptrs.length : Int) = sl' s.cls
  slot : ∀ i, i < s.lens.length → SlotOk s i
  mk0 : 0 ≤ s.mark
  mk1 : s.mark < 2 ^ s.lens.length
structure SlotLen (s : SpanD) (i : Nat) : Prop where
  l0 : 0 ≤ s.lens[i]?.getD 0
  l1 : s.lens[i]?.getD 0 ≤ sz s.cls
  p0 : 0 ≤ s.ptrs[i]?.getD 0
  p1 : s.ptrs[i]?.getD 0 ≤ s.lens[i]?.getD 0
theorem SpanForm.mk' {s : SpanD} (h1 : sl' s.cls ≠ 0) (h2 : (s.lens.length : Int) = sl' s.cls) (h3 : (s.ptrs.length : Int) = sl' s.cls) (h4 : ∀ i, i < s.lens.length → SlotLen s i) :
    MarkFits s.lens s.mark s.lens.length ↔ SpanForm s := by
  constructor
  · rintro ⟨h5, h6, h7⟩
    exact ⟨h1, h2, h3, fun i hi => ⟨(h4 i hi).l0, (h4 i hi).l1, (h4 i hi).p0, (h4 i hi).p1, fun h0 hb => by have := h7 i hi hb; omega⟩, h5, h6⟩
  · intro h
    refine ⟨h.mk0, h.mk1, fun i hi hb => ?_⟩
    have := (h.slot i hi).l0
    have hne : s.lens[i]?.getD 0 ≠ 0 := fun h0 => (h.slot i hi).bit h0 hb
    omega
theorem SpanForm.len (s : SpanD) (h : SpanForm s) (i : Nat) (hi : i < s.lens.length) : SlotLen s i := ⟨(h.slot i hi).l0, (h.slot i hi).l1, (h.slot i hi).p0, (h.slot i hi).p1⟩

set_option maxRecDepth 100000 in
set_option maxHeartbeats 4000000 in
theorem spanForm_any (b o : Nat) (s : SpanD) (hm0 : -9223372036854775808 ≤ s.mark) (hm1 : s.mark ≤ 9223372036854775807) (w : World) (hr : RdSpan w b o s) :
    Calls Try.prog 115 #[.pointer (some ⟨b, o, none⟩)] w fun e w' => IsB (SpanForm s) e ∧ w = w' := by
  obtain ⟨vl, vp, x0, x1, x2, x3, x4, x5, xl, xp⟩ := hr
  obtain ⟨al, cl, rfl, hll, xl⟩ := xl
  obtain ⟨ap, cp, rfl, hpl, xp⟩ := xp
  unfold maxLen at hll hpl
  have xl' := Lib.hid xl
  have xp' := Lib.hid xp
  have hmm := Lib.hid (And.intro hm0 hm1)
  clear xl xp x0 x3 hm0 hm1
  by_cases c4 : sl' s.cls = 0
  case pos =>
    have n := Lib.hid (show ¬ SpanForm s from fun h => h.cls c4)
    have d4 : (sl' s.cls == 0) = true := beq_iff_eq.2 c4
    clear c4
    go_enter Try.func115, Try.ntmps115
    go_wp2_with (go_at_call 135; refine (slots_any _ _).mono ?_; rintro e w' ⟨rfl, rfl⟩)
    go_ret
    exact ⟨IsB.no n.out, rfl⟩
  have d4 : (sl' s.cls == 0) = false := beq_eq_false_iff_ne.2 c4
  have e4 := Lib.hid c4
  clear c4
  by_cases c5 : (s.lens.length : Int) = sl' s.cls
  case neg =>
    have n := Lib.hid (show ¬ SpanForm s from fun h => c5 h.lens)
    have d5 : ((s.lens.length : Int) != sl' s.cls) = true := by rw [bne_iff_ne]; exact c5
    clear c5
    go_enter Try.func115, Try.ntmps115
    go_wp2_with (go_at_call 135; refine (slots_any _ _).mono ?_; rintro e w' ⟨rfl, rfl⟩)
    go_ret
    exact ⟨IsB.no n.out, rfl⟩
  have d5 : ((s.lens.length : Int) != sl' s.cls) = false := by rw [bne_eq_false_iff_eq]; exact c5
  have e5 := Lib.hid c5
  clear c5
  by_cases c6 : (s.ptrs.length : Int) = sl' s.cls
  case neg =>
    have n := Lib.hid (show ¬ SpanForm s from fun h => c6 h.ptrs)
    have d6 : ((s.ptrs.length : Int) != sl' s.cls) = true := by rw [bne_iff_ne]; exact c6
    clear c6
    go_enter Try.func115, Try.ntmps115
    go_wp2_with (go_at_call 135; refine (slots_any _ _).mono ?_; rintro e w' ⟨rfl, rfl⟩)
    go_ret
    exact ⟨IsB.no n.out, rfl⟩
  have d6 : ((s.ptrs.length : Int) != sl' s.cls) = false := by rw [bne_eq_false_iff_eq]; exact c6
  have e6 := Lib.hid c6
  clear c6
  have hl16 : s.lens.length ≤ 16 := by have := e5.out; have := (sl_bd s.cls).2; omega
  have hpp := Lib.hid (show s.ptrs.length = s.lens.length by have := e5.out; have := e6.out; omega)
  go_enter Try.func115, Try.ntmps115
  go_wp2_with (go_at_call 135; refine (slots_any _ _).mono ?_; rintro e w' ⟨rfl, rfl⟩)
  clear d4 d5 d6
  go_loop [4, 37] (fun u i => ∃ i' : Nat, i' ≤ s.lens.length ∧ i = .int .i64 i' ∧ u = .int .i64 (usedM s.lens i' : Int) ∧ Hid (∀ j, j < i' → SlotLen s j)) (fun u i => s.lens.length - (intOf i).toNat)
  case atStart => exact ⟨0, Nat.zero_le _, rfl, rfl, fun j hj => absurd hj (by omega)⟩
  case round =>
    obtain ⟨i, hi, rfl, rfl, hok⟩ := hrel
    by_cases hlt : i < s.lens.length
    · have hlt1 : (i : Int) < (s.lens.length : Int) := by omega
      obtain ⟨bl, ol, rfl, gl⟩ := xl'.out i hlt
      obtain ⟨bp, op, rfl, gp⟩ := xp'.out i (by have := hpp.out; omega)
      have hlt2 : (i : Int) < (s.ptrs.length : Int) := by have := hpp.out; omega
      have hszb := sz_bd s.cls
      have hall := Lib.hid (show SlotLen s i ↔ _ from ⟨fun h => (⟨h.l0, h.l1, h.p0, h.p1⟩ : 0 ≤ s.lens[i]?.getD 0 ∧ s.lens[i]?.getD 0 ≤ sz s.cls ∧ 0 ≤ s.ptrs[i]?.getD 0 ∧ s.ptrs[i]?.getD 0 ≤ s.lens[i]?.getD 0), fun h => ⟨h.1, h.2.1, h.2.2.1, h.2.2.2⟩⟩)
      have hor := Lib.hid (or_used s.lens i (by omega))
      have hsu := Lib.hid (show usedM s.lens (i + 1) = usedM s.lens i + if 0 < s.lens[i]?.getD 0 then 2 ^ i else 0 from rfl)
      have hub := usedM_lt s.lens i
      have hub2 := pow16 (show i ≤ 16 by omega)
      have hub3 : usedM s.lens i ≤ 65536 := by omega
      clear hub hub2
      generalize s.lens[i]?.getD 0 = l at *
      generalize s.ptrs[i]?.getD 0 = q at *
      by_cases q1 : 0 ≤ l ∧ l ≤ sz s.cls
      case neg =>
        have n := Lib.hid (show ¬ SpanForm s from fun h => q1 ⟨(hall.out.1 (h.len _ i hlt)).1, (hall.out.1 (h.len _ i hlt)).2.1⟩)
        have hb := Lib.hid (inB_no (n := l) (l := 0) (h := sz s.cls) (by omega))
        clear q1
        go_wp2_with (first
          | (go_at_call 57; refine (size_any _ _).mono ?_; rintro e w' ⟨rfl, rfl⟩)
          | (go_at_call 46; refine (isIn_eq hb.out _).mono ?_; rintro e w' ⟨rfl, rfl⟩))
        go_ret
        exact ⟨IsB.no n.out, rfl⟩
      have hb := Lib.hid (inB_yes q1.1 q1.2)
      by_cases q2 : 0 ≤ q ∧ q ≤ l
      case neg =>
        have n := Lib.hid (show ¬ SpanForm s from fun h => q2 ⟨(hall.out.1 (h.len _ i hlt)).2.2.1, (hall.out.1 (h.len _ i hlt)).2.2.2⟩)
        have hb2 := Lib.hid (inB_no (n := q) (l := 0) (h := l) (by omega))
        clear q1 q2
        go_wp2_with (first
          | (go_at_call 57; refine (size_any _ _).mono ?_; rintro e w' ⟨rfl, rfl⟩)
          | (go_at_call 46; first | ((with_reducible refine (isIn_eq hb.out _).mono ?_); rintro e w' ⟨rfl, rfl⟩) | ((with_reducible refine (isIn_eq hb2.out _).mono ?_); rintro e w' ⟨rfl, rfl⟩)))
        go_ret
        exact ⟨IsB.no n.out, rfl⟩
      have hb2 := Lib.hid (inB_yes q2.1 q2.2)
      have ok := Lib.hid (hall.out.2 ⟨q1.1, q1.2, q2.1, q2.2⟩)
      clear q2
      by_cases q3 : 0 < l
      · have hsu2 := Lib.hid (show usedM s.lens (i + 1) = usedM s.lens i + 2 ^ i by rw [hsu.out, if_pos q3])
        clear q1
        go_wp2_with (first
          | (go_at_call 57; refine (size_any _ _).mono ?_; rintro e w' ⟨rfl, rfl⟩)
          | (go_at_call 140; refine (markBit_any i (by omega) _).mono ?_; rintro e w' ⟨rfl, rfl⟩)
          | (go_at_call 46; first | ((with_reducible refine (isIn_eq hb.out _).mono ?_); rintro e w' ⟨rfl, rfl⟩) | ((with_reducible refine (isIn_eq hb2.out _).mono ?_); rintro e w' ⟨rfl, rfl⟩)))
        go_round
        case rel => exact ⟨i + 1, by omega, by go_num, by rw [hsu2.out, hor.out], fun j hj => if hj' : j < i then hok.out j hj' else by rw [show j = i by omega]; exact ok.out⟩
        case measure => simp [intOf]; omega
      · have hsu2 := Lib.hid (show usedM s.lens (i + 1) = usedM s.lens i by rw [hsu.out, if_neg q3, Nat.add_zero])
        clear q1
        go_wp2_with (first
          | (go_at_call 57; refine (size_any _ _).mono ?_; rintro e w' ⟨rfl, rfl⟩)
          | (go_at_call 46; first | ((with_reducible refine (isIn_eq hb.out _).mono ?_); rintro e w' ⟨rfl, rfl⟩) | ((with_reducible refine (isIn_eq hb2.out _).mono ?_); rintro e w' ⟨rfl, rfl⟩)))
        go_round
        case rel => exact ⟨i + 1, by omega, by go_num, by rw [hsu2.out], fun j hj => if hj' : j < i then hok.out j hj' else by rw [show j = i by omega]; exact ok.out⟩
        case measure => simp [intOf]; omega
    · obtain rfl : i = s.lens.length := by omega
      have hF := SpanForm.mk' e4.out e5.out e6.out hok.out
      have hA := andNot_used s.lens s.mark s.lens.length hl16 hmm.out.1 hmm.out.2
      have hend := Lib.hid (show (bits BinOp.andNot IntKind.i64 s.mark (usedM s.lens s.lens.length : Int) == 0) = true ↔ SpanForm s by rw [beq_iff_eq, hA, hF])
      clear hF hA hok
      go_wp2_with fail
      go_ret
      exact ⟨⟨_, rfl, hend.out⟩, rfl⟩
end Go.Proofs.Ytajogfnlbdiokaa

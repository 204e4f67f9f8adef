/-
  The contracts of the program's spansOk, (*Span).firstWord, restIsZero.
-/
import Derived.Test.YtajogfnlbdiokaaImplA
import Derived.Test.YtajogfnlbdiokaaFormOk
import Derived.Test.YtajogfnlbdiokaaRead
namespace Go.Proofs.Ytajogfnlbdiokaa
open Go.RowKit
set_option linter.unusedVariables false

theorem Calls.isTrue {P : Prop} {R : World → Prop} {f : FuncId} {args : Array Value} {w : World} (h : Calls Try.prog f args w fun e w' => IsB P e ∧ R w') (hp : P) : Calls Try.prog f args w fun e w' => e = .returned (.bool true) ∧ R w' :=
  h.mono fun e w' ⟨hb, hr⟩ => ⟨by rcases hb.elim with ⟨_, rfl⟩ | ⟨hn, _⟩; rfl; exact absurd hp hn, hr⟩
theorem Calls.isFalse {P : Prop} {R : World → Prop} {f : FuncId} {args : Array Value} {w : World} (h : Calls Try.prog f args w fun e w' => IsB P e ∧ R w') (hp : ¬ P) : Calls Try.prog f args w fun e w' => e = .returned (.bool false) ∧ R w' :=
  h.mono fun e w' ⟨hb, hr⟩ => ⟨by rcases hb.elim with ⟨hn, _⟩ | ⟨_, rfl⟩; exact absurd hn hp; rfl, hr⟩
theorem same_symm {R : Ending → Prop} {f : FuncId} {args : Array Value} {w : World} (h : Calls Try.prog f args w fun e w' => R e ∧ w = w') : Calls Try.prog f args w fun e w' => R e ∧ w' = w :=
  h.mono fun _ _ ⟨a, b⟩ => ⟨a, b.symm⟩

/-- Nothing has been done but that orders were drawn. -/
structure Drawn (w w' : World) : Prop where
  mk :: (is : ∃ n, w' = w.drewN n)
theorem Drawn.refl (w : World) : Drawn w w := ⟨0, rfl⟩
theorem Drawn.more {w w' : World} (h : Drawn w w') (n : Nat) : Drawn w (w'.drewN n) := by
  obtain ⟨m, rfl⟩ := h.is
  exact ⟨_, World.drewN_drewN _ _ _⟩
theorem Drawn.trans {a b c : World} (h : Drawn a b) (k : Drawn b c) : Drawn a c := by
  obtain ⟨m, rfl⟩ := k.is
  exact h.more m
theorem Drawn.heap {w w' : World} (h : Drawn w w') : w'.heap = w.heap := by
  obtain ⟨m, rfl⟩ := h.is
  rfl
theorem Drawn.cell {w w' : World} (h : Drawn w w') {a : Addr} {v : Value} (hc : w.cell? a = some v) : w'.cell? a = some v := by
  obtain ⟨m, rfl⟩ := h.is
  exact hc
theorem Drawn.below {w w' : World} (h : Drawn w w') : Below w.heap.size w w' := by
  obtain ⟨m, rfl⟩ := h.is
  exact below_drewN (Below.refl _ _) _
theorem Drawn.quiet {f : FuncId} {args : Array Value} {w : World} {n : Nat} {v : Value} (h : Calls Try.prog f args (w.drewN n) fun e w' => e = .returned v ∧ Drawn (w.drewN n) w') :
    Calls Try.prog f args (w.drewN n) fun e w'' => e = .returned v ∧ ∃ m, w'' = w.drewN m :=
  Calls.quiet_of (h.mono fun _ _ ⟨a, b⟩ => ⟨a, b.is⟩)

def SpansForm (D : WD) : Prop := ∀ (k : Nat) (s : SpanD), D.spans[k]? = some s → SpanAt D k s
/-- The least page that span number k may have. -/
def leastD (D : WD) : Nat → Int
  | 0 => 0
  | k + 1 => (D.spans[k]?.map fun s => s.page + 1).getD 0
theorem leastD_succ {D : WD} {k : Nat} {s : SpanD} (h : D.spans[k]? = some s) : leastD D (k + 1) = s.page + 1 := by simp [leastD, h]
theorem spanAt_iff {D : WD} {k : Nat} {s : SpanD} (hk : D.spans[k]? = some s) (hp : ∀ (j : Nat) (s : SpanD), j < k → D.spans[j]? = some s → SpanAt D j s) :
    SpanAt D k s ↔ (leastD D k ≤ s.page ∧ s.page ≤ D.pages - 1) ∧ SpanForm s := by
  have hlt := (List.getElem?_eq_some_iff.1 hk).1
  constructor
  · intro h
    refine ⟨⟨?_, by have := h.pg1; omega⟩, h.cls, h.lens, h.ptrs, h.slot, h.mk0, h.mk1⟩
    cases k with
    | zero => exact h.pg0
    | succ k =>
      obtain ⟨t, ht⟩ : ∃ t, D.spans[k]? = some t := ⟨_, List.getElem?_eq_getElem (by omega)⟩
      rw [leastD_succ ht]
      have := h.prev t (by omega) (by simpa using ht)
      omega
  · rintro ⟨⟨h1, h2⟩, h⟩
    have h0 : 0 ≤ leastD D k := by
      cases k with
      | zero => exact Int.le_refl 0
      | succ k =>
        obtain ⟨t, ht⟩ : ∃ t, D.spans[k]? = some t := ⟨_, List.getElem?_eq_getElem (by omega)⟩
        rw [leastD_succ ht]
        have := (hp k t (by omega) ht).pg0
        omega
    refine ⟨by omega, by omega, fun s' hk0 hs' => ?_, h.cls, h.lens, h.ptrs, h.slot, h.mk0, h.mk1⟩
    cases k with
    | zero => exact absurd rfl hk0
    | succ k =>
      have hs2 : D.spans[k]? = some s' := by simpa using hs'
      rw [leastD_succ hs2] at h1
      omega

theorem RdSpan.drewN {w : World} {b o : Nat} {s : SpanD} (h : RdSpan w b o s) (n : Nat) : RdSpan (w.drewN n) b o s := h
theorem RdS.drewN {w : World} {v : Value} {L : List SpanD} (h : RdS w v L) (n : Nat) : RdS (w.drewN n) v L := h
theorem RdM.drewN {w : World} {v : Value} {L : List (List Int)} (h : RdM w v L) (n : Nat) : RdM (w.drewN n) v L := h
theorem RdW.drewN {w : World} {v : Value} {D : WD} (h : RdW w v D) (n : Nat) : RdW (w.drewN n) v D := h
theorem BoxW.drewN {w : World} {B : Nat} {v : Value} (h : BoxW w B v) (n : Nat) : BoxW (w.drewN n) B v := h

set_option maxRecDepth 100000 in
set_option maxHeartbeats 4000000 in
theorem spansOk_any (B : Nat) (v : Value) (D : WD) (hp0 : 1 ≤ D.pages) (hp1 : D.pages ≤ 12) (hm : MarksIn D) (w : World) (hr : RdW w v D) (hB : BoxW w B v) :
    Calls Try.prog 54 #[.pointer (some ⟨B, 0, none⟩)] w fun e w' => IsB (SpansForm D) e ∧ Drawn w w' := by
  obtain ⟨vw, vd, vs, vm, vg, rfl, a1, a2, a3, a4, a5⟩ := hr
  obtain ⟨aS, cS, rfl, hsl, hx⟩ := a3
  obtain ⟨cs, he, hh⟩ := hB
  obtain rfl := (Value.agg.inj he).symm
  unfold maxLen at hsl
  have f1 := cell_of_heap hh 1 _ rfl
  have f4 := cell_of_heap hh 4 _ rfl
  have hx' := Lib.hid hx
  have hm' := Lib.hid hm
  have F := Lib.hid (And.intro f1 f4)
  clear hx hh he a1 a2 a4 a5 hm
  go_enter Try.func54, Try.ntmps54
  go_wp2_with fail
  clear f1 f4
  go_loopw [3, 11] (fun l i wr => ∃ (k : Nat), k ≤ D.spans.length ∧ i = .int .i64 k ∧ l = .int .i64 (leastD D k) ∧ Hid (∀ (j : Nat) (s : SpanD), j < k → D.spans[j]? = some s → SpanAt D j s) ∧ Drawn w wr) (fun l i _ => D.spans.length - (intOf i).toNat)
  case atStart => exact ⟨0, Nat.zero_le _, rfl, rfl, fun j s hj => absurd hj (by omega), Drawn.refl w⟩
  case round =>
    obtain ⟨k, hk, rfl, rfl, hok, hw⟩ := hrel
    have g1 := hw.cell F.out.1
    have g4 := hw.cell F.out.2
    by_cases hlt : k < D.spans.length
    · obtain ⟨s, hks⟩ : ∃ s, D.spans[k]? = some s := ⟨_, List.getElem?_eq_getElem hlt⟩
      have hlt1 : (k : Int) < (D.spans.length : Int) := by omega
      have hiff := Lib.hid (spanAt_iff hks hok.out)
      have hks' := Lib.hid hks
      obtain ⟨b1, o1, rfl, hs0⟩ := hx'.out k s hks
      have hs := hs0.below hw.below
      clear hs0
      have hs' := Lib.hid hs
      obtain ⟨vl, vp, x0, _⟩ := hs
      have hls := Lib.hid (leastD_succ hks)
      have hmk := Lib.hid (hm'.out k s hks)
      clear hks
      by_cases q1 : leastD D k ≤ s.page ∧ s.page ≤ D.pages - 1
      case neg =>
        have n' := Lib.hid (show ¬ SpansForm D from fun h => q1 (hiff.out.1 (h k s hks'.out)).1)
        have hb := Lib.hid (inB_no (n := s.page) (l := leastD D k) (h := D.pages - 1) (by omega))
        clear q1
        go_wp2_with fail
        have hwr : IntKind.i64.wrap (D.pages - 1) = D.pages - 1 := IntWalk.i64_in _ (by omega)
        go_quiet ((go_at_call 46; exact Calls.quiet_of_same (same_symm (isIn_eq hb.out _))))
        go_wp2
        go_ret
        exact ⟨IsB.no n'.out, hw.more _⟩
      have hb := Lib.hid (inB_yes q1.1 q1.2)
      have hpg0 : s.page ≤ 12 := by omega
      have hpg1 : -1 ≤ s.page := by
        have h0 : 0 ≤ leastD D k := by
          cases k with
          | zero => exact Int.le_refl 0
          | succ k =>
            obtain ⟨t, ht⟩ : ∃ t, D.spans[k]? = some t := ⟨_, List.getElem?_eq_getElem (by omega)⟩
            rw [leastD_succ ht]
            have := (hok.out k t (by omega) ht).pg0
            omega
        omega
      by_cases q2 : SpanForm s
      case neg =>
        have n' := Lib.hid (show ¬ SpansForm D from fun h => q2 (hiff.out.1 (h k s hks'.out)).2)
        have hc := Lib.hid (fun (w : World) (h : RdSpan w b1 (o1 + k * 6) s) => same_symm (Calls.isFalse (spanForm_any b1 (o1 + k * 6) s hmk.out.1 hmk.out.2 w h) q2))
        clear q1 q2
        go_wp2_with fail
        have hwr : IntKind.i64.wrap (D.pages - 1) = D.pages - 1 := IntWalk.i64_in _ (by omega)
        go_quiet ((first
          | (go_at_call 46; exact Calls.quiet_of_same (same_symm (isIn_eq hb.out _)))
          | (go_at_call 115; exact Calls.quiet_of_same (hc.out _ hs'.out))))
        go_wp2
        go_ret
        exact ⟨IsB.no n'.out, hw.more _⟩
      have hok2 := Lib.hid (show ∀ (j : Nat) (s : SpanD), j < k + 1 → D.spans[j]? = some s → SpanAt D j s from fun j s2 hj hs2 => if e : j = k then by subst e; rw [hks'.out] at hs2; cases hs2; exact hiff.out.2 ⟨q1, q2⟩ else hok.out j s2 (by omega) hs2)
      have hc := Lib.hid (fun (w : World) (h : RdSpan w b1 (o1 + k * 6) s) => same_symm (Calls.isTrue (spanForm_any b1 (o1 + k * 6) s hmk.out.1 hmk.out.2 w h) q2))
      clear q1 q2 hok
      go_wp2_with fail
      have hwr : IntKind.i64.wrap (D.pages - 1) = D.pages - 1 := IntWalk.i64_in _ (by omega)
      go_quiet ((first
        | (go_at_call 46; exact Calls.quiet_of_same (same_symm (isIn_eq hb.out _)))
        | (go_at_call 115; exact Calls.quiet_of_same (hc.out _ hs'.out))))
      go_wp2
      go_roundw
      case rel => exact ⟨k + 1, by omega, by go_num, by rw [hls.out], hok2, hw.more _⟩
      case measure => simp [intOf]; omega
    · obtain rfl : k = D.spans.length := by omega
      have y := Lib.hid (show SpansForm D from fun j s hs => hok.out j s (List.getElem?_eq_some_iff.1 hs).1 hs)
      clear hok
      go_wp2_with fail
      go_ret
      exact ⟨IsB.yes y.out, hw⟩

set_option maxHeartbeats 1000000 in
theorem firstWord_any (b o : Nat) (s : SpanD) (slot : Int) (hp0 : 0 ≤ s.page) (hp : s.page ≤ 1000) (h0 : 0 ≤ slot) (h1 : slot ≤ 1000) (w : World) (hr : RdSpan w b o s) :
    Calls Try.prog 75 #[.pointer (some ⟨b, o, none⟩), .int .i64 slot] w fun e w' => e = .returned (.int .i64 (atW s slot)) ∧ Drawn w w' := by
  have hb := sz_bd s.cls
  have hm0 : 0 ≤ slot * sz s.cls := Int.mul_nonneg h0 hb.1
  have hm1 : slot * sz s.cls ≤ 16000 := by
    have := Int.mul_le_mul h1 hb.2 hb.1 (by omega)
    omega
  obtain ⟨vl, vp, x0, x1, _⟩ := hr
  have e1 := Lib.hid (show IntKind.i64.wrap (s.page * 32) = s.page * 32 from IntWalk.i64_in _ (by omega))
  have e2 := Lib.hid (show IntKind.i64.wrap (slot * sz s.cls) = slot * sz s.cls from IntWalk.i64_in _ (by omega))
  have e3 := Lib.hid (show IntKind.i64.wrap (s.page * 32 + slot * sz s.cls) = s.page * 32 + slot * sz s.cls from IntWalk.i64_in _ (by omega))
  unfold atW
  go_enter Try.func75, Try.ntmps75
  go_wp2_with fail
  go_quiet ((go_at_call 57; exact Calls.quiet_of_same (same_symm (size_any _ _))))
  go_wp2
  go_ret
  exact ⟨rfl, _, rfl⟩
end Go.Proofs.Ytajogfnlbdiokaa

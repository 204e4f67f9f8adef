/-
  The contracts of the program's Span.freeSlot and World.freePage.
-/
import Derived.Test.YtajogfnlbdiokaaImplE
namespace Go.Proofs.Ytajogfnlbdiokaa
open Go.RowKit
set_option linter.unusedVariables false

/-- The least slot whose length is 0; -1: none. -/
def freeS (s : SpanD) : Int := match s.lens.findIdx? (fun l => decide (l = 0)) with | some j => (j : Int) | none => -1
theorem freeS_yes {s : SpanD} {j : Nat} (hj : j < s.lens.length) (h0 : s.lens[j]?.getD 0 = 0) (h : ∀ i, i < j → s.lens[i]?.getD 0 ≠ 0) : freeS s = j := by
  have : s.lens.findIdx? (fun l => decide (l = 0)) = some j := by
    rw [List.findIdx?_eq_some_iff_getElem]
    refine ⟨hj, by simpa [hj] using h0, fun i hi => ?_⟩
    have := h i hi
    rw [List.getElem?_eq_getElem (by omega)] at this
    simpa using this
  unfold freeS
  rw [this]
theorem freeS_no {s : SpanD} (h : ∀ i, i < s.lens.length → s.lens[i]?.getD 0 ≠ 0) : freeS s = -1 := by
  have : s.lens.findIdx? (fun l => decide (l = 0)) = none := by
    rw [List.findIdx?_eq_none_iff]
    intro x hx
    obtain ⟨i, hi⟩ := List.mem_iff_getElem?.1 hx
    have := h i (List.getElem?_eq_some_iff.1 hi).1
    rw [hi] at this
    simpa using this
  unfold freeS
  rw [this]

set_option maxHeartbeats 1000000 in
theorem freeSlot_any (b o : Nat) (s : SpanD) (w : World) (hr : RdSpan w b o s) :
    Calls Try.prog 132 #[.pointer (some ⟨b, o, none⟩)] w fun e w' => e = .returned (.int .i64 (freeS s)) ∧ w = w' := by
  obtain ⟨vl, vp, x0, x1, x2, x3, x4, x5, ⟨al, cl, rfl, hll, xl⟩, _⟩ := hr
  unfold maxLen at hll
  have xl' := Lib.hid xl
  clear xl x0 x1 x2 x3 x5
  go_enter Try.func132, Try.ntmps132
  go_wp2_with fail
  go_loop [10] (fun i => ∃ j : Nat, j ≤ s.lens.length ∧ i = .int .i64 j ∧ Hid (∀ i, i < j → s.lens[i]?.getD 0 ≠ 0)) (fun i => s.lens.length - (intOf i).toNat)
  case atStart => exact ⟨0, Nat.zero_le _, rfl, (fun i hi => absurd hi (by omega))⟩
  case round =>
    obtain ⟨j, hj, rfl, hno⟩ := hrel
    by_cases hlt : j < s.lens.length
    · have hlt1 : (j : Int) < (s.lens.length : Int) := by omega
      obtain ⟨bl, ol, rfl, gl⟩ := xl'.out j hlt
      have hyes := Lib.hid (fun h => freeS_yes hlt h hno.out)
      have hnext := Lib.hid (show s.lens[j]?.getD 0 ≠ 0 → ∀ i, i < j + 1 → s.lens[i]?.getD 0 ≠ 0 from fun h i hi => if e : i = j then by subst e; exact h else hno.out i (by omega))
      generalize s.lens[j]?.getD 0 = l at gl hyes hnext
      by_cases hl : l = 0
      · have y := Lib.hid (hyes.out hl)
        subst hl
        go_wp2_with fail
        go_ret
        exact ⟨by rw [y.out]; rfl, rfl⟩
      · go_wp2_with fail
        go_round
        case rel => exact ⟨j + 1, by omega, by go_num, hnext.out hl⟩
        case measure => simp [intOf]; omega
    · obtain rfl : j = s.lens.length := by omega
      have y := Lib.hid (freeS_no hno.out)
      go_wp2_with fail
      go_ret
      exact ⟨by rw [y.out]; rfl, rfl⟩

/-- The least page that no span has, the spans standing in order. -/
def FreePg (D : WD) (k : Nat) : Prop := k ≤ D.spans.length ∧ (∀ (j : Nat) (s : SpanD), j < k → D.spans[j]? = some s → s.page = j) ∧ (∀ s, D.spans[k]? = some s → s.page ≠ k)

set_option maxHeartbeats 1000000 in
theorem freePage_any (B : Nat) (v : Value) (D : WD) (w : World) (hr : RdW w v D) (hB : BoxW w B v) :
    Calls Try.prog 133 #[.pointer (some ⟨B, 0, none⟩)] w fun e w' => (∃ k, Hid (FreePg D k) ∧ e = .returned (.int .i64 (k : Int))) ∧ w = w' := by
  obtain ⟨vw, vd, vs, vm, vg, rfl, a1, a2, a3, a4, a5⟩ := hr
  obtain ⟨cs, he, hh⟩ := hB
  obtain rfl := (Value.agg.inj he).symm
  obtain ⟨aS, cS, rfl, hsl, hx⟩ := a3
  unfold maxLen at hsl
  have g4 := cell_of_heap hh 4 _ rfl
  have hx' := Lib.hid hx
  clear a1 a2 a4 a5 he hh hx
  go_enter Try.func133, Try.ntmps133
  go_wp2_with fail
  go_loop [9] (fun i => ∃ k : Nat, k ≤ D.spans.length ∧ i = .int .i64 k ∧ Hid (∀ (j : Nat) (s : SpanD), j < k → D.spans[j]? = some s → s.page = j)) (fun i => D.spans.length - (intOf i).toNat)
  case atStart => exact ⟨0, Nat.zero_le _, rfl, (fun j s hj => absurd hj (by omega))⟩
  case round =>
    obtain ⟨k, hk, rfl, hno⟩ := hrel
    by_cases hlt : k < D.spans.length
    · have hlt1 : (k : Int) < (D.spans.length : Int) := by omega
      obtain ⟨s, hks⟩ : ∃ s, D.spans[k]? = some s := ⟨_, List.getElem?_eq_getElem hlt⟩
      obtain ⟨b1, o1, rfl, vl, vp, x0, _, _, _, _, _, _, _⟩ := hx'.out k s hks
      have hyes := Lib.hid (show s.page ≠ k → FreePg D k from fun h => ⟨by omega, hno.out, fun t ht => by rw [hks] at ht; cases ht; exact h⟩)
      have hnext := Lib.hid (show s.page = k → ∀ (j : Nat) (t : SpanD), j < k + 1 → D.spans[j]? = some t → t.page = j from fun h j t hj ht => if e : j = k then by subst e; rw [hks] at ht; cases ht; exact h else hno.out j t (by omega) ht)
      clear hks
      generalize s.page = pg at x0 hyes hnext
      by_cases hp : pg = k
      · have hn := Lib.hid (hnext.out hp)
        subst hp
        go_wp2_with fail
        go_round
        case rel => exact ⟨k + 1, by omega, by go_num, hn.out⟩
        case measure => simp [intOf]; omega
      · have hy := Lib.hid (hyes.out hp)
        go_wp2_with fail
        go_ret
        exact ⟨⟨k, Lib.hid hy.out, rfl⟩, rfl⟩
    · obtain rfl : k = D.spans.length := by omega
      have hy := Lib.hid (show FreePg D D.spans.length from ⟨Nat.le_refl _, hno.out, fun s hs => absurd (List.getElem?_eq_some_iff.1 hs).1 (by omega)⟩)
      go_wp2_with fail
      go_ret
      exact ⟨⟨D.spans.length, Lib.hid hy.out, rfl⟩, rfl⟩
end Go.Proofs.Ytajogfnlbdiokaa

import Derived.Test.YtpaepkcfdnddgaaGreatCgQ
import Derived.Test.YtpaepkcfdnddgaaGreatCgEncD
import Derived.Test.YtpaepkcfdnddgaaGreatCgW
import Derived.Test.YtpaepkcfdnddgaaGreatCgSMeta
import Derived.Test.YtpaepkcfdnddgaaGreatCgSW

namespace Go.Proofs.YtpaepkcfdnddgaaGreat
open Go.RowKit
set_option linter.unusedVariables false

/-- The page is a span. -/
def IsPage (D : WD) (p : Int) : Prop := ∃ (k : Nat) (s : SpanD), D.spans[k]? = some s ∧ s.page = p
def NoPage (D : WD) (k : Nat) (p : Int) : Prop := ∀ (i : Nat) (s : SpanD), i < k → D.spans[i]? = some s → s.page ≠ p
theorem NoPage.succ {D : WD} {k : Nat} {p : Int} {s : SpanD} (h : NoPage D k p) (hs : D.spans[k]? = some s) (hp : s.page ≠ p) : NoPage D (k + 1) p := fun i t hi ht => by
  by_cases e : i = k
  · subst e; rw [hs] at ht; cases ht; exact hp
  · exact h i t (by omega) ht
theorem NoPage.no {D : WD} {p : Int} (h : NoPage D D.spans.length p) : ¬ IsPage D p := fun ⟨k, s, hs, hp⟩ => h k s (List.getElem?_eq_some_iff.1 hs).1 hs hp

set_option maxRecDepth 100000 in
set_option maxHeartbeats 2000000 in
theorem spage_any (B : Nat) (v : Value) (D : WD) (p : Int) (hn : D.spans.length ≤ 1000) (w : World) (hr : RdW w v D) (hB : BoxW w B v) :
    Calls Tryz.prog 87 #[.pointer (some ⟨B, 0, none⟩), .int .i64 p] w fun e w' => IsB (IsPage D p) e ∧ w = w' := by
  obtain ⟨vw, vd, vs, vm, vg, rfl, a1, a2, a3, a4, a5⟩ := hr
  obtain ⟨cs, he, hh⟩ := hB
  obtain rfl := (Value.agg.inj he).symm
  obtain ⟨aS, cS, rfl, hsl, hx⟩ := a3
  have f4 := cell_of_heap hh 4 (.slice aS D.spans.length cS) rfl
  have hx' := Lib.hid hx
  clear a1 a2 a4 a5 he hh hx hsl
  go_enter Tryz.func87, Tryz.ntmps87
  go_wp2_with fail
  go_loop [5] (fun i => ∃ k : Nat, k ≤ D.spans.length ∧ i = .int .i64 k ∧ Hid (NoPage D k p)) (fun i => D.spans.length - (RowKit.intOf i).toNat)
  case atStart => exact ⟨0, Nat.zero_le _, rfl, Lib.hid (fun i s hi => by omega)⟩
  case round =>
    obtain ⟨k, hk, rfl, hno⟩ := hrel
    by_cases hlt : k < D.spans.length
    · obtain ⟨s, hs⟩ : ∃ s, D.spans[k]? = some s := ⟨_, List.getElem?_eq_getElem hlt⟩
      obtain ⟨b1, o1, rfl, vl, vp, q0, q1, q2, q3, q4, q5, -, -⟩ := hx'.out k s hs
      have hlt' : (k : Int) < (D.spans.length : Int) := by omega
      clear q1 q2 q3 q4 q5
      by_cases hp : s.page = p
      · have y := Lib.hid (IsB.yes (P := IsPage D p) ⟨k, s, hs, hp⟩)
        have hb : (s.page == p) = true := by simp [hp]
        clear hs hp
        go_wp2_with fail
        go_ret
        exact ⟨y.out, rfl⟩
      · have y := Lib.hid (hno.out.succ hs hp)
        have hb : (s.page == p) = false := by simp [hp]
        clear hs hp
        go_wp2_with fail
        go_round
        case rel => exact ⟨k + 1, by omega, by go_num, y⟩
        case measure => simp [RowKit.intOf]; omega
    · obtain rfl : k = D.spans.length := by omega
      have y := Lib.hid (IsB.no hno.out.no)
      go_wp2_with fail
      go_ret
      exact ⟨y.out, rfl⟩

/-- Of what kind word t of slot j is: no object's, a number, a pointer, a doomed object's. -/
def KindS (D : WD) (s : SpanD) (j t : Nat) (c : Int) : Prop :=
  (s.lens[j]?.getD 0 ≤ (t : Int) ∧ c = 0) ∨ ((t : Int) < s.lens[j]?.getD 0 ∧ DoomS D s j ∧ c = 3) ∨
    ((t : Int) < s.lens[j]?.getD 0 ∧ ¬ DoomS D s j ∧ (t : Int) < s.ptrs[j]?.getD 0 ∧ c = 2) ∨ ((t : Int) < s.lens[j]?.getD 0 ∧ ¬ DoomS D s j ∧ s.ptrs[j]?.getD 0 ≤ (t : Int) ∧ c = 1)
theorem KindS.unique {D : WD} {s : SpanD} {j t : Nat} {c c' : Int} (h : KindS D s j t c) (h' : KindS D s j t c') : c' = c := by
  rcases h with ⟨a, rfl⟩ | ⟨a, b, rfl⟩ | ⟨a, b, d, rfl⟩ | ⟨a, b, d, rfl⟩ <;> rcases h' with ⟨a', rfl⟩ | ⟨a', b', rfl⟩ | ⟨a', b', d', rfl⟩ | ⟨a', b', d', rfl⟩ <;>
    first | rfl | omega | exact absurd b b' | exact absurd b' b
/-- Word i lies in slot j of span k, as its word t. -/
def WSlot (D : WD) (i k : Nat) (s : SpanD) (j t : Nat) : Prop := D.spans[k]? = some s ∧ j < s.lens.length ∧ (i : Int) = atW s (j : Int) + (t : Int) ∧ (t : Int) < sz s.cls
def KindI (D : WD) (i : Nat) (c : Int) : Prop := (∃ k s j t, WSlot D i k s j t ∧ KindS D s j t c) ∨ (¬ IsPage D ((i / 32 : Nat) : Int) ∧ c = 0)
theorem WSlot.page {D : WD} (hF : HeapForm D) {i k : Nat} {s : SpanD} {j t : Nat} (h : WSlot D i k s j t) : s.page = ((i / 32 : Nat) : Int) := by
  obtain ⟨hs, hj, he, ht⟩ := h
  have A := hF.span k s hs
  have := slot_in (c := s.cls) (i := (j : Int)) (t := (t : Int)) (by omega) (by have := A.lens; omega) (by omega) ht
  unfold atW at he
  omega
/-- A word of a span's page is in one slot. -/
theorem slot_of {D : WD} (hF : HeapForm D) {k : Nat} {s : SpanD} (hs : D.spans[k]? = some s) {q r : Nat} (hq : s.page = (q : Int)) (hr : r < 32) :
    ∃ j t z : Nat, WSlot D (32 * q + r) k s j t ∧ sz s.cls = (z : Int) ∧ 0 < z ∧ z ≤ 16 ∧ j < 16 ∧ (r : Int).tdiv (z : Int) = (j : Int) ∧ ((32 * q + r : Nat) : Int) - atW s (j : Int) = (t : Int) ∧ t < 32 := by
  have A := hF.span k s hs
  have hl := A.lens
  have hc := A.cls
  have hcl : s.cls = 0 ∨ s.cls = 1 ∨ s.cls = 2 ∨ s.cls = 3 := by
    unfold sl' at hc
    (repeat' split at hc) <;> first | omega | contradiction
  have key : ∀ z n : Nat, 0 < z → z ≤ 16 → sz s.cls = (z : Int) → sl' s.cls = (n : Int) → r / z < n → n ≤ 16 → r % z < z → z * (r / z) + r % z = r → r % z ≤ r →
      ∃ j t z : Nat, WSlot D (32 * q + r) k s j t ∧ sz s.cls = (z : Int) ∧ 0 < z ∧ z ≤ 16 ∧ j < 16 ∧ (r : Int).tdiv (z : Int) = (j : Int) ∧ ((32 * q + r : Nat) : Int) - atW s (j : Int) = (t : Int) ∧ t < 32 := by
    intro z n h1 h2 h3 h4 h5 h6 h7 h8 h9
    have hm : ((r / z : Nat) : Int) * (z : Int) + ((r % z : Nat) : Int) = (r : Int) := by rw [← Int.natCast_mul, ← Int.natCast_add, Nat.mul_comm]; exact congrArg _ h8
    refine ⟨r / z, r % z, z, ⟨hs, by omega, ?_, by rw [h3]; omega⟩, h3, h1, h2, by omega, by rw [Int.tdiv_eq_ediv_of_nonneg (by omega), ← Int.natCast_ediv], ?_, by omega⟩
    · unfold atW; rw [h3, hq]; omega
    · unfold atW; rw [h3, hq]; omega
  rcases hcl with e | e | e | e
  · exact key 2 16 (by omega) (by omega) (by rw [e]; rfl) (by rw [e]; rfl) (by omega) (by omega) (by omega) (by omega) (by omega)
  · exact key 4 8 (by omega) (by omega) (by rw [e]; rfl) (by rw [e]; rfl) (by omega) (by omega) (by omega) (by omega) (by omega)
  · exact key 8 4 (by omega) (by omega) (by rw [e]; rfl) (by rw [e]; rfl) (by omega) (by omega) (by omega) (by omega) (by omega)
  · exact key 16 2 (by omega) (by omega) (by rw [e]; rfl) (by rw [e]; rfl) (by omega) (by omega) (by omega) (by omega) (by omega)

set_option maxRecDepth 100000 in
set_option maxHeartbeats 8000000 in
theorem skind_any (B : Nat) (v : Value) (D : WD) (hF : HeapForm D) (i : Nat) (hi : i < 1000) (w : World) (hr : RdW w v D) (hB : BoxW w B v) :
    Calls Tryz.prog 88 #[.pointer (some ⟨B, 0, none⟩), .int .i64 i] w fun e w' => (∃ c : Int, e = .returned (.int .i64 c) ∧ KindI D i c) ∧ Below w.heap.size w w' := by
  obtain ⟨q, r, hr32, rfl, hqd⟩ : ∃ q r : Nat, r < 32 ∧ i = 32 * q + r ∧ i / 32 = q := ⟨i / 32, i % 32, by omega, by omega, rfl⟩
  have hdoom := Lib.hid (fun (k j : Nat) (s : SpanD) (hks : D.spans[k]? = some s) (hj : j < s.lens.length) (h16 : j ≤ 16) (x : Ext w) => sdoomed_any B v D k j s hks hj h16 x.val (hr.below x.below) (hB.below x.below))
  have hF' := Lib.hid hF
  have hsp : D.spans.length ≤ 12 := by have := hF.spans; have := hF.geo.2.2.2.2.1; omega
  obtain ⟨vw, vd, vs, vm, vg, rfl, a1, a2, a3, a4, a5⟩ := hr
  obtain ⟨cs, he, hh⟩ := hB
  obtain rfl := (Value.agg.inj he).symm
  obtain ⟨aS, cS, rfl, hsl, hx⟩ := a3
  have f4 := Ext.cell (cell_of_heap hh 4 (.slice aS D.spans.length cS) rfl)
  have hx' := Lib.hid hx
  have e1 : ((32 * q + r : Nat) : Int).tdiv 32 = (q : Int) := by rw [Int.tdiv_eq_ediv_of_nonneg (by omega)]; omega
  have e2 : ((32 * q + r : Nat) : Int).tmod 32 = (r : Int) := by rw [Int.tmod_eq_emod_of_nonneg (by omega)]; omega
  have e3 : IntKind.i64.wrap (q : Int) = (q : Int) := IntWalk.i64_in _ (by omega)
  have e4 : IntKind.i64.wrap (r : Int) = (r : Int) := IntWalk.i64_in _ (by omega)
  have hsl' := Lib.hid hsp
  obtain ⟨N, hN⟩ : ∃ N : Nat, N = 32 * q + r := ⟨_, rfl⟩
  rw [← hN] at e1 e2
  rw [← hN]
  have hN' := Lib.hid hN
  have hNlt : N < 1000 := by omega
  have hqd' : Hid (N / 32 = q) := Lib.hid (by omega)
  have hr' := Lib.hid hr32
  clear a1 a2 a4 a5 he hh hx hsl hF hN hqd hi hsp hr32
  go_enter Tryz.func88, Tryz.ntmps88
  go_wp2_with fail
  go_loopw [5] (fun i wr => ∃ (k : Nat) (x : Ext w), k ≤ D.spans.length ∧ i = .int .i64 k ∧ wr = x.val ∧ Hid (NoPage D k (q : Int))) (fun i _ => D.spans.length - (RowKit.intOf i).toNat)
  case atStart => exact ⟨0, Ext.self w, Nat.zero_le _, rfl, rfl, Lib.hid (fun i s hi => by omega)⟩
  case round =>
    obtain ⟨k, x, hk, rfl, rfl, hno⟩ := hrel
    by_cases hlt : k < D.spans.length
    · obtain ⟨s, hs⟩ : ∃ s, D.spans[k]? = some s := ⟨_, List.getElem?_eq_getElem hlt⟩
      obtain ⟨b1, o1, rfl, vl, vp, q0, q1, q2, q3, q4, q5, ⟨al, cl, rfl, hll, xl⟩, ⟨ap, cp, rfl, hpl, xp⟩⟩ := hx'.out k s hs
      have hlt' : (k : Int) < (D.spans.length : Int) := by omega
      have hk12 := hsl'.out
      have q0' := Ext.cell q0
      have q1' := Ext.cell q1
      have q2' := Ext.cell q2
      have q3' := Ext.cell q3
      have q4' := Ext.cell q4
      have q5' := Ext.cell q5
      have bW := Lib.hid (below_trans x.below (below_box x.val (.cells #[.int .i64 s.page, .int .i64 s.cls, .int .i64 s.mark, .bool s.swept, .slice al s.lens.length cl, .slice ap s.ptrs.length cp] 73)))
      have xb := box_new x.val (.cells #[.int .i64 s.page, .int .i64 s.cls, .int .i64 s.mark, .bool s.swept, .slice al s.lens.length cl, .slice ap s.ptrs.length cp] 73)
      have n0 := Ext.cell (cell_of_heap xb 0 (.int .i64 s.page) rfl)
      have n1 := Ext.cell (cell_of_heap xb 1 (.int .i64 s.cls) rfl)
      have n2 := Ext.cell (cell_of_heap xb 2 (.int .i64 s.mark) rfl)
      have n3 := Ext.cell (cell_of_heap xb 3 (.bool s.swept) rfl)
      have n4 := Ext.cell (cell_of_heap xb 4 (.slice al s.lens.length cl) rfl)
      have n5 := Ext.cell (cell_of_heap xb 5 (.slice ap s.ptrs.length cp) rfl)
      clear q0 q1 q2 q3 q4 q5 xb
      by_cases hp : s.page = (q : Int)
      · obtain ⟨j, t, z, hin, hz, hz0, hz1, hj16, hdv, hsub, ht⟩ := slot_of hF'.out hs hp hr'.out
        have hjl := hin.2.1
        have hA := hF'.out.span k s hs
        have hpq : s.ptrs.length = s.lens.length := by have := hA.lens; have := hA.ptrs; omega
        have hb : (s.page == (q : Int)) = true := by simp [hp]
        have hb' : (s.page != (q : Int)) = false := by simp [hp]
        obtain ⟨b2, o2, rfl, c1⟩ := xl j hjl
        obtain ⟨b3, o3, rfl, c2⟩ := xp j (by omega)
        have c1' := Ext.cell (cell_below bW.out c1)
        have c2' := Ext.cell (cell_below bW.out c2)
        unfold maxLen at hll hpl
        have hjl' : (j : Int) < (s.lens.length : Int) := by omega
        have hjp' : (j : Int) < (s.ptrs.length : Int) := by omega
        have hd := Lib.hid (hdoom.out k j s hs hjl (by omega))
        have hS := Lib.hid (fun (W : World) => spec_size_any s.cls W)
        have hT := Lib.hid (fun (W : World) => at_any s (.slice (some ⟨b2, o2, none⟩) s.lens.length cl) (.slice (some ⟨b3, o3, none⟩) s.ptrs.length cp) (j : Int) hA.pg0 (by have := hA.pg1; have := hF'.out.geo.2.2.2.2.1; omega) (by omega) (by omega) W)
        have hK := Lib.hid (fun c (h : KindS D s j t c) => (show KindI D N c from .inl ⟨k, s, j, t, by rw [hN'.out]; exact hin, h⟩))
        unfold spanV at hT
        rw [hz] at hS
        rw [← hN'.out] at hsub
        have hbd : -9000000000 ≤ atW s (j : Int) ∧ atW s (j : Int) ≤ 9000000000 := by have := hN'.out; have := hr'.out; omega
        generalize atW s (j : Int) = A at *
        have e5 : IntKind.i64.wrap (j : Int) = (j : Int) := IntWalk.i64_in _ (by omega)
        have e6 : IntKind.i64.wrap ((N : Int) - A) = (t : Int) := by rw [hsub]; exact IntWalk.i64_in _ (by omega)
        have hzb : ((z : Int) == 0) = false := beq_eq_false_iff_ne.2 (by omega)
        have hKS := Lib.hid (show ∀ c, KindS D s j t c ↔ _ from fun c => (Iff.rfl : _ ↔ ((s.lens[j]?.getD 0 ≤ (t : Int) ∧ c = 0) ∨ ((t : Int) < s.lens[j]?.getD 0 ∧ DoomS D s j ∧ c = 3) ∨
          ((t : Int) < s.lens[j]?.getD 0 ∧ ¬ DoomS D s j ∧ (t : Int) < s.ptrs[j]?.getD 0 ∧ c = 2) ∨ ((t : Int) < s.lens[j]?.getD 0 ∧ ¬ DoomS D s j ∧ s.ptrs[j]?.getD 0 ≤ (t : Int) ∧ c = 1))))
        clear c1 c2 xl xp hin hA hpq hs hp hz hsub hjl
        generalize DoomS D s j = P at *
        generalize s.lens[j]?.getD 0 = l at *
        generalize s.ptrs[j]?.getD 0 = pp at *
        go_wp2_with fail
        refine (hS.out _).mono ?_
        rintro e w2 ⟨rfl, rfl⟩
        go_wp2_with fail
        refine (hT.out _).mono ?_
        rintro e w3 ⟨rfl, b3⟩
        have bW3 := Lib.hid (below_trans bW.out b3)
        obtain ⟨y3, rfl⟩ := Ext.of b3
        clear b3
        by_cases cl1 : l ≤ (t : Int)
        · have y := Lib.hid (hK.out 0 ((hKS.out 0).2 (.inl ⟨cl1, rfl⟩)))
          go_wp2_with fail
          go_ret
          exact ⟨⟨_, rfl, y.out⟩, bW3.out⟩
        · have cl2 : (t : Int) < l := by omega
          clear cl1
          go_wp2_with fail
          refine (hd.out ⟨y3.val, bW3.out⟩).mono ?_
          rintro e w4 ⟨hq, b4⟩
          have bW4 := Lib.hid (below_trans bW3.out b4)
          obtain ⟨y4, rfl⟩ := y3.then b4
          clear b4
          rcases hq.elim with ⟨hP, rfl⟩ | ⟨hP, rfl⟩
          · have y := Lib.hid (hK.out 3 ((hKS.out 3).2 (.inr (.inl ⟨cl2, hP, rfl⟩))))
            clear hq hP
            go_wp2_with fail
            go_ret
            exact ⟨⟨_, rfl, y.out⟩, bW4.out⟩
          · by_cases cp1 : (t : Int) < pp
            · have y := Lib.hid (hK.out 2 ((hKS.out 2).2 (.inr (.inr (.inl ⟨cl2, hP, cp1, rfl⟩)))))
              clear hq hP
              go_wp2_with fail
              go_ret
              exact ⟨⟨_, rfl, y.out⟩, bW4.out⟩
            · have y := Lib.hid (hK.out 1 ((hKS.out 1).2 (.inr (.inr (.inr ⟨cl2, hP, by omega, rfl⟩)))))
              clear hq hP
              go_wp2_with fail
              go_ret
              exact ⟨⟨_, rfl, y.out⟩, bW4.out⟩
      · have y := Lib.hid (hno.out.succ hs hp)
        have hb : (s.page == (q : Int)) = false := by simp [hp]
        have hb' : (s.page != (q : Int)) = true := by simp [hp]
        clear hs hp xl xp
        go_wp2_with fail
        go_roundw
        case rel => exact ⟨k + 1, ⟨_, bW.out⟩, by omega, by go_num, rfl, y⟩
        case measure => simp [RowKit.intOf]; omega
    · obtain rfl : k = D.spans.length := by omega
      have y := Lib.hid (show KindI D N 0 from .inr ⟨by rw [hqd'.out]; exact hno.out.no, rfl⟩)
      go_wp2_with fail
      go_ret
      exact ⟨⟨_, rfl, y.out⟩, x.below⟩
end Go.Proofs.YtpaepkcfdnddgaaGreat

namespace Go.Proofs.YtpaepkcfdnddgaaGreat
open Go.RowKit
set_option linter.unusedVariables false

theorem KindI.unique {D : WD} (hF : HeapForm D) {i : Nat} {c c' : Int} (h : KindI D i c) (h' : KindI D i c') : c' = c := by
  rcases h with ⟨k, s, j, t, h1, h2⟩ | ⟨h1, rfl⟩ <;> rcases h' with ⟨k', s', j', t', h1', h2'⟩ | ⟨h1', rfl⟩
  · have p := h1.page hF
    have p' := h1'.page hF
    have hk : k = k' := by
      rcases Nat.lt_trichotomy k k' with h | h | h
      · have := pages_up hF h1.1 h1'.1 h; omega
      · exact h
      · have := pages_up hF h1'.1 h1.1 h; omega
    subst hk
    obtain rfl : s = s' := by have := h1.1; rw [h1'.1] at this; exact (Option.some.inj this).symm
    have A := hF.span k s h1.1
    have e := h1.2.2.1
    have e' := h1'.2.2.1
    have l := h1.2.2.2
    have l' := h1'.2.2.2
    have hj : j = j' := by
      have hz := sz_pos A.cls
      unfold atW at e e'
      have hm : (j : Int) * sz s.cls + (t : Int) = (j' : Int) * sz s.cls + (t' : Int) := by omega
      have d1 : ((j : Int) * sz s.cls + (t : Int)) / sz s.cls = (j : Int) := by rw [Int.add_comm, Int.add_mul_ediv_right _ _ (by omega), Int.ediv_eq_zero_of_lt (by omega) l]; omega
      have d2 : ((j' : Int) * sz s.cls + (t' : Int)) / sz s.cls = (j' : Int) := by rw [Int.add_comm, Int.add_mul_ediv_right _ _ (by omega), Int.ediv_eq_zero_of_lt (by omega) l']; omega
      rw [hm] at d1
      omega
    subst hj
    obtain rfl : t = t' := by omega
    exact h2.unique h2'
  · exact absurd ⟨k, s, h1.1, h1.page hF⟩ h1'
  · exact absurd ⟨k', s', h1'.1, h1'.page hF⟩ h1
  · rfl
/-- What is written for word i. -/
def WordV (D : WD) (i : Nat) (x : Int) : Prop := ∃ c, KindI D i c ∧ ((c = 2 ∧ RefV D (D.words[i]?.getD 0) x) ∨ (c = 3 ∧ x = 0) ∨ (c ≠ 2 ∧ c ≠ 3 ∧ x = D.words[i]?.getD 0))
theorem WordV.unique {D : WD} (hF : HeapForm D) {i : Nat} {x x' : Int} (h : WordV D i x) (h' : WordV D i x') : x' = x := by
  obtain ⟨c, h1, h2⟩ := h
  obtain ⟨c', h1', h2'⟩ := h'
  obtain rfl := h1.unique hF h1'
  rcases h2 with ⟨a, b⟩ | ⟨a, rfl⟩ | ⟨a, b, rfl⟩ <;> rcases h2' with ⟨a', b'⟩ | ⟨a', rfl⟩ | ⟨a', b', rfl⟩ <;> first | rfl | omega | exact (b.unique hF b').symm
def CardL (D : WD) (c n : Nat) (X : List Int) : Prop := X.length = n ∧ ∀ j, j < n → WordV D (c * 8 + j) (X[j]?.getD 0)
theorem CardL.zero (D : WD) (c : Nat) : CardL D c 0 [] := ⟨rfl, fun j h => by omega⟩
theorem CardL.snoc {D : WD} {c n : Nat} {X : List Int} {x : Int} (h : CardL D c n X) (hx : WordV D (c * 8 + n) x) : CardL D c (n + 1) (X ++ [x]) := by
  refine ⟨by simp [h.1], fun j hj => ?_⟩
  by_cases e : j = n
  · subst e
    rw [List.getElem?_append_right (by have := h.1; omega), show j - X.length = 0 by have := h.1; omega]
    exact hx
  · rw [List.getElem?_append_left (by have := h.1; omega)]
    exact h.2 j (by omega)
theorem CardL.unique {D : WD} (hF : HeapForm D) {c n : Nat} {X X' : List Int} (h : CardL D c n X) (h' : CardL D c n X') : X' = X := by
  apply List.ext_getElem?
  intro i
  by_cases hi : i < n
  · have e := (h.2 i hi).unique hF (h'.2 i hi)
    have i1 : i < X.length := by have := h.1; omega
    have i2 : i < X'.length := by have := h'.1; omega
    rw [List.getElem?_eq_getElem i1, List.getElem?_eq_getElem i2] at e
    rw [List.getElem?_eq_getElem i1, List.getElem?_eq_getElem i2]
    simpa using e
  · rw [List.getElem?_eq_none (by have := h.1; have := h'.1; omega), List.getElem?_eq_none (by have := h.1; have := h'.1; omega)]
/-- The card is one of a page that is a span. -/
def Told (D : WD) (c : Int) : Prop := 0 ≤ c ∧ c < D.pages * 4 ∧ IsPage D ((c.toNat / 4 : Nat) : Int)
def CardsV (D : WD) : List Int → List Int → Prop
  | [], o => o = []
  | c :: l, o => (¬ Told D c ∧ CardsV D l o) ∨ (Told D c ∧ ∃ X o', CardL D c.toNat 8 X ∧ CardsV D l o' ∧ o = (c :: X) ++ o')
theorem CardsV.no {D : WD} {c : Int} (hc : ¬ Told D c) : ∀ {l o : List Int}, CardsV D l o → CardsV D (l ++ [c]) o
  | [], o, h => .inl ⟨hc, h⟩
  | d :: l, o, h => by
    rcases h with ⟨h1, h2⟩ | ⟨h1, X, o', h2, h3, h4⟩
    · exact .inl ⟨h1, CardsV.no hc h2⟩
    · exact .inr ⟨h1, X, o', h2, CardsV.no hc h3, h4⟩
theorem CardsV.yes {D : WD} {c : Int} (hc : Told D c) {X : List Int} (hX : CardL D c.toNat 8 X) : ∀ {l o : List Int}, CardsV D l o → CardsV D (l ++ [c]) (o ++ (c :: X))
  | [], o, h => .inr ⟨hc, X, [], hX, rfl, by rw [show o = [] from h]; simp⟩
  | d :: l, o, h => by
    rcases h with ⟨h1, h2⟩ | ⟨h1, Y, o', h2, h3, rfl⟩
    · exact .inl ⟨h1, CardsV.yes hc hX h2⟩
    · exact .inr ⟨h1, Y, o' ++ (c :: X), h2, CardsV.yes hc hX h3, by simp⟩
theorem CardsV.unique {D : WD} (hF : HeapForm D) : ∀ {l o o' : List Int}, CardsV D l o → CardsV D l o' → o' = o
  | [], o, o', h, h' => by rw [show o = [] from h, show o' = [] from h']
  | c :: l, o, o', h, h' => by
    rcases h with ⟨h1, h2⟩ | ⟨h1, X, p, h2, h3, rfl⟩ <;> rcases h' with ⟨h1', h2'⟩ | ⟨h1', X', p', h2', h3', rfl⟩
    · exact CardsV.unique hF h2 h2'
    · exact absurd h1' h1
    · exact absurd h1 h1'
    · rw [h2.unique hF h2', CardsV.unique hF h3 h3']
theorem CardsV.len {D : WD} : ∀ {l o : List Int}, CardsV D l o → o.length ≤ 9 * l.length
  | [], o, h => by rw [show o = [] from h]; simp
  | c :: l, o, h => by
    rcases h with ⟨h1, h2⟩ | ⟨h1, X, o', h2, h3, rfl⟩
    · have := CardsV.len h2; simp only [List.length_cons]; omega
    · have := CardsV.len h3; have := h2.1; simp only [List.length_cons, List.length_append]; omega
theorem WordV.i64 {D : WD} (hF : HeapForm D) (hI : FitD D) {i : Nat} {x : Int} (h : WordV D i x) : I64 x := by
  obtain ⟨c, h1, h2⟩ := h
  rcases h2 with ⟨a, b⟩ | ⟨a, rfl⟩ | ⟨a, b, rfl⟩
  · exact RefV.i64 hF b
  · constructor <;> decide
  · cases e : D.words[i]? with
    | none => constructor <;> decide
    | some y => exact hI.words y (List.mem_of_getElem? e)
theorem CardL.all {D : WD} (hF : HeapForm D) (hI : FitD D) {c n : Nat} {X : List Int} (h : CardL D c n X) : AllI X := fun x hx => by
  obtain ⟨i, hi, rfl⟩ := List.getElem_of_mem hx
  have := h.2 i (by have := h.1; omega)
  rw [List.getElem?_eq_getElem hi] at this
  exact WordV.i64 hF hI this
theorem CardsV.all {D : WD} (hF : HeapForm D) (hI : FitD D) : ∀ {l o : List Int}, AllI l → CardsV D l o → AllI o
  | [], o, _, h => by rw [show o = [] from h]; exact allI_nil
  | c :: l, o, hl, h => by
    have hl' : AllI l := fun x hx => hl x (List.mem_cons_of_mem _ hx)
    rcases h with ⟨h1, h2⟩ | ⟨h1, X, o', h2, h3, rfl⟩
    · exact CardsV.all hF hI hl' h2
    · exact allI_append (allI_append (allI_one (hl c (by simp))) (h2.all hF hI)) (CardsV.all hF hI hl' h3)
def WordsIs (D : WD) (l : List Int) (b : ByteArray) : Prop := ∃ o, CardsV D l o ∧ b = secB 87 (ints o)
theorem WordsIs.unique {D : WD} (hF : HeapForm D) {l : List Int} {b b' : ByteArray} (h : WordsIs D l b) (h' : WordsIs D l b') : b' = b := by
  obtain ⟨o, h1, rfl⟩ := h
  obtain ⟨o', h1', rfl⟩ := h'
  rw [h1.unique hF h1']

theorem spage_yes (B : Nat) (v : Value) (D : WD) (p : Int) (hn : D.spans.length ≤ 1000) (h : IsPage D p) (w : World) (hr : RdW w v D) (hB : BoxW w B v) :
    Calls Tryz.prog 87 #[.pointer (some ⟨B, 0, none⟩), .int .i64 p] w fun e w' => e = .returned (.bool true) ∧ w = w' :=
  (spage_any B v D p hn w hr hB).mono fun _ _ ⟨a, b⟩ => ⟨(a.elim.resolve_right fun x => x.1 h).2, b⟩
theorem spage_no (B : Nat) (v : Value) (D : WD) (p : Int) (hn : D.spans.length ≤ 1000) (h : ¬ IsPage D p) (w : World) (hr : RdW w v D) (hB : BoxW w B v) :
    Calls Tryz.prog 87 #[.pointer (some ⟨B, 0, none⟩), .int .i64 p] w fun e w' => e = .returned (.bool false) ∧ w = w' :=
  (spage_any B v D p hn w hr hB).mono fun _ _ ⟨a, b⟩ => ⟨(a.elim.resolve_left fun x => h x.1).2, b⟩

set_option maxRecDepth 100000 in
set_option maxHeartbeats 4000000 in
theorem swords_at (B : Nat) (v vc : Value) (D : WD) (L : List Int) (hL : L.length ≤ 1000) (hLI : AllI L) (hF : HeapForm D) (hI : FitD D) (w : World) (hr : RdW w v D) (hB : BoxW w B v) (hc : Rd w vc L) :
    Calls Tryz.prog 41 #[.pointer (some ⟨B, 0, none⟩), vc] w fun e w' => (∃ b, e = .returned (.string b) ∧ WordsIs D L b) ∧ Below w.heap.size w w' := by
  have href := Lib.hid (fun addr (x : Ext w) => sref_at B v D hF addr x.val (hr.below x.below) (hB.below x.below))
  have hkind := Lib.hid (fun (i : Nat) (hi : i < 1000) (x : Ext w) => skind_any B v D hF i hi x.val (hr.below x.below) (hB.below x.below))
  have hsp : D.spans.length ≤ 12 := by have := hF.spans; have := hF.geo.2.2.2.2.1; omega
  have hpy := Lib.hid (fun (p : Int) (h : IsPage D p) (x : Ext w) => spage_yes B v D p (by omega) h x.val (hr.below x.below) (hB.below x.below))
  have hpn := Lib.hid (fun (p : Int) (h : ¬ IsPage D p) (x : Ext w) => spage_no B v D p (by omega) h x.val (hr.below x.below) (hB.below x.below))
  have hpg0 : 0 ≤ D.pages := by have := hF.geo.2.2.2.1; omega
  have hpg1 : D.pages ≤ 12 := hF.geo.2.2.2.2.1
  have hwl := Lib.hid hF.words
  have hF' := Lib.hid hF
  have hI' := Lib.hid hI
  have hLI' := Lib.hid hLI
  have hL' := Lib.hid hL
  obtain ⟨vw, vd, vs, vm, vg, rfl, a1, a2, a3, a4, a5⟩ := hr
  obtain ⟨cs, he, hh⟩ := hB
  obtain rfl := (Value.agg.inj he).symm
  obtain ⟨aW, cW, rfl, hwm, hx⟩ := a1
  obtain ⟨aC, cC, rfl, hcm, hy⟩ := hc
  have g1 := Ext.cell (cell_of_heap hh 1 (.int .i64 D.pages) rfl)
  have g2 := Ext.cell (cell_of_heap hh 2 (.slice aW D.words.length cW) rfl)
  have hx' := Lib.hid hx
  have hy' := Lib.hid hy
  unfold maxLen at hwm
  clear a2 a3 a4 a5 he hh hx hy hF hI hLI hsp hcm
  go_enter Tryz.func41, Tryz.ntmps41
  go_wp2_with fail
  go_loopw [5, 6] (fun s i wr => ∃ (k : Nat) (O : List Int) (x : Ext w), k ≤ L.length ∧ i = .int .i64 k ∧ s = .string (ints O) ∧ wr = x.val ∧ Hid (CardsV D (L.take k) O)) (fun _ i _ => L.length - (RowKit.intOf i).toNat)
  case atStart => exact ⟨0, [], Ext.self w, Nat.zero_le _, rfl, rfl, rfl, Lib.hid rfl⟩
  case round =>
    obtain ⟨k, O, x, hk, rfl, rfl, rfl, hO⟩ := hrel
    by_cases hlt : k < L.length
    · obtain ⟨b1, o1, rfl, q0⟩ := hy'.out k hlt
      have q0' := Ext.cell q0
      have hlt' : (k : Int) < (L.length : Int) := by omega
      have hltH := Lib.hid hlt
      have htk := Lib.hid (List.take_succ_eq_append_getElem hlt)
      have hge : L[k]?.getD 0 = L[k] := by rw [List.getElem?_eq_getElem hlt]; rfl
      rw [hge] at q0'
      have hci : I64 L[k] := hLI'.out _ (List.getElem_mem _)
      generalize L[k] = c at *
      clear q0 hge
      by_cases c0 : c < 0
      · have hno := Lib.hid (show CardsV D (L.take (k + 1)) O by rw [htk.out]; exact hO.out.no (fun h => by have := h.1; omega))
        have d0 : decide (c < 0) = true := decide_eq_true c0
        go_wp2_with fail
        refine wp_region_ext x.below (by kernel_rfl) (by kernel_rfl) ?_
        repeat (go_big_quiet_step (fail))
        refine wpQuiet_nil ?_
        intro _ hw'
        obtain ⟨x9, hw''⟩ := hw'
        subst hw''
        go_wp2_with fail
        go_roundw
        case rel => exact ⟨k + 1, O, x9, by have := hltH.out; omega, by go_num, rfl, rfl, hno⟩
        case measure => (have := hltH.out; simp [RowKit.intOf]; omega)
      by_cases c1 : D.pages * 4 ≤ c
      · have hno := Lib.hid (show CardsV D (L.take (k + 1)) O by rw [htk.out]; exact hO.out.no (fun h => by have := h.2.1; omega))
        have d0 : decide (c < 0) = false := decide_eq_false c0
        have d1 : decide (D.pages * 4 ≤ c) = true := decide_eq_true c1
        go_wp2_with fail
        refine wp_region_ext x.below (by kernel_rfl) (by kernel_rfl) ?_
        repeat (go_big_quiet_step (fail))
        refine wpQuiet_nil ?_
        intro _ hw'
        obtain ⟨x9, hw''⟩ := hw'
        subst hw''
        go_wp2_with fail
        go_roundw
        case rel => exact ⟨k + 1, O, x9, by have := hltH.out; omega, by go_num, rfl, rfl, hno⟩
        case measure => (have := hltH.out; simp [RowKit.intOf]; omega)
      obtain ⟨n, rfl⟩ : ∃ n : Nat, c = (n : Int) := ⟨c.toNat, by omega⟩
      have d0 : decide ((n : Int) < 0) = false := decide_eq_false c0
      have d1 : decide (D.pages * 4 ≤ (n : Int)) = false := decide_eq_false c1
      obtain ⟨p, hp⟩ : ∃ p : Nat, p = n / 4 := ⟨_, rfl⟩
      have E1 := Lib.hid (show (n : Int).tdiv 4 = (p : Int) by rw [Int.tdiv_eq_ediv_of_nonneg (by omega)]; omega)
      have E2 := Lib.hid (show IntKind.i64.wrap (p : Int) = (p : Int) from IntWalk.i64_in _ (by omega))
      have hnp := Lib.hid hp
      have hn48 := Lib.hid (show n < 48 ∧ (n : Int) < D.pages * 4 by omega)
      clear hp
      by_cases hpp : IsPage D (p : Int)
      case neg =>
        have hno := Lib.hid (show CardsV D (L.take (k + 1)) O by rw [htk.out]; exact hO.out.no (fun h => by have := h.2.2; rw [Int.toNat_natCast, ← hnp.out] at this; exact hpp this))
        have hcl := Lib.hid (fun (y : Ext w) => hpn.out (p : Int) hpp y)
        clear hpp
        have e1 := E1.out
        have e2 := E2.out
        go_wp2_with fail
        refine wp_region_ext x.below (by kernel_rfl) (by kernel_rfl) ?_
        repeat (go_big_quiet_step ((go_at_call 87; exact Ext.same (hcl.out _))))
        refine wpQuiet_nil ?_
        intro _ hw'
        obtain ⟨x9, hw''⟩ := hw'
        subst hw''
        go_wp2_with fail
        go_roundw
        case rel => exact ⟨k + 1, O, x9, by have := hltH.out; omega, by go_num, rfl, rfl, hno⟩
        case measure => (have := hltH.out; simp [RowKit.intOf]; omega)
      have htold := Lib.hid (show Told D (n : Int) from ⟨by omega, hn48.out.2, by rw [Int.toNat_natCast, ← hnp.out]; exact hpp⟩)
      have hcl := Lib.hid (fun (y : Ext w) => hpy.out (p : Int) hpp y)
      clear hpp
      have hOa := Lib.hid (hO.out.all hF'.out hI'.out (fun y hy => hLI'.out y (List.mem_of_mem_take hy)))
      have hOl := Lib.hid (show O.length ≤ 9000 by have h1 := hO.out.len; have := hL'.out; rw [List.length_take] at h1; omega)
      obtain ⟨O1, hO1⟩ : ∃ O1, O1 = O ++ [(n : Int)] := ⟨_, rfl⟩
      have e3 := fun W => add_int (P := Tryz.prog) hOa.out hci (by have := hOl.out; omega) hO1 W
      have hO1a := Lib.hid (show AllI O1 by rw [hO1]; exact allI_append hOa.out (allI_one hci))
      have hO1l := Lib.hid (show O1.length ≤ 9001 by have := hOl.out; rw [hO1]; simp; omega)
      have hO1' := Lib.hid hO1
      clear hO1
      have e1 := E1.out
      have e2 := E2.out
      go_wp2_with fail
      refine wp_region_ext x.below (by kernel_rfl) (by kernel_rfl) ?_
      repeat (go_big_quiet_step ((go_at_call 87; exact Ext.same (hcl.out _))))
      refine wpQuiet_nil ?_
      intro _ hw'
      obtain ⟨x9, hw''⟩ := hw'
      subst hw''
      go_wp2_with fail
      refine (putInt1 hci _).mono ?_
      rintro e w4 ⟨rfl, b4⟩
      obtain ⟨x4, rfl⟩ := x9.then b4
      clear b4
      go_wp2_with fail
      clear e1 e2 e3
      obtain ⟨M, hM⟩ : ∃ M : Nat, M = n * 8 := ⟨_, rfl⟩
      have hMb : M ≤ 400 := by have := hn48.out; omega
      have M1 := Lib.hid (show wrap64 ((n : Int) * 8) = (M : Int) by rw [← IntWalk.i64_left, IntWalk.i64_in _ (by have := hn48.out; omega)]; omega)
      have M2 := Lib.hid (show IntKind.i64.wrap ((n : Int) * 8) = (M : Int) by rw [IntWalk.i64_in _ (by have := hn48.out; omega)]; omega)
      have hMn := Lib.hid hM
      have hMw := Lib.hid (show M + 8 ≤ D.words.length by have := hn48.out; have := hwl.out; omega)
      clear hM
      go_loopw [5, 7, 8, 9, 70] (fun s i _ _ _ wr => ∃ (j : Nat) (X : List Int) (y : Ext w), j ≤ 8 ∧ i = .int .i64 j ∧ s = .string (ints (O1 ++ X)) ∧ wr = y.val ∧ Hid (CardL D n j X)) (fun _ i _ _ _ _ => 8 - (RowKit.intOf i).toNat)
      case atStart => exact ⟨0, [], x4, by omega, rfl, by rw [List.append_nil], rfl, Lib.hid (CardL.zero D n)⟩
      case round =>
        obtain ⟨j, X, y, hj, rfl, rfl, rfl, hX⟩ := hrel
        by_cases hlj : j < 8
        · obtain ⟨P, hP⟩ : ∃ P : Nat, P = M + j := ⟨_, rfl⟩
          obtain ⟨b2, o2, rfl, c2⟩ := hx'.out P (by have := hMw.out; omega)
          have c2' := Ext.cell c2
          have hPl : (P : Int) < (D.words.length : Int) := by have := hMw.out; omega
          have hlj' : (j : Int) < 8 := by omega
          have M3 := Lib.hid (show wrap64 ((M : Int) + (j : Int)) = (P : Int) by rw [← IntWalk.i64_left, IntWalk.i64_in _ (by omega)]; omega)
          have M4 := Lib.hid (show IntKind.i64.wrap ((M : Int) + (j : Int)) = (P : Int) by rw [IntWalk.i64_in _ (by omega)]; omega)
          have M5 := Lib.hid (show (M : Int) + (j : Int) = (P : Int) by omega)
          have hPM := Lib.hid (show P = n * 8 + j by have := hMn.out; omega)
          have hP1000 := Lib.hid (show P < 1000 by omega)
          have hxI : I64 (D.words[P]?.getD 0) := by
            rw [List.getElem?_eq_getElem (by have := hMw.out; omega)]; exact hI'.out.words _ (List.getElem_mem _)
          have hwd := Lib.hid (show ∀ c x, KindI D P c → ((c = 2 ∧ RefV D (D.words[P]?.getD 0) x) ∨ (c = 3 ∧ x = 0) ∨ (c ≠ 2 ∧ c ≠ 3 ∧ x = D.words[P]?.getD 0)) → WordV D P x from fun c x h1 h2 => ⟨c, h1, h2⟩)
          have hTa := Lib.hid (allI_append hO1a.out (hX.out.all hF'.out hI'.out))
          have hTl := Lib.hid (show (O1 ++ X).length ≤ 9009 by have := hO1l.out; have := hX.out.1; rw [List.length_append]; omega)
          clear hP c2
          generalize D.words[P]?.getD 0 = g at *
          obtain ⟨T, hT⟩ : ∃ T, T = O1 ++ X := ⟨_, rfl⟩
          rw [← hT] at hTa hTl
          rw [← hT]
          have hT' := Lib.hid hT
          clear hT
          have m1 := M1.out
          have m2 := M2.out
          have m5 := M5.out

          go_wp2_with fail
          refine (hkind.out P hP1000.out y).mono ?_
          rintro e w5 ⟨⟨c, rfl, hc⟩, b5⟩
          clear m1 m2 m5
          obtain ⟨y5, rfl⟩ := y.then b5
          clear b5

          by_cases k2 : c = 2
          · subst k2
            have hc' := Lib.hid hc
            clear hc
            go_wp2_with fail

            refine (href.out g y5).mono ?_
            rintro e w6 ⟨⟨r, rfl, hr⟩, b6⟩
            obtain ⟨y6, rfl⟩ := y5.then b6
            have hri : I64 r := RefV.i64 hF'.out hr
            have hwv := Lib.hid (hwd.out 2 r hc'.out (.inl ⟨rfl, hr⟩))
            clear b6 hr
            obtain ⟨T1, hT1⟩ : ∃ T1, T1 = T ++ [r] := ⟨_, rfl⟩
            have e5 := fun W => add_int (P := Tryz.prog) hTa.out hri (by have := hTl.out; omega) hT1 W
            have hT1' := Lib.hid hT1
            clear hT1
            go_wp2_with fail
            refine (putInt1 hri _).mono ?_
            rintro e w7 ⟨rfl, b7⟩
            obtain ⟨y7, rfl⟩ := y6.then b7
            clear b7
            go_wp2_with fail
            go_roundw
            case rel => exact ⟨j + 1, X ++ [r], y7, by omega, by go_num, by rw [hT1'.out, hT'.out, List.append_assoc], rfl, Lib.hid (hX.out.snoc (by rw [← hPM.out]; exact hwv.out))⟩
            case measure => simp [RowKit.intOf]; omega

          by_cases k3 : c = 3
          · subst k3
            have hwv := Lib.hid (hwd.out 3 0 hc (.inr (.inl ⟨rfl, rfl⟩)))
            have hz0 : I64 0 := by constructor <;> decide
            clear hc k2
            obtain ⟨T1, hT1⟩ : ∃ T1, T1 = T ++ [0] := ⟨_, rfl⟩
            have e5 := fun W => add_int (P := Tryz.prog) hTa.out hz0 (by have := hTl.out; omega) hT1 W
            have hT1' := Lib.hid hT1
            clear hT1
            go_wp2_with fail
            refine (putInt1 hz0 _).mono ?_
            rintro e w7 ⟨rfl, b7⟩
            obtain ⟨y7, rfl⟩ := y5.then b7
            clear b7
            go_wp2_with fail
            go_roundw
            case rel => exact ⟨j + 1, X ++ [0], y7, by omega, by go_num, by rw [hT1'.out, hT'.out, List.append_assoc], rfl, Lib.hid (hX.out.snoc (by rw [← hPM.out]; exact hwv.out))⟩
            case measure => simp [RowKit.intOf]; omega
          have hwv := Lib.hid (hwd.out c g hc (.inr (.inr ⟨k2, k3, rfl⟩)))

          have d2 : (c == 2) = false := beq_eq_false_iff_ne.2 k2
          have d3 : (c == 3) = false := beq_eq_false_iff_ne.2 k3
          clear hc k2 k3
          obtain ⟨T1, hT1⟩ : ∃ T1, T1 = T ++ [g] := ⟨_, rfl⟩
          have e5 := fun W => add_int (P := Tryz.prog) hTa.out hxI (by have := hTl.out; omega) hT1 W
          have hT1' := Lib.hid hT1
          clear hT1
          go_wp2_with fail
          refine (putInt1 hxI _).mono ?_
          rintro e w7 ⟨rfl, b7⟩
          obtain ⟨y7, rfl⟩ := y5.then b7
          clear b7
          go_wp2_with fail
          go_roundw
          case rel => exact ⟨j + 1, X ++ [g], y7, by omega, by go_num, by rw [hT1'.out, hT'.out, List.append_assoc], rfl, Lib.hid (hX.out.snoc (by rw [← hPM.out]; exact hwv.out))⟩
          case measure => simp [RowKit.intOf]; omega
        · obtain rfl : j = 8 := by omega
          have hL2 := hL'.out
          have hlt2 := hltH.out
          have hfin := Lib.hid (show CardsV D (L.take (k + 1)) (O1 ++ X) by
            rw [htk.out, hO1'.out, List.append_assoc, List.singleton_append]
            exact hO.out.yes htold.out (by rw [Int.toNat_natCast]; exact hX.out))
          go_wp2_with fail
          go_roundw
          case rel => exact ⟨k + 1, O1 ++ X, y, by have := hltH.out; omega, by go_num, rfl, rfl, hfin⟩
          case measure => (have := hltH.out; simp [RowKit.intOf]; omega)
    · obtain rfl : k = L.length := by omega
      have t1 := Lib.hid (fun W => spec_section_any 87 (ints O) W)
      have hfin := Lib.hid (show WordsIs D L (secB 87 (ints O)) from ⟨O, by have := hO.out; rwa [List.take_length] at this, rfl⟩)
      generalize secB 87 (ints O) = A1 at *
      go_wp2_with fail
      refine (t1.out _).mono ?_
      rintro e w5 ⟨rfl, b5⟩
      have hbb := Lib.hid (below_trans x.below b5)
      clear b5
      go_wp2_with fail
      go_ret
      exact ⟨⟨_, rfl, hfin.out⟩, hbb.out⟩
end Go.Proofs.YtpaepkcfdnddgaaGreat

namespace Go.Proofs.YtpaepkcfdnddgaaGreat
open Go.RowKit
set_option linter.unusedVariables false

def cards4 (s : SpanD) (j : Nat) : List Int := (List.range j).map fun (i : Nat) => s.page * 4 + (i : Int)
def allP (D : WD) (k : Nat) : List Int := (D.spans.take k).flatMap fun s => cards4 s 4
theorem cards4_succ (s : SpanD) (j : Nat) : cards4 s (j + 1) = cards4 s j ++ [s.page * 4 + (j : Int)] := by
  unfold cards4; rw [List.range_succ, List.map_append]; rfl
theorem cards4_len (s : SpanD) (j : Nat) : (cards4 s j).length = j := by simp [cards4]
theorem allP_succ {D : WD} {k : Nat} {s : SpanD} (h : D.spans[k]? = some s) : allP D (k + 1) = allP D k ++ cards4 s 4 := by
  obtain ⟨hk, rfl⟩ := List.getElem?_eq_some_iff.1 h
  unfold allP
  rw [List.take_succ_eq_append_getElem hk, List.flatMap_append]
  simp
theorem allP_len (D : WD) (k : Nat) : (allP D k).length ≤ 4 * k := by
  unfold allP
  have : ∀ l : List SpanD, (l.flatMap fun s => cards4 s 4).length = 4 * l.length := fun l => by
    induction l with
    | nil => rfl
    | cons a l ih => simp only [List.flatMap_cons, List.length_append, List.length_cons, cards4_len, ih]; omega
  rw [this, List.length_take]
  omega
theorem allP_all {D : WD} (hF : HeapForm D) (k : Nat) : AllI (allP D k) := fun x hx => by
  obtain ⟨s, hs, hx⟩ := List.mem_flatMap.1 hx
  obtain ⟨i, hi, he⟩ := List.getElem_of_mem (List.mem_of_mem_take hs)
  have A := hF.span i s (by rw [List.getElem?_eq_getElem hi, he])
  have := A.pg0
  have := A.pg1
  have := hF.geo.2.2.2.2.1
  unfold cards4 at hx
  obtain ⟨j, hj, rfl⟩ := List.mem_map.1 hx
  have := List.mem_range.1 hj
  constructor <;> omega

set_option maxRecDepth 100000 in
set_option maxHeartbeats 4000000 in
theorem sall_any (B : Nat) (v : Value) (D : WD) (hF : HeapForm D) (w : World) (hr : RdW w v D) (hB : BoxW w B v) :
    Calls Tryz.prog 43 #[.pointer (some ⟨B, 0, none⟩)] w fun e w' => (∃ u, e = .returned u ∧ w'.ownsRow w.heap.size 3 1 u (allP D D.spans.length).length ((allP D D.spans.length).map (Value.int .i64))) ∧ Below w.heap.size w w' := by
  have hsp : D.spans.length ≤ 12 := by have := hF.spans; have := hF.geo.2.2.2.2.1; omega
  have hpgs := hF.geo.2.2.2.2.1
  have hpb := Lib.hid (fun (k : Nat) (s : SpanD) (h : D.spans[k]? = some s) => (show 0 ≤ s.page ∧ s.page ≤ 12 from ⟨(hF.span k s h).pg0, by have := (hF.span k s h).pg1; omega⟩))
  obtain ⟨vw, vd, vs, vm, vg, rfl, a1, a2, a3, a4, a5⟩ := hr
  obtain ⟨cs, he, hh⟩ := hB
  obtain rfl := (Value.agg.inj he).symm
  obtain ⟨aS, cS, rfl, hsl, hx⟩ := a3
  have G4 := Lib.hid (cell_of_heap hh 4 (.slice aS D.spans.length cS) rfl)
  have hx' := Lib.hid hx
  have hsl' := Lib.hid hsp
  obtain ⟨i0, hi, hz0, hz1, hz2⟩ := info_parts info3
  clear a1 a2 a4 a5 he hh hx hsl hF hsp hpgs
  go_enter Tryz.func43, Tryz.ntmps43
  go_wp2_with fail
  go_loopw [3, 4] (fun v i wr => ∃ k : Nat, k ≤ D.spans.length ∧ i = .int .i64 k ∧ wr.ownsRow w.heap.size 3 1 v (allP D k).length ((allP D k).map (Value.int .i64)) ∧ Below w.heap.size w wr) (fun _ i _ => D.spans.length - (RowKit.intOf i).toNat)
  case atStart => exact ⟨0, Nat.zero_le _, rfl, World.ownsRow_nil _ _ _ _, Below.refl _ _⟩
  case round =>
    obtain ⟨k, hk, rfl, hown, hB⟩ := hrel
    have g4 := cell_below hB G4.out
    by_cases hlt : k < D.spans.length
    · obtain ⟨s, hs⟩ : ∃ s, D.spans[k]? = some s := ⟨_, List.getElem?_eq_getElem hlt⟩
      obtain ⟨b1, o1, rfl, vl, vp, q0, q1, q2, q3, q4, q5, -, -⟩ := hx'.out k s hs
      have Q0 := Lib.hid q0
      obtain ⟨hp0, hp1⟩ := hpb.out k s hs
      have hlt' : (k : Int) < (D.spans.length : Int) := by omega
      have hk12 := hsl'.out
      have hss := Lib.hid (allP_succ hs)
      have hle := allP_len D k
      have hown' := Lib.hid hown
      have hB' := Lib.hid hB
      have hltH := Lib.hid hlt
      clear q0 q1 q2 q3 q4 q5 hs hown hB
      go_wp2_with fail
      clear g4
      obtain ⟨wo, rfl⟩ : ∃ wo : World, wo = wr := ⟨_, rfl⟩
      go_loopw [3, 5] (fun v i wr => ∃ j : Nat, j ≤ 4 ∧ i = .int .i64 j ∧ wr.ownsRow w.heap.size 3 1 v (allP D k ++ cards4 s j).length ((allP D k ++ cards4 s j).map (Value.int .i64)) ∧ Below w.heap.size w wr) (fun _ i _ => 4 - (RowKit.intOf i).toNat)
      case atStart => exact ⟨0, by omega, rfl, by simpa [cards4] using hown'.out, hB'.out⟩
      case round =>
        obtain ⟨j, hj, rfl, hown, hB⟩ := hrel
        have g4 := cell_below hB G4.out
        have q0 := cell_below hB Q0.out
        by_cases hlj : j < 4
        · have hlj' : (j : Int) < 4 := by omega
          have hBs := hB.size
          have hs2 := Lib.hid (cards4_succ s j)
          have hcl := cards4_len s j
          have hTl : (allP D k ++ cards4 s j).length ≤ 100 := by rw [List.length_append]; omega
          have hfin := Lib.hid (show allP D k ++ cards4 s (j + 1) = (allP D k ++ cards4 s j) ++ [s.page * 4 + (j : Int)] by rw [hs2.out, List.append_assoc])
          generalize allP D k ++ cards4 s j = T at *
          clear hcl hle
          generalize s.page = p at *
          go_wp2_with (at_builtin; refine wpList_append_own _ rfl _ _ 22 rfl w.heap.size 3 i0 (.int .i64 0) 1 8 Tryz.underlying22 hi hz0 hz1 hz2 rfl (by decide) _ _ _ rfl (hown.alloc _) ⟨wr.heap.size, 0, none⟩ 1 1 [.int .i64 (p * 4 + (j : Int))] rfl rfl (cell_one _ _ _) (by simp [Value.oneCell']) (by unfold maxLen; omega) (by omega) (by simp; omega) ?_; intro v' w1 hown' hgrow _)
          have hB' := Lib.hid (row_below (hB.alloc hBs _) (hown.alloc _) hgrow (by simp; omega))
          have ho2 := Lib.hid (show w1.ownsRow w.heap.size 3 1 v' (T ++ [p * 4 + (j : Int)]).length ((T ++ [p * 4 + (j : Int)]).map (Value.int .i64)) by simpa using hown')
          clear hown' hgrow hown hB hBs q0 g4
          go_wp2_with fail
          go_roundw
          case rel => exact ⟨j + 1, by omega, by go_num, by rw [hfin.out]; exact ho2.out, hB'.out⟩
          case measure => simp [RowKit.intOf]; omega
        · obtain rfl : j = 4 := by omega
          have hltK := hltH.out
          have ho2 := Lib.hid hown
          have hB2 := Lib.hid hB
          clear hown hB q0 g4
          go_wp2_with fail
          go_roundw
          case rel => exact ⟨k + 1, by have := hltH.out; omega, by go_num, by rw [hss.out]; exact ho2.out, hB2.out⟩
          case measure => (have := hltH.out; simp [RowKit.intOf]; omega)
    · obtain rfl : k = D.spans.length := by omega
      have ho2 := Lib.hid hown
      have hB2 := Lib.hid hB
      clear hown hB
      go_wp2_with fail
      go_ret
      exact ⟨⟨_, rfl, ho2.out⟩, hB2.out⟩
end Go.Proofs.YtpaepkcfdnddgaaGreat

namespace Go.Proofs.YtpaepkcfdnddgaaGreat
open Go.RowKit
set_option linter.unusedVariables false

/-- It returned what MetaBytes, WordBytes, Encode are. -/
def MetaR (D : WD) (e : Ending) : Prop := (Right D ∧ ∃ b, e = .returned (.string b) ∧ MetaIs D b) ∨ (¬ Right D ∧ e = .returned (.string ⟨#[]⟩))
def WordR (D : WD) (L : List Int) (e : Ending) : Prop := ((Right D ∧ L.length ≤ 1000) ∧ ∃ b, e = .returned (.string b) ∧ WordsIs D L b) ∨ (¬ (Right D ∧ L.length ≤ 1000) ∧ e = .returned (.string ⟨#[]⟩))
def EncIs (D : WD) (b : ByteArray) : Prop := ∃ m x, MetaIs D m ∧ WordsIs D (allP D D.spans.length) x ∧ b = ⟨#[66, 82, 77, 49]⟩ ++ m ++ x
def EncR (D : WD) (e : Ending) : Prop := (Right D ∧ ∃ b, e = .returned (.string b) ∧ EncIs D b) ∨ (¬ Right D ∧ e = .returned (.string ⟨#[]⟩))
theorem EncIs.unique {D : WD} (hF : HeapForm D) {b b' : ByteArray} (h : EncIs D b) (h' : EncIs D b') : b' = b := by
  obtain ⟨m, x, h1, h2, rfl⟩ := h
  obtain ⟨m', x', h1', h2', rfl⟩ := h'
  rw [h1.unique hF h1', h2.unique hF h2']
theorem MetaR.unique {D : WD} {e e' : Ending} (h : MetaR D e) (h' : MetaR D e') : e' = e := by
  rcases h with ⟨h1, b, rfl, h2⟩ | ⟨h1, rfl⟩ <;> rcases h' with ⟨h1', b', rfl, h2'⟩ | ⟨h1', rfl⟩
  · rw [h2.unique h1.1 h2']
  · exact absurd h1 h1'
  · exact absurd h1' h1
  · rfl
theorem WordR.unique {D : WD} {L : List Int} {e e' : Ending} (h : WordR D L e) (h' : WordR D L e') : e' = e := by
  rcases h with ⟨h1, b, rfl, h2⟩ | ⟨h1, rfl⟩ <;> rcases h' with ⟨h1', b', rfl, h2'⟩ | ⟨h1', rfl⟩
  · rw [h2.unique h1.1.1 h2']
  · exact absurd h1 h1'
  · exact absurd h1' h1
  · rfl
theorem EncR.unique {D : WD} {e e' : Ending} (h : EncR D e) (h' : EncR D e') : e' = e := by
  rcases h with ⟨h1, b, rfl, h2⟩ | ⟨h1, rfl⟩ <;> rcases h' with ⟨h1', b', rfl, h2'⟩ | ⟨h1', rfl⟩
  · rw [h2.unique h1.1 h2']
  · exact absurd h1 h1'
  · exact absurd h1' h1
  · rfl
theorem MetaIs.size {D : WD} {b : ByteArray} (h : MetaIs D b) : b.size ≤ 900000 := by
  obtain ⟨R, G, _, _, rfl⟩ := h
  have s1 := secB_size 71 (ints (roundN D))
  have s2 := secB_size 83 (ints (spansP D D.spans.length))
  have s3 := secB_size 82 (ints (R ++ ((D.grey.length : Int) :: G)))
  rw [ByteArray.size_append, ByteArray.size_append]
  omega
theorem WordsIs.size {D : WD} {L : List Int} {b : ByteArray} (h : WordsIs D L b) : b.size ≤ 300000 := by
  obtain ⟨o, _, rfl⟩ := h
  exact secB_size _ _

set_option maxRecDepth 100000 in
set_option maxHeartbeats 4000000 in
theorem smetaBytes_any (v : Value) (D : WD) (hcap : CapG v) (hI : FitD D) (hgr : D.grey.length ≤ 2000000) (w : World) (hr : RdW w v D) :
    Calls Tryz.prog 8 #[v] w fun e w' => MetaR D e ∧ Below w.heap.size w w' := by
  have hcap' := Lib.hid hcap
  have hI' := Lib.hid hI
  have hgr' := Lib.hid hgr
  clear hcap hI hgr
  obtain ⟨vw, vd, vs, vm, vg, rfl, a1, a2, a3, a4, a5⟩ := hr
  have bx := box_new w (.cells #[.int .i64 D.base, .int .i64 D.pages, vw, vd, vs, vm, .int .i64 D.phase, .int .i64 D.next, vg] 36)
  have bw := below_box w (.cells #[.int .i64 D.base, .int .i64 D.pages, vw, vd, vs, vm, .int .i64 D.phase, .int .i64 D.next, vg] 36)
  have hW := Lib.hid (show RdW (w.alloc (.cells #[.int .i64 D.base, .int .i64 D.pages, vw, vd, vs, vm, .int .i64 D.phase, .int .i64 D.next, vg] 36)) (.agg #[.int .i64 D.base, .int .i64 D.pages, vw, vd, vs, vm, .int .i64 D.phase, .int .i64 D.next, vg]) D from ⟨vw, vd, vs, vm, vg, rfl, a1.below bw, a2.below bw, a3.below bw, a4.below bw, a5.below bw⟩)
  have hBx := Lib.hid (show BoxW (w.alloc (.cells #[.int .i64 D.base, .int .i64 D.pages, vw, vd, vs, vm, .int .i64 D.phase, .int .i64 D.next, vg] 36)) w.heap.size (.agg #[.int .i64 D.base, .int .i64 D.pages, vw, vd, vs, vm, .int .i64 D.phase, .int .i64 D.next, vg]) from ⟨_, rfl, bx⟩)
  have bw' := Lib.hid bw
  clear a1 a2 a3 a4 a5 bx bw
  go_enter Tryz.func8, Tryz.ntmps8
  go_wp2_with fail
  refine (sworldOk_any _ D hcap'.out _ hW.out).mono ?_
  rintro e w1 ⟨hq, b1⟩
  replace hq := hq.elim
  have hr1 := Lib.hid (hW.out.below b1)
  have hB1 := Lib.hid (hBx.out.below b1)
  have bb1 := Lib.hid (below_trans bw'.out b1)
  clear b1
  rcases hq with ⟨hF, rfl⟩ | ⟨hF, rfl⟩
  case inr =>
    have n := Lib.hid (show MetaR D (.returned (.string ⟨#[]⟩)) from .inr ⟨hF, rfl⟩)
    clear hF
    go_wp2_with fail
    go_ret
    exact ⟨n.out, bb1.out⟩
  have hF' := Lib.hid hF
  have h2 := Lib.hid (smeta_at w.heap.size _ D hF.1 hI'.out hgr'.out w1 hr1.out hB1.out)
  clear hF
  go_wp2_with fail
  refine h2.out.mono ?_
  rintro e w2 ⟨⟨b, rfl, hb⟩, b2⟩
  have n := Lib.hid (show MetaR D (.returned (.string b)) from .inl ⟨hF'.out, b, rfl, hb⟩)
  have bb2 := Lib.hid (below_trans bb1.out b2)
  clear hb b2
  go_wp2_with fail
  go_ret
  exact ⟨n.out, bb2.out⟩

set_option maxRecDepth 100000 in
set_option maxHeartbeats 4000000 in
theorem swordBytes_any (v vc : Value) (D : WD) (L : List Int) (hL : L.length ≤ 1000000000) (hLI : AllI L) (hcap : CapG v) (hI : FitD D) (w : World) (hr : RdW w v D) (hc : Rd w vc L) :
    Calls Tryz.prog 12 #[v, vc] w fun e w' => WordR D L e ∧ Below w.heap.size w w' := by
  have hcap' := Lib.hid hcap
  have hI' := Lib.hid hI
  have hLI' := Lib.hid hLI
  clear hcap hI hLI
  obtain ⟨vw, vd, vs, vm, vg, rfl, a1, a2, a3, a4, a5⟩ := hr
  have bx := box_new w (.cells #[.int .i64 D.base, .int .i64 D.pages, vw, vd, vs, vm, .int .i64 D.phase, .int .i64 D.next, vg] 36)
  have bw := below_box w (.cells #[.int .i64 D.base, .int .i64 D.pages, vw, vd, vs, vm, .int .i64 D.phase, .int .i64 D.next, vg] 36)
  have hW := Lib.hid (show RdW (w.alloc (.cells #[.int .i64 D.base, .int .i64 D.pages, vw, vd, vs, vm, .int .i64 D.phase, .int .i64 D.next, vg] 36)) (.agg #[.int .i64 D.base, .int .i64 D.pages, vw, vd, vs, vm, .int .i64 D.phase, .int .i64 D.next, vg]) D from ⟨vw, vd, vs, vm, vg, rfl, a1.below bw, a2.below bw, a3.below bw, a4.below bw, a5.below bw⟩)
  have hBx := Lib.hid (show BoxW (w.alloc (.cells #[.int .i64 D.base, .int .i64 D.pages, vw, vd, vs, vm, .int .i64 D.phase, .int .i64 D.next, vg] 36)) w.heap.size (.agg #[.int .i64 D.base, .int .i64 D.pages, vw, vd, vs, vm, .int .i64 D.phase, .int .i64 D.next, vg]) from ⟨_, rfl, bx⟩)
  have bw' := Lib.hid bw
  clear a1 a2 a3 a4 a5 bx bw
  obtain ⟨aC, cC, rfl, hcl, hcx⟩ := hc
  have hC := Lib.hid (show Rd w (.slice aC L.length cC) L from ⟨aC, cC, rfl, hcl, hcx⟩)
  clear hcx
  unfold maxLen at hcl
  go_enter Tryz.func12, Tryz.ntmps12
  go_wp2_with fail
  refine (sworldOk_any _ D hcap'.out _ hW.out).mono ?_
  rintro e w1 ⟨hq, b1⟩
  replace hq := hq.elim
  have hr1 := Lib.hid (hW.out.below b1)
  have hB1 := Lib.hid (hBx.out.below b1)
  have bb1 := Lib.hid (below_trans bw'.out b1)
  clear b1
  rcases hq with ⟨hF, rfl⟩ | ⟨hF, rfl⟩
  case inr =>
    have n := Lib.hid (show WordR D L (.returned (.string ⟨#[]⟩)) from .inr ⟨fun h => hF h.1, rfl⟩)
    clear hF
    go_wp2_with fail
    go_ret
    exact ⟨n.out, bb1.out⟩
  have hF' := Lib.hid hF
  by_cases h1000 : 1000 < L.length
  · have n := Lib.hid (show WordR D L (.returned (.string ⟨#[]⟩)) from .inr ⟨fun h => by have := h.2; omega, rfl⟩)
    have hd : (1000 : Int) < (L.length : Int) := by omega
    clear hF
    go_wp2_with fail
    go_ret
    exact ⟨n.out, bb1.out⟩
  have h2 := Lib.hid (swords_at w.heap.size _ _ D L (by omega) hLI'.out hF.1 hI'.out w1 hr1.out hB1.out (hC.out.below bb1.out))
  have hd : ¬ (1000 : Int) < (L.length : Int) := by omega
  have hle := Lib.hid (show L.length ≤ 1000 by omega)
  clear hF h1000
  go_wp2_with fail
  refine h2.out.mono ?_
  rintro e w2 ⟨⟨b, rfl, hb⟩, b2⟩
  have n := Lib.hid (show WordR D L (.returned (.string b)) from .inl ⟨⟨hF'.out, hle.out⟩, b, rfl, hb⟩)
  have bb2 := Lib.hid (below_trans bb1.out b2)
  clear hb b2
  go_wp2_with fail
  go_ret
  exact ⟨n.out, bb2.out⟩

set_option maxRecDepth 100000 in
set_option maxHeartbeats 4000000 in
theorem sencode_any (v : Value) (D : WD) (hcap : CapG v) (hI : FitD D) (hgr : D.grey.length ≤ 2000000) (w : World) (hr : RdW w v D) :
    Calls Tryz.prog 16 #[v] w fun e w' => EncR D e ∧ Below w.heap.size w w' := by
  have hcap' := Lib.hid hcap
  have hI' := Lib.hid hI
  have hgr' := Lib.hid hgr
  clear hcap hI hgr
  obtain ⟨vw, vd, vs, vm, vg, rfl, a1, a2, a3, a4, a5⟩ := hr
  have bx := box_new w (.cells #[.int .i64 D.base, .int .i64 D.pages, vw, vd, vs, vm, .int .i64 D.phase, .int .i64 D.next, vg] 36)
  have bw := below_box w (.cells #[.int .i64 D.base, .int .i64 D.pages, vw, vd, vs, vm, .int .i64 D.phase, .int .i64 D.next, vg] 36)
  have hW := Lib.hid (show RdW (w.alloc (.cells #[.int .i64 D.base, .int .i64 D.pages, vw, vd, vs, vm, .int .i64 D.phase, .int .i64 D.next, vg] 36)) (.agg #[.int .i64 D.base, .int .i64 D.pages, vw, vd, vs, vm, .int .i64 D.phase, .int .i64 D.next, vg]) D from ⟨vw, vd, vs, vm, vg, rfl, a1.below bw, a2.below bw, a3.below bw, a4.below bw, a5.below bw⟩)
  have hBx := Lib.hid (show BoxW (w.alloc (.cells #[.int .i64 D.base, .int .i64 D.pages, vw, vd, vs, vm, .int .i64 D.phase, .int .i64 D.next, vg] 36)) w.heap.size (.agg #[.int .i64 D.base, .int .i64 D.pages, vw, vd, vs, vm, .int .i64 D.phase, .int .i64 D.next, vg]) from ⟨_, rfl, bx⟩)
  have bw' := Lib.hid bw
  clear a1 a2 a3 a4 a5 bx bw
  go_enter Tryz.func16, Tryz.ntmps16
  go_wp2_with fail
  refine (sworldOk_any _ D hcap'.out _ hW.out).mono ?_
  rintro e w1 ⟨hq, b1⟩
  replace hq := hq.elim
  have hr1 := Lib.hid (hW.out.below b1)
  have hB1 := Lib.hid (hBx.out.below b1)
  have bb1 := Lib.hid (below_trans bw'.out b1)
  clear b1
  rcases hq with ⟨hF, rfl⟩ | ⟨hF, rfl⟩
  case inr =>
    have n := Lib.hid (show EncR D (.returned (.string ⟨#[]⟩)) from .inr ⟨hF, rfl⟩)
    clear hF
    go_wp2_with fail
    go_ret
    exact ⟨n.out, bb1.out⟩
  have hF' := Lib.hid hF
  have h2 := Lib.hid (smeta_at w.heap.size _ D hF.1 hI'.out hgr'.out w1 hr1.out hB1.out)
  clear hF
  go_wp2_with fail
  refine h2.out.mono ?_
  rintro e w2 ⟨⟨m, rfl, hm⟩, b2⟩
  have ms := hm.size
  have hm' := Lib.hid hm
  have bb2 := Lib.hid (below_trans bb1.out b2)
  have hr2 := Lib.hid (hr1.out.below b2)
  have hB2 := Lib.hid (hB1.out.below b2)
  clear hm b2
  obtain ⟨G, hG⟩ : ∃ G : ByteArray, G = ⟨#[66, 82, 77, 49]⟩ ++ m := ⟨_, rfl⟩
  have e1 := fun W => (hG ▸ run_string_add_sum (P := Tryz.prog) (w := W) ⟨#[66, 82, 77, 49]⟩ m (show 4 + m.size ≤ 9223372036854775807 by omega) : (Op.stringOp .add ⟨#[66, 82, 77, 49]⟩ m).run Tryz.prog W = .ok (.string G) W)
  have gs : G.size ≤ 1000000 := by rw [hG, ByteArray.size_append]; show 4 + m.size ≤ _; omega
  have hG' := Lib.hid hG
  have h3 := Lib.hid (fun (x : Ext w2) => sall_any w.heap.size _ D hF'.out.1 x.val (hr2.out.below x.below) (hB2.out.below x.below))
  clear ms hG
  go_wp2_with fail
  refine (h3.out (Ext.self w2)).mono ?_
  rintro e w3 ⟨⟨u, rfl, hu⟩, b3⟩
  have hL3 := Lib.hid (Rd.of_owns hu)
  have b3' := Lib.hid (show Below w2.heap.size w2 w3 from b3)
  have h4 := Lib.hid (swords_at w.heap.size _ u D (allP D D.spans.length) (by have := allP_len D D.spans.length; have := hF'.out.1.spans; have := hF'.out.1.geo.2.2.2.2.1; omega) (allP_all hF'.out.1 _) hF'.out.1 hI'.out w3 (hr2.out.below b3'.out) (hB2.out.below b3'.out) hL3.out)
  clear e1 hu b3
  go_wp2_with fail
  refine h4.out.mono ?_
  rintro e w4 ⟨⟨x, rfl, hx⟩, b4⟩
  have xs := hx.size
  have bb4 := Lib.hid (below_trans (below_trans bb2.out b3'.out) b4)
  have e2 := fun W => run_string_add_sum (P := Tryz.prog) (w := W) G x (by omega)
  have n := Lib.hid (show EncR D (.returned (.string (G ++ x))) from .inl ⟨hF'.out, _, rfl, m, x, hm'.out, hx, by rw [hG'.out]⟩)
  clear hx b4 xs
  go_wp2_with fail
  go_ret
  exact ⟨n.out, bb4.out⟩
end Go.Proofs.YtpaepkcfdnddgaaGreat

import Derived.Test.YtpaepkcfdnddgaaGreatCgF1
import Derived.Test.YtpaepkcfdnddgaaGreatCgW
import Derived.Deep.RegionWith

namespace Go.Proofs.YtpaepkcfdnddgaaGreat
open Go.RowKit
set_option linter.unusedVariables false

/-- Word number x is one of the first t words of slot j of span s. -/
def InSlot (s : SpanD) (j t : Nat) (x : Nat) : Prop := ∃ t', t' < t ∧ (x : Int) = atW s (j : Int) + (t' : Int)
/-- .. is one of an object's words in the first j slots of span s. -/
def InSlots (s : SpanD) (j : Nat) (x : Nat) : Prop := ∃ j', j' < j ∧ InSlot s j' (s.lens[j']?.getD 0).toNat x
/-- .. is one of an object's words in the first k spans. -/
def InSpans (D : WD) (k : Nat) (x : Nat) : Prop := ∃ k' s, k' < k ∧ D.spans[k']? = some s ∧ InSlots s s.lens.length x
def Used (D : WD) (x : Nat) : Prop := InSpans D D.spans.length x
/-- The list says of each word whether P. -/
def Tells (U : List Bool) (n : Nat) (P : Nat → Prop) : Prop := U.length = n ∧ ∀ i, i < n → (U[i]?.getD false = true ↔ P i)

theorem Tells.congr {U : List Bool} {n : Nat} {P Q : Nat → Prop} (h : Tells U n P) (hq : ∀ i, i < n → (P i ↔ Q i)) : Tells U n Q :=
  ⟨h.1, fun i hi => (h.2 i hi).trans (hq i hi)⟩
theorem Tells.set {U : List Bool} {n : Nat} {P : Nat → Prop} (h : Tells U n P) (x : Nat) (hx : x < n) : Tells (U.set x true) n (fun i => P i ∨ i = x) := by
  refine ⟨by simpa using h.1, fun i hi => ?_⟩
  have hl := h.1
  by_cases e : i = x
  · subst e
    simp [hl, hi]
  · rw [List.getElem?_set_ne (fun h => e h.symm)]
    rw [h.2 i hi]
    simp [e]
theorem Tells.zero (n : Nat) : Tells (List.replicate n false) n (fun _ => False) :=
  ⟨by simp, fun i hi => by simp [hi]⟩
theorem inSlot_succ (s : SpanD) (j t x : Nat) : InSlot s j (t + 1) x ↔ (InSlot s j t x ∨ (x : Int) = atW s (j : Int) + (t : Int)) := by
  constructor
  · rintro ⟨t', ht, hx⟩
    by_cases e : t' = t
    · subst e; exact .inr hx
    · exact .inl ⟨t', by omega, hx⟩
  · rintro (⟨t', ht, hx⟩ | hx)
    · exact ⟨t', by omega, hx⟩
    · exact ⟨t, by omega, hx⟩
theorem inSlots_succ (s : SpanD) (j x : Nat) : InSlots s (j + 1) x ↔ (InSlots s j x ∨ InSlot s j (s.lens[j]?.getD 0).toNat x) := by
  constructor
  · rintro ⟨j', hj, hx⟩
    by_cases e : j' = j
    · subst e; exact .inr hx
    · exact .inl ⟨j', by omega, hx⟩
  · rintro (⟨j', hj, hx⟩ | hx)
    · exact ⟨j', by omega, hx⟩
    · exact ⟨j, by omega, hx⟩
theorem inSpans_succ (D : WD) (k x : Nat) (s : SpanD) (hs : D.spans[k]? = some s) : InSpans D (k + 1) x ↔ (InSpans D k x ∨ InSlots s s.lens.length x) := by
  constructor
  · rintro ⟨k', s', hk, hs', hx⟩
    by_cases e : k' = k
    · subst e
      rw [hs] at hs'
      cases hs'
      exact .inr hx
    · exact .inl ⟨k', s', by omega, hs', hx⟩
  · rintro (⟨k', s', hk, hs', hx⟩ | hx)
    · exact ⟨k', s', by omega, hs', hx⟩
    · exact ⟨k, s, by omega, hs, hx⟩
theorem slot_in {c i t : Int} (hi0 : 0 ≤ i) (hi : i < sl' c) (ht0 : 0 ≤ t) (ht : t < sz c) : 0 ≤ i * sz c ∧ i * sz c + t < 32 := by
  unfold sl' at hi
  unfold sz at *
  (repeat' split at hi) <;> simp_all <;> omega

/-- The row of bools at block B, and what it tells. -/
structure RowU (B : Nat) (W wr : World) (n : Nat) (U : List Bool) (P : Nat → Prop) : Prop where
  own : wr.ownsRow B 4 1 (sl B n) n (U.map Value.bool)
  tells : Tells U n P
  below : Below B W wr
  size : B < wr.heap.size
theorem RowU.congr {B : Nat} {W wr : World} {n : Nat} {U : List Bool} {P Q : Nat → Prop} (h : RowU B W wr n U P) (hq : ∀ i, i < n → (P i ↔ Q i)) : RowU B W wr n U Q := ⟨h.own, h.tells.congr hq, h.below, h.size⟩
theorem RowU.step {B : Nat} {W wr w2 : World} {n : Nat} {U : List Bool} {P : Nat → Prop} (h : RowU B W wr n U P) (hb : Below wr.heap.size wr w2) (x : Nat) (hx : x < n) :
    RowU B W (w2.setCell ⟨B, x, none⟩ (.bool true)) n (U.set x true) (fun i => P i ∨ i = x) := by
  have ho := own_below h.own hb
  have hl := h.tells.1
  have hz := h.size
  have hz2 := hb.size
  refine ⟨?_, h.tells.set x hx, (h.below.trans (hb.mono (by omega))).setCell (p := ⟨B, x, none⟩) (Nat.le_refl _) _, by rw [World.size_setCell]; omega⟩
  rw [List.map_set]
  exact (ho.stored x (.bool true)).1
theorem RowU.cell {B : Nat} {W wr w2 : World} {n : Nat} {U : List Bool} {P : Nat → Prop} (h : RowU B W wr n U P) (hb : Below wr.heap.size wr w2) (x : Nat) (hx : x < n) :
    w2.cell? ⟨B, x, none⟩ = some (.bool (U[x]?.getD false)) ∧ w2.frozen? ⟨B, x, none⟩ = false := by
  have ho := own_below h.own hb
  have hl := h.tells.1
  refine ⟨?_, ho.frozenAt x⟩
  rw [ho.cellAt x (by omega)]
  simp [show x < U.length by omega]
theorem at_nat (D : WD) (k : Nat) (s : SpanD) (h : SpanAt D k s) (n : Nat) (hwl : (n : Int) = D.pages * 32) (j : Nat) (hj : j < s.lens.length) :
    ∃ A : Nat, atW s (j : Int) = (A : Int) ∧ ∀ t : Nat, (t : Int) < s.lens[j]?.getD 0 → A + t < n := by
  have h1 := h.pg0
  have h2 := h.pg1
  have h3 := h.lens
  have hs := h.slot j hj
  have h4 := hs.l1
  have h5 := sz_bd s.cls
  have h6 : 0 ≤ (j : Int) * sz s.cls := Int.mul_nonneg (by omega) h5.1
  refine ⟨(atW s (j : Int)).toNat, by unfold atW; omega, fun t ht => ?_⟩
  have h7 := slot_in (c := s.cls) (i := (j : Int)) (t := (t : Int)) (by omega) (by omega) (by omega) (by omega)
  unfold atW
  omega

set_option maxRecDepth 100000 in
set_option maxHeartbeats 8000000 in
theorem used_any (v : Value) (D : WD) (hn : D.words.length ≤ 1048576) (hwl : (D.words.length : Int) = D.pages * 32) (hpg : D.pages ≤ 12) (hsp : ∀ k s, D.spans[k]? = some s → SpanAt D k s) (w : World) (hr : RdW w v D) :
    Calls Tryz.prog 110 #[v] w fun e w' => ∃ (g : Nat) (U : List Bool), e = .returned (sl g D.words.length) ∧ w'.ownsRow w.heap.size 4 1 (sl g D.words.length) D.words.length (U.map Value.bool) ∧ Tells U D.words.length (Used D) ∧ Below w.heap.size w w' := by
  obtain ⟨i0, hi, hz0, hz1, hz2⟩ := info_parts infoBool
  obtain ⟨vw, vd, vs, vm, vg, rfl, a1, a2, a3, a4, a5⟩ := hr
  obtain ⟨aw, cw, rfl, _, _⟩ := a1
  have bx := box_new w (.cells #[.int .i64 D.base, .int .i64 D.pages, .slice aw D.words.length cw, vd, vs, vm, .int .i64 D.phase, .int .i64 D.next, vg] 36)
  have bw := below_box w (.cells #[.int .i64 D.base, .int .i64 D.pages, .slice aw D.words.length cw, vd, vs, vm, .int .i64 D.phase, .int .i64 D.next, vg] 36)
  have hs := Lib.hid (World.size_alloc w (.cells #[.int .i64 D.base, .int .i64 D.pages, .slice aw D.words.length cw, vd, vs, vm, .int .i64 D.phase, .int .i64 D.next, vg] 36))
  have a3' := a3.below bw
  obtain ⟨aS, cS, rfl, hsl, hx⟩ := a3'
  unfold maxLen at hsl
  have f4 := cell_of_heap bx 4 _ rfl
  have f2 := cell_of_heap bx 2 _ rfl
  have hx' := Lib.hid hx
  have bw' := Lib.hid bw
  have hsp' := Lib.hid hsp
  clear a2 a3 a4 a5 bx hx bw hsp
  go_enter Tryz.func110, Tryz.ntmps110
  have hwl' := Lib.hid hwl
  clear hwl
  go_wp2_with (at_make; refine wpList_make_full _ rfl _ _ 23 rfl (w.heap.size + 1) 4 i0 (.bool false) 1 Tryz.underlying23 hi hz0 hz1 .i64 .i64 _ _ D.words.length rfl rfl rfl rfl (by rw [hz2]; omega) (by unfold maxLen; omega) (by simp) ?_; intro w0 hown0 hgrow0)
  generalize w.alloc (.cells #[.int .i64 D.base, .int .i64 D.pages, .slice aw D.words.length cw, vd, .slice aS D.spans.length cS, vm, .int .i64 D.phase, .int .i64 D.next, vg] 36) = W at *
  have hsz := hs.out
  have R0 : RowU (w.heap.size + 1) W w0 D.words.length (List.replicate D.words.length false) (InSpans D 0) := by
    have ho : w0.ownsRow (w.heap.size + 1) 4 1 (sl (w.heap.size + 1) D.words.length) D.words.length ((List.replicate D.words.length false).map Value.bool) := by
      have := hown0
      rw [show (Value.bool false).cells = #[.bool false] from rfl, Nat.mul_one, toList_madeCells_one] at this
      simpa [hsz] using this
    exact ⟨ho, (Tells.zero _).congr (fun i _ => ⟨fun h => h.elim, fun ⟨k', s, hk, _⟩ => absurd hk (by omega)⟩), (Below.refl _ _).grown hgrow0 (by omega) (fun k e => by cases e), (ho.lt (w.heap.size + 1) rfl).2⟩
  have hin := Lib.hid (fun (wr : World) (hb : Below (w.heap.size + 1) W wr) (k : Nat) (s : SpanD) (hk : D.spans[k]? = some s) => (hx'.out k s hk).elim fun b h => h.elim fun off h => (⟨b, off, h.1, h.2.below (by rw [hsz]; exact hb)⟩ : ∃ b off, aS = some ⟨b, off, none⟩ ∧ RdSpan wr b (off + k * 6) s))
  have f4' := Lib.hid (fun (wr : World) (hb : Below (w.heap.size + 1) W wr) => cell_below (w' := wr) (by rw [hsz]; exact hb) f4)
  have hB0 := R0.below
  have f4w := f4'.out w0 hB0
  clear hown0 hgrow0 hs hsz f2 f4 hx'
  go_wp2_with fail
  go_loopw [4] (fun k wr => ∃ (k' : Nat) (U : List Bool), k' ≤ D.spans.length ∧ k = .int .i64 k' ∧ RowU (w.heap.size + 1) W wr D.words.length U (InSpans D k')) (fun k _ => D.spans.length - (RowKit.intOf k).toNat)
  case atStart => exact ⟨0, _, Nat.zero_le _, rfl, R0⟩
  case round =>
    obtain ⟨k, U, hk, rfl, R⟩ := hrel
    have g4 := f4'.out wr R.below
    by_cases hlt : k < D.spans.length
    · obtain ⟨s, hks⟩ : ∃ s, D.spans[k]? = some s := ⟨_, List.getElem?_eq_getElem hlt⟩
      have hA := hsp'.out k s hks
      have hks' := Lib.hid hks
      obtain ⟨b1, o1, rfl, vl, vp, x0, x1, x2, x3, x4, x5, xl, xp⟩ := hin.out wr R.below k s hks
      obtain ⟨al, cl, rfl, hll, xl⟩ := xl
      unfold maxLen at hll
      have hlt1 : (k : Int) < (D.spans.length : Int) := by omega
      clear hks xp xl x0 x1 x2 x3 x5
      go_wp2_with fail
      clear x4 g4
      go_loopw [5] (fun j wj => ∃ (j' : Nat) (U : List Bool), j' ≤ s.lens.length ∧ j = .int .i64 j' ∧ RowU (w.heap.size + 1) W wj D.words.length U (fun x => InSpans D k x ∨ InSlots s j' x)) (fun j _ => s.lens.length - (RowKit.intOf j).toNat)
      case atStart => exact ⟨0, U, Nat.zero_le _, rfl, R.congr (fun i _ => ⟨.inl, fun h => h.elim id fun ⟨j', hj, _⟩ => absurd hj (by omega)⟩)⟩
      case round =>
        obtain ⟨j, U, hj, rfl, R⟩ := hrel
        obtain ⟨b1', o1', he, vl', vp', x0, x1, x2, x3, x4, x5, xl', xp⟩ := hin.out _ R.below k s hks'.out
        obtain ⟨rfl, rfl⟩ : b1 = b1' ∧ o1 = o1' := by simpa using he
        obtain ⟨al', cl', rfl, _, xl'⟩ := xl'
        have g4 := f4'.out _ R.below
        clear he
        by_cases hjl : j < s.lens.length
        · have hj1 : (j : Int) < (s.lens.length : Int) := by omega
          have hS := hA.slot j hjl
          obtain ⟨A, hAt, hAin⟩ := at_nat D k s hA D.words.length hwl'.out j hjl
          have hl0 := hS.l0
          go_wp2_with fail
          clear x4 g4 x0 x1 x2 x3 x5
          go_loopw [6] (fun t wt => ∃ (t' : Nat) (U : List Bool), (t' : Int) ≤ s.lens[j]?.getD 0 ∧ t = .int .i64 t' ∧ RowU (w.heap.size + 1) W wt D.words.length U (fun x => (InSpans D k x ∨ InSlots s j x) ∨ InSlot s j t' x)) (fun t _ => (s.lens[j]?.getD 0).toNat - (RowKit.intOf t).toNat)
          case atStart => exact ⟨0, U, hl0, rfl, R.congr (fun i _ => ⟨.inl, fun h => h.elim id fun ⟨t', ht, _⟩ => absurd ht (by omega)⟩)⟩
          case round =>
            obtain ⟨t, U, ht, rfl, R⟩ := hrel
            obtain ⟨b2', o2', he, vl2, vp2, x0, x1, x2, x3, x4, x5, xl2, xp2⟩ := hin.out _ R.below k s hks'.out
            obtain ⟨rfl, rfl⟩ : b1 = b2' ∧ o1 = o2' := by simpa using he
            obtain ⟨al2, cl2, rfl, _, xl2⟩ := xl2
            obtain ⟨ap2, cp2, rfl, _, _⟩ := xp2
            obtain ⟨bl2, ol2, rfl, xj⟩ := xl2 j hjl
            have g4 := f4'.out _ R.below
            clear he xl2
            have hp0 := hA.pg0
            have hp1 := hA.pg1
            have hl3 := hA.lens
            have hl4 := (sl_bd s.cls).2
            have hjb : (j : Int) ≤ 1000 := by omega
            have hpb : s.page ≤ 1000 := by omega
            clear hl3 hl4
            generalize hlj : s.lens[j]?.getD 0 = l at *
            have hlj' := Lib.hid hlj
            clear hlj
            by_cases htl : (t : Int) < l
            · have hx := hAin t htl
              have hAt' := Lib.hid hAt
              have hR := Lib.hid R
              have ho1 : A + t < D.words.length := hx
              have hx1 : ((A : Int) + (t : Int)) < (D.words.length : Int) := by omega
              clear hAt R hAin
              go_wp2_with fail
              refine (at_any s _ _ (j : Int) hp0 hpb (by omega) hjb _).mono ?_
              rintro e w2 ⟨rfl, b2⟩
              rw [hAt'.out]
              obtain ⟨c1, c2⟩ := hR.out.cell b2 (A + t) ho1
              have hstep := Lib.hid (hR.out.step b2 (A + t) ho1)
              clear b2 x0 x1 x2 x3 x4 x5 xj g4
              generalize U[A + t]?.getD false = old at c1
              go_wp2_with fail
              go_roundw
              case rel => exact ⟨t + 1, _, by omega, by go_num, hstep.out.congr (fun i _ => by rw [inSlot_succ, hAt'.out, show (i = A + t) ↔ ((i : Int) = (A : Int) + (t : Int)) by omega, or_assoc])⟩
              case measure => simp [RowKit.intOf]; omega
            · have htt : t = l.toNat := by omega
              have hR := Lib.hid (R.congr (Q := fun x => InSpans D k x ∨ InSlots s (j + 1) x) (fun i _ => by rw [inSlots_succ, hlj'.out, ← htt, or_assoc]))
              clear R hAin hAt htt
              go_wp2_with fail
              go_roundw
              case rel => exact ⟨j + 1, U, by omega, by go_num, hR.out⟩
              case measure => simp [RowKit.intOf]; omega
        · obtain rfl : j = s.lens.length := by omega
          have hR := Lib.hid (R.congr (fun i _ => (inSpans_succ D k i s hks'.out).symm))
          clear R x0 x1 x2 x3 xl' xp
          go_wp2_with fail
          go_roundw
          case rel => exact ⟨k + 1, U, by omega, by go_num, hR.out⟩
          case measure => simp [RowKit.intOf]; omega
    · obtain rfl : k = D.spans.length := by omega
      go_wp2_with fail
      go_ret
      exact ⟨_, U, rfl, own_base R.own (by omega), R.tells, (bw'.out.trans (R.below.mono (by omega)))⟩
end Go.Proofs.YtpaepkcfdnddgaaGreat

namespace Go.Proofs.YtpaepkcfdnddgaaGreat
open Go.RowKit
set_option linter.unusedVariables false

structure HeapForm (D : WD) : Prop where
  geo : Geo D.base D.pages (D.muts.length : Int)
  words : (D.words.length : Int) = D.pages * 32
  dirty : (D.dirty.length : Int) = D.pages * 4
  spans : (D.spans.length : Int) ≤ D.pages
  ph0 : 0 ≤ D.phase
  ph1 : D.phase ≤ 4
  span : ∀ (k : Nat) (s : SpanD), D.spans[k]? = some s → SpanAt D k s
  zero : ∀ i : Nat, i < D.words.length → ¬ Used D i → D.words[i]?.getD 0 = 0
  roots : ∀ (k : Nat) (r : List Int), D.muts[k]? = some r → r.length = 6

theorem span_any (v : Value) (D : WD) (k : Nat) (s : SpanD) (hk : D.spans[k]? = some s) (w : World) (hr : RdW w v D) :
    Calls Tryz.prog 109 #[v, .int .i64 k] w fun e w' => IsB (SpanAt D k s) e ∧ Below w.heap.size w w' := by
  cases k with
  | zero => exact span_any0 v D s hk w hr
  | succ k => exact span_anyS v D k s hk w hr

set_option maxRecDepth 100000 in
set_option maxHeartbeats 8000000 in
theorem formOk_any (v : Value) (D : WD) (w : World) (hr : RdW w v D) :
    Calls Tryz.prog 72 #[v] w fun e w' => IsB (HeapForm D) e ∧ Below w.heap.size w w' := by
  obtain ⟨vw, vd, vs, vm, vg, rfl, a1, a2, a3, a4, a5⟩ := hr
  have bx := box_new w (.cells #[.int .i64 D.base, .int .i64 D.pages, vw, vd, vs, vm, .int .i64 D.phase, .int .i64 D.next, vg] 36)
  have bw := below_box w (.cells #[.int .i64 D.base, .int .i64 D.pages, vw, vd, vs, vm, .int .i64 D.phase, .int .i64 D.next, vg] 36)
  have hW : RdW (w.alloc (.cells #[.int .i64 D.base, .int .i64 D.pages, vw, vd, vs, vm, .int .i64 D.phase, .int .i64 D.next, vg] 36)) (.agg #[.int .i64 D.base, .int .i64 D.pages, vw, vd, vs, vm, .int .i64 D.phase, .int .i64 D.next, vg]) D :=
    ⟨vw, vd, vs, vm, vg, rfl, a1.below bw, a2.below bw, a3.below bw, a4.below bw, a5.below bw⟩
  have k1 := Lib.hid (a1.below bw)
  have k4 := Lib.hid (a4.below bw)
  obtain ⟨aw, cw, rfl, hlw, _⟩ := a1
  obtain ⟨ad, cd, rfl, hld, _⟩ := a2
  obtain ⟨aS, cS, rfl, hls, _⟩ := a3
  obtain ⟨am, cm, rfl, hlm, _⟩ := a4
  unfold maxLen at hlw hld hls hlm
  have bw' := Lib.hid bw
  have bx' := Lib.hid bx
  have hW' := Lib.hid hW
  have f0 := cell_of_heap bx 0 _ rfl
  have f1 := cell_of_heap bx 1 _ rfl
  have f2 := cell_of_heap bx 2 _ rfl
  have f3 := cell_of_heap bx 3 _ rfl
  have f4 := cell_of_heap bx 4 _ rfl
  have f5 := cell_of_heap bx 5 _ rfl
  have f6 := cell_of_heap bx 6 _ rfl
  clear a5 bw bx hW
  go_enter Tryz.func72, Tryz.ntmps72
  go_wp2_with fail
  refine (geometry_any _ _ _ _).mono ?_
  rintro e w1 ⟨hg, rfl⟩
  have hg := hg.elim
  rcases hg with ⟨hgeo, rfl⟩ | ⟨hgeo, rfl⟩
  case inr =>
    have n := Lib.hid (show ¬ HeapForm D from fun h => hgeo h.geo)
    clear hgeo
    go_wp2_with fail
    go_ret
    exact ⟨IsB.no n.out, bw'.out⟩
  obtain ⟨p0, p1, p2, p3, p4, p5, p6⟩ := hgeo
  have hgeo := Lib.hid (show Geo D.base D.pages (D.muts.length : Int) from ⟨p0, p1, p2, p3, p4, p5, p6⟩)
  clear p2
  by_cases c1 : (D.words.length : Int) = D.pages * 32
  case neg =>
    have n := Lib.hid (show ¬ HeapForm D from fun h => c1 h.words)
    have d1 : ((D.words.length : Int) != D.pages * 32) = true := by rw [bne_iff_ne]; exact c1
    clear c1
    go_wp2_with fail
    go_ret
    exact ⟨IsB.no n.out, bw'.out⟩
  have d1 : ((D.words.length : Int) != D.pages * 32) = false := by rw [bne_eq_false_iff_eq]; exact c1
  have c1' := Lib.hid c1
  have c1n : D.words.length ≤ 384 := by omega
  clear c1
  by_cases c2 : (D.dirty.length : Int) = D.pages * 4
  case neg =>
    have n := Lib.hid (show ¬ HeapForm D from fun h => c2 h.dirty)
    have d2 : ((D.dirty.length : Int) != D.pages * 4) = true := by rw [bne_iff_ne]; exact c2
    clear c2
    go_wp2_with fail
    go_ret
    exact ⟨IsB.no n.out, bw'.out⟩
  have d2 : ((D.dirty.length : Int) != D.pages * 4) = false := by rw [bne_eq_false_iff_eq]; exact c2
  have c2' := Lib.hid c2
  clear c2
  by_cases c3 : D.pages < (D.spans.length : Int)
  case pos =>
    have n := Lib.hid (show ¬ HeapForm D from fun h => by have := h.spans; omega)
    go_wp2_with fail
    go_ret
    exact ⟨IsB.no n.out, bw'.out⟩
  by_cases c4 : D.phase < 0
  case pos =>
    have n := Lib.hid (show ¬ HeapForm D from fun h => by have := h.ph0; omega)
    go_wp2_with fail
    go_ret
    exact ⟨IsB.no n.out, bw'.out⟩
  by_cases c5 : 4 < D.phase
  case pos =>
    have n := Lib.hid (show ¬ HeapForm D from fun h => by have := h.ph1; omega)
    go_wp2_with fail
    go_ret
    exact ⟨IsB.no n.out, bw'.out⟩
  have c3' : (D.spans.length : Int) ≤ D.pages := by omega
  have c4' : 0 ≤ D.phase := by omega
  have c5' : D.phase ≤ 4 := by omega
  go_wp2_with fail
  have hs := Lib.hid (World.size_alloc w (.cells #[.int .i64 D.base, .int .i64 D.pages, .slice aw D.words.length cw, .slice ad D.dirty.length cd, .slice aS D.spans.length cS, .slice am D.muts.length cm, .int .i64 D.phase, .int .i64 D.next, vg] 36))
  generalize w.alloc (.cells #[.int .i64 D.base, .int .i64 D.pages, .slice aw D.words.length cw, .slice ad D.dirty.length cd, .slice aS D.spans.length cS, .slice am D.muts.length cm, .int .i64 D.phase, .int .i64 D.next, vg] 36) = W at *
  have hcells := Lib.hid (fun (wr : World) (hb : Below W.heap.size W wr) (j : Nat) (u : Value) (hu : (#[.int .i64 D.base, .int .i64 D.pages, .slice aw D.words.length cw, .slice ad D.dirty.length cd, .slice aS D.spans.length cS, .slice am D.muts.length cm, .int .i64 D.phase, .int .i64 D.next, vg] : Array Value)[j]? = some u) => cell_of_heap (heap_below hb bx'.out) j u hu)
  clear f0 f1 f2 f3 f4 f5 f6 d1 d2 c3 c4 c5
  go_loopw [3] (fun k wr => ∃ k' : Nat, k' ≤ D.spans.length ∧ k = .int .i64 k' ∧ Hid (∀ (j : Nat) (s : SpanD), j < k' → D.spans[j]? = some s → SpanAt D j s) ∧ Below W.heap.size W wr) (fun k _ => D.spans.length - (RowKit.intOf k).toNat)
  case atStart => exact ⟨0, Nat.zero_le _, rfl, (fun j s hj => absurd hj (by omega)), Below.refl _ _⟩
  case round =>
    obtain ⟨k, hk, rfl, hok, hB⟩ := hrel
    have g0 := hcells.out wr hB 0 _ rfl
    have g1 := hcells.out wr hB 1 _ rfl
    have g2 := hcells.out wr hB 2 _ rfl
    have g3 := hcells.out wr hB 3 _ rfl
    have g4 := hcells.out wr hB 4 _ rfl
    have g5 := hcells.out wr hB 5 _ rfl
    have g6 := hcells.out wr hB 6 _ rfl
    have g7 := hcells.out wr hB 7 _ rfl
    have g8 := hcells.out wr hB 8 _ rfl
    by_cases hlt : k < D.spans.length
    · obtain ⟨s, hks⟩ : ∃ s, D.spans[k]? = some s := ⟨_, List.getElem?_eq_getElem hlt⟩
      have hcall := span_any _ D k s hks wr (hW'.out.below hB)
      have hks' := Lib.hid hks
      have hcall' := Lib.hid hcall
      clear hcall hks
      go_wp2_with fail
      refine hcall'.out.mono ?_
      rintro e w2 ⟨hs2, b2⟩
      have hs2 := hs2.elim
      have hB2 := below_trans hB b2
      clear g0 g1 g2 g3 g4 g5 g6 g7 g8 b2 hB hcall'
      rcases hs2 with ⟨hA, rfl⟩ | ⟨hA, rfl⟩
      · have hok2 := Lib.hid (show ∀ (j : Nat) (s : SpanD), j < k + 1 → D.spans[j]? = some s → SpanAt D j s from fun j s' hj hs' => if e : j = k then by subst e; rw [hks'.out] at hs'; cases hs'; exact hA else hok.out j s' (by omega) hs')
        clear hA hok
        go_wp2_with fail
        go_roundw
        case rel => exact ⟨k + 1, by omega, by go_num, hok2, hB2⟩
        case measure => simp [RowKit.intOf]; omega
      · have n := Lib.hid (show ¬ HeapForm D from fun h => hA (h.span k s hks'.out))
        clear hA hok
        go_wp2_with fail
        go_ret
        exact ⟨IsB.no n.out, below_trans bw'.out hB2⟩
    · obtain rfl : k = D.spans.length := by omega
      have hspan := Lib.hid (show ∀ (k : Nat) (s : SpanD), D.spans[k]? = some s → SpanAt D k s from fun k s hs => hok.out k s (List.getElem?_eq_some_iff.1 hs).1 hs)
      have hcall := Lib.hid (used_any _ D (by omega) c1'.out p4 hspan.out wr (hW'.out.below hB))
      clear hok
      go_wp2_with fail
      refine hcall.out.mono ?_
      rintro e w2 ⟨g, U, rfl, oU, tU, b2⟩
      have hB2 := below_trans hB b2
      have oU' := Lib.hid oU
      have tU' := Lib.hid tU
      have l0 := hcells.out w2 hB2 2 _ rfl
      clear g0 g1 g2 g3 g4 g5 g6 g7 g8 b2 hB hcall oU tU
      have kw := Lib.hid ((k1.out.below hB2))
      obtain ⟨aw', cw', hwe, _, xw⟩ := kw.out
      obtain ⟨rfl, rfl⟩ : aw = aw' ∧ cw = cw' := by simpa using hwe
      have xw' := Lib.hid xw
      clear hwe xw
      go_wp2_with fail
      go_loop [5] (fun i => ∃ i' : Nat, i' ≤ D.words.length ∧ i = .int .i64 i' ∧ Hid (∀ j, j < i' → ¬ Used D j → D.words[j]?.getD 0 = 0)) (fun i => D.words.length - (RowKit.intOf i).toNat)
      case atStart => exact ⟨0, Nat.zero_le _, rfl, fun j hj => absurd hj (by omega)⟩
      case round =>
        obtain ⟨i, hi, rfl, hz⟩ := hrel
        by_cases hil : i < D.words.length
        · have hil1 : (i : Int) < (D.words.length : Int) := by omega
          obtain ⟨bw1, ow1, rfl, xi⟩ := xw'.out i hil
          have hU := tU'.out
          have ui : w2.cell? ⟨g, i, none⟩ = some (.bool (U[i]?.getD false)) := by
            rw [oU'.out.cellAt i (by omega)]
            simp [hU.1, hil]
          have hUi := Lib.hid (hU.2 i hil)
          have hfz := Lib.hid (fun (h : HeapForm D) => h.zero i hil)
          have hnext := Lib.hid (fun (h : ¬ Used D i → D.words[i]?.getD 0 = 0) => (fun j (hj : j < i + 1) => if e : j = i then by subst e; exact h else hz.out j (by omega) : ∀ j, j < i + 1 → ¬ Used D j → D.words[j]?.getD 0 = 0))
          clear hU hz
          generalize U[i]?.getD false = u at *
          generalize D.words[i]?.getD 0 = y at *
          cases u
          · by_cases hy : y = 0
            · have hn := Lib.hid (hnext.out (fun _ => hy))
              have hyb : (y != 0) = false := by rw [bne_eq_false_iff_eq]; exact hy
              clear hy
              go_wp2_with fail
              go_round
              case rel => exact ⟨i + 1, by omega, by go_num, hn⟩
              case measure => simp [RowKit.intOf]; omega
            · have n := Lib.hid (show ¬ HeapForm D from fun h => hy (hfz.out h (fun hu => absurd (hUi.out.2 hu) (by simp))))
              have hyb : (y != 0) = true := by rw [bne_iff_ne]; exact hy
              clear hy
              go_wp2_with fail
              go_ret
              exact ⟨IsB.no n.out, below_trans bw'.out hB2⟩
          · have hn := Lib.hid (hnext.out (fun hu => absurd (hUi.out.1 rfl) hu))
            go_wp2_with fail
            go_round
            case rel => exact ⟨i + 1, by omega, by go_num, hn⟩
            case measure => simp [RowKit.intOf]; omega
        · obtain rfl : i = D.words.length := by omega
          have hzero := Lib.hid (show ∀ i : Nat, i < D.words.length → ¬ Used D i → D.words[i]?.getD 0 = 0 from hz.out)
          have l5 := hcells.out w2 hB2 5 _ rfl
          have km := Lib.hid (k4.out.below hB2)
          clear hz
          go_wp2_with fail
          go_loop [6] (fun i => ∃ i' : Nat, i' ≤ D.muts.length ∧ i = .int .i64 i' ∧ Hid (∀ (j : Nat) (r : List Int), j < i' → D.muts[j]? = some r → r.length = 6)) (fun i => D.muts.length - (RowKit.intOf i).toNat)
          case atStart => exact ⟨0, Nat.zero_le _, rfl, fun j r hj => absurd hj (by omega)⟩
          case round =>
            obtain ⟨i, hi, rfl, hz⟩ := hrel
            by_cases hil : i < D.muts.length
            · have hil1 : (i : Int) < (D.muts.length : Int) := by omega
              obtain ⟨r, hr⟩ : ∃ r, D.muts[i]? = some r := ⟨_, List.getElem?_eq_getElem hil⟩
              obtain ⟨am', cm', he, _, xm⟩ := km.out
              obtain ⟨rfl, rfl⟩ : am = am' ∧ cm = cm' := by simpa using he
              obtain ⟨bm, om, vr, rfl, xc, xr⟩ := xm i r hr
              obtain ⟨ar, cr, rfl, hlr, _⟩ := xr
              unfold maxLen at hlr
              have hr' := Lib.hid hr
              clear xm he hr
              by_cases h6 : (r.length : Int) = 6
              · have hn := Lib.hid (show ∀ (j : Nat) (r : List Int), j < i + 1 → D.muts[j]? = some r → r.length = 6 from fun j r2 hj hr2 => if e : j = i then by subst e; rw [hr'.out] at hr2; cases hr2; omega else hz.out j r2 (by omega) hr2)
                have hb6 : ((r.length : Int) != 6) = false := by rw [bne_eq_false_iff_eq]; exact h6
                clear h6 hz
                go_wp2_with fail
                go_round
                case rel => exact ⟨i + 1, by omega, by go_num, hn⟩
                case measure => simp [RowKit.intOf]; omega
              · have n := Lib.hid (show ¬ HeapForm D from fun h => h6 (by have := h.roots i r hr'.out; omega))
                have hb6 : ((r.length : Int) != 6) = true := by rw [bne_iff_ne]; exact h6
                clear h6 hz
                go_wp2_with fail
                go_ret
                exact ⟨IsB.no n.out, below_trans bw'.out hB2⟩
            · obtain rfl : i = D.muts.length := by omega
              have hy := Lib.hid (show HeapForm D from ⟨hgeo.out, c1'.out, c2'.out, c3', c4', c5', hspan.out, hzero.out, fun k r hr => hz.out k r (List.getElem?_eq_some_iff.1 hr).1 hr⟩)
              clear hz
              go_wp2_with fail
              go_ret
              exact ⟨IsB.yes hy.out, below_trans bw'.out hB2⟩
end Go.Proofs.YtpaepkcfdnddgaaGreat

namespace Go.Proofs.YtpaepkcfdnddgaaGreat
open Go.RowKit
set_option linter.unusedVariables false

/-- BLOCK B IS A VARIABLE that holds a World. -/
def BoxW (w : World) (B : Nat) (v : Value) : Prop := ∃ cs, v = .agg cs ∧ w.heap[B]? = some (.cells cs 36 (0, 0))
theorem BoxW.below {w w' : World} {B : Nat} {v : Value} (h : BoxW w B v) (hb : Below w.heap.size w w') : BoxW w' B v := by
  obtain ⟨cs, he, hh⟩ := h
  exact ⟨cs, he, heap_below hb hh⟩

set_option maxRecDepth 100000 in
set_option maxHeartbeats 4000000 in
theorem addr_any (B : Nat) (v : Value) (D : WD) (k slot : Nat) (s : SpanD) (hk : D.spans[k]? = some s) (hp0 : 0 ≤ s.page) (hp1 : s.page ≤ 1000) (hs : slot ≤ 1000) (hb0 : 0 ≤ D.base) (hb1 : D.base ≤ 1048576) (w : World) (hr : RdW w v D) (hB : BoxW w B v) :
    Calls Tryz.prog 95 #[.pointer (some ⟨B, 0, none⟩), .int .i64 k, .int .i64 slot] w fun e w' => e = .returned (.int .i64 (D.base + atW s slot)) ∧ Below w.heap.size w w' := by
  obtain ⟨vw, vd, vs, vm, vg, rfl, a1, a2, a3, a4, a5⟩ := hr
  obtain ⟨aS, cS, rfl, hsl, hx⟩ := a3
  obtain ⟨cs, he, hh⟩ := hB
  obtain rfl := (Value.agg.inj he).symm
  have f0 := cell_of_heap hh 0 _ rfl
  have f4 := cell_of_heap hh 4 _ rfl
  have hkl := (List.getElem?_eq_some_iff.1 hk).1
  obtain ⟨b1, o1, rfl, vl, vp, x0, x1, x2, x3, x4, x5, xl, xp⟩ := hx k s hk
  have hkl' : (k : Int) < (D.spans.length : Int) := by omega
  unfold maxLen at hsl
  have hat := at_any s vl vp (slot : Int) hp0 hp1 (by omega) (by omega)
  have hat' := Lib.hid hat
  have hm := sz_bd s.cls
  have hm0 : 0 ≤ (slot : Int) * sz s.cls := Int.mul_nonneg (by omega) hm.1
  have hm1 : (slot : Int) * sz s.cls ≤ 16000 := by
    have := Int.mul_le_mul (show (slot : Int) ≤ 1000 by omega) hm.2 hm.1 (by omega)
    omega
  have hA0 : 0 ≤ atW s slot := by unfold atW; omega
  have hA1 : atW s slot ≤ 100000 := by unfold atW; omega
  have hsum : IntKind.i64.wrap (D.base + atW s slot) = D.base + atW s slot := IntWalk.i64_in _ (by omega)
  have hsum' := Lib.hid hsum
  have hf0 := Lib.hid (fun (w' : World) (hb : Below w.heap.size w w') => cell_below hb f0)
  clear hx hk a1 a2 a4 a5 hat xl xp he hsum hh
  go_enter Tryz.func95, Tryz.ntmps95
  go_wp2_with fail
  go_region_with (first
    | (go_at_call 49; refine (hat'.out _).mono ?_; rintro e w2 ⟨rfl, b2⟩; have b2' : Below w.heap.size w w2 := ⟨b2.os, b2.tape, b2.output, b2.size, b2.block⟩; have g0 := hf0.out w2 b2'; clear b2))
  all_goals rw [hsum'.out]
  all_goals go_wp2_with fail
  all_goals go_ret
  all_goals exact ⟨rfl, b2'⟩

theorem RdW.parts {w : World} {D : WD} {c0 c1 vw vd vs vm c6 c7 vg : Value} (h : RdW w (.agg #[c0, c1, vw, vd, vs, vm, c6, c7, vg]) D) : Rd w vw D.words ∧ RdB w vd D.dirty ∧ RdS w vs D.spans ∧ RdM w vm D.muts ∧ Rd w vg D.grey := by
  obtain ⟨uw, ud, us, um, ug, he, h1, h2, h3, h4, h5⟩ := h
  simp only [Value.agg.injEq, Array.mk.injEq, List.cons.injEq, and_true] at he
  obtain ⟨_, _, rfl, rfl, rfl, rfl, _, _, rfl⟩ := he
  exact ⟨h1, h2, h3, h4, h5⟩
theorem RdS.at_ {w : World} {a : Option Addr} {c : Nat} {L : List SpanD} (h : RdS w (.slice a L.length c) L) (k : Nat) (s : SpanD) (hk : L[k]? = some s) : ∃ b off, a = some ⟨b, off, none⟩ ∧ RdSpan w b (off + k * 6) s := by
  obtain ⟨a', c', he, _, hx⟩ := h
  obtain ⟨rfl, _⟩ : a = a' ∧ _ := by simpa using he
  exact hx k s hk
/-- There is slot number j of span number k. -/
def IsSlot (D : WD) (k slot : Int) (s : SpanD) : Prop := HeapForm D ∧ 0 ≤ k ∧ D.spans[k.toNat]? = some s ∧ 0 ≤ slot ∧ slot < s.lens.length
/-- It returned a slot's address, or 0. -/
def AddrIs (D : WD) (k slot : Int) (e : Ending) : Prop := ∃ r : Int, e = .returned (.int .i64 r) ∧ ((∃ s, IsSlot D k slot s ∧ r = D.base + atW s slot) ∨ ((∀ s, ¬ IsSlot D k slot s) ∧ r = 0))
theorem AddrIs.unique {D : WD} {k slot : Int} {e e' : Ending} (h : AddrIs D k slot e) (h' : AddrIs D k slot e') : e = e' := by
  obtain ⟨r, rfl, h⟩ := h
  obtain ⟨r', rfl, h'⟩ := h'
  rcases h with ⟨s, hs, rfl⟩ | ⟨hn, rfl⟩ <;> rcases h' with ⟨s', hs', rfl⟩ | ⟨hn', rfl⟩
  · have e1 := hs.2.2.1.symm.trans hs'.2.2.1
    cases e1
    rfl
  · exact absurd hs (hn' s)
  · exact absurd hs' (hn s')
  · rfl
theorem AddrIs.no {D : WD} {k slot : Int} (h : ∀ s, ¬ IsSlot D k slot s) : AddrIs D k slot (.returned (.int .i64 0)) := ⟨0, rfl, .inr ⟨h, rfl⟩⟩
theorem AddrIs.yes {D : WD} {k slot : Int} {s : SpanD} (h : IsSlot D k slot s) : AddrIs D k slot (.returned (.int .i64 (D.base + atW s slot))) := ⟨_, rfl, .inl ⟨s, h, rfl⟩⟩

end Go.Proofs.YtpaepkcfdnddgaaGreat

namespace Go.Proofs.YtpaepkcfdnddgaaGreat
open Go.RowKit
set_option linter.unusedVariables false

/-- Slot j of span k has the object with that address. -/
def IsObj (D : WD) (addr : Int) (k j : Nat) : Prop := ∃ s, D.spans[k]? = some s ∧ j < s.lens.length ∧ 0 < s.lens[j]?.getD 0 ∧ D.base + atW s (j : Int) = addr
theorem pages_up {D : WD} (h : HeapForm D) {k k' : Nat} {s s' : SpanD} (hk : D.spans[k]? = some s) (hk' : D.spans[k']? = some s') (hlt : k < k') : s.page < s'.page := by
  induction k' generalizing s' with
  | zero => omega
  | succ n ih =>
    have hl := (List.getElem?_eq_some_iff.1 hk').1
    obtain ⟨t, ht⟩ : ∃ t, D.spans[n]? = some t := ⟨_, List.getElem?_eq_getElem (by omega)⟩
    have h1 := (h.span (n + 1) s' hk').prev t (by omega) (by simpa using ht)
    by_cases e : k = n
    · subst e
      rw [hk] at ht
      cases ht
      exact h1
    · have := ih ht (by omega)
      omega
theorem sz_pos {c : Int} (h : sl' c ≠ 0) : 2 ≤ sz c := by
  revert h; unfold sl' sz; (repeat' split) <;> simp
theorem mul_inj {a b z : Int} (hz : 2 ≤ z) (h : a * z = b * z) : a = b := Int.eq_of_mul_eq_mul_right (by omega) h
theorem IsObj.unique {D : WD} {addr : Int} (hF : HeapForm D) {k j k' j' : Nat} (h : IsObj D addr k j) (h' : IsObj D addr k' j') : k = k' ∧ j = j' := by
  obtain ⟨s, hs, hj, _, ha⟩ := h
  obtain ⟨s', hs', hj', _, ha'⟩ := h'
  have A := hF.span k s hs
  have A' := hF.span k' s' hs'
  have l := A.lens
  have l' := A'.lens
  have i1 := slot_in (c := s.cls) (i := (j : Int)) (t := 0) (by omega) (by omega) (by omega) (by have := sz_pos A.cls; omega)
  have i2 := slot_in (c := s'.cls) (i := (j' : Int)) (t := 0) (by omega) (by omega) (by omega) (by have := sz_pos A'.cls; omega)
  unfold atW at ha ha'
  have hp : s.page = s'.page := by omega
  have hk : k = k' := by
    rcases Nat.lt_trichotomy k k' with h | h | h
    · have := pages_up hF hs hs' h; omega
    · exact h
    · have := pages_up hF hs' hs h; omega
  subst hk
  rw [hs] at hs'
  cases hs'
  refine ⟨rfl, ?_⟩
  have := mul_inj (sz_pos A.cls) (show (j : Int) * sz s.cls = (j' : Int) * sz s.cls by omega)
  omega
/-- It returned where the object is, or -1 and -1. -/
def FindIs (D : WD) (addr : Int) (e : Ending) : Prop := ∃ r q : Int, e = .returned (.tuple #[.int .i64 r, .int .i64 q]) ∧
  ((∃ k j : Nat, HeapForm D ∧ IsObj D addr k j ∧ r = k ∧ q = j) ∨ ((HeapForm D → ∀ k j, ¬ IsObj D addr k j) ∧ r = -1 ∧ q = -1))
theorem FindIs.unique {D : WD} {addr : Int} {e e' : Ending} (h : FindIs D addr e) (h' : FindIs D addr e') : e = e' := by
  obtain ⟨r, q, rfl, h⟩ := h
  obtain ⟨r', q', rfl, h'⟩ := h'
  rcases h with ⟨k, j, hF, ho, rfl, rfl⟩ | ⟨hn, rfl, rfl⟩ <;> rcases h' with ⟨k', j', hF', ho', rfl, rfl⟩ | ⟨hn', rfl, rfl⟩
  · obtain ⟨rfl, rfl⟩ := ho.unique hF ho'
    rfl
  · exact absurd ho (hn' hF k j)
  · exact absurd ho' (hn hF' k' j')
  · rfl
theorem FindIs.no {D : WD} {addr : Int} (h : HeapForm D → ∀ k j, ¬ IsObj D addr k j) : FindIs D addr (.returned (.tuple #[.int .i64 (-1), .int .i64 (-1)])) := ⟨_, _, rfl, .inr ⟨h, rfl, rfl⟩⟩
theorem FindIs.yes {D : WD} {addr : Int} {k j : Nat} (hF : HeapForm D) (h : IsObj D addr k j) : FindIs D addr (.returned (.tuple #[.int .i64 (k : Int), .int .i64 (j : Int)])) := ⟨_, _, rfl, .inl ⟨k, j, hF, h, rfl, rfl⟩⟩

theorem no_next {D : WD} {addr : Int} {k : Nat} {s : SpanD} (hks : D.spans[k]? = some s) (h1 : ∀ k2 j2, k2 < k → ¬ IsObj D addr k2 j2) (h2 : ∀ j2, j2 < s.lens.length → ¬ IsObj D addr k j2) : ∀ k2 j2, k2 < k + 1 → ¬ IsObj D addr k2 j2 := by
  intro k2 j2 h ho
  by_cases e : k2 = k
  · subst e
    have ho' := ho
    obtain ⟨s2, g1, g2, _⟩ := ho
    rw [hks] at g1
    cases g1
    exact h2 j2 g2 ho'
  · exact h1 k2 j2 (by omega) ho
set_option maxRecDepth 100000 in
set_option maxHeartbeats 4000000 in
theorem find_at (B : Nat) (v : Value) (D : WD) (hF : HeapForm D) (addr : Int) (w : World) (hr : RdW w v D) (hB : BoxW w B v) :
    Calls Tryz.prog 96 #[.pointer (some ⟨B, 0, none⟩), .int .i64 addr] w fun e w' => FindIs D addr e ∧ Below w.heap.size w w' := by
  have hr' := Lib.hid hr
  have hB' := Lib.hid hB
  have hF' := Lib.hid hF
  obtain ⟨vw, vd, vs, vm, vg, rfl, a1, a2, a3, a4, a5⟩ := hr
  obtain ⟨cs, he, hh⟩ := hB
  obtain rfl := (Value.agg.inj he).symm
  obtain ⟨aS, cS, rfl, hsl, hx⟩ := a3
  unfold maxLen at hsl
  have hf4 := Lib.hid (fun (w' : World) (hb : Below w.heap.size w w') => cell_below hb (cell_of_heap hh 4 _ rfl))
  clear a1 a2 a4 a5 hF he hh hx
  go_enter Tryz.func96, Tryz.ntmps96
  go_wp2_with fail
  go_loopw [6] (fun k wr => ∃ k' : Nat, k' ≤ D.spans.length ∧ k = .int .i64 k' ∧ Hid (∀ k2 j2, k2 < k' → ¬ IsObj D addr k2 j2) ∧ Below w.heap.size w wr) (fun k _ => D.spans.length - (RowKit.intOf k).toNat)
  case atStart => exact ⟨0, Nat.zero_le _, rfl, (fun k2 j2 h => absurd h (by omega)), Below.refl _ _⟩
  case round =>
    obtain ⟨k, hk, rfl, hno, hB⟩ := hrel
    have g4 := hf4.out _ hB
    by_cases hlt : k < D.spans.length
    · obtain ⟨s, hks⟩ : ∃ s, D.spans[k]? = some s := ⟨_, List.getElem?_eq_getElem hlt⟩
      have hks' := Lib.hid hks
      have hlt1 : (k : Int) < (D.spans.length : Int) := by omega
      obtain ⟨b1, o1, rfl, vl, vp, x0, x1, x2, x3, x4, x5, ⟨al, cl, rfl, hll, _⟩, _⟩ := (hr'.out.below hB).parts.2.2.1.at_ k s hks
      unfold maxLen at hll
      have A := Lib.hid (hF'.out.span k s hks)
      clear hks x0 x1 x2 x3 x5
      go_wp2_with fail
      clear x4 g4
      go_loopw [7] (fun j wj => ∃ j' : Nat, j' ≤ s.lens.length ∧ j = .int .i64 j' ∧ Hid (∀ j2, j2 < j' → ¬ IsObj D addr k j2) ∧ Below w.heap.size w wj) (fun j _ => s.lens.length - (RowKit.intOf j).toNat)
      case atStart => exact ⟨0, Nat.zero_le _, rfl, (fun j2 h => absurd h (by omega)), hB⟩
      case round =>
        obtain ⟨j, hj, rfl, hnj, hB⟩ := hrel
        have g4 := hf4.out _ hB
        obtain ⟨b1', o1', he, vl', vp', x0, x1, x2, x3, x4, x5, ⟨al', cl', rfl, _, xl⟩, _⟩ := (hr'.out.below hB).parts.2.2.1.at_ k s hks'.out
        obtain ⟨rfl, rfl⟩ : b1 = b1' ∧ o1 = o1' := by simpa using he
        clear he x0 x1 x2 x3 x5
        by_cases hjl : j < s.lens.length
        · have hj1 : (j : Int) < (s.lens.length : Int) := by omega
          obtain ⟨bl, ol, rfl, xj⟩ := xl j hjl
          have hobj := Lib.hid (show IsObj D addr k j ↔ (0 < s.lens[j]?.getD 0 ∧ D.base + atW s (j : Int) = addr) from ⟨fun ⟨s2, h1, h2, h3, h4⟩ => by rw [hks'.out] at h1; cases h1; exact ⟨h3, h4⟩, fun h => ⟨s, hks'.out, hjl, h.1, h.2⟩⟩)
          have hnext := Lib.hid (fun (h : ¬ IsObj D addr k j) => (fun j2 (hj2 : j2 < j + 1) => if e : j2 = j then by subst e; exact h else hnj.out j2 (by omega) : ∀ j2, j2 < j + 1 → ¬ IsObj D addr k j2))
          clear xl
          generalize s.lens[j]?.getD 0 = l at *
          by_cases hl : 0 < l
          · have hg := hF'.out.geo
            have hsp := A.out
            have hlb := hsp.lens
            have hl2 := (sl_bd s.cls).2
            have hcall := Lib.hid (addr_any B _ D k j s hks'.out hsp.pg0 (by have := hsp.pg1; have := hg.2.2.2.2.1; omega) (by omega) (by have := hg.1; omega) hg.2.1 _ (hr'.out.below hB) (hB'.out.below hB))
            clear hg hsp hlb hl2
            by_cases he : D.base + atW s (j : Int) = addr
            · have y := Lib.hid (FindIs.yes hF'.out (hobj.out.2 ⟨hl, he⟩))
              have heb : (D.base + atW s (j : Int) == addr) = true := beq_iff_eq.2 he
              clear he
              go_wp2_with fail
              refine hcall.out.mono ?_
              rintro e w2 ⟨rfl, b2⟩
              have hB2 := Lib.hid (below_trans hB b2)
              clear b2
              go_wp2_with fail
              go_ret2
              exact ⟨y.out, hB2.out⟩
            · have hn := Lib.hid (hnext.out (fun h => he (hobj.out.1 h).2))
              have heb : (D.base + atW s (j : Int) == addr) = false := beq_eq_false_iff_ne.2 he
              clear he
              go_wp2_with fail
              refine hcall.out.mono ?_
              rintro e w2 ⟨rfl, b2⟩
              have hB2 := below_trans hB b2
              clear b2 hB x4 xj g4
              go_wp2_with fail
              go_roundw
              case rel => exact ⟨j + 1, by omega, by go_num, hn, hB2⟩
              case measure => simp [RowKit.intOf]; omega
          · have hn := Lib.hid (hnext.out (fun h => hl (hobj.out.1 h).1))
            go_wp2_with fail
            go_roundw
            case rel => exact ⟨j + 1, by omega, by go_num, hn, hB⟩
            case measure => simp [RowKit.intOf]; omega
        · obtain rfl : j = s.lens.length := by omega
          have hn := Lib.hid (no_next hks'.out hno.out hnj.out)
          clear xl
          go_wp2_with fail
          go_roundw
          case rel => exact ⟨k + 1, by omega, by go_num, hn, hB⟩
          case measure => simp [RowKit.intOf]; omega
    · obtain rfl : k = D.spans.length := by omega
      have n := Lib.hid (FindIs.no (D := D) (addr := addr) fun _ k j h => h.elim fun s hs => hno.out k j (List.getElem?_eq_some_iff.1 hs.1).1 h)
      go_wp2_with fail
      go_ret2
      exact ⟨n.out, hB⟩

end Go.Proofs.YtpaepkcfdnddgaaGreat

namespace Go.Proofs.YtpaepkcfdnddgaaGreat
open Go.RowKit
set_option linter.unusedVariables false

/-- The words of the used ones of a span's first j slots. -/
def usedUp (s : SpanD) (j : Nat) : Int := (((s.lens.take j).filter fun l => decide (0 < l)).length : Int) * sz s.cls
def usedK (D : WD) (k : Nat) : Int := ((D.spans.take k).map fun s => usedUp s s.lens.length).sum
def usedN (D : WD) : Int := usedK D D.spans.length
theorem usedUp_zero (s : SpanD) : usedUp s 0 = 0 := by simp [usedUp]
theorem usedUp_succ (s : SpanD) (j : Nat) (h : j < s.lens.length) : usedUp s (j + 1) = usedUp s j + if 0 < s.lens[j]?.getD 0 then sz s.cls else 0 := by
  unfold usedUp
  rw [List.take_succ_eq_append_getElem h, List.filter_append]
  by_cases e : 0 < s.lens[j]
  · simp [e, h, Int.add_mul]
  · simp [e, h]
theorem usedUp_bd (s : SpanD) (j : Nat) : 0 ≤ usedUp s j ∧ usedUp s j ≤ 16 * (j : Int) := by
  have h1 := sz_bd s.cls
  have h2 : ((s.lens.take j).filter fun l => decide (0 < l)).length ≤ j := Nat.le_trans (List.length_filter_le _ _) (by simp; omega)
  unfold usedUp
  refine ⟨Int.mul_nonneg (by omega) h1.1, ?_⟩
  have := Int.mul_le_mul (show ((((s.lens.take j).filter fun l => decide (0 < l)).length : Nat) : Int) ≤ (j : Int) by omega) h1.2 h1.1 (by omega)
  omega
theorem usedK_succ (D : WD) (k : Nat) (s : SpanD) (h : D.spans[k]? = some s) : usedK D (k + 1) = usedK D k + usedUp s s.lens.length := by
  obtain ⟨hk, rfl⟩ := List.getElem?_eq_some_iff.1 h
  unfold usedK
  rw [List.take_succ_eq_append_getElem hk, List.map_append, List.sum_append]
  simp [-List.map_take]
theorem usedK_bd (D : WD) (hF : ∀ (k : Nat) (s : SpanD), D.spans[k]? = some s → SpanAt D k s) (k : Nat) (hk : k ≤ D.spans.length) : 0 ≤ usedK D k ∧ usedK D k ≤ 256 * (k : Int) := by
  induction k with
  | zero => simp [usedK]
  | succ n ih =>
    have := ih (by omega)
    obtain ⟨s, hs⟩ : ∃ s, D.spans[n]? = some s := ⟨_, List.getElem?_eq_getElem (by omega)⟩
    have hA := (hF n s hs).lens
    have hb := usedUp_bd s s.lens.length
    have hl := (sl_bd s.cls).2
    rw [usedK_succ D n s hs]
    omega
/-- It returned how many words are used, or -1. -/
def UsedIs (D : WD) (e : Ending) : Prop := ∃ r : Int, e = .returned (.int .i64 r) ∧ ((HeapForm D ∧ r = usedN D) ∨ (¬ HeapForm D ∧ r = -1))
def FreeIs (D : WD) (e : Ending) : Prop := ∃ r : Int, e = .returned (.int .i64 r) ∧ ((HeapForm D ∧ r = D.pages * 32 - usedN D) ∨ (¬ HeapForm D ∧ r = -1))
theorem UsedIs.unique {D : WD} {e e' : Ending} (h : UsedIs D e) (h' : UsedIs D e') : e = e' := by
  obtain ⟨r, rfl, h⟩ := h
  obtain ⟨r', rfl, h'⟩ := h'
  rcases h with ⟨hF, rfl⟩ | ⟨hn, rfl⟩ <;> rcases h' with ⟨hF', rfl⟩ | ⟨hn', rfl⟩
  · rfl
  · exact absurd hF hn'
  · exact absurd hF' hn
  · rfl
theorem FreeIs.unique {D : WD} {e e' : Ending} (h : FreeIs D e) (h' : FreeIs D e') : e = e' := by
  obtain ⟨r, rfl, h⟩ := h
  obtain ⟨r', rfl, h'⟩ := h'
  rcases h with ⟨hF, rfl⟩ | ⟨hn, rfl⟩ <;> rcases h' with ⟨hF', rfl⟩ | ⟨hn', rfl⟩
  · rfl
  · exact absurd hF hn'
  · exact absurd hF' hn
  · rfl

end Go.Proofs.YtpaepkcfdnddgaaGreat

namespace Go.Proofs.YtpaepkcfdnddgaaGreat
open Go.RowKit
set_option linter.unusedVariables false

/-- The bits of the used ones of the first k slots. -/
def usedM (l : List Int) : Nat → Nat
  | 0 => 0
  | k + 1 => usedM l k + if 0 < l[k]?.getD 0 then 2 ^ k else 0
theorem usedM_lt (l : List Int) (k : Nat) : usedM l k < 2 ^ k := by
  induction k with
  | zero => simp [usedM]
  | succ k ih => unfold usedM; rw [Nat.pow_succ]; split <;> omega
theorem usedM_bit (l : List Int) (k i : Nat) : (usedM l k).testBit i = (decide (i < k) && decide (0 < l[i]?.getD 0)) := by
  induction k with
  | zero => simp [usedM]
  | succ k ih =>
    have hlt := usedM_lt l k
    unfold usedM
    by_cases e : 0 < l[k]?.getD 0
    · rw [if_pos e, Nat.add_comm]
      by_cases h : i = k
      · subst h
        rw [Nat.testBit_two_pow_add_eq, Nat.testBit_lt_two_pow hlt]
        simp [e]
      · by_cases h2 : i < k
        · rw [Nat.testBit_two_pow_add_gt h2, ih]
          simp [h2, show i < k + 1 by omega]
        · have h3 : ((2 ^ k + usedM l k).testBit i) = false := by
            refine Nat.testBit_lt_two_pow (Nat.lt_of_lt_of_le (show 2 ^ k + usedM l k < 2 ^ (k + 1) by rw [Nat.pow_succ]; omega) (Nat.pow_le_pow_right (by omega) (by omega)))
          rw [h3]
          simp [show ¬ i < k + 1 by omega]
    · rw [if_neg e, Nat.add_zero, ih]
      by_cases h : i = k
      · subst h; simp [e]
      · by_cases h2 : i < k
        · simp [h2, show i < k + 1 by omega]
        · simp [h2, show ¬ i < k + 1 by omega]
theorem pow16 {k : Nat} (h : k ≤ 16) : 2 ^ k ≤ 65536 := Nat.pow_le_pow_right (n := 2) (by omega) h
theorem ofInt_nat (n : Nat) (h : n < 2 ^ 64) : (BitVec.ofInt 64 (n : Int)).toNat = n := by
  rw [BitVec.toNat_ofInt]
  omega
theorem or_used (l : List Int) (k : Nat) (hk : k ≤ 16) : bits .or .i64 (usedM l k : Int) ((2 : Int) ^ k) = ((usedM l k + 2 ^ k : Nat) : Int) := by
  have h1 := usedM_lt l k
  have h2 := pow16 hk
  have e : ((2 : Int) ^ k) = ((2 ^ k : Nat) : Int) := by simp
  rw [e]
  show IntKind.i64.wrap ((BitVec.ofInt 64 (usedM l k : Int) ||| BitVec.ofInt 64 ((2 ^ k : Nat) : Int)).toNat : Nat) = _
  rw [BitVec.toNat_or, ofInt_nat _ (by omega), ofInt_nat _ (by omega)]
  have e2 : usedM l k ||| 2 ^ k = usedM l k + 2 ^ k := by
    rw [Nat.or_comm, Nat.add_comm]
    have := Nat.two_pow_add_eq_or_of_lt h1 1
    simpa using this.symm
  rw [e2, IntKind.wrap_i64]
  omega

theorem bitI_test (m : Nat) (i : Nat) : bitI (m : Int) i ↔ m.testBit i = true := by
  unfold bitI
  rw [Nat.testBit_eq_decide_div_mod_eq]
  have : ((m : Int) / 2 ^ i % 2) = ((m / 2 ^ i % 2 : Nat) : Int) := by simp
  rw [this]
  simp
  omega

/-- It has bits of used slots alone. -/
def MarkFits (l : List Int) (m : Int) (k : Nat) : Prop := 0 ≤ m ∧ m < 2 ^ k ∧ ∀ i, i < k → bitI m i → 0 < l[i]?.getD 0
theorem andNot_used (l : List Int) (m : Int) (k : Nat) (hk : k ≤ 16) (h0 : -9223372036854775808 ≤ m) (h1 : m ≤ 9223372036854775807) :
    bits .andNot .i64 m (usedM l k : Int) = 0 ↔ MarkFits l m k := by
  have hu := usedM_lt l k
  have h2 := pow16 hk
  have key : bits .andNot .i64 m (usedM l k : Int) = 0 ↔ BitVec.ofInt 64 m &&& ~~~ BitVec.ofInt 64 (usedM l k : Int) = 0#64 := by
    show IntKind.i64.wrap ((BitVec.ofInt 64 m &&& ~~~ BitVec.ofInt 64 (usedM l k : Int)).toNat : Nat) = 0 ↔ _
    generalize BitVec.ofInt 64 m &&& ~~~ BitVec.ofInt 64 (usedM l k : Int) = X
    rw [IntKind.wrap_i64]
    have hX := X.isLt
    constructor
    · intro h
      apply BitVec.eq_of_toNat_eq
      simp
      omega
    · intro h
      subst h
      simp
  have bitsU : ∀ i, (BitVec.ofInt 64 (usedM l k : Int)).getLsbD i = (decide (i < k) && decide (0 < l[i]?.getD 0)) := by
    intro i
    rw [← BitVec.testBit_toNat, ofInt_nat _ (by omega), usedM_bit]
  have key2 : BitVec.ofInt 64 m &&& ~~~ BitVec.ofInt 64 (usedM l k : Int) = 0#64 ↔ ∀ i, i < 64 → (BitVec.ofInt 64 m).getLsbD i = true → i < k ∧ 0 < l[i]?.getD 0 := by
    constructor
    · intro h i hi hm
      have := congrArg (fun X => X.getLsbD i) h
      simp only [BitVec.getLsbD_and, BitVec.getLsbD_not, bitsU, hm, hi, BitVec.getLsbD_zero, decide_true, Bool.true_and] at this
      simpa using this
    · intro h
      apply BitVec.eq_of_getLsbD_eq
      intro i hi
      simp only [BitVec.getLsbD_and, BitVec.getLsbD_not, bitsU, hi, BitVec.getLsbD_zero, decide_true, Bool.true_and]
      by_cases hm : (BitVec.ofInt 64 m).getLsbD i = true
      · have := h i hi hm
        simp [this]
      · simp [hm]
  rw [key, key2]
  by_cases hm : 0 ≤ m
  · obtain ⟨n, rfl⟩ := Int.eq_ofNat_of_zero_le hm
    have hb : ∀ i, (BitVec.ofInt 64 (n : Int)).getLsbD i = n.testBit i := fun i => by rw [← BitVec.testBit_toNat, ofInt_nat _ (by omega)]
    constructor
    · intro h
      have hlt : n < 2 ^ k := by
        apply Nat.lt_pow_two_of_testBit
        intro i hi
        by_cases hi6 : i < 64
        · cases ht : n.testBit i
          · rfl
          · have := h i hi6 (by rw [hb]; exact ht)
            omega
        · exact Nat.testBit_lt_two_pow (Nat.lt_of_lt_of_le (show n < 2 ^ 64 by omega) (Nat.pow_le_pow_right (by omega) (by omega)))
      refine ⟨by omega, by rw [show ((2 : Int) ^ k) = ((2 ^ k : Nat) : Int) by simp]; omega, fun i hi hbit => ?_⟩
      exact (h i (by omega) (by rw [hb]; exact (bitI_test n i).1 hbit)).2
    · rintro ⟨_, hlt, h⟩ i hi ht
      rw [hb] at ht
      have hik : i < k := by
        apply Decidable.byContradiction
        intro hn
        have hlt' : n < 2 ^ k := by rw [show ((2 : Int) ^ k) = ((2 ^ k : Nat) : Int) by simp] at hlt; omega
        have : n.testBit i = false := Nat.testBit_lt_two_pow (Nat.lt_of_lt_of_le hlt' (Nat.pow_le_pow_right (by omega) (by omega)))
        rw [this] at ht
        cases ht
      exact ⟨hik, h i hik ((bitI_test n i).2 ht)⟩
  · constructor
    · intro h
      have := h 63 (by omega) (by
        rw [← BitVec.testBit_toNat, BitVec.toNat_ofInt, Nat.testBit_eq_decide_div_mod_eq]
        simp
        omega)
      omega
    · intro h
      exact absurd h.1 hm
end Go.Proofs.YtpaepkcfdnddgaaGreat

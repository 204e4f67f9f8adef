/-
  The contract of the model's l2used: which words are those of objects?
-/
import Derived.Test.YtajogfnlbdiokaaSpanOk
import Derived.Test.YtajogfnlbdiokaaWTo
namespace Go.Proofs.Ytajogfnlbdiokaa
open Go.RowKit
set_option linter.unusedVariables false

/-- Word number x is one of the first t words of slot j of span s. -/
def InSlot (s : SpanD) (j t : Nat) (x : Nat) : Prop := ∃ t', t' < t ∧ (x : Int) = atW s (j : Int) + (t' : Int)
/-- .. is one of an object's words in the first j slots of span s. -/
def InSlots (s : SpanD) (j : Nat) (x : Nat) : Prop := ∃ j', j' < j ∧ InSlot s j' (s.lens[j']?.getD 0).toNat x
/-- .. is one of an object's words in the first k spans. -/
def InSpans (D : WD) (k : Nat) (x : Nat) : Prop := ∃ k' s, k' < k ∧ D.spans[k']? = some s ∧ InSlots s s.lens.length x
def Used (D : WD) (x : Nat) : Prop := InSpans D D.spans.length x
/-- The list says of each word whether P. -/
def Tells (U : List Bool) (n : Nat) (P : Nat → Prop) : Prop := U.length = n ∧ ∀ i, i < n → (U[i]?.getD false = true ↔ P i)

theorem Tells.congr {U : List Bool} {n : Nat} {P Q : Nat → Prop} (h : Tells U n P) (hq : ∀ i, i < n → (P i ↔ Q i)) : Tells U n Q :=
  ⟨h.1, fun i hi => (h.2 i hi).trans (hq i hi)⟩
theorem Tells.set {U : List Bool} {n : Nat} {P : Nat → Prop} (h : Tells U n P) (x : Nat) (hx : x < n) : Tells (U.set x true) n (fun i => P i ∨ i = x) := by
  refine ⟨by simpa using h.1, fun i hi => ?_⟩
  have hl := h.1
  by_cases e : i = x
  · subst e
    simp [hl, hi]
  · rw [List.getElem?_set_ne (fun h => e h.symm)]
    rw [h.2 i hi]
    simp [e]
theorem Tells.zero (n : Nat) : Tells (List.replicate n false) n (fun _ => False) :=
  ⟨by simp, fun i hi => by simp [hi]⟩
theorem inSlot_succ (s : SpanD) (j t x : Nat) : InSlot s j (t + 1) x ↔ (InSlot s j t x ∨ (x : Int) = atW s (j : Int) + (t : Int)) := by
  constructor
  · rintro ⟨t', ht, hx⟩
    by_cases e : t' = t
    · subst e; exact .inr hx
    · exact .inl ⟨t', by omega, hx⟩
  · rintro (⟨t', ht, hx⟩ | hx)
    · exact ⟨t', by omega, hx⟩
    · exact ⟨t, by omega, hx⟩
theorem inSlots_succ (s : SpanD) (j x : Nat) : InSlots s (j + 1) x ↔ (InSlots s j x ∨ InSlot s j (s.lens[j]?.getD 0).toNat x) := by
  constructor
  · rintro ⟨j', hj, hx⟩
    by_cases e : j' = j
    · subst e; exact .inr hx
    · exact .inl ⟨j', by omega, hx⟩
  · rintro (⟨j', hj, hx⟩ | hx)
    · exact ⟨j', by omega, hx⟩
    · exact ⟨j, by omega, hx⟩
theorem inSpans_succ (D : WD) (k x : Nat) (s : SpanD) (hs : D.spans[k]? = some s) : InSpans D (k + 1) x ↔ (InSpans D k x ∨ InSlots s s.lens.length x) := by
  constructor
  · rintro ⟨k', s', hk, hs', hx⟩
    by_cases e : k' = k
    · subst e
      rw [hs] at hs'
      cases hs'
      exact .inr hx
    · exact .inl ⟨k', s', by omega, hs', hx⟩
  · rintro (⟨k', s', hk, hs', hx⟩ | hx)
    · exact ⟨k', s', by omega, hs', hx⟩
    · exact ⟨k, s, by omega, hs, hx⟩
theorem slot_in {c i t : Int} (hi0 : 0 ≤ i) (hi : i < sl' c) (ht0 : 0 ≤ t) (ht : t < sz c) : 0 ≤ i * sz c ∧ i * sz c + t < 32 := by
  unfold sl' at hi
  unfold sz at *
  (repeat' split at hi) <;> simp_all <;> omega

/-- The row of bools at block B, and what it tells. -/
structure RowU (B : Nat) (W wr : World) (n : Nat) (U : List Bool) (P : Nat → Prop) : Prop where
  own : wr.ownsRow B 4 1 (sl B n) n (U.map Value.bool)
  tells : Tells U n P
  below : Below B W wr
  size : B < wr.heap.size
theorem RowU.congr {B : Nat} {W wr : World} {n : Nat} {U : List Bool} {P Q : Nat → Prop} (h : RowU B W wr n U P) (hq : ∀ i, i < n → (P i ↔ Q i)) : RowU B W wr n U Q := ⟨h.own, h.tells.congr hq, h.below, h.size⟩
theorem RowU.step {B : Nat} {W wr w2 : World} {n : Nat} {U : List Bool} {P : Nat → Prop} (h : RowU B W wr n U P) (hb : Below wr.heap.size wr w2) (x : Nat) (hx : x < n) :
    RowU B W (w2.setCell ⟨B, x, none⟩ (.bool true)) n (U.set x true) (fun i => P i ∨ i = x) := by
  have ho := own_below h.own hb
  have hl := h.tells.1
  have hz := h.size
  have hz2 := hb.size
  refine ⟨?_, h.tells.set x hx, (h.below.trans (hb.mono (by omega))).setCell (p := ⟨B, x, none⟩) (Nat.le_refl _) _, by rw [World.size_setCell]; omega⟩
  rw [List.map_set]
  exact (ho.stored x (.bool true)).1
theorem RowU.cell {B : Nat} {W wr w2 : World} {n : Nat} {U : List Bool} {P : Nat → Prop} (h : RowU B W wr n U P) (hb : Below wr.heap.size wr w2) (x : Nat) (hx : x < n) :
    w2.cell? ⟨B, x, none⟩ = some (.bool (U[x]?.getD false)) ∧ w2.frozen? ⟨B, x, none⟩ = false := by
  have ho := own_below h.own hb
  have hl := h.tells.1
  refine ⟨?_, ho.frozenAt x⟩
  rw [ho.cellAt x (by omega)]
  simp [show x < U.length by omega]
theorem at_nat (D : WD) (k : Nat) (s : SpanD) (h : SpanAt D k s) (n : Nat) (hwl : (n : Int) = D.pages * 32) (j : Nat) (hj : j < s.lens.length) :
    ∃ A : Nat, atW s (j : Int) = (A : Int) ∧ ∀ t : Nat, (t : Int) < s.lens[j]?.getD 0 → A + t < n := by
  have h1 := h.pg0
  have h2 := h.pg1
  have h3 := h.lens
  have hs := h.slot j hj
  have h4 := hs.l1
  have h5 := sz_bd s.cls
  have h6 : 0 ≤ (j : Int) * sz s.cls := Int.mul_nonneg (by omega) h5.1
  refine ⟨(atW s (j : Int)).toNat, by unfold atW; omega, fun t ht => ?_⟩
  have h7 := slot_in (c := s.cls) (i := (j : Int)) (t := (t : Int)) (by omega) (by omega) (by omega) (by omega)
  unfold atW
  omega

set_option maxRecDepth 100000 in
set_option maxHeartbeats 8000000 in
theorem used_any (v : Value) (D : WD) (hn : D.words.length ≤ 1048576) (hwl : (D.words.length : Int) = D.pages * 32) (hpg : D.pages ≤ 12) (hsp : ∀ k s, D.spans[k]? = some s → SpanAt D k s) (w : World) (hr : RdW w v D) :
    Calls Try.prog 120 #[v] w fun e w' => ∃ (g : Nat) (U : List Bool), e = .returned (sl g D.words.length) ∧ w'.ownsRow w.heap.size 4 1 (sl g D.words.length) D.words.length (U.map Value.bool) ∧ Tells U D.words.length (Used D) ∧ Below w.heap.size w w' := by
  obtain ⟨i0, hi, hz0, hz1, hz2⟩ := info_parts infoBool
  obtain ⟨vw, vd, vs, vm, vg, rfl, a1, a2, a3, a4, a5⟩ := hr
  obtain ⟨aw, cw, rfl, _, _⟩ := a1
  have bx := box_new w (.cells #[.int .i64 D.base, .int .i64 D.pages, .slice aw D.words.length cw, vd, vs, vm, .int .i64 D.phase, .int .i64 D.next, vg] 32)
  have bw := below_box w (.cells #[.int .i64 D.base, .int .i64 D.pages, .slice aw D.words.length cw, vd, vs, vm, .int .i64 D.phase, .int .i64 D.next, vg] 32)
  have hs := Lib.hid (World.size_alloc w (.cells #[.int .i64 D.base, .int .i64 D.pages, .slice aw D.words.length cw, vd, vs, vm, .int .i64 D.phase, .int .i64 D.next, vg] 32))
  have a3' := a3.below bw
  obtain ⟨aS, cS, rfl, hsl, hx⟩ := a3'
  unfold maxLen at hsl
  have f4 := cell_of_heap bx 4 _ rfl
  have f2 := cell_of_heap bx 2 _ rfl
  have hx' := Lib.hid hx
  have bw' := Lib.hid bw
  have hsp' := Lib.hid hsp
  clear a2 a3 a4 a5 bx hx bw hsp
  go_enter Try.func120, Try.ntmps120
  have hwl' := Lib.hid hwl
  clear hwl
  go_wp2_with (at_make; refine wpList_make_full _ rfl _ _ 26 rfl (w.heap.size + 1) 4 i0 (.bool false) 1 Try.underlying26 hi hz0 hz1 .i64 .i64 _ _ D.words.length rfl rfl rfl rfl (by rw [hz2]; omega) (by unfold maxLen; omega) (by simp) ?_; intro w0 hown0 hgrow0)
  generalize w.alloc (.cells #[.int .i64 D.base, .int .i64 D.pages, .slice aw D.words.length cw, vd, .slice aS D.spans.length cS, vm, .int .i64 D.phase, .int .i64 D.next, vg] 32) = W at *
  have hsz := hs.out
  have R0 : RowU (w.heap.size + 1) W w0 D.words.length (List.replicate D.words.length false) (InSpans D 0) := by
    have ho : w0.ownsRow (w.heap.size + 1) 4 1 (sl (w.heap.size + 1) D.words.length) D.words.length ((List.replicate D.words.length false).map Value.bool) := by
      have := hown0
      rw [show (Value.bool false).cells = #[.bool false] from rfl, Nat.mul_one, toList_madeCells_one] at this
      simpa [hsz] using this
    exact ⟨ho, (Tells.zero _).congr (fun i _ => ⟨fun h => h.elim, fun ⟨k', s, hk, _⟩ => absurd hk (by omega)⟩), (Below.refl _ _).grown hgrow0 (by omega) (fun k e => by cases e), (ho.lt (w.heap.size + 1) rfl).2⟩
  have hin := Lib.hid (fun (wr : World) (hb : Below (w.heap.size + 1) W wr) (k : Nat) (s : SpanD) (hk : D.spans[k]? = some s) => (hx'.out k s hk).elim fun b h => h.elim fun off h => (⟨b, off, h.1, h.2.below (by rw [hsz]; exact hb)⟩ : ∃ b off, aS = some ⟨b, off, none⟩ ∧ RdSpan wr b (off + k * 6) s))
  have f4' := Lib.hid (fun (wr : World) (hb : Below (w.heap.size + 1) W wr) => cell_below (w' := wr) (by rw [hsz]; exact hb) f4)
  have hB0 := R0.below
  have f4w := f4'.out w0 hB0
  clear hown0 hgrow0 hs hsz f2 f4 hx'
  go_wp2_with fail
  go_loopw [4] (fun k wr => ∃ (k' : Nat) (U : List Bool), k' ≤ D.spans.length ∧ k = .int .i64 k' ∧ RowU (w.heap.size + 1) W wr D.words.length U (InSpans D k')) (fun k _ => D.spans.length - (intOf k).toNat)
  case atStart => exact ⟨0, _, Nat.zero_le _, rfl, R0⟩
  case round =>
    obtain ⟨k, U, hk, rfl, R⟩ := hrel
    have g4 := f4'.out wr R.below
    by_cases hlt : k < D.spans.length
    · obtain ⟨s, hks⟩ : ∃ s, D.spans[k]? = some s := ⟨_, List.getElem?_eq_getElem hlt⟩
      have hA := hsp'.out k s hks
      have hks' := Lib.hid hks
      obtain ⟨b1, o1, rfl, vl, vp, x0, x1, x2, x3, x4, x5, xl, xp⟩ := hin.out wr R.below k s hks
      obtain ⟨al, cl, rfl, hll, xl⟩ := xl
      unfold maxLen at hll
      have hlt1 : (k : Int) < (D.spans.length : Int) := by omega
      clear hks xp xl x0 x1 x2 x3 x5
      go_wp2_with fail
      clear x4 g4
      go_loopw [5] (fun j wj => ∃ (j' : Nat) (U : List Bool), j' ≤ s.lens.length ∧ j = .int .i64 j' ∧ RowU (w.heap.size + 1) W wj D.words.length U (fun x => InSpans D k x ∨ InSlots s j' x)) (fun j _ => s.lens.length - (intOf j).toNat)
      case atStart => exact ⟨0, U, Nat.zero_le _, rfl, R.congr (fun i _ => ⟨.inl, fun h => h.elim id fun ⟨j', hj, _⟩ => absurd hj (by omega)⟩)⟩
      case round =>
        obtain ⟨j, U, hj, rfl, R⟩ := hrel
        obtain ⟨b1', o1', he, vl', vp', x0, x1, x2, x3, x4, x5, xl', xp⟩ := hin.out _ R.below k s hks'.out
        obtain ⟨rfl, rfl⟩ : b1 = b1' ∧ o1 = o1' := by simpa using he
        obtain ⟨al', cl', rfl, _, xl'⟩ := xl'
        have g4 := f4'.out _ R.below
        clear he
        by_cases hjl : j < s.lens.length
        · have hj1 : (j : Int) < (s.lens.length : Int) := by omega
          have hS := hA.slot j hjl
          obtain ⟨A, hAt, hAin⟩ := at_nat D k s hA D.words.length hwl'.out j hjl
          have hl0 := hS.l0
          go_wp2_with fail
          clear x4 g4 x0 x1 x2 x3 x5
          go_loopw [6] (fun t wt => ∃ (t' : Nat) (U : List Bool), (t' : Int) ≤ s.lens[j]?.getD 0 ∧ t = .int .i64 t' ∧ RowU (w.heap.size + 1) W wt D.words.length U (fun x => (InSpans D k x ∨ InSlots s j x) ∨ InSlot s j t' x)) (fun t _ => (s.lens[j]?.getD 0).toNat - (intOf t).toNat)
          case atStart => exact ⟨0, U, hl0, rfl, R.congr (fun i _ => ⟨.inl, fun h => h.elim id fun ⟨t', ht, _⟩ => absurd ht (by omega)⟩)⟩
          case round =>
            obtain ⟨t, U, ht, rfl, R⟩ := hrel
            obtain ⟨b2', o2', he, vl2, vp2, x0, x1, x2, x3, x4, x5, xl2, xp2⟩ := hin.out _ R.below k s hks'.out
            obtain ⟨rfl, rfl⟩ : b1 = b2' ∧ o1 = o2' := by simpa using he
            obtain ⟨al2, cl2, rfl, _, xl2⟩ := xl2
            obtain ⟨ap2, cp2, rfl, _, _⟩ := xp2
            obtain ⟨bl2, ol2, rfl, xj⟩ := xl2 j hjl
            have g4 := f4'.out _ R.below
            clear he xl2
            have hp0 := hA.pg0
            have hp1 := hA.pg1
            have hl3 := hA.lens
            have hl4 := (sl_bd s.cls).2
            have hjb : (j : Int) ≤ 1000 := by omega
            have hpb : s.page ≤ 1000 := by omega
            clear hl3 hl4
            generalize hlj : s.lens[j]?.getD 0 = l at *
            have hlj' := Lib.hid hlj
            clear hlj
            by_cases htl : (t : Int) < l
            · have hx := hAin t htl
              have hAt' := Lib.hid hAt
              have hR := Lib.hid R
              have ho1 : A + t < D.words.length := hx
              have hx1 : ((A : Int) + (t : Int)) < (D.words.length : Int) := by omega
              clear hAt R hAin
              go_wp2_with fail
              refine (at_any s _ _ (j : Int) hp0 hpb (by omega) hjb _).mono ?_
              rintro e w2 ⟨rfl, b2⟩
              rw [hAt'.out]
              obtain ⟨c1, c2⟩ := hR.out.cell b2 (A + t) ho1
              have hstep := Lib.hid (hR.out.step b2 (A + t) ho1)
              clear b2 x0 x1 x2 x3 x4 x5 xj g4
              generalize U[A + t]?.getD false = old at c1
              go_wp2_with fail
              go_roundw
              case rel => exact ⟨t + 1, _, by omega, by go_num, hstep.out.congr (fun i _ => by rw [inSlot_succ, hAt'.out, show (i = A + t) ↔ ((i : Int) = (A : Int) + (t : Int)) by omega, or_assoc])⟩
              case measure => simp [intOf]; omega
            · have htt : t = l.toNat := by omega
              have hR := Lib.hid (R.congr (Q := fun x => InSpans D k x ∨ InSlots s (j + 1) x) (fun i _ => by rw [inSlots_succ, hlj'.out, ← htt, or_assoc]))
              clear R hAin hAt htt
              go_wp2_with fail
              go_roundw
              case rel => exact ⟨j + 1, U, by omega, by go_num, hR.out⟩
              case measure => simp [intOf]; omega
        · obtain rfl : j = s.lens.length := by omega
          have hR := Lib.hid (R.congr (fun i _ => (inSpans_succ D k i s hks'.out).symm))
          clear R x0 x1 x2 x3 xl' xp
          go_wp2_with fail
          go_roundw
          case rel => exact ⟨k + 1, U, by omega, by go_num, hR.out⟩
          case measure => simp [intOf]; omega
    · obtain rfl : k = D.spans.length := by omega
      go_wp2_with fail
      go_ret
      exact ⟨_, U, rfl, own_base R.own (by omega), R.tells, (bw'.out.trans (R.below.mono (by omega)))⟩
end Go.Proofs.Ytajogfnlbdiokaa

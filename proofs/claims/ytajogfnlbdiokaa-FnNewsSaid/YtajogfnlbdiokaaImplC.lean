/-
  The contract of the program's restIsZero: all words that no object has are 0.
-/
import Derived.Test.YtajogfnlbdiokaaImplB
namespace Go.Proofs.Ytajogfnlbdiokaa
open Go.RowKit
set_option linter.unusedVariables false

def RestZero (D : WD) : Prop := ∀ i : Nat, i < D.words.length → ¬ Used D i → D.words[i]?.getD 0 = 0

set_option maxRecDepth 100000 in
set_option maxHeartbeats 8000000 in
theorem restIsZero_any (B : Nat) (v : Value) (D : WD) (hn : D.words.length ≤ 1048576) (hwl : (D.words.length : Int) = D.pages * 32) (hpg : D.pages ≤ 12) (hsp : SpansForm D) (w : World) (hr : RdW w v D) (hBx : BoxW w B v) :
    Calls Try.prog 55 #[.pointer (some ⟨B, 0, none⟩)] w fun e w' => IsB (RestZero D) e ∧ Below w.heap.size w w' := by
  obtain ⟨i0, hi, hz0, hz1, hz2⟩ := info_parts infoBool
  obtain ⟨vw, vd, vs, vm, vg, rfl, a1, a2, a3, a4, a5⟩ := hr
  have a1' := Lib.hid a1
  obtain ⟨aw, cw, rfl, _, _⟩ := a1
  have a3' := Lib.hid a3
  obtain ⟨aS, cS, rfl, hsl, hx⟩ := a3
  obtain ⟨cs, he, hh⟩ := hBx
  obtain rfl := (Value.agg.inj he).symm
  unfold maxLen at hsl
  have f2 := cell_of_heap hh 2 _ rfl
  have f4 := cell_of_heap hh 4 _ rfl
  have hsp' := Lib.hid hsp
  have hin := Lib.hid (fun (wr : World) (hb : Below w.heap.size w wr) (k : Nat) (s : SpanD) (hk : D.spans[k]? = some s) => (hx k s hk).elim fun b h => h.elim fun off h => (⟨b, off, h.1, h.2.below hb⟩ : ∃ b off, aS = some ⟨b, off, none⟩ ∧ RdSpan wr b (off + k * 6) s))
  have f4' := Lib.hid (fun (wr : World) (hb : Below w.heap.size w wr) => cell_below (w' := wr) hb f4)
  have f2' := Lib.hid (fun (wr : World) (hb : Below w.heap.size w wr) => cell_below (w' := wr) hb f2)
  have hwl' := Lib.hid hwl
  clear hx hh he a2 a4 a5 hsp hwl
  go_enter Try.func55, Try.ntmps55
  go_wp2_with (at_make; refine wpList_make_full _ rfl _ _ 26 rfl w.heap.size 4 i0 (.bool false) 1 Try.underlying26 hi hz0 hz1 .i64 .i64 _ _ D.words.length rfl rfl rfl rfl (by rw [hz2]; omega) (by unfold maxLen; omega) (Nat.le_refl _) ?_; intro w0 hown0 hgrow0; have f4w := f4'.out w0 ((Below.refl _ _).grown hgrow0 (Nat.le_refl _) (fun k e => by cases e)))
  have R0 : RowU w.heap.size w w0 D.words.length (List.replicate D.words.length false) (InSpans D 0) := by
    have ho : w0.ownsRow w.heap.size 4 1 (sl w.heap.size D.words.length) D.words.length ((List.replicate D.words.length false).map Value.bool) := by
      have := hown0
      rw [show (Value.bool false).cells = #[.bool false] from rfl, Nat.mul_one, toList_madeCells_one] at this
      simpa using this
    exact ⟨ho, (Tells.zero _).congr (fun i _ => ⟨fun h => h.elim, fun ⟨k', s, hk, _⟩ => absurd hk (by omega)⟩), (Below.refl _ _).grown hgrow0 (by omega) (fun k e => by cases e), (ho.lt w.heap.size rfl).2⟩
  have hB0 := R0.below
  clear hown0 hgrow0 f2 f4 f4w
  go_loopw [23] (fun k wr => ∃ (k' : Nat) (U : List Bool), k' ≤ D.spans.length ∧ k = .int .i64 k' ∧ RowU w.heap.size w wr D.words.length U (InSpans D k')) (fun k _ => D.spans.length - (intOf k).toNat)
  case atStart => exact ⟨0, _, Nat.zero_le _, rfl, R0⟩
  case round =>
    obtain ⟨k, U, hk, rfl, R⟩ := hrel
    have g4 := f4'.out wr R.below
    by_cases hlt : k < D.spans.length
    · obtain ⟨s, hks⟩ : ∃ s, D.spans[k]? = some s := ⟨_, List.getElem?_eq_getElem hlt⟩
      have hA := hsp'.out k s hks
      have hks' := Lib.hid hks
      obtain ⟨b1, o1, rfl, vl, vp, x0, x1, x2, x3, x4, x5, xl, xp⟩ := hin.out wr R.below k s hks
      obtain ⟨al, cl, rfl, hll, xl⟩ := xl
      unfold maxLen at hll
      have hlt1 : (k : Int) < (D.spans.length : Int) := by omega
      clear hks xp xl x0 x1 x2 x3 x5
      go_wp2_with fail
      have x4' := Lib.hid (show ∀ (wj : World), Below w.heap.size w wj → RdSpan wj b1 (o1 + k * 6) s from fun wj hb => by
        obtain ⟨b, o, he, h⟩ := hin.out wj hb k s hks'.out
        obtain ⟨rfl, rfl⟩ : b1 = b ∧ o1 = o := by simpa using he
        exact h)
      have x4h := Lib.hid x4
      clear x4 g4
      go_loopw [37] (fun j wj => ∃ (j' : Nat) (U : List Bool), j' ≤ s.lens.length ∧ j = .int .i64 j' ∧ Hid (wj.cell? ⟨b1, o1 + k * 6 + 4, none⟩ = some (.slice al s.lens.length cl)) ∧ RowU w.heap.size w wj D.words.length U (fun x => InSpans D k x ∨ InSlots s j' x)) (fun j _ => s.lens.length - (intOf j).toNat)
      case atStart =>
        exact ⟨0, U, Nat.zero_le _, rfl, x4h, R.congr (fun i _ => ⟨.inl, fun h => h.elim id fun ⟨j', hj, _⟩ => absurd hj (by omega)⟩)⟩
      case round =>
        obtain ⟨j, U, hj, rfl, hlc, R⟩ := hrel
        have hsp1 := x4'.out _ R.below
        have hrs := Lib.hid hsp1
        obtain ⟨vl', vp', x0, x1, x2, x3, x4, x5, xl', xp⟩ := hsp1
        obtain rfl : vl' = .slice al s.lens.length cl := by
          have := x4.symm.trans hlc.out
          simpa using this
        obtain ⟨al', cl', he2, _, xl'⟩ := xl'
        obtain ⟨rfl, rfl⟩ : al = al' ∧ cl = cl' := by simpa using he2
        have g4 := f4'.out _ R.below
        clear he2
        by_cases hjl : j < s.lens.length
        · have hj1 : (j : Int) < (s.lens.length : Int) := by omega
          have hS := hA.slot j hjl
          obtain ⟨A, hAt, hAin⟩ := at_nat D k s hA D.words.length hwl'.out j hjl
          have hl0 := hS.l0
          obtain ⟨bl2, ol2, rfl, xj⟩ := xl' j hjl
          have hp0 := hA.pg0
          have hp1 := hA.pg1
          have hl3 := hA.lens
          have hl4 := (sl_bd s.cls).2
          have hjb : (j : Int) ≤ 1000 := by omega
          have hpb : s.page ≤ 1000 := by omega
          have hcall := Lib.hid (firstWord_any b1 (o1 + k * 6) s (j : Int) hp0 hpb (by omega) hjb _ hrs.out)
          have hlw := hS.l1
          have hz16 := (sz_bd s.cls).2
          have hAt' := Lib.hid hAt
          clear hl3 hl4 xl' xp x0 x1 x2 x3 x4 x5 hS hAt
          generalize hlj : s.lens[j]?.getD 0 = l at *
          have hlj' := Lib.hid hlj
          clear hlj
          go_wp2_with fail
          refine hcall.out.mono ?_
          rintro e w2 ⟨rfl, hdr⟩
          rw [hAt'.out]
          have R2 : RowU w.heap.size w w2 D.words.length U (fun x => InSpans D k x ∨ InSlots s j x) := ⟨own_below R.own hdr.below, R.tells, R.below.trans (hdr.below.mono (Nat.le_of_lt R.size)), by have := hdr.below.size; have := R.size; omega⟩
          have hlc2 := Lib.hid (hdr.cell hlc.out)
          have hAb : (A : Int) ≤ 1000000 := by
            have := hAt'.out
            have h5 := sz_bd s.cls
            have h6 : 0 ≤ (j : Int) * sz s.cls := Int.mul_nonneg (by omega) h5.1
            have h7 : (j : Int) * sz s.cls ≤ 16000 := by
              have := Int.mul_le_mul hjb h5.2 h5.1 (by omega)
              omega
            unfold atW at this
            omega
          clear R hdr xj g4 hcall
          go_wp2_with fail
          go_loopw [9] (fun t wt => ∃ (t' : Nat) (U : List Bool), (t' : Int) ≤ l ∧ t = .int .i64 ((A : Int) + (t' : Int)) ∧ Hid (wt.cell? ⟨b1, o1 + k * 6 + 4, none⟩ = some (.slice (some ⟨bl2, ol2, none⟩) s.lens.length cl)) ∧ RowU w.heap.size w wt D.words.length U (fun x => (InSpans D k x ∨ InSlots s j x) ∨ InSlot s j t' x)) (fun t _ => l.toNat - (intOf t - A).toNat)
          case atStart => exact ⟨0, U, hl0, by simp, hlc2, R2.congr (fun i _ => ⟨.inl, fun h => h.elim id fun ⟨t', ht, _⟩ => absurd ht (by omega)⟩)⟩
          case round =>
            obtain ⟨t, U, ht, rfl, hlc3, R⟩ := hrel
            by_cases htl : (t : Int) < l
            · have hx := hAin t htl
              have ho1 : A + t < D.words.length := hx
              have hx1 : ((A : Int) + (t : Int)) < (D.words.length : Int) := by omega
              obtain ⟨c1, c2⟩ := R.cell (Below.refl _ _) (A + t) ho1
              have hstep := Lib.hid (R.step (Below.refl _ _) (A + t) ho1)
              have hne : b1 < w.heap.size := by
                obtain ⟨b3, o3, he3, hsp3⟩ := hin.out w (Below.refl _ _) k s hks'.out
                obtain ⟨rfl, rfl⟩ : b1 = b3 ∧ o1 = o3 := by simpa using he3
                obtain ⟨_, _, y0, _⟩ := hsp3
                exact cell_lt y0
              have hlc4 := Lib.hid (show (wr.setCell ⟨w.heap.size, A + t, none⟩ (.bool true)).cell? ⟨b1, o1 + k * 6 + 4, none⟩ = some (.slice (some ⟨bl2, ol2, none⟩) s.lens.length cl) from by
                have hb : (wr.setCell ⟨w.heap.size, A + t, none⟩ (.bool true)).heap[b1]? = wr.heap[b1]? := heap_setCell_other wr ⟨w.heap.size, A + t, none⟩ b1 (.bool true) (by simp; omega)
                rw [World.cell?_of_block hb]
                exact hlc3.out)
              clear R hAin hlc3
              generalize U[A + t]?.getD false = old at c1
              go_wp2_with fail
              go_roundw
              case rel => exact ⟨t + 1, _, by omega, by go_num, hlc4, hstep.out.congr (fun i _ => by rw [inSlot_succ, hAt'.out, show (i = A + t) ↔ ((i : Int) = (A : Int) + (t : Int)) by omega, or_assoc])⟩
              case measure => simp [intOf]; omega
            · have htt : t = l.toNat := by omega
              have hR := Lib.hid (R.congr (Q := fun x => InSpans D k x ∨ InSlots s (j + 1) x) (fun i _ => by rw [inSlots_succ, hlj'.out, ← htt, or_assoc]))
              clear R hAin htt
              go_wp2_with fail
              go_roundw
              case rel => exact ⟨j + 1, U, by omega, by go_num, hlc3, hR.out⟩
              case measure => simp [intOf]; omega
        · obtain rfl : j = s.lens.length := by omega
          have hR := Lib.hid (R.congr (fun i _ => (inSpans_succ D k i s hks'.out).symm))
          clear R x0 x1 x2 x3 xl' xp
          go_wp2_with fail
          go_roundw
          case rel => exact ⟨k + 1, U, by omega, by go_num, hR.out⟩
          case measure => simp [intOf]; omega
    · obtain rfl : k = D.spans.length := by omega
      have g2 := f2'.out wr R.below
      have hb := Lib.hid R.below
      have oU' := Lib.hid R.own
      have tU' := Lib.hid R.tells
      obtain ⟨aw', cw', hwe, hwm, xw⟩ := (a1'.out.below R.below)
      obtain ⟨rfl, rfl⟩ : aw = aw' ∧ cw = cw' := by simpa using hwe
      have xw' := Lib.hid xw
      clear hwe xw R
      unfold maxLen at hwm
      go_wp2_with fail
      go_loop [63] (fun i => ∃ i' : Nat, i' ≤ D.words.length ∧ i = .int .i64 i' ∧ Hid (∀ j, j < i' → ¬ Used D j → D.words[j]?.getD 0 = 0)) (fun i => D.words.length - (intOf i).toNat)
      case atStart => exact ⟨0, Nat.zero_le _, rfl, fun j hj => absurd hj (by omega)⟩
      case round =>
        obtain ⟨i, hi, rfl, hz⟩ := hrel
        by_cases hil : i < D.words.length
        · have hil1 : (i : Int) < (D.words.length : Int) := by omega
          obtain ⟨bw1, ow1, rfl, xi⟩ := xw'.out i hil
          have hU := tU'.out
          have ui : wr.cell? ⟨w.heap.size, i, none⟩ = some (.bool (U[i]?.getD false)) := by
            rw [oU'.out.cellAt i (by omega)]
            simp [hU.1, hil]
          have hUi := Lib.hid (hU.2 i hil)
          have hfz := Lib.hid (fun (h : RestZero D) => h i hil)
          have hnext := Lib.hid (fun (h : ¬ Used D i → D.words[i]?.getD 0 = 0) => (fun j (hj : j < i + 1) => if e : j = i then by subst e; exact h else hz.out j (by omega) : ∀ j, j < i + 1 → ¬ Used D j → D.words[j]?.getD 0 = 0))
          clear hU hz
          generalize U[i]?.getD false = u at *
          generalize D.words[i]?.getD 0 = y at *
          by_cases hy : y = 0
          · have hn := Lib.hid (hnext.out (fun _ => hy))
            have hyb : (y != 0) = false := by rw [bne_eq_false_iff_eq]; exact hy
            clear hy
            go_wp2_with fail
            go_round
            case rel => exact ⟨i + 1, by omega, by go_num, hn⟩
            case measure => simp [intOf]; omega
          · have hyb : (y != 0) = true := by rw [bne_iff_ne]; exact hy
            have hy' := Lib.hid hy
            clear hy
            cases u
            · have n := Lib.hid (show ¬ RestZero D from fun h => hy'.out (hfz.out h (fun hu => absurd (hUi.out.2 hu) (by simp))))
              go_wp2_with fail
              go_ret
              exact ⟨IsB.no n.out, hb.out⟩
            · have hn := Lib.hid (hnext.out (fun hu => absurd (hUi.out.1 rfl) hu))
              go_wp2_with fail
              go_round
              case rel => exact ⟨i + 1, by omega, by go_num, hn⟩
              case measure => simp [intOf]; omega
        · obtain rfl : i = D.words.length := by omega
          have hy := Lib.hid (show RestZero D from hz.out)
          clear hz
          go_wp2_with fail
          go_ret
          exact ⟨IsB.yes hy.out, hb.out⟩
end Go.Proofs.Ytajogfnlbdiokaa

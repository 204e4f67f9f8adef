/-
  The contract of the model's FormOk: has the World the form of a heap?
-/
import Derived.Test.YtajogfnlbdiokaaUsed
namespace Go.Proofs.Ytajogfnlbdiokaa
open Go.RowKit
set_option linter.unusedVariables false

structure HeapForm (D : WD) : Prop where
  geo : Geo D.base D.pages (D.muts.length : Int)
  words : (D.words.length : Int) = D.pages * 32
  dirty : (D.dirty.length : Int) = D.pages * 4
  spans : (D.spans.length : Int) ≤ D.pages
  ph0 : 0 ≤ D.phase
  ph1 : D.phase ≤ 4
  span : ∀ (k : Nat) (s : SpanD), D.spans[k]? = some s → SpanAt D k s
  zero : ∀ i : Nat, i < D.words.length → ¬ Used D i → D.words[i]?.getD 0 = 0
  roots : ∀ (k : Nat) (r : List Int), D.muts[k]? = some r → r.length = 6

theorem IsB.elim {P : Prop} {e : Ending} (h : IsB P e) : (P ∧ e = .returned (.bool true)) ∨ (¬ P ∧ e = .returned (.bool false)) := by
  obtain ⟨r, rfl, hr⟩ := h
  cases r
  · exact .inr ⟨by simpa using hr, rfl⟩
  · exact .inl ⟨by simpa using hr, rfl⟩

theorem span_any (v : Value) (D : WD) (k : Nat) (s : SpanD) (hk : D.spans[k]? = some s) (w : World) (hr : RdW w v D) :
    Calls Try.prog 119 #[v, .int .i64 k] w fun e w' => IsB (SpanAt D k s) e ∧ Below w.heap.size w w' := by
  cases k with
  | zero => exact span_any0 v D s hk w hr
  | succ k => exact span_anyS v D k s hk w hr

set_option maxRecDepth 100000 in
set_option maxHeartbeats 8000000 in
theorem formOk_any (v : Value) (D : WD) (w : World) (hr : RdW w v D) :
    Calls Try.prog 63 #[v] w fun e w' => IsB (HeapForm D) e ∧ Below w.heap.size w w' := by
  obtain ⟨vw, vd, vs, vm, vg, rfl, a1, a2, a3, a4, a5⟩ := hr
  have bx := box_new w (.cells #[.int .i64 D.base, .int .i64 D.pages, vw, vd, vs, vm, .int .i64 D.phase, .int .i64 D.next, vg] 32)
  have bw := below_box w (.cells #[.int .i64 D.base, .int .i64 D.pages, vw, vd, vs, vm, .int .i64 D.phase, .int .i64 D.next, vg] 32)
  have hW : RdW (w.alloc (.cells #[.int .i64 D.base, .int .i64 D.pages, vw, vd, vs, vm, .int .i64 D.phase, .int .i64 D.next, vg] 32)) (.agg #[.int .i64 D.base, .int .i64 D.pages, vw, vd, vs, vm, .int .i64 D.phase, .int .i64 D.next, vg]) D :=
    ⟨vw, vd, vs, vm, vg, rfl, a1.below bw, a2.below bw, a3.below bw, a4.below bw, a5.below bw⟩
  have k1 := Lib.hid (a1.below bw)
  have k4 := Lib.hid (a4.below bw)
  obtain ⟨aw, cw, rfl, hlw, _⟩ := a1
  obtain ⟨ad, cd, rfl, hld, _⟩ := a2
  obtain ⟨aS, cS, rfl, hls, _⟩ := a3
  obtain ⟨am, cm, rfl, hlm, _⟩ := a4
  unfold maxLen at hlw hld hls hlm
  have bw' := Lib.hid bw
  have bx' := Lib.hid bx
  have hW' := Lib.hid hW
  have f0 := cell_of_heap bx 0 _ rfl
  have f1 := cell_of_heap bx 1 _ rfl
  have f2 := cell_of_heap bx 2 _ rfl
  have f3 := cell_of_heap bx 3 _ rfl
  have f4 := cell_of_heap bx 4 _ rfl
  have f5 := cell_of_heap bx 5 _ rfl
  have f6 := cell_of_heap bx 6 _ rfl
  clear a5 bw bx hW
  go_enter Try.func63, Try.ntmps63
  go_wp2_with fail
  refine (geometry_any _ _ _ _).mono ?_
  rintro e w1 ⟨hg, rfl⟩
  have hg := hg.elim
  rcases hg with ⟨hgeo, rfl⟩ | ⟨hgeo, rfl⟩
  case inr =>
    have n := Lib.hid (show ¬ HeapForm D from fun h => hgeo h.geo)
    clear hgeo
    go_wp2_with fail
    go_ret
    exact ⟨IsB.no n.out, bw'.out⟩
  obtain ⟨p0, p1, p2, p3, p4, p5, p6⟩ := hgeo
  have hgeo := Lib.hid (show Geo D.base D.pages (D.muts.length : Int) from ⟨p0, p1, p2, p3, p4, p5, p6⟩)
  clear p2
  by_cases c1 : (D.words.length : Int) = D.pages * 32
  case neg =>
    have n := Lib.hid (show ¬ HeapForm D from fun h => c1 h.words)
    have d1 : ((D.words.length : Int) != D.pages * 32) = true := by rw [bne_iff_ne]; exact c1
    clear c1
    go_wp2_with fail
    go_ret
    exact ⟨IsB.no n.out, bw'.out⟩
  have d1 : ((D.words.length : Int) != D.pages * 32) = false := by rw [bne_eq_false_iff_eq]; exact c1
  have c1' := Lib.hid c1
  have c1n : D.words.length ≤ 384 := by omega
  clear c1
  by_cases c2 : (D.dirty.length : Int) = D.pages * 4
  case neg =>
    have n := Lib.hid (show ¬ HeapForm D from fun h => c2 h.dirty)
    have d2 : ((D.dirty.length : Int) != D.pages * 4) = true := by rw [bne_iff_ne]; exact c2
    clear c2
    go_wp2_with fail
    go_ret
    exact ⟨IsB.no n.out, bw'.out⟩
  have d2 : ((D.dirty.length : Int) != D.pages * 4) = false := by rw [bne_eq_false_iff_eq]; exact c2
  have c2' := Lib.hid c2
  clear c2
  by_cases c3 : D.pages < (D.spans.length : Int)
  case pos =>
    have n := Lib.hid (show ¬ HeapForm D from fun h => by have := h.spans; omega)
    go_wp2_with fail
    go_ret
    exact ⟨IsB.no n.out, bw'.out⟩
  by_cases c4 : D.phase < 0
  case pos =>
    have n := Lib.hid (show ¬ HeapForm D from fun h => by have := h.ph0; omega)
    go_wp2_with fail
    go_ret
    exact ⟨IsB.no n.out, bw'.out⟩
  by_cases c5 : 4 < D.phase
  case pos =>
    have n := Lib.hid (show ¬ HeapForm D from fun h => by have := h.ph1; omega)
    go_wp2_with fail
    go_ret
    exact ⟨IsB.no n.out, bw'.out⟩
  have c3' : (D.spans.length : Int) ≤ D.pages := by omega
  have c4' : 0 ≤ D.phase := by omega
  have c5' : D.phase ≤ 4 := by omega
  go_wp2_with fail
  have hs := Lib.hid (World.size_alloc w (.cells #[.int .i64 D.base, .int .i64 D.pages, .slice aw D.words.length cw, .slice ad D.dirty.length cd, .slice aS D.spans.length cS, .slice am D.muts.length cm, .int .i64 D.phase, .int .i64 D.next, vg] 32))
  generalize w.alloc (.cells #[.int .i64 D.base, .int .i64 D.pages, .slice aw D.words.length cw, .slice ad D.dirty.length cd, .slice aS D.spans.length cS, .slice am D.muts.length cm, .int .i64 D.phase, .int .i64 D.next, vg] 32) = W at *
  have hcells := Lib.hid (fun (wr : World) (hb : Below W.heap.size W wr) (j : Nat) (u : Value) (hu : (#[.int .i64 D.base, .int .i64 D.pages, .slice aw D.words.length cw, .slice ad D.dirty.length cd, .slice aS D.spans.length cS, .slice am D.muts.length cm, .int .i64 D.phase, .int .i64 D.next, vg] : Array Value)[j]? = some u) => cell_of_heap (heap_below hb bx'.out) j u hu)
  clear f0 f1 f2 f3 f4 f5 f6 d1 d2 c3 c4 c5
  go_loopw [3] (fun k wr => ∃ k' : Nat, k' ≤ D.spans.length ∧ k = .int .i64 k' ∧ Hid (∀ (j : Nat) (s : SpanD), j < k' → D.spans[j]? = some s → SpanAt D j s) ∧ Below W.heap.size W wr) (fun k _ => D.spans.length - (intOf k).toNat)
  case atStart => exact ⟨0, Nat.zero_le _, rfl, (fun j s hj => absurd hj (by omega)), Below.refl _ _⟩
  case round =>
    obtain ⟨k, hk, rfl, hok, hB⟩ := hrel
    have g0 := hcells.out wr hB 0 _ rfl
    have g1 := hcells.out wr hB 1 _ rfl
    have g2 := hcells.out wr hB 2 _ rfl
    have g3 := hcells.out wr hB 3 _ rfl
    have g4 := hcells.out wr hB 4 _ rfl
    have g5 := hcells.out wr hB 5 _ rfl
    have g6 := hcells.out wr hB 6 _ rfl
    have g7 := hcells.out wr hB 7 _ rfl
    have g8 := hcells.out wr hB 8 _ rfl
    by_cases hlt : k < D.spans.length
    · obtain ⟨s, hks⟩ : ∃ s, D.spans[k]? = some s := ⟨_, List.getElem?_eq_getElem hlt⟩
      have hcall := span_any _ D k s hks wr (hW'.out.below hB)
      have hks' := Lib.hid hks
      have hcall' := Lib.hid hcall
      clear hcall hks
      go_wp2_with fail
      refine hcall'.out.mono ?_
      rintro e w2 ⟨hs2, b2⟩
      have hs2 := hs2.elim
      have hB2 := below_trans hB b2
      clear g0 g1 g2 g3 g4 g5 g6 g7 g8 b2 hB hcall'
      rcases hs2 with ⟨hA, rfl⟩ | ⟨hA, rfl⟩
      · have hok2 := Lib.hid (show ∀ (j : Nat) (s : SpanD), j < k + 1 → D.spans[j]? = some s → SpanAt D j s from fun j s' hj hs' => if e : j = k then by subst e; rw [hks'.out] at hs'; cases hs'; exact hA else hok.out j s' (by omega) hs')
        clear hA hok
        go_wp2_with fail
        go_roundw
        case rel => exact ⟨k + 1, by omega, by go_num, hok2, hB2⟩
        case measure => simp [intOf]; omega
      · have n := Lib.hid (show ¬ HeapForm D from fun h => hA (h.span k s hks'.out))
        clear hA hok
        go_wp2_with fail
        go_ret
        exact ⟨IsB.no n.out, below_trans bw'.out hB2⟩
    · obtain rfl : k = D.spans.length := by omega
      have hspan := Lib.hid (show ∀ (k : Nat) (s : SpanD), D.spans[k]? = some s → SpanAt D k s from fun k s hs => hok.out k s (List.getElem?_eq_some_iff.1 hs).1 hs)
      have hcall := Lib.hid (used_any _ D (by omega) c1'.out p4 hspan.out wr (hW'.out.below hB))
      clear hok
      go_wp2_with fail
      refine hcall.out.mono ?_
      rintro e w2 ⟨g, U, rfl, oU, tU, b2⟩
      have hB2 := below_trans hB b2
      have oU' := Lib.hid oU
      have tU' := Lib.hid tU
      have l0 := hcells.out w2 hB2 2 _ rfl
      clear g0 g1 g2 g3 g4 g5 g6 g7 g8 b2 hB hcall oU tU
      have kw := Lib.hid ((k1.out.below hB2))
      obtain ⟨aw', cw', hwe, _, xw⟩ := kw.out
      obtain ⟨rfl, rfl⟩ : aw = aw' ∧ cw = cw' := by simpa using hwe
      have xw' := Lib.hid xw
      clear hwe xw
      go_wp2_with fail
      go_loop [5] (fun i => ∃ i' : Nat, i' ≤ D.words.length ∧ i = .int .i64 i' ∧ Hid (∀ j, j < i' → ¬ Used D j → D.words[j]?.getD 0 = 0)) (fun i => D.words.length - (intOf i).toNat)
      case atStart => exact ⟨0, Nat.zero_le _, rfl, fun j hj => absurd hj (by omega)⟩
      case round =>
        obtain ⟨i, hi, rfl, hz⟩ := hrel
        by_cases hil : i < D.words.length
        · have hil1 : (i : Int) < (D.words.length : Int) := by omega
          obtain ⟨bw1, ow1, rfl, xi⟩ := xw'.out i hil
          have hU := tU'.out
          have ui : w2.cell? ⟨g, i, none⟩ = some (.bool (U[i]?.getD false)) := by
            rw [oU'.out.cellAt i (by omega)]
            simp [hU.1, hil]
          have hUi := Lib.hid (hU.2 i hil)
          have hfz := Lib.hid (fun (h : HeapForm D) => h.zero i hil)
          have hnext := Lib.hid (fun (h : ¬ Used D i → D.words[i]?.getD 0 = 0) => (fun j (hj : j < i + 1) => if e : j = i then by subst e; exact h else hz.out j (by omega) : ∀ j, j < i + 1 → ¬ Used D j → D.words[j]?.getD 0 = 0))
          clear hU hz
          generalize U[i]?.getD false = u at *
          generalize D.words[i]?.getD 0 = y at *
          cases u
          · by_cases hy : y = 0
            · have hn := Lib.hid (hnext.out (fun _ => hy))
              have hyb : (y != 0) = false := by rw [bne_eq_false_iff_eq]; exact hy
              clear hy
              go_wp2_with fail
              go_round
              case rel => exact ⟨i + 1, by omega, by go_num, hn⟩
              case measure => simp [intOf]; omega
            · have n := Lib.hid (show ¬ HeapForm D from fun h => hy (hfz.out h (fun hu => absurd (hUi.out.2 hu) (by simp))))
              have hyb : (y != 0) = true := by rw [bne_iff_ne]; exact hy
              clear hy
              go_wp2_with fail
              go_ret
              exact ⟨IsB.no n.out, below_trans bw'.out hB2⟩
          · have hn := Lib.hid (hnext.out (fun hu => absurd (hUi.out.1 rfl) hu))
            go_wp2_with fail
            go_round
            case rel => exact ⟨i + 1, by omega, by go_num, hn⟩
            case measure => simp [intOf]; omega
        · obtain rfl : i = D.words.length := by omega
          have hzero := Lib.hid (show ∀ i : Nat, i < D.words.length → ¬ Used D i → D.words[i]?.getD 0 = 0 from hz.out)
          have l5 := hcells.out w2 hB2 5 _ rfl
          have km := Lib.hid (k4.out.below hB2)
          clear hz
          go_wp2_with fail
          go_loop [6] (fun i => ∃ i' : Nat, i' ≤ D.muts.length ∧ i = .int .i64 i' ∧ Hid (∀ (j : Nat) (r : List Int), j < i' → D.muts[j]? = some r → r.length = 6)) (fun i => D.muts.length - (intOf i).toNat)
          case atStart => exact ⟨0, Nat.zero_le _, rfl, fun j r hj => absurd hj (by omega)⟩
          case round =>
            obtain ⟨i, hi, rfl, hz⟩ := hrel
            by_cases hil : i < D.muts.length
            · have hil1 : (i : Int) < (D.muts.length : Int) := by omega
              obtain ⟨r, hr⟩ : ∃ r, D.muts[i]? = some r := ⟨_, List.getElem?_eq_getElem hil⟩
              obtain ⟨am', cm', he, _, xm⟩ := km.out
              obtain ⟨rfl, rfl⟩ : am = am' ∧ cm = cm' := by simpa using he
              obtain ⟨bm, om, vr, rfl, xc, xr⟩ := xm i r hr
              obtain ⟨ar, cr, rfl, hlr, _⟩ := xr
              unfold maxLen at hlr
              have hr' := Lib.hid hr
              clear xm he hr
              by_cases h6 : (r.length : Int) = 6
              · have hn := Lib.hid (show ∀ (j : Nat) (r : List Int), j < i + 1 → D.muts[j]? = some r → r.length = 6 from fun j r2 hj hr2 => if e : j = i then by subst e; rw [hr'.out] at hr2; cases hr2; omega else hz.out j r2 (by omega) hr2)
                have hb6 : ((r.length : Int) != 6) = false := by rw [bne_eq_false_iff_eq]; exact h6
                clear h6 hz
                go_wp2_with fail
                go_round
                case rel => exact ⟨i + 1, by omega, by go_num, hn⟩
                case measure => simp [intOf]; omega
              · have n := Lib.hid (show ¬ HeapForm D from fun h => h6 (by have := h.roots i r hr'.out; omega))
                have hb6 : ((r.length : Int) != 6) = true := by rw [bne_iff_ne]; exact h6
                clear h6 hz
                go_wp2_with fail
                go_ret
                exact ⟨IsB.no n.out, below_trans bw'.out hB2⟩
            · obtain rfl : i = D.muts.length := by omega
              have hy := Lib.hid (show HeapForm D from ⟨hgeo.out, c1'.out, c2'.out, c3', c4', c5', hspan.out, hzero.out, fun k r hr => hz.out k r (List.getElem?_eq_some_iff.1 hr).1 hr⟩)
              clear hz
              go_wp2_with fail
              go_ret
              exact ⟨IsB.yes hy.out, below_trans bw'.out hB2⟩
end Go.Proofs.Ytajogfnlbdiokaa

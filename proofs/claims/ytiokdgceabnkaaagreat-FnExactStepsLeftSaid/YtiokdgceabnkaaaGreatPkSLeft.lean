import Derived.Test.YtiokdgceabnkaaaGreatPkSWorldOk
import Derived.Test.YtiokdgceabnkaaaGreatPkLeft

/-
  The contract of the model's StepsLeft.
-/
namespace Go.Proofs.YtiokdgceabnkaaaGreat
open Go.RowKit
set_option linter.unusedVariables false

set_option maxRecDepth 100000 in
set_option maxHeartbeats 8000000 in
theorem sleft_any (v : Value) (D : WD) (hcap : CapG v) (w : World) (hr : RdW w v D) :
    Calls Tryz.prog 20 #[v] w fun e w' => LeftIs D e ∧ Below w.heap.size w w' := by
  have hcap' := Lib.hid hcap
  clear hcap
  obtain ⟨vw, vd, vs, vm, vg, rfl, a1, a2, a3, a4, a5⟩ := hr
  have bx := box_new w (.cells #[.int .i64 D.base, .int .i64 D.pages, vw, vd, vs, vm, .int .i64 D.phase, .int .i64 D.next, vg] 35)
  have bw := below_box w (.cells #[.int .i64 D.base, .int .i64 D.pages, vw, vd, vs, vm, .int .i64 D.phase, .int .i64 D.next, vg] 35)
  have hW := Lib.hid (show RdW (w.alloc (.cells #[.int .i64 D.base, .int .i64 D.pages, vw, vd, vs, vm, .int .i64 D.phase, .int .i64 D.next, vg] 35)) (.agg #[.int .i64 D.base, .int .i64 D.pages, vw, vd, vs, vm, .int .i64 D.phase, .int .i64 D.next, vg]) D from ⟨vw, vd, vs, vm, vg, rfl, a1.below bw, a2.below bw, a3.below bw, a4.below bw, a5.below bw⟩)
  have hBx := Lib.hid (show BoxW (w.alloc (.cells #[.int .i64 D.base, .int .i64 D.pages, vw, vd, vs, vm, .int .i64 D.phase, .int .i64 D.next, vg] 35)) w.heap.size (.agg #[.int .i64 D.base, .int .i64 D.pages, vw, vd, vs, vm, .int .i64 D.phase, .int .i64 D.next, vg]) from ⟨_, rfl, bx⟩)
  have bw' := Lib.hid bw
  clear a1 a2 a3 a4 a5 bx bw
  go_enter Tryz.func20, Tryz.ntmps20
  go_wp2_with fail
  refine (sworldOk_any _ D hcap'.out _ hW.out).mono ?_
  rintro e w1 ⟨hq, b1⟩
  replace hq := hq.elim
  obtain ⟨x1, rfl⟩ := Ext.of b1
  clear b1
  generalize w.alloc (.cells #[.int .i64 D.base, .int .i64 D.pages, vw, vd, vs, vm, .int .i64 D.phase, .int .i64 D.next, vg] 35) = W at *
  rcases hq with ⟨hG, rfl⟩ | ⟨hG, rfl⟩
  case inr =>
    have n := Lib.hid (show LeftIs D (.returned (.int .i64 0)) from ⟨0, rfl, .inr ⟨hG, rfl⟩⟩)
    clear hG
    go_wp2_with fail
    go_ret
    exact ⟨n.out, below_trans bw'.out x1.below⟩
  have hG' := Lib.hid hG
  have hF' := Lib.hid hG.1
  have hl12 : D.spans.length ≤ 12 := by have := hG.1.spans; have := hG.1.geo.2.2.2.2.1; omega
  have hml : D.muts.length ≤ 3 := by have := hG.1.geo.2.2.2.2.2.2; omega
  have hnx := hG.2.1.2.1.1
  have hnx2 := hG.2.1.2.1.2.1
  have hph0 := hG.1.ph0
  have hph1 := hG.1.ph1
  have hwk := Lib.hid (fun k hk => whiteK_le (D := D) hG.1.lens16 k hk)
  have huk := Lib.hid (fun k hk => unsK_le D k hk)
  obtain ⟨aS, cS, rfl, hls, hx⟩ := hW.out.parts.2.2.1
  obtain ⟨am, cm, rfl, hmm, _⟩ := hW.out.parts.2.2.2.1
  obtain ⟨ag, cg, rfl, -, _⟩ := hW.out.parts.2.2.2.2
  have hg3 := Right.greyLen hG
  have hx' := Lib.hid hx
  have g4 := Ext.cell (hBx.out.elim fun cs h => by obtain rfl := (Value.agg.inj h.1).symm; exact cell_of_heap h.2 4 _ rfl)
  have g5 := Lib.hid (Ext.cell (hBx.out.elim fun cs h => by obtain rfl := (Value.agg.inj h.1).symm; exact cell_of_heap h.2 5 _ rfl))
  have g6 := Lib.hid (Ext.cell (hBx.out.elim fun cs h => by obtain rfl := (Value.agg.inj h.1).symm; exact cell_of_heap h.2 6 _ rfl))
  have g7 := Lib.hid (Ext.cell (hBx.out.elim fun cs h => by obtain rfl := (Value.agg.inj h.1).symm; exact cell_of_heap h.2 7 _ rfl))
  have g8 := Lib.hid (Ext.cell (hBx.out.elim fun cs h => by obtain rfl := (Value.agg.inj h.1).symm; exact cell_of_heap h.2 8 _ rfl))
  clear hG hx hls hmm
  go_wp2_with fail
  go_loopw [3, 4, 5] (fun u n i wr => ∃ k : Nat, k ≤ D.spans.length ∧ i = .int .i64 k ∧ u = .int .i64 (whiteK D k : Int) ∧ n = .int .i64 (unsK D k : Int) ∧ ∃ x : Ext W, wr = x.val) (fun u n i _ => D.spans.length - (Go.RowKit.intOf i).toNat)
  case atStart => exact ⟨0, Nat.zero_le _, rfl, rfl, rfl, x1, rfl⟩
  case round =>
    obtain ⟨k, hk, rfl, rfl, rfl, x, rfl⟩ := hrel
    have hwb := hwk.out k hk
    have hub := huk.out k hk
    by_cases hlt : k < D.spans.length
    · have hlt1 : (k : Int) < (D.spans.length : Int) := by omega
      obtain ⟨s, hks⟩ : ∃ s, D.spans[k]? = some s := ⟨_, List.getElem?_eq_getElem hlt⟩
      obtain ⟨b1, o1, rfl, hs⟩ := hx'.out k s hks
      obtain ⟨vl, vp, y0, y1, y2, y3, y4, y5, ⟨al, cl, rfl, hll, xl⟩, _⟩ := hs
      unfold maxLen at hll
      have y3 := Ext.cell y3
      have y4 := Ext.cell y4
      have xl' := Lib.hid xl
      have hl16 := hF'.out.lens16 s (List.mem_of_getElem? hks)
      have hws := Lib.hid (whiteK_succ hks)
      have hus := Lib.hid (unsK_succ hks)
      have hmk := Lib.hid (fun (x : Ext W) (j : Nat) (hj : j ≤ 16) => smarked_any w.heap.size _ D k j s hks hj x.val (hW.out.below x.below) (hBx.out.below x.below))
      have hiff := Lib.hid (fun (j : Nat) => (MarkedP.iff (D := D) (k := k) (j := j) hks))
      obtain ⟨sw, hsw⟩ : ∃ b, s.swept = b := ⟨_, rfl⟩
      have hun : ∃ n : Nat, n ≤ k + 1 ∧ unsK D (k + 1) = n ∧ n = unsK D k + (if sw = true then 0 else 1) := ⟨unsK D (k + 1), huk.out _ (by omega), rfl, by rw [hus.out, hsw]⟩
      obtain ⟨n1, hn1, hn2, hn3⟩ := hun
      have hn2' := Lib.hid hn2
      rw [hsw] at y3
      clear hks y0 y1 y2 y5 xl hsw hn2
      cases sw
      all_goals
        simp only [if_true, if_false, Bool.false_eq_true] at hn3
        go_wp2_with fail
        clear y3
        go_loopw [3, 6] (fun u j wj => ∃ j' : Nat, j' ≤ s.lens.length ∧ j = .int .i64 j' ∧ u = .int .i64 ((whiteK D k : Int) + (whiteS s j' : Int)) ∧ ∃ x : Ext W, wj = x.val) (fun u j _ => s.lens.length - (Go.RowKit.intOf j).toNat)
        case atStart => exact ⟨0, Nat.zero_le _, rfl, by simp [whiteS], x, rfl⟩
        case round =>
          obtain ⟨j, hj, rfl, rfl, z, rfl⟩ := hrel
          have hsb := whiteS_le s j
          by_cases hjl : j < s.lens.length
          · have hj1 : (j : Int) < (s.lens.length : Int) := by omega
            obtain ⟨bl, ol, rfl, xj⟩ := xl'.out j hjl
            have xj := Ext.cell xj
            have hy := Lib.hid (fun h hm => whiteS_yes (s := s) (j := j) h hm)
            have hn := Lib.hid (fun h => whiteS_no (s := s) (j := j) h)
            generalize s.lens[j]?.getD 0 = l at *
            by_cases hl : 0 < l
            · go_wp2_with fail
              refine (hmk.out z j (by omega)).mono ?_
              rintro e w2 ⟨hq, b2⟩
              replace hq := hq.elim
              obtain ⟨z2, rfl⟩ := Ext.of (below_trans z.below b2)
              clear b2
              rcases hq with ⟨hq, rfl⟩ | ⟨hq, rfl⟩
              · have e1 := Lib.hid (hn.out fun _ => ((hiff.out j).1 hq))
                clear hq
                go_wp2_with fail
                go_roundw
                case rel => exact ⟨j + 1, by omega, by go_num, by rw [e1.out], z2, rfl⟩
                case measure => simp [Go.RowKit.intOf]; omega
              · have e1 := Lib.hid (hy.out hl fun h => hq ((hiff.out j).2 h))
                clear hq
                go_wp2_with fail
                go_roundw
                case rel => exact ⟨j + 1, by omega, by go_num, by rw [e1.out]; go_num, z2, rfl⟩
                case measure => simp [Go.RowKit.intOf]; omega
            · have e1 := Lib.hid (hn.out fun h => absurd h hl)
              go_wp2_with fail
              go_roundw
              case rel => exact ⟨j + 1, by omega, by go_num, by rw [e1.out], z, rfl⟩
              case measure => simp [Go.RowKit.intOf]; omega
          · obtain rfl : j = s.lens.length := by omega
            go_wp2_with fail
            go_roundw
            case rel => exact ⟨k + 1, by omega, by go_num, by rw [hws.out]; go_num, by rw [hn2'.out, hn3]; go_num, z, rfl⟩
            case measure => simp [Go.RowKit.intOf]; omega
    · obtain rfl : k = D.spans.length := by omega
      have h6 := g6.out x
      have h5 := g5.out x
      have h7 := g7.out x
      have h8 := g8.out x
      have hp : D.phase = 0 ∨ D.phase = 1 ∨ D.phase = 2 ∨ D.phase = 3 ∨ D.phase = 4 := by omega
      have bbx := Lib.hid (below_trans bw'.out x.below)
      rcases hp with hp | hp | hp | hp | hp
      · have y := Lib.hid (show LeftIs D (.returned (.int .i64 (leftN D))) from ⟨_, rfl, .inl ⟨hG'.out, rfl⟩⟩)
        have hl := Lib.hid (leftN_0 hp)
        rw [hl.out] at y
        rw [hp] at h6
        clear hp hph0 hph1
        go_wp2_with fail
        go_ret
        exact ⟨y.out, bbx.out⟩
      · have y := Lib.hid (show LeftIs D (.returned (.int .i64 (leftN D))) from ⟨_, rfl, .inl ⟨hG'.out, rfl⟩⟩)
        have hl := Lib.hid (leftN_1 hp)
        rw [hl.out] at y
        rw [hp] at h6
        clear hp hph0 hph1
        go_wp2_with fail
        go_ret
        exact ⟨y.out, bbx.out⟩
      · have y := Lib.hid (show LeftIs D (.returned (.int .i64 (leftN D))) from ⟨_, rfl, .inl ⟨hG'.out, rfl⟩⟩)
        have hl := Lib.hid (leftN_2 hp)
        rw [hl.out] at y
        rw [hp] at h6
        clear hp hph0 hph1
        go_wp2_with fail
        go_ret
        exact ⟨y.out, bbx.out⟩
      · have y := Lib.hid (show LeftIs D (.returned (.int .i64 (leftN D))) from ⟨_, rfl, .inl ⟨hG'.out, rfl⟩⟩)
        have hl := Lib.hid (leftN_3 hp)
        rw [hl.out] at y
        rw [hp] at h6
        clear hp hph0 hph1
        go_wp2_with fail
        go_ret
        exact ⟨y.out, bbx.out⟩
      · have y := Lib.hid (show LeftIs D (.returned (.int .i64 (leftN D))) from ⟨_, rfl, .inl ⟨hG'.out, rfl⟩⟩)
        have hl := Lib.hid (leftN_4 hp)
        rw [hl.out] at y
        rw [hp] at h6
        clear hp hph0 hph1
        go_wp2_with fail
        go_ret
        exact ⟨y.out, bbx.out⟩
end Go.Proofs.YtiokdgceabnkaaaGreat

import Derived.Test.YtdhiablpobnhcaaGreatPkQ
import Derived.Test.YtdhiablpobnhcaaGreatPkSRoots

/-
  The contract of the model's l3pointersOk.
-/
namespace Go.Proofs.YtdhiablpobnhcaaGreat
open Go.RowKit
set_option linter.unusedVariables false

theorem live_roots {D : WD} {L : List Int} (hF : HeapForm D) (h : RootsIs D L) : AllLive D L ↔ ∀ r, r ∈ D.muts → AllLive D r := by
  rcases h with ⟨_, _, hm, _⟩ | ⟨hn, _⟩
  · constructor
    · intro h r hr a ha
      by_cases e : a = 0
      · exact .inl e
      · exact h a ((hm a).2 ⟨e, r, hr, ha⟩)
    · intro h a ha
      obtain ⟨_, r, hr, har⟩ := (hm a).1 ha
      exact h r hr a har
  · exact absurd hF hn

set_option maxRecDepth 100000 in
set_option maxHeartbeats 8000000 in
theorem spointersOk_any (B : Nat) (v : Value) (D : WD) (hF : HeapForm D) (w : World) (hr : RdW w v D) (hB : BoxW w B v) :
    Calls Tryz.prog 65 #[.pointer (some ⟨B, 0, none⟩)] w fun e w' => IsB (Stays D) e ∧ Below w.heap.size w w' := by
  have hr' := Lib.hid hr
  have hB' := Lib.hid hB
  have hF' := Lib.hid hF
  have hroots := Lib.hid (sroots_any B v D hF w hr hB)
  obtain ⟨vw, vd, vs, vm, vg, rfl, a1, a2, a3, a4, a5⟩ := hr
  obtain ⟨cs, he, hh⟩ := hB
  obtain rfl := (Value.agg.inj he).symm
  obtain ⟨aS, cS, rfl, hsl, hx⟩ := a3
  unfold maxLen at hsl
  have hf4 := Lib.hid (fun (w' : World) (hb : Below w.heap.size w w') => cell_below hb (cell_of_heap hh 4 _ rfl))
  have hspl := hF.spans
  have hpl := hF.geo.2.2.2.2.1
  clear a1 a2 a4 a5 hF he hh hx
  go_enter Tryz.func65, Tryz.ntmps65
  go_wp2_with fail
  refine hroots.out.mono ?_
  rintro e w1 ⟨u, L, hL, rfl, hu, b1⟩
  have hall := Lib.hid (sallLive_any B _ D hF'.out u L w1 (hr'.out.below b1) (hB'.out.below b1) (Rd.of_owns hu))
  have hLL := Lib.hid (live_roots hF'.out hL)
  have b1' := Lib.hid b1
  clear hu b1 hL hroots
  go_wp2_with fail
  refine hall.out.mono ?_
  rintro e w2 ⟨hq, b2⟩
  replace hq := hq.elim
  have b2' := Lib.hid (below_trans b1'.out b2)
  clear b2 hall
  rcases hq with ⟨hq, rfl⟩ | ⟨hq, rfl⟩
  case inr =>
    have n := Lib.hid (IsB.no (P := Stays D) fun h => hq (hLL.out.2 h.1))
    clear hq
    go_wp2_with fail
    go_ret
    exact ⟨n.out, b2'.out⟩
  have hrt := Lib.hid (hLL.out.1 hq)
  clear hq
  go_wp2_with fail
  go_loopw [3] (fun k wr => ∃ k' : Nat, k' ≤ D.spans.length ∧ k = .int .i64 k' ∧ Hid (SlotsLive D k' 0) ∧ Hid (Below w.heap.size w wr)) (fun k _ => D.spans.length - (Go.RowKit.intOf k).toNat)
  case atStart => exact ⟨0, Nat.zero_le _, rfl, Lib.hid (SlotsLive.zero D), b2'⟩
  case round =>
    clear b1' b2'
    obtain ⟨k, hk, rfl, hno, hB⟩ := hrel
    have g4 := hf4.out _ hB.out
    by_cases hlt : k < D.spans.length
    · obtain ⟨s, hks⟩ : ∃ s, D.spans[k]? = some s := ⟨_, List.getElem?_eq_getElem hlt⟩
      have hks' := Lib.hid hks
      have hlt1 : (k : Int) < (D.spans.length : Int) := by omega
      obtain ⟨b1, o1, rfl, vl, vp, x0, x1, x2, x3, x4, x5, ⟨al, cl, rfl, hll, _⟩, _⟩ := (hr'.out.below hB.out).parts.2.2.1.at_ k s hks
      unfold maxLen at hll
      have A := Lib.hid (hF'.out.span k s hks)
      have hl16 : s.lens.length ≤ 16 := by have := A.out.lens; have := (sl_bd s.cls).2; omega
      clear hks x0 x1 x2 x3 x5
      go_wp2_with fail
      clear x4 g4
      go_loopw [4] (fun j wj => ∃ j' : Nat, j' ≤ s.lens.length ∧ j = .int .i64 j' ∧ Hid (SlotsLive D k j') ∧ Hid (Below w.heap.size w wj)) (fun j _ => s.lens.length - (Go.RowKit.intOf j).toNat)
      case atStart => exact ⟨0, Nat.zero_le _, rfl, hno, hB⟩
      case round =>
        clear hno hB
        obtain ⟨j, hj, rfl, hnj, hB⟩ := hrel
        have g4 := hf4.out _ hB.out
        obtain ⟨b1', o1', he, vl', vp', x0, x1, x2, x3, x4, x5, ⟨al', cl', rfl, _, xl⟩, _⟩ := (hr'.out.below hB.out).parts.2.2.1.at_ k s hks'.out
        obtain ⟨rfl, rfl⟩ : b1 = b1' ∧ o1 = o1' := by simpa using he
        clear he x0 x1 x2 x3 x5
        by_cases hjl : j < s.lens.length
        · have hj1 : (j : Int) < (s.lens.length : Int) := by omega
          obtain ⟨bl, ol, rfl, xj⟩ := xl j hjl
          clear xl
          have hS := (A.out.slot j hjl)
          have hdm := Lib.hid (sdoomed_any B _ D k j s hks'.out hjl (by omega) _ (hr'.out.below hB.out) (hB'.out.below hB.out))
          have hst := Lib.hid (fun (h : ∀ a, IsObj D a k j → ¬ DoomP D k j → AllLive D (ptrW D s j)) => hnj.out.step hks'.out h)
          have hnn := Lib.hid (show 0 < s.lens[j]?.getD 0 → ¬ DoomP D k j → ¬ AllLive D (ptrW D s j) → ¬ Stays D from fun hl hd ha h => ha (h.2 (D.base + atW s (j : Int)) k j s (.inl hlt) ⟨s, hks'.out, hjl, hl, rfl⟩ hks'.out hd))
          have hobj := Lib.hid (fun (hl : 0 < s.lens[j]?.getD 0) => DoomS.iff (D := D) (k := k) hks'.out hl)
          have hnl := Lib.hid (show ¬ 0 < s.lens[j]?.getD 0 → ∀ a, ¬ IsObj D a k j from fun h a ho => by obtain ⟨t, ht, _, hp, _⟩ := ho; rw [hks'.out] at ht; cases ht; exact h hp)
          have hin := hF'.out.slotIn hks'.out hjl
          have hpt := Lib.hid (fun (w' : World) (hb : Below w.heap.size w w') => sptrs_any B _ D k j s hks'.out hin hS.p0 (by have := hS.p1; have := hS.l1; omega) w' (hr'.out.below hb) (hB'.out.below hb))
          clear hS hin
          generalize hlv : s.lens[j]?.getD 0 = l at *
          by_cases hl : 0 < l
          case neg =>
            have hn := Lib.hid (hst.out fun a ho => absurd ho (hnl.out hl a))
            clear hlv
            go_wp2_with fail
            go_roundw
            case rel => exact ⟨j + 1, by omega, by go_num, hn, hB⟩
            case measure => simp [Go.RowKit.intOf]; omega
          have hobj2 := Lib.hid (hobj.out hl)
          clear hlv
          go_wp2_with fail
          refine hdm.out.mono ?_
          rintro e w3 ⟨hq, b3⟩
          replace hq := hq.elim
          have hB3 := Lib.hid (below_trans hB.out b3)
          clear b3 hdm
          rcases hq with ⟨hq, rfl⟩ | ⟨hq, rfl⟩
          · have hn := Lib.hid (hst.out fun a ho hd => absurd (hobj2.out.1 hq) hd)
            clear hq g4 x4 xj
            go_wp2_with fail
            go_roundw
            case rel => exact ⟨j + 1, by omega, by go_num, hn, hB3⟩
            case measure => simp [Go.RowKit.intOf]; omega
          have hdd := Lib.hid (show ¬ DoomP D k j from fun h => hq (hobj2.out.2 h))
          clear hq g4 x4 xj
          have hpt3 := Lib.hid (hpt.out w3 hB3.out)
          go_wp2_with fail
          refine hpt3.out.mono ?_
          rintro e w4 ⟨u4, rfl, hu4, b4⟩
          have hB4 := Lib.hid (below_trans hB3.out b4)
          have hall := Lib.hid (sallLive_any B _ D hF'.out u4 (nz (ptrW D s j)) w4 (hr'.out.below hB4.out) (hB'.out.below hB4.out) (Rd.of_owns hu4))
          clear hu4 b4 hpt3
          go_wp2_with fail
          refine hall.out.mono ?_
          rintro e w5 ⟨hq, b5⟩
          replace hq := hq.elim
          have hB5 := Lib.hid (below_trans hB4.out b5)
          clear b5 hall
          rcases hq with ⟨hq, rfl⟩ | ⟨hq, rfl⟩
          · have hn := Lib.hid (hst.out fun a ho hd => AllLive.nz.1 hq)
            clear hq
            go_wp2_with fail
            go_roundw
            case rel => exact ⟨j + 1, by omega, by go_num, hn, hB5⟩
            case measure => simp [Go.RowKit.intOf]; omega
          · have n := Lib.hid (IsB.no (hnn.out hl hdd.out fun h => hq (AllLive.nz.2 h)))
            clear hq
            go_wp2_with fail
            go_ret
            exact ⟨n.out, hB5.out⟩
        · obtain rfl : j = s.lens.length := by omega
          have hn := Lib.hid (hnj.out.next hks'.out)
          clear xl
          go_wp2_with fail
          go_roundw
          case rel => exact ⟨k + 1, by omega, by go_num, hn, hB⟩
          case measure => simp [Go.RowKit.intOf]; omega
    · obtain rfl : k = D.spans.length := by omega
      have n := Lib.hid (IsB.yes (P := Stays D) ⟨hrt.out, hno.out⟩)
      go_wp2_with fail
      go_ret
      exact ⟨n.out, hB.out⟩
end Go.Proofs.YtdhiablpobnhcaaGreat

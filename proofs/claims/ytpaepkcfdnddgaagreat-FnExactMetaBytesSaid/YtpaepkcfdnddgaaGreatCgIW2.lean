import Derived.Test.YtpaepkcfdnddgaaGreatCgIW1
import Derived.Test.YtpaepkcfdnddgaaGreatCgSW
import Derived.Laws.EntriesVeiled

namespace Go.Proofs.YtpaepkcfdnddgaaGreat
open Go.RowKit
open Go.Maps (Keyed)
set_option linter.unusedVariables false

theorem ptrIs_len {D : WD} {a : Int} {L : List Int} (hF : HeapForm D) (h : PtrIs D a L) : L.length ≤ 16 := by
  rcases h with ⟨k, j, s, _, ho, hs, rfl⟩ | ⟨_, rfl⟩
  · exact nz_len16 hF ho hs
  · simp
theorem ptrIs_i64 {D : WD} {a : Int} {L : List Int} (hW : AllI D.words) (h : PtrIs D a L) : AllI L := by
  rcases h with ⟨k, j, s, _, ho, hs, rfl⟩ | ⟨_, rfl⟩
  · exact fun x hx => ptrW_i64 hW s j x (nz_mem_iff.1 hx).1
  · exact fun x hx => by simp at hx
/-- Pointers of the objects at L, whatever else stands in L. -/
theorem greyPtrs.any {D : WD} {L fr Z : List Int} {x : Int} (hF : HeapForm D) (h : greyPtrs D L fr) (hp : PtrIs D x Z) : greyPtrs D (L ++ [x]) (fr ++ Z) := by
  rcases hp with ⟨k, j, s, _, ho, hs, rfl⟩ | ⟨hn, rfl⟩
  · exact h.snoc hF ho hs
  · refine ⟨by have := h.1; simp only [List.length_append, List.length_cons, List.length_nil]; omega, fun b hb => ?_, fun b hb => h.2.2 b (by simpa using hb)⟩
    rw [List.append_nil, h.2.1 b hb]
    constructor
    · rintro ⟨a, k, j, s, ha, h1⟩
      exact ⟨a, k, j, s, List.mem_append.2 (.inl ha), h1⟩
    · rintro ⟨a, k, j, s, ha, h1, h2⟩
      rcases List.mem_append.1 ha with ha | ha
      · exact ⟨a, k, j, s, ha, h1, h2⟩
      · rw [List.mem_singleton.1 ha] at h1
        exact absurd h1 (hn hF k j)

set_option maxRecDepth 100000 in
set_option maxHeartbeats 4000000 in
theorem kept_any (B1 B2 V B g n g2 n2 : Nat) (M M2 : DataW Unit) (S : List Int) (v : Value) (D : WD) (hF : HeapForm D) (hM2 : MetIs M2 S) (x : Int) (hx : I64 x) (w : World) (hr : RdW w v D) (hB : BoxW w B v) (hv : ViewIs D w V B g n M) (hO : OwnB w g2 n2 M2)
    (h1 : w.cell? ⟨B1, 0, none⟩ = some (.map (some g2))) (h2 : w.cell? ⟨B2, 0, none⟩ = some (.pointer (some ⟨V, 0, none⟩))) :
    Calls Tryz.prog 161 #[.int .i64 x, .pointer (some ⟨B1, 0, none⟩), .pointer (some ⟨B2, 0, none⟩)] w fun e w' => IsB (x ∈ S ∨ MarkedObj D x) e ∧ Below w.heap.size w w' := by
  have hkey := Lib.hid (key_i64 hx)
  have hmk := Lib.hid (vmarked_any V B g n M v D hF x hx w hr hB hv)
  by_cases hxS : x ∈ S
  · have hlk := look_met hO hkey.out (show M2.atKey (.int .i64 x) (flag false) = flag true by rw [hM2.look x]; simp [hxS])
    have y := Lib.hid (IsB.yes (show x ∈ S ∨ MarkedObj D x from .inl hxS))
    clear hr hB hv hO hxS hx
    go_enter Tryz.func161, Tryz.ntmps161
    go_wp2_with fail
    go_ret
    exact ⟨y.out, Below.refl _ _⟩
  · have hlk := look_met hO hkey.out (show M2.atKey (.int .i64 x) (flag false) = flag false by rw [hM2.look x]; simp [hxS])
    have hiff := Lib.hid (show (x ∈ S ∨ MarkedObj D x) ↔ MarkedObj D x from ⟨fun h => h.elim (fun h => absurd h hxS) id, .inr⟩)
    clear hr hB hv hO hxS hx
    go_enter Tryz.func161, Tryz.ntmps161
    go_wp2_with fail
    refine hmk.out.mono ?_
    rintro e w1 ⟨⟨r, rfl, hrr⟩, b1⟩
    have y := Lib.hid (show IsB (x ∈ S ∨ MarkedObj D x) (.returned (.bool r)) from ⟨r, rfl, hrr.trans hiff.out.symm⟩)
    have b1' := Lib.hid b1
    clear hrr b1 hmk hlk
    go_wp2_with fail
    go_ret
    exact ⟨y.out, b1'.out⟩

set_option maxRecDepth 100000 in
set_option maxHeartbeats 8000000 in
theorem pKept (V B g n : Nat) (M : DataW Unit) (v : Value) (D : WD) (hF : HeapForm D) (hW : AllI D.words) (hG : AllI D.grey) (hgl : D.grey.length ≤ 384) (hM : ∀ r, r ∈ D.muts → AllI r) (hcap : CapW v) (w : World) (hr : RdW w v D) (hB : BoxW w B v) (hv : ViewIs D w V B g n M) :
    Calls Tryz.prog 137 #[.pointer (some ⟨V, 0, none⟩)] w fun e w' => IsB (MutsKept D D.muts.length ∧ SlotsKept D D.spans.length 0) e ∧ Below w.heap.size w w' := by
  have hr' := Lib.hid hr
  have hB' := Lib.hid hB
  have hF' := Lib.hid hF
  have hW' := Lib.hid hW
  have hG' := Lib.hid hG
  have hM' := Lib.hid hM
  have hcap' := Lib.hid hcap
  have hv' := Lib.hid hv
  have hC0 := Lib.hid (fun (w' : World) (hb : Below w.heap.size w w') => cell_below hb (cell_of_heap hv.box 0 (.pointer (some ⟨B, 0, none⟩)) rfl))
  have hC1 := Lib.hid (fun (w' : World) (hb : Below w.heap.size w w') => cell_below hb (cell_of_heap hv.box 1 (.map (some g)) rfl))
  obtain ⟨bw, ow, cW, hv3⟩ := words_some hr (by have := hF.words; have := hF.geo.2.2.2.1; omega)
  have hv3 := Lib.hid hv3
  obtain ⟨vw, vd, vs, vm, vg, rfl, a1, a2, a3, a4, a5⟩ := hr
  obtain ⟨aM, cM, rfl, hml, hxm⟩ := a4
  obtain ⟨ag, cg, rfl, hgm, xg⟩ := a5
  have hxm' := Lib.hid hxm
  have xg' := Lib.hid xg
  unfold maxLen at hml
  have G5 := Lib.hid (fun (w' : World) (hb : Below w.heap.size w w') => cell_below hb (hB.cell 5 (.slice aM D.muts.length cM) rfl))
  have G8 := Lib.hid (fun (w' : World) (hb : Below w.heap.size w w') => cell_below hb (hB.cell 8 (.slice ag D.grey.length cg) rfl))
  have hmu := hF.geo.2.2.2.2.2.2
  have hmf : ∀ (fn : Fn) (first cap : Array Value) (w : World), (Instr.makeFunc fn first cap).run Tryz.prog w = .ok (.func fn first cap) w := fun _ _ _ _ => rfl
  have bb := Lib.hid (below_box w (.cells #[.pointer (some ⟨V, 0, none⟩)] 116))
  have bx := Lib.hid (box_new w (.cells #[.pointer (some ⟨V, 0, none⟩)] 116))
  have hV0 := Lib.hid (fun (w' : World) (hb : Below (w.alloc (.cells #[.pointer (some ⟨V, 0, none⟩)] 116)).heap.size (w.alloc (.cells #[.pointer (some ⟨V, 0, none⟩)] 116)) w') => cell_below hb (cell_of_heap bx.out 0 (.pointer (some ⟨V, 0, none⟩)) rfl))
  have v0 := hV0.out _ (Below.refl _ _)
  have c0 := hC0.out _ bb.out
  have g8 := G8.out _ bb.out
  clear a1 a2 a3 hB hF hW hG hM hcap hv hxm xg hgm bx
  go_enter Tryz.func137, Tryz.ntmps137
  go_upto_region 1 with fail
  generalize hWW : w.alloc (.cells #[.pointer (some ⟨V, 0, none⟩)] 116) = W0 at *
  clear hWW
  have hz0 := Lib.hid bb.out.size
  go_wp2_with fail
  clear v0 c0 g8
  go_loopw [3, 20] (fun u i wr => ∃ (m : Nat) (fr : List Int), m ≤ D.grey.length ∧ i = .int .i64 m ∧ Hid (greyPtrs D (D.grey.take m) fr) ∧ Hid (AllI fr) ∧ Hid (wr.ownsRow W0.heap.size 3 1 u fr.length (fr.map (Value.int .i64))) ∧ Hid (Below W0.heap.size W0 wr)) (fun _ i _ => D.grey.length - (Go.RowKit.intOf i).toNat)
  case atStart => exact ⟨0, [], Nat.zero_le _, rfl, Lib.hid (by simpa using greyPtrs.nil D), Lib.hid (fun x hx => by simp at hx), Lib.hid (World.ownsRow_nil _ _ _ _), Lib.hid (Below.refl _ _)⟩
  case round =>
    obtain ⟨m, fr, hm, rfl, hfr, hfi, hown, hb⟩ := hrel
    have v0 := hV0.out _ hb.out
    have hfl := hfr.out.1
    rw [List.length_take] at hfl
    obtain ⟨au, cu, hu⟩ := own_slice hown.out
    subst hu
    by_cases hlt : m < D.grey.length
    · have hlt1 : (m : Int) < (D.grey.length : Int) := by omega
      obtain ⟨bg, og, rfl, x0⟩ := xg'.out m hlt
      have x1 := cell_below (below_trans bb.out hb.out) x0
      have hx64 := hG'.out (D.grey[m]?.getD 0) (by rw [List.getElem?_eq_getElem hlt]; exact List.getElem_mem hlt)
      have ht1 := Lib.hid (take_one hlt)
      clear x0
      generalize D.grey[m]?.getD 0 = x at *
      have hbw := Lib.hid (below_trans bb.out hb.out)
      have hpt := Lib.hid (vpointers_any V B g n M _ D hF'.out x hx64 hcap'.out _ (hr'.out.below hbw.out) (hB'.out.below hbw.out) (hv'.out.below hbw.out))
      clear hx64
      go_wp2_with (first
        | (go_at_call 157; refine hpt.out.mono ?_; rintro e w5 ⟨Z, u4, hZ, rfl, h4, b5⟩; obtain ⟨a4, c4, hu4⟩ := own_slice h4; subst hu4; have own5 := Lib.hid (own_below hown.out b5); have src5 := Lib.hid (Rd.src (Rd.of_owns h4)); have hb5 := Lib.hid (below_trans hb.out b5); have hZ' := Lib.hid hZ; have hZl := ptrIs_len hF'.out hZ; clear h4 b5 hZ)
        | (at_builtin; refine wpList_app rfl (.tmp 24) (.tmp 27) 22 rfl W0.heap.size 3 (.int .i64 0) 1 8 Tryz.underlying22 infoInt rfl (by decide) _ fr.length _ rfl own5.out a4 Z.length c4 (Z.map (Value.int .i64)) rfl src5.out (by unfold maxLen; omega) (by omega) hb5.out.size ?_; intro v6 w6 o6 g6))
      have hb6 := Lib.hid (row_below hb5.out own5.out g6 hb5.out.size)
      have o6' := Lib.hid (show w6.ownsRow W0.heap.size 3 1 v6 (fr ++ Z).length ((fr ++ Z).map (Value.int .i64)) by simpa using o6)
      have hnx := Lib.hid (show greyPtrs D (D.grey.take (m + 1)) (fr ++ Z) by rw [ht1.out]; exact hfr.out.any hF'.out hZ'.out)
      have hni := Lib.hid (show AllI (fr ++ Z) from fun y hy => (List.mem_append.1 hy).elim (hfi.out y) (ptrIs_i64 hW'.out hZ'.out y))
      clear o6 g6 v0 x1
      go_wp2_with fail
      go_roundw
      case rel => exact ⟨m + 1, fr ++ Z, by omega, by go_num, hnx, hni, o6', hb6⟩
      case measure => simp [Go.RowKit.intOf]; omega
    obtain rfl : m = D.grey.length := by omega
    have hfr2 := Lib.hid (show greyPtrs D D.grey fr by simpa using hfr.out)
    have hfl2 : fr.length ≤ 1048576 := by omega
    have hbw := Lib.hid (below_trans bb.out hb.out)
    have hsp := Lib.hid (spreadB_any V B g n M _ D hF'.out hW'.out hcap'.out au cu fr hfi.out hfl2 w.heap.size _ (hr'.out.below hbw.out) (hB'.out.below hbw.out) (hv'.out.below hbw.out) (Rd.of_owns hown.out) v0)
    clear hfr hlt hm hfl
    go_wp2_with fail
    refine hsp.out.mono ?_
    rintro e w3 ⟨g', S, hS, rfl, hMM, hg', b3⟩
    obtain ⟨M2, hM2, hO2⟩ := hMM.out
    have hM2' := Lib.hid hM2
    have hKS := Lib.hid (show ∀ a, (a ∈ S ∨ MarkedObj D a) ↔ (Coming D a ∨ MarkedObj D a) from fun a => by rw [hS.out.2 a, Coming.of_led hfr2.out.2.1 a])
    have hb3 := Lib.hid (below_trans hb.out b3)
    have b4 := Lib.hid (below_box w3 (.cells #[.map (some g')] 157))
    have bx4 := Lib.hid (box_new w3 (.cells #[.map (some g')] 157))
    have hO4 := Lib.hid (hO2.below b4.out)
    have hb4 := Lib.hid (below_trans hb3.out b4.out)
    have v4 := hV0.out _ hb4.out
    have c4 := hC0.out _ (below_trans bb.out hb4.out)
    have g54 := G5.out _ (below_trans bb.out hb4.out)
    clear hM2 hO2 hMM hS b3 hsp v0 hown hb hbw
    go_upto_region 9 with fail
    generalize hB1 : w3.heap.size = B1 at *
    generalize hWW : w3.alloc (.cells #[.map (some g')] 157) = W3 at *
    have hB1c := Lib.hid (fun (w' : World) (hb : Below W3.heap.size W3 w') => cell_below hb (cell_of_heap bx4.out 0 (.map (some g')) rfl))
    clear hWW hB1 b4 bx4
    have hkc := Lib.hid (fun (x : Int) (w' : World) (hx : I64 x) (hb : Below W3.heap.size W3 w') => kept_any B1 w.heap.size V B g n g' S.length M M2 S _ D hF'.out hM2'.out x hx w' (hr'.out.below (below_trans bb.out (below_trans hb4.out hb))) (hB'.out.below (below_trans bb.out (below_trans hb4.out hb))) (hv'.out.below (below_trans bb.out (below_trans hb4.out hb))) (hO4.out.below hb) (hB1c.out _ hb) (hV0.out _ (below_trans hb4.out hb)))
    have hall := Lib.hid (show ∀ L, ZeroOr (fun a => a ∈ S ∨ MarkedObj D a) L ↔ AllKept D L from fun L => ⟨fun h a ha => (h a ha).imp id (hKS.out a).1, fun h a ha => (h a ha).imp id (hKS.out a).2⟩)
    have hbW := Lib.hid (show ∀ w', Below W3.heap.size W3 w' → Below w.heap.size w w' from fun w' hb => below_trans bb.out (below_trans hb4.out hb))
    have hbV := Lib.hid (show ∀ w', Below W3.heap.size W3 w' → Below W0.heap.size W0 w' from fun w' hb => below_trans hb4.out hb)
    go_wp2_with fail
    clear v4 c4 g54
    go_loopw [43] (fun i wr => ∃ m : Nat, m ≤ D.muts.length ∧ i = .int .i64 m ∧ Hid (MutsKept D m) ∧ Hid (Below W3.heap.size W3 wr)) (fun i _ => D.muts.length - (Go.RowKit.intOf i).toNat)
    case atStart => exact ⟨0, Nat.zero_le _, rfl, Lib.hid (fun q r h => absurd h (by omega)), Lib.hid (Below.refl _ _)⟩
    case round =>
      obtain ⟨m, hm, rfl, hok, hb⟩ := hrel
      have v0 := hV0.out _ (hbV.out _ hb.out)
      have c0 := hC0.out _ (hbW.out _ hb.out)
      have g5 := G5.out _ (hbW.out _ hb.out)
      by_cases hlt : m < D.muts.length
      · have hlt1 : (m : Int) < (D.muts.length : Int) := by omega
        obtain ⟨r, hmr⟩ : ∃ r, D.muts[m]? = some r := ⟨_, List.getElem?_eq_getElem hlt⟩
        obtain ⟨bM, oM, vr, rfl, xm0, hrd⟩ := hxm'.out m r hmr
        obtain ⟨ar, cr, rfl, hrl, xr⟩ := id hrd
        have xm := cell_below (hbW.out _ hb.out) xm0
        have hseen := Lib.hid (hasSeen_any B _ D (m : Int) _ (hr'.out.below (hbW.out _ hb.out)) (hB'.out.below (hbW.out _ hb.out)))
        have hz := Lib.hid (zeroOrK_any B1 w.heap.size (fun a => a ∈ S ∨ MarkedObj D a) _ r (hM'.out r (List.mem_of_getElem? hmr)) _ (hrd.below (hbW.out _ hb.out)) (fun x w' hx hb2 => hkc.out x w' hx (below_trans hb.out hb2)))
        have hyes := Lib.hid (show (SeenP D m → AllKept D r) → MutsKept D (m + 1) from fun h q r2 hq hr2 hs => if e : q = m then by subst e; rw [hmr] at hr2; cases hr2; exact h hs else hok.out q r2 (by omega) hr2 hs)
        have hnot := Lib.hid (show SeenP D m → ¬ AllKept D r → ¬ (MutsKept D D.muts.length ∧ SlotsKept D D.spans.length 0) from fun hs h h2 => h (h2.1 m r hlt hmr hs))
        clear xm0 hrd xr hmr hrl
        go_wp2_with fail
        refine hseen.out.mono ?_
        rintro e w2 ⟨hq, rfl⟩
        replace hq := hq.elim
        clear hseen
        rcases hq with ⟨hq, rfl⟩ | ⟨hq, rfl⟩
        case inr =>
          have hn := Lib.hid (hyes.out fun h => absurd h hq)
          clear hq
          go_wp2_with fail
          go_roundw
          case rel => exact ⟨m + 1, by omega, by go_num, hn, hb⟩
          case measure => simp [Go.RowKit.intOf]; omega
        have hs := Lib.hid hq
        clear hq
        go_wp2_with fail
        refine hz.out.mono ?_
        rintro e w4 ⟨hq, b5⟩
        replace hq := hq.elim
        have hb5 := Lib.hid (below_trans hb.out b5)
        clear b5 hz v0 c0 g5 xm
        rcases hq with ⟨hq, rfl⟩ | ⟨hq, rfl⟩
        · have hn := Lib.hid (hyes.out fun _ => (hall.out r).1 hq)
          clear hq
          go_wp2_with fail
          go_roundw
          case rel => exact ⟨m + 1, by omega, by go_num, hn, hb5⟩
          case measure => simp [Go.RowKit.intOf]; omega
        · have y := Lib.hid (IsB.no (hnot.out hs.out fun h => hq ((hall.out r).2 h)))
          clear hq
          go_wp2_with fail
          go_ret
          exact ⟨y.out, hbW.out _ hb5.out⟩
      obtain rfl : m = D.muts.length := by omega
      have hroots := Lib.hid hok.out
      have c1 := hC1.out _ (hbW.out _ hb.out)
      have hOw := Lib.hid ((hv'.out.below (hbW.out _ hb.out)).own)
      clear hok
      go_wp2_with (at_range; refine wpList_range_own _ rfl _ 142 rfl 3 126 mapLaw Tryz.underlying142 placeElem g n M rfl hOw.out ?_; intro w0 hrg0 hg0 hs0)
      have hb0 := Lib.hid (hb.out.grown hg0 hb.out.size (fun q hq => by cases hq))
      have hrs := Lib.hid (show W3.heap.size ≤ wr.heap.size from hb.out.size)
      have hrg := Lib.hid hrg0
      clear c0 c1 g5 v0 hg0 hs0 hrg0 hb hOw
      generalize wr.heap.size = R at *
      go_frame
      go_loopw [10] (fun _ wj => ∃ left cnt, Hid (wj.ranges Tryz.prog 3 placeElem g R n M left cnt) ∧ Hid (Came D M left fun a k j s => MarkedP D k j → AllKept D (ptrW D s j)) ∧ Hid (Below W3.heap.size W3 wj)) (fun _ wj => wj.rangeLeft g R)
      case atStart => exact ⟨_, _, hrg, Lib.hid (Came.start _ _ _), hb0⟩
      case round =>
        clear hrg hb0
        obtain ⟨left, cnt, hrg, hcame, hb⟩ := hrel
        go_wp2_with (at_next; refine next_place _ rfl _ rfl g _ n M left cnt rfl hrg.out ?_ ?_)
        · intro hc0 hl0
          have y := Lib.hid (IsB.yes (P := MutsKept D D.muts.length ∧ SlotsKept D D.spans.length 0) ⟨hroots.out, hcame.out.done hl0 hv'.out.is⟩)
          clear hc0 hl0
          go_wp2_with fail
          go_ret
          exact ⟨y.out, hbW.out _ hb.out⟩
        · intro x c d w1 cnt1 hx64 hlx hat hrg1 hlt1 hg1 hs1 hen
          obtain ⟨k, j, hah, ho⟩ := (hv'.out.is.has x).1 (Maps.has_true_of_atKey hat)
          obtain ⟨rfl, rfl⟩ := dat_inj ((hat (dat 0 0)).symm.trans (hv'.out.is.is x k j (dat 0 0) hah ho))
          obtain ⟨s, hks, hin, p0, p1⟩ := obj_slot hF'.out ho
          have hrgO := Lib.hid hrg.out
          have hb1 := Lib.hid (hb.out.grown hg1 hb.out.size (fun q hq => by cases hq; exact hrs.out))
          obtain ⟨dm, hdm⟩ := flag_of (MarkedP D k j)
          obtain ⟨z, hz⟩ := flag_of (AllKept D (ptrW D s j))
          have hdmc := Lib.hid (fun (w' : World) (hb : Below w.heap.size w w') => (imarked_any B _ D k j s hks (SlotIn.mk16 hF'.out hks hin.j) w' (hr'.out.below hb) (hB'.out.below hb)).mono fun e w'' ⟨h1, h2⟩ => (⟨h1.at_ dm hdm, h2⟩ : e = Ending.returned (.bool dm) ∧ Below w'.heap.size w' w''))
          have hpw := Lib.hid (fun (w' : World) (hb : Below w.heap.size w w') => pointerWords_at bw ow cW B _ D k j s hks hin p0 p1 hcap'.out hv3.out w' (hr'.out.below hb) (hB'.out.below hb))
          have hprd := Lib.hid (fun (w' : World) (hb : Below w.heap.size w w') => ptrs_rd (k := k) hin p0 p1 hv3.out (hr'.out.below hb))
          have hzc := Lib.hid (fun (w' : World) (hb : Below W3.heap.size W3 w') => (zeroOrK_any B1 w.heap.size (fun a => a ∈ S ∨ MarkedObj D a) _ (ptrW D s j) (ptrW_i64 hW'.out s j) w' (hprd.out w' (hbW.out _ hb)) (fun x w'' hx hb2 => hkc.out x w'' hx (below_trans hb hb2))).mono fun e w'' ⟨h1, h2⟩ => (⟨h1.at_ z (hz.trans (hall.out _).symm), h2⟩ : e = Ending.returned (.bool z) ∧ Below w'.heap.size w' w''))
          have hstep := Lib.hid (show (dm = false ∨ z = true) → Came D M (fun z => left z && !z.sameKey (.int .i64 x)) (fun a k j s => MarkedP D k j → AllKept D (ptrW D s j)) from fun h => hcame.out.step hF'.out ho hks (fun hd => h.elim (fun h => by have := hdm.2 hd; rw [h] at this; cases this) hz.1))
          have hnot := Lib.hid (show dm = true → z = false → ¬ (MutsKept D D.muts.length ∧ SlotsKept D D.spans.length 0) from fun h1 h2 h => by
            have := hz.2 (h.2 x k j s hah ho hks (hdm.1 h1))
            rw [h2] at this
            cases this)
          have bbp := Lib.hid (below_box w1 (.cells #[.int .i64 k, .int .i64 j] 126))
          have bxp := Lib.hid (box_new w1 (.cells #[.int .i64 k, .int .i64 j] 126))
          have hbX := Lib.hid (below_trans hb1.out bbp.out)
          have hrgW := Lib.hid (hrg1.alloc (.cells #[.int .i64 k, .int .i64 j] 126))
          have hmeas : ∀ (w' : World), (∃ l, w'.ranges Tryz.prog 3 placeElem g R n M l cnt1) → w'.rangeLeft g R < wr.rangeLeft g R := by
            rintro w' ⟨l, h⟩
            have e1 := h.left_eq
            have e2 := hrgO.out.left_eq
            omega
          have hmeas := Lib.hid hmeas
          clear hat hrg1 hlt1 hg1 hs1 hlx ho hah hks hin p0 p1 hdm hz hrg hcame hb hrgO
          go_upto_region 18 with fail
          clear hen
          have c0 := hC0.out _ (hbW.out _ hbX.out)
          have v0 := hV0.out _ (hbV.out _ hbX.out)
          have q0 := cell_of_heap bxp.out 0 (.int .i64 k) rfl
          have q1 := cell_of_heap bxp.out 1 (.int .i64 j) rfl
          clear bxp
          generalize w1.alloc (.cells #[.int .i64 k, .int .i64 j] 126) = W1 at *
          have C0 := Ext.cell c0
          have V0 := Ext.cell v0
          have Q0 := Ext.cell q0
          have Q1 := Ext.cell q1
          clear c0 q0 q1 v0
          generalize (ptrW D s j).length = np at *
          cases dm
          case false =>
            refine wp_region_ext (Below.refl _ _) (by kernel_rfl) (by kernel_rfl) ?_
            repeat (go_big_quiet_step ((go_at_call 160; exact Ext.call (hdmc.out _ (hbW.out _ (below_trans hbX.out (Ext.below _)))))))
            refine wpQuiet_nil ?_
            intro _ hw'
            obtain ⟨x9, hw''⟩ := hw'
            subst hw''
            have hrg4 := Lib.hid (hrgW.out.kept (grown_of_below x9.below) (by simp) (by simp))
            have hb4x := Lib.hid (below_trans hbX.out x9.below)
            have hn := Lib.hid (hstep.out (.inl rfl))
            go_wp2_with fail
            go_roundw
            case rel => exact ⟨_, _, hrg4, hn, hb4x⟩
            case measure => exact hmeas.out _ ⟨_, hrg4.out⟩
          case true =>
            refine wp_region_ext (Below.refl _ _) (by kernel_rfl) (by kernel_rfl) ?_
            repeat (go_big_quiet_step ((first | (go_at_call 160; exact Ext.call (hdmc.out _ (hbW.out _ (below_trans hbX.out (Ext.below _))))) | (go_at_call 106; exact Ext.call (hpw.out _ (hbW.out _ (below_trans hbX.out (Ext.below _))))) | (go_at_call 151; exact Ext.call (hzc.out _ (below_trans hbX.out (Ext.below _)))))))
            refine wpQuiet_nil ?_
            intro _ hw'
            obtain ⟨x9, hw''⟩ := hw'
            subst hw''
            have hrg6 := Lib.hid (hrgW.out.kept (grown_of_below x9.below) (by simp) (by simp))
            have hb6 := Lib.hid (below_trans hbX.out x9.below)
            cases z
            · have y := Lib.hid (IsB.no (hnot.out rfl rfl))
              go_wp2_with fail
              go_ret
              exact ⟨y.out, hbW.out _ hb6.out⟩
            · have hn := Lib.hid (hstep.out (.inr rfl))
              go_wp2_with fail
              go_roundw
              case rel => exact ⟨_, _, hrg6, hn, hb6⟩
              case measure => exact hmeas.out _ ⟨_, hrg6.out⟩
end Go.Proofs.YtpaepkcfdnddgaaGreat

namespace Go.Proofs.YtpaepkcfdnddgaaGreat
open Go.RowKit
open Go.Maps (Keyed)
set_option linter.unusedVariables false

def partLo : Nat → Int | 0 => 0 | 1 => 1 | 2 => 0 | 3 => 3 | 4 => 0 | 5 => 0 | 6 => 0 | 7 => 4 | _ => 1
def partHi : Nat → Int | 0 => 4 | 1 => 2 | 2 => 0 | 3 => 4 | 4 => 4 | 5 => 3 | 6 => 0 | 7 => 4 | _ => 3
def partP (D : WD) : Nat → Prop
  | 0 => Stays D
  | 1 => GreyMarked D D.grey
  | 2 => D.grey = []
  | 3 => D.grey = []
  | 4 => (D.phase = 1 → 0 ≤ D.next ∧ D.next ≤ (D.muts.length : Int)) ∧ (D.phase ≠ 1 → D.next = 0)
  | 5 => ¬ ∃ s, s ∈ D.spans ∧ (s.swept = true)
  | 6 => ¬ ∃ s, s ∈ D.spans ∧ (s.mark ≠ 0)
  | 7 => ¬ ∃ s, s ∈ D.spans ∧ (s.swept = true ∧ s.mark ≠ 0)
  | _ => MutsKept D D.muts.length ∧ SlotsKept D D.spans.length 0
/-- The first i parts hold, where they are asked. -/
def PartsOk (D : WD) (i : Nat) : Prop := ∀ q, q < i → partLo q ≤ D.phase → D.phase ≤ partHi q → partP D q
theorem PartsOk.step {D : WD} {i : Nat} (h : PartsOk D i) (h1 : partLo i ≤ D.phase → D.phase ≤ partHi i → partP D i) : PartsOk D (i + 1) := fun q hq => if e : q = i then by subst e; exact h1 else h q (by omega)
theorem parts_grey' {D : WD} (h : PartsOk D 4) (h0 : 0 ≤ D.phase) (h4 : D.phase ≤ 4) : GreyRight D := by
  by_cases e : D.phase = 1 ∨ D.phase = 2
  · exact ⟨fun _ => e, h 1 (by omega) (by show (1 : Int) ≤ _; omega) (by show _ ≤ (2 : Int); omega)⟩
  · have hz : D.grey = [] := by
      by_cases e0 : D.phase = 0
      · exact h 2 (by omega) (by show (0 : Int) ≤ _; omega) (by show _ ≤ (0 : Int); omega)
      · exact h 3 (by omega) (by show (3 : Int) ≤ _; omega) (by show _ ≤ (4 : Int); omega)
    exact ⟨fun hn => absurd hz hn, by rw [hz]; exact GreyMarked.nil D⟩
theorem parts_grey {D : WD} (hF : HeapForm D) (h : PartsOk D 8) (hp : 0 ≤ D.phase ∧ D.phase ≤ 4) : D.grey.length ≤ 384 := by
  have hg := (parts_grey' (fun q hq => h q (by omega)) hp.1 hp.2).2
  exact nodup_range (lo := D.base) hg.1 fun a ha => obj_range hF (hg.obj a ha)
theorem parts_right {D : WD} (hF : HeapForm D) (h : PartsOk D 9) : Right D := by
  have h0 := hF.ph0
  have h4 := hF.ph1
  have hn := h 4 (by omega) (show (0 : Int) ≤ _ by omega) (show _ ≤ (4 : Int) by omega)
  refine ⟨hF, ⟨parts_grey' (fun q hq => h q (by omega)) h0 h4, ?_, fun s hs => ⟨fun hsw => ?_, fun hm => ⟨fun e => ?_, ?_⟩⟩⟩, h 0 (by omega) (show (0 : Int) ≤ _ by omega) (show _ ≤ (4 : Int) by omega), fun e0 e4 => h 8 (by omega) (show (1 : Int) ≤ _ by omega) (show _ ≤ (3 : Int) by omega)⟩
  · by_cases e : D.phase = 1
    · exact ⟨(hn.1 e).1, (hn.1 e).2, fun _ => e⟩
    · have := hn.2 e
      exact ⟨by omega, by omega, fun h => by omega⟩
  · apply Classical.byContradiction
    intro e
    exact h 5 (by omega) (show (0 : Int) ≤ _ by omega) (show _ ≤ (3 : Int) by omega) ⟨s, hs, hsw⟩
  · exact h 6 (by omega) (show (0 : Int) ≤ _ by omega) (show _ ≤ (0 : Int) by omega) ⟨s, hs, hm⟩
  · cases hsw : s.swept
    · rfl
    · exfalso
      by_cases e : D.phase = 4
      · exact h 7 (by omega) (show (4 : Int) ≤ _ by omega) (show _ ≤ (4 : Int) by omega) ⟨s, hs, hsw, hm⟩
      · exact h 5 (by omega) (show (0 : Int) ≤ _ by omega) (show _ ≤ (3 : Int) by omega) ⟨s, hs, hsw⟩
theorem right_part {D : WD} (h : Right D) {q : Nat} (hl : partLo q ≤ D.phase) (hh : D.phase ≤ partHi q) : partP D q := by
  obtain ⟨hF, ⟨⟨g1, g2⟩, ⟨n1, n2, n3⟩, hs⟩, hS, hK⟩ := h
  match q with
  | 0 => exact hS
  | 1 => exact g2
  | 2 => exact Classical.byContradiction fun h => by have h1 : D.phase ≤ 0 := hh; have := g1 h; omega
  | 3 => exact Classical.byContradiction fun h => by have h1 : 3 ≤ D.phase := hl; have := g1 h; omega
  | 4 => exact ⟨fun _ => ⟨n1, n2⟩, fun h => by
      by_cases e : 0 < D.next
      · exact absurd (n3 e) h
      · omega⟩
  | 5 => exact fun ⟨s, hm, hsw⟩ => by have h1 : D.phase ≤ 3 := hh; have := (hs s hm).1 hsw; omega
  | 6 => exact fun ⟨s, hm, hmk⟩ => by have h1 : D.phase ≤ 0 := hh; have h2 : 0 ≤ D.phase := hl; have := ((hs s hm).2 hmk).1; omega
  | 7 => exact fun ⟨s, hm, hsw, hmk⟩ => by have := ((hs s hm).2 hmk).2; rw [hsw] at this; cases this
  | q + 8 => exact hK (by have h1 : 1 ≤ D.phase := hl; omega) (by have h1 : D.phase ≤ 3 := hh; omega)

theorem parts_any (w : World) : Calls Tryz.prog 99 #[] w fun e w' => ∃ P, e = .returned (.slice (some ⟨P, 0, none⟩) 9 9) ∧ w'.heap[P]? = some (.cells #[.int .i64 0, .int .i64 4, .func (.func 130) #[] #[], .int .i64 1, .int .i64 2, .func (.func 131) #[] #[], .int .i64 0, .int .i64 0, .func (.func 132) #[] #[], .int .i64 3, .int .i64 4, .func (.func 132) #[] #[], .int .i64 0, .int .i64 4, .func (.func 133) #[] #[], .int .i64 0, .int .i64 3, .func (.func 134) #[] #[], .int .i64 0, .int .i64 0, .func (.func 135) #[] #[], .int .i64 4, .int .i64 4, .func (.func 136) #[] #[], .int .i64 1, .int .i64 3, .func (.func 137) #[] #[]] 122 (0, 0)) ∧ Below w.heap.size w w' := by
  have bx := box_new w (.cells #[.int .i64 0, .int .i64 4, .func (.func 130) #[] #[], .int .i64 1, .int .i64 2, .func (.func 131) #[] #[], .int .i64 0, .int .i64 0, .func (.func 132) #[] #[], .int .i64 3, .int .i64 4, .func (.func 132) #[] #[], .int .i64 0, .int .i64 4, .func (.func 133) #[] #[], .int .i64 0, .int .i64 3, .func (.func 134) #[] #[], .int .i64 0, .int .i64 0, .func (.func 135) #[] #[], .int .i64 4, .int .i64 4, .func (.func 136) #[] #[], .int .i64 1, .int .i64 3, .func (.func 137) #[] #[]] 122)
  have bb := Lib.hid (below_box w (.cells #[.int .i64 0, .int .i64 4, .func (.func 130) #[] #[], .int .i64 1, .int .i64 2, .func (.func 131) #[] #[], .int .i64 0, .int .i64 0, .func (.func 132) #[] #[], .int .i64 3, .int .i64 4, .func (.func 132) #[] #[], .int .i64 0, .int .i64 4, .func (.func 133) #[] #[], .int .i64 0, .int .i64 3, .func (.func 134) #[] #[], .int .i64 0, .int .i64 0, .func (.func 135) #[] #[], .int .i64 4, .int .i64 4, .func (.func 136) #[] #[], .int .i64 1, .int .i64 3, .func (.func 137) #[] #[]] 122))
  have bx' := Lib.hid bx
  clear bx
  go_enter Tryz.func99, Tryz.ntmps99
  go_wp2_with fail
  go_ret
  exact ⟨_, rfl, bx'.out, bb.out⟩

set_option maxRecDepth 100000 in
set_option maxHeartbeats 16000000 in
theorem iworldOk_any (v : Value) (D : WD) (hfit : FitD D) (hcap : CapW v) (w : World) (hr : RdW w v D) :
    Calls Tryz.prog 53 #[v] w fun e w' => IsB (Right D) e ∧ Below w.heap.size w w' := by
  have hfit := Lib.hid hfit
  have hcap' := Lib.hid hcap
  clear hcap
  obtain ⟨vw, vd, vs, vm, vg, rfl, a1, a2, a3, a4, a5⟩ := hr
  have bx := box_new w (.cells #[.int .i64 D.base, .int .i64 D.pages, vw, vd, vs, vm, .int .i64 D.phase, .int .i64 D.next, vg] 36)
  have bw := below_box w (.cells #[.int .i64 D.base, .int .i64 D.pages, vw, vd, vs, vm, .int .i64 D.phase, .int .i64 D.next, vg] 36)
  have hW := Lib.hid (show RdW (w.alloc (.cells #[.int .i64 D.base, .int .i64 D.pages, vw, vd, vs, vm, .int .i64 D.phase, .int .i64 D.next, vg] 36)) (.agg #[.int .i64 D.base, .int .i64 D.pages, vw, vd, vs, vm, .int .i64 D.phase, .int .i64 D.next, vg]) D from ⟨vw, vd, vs, vm, vg, rfl, a1.below bw, a2.below bw, a3.below bw, a4.below bw, a5.below bw⟩)
  have hBx := Lib.hid (show BoxW (w.alloc (.cells #[.int .i64 D.base, .int .i64 D.pages, vw, vd, vs, vm, .int .i64 D.phase, .int .i64 D.next, vg] 36)) w.heap.size (.agg #[.int .i64 D.base, .int .i64 D.pages, vw, vd, vs, vm, .int .i64 D.phase, .int .i64 D.next, vg]) from ⟨_, rfl, bx⟩)
  have bw' := Lib.hid bw
  clear a1 a2 a3 a4 a5 bx bw
  go_enter Tryz.func53, Tryz.ntmps53
  go_wp2_with fail
  go_step3
  go_wp2_with fail
  refine (formOkI_any _ D hfit.out.marks _ hW.out).mono ?_
  rintro e w1 ⟨hq, b1⟩
  have hq := hq.elim
  obtain ⟨x1, rfl⟩ := Ext.of b1
  clear b1
  generalize w.alloc (.cells #[.int .i64 D.base, .int .i64 D.pages, vw, vd, vs, vm, .int .i64 D.phase, .int .i64 D.next, vg] 36) = W at *
  rcases hq with ⟨hF, rfl⟩ | ⟨hF, rfl⟩
  case inr =>
    have y := Lib.hid (IsB.no (right_no1 hF))
    clear hF
    go_wp2_with fail
    try rw [Exit.noGoto_ret]
    go_ret
    exact ⟨y.out, below_trans bw'.out x1.below⟩
  have hF' := Lib.hid hF
  have hcall := Lib.hid (viewOf_any w.heap.size _ D hF x1.val (hW.out.below x1.below) (hBx.out.below x1.below))
  clear hF
  go_wp2_with fail
  refine hcall.out.mono ?_
  rintro e w2 ⟨V, g, n, M, rfl, hv, b2⟩
  have hv' := Lib.hid hv
  have b2' := Lib.hid (below_trans x1.below b2)
  clear hv b2 hcall
  go_wp2_with fail
  go_step3
  go_wp2_with fail
  refine (parts_any w2).mono ?_
  rintro e w3 ⟨P, rfl, hPx, b3⟩
  have hr3 := Lib.hid ((hW.out.below b2'.out).below b3)
  have hB3 := Lib.hid ((hBx.out.below b2'.out).below b3)
  have hv3 := Lib.hid (hv'.out.below b3)
  have bb3 := Lib.hid (below_trans bw'.out (below_trans b2'.out b3))
  have g6 := Lib.hid (fun (w' : World) (hb : Below w3.heap.size w3 w') => (hB3.out.below hb).cell 6 (.int .i64 D.phase) rfl)
  have hPc := Lib.hid (fun (w' : World) (hb : Below w3.heap.size w3 w') => heap_below hb hPx)
  have h0 := hF'.out.ph0
  have h4 := hF'.out.ph1
  clear hPx b3
  go_wp2_with fail
  go_loopw [4, 13] (fun q i wr => ∃ k : Nat, k ≤ 9 ∧ q = .bool true ∧ i = .int .i64 k ∧ Hid (PartsOk D k) ∧ Hid (Below w3.heap.size w3 wr)) (fun _ i _ => 9 - (Go.RowKit.intOf i).toNat)
  case atStart => exact ⟨0, Nat.zero_le _, rfl, rfl, Lib.hid (fun q h => absurd h (by omega)), Lib.hid (Below.refl _ _)⟩
  case round =>
    obtain ⟨k, hk, rfl, rfl, hok, hb⟩ := hrel
    by_cases hlt : k < 9
    · have z6 := g6.out _ hb.out
      have hP := hPc.out _ hb.out
      rcases (show k = 0 ∨ k = 1 ∨ k = 2 ∨ k = 3 ∨ k = 4 ∨ k = 5 ∨ k = 6 ∨ k = 7 ∨ k = 8 by omega) with rfl | rfl | rfl | rfl | rfl | rfl | rfl | rfl | rfl
      · have y0 := cell_of_heap hP 0 (.int .i64 0) rfl
        have y1 := cell_of_heap hP 1 (.int .i64 4) rfl
        have y2 := cell_of_heap hP 2 (.func (.func 130) #[] #[]) rfl
        have bp := Lib.hid (below_box wr (.cells #[.int .i64 0, .int .i64 4, .func (.func 130) #[] #[]] 122))
        have hbp := Lib.hid (below_trans hb.out bp.out)
        have z6 := g6.out _ hbp.out
        cases hin : inB D.phase 0 4
        · have hn := Lib.hid (hok.out.step fun h1 h2 => by have := inB_iff.2 (⟨h1, h2⟩ : (0 : Int) ≤ D.phase ∧ D.phase ≤ 4); rw [hin] at this; cases this)
          have hin' := Lib.hid hin
          clear hin hP
          go_wp2_with (go_at_call 100; refine (isIn_eq hin'.out _).mono ?_; rintro e w' ⟨rfl, rfl⟩)
          go_roundw
          case rel => exact ⟨0 + 1, by omega, rfl, by go_num, hn, hbp⟩
          case measure => simp [Go.RowKit.intOf]
        · have hc := Lib.hid (pLed V w.heap.size g n M _ D hF'.out hfit.out.words hfit.out.muts hcap'.out _ (hr3.out.below hbp.out) (hB3.out.below hbp.out) (hv3.out.below hbp.out))
          have hnot := Lib.hid (show ¬ partP D 0 → ¬ Right D from fun h h2 => h (right_part h2 (inB_iff.1 hin).1 (inB_iff.1 hin).2))
          have hin' := Lib.hid hin
          clear hin hP
          go_wp2_with (go_at_call 100; refine (isIn_eq hin'.out _).mono ?_; rintro e w' ⟨rfl, rfl⟩)
          refine hc.out.mono ?_
          rintro e w5 ⟨hq, b5⟩
          replace hq := hq.elim
          have hb5 := Lib.hid (below_trans hbp.out b5)
          clear b5 hc y0 y1 y2 z6
          rcases hq with ⟨hq, rfl⟩ | ⟨hq, rfl⟩
          · have hn := Lib.hid (hok.out.step fun _ _ => hq)
            clear hq
            go_wp2_with fail
            go_roundw
            case rel => exact ⟨0 + 1, by omega, rfl, by go_num, hn, hb5⟩
            case measure => simp [Go.RowKit.intOf]
          · have y := Lib.hid (IsB.no (hnot.out hq))
            clear hq
            go_wp2_with fail
            try rw [Exit.noGoto_ret]
            go_ret
            exact ⟨y.out, below_trans bb3.out hb5.out⟩
      · have y0 := cell_of_heap hP 3 (.int .i64 1) rfl
        have y1 := cell_of_heap hP 4 (.int .i64 2) rfl
        have y2 := cell_of_heap hP 5 (.func (.func 131) #[] #[]) rfl
        have bp := Lib.hid (below_box wr (.cells #[.int .i64 1, .int .i64 2, .func (.func 131) #[] #[]] 122))
        have hbp := Lib.hid (below_trans hb.out bp.out)
        have z6 := g6.out _ hbp.out
        cases hin : inB D.phase 1 2
        · have hn := Lib.hid (hok.out.step fun h1 h2 => by have := inB_iff.2 (⟨h1, h2⟩ : (1 : Int) ≤ D.phase ∧ D.phase ≤ 2); rw [hin] at this; cases this)
          have hin' := Lib.hid hin
          clear hin hP
          go_wp2_with (go_at_call 100; refine (isIn_eq hin'.out _).mono ?_; rintro e w' ⟨rfl, rfl⟩)
          go_roundw
          case rel => exact ⟨1 + 1, by omega, rfl, by go_num, hn, hbp⟩
          case measure => simp [Go.RowKit.intOf]
        · have hc := Lib.hid (pGrey V w.heap.size g n M _ D hF'.out hfit.out.grey _ (hr3.out.below hbp.out) (hB3.out.below hbp.out) (hv3.out.below hbp.out))
          have hnot := Lib.hid (show ¬ partP D 1 → ¬ Right D from fun h h2 => h (right_part h2 (inB_iff.1 hin).1 (inB_iff.1 hin).2))
          have hin' := Lib.hid hin
          clear hin hP
          go_wp2_with (go_at_call 100; refine (isIn_eq hin'.out _).mono ?_; rintro e w' ⟨rfl, rfl⟩)
          refine hc.out.mono ?_
          rintro e w5 ⟨hq, b5⟩
          replace hq := hq.elim
          have hb5 := Lib.hid (below_trans hbp.out b5)
          clear b5 hc y0 y1 y2 z6
          rcases hq with ⟨hq, rfl⟩ | ⟨hq, rfl⟩
          · have hn := Lib.hid (hok.out.step fun _ _ => hq)
            clear hq
            go_wp2_with fail
            go_roundw
            case rel => exact ⟨1 + 1, by omega, rfl, by go_num, hn, hb5⟩
            case measure => simp [Go.RowKit.intOf]
          · have y := Lib.hid (IsB.no (hnot.out hq))
            clear hq
            go_wp2_with fail
            try rw [Exit.noGoto_ret]
            go_ret
            exact ⟨y.out, below_trans bb3.out hb5.out⟩
      · have y0 := cell_of_heap hP 6 (.int .i64 0) rfl
        have y1 := cell_of_heap hP 7 (.int .i64 0) rfl
        have y2 := cell_of_heap hP 8 (.func (.func 132) #[] #[]) rfl
        have bp := Lib.hid (below_box wr (.cells #[.int .i64 0, .int .i64 0, .func (.func 132) #[] #[]] 122))
        have hbp := Lib.hid (below_trans hb.out bp.out)
        have z6 := g6.out _ hbp.out
        cases hin : inB D.phase 0 0
        · have hn := Lib.hid (hok.out.step fun h1 h2 => by have := inB_iff.2 (⟨h1, h2⟩ : (0 : Int) ≤ D.phase ∧ D.phase ≤ 0); rw [hin] at this; cases this)
          have hin' := Lib.hid hin
          clear hin hP
          go_wp2_with (go_at_call 100; refine (isIn_eq hin'.out _).mono ?_; rintro e w' ⟨rfl, rfl⟩)
          go_roundw
          case rel => exact ⟨2 + 1, by omega, rfl, by go_num, hn, hbp⟩
          case measure => simp [Go.RowKit.intOf]
        · have hc := Lib.hid (pGreyEmpty V w.heap.size g n M _ D _ (hr3.out.below hbp.out) (hB3.out.below hbp.out) (hv3.out.below hbp.out))
          have hnot := Lib.hid (show ¬ partP D 2 → ¬ Right D from fun h h2 => h (right_part h2 (inB_iff.1 hin).1 (inB_iff.1 hin).2))
          have hin' := Lib.hid hin
          clear hin hP
          go_wp2_with (go_at_call 100; refine (isIn_eq hin'.out _).mono ?_; rintro e w' ⟨rfl, rfl⟩)
          refine hc.out.mono ?_
          rintro e w5 ⟨hq, b5⟩
          replace hq := hq.elim
          have hb5 := Lib.hid (below_trans hbp.out b5)
          clear b5 hc y0 y1 y2 z6
          rcases hq with ⟨hq, rfl⟩ | ⟨hq, rfl⟩
          · have hn := Lib.hid (hok.out.step fun _ _ => hq)
            clear hq
            go_wp2_with fail
            go_roundw
            case rel => exact ⟨2 + 1, by omega, rfl, by go_num, hn, hb5⟩
            case measure => simp [Go.RowKit.intOf]
          · have y := Lib.hid (IsB.no (hnot.out hq))
            clear hq
            go_wp2_with fail
            try rw [Exit.noGoto_ret]
            go_ret
            exact ⟨y.out, below_trans bb3.out hb5.out⟩
      · have y0 := cell_of_heap hP 9 (.int .i64 3) rfl
        have y1 := cell_of_heap hP 10 (.int .i64 4) rfl
        have y2 := cell_of_heap hP 11 (.func (.func 132) #[] #[]) rfl
        have bp := Lib.hid (below_box wr (.cells #[.int .i64 3, .int .i64 4, .func (.func 132) #[] #[]] 122))
        have hbp := Lib.hid (below_trans hb.out bp.out)
        have z6 := g6.out _ hbp.out
        cases hin : inB D.phase 3 4
        · have hn := Lib.hid (hok.out.step fun h1 h2 => by have := inB_iff.2 (⟨h1, h2⟩ : (3 : Int) ≤ D.phase ∧ D.phase ≤ 4); rw [hin] at this; cases this)
          have hin' := Lib.hid hin
          clear hin hP
          go_wp2_with (go_at_call 100; refine (isIn_eq hin'.out _).mono ?_; rintro e w' ⟨rfl, rfl⟩)
          go_roundw
          case rel => exact ⟨3 + 1, by omega, rfl, by go_num, hn, hbp⟩
          case measure => simp [Go.RowKit.intOf]
        · have hc := Lib.hid (pGreyEmpty V w.heap.size g n M _ D _ (hr3.out.below hbp.out) (hB3.out.below hbp.out) (hv3.out.below hbp.out))
          have hnot := Lib.hid (show ¬ partP D 3 → ¬ Right D from fun h h2 => h (right_part h2 (inB_iff.1 hin).1 (inB_iff.1 hin).2))
          have hin' := Lib.hid hin
          clear hin hP
          go_wp2_with (go_at_call 100; refine (isIn_eq hin'.out _).mono ?_; rintro e w' ⟨rfl, rfl⟩)
          refine hc.out.mono ?_
          rintro e w5 ⟨hq, b5⟩
          replace hq := hq.elim
          have hb5 := Lib.hid (below_trans hbp.out b5)
          clear b5 hc y0 y1 y2 z6
          rcases hq with ⟨hq, rfl⟩ | ⟨hq, rfl⟩
          · have hn := Lib.hid (hok.out.step fun _ _ => hq)
            clear hq
            go_wp2_with fail
            go_roundw
            case rel => exact ⟨3 + 1, by omega, rfl, by go_num, hn, hb5⟩
            case measure => simp [Go.RowKit.intOf]
          · have y := Lib.hid (IsB.no (hnot.out hq))
            clear hq
            go_wp2_with fail
            try rw [Exit.noGoto_ret]
            go_ret
            exact ⟨y.out, below_trans bb3.out hb5.out⟩
      · have y0 := cell_of_heap hP 12 (.int .i64 0) rfl
        have y1 := cell_of_heap hP 13 (.int .i64 4) rfl
        have y2 := cell_of_heap hP 14 (.func (.func 133) #[] #[]) rfl
        have bp := Lib.hid (below_box wr (.cells #[.int .i64 0, .int .i64 4, .func (.func 133) #[] #[]] 122))
        have hbp := Lib.hid (below_trans hb.out bp.out)
        have z6 := g6.out _ hbp.out
        cases hin : inB D.phase 0 4
        · have hn := Lib.hid (hok.out.step fun h1 h2 => by have := inB_iff.2 (⟨h1, h2⟩ : (0 : Int) ≤ D.phase ∧ D.phase ≤ 4); rw [hin] at this; cases this)
          have hin' := Lib.hid hin
          clear hin hP
          go_wp2_with (go_at_call 100; refine (isIn_eq hin'.out _).mono ?_; rintro e w' ⟨rfl, rfl⟩)
          go_roundw
          case rel => exact ⟨4 + 1, by omega, rfl, by go_num, hn, hbp⟩
          case measure => simp [Go.RowKit.intOf]
        · have hc := Lib.hid (pNext V w.heap.size g n M _ D _ (hr3.out.below hbp.out) (hB3.out.below hbp.out) (hv3.out.below hbp.out))
          have hnot := Lib.hid (show ¬ partP D 4 → ¬ Right D from fun h h2 => h (right_part h2 (inB_iff.1 hin).1 (inB_iff.1 hin).2))
          have hin' := Lib.hid hin
          clear hin hP
          go_wp2_with (go_at_call 100; refine (isIn_eq hin'.out _).mono ?_; rintro e w' ⟨rfl, rfl⟩)
          refine hc.out.mono ?_
          rintro e w5 ⟨hq, b5⟩
          replace hq := hq.elim
          have hb5 := Lib.hid (below_trans hbp.out b5)
          clear b5 hc y0 y1 y2 z6
          rcases hq with ⟨hq, rfl⟩ | ⟨hq, rfl⟩
          · have hn := Lib.hid (hok.out.step fun _ _ => hq)
            clear hq
            go_wp2_with fail
            go_roundw
            case rel => exact ⟨4 + 1, by omega, rfl, by go_num, hn, hb5⟩
            case measure => simp [Go.RowKit.intOf]
          · have y := Lib.hid (IsB.no (hnot.out hq))
            clear hq
            go_wp2_with fail
            try rw [Exit.noGoto_ret]
            go_ret
            exact ⟨y.out, below_trans bb3.out hb5.out⟩
      · have y0 := cell_of_heap hP 15 (.int .i64 0) rfl
        have y1 := cell_of_heap hP 16 (.int .i64 3) rfl
        have y2 := cell_of_heap hP 17 (.func (.func 134) #[] #[]) rfl
        have bp := Lib.hid (below_box wr (.cells #[.int .i64 0, .int .i64 3, .func (.func 134) #[] #[]] 122))
        have hbp := Lib.hid (below_trans hb.out bp.out)
        have z6 := g6.out _ hbp.out
        cases hin : inB D.phase 0 3
        · have hn := Lib.hid (hok.out.step fun h1 h2 => by have := inB_iff.2 (⟨h1, h2⟩ : (0 : Int) ≤ D.phase ∧ D.phase ≤ 3); rw [hin] at this; cases this)
          have hin' := Lib.hid hin
          clear hin hP
          go_wp2_with (go_at_call 100; refine (isIn_eq hin'.out _).mono ?_; rintro e w' ⟨rfl, rfl⟩)
          go_roundw
          case rel => exact ⟨5 + 1, by omega, rfl, by go_num, hn, hbp⟩
          case measure => simp [Go.RowKit.intOf]
        · have hc := Lib.hid (pSwept V w.heap.size g n M _ D _ (hr3.out.below hbp.out) (hB3.out.below hbp.out) (hv3.out.below hbp.out))
          have hnot := Lib.hid (show ¬ partP D 5 → ¬ Right D from fun h h2 => h (right_part h2 (inB_iff.1 hin).1 (inB_iff.1 hin).2))
          have hin' := Lib.hid hin
          clear hin hP
          go_wp2_with (go_at_call 100; refine (isIn_eq hin'.out _).mono ?_; rintro e w' ⟨rfl, rfl⟩)
          refine hc.out.mono ?_
          rintro e w5 ⟨hq, b5⟩
          replace hq := hq.elim
          have hb5 := Lib.hid (below_trans hbp.out b5)
          clear b5 hc y0 y1 y2 z6
          rcases hq with ⟨hq, rfl⟩ | ⟨hq, rfl⟩
          · have hn := Lib.hid (hok.out.step fun _ _ => hq)
            clear hq
            go_wp2_with fail
            go_roundw
            case rel => exact ⟨5 + 1, by omega, rfl, by go_num, hn, hb5⟩
            case measure => simp [Go.RowKit.intOf]
          · have y := Lib.hid (IsB.no (hnot.out hq))
            clear hq
            go_wp2_with fail
            try rw [Exit.noGoto_ret]
            go_ret
            exact ⟨y.out, below_trans bb3.out hb5.out⟩
      · have y0 := cell_of_heap hP 18 (.int .i64 0) rfl
        have y1 := cell_of_heap hP 19 (.int .i64 0) rfl
        have y2 := cell_of_heap hP 20 (.func (.func 135) #[] #[]) rfl
        have bp := Lib.hid (below_box wr (.cells #[.int .i64 0, .int .i64 0, .func (.func 135) #[] #[]] 122))
        have hbp := Lib.hid (below_trans hb.out bp.out)
        have z6 := g6.out _ hbp.out
        cases hin : inB D.phase 0 0
        · have hn := Lib.hid (hok.out.step fun h1 h2 => by have := inB_iff.2 (⟨h1, h2⟩ : (0 : Int) ≤ D.phase ∧ D.phase ≤ 0); rw [hin] at this; cases this)
          have hin' := Lib.hid hin
          clear hin hP
          go_wp2_with (go_at_call 100; refine (isIn_eq hin'.out _).mono ?_; rintro e w' ⟨rfl, rfl⟩)
          go_roundw
          case rel => exact ⟨6 + 1, by omega, rfl, by go_num, hn, hbp⟩
          case measure => simp [Go.RowKit.intOf]
        · have hc := Lib.hid (pMarked V w.heap.size g n M _ D _ (hr3.out.below hbp.out) (hB3.out.below hbp.out) (hv3.out.below hbp.out))
          have hnot := Lib.hid (show ¬ partP D 6 → ¬ Right D from fun h h2 => h (right_part h2 (inB_iff.1 hin).1 (inB_iff.1 hin).2))
          have hin' := Lib.hid hin
          clear hin hP
          go_wp2_with (go_at_call 100; refine (isIn_eq hin'.out _).mono ?_; rintro e w' ⟨rfl, rfl⟩)
          refine hc.out.mono ?_
          rintro e w5 ⟨hq, b5⟩
          replace hq := hq.elim
          have hb5 := Lib.hid (below_trans hbp.out b5)
          clear b5 hc y0 y1 y2 z6
          rcases hq with ⟨hq, rfl⟩ | ⟨hq, rfl⟩
          · have hn := Lib.hid (hok.out.step fun _ _ => hq)
            clear hq
            go_wp2_with fail
            go_roundw
            case rel => exact ⟨6 + 1, by omega, rfl, by go_num, hn, hb5⟩
            case measure => simp [Go.RowKit.intOf]
          · have y := Lib.hid (IsB.no (hnot.out hq))
            clear hq
            go_wp2_with fail
            try rw [Exit.noGoto_ret]
            go_ret
            exact ⟨y.out, below_trans bb3.out hb5.out⟩
      · have y0 := cell_of_heap hP 21 (.int .i64 4) rfl
        have y1 := cell_of_heap hP 22 (.int .i64 4) rfl
        have y2 := cell_of_heap hP 23 (.func (.func 136) #[] #[]) rfl
        have bp := Lib.hid (below_box wr (.cells #[.int .i64 4, .int .i64 4, .func (.func 136) #[] #[]] 122))
        have hbp := Lib.hid (below_trans hb.out bp.out)
        have z6 := g6.out _ hbp.out
        cases hin : inB D.phase 4 4
        · have hn := Lib.hid (hok.out.step fun h1 h2 => by have := inB_iff.2 (⟨h1, h2⟩ : (4 : Int) ≤ D.phase ∧ D.phase ≤ 4); rw [hin] at this; cases this)
          have hin' := Lib.hid hin
          clear hin hP
          go_wp2_with (go_at_call 100; refine (isIn_eq hin'.out _).mono ?_; rintro e w' ⟨rfl, rfl⟩)
          go_roundw
          case rel => exact ⟨7 + 1, by omega, rfl, by go_num, hn, hbp⟩
          case measure => simp [Go.RowKit.intOf]
        · have hc := Lib.hid (pBoth V w.heap.size g n M _ D _ (hr3.out.below hbp.out) (hB3.out.below hbp.out) (hv3.out.below hbp.out))
          have hnot := Lib.hid (show ¬ partP D 7 → ¬ Right D from fun h h2 => h (right_part h2 (inB_iff.1 hin).1 (inB_iff.1 hin).2))
          have hin' := Lib.hid hin
          clear hin hP
          go_wp2_with (go_at_call 100; refine (isIn_eq hin'.out _).mono ?_; rintro e w' ⟨rfl, rfl⟩)
          refine hc.out.mono ?_
          rintro e w5 ⟨hq, b5⟩
          replace hq := hq.elim
          have hb5 := Lib.hid (below_trans hbp.out b5)
          clear b5 hc y0 y1 y2 z6
          rcases hq with ⟨hq, rfl⟩ | ⟨hq, rfl⟩
          · have hn := Lib.hid (hok.out.step fun _ _ => hq)
            clear hq
            go_wp2_with fail
            go_roundw
            case rel => exact ⟨7 + 1, by omega, rfl, by go_num, hn, hb5⟩
            case measure => simp [Go.RowKit.intOf]
          · have y := Lib.hid (IsB.no (hnot.out hq))
            clear hq
            go_wp2_with fail
            try rw [Exit.noGoto_ret]
            go_ret
            exact ⟨y.out, below_trans bb3.out hb5.out⟩
      · have y0 := cell_of_heap hP 24 (.int .i64 1) rfl
        have y1 := cell_of_heap hP 25 (.int .i64 3) rfl
        have y2 := cell_of_heap hP 26 (.func (.func 137) #[] #[]) rfl
        have bp := Lib.hid (below_box wr (.cells #[.int .i64 1, .int .i64 3, .func (.func 137) #[] #[]] 122))
        have hbp := Lib.hid (below_trans hb.out bp.out)
        have z6 := g6.out _ hbp.out
        cases hin : inB D.phase 1 3
        · have hn := Lib.hid (hok.out.step fun h1 h2 => by have := inB_iff.2 (⟨h1, h2⟩ : (1 : Int) ≤ D.phase ∧ D.phase ≤ 3); rw [hin] at this; cases this)
          have hin' := Lib.hid hin
          clear hin hP
          go_wp2_with (go_at_call 100; refine (isIn_eq hin'.out _).mono ?_; rintro e w' ⟨rfl, rfl⟩)
          go_roundw
          case rel => exact ⟨8 + 1, by omega, rfl, by go_num, hn, hbp⟩
          case measure => simp [Go.RowKit.intOf]
        · have hc := Lib.hid (pKept V w.heap.size g n M _ D hF'.out hfit.out.words hfit.out.grey (parts_grey hF'.out hok.out (by have := inB_iff.1 hin; omega)) hfit.out.muts hcap'.out _ (hr3.out.below hbp.out) (hB3.out.below hbp.out) (hv3.out.below hbp.out))
          have hnot := Lib.hid (show ¬ partP D 8 → ¬ Right D from fun h h2 => h (right_part h2 (inB_iff.1 hin).1 (inB_iff.1 hin).2))
          have hin' := Lib.hid hin
          clear hin hP
          go_wp2_with (go_at_call 100; refine (isIn_eq hin'.out _).mono ?_; rintro e w' ⟨rfl, rfl⟩)
          refine hc.out.mono ?_
          rintro e w5 ⟨hq, b5⟩
          replace hq := hq.elim
          have hb5 := Lib.hid (below_trans hbp.out b5)
          clear b5 hc y0 y1 y2 z6
          rcases hq with ⟨hq, rfl⟩ | ⟨hq, rfl⟩
          · have hn := Lib.hid (hok.out.step fun _ _ => hq)
            clear hq
            go_wp2_with fail
            go_roundw
            case rel => exact ⟨8 + 1, by omega, rfl, by go_num, hn, hb5⟩
            case measure => simp [Go.RowKit.intOf]
          · have y := Lib.hid (IsB.no (hnot.out hq))
            clear hq
            go_wp2_with fail
            try rw [Exit.noGoto_ret]
            go_ret
            exact ⟨y.out, below_trans bb3.out hb5.out⟩
    obtain rfl : k = 9 := by omega
    have y := Lib.hid (IsB.yes (parts_right hF'.out hok.out))
    go_wp2_with fail
    try rw [Exit.noGoto_ret]
    go_ret
    exact ⟨y.out, below_trans bb3.out hb.out⟩
end Go.Proofs.YtpaepkcfdnddgaaGreat

import Derived.Test.YtpaepkcfdnddgaaGreatCgQ
import Derived.Test.YtpaepkcfdnddgaaGreatCgN
import Derived.Deep.DeepCutAuto
import Derived.Deep.CutRange
import Derived.Outline
import Derived.Test.YtpaepkcfdnddgaaGreatCgF2

namespace Go.Proofs.YtpaepkcfdnddgaaGreat
open Go.RowKit
set_option linter.unusedVariables false

/-- Grey's slice has room for its addresses. -/
def CapG (v : Value) : Prop := ∀ c0 c1 c2 c3 c4 c5 c6 c7 a n c, v = .agg #[c0, c1, c2, c3, c4, c5, c6, c7, .slice a n c] → n ≤ c
theorem GreyMarked.nil (D : WD) : GreyMarked D [] := ⟨List.nodup_nil, fun a h => by simp at h⟩
theorem GreyMarked.snoc {D : WD} {L : List Int} {x : Int} (h : GreyMarked D L) (hm : MarkedObj D x) (hx : x ∉ L) : GreyMarked D (L ++ [x]) :=
  ⟨List.nodup_append.2 ⟨h.1, by simp, fun a ha b hb => by obtain rfl := List.mem_singleton.1 hb; exact fun e => hx (e ▸ ha)⟩, fun a ha => (List.mem_append.1 ha).elim (h.2 a) fun hb => by rw [List.mem_singleton.1 hb]; exact hm⟩
theorem GreyMarked.no1 {D : WD} {k : Nat} (hk : k < D.grey.length) (hm : ¬ MarkedObj D (D.grey[k]?.getD 0)) : ¬ GreyMarked D D.grey := fun h => hm (h.2 _ (by rw [List.getElem?_eq_getElem hk]; exact List.getElem_mem hk))
theorem GreyMarked.no2 {D : WD} {k : Nat} (hk : k < D.grey.length) (hm : D.grey[k]?.getD 0 ∈ D.grey.take k) : ¬ GreyMarked D D.grey := fun h => by
  obtain ⟨i, hi, e⟩ := List.mem_iff_getElem.1 hm
  rw [List.length_take] at hi
  rw [List.getElem_take, List.getElem?_eq_getElem hk] at e
  exact (List.pairwise_iff_getElem.1 h.1 i k (by omega) hk (by omega)) e
theorem GreyMarked.obj {D : WD} (h : GreyMarked D D.grey) : ∀ a, a ∈ D.grey → HasObj D a := fun a ha => by
  obtain ⟨k, j, ho, _⟩ := h.2 a ha
  exact ⟨k, j, ho⟩

set_option maxRecDepth 100000 in
set_option maxHeartbeats 8000000 in
theorem sgcOk_any (B : Nat) (v : Value) (D : WD) (hF : HeapForm D) (hcap : CapG v) (w : World) (hr : RdW w v D) (hB : BoxW w B v) :
    Calls Tryz.prog 73 #[.pointer (some ⟨B, 0, none⟩)] w fun e w' => IsB (GcRight D) e ∧ Below w.heap.size w w' := by
  have hr' := Lib.hid hr
  have hB' := Lib.hid hB
  have hF' := Lib.hid hF
  obtain ⟨vw, vd, vs, vm, vg, rfl, a1, a2, a3, a4, a5⟩ := hr
  obtain ⟨cs, he, hh⟩ := hB
  obtain rfl := (Value.agg.inj he).symm
  obtain ⟨aS, cS, rfl, hsl, hx⟩ := a3
  obtain ⟨aM, cM, rfl, hml, _⟩ := a4
  obtain ⟨ag, cg, rfl, hgl, hxg⟩ := id a5
  have hgc := hcap _ _ _ _ _ _ _ _ _ _ _ rfl
  have a5' := Lib.hid a5
  have hxg' := Lib.hid hxg
  unfold maxLen at hsl hml hgl
  have bb := below_box w (.cells #[.int .i64 D.phase, .int .i64 D.next, .slice ag D.grey.length cg] 34)
  have bx := box_new w (.cells #[.int .i64 D.phase, .int .i64 D.next, .slice ag D.grey.length cg] 34)
  have g6 := cell_of_heap hh 6 _ rfl
  have g7 := cell_of_heap hh 7 _ rfl
  have g8 := cell_of_heap hh 8 _ rfl
  have hf4 := Lib.hid (fun (w' : World) (hb : Below w.heap.size w w') => cell_below hb (cell_of_heap hh 4 (.slice aS D.spans.length cS) rfl))
  have g5 := Lib.hid (cell_below bb (cell_of_heap hh 5 (.slice aM D.muts.length cM) rfl))
  have hspl := hF.spans
  have hpl := hF.geo.2.2.2.2.1
  have bb' := Lib.hid bb
  have bx' := Lib.hid bx
  clear a1 a2 a5 hF he hh hx hxg hcap bb bx
  go_enter Tryz.func73, Tryz.ntmps73
  go_upto_region 2 with fail
  clear g6 g7 g8
  generalize w.alloc (.cells #[.int .i64 D.phase, .int .i64 D.next, .slice ag D.grey.length cg] 34) = W at *
  have p0 := cell_of_heap bx'.out 0 _ rfl
  have p1 := cell_of_heap bx'.out 1 _ rfl
  have p2 := cell_of_heap bx'.out 2 _ rfl
  have q5 := g5.out
  go_cut [51] (fun q wx => ∃ b : Bool, q = .bool b ∧ Hid (b = true ↔ ¬ ((D.grey ≠ [] → D.phase = 1 ∨ D.phase = 2) ∧ NextRight D)) ∧ Hid (Below W.heap.size W wx))
  case first =>
    have hA := Lib.hid (show (D.grey ≠ [] → D.phase = 1 ∨ D.phase = 2) ↔ (D.grey.length = 0 ∨ D.phase = 1 ∨ D.phase = 2) from by
      rw [List.length_eq_zero_iff]
      by_cases h : D.grey = []
      · simp [h]
      · simp [h])
    have hN := Lib.hid (show NextRight D ↔ (0 ≤ D.next ∧ D.next ≤ (D.muts.length : Int) ∧ (0 < D.next → D.phase = 1)) from Iff.rfl)
    generalize (D.grey ≠ [] → D.phase = 1 ∨ D.phase = 2) = GA at *
    generalize NextRight D = NA at *
    generalize D.phase = ph at *
    generalize D.next = nx at *
    have d1 : ¬ ph = 1 → (ph == 1) = false := fun h => beq_eq_false_iff_ne.2 h
    have d2 : ¬ ph = 2 → (ph == 2) = false := fun h => beq_eq_false_iff_ne.2 h
    by_cases e3 : 0 < D.grey.length
    · have fe3 : decide (0 < D.grey.length) = true := by simpa using e3
      by_cases e1 : ph = 1
      · subst e1
        clear d1 d2
        by_cases n1 : nx < 0
        · have fn1 : decide (nx < 0) = true := by simpa using n1
          have z := Lib.hid (show GA → NA → False from fun h1 h2 => by have := hA.out.1 h1; have := hN.out.1 h2; omega)
          go_quiet (fail)
          go_wp2_with fail
          go_meet
          exact ⟨true, rfl, Lib.hid ⟨fun _ h => z.out h.1 h.2, fun _ => rfl⟩, Lib.hid (below_drewN (Below.refl _ _) _)⟩
        have fn1 : decide (nx < 0) = false := by simpa using n1
        by_cases n2 : (D.muts.length : Int) < nx
        · have fn2 : decide ((D.muts.length : Int) < nx) = true := by simpa using n2
          have z := Lib.hid (show GA → NA → False from fun h1 h2 => by have := hA.out.1 h1; have := hN.out.1 h2; omega)
          go_quiet (fail)
          go_wp2_with fail
          go_meet
          exact ⟨true, rfl, Lib.hid ⟨fun _ h => z.out h.1 h.2, fun _ => rfl⟩, Lib.hid (below_drewN (Below.refl _ _) _)⟩
        have fn2 : decide ((D.muts.length : Int) < nx) = false := by simpa using n2
        by_cases n3 : 0 < nx
        · have fn3 : decide (0 < nx) = true := by simpa using n3
          have z := Lib.hid (show GA ∧ NA from ⟨hA.out.2 (by omega), hN.out.2 (by omega)⟩)
          go_quiet (fail)
          go_wp2_with fail
          go_meet
          exact ⟨false, rfl, Lib.hid ⟨fun h => absurd h (by decide), fun h => absurd z.out h⟩, Lib.hid (below_drewN (Below.refl _ _) _)⟩
        have fn3 : decide (0 < nx) = false := by simpa using n3
        have z := Lib.hid (show GA ∧ NA from ⟨hA.out.2 (by omega), hN.out.2 (by omega)⟩)
        go_quiet (fail)
        go_wp2_with fail
        go_meet
        exact ⟨false, rfl, Lib.hid ⟨fun h => absurd h (by decide), fun h => absurd z.out h⟩, Lib.hid (below_drewN (Below.refl _ _) _)⟩
      by_cases e2 : ph = 2
      · subst e2
        clear d1 d2
        by_cases n1 : nx < 0
        · have fn1 : decide (nx < 0) = true := by simpa using n1
          have z := Lib.hid (show GA → NA → False from fun h1 h2 => by have := hA.out.1 h1; have := hN.out.1 h2; omega)
          go_quiet (fail)
          go_wp2_with fail
          go_meet
          exact ⟨true, rfl, Lib.hid ⟨fun _ h => z.out h.1 h.2, fun _ => rfl⟩, Lib.hid (below_drewN (Below.refl _ _) _)⟩
        have fn1 : decide (nx < 0) = false := by simpa using n1
        by_cases n2 : (D.muts.length : Int) < nx
        · have fn2 : decide ((D.muts.length : Int) < nx) = true := by simpa using n2
          have z := Lib.hid (show GA → NA → False from fun h1 h2 => by have := hA.out.1 h1; have := hN.out.1 h2; omega)
          go_quiet (fail)
          go_wp2_with fail
          go_meet
          exact ⟨true, rfl, Lib.hid ⟨fun _ h => z.out h.1 h.2, fun _ => rfl⟩, Lib.hid (below_drewN (Below.refl _ _) _)⟩
        have fn2 : decide ((D.muts.length : Int) < nx) = false := by simpa using n2
        by_cases n3 : 0 < nx
        · have fn3 : decide (0 < nx) = true := by simpa using n3
          have z := Lib.hid (show GA → NA → False from fun h1 h2 => by have := hA.out.1 h1; have := hN.out.1 h2; omega)
          go_quiet (fail)
          go_wp2_with fail
          go_meet
          exact ⟨true, rfl, Lib.hid ⟨fun _ h => z.out h.1 h.2, fun _ => rfl⟩, Lib.hid (below_drewN (Below.refl _ _) _)⟩
        have fn3 : decide (0 < nx) = false := by simpa using n3
        have z := Lib.hid (show GA ∧ NA from ⟨hA.out.2 (by omega), hN.out.2 (by omega)⟩)
        go_quiet (fail)
        go_wp2_with fail
        go_meet
        exact ⟨false, rfl, Lib.hid ⟨fun h => absurd h (by decide), fun h => absurd z.out h⟩, Lib.hid (below_drewN (Below.refl _ _) _)⟩
      have z := Lib.hid (show GA → NA → False from fun h1 h2 => by have := hA.out.1 h1; have := hN.out.1 h2; omega)
      have b1 : (ph != 1) = true := bne_iff_ne.2 e1
      have b2 : (ph != 2) = true := bne_iff_ne.2 e2
      clear e1 e2 d1 d2
      go_quiet (fail)
      go_wp2_with fail
      go_meet
      exact ⟨true, rfl, Lib.hid ⟨fun _ h => z.out h.1 h.2, fun _ => rfl⟩, Lib.hid (below_drewN (Below.refl _ _) _)⟩
    have fe3 : decide (0 < D.grey.length) = false := by simpa using e3
    by_cases n1 : nx < 0
    · have fn1 : decide (nx < 0) = true := by simpa using n1
      have z := Lib.hid (show GA → NA → False from fun h1 h2 => by have := hA.out.1 h1; have := hN.out.1 h2; omega)
      go_quiet (fail)
      go_wp2_with fail
      go_meet
      exact ⟨true, rfl, Lib.hid ⟨fun _ h => z.out h.1 h.2, fun _ => rfl⟩, Lib.hid (below_drewN (Below.refl _ _) _)⟩
    have fn1 : decide (nx < 0) = false := by simpa using n1
    by_cases n2 : (D.muts.length : Int) < nx
    · have fn2 : decide ((D.muts.length : Int) < nx) = true := by simpa using n2
      have z := Lib.hid (show GA → NA → False from fun h1 h2 => by have := hA.out.1 h1; have := hN.out.1 h2; omega)
      go_quiet (fail)
      go_wp2_with fail
      go_meet
      exact ⟨true, rfl, Lib.hid ⟨fun _ h => z.out h.1 h.2, fun _ => rfl⟩, Lib.hid (below_drewN (Below.refl _ _) _)⟩
    have fn2 : decide ((D.muts.length : Int) < nx) = false := by simpa using n2
    by_cases n3 : 0 < nx
    · have fn3 : decide (0 < nx) = true := by simpa using n3
      by_cases e1 : ph = 1
      · subst e1
        have z := Lib.hid (show GA ∧ NA from ⟨hA.out.2 (by omega), hN.out.2 (by omega)⟩)
        go_quiet (fail)
        go_wp2_with fail
        go_meet
        exact ⟨false, rfl, Lib.hid ⟨fun h => absurd h (by decide), fun h => absurd z.out h⟩, Lib.hid (below_drewN (Below.refl _ _) _)⟩
      have z := Lib.hid (show GA → NA → False from fun h1 h2 => by have := hA.out.1 h1; have := hN.out.1 h2; omega)
      have b1 : (ph != 1) = true := bne_iff_ne.2 e1
      clear e1 d1 d2
      go_quiet (fail)
      go_wp2_with fail
      go_meet
      exact ⟨true, rfl, Lib.hid ⟨fun _ h => z.out h.1 h.2, fun _ => rfl⟩, Lib.hid (below_drewN (Below.refl _ _) _)⟩
    have fn3 : decide (0 < nx) = false := by simpa using n3
    have z := Lib.hid (show GA ∧ NA from ⟨hA.out.2 (by omega), hN.out.2 (by omega)⟩)
    go_quiet (fail)
    go_wp2_with fail
    go_meet
    exact ⟨false, rfl, Lib.hid ⟨fun h => absurd h (by decide), fun h => absurd z.out h⟩, Lib.hid (below_drewN (Below.refl _ _) _)⟩
  case rest =>
    obtain ⟨b, rfl, hb, hbel⟩ := hcut
    clear q5 p0 p1 p2 g5
    have bb0 := Lib.hid (below_trans bb'.out hbel.out)
    have bx0 := Lib.hid (heap_below hbel.out bx'.out)
    clear hbel bb' bx'
    cases b
    case true =>
      have n := Lib.hid (IsB.no (P := GcRight D) fun h => (hb.out.1 rfl) ⟨h.1.1, h.2.1⟩)
      go_wp2_with fail
      go_ret
      exact ⟨n.out, bb0.out⟩
    have hGN := Lib.hid (show (D.grey ≠ [] → D.phase = 1 ∨ D.phase = 2) ∧ NextRight D from Classical.byContradiction fun h => by have := hb.out.2 h; cases this)
    clear hb
    go_wp2_with fail
    go_loopw [4] (fun i wr => ∃ k : Nat, k ≤ D.grey.length ∧ i = .int .i64 k ∧ Hid (GreyMarked D (D.grey.take k)) ∧ Hid (Below w.heap.size w wr) ∧ Hid (wr.heap[w.heap.size]? = some (.cells #[.int .i64 D.phase, .int .i64 D.next, .slice ag D.grey.length cg] 34 (0, 0)))) (fun i _ => D.grey.length - (Go.RowKit.intOf i).toNat)
    case atStart => exact ⟨0, Nat.zero_le _, rfl, Lib.hid (by simpa using GreyMarked.nil D), bb0, bx0⟩
    case round =>
      clear bb0 bx0
      obtain ⟨k, hk, rfl, hgm, hB, hG⟩ := hrel
      have p2 := cell_of_heap hG.out 2 (.slice ag D.grey.length cg) rfl
      by_cases hlt : k < D.grey.length
      · have hlt1 : (k : Int) < (D.grey.length : Int) := by omega
        have hkc : (k : Int) ≤ (cg : Int) := by omega
        have hc0 : ¬ cg = 0 := by omega
        obtain ⟨bg, og, rfl, x0⟩ := hxg'.out k hlt
        have x1 := cell_below hB.out x0
        have hfind := Lib.hid (find_at B _ D hF'.out (D.grey[k]?.getD 0) wr (hr'.out.below hB.out) (hB'.out.below hB.out))
        have hno1 := Lib.hid (GreyMarked.no1 (D := D) hlt)
        have hno2 := Lib.hid (GreyMarked.no2 (D := D) hlt)
        have hsn := Lib.hid (show MarkedObj D (D.grey[k]?.getD 0) → D.grey[k]?.getD 0 ∉ D.grey.take k → GreyMarked D (D.grey.take (k + 1)) from fun hm hx => by rw [take_one hlt]; exact hgm.out.snoc hm hx)
        have hpart := Lib.hid (fun (w' : World) (hb : Below w.heap.size w w') => (by simpa using Rd.part (lo := 0) (n := k) (a5'.out.below hb) (by omega) cg : Rd w' (.slice (some ⟨bg, og, none⟩) k cg) (D.grey.take k)))
        clear x0
        generalize D.grey[k]?.getD 0 = x at *
        go_wp2_with fail
        refine hfind.out.mono ?_
        rintro e w1 ⟨⟨r, q, rfl, hq⟩, b1⟩
        have hB1 := Lib.hid (below_trans hB.out b1)
        have hG1 := Lib.hid (heap_below b1 hG.out)
        have X1 := Ext.cell (cell_below b1 x1)
        have P2 := Ext.cell (cell_below b1 p2)
        clear b1 p2 x1 hfind hB hG
        rcases hq with ⟨kk, j, _, ho, rfl, rfl⟩ | ⟨hn, rfl, rfl⟩
        case inr =>
          have n := Lib.hid (IsB.no (P := GcRight D) fun h => hno1.out (fun ⟨k', j', ho, _⟩ => hn hF'.out k' j' ho) h.1.2)
          clear hn
          go_wp2_with fail
          refine wp_region_ext (Below.refl _ _) (by kernel_rfl) (by kernel_rfl) ?_
          repeat (go_big_quiet_step ((fail)))
          refine wpQuiet_nil ?_
          intro _ hw'
          obtain ⟨x9, hw''⟩ := hw'
          subst hw''
          go_wp2_with fail
          go_ret
          exact ⟨n.out, below_trans hB1.out x9.below⟩
        obtain ⟨s, hks, hin, pp0, pp1⟩ := obj_slot hF'.out ho
        obtain ⟨mk, hmk⟩ := flag_of (MarkedP D kk j)
        obtain ⟨hs, hhs⟩ := flag_of (x ∈ D.grey.take k)
        have hmk2 := Lib.hid (show MarkedObj D x ↔ mk = true from (MarkedObj.at_ hF'.out ho).trans hmk.symm)
        have hhs' := Lib.hid hhs
        have hcm := Lib.hid (fun (x : Ext w1) => (smarked_any B _ D kk j s hks (by have := hin.bd; omega) x.val (hr'.out.below (below_trans hB1.out x.below)) (hB'.out.below (below_trans hB1.out x.below))).mono fun e w' ⟨h1, h2⟩ => (⟨h1.at_ mk hmk, h2⟩ : e = Ending.returned (.bool mk) ∧ Below x.val.heap.size x.val w'))
        have hch := Lib.hid (fun (y : Ext w1) => (shas_any _ x (D.grey.take k) y.val (hpart.out y.val (below_trans hB1.out y.below))).mono fun e w' ⟨h1, h2⟩ => (⟨h1.at_ hs hhs, h2⟩ : e = Ending.returned (.bool hs) ∧ y.val = w'))
        have hkk : decide ((kk : Int) < 0) = false := decide_eq_false (by omega)
        clear ho hks hin pp0 pp1 hmk hhs
        go_wp2_with fail
        cases mk
        · have n := Lib.hid (IsB.no (P := GcRight D) fun h => hno1.out (fun hm => by have := hmk2.out.1 hm; cases this) h.1.2)
          refine wp_region_ext (Below.refl _ _) (by kernel_rfl) (by kernel_rfl) ?_
          repeat (go_big_quiet_step ((go_at_call 94; exact Ext.call (hcm.out _))))
          refine wpQuiet_nil ?_
          intro _ hw'
          obtain ⟨x9, hw''⟩ := hw'
          subst hw''
          go_wp2_with fail
          go_ret
          exact ⟨n.out, below_trans hB1.out x9.below⟩
        cases hs
        case true =>
          have n := Lib.hid (IsB.no (P := GcRight D) fun h => hno2.out (hhs'.out.1 rfl) h.1.2)
          refine wp_region_ext (Below.refl _ _) (by kernel_rfl) (by kernel_rfl) ?_
          repeat (go_big_quiet_step ((first | (go_at_call 94; exact Ext.call (hcm.out _)) | (go_at_call 111; exact Ext.same (hch.out _)))))
          refine wpQuiet_nil ?_
          intro _ hw'
          obtain ⟨x9, hw''⟩ := hw'
          subst hw''
          go_wp2_with fail
          go_ret
          exact ⟨n.out, below_trans hB1.out x9.below⟩
        have hn := Lib.hid (hsn.out (hmk2.out.2 rfl) (fun hm => by have := hhs'.out.2 hm; cases this))
        refine wp_region_ext (Below.refl _ _) (by kernel_rfl) (by kernel_rfl) ?_
        repeat (go_big_quiet_step ((first | (go_at_call 94; exact Ext.call (hcm.out _)) | (go_at_call 111; exact Ext.same (hch.out _)))))
        refine wpQuiet_nil ?_
        intro _ hw'
        obtain ⟨x9, hw''⟩ := hw'
        subst hw''
        have hG9 := Lib.hid (heap_below x9.below hG1.out)
        have hB9 := Lib.hid (below_trans hB1.out x9.below)
        go_wp2_with fail
        go_roundw
        case rel => exact ⟨k + 1, by omega, by go_num, hn, hB9, hG9⟩
        case measure => simp [Go.RowKit.intOf]; omega
      obtain rfl : k = D.grey.length := by omega
      have hgr := Lib.hid (show GreyRight D from ⟨hGN.out.1, by simpa using hgm.out⟩)
      clear hgm hlt hk
      go_wp2_with fail
      clear p2
      go_loopw [7] (fun i wr => ∃ k : Nat, k ≤ D.spans.length ∧ i = .int .i64 k ∧ Hid (∀ q t, q < k → D.spans[q]? = some t → SpanRight D t) ∧ Hid (Below w.heap.size w wr) ∧ Hid (wr.heap[w.heap.size]? = some (.cells #[.int .i64 D.phase, .int .i64 D.next, .slice ag D.grey.length cg] 34 (0, 0)))) (fun i _ => D.spans.length - (Go.RowKit.intOf i).toNat)
      case atStart => exact ⟨0, Nat.zero_le _, rfl, Lib.hid (fun q t h => absurd h (by omega)), hB, hG⟩
      case round =>
        clear hB hG
        obtain ⟨k, hk, rfl, hsp, hB, hG⟩ := hrel
        have p0 := cell_of_heap hG.out 0 (.int .i64 D.phase) rfl
        have g4 := hf4.out _ hB.out
        by_cases hlt : k < D.spans.length
        · have hlt1 : (k : Int) < (D.spans.length : Int) := by omega
          obtain ⟨s, hks⟩ : ∃ s, D.spans[k]? = some s := ⟨_, List.getElem?_eq_getElem hlt⟩
          obtain ⟨b1, o1, rfl, vl, vp, x0, x1, x2, x3, x4, x5, ⟨al, cl, rfl, _⟩, ⟨ap, cp, rfl, _⟩⟩ := (hr'.out.below hB.out).parts.2.2.1.at_ k s hks
          have hyes := Lib.hid (show SpanRight D s → ∀ q t, q < k + 1 → D.spans[q]? = some t → SpanRight D t from fun h q t hq ht => if e : q = k then by subst e; rw [hks] at ht; cases ht; exact h else hsp.out q t (by omega) ht)
          have hnot := Lib.hid (show ¬ SpanRight D s → ¬ GcRight D from fun h h2 => h (h2.2.2 s (List.mem_of_getElem? hks)))
          have hP := Lib.hid (show SpanRight D s ↔ ((s.swept = true → D.phase = 4) ∧ (s.mark ≠ 0 → D.phase ≠ 0 ∧ s.swept = false)) from Iff.rfl)
          have bbk := Lib.hid (below_box wr (.cells #[.int .i64 s.page, .int .i64 s.cls, .int .i64 s.mark, .bool s.swept, .slice al s.lens.length cl, .slice ap s.ptrs.length cp] 73))
          have hBk := Lib.hid (below_trans hB.out bbk.out)
          have hGk := Lib.hid (heap_below bbk.out hG.out)
          have p0k := cell_of_heap hGk.out 0 (.int .i64 D.phase) rfl
          clear hks hB hG
          generalize SpanRight D s = SR at *
          generalize s.swept = sw at *
          generalize s.mark = mk at *
          generalize D.phase = ph at *
          by_cases e0 : mk = 0
          · by_cases e4 : ph = 4
            · have n := Lib.hid (hyes.out (hP.out.2 ⟨fun _ => e4, fun h => absurd e0 h⟩))
              subst e0 e4
              clear hP hyes hnot
              cases sw
              · go_wp2_with fail
                go_roundw
                case rel => exact ⟨k + 1, by omega, by go_num, n, hBk, hGk⟩
                case measure => simp [Go.RowKit.intOf]; omega
              · go_wp2_with fail
                go_roundw
                case rel => exact ⟨k + 1, by omega, by go_num, n, hBk, hGk⟩
                case measure => simp [Go.RowKit.intOf]; omega
            · have f4 : (ph != 4) = true := bne_iff_ne.2 e4
              cases sw
              · have n := Lib.hid (hyes.out (hP.out.2 ⟨fun h => absurd h (by decide), fun h => absurd e0 h⟩))
                subst e0
                clear hP hyes hnot e4
                go_wp2_with fail
                go_roundw
                case rel => exact ⟨k + 1, by omega, by go_num, n, hBk, hGk⟩
                case measure => simp [Go.RowKit.intOf]; omega
              · have n := Lib.hid (IsB.no (hnot.out fun h => e4 ((hP.out.1 h).1 rfl)))
                subst e0
                clear hP hyes hnot e4
                go_wp2_with fail
                go_ret
                exact ⟨n.out, hBk.out⟩
          · have f0 : (mk != 0) = true := bne_iff_ne.2 e0
            cases sw
            · by_cases e1 : ph = 0
              · have n := Lib.hid (IsB.no (hnot.out fun h => ((hP.out.1 h).2 e0).1 e1))
                subst e1
                clear hP hyes hnot e0
                go_wp2_with fail
                go_ret
                exact ⟨n.out, hBk.out⟩
              · have n := Lib.hid (hyes.out (hP.out.2 ⟨fun h => absurd h (by decide), fun _ => ⟨e1, rfl⟩⟩))
                have f1 : (ph == 0) = false := beq_eq_false_iff_ne.2 e1
                clear hP hyes hnot e0 e1
                go_wp2_with fail
                go_roundw
                case rel => exact ⟨k + 1, by omega, by go_num, n, hBk, hGk⟩
                case measure => simp [Go.RowKit.intOf]; omega
            · have n := Lib.hid (IsB.no (hnot.out fun h => by have := ((hP.out.1 h).2 e0).2; cases this))
              by_cases e4 : ph = 4
              · subst e4
                clear hP hyes hnot e0
                go_wp2_with fail
                go_ret
                exact ⟨n.out, hBk.out⟩
              · have f4 : (ph != 4) = true := bne_iff_ne.2 e4
                clear hP hyes hnot e0 e4
                go_wp2_with fail
                go_ret
                exact ⟨n.out, hBk.out⟩
        · obtain rfl : k = D.spans.length := by omega
          have n := Lib.hid (IsB.yes (P := GcRight D) ⟨hgr.out, hGN.out.2, fun s hs => by obtain ⟨q, hq⟩ := List.mem_iff_getElem?.1 hs; exact hsp.out q s (List.getElem?_eq_some_iff.1 hq).1 hq⟩)
          go_wp2_with fail
          go_ret
          exact ⟨n.out, hB.out⟩
end Go.Proofs.YtpaepkcfdnddgaaGreat

namespace Go.Proofs.YtpaepkcfdnddgaaGreat
open Go.RowKit
set_option linter.unusedVariables false
set_option linter.unusedSimpArgs false

/-- All pointers of the objects at the first m addresses of Grey. -/
def greyPtrs (D : WD) : List Int → List Int → Prop := fun L fr => fr.length ≤ 16 * L.length ∧ (∀ b, HasObj D b → (b ∈ fr ↔ PtrsOf D L b)) ∧ ∀ b, b ∈ fr → b ≠ 0
theorem greyPtrs.nil (D : WD) : greyPtrs D [] [] := ⟨by simp, fun b _ => ⟨fun h => by simp at h, fun ⟨a, _, _, _, h, _⟩ => by simp at h⟩, fun b h => by simp at h⟩
theorem greyPtrs.snoc {D : WD} {L fr : List Int} {x : Int} {k j : Nat} {s : SpanD} (hF : HeapForm D) (h : greyPtrs D L fr) (ho : IsObj D x k j) (hs : D.spans[k]? = some s) : greyPtrs D (L ++ [x]) (fr ++ nz (ptrW D s j)) := by
  have hl := nz_len16 hF ho hs
  refine ⟨by have := h.1; simp only [List.length_append, List.length_cons, List.length_nil]; omega, fun b hb => ?_, fun b hb => ?_⟩
  · rw [List.mem_append, h.2.1 b hb, nz_mem (obj_ne hF hb)]
    constructor
    · rintro (⟨a, k', j', s', ha, h1, h2, h3⟩ | hm)
      · exact ⟨a, k', j', s', List.mem_append.2 (.inl ha), h1, h2, h3⟩
      · exact ⟨x, k, j, s, by simp, ho, hs, hm⟩
    · rintro ⟨a, k', j', s', ha, h1, h2, h3⟩
      rcases List.mem_append.1 ha with ha | ha
      · exact .inl ⟨a, k', j', s', ha, h1, h2, h3⟩
      · obtain rfl := List.mem_singleton.1 ha
        obtain ⟨rfl, rfl⟩ := h1.unique hF ho
        rw [hs] at h2
        cases h2
        exact .inr h3
  · rcases List.mem_append.1 hb with hb | hb
    · exact h.2.2 b hb
    · exact (nz_mem_iff.1 hb).2
set_option maxRecDepth 100000 in
set_option maxHeartbeats 8000000 in
theorem swhite_any (B : Nat) (v : Value) (D : WD) (hF : HeapForm D) (hg : ∀ a, a ∈ D.grey → HasObj D a) (hgl : D.grey.length ≤ 384) (w : World) (hr : RdW w v D) (hB : BoxW w B v) :
    Calls Tryz.prog 115 #[.pointer (some ⟨B, 0, none⟩)] w fun e w' => ∃ L u, Hid (Asc L ∧ ∀ a, a ∈ L ↔ Coming D a) ∧ e = .returned u ∧ w'.ownsRow w.heap.size 3 1 u L.length (L.map (Value.int .i64)) ∧ Below w.heap.size w w' := by
  have hr' := Lib.hid hr
  have hB' := Lib.hid hB
  have hF' := Lib.hid hF
  have hg' := Lib.hid hg
  obtain ⟨vw, vd, vs, vm, vg, rfl, a1, a2, a3, a4, a5⟩ := hr
  obtain ⟨ag, cg, rfl, hgm, xg⟩ := a5
  have xg' := Lib.hid xg
  have G8 := Lib.hid (fun (w' : World) (hb : Below w.heap.size w w') => cell_below hb (hB.cell 8 (.slice ag D.grey.length cg) rfl))
  clear a1 a2 a3 a4 xg hB hF hg hgm
  go_enter Tryz.func115, Tryz.ntmps115
  go_wp2_with fail
  go_loopw [4, 5] (fun v i wr => ∃ (m : Nat) (fr : List Int), m ≤ D.grey.length ∧ i = .int .i64 m ∧ Hid (greyPtrs D (D.grey.take m) fr) ∧ Hid (wr.ownsRow w.heap.size 3 1 v fr.length (fr.map (Value.int .i64))) ∧ Hid (Below w.heap.size w wr)) (fun _ i _ => D.grey.length - (Go.RowKit.intOf i).toNat)
  case atStart => exact ⟨0, [], Nat.zero_le _, rfl, Lib.hid (by simpa using greyPtrs.nil D), Lib.hid (World.ownsRow_nil _ _ _ _), Lib.hid (Below.refl _ _)⟩
  case round =>
    obtain ⟨m, fr, hm, rfl, hfr, hown, hb⟩ := hrel
    have g8 := G8.out _ hb.out
    have hfl := hfr.out.1
    rw [List.length_take] at hfl
    by_cases hlt : m < D.grey.length
    · have hlt1 : (m : Int) < (D.grey.length : Int) := by omega
      obtain ⟨bg, og, rfl, x0⟩ := xg'.out m hlt
      have x1 := cell_below hb.out x0
      have hmem := Lib.hid (show HasObj D (D.grey[m]?.getD 0) from hg'.out _ (by rw [List.getElem?_eq_getElem hlt]; exact List.getElem_mem hlt))
      have hfind := Lib.hid (find_at B _ D hF'.out (D.grey[m]?.getD 0) wr (hr'.out.below hb.out) (hB'.out.below hb.out))
      have ht1 := Lib.hid (take_one hlt)
      clear x0
      generalize D.grey[m]?.getD 0 = x at *
      obtain ⟨au, cu, hu⟩ := own_slice hown.out
      subst hu
      go_wp2_with fail
      refine hfind.out.mono ?_
      rintro e w1 ⟨⟨r, q, rfl, hq⟩, b1⟩
      have hb1 := Lib.hid (below_trans hb.out b1)
      have hown1 := Lib.hid (own_below hown.out b1)
      clear b1 hfind g8 x1 hown hb
      rcases hq with ⟨k, j, _, ho, rfl, rfl⟩ | ⟨hn, rfl, rfl⟩
      case inr => exact absurd hmem.out (HasObj.no (hn hF'.out))
      obtain ⟨s, hks, hin, p0, p1⟩ := obj_slot hF'.out ho
      have hpt := Lib.hid (sptrs_any B _ D k j s hks hin p0 p1 w1 (hr'.out.below hb1.out) (hB'.out.below hb1.out))
      have hnx := Lib.hid (show greyPtrs D (D.grey.take (m + 1)) (fr ++ nz (ptrW D s j)) by rw [ht1.out]; exact hfr.out.snoc hF'.out ho hks)
      have hpl := nz_len16 hF'.out ho hks
      clear ho hks hin p0 p1 hmem ht1
      generalize nz (ptrW D s j) = Z at *
      go_wp2_with (first
        | (go_at_call 114; refine hpt.out.mono ?_; rintro e w5 ⟨u4, rfl, h4, b5⟩; obtain ⟨a4, c4, hu4⟩ := own_slice h4; subst hu4; have own5 := Lib.hid (own_below hown1.out b5); have src5 := Lib.hid (Rd.src (Rd.of_owns h4)); have hb5 := Lib.hid (below_trans hb1.out b5); clear h4 b5)
        | (at_builtin; refine wpList_app rfl (.tmp 34) (.tmp 38) 22 rfl w.heap.size 3 (.int .i64 0) 1 8 Tryz.underlying22 infoInt rfl (by decide) _ fr.length _ rfl own5.out a4 Z.length c4 (Z.map (Value.int .i64)) rfl src5.out (by unfold maxLen; omega) (by omega) hb5.out.size ?_; intro v6 w6 o6 g6))
      have hb6 := Lib.hid (row_below hb5.out own5.out g6 hb5.out.size)
      have o6' := Lib.hid (show w6.ownsRow w.heap.size 3 1 v6 (fr ++ Z).length ((fr ++ Z).map (Value.int .i64)) by simpa using o6)
      clear o6 g6
      go_wp2_with fail
      go_roundw
      case rel => exact ⟨m + 1, fr ++ Z, by omega, by go_num, hnx, o6', hb6⟩
      case measure => simp [Go.RowKit.intOf]; omega
    obtain rfl : m = D.grey.length := by omega
    have hfr2 := Lib.hid (show greyPtrs D D.grey fr by simpa using hfr.out)
    have hfl2 : fr.length ≤ 1048576 := by omega
    obtain ⟨au, cu, hu⟩ := own_slice hown.out
    subst hu
    have two := Lib.hid (show TwoL w wr (.slice none 0 0) (.slice au fr.length cu) [] fr from ⟨World.ownsRow_nil _ _ _ _, .of_row hown.out, fun q hq => by simp [Value.ownBlock] at hq, hb.out⟩)
    clear hfr hlt hm hfl
    go_wp2_with fail
    clear g8 hown hb
    go_loopw [3, 4] (fun u v wr => ∃ S T : List Int, Hid (GoSt D (fun k j => ¬ MarkedP D k j) fr S T) ∧ Hid (Asc S) ∧ Hid (T.length ≤ fr.length + 16 * S.length) ∧ Hid (TwoL w wr u v S T)) (fun u v _ => lenV v + 17 * (384 - lenV u))
    case atStart => exact ⟨[], fr, Lib.hid (GoSt.zero _ _ _), Lib.hid List.Pairwise.nil, Lib.hid (by simp), two⟩
    case round =>
      clear two
      obtain ⟨S, T, st, asc, len, two⟩ := hrel
      obtain ⟨au, cu, hu⟩ := own_slice two.out.own
      rcases T with _ | ⟨x, T⟩
      · obtain ⟨av, cv, hv⟩ := two.out.que.shape
        subst hu hv
        go_wp2_with fail
        go_ret
        exact ⟨S, _, Lib.hid ⟨asc.out, fun a => (st.out.done a).trans (Coming.of_led hfr2.out.2.1 a)⟩, rfl, two.out.own, two.out.below⟩
      obtain ⟨g, o, cap, hv, x0, hcap, hcm, htail⟩ := two.out.que.cons
      subst hu hv
      have hw := two.out.below
      have hlenS : S.length ≤ 384 := st.out.len hF'.out
      have hl := len.out
      simp only [List.length_cons] at hl
      have hpos : (0 : Int) < ((T.length + 1 : Nat) : Int) := by omega
      have hmem := Lib.hid (show ∀ a, a ∈ x :: T ↔ a = x ∨ a ∈ T from fun a => List.mem_cons)
      have hfind := Lib.hid (find_at B _ D hF'.out x wr (hr'.out.below hw) (hB'.out.below hw))
      have two' := Lib.hid (fun (o' : Nat) ho' => two.out.tail (htail o' ho') rfl)
      have hcm' : cap ≤ 9223372036854775807 := by unfold maxLen at hcm; omega
      clear htail hw two hcm len
      by_cases hc : cap = 1
      · subst hc
        obtain rfl : T = [] := List.length_eq_zero_iff.1 (by omega)
        have two : Hid (TwoL w wr (.slice au S.length cu) (.slice (some ⟨g, o, none⟩) 0 0) S []) := Lib.hid (two'.out o (.inr ⟨rfl, rfl⟩))
        clear two'
        go_wp2_with fail
        refine hfind.out.mono ?_
        rintro e w1 ⟨⟨r, q, rfl, hq⟩, b1⟩
        have two1 := Lib.hid (two.out.next b1)
        clear b1 hfind two
        have hq := Lib.hid hq
        have hhas := Lib.hid (shas_any (.slice au S.length cu) x S w1 (Rd.of_owns two1.out.own))
        go_wp2_with fail
        refine hhas.out.mono ?_
        rintro e w2 ⟨hm, rfl⟩
        replace hm := hm.elim
        rcases hm with ⟨hm, rfl⟩ | ⟨hm, rfl⟩
        · have st2 := Lib.hid (st.out.skip hmem.out (.inr hm))
          clear hm
          go_wp2_with fail
          go_roundw
          case rel => exact ⟨S, [], st2, asc, Lib.hid (by omega), two1⟩
          case measure => simp only [lenV, List.length_nil]; omega
        have hm := Lib.hid hm
        rcases hq.out with ⟨k, j, _, ho, rfl, rfl⟩ | ⟨hn, rfl, rfl⟩
        case inr =>
          have st2 := Lib.hid (st.out.skip hmem.out (.inl (HasObj.no (hn hF'.out))))
          clear hn
          go_wp2_with fail
          go_roundw
          case rel => exact ⟨S, [], st2, asc, Lib.hid (by omega), two1⟩
          case measure => simp only [lenV, List.length_nil]; omega
        obtain ⟨s, hks, hin, p0, p1⟩ := obj_slot hF'.out ho
        have ho' := Lib.hid ho
        have hks' := Lib.hid hks
        have hin' := Lib.hid hin
        have p0' := Lib.hid p0
        have p1' := Lib.hid p1
        clear ho hks hin p0 p1
        have hput := Lib.hid (sput_fresh w.heap.size _ S x asc.out (by omega) w1 two1.out.below.size two1.out.own)
        go_wp2_with fail
        refine hput.out.mono ?_
        rintro e w3 ⟨u', S', hp, rfl, hown, hfr, b3⟩
        have two3 := Lib.hid (two1.out.put b3 hown hfr)
        obtain ⟨a', c', hu'⟩ := own_slice hown
        subst hu'
        have hsl := Lib.hid (PutIs.len' st.out.nodup hm.out hp)
        have hpl := nz_len16 hF'.out ho'.out hks'.out
        have hnod := Lib.hid hp.1.nodup
        have hasc := Lib.hid hp.1
        have hS := Lib.hid hp.2.1
        clear hown hfr b3 hhas hput hp
        have hmk := Lib.hid (smarked_any B _ D k j s hks'.out (by have := hin'.out.bd; omega) w3 (hr'.out.below two3.out.below) (hB'.out.below two3.out.below))
        go_wp2_with fail
        refine hmk.out.mono ?_
        rintro e w4 ⟨hm2, b4⟩
        replace hm2 := hm2.elim
        have two4 := Lib.hid (two3.out.next b4)
        clear b4 hmk two3
        rcases hm2 with ⟨hm2, rfl⟩ | ⟨hm2, rfl⟩
        · have st2 := Lib.hid (st.out.put (T'' := []) hF'.out hmem.out ho'.out hks'.out hnod.out hS.out (fun hn => absurd hm2 hn) (fun _ => rfl))
          have h384 := st2.out.len hF'.out
          clear hm2
          go_wp2_with fail
          go_roundw
          case rel => exact ⟨S', [], st2, hasc, Lib.hid (by have := hsl.out; (try simp only [List.length_nil]); omega), two4⟩
          case measure => have := hsl.out; simp only [lenV, List.length_nil]; omega
        have st2 := Lib.hid (st.out.put (T'' := [] ++ nz (ptrW D s j)) hF'.out hmem.out ho'.out hks'.out hnod.out hS.out (fun _ b hb => by rw [List.mem_append, nz_mem (obj_ne hF'.out hb)]) (fun hn => absurd hm2 hn))
        have h384 := st2.out.len hF'.out
        have hpt := Lib.hid (sptrs_any B _ D k j s hks'.out hin'.out p0'.out p1'.out w4 (hr'.out.below two4.out.below) (hB'.out.below two4.out.below))
        clear hm2
        generalize nz (ptrW D s j) = Z at *
        go_wp2_with (first
          | (go_at_call 114; refine hpt.out.mono ?_; rintro e w5 ⟨u4, rfl, h4, b5⟩; obtain ⟨a4, c4, hu4⟩ := own_slice h4; subst hu4; have two5 := Lib.hid (two4.out.next b5); have src5 := Lib.hid (Rd.src (Rd.of_owns h4)); clear h4 b5)
          | (at_builtin; refine wpList_appQ rfl (.tmp 69) (.tmp 73) rfl rfl two5.out.que a4 Z.length c4 Z rfl rfl src5.out (by omega) two5.out.below.size ?_; intro v6 w6 q6 g6 f6))
        have two6 := Lib.hid (two5.out.app g6 q6 f6)
        obtain ⟨a6, c6, hv6⟩ := q6.shape
        subst hv6
        clear q6 g6 f6
        go_wp2_with fail
        go_roundw
        case rel => exact ⟨S', [] ++ Z, st2, hasc, Lib.hid (by have := hsl.out; simp only [List.length_append, List.length_nil]; omega), two6⟩
        case measure => simp only [lenV, List.length_append, List.length_nil]; (try have hsl2 := hsl.out); omega
      · have two := Lib.hid (two'.out (o + 1) (.inl rfl))
        clear two'
        go_wp2_with fail
        refine hfind.out.mono ?_
        rintro e w1 ⟨⟨r, q, rfl, hq⟩, b1⟩
        have two1 := Lib.hid (two.out.next b1)
        clear b1 hfind two
        have hq := Lib.hid hq
        have hhas := Lib.hid (shas_any (.slice au S.length cu) x S w1 (Rd.of_owns two1.out.own))
        go_wp2_with fail
        refine hhas.out.mono ?_
        rintro e w2 ⟨hm, rfl⟩
        replace hm := hm.elim
        rcases hm with ⟨hm, rfl⟩ | ⟨hm, rfl⟩
        · have st2 := Lib.hid (st.out.skip hmem.out (.inr hm))
          clear hm
          go_wp2_with fail
          go_roundw
          case rel => exact ⟨S, T, st2, asc, Lib.hid (by omega), two1⟩
          case measure => simp only [lenV, List.length_nil]; omega
        have hm := Lib.hid hm
        rcases hq.out with ⟨k, j, _, ho, rfl, rfl⟩ | ⟨hn, rfl, rfl⟩
        case inr =>
          have st2 := Lib.hid (st.out.skip hmem.out (.inl (HasObj.no (hn hF'.out))))
          clear hn
          go_wp2_with fail
          go_roundw
          case rel => exact ⟨S, T, st2, asc, Lib.hid (by omega), two1⟩
          case measure => simp only [lenV, List.length_nil]; omega
        obtain ⟨s, hks, hin, p0, p1⟩ := obj_slot hF'.out ho
        have ho' := Lib.hid ho
        have hks' := Lib.hid hks
        have hin' := Lib.hid hin
        have p0' := Lib.hid p0
        have p1' := Lib.hid p1
        clear ho hks hin p0 p1
        have hput := Lib.hid (sput_fresh w.heap.size _ S x asc.out (by omega) w1 two1.out.below.size two1.out.own)
        go_wp2_with fail
        refine hput.out.mono ?_
        rintro e w3 ⟨u', S', hp, rfl, hown, hfr, b3⟩
        have two3 := Lib.hid (two1.out.put b3 hown hfr)
        obtain ⟨a', c', hu'⟩ := own_slice hown
        subst hu'
        have hsl := Lib.hid (PutIs.len' st.out.nodup hm.out hp)
        have hpl := nz_len16 hF'.out ho'.out hks'.out
        have hnod := Lib.hid hp.1.nodup
        have hasc := Lib.hid hp.1
        have hS := Lib.hid hp.2.1
        clear hown hfr b3 hhas hput hp
        have hmk := Lib.hid (smarked_any B _ D k j s hks'.out (by have := hin'.out.bd; omega) w3 (hr'.out.below two3.out.below) (hB'.out.below two3.out.below))
        go_wp2_with fail
        refine hmk.out.mono ?_
        rintro e w4 ⟨hm2, b4⟩
        replace hm2 := hm2.elim
        have two4 := Lib.hid (two3.out.next b4)
        clear b4 hmk two3
        rcases hm2 with ⟨hm2, rfl⟩ | ⟨hm2, rfl⟩
        · have st2 := Lib.hid (st.out.put (T'' := T) hF'.out hmem.out ho'.out hks'.out hnod.out hS.out (fun hn => absurd hm2 hn) (fun _ => rfl))
          have h384 := st2.out.len hF'.out
          clear hm2
          go_wp2_with fail
          go_roundw
          case rel => exact ⟨S', T, st2, hasc, Lib.hid (by have := hsl.out; (try simp only [List.length_nil]); omega), two4⟩
          case measure => have := hsl.out; simp only [lenV, List.length_nil]; omega
        have st2 := Lib.hid (st.out.put (T'' := T ++ nz (ptrW D s j)) hF'.out hmem.out ho'.out hks'.out hnod.out hS.out (fun _ b hb => by rw [List.mem_append, nz_mem (obj_ne hF'.out hb)]) (fun hn => absurd hm2 hn))
        have h384 := st2.out.len hF'.out
        have hpt := Lib.hid (sptrs_any B _ D k j s hks'.out hin'.out p0'.out p1'.out w4 (hr'.out.below two4.out.below) (hB'.out.below two4.out.below))
        clear hm2
        generalize nz (ptrW D s j) = Z at *
        go_wp2_with (first
          | (go_at_call 114; refine hpt.out.mono ?_; rintro e w5 ⟨u4, rfl, h4, b5⟩; obtain ⟨a4, c4, hu4⟩ := own_slice h4; subst hu4; have two5 := Lib.hid (two4.out.next b5); have src5 := Lib.hid (Rd.src (Rd.of_owns h4)); clear h4 b5)
          | (at_builtin; refine wpList_appQ rfl (.tmp 69) (.tmp 73) rfl rfl two5.out.que a4 Z.length c4 Z rfl rfl src5.out (by omega) two5.out.below.size ?_; intro v6 w6 q6 g6 f6))
        have two6 := Lib.hid (two5.out.app g6 q6 f6)
        obtain ⟨a6, c6, hv6⟩ := q6.shape
        subst hv6
        clear q6 g6 f6
        go_wp2_with fail
        go_roundw
        case rel => exact ⟨S', T ++ Z, st2, hasc, Lib.hid (by have := hsl.out; simp only [List.length_append, List.length_nil]; omega), two6⟩
        case measure => simp only [lenV, List.length_append, List.length_nil]; (try have hsl2 := hsl.out); omega
end Go.Proofs.YtpaepkcfdnddgaaGreat

namespace Go.Proofs.YtpaepkcfdnddgaaGreat
open Go.RowKit
set_option linter.unusedVariables false

/-- The state behind M users, and behind K' spans and J slots: K is kept, L leads. -/
structure KeepSt (D : WD) (M K' J : Nat) (K L : List Int) : Prop where
  asc : Asc K
  kept : ∀ a, a ∈ K ↔ Coming D a ∨ ∃ k j, Ahead K' J k j ∧ IsObj D a k j ∧ MarkedP D k j
  lead : ∀ a, a ∈ L ↔ (∃ (m : Nat) (r : List Int), m < M ∧ D.muts[m]? = some r ∧ SeenP D m ∧ a ∈ r) ∨ ∃ b k j s, Ahead K' J k j ∧ IsObj D b k j ∧ D.spans[k]? = some s ∧ MarkedP D k j ∧ a ∈ nz (ptrW D s j)
  len : L.length ≤ 6 * M + 256 * K' + 16 * J
theorem ahead_zero {k j : Nat} (h : Ahead 0 0 k j) : False := by unfold Ahead at h; omega
theorem KeepSt.zero {D : WD} {K : List Int} (ha : Asc K) (hm : ∀ a, a ∈ K ↔ Coming D a) : KeepSt D 0 0 0 K [] :=
  ⟨ha, fun a => (hm a).trans ⟨.inl, fun h => h.elim id fun ⟨k, j, h, _⟩ => (ahead_zero h).elim⟩, fun a => ⟨fun h => by simp at h, fun h => h.elim (fun ⟨m, r, h, _⟩ => absurd h (by omega)) fun ⟨b, k, j, s, h, _⟩ => (ahead_zero h).elim⟩, by simp⟩
theorem KeepSt.mutSkip {D : WD} {M : Nat} {K L r : List Int} (h : KeepSt D M 0 0 K L) (hs : ¬ SeenP D M) : KeepSt D (M + 1) 0 0 K L :=
  ⟨h.asc, h.kept, fun a => (h.lead a).trans ⟨fun h => h.imp (fun ⟨m, r, h1, h2⟩ => ⟨m, r, by omega, h2⟩) id, fun h => h.imp (fun ⟨m, r, h1, h2, h3, h4⟩ => ⟨m, r, by
    by_cases e : m = M
    · subst e; exact absurd h3 hs
    · omega, h2, h3, h4⟩) id⟩, by have := h.len; omega⟩
theorem KeepSt.mutAdd {D : WD} {M : Nat} {K L r : List Int} (h : KeepSt D M 0 0 K L) (hr : D.muts[M]? = some r) (h6 : r.length = 6) (hs : SeenP D M) : KeepSt D (M + 1) 0 0 K (L ++ r) := by
  refine ⟨h.asc, h.kept, fun a => ?_, by have := h.len; rw [List.length_append]; omega⟩
  rw [List.mem_append, h.lead a]
  constructor
  · rintro ((⟨m, r', h1, h2⟩ | ⟨b, k, j, s, h1, _⟩) | hm)
    · exact .inl ⟨m, r', by omega, h2⟩
    · exact (ahead_zero h1).elim
    · exact .inl ⟨M, r, by omega, hr, hs, hm⟩
  · rintro (⟨m, r', h1, h2, h3, h4⟩ | ⟨b, k, j, s, h1, _⟩)
    · by_cases e : m = M
      · subst e
        rw [hr] at h2
        cases h2
        exact .inr h4
      · exact .inl (.inl ⟨m, r', by omega, h2, h3, h4⟩)
    · exact (ahead_zero h1).elim
theorem ahead_up {K J k j : Nat} (h : Ahead K J k j) : Ahead K (J + 1) k j := h.imp id fun ⟨e, h⟩ => ⟨e, by omega⟩
theorem ahead_last {K J k j : Nat} (h : Ahead K (J + 1) k j) : Ahead K J k j ∨ (k = K ∧ j = J) := by unfold Ahead at *; omega
theorem KeepSt.skip {D : WD} {M K' J : Nat} {K L : List Int} {s : SpanD} (h : KeepSt D M K' J K L) (hs : D.spans[K']? = some s) (hn : ¬ (0 < s.lens[J]?.getD 0 ∧ MarkedP D K' J)) : KeepSt D M K' (J + 1) K L := by
  have key : ∀ a k j, Ahead K' (J + 1) k j → IsObj D a k j → MarkedP D k j → Ahead K' J k j := fun a k j ha ho hm => by
    rcases ahead_last ha with h | ⟨rfl, rfl⟩
    · exact h
    · obtain ⟨t, ht, _, hp, _⟩ := ho
      rw [hs] at ht
      cases ht
      exact absurd ⟨hp, hm⟩ hn
  exact ⟨h.asc, fun a => (h.kept a).trans ⟨fun h => h.imp id fun ⟨k, j, h1, h2⟩ => ⟨k, j, ahead_up h1, h2⟩, fun h => h.imp id fun ⟨k, j, h1, h2, h3⟩ => ⟨k, j, key a k j h1 h2 h3, h2, h3⟩⟩,
    fun a => (h.lead a).trans ⟨fun h => h.imp id fun ⟨b, k, j, s, h1, h2⟩ => ⟨b, k, j, s, ahead_up h1, h2⟩, fun h => h.imp id fun ⟨b, k, j, s, h1, h2, h3, h4, h5⟩ => ⟨b, k, j, s, key b k j h1 h2 h4, h2, h3, h4, h5⟩⟩, by have := h.len; omega⟩
theorem KeepSt.add {D : WD} {M K' J : Nat} {K L R : List Int} {s : SpanD} {x : Int} (hF : HeapForm D) (h : KeepSt D M K' J K L) (hs : D.spans[K']? = some s) (ho : IsObj D x K' J) (hm : MarkedP D K' J) (hp : PutIs K x R) : KeepSt D M K' (J + 1) R (L ++ nz (ptrW D s J)) := by
  have hl := nz_len16 hF ho hs
  refine ⟨hp.1, fun a => ?_, fun a => ?_, by have := h.len; rw [List.length_append]; omega⟩
  · rw [hp.2.1, h.kept a]
    constructor
    · rintro (rfl | h | ⟨k, j, h1, h2⟩)
      · exact .inr ⟨K', J, .inr ⟨rfl, by omega⟩, ho, hm⟩
      · exact .inl h
      · exact .inr ⟨k, j, ahead_up h1, h2⟩
    · rintro (h | ⟨k, j, h1, h2, h3⟩)
      · exact .inr (.inl h)
      · rcases ahead_last h1 with h1 | ⟨rfl, rfl⟩
        · exact .inr (.inr ⟨k, j, h1, h2, h3⟩)
        · left
          obtain ⟨t, ht, _, _, e⟩ := ho
          obtain ⟨t', ht', _, _, e'⟩ := h2
          rw [ht] at ht'
          cases ht'
          omega
  · rw [List.mem_append, h.lead a]
    constructor
    · rintro ((h | ⟨b, k, j, t, h1, h2⟩) | h)
      · exact .inl h
      · exact .inr ⟨b, k, j, t, ahead_up h1, h2⟩
      · exact .inr ⟨x, K', J, s, .inr ⟨rfl, by omega⟩, ho, hs, hm, h⟩
    · rintro (h | ⟨b, k, j, t, h1, h2, h3, h4, h5⟩)
      · exact .inl (.inl h)
      · rcases ahead_last h1 with h1 | ⟨rfl, rfl⟩
        · exact .inl (.inr ⟨b, k, j, t, h1, h2, h3, h4, h5⟩)
        · rw [hs] at h3
          cases h3
          exact .inr h5
theorem ahead_next {D : WD} {K : Nat} {s : SpanD} (hs : D.spans[K]? = some s) {a : Int} {k j : Nat} (h : Ahead (K + 1) 0 k j) (ho : IsObj D a k j) : Ahead K s.lens.length k j := by
  rcases h with h | ⟨_, h⟩
  · by_cases e : k = K
    · subst e
      obtain ⟨t, ht, hj, _⟩ := ho
      rw [hs] at ht
      cases ht
      exact .inr ⟨rfl, hj⟩
    · exact .inl (by omega)
  · omega
theorem KeepSt.next {D : WD} {M K' : Nat} {K L : List Int} {s : SpanD} (h : KeepSt D M K' s.lens.length K L) (hs : D.spans[K']? = some s) (h16 : s.lens.length ≤ 16) : KeepSt D M (K' + 1) 0 K L :=
  ⟨h.asc, fun a => (h.kept a).trans ⟨fun h => h.imp id fun ⟨k, j, h1, h2⟩ => ⟨k, j, .inl (by unfold Ahead at h1; omega), h2⟩, fun h => h.imp id fun ⟨k, j, h1, h2, h3⟩ => ⟨k, j, ahead_next hs h1 h2, h2, h3⟩⟩,
    fun a => (h.lead a).trans ⟨fun h => h.imp id fun ⟨b, k, j, t, h1, h2⟩ => ⟨b, k, j, t, .inl (by unfold Ahead at h1; omega), h2⟩, fun h => h.imp id fun ⟨b, k, j, t, h1, h2, h3⟩ => ⟨b, k, j, t, ahead_next hs h1 h2, h2, h3⟩⟩, by have := h.len; omega⟩
theorem KeepSt.klen {D : WD} {M K' J : Nat} {K L : List Int} (hF : HeapForm D) (h : KeepSt D M K' J K L) : K.length ≤ 384 :=
  nodup_range (lo := D.base) h.asc.nodup fun a ha => obj_range hF (((h.kept a).1 ha).elim (fun h => h.obj) fun ⟨k, j, _, ho, _⟩ => ⟨k, j, ho⟩)
theorem KeepSt.done {D : WD} {K L : List Int} (h : KeepSt D D.muts.length D.spans.length 0 K L) (h0 : D.phase ≠ 0) (h4 : D.phase ≠ 4) : (∀ a, a ∈ L → a = 0 ∨ a ∈ K) ↔ KeptRight D := by
  have hk : ∀ a, a ∈ K ↔ Coming D a ∨ MarkedObj D a := fun a => (h.kept a).trans ⟨fun h => h.imp id fun ⟨k, j, _, h⟩ => ⟨k, j, h⟩, fun h => h.imp id fun ⟨k, j, ho, hm⟩ => ⟨k, j, .inl (by obtain ⟨s, hs, _⟩ := ho; exact (List.getElem?_eq_some_iff.1 hs).1), ho, hm⟩⟩
  constructor
  · intro hall _ _
    refine ⟨fun m r hm hr hs a ha => ?_, fun b k j s hah ho hs hm a ha => ?_⟩
    · exact (hall a ((h.lead a).2 (.inl ⟨m, r, hm, hr, hs, ha⟩))).imp id (hk a).1
    · by_cases e : a = 0
      · exact .inl e
      · exact (hall a ((h.lead a).2 (.inr ⟨b, k, j, s, hah, ho, hs, hm, nz_mem_iff.2 ⟨ha, e⟩⟩))).imp id (hk a).1
  · intro hK a ha
    obtain ⟨h1, h2⟩ := hK h0 h4
    have : Kept D a := by
      rcases (h.lead a).1 ha with ⟨m, r, hm, hr, hs, ha⟩ | ⟨b, k, j, s, hah, ho, hs, hm, ha⟩
      · exact h1 m r hm hr hs a ha
      · exact h2 b k j s hah ho hs hm a (nz_mem_iff.1 ha).1
    exact this.imp id (hk a).2

set_option maxRecDepth 100000 in
set_option maxHeartbeats 8000000 in
theorem skeptOk_any (B : Nat) (v : Value) (D : WD) (hF : HeapForm D) (hgm : GreyMarked D D.grey) (w : World) (hr : RdW w v D) (hB : BoxW w B v) :
    Calls Tryz.prog 75 #[.pointer (some ⟨B, 0, none⟩)] w fun e w' => IsB (KeptRight D) e ∧ Below w.heap.size w w' := by
  have hr' := Lib.hid hr
  have hB' := Lib.hid hB
  have hF' := Lib.hid hF
  have hgl : D.grey.length ≤ 384 := nodup_range (lo := D.base) hgm.1 fun a ha => obj_range hF (hgm.obj a ha)
  have hwhite := Lib.hid (swhite_any B v D hF hgm.obj hgl w hr hB)
  obtain ⟨vw, vd, vs, vm, vg, rfl, a1, a2, a3, a4, a5⟩ := hr
  obtain ⟨aS, cS, rfl, hsl, _⟩ := a3
  obtain ⟨aM, cM, rfl, hml, hxm⟩ := a4
  have hxm' := Lib.hid hxm
  unfold maxLen at hsl hml
  have g6 := hB.cell 6 _ rfl
  have hf4 := Lib.hid (fun (w' : World) (hb : Below w.heap.size w w') => cell_below hb (hB.cell 4 (.slice aS D.spans.length cS) rfl))
  have hf5 := Lib.hid (fun (w' : World) (hb : Below w.heap.size w w') => cell_below hb (hB.cell 5 (.slice aM D.muts.length cM) rfl))
  have hspl := hF.spans
  have hpl := hF.geo.2.2.2.2.1
  have hmu := hF.geo.2.2.2.2.2.2
  clear a1 a2 a5 hF hB hgm hxm hgl
  by_cases e0 : D.phase = 0
  · have n := Lib.hid (IsB.yes (P := KeptRight D) fun h _ => absurd e0 h)
    rw [e0] at g6
    clear e0
    go_enter Tryz.func75, Tryz.ntmps75
    go_wp2_with fail
    go_ret
    exact ⟨n.out, Below.refl _ _⟩
  by_cases e4 : D.phase = 4
  · have n := Lib.hid (IsB.yes (P := KeptRight D) fun _ h => absurd e4 h)
    rw [e4] at g6
    clear e0 e4
    go_enter Tryz.func75, Tryz.ntmps75
    go_wp2_with fail
    go_ret
    exact ⟨n.out, Below.refl _ _⟩
  have d0 : (D.phase == 0) = false := beq_eq_false_iff_ne.2 e0
  have d4 : (D.phase == 4) = false := beq_eq_false_iff_ne.2 e4
  have e0' := Lib.hid e0
  have e4' := Lib.hid e4
  clear e0 e4
  go_enter Tryz.func75, Tryz.ntmps75
  go_wp2_with fail
  refine hwhite.out.mono ?_
  rintro e w1 ⟨K, u, hK, rfl, hu, b1⟩
  have st0 := Lib.hid (KeepSt.zero hK.out.1 hK.out.2)
  have two0 := Lib.hid (show TwoL w w1 u (.slice none 0 0) K [] from ⟨hu, .inl ⟨rfl, rfl⟩, fun q hq hv => by simp [Value.ownBlock] at hv, b1⟩)
  clear hu b1 hK hwhite g6 d0 d4
  go_wp2_with fail
  go_loopw [4, 5] (fun v i wr => ∃ (m : Nat) (L : List Int), m ≤ D.muts.length ∧ i = .int .i64 m ∧ Hid (KeepSt D m 0 0 K L) ∧ Hid (TwoL w wr u v K L)) (fun _ i _ => D.muts.length - (Go.RowKit.intOf i).toNat)
  case atStart => exact ⟨0, [], Nat.zero_le _, rfl, st0, two0⟩
  case round =>
    clear st0 two0
    obtain ⟨m, L, hm, rfl, st, two⟩ := hrel
    have g5 := hf5.out _ two.out.below
    obtain ⟨av, cv, hv⟩ := two.out.que.shape
    subst hv
    by_cases hlt : m < D.muts.length
    · have hlt1 : (m : Int) < (D.muts.length : Int) := by omega
      obtain ⟨r, hmr⟩ : ∃ r, D.muts[m]? = some r := ⟨_, List.getElem?_eq_getElem hlt⟩
      have h6 := hF'.out.roots m r hmr
      obtain ⟨bM, oM, vr, rfl, xm0, hrd⟩ := hxm'.out m r hmr
      obtain ⟨ar, cr, rfl, hrl, xr⟩ := id hrd
      have xm := cell_below two.out.below xm0
      have src := Lib.hid (Rd.src (hrd.below two.out.below))
      have hseen := Lib.hid (l3seen_any B _ D (m : Int) wr (hr'.out.below two.out.below) (hB'.out.below two.out.below))
      have hsk := Lib.hid (fun hs => st.out.mutSkip (r := r) hs)
      have had := Lib.hid (fun hs => st.out.mutAdd hmr h6 hs)
      have hll := st.out.len
      have h6' := Lib.hid h6
      clear xm0 hrd xr hmr hrl h6
      go_wp2_with fail
      refine hseen.out.mono ?_
      rintro e w2 ⟨hq, rfl⟩
      replace hq := hq.elim
      clear hseen
      rcases hq with ⟨hq, rfl⟩ | ⟨hq, rfl⟩
      · have st2 := Lib.hid (had.out hq)
        clear hq hsk had
        go_wp2_with (at_builtin; refine wpList_appQ rfl (.tmp 37) (.tmp 45) rfl rfl two.out.que ar r.length cr r rfl rfl src.out (by have := h6'.out; omega) two.out.below.size ?_; intro v6 w6 q6 g6 f6)
        have two6 := Lib.hid (two.out.app g6 q6 f6)
        clear q6 g6 f6 g5 xm
        go_wp2_with fail
        go_roundw
        case rel => exact ⟨m + 1, L ++ r, by omega, by go_num, st2, two6⟩
        case measure => simp [Go.RowKit.intOf]; omega
      · have st2 := Lib.hid (hsk.out hq)
        clear hq hsk had
        go_wp2_with fail
        go_roundw
        case rel => exact ⟨m + 1, L, by omega, by go_num, st2, two⟩
        case measure => simp [Go.RowKit.intOf]; omega
    obtain rfl : m = D.muts.length := by omega
    clear hlt hm
    obtain ⟨au, cu, hu⟩ := own_slice two.out.own
    subst hu
    go_wp2_with fail
    clear g5
    go_loopw [3, 4, 6] (fun u v k wr => ∃ (k' : Nat) (K L : List Int), k' ≤ D.spans.length ∧ k = .int .i64 k' ∧ Hid (KeepSt D D.muts.length k' 0 K L) ∧ Hid (TwoL w wr u v K L)) (fun _ _ k _ => D.spans.length - (Go.RowKit.intOf k).toNat)
    case atStart => exact ⟨0, K, L, Nat.zero_le _, rfl, st, two⟩
    case round =>
      clear st two
      obtain ⟨k, K, L, hk, rfl, st, two⟩ := hrel
      have g4 := hf4.out _ two.out.below
      obtain ⟨au, cu, hu⟩ := own_slice two.out.own
      obtain ⟨av, cv, hv⟩ := two.out.que.shape
      subst hu hv
      by_cases hlt : k < D.spans.length
      · obtain ⟨s, hks⟩ : ∃ s, D.spans[k]? = some s := ⟨_, List.getElem?_eq_getElem hlt⟩
        have hks' := Lib.hid hks
        have hlt1 : (k : Int) < (D.spans.length : Int) := by omega
        obtain ⟨b1, o1, rfl, vl, vp, x0, x1, x2, x3, x4, x5, ⟨al, cl, rfl, hll, _⟩, _⟩ := (hr'.out.below two.out.below).parts.2.2.1.at_ k s hks
        unfold maxLen at hll
        have A := Lib.hid (hF'.out.span k s hks)
        have hl16 : s.lens.length ≤ 16 := by have := A.out.lens; have := (sl_bd s.cls).2; omega
        clear hks x0 x1 x2 x3 x5
        go_wp2_with fail
        clear x4 g4
        go_loopw [3, 4, 7] (fun u v j wj => ∃ (j' : Nat) (K L : List Int), j' ≤ s.lens.length ∧ j = .int .i64 j' ∧ Hid (KeepSt D D.muts.length k j' K L) ∧ Hid (TwoL w wj u v K L)) (fun _ _ j _ => s.lens.length - (Go.RowKit.intOf j).toNat)
        case atStart => exact ⟨0, K, L, Nat.zero_le _, rfl, st, two⟩
        case round =>
          clear st two
          obtain ⟨j, K, L, hj, rfl, st, two⟩ := hrel
          have hB := Lib.hid two.out.below
          have g4 := hf4.out _ hB.out
          obtain ⟨au, cu, hu⟩ := own_slice two.out.own
          obtain ⟨av, cv, hv⟩ := two.out.que.shape
          subst hu hv
          obtain ⟨b1', o1', he, vl', vp', x0, x1, x2, x3, x4, x5, ⟨al', cl', rfl, _, xl⟩, _⟩ := (hr'.out.below hB.out).parts.2.2.1.at_ k s hks'.out
          obtain ⟨rfl, rfl⟩ : b1 = b1' ∧ o1 = o1' := by simpa using he
          clear he x0 x1 x2 x3 x5
          by_cases hjl : j < s.lens.length
          · have hj1 : (j : Int) < (s.lens.length : Int) := by omega
            obtain ⟨bl, ol, rfl, xj⟩ := xl j hjl
            clear xl
            have hS := (A.out.slot j hjl)
            have hlen := st.out.len
            have hkl := st.out.klen hF'.out
            have hmk := Lib.hid (smarked_any B _ D k j s hks'.out (by omega) _ (hr'.out.below hB.out) (hB'.out.below hB.out))
            have hsk := Lib.hid (fun h => st.out.skip hks'.out h)
            have hob := Lib.hid (show 0 < s.lens[j]?.getD 0 → IsObj D (D.base + atW s (j : Int)) k j from fun hl => ⟨s, hks'.out, hjl, hl, rfl⟩)
            have hin := hF'.out.slotIn hks'.out hjl
            have hpt := Lib.hid (fun (w' : World) (hb : Below w.heap.size w w') => sptrs_any B _ D k j s hks'.out hin hS.p0 (by have := hS.p1; have := hS.l1; omega) w' (hr'.out.below hb) (hB'.out.below hb))
            have hg := hF'.out.geo
            have hsp := A.out
            have had := Lib.hid (fun (w' : World) (hb : Below w.heap.size w w') => addr_any B _ D k j s hks'.out hsp.pg0 (by have := hsp.pg1; have := hg.2.2.2.2.1; omega) (by omega) (by have := hg.1; omega) hg.2.1 w' (hr'.out.below hb) (hB'.out.below hb))
            clear hS hin hg hsp
            generalize s.lens[j]?.getD 0 = l at *
            by_cases hl : 0 < l
            case neg =>
              have hn := Lib.hid (hsk.out fun h => hl h.1)
              go_wp2_with fail
              go_roundw
              case rel => exact ⟨j + 1, K, L, by omega, by go_num, hn, two⟩
              case measure => simp [Go.RowKit.intOf]; omega
            have ho := Lib.hid (hob.out hl)
            clear hob
            go_wp2_with fail
            refine hmk.out.mono ?_
            rintro e w3 ⟨hq, b3⟩
            replace hq := hq.elim
            have two3 := Lib.hid (two.out.next b3)
            clear b3 hmk two g4 x4 xj
            rcases hq with ⟨hq, rfl⟩ | ⟨hq, rfl⟩
            case inr =>
              have hn := Lib.hid (hsk.out fun h => hq h.2)
              clear hq
              go_wp2_with fail
              go_roundw
              case rel => exact ⟨j + 1, K, L, by omega, by go_num, hn, two3⟩
              case measure => simp [Go.RowKit.intOf]; omega
            have hq' := Lib.hid hq
            have had3 := Lib.hid (had.out w3 two3.out.below)
            clear hq hsk
            go_wp2_with fail
            refine had3.out.mono ?_
            rintro e w4 ⟨rfl, b4⟩
            have two4 := Lib.hid (two3.out.next b4)
            have hput := Lib.hid (sput_fresh w.heap.size _ K (D.base + atW s (j : Int)) st.out.asc (by omega) w4 two4.out.below.size two4.out.own)
            clear b4 had3
            go_wp2_with fail
            refine hput.out.mono ?_
            rintro e w5 ⟨u', K2, hp, rfl, hown, hfr, b5⟩
            have two5 := Lib.hid (two4.out.put b5 hown hfr)
            obtain ⟨a', c', hu'⟩ := own_slice hown
            subst hu'
            have st2 := Lib.hid (st.out.add hF'.out hks'.out ho.out hq'.out hp)
            have hpt5 := Lib.hid (hpt.out w5 two5.out.below)
            have hz16 := nz_len16 hF'.out ho.out hks'.out
            clear hp hown hfr b5 hput
            generalize nz (ptrW D s j) = Z at *
            go_wp2_with (first
              | (go_at_call 114; refine hpt5.out.mono ?_; rintro e w6 ⟨u6, rfl, h6, b6⟩; obtain ⟨a6, c6, hu6⟩ := own_slice h6; subst hu6; have two6 := Lib.hid (two5.out.next b6); have src6 := Lib.hid (Rd.src (Rd.of_owns h6)); clear h6 b6)
              | (at_builtin; refine wpList_appQ rfl (.tmp 93) (.tmp 97) rfl rfl two6.out.que a6 Z.length c6 Z rfl rfl src6.out (by omega) two6.out.below.size ?_; intro v7 w7 q7 g7 f7))
            have two7 := Lib.hid (two6.out.app g7 q7 f7)
            clear q7 g7 f7
            go_wp2_with fail
            go_roundw
            case rel => exact ⟨j + 1, K2, L ++ Z, by omega, by go_num, st2, two7⟩
            case measure => simp [Go.RowKit.intOf]; omega
          obtain rfl : j = s.lens.length := by omega
          have hn := Lib.hid (st.out.next hks'.out hl16)
          clear xl
          go_wp2_with fail
          go_roundw
          case rel => exact ⟨k + 1, K, L, by omega, by go_num, hn, two⟩
          case measure => simp [Go.RowKit.intOf]; omega
      obtain rfl : k = D.spans.length := by omega
      have hdone := Lib.hid (st.out.done e0'.out e4'.out)
      clear hlt hk
      have hrL := Lib.hid (OwnQ.rd two.out.que)
      obtain ⟨aL, cL, hLe, hLl, hLx⟩ := OwnQ.rd two.out.que
      obtain ⟨rfl, rfl⟩ : av = aL ∧ cv = cL := by simpa using hLe
      have hLx' := Lib.hid hLx
      unfold maxLen at hLl
      have hbw := Lib.hid two.out.below
      have hrK := Lib.hid (Rd.of_owns two.out.own)
      clear hLe hLx two st
      go_wp2_with fail
      clear g4
      go_loopw [8] (fun i wj => ∃ i' : Nat, i' ≤ L.length ∧ i = .int .i64 i' ∧ Hid (∀ a, a ∈ L.take i' → a = 0 ∨ a ∈ K) ∧ Hid (Below wr.heap.size wr wj)) (fun i _ => L.length - (Go.RowKit.intOf i).toNat)
      case atStart => exact ⟨0, Nat.zero_le _, rfl, Lib.hid (fun a ha => by simp at ha), Lib.hid (Below.refl _ _)⟩
      case round =>
        obtain ⟨i, hi, rfl, hok, hb⟩ := hrel
        by_cases hlt : i < L.length
        · have hlt1 : (i : Int) < (L.length : Int) := by omega
          obtain ⟨bL, oL, rfl, y0⟩ := hLx'.out i hlt
          have y1 := cell_below hb.out y0
          have hyes := Lib.hid (show (L[i]?.getD 0 = 0 ∨ L[i]?.getD 0 ∈ K) → ∀ a, a ∈ L.take (i + 1) → a = 0 ∨ a ∈ K from fun h a ha => by
            rw [take_one hlt] at ha
            rcases List.mem_append.1 ha with m | m
            · exact hok.out a m
            · rw [List.mem_singleton.1 m]; exact h)
          have hnot := Lib.hid (show ¬ (L[i]?.getD 0 = 0 ∨ L[i]?.getD 0 ∈ K) → ¬ KeptRight D from fun h h2 => h (hdone.out.2 h2 _ (by rw [List.getElem?_eq_getElem hlt]; exact List.getElem_mem hlt)))
          clear y0
          generalize L[i]?.getD 0 = x at *
          have hhas := Lib.hid (shas_any _ x K _ (hrK.out.below hb.out))
          by_cases hz : x = 0
          · have hn := Lib.hid (hyes.out (.inl hz))
            subst hz
            go_wp2_with fail
            go_roundw
            case rel => exact ⟨i + 1, by omega, by go_num, hn, hb⟩
            case measure => simp [Go.RowKit.intOf]; omega
          have hzb : (x != 0) = true := bne_iff_ne.2 hz
          have hz' := Lib.hid hz
          clear hz
          go_wp2_with fail
          refine hhas.out.mono ?_
          rintro e w2 ⟨hq, rfl⟩
          replace hq := hq.elim
          rcases hq with ⟨hq, rfl⟩ | ⟨hq, rfl⟩
          · have hn := Lib.hid (hyes.out (.inr hq))
            clear hq
            go_wp2_with fail
            go_roundw
            case rel => exact ⟨i + 1, by omega, by go_num, hn, hb⟩
            case measure => simp [Go.RowKit.intOf]; omega
          · have n := Lib.hid (IsB.no (hnot.out fun h => h.elim hz'.out hq))
            clear hq
            go_wp2_with fail
            go_ret
            exact ⟨n.out, below_trans hbw.out hb.out⟩
        obtain rfl : i = L.length := by omega
        have n := Lib.hid (IsB.yes (P := KeptRight D) (hdone.out.1 (by simpa using hok.out)))
        go_wp2_with fail
        go_ret
        exact ⟨n.out, below_trans hbw.out hb.out⟩
end Go.Proofs.YtpaepkcfdnddgaaGreat

namespace Go.Proofs.YtpaepkcfdnddgaaGreat
open Go.RowKit
set_option linter.unusedVariables false

/-- What RootsOf answers. -/
def RootsIs (D : WD) (L : List Int) : Prop :=
  (HeapForm D ∧ Asc L ∧ (∀ y, y ∈ L ↔ y ≠ 0 ∧ ∃ r, r ∈ D.muts ∧ y ∈ r) ∧ L.length ≤ 1048576) ∨ (¬ HeapForm D ∧ L = [])
theorem RootsIs.unique {D : WD} {L L' : List Int} (h : RootsIs D L) (h' : RootsIs D L') : L' = L := by
  rcases h with ⟨hF, a, m, _⟩ | ⟨hn, rfl⟩ <;> rcases h' with ⟨hF', a', m', _⟩ | ⟨hn', rfl⟩
  · exact Asc.ext a' a fun y => (m' y).trans (m y).symm
  · exact absurd hF hn'
  · exact absurd hF' hn
  · rfl
theorem RootsIs.len {D : WD} {L : List Int} (h : RootsIs D L) : L.length ≤ 1048576 := by
  rcases h with ⟨_, _, _, h⟩ | ⟨_, rfl⟩
  · exact h
  · exact Nat.zero_le _
/-- The state behind m users and k roots of the next. -/
structure RootSt (D : WD) (m k : Nat) (L : List Int) : Prop where
  asc : Asc L
  mem : ∀ y, y ∈ L ↔ y ≠ 0 ∧ ((∃ i r, i < m ∧ D.muts[i]? = some r ∧ y ∈ r) ∨ (∃ r, D.muts[m]? = some r ∧ y ∈ r.take k))
  len : L.length ≤ m * 6 + k
theorem RootSt.zero (D : WD) : RootSt D 0 0 [] := ⟨List.Pairwise.nil, fun y => by simp, by simp⟩
theorem RootSt.skip {D : WD} {m k : Nat} {L r : List Int} (h : RootSt D m k L) (hr : D.muts[m]? = some r) (hk : k < r.length) (hz : r[k]?.getD 0 = 0) : RootSt D m (k + 1) L := by
  refine ⟨h.asc, fun y => (h.mem y).trans ⟨fun ⟨h0, h1⟩ => ⟨h0, h1.imp id fun ⟨r', e, hy⟩ => ⟨r', e, ?_⟩⟩, fun ⟨h0, h1⟩ => ⟨h0, h1.imp id fun ⟨r', e, hy⟩ => ⟨r', e, ?_⟩⟩⟩, by have := h.len; omega⟩
  · exact (List.take_subset_take_left _ (by omega)) hy
  · rw [hr] at e
    cases e
    rw [take_one hk, hz] at hy
    rcases List.mem_append.1 hy with m | m
    · exact m
    · exact absurd (List.mem_singleton.1 m) h0
theorem RootSt.put {D : WD} {m k : Nat} {L R r : List Int} (h : RootSt D m k L) (hr : D.muts[m]? = some r) (hk : k < r.length) (hz : r[k]?.getD 0 ≠ 0) (hp : PutIs L (r[k]?.getD 0) R) : RootSt D m (k + 1) R := by
  refine ⟨hp.1, fun y => (hp.2.1 y).trans ⟨?_, ?_⟩, by have := h.len; have := hp.2.2; omega⟩
  · rintro (rfl | hy)
    · exact ⟨hz, .inr ⟨r, hr, by rw [take_one hk]; exact List.mem_append.2 (.inr (List.mem_singleton.2 rfl))⟩⟩
    · obtain ⟨h0, h1⟩ := (h.mem y).1 hy
      exact ⟨h0, h1.imp id fun ⟨r', e, hy⟩ => ⟨r', e, (List.take_subset_take_left _ (by omega)) hy⟩⟩
  · rintro ⟨h0, h1⟩
    rcases h1 with h1 | ⟨r', e, hy⟩
    · exact .inr ((h.mem y).2 ⟨h0, .inl h1⟩)
    · rw [hr] at e
      cases e
      rw [take_one hk] at hy
      rcases List.mem_append.1 hy with m | m
      · exact .inr ((h.mem y).2 ⟨h0, .inr ⟨r, hr, m⟩⟩)
      · exact .inl (List.mem_singleton.1 m)
theorem RootSt.next {D : WD} {m : Nat} {L r : List Int} (h : RootSt D m r.length L) (hr : D.muts[m]? = some r) (h6 : r.length = 6) : RootSt D (m + 1) 0 L := by
  refine ⟨h.asc, fun y => (h.mem y).trans ⟨fun ⟨h0, h1⟩ => ⟨h0, ?_⟩, fun ⟨h0, h1⟩ => ⟨h0, ?_⟩⟩, by have := h.len; omega⟩
  · rcases h1 with ⟨i, r', hi, e, hy⟩ | ⟨r', e, hy⟩
    · exact .inl ⟨i, r', by omega, e, hy⟩
    · exact .inl ⟨m, r', by omega, e, List.mem_of_mem_take hy⟩
  · rcases h1 with ⟨i, r', hi, e, hy⟩ | ⟨r', e, hy⟩
    · by_cases hm : i = m
      · subst hm
        rw [hr] at e
        cases e
        exact .inr ⟨r, hr, by rw [List.take_length]; exact hy⟩
      · exact .inl ⟨i, r', by omega, e, hy⟩
    · simp at hy
theorem RootSt.done {D : WD} {L : List Int} (h : RootSt D D.muts.length 0 L) (hF : HeapForm D) : RootsIs D L := by
  refine .inl ⟨hF, h.asc, fun y => (h.mem y).trans ⟨fun ⟨h0, h1⟩ => ⟨h0, ?_⟩, fun ⟨h0, r, hr, hy⟩ => ⟨h0, .inl ?_⟩⟩, by have := h.len; have := hF.geo.2.2.2.2.2.2; omega⟩
  · rcases h1 with ⟨i, r', hi, e, hy⟩ | ⟨r', e, hy⟩
    · exact ⟨r', List.mem_of_getElem? e, hy⟩
    · simp at hy
  · obtain ⟨i, hi⟩ := List.mem_iff_getElem?.1 hr
    exact ⟨i, r, (List.getElem?_eq_some_iff.1 hi).1, hi, hy⟩

set_option maxRecDepth 100000 in
set_option maxHeartbeats 4000000 in
theorem sroots_any (B : Nat) (v : Value) (D : WD) (hF : HeapForm D) (w : World) (hr : RdW w v D) (hB : BoxW w B v) :
    Calls Tryz.prog 113 #[.pointer (some ⟨B, 0, none⟩)] w fun e w' => ∃ u L, RootsIs D L ∧ e = .returned u ∧ w'.ownsRow w.heap.size 3 1 u L.length (L.map (Value.int .i64)) ∧ Below w.heap.size w w' := by
  obtain ⟨vw, vd, vs, vm, vg, rfl, a1, a2, a3, a4, a5⟩ := hr
  obtain ⟨cs, he, hh⟩ := hB
  obtain rfl := (Value.agg.inj he).symm
  obtain ⟨aM, cM, rfl, hml, hx⟩ := a4
  have hx' := Lib.hid hx
  have hF' := Lib.hid hF
  have hg := hF.geo.2.2.2.2.2.2
  have g0 := cell_of_heap hh 5 (.slice aM D.muts.length cM) rfl
  have G := Lib.hid (fun (w' : World) (hb : Below w.heap.size w w') => cell_below hb g0)
  unfold maxLen at hml
  clear a1 a2 a3 a5 he hh hx hF g0
  go_enter Tryz.func113, Tryz.ntmps113
  go_wp2_with fail
  go_loopw [3, 4] (fun v i wr => ∃ (m : Nat) (L : List Int), m ≤ D.muts.length ∧ i = .int .i64 m ∧ Hid (RootSt D m 0 L) ∧ wr.ownsRow w.heap.size 3 1 v L.length (L.map (Value.int .i64)) ∧ Below w.heap.size w wr) (fun v i _ => D.muts.length - (Go.RowKit.intOf i).toNat)
  case atStart => exact ⟨0, [], Nat.zero_le _, rfl, RootSt.zero D, World.ownsRow_nil _ _ _ _, Below.refl _ _⟩
  case round =>
    obtain ⟨m, L, hm, rfl, st, hown, hB⟩ := hrel
    have g5 := G.out _ hB
    by_cases hlt : m < D.muts.length
    · have hlt1 : (m : Int) < (D.muts.length : Int) := by omega
      obtain ⟨r, hmr⟩ : ∃ r, D.muts[m]? = some r := ⟨_, List.getElem?_eq_getElem hlt⟩
      have h6 := hF'.out.roots m r hmr
      obtain ⟨bM, oM, vr, rfl, xm0, hrd⟩ := hx'.out m r hmr
      obtain ⟨ar, cr, rfl, hrl, xr⟩ := hrd
      have XM := Lib.hid (fun (w' : World) (hb : Below w.heap.size w w') => cell_below hb xm0)
      have xr' := Lib.hid xr
      have hmr' := Lib.hid hmr
      unfold maxLen at hrl
      clear xm0 xr hmr
      have hown' := Lib.hid hown
      clear hown
      go_wp2_with fail
      clear g5
      go_loopw [3, 5] (fun v i wr => ∃ (k : Nat) (L : List Int), k ≤ r.length ∧ i = .int .i64 k ∧ Hid (RootSt D m k L) ∧ wr.ownsRow w.heap.size 3 1 v L.length (L.map (Value.int .i64)) ∧ Below w.heap.size w wr) (fun v i _ => r.length - (Go.RowKit.intOf i).toNat)
      case atStart => exact ⟨0, L, Nat.zero_le _, rfl, st, hown'.out, hB⟩
      case round =>
        obtain ⟨k, L, hk, rfl, st, hown, hB⟩ := hrel
        have g5 := G.out _ hB
        have xm := XM.out _ hB
        have hLl := st.out.len
        by_cases hkl : k < r.length
        · have hkl1 : (k : Int) < (r.length : Int) := by omega
          obtain ⟨br, or, rfl, xk0⟩ := xr'.out k hkl
          have xk := cell_below hB xk0
          clear xk0
          by_cases hz : r[k]?.getD 0 = 0
          · have st2 := Lib.hid (st.out.skip hmr'.out hkl hz)
            rw [hz] at xk
            have hown2 := Lib.hid hown
            clear hz st hown
            go_wp2_with fail
            go_roundw
            case rel => exact ⟨k + 1, L, by omega, by go_num, st2, hown2.out, hB⟩
            case measure => simp [Go.RowKit.intOf]; omega
          · have hput := Lib.hid (fun R hp => (st.out.put hmr'.out hkl hz hp : RootSt D m (k + 1) R))
            obtain ⟨au, cu, hu⟩ := own_slice hown
            have hcall := Lib.hid (sput_any w.heap.size _ L (r[k]?.getD 0) st.out.asc (by omega) _ hB.size hown)
            generalize r[k]?.getD 0 = y at *
            have hzb : (y == 0) = false := beq_eq_false_iff_ne.2 hz
            clear st hown hu
            go_wp2_with fail
            refine hcall.out.mono ?_
            rintro e w2 ⟨u, R, hR, rfl, hown2, b2⟩
            have st2 := Lib.hid (hput.out R hR)
            have hown2' := Lib.hid hown2
            have hB2 := below_trans hB b2
            clear hR hown2 b2 hput hcall hB g5 xm xk
            go_wp2_with fail
            go_roundw
            case rel => exact ⟨k + 1, R, by omega, by go_num, st2, hown2'.out, hB2⟩
            case measure => simp [Go.RowKit.intOf]; omega
        · obtain rfl : k = r.length := by omega
          have st2 := Lib.hid (st.out.next hmr'.out h6)
          have hown2 := Lib.hid hown
          clear st hown
          go_wp2_with fail
          go_roundw
          case rel => exact ⟨m + 1, L, by omega, by go_num, st2, hown2.out, hB⟩
          case measure => simp [Go.RowKit.intOf]; omega
    · obtain rfl : m = D.muts.length := by omega
      have y := Lib.hid (st.out.done hF'.out)
      have hown2 := Lib.hid hown
      clear st hown
      go_wp2_with fail
      go_ret
      exact ⟨_, _, y.out, rfl, hown2.out, hB⟩

end Go.Proofs.YtpaepkcfdnddgaaGreat

namespace Go.Proofs.YtpaepkcfdnddgaaGreat
open Go.RowKit
set_option linter.unusedVariables false

theorem live_roots {D : WD} {L : List Int} (hF : HeapForm D) (h : RootsIs D L) : AllLive D L ↔ ∀ r, r ∈ D.muts → AllLive D r := by
  rcases h with ⟨_, _, hm, _⟩ | ⟨hn, _⟩
  · constructor
    · intro h r hr a ha
      by_cases e : a = 0
      · exact .inl e
      · exact h a ((hm a).2 ⟨e, r, hr, ha⟩)
    · intro h a ha
      obtain ⟨_, r, hr, har⟩ := (hm a).1 ha
      exact h r hr a har
  · exact absurd hF hn

set_option maxRecDepth 100000 in
set_option maxHeartbeats 8000000 in
theorem spointersOk_any (B : Nat) (v : Value) (D : WD) (hF : HeapForm D) (w : World) (hr : RdW w v D) (hB : BoxW w B v) :
    Calls Tryz.prog 74 #[.pointer (some ⟨B, 0, none⟩)] w fun e w' => IsB (Stays D) e ∧ Below w.heap.size w w' := by
  have hr' := Lib.hid hr
  have hB' := Lib.hid hB
  have hF' := Lib.hid hF
  have hroots := Lib.hid (sroots_any B v D hF w hr hB)
  obtain ⟨vw, vd, vs, vm, vg, rfl, a1, a2, a3, a4, a5⟩ := hr
  obtain ⟨cs, he, hh⟩ := hB
  obtain rfl := (Value.agg.inj he).symm
  obtain ⟨aS, cS, rfl, hsl, hx⟩ := a3
  unfold maxLen at hsl
  have hf4 := Lib.hid (fun (w' : World) (hb : Below w.heap.size w w') => cell_below hb (cell_of_heap hh 4 _ rfl))
  have hspl := hF.spans
  have hpl := hF.geo.2.2.2.2.1
  clear a1 a2 a4 a5 hF he hh hx
  go_enter Tryz.func74, Tryz.ntmps74
  go_wp2_with fail
  refine hroots.out.mono ?_
  rintro e w1 ⟨u, L, hL, rfl, hu, b1⟩
  have hall := Lib.hid (sallLive_any B _ D hF'.out u L w1 (hr'.out.below b1) (hB'.out.below b1) (Rd.of_owns hu))
  have hLL := Lib.hid (live_roots hF'.out hL)
  have b1' := Lib.hid b1
  clear hu b1 hL hroots
  go_wp2_with fail
  refine hall.out.mono ?_
  rintro e w2 ⟨hq, b2⟩
  replace hq := hq.elim
  have b2' := Lib.hid (below_trans b1'.out b2)
  clear b2 hall
  rcases hq with ⟨hq, rfl⟩ | ⟨hq, rfl⟩
  case inr =>
    have n := Lib.hid (IsB.no (P := Stays D) fun h => hq (hLL.out.2 h.1))
    clear hq
    go_wp2_with fail
    go_ret
    exact ⟨n.out, b2'.out⟩
  have hrt := Lib.hid (hLL.out.1 hq)
  clear hq
  go_wp2_with fail
  go_loopw [3] (fun k wr => ∃ k' : Nat, k' ≤ D.spans.length ∧ k = .int .i64 k' ∧ Hid (SlotsLive D k' 0) ∧ Hid (Below w.heap.size w wr)) (fun k _ => D.spans.length - (Go.RowKit.intOf k).toNat)
  case atStart => exact ⟨0, Nat.zero_le _, rfl, Lib.hid (SlotsLive.zero D), b2'⟩
  case round =>
    clear b1' b2'
    obtain ⟨k, hk, rfl, hno, hB⟩ := hrel
    have g4 := hf4.out _ hB.out
    by_cases hlt : k < D.spans.length
    · obtain ⟨s, hks⟩ : ∃ s, D.spans[k]? = some s := ⟨_, List.getElem?_eq_getElem hlt⟩
      have hks' := Lib.hid hks
      have hlt1 : (k : Int) < (D.spans.length : Int) := by omega
      obtain ⟨b1, o1, rfl, vl, vp, x0, x1, x2, x3, x4, x5, ⟨al, cl, rfl, hll, _⟩, _⟩ := (hr'.out.below hB.out).parts.2.2.1.at_ k s hks
      unfold maxLen at hll
      have A := Lib.hid (hF'.out.span k s hks)
      have hl16 : s.lens.length ≤ 16 := by have := A.out.lens; have := (sl_bd s.cls).2; omega
      clear hks x0 x1 x2 x3 x5
      go_wp2_with fail
      clear x4 g4
      go_loopw [4] (fun j wj => ∃ j' : Nat, j' ≤ s.lens.length ∧ j = .int .i64 j' ∧ Hid (SlotsLive D k j') ∧ Hid (Below w.heap.size w wj)) (fun j _ => s.lens.length - (Go.RowKit.intOf j).toNat)
      case atStart => exact ⟨0, Nat.zero_le _, rfl, hno, hB⟩
      case round =>
        clear hno hB
        obtain ⟨j, hj, rfl, hnj, hB⟩ := hrel
        have g4 := hf4.out _ hB.out
        obtain ⟨b1', o1', he, vl', vp', x0, x1, x2, x3, x4, x5, ⟨al', cl', rfl, _, xl⟩, _⟩ := (hr'.out.below hB.out).parts.2.2.1.at_ k s hks'.out
        obtain ⟨rfl, rfl⟩ : b1 = b1' ∧ o1 = o1' := by simpa using he
        clear he x0 x1 x2 x3 x5
        by_cases hjl : j < s.lens.length
        · have hj1 : (j : Int) < (s.lens.length : Int) := by omega
          obtain ⟨bl, ol, rfl, xj⟩ := xl j hjl
          clear xl
          have hS := (A.out.slot j hjl)
          have hdm := Lib.hid (sdoomed_any B _ D k j s hks'.out hjl (by omega) _ (hr'.out.below hB.out) (hB'.out.below hB.out))
          have hst := Lib.hid (fun (h : ∀ a, IsObj D a k j → ¬ DoomP D k j → AllLive D (ptrW D s j)) => hnj.out.step hks'.out h)
          have hnn := Lib.hid (show 0 < s.lens[j]?.getD 0 → ¬ DoomP D k j → ¬ AllLive D (ptrW D s j) → ¬ Stays D from fun hl hd ha h => ha (h.2 (D.base + atW s (j : Int)) k j s (.inl hlt) ⟨s, hks'.out, hjl, hl, rfl⟩ hks'.out hd))
          have hobj := Lib.hid (fun (hl : 0 < s.lens[j]?.getD 0) => DoomS.iff (D := D) (k := k) hks'.out hl)
          have hnl := Lib.hid (show ¬ 0 < s.lens[j]?.getD 0 → ∀ a, ¬ IsObj D a k j from fun h a ho => by obtain ⟨t, ht, _, hp, _⟩ := ho; rw [hks'.out] at ht; cases ht; exact h hp)
          have hin := hF'.out.slotIn hks'.out hjl
          have hpt := Lib.hid (fun (w' : World) (hb : Below w.heap.size w w') => sptrs_any B _ D k j s hks'.out hin hS.p0 (by have := hS.p1; have := hS.l1; omega) w' (hr'.out.below hb) (hB'.out.below hb))
          clear hS hin
          generalize hlv : s.lens[j]?.getD 0 = l at *
          by_cases hl : 0 < l
          case neg =>
            have hn := Lib.hid (hst.out fun a ho => absurd ho (hnl.out hl a))
            clear hlv
            go_wp2_with fail
            go_roundw
            case rel => exact ⟨j + 1, by omega, by go_num, hn, hB⟩
            case measure => simp [Go.RowKit.intOf]; omega
          have hobj2 := Lib.hid (hobj.out hl)
          clear hlv
          go_wp2_with fail
          refine hdm.out.mono ?_
          rintro e w3 ⟨hq, b3⟩
          replace hq := hq.elim
          have hB3 := Lib.hid (below_trans hB.out b3)
          clear b3 hdm
          rcases hq with ⟨hq, rfl⟩ | ⟨hq, rfl⟩
          · have hn := Lib.hid (hst.out fun a ho hd => absurd (hobj2.out.1 hq) hd)
            clear hq g4 x4 xj
            go_wp2_with fail
            go_roundw
            case rel => exact ⟨j + 1, by omega, by go_num, hn, hB3⟩
            case measure => simp [Go.RowKit.intOf]; omega
          have hdd := Lib.hid (show ¬ DoomP D k j from fun h => hq (hobj2.out.2 h))
          clear hq g4 x4 xj
          have hpt3 := Lib.hid (hpt.out w3 hB3.out)
          go_wp2_with fail
          refine hpt3.out.mono ?_
          rintro e w4 ⟨u4, rfl, hu4, b4⟩
          have hB4 := Lib.hid (below_trans hB3.out b4)
          have hall := Lib.hid (sallLive_any B _ D hF'.out u4 (nz (ptrW D s j)) w4 (hr'.out.below hB4.out) (hB'.out.below hB4.out) (Rd.of_owns hu4))
          clear hu4 b4 hpt3
          go_wp2_with fail
          refine hall.out.mono ?_
          rintro e w5 ⟨hq, b5⟩
          replace hq := hq.elim
          have hB5 := Lib.hid (below_trans hB4.out b5)
          clear b5 hall
          rcases hq with ⟨hq, rfl⟩ | ⟨hq, rfl⟩
          · have hn := Lib.hid (hst.out fun a ho hd => AllLive.nz.1 hq)
            clear hq
            go_wp2_with fail
            go_roundw
            case rel => exact ⟨j + 1, by omega, by go_num, hn, hB5⟩
            case measure => simp [Go.RowKit.intOf]; omega
          · have n := Lib.hid (IsB.no (hnn.out hl hdd.out fun h => hq (AllLive.nz.2 h)))
            clear hq
            go_wp2_with fail
            go_ret
            exact ⟨n.out, hB5.out⟩
        · obtain rfl : j = s.lens.length := by omega
          have hn := Lib.hid (hnj.out.next hks'.out)
          clear xl
          go_wp2_with fail
          go_roundw
          case rel => exact ⟨k + 1, by omega, by go_num, hn, hB⟩
          case measure => simp [Go.RowKit.intOf]; omega
    · obtain rfl : k = D.spans.length := by omega
      have n := Lib.hid (IsB.yes (P := Stays D) ⟨hrt.out, hno.out⟩)
      go_wp2_with fail
      go_ret
      exact ⟨n.out, hB.out⟩
end Go.Proofs.YtpaepkcfdnddgaaGreat

namespace Go.Proofs.YtpaepkcfdnddgaaGreat
open Go.RowKit
set_option linter.unusedVariables false

set_option maxRecDepth 100000 in
set_option maxHeartbeats 4000000 in
theorem sworldOk_any (v : Value) (D : WD) (hcap : CapG v) (w : World) (hr : RdW w v D) :
    Calls Tryz.prog 27 #[v] w fun e w' => IsB (Right D) e ∧ Below w.heap.size w w' := by
  have hcap' := Lib.hid hcap
  clear hcap
  obtain ⟨vw, vd, vs, vm, vg, rfl, a1, a2, a3, a4, a5⟩ := hr
  have bx := box_new w (.cells #[.int .i64 D.base, .int .i64 D.pages, vw, vd, vs, vm, .int .i64 D.phase, .int .i64 D.next, vg] 36)
  have bw := below_box w (.cells #[.int .i64 D.base, .int .i64 D.pages, vw, vd, vs, vm, .int .i64 D.phase, .int .i64 D.next, vg] 36)
  have hW := Lib.hid (show RdW (w.alloc (.cells #[.int .i64 D.base, .int .i64 D.pages, vw, vd, vs, vm, .int .i64 D.phase, .int .i64 D.next, vg] 36)) (.agg #[.int .i64 D.base, .int .i64 D.pages, vw, vd, vs, vm, .int .i64 D.phase, .int .i64 D.next, vg]) D from ⟨vw, vd, vs, vm, vg, rfl, a1.below bw, a2.below bw, a3.below bw, a4.below bw, a5.below bw⟩)
  have hBx := Lib.hid (show BoxW (w.alloc (.cells #[.int .i64 D.base, .int .i64 D.pages, vw, vd, vs, vm, .int .i64 D.phase, .int .i64 D.next, vg] 36)) w.heap.size (.agg #[.int .i64 D.base, .int .i64 D.pages, vw, vd, vs, vm, .int .i64 D.phase, .int .i64 D.next, vg]) from ⟨_, rfl, bx⟩)
  have bw' := Lib.hid bw
  clear a1 a2 a3 a4 a5 bx bw
  go_enter Tryz.func27, Tryz.ntmps27
  go_wp2_with fail
  refine (formOk_any _ D _ hW.out).mono ?_
  rintro e w1 ⟨hq, b1⟩
  replace hq := hq.elim
  have hr1 := Lib.hid (hW.out.below b1)
  have hB1 := Lib.hid (hBx.out.below b1)
  have bb1 := Lib.hid (below_trans bw'.out b1)
  clear b1
  rcases hq with ⟨hF, rfl⟩ | ⟨hF, rfl⟩
  case inr =>
    have n := Lib.hid (IsB.no (right_no1 hF))
    clear hF
    go_wp2_with fail
    go_ret
    exact ⟨n.out, bb1.out⟩
  have hF' := Lib.hid hF
  have h2 := Lib.hid (sgcOk_any w.heap.size _ D hF hcap'.out w1 hr1.out hB1.out)
  clear hF
  go_wp2_with fail
  refine h2.out.mono ?_
  rintro e w2 ⟨hq, b2⟩
  replace hq := hq.elim
  have hr2 := Lib.hid (hr1.out.below b2)
  have hB2 := Lib.hid (hB1.out.below b2)
  have bb2 := Lib.hid (below_trans bb1.out b2)
  clear b2 h2
  rcases hq with ⟨hG, rfl⟩ | ⟨hG, rfl⟩
  case inr =>
    have n := Lib.hid (IsB.no (right_no2 hG))
    clear hG
    go_wp2_with fail
    go_ret
    exact ⟨n.out, bb2.out⟩
  have hG' := Lib.hid hG
  have h3 := Lib.hid (spointersOk_any w.heap.size _ D hF'.out w2 hr2.out hB2.out)
  clear hG
  go_wp2_with fail
  refine h3.out.mono ?_
  rintro e w3 ⟨hq, b3⟩
  replace hq := hq.elim
  have hr3 := Lib.hid (hr2.out.below b3)
  have hB3 := Lib.hid (hB2.out.below b3)
  have bb3 := Lib.hid (below_trans bb2.out b3)
  clear b3 h3
  rcases hq with ⟨hS, rfl⟩ | ⟨hS, rfl⟩
  case inr =>
    have n := Lib.hid (IsB.no (right_no3 hS))
    clear hS
    go_wp2_with fail
    go_ret
    exact ⟨n.out, bb3.out⟩
  have hS' := Lib.hid hS
  have h4 := Lib.hid (skeptOk_any w.heap.size _ D hF'.out hG'.out.1.2 w3 hr3.out hB3.out)
  clear hS
  go_wp2_with fail
  refine h4.out.mono ?_
  rintro e w4 ⟨hq, b4⟩
  obtain ⟨r, rfl, hrr⟩ := hq
  have n := Lib.hid (show IsB (Right D) (.returned (.bool r)) from ⟨r, rfl, hrr.trans ⟨fun h => ⟨hF'.out, hG'.out, hS'.out, h⟩, fun h => h.2.2.2⟩⟩)
  have bb4 := Lib.hid (below_trans bb3.out b4)
  clear b4 h4 hrr
  go_wp2_with fail
  go_ret
  exact ⟨n.out, bb4.out⟩
end Go.Proofs.YtpaepkcfdnddgaaGreat

import Derived.Test.YtdhiablpobnhcaaGreatPkQ
import Derived.Test.YtdhiablpobnhcaaGreatPkN
import Derived.Deep.DeepCutAuto
import Derived.Deep.CutRange
import Derived.Outline

/-
  The contract of the model's l3gcOk.
-/
namespace Go.Proofs.YtdhiablpobnhcaaGreat
open Go.RowKit
set_option linter.unusedVariables false

/-- Grey's slice has room for its addresses. -/
def CapG (v : Value) : Prop := ∀ c0 c1 c2 c3 c4 c5 c6 c7 a n c, v = .agg #[c0, c1, c2, c3, c4, c5, c6, c7, .slice a n c] → n ≤ c
theorem GreyMarked.nil (D : WD) : GreyMarked D [] := ⟨List.nodup_nil, fun a h => by simp at h⟩
theorem GreyMarked.snoc {D : WD} {L : List Int} {x : Int} (h : GreyMarked D L) (hm : MarkedObj D x) (hx : x ∉ L) : GreyMarked D (L ++ [x]) :=
  ⟨List.nodup_append.2 ⟨h.1, by simp, fun a ha b hb => by obtain rfl := List.mem_singleton.1 hb; exact fun e => hx (e ▸ ha)⟩, fun a ha => (List.mem_append.1 ha).elim (h.2 a) fun hb => by rw [List.mem_singleton.1 hb]; exact hm⟩
theorem GreyMarked.no1 {D : WD} {k : Nat} (hk : k < D.grey.length) (hm : ¬ MarkedObj D (D.grey[k]?.getD 0)) : ¬ GreyMarked D D.grey := fun h => hm (h.2 _ (by rw [List.getElem?_eq_getElem hk]; exact List.getElem_mem hk))
theorem GreyMarked.no2 {D : WD} {k : Nat} (hk : k < D.grey.length) (hm : D.grey[k]?.getD 0 ∈ D.grey.take k) : ¬ GreyMarked D D.grey := fun h => by
  obtain ⟨i, hi, e⟩ := List.mem_iff_getElem.1 hm
  rw [List.length_take] at hi
  rw [List.getElem_take, List.getElem?_eq_getElem hk] at e
  exact (List.pairwise_iff_getElem.1 h.1 i k (by omega) hk (by omega)) e
theorem GreyMarked.obj {D : WD} (h : GreyMarked D D.grey) : ∀ a, a ∈ D.grey → HasObj D a := fun a ha => by
  obtain ⟨k, j, ho, _⟩ := h.2 a ha
  exact ⟨k, j, ho⟩

set_option maxRecDepth 100000 in
set_option maxHeartbeats 8000000 in
theorem sgcOk_any (B : Nat) (v : Value) (D : WD) (hF : HeapForm D) (hcap : CapG v) (w : World) (hr : RdW w v D) (hB : BoxW w B v) :
    Calls Tryz.prog 64 #[.pointer (some ⟨B, 0, none⟩)] w fun e w' => IsB (GcRight D) e ∧ Below w.heap.size w w' := by
  have hr' := Lib.hid hr
  have hB' := Lib.hid hB
  have hF' := Lib.hid hF
  obtain ⟨vw, vd, vs, vm, vg, rfl, a1, a2, a3, a4, a5⟩ := hr
  obtain ⟨cs, he, hh⟩ := hB
  obtain rfl := (Value.agg.inj he).symm
  obtain ⟨aS, cS, rfl, hsl, hx⟩ := a3
  obtain ⟨aM, cM, rfl, hml, _⟩ := a4
  obtain ⟨ag, cg, rfl, hgl, hxg⟩ := id a5
  have hgc := hcap _ _ _ _ _ _ _ _ _ _ _ rfl
  have a5' := Lib.hid a5
  have hxg' := Lib.hid hxg
  unfold maxLen at hsl hml hgl
  have bb := below_box w (.cells #[.int .i64 D.phase, .int .i64 D.next, .slice ag D.grey.length cg] 28)
  have bx := box_new w (.cells #[.int .i64 D.phase, .int .i64 D.next, .slice ag D.grey.length cg] 28)
  have g6 := cell_of_heap hh 6 _ rfl
  have g7 := cell_of_heap hh 7 _ rfl
  have g8 := cell_of_heap hh 8 _ rfl
  have hf4 := Lib.hid (fun (w' : World) (hb : Below w.heap.size w w') => cell_below hb (cell_of_heap hh 4 (.slice aS D.spans.length cS) rfl))
  have g5 := Lib.hid (cell_below bb (cell_of_heap hh 5 (.slice aM D.muts.length cM) rfl))
  have hspl := hF.spans
  have hpl := hF.geo.2.2.2.2.1
  have bb' := Lib.hid bb
  have bx' := Lib.hid bx
  clear a1 a2 a5 hF he hh hx hxg hcap bb bx
  go_enter Tryz.func64, Tryz.ntmps64
  go_upto_region 2 with fail
  clear g6 g7 g8
  generalize w.alloc (.cells #[.int .i64 D.phase, .int .i64 D.next, .slice ag D.grey.length cg] 28) = W at *
  have p0 := cell_of_heap bx'.out 0 _ rfl
  have p1 := cell_of_heap bx'.out 1 _ rfl
  have p2 := cell_of_heap bx'.out 2 _ rfl
  have q5 := g5.out
  go_cut [51] (fun q wx => ∃ b : Bool, q = .bool b ∧ Hid (b = true ↔ ¬ ((D.grey ≠ [] → D.phase = 1 ∨ D.phase = 2) ∧ NextRight D)) ∧ Hid (Below W.heap.size W wx))
  case first =>
    have hA := Lib.hid (show (D.grey ≠ [] → D.phase = 1 ∨ D.phase = 2) ↔ (D.grey.length = 0 ∨ D.phase = 1 ∨ D.phase = 2) from by
      rw [List.length_eq_zero_iff]
      by_cases h : D.grey = []
      · simp [h]
      · simp [h])
    have hN := Lib.hid (show NextRight D ↔ (0 ≤ D.next ∧ D.next ≤ (D.muts.length : Int) ∧ (0 < D.next → D.phase = 1)) from Iff.rfl)
    generalize (D.grey ≠ [] → D.phase = 1 ∨ D.phase = 2) = GA at *
    generalize NextRight D = NA at *
    generalize D.phase = ph at *
    generalize D.next = nx at *
    have d1 : ¬ ph = 1 → (ph == 1) = false := fun h => beq_eq_false_iff_ne.2 h
    have d2 : ¬ ph = 2 → (ph == 2) = false := fun h => beq_eq_false_iff_ne.2 h
    by_cases e3 : 0 < D.grey.length
    · have fe3 : decide (0 < D.grey.length) = true := by simpa using e3
      by_cases e1 : ph = 1
      · subst e1
        clear d1 d2
        by_cases n1 : nx < 0
        · have fn1 : decide (nx < 0) = true := by simpa using n1
          have z := Lib.hid (show GA → NA → False from fun h1 h2 => by have := hA.out.1 h1; have := hN.out.1 h2; omega)
          go_quiet (fail)
          go_wp2_with fail
          go_meet
          exact ⟨true, rfl, Lib.hid ⟨fun _ h => z.out h.1 h.2, fun _ => rfl⟩, Lib.hid (below_drewN (Below.refl _ _) _)⟩
        have fn1 : decide (nx < 0) = false := by simpa using n1
        by_cases n2 : (D.muts.length : Int) < nx
        · have fn2 : decide ((D.muts.length : Int) < nx) = true := by simpa using n2
          have z := Lib.hid (show GA → NA → False from fun h1 h2 => by have := hA.out.1 h1; have := hN.out.1 h2; omega)
          go_quiet (fail)
          go_wp2_with fail
          go_meet
          exact ⟨true, rfl, Lib.hid ⟨fun _ h => z.out h.1 h.2, fun _ => rfl⟩, Lib.hid (below_drewN (Below.refl _ _) _)⟩
        have fn2 : decide ((D.muts.length : Int) < nx) = false := by simpa using n2
        by_cases n3 : 0 < nx
        · have fn3 : decide (0 < nx) = true := by simpa using n3
          have z := Lib.hid (show GA ∧ NA from ⟨hA.out.2 (by omega), hN.out.2 (by omega)⟩)
          go_quiet (fail)
          go_wp2_with fail
          go_meet
          exact ⟨false, rfl, Lib.hid ⟨fun h => absurd h (by decide), fun h => absurd z.out h⟩, Lib.hid (below_drewN (Below.refl _ _) _)⟩
        have fn3 : decide (0 < nx) = false := by simpa using n3
        have z := Lib.hid (show GA ∧ NA from ⟨hA.out.2 (by omega), hN.out.2 (by omega)⟩)
        go_quiet (fail)
        go_wp2_with fail
        go_meet
        exact ⟨false, rfl, Lib.hid ⟨fun h => absurd h (by decide), fun h => absurd z.out h⟩, Lib.hid (below_drewN (Below.refl _ _) _)⟩
      by_cases e2 : ph = 2
      · subst e2
        clear d1 d2
        by_cases n1 : nx < 0
        · have fn1 : decide (nx < 0) = true := by simpa using n1
          have z := Lib.hid (show GA → NA → False from fun h1 h2 => by have := hA.out.1 h1; have := hN.out.1 h2; omega)
          go_quiet (fail)
          go_wp2_with fail
          go_meet
          exact ⟨true, rfl, Lib.hid ⟨fun _ h => z.out h.1 h.2, fun _ => rfl⟩, Lib.hid (below_drewN (Below.refl _ _) _)⟩
        have fn1 : decide (nx < 0) = false := by simpa using n1
        by_cases n2 : (D.muts.length : Int) < nx
        · have fn2 : decide ((D.muts.length : Int) < nx) = true := by simpa using n2
          have z := Lib.hid (show GA → NA → False from fun h1 h2 => by have := hA.out.1 h1; have := hN.out.1 h2; omega)
          go_quiet (fail)
          go_wp2_with fail
          go_meet
          exact ⟨true, rfl, Lib.hid ⟨fun _ h => z.out h.1 h.2, fun _ => rfl⟩, Lib.hid (below_drewN (Below.refl _ _) _)⟩
        have fn2 : decide ((D.muts.length : Int) < nx) = false := by simpa using n2
        by_cases n3 : 0 < nx
        · have fn3 : decide (0 < nx) = true := by simpa using n3
          have z := Lib.hid (show GA → NA → False from fun h1 h2 => by have := hA.out.1 h1; have := hN.out.1 h2; omega)
          go_quiet (fail)
          go_wp2_with fail
          go_meet
          exact ⟨true, rfl, Lib.hid ⟨fun _ h => z.out h.1 h.2, fun _ => rfl⟩, Lib.hid (below_drewN (Below.refl _ _) _)⟩
        have fn3 : decide (0 < nx) = false := by simpa using n3
        have z := Lib.hid (show GA ∧ NA from ⟨hA.out.2 (by omega), hN.out.2 (by omega)⟩)
        go_quiet (fail)
        go_wp2_with fail
        go_meet
        exact ⟨false, rfl, Lib.hid ⟨fun h => absurd h (by decide), fun h => absurd z.out h⟩, Lib.hid (below_drewN (Below.refl _ _) _)⟩
      have z := Lib.hid (show GA → NA → False from fun h1 h2 => by have := hA.out.1 h1; have := hN.out.1 h2; omega)
      have b1 : (ph != 1) = true := bne_iff_ne.2 e1
      have b2 : (ph != 2) = true := bne_iff_ne.2 e2
      clear e1 e2 d1 d2
      go_quiet (fail)
      go_wp2_with fail
      go_meet
      exact ⟨true, rfl, Lib.hid ⟨fun _ h => z.out h.1 h.2, fun _ => rfl⟩, Lib.hid (below_drewN (Below.refl _ _) _)⟩
    have fe3 : decide (0 < D.grey.length) = false := by simpa using e3
    by_cases n1 : nx < 0
    · have fn1 : decide (nx < 0) = true := by simpa using n1
      have z := Lib.hid (show GA → NA → False from fun h1 h2 => by have := hA.out.1 h1; have := hN.out.1 h2; omega)
      go_quiet (fail)
      go_wp2_with fail
      go_meet
      exact ⟨true, rfl, Lib.hid ⟨fun _ h => z.out h.1 h.2, fun _ => rfl⟩, Lib.hid (below_drewN (Below.refl _ _) _)⟩
    have fn1 : decide (nx < 0) = false := by simpa using n1
    by_cases n2 : (D.muts.length : Int) < nx
    · have fn2 : decide ((D.muts.length : Int) < nx) = true := by simpa using n2
      have z := Lib.hid (show GA → NA → False from fun h1 h2 => by have := hA.out.1 h1; have := hN.out.1 h2; omega)
      go_quiet (fail)
      go_wp2_with fail
      go_meet
      exact ⟨true, rfl, Lib.hid ⟨fun _ h => z.out h.1 h.2, fun _ => rfl⟩, Lib.hid (below_drewN (Below.refl _ _) _)⟩
    have fn2 : decide ((D.muts.length : Int) < nx) = false := by simpa using n2
    by_cases n3 : 0 < nx
    · have fn3 : decide (0 < nx) = true := by simpa using n3
      by_cases e1 : ph = 1
      · subst e1
        have z := Lib.hid (show GA ∧ NA from ⟨hA.out.2 (by omega), hN.out.2 (by omega)⟩)
        go_quiet (fail)
        go_wp2_with fail
        go_meet
        exact ⟨false, rfl, Lib.hid ⟨fun h => absurd h (by decide), fun h => absurd z.out h⟩, Lib.hid (below_drewN (Below.refl _ _) _)⟩
      have z := Lib.hid (show GA → NA → False from fun h1 h2 => by have := hA.out.1 h1; have := hN.out.1 h2; omega)
      have b1 : (ph != 1) = true := bne_iff_ne.2 e1
      clear e1 d1 d2
      go_quiet (fail)
      go_wp2_with fail
      go_meet
      exact ⟨true, rfl, Lib.hid ⟨fun _ h => z.out h.1 h.2, fun _ => rfl⟩, Lib.hid (below_drewN (Below.refl _ _) _)⟩
    have fn3 : decide (0 < nx) = false := by simpa using n3
    have z := Lib.hid (show GA ∧ NA from ⟨hA.out.2 (by omega), hN.out.2 (by omega)⟩)
    go_quiet (fail)
    go_wp2_with fail
    go_meet
    exact ⟨false, rfl, Lib.hid ⟨fun h => absurd h (by decide), fun h => absurd z.out h⟩, Lib.hid (below_drewN (Below.refl _ _) _)⟩
  case rest =>
    obtain ⟨b, rfl, hb, hbel⟩ := hcut
    clear q5 p0 p1 p2 g5
    have bb0 := Lib.hid (below_trans bb'.out hbel.out)
    have bx0 := Lib.hid (heap_below hbel.out bx'.out)
    clear hbel bb' bx'
    cases b
    case true =>
      have n := Lib.hid (IsB.no (P := GcRight D) fun h => (hb.out.1 rfl) ⟨h.1.1, h.2.1⟩)
      go_wp2_with fail
      go_ret
      exact ⟨n.out, bb0.out⟩
    have hGN := Lib.hid (show (D.grey ≠ [] → D.phase = 1 ∨ D.phase = 2) ∧ NextRight D from Classical.byContradiction fun h => by have := hb.out.2 h; cases this)
    clear hb
    go_wp2_with fail
    go_loopw [4] (fun i wr => ∃ k : Nat, k ≤ D.grey.length ∧ i = .int .i64 k ∧ Hid (GreyMarked D (D.grey.take k)) ∧ Hid (Below w.heap.size w wr) ∧ Hid (wr.heap[w.heap.size]? = some (.cells #[.int .i64 D.phase, .int .i64 D.next, .slice ag D.grey.length cg] 28 (0, 0)))) (fun i _ => D.grey.length - (Go.RowKit.intOf i).toNat)
    case atStart => exact ⟨0, Nat.zero_le _, rfl, Lib.hid (by simpa using GreyMarked.nil D), bb0, bx0⟩
    case round =>
      clear bb0 bx0
      obtain ⟨k, hk, rfl, hgm, hB, hG⟩ := hrel
      have p2 := cell_of_heap hG.out 2 (.slice ag D.grey.length cg) rfl
      by_cases hlt : k < D.grey.length
      · have hlt1 : (k : Int) < (D.grey.length : Int) := by omega
        have hkc : (k : Int) ≤ (cg : Int) := by omega
        have hc0 : ¬ cg = 0 := by omega
        obtain ⟨bg, og, rfl, x0⟩ := hxg'.out k hlt
        have x1 := cell_below hB.out x0
        have hfind := Lib.hid (find_at B _ D hF'.out (D.grey[k]?.getD 0) wr (hr'.out.below hB.out) (hB'.out.below hB.out))
        have hno1 := Lib.hid (GreyMarked.no1 (D := D) hlt)
        have hno2 := Lib.hid (GreyMarked.no2 (D := D) hlt)
        have hsn := Lib.hid (show MarkedObj D (D.grey[k]?.getD 0) → D.grey[k]?.getD 0 ∉ D.grey.take k → GreyMarked D (D.grey.take (k + 1)) from fun hm hx => by rw [take_one hlt]; exact hgm.out.snoc hm hx)
        have hpart := Lib.hid (fun (w' : World) (hb : Below w.heap.size w w') => (by simpa using Rd.part (lo := 0) (n := k) (a5'.out.below hb) (by omega) cg : Rd w' (.slice (some ⟨bg, og, none⟩) k cg) (D.grey.take k)))
        clear x0
        generalize D.grey[k]?.getD 0 = x at *
        go_wp2_with fail
        refine hfind.out.mono ?_
        rintro e w1 ⟨⟨r, q, rfl, hq⟩, b1⟩
        have hB1 := Lib.hid (below_trans hB.out b1)
        have hG1 := Lib.hid (heap_below b1 hG.out)
        have X1 := Ext.cell (cell_below b1 x1)
        have P2 := Ext.cell (cell_below b1 p2)
        clear b1 p2 x1 hfind hB hG
        rcases hq with ⟨kk, j, _, ho, rfl, rfl⟩ | ⟨hn, rfl, rfl⟩
        case inr =>
          have n := Lib.hid (IsB.no (P := GcRight D) fun h => hno1.out (fun ⟨k', j', ho, _⟩ => hn hF'.out k' j' ho) h.1.2)
          clear hn
          go_wp2_with fail
          refine wp_region_ext (Below.refl _ _) (by kernel_rfl) (by kernel_rfl) ?_
          repeat (go_big_quiet_step ((fail)))
          refine wpQuiet_nil ?_
          intro _ hw'
          obtain ⟨x9, hw''⟩ := hw'
          subst hw''
          go_wp2_with fail
          go_ret
          exact ⟨n.out, below_trans hB1.out x9.below⟩
        obtain ⟨s, hks, hin, pp0, pp1⟩ := obj_slot hF'.out ho
        obtain ⟨mk, hmk⟩ := flag_of (MarkedP D kk j)
        obtain ⟨hs, hhs⟩ := flag_of (x ∈ D.grey.take k)
        have hmk2 := Lib.hid (show MarkedObj D x ↔ mk = true from (MarkedObj.at_ hF'.out ho).trans hmk.symm)
        have hhs' := Lib.hid hhs
        have hcm := Lib.hid (fun (x : Ext w1) => (smarked_any B _ D kk j s hks (by have := hin.bd; omega) x.val (hr'.out.below (below_trans hB1.out x.below)) (hB'.out.below (below_trans hB1.out x.below))).mono fun e w' ⟨h1, h2⟩ => (⟨h1.at_ mk hmk, h2⟩ : e = Ending.returned (.bool mk) ∧ Below x.val.heap.size x.val w'))
        have hch := Lib.hid (fun (y : Ext w1) => (shas_any _ x (D.grey.take k) y.val (hpart.out y.val (below_trans hB1.out y.below))).mono fun e w' ⟨h1, h2⟩ => (⟨h1.at_ hs hhs, h2⟩ : e = Ending.returned (.bool hs) ∧ y.val = w'))
        have hkk : decide ((kk : Int) < 0) = false := decide_eq_false (by omega)
        clear ho hks hin pp0 pp1 hmk hhs
        go_wp2_with fail
        cases mk
        · have n := Lib.hid (IsB.no (P := GcRight D) fun h => hno1.out (fun hm => by have := hmk2.out.1 hm; cases this) h.1.2)
          refine wp_region_ext (Below.refl _ _) (by kernel_rfl) (by kernel_rfl) ?_
          repeat (go_big_quiet_step ((go_at_call 132; exact Ext.call (hcm.out _))))
          refine wpQuiet_nil ?_
          intro _ hw'
          obtain ⟨x9, hw''⟩ := hw'
          subst hw''
          go_wp2_with fail
          go_ret
          exact ⟨n.out, below_trans hB1.out x9.below⟩
        cases hs
        case true =>
          have n := Lib.hid (IsB.no (P := GcRight D) fun h => hno2.out (hhs'.out.1 rfl) h.1.2)
          refine wp_region_ext (Below.refl _ _) (by kernel_rfl) (by kernel_rfl) ?_
          repeat (go_big_quiet_step ((first | (go_at_call 132; exact Ext.call (hcm.out _)) | (go_at_call 120; exact Ext.same (hch.out _)))))
          refine wpQuiet_nil ?_
          intro _ hw'
          obtain ⟨x9, hw''⟩ := hw'
          subst hw''
          go_wp2_with fail
          go_ret
          exact ⟨n.out, below_trans hB1.out x9.below⟩
        have hn := Lib.hid (hsn.out (hmk2.out.2 rfl) (fun hm => by have := hhs'.out.2 hm; cases this))
        refine wp_region_ext (Below.refl _ _) (by kernel_rfl) (by kernel_rfl) ?_
        repeat (go_big_quiet_step ((first | (go_at_call 132; exact Ext.call (hcm.out _)) | (go_at_call 120; exact Ext.same (hch.out _)))))
        refine wpQuiet_nil ?_
        intro _ hw'
        obtain ⟨x9, hw''⟩ := hw'
        subst hw''
        have hG9 := Lib.hid (heap_below x9.below hG1.out)
        have hB9 := Lib.hid (below_trans hB1.out x9.below)
        go_wp2_with fail
        go_roundw
        case rel => exact ⟨k + 1, by omega, by go_num, hn, hB9, hG9⟩
        case measure => simp [Go.RowKit.intOf]; omega
      obtain rfl : k = D.grey.length := by omega
      have hgr := Lib.hid (show GreyRight D from ⟨hGN.out.1, by simpa using hgm.out⟩)
      clear hgm hlt hk
      go_wp2_with fail
      clear p2
      go_loopw [7] (fun i wr => ∃ k : Nat, k ≤ D.spans.length ∧ i = .int .i64 k ∧ Hid (∀ q t, q < k → D.spans[q]? = some t → SpanRight D t) ∧ Hid (Below w.heap.size w wr) ∧ Hid (wr.heap[w.heap.size]? = some (.cells #[.int .i64 D.phase, .int .i64 D.next, .slice ag D.grey.length cg] 28 (0, 0)))) (fun i _ => D.spans.length - (Go.RowKit.intOf i).toNat)
      case atStart => exact ⟨0, Nat.zero_le _, rfl, Lib.hid (fun q t h => absurd h (by omega)), hB, hG⟩
      case round =>
        clear hB hG
        obtain ⟨k, hk, rfl, hsp, hB, hG⟩ := hrel
        have p0 := cell_of_heap hG.out 0 (.int .i64 D.phase) rfl
        have g4 := hf4.out _ hB.out
        by_cases hlt : k < D.spans.length
        · have hlt1 : (k : Int) < (D.spans.length : Int) := by omega
          obtain ⟨s, hks⟩ : ∃ s, D.spans[k]? = some s := ⟨_, List.getElem?_eq_getElem hlt⟩
          obtain ⟨b1, o1, rfl, vl, vp, x0, x1, x2, x3, x4, x5, ⟨al, cl, rfl, _⟩, ⟨ap, cp, rfl, _⟩⟩ := (hr'.out.below hB.out).parts.2.2.1.at_ k s hks
          have hyes := Lib.hid (show SpanRight D s → ∀ q t, q < k + 1 → D.spans[q]? = some t → SpanRight D t from fun h q t hq ht => if e : q = k then by subst e; rw [hks] at ht; cases ht; exact h else hsp.out q t (by omega) ht)
          have hnot := Lib.hid (show ¬ SpanRight D s → ¬ GcRight D from fun h h2 => h (h2.2.2 s (List.mem_of_getElem? hks)))
          have hP := Lib.hid (show SpanRight D s ↔ ((s.swept = true → D.phase = 4) ∧ (s.mark ≠ 0 → D.phase ≠ 0 ∧ s.swept = false)) from Iff.rfl)
          have bbk := Lib.hid (below_box wr (.cells #[.int .i64 s.page, .int .i64 s.cls, .int .i64 s.mark, .bool s.swept, .slice al s.lens.length cl, .slice ap s.ptrs.length cp] 126))
          have hBk := Lib.hid (below_trans hB.out bbk.out)
          have hGk := Lib.hid (heap_below bbk.out hG.out)
          have p0k := cell_of_heap hGk.out 0 (.int .i64 D.phase) rfl
          clear hks hB hG
          generalize SpanRight D s = SR at *
          generalize s.swept = sw at *
          generalize s.mark = mk at *
          generalize D.phase = ph at *
          by_cases e0 : mk = 0
          · by_cases e4 : ph = 4
            · have n := Lib.hid (hyes.out (hP.out.2 ⟨fun _ => e4, fun h => absurd e0 h⟩))
              subst e0 e4
              clear hP hyes hnot
              cases sw
              · go_wp2_with fail
                go_roundw
                case rel => exact ⟨k + 1, by omega, by go_num, n, hBk, hGk⟩
                case measure => simp [Go.RowKit.intOf]; omega
              · go_wp2_with fail
                go_roundw
                case rel => exact ⟨k + 1, by omega, by go_num, n, hBk, hGk⟩
                case measure => simp [Go.RowKit.intOf]; omega
            · have f4 : (ph != 4) = true := bne_iff_ne.2 e4
              cases sw
              · have n := Lib.hid (hyes.out (hP.out.2 ⟨fun h => absurd h (by decide), fun h => absurd e0 h⟩))
                subst e0
                clear hP hyes hnot e4
                go_wp2_with fail
                go_roundw
                case rel => exact ⟨k + 1, by omega, by go_num, n, hBk, hGk⟩
                case measure => simp [Go.RowKit.intOf]; omega
              · have n := Lib.hid (IsB.no (hnot.out fun h => e4 ((hP.out.1 h).1 rfl)))
                subst e0
                clear hP hyes hnot e4
                go_wp2_with fail
                go_ret
                exact ⟨n.out, hBk.out⟩
          · have f0 : (mk != 0) = true := bne_iff_ne.2 e0
            cases sw
            · by_cases e1 : ph = 0
              · have n := Lib.hid (IsB.no (hnot.out fun h => ((hP.out.1 h).2 e0).1 e1))
                subst e1
                clear hP hyes hnot e0
                go_wp2_with fail
                go_ret
                exact ⟨n.out, hBk.out⟩
              · have n := Lib.hid (hyes.out (hP.out.2 ⟨fun h => absurd h (by decide), fun _ => ⟨e1, rfl⟩⟩))
                have f1 : (ph == 0) = false := beq_eq_false_iff_ne.2 e1
                clear hP hyes hnot e0 e1
                go_wp2_with fail
                go_roundw
                case rel => exact ⟨k + 1, by omega, by go_num, n, hBk, hGk⟩
                case measure => simp [Go.RowKit.intOf]; omega
            · have n := Lib.hid (IsB.no (hnot.out fun h => by have := ((hP.out.1 h).2 e0).2; cases this))
              by_cases e4 : ph = 4
              · subst e4
                clear hP hyes hnot e0
                go_wp2_with fail
                go_ret
                exact ⟨n.out, hBk.out⟩
              · have f4 : (ph != 4) = true := bne_iff_ne.2 e4
                clear hP hyes hnot e0 e4
                go_wp2_with fail
                go_ret
                exact ⟨n.out, hBk.out⟩
        · obtain rfl : k = D.spans.length := by omega
          have n := Lib.hid (IsB.yes (P := GcRight D) ⟨hgr.out, hGN.out.2, fun s hs => by obtain ⟨q, hq⟩ := List.mem_iff_getElem?.1 hs; exact hsp.out q s (List.getElem?_eq_some_iff.1 hq).1 hq⟩)
          go_wp2_with fail
          go_ret
          exact ⟨n.out, hB.out⟩
end Go.Proofs.YtdhiablpobnhcaaGreat

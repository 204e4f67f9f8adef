import Derived.Test.YtdhiablpobnhcaaGreatPkIZero
import Derived.Test.YtdhiablpobnhcaaGreatPkISpread
import Derived.Test.YtdhiablpobnhcaaGreatPkPtrs3
import Derived.Maps.RangeWalk

/-
  The contract of the program's whatIsLedToStays.
-/
namespace Go.Proofs.YtdhiablpobnhcaaGreat
open Go.RowKit
open Go.Maps (Keyed)
set_option linter.unusedVariables false

/-- The step of a range over a map of places. -/
theorem next_place (w : World) {ops : Array Oper} {rest : List Oper} {o : Oper} {a : Act} {Q : Exit → Act → World → Prop} (hg : o.guard = none) (it : Operand) (hop : o.op = Op.next it false)
    (b r n : Nat) (D : DataW Unit) (left : Lit → Bool) (cnt : Nat) (hit : a.eval it = .pointer (some ⟨r, 0, none⟩)) (h : w.ranges Tryz.prog 3 placeElem b r n D left cnt)
    (hDone : cnt = 0 → (∀ kl, left kl = false) → wpList Tryz.prog ops Q rest (a.put o.dst (.tuple #[.bool false])) w)
    (hMore : ∀ (x c d : Int) (w' : World) (cnt' : Nat), I64 x → left (.int .i64 x) = true → (∀ zd, D.atKey (.int .i64 x) zd = dat c d) → w'.ranges Tryz.prog 3 placeElem b r n D (fun z => left z && !z.sameKey (.int .i64 x)) cnt' → cnt' < cnt →
      w.grownBy w' (some r) → w'.heap.size = w.heap.size → (Instr.entry (.pointer (some ⟨r, 0, none⟩))).run Tryz.prog w' = .ok (.tuple #[.int .i64 x, .agg #[.int .i64 c, .int .i64 d]]) w' → wpList Tryz.prog ops Q rest (a.put o.dst (.tuple #[.bool true, .int .i64 x, .agg #[.int .i64 c, .int .i64 d]])) w') :
    wpList Tryz.prog ops Q (o :: rest) a w :=
  wpList_next_ranges w hg it hop 3 mapLaw placeElem (Value.int .i64) (fun p : Int × Int => .agg #[.int .i64 p.1, .int .i64 p.2])
    (fun key kl hkey => by obtain ⟨x, rfl, _⟩ := Maps.keyOf_int_inv (q := .i64) Tryz.underlying3 hkey; exact ⟨x, rfl⟩) (fun v y hv => by obtain ⟨c, d, rfl, _⟩ := placeElem_inv hv; exact ⟨(c, d), rfl⟩)
    b r n D left cnt hit h hDone (fun x p kl y w' cnt' hkey hlk hv hat hrg hlt hgr hsz hen => by
      obtain ⟨x', ex, rfl, hwx⟩ := Maps.keyOf_int_inv (q := .i64) Tryz.underlying3 hkey
      cases ex
      obtain ⟨c, d, hcd, rfl⟩ := placeElem_inv hv
      obtain ⟨c', d'⟩ := p
      simp only [Value.agg.injEq, Array.mk.injEq, List.cons.injEq, Value.int.injEq, true_and, and_true] at hcd
      obtain ⟨rfl, rfl⟩ := hcd
      exact hMore x c' d' w' cnt' (i64_wf hwx) hlk hat hrg hlt hgr hsz hen)
theorem sameKey_int (a x : Int) : (Lit.int .i64 a).sameKey (.int .i64 x) = decide (a = x) := by
  by_cases e : a = x
  · subst e; simp [Lit.sameKey]
  · simp [Lit.sameKey, e]
/-- Each place that has come satisfies P. -/
def Came (D : WD) (M : DataW Unit) (left : Lit → Bool) (P : Int → Nat → Nat → SpanD → Prop) : Prop :=
  ∀ a k j s, Maps.has M (.int .i64 a) = true → left (.int .i64 a) = false → IsObj D a k j → D.spans[k]? = some s → P a k j s
theorem Came.start (D : WD) (M : DataW Unit) (P : Int → Nat → Nat → SpanD → Prop) : Came D M (Maps.has M) P := fun a k j s h1 h2 => by rw [h1] at h2; cases h2
theorem Came.step {D : WD} {M : DataW Unit} {left : Lit → Bool} {P : Int → Nat → Nat → SpanD → Prop} (hF : HeapForm D) (h : Came D M left P) {x : Int} {k j : Nat} {s : SpanD} (ho : IsObj D x k j) (hs : D.spans[k]? = some s) (hp : P x k j s) :
    Came D M (fun z => left z && !z.sameKey (.int .i64 x)) P := by
  intro a k' j' s' h1 h2 ho' hs'
  by_cases e : a = x
  · subst e
    obtain ⟨rfl, rfl⟩ := ho'.unique hF ho
    rw [hs] at hs'
    cases hs'
    exact hp
  · refine h a k' j' s' h1 ?_ ho' hs'
    simpa [sameKey_int, e] using h2
theorem Came.done {D : WD} {M : DataW Unit} {left : Lit → Bool} {P : Int → Nat → Nat → SpanD → Prop} (h : Came D M left P) (hl : ∀ kl, left kl = false) (hP : PlacesIs D M D.spans.length 0) :
    ∀ a k j s, Ahead D.spans.length 0 k j → IsObj D a k j → D.spans[k]? = some s → P a k j s :=
  fun a k j s ha ho hs => h a k j s ((hP.has a).2 ⟨k, j, ha, ho⟩) (hl _) ho hs

set_option maxRecDepth 100000 in
set_option maxHeartbeats 8000000 in
theorem pLed (V B g n : Nat) (M : DataW Unit) (v : Value) (D : WD) (hF : HeapForm D) (hW : AllI D.words) (hM : ∀ r, r ∈ D.muts → AllI r) (hcap : CapW v) (w : World) (hr : RdW w v D) (hB : BoxW w B v) (hv : ViewIs D w V B g n M) :
    Calls Tryz.prog 137 #[.pointer (some ⟨V, 0, none⟩)] w fun e w' => IsB (Stays D) e ∧ Below w.heap.size w w' := by
  have hr' := Lib.hid hr
  have hB' := Lib.hid hB
  have hF' := Lib.hid hF
  have hW' := Lib.hid hW
  have hM' := Lib.hid hM
  have hcap' := Lib.hid hcap
  have hv' := Lib.hid hv
  have hC0 := Lib.hid (fun (w' : World) (hb : Below w.heap.size w w') => cell_below hb (cell_of_heap hv.box 0 (.pointer (some ⟨B, 0, none⟩)) rfl))
  have hC1 := Lib.hid (fun (w' : World) (hb : Below w.heap.size w w') => cell_below hb (cell_of_heap hv.box 1 (.map (some g)) rfl))
  have hst := Lib.hid (fun (x : Int) (w' : World) (hx : I64 x) (hb : Below w.heap.size w w') => vstays_any V B g n M v D hF x hx w' (hr.below hb) (hB.below hb) (hv.below hb))
  obtain ⟨bw, ow, cW, hv3⟩ := words_some hr (by have := hF.words; have := hF.geo.2.2.2.1; omega)
  have hv3 := Lib.hid hv3
  obtain ⟨vw, vd, vs, vm, vg, rfl, a1, a2, a3, a4, a5⟩ := hr
  obtain ⟨aM, cM, rfl, hml, hxm⟩ := a4
  have hxm' := Lib.hid hxm
  unfold maxLen at hml
  have G5 := Lib.hid (fun (w' : World) (hb : Below w.heap.size w w') => cell_below hb (hB.cell 5 (.slice aM D.muts.length cM) rfl))
  have hmu := hF.geo.2.2.2.2.2.2
  have hmf : ∀ (fn : Fn) (first cap : Array Value) (w : World), (Instr.makeFunc fn first cap).run Tryz.prog w = .ok (.func fn first cap) w := fun _ _ _ _ => rfl
  have c0 := hC0.out _ (Below.refl _ _)
  have g5 := G5.out _ (Below.refl _ _)
  clear a1 a2 a3 a5 hB hF hW hM hcap hv hxm
  go_enter Tryz.func137, Tryz.ntmps137
  go_wp2_with fail
  clear c0 g5
  go_loopw [14] (fun i wr => ∃ m : Nat, m ≤ D.muts.length ∧ i = .int .i64 m ∧ Hid (∀ q r, q < m → D.muts[q]? = some r → AllLive D r) ∧ Hid (Below w.heap.size w wr)) (fun i _ => D.muts.length - (Go.RowKit.intOf i).toNat)
  case atStart => exact ⟨0, Nat.zero_le _, rfl, Lib.hid (fun q r h => absurd h (by omega)), Lib.hid (Below.refl _ _)⟩
  case round =>
    obtain ⟨m, hm, rfl, hok, hb⟩ := hrel
    have c0 := hC0.out _ hb.out
    have g5 := G5.out _ hb.out
    by_cases hlt : m < D.muts.length
    · have hlt1 : (m : Int) < (D.muts.length : Int) := by omega
      obtain ⟨r, hmr⟩ : ∃ r, D.muts[m]? = some r := ⟨_, List.getElem?_eq_getElem hlt⟩
      obtain ⟨bM, oM, vr, rfl, xm0, hrd⟩ := hxm'.out m r hmr
      obtain ⟨ar, cr, rfl, hrl, xr⟩ := id hrd
      have xm := cell_below hb.out xm0
      have hz := Lib.hid (zeroOrS_any V (ObjP D (fun k j => ¬ DoomP D k j)) _ r (hM'.out r (List.mem_of_getElem? hmr)) wr (hrd.below hb.out) (fun x w' hx hb2 => hst.out x w' hx (below_trans hb.out hb2)))
      have hyes := Lib.hid (show AllLive D r → ∀ q r, q < m + 1 → D.muts[q]? = some r → AllLive D r from fun h q r2 hq hr2 => if e : q = m then by subst e; rw [hmr] at hr2; cases hr2; exact h else hok.out q r2 (by omega) hr2)
      have hnot := Lib.hid (show ¬ AllLive D r → ¬ Stays D from fun h h2 => h (h2.1 r (List.mem_of_getElem? hmr)))
      clear xm0 hrd xr hmr hrl
      go_wp2_with fail
      refine hz.out.mono ?_
      rintro e w2 ⟨hq, b2⟩
      replace hq := hq.elim
      have hb2 := Lib.hid (below_trans hb.out b2)
      clear b2 hz c0 g5 xm
      rcases hq with ⟨hq, rfl⟩ | ⟨hq, rfl⟩
      · have hn := Lib.hid (hyes.out hq)
        clear hq
        go_wp2_with fail
        go_roundw
        case rel => exact ⟨m + 1, by omega, by go_num, hn, hb2⟩
        case measure => simp [Go.RowKit.intOf]; omega
      · have y := Lib.hid (IsB.no (hnot.out hq))
        clear hq
        go_wp2_with fail
        go_ret
        exact ⟨y.out, hb2.out⟩
    obtain rfl : m = D.muts.length := by omega
    have hroots := Lib.hid (show ∀ r, r ∈ D.muts → AllLive D r from fun r hr => by obtain ⟨q, hq⟩ := List.mem_iff_getElem?.1 hr; exact hok.out q r (List.getElem?_eq_some_iff.1 hq).1 hq)
    have c1 := hC1.out _ hb.out
    have hOw := Lib.hid ((hv'.out.below hb.out).own)
    clear hok
    go_wp2_with (at_range; refine wpList_range_own _ rfl _ 131 rfl 3 69 mapLaw Tryz.underlying131 placeElem g n M rfl hOw.out ?_; intro w0 hrg0 hg0 hs0)
    have hb0 := Lib.hid (hb.out.grown hg0 hb.out.size (fun q hq => by cases hq))
    have hrs := Lib.hid (show w.heap.size ≤ wr.heap.size from hb.out.size)
    have hrg := Lib.hid hrg0
    clear c0 c1 g5 hg0 hs0 hrg0 hb hOw
    generalize wr.heap.size = R at *
    go_frame
    go_loopw [5] (fun _ wj => ∃ left cnt, Hid (wj.ranges Tryz.prog 3 placeElem g R n M left cnt) ∧ Hid (Came D M left fun a k j s => ¬ DoomP D k j → AllLive D (ptrW D s j)) ∧ Hid (Below w.heap.size w wj)) (fun _ wj => wj.rangeLeft g R)
    case atStart => exact ⟨_, _, hrg, Lib.hid (Came.start _ _ _), hb0⟩
    case round =>
      clear hrg hb0
      obtain ⟨left, cnt, hrg, hcame, hb⟩ := hrel
      go_wp2_with (at_next; refine next_place _ rfl _ rfl g _ n M left cnt rfl hrg.out ?_ ?_)
      · intro hc0 hl0
        have y := Lib.hid (IsB.yes (P := Stays D) ⟨hroots.out, hcame.out.done hl0 hv'.out.is⟩)
        clear hc0 hl0
        go_wp2_with fail
        go_ret
        exact ⟨y.out, hb.out⟩
      · intro x c d w1 cnt1 hx64 hlx hat hrg1 hlt1 hg1 hs1 hen
        obtain ⟨k, j, hah, ho⟩ := (hv'.out.is.has x).1 (Maps.has_true_of_atKey hat)
        obtain ⟨rfl, rfl⟩ := dat_inj ((hat (dat 0 0)).symm.trans (hv'.out.is.is x k j (dat 0 0) hah ho))
        obtain ⟨s, hks, hin, p0, p1⟩ := obj_slot hF'.out ho
        have hrgO := Lib.hid hrg.out
        have hrg1' := Lib.hid hrg1
        have hb1 := Lib.hid (hb.out.grown hg1 hb.out.size (fun q hq => by cases hq; exact hrs.out))
        obtain ⟨dm, hdm⟩ := flag_of (DoomP D k j)
        obtain ⟨z, hz⟩ := flag_of (AllLive D (ptrW D s j))
        have hdmc := Lib.hid (fun (w' : World) (hb : Below w.heap.size w w') => (idoomed_any B _ D k j s hks (SlotIn.mk16 hF'.out hks hin.j) w' (hr'.out.below hb) (hB'.out.below hb)).mono fun e w'' ⟨h1, h2⟩ => (⟨h1.at_ dm hdm, h2⟩ : e = Ending.returned (.bool dm) ∧ Below w'.heap.size w' w''))
        have hpw := Lib.hid (fun (w' : World) (hb : Below w.heap.size w w') => pointerWords_at bw ow cW B _ D k j s hks hin p0 p1 hcap'.out hv3.out w' (hr'.out.below hb) (hB'.out.below hb))
        have hprd := Lib.hid (fun (w' : World) (hb : Below w.heap.size w w') => ptrs_rd (k := k) hin p0 p1 hv3.out (hr'.out.below hb))
        have hzc := Lib.hid (fun (w' : World) (hb : Below w.heap.size w w') => (zeroOrS_any V (ObjP D (fun k j => ¬ DoomP D k j)) _ (ptrW D s j) (ptrW_i64 hW'.out s j) w' (hprd.out w' hb) (fun x w'' hx hb2 => hst.out x w'' hx (below_trans hb hb2))).mono fun e w'' ⟨h1, h2⟩ => (⟨h1.at_ z hz, h2⟩ : e = Ending.returned (.bool z) ∧ Below w'.heap.size w' w''))
        have hstep := Lib.hid (show (dm = true ∨ z = true) → Came D M (fun z => left z && !z.sameKey (.int .i64 x)) (fun a k j s => ¬ DoomP D k j → AllLive D (ptrW D s j)) from fun h => hcame.out.step hF'.out ho hks (fun hd => h.elim (fun h => absurd (hdm.1 h) hd) hz.1))
        have hnot := Lib.hid (show dm = false → z = false → ¬ Stays D from fun h1 h2 h => by
          have := hz.2 (h.2 x k j s hah ho hks (fun hd => by have := hdm.2 hd; rw [h1] at this; cases this))
          rw [h2] at this
          cases this)
        have bb := Lib.hid (below_box w1 (.cells #[.int .i64 k, .int .i64 j] 69))
        have bx := Lib.hid (box_new w1 (.cells #[.int .i64 k, .int .i64 j] 69))
        have hbW := Lib.hid (below_trans hb1.out bb.out)
        have hrgW := Lib.hid (hrg1.alloc (.cells #[.int .i64 k, .int .i64 j] 69))
        have hmeas : ∀ (w' : World), (∃ l, w'.ranges Tryz.prog 3 placeElem g R n M l cnt1) → w'.rangeLeft g R < wr.rangeLeft g R := by
          rintro w' ⟨l, h⟩
          have e1 := h.left_eq
          have e2 := hrgO.out.left_eq
          omega
        have hmeas := Lib.hid hmeas
        clear hat hrg1 hlt1 hg1 hs1 hlx ho hah hks hin p0 p1 hdm hz hrg hcame hb hrgO
        go_upto_region 10 with fail
        clear hen
        have c0 := hC0.out _ hbW.out
        have q0 := cell_of_heap bx.out 0 (.int .i64 k) rfl
        have q1 := cell_of_heap bx.out 1 (.int .i64 j) rfl
        clear bx
        generalize w1.alloc (.cells #[.int .i64 k, .int .i64 j] 69) = W1 at *
        have C0 := Ext.cell c0
        have Q0 := Ext.cell q0
        have Q1 := Ext.cell q1
        clear c0 q0 q1
        generalize (ptrW D s j).length = np at *
        cases dm
        case true =>
          refine wp_region_ext (Below.refl _ _) (by kernel_rfl) (by kernel_rfl) ?_
          repeat (go_big_quiet_step ((go_at_call 128; exact Ext.call (hdmc.out _ (below_trans hbW.out (Ext.below _))))))
          refine wpQuiet_nil ?_
          intro _ hw'
          obtain ⟨x9, hw''⟩ := hw'
          subst hw''
          have hrg4 := Lib.hid (hrgW.out.kept (grown_of_below x9.below) (by simp) (by simp))
          have hb4 := Lib.hid (below_trans hbW.out x9.below)
          have hn := Lib.hid (hstep.out (.inl rfl))
          go_wp2_with fail
          go_roundw
          case rel => exact ⟨_, _, hrg4, hn, hb4⟩
          case measure => exact hmeas.out _ ⟨_, hrg4.out⟩
        case false =>
          refine wp_region_ext (Below.refl _ _) (by kernel_rfl) (by kernel_rfl) ?_
          repeat (go_big_quiet_step ((first | (go_at_call 128; exact Ext.call (hdmc.out _ (below_trans hbW.out (Ext.below _)))) | (go_at_call 116; exact Ext.call (hpw.out _ (below_trans hbW.out (Ext.below _)))) | (go_at_call 180; exact Ext.call (hzc.out _ (below_trans hbW.out (Ext.below _)))))))
          refine wpQuiet_nil ?_
          intro _ hw'
          obtain ⟨x9, hw''⟩ := hw'
          subst hw''
          have hrg6 := Lib.hid (hrgW.out.kept (grown_of_below x9.below) (by simp) (by simp))
          have hb6 := Lib.hid (below_trans hbW.out x9.below)
          cases z
          · have y := Lib.hid (IsB.no (hnot.out rfl rfl))
            go_wp2_with fail
            go_ret
            exact ⟨y.out, hb6.out⟩
          · have hn := Lib.hid (hstep.out (.inr rfl))
            go_wp2_with fail
            go_roundw
            case rel => exact ⟨_, _, hrg6, hn, hb6⟩
            case measure => exact hmeas.out _ ⟨_, hrg6.out⟩
end Go.Proofs.YtdhiablpobnhcaaGreat

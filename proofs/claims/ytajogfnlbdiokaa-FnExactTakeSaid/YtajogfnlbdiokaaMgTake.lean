import Derived.Test.YtajogfnlbdiokaaISoil
import Derived.Test.YtajogfnlbdiokaaMgA
import Derived.Test.YtajogfnlbdiokaaImplE
import Derived.Test.YtajogfnlbdiokaaMgPlace
import Derived.Test.YtajogfnlbdiokaaTakeD
import Derived.Test.YtajogfnlbdiokaaVar
import Derived.Deep.DeepCutAuto
import Derived.Deep.CutRange
import Derived.Deep.RegionWith
import Derived.Outline
import Derived.Test.YtajogfnlbdiokaaWData
import Derived.OpenShut
import Derived.ShutString
import Derived.ChangeOld
import Derived.Deep.Slices
import Derived.Deep.Grids
import Derived.ProofKit
import Derived.Below

/-
  The contract of the program's World.soil once more: no block but the World's own turns.
-/
namespace Go.Proofs.Ytajogfnlbdiokaa
open Go.RowKit Go.Shelf
set_option linter.unusedVariables false

attribute [local go_sem] Oper.semAt_some

/-- What holds in the loop. -/
structure SoilJ (base B bx : Nat) (S : Shape) (D : WD) (f m : Int) (w0 : World) (pre : List Int) (W : World) : Prop where
  var : VarW W base B S { D with dirty := dirtyL f m D.dirty pre }
  box : Boxed W bx 76 (.pointer (some ⟨B, 0, none⟩))
  bel : Below base w0 W
  chg : Chg (blks S.all) w0 W
theorem soil2_own {base B bx n0 : Nat} {S : Shape} {D : WD} {f m : Int} {w0 : World} (hold : ∀ q, q ∈ blks S.all → q < n0) (hB : B < n0) (hbx : bx < n0) (hb0 : base ≤ w0.heap.size) (hw0 : w0.heap.size ≤ n0) : OwnFrom n0 (SoilJ base B bx S D f m w0) := by
  intro pre W W' row h hg hr
  have c : Chg row.toList W W' := Chg.of_grown hg fun x hx => by rw [hx]; simp
  have hm : ∀ q, q ∈ row.toList → n0 ≤ q := fun q hq => by
    cases row with
    | none => simp at hq
    | some r => simp at hq; subst hq; exact (hr q rfl).1
  refine ⟨h.var.chg c (fun k hk hq => by have := hold k hk; have := hm k hq; omega) (fun hq => by have := hm B hq; omega), h.box.kept hg fun e => by have := (hr bx e.symm).1; omega, ?_, ?_⟩
  · have hz := h.bel.size
    have hle := h.var.le
    exact Chg.below h.bel c (by omega) fun x hx => by have := hm x hx; omega
  · have hz := h.chg.size
    exact ⟨c.os.trans h.chg.os, c.tape.trans h.chg.tape, c.output.trans h.chg.output, Nat.le_trans hz c.size, fun k hk hn => (c.block k (by omega) (fun hq => by have := hm k hq; omega)).trans (h.chg.block k hk hn)⟩

set_option maxRecDepth 100000 in
set_option maxHeartbeats 4000000 in
theorem soil2_in (F : Fence) (n : Nat) (h15 : F.fn 74) (h31 : F.fn 136) (h33 : F.fn 164) (hro : F.round = none) (hn : 3 ≤ n) (base B : Nat) (S : Shape) (D : WD) (f m : Int) (hf0 : 0 ≤ f) (hf : f ≤ 1000000) (hm1 : 1 ≤ m) (hm : m ≤ 32) (hc : f + m ≤ 8 * (D.dirty.length : Int)) (w : World) (h : VarW w base B S D) :
    CallsIn F n Try.prog 74 #[.pointer (some ⟨B, 0, none⟩), .int .i64 f, .int .i64 m] w fun e W' => (∃ v, e = .returned v) ∧ VarW W' base B S { D with dirty := dirtyUp D.dirty f m } ∧ Below base w W' ∧ Chg (blks S.all) w W' := by
  have h1 : 1 ≤ n := by omega
  have hcnt := cnt_le (f := f) hm1 hm
  refine callsIn_of_wp_marks Try.func74 rfl h15 ?_ hro
  simp only [Try.ntmps74, List.size_toArray, List.length_cons, List.length_nil, Nat.reduceAdd, Nat.reduceSub, Array.replicate_succ, Array.replicate_zero, List.push_toArray, List.append_toArray, List.nil_append, List.cons_append]
  gi_wp2_with (gi_at_call 136; refine (cards_in F (n - 1) h31 hro _ _ _).mono ?_; rintro e w' ⟨rfl, rfl⟩)
  have bO := Boxed.new w 76 (.pointer (some ⟨B, 0, none⟩))
  have bF := Boxed.new (w.alloc (.cells #[.pointer (some ⟨B, 0, none⟩)] 76)) 3 (.int .i64 f)
  have bN := Boxed.new ((w.alloc (.cells #[.pointer (some ⟨B, 0, none⟩)] 76)).alloc (.cells #[.int .i64 f] 3)) 3 (.int .i64 m)
  rw [World.size_alloc] at bF bN
  rw [World.size_alloc] at bN
  have bF' := bF.alloc (.cells #[.int .i64 m] 3)
  have hB0 : Below w.heap.size w (((w.alloc (.cells #[.pointer (some ⟨B, 0, none⟩)] 76)).alloc (.cells #[.int .i64 f] 3)).alloc (.cells #[.int .i64 m] 3)) := (((Below.refl _ w).alloc (Nat.le_refl _) _).alloc (by simp) _).alloc (by simp; omega) _
  have hle := h.le
  have hlt := h.lt
  have hown := h.own.lt
  refine wpIn_rangeFunc_ownG hro h1 (gf := 164) (lb := #[.pointer (some ⟨w.heap.size + 1, 0, none⟩), .pointer (some ⟨w.heap.size + 1 + 1, 0, none⟩)]) rfl h33 (enters_of Try.func164 (by kernel_rfl) rfl)
    (cardsC_stops F (n - 1) h33 hro (by omega) (w.heap.size + 1) (w.heap.size + 1 + 1) base f m hf0 hf hm1 hm _ (by simp) (by simp) bF'.cell bN.cell) belowK_t (belowK_b (by simp; omega)) (Below.refl _ _) (fun _ => rfl)
    (SoilJ base B w.heap.size S D f m w)
    (fun _ _ _ => False)
    (soil2_own (fun q hq => by have := hown q hq; simp; omega) (by simp; omega) (by simp; omega) (by omega) (by simp; omega))
    (fun _ _ _ _ _ hs _ _ => hs)
    ⟨h.below hB0, (bO.alloc _).alloc _, hB0.mono (by omega), Chg.of_below hB0 _⟩
    (fun x => { tmps := #[.pointer (some ⟨B, 0, none⟩), .int .i64 f, .int .i64 m, .pointer (some ⟨w.heap.size, 0, none⟩), undef, undef, .int .i64 (clampC f m x), .int .i64 f, .int .i64 m, .func (.func 164) #[] #[.pointer (some ⟨w.heap.size + 1, 0, none⟩), .pointer (some ⟨w.heap.size + 1 + 1, 0, none⟩)], .int .i64 (clampC f m x), undef, undef, undef, undef, undef, undef], defers := [] }) ?assign ?body ?done ?stop
  case assign =>
    intro l x W K hK
    gi_wp2
    exact hK
  case body =>
    rintro l pre x W hI hlt
    obtain ⟨hv, hbx, hb, hch⟩ := hI
    have hc := hbx.cell
    have hcl := clampC_in (f := f) hm1 x
    have hsn := Lib.hid (dirtyL_snoc f m D.dirty pre x)
    obtain ⟨c, hcc⟩ := Int.eq_ofNat_of_zero_le (show 0 ≤ clampC f m x by omega)
    rw [hcc] at hcl hsn ⊢
    have hend : (f + m - 1) / 8 + 1 - f / 8 = (cnt f m : Int) := by unfold cnt; omega
    have hcd : c < D.dirty.length := by omega
    have hld := dirtyL_len f m D.dirty pre
    obtain ⟨gd, cd, hgd⟩ := hv.headD (by simp only [hld]; omega)
    have g3 := hv.cell 3 S.vd rfl
    rw [hgd] at g3
    simp only [hld] at g3
    have hrD := hv.own.dirty
    rw [hgd] at hrD
    have hold := hrD.cellAt c (by simp only [hld]; omega)
    have hfr := hrD.frozenAt c
    have hset := Lib.hid (hv.dirty hgd c true)
    have hbxs := Lib.hid hbx
    have hbl := Lib.hid hb
    have hgin := Lib.hid (show gd ∈ blks S.all from List.mem_filterMap.2 ⟨S.vd, by simp [Shape.all], by rw [hgd]; rfl⟩)
    have hchl := Lib.hid hch
    have hgdlt := Lib.hid (h.own.lt gd (List.mem_filterMap.2 ⟨S.vd, by simp [Shape.all], by rw [hgd]; rfl⟩))
    have hcd1 : (c : Int) < (D.dirty.length : Int) := by omega
    obtain ⟨u, hu⟩ : ∃ u, W.cell? ⟨gd, c, none⟩ = some (.bool u) := by
      rw [hold]
      simp only [List.getElem?_map]
      have : c < (dirtyL f m D.dirty pre).length := by omega
      rw [List.getElem?_eq_getElem this]
      exact ⟨_, rfl⟩
    have hmx := hv.rd.parts.2.1
    obtain ⟨_, _, _, hsm, _⟩ := hmx
    simp only [hld] at hsm
    unfold maxLen at hsm
    clear hold hrD hv hbx hb hcl hend hgd hch
    gi_wp2
    refine ⟨KeepsFrom.of_grownBy (grown_set W gd c (.bool true)) (fun j hj => by cases hj; have := hgdlt.out; simp; omega), hset.out.2, ⟨?_, hbxs.out.kept (grown_set W gd c (.bool true)) (fun e => by have := hgdlt.out; cases e; omega), hbl.out.trans hset.out.2, hchl.out.trans (Chg.of_grown (grown_set W gd c (.bool true)) (fun x hx => by cases hx; exact hgin.out))⟩⟩
    rw [hsn.out]
    exact hset.out.1
  case done =>
    rintro Dd ys W hD rfl hI hK
    obtain ⟨hv, hbx, hb, hch⟩ := hI
    rw [dirtyL_upto _ _ _ _ (Nat.le_refl _)] at hv
    gi_wp2
    refine ⟨by simp, .inl ⟨_, _, rfl, run_takeDeferred hK, ?_⟩⟩
    have cc := fun o : Obj => (Chg.of_grown (grownBy_putObj' W Dd o) (bs := [Dd]) (by simp))
    have hDd : w.heap.size ≤ Dd := by simp at hD; omega
    exact ⟨_, results_none rfl _ _ _, ⟨_, rfl⟩, hv.chg (cc _) (fun k hk hq => by have := hown k hk; rw [List.mem_singleton.1 hq] at this; omega) (fun hq => by have := List.mem_singleton.1 hq; omega), Chg.below hb (cc _) (by have := hb.size; omega) (fun x hx => by rw [List.mem_singleton.1 hx]; omega), ⟨(cc _).os.trans hch.os, (cc _).tape.trans hch.tape, (cc _).output.trans hch.output, Nat.le_trans hch.size (cc _).size, fun k hk hn => ((cc _).block k (by have := hch.size; omega) (fun hq => by have := List.mem_singleton.1 hq; omega)).trans (hch.block k hk hn)⟩⟩
  case stop =>
    rintro D c pre W _ _ h _
    exact h.elim
theorem soil2_any (base B : Nat) (S : Shape) (D : WD) (f m : Int) (hf0 : 0 ≤ f) (hf : f ≤ 1000000) (hm1 : 1 ≤ m) (hm : m ≤ 32) (hc : f + m ≤ 8 * (D.dirty.length : Int)) (w : World) (h : VarW w base B S D) :
    Calls Try.prog 74 #[.pointer (some ⟨B, 0, none⟩), .int .i64 f, .int .i64 m] w fun e W' => (∃ v, e = .returned v) ∧ VarW W' base B S { D with dirty := dirtyUp D.dirty f m } ∧ Below base w W' ∧ Chg (blks S.all) w W' :=
  (callsIn_wide (n := 3)).1 (soil2_in Fence.wide 3 trivial trivial trivial rfl (by omega) base B S D f m hf0 hf hm1 hm hc w h)
end Go.Proofs.Ytajogfnlbdiokaa

/-
  The contract of the program's Take, that of freePlace being a premise.
-/
namespace Go.Proofs.Ytajogfnlbdiokaa
open Go.RowKit
set_option linter.unusedVariables false

/-- What freePlace answers, and what becomes of the variable. -/
def FreeTo (D : WD) (c : Int) (base B : Nat) (S : Shape) (e : Ending) (w' : World) : Prop :=
  (∃ D1 k j S', PlaceIs D c D1 k j ∧ e = .returned (.tuple #[.agg #[.int .i64 (k : Int), .int .i64 (j : Int)], .bool true]) ∧ VarW w' base B S' D1) ∨
  (NoPlace D c ∧ e = .returned (.tuple #[.agg #[.int .i64 0, .int .i64 0], .bool false]) ∧ VarW w' base B S D)
theorem place_in {D : WD} {n : Int} (hF : HeapForm D) (h1 : 1 ≤ n) (h2 : n ≤ 16) {D1 : WD} {k j : Nat} (h : PlaceIs D (cl n) D1 k j) : ∃ s, D1.spans[k]? = some s ∧ SlotIn D1 s j ∧ n ≤ sz s.cls ∧ D1.base = D.base := by
  obtain ⟨-, -, hc, hz⟩ := cl_ok h1 h2
  rcases h with ⟨rfl, s, hs, hsc, hj, _⟩ | ⟨_, hp, hn, rfl, rfl⟩
  · exact ⟨s, hs, hF.slotIn hs hj, by rw [hsc]; exact hz, rfl⟩
  · exact ⟨freshS D (cl n) k, ins_at hp.1 _, fresh_in hF hc hp.1 hn, hz, rfl⟩
set_option maxRecDepth 100000 in
set_option maxHeartbeats 16000000 in
theorem itake_of (hfp : ∀ (base B : Nat) (S : Shape) (D : WD) (c : Int) (hls : D.spans.length ≤ 1000) (w : World) (h : VarW w base B S D), Calls Try.prog 72 #[.pointer (some ⟨B, 0, none⟩), .int .i64 c] w fun e w' => FreeTo D c base B S e w' ∧ Below base w w')
    (v : Value) (D : WD) (n p : Int) (hm : MarksIn D) (hs : Small D) (w : World) (hr : RdW w v D) :
    Calls Try.prog 22 #[v, .int .i64 n, .int .i64 p] w fun e w' => ∃ S D' a f, TakeIs D n p D' a f ∧ e = .returned (.tuple #[S.val D', .int .i64 a, .bool f]) ∧ OwnW w' w.heap.size S D' ∧ Below w.heap.size w w' := by
  have hfp' := Lib.hid hfp
  have hs' := Lib.hid hs
  have hm' := Lib.hid hm
  clear hs hm hfp
  obtain ⟨vw, vd, vs, vm, vg, rfl, a1, a2, a3, a4, a5⟩ := hr
  have bb := below_trans (below_box w (.cells #[.int .i64 D.base, .int .i64 D.pages, vw, vd, vs, vm, .int .i64 D.phase, .int .i64 D.next, vg] 32)) (below_box _ (.cells #[.int .i64 0, .int .i64 0, .slice none 0 0, .slice none 0 0, .slice none 0 0, .slice none 0 0, .int .i64 0, .int .i64 0, .slice none 0 0] 32))
  have hA := heap_below (below_box (w.alloc (.cells #[.int .i64 D.base, .int .i64 D.pages, vw, vd, vs, vm, .int .i64 D.phase, .int .i64 D.next, vg] 32)) (.cells #[.int .i64 0, .int .i64 0, .slice none 0 0, .slice none 0 0, .slice none 0 0, .slice none 0 0, .int .i64 0, .int .i64 0, .slice none 0 0] 32)) (box_new w (.cells #[.int .i64 D.base, .int .i64 D.pages, vw, vd, vs, vm, .int .i64 D.phase, .int .i64 D.next, vg] 32))
  have hR := box_new (w.alloc (.cells #[.int .i64 D.base, .int .i64 D.pages, vw, vd, vs, vm, .int .i64 D.phase, .int .i64 D.next, vg] 32)) (.cells #[.int .i64 0, .int .i64 0, .slice none 0 0, .slice none 0 0, .slice none 0 0, .slice none 0 0, .int .i64 0, .int .i64 0, .slice none 0 0] 32)
  rw [World.size_alloc] at hR
  have hW := Lib.hid (show RdW ((w.alloc (.cells #[.int .i64 D.base, .int .i64 D.pages, vw, vd, vs, vm, .int .i64 D.phase, .int .i64 D.next, vg] 32)).alloc (.cells #[.int .i64 0, .int .i64 0, .slice none 0 0, .slice none 0 0, .slice none 0 0, .slice none 0 0, .int .i64 0, .int .i64 0, .slice none 0 0] 32)) (.agg #[.int .i64 D.base, .int .i64 D.pages, vw, vd, vs, vm, .int .i64 D.phase, .int .i64 D.next, vg]) D from ⟨vw, vd, vs, vm, vg, rfl, a1.below bb, a2.below bb, a3.below bb, a4.below bb, a5.below bb⟩)
  have bb' := Lib.hid bb
  have hA' := Lib.hid hA
  have hR' := Lib.hid hR
  have hz := Lib.hid (show ((w.alloc (.cells #[.int .i64 D.base, .int .i64 D.pages, vw, vd, vs, vm, .int .i64 D.phase, .int .i64 D.next, vg] 32)).alloc (.cells #[.int .i64 0, .int .i64 0, .slice none 0 0, .slice none 0 0, .slice none 0 0, .slice none 0 0, .int .i64 0, .int .i64 0, .slice none 0 0] 32)).heap.size = w.heap.size + 1 + 1 by simp)
  clear a1 a2 a3 a4 a5 bb hA hR
  go_enter Try.func22, Try.ntmps22
  go_wp2_with fail
  generalize (w.alloc (.cells #[.int .i64 D.base, .int .i64 D.pages, vw, vd, vs, vm, .int .i64 D.phase, .int .i64 D.next, vg] 32)).alloc (.cells #[.int .i64 0, .int .i64 0, .slice none 0 0, .slice none 0 0, .slice none 0 0, .slice none 0 0, .int .i64 0, .int .i64 0, .slice none 0 0] 32) = W at *
  refine (formOkI_any _ D hm'.out _ hW.out).mono ?_
  rintro e w1 ⟨hq, b1⟩
  have hq := hq.elim
  have hR1 := heap_below b1 hR'.out
  have hA1 := heap_below b1 hA'.out
  have bb1 := Lib.hid (below_trans bb'.out b1)
  have hW1 := Lib.hid (hW.out.below b1)
  have hz1 := Lib.hid (show w.heap.size + 1 + 1 ≤ w1.heap.size by have := hz.out; have := b1.size; omega)
  by_cases hok : TakeOk D n p
  case neg =>
    have y := Lib.hid (show TakeIs D n p zeroD 0 false from .inr ⟨fun h => absurd h hok, rfl, rfl, rfl⟩)
    have hok' := Lib.hid hok
    have n0 := cell_of_heap hR1 0 _ rfl
    have n1 := cell_of_heap hR1 1 _ rfl
    have n2 := cell_of_heap hR1 2 _ rfl
    have n3 := cell_of_heap hR1 3 _ rfl
    have n4 := cell_of_heap hR1 4 _ rfl
    have n5 := cell_of_heap hR1 5 _ rfl
    have n6 := cell_of_heap hR1 6 _ rfl
    have n7 := cell_of_heap hR1 7 _ rfl
    have n8 := cell_of_heap hR1 8 _ rfl
    have z0 := frozen_of_heap hR1 0
    have z1 := frozen_of_heap hR1 1
    have z2 := frozen_of_heap hR1 2
    have z3 := frozen_of_heap hR1 3
    have z4 := frozen_of_heap hR1 4
    have z5 := frozen_of_heap hR1 5
    have z6 := frozen_of_heap hR1 6
    have z7 := frozen_of_heap hR1 7
    have z8 := frozen_of_heap hR1 8
    clear hok b1 hR1 hA1
    rcases hq with ⟨hF, rfl⟩ | ⟨hF, rfl⟩
    case inr =>
      clear hF
      go_wp2_with fail
      refine bodyPost_ret (v := .tuple #[zeroS.val zeroD, .int .i64 0, .bool false]) (by simp [results, Try.results22, go_sem, n0, n1, n2, n3, n4, n5, n6, n7, n8, Shape.val, zeroS, zeroD]) rfl ?_
      exact ⟨zeroS, zeroD, 0, false, y.out, rfl, own_zero _ _, Chg.below (bs := [w.heap.size + 1]) bb1.out ((((((((((Chg.refl _ _).put (b := w.heap.size + 1) (by simp) 0 _).put (b := w.heap.size + 1) (by simp) 1 _).put (b := w.heap.size + 1) (by simp) 2 _).put (b := w.heap.size + 1) (by simp) 3 _).put (b := w.heap.size + 1) (by simp) 4 _).put (b := w.heap.size + 1) (by simp) 5 _).put (b := w.heap.size + 1) (by simp) 6 _).put (b := w.heap.size + 1) (by simp) 7 _).put (b := w.heap.size + 1) (by simp) 8 _) bb1.out.size (fun q hq => by rw [List.mem_singleton.1 hq]; omega)⟩
    have hF' := Lib.hid hF
    clear hF
    by_cases e1 : 1 ≤ n ∧ n ≤ 16
    case neg =>
      have hb1 := Lib.hid (inB_no (n := n) (l := 1) (h := 16) (by omega))
      clear e1
      go_wp2_with (go_at_call 46; refine (isIn_eq hb1.out _).mono ?_; rintro e w' ⟨rfl, rfl⟩)
      refine bodyPost_ret (v := .tuple #[zeroS.val zeroD, .int .i64 0, .bool false]) (by simp [results, Try.results22, go_sem, n0, n1, n2, n3, n4, n5, n6, n7, n8, Shape.val, zeroS, zeroD]) rfl ?_
      exact ⟨zeroS, zeroD, 0, false, y.out, rfl, own_zero _ _, Chg.below (bs := [w.heap.size + 1]) bb1.out ((((((((((Chg.refl _ _).put (b := w.heap.size + 1) (by simp) 0 _).put (b := w.heap.size + 1) (by simp) 1 _).put (b := w.heap.size + 1) (by simp) 2 _).put (b := w.heap.size + 1) (by simp) 3 _).put (b := w.heap.size + 1) (by simp) 4 _).put (b := w.heap.size + 1) (by simp) 5 _).put (b := w.heap.size + 1) (by simp) 6 _).put (b := w.heap.size + 1) (by simp) 7 _).put (b := w.heap.size + 1) (by simp) 8 _) bb1.out.size (fun q hq => by rw [List.mem_singleton.1 hq]; omega)⟩
    have hb1 := Lib.hid (inB_yes e1.1 e1.2)
    have hb2 := Lib.hid (show inB p 0 n = false from inB_no (by
      rcases Int.lt_or_le p 0 with h | h
      · exact .inl h
      · rcases Int.lt_or_le n p with h2 | h2
        · exact .inr h2
        · exact absurd ⟨hF'.out, e1.1, e1.2, h, h2⟩ hok'.out))
    clear e1
    go_wp2_with (go_at_call 46; first | ((with_reducible refine (isIn_eq hb1.out _).mono ?_); rintro e w' ⟨rfl, rfl⟩) | ((with_reducible refine (isIn_eq hb2.out _).mono ?_); rintro e w' ⟨rfl, rfl⟩))
    refine bodyPost_ret (v := .tuple #[zeroS.val zeroD, .int .i64 0, .bool false]) (by simp [results, Try.results22, go_sem, n0, n1, n2, n3, n4, n5, n6, n7, n8, Shape.val, zeroS, zeroD]) rfl ?_
    exact ⟨zeroS, zeroD, 0, false, y.out, rfl, own_zero _ _, Chg.below (bs := [w.heap.size + 1]) bb1.out ((((((((((Chg.refl _ _).put (b := w.heap.size + 1) (by simp) 0 _).put (b := w.heap.size + 1) (by simp) 1 _).put (b := w.heap.size + 1) (by simp) 2 _).put (b := w.heap.size + 1) (by simp) 3 _).put (b := w.heap.size + 1) (by simp) 4 _).put (b := w.heap.size + 1) (by simp) 5 _).put (b := w.heap.size + 1) (by simp) 6 _).put (b := w.heap.size + 1) (by simp) 7 _).put (b := w.heap.size + 1) (by simp) 8 _) bb1.out.size (fun q hq => by rw [List.mem_singleton.1 hq]; omega)⟩
  have hF := hok.1
  have e1 := hok.2.1
  have e2 := hok.2.2.1
  have e3 := hok.2.2.2.1
  have e4 := hok.2.2.2.2
  have hok' := Lib.hid hok
  have hF' := Lib.hid hF
  have hb1 := Lib.hid (inB_yes e1 e2)
  have hb2 := Lib.hid (inB_yes e3 e4)
  obtain rfl : e = .returned (.bool true) := by
    rcases hq with ⟨_, h⟩ | ⟨h, _⟩
    · exact h
    · exact absurd hF h
  have hown := Lib.hid (copyOf_any w.heap.size _ D hs'.out w1 hW1.out ⟨_, rfl, hA1⟩)
  have hsp := Lib.hid (show D.spans.length ≤ 1000 by have := hF.spans; have := hF.geo.2.2.2.2.1; omega)
  have hR1' := Lib.hid hR1
  have hcn := Lib.hid (fun w => classOf_any n w)
  clear hok hq b1 hR1 hA1 hF
  go_wp2_with (go_at_call 46; first | ((with_reducible refine (isIn_eq hb1.out _).mono ?_); rintro e w' ⟨rfl, rfl⟩) | ((with_reducible refine (isIn_eq hb2.out _).mono ?_); rintro e w' ⟨rfl, rfl⟩))
  refine hown.out.mono ?_
  rintro e w2 ⟨S, rfl, ho, b2⟩
  obtain ⟨aw, ad, aS, am, ag, cw, cd, cS, cm, cg, sv, mv, rfl⟩ := Shape.lits ho
  have hv := Lib.hid (VarW.mk_box ho b2.size)
  have bb2 := Lib.hid (below_trans bb1.out b2)
  have hR2 := Lib.hid (heap_below (below_trans b2 (below_box w2 (.cells (Shape.cells ⟨.slice aw D.words.length cw, .slice ad D.dirty.length cd, .slice aS D.spans.length cS, .slice am D.muts.length cm, .slice ag D.grey.length cg, sv, mv⟩ D) 32))) hR1'.out)
  clear ho b2 hown
  have hbs := Lib.hid (show w1.heap.size ≤ w2.heap.size from hv.out.le)
  have hRne : ¬ (w2.heap.size = w.heap.size + 1) := by have := hz1.out; have := hbs.out; omega
  have hRne' : ¬ (w.heap.size + 1 = w2.heap.size) := by omega
  dsimp only [Shape.val]
  dsimp only [Shape.cells] at hv hR2
  go_wp2_with (go_at_call 73; refine (hcn.out _).mono ?_; rintro e w' ⟨rfl, rfl⟩)
  refine (hfp'.out _ _ _ D (cl n) hsp.out _ hv.out).mono ?_
  rintro e w3 ⟨hq, b3⟩
  have bb3 := Lib.hid (show Below w.heap.size w w3 from (below_trans bb2.out (below_box w2 _)).trans (b3.mono (by have := hz1.out; omega)))
  have hR3 := Lib.hid ((b3.block (w.heap.size + 1) (by have := hz1.out; omega)).trans hR2.out)
  clear b3 hv
  rcases hq with ⟨D1, k, j, S1, hpl, rfl, hv⟩ | ⟨hno, rfl, hv⟩
  case inr =>
    have y := Lib.hid (show TakeIs D n p zeroD 0 false from .inr ⟨fun _ => hno, rfl, rfl, rfl⟩)
    have hv' := Lib.hid hv
    have hzR : w.heap.size + 1 < w3.heap.size := by have := hz1.out; have := hbs.out; have := hv.lt; omega
    have bP := below_box w3 (.cells #[.int .i64 0, .int .i64 0] 93)
    have bb4 := Lib.hid (below_trans bb3.out bP)
    have hR4 := heap_below bP hR3.out
    clear hno hv bP
    go_upto_region 5 with fail
    generalize w3.alloc (.cells #[.int .i64 0, .int .i64 0] 93) = w4 at *
    have n0 := cell_of_heap hR4 0 _ rfl
    have n1 := cell_of_heap hR4 1 _ rfl
    have n2 := cell_of_heap hR4 2 _ rfl
    have n3 := cell_of_heap hR4 3 _ rfl
    have n4 := cell_of_heap hR4 4 _ rfl
    have n5 := cell_of_heap hR4 5 _ rfl
    have n6 := cell_of_heap hR4 6 _ rfl
    have n7 := cell_of_heap hR4 7 _ rfl
    have n8 := cell_of_heap hR4 8 _ rfl
    have z0 := frozen_of_heap hR4 0
    have z1 := frozen_of_heap hR4 1
    have z2 := frozen_of_heap hR4 2
    have z3 := frozen_of_heap hR4 3
    have z4 := frozen_of_heap hR4 4
    have z5 := frozen_of_heap hR4 5
    have z6 := frozen_of_heap hR4 6
    have z7 := frozen_of_heap hR4 7
    have z8 := frozen_of_heap hR4 8
    clear hR4
    go_wp2_with fail
    refine bodyPost_ret (v := .tuple #[zeroS.val zeroD, .int .i64 0, .bool false]) (by simp [results, Try.results22, go_sem, n0, n1, n2, n3, n4, n5, n6, n7, n8, Shape.val, zeroS, zeroD]) rfl ?_
    exact ⟨zeroS, zeroD, 0, false, y.out, rfl, own_zero _ _, Chg.below (bs := [w.heap.size + 1]) bb4.out ((((((((((Chg.refl _ _).put (b := w.heap.size + 1) (by simp) 0 _).put (b := w.heap.size + 1) (by simp) 1 _).put (b := w.heap.size + 1) (by simp) 2 _).put (b := w.heap.size + 1) (by simp) 3 _).put (b := w.heap.size + 1) (by simp) 4 _).put (b := w.heap.size + 1) (by simp) 5 _).put (b := w.heap.size + 1) (by simp) 6 _).put (b := w.heap.size + 1) (by simp) 7 _).put (b := w.heap.size + 1) (by simp) 8 _) bb4.out.size (fun q hq => by rw [List.mem_singleton.1 hq]; omega)⟩
  obtain ⟨s, hks, hin, hszc, hbas⟩ := place_in hF'.out e1 e2 hpl
  have y := Lib.hid (show TakeIs D n p (takeD D1 k s j n p) (D1.base + atW s (j : Int)) true from .inl ⟨hok'.out, D1, k, j, s, hpl, hks, rfl, rfl, rfl⟩)
  have hb0 : 0 ≤ D1.base := by have := hF'.out.geo.1; omega
  have hb1' : D1.base ≤ 1048576 := by have := hF'.out.geo.2.1; omega
  have bP := below_box w3 (.cells #[.int .i64 k, .int .i64 j] 93)
  have nP := Lib.hid (box_new w3 (.cells #[.int .i64 k, .int .i64 j] 93))
  have hv4 := Lib.hid (hv.below bP)
  have hR4 := Lib.hid (heap_below bP hR3.out)
  have bb4 := Lib.hid (below_trans bb3.out bP)
  have hownl := Lib.hid hv.own.lt
  have hB3 := hv.lt
  have hbd := hin.bd
  obtain ⟨p0, hp0⟩ := hv.svAt hks
  obtain ⟨gs, cs, hgs⟩ := hv.headS (by have := (List.getElem?_eq_some_iff.1 hks).1; omega)
  obtain ⟨gl, cl1, hgl⟩ := head_of (hv.own.inner k s p0 hks hp0).1 (by have := hin.j; omega)
  obtain ⟨gp, cp, hgp⟩ := head_of (hv.own.inner k s p0 hks hp0).2 (by have := hin.j; have := hin.lens; have := hin.ptrs; omega)
  have hj := hin.j
  have hjp : j < s.ptrs.length := by have := hin.lens; have := hin.ptrs; omega
  have hkl1 : (k : Int) < (D1.spans.length : Int) := by have := (List.getElem?_eq_some_iff.1 hks).1; omega
  have hjl1 : (j : Int) < (s.lens.length : Int) := by omega
  have hjp1 : (j : Int) < (s.ptrs.length : Int) := by omega
  obtain ⟨A, hA⟩ := Int.eq_ofNat_of_zero_le hbd.1
  have hdl := hin.dirty
  have hpg := hin.pg
  have hpg0 := hin.pg0
  have hpg1 := hin.pg1
  have hA2 : A ≤ 1000 := by omega
  have hdd : (A : Int) + n ≤ 8 * (D1.dirty.length : Int) := by omega
  have hj15 : (j : Int) ≤ 15 := hbd.2.2.2.2.1
  have hn32 : n ≤ 32 := by omega
  obtain ⟨_, _, -, hsm, -⟩ := hv.rd.parts.2.2.1
  obtain ⟨_, _, -, hsm1, -⟩ := Rd.of_owns (hv.own.inner k s p0 hks hp0).1
  obtain ⟨_, _, -, hsm2, -⟩ := Rd.of_owns (hv.own.inner k s p0 hks hp0).2
  unfold maxLen at hsm hsm1 hsm2
  have q0 := cell_of_heap nP.out 0 _ rfl
  have q1 := cell_of_heap nP.out 1 _ rfl
  have G4 := hv4.out.cell 4 (.slice (some ⟨gs, 0, none⟩) D1.spans.length cs) (by rw [← hgs]; rfl)
  obtain ⟨x0, x1, x2, x3, x4, x5⟩ := hv4.out.six hgs hks hp0
  rw [hgl] at x4
  rw [hgp] at x5
  obtain ⟨n1, n2, n3, n4, n5, n6⟩ := hv4.out.nes hgs hks hp0 hgl hgp
  obtain ⟨c1, c2⟩ := ints_cell (hv4.out.own.inner k s p0 hks hp0).1 hgl j hj
  obtain ⟨d1, d2⟩ := ints_cell (hv4.out.own.inner k s p0 hks hp0).2 hgp j hjp
  have m1 : ¬ (w3.heap.size = gl) := fun e => by have := (hownl.out gl (List.mem_filterMap.2 ⟨p0.1, by have : p0.1 ∈ svInts S1.sv := List.mem_flatMap.2 ⟨p0, List.mem_of_getElem? hp0, by simp⟩; simp [Shape.all, this], by rw [hgl]; rfl⟩)).2; omega
  have m2 : ¬ (w3.heap.size = gp) := fun e => by have := (hownl.out gp (List.mem_filterMap.2 ⟨p0.2, by have : p0.2 ∈ svInts S1.sv := List.mem_flatMap.2 ⟨p0, List.mem_of_getElem? hp0, by simp⟩; simp [Shape.all, this], by rw [hgp]; rfl⟩)).2; omega
  have hin' := Lib.hid hin
  have hks' := Lib.hid hks
  have hp0' := Lib.hid hp0
  have hgs' := Lib.hid hgs
  have hgl' := Lib.hid hgl
  have hgp' := Lib.hid hgp
  have hA' := Lib.hid hA
  have hle := Lib.hid hv.le
  have hfw := Lib.hid (fun (w : World) (s' : SpanD) (h0 : s'.page = s.page) (h1 : s'.cls = s.cls) (hr : RdSpan w gs (k * 6) s') => (show Calls Try.prog 75 #[.pointer (some ⟨gs, k * 6, none⟩), .int .i64 j] w fun e w' => e = .returned (.int .i64 (A : Int)) ∧ Drawn w w' from by
    have e9 : atW s' (j : Int) = (A : Int) := by rw [← hA]; unfold atW; rw [h0, h1]
    have := firstWord_any gs (k * 6) s' (j : Int) (by omega) (by omega) (by omega) (by omega) w hr
    rwa [e9] at this))
  clear hin hks hp0 hgs hgl hgp hA hbd hv hpl hszc hj hjp hdl hpg1 bP hbas
  go_wp2_with fail
  generalize hWe : w3.alloc (.cells #[.int .i64 k, .int .i64 j] 93) = w4 at *
  have hWz := Lib.hid (show w4.heap.size = w3.heap.size + 1 by rw [← hWe]; simp)
  clear hWe
  have s1 := hv4.out.lens k j s p0 n hks'.out hp0'.out hgl'.out
  have hk2 := Lib.hid (set_at (t := ({ s with lens := s.lens.set j n } : SpanD)) hks'.out)
  have s2 := s1.1.ptrs k j _ p0 p hk2.out hp0'.out hgp'.out
  have s3 : VarW ((w4.setCell ⟨gl, j, none⟩ (.int .i64 n)).setCell ⟨gp, j, none⟩ (.int .i64 p)) w1.heap.size w2.heap.size S1 { D1 with spans := D1.spans.set k (takeS s j n p) } := by simpa only [List.set_set, takeS] using s2.1
  have S2 := Lib.hid s3.drew
  have S3 := Lib.hid (below_drewN (s1.2.trans s2.2) 1)
  have bs2 := Lib.hid (((heap_setCell_other (w4.setCell ⟨gl, j, none⟩ (.int .i64 n)) ⟨gp, j, none⟩ w3.heap.size (.int .i64 p) (by simpa using m2)).trans (heap_setCell_other w4 ⟨gl, j, none⟩ w3.heap.size (.int .i64 n) (by simpa using m1))).trans nP.out)
  clear s1 s2 s3
  generalize s.lens[j]?.getD 0 = o3 at c1
  generalize s.ptrs[j]?.getD 0 = o4 at d1
  go_upto_region 8 with fail
  go_cut [12] (fun q wx => q = .pointer (some ⟨gs, k * 6, none⟩) ∧ Hid (VarW wx w1.heap.size w2.heap.size S1 { D1 with spans := D1.spans.set k (takeS s j n p) }) ∧ Hid (Below w1.heap.size w4 wx) ∧ Hid (wx.heap[w3.heap.size]? = some (.cells #[.int .i64 k, .int .i64 j] 93 (0, 0))))
  case first =>
    go_region
    all_goals go_wp2_with fail
    all_goals go_meet
    all_goals exact ⟨rfl, S2, S3, bs2⟩
  case rest =>
    obtain ⟨rfl, hv5, hb5, bn5⟩ := hcut
    clear q0 q1 G4 x0 x1 x2 x3 x4 x5 c1 d1 c2 d2 S2 S3 bs2
    have q1 := cell_of_heap bn5.out 1 _ rfl
    have hk5 := Lib.hid (set_at (t := takeS s j n p) hks'.out)
    have hgs5 := Lib.hid (show S1.vs = .slice (some ⟨gs, 0, none⟩) (D1.spans.set k (takeS s j n p)).length cs by rw [List.length_set]; exact hgs'.out)
    have hrs := Lib.hid (show RdSpan wc gs (k * 6) (takeS s j n p) from by
      obtain ⟨x0, x1, x2, x3, x4, x5⟩ := hv5.out.six hgs5.out hk5.out hp0'.out
      have hi := hv5.out.own.inner k _ p0 hk5.out hp0'.out
      exact ⟨_, _, x0, x1, x2, x3, x4, x5, Rd.of_owns hi.1, Rd.of_owns hi.2⟩)
    go_wp2_with fail
    refine (hfw.out _ (takeS s j n p) rfl rfl hrs.out).mono ?_
    rintro e w6 ⟨rfl, dr6⟩
    have b6 := dr6.below
    have hv6 := Lib.hid (hv5.out.below b6)
    have hb6 := Lib.hid (hb5.out.trans (b6.mono (by have := hv5.out.lt; have := hv5.out.le; omega)))
    have bn6 := Lib.hid (heap_below b6 bn5.out)
    clear dr6 b6 q1
    go_wp2_with fail
    refine (soil2_any _ _ _ _ (A : Int) n (by omega) (by omega) (by omega) (by omega) (by exact hdd) _ hv6.out).mono ?_
    rintro e w7 ⟨⟨_, rfl⟩, hv7, b7, ch7⟩
    have hv7' := Lib.hid (show VarW w7 w1.heap.size w2.heap.size S1 (takeD D1 k s j n p) from by
      unfold takeD
      rw [hA'.out]
      exact hv7)
    have hb7 := Lib.hid (hb6.out.trans b7)
    have bn7 := (ch7.block w3.heap.size (Array.getElem?_eq_some_iff.1 bn6.out).1 (fun hm => by have := (hownl.out _ hm).2; omega)).trans bn6.out
    have bn7' := Lib.hid bn7
    have bbe := Lib.hid (bb4.out.trans (hb7.out.mono (by have := hz1.out; omega)))
    have hRe := (hb7.out.block (w.heap.size + 1) (by have := hz1.out; omega)).trans hR4.out
    have hRe' := Lib.hid hRe
    have hkt := Lib.hid (show (takeD D1 k s j n p).spans[k]? = some (takeS s j n p) from set_at hks'.out)
    have hadr := Lib.hid (fun (w' : World) (hb : Below w7.heap.size w7 w') => addrI_any w2.heap.size _ (takeD D1 k s j n p) k j (takeS s j n p) hkt.out hpg0 (by show s.page ≤ 1000; have := hin'.out.pg1; omega) (by omega) hb0 hb1' w' (hv7'.out.below hb).rd (hv7'.out.below hb).boxW)
    have haw : atW (takeS s j n p) (j : Int) = atW s (j : Int) := rfl
    rw [haw] at hadr
    have hbase : (takeD D1 k s j n p).base = D1.base := rfl
    rw [hbase] at hadr
    generalize D1.base + atW s (j : Int) = a at *
    generalize takeD D1 k s j n p = E at *
    obtain ⟨aw', ad', aS', am', ag', cw', cd', cS', cm', cg', sv', mv', rfl⟩ := Shape.lits hv7'.out.own
    have bE := hv7'.out.box
    dsimp only [Shape.cells] at bE
    have u0 := cell_of_heap bE 0 _ rfl
    have u1 := cell_of_heap bE 1 _ rfl
    have u2 := cell_of_heap bE 2 _ rfl
    have u3 := cell_of_heap bE 3 _ rfl
    have u4 := cell_of_heap bE 4 _ rfl
    have u5 := cell_of_heap bE 5 _ rfl
    have u6 := cell_of_heap bE 6 _ rfl
    have u7 := cell_of_heap bE 7 _ rfl
    have u8 := cell_of_heap bE 8 _ rfl
    have v0 := cell_of_heap bn7 0 _ rfl
    have v1 := cell_of_heap bn7 1 _ rfl
    have n0 := cell_of_heap hRe 0 _ rfl
    have n1 := cell_of_heap hRe 1 _ rfl
    have n2 := cell_of_heap hRe 2 _ rfl
    have n3 := cell_of_heap hRe 3 _ rfl
    have n4 := cell_of_heap hRe 4 _ rfl
    have n5 := cell_of_heap hRe 5 _ rfl
    have n6 := cell_of_heap hRe 6 _ rfl
    have n7 := cell_of_heap hRe 7 _ rfl
    have n8 := cell_of_heap hRe 8 _ rfl
    have z0 := frozen_of_heap hRe 0
    have z1 := frozen_of_heap hRe 1
    have z2 := frozen_of_heap hRe 2
    have z3 := frozen_of_heap hRe 3
    have z4 := frozen_of_heap hRe 4
    have z5 := frozen_of_heap hRe 5
    have z6 := frozen_of_heap hRe 6
    have z7 := frozen_of_heap hRe 7
    have z8 := frozen_of_heap hRe 8
    have U0 := Ext.cell u0
    have U1 := Ext.cell u1
    have U2 := Ext.cell u2
    have U3 := Ext.cell u3
    have U4 := Ext.cell u4
    have U5 := Ext.cell u5
    have U6 := Ext.cell u6
    have U7 := Ext.cell u7
    have U8 := Ext.cell u8
    have V0 := Ext.cell v0
    have V1 := Ext.cell v1
    have N0 := Ext.cell n0
    have Z0 := Ext.frozen n0 z0
    have N1 := Ext.cell n1
    have Z1 := Ext.frozen n1 z1
    have N2 := Ext.cell n2
    have Z2 := Ext.frozen n2 z2
    have N3 := Ext.cell n3
    have Z3 := Ext.frozen n3 z3
    have N4 := Ext.cell n4
    have Z4 := Ext.frozen n4 z4
    have N5 := Ext.cell n5
    have Z5 := Ext.frozen n5 z5
    have N6 := Ext.cell n6
    have Z6 := Ext.frozen n6 z6
    have N7 := Ext.cell n7
    have Z7 := Ext.frozen n7 z7
    have N8 := Ext.cell n8
    have Z8 := Ext.frozen n8 z8
    have hB9 := Lib.hid (show w.heap.size + 1 < w2.heap.size by have := hz1.out; have := hbs.out; omega)
    clear hv7 b7 ch7 haw hbase bn7 hRe bE bn7' hRe' hkt hks' hin' hA' hfw hk2 hgs' hgl' hgp' hp0' hle hownl
    go_upto_region 10 with fail
    go_region_with (go_at_call 76; refine (hadr.out _ ?_).mono ?_; (first | exact Below.refl _ _ | exact below_drewN (Below.refl _ _) 1 | exact below_drewN (Below.refl _ _) 2); rintro e w8 ⟨rfl, b8⟩; have b9 : Below w7.heap.size w7 w8 := ⟨b8.os, b8.tape, b8.output, b8.size, b8.block⟩; clear b8; obtain ⟨x8, rfl⟩ := Ext.of b9)
    all_goals go_wp2_with fail
    all_goals refine bodyPost_ret (v := .tuple #[.agg #[.int .i64 E.base, .int .i64 E.pages, .slice aw' E.words.length cw', .slice ad' E.dirty.length cd', .slice aS' E.spans.length cS', .slice am' E.muts.length cm', .int .i64 E.phase, .int .i64 E.next, .slice ag' E.grey.length cg'], .int .i64 a, .bool true]) (by simp [results, Try.results22, go_sem, N0, N1, N2, N3, N4, N5, N6, N7, N8]) rfl ?_
    all_goals exact ⟨_, E, a, true, y.out, rfl, (hv7'.out.below b9).handed (below_trans bbe.out b9) (R := w.heap.size + 1) (Nat.le_succ _) (by have := hz1.out; omega) ((((((((((Chg.refl _ _).put (b := w.heap.size + 1) (by simp) 0 _).put (b := w.heap.size + 1) (by simp) 1 _).put (b := w.heap.size + 1) (by simp) 2 _).put (b := w.heap.size + 1) (by simp) 3 _).put (b := w.heap.size + 1) (by simp) 4 _).put (b := w.heap.size + 1) (by simp) 5 _).put (b := w.heap.size + 1) (by simp) 6 _).put (b := w.heap.size + 1) (by simp) 7 _).put (b := w.heap.size + 1) (by simp) 8 _)⟩
end Go.Proofs.Ytajogfnlbdiokaa

/-
  The contract of the program's Take.
-/
namespace Go.Proofs.Ytajogfnlbdiokaa
open Go.RowKit
set_option linter.unusedVariables false

theorem itake_any (v : Value) (D : WD) (n p : Int) (hm : MarksIn D) (hs : Small D) (w : World) (hr : RdW w v D) :
    Calls Try.prog 22 #[v, .int .i64 n, .int .i64 p] w fun e w' => ∃ S D' a f, TakeIs D n p D' a f ∧ e = .returned (.tuple #[S.val D', .int .i64 a, .bool f]) ∧ OwnW w' w.heap.size S D' ∧ Below w.heap.size w w' :=
  itake_of (fun base B S D c hls w h => (freePlace_any base B S D c hls w h).mono fun e w' h => ⟨h.1, h.2⟩) v D n p hm hs w hr
end Go.Proofs.Ytajogfnlbdiokaa

/-
  The walk of FnExactTake, the contracts of the model and of the program being premises.
-/
namespace Go.Proofs.Ytajogfnlbdiokaa
open Go.RowKit
set_option linter.unusedVariables false

set_option maxRecDepth 100000 in
set_option maxHeartbeats 16000000 in
theorem lawW_take (D : WD) (n p : Int) 
    (hS : D.bulk ≤ 1048576 → ∀ (v : Value) (w : World), RdW w v D → Calls Try.prog 20 #[v, .int .i64 n, .int .i64 p] w fun e w' => ∃ S D' a f, TakeIs D n p D' a f ∧ e = .returned (.tuple #[S.val D', .int .i64 a, .bool f]) ∧ OwnW w' w.heap.size S D' ∧ Below w.heap.size w w')
    (hI : D.bulk ≤ 1048576 → ∀ (v : Value) (w : World), RdW w v D → Calls Try.prog 22 #[v, .int .i64 n, .int .i64 p] w fun e w' => ∃ S D' a f, TakeIs D n p D' a f ∧ e = .returned (.tuple #[S.val D', .int .i64 a, .bool f]) ∧ OwnW w' w.heap.size S D' ∧ Below w.heap.size w w')
    (v : Value) (w : World) (hr : RdW w v D) :
    Calls Try.prog 4 #[v, .int .i64 n, .int .i64 p] w fun e w' => e = .returned (.bool true) ∧ Below w.heap.size w w' := by
  have hS' := Lib.hid hS
  have hI' := Lib.hid hI
  clear hS hI
  obtain ⟨aw, ad, aS, am, ag, cw, cd, cS, cm, cg, rfl⟩ := hr.written
  have hr' := Lib.hid hr
  have bb := Lib.hid (below_box w (.cells #[.int .i64 D.base, .int .i64 D.pages, .slice aw D.words.length cw, .slice ad D.dirty.length cd, .slice aS D.spans.length cS, .slice am D.muts.length cm, .int .i64 D.phase, .int .i64 D.next, .slice ag D.grey.length cg] 43))
  have bx := Lib.hid (box_new w (.cells #[.int .i64 D.base, .int .i64 D.pages, .slice aw D.words.length cw, .slice ad D.dirty.length cd, .slice aS D.spans.length cS, .slice am D.muts.length cm, .int .i64 D.phase, .int .i64 D.next, .slice ag D.grey.length cg] 43))
  have hrW := Lib.hid (hr.below bb.out)
  clear hr
  unfold worldV
  go_enter Try.func4, Try.ntmps4
  go_wp2_with fail
  refine (szWorld_any _ D _ (by omega) (by omega) _ hrW.out).mono ?_
  rintro e w1 ⟨r1, rfl, z1, b1⟩
  have t1 := z1.lo
  have bw1 := Lib.hid (below_trans bb.out b1)
  have bx1 := Lib.hid (heap_below b1 bx.out)
  have hr1 := Lib.hid (hr'.out.below bw1.out)
  by_cases c1 : r1 < 0
  · clear z1 b1
    go_wp2_with fail
    go_ret
    exact ⟨rfl, bw1.out⟩
  have hbk := Lib.hid (show D.bulk ≤ 1048576 by have := z1.fits (by omega); omega)
  have hsm := Lib.hid (Small.of_bulk hbk.out)
  have hzz1 := Lib.hid (show w.heap.size + 1 ≤ w1.heap.size by have := b1.size; simpa using this)
  have f0 := cell_of_heap bx1.out 0 _ rfl
  have f1 := cell_of_heap bx1.out 1 _ rfl
  have f2 := cell_of_heap bx1.out 2 _ rfl
  have f3 := cell_of_heap bx1.out 3 _ rfl
  have f4 := cell_of_heap bx1.out 4 _ rfl
  have f5 := cell_of_heap bx1.out 5 _ rfl
  have f6 := cell_of_heap bx1.out 6 _ rfl
  have f7 := cell_of_heap bx1.out 7 _ rfl
  have f8 := cell_of_heap bx1.out 8 _ rfl
  clear z1 b1
  go_wp2_with fail
  refine (toWorld_rd _ D hsm.out _ hr1.out).mono ?_
  rintro e w2 ⟨aw2, ad2, aS2, am2, ag2, cw2, cd2, cS2, cm2, cg2, rfl, h2, b2⟩
  have bw2 := Lib.hid (below_trans bw1.out b2)
  have bx2 := Lib.hid (heap_below b2 bx1.out)
  have h2' := Lib.hid h2
  have hzz2 := Lib.hid b2.size
  clear h2 b2
  clear f0 f1 f2 f3 f4 f5 f6 f7 f8
  unfold worldV
  go_wp2_with fail
  refine (hS'.out hbk.out _ _ h2'.out).mono ?_
  rintro e w3 ⟨S3, E, a, f, hn3, rfl, h3, b3⟩
  obtain ⟨a3, k3, c3, d3, l3, e3, s3, n3, o3, m3, q3, r3, y3, z3, u3, sv3, mv3, rfl⟩ := h3.lits
  have hn := Lib.hid hn3
  have hmE := Lib.hid (TakeIs.markable hn3 hbk.out)
  have bw3 := Lib.hid (below_trans bw2.out (below_trans b3 (below_box w3 (.cells #[.int .i64 E.base, .int .i64 E.pages, .slice a3 k3 c3, .slice d3 l3 e3, .slice s3 n3 o3, .slice m3 q3 r3, .int .i64 E.phase, .int .i64 E.next, .slice y3 z3 u3] 32))))
  have bA3 := Lib.hid (heap_below (below_trans b3 (below_box w3 (.cells #[.int .i64 E.base, .int .i64 E.pages, .slice a3 k3 c3, .slice d3 l3 e3, .slice s3 n3 o3, .slice m3 q3 r3, .int .i64 E.phase, .int .i64 E.next, .slice y3 z3 u3] 32))) bx2.out)
  have bW3 := Lib.hid (box_new w3 (.cells #[.int .i64 E.base, .int .i64 E.pages, .slice a3 k3 c3, .slice d3 l3 e3, .slice s3 n3 o3, .slice m3 q3 r3, .int .i64 E.phase, .int .i64 E.next, .slice y3 z3 u3] 32))
  have hW3 := Lib.hid (h3.below (below_box w3 (.cells #[.int .i64 E.base, .int .i64 E.pages, .slice a3 k3 c3, .slice d3 l3 e3, .slice s3 n3 o3, .slice m3 q3 r3, .int .i64 E.phase, .int .i64 E.next, .slice y3 z3 u3] 32)))
  have lt3 := Lib.hid (fun q hq => (h3.lt q hq).2)
  have hr3 := Lib.hid (hr'.out.below bw3.out)
  have hzz3 := Lib.hid b3.size
  clear hn3 h3 b3 h2'
  dsimp only [Shape.val]
  have f0 := cell_of_heap bA3.out 0 _ rfl
  have f1 := cell_of_heap bA3.out 1 _ rfl
  have f2 := cell_of_heap bA3.out 2 _ rfl
  have f3 := cell_of_heap bA3.out 3 _ rfl
  have f4 := cell_of_heap bA3.out 4 _ rfl
  have f5 := cell_of_heap bA3.out 5 _ rfl
  have f6 := cell_of_heap bA3.out 6 _ rfl
  have f7 := cell_of_heap bA3.out 7 _ rfl
  have f8 := cell_of_heap bA3.out 8 _ rfl
  go_wp2_with fail
  refine (toWorld_any _ D hsm.out _ hr3.out).mono ?_
  rintro e w4 ⟨S4, rfl, h4, b4⟩
  obtain ⟨a4, k4, c4, d4, l4, e4, s4, n4, o4, m4, q4, r4, y4, z4, u4, sv4, mv4, rfl⟩ := h4.lits
  clear f0 f1 f2 f3 f4 f5 f6 f7 f8
  have hmD := Lib.hid (show Markable D from ⟨by have := hbk.out; have h5 : D.spans.length ≤ D.bulk := (by unfold WD.bulk; omega); omega⟩)
  have bw4 := Lib.hid (below_trans bw3.out (below_trans b4 (below_box w4 (.cells #[.int .i64 D.base, .int .i64 D.pages, .slice a4 k4 c4, .slice d4 l4 e4, .slice s4 n4 o4, .slice m4 q4 r4, .int .i64 D.phase, .int .i64 D.next, .slice y4 z4 u4] 32))))
  have bA4 := Lib.hid (heap_below (below_trans b4 (below_box w4 (.cells #[.int .i64 D.base, .int .i64 D.pages, .slice a4 k4 c4, .slice d4 l4 e4, .slice s4 n4 o4, .slice m4 q4 r4, .int .i64 D.phase, .int .i64 D.next, .slice y4 z4 u4] 32))) bA3.out)
  have bW4 := Lib.hid (heap_below (below_trans b4 (below_box w4 (.cells #[.int .i64 D.base, .int .i64 D.pages, .slice a4 k4 c4, .slice d4 l4 e4, .slice s4 n4 o4, .slice m4 q4 r4, .int .i64 D.phase, .int .i64 D.next, .slice y4 z4 u4] 32))) bW3.out)
  have hW4 := Lib.hid (hW3.out.below (below_trans b4 (below_box w4 (.cells #[.int .i64 D.base, .int .i64 D.pages, .slice a4 k4 c4, .slice d4 l4 e4, .slice s4 n4 o4, .slice m4 q4 r4, .int .i64 D.phase, .int .i64 D.next, .slice y4 z4 u4] 32))))
  have bX4 := Lib.hid (box_new w4 (.cells #[.int .i64 D.base, .int .i64 D.pages, .slice a4 k4 c4, .slice d4 l4 e4, .slice s4 n4 o4, .slice m4 q4 r4, .int .i64 D.phase, .int .i64 D.next, .slice y4 z4 u4] 32))
  have hX4 := Lib.hid (h4.below (below_box w4 (.cells #[.int .i64 D.base, .int .i64 D.pages, .slice a4 k4 c4, .slice d4 l4 e4, .slice s4 n4 o4, .slice m4 q4 r4, .int .i64 D.phase, .int .i64 D.next, .slice y4 z4 u4] 32)))
  have lt4 := Lib.hid (fun q hq => (show w3.heap.size + 1 ≤ q ∧ q < w4.heap.size by have := h4.lt q hq; simpa using this))
  have hzz4 := Lib.hid (show w3.heap.size + 1 ≤ w4.heap.size by have := b4.size; simpa using this)
  clear h4 b4 hW3 bW3 bA3
  dsimp only [Shape.val]
  go_wp2_with fail
  refine (hI'.out hbk.out _ _ hX4.out.rd).mono ?_
  rintro e w5 ⟨S5, E', a5, f5, hn5, rfl, h5, b5⟩
  obtain ⟨rfl, rfl, rfl⟩ := TakeIs.unique hn5 hn.out
  obtain ⟨a5, k5, c5, d5, l5, e5, s5, n5, o5, m5, q5, r5, y5, z5, u5, sv5, mv5, rfl⟩ := h5.lits
  have bb5 := below_trans b5 (below_box w5 (.cells #[.int .i64 E.base, .int .i64 E.pages, .slice a5 k5 c5, .slice d5 l5 e5, .slice s5 n5 o5, .slice m5 q5 r5, .int .i64 E.phase, .int .i64 E.next, .slice y5 z5 u5] 32))
  have bw5 := Lib.hid (below_trans bw4.out bb5)
  have bA5 := Lib.hid (heap_below bb5 bA4.out)
  have bW5 := Lib.hid (heap_below bb5 bW4.out)
  have hW5 := Lib.hid (hW4.out.below bb5)
  have bX5 := Lib.hid (heap_below bb5 bX4.out)
  have hX5 := Lib.hid (hX4.out.below bb5)
  have bG5 := Lib.hid (box_new w5 (.cells #[.int .i64 E.base, .int .i64 E.pages, .slice a5 k5 c5, .slice d5 l5 e5, .slice s5 n5 o5, .slice m5 q5 r5, .int .i64 E.phase, .int .i64 E.next, .slice y5 z5 u5] 32))
  have hG5 := Lib.hid (h5.below (below_box w5 (.cells #[.int .i64 E.base, .int .i64 E.pages, .slice a5 k5 c5, .slice d5 l5 e5, .slice s5 n5 o5, .slice m5 q5 r5, .int .i64 E.phase, .int .i64 E.next, .slice y5 z5 u5] 32)))
  have lt5 := Lib.hid (fun q hq => (show w4.heap.size + 1 ≤ q ∧ q < w5.heap.size by have := h5.lt q hq; simpa using this))
  have hzz5 := Lib.hid (show w4.heap.size + 1 ≤ w5.heap.size by have := b5.size; simpa using this)
  clear hn5 h5 b5 bb5 bA4 bW4 hW4 bX4 hX4
  dsimp only [Shape.val]
  have f0 := cell_of_heap bG5.out 0 _ rfl
  have f1 := cell_of_heap bG5.out 1 _ rfl
  have f2 := cell_of_heap bG5.out 2 _ rfl
  have f3 := cell_of_heap bG5.out 3 _ rfl
  have f4 := cell_of_heap bG5.out 4 _ rfl
  have f5 := cell_of_heap bG5.out 5 _ rfl
  have f6 := cell_of_heap bG5.out 6 _ rfl
  have f7 := cell_of_heap bG5.out 7 _ rfl
  have f8 := cell_of_heap bG5.out 8 _ rfl
  have g0 := cell_of_heap bW5.out 0 _ rfl
  have g1 := cell_of_heap bW5.out 1 _ rfl
  have g2 := cell_of_heap bW5.out 2 _ rfl
  have g3 := cell_of_heap bW5.out 3 _ rfl
  have g4 := cell_of_heap bW5.out 4 _ rfl
  have g5 := cell_of_heap bW5.out 5 _ rfl
  have g6 := cell_of_heap bW5.out 6 _ rfl
  have g7 := cell_of_heap bW5.out 7 _ rfl
  have g8 := cell_of_heap bW5.out 8 _ rfl
  go_wp2_with fail
  refine (eqWorld_same _ _ E _ hG5.out.rd hW5.out.rd).mono ?_
  rintro e w6 ⟨rfl, b6⟩
  have bw6 := Lib.hid (below_trans bw5.out b6)
  have bA6 := Lib.hid (heap_below b6 bA5.out)
  have bW6 := Lib.hid (heap_below b6 bW5.out)
  have hW6 := Lib.hid (hW5.out.below b6)
  have bX6 := Lib.hid (heap_below b6 bX5.out)
  have hX6 := Lib.hid (hX5.out.below b6)
  have bG6 := Lib.hid (heap_below b6 bG5.out)
  have hG6 := Lib.hid (hG5.out.below b6)
  have hr6 := Lib.hid (hr'.out.below bw6.out)
  have hzz6 := Lib.hid (show w5.heap.size + 1 ≤ w6.heap.size by have := b6.size; simpa using this)
  clear b6 bA5 bW5 hW5 bX5 hX5 bG5 hG5
  clear f0 f1 f2 f3 f4 f5 f6 f7 f8
  clear g0 g1 g2 g3 g4 g5 g6 g7 g8
  have f0 := cell_of_heap bA6.out 0 _ rfl
  have f1 := cell_of_heap bA6.out 1 _ rfl
  have f2 := cell_of_heap bA6.out 2 _ rfl
  have f3 := cell_of_heap bA6.out 3 _ rfl
  have f4 := cell_of_heap bA6.out 4 _ rfl
  have f5 := cell_of_heap bA6.out 5 _ rfl
  have f6 := cell_of_heap bA6.out 6 _ rfl
  have f7 := cell_of_heap bA6.out 7 _ rfl
  have f8 := cell_of_heap bA6.out 8 _ rfl
  have g0 := cell_of_heap bX6.out 0 _ rfl
  have g1 := cell_of_heap bX6.out 1 _ rfl
  have g2 := cell_of_heap bX6.out 2 _ rfl
  have g3 := cell_of_heap bX6.out 3 _ rfl
  have g4 := cell_of_heap bX6.out 4 _ rfl
  have g5 := cell_of_heap bX6.out 5 _ rfl
  have g6 := cell_of_heap bX6.out 6 _ rfl
  have g7 := cell_of_heap bX6.out 7 _ rfl
  have g8 := cell_of_heap bX6.out 8 _ rfl
  go_upto_region 10 with fail
  go_cut [63] (fun q wx => q = .bool false ∧ Hid (Below w6.heap.size w6 wx))
  case first =>
    go_region_with (first
      | (go_at_call 21; refine (toWorld_rd _ D hsm.out _ ?_).mono ?_; exact hr6.out; rintro e w7 ⟨aw7, ad7, aS7, am7, ag7, cw7, cd7, cS7, cm7, cg7, rfl, h7, b7⟩; have b77 := Lib.hid (show Below w6.heap.size w6 w7 from ⟨b7.os, b7.tape, b7.output, b7.size, b7.block⟩); have h67 := Lib.hid (hX6.out.rd.below b77.out); have x7 := heap_below b77.out bX6.out; have y0 := cell_of_heap x7 0 _ rfl; have y1 := cell_of_heap x7 1 _ rfl; have y2 := cell_of_heap x7 2 _ rfl; have y3 := cell_of_heap x7 3 _ rfl; have y4 := cell_of_heap x7 4 _ rfl; have y5 := cell_of_heap x7 5 _ rfl; have y6 := cell_of_heap x7 6 _ rfl; have y7 := cell_of_heap x7 7 _ rfl; have y8 := cell_of_heap x7 8 _ rfl; unfold worldV at h7 ⊢; clear b7 x7)
      | (go_at_call 23; refine (eqWorld_same _ _ D _ ?_ ?_).mono ?_; exact h67.out; exact h7; rintro e w8 ⟨rfl, b8⟩; have b88 := Lib.hid (show Below w7.heap.size w7 w8 from ⟨b8.os, b8.tape, b8.output, b8.size, b8.block⟩)))
    all_goals go_wp2_with fail
    all_goals go_meet
    all_goals exact ⟨rfl, below_trans b77.out b88.out⟩
  case rest =>
    obtain ⟨rfl, b7⟩ := hcut
    have bw7 := Lib.hid (below_trans bw6.out b7.out)
    have bA7 := Lib.hid (heap_below b7.out bA6.out)
    have bW7 := Lib.hid (heap_below b7.out bW6.out)
    have hW7 := Lib.hid (hW6.out.below b7.out)
    have bX7 := Lib.hid (heap_below b7.out bX6.out)
    have hX7 := Lib.hid (hX6.out.below b7.out)
    have bG7 := Lib.hid (heap_below b7.out bG6.out)
    have hG7 := Lib.hid (hG6.out.below b7.out)
    have hzz7 := Lib.hid b7.out.size
    clear b7 bw6 bA6 bW6 hW6 bX6 hX6 bG6 hG6
    clear f0 f1 f2 f3 f4 f5 f6 f7 f8
    clear g0 g1 g2 g3 g4 g5 g6 g7 g8
    have f0 := cell_of_heap bX7.out 0 _ rfl
    have f1 := cell_of_heap bX7.out 1 _ rfl
    have f2 := cell_of_heap bX7.out 2 _ rfl
    have f3 := cell_of_heap bX7.out 3 _ rfl
    have f4 := cell_of_heap bX7.out 4 _ rfl
    have f5 := cell_of_heap bX7.out 5 _ rfl
    have f6 := cell_of_heap bX7.out 6 _ rfl
    have f7 := cell_of_heap bX7.out 7 _ rfl
    have f8 := cell_of_heap bX7.out 8 _ rfl
    go_wp2_with fail
    refine (markWorld_any _ _ D 1 hmD.out (by omega) (by omega) _ hX7.out).mono ?_
    rintro e w8 ⟨rfl, h8, c8⟩
    have q1 := hzz1.out
    have q2 := hzz2.out
    have q3 := hzz3.out
    have q4 := hzz4.out
    have q5 := hzz5.out
    have q6 := hzz6.out
    have q7 := hzz7.out
    have bA8 := Lib.hid ((c8.block w.heap.size (by omega) (fun hq => by have := lt4.out _ hq; omega)).trans bA7.out)
    have bW8 := Lib.hid ((c8.block w3.heap.size (by omega) (fun hq => by have := lt4.out _ hq; omega)).trans bW7.out)
    have hW8 := Lib.hid (hW7.out.chg c8 (fun q hq hm => by have := lt4.out _ hm; have := lt3.out _ hq; omega))
    have bG8 := Lib.hid ((c8.block w5.heap.size (by omega) (fun hq => by have := lt4.out _ hq; omega)).trans bG7.out)
    have hG8 := Lib.hid (hG7.out.chg c8 (fun q hq hm => by have := lt4.out _ hm; have := lt5.out _ hq; omega))
    have bw8 := Lib.hid (Chg.below bw7.out c8 bw7.out.size (fun q hq => by have := lt4.out _ hq; omega))
    have hzz8 := Lib.hid c8.size
    have hM := mk_bd hmD.out (show (0 : Int) ≤ 1 by omega) (by omega)
    obtain ⟨-, -, -, -, hM0, -⟩ := hM
    generalize mk5 D 1 = M at *
    clear h8 c8 q1 q2 q3 q4 q5 q6 q7 bw7 bA7 bW7 hW7 bX7 hX7 bG7 hG7
    clear f0 f1 f2 f3 f4 f5 f6 f7 f8
    have f0 := cell_of_heap bG8.out 0 _ rfl
    have f1 := cell_of_heap bG8.out 1 _ rfl
    have f2 := cell_of_heap bG8.out 2 _ rfl
    have f3 := cell_of_heap bG8.out 3 _ rfl
    have f4 := cell_of_heap bG8.out 4 _ rfl
    have f5 := cell_of_heap bG8.out 5 _ rfl
    have f6 := cell_of_heap bG8.out 6 _ rfl
    have f7 := cell_of_heap bG8.out 7 _ rfl
    have f8 := cell_of_heap bG8.out 8 _ rfl
    have g0 := cell_of_heap bW8.out 0 _ rfl
    have g1 := cell_of_heap bW8.out 1 _ rfl
    have g2 := cell_of_heap bW8.out 2 _ rfl
    have g3 := cell_of_heap bW8.out 3 _ rfl
    have g4 := cell_of_heap bW8.out 4 _ rfl
    have g5 := cell_of_heap bW8.out 5 _ rfl
    have g6 := cell_of_heap bW8.out 6 _ rfl
    have g7 := cell_of_heap bW8.out 7 _ rfl
    have g8 := cell_of_heap bW8.out 8 _ rfl
    go_wp2_with fail
    refine (eqWorld_same _ _ E _ hG8.out.rd hW8.out.rd).mono ?_
    rintro e w9 ⟨rfl, b9⟩
    have bw9 := Lib.hid (below_trans bw8.out b9)
    have bA9 := Lib.hid (heap_below b9 bA8.out)
    have bW9 := Lib.hid (heap_below b9 bW8.out)
    have hW9 := Lib.hid (hW8.out.below b9)
    have bG9 := Lib.hid (heap_below b9 bG8.out)
    have hG9 := Lib.hid (hG8.out.below b9)
    have hzz9 := Lib.hid b9.size
    clear b9 bw8 bA8 bW8 hW8 bG8 hG8
    clear f0 f1 f2 f3 f4 f5 f6 f7 f8
    clear g0 g1 g2 g3 g4 g5 g6 g7 g8
    have f0 := cell_of_heap bG9.out 0 _ rfl
    have f1 := cell_of_heap bG9.out 1 _ rfl
    have f2 := cell_of_heap bG9.out 2 _ rfl
    have f3 := cell_of_heap bG9.out 3 _ rfl
    have f4 := cell_of_heap bG9.out 4 _ rfl
    have f5 := cell_of_heap bG9.out 5 _ rfl
    have f6 := cell_of_heap bG9.out 6 _ rfl
    have f7 := cell_of_heap bG9.out 7 _ rfl
    have f8 := cell_of_heap bG9.out 8 _ rfl
    go_wp2_with fail
    refine (markWorld_any _ _ E 1 hmE.out (by omega) (by omega) _ hG9.out).mono ?_
    rintro e w10 ⟨rfl, h10, c10⟩
    have q1 := hzz1.out
    have q2 := hzz2.out
    have q3 := hzz3.out
    have q4 := hzz4.out
    have q5 := hzz5.out
    have q6 := hzz6.out
    have q7 := hzz7.out
    have q8 := hzz8.out
    have q9 := hzz9.out
    have bA10 := Lib.hid ((c10.block w.heap.size (by omega) (fun hq => by have := lt5.out _ hq; omega)).trans bA9.out)
    have bW10 := Lib.hid ((c10.block w3.heap.size (by omega) (fun hq => by have := lt5.out _ hq; omega)).trans bW9.out)
    have hW10 := Lib.hid (hW9.out.chg c10 (fun q hq hm => by have := lt5.out _ hm; have := lt3.out _ hq; omega))
    have bG10 := Lib.hid ((c10.block w5.heap.size (by omega) (fun hq => by have := lt5.out _ hq; omega)).trans bG9.out)
    have hG10 := Lib.hid h10
    have bw10 := Lib.hid (Chg.below bw9.out c10 bw9.out.size (fun q hq => by have := lt5.out _ hq; omega))
    have hM2 := mk_bd hmE.out (show (0 : Int) ≤ 1 by omega) (by omega)
    obtain ⟨-, -, -, -, hM20, -⟩ := hM2
    have hheld := Lib.hid (fun v => heldWorld_yes v E 1 hmE.out (by omega) (by omega))
    generalize mk5 E 1 = M2 at *
    clear h10 c10 q1 q2 q3 q4 q5 q6 q7 q8 q9 bw9 bA9 bW9 hW9 bG9 hG9
    clear f0 f1 f2 f3 f4 f5 f6 f7 f8
    have f0 := cell_of_heap bG10.out 0 _ rfl
    have f1 := cell_of_heap bG10.out 1 _ rfl
    have f2 := cell_of_heap bG10.out 2 _ rfl
    have f3 := cell_of_heap bG10.out 3 _ rfl
    have f4 := cell_of_heap bG10.out 4 _ rfl
    have f5 := cell_of_heap bG10.out 5 _ rfl
    have f6 := cell_of_heap bG10.out 6 _ rfl
    have f7 := cell_of_heap bG10.out 7 _ rfl
    have f8 := cell_of_heap bG10.out 8 _ rfl
    go_wp2_with fail
    refine (hheld.out _ _ hG10.out.rd).mono ?_
    rintro e w11 ⟨rfl, b11⟩
    have bw11 := Lib.hid (below_trans bw10.out b11)
    have bA11 := Lib.hid (heap_below b11 bA10.out)
    have bW11 := Lib.hid (heap_below b11 bW10.out)
    have hW11 := Lib.hid (hW10.out.below b11)
    have bG11 := Lib.hid (heap_below b11 bG10.out)
    have hG11 := Lib.hid (hG10.out.below b11)
    have hr11 := Lib.hid (hr'.out.below bw11.out)
    clear b11 bw10 bA10 bW10 hW10 bG10 hG10
    clear f0 f1 f2 f3 f4 f5 f6 f7 f8
    have f0 := cell_of_heap bA11.out 0 _ rfl
    have f1 := cell_of_heap bA11.out 1 _ rfl
    have f2 := cell_of_heap bA11.out 2 _ rfl
    have f3 := cell_of_heap bA11.out 3 _ rfl
    have f4 := cell_of_heap bA11.out 4 _ rfl
    have f5 := cell_of_heap bA11.out 5 _ rfl
    have f6 := cell_of_heap bA11.out 6 _ rfl
    have f7 := cell_of_heap bA11.out 7 _ rfl
    have f8 := cell_of_heap bA11.out 8 _ rfl
    go_wp2_with fail
    refine (toWorld_rd _ D hsm.out _ hr11.out).mono ?_
    rintro e w12 ⟨aw2, ad2, aS2, am2, ag2, cw2, cd2, cS2, cm2, cg2, rfl, h12, b12⟩
    have bw12 := Lib.hid (below_trans bw11.out b12)
    have bW12 := Lib.hid (heap_below b12 bW11.out)
    have hW12 := Lib.hid (hW11.out.below b12)
    have bG12 := Lib.hid (heap_below b12 bG11.out)
    have hG12 := Lib.hid (hG11.out.below b12)
    have h12' := Lib.hid h12
    clear h12 b12 bw11 bA11 bW11 hW11 bG11 hG11
    clear f0 f1 f2 f3 f4 f5 f6 f7 f8
    unfold worldV
    go_wp2_with fail
    refine (hI'.out hbk.out _ _ h12'.out).mono ?_
    rintro e w13 ⟨S6, E', a6, f6, hn6, rfl, h13, b13⟩
    obtain ⟨rfl, rfl, rfl⟩ := TakeIs.unique hn6 hn.out
    obtain ⟨a6, k6, c6, d6, l6, e6, s6, n6, o6, m6, q6, r6, y6, z6, u6, sv6, mv6, rfl⟩ := h13.lits
    have bb13 := below_trans b13 (below_box w13 (.cells #[.int .i64 E.base, .int .i64 E.pages, .slice a6 k6 c6, .slice d6 l6 e6, .slice s6 n6 o6, .slice m6 q6 r6, .int .i64 E.phase, .int .i64 E.next, .slice y6 z6 u6] 32))
    have bw13 := Lib.hid (below_trans bw12.out bb13)
    have bW13 := Lib.hid (heap_below bb13 bW12.out)
    have hW13 := Lib.hid (hW12.out.below bb13)
    have bG13 := Lib.hid (heap_below bb13 bG12.out)
    have hG13 := Lib.hid (hG12.out.below bb13)
    have bH13 := Lib.hid (box_new w13 (.cells #[.int .i64 E.base, .int .i64 E.pages, .slice a6 k6 c6, .slice d6 l6 e6, .slice s6 n6 o6, .slice m6 q6 r6, .int .i64 E.phase, .int .i64 E.next, .slice y6 z6 u6] 32))
    have hH13 := Lib.hid (h13.below (below_box w13 (.cells #[.int .i64 E.base, .int .i64 E.pages, .slice a6 k6 c6, .slice d6 l6 e6, .slice s6 n6 o6, .slice m6 q6 r6, .int .i64 E.phase, .int .i64 E.next, .slice y6 z6 u6] 32)))
    clear hn6 h13 b13 bb13 bw12 bW12 hW12 bG12 hG12 h12'
    dsimp only [Shape.val]
    have f0 := cell_of_heap bH13.out 0 _ rfl
    have f1 := cell_of_heap bH13.out 1 _ rfl
    have f2 := cell_of_heap bH13.out 2 _ rfl
    have f3 := cell_of_heap bH13.out 3 _ rfl
    have f4 := cell_of_heap bH13.out 4 _ rfl
    have f5 := cell_of_heap bH13.out 5 _ rfl
    have f6 := cell_of_heap bH13.out 6 _ rfl
    have f7 := cell_of_heap bH13.out 7 _ rfl
    have f8 := cell_of_heap bH13.out 8 _ rfl
    have g0 := cell_of_heap bW13.out 0 _ rfl
    have g1 := cell_of_heap bW13.out 1 _ rfl
    have g2 := cell_of_heap bW13.out 2 _ rfl
    have g3 := cell_of_heap bW13.out 3 _ rfl
    have g4 := cell_of_heap bW13.out 4 _ rfl
    have g5 := cell_of_heap bW13.out 5 _ rfl
    have g6 := cell_of_heap bW13.out 6 _ rfl
    have g7 := cell_of_heap bW13.out 7 _ rfl
    have g8 := cell_of_heap bW13.out 8 _ rfl
    go_wp2_with fail
    refine (eqWorld_same _ _ E _ hH13.out.rd hW13.out.rd).mono ?_
    rintro e w14 ⟨rfl, b14⟩
    have bw14 := Lib.hid (below_trans bw13.out b14)
    have bG14 := Lib.hid (heap_below b14 bG13.out)
    have hG14 := Lib.hid (hG13.out.below b14)
    clear b14 bw13 bW13 hW13 bG13 hG13 bH13 hH13
    clear f0 f1 f2 f3 f4 f5 f6 f7 f8
    clear g0 g1 g2 g3 g4 g5 g6 g7 g8
    have f0 := cell_of_heap bG14.out 0 _ rfl
    have f1 := cell_of_heap bG14.out 1 _ rfl
    have f2 := cell_of_heap bG14.out 2 _ rfl
    have f3 := cell_of_heap bG14.out 3 _ rfl
    have f4 := cell_of_heap bG14.out 4 _ rfl
    have f5 := cell_of_heap bG14.out 5 _ rfl
    have f6 := cell_of_heap bG14.out 6 _ rfl
    have f7 := cell_of_heap bG14.out 7 _ rfl
    have f8 := cell_of_heap bG14.out 8 _ rfl
    go_wp2_with fail
    refine (hheld.out _ _ hG14.out.rd).mono ?_
    rintro e w15 ⟨rfl, b15⟩
    clear f0 f1 f2 f3 f4 f5 f6 f7 f8
    go_wp2_with fail
    go_ret
    exact ⟨rfl, below_trans bw14.out b15⟩
end Go.Proofs.Ytajogfnlbdiokaa

/-
  An argument that is a World, whatever memory it lies in, reads as plain data.
-/
namespace Go.Proofs.Ytajogfnlbdiokaa
open Go.ChangeShapes Go.WideShapes Go.ChangeAt Go.RowKit Go.Deep
set_option linter.unusedVariables false

section
variable {H : Type} {enc : TypeId × Value → H} {w : World}

theorem spot_none {a : Addr} {v : Value} (h : w.cell? (a.add 0) = some v) : a.spot = none := by
  obtain ⟨b, o, s⟩ := a
  simpa [Addr.add] using World.cell?_spot h
theorem add_none {a : Addr} (h : a.spot = none) (k : Nat) : a.add k = ⟨a.block, a.off + k, none⟩ := by
  obtain ⟨b, o, s⟩ := a
  obtain rfl : s = none := h
  exact Addr.add_lit ..

theorem rd_trod {t : TypeId} {fuel : Nat} {v : Value} {x : DataW H × List MemPlace} (ht : Try.prog.underlying t = some (.slice 3)) (h : DataW.trod enc Try.prog w 0 (fun _ => true) true fuel t [v] = some x) : ∃ L, Rd w v L ∧ AllI L := by
  rcases open_ints ht Try.underlying3 (by kernel_rfl) h with ⟨hcs, _⟩ | ⟨a, l, c, zs, hcs, _, hl, hm, hz, _, hcell, hwz⟩
  · obtain rfl : v = .slice none 0 0 := by simpa using hcs
    exact ⟨[], ⟨none, 0, rfl, by simp, fun j hj => by simp at hj⟩, fun x hx => by simp at hx⟩
  · obtain rfl : v = .slice (some a) l c := by simpa using hcs
    have hzl : zs.length = c := by simpa using hz
    have hlen : (zs.take l).length = l := by simp; omega
    refine ⟨zs.take l, ⟨some a, c, by rw [hlen], by omega, fun j hj => ?_⟩, fun x hx => i64_wf (hwz x (List.mem_of_mem_take hx))⟩
    have hj' : j < l := by omega
    have hs := spot_none (hcell 0 (by omega))
    refine ⟨a.block, a.off, by obtain ⟨b, o, s⟩ := a; obtain rfl : s = none := hs; rfl, ?_⟩
    rw [← add_none hs, hcell j (by omega)]
    simp [List.getD, hj']

theorem rdB_trod {t : TypeId} {fuel : Nat} {v : Value} {x : DataW H × List MemPlace} (ht : Try.prog.underlying t = some (.slice 4)) (h : DataW.trod enc Try.prog w 0 (fun _ => true) true fuel t [v] = some x) : ∃ L, RdB w v L := by
  rcases open_bools ht Try.underlying4 (by kernel_rfl) h with ⟨hcs, _⟩ | ⟨a, l, c, B, hcs, _, hl, hm, _, hcell⟩
  · obtain rfl : v = .slice none 0 0 := by simpa using hcs
    exact ⟨[], none, 0, rfl, by simp, fun j hj => by simp at hj⟩
  · obtain rfl : v = .slice (some a) l c := by simpa using hcs
    refine ⟨(List.range l).map B, some a, c, by simp, by simp; omega, fun j hj => ?_⟩
    have hj' : j < l := by simpa using hj
    have hs := spot_none (hcell 0 (by omega))
    refine ⟨a.block, a.off, by obtain ⟨b, o, s⟩ := a; obtain rfl : s = none := hs; rfl, ?_⟩
    rw [← add_none hs, hcell j (by omega)]
    simp [hj']

theorem rdSpan_trod {fuel : Nat} {cs : List Value} {x : DataW H × List MemPlace} {b o : Nat} (hc : ∀ i, i < 6 → w.cell? ⟨b, o + i, none⟩ = cs[i]?) (hl : cs.length = 6) (h : DataW.trod enc Try.prog w 0 (fun _ => true) true fuel 137 cs = some x) : ∃ s, RdSpan w b o s ∧ FitS s := by
  match cs, hl with
  | [c0, c1, c2, c3, c4, c5], _ =>
    obtain ⟨ys, n, _, _, _, hlen, hg⟩ := DataW.trod_struct Try.underlying137 h
    have k3 : Try.prog.cellsOf 3 = 1 := by kernel_rfl
    have k4 : Try.prog.cellsOf 4 = 1 := by kernel_rfl
    have k25 : Try.prog.cellsOf 25 = 1 := by kernel_rfl
    have g0 : DataW.trod enc Try.prog w 0 (fun _ => true) true n 3 (([c0, c1, c2, c3, c4, c5].drop 0).take (Try.prog.cellsOf 3)) = ys[0]? := hg 0 _ rfl
    simp only [k3, List.drop_zero, List.take_succ_cons, List.take_zero] at g0
    have g1 : DataW.trod enc Try.prog w 0 (fun _ => true) true n 3 (([c0, c1, c2, c3, c4, c5].drop 1).take (Try.prog.cellsOf 3)) = ys[1]? := hg 1 _ rfl
    simp only [k3, List.drop_succ_cons, List.drop_zero, List.take_succ_cons, List.take_zero] at g1
    have g2 : DataW.trod enc Try.prog w 0 (fun _ => true) true n 3 (([c0, c1, c2, c3, c4, c5].drop 2).take (Try.prog.cellsOf 3)) = ys[2]? := hg 2 _ rfl
    simp only [k3, List.drop_succ_cons, List.drop_zero, List.take_succ_cons, List.take_zero] at g2
    have g3 : DataW.trod enc Try.prog w 0 (fun _ => true) true n 4 (([c0, c1, c2, c3, c4, c5].drop 3).take (Try.prog.cellsOf 4)) = ys[3]? := hg 3 _ rfl
    simp only [k4, List.drop_succ_cons, List.drop_zero, List.take_succ_cons, List.take_zero] at g3
    have g4 : DataW.trod enc Try.prog w 0 (fun _ => true) true n 25 (([c0, c1, c2, c3, c4, c5].drop 4).take (Try.prog.cellsOf 25)) = ys[4]? := hg 4 _ rfl
    simp only [k25, List.drop_succ_cons, List.drop_zero, List.take_succ_cons, List.take_zero] at g4
    have g5 : DataW.trod enc Try.prog w 0 (fun _ => true) true n 25 (([c0, c1, c2, c3, c4, c5].drop 5).take (Try.prog.cellsOf 25)) = ys[5]? := hg 5 _ rfl
    simp only [k25, List.drop_succ_cons, List.drop_zero, List.take_succ_cons, List.take_zero] at g5
    have hy : ∀ i, i < 6 → ∃ y, ys[i]? = some y := fun i hi => ⟨_, List.getElem?_eq_getElem (by rw [hlen]; exact hi)⟩
    obtain ⟨y0, e0⟩ := hy 0 (by omega)
    obtain ⟨y1, e1⟩ := hy 1 (by omega)
    obtain ⟨y2, e2⟩ := hy 2 (by omega)
    obtain ⟨y3, e3⟩ := hy 3 (by omega)
    obtain ⟨y4, e4⟩ := hy 4 (by omega)
    obtain ⟨y5, e5⟩ := hy 5 (by omega)
    obtain ⟨n0, h0, _, w0⟩ := DataW.trod_int Try.underlying3 (g0.trans e0)
    obtain ⟨n1, h1, _, w1⟩ := DataW.trod_int Try.underlying3 (g1.trans e1)
    obtain ⟨n2, h2, _, w2⟩ := DataW.trod_int Try.underlying3 (g2.trans e2)
    obtain ⟨b3, h3, _⟩ := DataW.trod_bool Try.underlying4 (g3.trans e3)
    have e4' := g4.trans e4
    have e5' := g5.trans e5
    simp only [List.cons.injEq, and_true] at h0 h1 h2 h3
    obtain ⟨L4, r4, f4⟩ := rd_trod Try.underlying25 e4'
    obtain ⟨L5, r5, f5⟩ := rd_trod Try.underlying25 e5'
    exact ⟨⟨n0, n1, n2, b3, L4, L5⟩, ⟨c4, c5, by rw [← h0]; exact hc 0 (by omega), by rw [← h1]; exact hc 1 (by omega), by rw [← h2]; exact hc 2 (by omega), by rw [← h3]; exact hc 3 (by omega), hc 4 (by omega), hc 5 (by omega), r4, r5⟩, i64_wf w0, i64_wf w1, i64_wf w2, f4, f5⟩

theorem rdS_trod {fuel : Nat} {v : Value} {x : DataW H × List MemPlace} (h : DataW.trod enc Try.prog w 0 (fun _ => true) true fuel 39 [v] = some x) : ∃ L, RdS w v L ∧ ∀ s, s ∈ L → FitS s := by
  have k6 : Try.prog.cellsOf 137 = 6 := by kernel_rfl
  rcases open_slice Try.underlying39 h with ⟨hcs, _⟩ | ⟨a, l, c, m, n, D, Pl, hcs, _, hl, hm, hmm, _, hi⟩
  · obtain rfl : v = .slice none 0 0 := by simpa using hcs
    exact ⟨[], ⟨none, 0, rfl, by simp, fun j s hj => by simp at hj⟩, fun x hx => by simp at hx⟩
  · obtain rfl : v = .slice (some a) l c := by simpa using hcs
    have hm' : m = c := by simpa using hmm
    rw [k6] at hi
    have each : ∀ i, ∃ s, i < l → a.spot = none ∧ RdSpan w a.block (a.off + i * 6) s ∧ FitS s := by
      intro i
      by_cases hil : i < l
      · obtain ⟨cs', hc, ht⟩ := hi i (by omega)
        obtain ⟨_, hcl, hat⟩ := World.cells?_some hc
        obtain ⟨cs0, hc0, _⟩ := hi 0 (by omega)
        obtain ⟨_, hcl0, hat0⟩ := World.cells?_some hc0
        have hs : a.spot = none := by
          refine spot_none (w := w) (v := cs0[0]'(by omega)) ?_
          have := hat0 0 (by omega)
          rw [List.getElem?_eq_getElem (by omega)] at this
          simpa [Addr.add] using this
        obtain ⟨s, hsp, hft⟩ := rdSpan_trod (b := a.block) (o := a.off + i * 6) (fun j hj => by
          rw [← hat j hj, add_none hs]
          rw [show (⟨a.block, a.off + i * 6, none⟩ : Addr).add j = ⟨a.block, a.off + i * 6 + j, none⟩ from Addr.add_lit ..]) hcl ht
        exact ⟨s, fun _ => ⟨hs, hsp, hft⟩⟩
      · exact ⟨⟨0, 0, 0, false, [], []⟩, fun h => absurd h hil⟩
    obtain ⟨f, hf⟩ := Classical.axiomOfChoice each
    refine ⟨(List.range l).map f, ⟨some a, c, by simp, by simp; omega, fun j s hj => ?_⟩, fun x hx => by
      obtain ⟨i, hi, rfl⟩ := List.mem_map.1 hx
      exact (hf i (List.mem_range.1 hi)).2.2⟩
    have hjl : j < l := by
      have := (List.getElem?_eq_some_iff.1 hj).1
      simpa using this
    obtain rfl : f j = s := by simpa [hjl] using hj
    obtain ⟨hs, hsp, _⟩ := hf j hjl
    exact ⟨a.block, a.off, by obtain ⟨b, o, s⟩ := a; obtain rfl : s = none := hs; rfl, hsp⟩

theorem rdM_trod {fuel : Nat} {v : Value} {x : DataW H × List MemPlace} (h : DataW.trod enc Try.prog w 0 (fun _ => true) true fuel 40 [v] = some x) : ∃ L, RdM w v L ∧ ∀ r, r ∈ L → AllI r := by
  have k1 : Try.prog.cellsOf 139 = 1 := by kernel_rfl
  have k25 : Try.prog.cellsOf 25 = 1 := by kernel_rfl
  rcases open_slice Try.underlying40 h with ⟨hcs, _⟩ | ⟨a, l, c, m, n, D, Pl, hcs, _, hl, hm, hmm, _, hi⟩
  · obtain rfl : v = .slice none 0 0 := by simpa using hcs
    exact ⟨[], ⟨none, 0, rfl, by simp, fun j s hj => by simp at hj⟩, fun x hx => by simp at hx⟩
  · obtain rfl : v = .slice (some a) l c := by simpa using hcs
    have hm' : m = c := by simpa using hmm
    rw [k1] at hi
    have each : ∀ i, ∃ r, i < l → a.spot = none ∧ (∃ u, w.cell? ⟨a.block, a.off + i, none⟩ = some u ∧ Rd w u r) ∧ AllI r := by
      intro i
      by_cases hil : i < l
      · obtain ⟨cs', hc, ht⟩ := hi i (by omega)
        obtain ⟨_, hcl, hat⟩ := World.cells?_some hc
        obtain ⟨cs0, hc0, _⟩ := hi 0 (by omega)
        obtain ⟨_, hcl0, hat0⟩ := World.cells?_some hc0
        have hs : a.spot = none := by
          refine spot_none (w := w) (v := cs0[0]'(by omega)) ?_
          have := hat0 0 (by omega)
          rw [List.getElem?_eq_getElem (by omega)] at this
          simpa [Addr.add] using this
        match cs', hcl with
        | [c0], _ =>
          obtain ⟨ys, n', _, _, _, hlen, hg⟩ := DataW.trod_struct Try.underlying139 ht
          have g0 : DataW.trod enc Try.prog w 0 (fun _ => true) true n' 25 (([c0].drop 0).take (Try.prog.cellsOf 25)) = ys[0]? := hg 0 _ rfl
          simp only [k25, List.drop_zero, List.take_succ_cons, List.take_zero] at g0
          obtain ⟨y0, e0⟩ : ∃ y, ys[0]? = some y := ⟨_, List.getElem?_eq_getElem (by rw [hlen]; exact Nat.zero_lt_one)⟩
          have e0' := g0.trans e0
          obtain ⟨L0, r0, f0⟩ := rd_trod Try.underlying25 e0'
          have h0 := hat 0 (by omega)
          rw [Nat.mul_one, add_none hs] at h0
          exact ⟨L0, fun _ => ⟨hs, ⟨c0, by simpa [Addr.add] using h0, r0⟩, f0⟩⟩
      · exact ⟨[], fun h => absurd h hil⟩
    obtain ⟨f, hf⟩ := Classical.axiomOfChoice each
    refine ⟨(List.range l).map f, ⟨some a, c, by simp, by simp; omega, fun j r hj => ?_⟩, fun x hx => by
      obtain ⟨i, hi, rfl⟩ := List.mem_map.1 hx
      exact (hf i (List.mem_range.1 hi)).2.2⟩
    have hjl : j < l := by
      have := (List.getElem?_eq_some_iff.1 hj).1
      simpa using this
    obtain rfl : f j = r := by simpa [hjl] using hj
    obtain ⟨hs, ⟨u, hu, hr⟩, _⟩ := hf j hjl
    exact ⟨a.block, a.off, u, by obtain ⟨b, o, s⟩ := a; obtain rfl : s = none := hs; rfl, hu, hr⟩

set_option maxRecDepth 100000 in
theorem rdW_trod {r : Reach} {b0 : Nat} {v : Value} {d : DataW H} {p : List MemPlace} (hv : Value.okWide Try.prog w r b0 43 v) (h : DataW.Trod enc Try.prog w 0 (fun _ => true) true 43 v d p) : ∃ D, RdW w v D ∧ FitD D := by
  have k9 : Try.prog.cellsOf 43 = 9 := by kernel_rfl
  have k3 : Try.prog.cellsOf 3 = 1 := by kernel_rfl
  have kI : Try.prog.cellsOf 25 = 1 := by kernel_rfl
  have kB : Try.prog.cellsOf 26 = 1 := by kernel_rfl
  have kS : Try.prog.cellsOf 39 = 1 := by kernel_rfl
  have kM : Try.prog.cellsOf 40 = 1 := by kernel_rfl
  have kG : Try.prog.cellsOf 41 = 3 := by kernel_rfl
  obtain ⟨cs, rfl, hsz⟩ := okWide_struct Try.underlying43 hv
  obtain ⟨l⟩ := cs
  match l, hsz.trans k9 with
  | [c0, c1, c2, c3, c4, c5, c6, c7, c8], _ =>
    obtain ⟨fuel, hf⟩ := h
    obtain ⟨ys, n, _, _, _, hlen, hg⟩ := DataW.trod_struct Try.underlying43 hf
    have hy : ∀ i, i < 7 → ∃ y, ys[i]? = some y := fun i hi => ⟨_, List.getElem?_eq_getElem (by rw [hlen]; exact hi)⟩
    obtain ⟨y0, e0⟩ := hy 0 (by omega)
    obtain ⟨y1, e1⟩ := hy 1 (by omega)
    obtain ⟨y2, e2⟩ := hy 2 (by omega)
    obtain ⟨y3, e3⟩ := hy 3 (by omega)
    obtain ⟨y4, e4⟩ := hy 4 (by omega)
    obtain ⟨y5, e5⟩ := hy 5 (by omega)
    obtain ⟨y6, e6⟩ := hy 6 (by omega)
    have g0 : DataW.trod enc Try.prog w 0 (fun _ => true) true n 3 (([c0, c1, c2, c3, c4, c5, c6, c7, c8].drop 0).take (Try.prog.cellsOf 3)) = ys[0]? := hg 0 _ rfl
    simp only [k3, List.drop_zero, List.take_succ_cons, List.take_zero] at g0
    have g1 : DataW.trod enc Try.prog w 0 (fun _ => true) true n 3 (([c0, c1, c2, c3, c4, c5, c6, c7, c8].drop 1).take (Try.prog.cellsOf 3)) = ys[1]? := hg 1 _ rfl
    simp only [k3, List.drop_succ_cons, List.drop_zero, List.take_succ_cons, List.take_zero] at g1
    have g2 : DataW.trod enc Try.prog w 0 (fun _ => true) true n 25 (([c0, c1, c2, c3, c4, c5, c6, c7, c8].drop 2).take (Try.prog.cellsOf 25)) = ys[2]? := hg 2 _ rfl
    simp only [kI, List.drop_succ_cons, List.drop_zero, List.take_succ_cons, List.take_zero] at g2
    have g3 : DataW.trod enc Try.prog w 0 (fun _ => true) true n 26 (([c0, c1, c2, c3, c4, c5, c6, c7, c8].drop 3).take (Try.prog.cellsOf 26)) = ys[3]? := hg 3 _ rfl
    simp only [kB, List.drop_succ_cons, List.drop_zero, List.take_succ_cons, List.take_zero] at g3
    have g4 : DataW.trod enc Try.prog w 0 (fun _ => true) true n 39 (([c0, c1, c2, c3, c4, c5, c6, c7, c8].drop 4).take (Try.prog.cellsOf 39)) = ys[4]? := hg 4 _ rfl
    simp only [kS, List.drop_succ_cons, List.drop_zero, List.take_succ_cons, List.take_zero] at g4
    have g5 : DataW.trod enc Try.prog w 0 (fun _ => true) true n 40 (([c0, c1, c2, c3, c4, c5, c6, c7, c8].drop 5).take (Try.prog.cellsOf 40)) = ys[5]? := hg 5 _ rfl
    simp only [kM, List.drop_succ_cons, List.drop_zero, List.take_succ_cons, List.take_zero] at g5
    have g6 : DataW.trod enc Try.prog w 0 (fun _ => true) true n 41 (([c0, c1, c2, c3, c4, c5, c6, c7, c8].drop 6).take (Try.prog.cellsOf 41)) = ys[6]? := hg 6 _ rfl
    simp only [kG, List.drop_succ_cons, List.drop_zero, List.take_succ_cons, List.take_zero] at g6
    replace g0 := g0.trans e0
    replace g1 := g1.trans e1
    replace g2 := g2.trans e2
    replace g3 := g3.trans e3
    replace g4 := g4.trans e4
    replace g5 := g5.trans e5
    replace g6 := g6.trans e6
    obtain ⟨n0, h0, _, w0⟩ := DataW.trod_int Try.underlying3 g0
    obtain ⟨n1, h1, _, w1⟩ := DataW.trod_int Try.underlying3 g1
    obtain ⟨L2, r2, u2⟩ := rd_trod Try.underlying25 g2
    obtain ⟨L3, r3⟩ := rdB_trod Try.underlying26 g3
    obtain ⟨L4, r4, q4⟩ := rdS_trod g4
    obtain ⟨L5, r5, q5⟩ := rdM_trod g5
    obtain ⟨zs, m, _, _, _, hlen6, hg6⟩ := DataW.trod_struct Try.underlying41 g6
    have hz : ∀ i, i < 3 → ∃ y, zs[i]? = some y := fun i hi => ⟨_, List.getElem?_eq_getElem (by rw [hlen6]; exact hi)⟩
    obtain ⟨z0, f0⟩ := hz 0 (by omega)
    obtain ⟨z1, f1⟩ := hz 1 (by omega)
    obtain ⟨z2, f2⟩ := hz 2 (by omega)
    have q0 : DataW.trod enc Try.prog w 0 (fun _ => true) true m 3 (([c6, c7, c8].drop 0).take (Try.prog.cellsOf 3)) = zs[0]? := hg6 0 _ rfl
    simp only [k3, List.drop_zero, List.take_succ_cons, List.take_zero] at q0
    have q1 : DataW.trod enc Try.prog w 0 (fun _ => true) true m 3 (([c6, c7, c8].drop 1).take (Try.prog.cellsOf 3)) = zs[1]? := hg6 1 _ rfl
    simp only [k3, List.drop_succ_cons, List.drop_zero, List.take_succ_cons, List.take_zero] at q1
    have q2 : DataW.trod enc Try.prog w 0 (fun _ => true) true m 25 (([c6, c7, c8].drop 2).take (Try.prog.cellsOf 25)) = zs[2]? := hg6 2 _ rfl
    simp only [kI, List.drop_succ_cons, List.drop_zero, List.take_succ_cons, List.take_zero] at q2
    replace q0 := q0.trans f0
    replace q1 := q1.trans f1
    replace q2 := q2.trans f2
    obtain ⟨n6, h6, _, w6⟩ := DataW.trod_int Try.underlying3 q0
    obtain ⟨n7, h7, _, w7⟩ := DataW.trod_int Try.underlying3 q1
    obtain ⟨L8, r8, q8⟩ := rd_trod Try.underlying25 q2
    simp only [List.cons.injEq, and_true] at h0 h1 h6 h7
    subst h0; subst h1; subst h6; subst h7
    exact ⟨⟨n0, n1, L2, L3, L4, L5, n6, n7, L8⟩, ⟨c2, c3, c4, c5, c8, rfl, r2, r3, r4, r5, r8⟩, i64_wf w0, i64_wf w1, u2, q4, q5, i64_wf w6, i64_wf w7, q8⟩
end
end Go.Proofs.Ytajogfnlbdiokaa

/-
  FnExactTake returns true for all arguments, and changes nothing that was there. No conditions.
-/
namespace Go.Proofs.Ytajogfnlbdiokaa.fnExactTake
open Go.ChangeShapes Go.WideShapes Go.ChangeAt Go.RowKit
open Go.ChangeMaps (open_string shut_string)
set_option linter.unusedVariables false

theorem own : ownKnob Try.prog.godebug = none := by kernel_rfl
theorem laidOut : laidOutB Try.prog = true := by kernel_rfl

set_option maxRecDepth 100000 in
theorem lifted (os : Os) (started : os.Started) (H : Type) (enc : TypeId × Value → H) :
    ReturnsInHanded {} Try.checked os 4 .any (Rows.fnExactTakeSpec.pre6 enc Try.prog Try.f4 Rows.fnExactTakeRow.domain false) (Rows.fnExactTakeSpec.post enc Try.prog Try.f4 false true false false) := by
  refine returnsInHanded_of_change (C := Try.checked) own started (by kernel_rfl) Try.func4
    (ChangeSpec.witness6 (enc := enc) (C := Try.checked) false ⟨#[], #[.agg #[.int .i64 0, .int .i64 0, .slice none 0 0, .slice none 0 0, .slice none 0 0, .slice none 0 0, .int .i64 0, .int .i64 0, .slice none 0 0], .int .i64 0, .int .i64 0], []⟩ 8 (by kernel_rfl) (by kernel_rfl) (by kernel_rfl) (by kernel_rfl)) ?_
  intro W base args ds gs before hval0 hW hcnd _
  have hval : ∀ (j : Nat) t v, Try.f4.params[j]? = some t → args[j]? = some v → Value.okWide Try.prog W .any base t v := hval0
  have hW' := hW
  obtain ⟨p, q, hA0, hV, rfl, hfz, hnd⟩ := hW
  have hA : DataW.TrodAll enc Try.prog W 0 (fun _ => true) true Try.f4.params.toList args.toList ds p := hA0
  rw [Try.params4] at hA hval
  obtain ⟨v0, vs0, d0, ds0, p0, q0, hargs, rfl, rfl, h0, r0⟩ := trodAll_cons hA
  obtain ⟨v1, vs1, d1, ds1, p1, q1, rfl, rfl, rfl, h1, r1⟩ := trodAll_cons r0
  obtain ⟨v2, vs2, d2, ds2, p2, q2, rfl, rfl, rfl, h2, r2⟩ := trodAll_cons r1
  obtain ⟨rfl, rfl, rfl⟩ := trodAll_nil r2
  obtain rfl : args = #[v0, v1, v2] := by cases args; simp_all
  obtain ⟨rfl, rfl⟩ := trodVars_none hV
  have k0 := h0
  have lt0 : ∀ x ∈ p0, x.block < W.heap.size := by obtain ⟨m, hm⟩ := k0; exact DataW.trod_lt m _ _ _ hm
  obtain ⟨D0, hD0, hF0⟩ := rdW_trod (hval 0 43 v0 rfl rfl) h0
  obtain ⟨a1, rfl, rfl, rfl, w1⟩ := open_int Try.underlying3 (hval 1 3 v1 rfl rfl) h1
  obtain ⟨a2, rfl, rfl, rfl, w2⟩ := open_int Try.underlying3 (hval 2 3 v2 rfl rfl) h2
  clear hA0 hval0
  refine (lawW_take D0 a1 a2 (fun hb v w hr => stake_any v D0 a1 a2 (Small.of_bulk hb) w hr) (fun hb v w hr => itake_any v D0 a1 a2 hF0.marks (Small.of_bulk hb) w hr) v0 W hD0).mono fun e W' ⟨he, bel⟩ => ?_
  subst he
  exact ⟨_, rfl, _, _, _, [], _, [], hW', trodAll_mk1 (shut_bool Try.underlying4 _), (trodAll_cons_mk (Below.trod laidOut (by kernel_rfl) (of_decide_eq_true (by kernel_rfl)) k0 bel lt0) (trodAll_cons_mk (shut_int Try.underlying3 w1) (trodAll_cons_mk (shut_int Try.underlying3 w2) trodAll_mk0))), rfl, bel.frame _, fun h => by cases h⟩

theorem over : Rows.fnExactTakeRow.holds Try.pinned (OpenSpec.ofChange Rows.fnExactTakeSpec) :=
  OpenClaim.holds_of_wide 4 Try.f4 rfl rfl rfl rfl rfl rfl rfl ⟨rfl, rfl, rfl, rfl, rfl⟩ rfl rfl rfl rfl rfl (by kernel_rfl) Try.func4 (by kernel_rfl)
    (of_decide_eq_true (by kernel_rfl)) (by unfold Func.isWrapper; first | (rw [if_pos (by decide +kernel)]; kernel_rfl) | (rw [if_neg (by decide +kernel)]; exact ⟨rfl, rfl⟩))
    (fun os started H enc _ => lifted os started H enc)

theorem proved : Rows.FnExactTakeSaid := over
end Go.Proofs.Ytajogfnlbdiokaa.fnExactTake

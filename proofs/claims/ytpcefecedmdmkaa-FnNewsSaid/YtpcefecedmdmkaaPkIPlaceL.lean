import Derived.Test.YtpcefecedmdmkaaPkIWith2
import Derived.Test.YtpcefecedmdmkaaPkR
import Derived.Test.YtpcefecedmdmkaaPkTurn
import Derived.Test.YtpcefecedmdmkaaPkSTake
import Derived.Test.YtpcefecedmdmkaaPkA
import Derived.Test.YtpcefecedmdmkaaPkISoil
import Derived.Deep.DeepCutAuto
import Derived.Deep.CutRange
import Derived.Outline
import Derived.Deep.RegionWith

/-
  The contract of the program's World.freePlace: where the next object of a class goes.
-/
namespace Go.Proofs.Ytpcefecedmdmkaa
open Go.RowKit
set_option linter.unusedVariables false
set_option linter.unusedSimpArgs false

theorem slots_eq {c v : Int} (h : sl' c = v) (w : World) : Calls Try.prog 72 #[.int .i64 c] w fun e w' => e = .returned (.int .i64 v) ∧ w = w' := by
  rw [← h]; exact slots_any c w
theorem freeS_cases (s : SpanD) : (∃ j : Nat, freeS s = j ∧ j < s.lens.length ∧ s.lens[j]?.getD 0 = 0 ∧ ∀ i, i < j → s.lens[i]?.getD 0 ≠ 0) ∨ (freeS s = -1 ∧ ∀ i, i < s.lens.length → s.lens[i]?.getD 0 ≠ 0) := by
  cases h : s.lens.findIdx? (fun l => decide (l = 0)) with
  | some j =>
    obtain ⟨hj, h0, hb⟩ := List.findIdx?_eq_some_iff_getElem.1 h
    refine .inl ⟨j, by unfold freeS; rw [h], hj, by simpa [hj] using h0, fun i hi => ?_⟩
    have := hb i hi
    rw [List.getElem?_eq_getElem (by omega)]
    simpa using this
  | none =>
    refine .inr ⟨by unfold freeS; rw [h], fun i hi => ?_⟩
    have := List.findIdx?_eq_none_iff.1 h s.lens[i] (List.getElem_mem hi)
    rw [List.getElem?_eq_getElem hi]
    simpa using this
theorem page_fin2 {W wm w3 : World} {base B : Nat} {S : Shape} {D : WD} {c : Int} {k g1 g2 : Nat} {v : Value} (h : VarW W base B S D) (hk : k ≤ D.spans.length) (hb0 : Below W.heap.size W wm)
    (r1 : wm.heap[g1]? = some (.cells (madeCells #[.int .i64 0] (sl' c).toNat) 3 (0, 0))) (r2 : wm.heap[g2]? = some (.cells (madeCells #[.int .i64 0] (sl' c).toNat) 3 (0, 0))) (h1 : W.heap.size ≤ g1) (h2 : W.heap.size ≤ g2) (ne : g1 ≠ g2)
    (hb : Below wm.heap.size wm w3) (hr : w3.ownsRow wm.heap.size 60 6 v (D.spans.length + 1) ((flatV D.spans S.sv).take (k * 6) ++ spanCv (freshS D c k) (.slice (some ⟨g1, 0, none⟩) (sl' c).toNat (sl' c).toNat, .slice (some ⟨g2, 0, none⟩) (sl' c).toNat (sl' c).toNat) ++ (flatV D.spans S.sv).drop (k * 6))) :
    (∃ S', VarW (w3.setCell ⟨B, 4, none⟩ v) base B S' (insD D c k) ∧ Turned W (w3.setCell ⟨B, 4, none⟩ v) B S S') ∧ Below base W (w3.setCell ⟨B, 4, none⟩ v) := by
  have hlt := h.lt
  have hle := h.le
  have hz := hb0.size
  have hb2 : Below W.heap.size W w3 := hb0.trans (hb.mono hz)
  have hv := h.below hb2
  have hl : (sl' c).toNat ≤ maxLen := by have := (sl_bd c).2; unfold maxLen; omega
  have hr1 := own_base (own_below (own_made (base := g1) r1 (Nat.le_refl _) hl) hb) h1
  have hr2 := own_base (own_below (own_made (base := g2) r2 (Nat.le_refl _) hl) hb) h2
  have hx := hv.ins (n0 := W.heap.size) (fun q hq => (h.own.lt q hq).2) hlt (p := (.slice (some ⟨g1, 0, none⟩) (sl' c).toNat (sl' c).toNat, .slice (some ⟨g2, 0, none⟩) (sl' c).toNat (sl' c).toNat)) (s := freshS D c k) hk (own_base hr hz)
    (by simpa [freshS] using hr1) (by simpa [freshS] using hr2) (fun q hq e => ne (by simp [Value.ownBlock] at hq e; omega))
  exact ⟨⟨_, hx.1, ins_turned hb2 (fun q hq => Nat.le_trans hz (hr.lt q hq).1) (fun q hq => (hr1.lt q hq).1) (fun q hq => (hr2.lt q hq).1)⟩, (hb2.mono (by omega)).trans hx.2⟩
theorem own_at {w : World} {b sz n q : Nat} {t : TypeId} {x : Value} {xs : List Value} (h : w.ownsRow b t sz x n xs) (hq : x.ownBlock = some q) : ∃ cur, w.heap[q]? = some (.cells cur t (0, 0)) := by
  rcases h.2 with ⟨rfl, _⟩ | ⟨g, cap, cur, rfl, _, hg, _⟩
  · cases hq
  · obtain rfl : g = q := by simpa [Value.ownBlock] using hq
    exact ⟨cur, hg⟩
/-- A block of another type is none of the World's. -/
theorem VarW.other {w : World} {base B R : Nat} {S : Shape} {D : WD} {cs : Array Value} {T : TypeId} (h : VarW w base B S D) (hR : w.heap[R]? = some (.cells cs T (0, 0))) (h1 : T ≠ 3) (h2 : T ≠ 4) (h3 : T ≠ 60) (h4 : T ≠ 76) : R ∉ blks S.all := by
  intro hm
  obtain ⟨x, hx, hxR⟩ := List.mem_filterMap.1 hm
  have key : ∀ {t : TypeId}, Typ w x t → T = t := fun ⟨_, _, _, _, ht⟩ => by
    obtain ⟨cur, hc⟩ := own_at ht hxR
    rw [hR] at hc
    cases hc
    rfl
  have ho := h.own
  simp only [Shape.all, List.mem_append, List.mem_cons, List.not_mem_nil, or_false] at hx
  rcases hx with (((rfl | rfl) | (rfl | hx)) | (rfl | hx)) | rfl
  · exact h1 (key ⟨_, _, _, _, ho.words⟩)
  · exact h2 (key ⟨_, _, _, _, ho.dirty⟩)
  · exact h3 (key ⟨_, _, _, _, ho.spans⟩)
  · exact h1 (key (ho.tS x hx))
  · exact h4 (key ⟨_, _, _, _, ho.muts⟩)
  · exact h1 (key (ho.tM x hx))
  · exact h1 (key ⟨_, _, _, _, ho.grey⟩)
/-- What freePlace answers, and what becomes of the variable. -/
def FreeAt (D : WD) (c : Int) (base B : Nat) (S : Shape) (w : World) (e : Ending) (w' : World) : Prop :=
  (∃ D1 k j S', PlaceIs D c D1 k j ∧ e = .returned (.tuple #[.agg #[.int .i64 (k : Int), .int .i64 (j : Int)], .bool true]) ∧ VarW w' base B S' D1 ∧ Turned w w' B S S') ∨
  (NoPlace D c ∧ e = .returned (.tuple #[.agg #[.int .i64 0, .int .i64 0], .bool false]) ∧ VarW w' base B S D ∧ Turned w w' B S S)

set_option maxRecDepth 100000 in
set_option maxHeartbeats 16000000 in
theorem freePlace_any (base B : Nat) (S : Shape) (D : WD) (c : Int) (hls : D.spans.length ≤ 1000) (w : World) (h : VarW w base B S D) :
    Calls Try.prog 68 #[.pointer (some ⟨B, 0, none⟩), .int .i64 c] w fun e w' => FreeAt D c base B S w e w' ∧ Below base w w' := by
  have bb := below_box w (.cells #[.int .i64 0, .int .i64 0] 80)
  have bn := Lib.hid (box_new w (.cells #[.int .i64 0, .int .i64 0] 80))
  have hv := Lib.hid (h.below bb)
  obtain ⟨aS, cS, hgs⟩ := own_slice h.own.spans
  have hgs' := Lib.hid hgs
  have hsrc := hv.out.own.ownS
  rw [hgs] at hsrc
  have hsrc' := Lib.hid (own_src hsrc)
  have hrd := hv.out.rd.parts.2.2.1
  rw [hgs] at hrd
  have hat := Lib.hid (fun k s hk => hrd.at_ k s hk)
  have g1 := hv.out.cell 1 (.int .i64 D.pages) rfl
  have g4 := hv.out.cell 4 (.slice aS D.spans.length cS) (by rw [← hgs]; rfl)
  have g6 := hv.out.cell 6 (.int .i64 D.phase) rfl
  have f4 := Lib.hid (hv.out.frz 4)
  have hle := Lib.hid h.le
  have hBlt := h.lt
  have hown := Lib.hid h.own.lt
  have hbase := Lib.hid (show Below base w (w.alloc (.cells #[.int .i64 0, .int .i64 0] 80)) from bb.mono (by have := h.le; omega))
  have hwz := Lib.hid (show (w.alloc (.cells #[.int .i64 0, .int .i64 0] 80)).heap.size = w.heap.size + 1 by simp)
  have hns := sl_bd c
  obtain ⟨ns, hns'⟩ := Int.eq_ofNat_of_zero_le hns.1
  have hn16 : ns ≤ 16 := by omega
  have hsl := Lib.hid (fun w => slots_eq hns' w)
  have hnn := Lib.hid (show (sl' c).toNat = ns by omega)
  have hT := Lib.hid (Turned.of_below B S bb)
  clear h hsrc hgs hrd hns hns' bb
  go_enter Try.func68, Try.ntmps68
  go_wp2_with fail
  generalize w.alloc (.cells #[.int .i64 0, .int .i64 0] 80) = W at *
  go_loop [14] (fun i => ∃ i' : Nat, i' ≤ D.spans.length ∧ i = .int .i64 i' ∧ Hid (FullUp D c i')) (fun i => D.spans.length - (intOf i).toNat)
  case atStart => exact ⟨0, Nat.zero_le _, rfl, fun i s hi => absurd hi (by omega)⟩
  case round =>
    obtain ⟨i, hi, rfl, hfu⟩ := hrel
    by_cases hil : i < D.spans.length
    · obtain ⟨s, hks⟩ : ∃ s, D.spans[i]? = some s := ⟨_, List.getElem?_eq_getElem hil⟩
      have hil1 : (i : Int) < (D.spans.length : Int) := by omega
      obtain ⟨b1, o1, rfl, hrs⟩ := hat.out i s hks
      have hfs := Lib.hid (freeSlot_any b1 (o1 + i * 6) s W hrs)
      obtain ⟨vl, vp, _, x1, _⟩ := hrs
      have hks' := Lib.hid hks
      clear hks
      have hfc := Lib.hid (freeS_cases s)
      go_wp2_with fail
      refine hfs.out.mono ?_
      rintro e w' ⟨rfl, rfl⟩
      by_cases hcc : s.cls = c
      · have hcb : (s.cls == c) = true := beq_iff_eq.2 hcc
        rcases hfc.out with ⟨j, hj, hjl, hj0, hjb⟩ | ⟨hj, hno⟩
        · have y := Lib.hid (show PlaceIs D c D i j from .inl ⟨rfl, s, hks'.out, hcc, hjl, hj0, hjb, hfu.out⟩)
          have bnc := bn.out
          have q0 := cell_of_heap bnc 0 _ rfl
          have q1 := cell_of_heap bnc 1 _ rfl
          have z0 := frozen_of_heap bnc 0
          have z1 := frozen_of_heap bnc 1
          rw [hj]
          clear hcc hj hjl hj0 hjb bnc
          go_wp2_with fail
          refine bodyPost_ret (v := .tuple #[.agg #[.int .i64 (i : Int), .int .i64 (j : Int)], .bool true]) (by simp [results, Try.results68, go_sem, q0, q1]) rfl ?_
          have cc := ((Chg.refl [w.heap.size] W).put (b := w.heap.size) (by simp) 0 (.int .i64 (i : Int))).put (b := w.heap.size) (by simp) 1 (.int .i64 (j : Int))
          exact ⟨.inl ⟨D, i, j, S, y.out, rfl, hv.out.chg cc (fun q hq hm => by have := (hown.out q hq).2; rw [List.mem_singleton.1 hm] at this; omega) (fun hm => by have := List.mem_singleton.1 hm; omega), (hT.out.step cc (fun q hq => .inr (.inr (by rw [List.mem_singleton.1 hq]; omega))))⟩, Chg.below hbase.out cc (by have := hbase.out.size; have := hle.out; omega) (fun q hq => by rw [List.mem_singleton.1 hq]; have := hle.out; omega)⟩
        · have y := Lib.hid (fullUp_next hfu.out hks'.out fun _ => hno)
          rw [hj]
          clear hcc hj hno
          go_wp2_with fail
          go_round
          case rel => exact ⟨i + 1, by omega, by go_num, y⟩
          case measure => simp [intOf]; omega
      · have hcb : (s.cls == c) = false := beq_eq_false_iff_ne.2 hcc
        have y := Lib.hid (fullUp_next hfu.out hks'.out fun h => absurd h hcc)
        clear hcc
        generalize freeS s = fs at *
        go_wp2_with fail
        go_round
        case rel => exact ⟨i + 1, by omega, by go_num, y⟩
        case measure => simp [intOf]; omega
    · obtain rfl : i = D.spans.length := by omega
      have hfp := Lib.hid (freePage_any B _ D W hv.out.rd hv.out.boxW)
      go_wp2_with fail
      refine hfp.out.mono ?_
      rintro e w' ⟨⟨k, hk, rfl⟩, rfl⟩
      have bnc := bn.out
      have q0 := cell_of_heap bnc 0 _ rfl
      have q1 := cell_of_heap bnc 1 _ rfl
      have z0 := frozen_of_heap bnc 0
      have z1 := frozen_of_heap bnc 1
      by_cases hkp : (k : Int) = D.pages
      · have y := Lib.hid (show NoPlace D c from ⟨hfu.out, k, hk.out, hkp⟩)
        rw [← hkp] at g1
        clear hkp bnc
        go_wp2_with fail
        refine bodyPost_ret (v := .tuple #[.agg #[.int .i64 0, .int .i64 0], .bool false]) (by simp [results, Try.results68, go_sem, q0, q1]) rfl ?_
        have cc := ((Chg.refl [w.heap.size] W).put (b := w.heap.size) (by simp) 0 (.int .i64 0)).put (b := w.heap.size) (by simp) 1 (.int .i64 0)
        exact ⟨.inr ⟨y.out, rfl, hv.out.chg cc (fun q hq hm => by have := (hown.out q hq).2; rw [List.mem_singleton.1 hm] at this; omega) (fun hm => by have := List.mem_singleton.1 hm; omega), (hT.out.step cc (fun q hq => .inr (.inr (by rw [List.mem_singleton.1 hq]; omega))))⟩, Chg.below hbase.out cc (by have := hbase.out.size; have := hle.out; omega) (fun q hq => by rw [List.mem_singleton.1 hq]; have := hle.out; omega)⟩
      · have hkb : ((k : Int) == D.pages) = false := beq_eq_false_iff_ne.2 hkp
        have y := Lib.hid (show PlaceIs D c (insD D c k) k 0 from .inr ⟨hfu.out, hk.out, hkp, rfl, rfl⟩)
        have hkl := hk.out.1
        have hmk : ∀ (w : World), (Instr.makeSlice 25 (.int .i64 (ns : Int)) (.int .i64 (ns : Int))).run Try.prog w = .ok (.slice (some ⟨w.heap.size, 0, none⟩) ns ns) (w.alloc (.cells (madeCells #[.int .i64 0] ns) 3)) := run_make_row' (P := Try.prog) 25 3 (.int .i64 0) 8 Try.underlying25 infoInt rfl .i64 .i64 ns (by omega) (by omega)
        have g6a : ∀ a, (W.alloc a).cell? ⟨B, 6, none⟩ = some (.int .i64 D.phase) := fun a => cell_below (below_box _ _) g6
        have g6b : ∀ a b, ((W.alloc a).alloc b).cell? ⟨B, 6, none⟩ = some (.int .i64 D.phase) := fun a b => cell_below (below_box _ _) (g6a a)
        have g4a : ∀ a, (W.alloc a).cell? ⟨B, 4, none⟩ = some (.slice aS D.spans.length cS) := fun a => cell_below (below_box _ _) g4
        have g4b : ∀ a b, ((W.alloc a).alloc b).cell? ⟨B, 4, none⟩ = some (.slice aS D.spans.length cS) := fun a b => cell_below (below_box _ _) (g4a a)
        have hsb := Lib.hid (show Below W.heap.size W ((W.alloc (.cells (madeCells #[.int .i64 0] ns) 3)).alloc (.cells (madeCells #[.int .i64 0] ns) 3)) from below_trans (below_box W _) (below_box _ _))
        have hsw := Lib.hid (hsrc'.out.2.2.2.below hsb.out)
        have hms1 := Lib.hid (show ((W.alloc (.cells (madeCells #[.int .i64 0] ns) 3)).alloc (.cells (madeCells #[.int .i64 0] ns) 3)).heap[W.heap.size]? = some (.cells (madeCells #[.int .i64 0] ns) 3 (0, 0)) from heap_below (below_box _ _) (box_new W _))
        have hms2 := Lib.hid (show ((W.alloc (.cells (madeCells #[.int .i64 0] ns) 3)).alloc (.cells (madeCells #[.int .i64 0] ns) 3)).heap[W.heap.size + 1]? = some (.cells (madeCells #[.int .i64 0] ns) 3 (0, 0)) from by have := box_new (W.alloc (.cells (madeCells #[.int .i64 0] ns) 3)) (.cells (madeCells #[.int .i64 0] ns) 3); rwa [World.size_alloc] at this)
        have hwith := Lib.hid (fun (a3 a4 : Option Addr) (w : World) h => withSpan_any aS D.spans.length cS k (flatV D.spans S.sv) (freshS D c k) a3 a4 ns ns ns ns hsrc'.out.2.1 hsrc'.out.2.2.1 hls hkl w h)
        have F1 := Lib.hid (show ∀ (v : Value) (w3 : World), Below ((W.alloc (.cells (madeCells #[.int .i64 0] ns) 3)).alloc (.cells (madeCells #[.int .i64 0] ns) 3)).heap.size ((W.alloc (.cells (madeCells #[.int .i64 0] ns) 3)).alloc (.cells (madeCells #[.int .i64 0] ns) 3)) w3 → w3.ownsRow ((W.alloc (.cells (madeCells #[.int .i64 0] ns) 3)).alloc (.cells (madeCells #[.int .i64 0] ns) 3)).heap.size 60 6 v (D.spans.length + 1) ((flatV D.spans S.sv).take (k * 6) ++ spanCv (freshS D c k) (.slice (some ⟨W.heap.size, 0, none⟩) ns ns, .slice (some ⟨W.heap.size + 1, 0, none⟩) ns ns) ++ (flatV D.spans S.sv).drop (k * 6)) → (∃ S', VarW (w3.setCell ⟨B, 4, none⟩ v) base B S' (insD D c k) ∧ Turned W (w3.setCell ⟨B, 4, none⟩ v) B S S') ∧ Below base W (w3.setCell ⟨B, 4, none⟩ v) from
          fun v w3 hb hr => page_fin2 (g1 := W.heap.size) (g2 := W.heap.size + 1) hv.out hkl hsb.out (by rw [hnn.out]; exact hms1.out) (by rw [hnn.out]; exact hms2.out) (by omega) (by omega) (by omega) hb (by rw [hnn.out]; exact hr))
        have F2 := Lib.hid (show ∀ (v : Value) (w3 : World), Below ((W.alloc (.cells (madeCells #[.int .i64 0] ns) 3)).alloc (.cells (madeCells #[.int .i64 0] ns) 3)).heap.size ((W.alloc (.cells (madeCells #[.int .i64 0] ns) 3)).alloc (.cells (madeCells #[.int .i64 0] ns) 3)) w3 → w3.ownsRow ((W.alloc (.cells (madeCells #[.int .i64 0] ns) 3)).alloc (.cells (madeCells #[.int .i64 0] ns) 3)).heap.size 60 6 v (D.spans.length + 1) ((flatV D.spans S.sv).take (k * 6) ++ spanCv (freshS D c k) (.slice (some ⟨W.heap.size + 1, 0, none⟩) ns ns, .slice (some ⟨W.heap.size, 0, none⟩) ns ns) ++ (flatV D.spans S.sv).drop (k * 6)) → (∃ S', VarW (w3.setCell ⟨B, 4, none⟩ v) base B S' (insD D c k) ∧ Turned W (w3.setCell ⟨B, 4, none⟩ v) B S S') ∧ Below base W (w3.setCell ⟨B, 4, none⟩ v) from
          fun v w3 hb hr => page_fin2 (g1 := W.heap.size + 1) (g2 := W.heap.size) hv.out hkl hsb.out (by rw [hnn.out]; exact hms2.out) (by rw [hnn.out]; exact hms1.out) (by omega) (by omega) (by omega) hb (by rw [hnn.out]; exact hr))
        have g4W := Lib.hid g4
        have hk' := Lib.hid hkl
        clear hkp hkl bnc
        go_upto_region 11 with fail
        go_cut [8] (fun q wx => q = .int .i64 k ∧ Hid (∃ S', VarW wx base B S' (insD D c k) ∧ Turned W wx B S S') ∧ Hid (Below base W wx) ∧ Hid (wx.heap[w.heap.size]? = some (.cells #[.int .i64 0, .int .i64 0] 80 (0, 0))))
        case first =>
          clear hT hat g1 q0 q1 z0 z1 hkb hfu y hk hms1 hms2 hown hbase hle hnn hsrc' hk' hgs' hls hfp hi
          have h0 : W.drew.cell? ⟨B, 4, none⟩ = some (.slice aS D.spans.length cS) ∧ W.drew.cell? ⟨B, 6, none⟩ = some (.int .i64 D.phase) := ⟨g4, g6⟩
          refine wp_region_late (fun w' => w'.cell? ⟨B, 4, none⟩ = some (.slice aS D.spans.length cS) ∧ w'.cell? ⟨B, 6, none⟩ = some (.int .i64 D.phase)) (fun j => j == 21 || j == 24) (by kernel_rfl) ?_
          refine wpLate_free (i := 0) (v := ?vq1) rfl (by kernel_rfl) (by kernel_rfl) (by kernel_rfl) rfl (fun _ _ _ h => h) (Or.inl ⟨by rfl, ?hyq1⟩) (fun _ => h0) ?restq1
          case hyq1 => (intro w _; go_simp; try with_reducible rfl)
          try simp only [Act.put, List.setIfInBounds_toArray, List.set_cons_zero, List.set_cons_succ]
          refine wpLate_free (i := 1) (v := ?vq2) rfl (by kernel_rfl) (by kernel_rfl) (by kernel_rfl) rfl (fun _ _ _ h => h) (Or.inl ⟨by rfl, ?hyq2⟩) (fun _ => h0) ?restq2
          case hyq2 => (intro w _; go_simp; try with_reducible rfl)
          try simp only [Act.put, List.setIfInBounds_toArray, List.set_cons_zero, List.set_cons_succ]
          refine wpLate_free (i := 2) (v := ?vq3) rfl (by kernel_rfl) (by kernel_rfl) (by kernel_rfl) rfl (fun _ _ _ h => h) (Or.inl ⟨by rfl, ?hyq3⟩) (fun _ => h0) ?restq3
          case hyq3 => (intro w _; go_simp; try with_reducible rfl)
          try simp only [Act.put, List.setIfInBounds_toArray, List.set_cons_zero, List.set_cons_succ]
          refine wpLate_free (i := 3) (v := ?vq4) rfl (by kernel_rfl) (by kernel_rfl) (by kernel_rfl) rfl (fun _ _ _ h => h) (Or.inl ⟨by rfl, ?hyq4⟩) (fun _ => h0) ?restq4
          case hyq4 => (intro w _; go_simp; try with_reducible rfl)
          try simp only [Act.put, List.setIfInBounds_toArray, List.set_cons_zero, List.set_cons_succ]
          refine wpLate_take (i := 4) (v := ?vq5) rfl (by kernel_rfl) (by kernel_rfl) (by kernel_rfl) (by kernel_rfl) (fun j hj => by simp at hj; rcases hj with rfl | rfl <;> kernel_rfl) (fun _ _ _ h => h) (Or.inl ⟨by rfl, ?hyq5⟩) (by exact h0) ?restq5
          case hyq5 => (intro w hSw; (try dsimp only at hSw); obtain ⟨s4, s6⟩ := hSw; go_simp; try with_reducible rfl)
          try simp only [Act.put, List.setIfInBounds_toArray, List.set_cons_zero, List.set_cons_succ]
          refine wpLate_free (i := 5) (v := ?vq6) rfl (by kernel_rfl) (by kernel_rfl) (by kernel_rfl) rfl (fun _ _ _ h => h) (Or.inl ⟨by rfl, ?hyq6⟩) (fun _ => h0) ?restq6
          case hyq6 => (intro w _; go_simp; try with_reducible rfl)
          try simp only [Act.put, List.setIfInBounds_toArray, List.set_cons_zero, List.set_cons_succ]
          refine wpLate_free (i := 6) (v := ?vq7) rfl (by kernel_rfl) (by kernel_rfl) (by kernel_rfl) rfl (fun _ _ _ h => h) (Or.inl ⟨by rfl, ?hyq7⟩) (fun _ => h0) ?restq7
          case hyq7 => (intro w _; go_simp; try with_reducible rfl)
          try simp only [Act.put, List.setIfInBounds_toArray, List.set_cons_zero, List.set_cons_succ]
          refine wpLate_free (i := 7) (v := ?vq8) rfl (by kernel_rfl) (by kernel_rfl) (by kernel_rfl) rfl (fun _ _ _ h => h) (Or.inl ⟨by rfl, ?hyq8⟩) (fun _ => h0) ?restq8
          case hyq8 => (intro w _; go_simp; try with_reducible rfl)
          try simp only [Act.put, List.setIfInBounds_toArray, List.set_cons_zero, List.set_cons_succ]
          refine wpLate_free (i := 8) (v := ?vq9) rfl (by kernel_rfl) (by kernel_rfl) (by kernel_rfl) rfl (fun _ _ _ h => h) (Or.inl ⟨by rfl, ?hyq9⟩) (fun _ => h0) ?restq9
          case hyq9 => (intro w _; go_simp; try with_reducible rfl)
          try simp only [Act.put, List.setIfInBounds_toArray, List.set_cons_zero, List.set_cons_succ]
          refine wpLate_free (i := 9) (v := ?vq10) rfl (by kernel_rfl) (by kernel_rfl) (by kernel_rfl) rfl (fun _ _ _ h => h) (Or.inl ⟨by rfl, ?hyq10⟩) (fun _ => h0) ?restq10
          case hyq10 => (intro w _; go_simp; try with_reducible rfl)
          try simp only [Act.put, List.setIfInBounds_toArray, List.set_cons_zero, List.set_cons_succ]
          refine wpLate_free (i := 10) (v := ?vq11) rfl (by kernel_rfl) (by kernel_rfl) (by kernel_rfl) rfl (fun _ _ _ h => h) (Or.inl ⟨by rfl, ?hyq11⟩) (fun _ => h0) ?restq11
          case hyq11 => (intro w _; go_simp; try with_reducible rfl)
          try simp only [Act.put, List.setIfInBounds_toArray, List.set_cons_zero, List.set_cons_succ]
          refine wpLate_free (i := 11) (v := ?vq12) rfl (by kernel_rfl) (by kernel_rfl) (by kernel_rfl) rfl (fun _ _ _ h => h) (Or.inl ⟨by rfl, ?hyq12⟩) (fun _ => h0) ?restq12
          case hyq12 => (intro w _; go_simp; try with_reducible rfl)
          try simp only [Act.put, List.setIfInBounds_toArray, List.set_cons_zero, List.set_cons_succ]
          refine wpLate_take (i := 12) (v := ?vq13) rfl (by kernel_rfl) (by kernel_rfl) (by kernel_rfl) (by kernel_rfl) (fun j hj => by simp at hj; rcases hj with rfl | rfl <;> kernel_rfl) (fun _ _ _ h => h) (Or.inl ⟨by rfl, ?hyq13⟩) (by exact h0) ?restq13
          case hyq13 => (intro w hSw; (try dsimp only at hSw); obtain ⟨s4, s6⟩ := hSw; go_simp; try with_reducible rfl)
          try simp only [Act.put, List.setIfInBounds_toArray, List.set_cons_zero, List.set_cons_succ]
          refine wpLate_free (i := 13) (v := ?vq14) rfl (by kernel_rfl) (by kernel_rfl) (by kernel_rfl) rfl (fun _ _ _ h => h) (Or.inl ⟨by rfl, ?hyq14⟩) (fun _ => h0) ?restq14
          case hyq14 => (intro w _; go_simp; try with_reducible rfl)
          try simp only [Act.put, List.setIfInBounds_toArray, List.set_cons_zero, List.set_cons_succ]
          refine wpLate_free (i := 14) (v := ?vq15) rfl (by kernel_rfl) (by kernel_rfl) (by kernel_rfl) rfl (fun _ _ _ h => h) (Or.inl ⟨by rfl, ?hyq15⟩) (fun _ => h0) ?restq15
          case hyq15 => (intro w _; go_simp; try with_reducible rfl)
          try simp only [Act.put, List.setIfInBounds_toArray, List.set_cons_zero, List.set_cons_succ]
          refine wpLate_free (i := 17) (v := ?vq16) rfl (by kernel_rfl) (by kernel_rfl) (by kernel_rfl) rfl (fun _ _ _ h => h) (Or.inl ⟨by rfl, ?hyq16⟩) (fun _ => h0) ?restq16
          case hyq16 => (intro w _; go_simp; try with_reducible rfl)
          try simp only [Act.put, List.setIfInBounds_toArray, List.set_cons_zero, List.set_cons_succ]
          refine wpLate_all (rs := [15]) (by kernel_rfl) (by simp) ?_
          intro i hi
          simp only [List.mem_cons, List.not_mem_nil, or_false] at hi
          subst hi
          refine wpLate_step (i := 15) rfl (fun K hK => ?_)
          go_simp
          go_wp2_with (go_at_call 72; refine (hsl.out _).mono ?_; rintro e w' ⟨rfl, rfl⟩)
          refine hK.out _ _ (fun _ => (by first | exact ⟨g4, g6⟩ | exact ⟨g4a _, g6a _⟩ | exact ⟨g4b _ _, g6b _ _⟩)) ?_
          clear hK K
          try simp only [Act.put, List.setIfInBounds_toArray, List.set_cons_zero, List.set_cons_succ]
          refine wpLate_all (rs := [16, 18]) (by kernel_rfl) (by simp) ?_
          intro i hi
          simp only [List.mem_cons, List.not_mem_nil, or_false] at hi
          rcases hi with rfl | rfl
          · skip
            refine wpLate_step (i := 16) rfl (fun K hK => ?_)
            go_simp
            refine hK.out _ _ (fun _ => (by first | exact ⟨g4, g6⟩ | exact ⟨g4a _, g6a _⟩ | exact ⟨g4b _ _, g6b _ _⟩)) ?_
            clear hK K
            try simp only [Act.put, List.setIfInBounds_toArray, List.set_cons_zero, List.set_cons_succ]
            refine wpLate_all (rs := [18]) (by kernel_rfl) (by simp) ?_
            intro i hi
            simp only [List.mem_cons, List.not_mem_nil, or_false] at hi
            subst hi
            refine wpLate_step (i := 18) rfl (fun K hK => ?_)
            go_simp
            go_wp2_with (go_at_call 72; refine (hsl.out _).mono ?_; rintro e w' ⟨rfl, rfl⟩)
            refine hK.out _ _ (fun _ => (by first | exact ⟨g4, g6⟩ | exact ⟨g4a _, g6a _⟩ | exact ⟨g4b _ _, g6b _ _⟩)) ?_
            clear hK K
            try simp only [Act.put, List.setIfInBounds_toArray, List.set_cons_zero, List.set_cons_succ]
            refine wpLate_all (rs := [19]) (by kernel_rfl) (by simp) ?_
            intro i hi
            simp only [List.mem_cons, List.not_mem_nil, or_false] at hi
            subst hi
            refine wpLate_step (i := 19) rfl (fun K hK => ?_)
            go_simp
            refine hK.out _ _ (fun _ => (by first | exact ⟨g4, g6⟩ | exact ⟨g4a _, g6a _⟩ | exact ⟨g4b _ _, g6b _ _⟩)) ?_
            clear hK K
            try simp only [Act.put, List.setIfInBounds_toArray, List.set_cons_zero, List.set_cons_succ]
            refine wpLate_free (i := 20) (v := ?vq17) rfl (by kernel_rfl) (by kernel_rfl) (by kernel_rfl) rfl (fun _ _ _ h => h) (Or.inl ⟨by rfl, ?hyq17⟩) (fun _ => (by first | exact ⟨g4, g6⟩ | exact ⟨g4a _, g6a _⟩ | exact ⟨g4b _ _, g6b _ _⟩)) ?restq17
            case hyq17 => (intro w _; go_simp; try with_reducible rfl)
            try simp only [Act.put, List.setIfInBounds_toArray, List.set_cons_zero, List.set_cons_succ]
            refine wpLate_all (rs := [21]) (by kernel_rfl) (by simp) ?_
            intro i hi
            simp only [List.mem_cons, List.not_mem_nil, or_false] at hi
            subst hi
            refine wpLate_step (i := 21) rfl (fun K hK => ?_)
            go_simp
            go_wp2_with (go_at_call 76; refine (hwith.out _ _ _ ?_).mono ?_; (first | exact hsw.out | exact hsw.out.drew); rintro e w3 ⟨v, rfl, hr, hb⟩; obtain ⟨a9, c9, rfl⟩ := own_slice hr; have hb' := (show Below ((W.alloc (.cells (madeCells #[.int .i64 0] ns) 3)).alloc (.cells (madeCells #[.int .i64 0] ns) 3)).heap.size ((W.alloc (.cells (madeCells #[.int .i64 0] ns) 3)).alloc (.cells (madeCells #[.int .i64 0] ns) 3)) w3 from ⟨hb.os, hb.tape, hb.output, hb.size, hb.block⟩); (first | (have hf := Lib.hid (F1.out _ w3 hb' hr)) | (have hf := Lib.hid (F2.out _ w3 hb' hr))); have g4c := cell_below (below_trans hsb.out hb') g4W.out; have f4c : w3.frozen? ⟨B, 4, none⟩ = false := (World.frozen?_of_block ((below_trans hsb.out hb').block B (by have := hwz.out; omega))).trans f4.out; have bnz := Lib.hid (heap_below (below_trans hsb.out hb') bn.out); clear hr hb hb')
            refine hK.out _ _ (fun h => Bool.noConfusion ((h 21 (by kernel_rfl)).symm.trans (show _ = true by kernel_rfl))) ?_
            clear hK K
            try simp only [Act.put, List.setIfInBounds_toArray, List.set_cons_zero, List.set_cons_succ]
            refine wpLate_free (i := 22) (v := ?vq18) rfl (by kernel_rfl) (by kernel_rfl) (by kernel_rfl) rfl (fun _ _ _ h => h) (Or.inl ⟨by rfl, ?hyq18⟩) (fun h => Bool.noConfusion ((h 21 (by kernel_rfl)).symm.trans (show _ = true by kernel_rfl))) ?restq18
            case hyq18 => (intro w _; go_simp; try with_reducible rfl)
            try simp only [Act.put, List.setIfInBounds_toArray, List.set_cons_zero, List.set_cons_succ]
            refine wpLate_free (i := 23) (v := ?vq19) rfl (by kernel_rfl) (by kernel_rfl) (by kernel_rfl) rfl (fun _ _ _ h => h) (Or.inl ⟨by rfl, ?hyq19⟩) (fun h => Bool.noConfusion ((h 21 (by kernel_rfl)).symm.trans (show _ = true by kernel_rfl))) ?restq19
            case hyq19 => (intro w _; go_simp; try with_reducible rfl)
            try simp only [Act.put, List.setIfInBounds_toArray, List.set_cons_zero, List.set_cons_succ]
            refine wpLate_all (rs := [24]) (by kernel_rfl) (by simp) ?_
            intro i hi
            simp only [List.mem_cons, List.not_mem_nil, or_false] at hi
            subst hi
            refine wpLate_step (i := 24) rfl (fun K hK => ?_)
            go_simp
            refine hK.out _ _ (fun h => Bool.noConfusion ((h 21 (by kernel_rfl)).symm.trans (show _ = true by kernel_rfl))) ?_
            clear hK K
            try simp only [Act.put, List.setIfInBounds_toArray, List.set_cons_zero, List.set_cons_succ]
            refine wpLate_done (by kernel_rfl) ?_ _
            go_wp2_with fail
            go_meet
            exact ⟨rfl, hf.out.1, hf.out.2, (heap_setCell_other w3 ⟨B, 4, none⟩ w.heap.size _ (by show w.heap.size ≠ B; omega)).trans bnz.out⟩
          · skip
            refine wpLate_step (i := 18) rfl (fun K hK => ?_)
            go_simp
            go_wp2_with (go_at_call 72; refine (hsl.out _).mono ?_; rintro e w' ⟨rfl, rfl⟩)
            refine hK.out _ _ (fun _ => (by first | exact ⟨g4, g6⟩ | exact ⟨g4a _, g6a _⟩ | exact ⟨g4b _ _, g6b _ _⟩)) ?_
            clear hK K
            try simp only [Act.put, List.setIfInBounds_toArray, List.set_cons_zero, List.set_cons_succ]
            refine wpLate_all (rs := [16, 19]) (by kernel_rfl) (by simp) ?_
            intro i hi
            simp only [List.mem_cons, List.not_mem_nil, or_false] at hi
            rcases hi with rfl | rfl
            · skip
              refine wpLate_step (i := 16) rfl (fun K hK => ?_)
              go_simp
              refine hK.out _ _ (fun _ => (by first | exact ⟨g4, g6⟩ | exact ⟨g4a _, g6a _⟩ | exact ⟨g4b _ _, g6b _ _⟩)) ?_
              clear hK K
              try simp only [Act.put, List.setIfInBounds_toArray, List.set_cons_zero, List.set_cons_succ]
              refine wpLate_all (rs := [19]) (by kernel_rfl) (by simp) ?_
              intro i hi
              simp only [List.mem_cons, List.not_mem_nil, or_false] at hi
              subst hi
              refine wpLate_step (i := 19) rfl (fun K hK => ?_)
              go_simp
              refine hK.out _ _ (fun _ => (by first | exact ⟨g4, g6⟩ | exact ⟨g4a _, g6a _⟩ | exact ⟨g4b _ _, g6b _ _⟩)) ?_
              clear hK K
              try simp only [Act.put, List.setIfInBounds_toArray, List.set_cons_zero, List.set_cons_succ]
              refine wpLate_free (i := 20) (v := ?vq20) rfl (by kernel_rfl) (by kernel_rfl) (by kernel_rfl) rfl (fun _ _ _ h => h) (Or.inl ⟨by rfl, ?hyq20⟩) (fun _ => (by first | exact ⟨g4, g6⟩ | exact ⟨g4a _, g6a _⟩ | exact ⟨g4b _ _, g6b _ _⟩)) ?restq20
              case hyq20 => (intro w _; go_simp; try with_reducible rfl)
              try simp only [Act.put, List.setIfInBounds_toArray, List.set_cons_zero, List.set_cons_succ]
              refine wpLate_all (rs := [21]) (by kernel_rfl) (by simp) ?_
              intro i hi
              simp only [List.mem_cons, List.not_mem_nil, or_false] at hi
              subst hi
              refine wpLate_step (i := 21) rfl (fun K hK => ?_)
              go_simp
              go_wp2_with (go_at_call 76; refine (hwith.out _ _ _ ?_).mono ?_; (first | exact hsw.out | exact hsw.out.drew); rintro e w3 ⟨v, rfl, hr, hb⟩; obtain ⟨a9, c9, rfl⟩ := own_slice hr; have hb' := (show Below ((W.alloc (.cells (madeCells #[.int .i64 0] ns) 3)).alloc (.cells (madeCells #[.int .i64 0] ns) 3)).heap.size ((W.alloc (.cells (madeCells #[.int .i64 0] ns) 3)).alloc (.cells (madeCells #[.int .i64 0] ns) 3)) w3 from ⟨hb.os, hb.tape, hb.output, hb.size, hb.block⟩); (first | (have hf := Lib.hid (F1.out _ w3 hb' hr)) | (have hf := Lib.hid (F2.out _ w3 hb' hr))); have g4c := cell_below (below_trans hsb.out hb') g4W.out; have f4c : w3.frozen? ⟨B, 4, none⟩ = false := (World.frozen?_of_block ((below_trans hsb.out hb').block B (by have := hwz.out; omega))).trans f4.out; have bnz := Lib.hid (heap_below (below_trans hsb.out hb') bn.out); clear hr hb hb')
              refine hK.out _ _ (fun h => Bool.noConfusion ((h 21 (by kernel_rfl)).symm.trans (show _ = true by kernel_rfl))) ?_
              clear hK K
              try simp only [Act.put, List.setIfInBounds_toArray, List.set_cons_zero, List.set_cons_succ]
              refine wpLate_free (i := 22) (v := ?vq21) rfl (by kernel_rfl) (by kernel_rfl) (by kernel_rfl) rfl (fun _ _ _ h => h) (Or.inl ⟨by rfl, ?hyq21⟩) (fun h => Bool.noConfusion ((h 21 (by kernel_rfl)).symm.trans (show _ = true by kernel_rfl))) ?restq21
              case hyq21 => (intro w _; go_simp; try with_reducible rfl)
              try simp only [Act.put, List.setIfInBounds_toArray, List.set_cons_zero, List.set_cons_succ]
              refine wpLate_free (i := 23) (v := ?vq22) rfl (by kernel_rfl) (by kernel_rfl) (by kernel_rfl) rfl (fun _ _ _ h => h) (Or.inl ⟨by rfl, ?hyq22⟩) (fun h => Bool.noConfusion ((h 21 (by kernel_rfl)).symm.trans (show _ = true by kernel_rfl))) ?restq22
              case hyq22 => (intro w _; go_simp; try with_reducible rfl)
              try simp only [Act.put, List.setIfInBounds_toArray, List.set_cons_zero, List.set_cons_succ]
              refine wpLate_all (rs := [24]) (by kernel_rfl) (by simp) ?_
              intro i hi
              simp only [List.mem_cons, List.not_mem_nil, or_false] at hi
              subst hi
              refine wpLate_step (i := 24) rfl (fun K hK => ?_)
              go_simp
              refine hK.out _ _ (fun h => Bool.noConfusion ((h 21 (by kernel_rfl)).symm.trans (show _ = true by kernel_rfl))) ?_
              clear hK K
              try simp only [Act.put, List.setIfInBounds_toArray, List.set_cons_zero, List.set_cons_succ]
              refine wpLate_done (by kernel_rfl) ?_ _
              go_wp2_with fail
              go_meet
              exact ⟨rfl, hf.out.1, hf.out.2, (heap_setCell_other w3 ⟨B, 4, none⟩ w.heap.size _ (by show w.heap.size ≠ B; omega)).trans bnz.out⟩
            · skip
              refine wpLate_step (i := 19) rfl (fun K hK => ?_)
              go_simp
              refine hK.out _ _ (fun _ => (by first | exact ⟨g4, g6⟩ | exact ⟨g4a _, g6a _⟩ | exact ⟨g4b _ _, g6b _ _⟩)) ?_
              clear hK K
              try simp only [Act.put, List.setIfInBounds_toArray, List.set_cons_zero, List.set_cons_succ]
              refine wpLate_all (rs := [16]) (by kernel_rfl) (by simp) ?_
              intro i hi
              simp only [List.mem_cons, List.not_mem_nil, or_false] at hi
              subst hi
              refine wpLate_step (i := 16) rfl (fun K hK => ?_)
              go_simp
              refine hK.out _ _ (fun _ => (by first | exact ⟨g4, g6⟩ | exact ⟨g4a _, g6a _⟩ | exact ⟨g4b _ _, g6b _ _⟩)) ?_
              clear hK K
              try simp only [Act.put, List.setIfInBounds_toArray, List.set_cons_zero, List.set_cons_succ]
              refine wpLate_free (i := 20) (v := ?vq23) rfl (by kernel_rfl) (by kernel_rfl) (by kernel_rfl) rfl (fun _ _ _ h => h) (Or.inl ⟨by rfl, ?hyq23⟩) (fun _ => (by first | exact ⟨g4, g6⟩ | exact ⟨g4a _, g6a _⟩ | exact ⟨g4b _ _, g6b _ _⟩)) ?restq23
              case hyq23 => (intro w _; go_simp; try with_reducible rfl)
              try simp only [Act.put, List.setIfInBounds_toArray, List.set_cons_zero, List.set_cons_succ]
              refine wpLate_all (rs := [21]) (by kernel_rfl) (by simp) ?_
              intro i hi
              simp only [List.mem_cons, List.not_mem_nil, or_false] at hi
              subst hi
              refine wpLate_step (i := 21) rfl (fun K hK => ?_)
              go_simp
              go_wp2_with (go_at_call 76; refine (hwith.out _ _ _ ?_).mono ?_; (first | exact hsw.out | exact hsw.out.drew); rintro e w3 ⟨v, rfl, hr, hb⟩; obtain ⟨a9, c9, rfl⟩ := own_slice hr; have hb' := (show Below ((W.alloc (.cells (madeCells #[.int .i64 0] ns) 3)).alloc (.cells (madeCells #[.int .i64 0] ns) 3)).heap.size ((W.alloc (.cells (madeCells #[.int .i64 0] ns) 3)).alloc (.cells (madeCells #[.int .i64 0] ns) 3)) w3 from ⟨hb.os, hb.tape, hb.output, hb.size, hb.block⟩); (first | (have hf := Lib.hid (F1.out _ w3 hb' hr)) | (have hf := Lib.hid (F2.out _ w3 hb' hr))); have g4c := cell_below (below_trans hsb.out hb') g4W.out; have f4c : w3.frozen? ⟨B, 4, none⟩ = false := (World.frozen?_of_block ((below_trans hsb.out hb').block B (by have := hwz.out; omega))).trans f4.out; have bnz := Lib.hid (heap_below (below_trans hsb.out hb') bn.out); clear hr hb hb')
              refine hK.out _ _ (fun h => Bool.noConfusion ((h 21 (by kernel_rfl)).symm.trans (show _ = true by kernel_rfl))) ?_
              clear hK K
              try simp only [Act.put, List.setIfInBounds_toArray, List.set_cons_zero, List.set_cons_succ]
              refine wpLate_free (i := 22) (v := ?vq24) rfl (by kernel_rfl) (by kernel_rfl) (by kernel_rfl) rfl (fun _ _ _ h => h) (Or.inl ⟨by rfl, ?hyq24⟩) (fun h => Bool.noConfusion ((h 21 (by kernel_rfl)).symm.trans (show _ = true by kernel_rfl))) ?restq24
              case hyq24 => (intro w _; go_simp; try with_reducible rfl)
              try simp only [Act.put, List.setIfInBounds_toArray, List.set_cons_zero, List.set_cons_succ]
              refine wpLate_free (i := 23) (v := ?vq25) rfl (by kernel_rfl) (by kernel_rfl) (by kernel_rfl) rfl (fun _ _ _ h => h) (Or.inl ⟨by rfl, ?hyq25⟩) (fun h => Bool.noConfusion ((h 21 (by kernel_rfl)).symm.trans (show _ = true by kernel_rfl))) ?restq25
              case hyq25 => (intro w _; go_simp; try with_reducible rfl)
              try simp only [Act.put, List.setIfInBounds_toArray, List.set_cons_zero, List.set_cons_succ]
              refine wpLate_all (rs := [24]) (by kernel_rfl) (by simp) ?_
              intro i hi
              simp only [List.mem_cons, List.not_mem_nil, or_false] at hi
              subst hi
              refine wpLate_step (i := 24) rfl (fun K hK => ?_)
              go_simp
              refine hK.out _ _ (fun h => Bool.noConfusion ((h 21 (by kernel_rfl)).symm.trans (show _ = true by kernel_rfl))) ?_
              clear hK K
              try simp only [Act.put, List.setIfInBounds_toArray, List.set_cons_zero, List.set_cons_succ]
              refine wpLate_done (by kernel_rfl) ?_ _
              go_wp2_with fail
              go_meet
              exact ⟨rfl, hf.out.1, hf.out.2, (heap_setCell_other w3 ⟨B, 4, none⟩ w.heap.size _ (by show w.heap.size ≠ B; omega)).trans bnz.out⟩
        case rest =>
          obtain ⟨rfl, hv2, hb2, bn2⟩ := hcut
          clear q0 q1 z0 z1 g6a g6b g4a g4b hmk
          have q0 := cell_of_heap bn2.out 0 _ rfl
          have q1 := cell_of_heap bn2.out 1 _ rfl
          have z0 := frozen_of_heap bn2.out 0
          have z1 := frozen_of_heap bn2.out 1
          obtain ⟨S2, hv3, ht3⟩ := hv2.out
          have hv3' := Lib.hid hv3
          have ht3' := Lib.hid ht3
          clear hv3 ht3
          have hlt2 := Lib.hid (show w.heap.size < wc.heap.size from (Array.getElem?_eq_some_iff.1 bn2.out).1)
          go_wp2_with fail
          refine bodyPost_ret (v := .tuple #[.agg #[.int .i64 (k : Int), .int .i64 0], .bool true]) (by simp [results, Try.results68, go_sem, q0, q1]) rfl ?_
          have cc := ((Chg.refl [w.heap.size] wc).put (b := w.heap.size) (by simp) 0 (.int .i64 (k : Int))).put (b := w.heap.size) (by simp) 1 (.int .i64 0)
          have hwl := hb2.out.size
          exact ⟨.inl ⟨_, k, 0, S2, y.out, rfl, hv3'.out.chg cc (fun q hq hm => by rw [List.mem_singleton.1 hm] at hq; exact hv3'.out.other bn2.out (by decide) (by decide) (by decide) (by decide) hq) (fun hm => by have := List.mem_singleton.1 hm; omega), ((hT.out.trans ht3'.out).step cc (fun q hq => .inr (.inr (by rw [List.mem_singleton.1 hq]; omega))))⟩, (hbase.out.trans hb2.out |> fun b => Chg.below b cc (by have := hwz.out; have := hle.out; omega) (fun q hq => by rw [List.mem_singleton.1 hq]; have := hle.out; omega))⟩
end Go.Proofs.Ytpcefecedmdmkaa

import Derived.Test.YtdhiablpobnhcaaGreatPkCut
import Derived.Deep.DeepCutAuto
import Derived.Deep.CutRange
import Derived.Deep.OwnRows
import Derived.Outline

/-
  The contract of the model's l2page: a new span at the first page that is none.
-/
namespace Go.Proofs.YtdhiablpobnhcaaGreat
open Go.RowKit
set_option linter.unusedVariables false

theorem alloc3 (w : World) (a b c : Obj) : (((w.alloc a).alloc b).alloc c).drew.heap[w.heap.size]? = some a ∧ (((w.alloc a).alloc b).alloc c).drew.heap[w.heap.size + 1]? = some b ∧ (((w.alloc a).alloc b).alloc c).drew.heap[w.heap.size + 1 + 1]? = some c ∧
    Below w.heap.size w (((w.alloc a).alloc b).alloc c).drew ∧ (((w.alloc a).alloc b).alloc c).drew.heap.size = w.heap.size + 1 + 1 + 1 := by
  obtain ⟨h1, h2, h3, hb⟩ := box3 w a b c
  exact ⟨h1, h2, h3, below_drewN hb 1, by simp [World.drew]⟩
/-- Behind the statement that makes the span: its box, its lists. -/
structure PageI (w wr : World) (c : Int) (ph : Bool) (k ns C g1 g2 : Nat) : Prop where
  below : Below w.heap.size w wr
  size : wr.heap.size = w.heap.size + 1 + 1 + 1
  boxC : wr.heap[C]? = some (.cells #[.int .i64 k, .int .i64 c, .int .i64 0, .bool ph, .slice (some ⟨g1, 0, none⟩) ns ns, .slice (some ⟨g2, 0, none⟩) ns ns] 126 (0, 0))
  r1 : wr.heap[g1]? = some (.cells (madeCells #[.int .i64 0] ns) 3 (0, 0))
  r2 : wr.heap[g2]? = some (.cells (madeCells #[.int .i64 0] ns) 3 (0, 0))
  hC : w.heap.size ≤ C ∧ C < w.heap.size + 1 + 1 + 1
  h1 : w.heap.size ≤ g1 ∧ g1 < w.heap.size + 1 + 1 + 1
  h2 : w.heap.size ≤ g2 ∧ g2 < w.heap.size + 1 + 1 + 1
  ne : g1 ≠ g2
/-- What the three appends come to. -/
theorem page_fin {w wr w3 : World} {base B : Nat} {S : Shape} {D : WD} {c : Int} {k C g1 g2 : Nat} {v : Value} (h : VarW w base B S D) (hI : PageI w wr c (D.phase == 4) k (sl' c).toNat C g1 g2) (hk : k ≤ D.spans.length)
    (hb : Below wr.heap.size wr w3) (hr : w3.ownsRow wr.heap.size 126 6 v (D.spans.length + 1) ((flatV D.spans S.sv).take (k * 6) ++ spanCv (freshS D c k) (.slice (some ⟨g1, 0, none⟩) (sl' c).toNat (sl' c).toNat, .slice (some ⟨g2, 0, none⟩) (sl' c).toNat (sl' c).toNat) ++ (flatV D.spans S.sv).drop (k * 6))) :
    (∃ S', VarW (w3.setCell ⟨B, 4, none⟩ v) base B S' (insD D c k)) ∧ Below base w (w3.setCell ⟨B, 4, none⟩ v) := by
  have hsz := hI.size
  have hlt := h.lt
  have hle := h.le
  have hb2 : Below w.heap.size w w3 := hI.below.trans (hb.mono (by omega))
  have hv := h.below hb2
  have hl : (sl' c).toNat ≤ maxLen := by have := (sl_bd c).2; unfold maxLen; omega
  have hr1 := own_base (own_below (own_made (base := g1) hI.r1 (Nat.le_refl _) hl) hb) hI.h1.1
  have hr2 := own_base (own_below (own_made (base := g2) hI.r2 (Nat.le_refl _) hl) hb) hI.h2.1
  have hx := hv.ins (n0 := w.heap.size) (fun q hq => (h.own.lt q hq).2) hlt (p := (.slice (some ⟨g1, 0, none⟩) (sl' c).toNat (sl' c).toNat, .slice (some ⟨g2, 0, none⟩) (sl' c).toNat (sl' c).toNat)) (s := freshS D c k) hk (own_base hr (by omega))
    (by simpa [freshS] using hr1) (by simpa [freshS] using hr2) (fun q hq e => hI.ne (by simp [Value.ownBlock] at hq e; omega))
  exact ⟨⟨_, hx.1⟩, (hb2.mono (by omega)).trans hx.2⟩
theorem spec_slots_eq {c v : Int} (h : sl' c = v) (w : World) : Calls Tryz.prog 165 #[.int .i64 c] w fun e w' => e = .returned (.int .i64 v) ∧ w = w' := by
  rw [← h]; exact spec_slots_any c w
/-- The page where the next span comes, or none. -/
def PageIs (D : WD) (c : Int) (base B : Nat) (S : Shape) (e : Ending) (w' : World) : Prop :=
  ∃ k : Nat, FreePg D k ∧ (((k : Int) = D.pages ∧ e = .returned (.int .i64 (-1)) ∧ VarW w' base B S D) ∨ ((k : Int) ≠ D.pages ∧ e = .returned (.int .i64 (k : Int)) ∧ ∃ S', VarW w' base B S' (insD D c k)))

set_option maxRecDepth 100000 in
set_option maxHeartbeats 16000000 in
theorem spage_any (base B : Nat) (S : Shape) (D : WD) (c : Int) (hls : D.spans.length ≤ 1000) (w : World) (h : VarW w base B S D) :
    Calls Tryz.prog 218 #[.pointer (some ⟨B, 0, none⟩), .int .i64 c] w fun e w' => PageIs D c base B S e w' ∧ Below base w w' := by
  obtain ⟨aS, cS, hgs⟩ := own_slice h.own.spans
  have h' := Lib.hid h
  have hsrc := h.own.ownS
  rw [hgs] at hsrc
  have hsrc' := Lib.hid (own_src hsrc)
  have hgs' := Lib.hid hgs
  have hrd := h.rd.parts.2.2.1
  rw [hgs] at hrd
  have hat := Lib.hid (fun k s hk => hrd.at_ k s hk)
  have g1 := h.cell 1 (.int .i64 D.pages) rfl
  have g4 := h.cell 4 S.vs rfl
  have g6 := h.cell 6 (.int .i64 D.phase) rfl
  rw [hgs] at g4
  have f4 := Lib.hid (h.frz 4)
  have hlt := h.lt
  have hns := sl_bd c
  obtain ⟨ns, hns'⟩ := Int.eq_ofNat_of_zero_le hns.1
  have hn16 : ns ≤ 16 := by omega
  have hsl := Lib.hid (fun w => spec_slots_eq hns' w)
  have hnn := Lib.hid (show (sl' c).toNat = ns by omega)
  clear h hsrc hgs hrd hns hns'
  go_enter Tryz.func218, Tryz.ntmps218
  go_wp2_with fail
  go_loop [5, 6] (fun a b => ∃ k : Nat, k ≤ D.spans.length ∧ a = .int .i64 k ∧ b = .int .i64 k ∧ Hid (∀ (j : Nat) (s : SpanD), j < k → D.spans[j]? = some s → s.page = j)) (fun a b => D.spans.length - (intOf a).toNat)
  case atStart => exact ⟨0, Nat.zero_le _, rfl, rfl, (fun j s hj => absurd hj (by omega))⟩
  case round =>
    obtain ⟨k, hk, rfl, rfl, hno⟩ := hrel
    by_cases hgo : ∃ s, D.spans[k]? = some s ∧ s.page = (k : Int)
    · obtain ⟨s, hks, hpg⟩ := hgo
      have hlt1 : (k : Int) < (D.spans.length : Int) := by have := (List.getElem?_eq_some_iff.1 hks).1; omega
      obtain ⟨b1, o1, rfl, vl, vp, x0, _⟩ := hat.out k s hks
      have hn := Lib.hid (show ∀ (j : Nat) (t : SpanD), j < k + 1 → D.spans[j]? = some t → t.page = j from fun j t hj ht => if e : j = k then by subst e; rw [hks] at ht; cases ht; exact hpg else hno.out j t (by omega) ht)
      rw [hpg] at x0
      clear hks hpg
      go_wp2_with fail
      go_round
      case rel => exact ⟨k + 1, by omega, by go_num, by go_num, hn⟩
      case measure => simp [intOf]; omega
    · have hfp := Lib.hid (show FreePg D k from ⟨hk, hno.out, fun s hs e => hgo ⟨s, hs, e⟩⟩)
      have hend : (¬ (k : Int) < (D.spans.length : Int)) ∨ ∃ s, D.spans[k]? = some s ∧ (s.page == (k : Int)) = false := by
        by_cases hlt : k < D.spans.length
        · exact .inr ⟨D.spans[k], List.getElem?_eq_getElem hlt, beq_eq_false_iff_ne.2 fun e => hgo ⟨_, List.getElem?_eq_getElem hlt, e⟩⟩
        · exact .inl (by omega)
      clear hgo
      by_cases hp : (k : Int) = D.pages
      · have y := Lib.hid (show PageIs D c base B S (.returned (.int .i64 (-1))) w from ⟨k, hfp.out, .inl ⟨hp, rfl, h'.out⟩⟩)
        rw [← hp] at g1
        clear hp
        rcases hend with hend | ⟨s, hks, hpg⟩
        · go_wp2_with fail
          go_ret
          exact ⟨y.out, Below.refl _ _⟩
        · have hlt1 : (k : Int) < (D.spans.length : Int) := by have := (List.getElem?_eq_some_iff.1 hks).1; omega
          obtain ⟨b1, o1, rfl, vl, vp, x0, _⟩ := hat.out k s hks
          clear hks
          go_wp2_with fail
          go_ret
          exact ⟨y.out, Below.refl _ _⟩
      · have hp' := Lib.hid hp
        have hpb : ((k : Int) == D.pages) = false := beq_eq_false_iff_ne.2 hp
        clear hp
        have hmk : ∀ (w : World), (Instr.makeSlice 23 (.int .i64 (ns : Int)) (.int .i64 (ns : Int))).run Tryz.prog w = .ok (.slice (some ⟨w.heap.size, 0, none⟩) ns ns) (w.alloc (.cells (madeCells #[.int .i64 0] ns) 3)) := run_make_row' (P := Tryz.prog) 23 3 (.int .i64 0) 8 Tryz.underlying23 infoInt rfl .i64 .i64 ns (by omega) (by omega)
        have g6a : ∀ a, (w.alloc a).cell? ⟨B, 6, none⟩ = some (.int .i64 D.phase) := fun a => cell_below (below_box _ _) g6
        have g6b : ∀ a b, ((w.alloc a).alloc b).cell? ⟨B, 6, none⟩ = some (.int .i64 D.phase) := fun a b => cell_below (below_box _ _) (g6a a)
        have g6c : ∀ a b c, (((w.alloc a).alloc b).alloc c).cell? ⟨B, 6, none⟩ = some (.int .i64 D.phase) := fun a b c => cell_below (below_box _ _) (g6b a b)
        have hk' := Lib.hid hk
        obtain ⟨A1, c1, hs1, sr1⟩ := cut_to hsrc'.out.2.2.2 hk hsrc'.out.2.1
        obtain ⟨A2, hs2, sr2⟩ := cut_from hsrc'.out.2.2.2 hk hsrc'.out.2.1 (k : Int) rfl
        have sr1 := Lib.hid sr1
        have sr2 := Lib.hid sr2
        have hkb : k ≤ 1000 := by omega
        have hlk : D.spans.length - k ≤ 1000 := by omega
        clear hk
        rcases hend with hend | ⟨s, hks, hpg⟩
        case inr =>
          have hlt1 : (k : Int) < (D.spans.length : Int) := by have := (List.getElem?_eq_some_iff.1 hks).1; omega
          obtain ⟨b1, o1, rfl, vl, vp, x0, _⟩ := hat.out k s hks
          clear hks
          go_upto_region 9 with (go_at_call 165; refine (hsl.out _).mono ?_; rintro e w' ⟨rfl, rfl⟩)
          go_cut [8] (fun q wx => ∃ C x1 x2 : Nat, q = .pointer (some ⟨C, 0, none⟩) ∧ Hid (PageI w wx c (D.phase == 4) k ns C x1 x2))
          case first =>
            go_region
            all_goals go_wp2_with fail
            all_goals go_meet
            all_goals first
              | exact ⟨w.heap.size + 1 + 1, w.heap.size, w.heap.size + 1, rfl, ⟨(alloc3 w _ _ _).2.2.2.1, (alloc3 w _ _ _).2.2.2.2, (alloc3 w _ _ _).2.2.1, (alloc3 w _ _ _).1, (alloc3 w _ _ _).2.1, by omega, by omega, by omega, by omega⟩⟩
              | exact ⟨w.heap.size + 1 + 1, w.heap.size + 1, w.heap.size, rfl, ⟨(alloc3 w _ _ _).2.2.2.1, (alloc3 w _ _ _).2.2.2.2, (alloc3 w _ _ _).2.2.1, (alloc3 w _ _ _).2.1, (alloc3 w _ _ _).1, by omega, by omega, by omega, by omega⟩⟩
              | exact ⟨w.heap.size + 1, w.heap.size, w.heap.size + 1 + 1, rfl, ⟨(alloc3 w _ _ _).2.2.2.1, (alloc3 w _ _ _).2.2.2.2, (alloc3 w _ _ _).2.1, (alloc3 w _ _ _).1, (alloc3 w _ _ _).2.2.1, by omega, by omega, by omega, by omega⟩⟩
              | exact ⟨w.heap.size + 1, w.heap.size + 1 + 1, w.heap.size, rfl, ⟨(alloc3 w _ _ _).2.2.2.1, (alloc3 w _ _ _).2.2.2.2, (alloc3 w _ _ _).2.1, (alloc3 w _ _ _).2.2.1, (alloc3 w _ _ _).1, by omega, by omega, by omega, by omega⟩⟩
              | exact ⟨w.heap.size, w.heap.size + 1, w.heap.size + 1 + 1, rfl, ⟨(alloc3 w _ _ _).2.2.2.1, (alloc3 w _ _ _).2.2.2.2, (alloc3 w _ _ _).1, (alloc3 w _ _ _).2.1, (alloc3 w _ _ _).2.2.1, by omega, by omega, by omega, by omega⟩⟩
              | exact ⟨w.heap.size, w.heap.size + 1 + 1, w.heap.size + 1, rfl, ⟨(alloc3 w _ _ _).2.2.2.1, (alloc3 w _ _ _).2.2.2.2, (alloc3 w _ _ _).1, (alloc3 w _ _ _).2.2.1, (alloc3 w _ _ _).2.1, by omega, by omega, by omega, by omega⟩⟩
          case rest =>
            obtain ⟨C, x1, x2, rfl, hI⟩ := hcut
            have hIb := Lib.hid hI.out.below
            have hIs := Lib.hid hI.out.size
            have hBc : B < wc.heap.size := by have := hIb.out.size; omega
            have F1 := Lib.hid (own_empty wc 126 6)
            have g4a := cell_below (below_trans hIb.out (below_box wc (.cells #[] 126))) g4
            have r1 := Lib.hid (sr1.out.below (below_trans hIb.out (below_box wc (.cells #[] 126))))
            go_wp2_with (first
              | (refine wpList_app rfl (.tmp 54) (.tmp 60) 25 rfl wc.heap.size 126 (.agg #[.int .i64 0, .int .i64 0, .int .i64 0, .bool false, .slice none 0 0, .slice none 0 0]) 6 80 Tryz.underlying25 infoSpan (by rfl) (by decide) (.slice (some ⟨wc.heap.size, 0, none⟩) 0 0) 0 [] rfl F1.out A1 k c1 ((flatV D.spans S.sv).take (k * 6)) rfl r1.out (by unfold maxLen; omega) (by omega) (by simp) ?_; intro u1 w1 p1 h1; simp only [Nat.zero_add, List.nil_append] at p1; obtain ⟨a3, c3, rfl⟩ := own_slice p1; have b1 := Lib.hid ((below_box wc (.cells #[] 126)).grown h1 (by simp) (fun q hq => (by cases hq; exact Nat.le_refl _))); have bC1 := heap_below b1.out hI.out.boxC; have d0 := cell_of_heap bC1 0 _ rfl; have d1 := cell_of_heap bC1 1 _ rfl; have d2 := cell_of_heap bC1 2 _ rfl; have d3 := cell_of_heap bC1 3 _ rfl; have d4 := cell_of_heap bC1 4 _ rfl; have d5 := cell_of_heap bC1 5 _ rfl; have r2 := Lib.hid (src_box w1 (cs := #[.int .i64 k, .int .i64 c, .int .i64 0, .bool (D.phase == 4), .slice (some ⟨x1, 0, none⟩) ns ns, .slice (some ⟨x2, 0, none⟩) ns ns]) (T := 126) (m := 1) (size := 6) rfl (fun u hu => (by simp only [List.mem_cons, List.not_mem_nil, or_false] at hu; rcases hu with rfl | rfl | rfl | rfl | rfl | rfl <;> rfl))); have p1' := Lib.hid (p1.alloc (.cells #[.int .i64 k, .int .i64 c, .int .i64 0, .bool (D.phase == 4), .slice (some ⟨x1, 0, none⟩) ns ns, .slice (some ⟨x2, 0, none⟩) ns ns] 126)); have le2 := Lib.hid (show wc.heap.size ≤ (w1.alloc (.cells #[.int .i64 k, .int .i64 c, .int .i64 0, .bool (D.phase == 4), .slice (some ⟨x1, 0, none⟩) ns ns, .slice (some ⟨x2, 0, none⟩) ns ns] 126)).heap.size by have := b1.out.size; simp; omega); clear p1 h1 bC1)
              | (refine wpList_app rfl (.tmp 62) (.tmp 64) 25 rfl wc.heap.size 126 (.agg #[.int .i64 0, .int .i64 0, .int .i64 0, .bool false, .slice none 0 0, .slice none 0 0]) 6 80 Tryz.underlying25 infoSpan (by rfl) (by decide) (.slice a3 k c3) k _ rfl p1'.out (some ⟨w1.heap.size, 0, none⟩) 1 1 _ rfl r2.out (by unfold maxLen; omega) (by omega) le2.out ?_; intro u2 w2 p2 h2; obtain ⟨a4, c4, rfl⟩ := own_slice p2; have b2 := Lib.hid (((b1.out.trans ((below_box w1 _).mono b1.out.size))).grown h2 le2.out (fun q hq => (p1'.out.lt q hq).1)); have p2' := Lib.hid p2; have g4b := cell_below (below_trans hIb.out b2.out) g4; have r3 := Lib.hid (sr2.out.below (below_trans hIb.out b2.out)); clear p2 h2 d0 d1 d2 d3 d4 d5)
              | (refine wpList_app rfl (.tmp 67) (.tmp 73) 25 rfl wc.heap.size 126 (.agg #[.int .i64 0, .int .i64 0, .int .i64 0, .bool false, .slice none 0 0, .slice none 0 0]) 6 80 Tryz.underlying25 infoSpan (by rfl) (by decide) (.slice a4 (k + 1) c4) (k + 1) _ rfl p2'.out A2 (D.spans.length - k) (cS - k) _ rfl r3.out (by unfold maxLen; omega) (by omega) b2.out.size ?_; intro u3 w3 p3 h3; obtain ⟨a5, c5, rfl⟩ := own_slice p3; have b3 := Lib.hid (b2.out.grown h3 b2.out.size (fun q hq => (p2'.out.lt q hq).1)); have p3' := Lib.hid p3; have g4c := cell_below (below_trans hIb.out b3.out) g4; have f4c : w3.frozen? ⟨B, 4, none⟩ = false := (World.frozen?_of_block ((below_trans hIb.out b3.out).block B hlt)).trans f4.out; clear p3 h3))
            go_ret
            have hk := hk'.out
            have e9 : k + 1 + (D.spans.length - k) = D.spans.length + 1 := by omega
            have hf := page_fin (v := .slice a5 (k + 1 + (D.spans.length - k)) c5) h'.out (show PageI w wc c (D.phase == 4) k (sl' c).toNat C x1 x2 by rw [hnn.out]; exact hI.out) hk b3.out (by have := p3'.out; rw [e9] at this ⊢; rw [hnn.out]; exact this)
            exact ⟨⟨k, hfp.out, .inr ⟨hp'.out, rfl, hf.1⟩⟩, hf.2⟩
        case inl =>
          go_upto_region 9 with (go_at_call 165; refine (hsl.out _).mono ?_; rintro e w' ⟨rfl, rfl⟩)
          go_cut [8] (fun q wx => ∃ C x1 x2 : Nat, q = .pointer (some ⟨C, 0, none⟩) ∧ Hid (PageI w wx c (D.phase == 4) k ns C x1 x2))
          case first =>
            go_region
            all_goals go_wp2_with fail
            all_goals go_meet
            all_goals first
              | exact ⟨w.heap.size + 1 + 1, w.heap.size, w.heap.size + 1, rfl, ⟨(alloc3 w _ _ _).2.2.2.1, (alloc3 w _ _ _).2.2.2.2, (alloc3 w _ _ _).2.2.1, (alloc3 w _ _ _).1, (alloc3 w _ _ _).2.1, by omega, by omega, by omega, by omega⟩⟩
              | exact ⟨w.heap.size + 1 + 1, w.heap.size + 1, w.heap.size, rfl, ⟨(alloc3 w _ _ _).2.2.2.1, (alloc3 w _ _ _).2.2.2.2, (alloc3 w _ _ _).2.2.1, (alloc3 w _ _ _).2.1, (alloc3 w _ _ _).1, by omega, by omega, by omega, by omega⟩⟩
              | exact ⟨w.heap.size + 1, w.heap.size, w.heap.size + 1 + 1, rfl, ⟨(alloc3 w _ _ _).2.2.2.1, (alloc3 w _ _ _).2.2.2.2, (alloc3 w _ _ _).2.1, (alloc3 w _ _ _).1, (alloc3 w _ _ _).2.2.1, by omega, by omega, by omega, by omega⟩⟩
              | exact ⟨w.heap.size + 1, w.heap.size + 1 + 1, w.heap.size, rfl, ⟨(alloc3 w _ _ _).2.2.2.1, (alloc3 w _ _ _).2.2.2.2, (alloc3 w _ _ _).2.1, (alloc3 w _ _ _).2.2.1, (alloc3 w _ _ _).1, by omega, by omega, by omega, by omega⟩⟩
              | exact ⟨w.heap.size, w.heap.size + 1, w.heap.size + 1 + 1, rfl, ⟨(alloc3 w _ _ _).2.2.2.1, (alloc3 w _ _ _).2.2.2.2, (alloc3 w _ _ _).1, (alloc3 w _ _ _).2.1, (alloc3 w _ _ _).2.2.1, by omega, by omega, by omega, by omega⟩⟩
              | exact ⟨w.heap.size, w.heap.size + 1 + 1, w.heap.size + 1, rfl, ⟨(alloc3 w _ _ _).2.2.2.1, (alloc3 w _ _ _).2.2.2.2, (alloc3 w _ _ _).1, (alloc3 w _ _ _).2.2.1, (alloc3 w _ _ _).2.1, by omega, by omega, by omega, by omega⟩⟩
          case rest =>
            obtain ⟨C, x1, x2, rfl, hI⟩ := hcut
            have hIb := Lib.hid hI.out.below
            have hIs := Lib.hid hI.out.size
            have hBc : B < wc.heap.size := by have := hIb.out.size; omega
            have F1 := Lib.hid (own_empty wc 126 6)
            have g4a := cell_below (below_trans hIb.out (below_box wc (.cells #[] 126))) g4
            have r1 := Lib.hid (sr1.out.below (below_trans hIb.out (below_box wc (.cells #[] 126))))
            go_wp2_with (first
              | (refine wpList_app rfl (.tmp 54) (.tmp 60) 25 rfl wc.heap.size 126 (.agg #[.int .i64 0, .int .i64 0, .int .i64 0, .bool false, .slice none 0 0, .slice none 0 0]) 6 80 Tryz.underlying25 infoSpan (by rfl) (by decide) (.slice (some ⟨wc.heap.size, 0, none⟩) 0 0) 0 [] rfl F1.out A1 k c1 ((flatV D.spans S.sv).take (k * 6)) rfl r1.out (by unfold maxLen; omega) (by omega) (by simp) ?_; intro u1 w1 p1 h1; simp only [Nat.zero_add, List.nil_append] at p1; obtain ⟨a3, c3, rfl⟩ := own_slice p1; have b1 := Lib.hid ((below_box wc (.cells #[] 126)).grown h1 (by simp) (fun q hq => (by cases hq; exact Nat.le_refl _))); have bC1 := heap_below b1.out hI.out.boxC; have d0 := cell_of_heap bC1 0 _ rfl; have d1 := cell_of_heap bC1 1 _ rfl; have d2 := cell_of_heap bC1 2 _ rfl; have d3 := cell_of_heap bC1 3 _ rfl; have d4 := cell_of_heap bC1 4 _ rfl; have d5 := cell_of_heap bC1 5 _ rfl; have r2 := Lib.hid (src_box w1 (cs := #[.int .i64 k, .int .i64 c, .int .i64 0, .bool (D.phase == 4), .slice (some ⟨x1, 0, none⟩) ns ns, .slice (some ⟨x2, 0, none⟩) ns ns]) (T := 126) (m := 1) (size := 6) rfl (fun u hu => (by simp only [List.mem_cons, List.not_mem_nil, or_false] at hu; rcases hu with rfl | rfl | rfl | rfl | rfl | rfl <;> rfl))); have p1' := Lib.hid (p1.alloc (.cells #[.int .i64 k, .int .i64 c, .int .i64 0, .bool (D.phase == 4), .slice (some ⟨x1, 0, none⟩) ns ns, .slice (some ⟨x2, 0, none⟩) ns ns] 126)); have le2 := Lib.hid (show wc.heap.size ≤ (w1.alloc (.cells #[.int .i64 k, .int .i64 c, .int .i64 0, .bool (D.phase == 4), .slice (some ⟨x1, 0, none⟩) ns ns, .slice (some ⟨x2, 0, none⟩) ns ns] 126)).heap.size by have := b1.out.size; simp; omega); clear p1 h1 bC1)
              | (refine wpList_app rfl (.tmp 62) (.tmp 64) 25 rfl wc.heap.size 126 (.agg #[.int .i64 0, .int .i64 0, .int .i64 0, .bool false, .slice none 0 0, .slice none 0 0]) 6 80 Tryz.underlying25 infoSpan (by rfl) (by decide) (.slice a3 k c3) k _ rfl p1'.out (some ⟨w1.heap.size, 0, none⟩) 1 1 _ rfl r2.out (by unfold maxLen; omega) (by omega) le2.out ?_; intro u2 w2 p2 h2; obtain ⟨a4, c4, rfl⟩ := own_slice p2; have b2 := Lib.hid (((b1.out.trans ((below_box w1 _).mono b1.out.size))).grown h2 le2.out (fun q hq => (p1'.out.lt q hq).1)); have p2' := Lib.hid p2; have g4b := cell_below (below_trans hIb.out b2.out) g4; have r3 := Lib.hid (sr2.out.below (below_trans hIb.out b2.out)); clear p2 h2 d0 d1 d2 d3 d4 d5)
              | (refine wpList_app rfl (.tmp 67) (.tmp 73) 25 rfl wc.heap.size 126 (.agg #[.int .i64 0, .int .i64 0, .int .i64 0, .bool false, .slice none 0 0, .slice none 0 0]) 6 80 Tryz.underlying25 infoSpan (by rfl) (by decide) (.slice a4 (k + 1) c4) (k + 1) _ rfl p2'.out A2 (D.spans.length - k) (cS - k) _ rfl r3.out (by unfold maxLen; omega) (by omega) b2.out.size ?_; intro u3 w3 p3 h3; obtain ⟨a5, c5, rfl⟩ := own_slice p3; have b3 := Lib.hid (b2.out.grown h3 b2.out.size (fun q hq => (p2'.out.lt q hq).1)); have p3' := Lib.hid p3; have g4c := cell_below (below_trans hIb.out b3.out) g4; have f4c : w3.frozen? ⟨B, 4, none⟩ = false := (World.frozen?_of_block ((below_trans hIb.out b3.out).block B hlt)).trans f4.out; clear p3 h3))
            go_ret
            have hk := hk'.out
            have e9 : k + 1 + (D.spans.length - k) = D.spans.length + 1 := by omega
            have hf := page_fin (v := .slice a5 (k + 1 + (D.spans.length - k)) c5) h'.out (show PageI w wc c (D.phase == 4) k (sl' c).toNat C x1 x2 by rw [hnn.out]; exact hI.out) hk b3.out (by have := p3'.out; rw [e9] at this ⊢; rw [hnn.out]; exact this)
            exact ⟨⟨k, hfp.out, .inr ⟨hp'.out, rfl, hf.1⟩⟩, hf.2⟩
end Go.Proofs.YtdhiablpobnhcaaGreat

import Derived.Test.YtajogfnlbdiokaaSOwn3
import Derived.Deep.DeepCutAuto
import Derived.Deep.CutRange
import Derived.Outline
import Derived.Test.YtajogfnlbdiokaaSTake
import Derived.Test.YtajogfnlbdiokaaWordsOf
import Derived.Test.YtajogfnlbdiokaaWWorld
import Derived.Test.YtajogfnlbdiokaaWEq
import Derived.Deep.RegionWith
import Derived.Test.YtajogfnlbdiokaaImplE
import Derived.Test.YtajogfnlbdiokaaSrc
import Derived.Test.YtajogfnlbdiokaaTakeD

/-
  The contract of the model's l2own.
-/
namespace Go.Proofs.Ytajogfnlbdiokaa
open Go.RowKit
set_option linter.unusedVariables false
set_option linter.unusedSimpArgs false

theorem Chg.set1 {bs : List Nat} {w w' : World} (h : Chg bs w w') {b : Nat} (hb : b ∈ bs) (i : Nat) (v : Value) : Chg bs w (w'.setCell ⟨b, i, none⟩ v) :=
  h.trans (Chg.of_grown (grown_set w' b i v) (fun x hx => by cases hx; exact hb))

set_option maxRecDepth 100000 in
set_option maxHeartbeats 8000000 in
theorem sown_any (v : Value) (D : WD) (hs : Small D) (w : World) (hr : RdW w v D) :
    Calls Try.prog 65 #[v] w fun e w' => ∃ S, e = .returned (S.val D) ∧ OwnW w' w.heap.size S D ∧ Below w.heap.size w w' := by
  obtain ⟨vw, vd, vs, vm, vg, rfl, a1, a2, a3, a4, a5⟩ := hr
  obtain ⟨aw, cw, rfl, hlw, j1⟩ := id a1
  obtain ⟨ad, cd, rfl, hld, j2⟩ := id a2
  obtain ⟨aS, cS, rfl, hls, j3⟩ := id a3
  obtain ⟨am, cm, rfl, hlm, j4⟩ := id a4
  obtain ⟨ag, cg, rfl, hlg, j5⟩ := id a5
  unfold maxLen at hlw hld hls hlm hlg
  have hs1 := hs.words
  have hs2 := hs.dirty
  have hs3 := hs.spans
  have hs4 := hs.muts
  have hs5 := hs.grey
  have hs' := Lib.hid hs
  obtain ⟨hA, hR, hC, bb⟩ := box3 w (.cells #[.int .i64 D.base, .int .i64 D.pages, .slice aw D.words.length cw, .slice ad D.dirty.length cd, .slice aS D.spans.length cS, .slice am D.muts.length cm, .int .i64 D.phase, .int .i64 D.next, .slice ag D.grey.length cg] 32) (.cells #[.int .i64 0, .int .i64 0, .slice none 0 0, .slice none 0 0, .slice none 0 0, .slice none 0 0, .int .i64 0, .int .i64 0, .slice none 0 0] 32) (.cells #[.int .i64 D.base, .int .i64 D.pages, .slice aw D.words.length cw, .slice ad D.dirty.length cd, .slice aS D.spans.length cS, .slice am D.muts.length cm, .int .i64 D.phase, .int .i64 D.next, .slice ag D.grey.length cg] 32)
  have q1 := Lib.hid a1
  have q2 := Lib.hid a2
  have q3 := Lib.hid a3
  have q4 := Lib.hid a4
  have q5 := Lib.hid a5
  have hz0 : ((((w.alloc (.cells #[.int .i64 D.base, .int .i64 D.pages, .slice aw D.words.length cw, .slice ad D.dirty.length cd, .slice aS D.spans.length cS, .slice am D.muts.length cm, .int .i64 D.phase, .int .i64 D.next, .slice ag D.grey.length cg] 32)).alloc (.cells #[.int .i64 0, .int .i64 0, .slice none 0 0, .slice none 0 0, .slice none 0 0, .slice none 0 0, .int .i64 0, .int .i64 0, .slice none 0 0] 32)).alloc (.cells #[.int .i64 D.base, .int .i64 D.pages, .slice aw D.words.length cw, .slice ad D.dirty.length cd, .slice aS D.spans.length cS, .slice am D.muts.length cm, .int .i64 D.phase, .int .i64 D.next, .slice ag D.grey.length cg] 32)) : World).heap.size = w.heap.size + 1 + 1 + 1 := by simp
  have E1 := Lib.hid (own_empty' hz0 3 1)
  have hz0' := Lib.hid hz0
  have s1 := Lib.hid ((a1.below (below_trans bb (below_box _ (.cells #[] 3)))).src)
  have hle1 := Lib.hid (show w.heap.size + 1 + 1 + 1 ≤ (((((w.alloc (.cells #[.int .i64 D.base, .int .i64 D.pages, .slice aw D.words.length cw, .slice ad D.dirty.length cd, .slice aS D.spans.length cS, .slice am D.muts.length cm, .int .i64 D.phase, .int .i64 D.next, .slice ag D.grey.length cg] 32)).alloc (.cells #[.int .i64 0, .int .i64 0, .slice none 0 0, .slice none 0 0, .slice none 0 0, .slice none 0 0, .int .i64 0, .int .i64 0, .slice none 0 0] 32)).alloc (.cells #[.int .i64 D.base, .int .i64 D.pages, .slice aw D.words.length cw, .slice ad D.dirty.length cd, .slice aS D.spans.length cS, .slice am D.muts.length cm, .int .i64 D.phase, .int .i64 D.next, .slice ag D.grey.length cg] 32)) : World).alloc (.cells #[] 3)).heap.size by simp)
  have bb' := Lib.hid bb
  have hA' := Lib.hid hA
  have hR' := Lib.hid hR
  have hC' := Lib.hid hC
  clear a1 a2 a3 a4 a5 hs bb hA hR hC j1 j2 j3 j4 j5 hz0
  go_enter Try.func65, Try.ntmps65
  go_wp2_with (first
    | (refine wpList_app rfl (.tmp 8) (.tmp 10) 25 rfl (w.heap.size + 1 + 1 + 1) 3 (.int .i64 0) 1 8 Try.underlying25 infoInt rfl (by decide) _ 0 [] rfl E1.out aw D.words.length cw (D.words.map (Value.int .i64)) rfl s1.out (by unfold maxLen; omega) (by omega) hle1.out ?_; intro v1 w1 o1 g1; simp only [Nat.zero_add, List.nil_append] at o1; obtain ⟨a1, c1, rfl⟩ := own_slice o1; have o1' := Lib.hid o1; have g1' := Lib.hid g1; obtain ⟨b1, z1⟩ := step2n hz0'.out g1; have A1 := heap_below b1 hA'.out; have C1 := heap_below b1 hC'.out; have b1' := Lib.hid (bb'.out.trans (b1.mono (by first | omega | (simp only [World.size_alloc, World.size_setCell]; done) | (simp only [World.size_alloc, World.size_setCell]; omega)))); have A1' := Lib.hid A1; have C1' := Lib.hid C1; have z1' : w.heap.size + 1 + 1 + 1 < w1.heap.size := z1; have ne1 : ¬ (w.heap.size = w1.heap.size) := (by omega); have ne2 : ¬ (w.heap.size + 1 + 1 = w1.heap.size) := (by omega); have lt1 : w.heap.size < w1.heap.size := (by omega); have lt2 : w.heap.size + 1 + 1 < w1.heap.size := (by omega); have y2 := cell_of_heap C1 2 _ rfl; have y2f := frozen_of_heap C1 2; have y3 := cell_of_heap A1 3 _ rfl; have E2 := Lib.hid (own_empty' (w := w1.setCell ⟨w.heap.size + 1 + 1, 2, none⟩ (.slice a1 D.words.length c1)) (n := w1.heap.size) (by simp) 4 1); have s2 := Lib.hid ((q2.out.below ((b1'.out.setCell (p := ⟨w.heap.size + 1 + 1, 2, none⟩) (by first | omega | (simp only [World.size_alloc, World.size_setCell]; done) | (simp only [World.size_alloc, World.size_setCell]; omega)) (.slice a1 D.words.length c1)).trans ((below_box (w1.setCell ⟨w.heap.size + 1 + 1, 2, none⟩ (.slice a1 D.words.length c1)) (.cells #[] 4)).mono (by first | omega | (simp only [World.size_alloc, World.size_setCell]; done) | (simp only [World.size_alloc, World.size_setCell]; omega))))).src); have hle2 := Lib.hid (show w1.heap.size ≤ ((w1.setCell ⟨w.heap.size + 1 + 1, 2, none⟩ (.slice a1 D.words.length c1)).alloc (.cells #[] 4)).heap.size by simp); clear o1 g1 z1 A1 C1 b1)
    | (refine wpList_app rfl (.tmp 13) (.tmp 15) 26 rfl w1.heap.size 4 (.bool false) 1 1 Try.underlying26 infoBool rfl (by decide) _ 0 [] rfl E2.out ad D.dirty.length cd (D.dirty.map Value.bool) rfl s2.out (by unfold maxLen; omega) (by omega) hle2.out ?_; intro v2 w2 o2 g2; simp only [Nat.zero_add, List.nil_append] at o2; obtain ⟨a2, c2, rfl⟩ := own_slice o2; have st := Lib.hid (St1.start (v2 := .slice a2 D.dirty.length c2) hA'.out hR'.out hC'.out bb'.out g1'.out o1'.out g2 o2); obtain ⟨C2, k2, z2⟩ := step3 (show w.heap.size + 1 + 1 < w1.heap.size by omega) C1'.out g2; have x3 := cell_of_heap C2 3 _ rfl; have x3f := frozen_of_heap C2 3; have x4 := cell_of_heap C2 4 _ rfl; have x4f := frozen_of_heap C2 4; clear o2 g2 C2 k2 z2 y2 y2f y3 z1' ne1 ne2 lt1 lt2))
  go_loopw [4] (fun i wr => ∃ (k : Nat) (v3 : Value) (sv : List (Value × Value)), k ≤ D.spans.length ∧ i = .int .i64 k ∧ Hid (St1 w wr #[.int .i64 D.base, .int .i64 D.pages, .slice aw D.words.length cw, .slice ad D.dirty.length cd, .slice aS D.spans.length cS, .slice am D.muts.length cm, .int .i64 D.phase, .int .i64 D.next, .slice ag D.grey.length cg] D (.slice a1 D.words.length c1) (.slice a2 D.dirty.length c2) v3 (.slice am D.muts.length cm) (.slice ag D.grey.length cg) sv k)) (fun i _ => D.spans.length - (intOf i).toNat)
  case atStart => exact ⟨0, .slice none 0 0, [], Nat.zero_le _, rfl, st⟩
  case round =>
    obtain ⟨k, v3, sv, hk, rfl, st⟩ := hrel
    have y4 := cell_of_heap st.out.boxA 4 _ rfl
    have z4 := cell_of_heap st.out.boxC 4 _ rfl
    by_cases hlt : k < D.spans.length
    · obtain ⟨s, hks⟩ : ∃ s, D.spans[k]? = some s := ⟨_, List.getElem?_eq_getElem hlt⟩
      have hlt1 : (k : Int) < (D.spans.length : Int) := by omega
      obtain ⟨b1, o1, rfl, vl, vp, x0, x1, x2, x3, x4, x5, hl, hp⟩ := (q3.out.below st.out.below).at_ k s hks
      obtain ⟨al, cl, rfl, hll, jl⟩ := id hl
      obtain ⟨ap, cp, rfl, hlp, jp⟩ := id hp
      clear jl jp
      unfold maxLen at hll hlp
      have hin := hs'.out.inner s (List.mem_of_getElem? hks)
      have hl1 := hin.1
      have hl2 := hin.2
      clear hin
      have hks' := Lib.hid hks
      have hsz := Lib.hid st.out.size
      have szb : w.heap.size + 1 + 1 + 1 ≤ wr.heap.size := hsz.out
      have nb0 : ¬ (w.heap.size = wr.heap.size) := by omega
      have nb : ¬ (w.heap.size + 1 + 1 = wr.heap.size) := by omega
      have F1 := Lib.hid (own_empty' (w := wr.alloc (.cells #[.int .i64 s.page, .int .i64 s.cls, .int .i64 s.mark, .bool s.swept, .slice al s.lens.length cl, .slice ap s.ptrs.length cp] 79)) (n := wr.heap.size + 1) (by simp) 3 1)
      have r1 := Lib.hid ((hl.below (below_trans (below_box wr (.cells #[.int .i64 s.page, .int .i64 s.cls, .int .i64 s.mark, .bool s.swept, .slice al s.lens.length cl, .slice ap s.ptrs.length cp] 79)) (below_box _ (.cells #[] 3)))).src)
      have r2 := Lib.hid hp
      have tk : (D.spans.take k).length = k := by rw [List.length_take]; omega
      have tk' := Lib.hid tk
      have row3 := Lib.hid (show ∀ w', Below wr.heap.size wr w' → w'.ownsRow (w.heap.size + 1 + 1 + 1) 79 6 v3 k (flatV (D.spans.take k) sv) from fun w' hb => by have := own_below st.out.cop.spans.row hb; rwa [tk] at this)
      clear tk
      have hv3 := Lib.hid (show ∀ q, v3.ownBlock = some q → w.heap.size + 1 + 1 + 1 ≤ q from fun q hq => (st.out.cop.spans.row.lt q hq).1)
      have boxC := Lib.hid st.out.boxC
      obtain ⟨a0, c0, rfl⟩ := own_slice (row3.out _ (Below.refl _ _))
      clear hks hl hp
      go_wp2_with (first
        | (refine wpList_app rfl (.tmp 31) (.tmp 33) 25 rfl (wr.heap.size + 1) 3 (.int .i64 0) 1 8 Try.underlying25 infoInt rfl (by decide) _ 0 [] rfl F1.out al s.lens.length cl (s.lens.map (Value.int .i64)) rfl r1.out (by unfold maxLen; omega) (by omega) (by simp) ?_; intro u1 w1 p1 h1; simp only [Nat.zero_add, List.nil_append] at p1; obtain ⟨a3, c3, rfl⟩ := own_slice p1; have H1 := Lib.hid (And.intro h1 p1); obtain ⟨T1, d1, zz1⟩ := St1.at1 h1; have T1' := Lib.hid T1; have d1' := Lib.hid d1; have t4 := cell_of_heap T1 4 _ rfl; have t4f := frozen_of_heap T1 4; have t5 := cell_of_heap T1 5 _ rfl; have lw1 : wr.heap.size < w1.heap.size := (by omega); have nw1 : ¬ (wr.heap.size = w1.heap.size) := (by omega); have F2 := Lib.hid (own_empty' (w := w1.setCell ⟨wr.heap.size, 4, none⟩ (.slice a3 s.lens.length c3)) (n := w1.heap.size) (by simp) 3 1); have r2' := Lib.hid ((r2.out.below (St1.at3 d1 (i := 4) (u := .slice a3 s.lens.length c3) (X := #[]) (T := 3))).src); have le2 := Lib.hid (show w1.heap.size ≤ ((w1.setCell ⟨wr.heap.size, 4, none⟩ (.slice a3 s.lens.length c3)).alloc (.cells #[] 3)).heap.size by simp); clear p1 h1 T1 d1)
        | (refine wpList_app rfl (.tmp 36) (.tmp 38) 25 rfl w1.heap.size 3 (.int .i64 0) 1 8 Try.underlying25 infoInt rfl (by decide) _ 0 [] rfl F2.out ap s.ptrs.length cp (s.ptrs.map (Value.int .i64)) rfl r2'.out (by unfold maxLen; omega) (by omega) le2.out ?_; intro u2 w2 p2 h2; simp only [Nat.zero_add, List.nil_append] at p2; obtain ⟨a4, c4, rfl⟩ := own_slice p2; have H2 := Lib.hid (And.intro h2 p2); obtain ⟨T2, d2, zz2⟩ := St1.at2 T1'.out d1'.out zz1 h2; have d2' := Lib.hid d2; clear t4 t4f t5; have e0 := cell_of_heap T2 0 _ rfl; have e1 := cell_of_heap T2 1 _ rfl; have e2 := cell_of_heap T2 2 _ rfl; have e3 := cell_of_heap T2 3 _ rfl; have e4 := cell_of_heap T2 4 _ rfl; have t5 := cell_of_heap T2 5 _ rfl; have t5f := frozen_of_heap T2 5; have zC := cell_of_heap (heap_below d2 boxC.out) 4 _ rfl; have nw2 : ¬ (wr.heap.size = w2.heap.size) := (by omega); have nw3 : ¬ (w.heap.size + 1 + 1 = w2.heap.size) := (by omega); have rw3 := Lib.hid (row3.out _ (St1.at3 d2 (i := 5) (u := .slice a4 s.ptrs.length c4) (X := #[.int .i64 s.page, .int .i64 s.cls, .int .i64 s.mark, .bool s.swept, .slice a3 s.lens.length c3, .slice a4 s.ptrs.length c4]) (T := 79))); have r3 := Lib.hid (src_span w2 ⟨wr.heap.size, 5, none⟩ (.slice a4 s.ptrs.length c4) s a3 a4 s.lens.length s.ptrs.length c3 c4); have le3 := Lib.hid (show w.heap.size + 1 + 1 + 1 ≤ ((w2.setCell ⟨wr.heap.size, 5, none⟩ (.slice a4 s.ptrs.length c4)).alloc (.cells #[.int .i64 s.page, .int .i64 s.cls, .int .i64 s.mark, .bool s.swept, .slice a3 s.lens.length c3, .slice a4 s.ptrs.length c4] 79)).heap.size by simp; omega); clear p2 h2 T2 d2)
        | (refine wpList_app rfl (.tmp 42) (.tmp 44) 27 rfl (w.heap.size + 1 + 1 + 1) 79 (.agg #[.int .i64 0, .int .i64 0, .int .i64 0, .bool false, .slice none 0 0, .slice none 0 0]) 6 80 Try.underlying27 infoSpan (by rfl) (by decide) _ k _ rfl rw3.out (some ⟨w2.heap.size, 0, none⟩) 1 1 (spanCv s (.slice a3 s.lens.length c3, .slice a4 s.ptrs.length c4)) rfl r3.out (by unfold maxLen; omega) (by omega) le3.out ?_; intro u3 w3 p3 h3; obtain ⟨a5, c5, rfl⟩ := own_slice p3; have boxC3 := St1.at4 (St1.at3 d2'.out) h3 hv3.out (by omega) boxC.out; have fC := frozen_of_heap boxC3 4; have zC3 := cell_of_heap boxC3 4 _ rfl; have p3' := Lib.hid (show w3.ownsRow (w.heap.size + 1 + 1 + 1) 79 6 (.slice a5 (k + 1) c5) ((D.spans.take k).length + 1) (flatV (D.spans.take k) sv ++ spanCv s (.slice a3 s.lens.length c3, .slice a4 s.ptrs.length c4)) by rw [tk'.out]; exact p3); have nst := Lib.hid (st.out.next hks'.out (p := (.slice a3 s.lens.length c3, .slice a4 s.ptrs.length c4)) H1.out.1 H1.out.2 H2.out.1 H2.out.2 h3 p3'.out); clear p3 h3 boxC3 zC e0 e1 e2 e3 e4 t5 t5f))
      exact ⟨⟨k + 1, _, _, by omega, by go_num, nst⟩, by simp [intOf]; omega⟩
    · obtain rfl : k = D.spans.length := by omega
      have z5 := cell_of_heap st.out.boxC 5 _ rfl
      have z5f := frozen_of_heap st.out.boxC 5
      have st2 := Lib.hid (St2.start st.out)
      clear z4 hk
      go_wp2_with fail
      clear y4 z5 z5f st
      go_loopw [6] (fun i wr => ∃ (k : Nat) (v5 : Value) (mv : List Value), k ≤ D.muts.length ∧ i = .int .i64 k ∧ Hid (St2 w wr #[.int .i64 D.base, .int .i64 D.pages, .slice aw D.words.length cw, .slice ad D.dirty.length cd, .slice aS D.spans.length cS, .slice am D.muts.length cm, .int .i64 D.phase, .int .i64 D.next, .slice ag D.grey.length cg] D (.slice a1 D.words.length c1) (.slice a2 D.dirty.length c2) v3 v5 (.slice ag D.grey.length cg) sv mv k)) (fun i _ => D.muts.length - (intOf i).toNat)
      case atStart => exact ⟨0, .slice none 0 0, [], Nat.zero_le _, rfl, st2⟩
      case round =>
        obtain ⟨k, v5, mv, hk, rfl, st⟩ := hrel
        have y5 : wr.cell? ⟨w.heap.size, 5, none⟩ = some (.slice am D.muts.length cm) := cell_of_heap st.out.boxA 5 _ rfl
        have z5 : wr.cell? ⟨w.heap.size + 1 + 1, 5, none⟩ = some v5 := cell_of_heap st.out.boxC 5 _ rfl
        have z5f := frozen_of_heap st.out.boxC 5
        by_cases hlt : k < D.muts.length
        · obtain ⟨r, hkr⟩ : ∃ r, D.muts[k]? = some r := ⟨_, List.getElem?_eq_getElem hlt⟩
          have hlt1 : (k : Int) < (D.muts.length : Int) := by omega
          obtain ⟨a', c', he, hml, jm⟩ := q4.out.below st.out.below
          obtain ⟨rfl, rfl⟩ : am = a' ∧ cm = c' := by simpa using he
          obtain ⟨b1, o1, vr, rfl, x0, hl⟩ := jm k r hkr
          obtain ⟨al, cl, rfl, hll, jl⟩ := id hl
          clear jl jm he hml
          unfold maxLen at hll
          have hl1 := hs'.out.innerM r (List.mem_of_getElem? hkr)
          have hkr' := Lib.hid hkr
          have hsz := Lib.hid st.out.size
          have szb : w.heap.size + 1 + 1 + 1 ≤ wr.heap.size := hsz.out
          have nb : ¬ (w.heap.size + 1 + 1 = wr.heap.size) := by omega
          have y5a := cell_below (below_box wr (.cells #[] 3)) y5
          have z5a := cell_below (below_box wr (.cells #[] 3)) z5
          have x0a := cell_below (below_box wr (.cells #[] 3)) x0
          have hy0 := Lib.hid (show Below wr.heap.size wr (wr.alloc (.cells #[] 3)).drew from below_drewN (below_box wr (.cells #[] 3)) 1)
          have F1 := Lib.hid (show (wr.alloc (.cells #[] 3)).drew.ownsRow wr.heap.size 3 1 (.slice (some ⟨wr.heap.size, 0, none⟩) 0 0) 0 [] from own_below (own_empty wr 3 1) (below_drewN (Below.refl _ _) 1))
          have r1 := Lib.hid ((hl.below hy0.out).src)
          have tk : (D.muts.take k).length = k := by rw [List.length_take]; omega
          have tk' := Lib.hid tk
          have hv5 := Lib.hid (show ∀ q, v5.ownBlock = some q → w.heap.size + 1 + 1 + 1 ≤ q from fun q hq => (st.out.muts.row.lt q hq).1)
          have row5 := Lib.hid (show ∀ w', Below wr.heap.size wr w' → w'.ownsRow (w.heap.size + 1 + 1 + 1) 69 1 v5 k mv from fun w' hb => by have := own_below st.out.muts.row hb; rwa [tk] at this)
          have boxC := Lib.hid st.out.boxC
          clear tk
          obtain ⟨a0, c0, rfl⟩ := own_slice (row5.out _ (Below.refl _ _))
          clear hkr hl
          go_wp2_with fail
          go_region_law (first
            | (refine step_own rfl (wp_app (.tmp 57) (.tmp 63) 25 rfl wr.heap.size 3 (.int .i64 0) 1 8 Try.underlying25 infoInt rfl (by decide) (.slice (some ⟨wr.heap.size, 0, none⟩) 0 0) 0 [] rfl F1.out al r.length cl (r.map (Value.int .i64)) rfl r1.out (by unfold maxLen; omega) (by omega) hy0.out.size ?_); intro u1 x1 p1 h1; simp only [Nat.zero_add, List.nil_append] at p1; obtain ⟨a3, c3, rfl⟩ := own_slice p1; have H1 := Lib.hid (And.intro (show (wr.alloc (.cells #[] 3)).drew.grownBy x1 (some wr.heap.size) from h1) p1); have d1 := Lib.hid (show Below wr.heap.size wr x1 from hy0.out.grown H1.out.1 hy0.out.size (fun q hq => (by cases hq; exact Nat.le_refl _))); have d2 := Lib.hid (show Below wr.heap.size wr (x1.alloc (.cells #[.slice a3 r.length c3] 69)) from d1.out.trans ((below_box x1 _).mono d1.out.size)); have y5b := cell_below d1.out y5; have z5b := cell_below d1.out z5; have z5c := cell_below d2.out z5; have rw5 := Lib.hid (row5.out _ d2.out); have r3 := Lib.hid (src_box x1 (cs := #[.slice a3 r.length c3]) (T := 69) (m := 1) (size := 1) rfl (fun u hu => (by simp only [List.mem_singleton] at hu; subst hu; rfl))); have le3 := Lib.hid (show w.heap.size + 1 + 1 + 1 ≤ (x1.alloc (.cells #[.slice a3 r.length c3] 69)).heap.size from Nat.le_trans szb d2.out.size); clear p1 h1)
            | (refine step_own rfl (wp_app (.tmp 56) (.tmp 66) 28 rfl (w.heap.size + 1 + 1 + 1) 69 (.agg #[.slice none 0 0]) 1 24 Try.underlying28 infoMut (by rfl) (by decide) (.slice a0 k c0) k mv rfl rw5.out (some ⟨x1.heap.size, 0, none⟩) 1 1 [.slice a3 r.length c3] rfl r3.out (by unfold maxLen; omega) (by omega) le3.out ?_); intro u2 x2 p2 h2; obtain ⟨a5, c5, rfl⟩ := own_slice p2; have boxC2 := St1.at4 d2.out h2 hv5.out (by omega) boxC.out; have z5d := cell_of_heap boxC2 5 _ rfl; have f5d := frozen_of_heap boxC2 5; have nst := Lib.hid (St2.next st.out hkr'.out hy0.out H1.out.1 H1.out.2 (below_box x1 _) h2 (show x2.ownsRow (w.heap.size + 1 + 1 + 1) 69 1 (.slice a5 (k + 1) c5) ((D.muts.take k).length + 1) (mv ++ [.slice a3 r.length c3]) from (by rw [tk'.out]; exact p2)) (Chg.of_grown (grown_set x2 (w.heap.size + 1 + 1) 5 (.slice a5 (k + 1) c5)) (by simp)) (heap_setCell_same x2 (w.heap.size + 1 + 1) 5 _ _ (.slice a5 (k + 1) c5) boxC2)); clear p2 h2 boxC2))
          all_goals go_wp2_with fail
          all_goals exact ⟨⟨k + 1, _, _, by omega, by go_num, nst⟩, by simp [intOf]; omega⟩
        · obtain rfl : k = D.muts.length := by omega
          have y8 : wr.cell? ⟨w.heap.size, 8, none⟩ = some (.slice ag D.grey.length cg) := cell_of_heap st.out.boxA 8 _ rfl
          have hl := q5.out.below st.out.below
          have hy0 := Lib.hid (below_box wr (.cells #[] 3))
          have y8a := cell_below hy0.out y8
          have F1 := Lib.hid (own_empty wr 3 1)
          have r1 := Lib.hid ((hl.below hy0.out).src)
          have boxC := Lib.hid st.out.boxC
          have boxR := Lib.hid st.out.boxR
          have hsz := Lib.hid st.out.size
          have szb : w.heap.size + 1 + 1 + 1 ≤ wr.heap.size := hsz.out
          obtain ⟨a4, c4, rfl⟩ := own_slice st.out.spans.row
          have hm5 := st.out.muts.row
          rw [show (D.muts.take D.muts.length).length = D.muts.length by simp] at hm5
          obtain ⟨a5, c5, rfl⟩ := own_slice hm5
          clear hk hl hm5
          go_wp2_with (first
            | (at_builtin; refine wpList_app rfl (.tmp 69) (.tmp 72) 25 rfl wr.heap.size 3 (.int .i64 0) 1 8 Try.underlying25 infoInt rfl (by decide) _ 0 [] rfl F1.out ag D.grey.length cg (D.grey.map (Value.int .i64)) rfl r1.out (by unfold maxLen; omega) (by omega) hy0.out.size ?_; intro u1 x1 p1 h1; simp only [Nat.zero_add, List.nil_append] at p1; obtain ⟨a3, c3, rfl⟩ := own_slice p1; have d1 : Below wr.heap.size wr x1 := hy0.out.grown h1 hy0.out.size (fun q hq => (by cases hq; exact Nat.le_refl _)); have C1 := heap_below d1 boxC.out; have R1 := heap_below d1 boxR.out; have H1 := Lib.hid (And.intro h1 p1); have f8 := frozen_of_heap C1 8; have m0 := cell_of_heap C1 0 _ rfl; have m1 := cell_of_heap C1 1 _ rfl; have m2 := cell_of_heap C1 2 _ rfl; have m3 := cell_of_heap C1 3 _ rfl; have m4 := cell_of_heap C1 4 _ rfl; have m5 := cell_of_heap C1 5 _ rfl; have m6 := cell_of_heap C1 6 _ rfl; have m7 := cell_of_heap C1 7 _ rfl; have m8 := cell_of_heap C1 8 _ rfl; have n0 := cell_of_heap R1 0 _ rfl; have n1 := cell_of_heap R1 1 _ rfl; have n2 := cell_of_heap R1 2 _ rfl; have n3 := cell_of_heap R1 3 _ rfl; have n4 := cell_of_heap R1 4 _ rfl; have n5 := cell_of_heap R1 5 _ rfl; have n6 := cell_of_heap R1 6 _ rfl; have n7 := cell_of_heap R1 7 _ rfl; have n8 := cell_of_heap R1 8 _ rfl; have z0 := frozen_of_heap R1 0; have z1 := frozen_of_heap R1 1; have z2 := frozen_of_heap R1 2; have z3 := frozen_of_heap R1 3; have z4 := frozen_of_heap R1 4; have z5 := frozen_of_heap R1 5; have z6 := frozen_of_heap R1 6; have z7 := frozen_of_heap R1 7; have z8 := frozen_of_heap R1 8; clear p1 h1 d1 C1 R1))
          refine bodyPost_ret (v := .agg #[.int .i64 D.base, .int .i64 D.pages, .slice a1 D.words.length c1, .slice a2 D.dirty.length c2, .slice a4 D.spans.length c4, .slice a5 D.muts.length c5, .int .i64 D.phase, .int .i64 D.next, .slice a3 D.grey.length c3]) (by simp [results, Try.results65, go_sem, n0, n1, n2, n3, n4, n5, n6, n7, n8]) rfl ?_
          exact ⟨⟨.slice a1 D.words.length c1, .slice a2 D.dirty.length c2, .slice a4 D.spans.length c4, .slice a5 D.muts.length c5, .slice a3 D.grey.length c3, sv, mv⟩, rfl, St2.own (bs := [w.heap.size + 1, w.heap.size + 1 + 1]) st.out hy0.out H1.out.1 H1.out.2 (((((((((((Chg.of_grown (World.grownBy.refl x1 none) (by simp)).set1 (b := w.heap.size + 1 + 1) (by simp) 8 _).set1 (b := w.heap.size + 1) (by simp) 0 _).set1 (b := w.heap.size + 1) (by simp) 1 _).set1 (b := w.heap.size + 1) (by simp) 2 _).set1 (b := w.heap.size + 1) (by simp) 3 _).set1 (b := w.heap.size + 1) (by simp) 4 _).set1 (b := w.heap.size + 1) (by simp) 5 _).set1 (b := w.heap.size + 1) (by simp) 6 _).set1 (b := w.heap.size + 1) (by simp) 7 _).set1 (b := w.heap.size + 1) (by simp) 8 _) (fun q hq => by simp only [List.mem_cons, List.not_mem_nil, or_false] at hq; omega)⟩
end Go.Proofs.Ytajogfnlbdiokaa

/-
  The contracts of the model's Take and Give.
-/
namespace Go.Proofs.Ytajogfnlbdiokaa
open Go.RowKit
set_option linter.unusedVariables false

theorem Shape.lits {w : World} {base : Nat} {S : Shape} {D : WD} (h : OwnW w base S D) : ∃ aw ad aS am ag cw cd cS cm cg sv mv, S = ⟨.slice aw D.words.length cw, .slice ad D.dirty.length cd, .slice aS D.spans.length cS, .slice am D.muts.length cm, .slice ag D.grey.length cg, sv, mv⟩ := by
  obtain ⟨vw, vd, vs, vm, vg, sv, mv⟩ := S
  obtain ⟨a1, c1, h1⟩ := own_slice h.words
  obtain ⟨a2, c2, h2⟩ := own_slice h.dirty
  obtain ⟨a3, c3, h3⟩ := own_slice h.spans
  obtain ⟨a4, c4, h4⟩ := own_slice h.muts
  obtain ⟨a5, c5, h5⟩ := own_slice h.grey
  simp only at h1 h2 h3 h4 h5
  subst h1 h2 h3 h4 h5
  exact ⟨_, _, _, _, _, _, _, _, _, _, _, _, rfl⟩
/-- A World of its own comes into a variable of its own. -/
theorem VarW.mk_box {w : World} {base : Nat} {S : Shape} {D : WD} (h : OwnW w base S D) (hb : base ≤ w.heap.size) : VarW (w.alloc (.cells (S.cells D) 32)) base w.heap.size S D :=
  ⟨box_new w _, h.below (below_box w _), hb, fun hm => by have := (h.lt _ hm).2; omega⟩
/-- The variable's World is handed back through block R. -/
theorem VarW.handed {w wr wF : World} {base B R : Nat} {S : Shape} {D : WD} (h : VarW wr base B S D) (hb : Below w.heap.size w wr) (h1 : w.heap.size ≤ R) (h2 : R < base) (hc : Chg [R] wr wF) : OwnW wF w.heap.size S D ∧ Below w.heap.size w wF :=
  ⟨(h.own.chg0 hc (fun q hq => by rw [List.mem_singleton.1 hq]; omega)).base_le (by omega), Chg.below hb hc hb.size (fun q hq => by rw [List.mem_singleton.1 hq]; omega)⟩

set_option maxRecDepth 100000 in
set_option maxHeartbeats 16000000 in
theorem stake_any (v : Value) (D : WD) (n p : Int) (hs : Small D) (w : World) (hr : RdW w v D) :
    Calls Try.prog 20 #[v, .int .i64 n, .int .i64 p] w fun e w' => ∃ S D' a f, TakeIs D n p D' a f ∧ e = .returned (.tuple #[S.val D', .int .i64 a, .bool f]) ∧ OwnW w' w.heap.size S D' ∧ Below w.heap.size w w' := by
  have hs' := Lib.hid hs
  clear hs
  obtain ⟨vw, vd, vs, vm, vg, rfl, a1, a2, a3, a4, a5⟩ := hr
  have bb := below_trans (below_box w (.cells #[.int .i64 D.base, .int .i64 D.pages, vw, vd, vs, vm, .int .i64 D.phase, .int .i64 D.next, vg] 32)) (below_box _ (.cells #[.int .i64 0, .int .i64 0, .slice none 0 0, .slice none 0 0, .slice none 0 0, .slice none 0 0, .int .i64 0, .int .i64 0, .slice none 0 0] 32))
  have hA := heap_below (below_box (w.alloc (.cells #[.int .i64 D.base, .int .i64 D.pages, vw, vd, vs, vm, .int .i64 D.phase, .int .i64 D.next, vg] 32)) (.cells #[.int .i64 0, .int .i64 0, .slice none 0 0, .slice none 0 0, .slice none 0 0, .slice none 0 0, .int .i64 0, .int .i64 0, .slice none 0 0] 32)) (box_new w (.cells #[.int .i64 D.base, .int .i64 D.pages, vw, vd, vs, vm, .int .i64 D.phase, .int .i64 D.next, vg] 32))
  have hR := box_new (w.alloc (.cells #[.int .i64 D.base, .int .i64 D.pages, vw, vd, vs, vm, .int .i64 D.phase, .int .i64 D.next, vg] 32)) (.cells #[.int .i64 0, .int .i64 0, .slice none 0 0, .slice none 0 0, .slice none 0 0, .slice none 0 0, .int .i64 0, .int .i64 0, .slice none 0 0] 32)
  rw [World.size_alloc] at hR
  have hW := Lib.hid (show RdW ((w.alloc (.cells #[.int .i64 D.base, .int .i64 D.pages, vw, vd, vs, vm, .int .i64 D.phase, .int .i64 D.next, vg] 32)).alloc (.cells #[.int .i64 0, .int .i64 0, .slice none 0 0, .slice none 0 0, .slice none 0 0, .slice none 0 0, .int .i64 0, .int .i64 0, .slice none 0 0] 32)) (.agg #[.int .i64 D.base, .int .i64 D.pages, vw, vd, vs, vm, .int .i64 D.phase, .int .i64 D.next, vg]) D from ⟨vw, vd, vs, vm, vg, rfl, a1.below bb, a2.below bb, a3.below bb, a4.below bb, a5.below bb⟩)
  have bb' := Lib.hid bb
  have hA' := Lib.hid hA
  have hR' := Lib.hid hR
  have hz := Lib.hid (show ((w.alloc (.cells #[.int .i64 D.base, .int .i64 D.pages, vw, vd, vs, vm, .int .i64 D.phase, .int .i64 D.next, vg] 32)).alloc (.cells #[.int .i64 0, .int .i64 0, .slice none 0 0, .slice none 0 0, .slice none 0 0, .slice none 0 0, .int .i64 0, .int .i64 0, .slice none 0 0] 32)).heap.size = w.heap.size + 1 + 1 by simp)
  clear a1 a2 a3 a4 a5 bb hA hR
  go_enter Try.func20, Try.ntmps20
  go_wp2_with fail
  generalize (w.alloc (.cells #[.int .i64 D.base, .int .i64 D.pages, vw, vd, vs, vm, .int .i64 D.phase, .int .i64 D.next, vg] 32)).alloc (.cells #[.int .i64 0, .int .i64 0, .slice none 0 0, .slice none 0 0, .slice none 0 0, .slice none 0 0, .int .i64 0, .int .i64 0, .slice none 0 0] 32) = W at *
  refine (formOk_any _ D _ hW.out).mono ?_
  rintro e w1 ⟨hq, b1⟩
  have hq := hq.elim
  have hR1 := heap_below b1 hR'.out
  have hA1 := heap_below b1 hA'.out
  have bb1 := Lib.hid (below_trans bb'.out b1)
  have hW1 := Lib.hid (hW.out.below b1)
  have hz1 := Lib.hid (show w.heap.size + 1 + 1 ≤ w1.heap.size by have := hz.out; have := b1.size; omega)
  have hcn := Lib.hid (fun w => spec_classOf_any n w)
  by_cases hok : TakeOk D n p
  case neg =>
    have y := Lib.hid (show TakeIs D n p zeroD 0 false from .inr ⟨fun h => absurd h hok, rfl, rfl, rfl⟩)
    have hok' := Lib.hid hok
    have n0 := cell_of_heap hR1 0 _ rfl
    have n1 := cell_of_heap hR1 1 _ rfl
    have n2 := cell_of_heap hR1 2 _ rfl
    have n3 := cell_of_heap hR1 3 _ rfl
    have n4 := cell_of_heap hR1 4 _ rfl
    have n5 := cell_of_heap hR1 5 _ rfl
    have n6 := cell_of_heap hR1 6 _ rfl
    have n7 := cell_of_heap hR1 7 _ rfl
    have n8 := cell_of_heap hR1 8 _ rfl
    have z0 := frozen_of_heap hR1 0
    have z1 := frozen_of_heap hR1 1
    have z2 := frozen_of_heap hR1 2
    have z3 := frozen_of_heap hR1 3
    have z4 := frozen_of_heap hR1 4
    have z5 := frozen_of_heap hR1 5
    have z6 := frozen_of_heap hR1 6
    have z7 := frozen_of_heap hR1 7
    have z8 := frozen_of_heap hR1 8
    clear hok b1 hR1 hA1
    rcases hq with ⟨hF, rfl⟩ | ⟨hF, rfl⟩
    case inr =>
      clear hF
      go_wp2_with (go_at_call 64; refine (hcn.out _).mono ?_; rintro e w' ⟨rfl, rfl⟩)
      refine bodyPost_ret (v := .tuple #[zeroS.val zeroD, .int .i64 0, .bool false]) (by simp [results, Try.results20, go_sem, n0, n1, n2, n3, n4, n5, n6, n7, n8, Shape.val, zeroS, zeroD]) rfl ?_
      exact ⟨zeroS, zeroD, 0, false, y.out, rfl, own_zero _ _, Chg.below (bs := [w.heap.size + 1]) bb1.out ((((((((((Chg.refl _ _).put (b := w.heap.size + 1) (by simp) 0 _).put (b := w.heap.size + 1) (by simp) 1 _).put (b := w.heap.size + 1) (by simp) 2 _).put (b := w.heap.size + 1) (by simp) 3 _).put (b := w.heap.size + 1) (by simp) 4 _).put (b := w.heap.size + 1) (by simp) 5 _).put (b := w.heap.size + 1) (by simp) 6 _).put (b := w.heap.size + 1) (by simp) 7 _).put (b := w.heap.size + 1) (by simp) 8 _) bb1.out.size (fun q hq => by rw [List.mem_singleton.1 hq]; omega)⟩
    have hF' := Lib.hid hF
    clear hF
    by_cases e1 : 1 ≤ n ∧ n ≤ 16
    case neg =>
      have hcl := cl_no (n := n) (by omega)
      rw [hcl] at hcn
      clear e1 hcl
      go_wp2_with (go_at_call 64; refine (hcn.out _).mono ?_; rintro e w' ⟨rfl, rfl⟩)
      refine bodyPost_ret (v := .tuple #[zeroS.val zeroD, .int .i64 0, .bool false]) (by simp [results, Try.results20, go_sem, n0, n1, n2, n3, n4, n5, n6, n7, n8, Shape.val, zeroS, zeroD]) rfl ?_
      exact ⟨zeroS, zeroD, 0, false, y.out, rfl, own_zero _ _, Chg.below (bs := [w.heap.size + 1]) bb1.out ((((((((((Chg.refl _ _).put (b := w.heap.size + 1) (by simp) 0 _).put (b := w.heap.size + 1) (by simp) 1 _).put (b := w.heap.size + 1) (by simp) 2 _).put (b := w.heap.size + 1) (by simp) 3 _).put (b := w.heap.size + 1) (by simp) 4 _).put (b := w.heap.size + 1) (by simp) 5 _).put (b := w.heap.size + 1) (by simp) 6 _).put (b := w.heap.size + 1) (by simp) 7 _).put (b := w.heap.size + 1) (by simp) 8 _) bb1.out.size (fun q hq => by rw [List.mem_singleton.1 hq]; omega)⟩
    have hcl := cl_ok e1.1 e1.2
    obtain ⟨hcl1, -, -, -⟩ := hcl
    by_cases e3 : p < 0
    case pos =>
      go_wp2_with (go_at_call 64; refine (hcn.out _).mono ?_; rintro e w' ⟨rfl, rfl⟩)
      refine bodyPost_ret (v := .tuple #[zeroS.val zeroD, .int .i64 0, .bool false]) (by simp [results, Try.results20, go_sem, n0, n1, n2, n3, n4, n5, n6, n7, n8, Shape.val, zeroS, zeroD]) rfl ?_
      exact ⟨zeroS, zeroD, 0, false, y.out, rfl, own_zero _ _, Chg.below (bs := [w.heap.size + 1]) bb1.out ((((((((((Chg.refl _ _).put (b := w.heap.size + 1) (by simp) 0 _).put (b := w.heap.size + 1) (by simp) 1 _).put (b := w.heap.size + 1) (by simp) 2 _).put (b := w.heap.size + 1) (by simp) 3 _).put (b := w.heap.size + 1) (by simp) 4 _).put (b := w.heap.size + 1) (by simp) 5 _).put (b := w.heap.size + 1) (by simp) 6 _).put (b := w.heap.size + 1) (by simp) 7 _).put (b := w.heap.size + 1) (by simp) 8 _) bb1.out.size (fun q hq => by rw [List.mem_singleton.1 hq]; omega)⟩
    have e4 : n < p := by
      rcases Int.lt_or_le n p with h2 | h2
      · exact h2
      · exact absurd ⟨hF'.out, e1.1, e1.2, by omega, h2⟩ hok'.out
    go_wp2_with (go_at_call 64; refine (hcn.out _).mono ?_; rintro e w' ⟨rfl, rfl⟩)
    refine bodyPost_ret (v := .tuple #[zeroS.val zeroD, .int .i64 0, .bool false]) (by simp [results, Try.results20, go_sem, n0, n1, n2, n3, n4, n5, n6, n7, n8, Shape.val, zeroS, zeroD]) rfl ?_
    exact ⟨zeroS, zeroD, 0, false, y.out, rfl, own_zero _ _, Chg.below (bs := [w.heap.size + 1]) bb1.out ((((((((((Chg.refl _ _).put (b := w.heap.size + 1) (by simp) 0 _).put (b := w.heap.size + 1) (by simp) 1 _).put (b := w.heap.size + 1) (by simp) 2 _).put (b := w.heap.size + 1) (by simp) 3 _).put (b := w.heap.size + 1) (by simp) 4 _).put (b := w.heap.size + 1) (by simp) 5 _).put (b := w.heap.size + 1) (by simp) 6 _).put (b := w.heap.size + 1) (by simp) 7 _).put (b := w.heap.size + 1) (by simp) 8 _) bb1.out.size (fun q hq => by rw [List.mem_singleton.1 hq]; omega)⟩
  have hF := hok.1
  have e1 := hok.2.1
  have e2 := hok.2.2.1
  have e3 := hok.2.2.2.1
  have e4 := hok.2.2.2.2
  have hok' := Lib.hid hok
  have hF' := Lib.hid hF
  have hcl := (cl_ok e1 e2).1
  obtain rfl : e = .returned (.bool true) := by
    rcases hq with ⟨_, h⟩ | ⟨h, _⟩
    · exact h
    · exact absurd hF h
  have hown := Lib.hid (sown_any _ D hs'.out w1 hW1.out)
  have f0 := cell_of_heap hA1 0 _ rfl
  have f1 := cell_of_heap hA1 1 _ rfl
  have f2 := cell_of_heap hA1 2 _ rfl
  have f3 := cell_of_heap hA1 3 _ rfl
  have f4 := cell_of_heap hA1 4 _ rfl
  have f5 := cell_of_heap hA1 5 _ rfl
  have f6 := cell_of_heap hA1 6 _ rfl
  have f7 := cell_of_heap hA1 7 _ rfl
  have f8 := cell_of_heap hA1 8 _ rfl
  have hR1' := Lib.hid hR1
  clear hok hq b1 hR1 hA1 hF
  go_wp2_with (go_at_call 64; refine (hcn.out _).mono ?_; rintro e w' ⟨rfl, rfl⟩)
  refine hown.out.mono ?_
  rintro e w2 ⟨S, rfl, ho, b2⟩
  obtain ⟨aw, ad, aS, am, ag, cw, cd, cS, cm, cg, sv, mv, rfl⟩ := Shape.lits ho
  have hv := Lib.hid (VarW.mk_box ho b2.size)
  have bb2 := Lib.hid (below_trans bb1.out b2)
  have hR2 := Lib.hid (heap_below (below_trans b2 (below_box w2 (.cells (Shape.cells ⟨.slice aw D.words.length cw, .slice ad D.dirty.length cd, .slice aS D.spans.length cS, .slice am D.muts.length cm, .slice ag D.grey.length cg, sv, mv⟩ D) 32))) hR1'.out)
  clear ho b2 hown f0 f1 f2 f3 f4 f5 f6 f7 f8
  have hbs := Lib.hid (show w1.heap.size ≤ w2.heap.size from hv.out.le)
  dsimp only [Shape.val]
  dsimp only [Shape.cells] at hv hR2
  go_wp2_with fail
  refine (stake_at _ _ _ D n p hF'.out e1 e2 e3 e4 _ hv.out).mono ?_
  rintro e w3 ⟨hq, b3⟩
  have bb3 := Lib.hid (show Below w.heap.size w w3 from (below_trans bb2.out (below_box w2 _)).trans (b3.mono (by have := hz1.out; omega)))
  have hR3 := (b3.block (w.heap.size + 1) (by have := hz1.out; omega)).trans hR2.out
  clear b3 hv
  rcases hq with ⟨D1, k, j, s, S', hpl, hks, rfl, hv⟩ | ⟨hno, rfl, hv⟩
  case inr =>
    have y := Lib.hid (show TakeIs D n p zeroD 0 false from .inr ⟨fun _ => hno, rfl, rfl, rfl⟩)
    have n0 := cell_of_heap hR3 0 _ rfl
    have n1 := cell_of_heap hR3 1 _ rfl
    have n2 := cell_of_heap hR3 2 _ rfl
    have n3 := cell_of_heap hR3 3 _ rfl
    have n4 := cell_of_heap hR3 4 _ rfl
    have n5 := cell_of_heap hR3 5 _ rfl
    have n6 := cell_of_heap hR3 6 _ rfl
    have n7 := cell_of_heap hR3 7 _ rfl
    have n8 := cell_of_heap hR3 8 _ rfl
    have z0 := frozen_of_heap hR3 0
    have z1 := frozen_of_heap hR3 1
    have z2 := frozen_of_heap hR3 2
    have z3 := frozen_of_heap hR3 3
    have z4 := frozen_of_heap hR3 4
    have z5 := frozen_of_heap hR3 5
    have z6 := frozen_of_heap hR3 6
    have z7 := frozen_of_heap hR3 7
    have z8 := frozen_of_heap hR3 8
    clear hno hv
    go_wp2_with fail
    refine bodyPost_ret (v := .tuple #[zeroS.val zeroD, .int .i64 0, .bool false]) (by simp [results, Try.results20, go_sem, n0, n1, n2, n3, n4, n5, n6, n7, n8, Shape.val, zeroS, zeroD]) rfl ?_
    exact ⟨zeroS, zeroD, 0, false, y.out, rfl, own_zero _ _, Chg.below (bs := [w.heap.size + 1]) bb3.out ((((((((((Chg.refl _ _).put (b := w.heap.size + 1) (by simp) 0 _).put (b := w.heap.size + 1) (by simp) 1 _).put (b := w.heap.size + 1) (by simp) 2 _).put (b := w.heap.size + 1) (by simp) 3 _).put (b := w.heap.size + 1) (by simp) 4 _).put (b := w.heap.size + 1) (by simp) 5 _).put (b := w.heap.size + 1) (by simp) 6 _).put (b := w.heap.size + 1) (by simp) 7 _).put (b := w.heap.size + 1) (by simp) 8 _) bb3.out.size (fun q hq => by rw [List.mem_singleton.1 hq]; omega)⟩
  have hD1 : D1.base = D.base ∧ 0 ≤ s.page := by
    rcases hpl with ⟨rfl, s', hs, _⟩ | ⟨_, _, _, rfl, _⟩
    · rw [hs] at hks
      cases hks
      exact ⟨rfl, (hF'.out.span k s hs).pg0⟩
    · rename_i h1 h2 h3 h4
      have := ins_at h2.1 (freshS D (cl n) k)
      have e : (insD D (cl n) k).spans[k]? = some (freshS D (cl n) k) := this
      rw [e] at hks
      cases hks
      exact ⟨rfl, by simp only [freshS]; omega⟩
  have hane : ((D1.base + atW s (j : Int)) == 0) = false := beq_eq_false_iff_ne.2 (by
    have h1 := hF'.out.geo.1
    have h2 := sz_bd s.cls
    have h3 : 0 ≤ (j : Int) * sz s.cls := Int.mul_nonneg (by omega) h2.1
    have h4 := hD1.1
    have h5 := hD1.2
    unfold atW
    omega)
  have y := Lib.hid (show TakeIs D n p (takeD D1 k s j n p) (D1.base + atW s (j : Int)) true from .inl ⟨hok'.out, D1, k, j, s, hpl, hks, rfl, rfl, rfl⟩)
  generalize D1.base + atW s (j : Int) = a at *
  generalize takeD D1 k s j n p = E at *
  obtain ⟨aw', ad', aS', am', ag', cw', cd', cS', cm', cg', sv', mv', rfl⟩ := Shape.lits hv.own
  have bE := hv.box
  dsimp only [Shape.cells] at bE
  have n0 := cell_of_heap hR3 0 _ rfl
  have n1 := cell_of_heap hR3 1 _ rfl
  have n2 := cell_of_heap hR3 2 _ rfl
  have n3 := cell_of_heap hR3 3 _ rfl
  have n4 := cell_of_heap hR3 4 _ rfl
  have n5 := cell_of_heap hR3 5 _ rfl
  have n6 := cell_of_heap hR3 6 _ rfl
  have n7 := cell_of_heap hR3 7 _ rfl
  have n8 := cell_of_heap hR3 8 _ rfl
  have z0 := frozen_of_heap hR3 0
  have z1 := frozen_of_heap hR3 1
  have z2 := frozen_of_heap hR3 2
  have z3 := frozen_of_heap hR3 3
  have z4 := frozen_of_heap hR3 4
  have z5 := frozen_of_heap hR3 5
  have z6 := frozen_of_heap hR3 6
  have z7 := frozen_of_heap hR3 7
  have z8 := frozen_of_heap hR3 8
  have m0 := cell_of_heap bE 0 _ rfl
  have m1 := cell_of_heap bE 1 _ rfl
  have m2 := cell_of_heap bE 2 _ rfl
  have m3 := cell_of_heap bE 3 _ rfl
  have m4 := cell_of_heap bE 4 _ rfl
  have m5 := cell_of_heap bE 5 _ rfl
  have m6 := cell_of_heap bE 6 _ rfl
  have m7 := cell_of_heap bE 7 _ rfl
  have m8 := cell_of_heap bE 8 _ rfl
  have hv' := Lib.hid hv
  have hRne : ¬ (w2.heap.size = w.heap.size + 1) := by have := hz1.out; have := hbs.out; omega
  have hRne' : ¬ (w.heap.size + 1 = w2.heap.size) := by omega
  clear hpl hks hD1 hv bE hR3
  go_wp2_with fail
  refine bodyPost_ret (v := .tuple #[.agg #[.int .i64 E.base, .int .i64 E.pages, .slice aw' E.words.length cw', .slice ad' E.dirty.length cd', .slice aS' E.spans.length cS', .slice am' E.muts.length cm', .int .i64 E.phase, .int .i64 E.next, .slice ag' E.grey.length cg'], .int .i64 a, .bool true]) (by simp [results, Try.results20, go_sem, n0, n1, n2, n3, n4, n5, n6, n7, n8]) rfl ?_
  exact ⟨_, E, a, true, y.out, rfl, hv'.out.handed bb3.out (R := w.heap.size + 1) (by omega) (by have := hz1.out; omega) ((((((((((Chg.refl _ _).put (b := w.heap.size + 1) (by simp) 0 _).put (b := w.heap.size + 1) (by simp) 1 _).put (b := w.heap.size + 1) (by simp) 2 _).put (b := w.heap.size + 1) (by simp) 3 _).put (b := w.heap.size + 1) (by simp) 4 _).put (b := w.heap.size + 1) (by simp) 5 _).put (b := w.heap.size + 1) (by simp) 6 _).put (b := w.heap.size + 1) (by simp) 7 _).put (b := w.heap.size + 1) (by simp) 8 _)⟩

end Go.Proofs.Ytajogfnlbdiokaa

/-
  The laws that read a World and answer numbers or a flag: their walks, the program's own contract being a premise.
-/
namespace Go.Proofs.Ytajogfnlbdiokaa
open Go.RowKit
set_option linter.unusedVariables false

theorem IsB.unique {P : Prop} {e e' : Ending} (h : IsB P e) (h' : IsB P e') : e = e' := by
  obtain ⟨r, rfl, h⟩ := h
  obtain ⟨r', rfl, h'⟩ := h'
  have := h.trans h'.symm
  cases r <;> cases r' <;> simp_all
/-- A World's nine values, written out. -/
def worldV (D : WD) (aw ad aS am ag : Option Addr) (cw cd cS cm cg : Nat) : Value :=
  .agg #[.int .i64 D.base, .int .i64 D.pages, .slice aw D.words.length cw, .slice ad D.dirty.length cd, .slice aS D.spans.length cS, .slice am D.muts.length cm, .int .i64 D.phase, .int .i64 D.next, .slice ag D.grey.length cg]
theorem RdW.written {w : World} {v : Value} {D : WD} (h : RdW w v D) : ∃ aw ad aS am ag cw cd cS cm cg, v = worldV D aw ad aS am ag cw cd cS cm cg := by
  obtain ⟨vw, vd, vs, vm, vg, rfl, ⟨aw, cw, rfl, _⟩, ⟨ad, cd, rfl, _⟩, ⟨aS, cS, rfl, _⟩, ⟨am, cm, rfl, _⟩, ⟨ag, cg, rfl, _⟩⟩ := h
  exact ⟨aw, ad, aS, am, ag, cw, cd, cS, cm, cg, rfl⟩
theorem toWorld_rd (v : Value) (D : WD) (hs : Small D) (w : World) (hr : RdW w v D) :
    Calls Try.prog 21 #[v] w fun e w' => ∃ aw ad aS am ag cw cd cS cm cg, e = .returned (worldV D aw ad aS am ag cw cd cS cm cg) ∧ RdW w' (worldV D aw ad aS am ag cw cd cS cm cg) D ∧ Below w.heap.size w w' :=
  (toWorld_any v D hs w hr).mono fun e w' ⟨S, he, ho, hb⟩ => by
    obtain ⟨aw, ad, aS, am, ag, cw, cd, cS, cm, cg, hv⟩ := ho.rd.written
    refine ⟨aw, ad, aS, am, ag, cw, cd, cS, cm, cg, by rw [he, hv], ?_, hb⟩
    rw [← hv]
    exact ho.rd

end Go.Proofs.Ytajogfnlbdiokaa

/-
  The contracts of the model's and the program's Seen.
-/
namespace Go.Proofs.Ytajogfnlbdiokaa
open Go.RowKit
set_option linter.unusedVariables false

/-- The roots of user m have been looked at. -/
def SeenP (D : WD) (m : Int) : Prop := (D.phase = 1 ∧ m < D.next) ∨ D.phase = 2 ∨ D.phase = 3
def SeenIs (D : WD) (m : Int) : Prop := HeapForm D ∧ 0 ≤ m ∧ m < (D.muts.length : Int) ∧ SeenP D m
theorem BoxW.cell {w : World} {B : Nat} {cs : Array Value} (h : BoxW w B (.agg cs)) (j : Nat) (u : Value) (hu : cs[j]? = some u) : w.cell? ⟨B, j, none⟩ = some u := by
  obtain ⟨cs', he, hh⟩ := h
  obtain rfl := (Value.agg.inj he).symm
  exact cell_of_heap hh j u hu

set_option maxHeartbeats 1000000 in
theorem l3seen_any (B : Nat) (v : Value) (D : WD) (m : Int) (w : World) (hr : RdW w v D) (hB : BoxW w B v) :
    Calls Try.prog 107 #[.pointer (some ⟨B, 0, none⟩), .int .i64 m] w fun e w' => IsB (SeenP D m) e ∧ w = w' := by
  obtain ⟨vw, vd, vs, vm, vg, rfl, _⟩ := hr
  have g6 := hB.cell 6 _ rfl
  have g7 := hB.cell 7 _ rfl
  have hP := Lib.hid (show SeenP D m ↔ ((D.phase = 1 ∧ m < D.next) ∨ D.phase = 2 ∨ D.phase = 3) from Iff.rfl)
  clear hB
  generalize SeenP D m = P at *
  generalize D.phase = ph at *
  generalize D.next = nx at *
  by_cases c2 : ph = 2
  · subst c2
    have y := Lib.hid (IsB.yes (hP.out.2 (.inr (.inl rfl))))
    clear hP
    go_enter Try.func107, Try.ntmps107
    go_wp2_with fail
    go_ret
    exact ⟨y.out, rfl⟩
  by_cases c3 : ph = 3
  · subst c3
    have y := Lib.hid (IsB.yes (hP.out.2 (.inr (.inr rfl))))
    clear hP
    go_enter Try.func107, Try.ntmps107
    go_wp2_with fail
    go_ret
    exact ⟨y.out, rfl⟩
  by_cases c1 : ph = 1
  · subst c1
    by_cases c4 : m < nx
    · have y := Lib.hid (IsB.yes (hP.out.2 (.inl ⟨rfl, c4⟩)))
      clear hP
      go_enter Try.func107, Try.ntmps107
      go_wp2_with fail
      go_ret
      exact ⟨y.out, rfl⟩
    · have y := Lib.hid (IsB.no (fun h => c4 ((hP.out.1 h).elim (fun h => h.2) fun h => h.elim (fun h => absurd h (by decide)) fun h => absurd h (by decide))))
      clear hP
      go_enter Try.func107, Try.ntmps107
      go_wp2_with fail
      go_ret
      exact ⟨y.out, rfl⟩
  · have y := Lib.hid (IsB.no (fun h => (hP.out.1 h).elim (fun h => c1 h.1) fun h => h.elim c2 c3))
    have d1 : (ph == 1) = false := beq_eq_false_iff_ne.2 c1
    have d2 : (ph == 2) = false := beq_eq_false_iff_ne.2 c2
    have d3 : (ph == 3) = false := beq_eq_false_iff_ne.2 c3
    clear hP c1 c2 c3
    go_enter Try.func107, Try.ntmps107
    go_wp2_with fail
    go_ret
    exact ⟨y.out, rfl⟩

set_option maxHeartbeats 1000000 in
theorem hasSeen_any (B : Nat) (v : Value) (D : WD) (m : Int) (w : World) (hr : RdW w v D) (hB : BoxW w B v) :
    Calls Try.prog 108 #[.pointer (some ⟨B, 0, none⟩), .int .i64 m] w fun e w' => IsB (SeenP D m) e ∧ w = w' := by
  obtain ⟨vw, vd, vs, vm, vg, rfl, _⟩ := hr
  have g6 := hB.cell 6 _ rfl
  have g7 := hB.cell 7 _ rfl
  have hP := Lib.hid (show SeenP D m ↔ ((D.phase = 1 ∧ m < D.next) ∨ D.phase = 2 ∨ D.phase = 3) from Iff.rfl)
  clear hB
  generalize SeenP D m = P at *
  generalize D.phase = ph at *
  generalize D.next = nx at *
  by_cases c2 : ph = 2
  · subst c2
    have y := Lib.hid (IsB.yes (hP.out.2 (.inr (.inl rfl))))
    clear hP
    go_enter Try.func108, Try.ntmps108
    go_wp2_with fail
    go_ret
    exact ⟨y.out, rfl⟩
  by_cases c3 : ph = 3
  · subst c3
    have y := Lib.hid (IsB.yes (hP.out.2 (.inr (.inr rfl))))
    clear hP
    go_enter Try.func108, Try.ntmps108
    go_wp2_with fail
    go_ret
    exact ⟨y.out, rfl⟩
  by_cases c1 : ph = 1
  · subst c1
    by_cases c4 : m < nx
    · have y := Lib.hid (IsB.yes (hP.out.2 (.inl ⟨rfl, c4⟩)))
      clear hP
      go_enter Try.func108, Try.ntmps108
      go_wp2_with fail
      go_ret
      exact ⟨by simpa [c4] using y.out, rfl⟩
    · have y := Lib.hid (IsB.no (fun h => c4 ((hP.out.1 h).elim (fun h => h.2) fun h => h.elim (fun h => absurd h (by decide)) fun h => absurd h (by decide))))
      clear hP
      go_enter Try.func108, Try.ntmps108
      go_wp2_with fail
      go_ret
      exact ⟨by simpa [c4] using y.out, rfl⟩
  · have y := Lib.hid (IsB.no (fun h => (hP.out.1 h).elim (fun h => c1 h.1) fun h => h.elim c2 c3))
    have d1 : (ph == 1) = false := beq_eq_false_iff_ne.2 c1
    have d2 : (ph == 2) = false := beq_eq_false_iff_ne.2 c2
    have d3 : (ph == 3) = false := beq_eq_false_iff_ne.2 c3
    clear hP c1 c2 c3
    go_enter Try.func108, Try.ntmps108
    go_wp2_with fail
    go_ret
    exact ⟨y.out, rfl⟩

set_option maxRecDepth 100000 in
set_option maxHeartbeats 4000000 in
theorem seen_any (v : Value) (D : WD) (m : Int) (w : World) (hr : RdW w v D) :
    Calls Try.prog 38 #[v, .int .i64 m] w fun e w' => IsB (SeenIs D m) e ∧ Below w.heap.size w w' := by
  obtain ⟨vw, vd, vs, vm, vg, rfl, a1, a2, a3, a4, a5⟩ := hr
  have bx := box_new w (.cells #[.int .i64 D.base, .int .i64 D.pages, vw, vd, vs, vm, .int .i64 D.phase, .int .i64 D.next, vg] 32)
  have bw := below_box w (.cells #[.int .i64 D.base, .int .i64 D.pages, vw, vd, vs, vm, .int .i64 D.phase, .int .i64 D.next, vg] 32)
  have hW := Lib.hid (show RdW (w.alloc (.cells #[.int .i64 D.base, .int .i64 D.pages, vw, vd, vs, vm, .int .i64 D.phase, .int .i64 D.next, vg] 32)) (.agg #[.int .i64 D.base, .int .i64 D.pages, vw, vd, vs, vm, .int .i64 D.phase, .int .i64 D.next, vg]) D from ⟨vw, vd, vs, vm, vg, rfl, a1.below bw, a2.below bw, a3.below bw, a4.below bw, a5.below bw⟩)
  have hBx := Lib.hid (show BoxW (w.alloc (.cells #[.int .i64 D.base, .int .i64 D.pages, vw, vd, vs, vm, .int .i64 D.phase, .int .i64 D.next, vg] 32)) w.heap.size (.agg #[.int .i64 D.base, .int .i64 D.pages, vw, vd, vs, vm, .int .i64 D.phase, .int .i64 D.next, vg]) from ⟨_, rfl, bx⟩)
  have bw' := Lib.hid bw
  clear a1 a2 a3 a4 a5 bx bw
  go_enter Try.func38, Try.ntmps38
  go_wp2_with fail
  refine (formOk_any _ D _ hW.out).mono ?_
  rintro e w1 ⟨hq, b1⟩
  have hq := hq.elim
  obtain ⟨x1, rfl⟩ := Ext.of b1
  clear b1
  generalize w.alloc (.cells #[.int .i64 D.base, .int .i64 D.pages, vw, vd, vs, vm, .int .i64 D.phase, .int .i64 D.next, vg] 32) = W at *
  rcases hq with ⟨hF, rfl⟩ | ⟨hF, rfl⟩
  case inr =>
    have n := Lib.hid (show ¬ SeenIs D m from fun h => hF h.1)
    clear hF
    go_wp2_with fail
    go_ret
    exact ⟨IsB.no n.out, below_trans bw'.out x1.below⟩
  have hF' := Lib.hid hF
  have hml := hF.geo.2.2.2.2.2.2
  obtain ⟨aM, cM, rfl, hlm, _⟩ := hW.out.parts.2.2.2.1
  clear hlm
  have g5 := Ext.cell (hBx.out.cell 5 _ rfl)
  clear hF
  by_cases c1 : m < 0
  · have n := Lib.hid (show ¬ SeenIs D m from fun h => by have := h.2.1; omega)
    go_wp2_with fail
    go_ret
    exact ⟨IsB.no n.out, below_trans bw'.out x1.below⟩
  by_cases c2 : (D.muts.length : Int) ≤ m
  · have n := Lib.hid (show ¬ SeenIs D m from fun h => by have := h.2.2.1; omega)
    go_wp2_with fail
    go_ret
    exact ⟨IsB.no n.out, below_trans bw'.out x1.below⟩
  have hcall := Lib.hid (l3seen_any w.heap.size _ D m x1.val (hW.out.below x1.below) (hBx.out.below x1.below))
  have hiff := Lib.hid (show SeenIs D m ↔ SeenP D m from ⟨fun h => h.2.2.2, fun h => ⟨hF'.out, by omega, by omega, h⟩⟩)
  have c1' : 0 ≤ m := by omega
  have c2' : m < (D.muts.length : Int) := by omega
  clear c1 c2
  go_wp2_with fail
  refine hcall.out.mono ?_
  rintro e w2 ⟨⟨r, rfl, hr2⟩, rfl⟩
  have hr3 := Lib.hid (show r = true ↔ SeenIs D m from hr2.trans hiff.out.symm)
  clear hr2
  cases r
  all_goals go_wp2_with fail
  all_goals go_ret
  all_goals exact ⟨⟨_, rfl, by simpa using hr3.out⟩, below_trans bw'.out x1.below⟩

set_option maxRecDepth 100000 in
set_option maxHeartbeats 4000000 in
theorem seenI_any (v : Value) (D : WD) (hm : MarksIn D) (m : Int) (w : World) (hr : RdW w v D) :
    Calls Try.prog 39 #[v, .int .i64 m] w fun e w' => IsB (SeenIs D m) e ∧ Below w.heap.size w w' := by
  have hm' := Lib.hid hm
  clear hm
  obtain ⟨vw, vd, vs, vm, vg, rfl, a1, a2, a3, a4, a5⟩ := hr
  have bx := box_new w (.cells #[.int .i64 D.base, .int .i64 D.pages, vw, vd, vs, vm, .int .i64 D.phase, .int .i64 D.next, vg] 32)
  have bw := below_box w (.cells #[.int .i64 D.base, .int .i64 D.pages, vw, vd, vs, vm, .int .i64 D.phase, .int .i64 D.next, vg] 32)
  have hW := Lib.hid (show RdW (w.alloc (.cells #[.int .i64 D.base, .int .i64 D.pages, vw, vd, vs, vm, .int .i64 D.phase, .int .i64 D.next, vg] 32)) (.agg #[.int .i64 D.base, .int .i64 D.pages, vw, vd, vs, vm, .int .i64 D.phase, .int .i64 D.next, vg]) D from ⟨vw, vd, vs, vm, vg, rfl, a1.below bw, a2.below bw, a3.below bw, a4.below bw, a5.below bw⟩)
  have hBx := Lib.hid (show BoxW (w.alloc (.cells #[.int .i64 D.base, .int .i64 D.pages, vw, vd, vs, vm, .int .i64 D.phase, .int .i64 D.next, vg] 32)) w.heap.size (.agg #[.int .i64 D.base, .int .i64 D.pages, vw, vd, vs, vm, .int .i64 D.phase, .int .i64 D.next, vg]) from ⟨_, rfl, bx⟩)
  have bw' := Lib.hid bw
  clear a1 a2 a3 a4 a5 bx bw
  go_enter Try.func39, Try.ntmps39
  go_wp2_with fail
  refine (formOkI_any _ D hm'.out _ hW.out).mono ?_
  rintro e w1 ⟨hq, b1⟩
  have hq := hq.elim
  obtain ⟨x1, rfl⟩ := Ext.of b1
  clear b1
  generalize w.alloc (.cells #[.int .i64 D.base, .int .i64 D.pages, vw, vd, vs, vm, .int .i64 D.phase, .int .i64 D.next, vg] 32) = W at *
  rcases hq with ⟨hF, rfl⟩ | ⟨hF, rfl⟩
  case inr =>
    have n := Lib.hid (show ¬ SeenIs D m from fun h => hF h.1)
    clear hF
    go_wp2_with fail
    go_ret
    exact ⟨IsB.no n.out, below_trans bw'.out x1.below⟩
  have hF' := Lib.hid hF
  have hml := hF.geo.2.2.2.2.2.2
  obtain ⟨aM, cM, rfl, hlm, _⟩ := hW.out.parts.2.2.2.1
  clear hlm
  have g5 := Ext.cell (hBx.out.cell 5 _ rfl)
  clear hF
  by_cases c1 : 0 ≤ m ∧ m ≤ (D.muts.length : Int) - 1
  case neg =>
    have n := Lib.hid (show ¬ SeenIs D m from fun h => by have := h.2.1; have := h.2.2.1; omega)
    have hb := Lib.hid (inB_no (n := m) (l := 0) (h := (D.muts.length : Int) - 1) (by omega))
    clear c1
    go_wp2_with (go_at_call 46; refine (isIn_eq hb.out _).mono ?_; rintro e w' ⟨rfl, rfl⟩)
    go_ret
    exact ⟨IsB.no n.out, below_trans bw'.out x1.below⟩
  have hb := Lib.hid (inB_yes c1.1 c1.2)
  have hcall := Lib.hid (hasSeen_any w.heap.size _ D m x1.val (hW.out.below x1.below) (hBx.out.below x1.below))
  have hiff := Lib.hid (show SeenIs D m ↔ SeenP D m from ⟨fun h => h.2.2.2, fun h => ⟨hF'.out, by omega, by omega, h⟩⟩)
  clear c1
  go_wp2_with (go_at_call 46; refine (isIn_eq hb.out _).mono ?_; rintro e w' ⟨rfl, rfl⟩)
  refine hcall.out.mono ?_
  rintro e w2 ⟨⟨r, rfl, hr2⟩, rfl⟩
  have hr3 := Lib.hid (show r = true ↔ SeenIs D m from hr2.trans hiff.out.symm)
  clear hr2
  cases r
  all_goals go_wp2_with fail
  all_goals go_ret
  all_goals exact ⟨⟨_, rfl, by simpa using hr3.out⟩, below_trans bw'.out x1.below⟩
end Go.Proofs.Ytajogfnlbdiokaa

/-
  The program's copyOf: what holds in its two loops.
-/
namespace Go.Proofs.Ytajogfnlbdiokaa
open Go.RowKit
set_option linter.unusedVariables false

def zero9 : Array Value := #[.int .i64 0, .int .i64 0, .slice none 0 0, .slice none 0 0, .slice none 0 0, .slice none 0 0, .int .i64 0, .int .i64 0, .slice none 0 0]
theorem flatV_setsv (L : List SpanD) (sv : List (Value × Value)) (i : Nat) (p : Value × Value) (u1 u2 : Value) (h1 : i < L.length) (h2 : sv[i]? = some p) :
    ((flatV L sv).set (i * 6 + 4) u1).set (i * 6 + 5) u2 = flatV L (sv.set i (u1, u2)) := by
  induction i generalizing L sv with
  | zero =>
    cases L with
    | nil => simp at h1
    | cons a L =>
      cases sv with
      | nil => simp at h2
      | cons q sv =>
        simp only [flatV, List.zip_cons_cons, List.flatMap_cons, List.set_cons_zero]
        simp [spanCv]
  | succ i ih =>
    cases L with
    | nil => simp at h1
    | cons a L =>
      cases sv with
      | nil => simp at h2
      | cons q sv =>
        simp at h1 h2
        have := ih L sv (by omega) h2
        simp only [flatV, List.zip_cons_cons, List.flatMap_cons, List.set_cons_succ] at this ⊢
        rw [← this, List.set_append_right _ _ (by simp [spanCv]; omega), List.set_append_right _ _ (by simp [spanCv]; omega)]
        rw [show (i + 1) * 6 + 4 - (spanCv a q).length = i * 6 + 4 by simp [spanCv]; omega, show (i + 1) * 6 + 5 - (spanCv a q).length = i * 6 + 5 by simp [spanCv]; omega]

/-- The first loop's state. -/
structure Cp1 (w wr : World) (D : WD) (v1 v2 v3 v5 v8 : Value) (sv : List (Value × Value)) (mv : List Value) (k : Nat) : Prop where
  below : Below w.heap.size w wr
  boxR : wr.heap[w.heap.size]? = some (.cells zero9 32 (0, 0))
  boxB : wr.heap[w.heap.size + 1]? = some (.cells #[.int .i64 D.base, .int .i64 D.pages, v1, v2, v3, v5, .int .i64 D.phase, .int .i64 D.next, v8] 32 (0, 0))
  size : w.heap.size + 1 + 1 ≤ wr.heap.size
  words : wr.ownsRow (w.heap.size + 1 + 1) 3 1 v1 D.words.length (D.words.map (Value.int .i64))
  dirty : wr.ownsRow (w.heap.size + 1 + 1) 4 1 v2 D.dirty.length (D.dirty.map Value.bool)
  row : wr.ownsRow (w.heap.size + 1 + 1) 79 6 v3 D.spans.length (flatV D.spans sv)
  svl : sv.length = D.spans.length
  innerN : ∀ (i : Nat) (s : SpanD) (p : Value × Value), i < k → D.spans[i]? = some s → sv[i]? = some p → wr.ownsRow (w.heap.size + 1 + 1) 3 1 p.1 s.lens.length (s.lens.map (Value.int .i64)) ∧ wr.ownsRow (w.heap.size + 1 + 1) 3 1 p.2 s.ptrs.length (s.ptrs.map (Value.int .i64))
  innerO : ∀ (i : Nat) (s : SpanD) (p : Value × Value), k ≤ i → D.spans[i]? = some s → sv[i]? = some p → Rd w p.1 s.lens ∧ Rd w p.2 s.ptrs
  mrow : wr.ownsRow (w.heap.size + 1 + 1) 69 1 v5 D.muts.length mv
  mvl : mv.length = D.muts.length
  mutsO : ∀ (i : Nat) (r : List Int) (u : Value), D.muts[i]? = some r → mv[i]? = some u → Rd w u r
  grey : wr.ownsRow (w.heap.size + 1 + 1) 3 1 v8 D.grey.length (D.grey.map (Value.int .i64))
  nodup : ((v1 :: svInts (sv.take k) ++ [v8]).filterMap Value.ownBlock).Nodup
theorem svInts_set (sv : List (Value × Value)) (k : Nat) (h : k < sv.length) (p : Value × Value) : svInts ((sv.set k p).take (k + 1)) = svInts (sv.take k) ++ [p.1, p.2] := by
  rw [List.take_succ_eq_append_getElem (by simpa using h), svInts_app]
  have e1 : (sv.set k p).take k = sv.take k := by rw [List.take_set_of_le (Nat.le_refl _)]
  rw [e1]
  simp [svInts]
/-- A new value at the end of some whose blocks are older. -/
theorem nodup_end {X : List Value} {a b c : Value} {n : Nat} (h : ((X ++ [c]).filterMap Value.ownBlock).Nodup) (ho : ∀ q, q ∈ blks (X ++ [c]) → q < n) (ha : ∀ q, a.ownBlock = some q → n ≤ q) (hb : ∀ q, b.ownBlock = some q → n ≤ q) (hab : ∀ q, a.ownBlock = some q → b.ownBlock ≠ some q) :
    ((X ++ [a, b] ++ [c]).filterMap Value.ownBlock).Nodup := by
  have hp : (X ++ [a, b] ++ [c]).Perm (a :: b :: (X ++ [c])) := by
    rw [List.append_assoc]
    exact List.perm_middle.trans (List.perm_middle.cons a)
  rw [(hp.filterMap _).nodup_iff]
  have hb' : ((b :: (X ++ [c])).filterMap Value.ownBlock).Nodup := by
    cases hv : b.ownBlock with
    | none => rw [List.filterMap_cons_none hv]; exact h
    | some q => rw [List.filterMap_cons_some hv, List.nodup_cons]; exact ⟨fun hm => by have := ho q hm; have := hb q hv; omega, h⟩
  cases hv : a.ownBlock with
  | none => rw [List.filterMap_cons_none hv]; exact hb'
  | some q =>
    rw [List.filterMap_cons_some hv, List.nodup_cons]
    refine ⟨fun hm => ?_, hb'⟩
    obtain ⟨x, hx, hxq⟩ := List.mem_filterMap.1 hm
    rcases List.mem_cons.1 hx with rfl | hx
    · exact hab q hv hxq
    · have := ho q (List.mem_filterMap.2 ⟨x, hx, hxq⟩)
      have := ha q hv
      omega
theorem Cp1.next {w wr y wF : World} {D : WD} {v1 v2 v5 v8 u1 u2 : Value} {g3 c3 : Nat} {sv : List (Value × Value)} {mv : List Value} {k : Nat} (h : Cp1 w wr D v1 v2 (.slice (some ⟨g3, 0, none⟩) D.spans.length c3) v5 v8 sv mv k) {s : SpanD} (hs : D.spans[k]? = some s)
    (hy : Below wr.heap.size wr y) (o1 : y.ownsRow wr.heap.size 3 1 u1 s.lens.length (s.lens.map (Value.int .i64))) (o2 : y.ownsRow wr.heap.size 3 1 u2 s.ptrs.length (s.ptrs.map (Value.int .i64))) (hne : ∀ q, u1.ownBlock = some q → u2.ownBlock ≠ some q)
    (hF : wF = (y.setCell ⟨g3, k * 6 + 4, none⟩ u1).setCell ⟨g3, k * 6 + 5, none⟩ u2) :
    Cp1 w wF D v1 v2 (.slice (some ⟨g3, 0, none⟩) D.spans.length c3) v5 v8 (sv.set k (u1, u2)) mv (k + 1) := by
  subst hF
  have hk := (List.getElem?_eq_some_iff.1 hs).1
  have hsz := h.size
  have hyz := hy.size
  obtain ⟨p, hp⟩ : ∃ p, sv[k]? = some p := ⟨_, List.getElem?_eq_getElem (by have := h.svl; omega)⟩
  have hrow := own_below h.row hy
  have st1 := hrow.stored (k * 6 + 4) u1
  have st2 := st1.1.stored (k * 6 + 5) u2
  rw [flatV_setsv D.spans sv k p u1 u2 hk hp] at st2
  have cF : Chg [g3] y ((y.setCell ⟨g3, k * 6 + 4, none⟩ u1).setCell ⟨g3, k * 6 + 5, none⟩ u2) := (Chg.of_grown (grown_set y g3 _ u1) (by simp)).trans (Chg.of_grown (grown_set _ g3 _ u2) (by simp))
  have hg3 := hrow.lt g3 rfl
  have keep : ∀ {x : Value} {n b : Nat} {xs : List Value} {t : TypeId} {sz : Nat}, y.ownsRow b t sz x n xs → t ≠ 79 → ((y.setCell ⟨g3, k * 6 + 4, none⟩ u1).setCell ⟨g3, k * 6 + 5, none⟩ u2).ownsRow b t sz x n xs := fun hx ht =>
    own_chg hx cF fun q hq hm => own_types hx hrow ht q hq (by rw [List.mem_singleton.1 hm]; rfl)
  have blk : ∀ {b : Nat} {o : Obj}, b < w.heap.size + 1 + 1 → wr.heap[b]? = some o → ((y.setCell ⟨g3, k * 6 + 4, none⟩ u1).setCell ⟨g3, k * 6 + 5, none⟩ u2).heap[b]? = some o := fun hb ho =>
    (cF.block _ (by omega) (by simp only [List.mem_singleton]; omega)).trans (heap_below hy ho)
  refine ⟨Chg.below (h.below.trans (hy.mono h.below.size)) cF (by have := h.below.size; omega) (fun x hx => by rw [List.mem_singleton.1 hx]; omega), blk (by omega) h.boxR, blk (by omega) h.boxB, by have := cF.size; omega,
    keep (own_below h.words hy) (by decide), keep (own_below h.dirty hy) (by decide), st2.1, by rw [List.length_set]; exact h.svl, fun i t q hi ht hq => ?_, fun i t q hi ht hq => ?_, keep (own_below h.mrow hy) (by decide), h.mvl, h.mutsO, keep (own_below h.grey hy) (by decide), ?_⟩
  · by_cases e : i = k
    · subst e
      rw [hs] at ht
      cases ht
      rw [List.getElem?_set_self (by have := h.svl; omega)] at hq
      cases hq
      exact ⟨own_base (keep o1 (by decide)) hsz, own_base (keep o2 (by decide)) hsz⟩
    · rw [List.getElem?_set_ne (fun h => e h.symm)] at hq
      have hi := h.innerN i t q (by omega) ht hq
      exact ⟨keep (own_below hi.1 hy) (by decide), keep (own_below hi.2 hy) (by decide)⟩
  · rw [List.getElem?_set_ne (by omega)] at hq
    exact h.innerO i t q (by omega) ht hq
  · rw [svInts_set sv k (by have := h.svl; omega)]
    have e : v1 :: (svInts (sv.take k) ++ [u1, u2]) ++ [v8] = (v1 :: svInts (sv.take k)) ++ [u1, u2] ++ [v8] := by simp
    rw [e]
    refine nodup_end (n := wr.heap.size) h.nodup (fun q hq => ?_) (fun q hq => (o1.lt q hq).1) (fun q hq => (o2.lt q hq).1) hne
    obtain ⟨x, hx, hxq⟩ := List.mem_filterMap.1 hq
    simp only [List.mem_append, List.mem_cons, List.not_mem_nil, or_false] at hx
    rcases hx with (rfl | hx) | rfl
    · exact (h.words.lt q hxq).2
    · obtain ⟨p2, hp2, hx⟩ := List.mem_flatMap.1 hx
      obtain ⟨i, hi⟩ := List.mem_iff_getElem?.1 hp2
      have hil := (List.getElem?_eq_some_iff.1 hi).1
      rw [List.length_take] at hil
      rw [List.getElem?_take_of_lt (by omega)] at hi
      obtain ⟨t, ht⟩ : ∃ t, D.spans[i]? = some t := ⟨_, List.getElem?_eq_getElem (by omega)⟩
      have hin := h.innerN i t p2 (by omega) ht hi
      simp only [List.mem_cons, List.not_mem_nil, or_false] at hx
      rcases hx with rfl | rfl
      · exact (hin.1.lt q hxq).2
      · exact (hin.2.lt q hxq).2
    · exact (h.grey.lt q hxq).2

/-- The second loop's state. -/
structure Cp2 (w wr : World) (D : WD) (v1 v2 v3 v5 v8 : Value) (sv : List (Value × Value)) (mv : List Value) (k : Nat) : Prop where
  below : Below w.heap.size w wr
  boxR : wr.heap[w.heap.size]? = some (.cells zero9 32 (0, 0))
  boxB : wr.heap[w.heap.size + 1]? = some (.cells #[.int .i64 D.base, .int .i64 D.pages, v1, v2, v3, v5, .int .i64 D.phase, .int .i64 D.next, v8] 32 (0, 0))
  size : w.heap.size + 1 + 1 ≤ wr.heap.size
  words : wr.ownsRow (w.heap.size + 1 + 1) 3 1 v1 D.words.length (D.words.map (Value.int .i64))
  dirty : wr.ownsRow (w.heap.size + 1 + 1) 4 1 v2 D.dirty.length (D.dirty.map Value.bool)
  spans : OwnS wr (w.heap.size + 1 + 1) v3 D.spans sv
  mrow : wr.ownsRow (w.heap.size + 1 + 1) 69 1 v5 D.muts.length mv
  mvl : mv.length = D.muts.length
  mutsN : ∀ (i : Nat) (r : List Int) (u : Value), i < k → D.muts[i]? = some r → mv[i]? = some u → wr.ownsRow (w.heap.size + 1 + 1) 3 1 u r.length (r.map (Value.int .i64))
  mutsO : ∀ (i : Nat) (r : List Int) (u : Value), k ≤ i → D.muts[i]? = some r → mv[i]? = some u → Rd w u r
  grey : wr.ownsRow (w.heap.size + 1 + 1) 3 1 v8 D.grey.length (D.grey.map (Value.int .i64))
  nodup : ((v1 :: svInts sv ++ mv.take k ++ [v8]).filterMap Value.ownBlock).Nodup
theorem Cp2.start {w wr : World} {D : WD} {v1 v2 v3 v5 v8 : Value} {sv : List (Value × Value)} {mv : List Value} (h : Cp1 w wr D v1 v2 v3 v5 v8 sv mv D.spans.length) : Cp2 w wr D v1 v2 v3 v5 v8 sv mv 0 :=
  ⟨h.below, h.boxR, h.boxB, h.size, h.words, h.dirty, ⟨h.row, h.svl, fun i s p hs hp => h.innerN i s p (List.getElem?_eq_some_iff.1 hs).1 hs hp⟩, h.mrow, h.mvl, fun i r u hi => absurd hi (by omega), fun i r u _ => h.mutsO i r u, h.grey, by
    have := h.nodup
    rw [show sv.take D.spans.length = sv by rw [← h.svl]; exact List.take_length] at this
    simpa using this⟩
theorem Cp2.next {w wr y wF : World} {D : WD} {v1 v2 v3 v8 u : Value} {g5 c5 : Nat} {sv : List (Value × Value)} {mv : List Value} {k : Nat} (h : Cp2 w wr D v1 v2 v3 (.slice (some ⟨g5, 0, none⟩) D.muts.length c5) v8 sv mv k) {r : List Int} (hr : D.muts[k]? = some r)
    (hy : Below wr.heap.size wr y) (o1 : y.ownsRow wr.heap.size 3 1 u r.length (r.map (Value.int .i64))) (hF : wF = y.setCell ⟨g5, k, none⟩ u) :
    Cp2 w wF D v1 v2 v3 (.slice (some ⟨g5, 0, none⟩) D.muts.length c5) v8 sv (mv.set k u) (k + 1) := by
  subst hF
  have hk := (List.getElem?_eq_some_iff.1 hr).1
  have hsz := h.size
  have hyz := hy.size
  have hmv := h.mvl
  have hrow := own_below h.mrow hy
  have st1 := hrow.stored k u
  have cF : Chg [g5] y (y.setCell ⟨g5, k, none⟩ u) := Chg.of_grown (grown_set y g5 _ u) (by simp)
  have hg5 := hrow.lt g5 rfl
  have keep : ∀ {x : Value} {n b : Nat} {xs : List Value} {t : TypeId} {sz : Nat}, y.ownsRow b t sz x n xs → t ≠ 69 → (y.setCell ⟨g5, k, none⟩ u).ownsRow b t sz x n xs := fun hx ht =>
    own_chg hx cF fun q hq hm => own_types hx hrow ht q hq (by rw [List.mem_singleton.1 hm]; rfl)
  have blk : ∀ {b : Nat} {o : Obj}, b < w.heap.size + 1 + 1 → wr.heap[b]? = some o → (y.setCell ⟨g5, k, none⟩ u).heap[b]? = some o := fun hb ho =>
    (cF.block _ (by omega) (by simp only [List.mem_singleton]; omega)).trans (heap_below hy ho)
  have hS := h.spans.below hy
  have hSF : OwnS (y.setCell ⟨g5, k, none⟩ u) (w.heap.size + 1 + 1) v3 D.spans sv := ⟨keep hS.row (by decide), hS.len, fun i s p hs hp => ⟨keep (hS.inner i s p hs hp).1 (by decide), keep (hS.inner i s p hs hp).2 (by decide)⟩⟩
  refine ⟨Chg.below (h.below.trans (hy.mono h.below.size)) cF (by have := h.below.size; omega) (fun x hx => by rw [List.mem_singleton.1 hx]; omega), blk (by omega) h.boxR, blk (by omega) h.boxB, by have := cF.size; omega,
    keep (own_below h.words hy) (by decide), keep (own_below h.dirty hy) (by decide), hSF, st1.1, by rw [List.length_set]; exact h.mvl, fun i t q hi ht hq => ?_, fun i t q hi ht hq => ?_, keep (own_below h.grey hy) (by decide), ?_⟩
  · by_cases e : i = k
    · subst e
      rw [hr] at ht
      cases ht
      rw [List.getElem?_set_self (by omega)] at hq
      cases hq
      exact own_base (keep o1 (by decide)) hsz
    · rw [List.getElem?_set_ne (fun h => e h.symm)] at hq
      exact keep (own_below (h.mutsN i t q (by omega) ht hq) hy) (by decide)
  · rw [List.getElem?_set_ne (by omega)] at hq
    exact h.mutsO i t q (by omega) ht hq
  · have e1 : (mv.set k u).take (k + 1) = mv.take k ++ [u] := by
      rw [List.take_succ_eq_append_getElem (by simp; omega), List.take_set_of_le (Nat.le_refl _)]
      simp
    have e : v1 :: svInts sv ++ (mv.take k ++ [u]) ++ [v8] = (v1 :: svInts sv ++ mv.take k) ++ [u, .slice none 0 0] ++ [v8] → True := fun _ => trivial
    clear e
    have hp : (v1 :: svInts sv ++ (mv.take k ++ [u]) ++ [v8]).Perm (u :: (v1 :: svInts sv ++ mv.take k ++ [v8])) := by
      have e2 : v1 :: svInts sv ++ (mv.take k ++ [u]) ++ [v8] = (v1 :: svInts sv ++ mv.take k) ++ u :: [v8] := by simp
      rw [e2]
      exact List.perm_middle
    rw [e1, (hp.filterMap _).nodup_iff]
    cases hv : u.ownBlock with
    | none => rw [List.filterMap_cons_none hv]; exact h.nodup
    | some q =>
      rw [List.filterMap_cons_some hv, List.nodup_cons]
      refine ⟨fun hm => ?_, h.nodup⟩
      have hq1 := (o1.lt q hv).1
      obtain ⟨x, hx, hxq⟩ := List.mem_filterMap.1 hm
      simp only [List.mem_append, List.mem_cons, List.not_mem_nil, or_false] at hx
      have hlt : q < wr.heap.size := by
        rcases hx with ((rfl | hx) | hx) | rfl
        · exact (h.words.lt q hxq).2
        · obtain ⟨p2, hp2, hx⟩ := List.mem_flatMap.1 hx
          obtain ⟨i, hi⟩ := List.mem_iff_getElem?.1 hp2
          have hil := (List.getElem?_eq_some_iff.1 hi).1
          obtain ⟨t, ht⟩ : ∃ t, D.spans[i]? = some t := ⟨_, List.getElem?_eq_getElem (by have := h.spans.len; omega)⟩
          have hin := h.spans.inner i t p2 ht hi
          simp only [List.mem_cons, List.not_mem_nil, or_false] at hx
          rcases hx with rfl | rfl
          · exact (hin.1.lt q hxq).2
          · exact (hin.2.lt q hxq).2
        · obtain ⟨i, hi⟩ := List.mem_iff_getElem?.1 hx
          have hil := (List.getElem?_eq_some_iff.1 hi).1
          rw [List.length_take] at hil
          rw [List.getElem?_take_of_lt (by omega)] at hi
          obtain ⟨t, ht⟩ : ∃ t, D.muts[i]? = some t := ⟨_, List.getElem?_eq_getElem (by omega)⟩
          exact ((h.mutsN i t x (by omega) ht hi).lt q hxq).2
        · exact (h.grey.lt q hxq).2
      omega
theorem Cp2.own {w wr : World} {D : WD} {v1 v2 v3 v5 v8 : Value} {sv : List (Value × Value)} {mv : List Value} (h : Cp2 w wr D v1 v2 v3 v5 v8 sv mv D.muts.length) {wF : World} (hF : Chg [w.heap.size] wr wF) :
    OwnW wF w.heap.size ⟨v1, v2, v3, v5, v8, sv, mv⟩ D ∧ Below w.heap.size w wF := by
  have ho : OwnW wr (w.heap.size + 1 + 1) ⟨v1, v2, v3, v5, v8, sv, mv⟩ D := ⟨h.words, h.dirty, h.spans.row, h.spans.len, h.spans.inner, h.mrow, h.mvl, fun i r u hr hu => h.mutsN i r u (List.getElem?_eq_some_iff.1 hr).1 hr hu, h.grey, by
    have := h.nodup
    rw [show mv.take D.muts.length = mv by rw [← h.mvl]; exact List.take_length] at this
    exact this⟩
  exact ⟨(ho.chg0 hF (fun q hq => by rw [List.mem_singleton.1 hq]; omega)).base_le (by omega), Chg.below h.below hF h.below.size (fun q hq => by rw [List.mem_singleton.1 hq]; exact Nat.le_refl _)⟩
end Go.Proofs.Ytajogfnlbdiokaa

/-
  The contract of the program's copyOf: a World in new memory, all lists within it too.
-/
namespace Go.Proofs.Ytajogfnlbdiokaa
open Go.RowKit
set_option linter.unusedVariables false

theorem Ext.frozen {W : World} {b o : Nat} {v : Value} (hc : W.cell? ⟨b, o, none⟩ = some v) (h : W.frozen? ⟨b, o, none⟩ = false) : ∀ x : Ext W, x.val.frozen? ⟨b, o, none⟩ = false := fun x => (x.below.frozen (p := ⟨b, o, none⟩) (cell_lt hc)).trans h
/-- Two rows that were made one after the other. -/
theorem two_rows {w0 y1 y2 : World} {b n1 n2 : Nat} {u1 u2 : Value} {xs1 xs2 : List Value} (b1 : Below b w0 y1) (hb : b ≤ w0.heap.size) (o1 : y1.ownsRow b 3 1 u1 n1 xs1) (b2 : Below y1.heap.size y1 y2) (o2 : y2.ownsRow y1.heap.size 3 1 u2 n2 xs2) :
    Below b w0 y2 ∧ y2.ownsRow b 3 1 u1 n1 xs1 ∧ y2.ownsRow b 3 1 u2 n2 xs2 ∧ ∀ q, u1.ownBlock = some q → u2.ownBlock ≠ some q := by
  have z := b1.size
  refine ⟨b1.trans (b2.mono (by omega)), own_below o1 b2, own_base o2 (by omega), fun q h1 h2 => ?_⟩
  have := (o1.lt q h1).2
  have := (o2.lt q h2).1
  omega

set_option maxRecDepth 100000 in
set_option maxHeartbeats 16000000 in
theorem copyOf_any (B0 : Nat) (v : Value) (D : WD) (hs : Small D) (w : World) (hr : RdW w v D) (hB : BoxW w B0 v) :
    Calls Try.prog 71 #[.pointer (some ⟨B0, 0, none⟩)] w fun e w' => ∃ S, e = .returned (S.val D) ∧ OwnW w' w.heap.size S D ∧ Below w.heap.size w w' := by
  obtain ⟨aw, ad, aS, am, ag, cw, cd, cS, cm, cg, rfl⟩ := hr.written
  unfold worldV at hr hB
  obtain ⟨q1, q2, q3, q4, q5⟩ := hr.parts
  have e1 := Lib.hid q1.src
  have e2 := Lib.hid q2.src
  obtain ⟨sv0, svl, e3, e3i⟩ := q3.src
  obtain ⟨mv0, mvl, e4, e4i⟩ := q4.src
  have e5 := Lib.hid q5.src
  have e3 := Lib.hid e3
  have e4 := Lib.hid e4
  have e3i := Lib.hid e3i
  have e4i := Lib.hid e4i
  have svl := Lib.hid svl
  have mvl := Lib.hid mvl
  have hs1 := hs.words
  have hs2 := hs.dirty
  have hs3 := hs.spans
  have hs4 := hs.muts
  have hs5 := hs.grey
  have hs' := Lib.hid hs
  have g0 := hB.cell 0 _ rfl
  have g1 := hB.cell 1 _ rfl
  have g2 := hB.cell 2 _ rfl
  have g3 := hB.cell 3 _ rfl
  have g4 := hB.cell 4 _ rfl
  have g5 := hB.cell 5 _ rfl
  have g6 := hB.cell 6 _ rfl
  have g7 := hB.cell 7 _ rfl
  have g8 := hB.cell 8 _ rfl
  have G2 := Lib.hid g2
  have G3 := Lib.hid g3
  have G4 := Lib.hid g4
  have G5 := Lib.hid g5
  have G8 := Lib.hid g8
  have hlt := cell_lt g0
  dsimp only at hlt
  obtain ⟨l1, l2, l3, l4, l5⟩ := hr.parts
  obtain ⟨_, _, -, m1, -⟩ := l1
  obtain ⟨_, _, -, m2, -⟩ := l2
  obtain ⟨_, _, -, m3, -⟩ := l3
  obtain ⟨_, _, -, m4, -⟩ := l4
  obtain ⟨_, _, -, m5, -⟩ := l5
  unfold maxLen at m1 m2 m3 m4 m5
  have hz : (w.alloc (.cells zero9 32)).heap.size = w.heap.size + 1 := by simp
  have bb := Lib.hid (below_trans (below_box w (.cells zero9 32)) (below_box (w.alloc (.cells zero9 32)) (.cells #[.int .i64 D.base, .int .i64 D.pages, .slice aw D.words.length cw, .slice ad D.dirty.length cd, .slice aS D.spans.length cS, .slice am D.muts.length cm, .int .i64 D.phase, .int .i64 D.next, .slice ag D.grey.length cg] 32)))
  have hR := Lib.hid (heap_below (below_box (w.alloc (.cells zero9 32)) (.cells #[.int .i64 D.base, .int .i64 D.pages, .slice aw D.words.length cw, .slice ad D.dirty.length cd, .slice aS D.spans.length cS, .slice am D.muts.length cm, .int .i64 D.phase, .int .i64 D.next, .slice ag D.grey.length cg] 32)) (box_new w (.cells zero9 32)))
  have hC := Lib.hid (show ((w.alloc (.cells zero9 32)).alloc (.cells #[.int .i64 D.base, .int .i64 D.pages, .slice aw D.words.length cw, .slice ad D.dirty.length cd, .slice aS D.spans.length cS, .slice am D.muts.length cm, .int .i64 D.phase, .int .i64 D.next, .slice ag D.grey.length cg] 32)).heap[w.heap.size + 1]? = some (.cells #[.int .i64 D.base, .int .i64 D.pages, .slice aw D.words.length cw, .slice ad D.dirty.length cd, .slice aS D.spans.length cS, .slice am D.muts.length cm, .int .i64 D.phase, .int .i64 D.next, .slice ag D.grey.length cg] 32) from by have := box_new (w.alloc (.cells zero9 32)) (.cells #[.int .i64 D.base, .int .i64 D.pages, .slice aw D.words.length cw, .slice ad D.dirty.length cd, .slice aS D.spans.length cS, .slice am D.muts.length cm, .int .i64 D.phase, .int .i64 D.next, .slice ag D.grey.length cg] 32); rwa [hz] at this)
  have g0a : (w.alloc (.cells zero9 32)).cell? ⟨B0, 0, none⟩ = some (.int .i64 D.base) := cell_below (below_box _ _) g0
  have g1a : (w.alloc (.cells zero9 32)).cell? ⟨B0, 1, none⟩ = some (.int .i64 D.pages) := cell_below (below_box _ _) g1
  have g2a := cell_below (below_box w (.cells zero9 32)) g2
  have g3a := cell_below (below_box w (.cells zero9 32)) g3
  have g4a := cell_below (below_box w (.cells zero9 32)) g4
  have g5a := cell_below (below_box w (.cells zero9 32)) g5
  have g6a := cell_below (below_box w (.cells zero9 32)) g6
  have g7a := cell_below (below_box w (.cells zero9 32)) g7
  have g8a := cell_below (below_box w (.cells zero9 32)) g8
  have y2 := cell_below bb.out G2.out
  clear hr hB q1 q2 q3 q4 q5 hs g0 g1 g2 g3 g4 g5 g6 g7 g8 hz
  unfold zero9 at *
  go_enter Try.func71, Try.ntmps71
  go_wp2_with fail
  generalize (w.alloc (.cells #[.int .i64 0, .int .i64 0, .slice none 0 0, .slice none 0 0, .slice none 0 0, .slice none 0 0, .int .i64 0, .int .i64 0, .slice none 0 0] 32)).alloc (.cells #[.int .i64 D.base, .int .i64 D.pages, .slice aw D.words.length cw, .slice ad D.dirty.length cd, .slice aS D.spans.length cS, .slice am D.muts.length cm, .int .i64 D.phase, .int .i64 D.next, .slice ag D.grey.length cg] 32) = W1 at *
  refine (listInt_any aw D.words.length cw _ hs1 _ (e1.out.below (bb.out))).mono ?_
  rintro e w2 ⟨v, rfl, ho, hb⟩
  obtain ⟨a2, c2, rfl⟩ := own_slice ho
  have C2 := heap_below hb hC.out
  have R2 := heap_below hb hR.out
  have f2 := frozen_of_heap C2 2
  have z2 := cell_of_heap C2 2 _ rfl
  have hz2 : w.heap.size + 1 < w2.heap.size := (Array.getElem?_eq_some_iff.1 C2).1
  have bb' := Lib.hid (show Below w.heap.size w (w2.setCell ⟨w.heap.size + 1, 2, none⟩ (.slice a2 D.words.length c2)) from (below_trans bb.out hb).setCell (p := ⟨w.heap.size + 1, 2, none⟩) (by simp) _)
  have hC' := Lib.hid (show (w2.setCell ⟨w.heap.size + 1, 2, none⟩ (.slice a2 D.words.length c2)).heap[w.heap.size + 1]? = some (.cells #[.int .i64 D.base, .int .i64 D.pages, .slice a2 D.words.length c2, .slice ad D.dirty.length cd, .slice aS D.spans.length cS, .slice am D.muts.length cm, .int .i64 D.phase, .int .i64 D.next, .slice ag D.grey.length cg] 32 (0, 0)) from heap_setCell_same w2 (w.heap.size + 1) 2 _ _ _ C2)
  have hR' := Lib.hid ((heap_setCell_other w2 ⟨w.heap.size + 1, 2, none⟩ w.heap.size (.slice a2 D.words.length c2) (by simp)).trans R2)
  have o2' := Lib.hid (own_set (own_base ho (show w.heap.size + 1 + 1 ≤ _ by have := (Array.getElem?_eq_some_iff.1 hC.out).1; omega)) (show w.heap.size + 1 < w.heap.size + 1 + 1 by omega) 2 (.slice a2 D.words.length c2))
  have y3 := cell_below bb'.out G3.out
  clear ho hb C2 R2 bb hC hR y2
  have bb := bb'
  have hC := hC'
  have hR := hR'
  clear bb' hC' hR'
  have o2 := o2'
  clear o2'
  go_wp2_with fail
  generalize w2.setCell ⟨w.heap.size + 1, 2, none⟩ (.slice a2 D.words.length c2) = W2 at *
  clear f2 z2 hz2
  refine (listBool_any ad D.dirty.length cd _ hs2 _ (e2.out.below (bb.out))).mono ?_
  rintro e w3 ⟨v, rfl, ho, hb⟩
  obtain ⟨a3, c3, rfl⟩ := own_slice ho
  have C3 := heap_below hb hC.out
  have R3 := heap_below hb hR.out
  have f3 := frozen_of_heap C3 3
  have z3 := cell_of_heap C3 3 _ rfl
  have hz3 : w.heap.size + 1 < w3.heap.size := (Array.getElem?_eq_some_iff.1 C3).1
  have bb' := Lib.hid (show Below w.heap.size w (w3.setCell ⟨w.heap.size + 1, 3, none⟩ (.slice a3 D.dirty.length c3)) from (below_trans bb.out hb).setCell (p := ⟨w.heap.size + 1, 3, none⟩) (by simp) _)
  have hC' := Lib.hid (show (w3.setCell ⟨w.heap.size + 1, 3, none⟩ (.slice a3 D.dirty.length c3)).heap[w.heap.size + 1]? = some (.cells #[.int .i64 D.base, .int .i64 D.pages, .slice a2 D.words.length c2, .slice a3 D.dirty.length c3, .slice aS D.spans.length cS, .slice am D.muts.length cm, .int .i64 D.phase, .int .i64 D.next, .slice ag D.grey.length cg] 32 (0, 0)) from heap_setCell_same w3 (w.heap.size + 1) 3 _ _ _ C3)
  have hR' := Lib.hid ((heap_setCell_other w3 ⟨w.heap.size + 1, 3, none⟩ w.heap.size (.slice a3 D.dirty.length c3) (by simp)).trans R3)
  have o2' := Lib.hid (own_set (own_below o2.out hb) (show w.heap.size + 1 < w.heap.size + 1 + 1 by omega) 3 (.slice a3 D.dirty.length c3))
  have o3' := Lib.hid (own_set (own_base ho (show w.heap.size + 1 + 1 ≤ _ by have := (Array.getElem?_eq_some_iff.1 hC.out).1; omega)) (show w.heap.size + 1 < w.heap.size + 1 + 1 by omega) 3 (.slice a3 D.dirty.length c3))
  have y4 := cell_below bb'.out G4.out
  clear ho hb C3 R3 bb hC hR o2 y3
  have bb := bb'
  have hC := hC'
  have hR := hR'
  clear bb' hC' hR'
  have o2 := o2'
  clear o2'
  have o3 := o3'
  clear o3'
  go_wp2_with fail
  generalize w3.setCell ⟨w.heap.size + 1, 3, none⟩ (.slice a3 D.dirty.length c3) = W3 at *
  clear f3 z3 hz3
  refine (listSpan_any aS D.spans.length cS _ hs3 _ (e3.out.below (bb.out))).mono ?_
  rintro e w4 ⟨v, rfl, ho, hb⟩
  obtain ⟨a4, c4, rfl⟩ := own_slice ho
  have C4 := heap_below hb hC.out
  have R4 := heap_below hb hR.out
  have f4 := frozen_of_heap C4 4
  have z4 := cell_of_heap C4 4 _ rfl
  have hz4 : w.heap.size + 1 < w4.heap.size := (Array.getElem?_eq_some_iff.1 C4).1
  have bb' := Lib.hid (show Below w.heap.size w (w4.setCell ⟨w.heap.size + 1, 4, none⟩ (.slice a4 D.spans.length c4)) from (below_trans bb.out hb).setCell (p := ⟨w.heap.size + 1, 4, none⟩) (by simp) _)
  have hC' := Lib.hid (show (w4.setCell ⟨w.heap.size + 1, 4, none⟩ (.slice a4 D.spans.length c4)).heap[w.heap.size + 1]? = some (.cells #[.int .i64 D.base, .int .i64 D.pages, .slice a2 D.words.length c2, .slice a3 D.dirty.length c3, .slice a4 D.spans.length c4, .slice am D.muts.length cm, .int .i64 D.phase, .int .i64 D.next, .slice ag D.grey.length cg] 32 (0, 0)) from heap_setCell_same w4 (w.heap.size + 1) 4 _ _ _ C4)
  have hR' := Lib.hid ((heap_setCell_other w4 ⟨w.heap.size + 1, 4, none⟩ w.heap.size (.slice a4 D.spans.length c4) (by simp)).trans R4)
  have o2' := Lib.hid (own_set (own_below o2.out hb) (show w.heap.size + 1 < w.heap.size + 1 + 1 by omega) 4 (.slice a4 D.spans.length c4))
  have o3' := Lib.hid (own_set (own_below o3.out hb) (show w.heap.size + 1 < w.heap.size + 1 + 1 by omega) 4 (.slice a4 D.spans.length c4))
  have o4' := Lib.hid (own_set (own_base ho (show w.heap.size + 1 + 1 ≤ _ by have := (Array.getElem?_eq_some_iff.1 hC.out).1; omega)) (show w.heap.size + 1 < w.heap.size + 1 + 1 by omega) 4 (.slice a4 D.spans.length c4))
  have y5 := cell_below bb'.out G5.out
  clear ho hb C4 R4 bb hC hR o2 o3 y4
  have bb := bb'
  have hC := hC'
  have hR := hR'
  clear bb' hC' hR'
  have o2 := o2'
  clear o2'
  have o3 := o3'
  clear o3'
  have o4 := o4'
  clear o4'
  go_wp2_with fail
  generalize w4.setCell ⟨w.heap.size + 1, 4, none⟩ (.slice a4 D.spans.length c4) = W4 at *
  clear f4 z4 hz4
  refine (listMut_any am D.muts.length cm _ hs4 _ (e4.out.below (bb.out))).mono ?_
  rintro e w5 ⟨v, rfl, ho, hb⟩
  obtain ⟨a5, c5, rfl⟩ := own_slice ho
  have C5 := heap_below hb hC.out
  have R5 := heap_below hb hR.out
  have f5 := frozen_of_heap C5 5
  have z5 := cell_of_heap C5 5 _ rfl
  have hz5 : w.heap.size + 1 < w5.heap.size := (Array.getElem?_eq_some_iff.1 C5).1
  have bb' := Lib.hid (show Below w.heap.size w (w5.setCell ⟨w.heap.size + 1, 5, none⟩ (.slice a5 D.muts.length c5)) from (below_trans bb.out hb).setCell (p := ⟨w.heap.size + 1, 5, none⟩) (by simp) _)
  have hC' := Lib.hid (show (w5.setCell ⟨w.heap.size + 1, 5, none⟩ (.slice a5 D.muts.length c5)).heap[w.heap.size + 1]? = some (.cells #[.int .i64 D.base, .int .i64 D.pages, .slice a2 D.words.length c2, .slice a3 D.dirty.length c3, .slice a4 D.spans.length c4, .slice a5 D.muts.length c5, .int .i64 D.phase, .int .i64 D.next, .slice ag D.grey.length cg] 32 (0, 0)) from heap_setCell_same w5 (w.heap.size + 1) 5 _ _ _ C5)
  have hR' := Lib.hid ((heap_setCell_other w5 ⟨w.heap.size + 1, 5, none⟩ w.heap.size (.slice a5 D.muts.length c5) (by simp)).trans R5)
  have o2' := Lib.hid (own_set (own_below o2.out hb) (show w.heap.size + 1 < w.heap.size + 1 + 1 by omega) 5 (.slice a5 D.muts.length c5))
  have o3' := Lib.hid (own_set (own_below o3.out hb) (show w.heap.size + 1 < w.heap.size + 1 + 1 by omega) 5 (.slice a5 D.muts.length c5))
  have o4' := Lib.hid (own_set (own_below o4.out hb) (show w.heap.size + 1 < w.heap.size + 1 + 1 by omega) 5 (.slice a5 D.muts.length c5))
  have o5' := Lib.hid (own_set (own_base ho (show w.heap.size + 1 + 1 ≤ _ by have := (Array.getElem?_eq_some_iff.1 hC.out).1; omega)) (show w.heap.size + 1 < w.heap.size + 1 + 1 by omega) 5 (.slice a5 D.muts.length c5))
  have y8 := cell_below bb'.out G8.out
  clear ho hb C5 R5 bb hC hR o2 o3 o4 y5
  have bb := bb'
  have hC := hC'
  have hR := hR'
  clear bb' hC' hR'
  have o2 := o2'
  clear o2'
  have o3 := o3'
  clear o3'
  have o4 := o4'
  clear o4'
  have o5 := o5'
  clear o5'
  go_wp2_with fail
  generalize w5.setCell ⟨w.heap.size + 1, 5, none⟩ (.slice a5 D.muts.length c5) = W5 at *
  clear f5 z5 hz5
  refine (listInt_any ag D.grey.length cg _ hs5 _ (e5.out.below (bb.out))).mono ?_
  rintro e w8 ⟨v, rfl, ho, hb⟩
  obtain ⟨a8, c8, rfl⟩ := own_slice ho
  have C8 := heap_below hb hC.out
  have R8 := heap_below hb hR.out
  have f8 := frozen_of_heap C8 8
  have z8 := cell_of_heap C8 8 _ rfl
  have hz8 : w.heap.size + 1 < w8.heap.size := (Array.getElem?_eq_some_iff.1 C8).1
  have bb' := Lib.hid (show Below w.heap.size w (w8.setCell ⟨w.heap.size + 1, 8, none⟩ (.slice a8 D.grey.length c8)) from (below_trans bb.out hb).setCell (p := ⟨w.heap.size + 1, 8, none⟩) (by simp) _)
  have hC' := Lib.hid (show (w8.setCell ⟨w.heap.size + 1, 8, none⟩ (.slice a8 D.grey.length c8)).heap[w.heap.size + 1]? = some (.cells #[.int .i64 D.base, .int .i64 D.pages, .slice a2 D.words.length c2, .slice a3 D.dirty.length c3, .slice a4 D.spans.length c4, .slice a5 D.muts.length c5, .int .i64 D.phase, .int .i64 D.next, .slice a8 D.grey.length c8] 32 (0, 0)) from heap_setCell_same w8 (w.heap.size + 1) 8 _ _ _ C8)
  have hR' := Lib.hid ((heap_setCell_other w8 ⟨w.heap.size + 1, 8, none⟩ w.heap.size (.slice a8 D.grey.length c8) (by simp)).trans R8)
  have o2' := Lib.hid (own_set (own_below o2.out hb) (show w.heap.size + 1 < w.heap.size + 1 + 1 by omega) 8 (.slice a8 D.grey.length c8))
  have o3' := Lib.hid (own_set (own_below o3.out hb) (show w.heap.size + 1 < w.heap.size + 1 + 1 by omega) 8 (.slice a8 D.grey.length c8))
  have o4' := Lib.hid (own_set (own_below o4.out hb) (show w.heap.size + 1 < w.heap.size + 1 + 1 by omega) 8 (.slice a8 D.grey.length c8))
  have o5' := Lib.hid (own_set (own_below o5.out hb) (show w.heap.size + 1 < w.heap.size + 1 + 1 by omega) 8 (.slice a8 D.grey.length c8))
  have o8' := Lib.hid (own_set (own_base ho (show w.heap.size + 1 + 1 ≤ _ by have := (Array.getElem?_eq_some_iff.1 hC.out).1; omega)) (show w.heap.size + 1 < w.heap.size + 1 + 1 by omega) 8 (.slice a8 D.grey.length c8))
  have hd18 := Lib.hid (show ∀ q, (Value.slice a2 D.words.length c2).ownBlock = some q → (Value.slice a8 D.grey.length c8).ownBlock ≠ some q from fun q h1 h2 => by have := (o2.out.lt q h1).2; have := (ho.lt q h2).1; omega)
  clear ho hb C8 R8 bb hC hR o2 o3 o4 o5 y8
  have bb := bb'
  have hC := hC'
  have hR := hR'
  clear bb' hC' hR'
  have o2 := o2'
  clear o2'
  have o3 := o3'
  clear o3'
  have o4 := o4'
  clear o4'
  have o5 := o5'
  clear o5'
  have o8 := o8'
  clear o8'
  have z4 := cell_of_heap hC.out 4 _ rfl
  go_wp2_with fail
  generalize w8.setCell ⟨w.heap.size + 1, 8, none⟩ (.slice a8 D.grey.length c8) = W8 at *
  clear f8 z8 hz8
  have st0 := Lib.hid (show Cp1 w W8 D (.slice a2 D.words.length c2) (.slice a3 D.dirty.length c3) (.slice a4 D.spans.length c4) (.slice a5 D.muts.length c5) (.slice a8 D.grey.length c8) sv0 mv0 0 from
    ⟨bb.out, hR.out, hC.out, by have := (Array.getElem?_eq_some_iff.1 hC.out).1; omega, o2.out, o3.out, o4.out, svl.out, fun i s p hi => absurd hi (by omega), fun i s p _ => e3i.out i s p, o5.out, mvl.out, e4i.out, o8.out, by
      cases h1 : (Value.slice a2 D.words.length c2).ownBlock with
      | none => cases h2 : (Value.slice a8 D.grey.length c8).ownBlock <;> simp [svInts, h1, h2]
      | some q =>
        have := hd18.out q h1
        cases h2 : (Value.slice a8 D.grey.length c8).ownBlock with
        | none => simp [svInts, h1, h2]
        | some q2 => rw [h2] at this; simp [svInts, h1, h2]; intro e; exact this (by rw [e])⟩)
  clear bb hC hR o2 o3 o4 o5 o8 hd18 z4 e1 e2 e3 e4 e5 e3i e4i svl mvl G2 G3 G4 G5 G8 g0a g1a g2a g3a g4a g5a g6a g7a g8a
  go_loopw [45] (fun i wr => ∃ (k : Nat) (sv : List (Value × Value)), k ≤ D.spans.length ∧ i = .int .i64 k ∧ Hid (Cp1 w wr D (.slice a2 D.words.length c2) (.slice a3 D.dirty.length c3) (.slice a4 D.spans.length c4) (.slice a5 D.muts.length c5) (.slice a8 D.grey.length c8) sv mv0 k)) (fun i _ => D.spans.length - (intOf i).toNat)
  case atStart => exact ⟨0, sv0, Nat.zero_le _, rfl, st0⟩
  case round =>
    obtain ⟨k, sv, hk, rfl, st⟩ := hrel
    clear st0
    have hsz := Lib.hid st.out.size
    have hsz1 : w.heap.size + 1 < wr.heap.size := by have := hsz.out; omega
    have z4 := cell_of_heap st.out.boxB 4 _ rfl
    have z5 := cell_of_heap st.out.boxB 5 _ rfl
    by_cases hltk : k < D.spans.length
    · have hlt1 : (k : Int) < (D.spans.length : Int) := by omega
      obtain ⟨s, hks⟩ : ∃ s, D.spans[k]? = some s := ⟨_, List.getElem?_eq_getElem hltk⟩
      obtain ⟨p, hp⟩ : ∃ p, sv[k]? = some p := ⟨_, List.getElem?_eq_getElem (by have := st.out.svl; omega)⟩
      obtain ⟨g3, rfl⟩ : ∃ g3, a4 = some ⟨g3, 0, none⟩ := by
        rcases st.out.row.2 with ⟨he, h0⟩ | ⟨g, cap, cur, he, _⟩
        · omega
        · exact ⟨g, by simp at he; exact he.1⟩
      have hrow := st.out.row
      have x4 : wr.cell? ⟨g3, k * 6 + 4, none⟩ = some p.1 := by rw [hrow.cellAt (k * 6 + 4) (by omega), flatV_at D.spans sv k s p hks hp 4 (by omega)]; rfl
      have x5 : wr.cell? ⟨g3, k * 6 + 5, none⟩ = some p.2 := by rw [hrow.cellAt (k * 6 + 5) (by omega), flatV_at D.spans sv k s p hks hp 5 (by omega)]; rfl
      have f4 := hrow.frozenAt (k * 6 + 4)
      have f5 := hrow.frozenAt (k * 6 + 5)
      have ho := st.out.innerO k s p (Nat.le_refl _) hks hp
      obtain ⟨al, cl, hpl, hll, -⟩ := id ho.1
      obtain ⟨ap, cp, hpp, hpl2, -⟩ := id ho.2
      unfold maxLen at hll hpl2
      have hi := hs'.out.inner s (List.mem_of_getElem? hks)
      have rL := Lib.hid (show SrcIs wr al s.lens.length 1 (s.lens.map (Value.int .i64)) from by have := ho.1; rw [hpl] at this; exact this.src.below st.out.below)
      have rP := Lib.hid (show SrcIs wr ap s.ptrs.length 1 (s.ptrs.map (Value.int .i64)) from by have := ho.2; rw [hpp] at this; exact this.src.below st.out.below)
      rw [hpl] at x4
      rw [hpp] at x5
      have X4 := Ext.cell x4
      have X5 := Ext.cell x5
      have F4 := Ext.frozen x4 f4
      have F5 := Ext.frozen x5 f5
      have cL := Lib.hid (fun (w' : World) h => listInt_any al s.lens.length cl (s.lens.map (Value.int .i64)) hi.1 w' h)
      have cP := Lib.hid (fun (w' : World) h => listInt_any ap s.ptrs.length cp (s.ptrs.map (Value.int .i64)) hi.2 w' h)
      have hg3 := Lib.hid (hrow.lt g3 rfl)
      have hg3a : g3 < wr.heap.size := hg3.out.2
      have hsml : D.spans.length ≤ 1048576 := hs3
      have nxt := Lib.hid (fun (y wF : World) (u1 u2 : Value) hy o1 o2 hne hF => st.out.next (y := y) (wF := wF) (u1 := u1) (u2 := u2) hks hy o1 o2 hne hF)
      have bd := Lib.hid (show Below wr.heap.size wr wr.drew from below_drewN (Below.refl _ _) 1)
      have hks' := Lib.hid hks
      clear hks hp hrow ho hpl hpp hi
      go_wp2_with fail
      clear z4 z5
      go_region_with (first
        | (go_at_call 128; ((with_reducible refine (cL.out _ ?_).mono ?_); (first | exact rL.out.below bd.out | exact rL.out.below bP.out); rintro e w1 ⟨v, rfl, o1, b1⟩; obtain ⟨aL, cL2, rfl⟩ := own_slice o1; have oL := Lib.hid o1; have bL := Lib.hid (show Below wr.heap.size wr w1 from (by first | exact below_trans bP.out b1 | exact below_trans bd.out b1)); have bL1 := Lib.hid b1; obtain ⟨xL, rfl⟩ := Ext.of bL.out; clear o1 b1))
        | (go_at_call 128; ((with_reducible refine (cP.out _ ?_).mono ?_); (first | exact rP.out.below bd.out | exact rP.out.below bL.out); rintro e w1 ⟨v, rfl, o1, b1⟩; obtain ⟨aP, cP2, rfl⟩ := own_slice o1; have oP := Lib.hid o1; have bP := Lib.hid (show Below wr.heap.size wr w1 from (by first | exact below_trans bL.out b1 | exact below_trans bd.out b1)); have bP1 := Lib.hid b1; obtain ⟨xP, rfl⟩ := Ext.of bP.out; clear o1 b1)))
      all_goals go_wp2_with fail
      all_goals first
        | (have t := two_rows (b := wr.heap.size) bL.out (Nat.le_refl _) oL.out bP1.out oP.out; exact ⟨⟨k + 1, _, by omega, by go_num, nxt.out _ _ _ _ t.1 t.2.1 t.2.2.1 t.2.2.2 rfl⟩, by simp [intOf]; omega⟩)
        | (have t := two_rows (b := wr.heap.size) bP.out (Nat.le_refl _) oP.out bL1.out oL.out; exact ⟨⟨k + 1, _, by omega, by go_num, nxt.out _ _ _ _ t.1 t.2.2.1 t.2.1 (fun q h1 h2 => t.2.2.2 q h2 h1) rfl⟩, by simp [intOf]; omega⟩)
    · obtain rfl : k = D.spans.length := by omega
      have st2 := Lib.hid (Cp2.start st.out)
      clear z4 st hk
      go_wp2_with fail
      clear z5
      go_loopw [72] (fun i wr => ∃ (k : Nat) (mv : List Value), k ≤ D.muts.length ∧ i = .int .i64 k ∧ Hid (Cp2 w wr D (.slice a2 D.words.length c2) (.slice a3 D.dirty.length c3) (.slice a4 D.spans.length c4) (.slice a5 D.muts.length c5) (.slice a8 D.grey.length c8) sv mv k)) (fun i _ => D.muts.length - (intOf i).toNat)
      case atStart => exact ⟨0, mv0, Nat.zero_le _, rfl, st2⟩
      case round =>
        clear st2
        obtain ⟨k, mv, hk, rfl, st⟩ := hrel
        have hsz := Lib.hid st.out.size
        have hsz1 : w.heap.size + 1 < wr.heap.size := by have := hsz.out; omega
        have z5 := cell_of_heap st.out.boxB 5 _ rfl
        by_cases hltk : k < D.muts.length
        · have hlt1 : (k : Int) < (D.muts.length : Int) := by omega
          obtain ⟨r, hks⟩ : ∃ s, D.muts[k]? = some s := ⟨_, List.getElem?_eq_getElem hltk⟩
          obtain ⟨u, hu⟩ : ∃ p, mv[k]? = some p := ⟨_, List.getElem?_eq_getElem (by have := st.out.mvl; omega)⟩
          obtain ⟨g5, rfl⟩ : ∃ g5, a5 = some ⟨g5, 0, none⟩ := by
            rcases st.out.mrow.2 with ⟨he, h0⟩ | ⟨g, cap, cur, he, _⟩
            · omega
            · exact ⟨g, by simp at he; exact he.1⟩
          have hrow := st.out.mrow
          have x0 : wr.cell? ⟨g5, k, none⟩ = some u := by rw [hrow.cellAt k (by have := st.out.mvl; omega), hu]
          have f0 := hrow.frozenAt k
          have ho := st.out.mutsO k r u (Nat.le_refl _) hks hu
          obtain ⟨al, cl, hul, hll, -⟩ := id ho
          unfold maxLen at hll
          have hi := hs'.out.innerM r (List.mem_of_getElem? hks)
          have bd := Lib.hid (show Below wr.heap.size wr wr.drew from below_drewN (Below.refl _ _) 1)
          have rL := Lib.hid (show SrcIs wr.drew al r.length 1 (r.map (Value.int .i64)) from by have := ho; rw [hul] at this; exact (this.src.below st.out.below).below bd.out)
          rw [hul] at x0
          have X0 := Ext.cell x0
          have F0 := Ext.frozen x0 f0
          have Z5 := Ext.cell z5
          have cL := Lib.hid (fun (w' : World) h => listInt_any al r.length cl (r.map (Value.int .i64)) hi w' h)
          have hg5 := Lib.hid (hrow.lt g5 rfl)
          have hg5a : g5 < wr.heap.size := hg5.out.2
          have nxt := Lib.hid (fun (y wF : World) (u : Value) hy o1 hF => st.out.next (y := y) (wF := wF) (u := u) hks hy o1 hF)
          clear hks hu hrow ho hul hi
          go_wp2_with fail
          go_region_with (first
            | (go_at_call 128; ((with_reducible refine (cL.out _ ?_).mono ?_); (exact rL.out); rintro e w1 ⟨v, rfl, o1, b1⟩; obtain ⟨aL, cL2, rfl⟩ := own_slice o1; have oL := Lib.hid o1; have bL := Lib.hid (show Below wr.heap.size wr w1 from below_trans bd.out b1); obtain ⟨xL, rfl⟩ := Ext.of bL.out; clear o1 b1)))
          all_goals go_wp2_with fail
          all_goals exact ⟨⟨k + 1, _, by omega, by go_num, nxt.out _ _ _ bL.out oL.out rfl⟩, by simp [intOf]; omega⟩
        · obtain rfl : k = D.muts.length := by omega
          have C8 := st.out.boxB
          have R8 := st.out.boxR
          unfold zero9 at R8
          have m0 := cell_of_heap C8 0 _ rfl
          have m1 := cell_of_heap C8 1 _ rfl
          have m2 := cell_of_heap C8 2 _ rfl
          have m3 := cell_of_heap C8 3 _ rfl
          have m4 := cell_of_heap C8 4 _ rfl
          have m5 := cell_of_heap C8 5 _ rfl
          have m6 := cell_of_heap C8 6 _ rfl
          have m7 := cell_of_heap C8 7 _ rfl
          have m8 := cell_of_heap C8 8 _ rfl
          have n0 := cell_of_heap R8 0 _ rfl
          have y0 := frozen_of_heap R8 0
          have n1 := cell_of_heap R8 1 _ rfl
          have y1 := frozen_of_heap R8 1
          have n2 := cell_of_heap R8 2 _ rfl
          have y2 := frozen_of_heap R8 2
          have n3 := cell_of_heap R8 3 _ rfl
          have y3 := frozen_of_heap R8 3
          have n4 := cell_of_heap R8 4 _ rfl
          have y4 := frozen_of_heap R8 4
          have n5 := cell_of_heap R8 5 _ rfl
          have y5 := frozen_of_heap R8 5
          have n6 := cell_of_heap R8 6 _ rfl
          have y6 := frozen_of_heap R8 6
          have n7 := cell_of_heap R8 7 _ rfl
          have y7 := frozen_of_heap R8 7
          have n8 := cell_of_heap R8 8 _ rfl
          have y8 := frozen_of_heap R8 8
          have fin := Lib.hid (fun wF hF => st.out.own (wF := wF) hF)
          clear C8 R8 z5 st hk
          go_wp2_with fail
          refine bodyPost_ret (v := .agg #[.int .i64 D.base, .int .i64 D.pages, .slice a2 D.words.length c2, .slice a3 D.dirty.length c3, .slice a4 D.spans.length c4, .slice a5 D.muts.length c5, .int .i64 D.phase, .int .i64 D.next, .slice a8 D.grey.length c8]) (by simp [results, Try.results71, go_sem, n0, n1, n2, n3, n4, n5, n6, n7, n8]) rfl ?_
          exact ⟨⟨.slice a2 D.words.length c2, .slice a3 D.dirty.length c3, .slice a4 D.spans.length c4, .slice a5 D.muts.length c5, .slice a8 D.grey.length c8, sv, mv⟩, rfl, fin.out _ ((((((((((Chg.refl _ _).put (b := w.heap.size) (by simp) 0 _).put (b := w.heap.size) (by simp) 1 _).put (b := w.heap.size) (by simp) 2 _).put (b := w.heap.size) (by simp) 3 _).put (b := w.heap.size) (by simp) 4 _).put (b := w.heap.size) (by simp) 5 _).put (b := w.heap.size) (by simp) 6 _).put (b := w.heap.size) (by simp) 7 _).put (b := w.heap.size) (by simp) 8 _)⟩
end Go.Proofs.Ytajogfnlbdiokaa

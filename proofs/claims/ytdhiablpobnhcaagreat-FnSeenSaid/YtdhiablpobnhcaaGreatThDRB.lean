import Derived.Test.YtdhiablpobnhcaaGreatThBent

namespace Go.Proofs.YtdhiablpobnhcaaGreat
open Go.RowKit
set_option linter.unusedVariables false
set_option linter.unusedSimpArgs false
def DrawnW (w' : World) (v : Value) (D : WD) : Prop := BentD D ∧ CapW v ∧ CapG v ∧ RdW w' v D
set_option maxRecDepth 100000 in
set_option maxHeartbeats 8000000 in
theorem drawSeen_any (a : Option Addr) (len cap : Nat) (w : World) (hb : Bytes w a len) (ha : 0 < len → ∀ x, a = some x → x.block < w.heap.size) :
  Calls Tryz.prog 19 #[.slice a len cap] w fun e w' => ∃ v D x, DrawnW w' v D ∧ I64 x ∧ e = .returned (.tuple #[v, .int .i64 x]) ∧ Below w.heap.size w w' := by
 have hs := Lib.hid (show w.heap.size < (w.alloc (.cells #[.int .i64 0, .int .i64 0, .slice none 0 0, .slice none 0 0, .slice none 0 0, .slice none 0 0, .int .i64 0, .int .i64 0, .slice none 0 0] 30)).heap.size by simp)
 have bW := Lib.hid (below_box w (.cells #[.int .i64 0, .int .i64 0, .slice none 0 0, .slice none 0 0, .slice none 0 0, .slice none 0 0, .int .i64 0, .int .i64 0, .slice none 0 0] 30))
 have hnew := Lib.hid (new_any a len cap (w.alloc (.cells #[.int .i64 0, .int .i64 0, .slice none 0 0, .slice none 0 0, .slice none 0 0, .slice none 0 0, .int .i64 0, .int .i64 0, .slice none 0 0] 30)) (hb.below ha (below_box w (.cells #[.int .i64 0, .int .i64 0, .slice none 0 0, .slice none 0 0, .slice none 0 0, .slice none 0 0, .int .i64 0, .int .i64 0, .slice none 0 0] 30))) (fun h x e => Nat.lt_of_lt_of_le (ha h x e) (below_box w (.cells #[.int .i64 0, .int .i64 0, .slice none 0 0, .slice none 0 0, .slice none 0 0, .slice none 0 0, .int .i64 0, .int .i64 0, .slice none 0 0] 30)).size))
 have r0 := Lib.hid (box_new w (.cells #[.int .i64 0, .int .i64 0, .slice none 0 0, .slice none 0 0, .slice none 0 0, .slice none 0 0, .int .i64 0, .int .i64 0, .slice none 0 0] 30))
 have hlow := Lib.hid ha
 clear hb ha
 go_enter Tryz.func19, Tryz.ntmps19
 go_upto_region 1 with fail
 generalize w.alloc (.cells #[.int .i64 0, .int .i64 0, .slice none 0 0, .slice none 0 0, .slice none 0 0, .slice none 0 0, .int .i64 0, .int .i64 0, .slice none 0 0] 30) = W at *
 go_wp2_with fail
 refine hnew.out.mono ?_
 rintro e w1 ⟨B, rfl, b1, h0⟩
 have h1 : At w1 w.heap.size B a len := ⟨h0.bytes, h0.cur, Nat.le_trans (Nat.le_of_lt hs.out) h0.le, hlow.out⟩
 have hB := Lib.hid (show W.heap.size ≤ B from h0.le)
 have p1 := Lib.hid (bent_at h1)
 have r1 := Lib.hid (heap_below b1 r0.out)
 have bb1 := Lib.hid (bW.out.trans (b1.mono (Nat.le_of_lt hs.out)))
 have hBl := Lib.hid h1.lt
 clear b1 h1 h0 hnew r0
 go_wp2_with fail
 refine p1.out.mono ?_
 rintro e w2 ⟨v, D, hbD, hcw, hcg, rfl, hrd, gg, a2⟩
 have h2 := Lib.hid a2
 have r2 := Lib.hid (grow_block gg r1.out (by have := hB.out; have := hs.out; omega))
 have bb2 := Lib.hid (show Below w.heap.size w w2 from bb1.out.trans ((Below.refl _ _).grown gg (by have := bb1.out.size; omega) (fun k e => by cases e; have := hB.out; have := hs.out; omega)))
 have hR := Lib.hid (show w.heap.size < w1.heap.size from (Array.getElem?_eq_some_iff.1 r1.out).1)
 obtain ⟨aw, ad, aS, am, ag, cw, cd, cS, cm, cg, rfl⟩ := (hrd [] w2 (fun _ h => absurd h (by simp)) (Chg.refl _ _)).written
 unfold worldV at *
 have hrd' := Lib.hid hrd
 have hD := Lib.hid (show BentD D ∧ CapW (.agg #[.int .i64 D.base, .int .i64 D.pages, .slice aw D.words.length cw, .slice ad D.dirty.length cd, .slice aS D.spans.length cS, .slice am D.muts.length cm, .int .i64 D.phase, .int .i64 D.next, .slice ag D.grey.length cg]) ∧ CapG (.agg #[.int .i64 D.base, .int .i64 D.pages, .slice aw D.words.length cw, .slice ad D.dirty.length cd, .slice aS D.spans.length cS, .slice am D.muts.length cm, .int .i64 D.phase, .int .i64 D.next, .slice ag D.grey.length cg]) from ⟨hbD, hcw, hcg⟩)
 have gz := Lib.hid gg.size
 clear hbD hcw hcg hrd gg a2 p1 r1
 have bx := Lib.hid (below_box w2 (.cells #[.int .i64 D.base, .int .i64 D.pages, .slice aw D.words.length cw, .slice ad D.dirty.length cd, .slice aS D.spans.length cS, .slice am D.muts.length cm, .int .i64 D.phase, .int .i64 D.next, .slice ag D.grey.length cg] 30))
 have h3 := Lib.hid (h2.out.kept bx.out)
 have r3 := Lib.hid (heap_below bx.out r2.out)
 have v3 := Lib.hid (box_new w2 (.cells #[.int .i64 D.base, .int .i64 D.pages, .slice aw D.words.length cw, .slice ad D.dirty.length cd, .slice aS D.spans.length cS, .slice am D.muts.length cm, .int .i64 D.phase, .int .i64 D.next, .slice ag D.grey.length cg] 30))
 have c23 := Lib.hid (Chg.of_below bx.out [w.heap.size, B])
 have bb3 := Lib.hid (below_trans bb2.out bx.out)
 have hV := Lib.hid (show w1.heap.size ≤ w2.heap.size from gz.out)
 go_upto_region 3 with fail
 generalize w2.alloc (.cells #[.int .i64 D.base, .int .i64 D.pages, .slice aw D.words.length cw, .slice ad D.dirty.length cd, .slice aS D.spans.length cS, .slice am D.muts.length cm, .int .i64 D.phase, .int .i64 D.next, .slice ag D.grey.length cg] 30) = W3 at *
 have hRV : ¬ (w.heap.size = w2.heap.size) := by have := hR.out; have := hV.out; omega
 have hVR : ¬ (w2.heap.size = w.heap.size) := fun e => hRV e.symm
 have hAt := Lib.hid (fun (W' : World) (c : Chg [w.heap.size] W3 W') => h3.out.chg c (by have := hs.out; have := hB.out; omega) (by have := hs.out; have := hB.out; omega))
 obtain ⟨n0, z0, n1, z1, n2, z2, n3, z3, n4, z4, n5, z5, n6, z6, n7, z7, n8, z8⟩ := cellz9 r3.out
 obtain ⟨m0, m1, m2, m3, m4, m5, m6, m7, m8⟩ := cells9 v3.out
 refine wp_region_lateW (fun w' => w'.cell? ⟨w2.heap.size, 0, none⟩ = some (.int .i64 D.base) ∧ w'.cell? ⟨w2.heap.size, 1, none⟩ = some (.int .i64 D.pages) ∧ w'.cell? ⟨w2.heap.size, 2, none⟩ = some (.slice aw D.words.length cw) ∧ w'.cell? ⟨w2.heap.size, 3, none⟩ = some (.slice ad D.dirty.length cd) ∧ w'.cell? ⟨w2.heap.size, 4, none⟩ = some (.slice aS D.spans.length cS) ∧ w'.cell? ⟨w2.heap.size, 5, none⟩ = some (.slice am D.muts.length cm) ∧ w'.cell? ⟨w2.heap.size, 6, none⟩ = some (.int .i64 D.phase) ∧ w'.cell? ⟨w2.heap.size, 7, none⟩ = some (.int .i64 D.next) ∧ w'.cell? ⟨w2.heap.size, 8, none⟩ = some (.slice ag D.grey.length cg)) (fun j => j == 4) (by kernel_rfl) ?_
 intro wd hwd
 have cRd := Lib.hid (show Chg [w.heap.size] W3 wd from by rw [hwd]; exact (Chg.of_below (below_drewN (Below.refl W3.heap.size W3) 1) [w.heap.size]))
 have cRB := Lib.hid (show Chg [w.heap.size, B] W3 wd from by rw [hwd]; exact (Chg.of_below (below_drewN (Below.refl W3.heap.size W3) 1) [w.heap.size, B]))
 have vRd := Lib.hid (show wd.heap[w2.heap.size]? = some _ from by rw [hwd]; exact v3.out)
 have rRd := Lib.hid (show wd.heap[w.heap.size]? = some _ from by rw [hwd]; exact r3.out)
 clear hwd
 have h0 : (fun w' => w'.cell? ⟨w2.heap.size, 0, none⟩ = some (.int .i64 D.base) ∧ w'.cell? ⟨w2.heap.size, 1, none⟩ = some (.int .i64 D.pages) ∧ w'.cell? ⟨w2.heap.size, 2, none⟩ = some (.slice aw D.words.length cw) ∧ w'.cell? ⟨w2.heap.size, 3, none⟩ = some (.slice ad D.dirty.length cd) ∧ w'.cell? ⟨w2.heap.size, 4, none⟩ = some (.slice aS D.spans.length cS) ∧ w'.cell? ⟨w2.heap.size, 5, none⟩ = some (.slice am D.muts.length cm) ∧ w'.cell? ⟨w2.heap.size, 6, none⟩ = some (.int .i64 D.phase) ∧ w'.cell? ⟨w2.heap.size, 7, none⟩ = some (.int .i64 D.next) ∧ w'.cell? ⟨w2.heap.size, 8, none⟩ = some (.slice ag D.grey.length cg)) wd := ⟨cell_of_heap vRd.out 0 _ rfl, cell_of_heap vRd.out 1 _ rfl, cell_of_heap vRd.out 2 _ rfl, cell_of_heap vRd.out 3 _ rfl, cell_of_heap vRd.out 4 _ rfl, cell_of_heap vRd.out 5 _ rfl, cell_of_heap vRd.out 6 _ rfl, cell_of_heap vRd.out 7 _ rfl, cell_of_heap vRd.out 8 _ rfl⟩
 obtain ⟨n0, z0, n1, z1, n2, z2, n3, z3, n4, z4, n5, z5, n6, z6, n7, z7, n8, z8⟩ := cellz9 rRd.out
 refine wpLate_take (i := 0) (v := ?vq3) rfl (by kernel_rfl) (by kernel_rfl) (by kernel_rfl) (by kernel_rfl) (fun j hj => by simp at hj; subst hj; kernel_rfl) (fun _ _ _ h => h) (Or.inl ⟨by rfl, ?hyq3⟩) (by exact h0) ?restq3
 case hyq3 => (intro w hSw; (try dsimp only at hSw); obtain ⟨t0, t1, t2, t3, t4, t5, t6, t7, t8⟩ := hSw; go_simp; try with_reducible rfl)
 try simp only [Act.put, List.setIfInBounds_toArray, List.set_cons_zero, List.set_cons_succ]
 refine wpLate_free (i := 1) (v := ?vq4) rfl (by kernel_rfl) (by kernel_rfl) (by kernel_rfl) rfl (fun _ _ _ h => h) (Or.inl ⟨by rfl, ?hyq4⟩) (fun _ => h0) ?restq4
 case hyq4 => (intro w _; go_simp; try with_reducible rfl)
 try simp only [Act.put, List.setIfInBounds_toArray, List.set_cons_zero, List.set_cons_succ]
 refine wpLate_all (rs := [2]) (by kernel_rfl) (by simp) ?_
 intro i hi
 simp only [List.mem_cons, List.not_mem_nil, or_false] at hi
 subst hi
 refine wpLate_step (i := 2) rfl (fun K hK => ?_)
 go_simp
 go_wp2_with (go_at_call 43; refine (below_at (hAt.out _ cRd.out) 5 (by decide)).mono ?_; rintro e w4 ⟨y, rfl, y0, y1, gg4, a4⟩; have yb := Lib.hid (show I64 (y - 1) from (by unfold I64; omega)); have g4 := Lib.hid gg4; have e4 : IntKind.i64.wrap (y - 1) = y - 1 := IntWalk.i64_in _ (by omega); have r4 := grow_block gg4 rRd.out (by have := hs.out; have := hB.out; omega); have v4 := grow_block gg4 vRd.out (by have := hBl.out; have := hV.out; omega); have n0 := cell_of_heap r4 0 (.int .i64 0) rfl; have z0 := frozen_of_heap r4 0; have n1 := cell_of_heap r4 1 (.int .i64 0) rfl; have z1 := frozen_of_heap r4 1; have n2 := cell_of_heap r4 2 (.slice none 0 0) rfl; have z2 := frozen_of_heap r4 2; have n3 := cell_of_heap r4 3 (.slice none 0 0) rfl; have z3 := frozen_of_heap r4 3; have n4 := cell_of_heap r4 4 (.slice none 0 0) rfl; have z4 := frozen_of_heap r4 4; have n5 := cell_of_heap r4 5 (.slice none 0 0) rfl; have z5 := frozen_of_heap r4 5; have n6 := cell_of_heap r4 6 (.int .i64 0) rfl; have z6 := frozen_of_heap r4 6; have n7 := cell_of_heap r4 7 (.int .i64 0) rfl; have z7 := frozen_of_heap r4 7; have n8 := cell_of_heap r4 8 (.slice none 0 0) rfl; have z8 := frozen_of_heap r4 8; have hS4 : (fun w' => w'.cell? ⟨w2.heap.size, 0, none⟩ = some (.int .i64 D.base) ∧ w'.cell? ⟨w2.heap.size, 1, none⟩ = some (.int .i64 D.pages) ∧ w'.cell? ⟨w2.heap.size, 2, none⟩ = some (.slice aw D.words.length cw) ∧ w'.cell? ⟨w2.heap.size, 3, none⟩ = some (.slice ad D.dirty.length cd) ∧ w'.cell? ⟨w2.heap.size, 4, none⟩ = some (.slice aS D.spans.length cS) ∧ w'.cell? ⟨w2.heap.size, 5, none⟩ = some (.slice am D.muts.length cm) ∧ w'.cell? ⟨w2.heap.size, 6, none⟩ = some (.int .i64 D.phase) ∧ w'.cell? ⟨w2.heap.size, 7, none⟩ = some (.int .i64 D.next) ∧ w'.cell? ⟨w2.heap.size, 8, none⟩ = some (.slice ag D.grey.length cg)) w4 := ⟨cell_of_heap v4 0 _ rfl, cell_of_heap v4 1 _ rfl, cell_of_heap v4 2 _ rfl, cell_of_heap v4 3 _ rfl, cell_of_heap v4 4 _ rfl, cell_of_heap v4 5 _ rfl, cell_of_heap v4 6 _ rfl, cell_of_heap v4 7 _ rfl, cell_of_heap v4 8 _ rfl⟩; clear r4 v4; clear gg4 a4 y0 y1)
 refine hK.out _ _ (fun _ => hS4) ?_
 clear hK K
 try simp only [Act.put, List.setIfInBounds_toArray, List.set_cons_zero, List.set_cons_succ]
 refine wpLate_free (i := 3) (v := ?vq6) rfl (by kernel_rfl) (by kernel_rfl) (by kernel_rfl) rfl (fun _ _ _ h => h) (Or.inl ⟨by rfl, ?hyq6⟩) (fun _ => hS4) ?restq6
 case hyq6 => (intro w _; go_simp; try with_reducible rfl)
 try simp only [Act.put, List.setIfInBounds_toArray, List.set_cons_zero, List.set_cons_succ]
 refine wpLate_all (rs := [4]) (by kernel_rfl) (by simp) ?_
 intro i hi
 simp only [List.mem_cons, List.not_mem_nil, or_false] at hi
 subst hi
 refine wpLate_step (i := 4) rfl (fun K hK => ?_)
 go_simp
 refine hK.out _ _ (fun h => Bool.noConfusion ((h 4 (by kernel_rfl)).symm.trans (show _ = true by kernel_rfl))) ?_
 clear hK K
 try simp only [Act.put, List.setIfInBounds_toArray, List.set_cons_zero, List.set_cons_succ]
 refine wpLate_all (rs := [5]) (by kernel_rfl) (by simp) ?_
 intro i hi
 simp only [List.mem_cons, List.not_mem_nil, or_false] at hi
 subst hi
 refine wpLate_step (i := 5) rfl (fun K hK => ?_)
 go_simp
 refine hK.out _ _ (fun h => Bool.noConfusion ((h 4 (by kernel_rfl)).symm.trans (show _ = true by kernel_rfl))) ?_
 clear hK K
 try simp only [Act.put, List.setIfInBounds_toArray, List.set_cons_zero, List.set_cons_succ]
 refine wpLate_done (by kernel_rfl) ?_ _
 go_wp2_with fail
 refine bodyPost_ret (v := .tuple #[.agg #[.int .i64 D.base, .int .i64 D.pages, .slice aw D.words.length cw, .slice ad D.dirty.length cd, .slice aS D.spans.length cS, .slice am D.muts.length cm, .int .i64 D.phase, .int .i64 D.next, .slice ag D.grey.length cg], .int .i64 (y - 1)]) (by simp [results, Tryz.results19, go_sem, n0, n1, n2, n3, n4, n5, n6, n7, n8, z0, z1, z2, z3, z4, z5, z6, z7, z8]) rfl ?_
 exact ⟨_, D, _, ⟨hD.out.1, hD.out.2.1, hD.out.2.2, hrd'.out [w.heap.size, B] _ (fun q hq => by simp only [List.mem_cons, List.not_mem_nil, or_false] at hq; rcases hq with rfl | rfl; exact hR.out; exact hBl.out) (c23.out.trans ((((((((((cRB.out.trans (Chg.of_grown g4.out (bs := [w.heap.size, B]) (by simp))).put (b := w.heap.size) (by simp) 0 _).put (b := w.heap.size) (by simp) 1 _).put (b := w.heap.size) (by simp) 2 _).put (b := w.heap.size) (by simp) 3 _).put (b := w.heap.size) (by simp) 4 _).put (b := w.heap.size) (by simp) 5 _).put (b := w.heap.size) (by simp) 6 _).put (b := w.heap.size) (by simp) 7 _).put (b := w.heap.size) (by simp) 8 _))⟩, yb.out, rfl, Chg.below bb3.out ((((((((((cRB.out.trans (Chg.of_grown g4.out (bs := [w.heap.size, B]) (by simp))).put (b := w.heap.size) (by simp) 0 _).put (b := w.heap.size) (by simp) 1 _).put (b := w.heap.size) (by simp) 2 _).put (b := w.heap.size) (by simp) 3 _).put (b := w.heap.size) (by simp) 4 _).put (b := w.heap.size) (by simp) 5 _).put (b := w.heap.size) (by simp) 6 _).put (b := w.heap.size) (by simp) 7 _).put (b := w.heap.size) (by simp) 8 _) bb3.out.size (fun q hq => by simp only [List.mem_cons, List.not_mem_nil, or_false] at hq; have := hs.out; have := hB.out; omega)⟩
end Go.Proofs.YtdhiablpobnhcaaGreat

/-
  The program's ReadEv. Conditions: the table of powers of ten is as the program lays it; the library's MaxLen holds a number.
-/
import Derived.Test.YtjldjeokcpjgkaaDoorTxV
import Derived.Test.YtjldjeokcpjgkaaDoorTxH
namespace Go.Proofs.YtjldjeokcpjgkaaDoor
open Go.RowKit
set_option linter.unusedVariables false
set_option linter.unusedSimpArgs false

theorem build_nil (r : KD) : build r [] = evK r.k r.ok := by unfold build; rw [List.zip_nil_right]; rfl
theorem zip_snoc : ∀ (os : List Nat) (vs : List Int) (n : Int) (o : Nat), os[vs.length]? = some o → os.zip (vs ++ [n]) = os.zip vs ++ [(o, n)]
  | [], _, _, _, h => by simp at h
  | a :: os, [], n, o, h => by simp at h; subst h; simp
  | a :: os, v :: vs, n, o, h => by
    simp only [List.length_cons, List.getElem?_cons_succ] at h
    simp only [List.cons_append, List.zip_cons_cons, zip_snoc os vs n o h]
theorem build_snoc {r : KD} {vs : List Int} {n : Int} {o : Nat} (ho : r.offs[vs.length]? = some o) : build r (vs ++ [n]) = setF (build r vs) o n := by
  unfold build
  rw [zip_snoc _ _ _ _ ho, List.foldl_append]
  rfl
theorem offs_bd {r : KD} (hr : r ∈ kinds) {j o : Nat} (h : r.offs[j]? = some o) : 2 ≤ o ∧ o ≤ 10 := by
  have : ∀ r, r ∈ kinds → ∀ o, o ∈ r.offs → 2 ≤ o ∧ o ≤ 10 := by decide
  exact this r hr o (List.mem_of_getElem? h)
theorem setF_cells (E : EvD) (o : Nat) (n : Int) (h1 : 2 ≤ o) (h2 : o ≤ 10) : (setF E o n).cells = E.cells.setIfInBounds o (.int .i64 n) := by
  have : o = 2 ∨ o = 3 ∨ o = 4 ∨ o = 5 ∨ o = 6 ∨ o = 7 ∨ o = 8 ∨ o = 9 ∨ o = 10 := by omega
  rcases this with rfl | rfl | rfl | rfl | rfl | rfl | rfl | rfl | rfl <;> rfl
theorem strs_of_data : ∀ (Q : List ByteArray) (T : List (List UInt8)), Q.map (·.data.toList) = T → Q.map Value.string = T.map strV
  | [], T, h => by simp only [List.map_nil] at h; subst h; rfl
  | q :: Q, T, h => by
    cases T with
    | nil => simp at h
    | cons t T =>
      simp only [List.map_cons, List.cons.injEq] at h
      rw [List.map_cons, List.map_cons, strs_of_data Q T h.2]
      congr 1
      unfold strV
      rw [show q = ⟨t.toArray⟩ from bytes_eq (by rw [h.1])]
theorem split_row (s : ByteArray) : Lib.countB s ⟨#[32]⟩ + 1 = (spl s.data.toList).length ∧ (Lib.splitB ⟨#[32]⟩ 0 (Lib.countB s ⟨#[32]⟩) s).map Value.string = (spl s.data.toList).map strV := by
  have h1 : Lib.countB s ⟨#[32]⟩ + 1 = (spl s.data.toList).length := count_spl s.data.toList
  refine ⟨h1, strs_of_data _ _ ?_⟩
  rw [Lib.splitB_data]
  exact splitK_spl _ _ h1.symm
/-- What the loop keeps. -/
structure LoopSt (w wr : World) (gE gS j : Nat) (r : KD) (P : List (List UInt8)) (x : List UInt8) (a : Option Addr) (vs : List Int) : Prop where
  len : vs.length = j
  fit : AllI vs
  pre : P.take j = vs.map Lib.itoa
  bel : Below w.heap.size w wr
  res : wr.heap[w.heap.size]? = some (.cells #[.int .i64 0, .int .i64 0, .int .i64 0, .int .i64 0, .int .i64 0, .int .i64 0, .int .i64 0, .int .i64 0, .int .i64 0, .int .i64 0, .int .i64 0] 29 (0, 0))
  box : wr.heap[gE]? = some (.cells (build r vs).cells 29 (0, 0))
  row : wr.heap[gS]? = some (.cells (((x :: P).map strV).toArray) 9 (0, 0))
  ptr : ∀ (q o : Nat), r.offs[q]? = some o → ∃ b c, a = some ⟨b, c, none⟩ ∧ gE < b ∧ wr.cell? ⟨b, c + q, none⟩ = some (.pointer (some ⟨gE, o, none⟩))
theorem LoopSt.below {w wr w' : World} {gE gS j : Nat} {r : KD} {P : List (List UInt8)} {x : List UInt8} {a : Option Addr} {vs : List Int} (h : LoopSt w wr gE gS j r P x a vs) (hb : Below wr.heap.size wr w') : LoopSt w w' gE gS j r P x a vs :=
  ⟨h.len, h.fit, h.pre, h.bel.trans (hb.mono h.bel.size), heap_below hb h.res, heap_below hb h.box, heap_below hb h.row, fun q o ho => (h.ptr q o ho).elim fun b h1 => h1.elim fun c h2 => ⟨b, c, h2.1, h2.2.1, cell_below hb h2.2.2⟩⟩
theorem LoopSt.put {w wr : World} {gE gS j o : Nat} {r : KD} {P : List (List UInt8)} {x t : List UInt8} {a : Option Addr} {vs : List Int} {n : Int} (h : LoopSt w wr gE gS j r P x a vs) (hr : r ∈ kinds) (hw : w.heap.size < gE) (hs : gE ≠ gS) (ho : r.offs[j]? = some o) (ht : P[j]? = some t) (hn : I64 n) (he : Lib.itoa n = t) :
    LoopSt w (wr.setCell ⟨gE, o, none⟩ (.int .i64 n)) gE gS (j + 1) r P x a (vs ++ [n]) := by
  have hob := offs_bd hr ho
  have hl := h.len
  subst hl
  refine ⟨by simp, ?_, ?_, h.bel.setCell (by simp; omega) _, ?_, ?_, ?_, fun q p hp => ?_⟩
  · intro y hy
    rcases List.mem_append.1 hy with hy | hy
    · exact h.fit y hy
    · simp only [List.mem_cons, List.not_mem_nil, or_false] at hy
      rw [hy]; exact hn
  · obtain ⟨hlt, hg⟩ := List.getElem?_eq_some_iff.1 ht
    rw [List.take_succ_eq_append_getElem hlt, h.pre, List.map_append, hg, ← he]
    rfl
  · exact (heap_setCell_other wr ⟨gE, o, none⟩ w.heap.size _ (by simp; omega)).trans h.res
  · rw [build_snoc ho, setF_cells _ _ _ hob.1 hob.2]
    exact heap_setCell_same wr gE o _ _ _ h.box
  · exact (heap_setCell_other wr ⟨gE, o, none⟩ gS _ (by simp; omega)).trans h.row
  · obtain ⟨b, c, h1, h2, h3⟩ := h.ptr q p hp
    exact ⟨b, c, h1, h2, cell_set_other h3 (by simp; omega)⟩

set_option maxRecDepth 100000 in
set_option maxHeartbeats 16000000 in
theorem iread_any (s : ByteArray) (hs : s.size ≤ 1048576) (w : World) (ht : TabP w) (m : Int) (hm : w.cell? ⟨0, 0, none⟩ = some (.int .i64 m)) :
    Calls Tryd.prog 11 #[.string s] w fun e w' => ReadE s.data.toList e ∧ Below w.heap.size w w' := by
  have hb := Lib.hid (below_box w (.cells #[.int .i64 0, .int .i64 0, .int .i64 0, .int .i64 0, .int .i64 0, .int .i64 0, .int .i64 0, .int .i64 0, .int .i64 0, .int .i64 0, .int .i64 0] 29))
  have hR := Lib.hid (box_new w (.cells #[.int .i64 0, .int .i64 0, .int .i64 0, .int .i64 0, .int .i64 0, .int .i64 0, .int .i64 0, .int .i64 0, .int .i64 0, .int .i64 0, .int .i64 0] 29))
  have hlt := Lib.hid (show w.heap.size < (w.alloc (.cells #[.int .i64 0, .int .i64 0, .int .i64 0, .int .i64 0, .int .i64 0, .int .i64 0, .int .i64 0, .int .i64 0, .int .i64 0, .int .i64 0, .int .i64 0] 29)).heap.size by rw [World.size_alloc]; omega)
  have ht' := Lib.hid ht
  have hm' := Lib.hid hm
  obtain ⟨x, P, hP⟩ : ∃ x P, spl s.data.toList = x :: P := by
    cases h : spl s.data.toList with
    | nil => exact absurd h (spl_ne _)
    | cons a t => exact ⟨a, t, rfl⟩
  have hcx : (Lib.cut s.data.toList [32]).1 = x := by rw [cut_spl, hP]; rfl
  have hcut := Lib.hid (fun (W : World) (hW : W.cell? ⟨0, 0, none⟩ = some (.int .i64 m)) => (show ∃ (Y : ByteArray) (b : Bool), Calls Tryd.prog 31 #[.string s, .string ⟨#[32]⟩] W fun e w' => e = .returned (.tuple #[.string ⟨x.toArray⟩, .string Y, .bool b]) ∧ Below W.heap.size W w' from
    ⟨_, _, (Tryd.strings_Cut s ⟨#[32]⟩ m W (by omega) hW).mono fun e w' ⟨h1, n, h2⟩ => ⟨by rw [h1, ← hcx], by rw [h2]; exact below_drewN' n⟩⟩))
  have hcnt := Lib.hid (fun (W : World) => (show Calls Tryd.prog 33 #[.string s, .string ⟨#[32]⟩] W fun e w' => e = .returned (.int .i64 (P.length : Int)) ∧ W = w' from
    (Tryd.strings_Count_one s 32 W).mono fun e w' ⟨h1, h2⟩ => ⟨by
      have h3 := countByte_spl s.data.toList
      rw [hP, List.length_cons] at h3
      rw [h1]
      congr 2
      omega, h2.symm⟩))
  have hsplit := Lib.hid (fun (W : World) (hW : W.cell? ⟨0, 0, none⟩ = some (.int .i64 m)) => (show Calls Tryd.prog 34 #[.string s, .string ⟨#[32]⟩] W fun e w' => e = .returned (.slice (some ⟨W.heap.size, 0, none⟩) (P.length + 1) (P.length + 1)) ∧ w' = W.alloc (.cells (((x :: P).map strV).toArray) 9) from
    (Tryd.strings_Split s ⟨#[32]⟩ m W (by omega) hW (by decide)).mono fun e w' ⟨h1, h2⟩ => by
      obtain ⟨h3, h4⟩ := split_row s
      rw [hP, List.length_cons] at h3
      rw [hP] at h4
      rw [h4] at h2
      have h5 : Lib.countB s ⟨#[32]⟩ = P.length := by omega
      rw [h5] at h1
      exact ⟨h1, h2⟩))
  have hsh := Lib.hid (fun t (h : t ∈ P) => show t.length ≤ 1048576 by
    have h1 := spl_short (s := s.data.toList) (t := t) (by rw [hP]; exact List.mem_cons_of_mem _ h)
    have h2 : s.data.toList.length = s.size := by simp
    omega)
  have hpl : P.length ≤ 1048576 := by
    have h1 := countByte_spl s.data.toList
    rw [hP] at h1
    have h2 : Lib.countByte s.data.toList 32 ≤ s.data.toList.length := List.count_le_length
    have h3 : s.data.toList.length = s.size := by simp
    simp only [List.length_cons] at h1
    omega
  have hP' := Lib.hid hP
  generalize s.data.toList = l at *
  clear ht hm hP hcx
  go_enter Tryd.func11, Tryd.ntmps11
  go_wp2_with fail
  generalize w.alloc (.cells #[.int .i64 0, .int .i64 0, .int .i64 0, .int .i64 0, .int .i64 0, .int .i64 0, .int .i64 0, .int .i64 0, .int .i64 0, .int .i64 0, .int .i64 0] 29) = W at *
  obtain ⟨Y, bY, hc1⟩ := hcut.out W (cell_below hb.out hm'.out)
  refine hc1.mono ?_
  rintro e w2 ⟨rfl, b2⟩
  have b2' := Lib.hid b2
  clear hc1 b2
  go_wp2_with fail
  refine (inamed_any ⟨x.toArray⟩ w2).mono ?_
  rintro e w3 ⟨⟨E, bW, rfl, hN⟩, b3⟩
  have hN' := Lib.hid (show Named x E bW from hN)
  have HB3 := Lib.hid (hb.out.trans ((b2'.out.trans (b3.mono b2'.out.size)).mono hb.out.size))
  have hR3 := Lib.hid (heap_below b3 (heap_below b2'.out hR.out))
  have bE := Lib.hid (below_box w3 (.cells #[.int .i64 E.k, .int .i64 E.ok, .int .i64 E.m, .int .i64 E.h, .int .i64 E.g, .int .i64 E.i, .int .i64 E.n, .int .i64 E.v, .int .i64 E.en, .int .i64 E.base, .int .i64 E.pages] 29))
  have hxE := Lib.hid (box_new w3 (.cells #[.int .i64 E.k, .int .i64 E.ok, .int .i64 E.m, .int .i64 E.h, .int .i64 E.g, .int .i64 E.i, .int .i64 E.n, .int .i64 E.v, .int .i64 E.en, .int .i64 E.base, .int .i64 E.pages] 29))
  have HB5 := Lib.hid (below_trans HB3.out bE.out)
  have hR5 := Lib.hid (heap_below bE.out hR3.out)
  have hgE := Lib.hid (show w.heap.size < w3.heap.size by have h1 := hlt.out; have h2 := b2'.out.size; have h3 := b3.size; omega)
  have hgE5 := Lib.hid (show w3.heap.size < (w3.alloc (.cells #[.int .i64 E.k, .int .i64 E.ok, .int .i64 E.m, .int .i64 E.h, .int .i64 E.g, .int .i64 E.i, .int .i64 E.n, .int .i64 E.v, .int .i64 E.en, .int .i64 E.base, .int .i64 E.pages] 29)).heap.size by rw [World.size_alloc]; omega)
  clear hN b3
  have fld : ∀ (S : ByteArray) (a : Option Addr) (n c : Nat) (u : World), (Instr.field 52 (.agg #[.string S, .slice a n c]) 1).run Tryd.prog u = .ok (.slice a n c) u := fun _ _ _ _ _ => by kernel_rfl
  dsimp only [EvD.cells]
  go_upto_region 3 with fail
  generalize w3.alloc (.cells #[.int .i64 E.k, .int .i64 E.ok, .int .i64 E.m, .int .i64 E.h, .int .i64 E.g, .int .i64 E.i, .int .i64 E.n, .int .i64 E.v, .int .i64 E.en, .int .i64 E.base, .int .i64 E.pages] 29) = W5 at *
  generalize w3.heap.size = gE at *
  go_wp2_with fail
  refine (iline_any E gE W5 hxE.out).mono ?_
  rintro e w6 ⟨⟨S, a, c, rfl, hS, hp⟩, b6⟩
  have hR6 := Lib.hid (heap_below b6 hR5.out)
  have hE6 := Lib.hid (heap_below b6 hxE.out)
  have HB := Lib.hid (below_trans HB5.out b6)
  have hp' := Lib.hid hp
  have b6' := Lib.hid b6
  clear b6 hp hS
  rcases hN'.out with ⟨rfl, r, hr, hrw, hEr⟩ | ⟨rfl, hEz, hno⟩
  case inr =>
    have y := Lib.hid (show ReadIs l zeroE false from .inr ⟨rfl, rfl, fun ⟨r, vs, hl⟩ => by
      have h1 := hl.spl
      rw [hP'.out] at h1
      exact hno r hl.1 (List.cons.inj h1).1.symm⟩)
    generalize (evL E).2.length = nE at *
    clear hEz hno
    have r0 := cell_of_heap hR6.out 0 _ rfl
    have r1 := cell_of_heap hR6.out 1 _ rfl
    have r2 := cell_of_heap hR6.out 2 _ rfl
    have r3 := cell_of_heap hR6.out 3 _ rfl
    have r4 := cell_of_heap hR6.out 4 _ rfl
    have r5 := cell_of_heap hR6.out 5 _ rfl
    have r6 := cell_of_heap hR6.out 6 _ rfl
    have r7 := cell_of_heap hR6.out 7 _ rfl
    have r8 := cell_of_heap hR6.out 8 _ rfl
    have r9 := cell_of_heap hR6.out 9 _ rfl
    have r10 := cell_of_heap hR6.out 10 _ rfl
    have rf0 := frozen_of_heap hR6.out 0
    have rf1 := frozen_of_heap hR6.out 1
    have rf2 := frozen_of_heap hR6.out 2
    have rf3 := frozen_of_heap hR6.out 3
    have rf4 := frozen_of_heap hR6.out 4
    have rf5 := frozen_of_heap hR6.out 5
    have rf6 := frozen_of_heap hR6.out 6
    have rf7 := frozen_of_heap hR6.out 7
    have rf8 := frozen_of_heap hR6.out 8
    have rf9 := frozen_of_heap hR6.out 9
    have rf10 := frozen_of_heap hR6.out 10
    go_wp2_with fail
    refine bodyPost_ret (v := .tuple #[.agg #[.int .i64 0, .int .i64 0, .int .i64 0, .int .i64 0, .int .i64 0, .int .i64 0, .int .i64 0, .int .i64 0, .int .i64 0, .int .i64 0, .int .i64 0], .bool false]) (by simp [results, Tryd.results11, go_sem, r0, rf0, r1, rf1, r2, rf2, r3, rf3, r4, rf4, r5, rf5, r6, rf6, r7, rf7, r8, rf8, r9, rf9, r10, rf10]) rfl ?_
    refine ⟨⟨_, _, rfl, y.out⟩, ?_⟩
    repeat (refine Below.setCell ?_ (by simp) _)
    exact HB.out
  have hps : (evL E).2 = r.offs.map fun o => (o, 0) := by rw [hEr, evK_line hr]
  rw [hps] at hp'
  rw [hps, List.length_map]
  have hr' := Lib.hid hr
  have hrw' := Lib.hid hrw
  have hEr' := Lib.hid hEr
  have ho4 := (kinds_offs hr).1
  clear hr hrw hEr hps
  by_cases hcn : P.length = r.offs.length
  case neg =>
    have y := Lib.hid (show ReadIs l zeroE false from .inr ⟨rfl, rfl, fun ⟨q, vs, hl⟩ => by
      have h1 := hl.spl
      rw [hP'.out] at h1
      have h2 := kinds_inj hr'.out hl.1 (hrw'.out.trans (List.cons.inj h1).1)
      subst h2
      apply hcn
      rw [(List.cons.inj h1).2, List.length_map, hl.2.1]⟩)
    have hcb : ((P.length : Int) != (r.offs.length : Int)) = true := by rw [bne_iff_ne]; omega
    have hcb2 : (P.length != r.offs.length) = true := by rw [bne_iff_ne]; exact hcn
    clear hcn
    have r0 := cell_of_heap hR6.out 0 _ rfl
    have r1 := cell_of_heap hR6.out 1 _ rfl
    have r2 := cell_of_heap hR6.out 2 _ rfl
    have r3 := cell_of_heap hR6.out 3 _ rfl
    have r4 := cell_of_heap hR6.out 4 _ rfl
    have r5 := cell_of_heap hR6.out 5 _ rfl
    have r6 := cell_of_heap hR6.out 6 _ rfl
    have r7 := cell_of_heap hR6.out 7 _ rfl
    have r8 := cell_of_heap hR6.out 8 _ rfl
    have r9 := cell_of_heap hR6.out 9 _ rfl
    have r10 := cell_of_heap hR6.out 10 _ rfl
    have rf0 := frozen_of_heap hR6.out 0
    have rf1 := frozen_of_heap hR6.out 1
    have rf2 := frozen_of_heap hR6.out 2
    have rf3 := frozen_of_heap hR6.out 3
    have rf4 := frozen_of_heap hR6.out 4
    have rf5 := frozen_of_heap hR6.out 5
    have rf6 := frozen_of_heap hR6.out 6
    have rf7 := frozen_of_heap hR6.out 7
    have rf8 := frozen_of_heap hR6.out 8
    have rf9 := frozen_of_heap hR6.out 9
    have rf10 := frozen_of_heap hR6.out 10
    go_wp2_with fail
    refine (hcnt.out w6).mono ?_
    rintro e w' ⟨rfl, rfl⟩
    go_wp2_with fail
    refine bodyPost_ret (v := .tuple #[.agg #[.int .i64 0, .int .i64 0, .int .i64 0, .int .i64 0, .int .i64 0, .int .i64 0, .int .i64 0, .int .i64 0, .int .i64 0, .int .i64 0, .int .i64 0], .bool false]) (by simp [results, Tryd.results11, go_sem, r0, rf0, r1, rf1, r2, rf2, r3, rf3, r4, rf4, r5, rf5, r6, rf6, r7, rf7, r8, rf8, r9, rf9, r10, rf10]) rfl ?_
    refine ⟨⟨_, _, rfl, y.out⟩, ?_⟩
    repeat (refine Below.setCell ?_ (by simp) _)
    exact HB.out
  have hcb : ((P.length : Int) != (r.offs.length : Int)) = false := by rw [bne_eq_false_iff_eq]; omega
  have hcb2 : (P.length != r.offs.length) = false := by rw [bne_eq_false_iff_eq]; exact hcn
  have hm6 := Lib.hid (cell_below HB.out hm'.out)
  have hst0 := Lib.hid (show LoopSt w (w6.alloc (.cells (((x :: P).map strV).toArray) 9)) gE w6.heap.size 0 r P x a [] from
    ⟨rfl, (fun y hy => absurd hy List.not_mem_nil), rfl, below_trans HB.out (below_box w6 _), heap_below (below_box w6 _) hR6.out, (by rw [build_nil, ← hEr'.out]; exact heap_below (below_box w6 _) hE6.out), box_new w6 _, fun q o ho => by
      obtain ⟨b, o2, h1, h2, h3⟩ := hp'.out q (o, 0) (by rw [List.getElem?_map, ho]; rfl)
      exact ⟨b, o2, h1, by have := hgE5.out; omega, cell_below (below_box w6 _) h3⟩⟩)
  have hgS := Lib.hid (show gE < w6.heap.size by have h1 := hgE5.out; have h2 := b6'.out.size; omega)
  have h7z := Lib.hid (show w6.heap.size < (w6.alloc (.cells (((x :: P).map strV).toArray) 9)).heap.size by rw [World.size_alloc]; omega)
  have hP1 : (1 : Int) ≤ (P.length : Int) + 1 := by omega
  have hP2 : 1 ≤ P.length + 1 := by omega
  go_wp2_with fail
  refine (hcnt.out w6).mono ?_
  rintro e w' ⟨rfl, rfl⟩
  go_wp2_with fail
  refine (hsplit.out w6 hm6.out).mono ?_
  rintro e w7 ⟨rfl, h7⟩
  rw [← h7] at hst0 h7z
  clear h7
  generalize w6.heap.size = gS at *
  have hfin := Lib.hid (fun (vs : List Int) (hv : AllI vs) (hl : vs.length = r.offs.length) (hp : P = vs.map Lib.itoa) => (show ReadIs l (build r vs) true from .inl ⟨rfl, r, vs, ⟨hr'.out, hl, hv, line_spl (by rw [hP'.out, hp, hrw'.out])⟩, rfl⟩))
  have hbad := Lib.hid (fun (j : Nat) (t : List UInt8) (ht : P[j]? = some t) (hn : ∀ n, I64 n → Lib.itoa n ≠ t) => (show ReadIs l zeroE false from .inr ⟨rfl, rfl, fun ⟨q, vs, hl⟩ => by
    have h1 := hl.spl
    rw [hP'.out] at h1
    have h2 := (List.cons.inj h1).2
    rw [h2, List.getElem?_map] at ht
    obtain ⟨n, h3, h4⟩ := Option.map_eq_some_iff.1 ht
    exact hn n (hl.2.2.1 n (List.mem_of_getElem? h3)) h4⟩))
  clear hm6 hE6 hR6 hEr' hp' hcnt hsplit hcut
  by_cases hz : r.offs = []
  case pos =>
    have hPn : P = [] := List.eq_nil_of_length_eq_zero (by rw [hcn, hz]; rfl)
    have y := Lib.hid (hfin.out [] (fun y hy => absurd hy List.not_mem_nil) (by rw [hz]; rfl) (by rw [hPn]; rfl))
    have r0x := hst0.out.res
    have e0x := hst0.out.box
    have hB0 := Lib.hid hst0.out.bel
    generalize build r [] = E2 at *
    dsimp only [EvD.cells] at e0x
    have r0 := cell_of_heap r0x 0 _ rfl
    have r1 := cell_of_heap r0x 1 _ rfl
    have r2 := cell_of_heap r0x 2 _ rfl
    have r3 := cell_of_heap r0x 3 _ rfl
    have r4 := cell_of_heap r0x 4 _ rfl
    have r5 := cell_of_heap r0x 5 _ rfl
    have r6 := cell_of_heap r0x 6 _ rfl
    have r7 := cell_of_heap r0x 7 _ rfl
    have r8 := cell_of_heap r0x 8 _ rfl
    have r9 := cell_of_heap r0x 9 _ rfl
    have r10 := cell_of_heap r0x 10 _ rfl
    have rf0 := frozen_of_heap r0x 0
    have rf1 := frozen_of_heap r0x 1
    have rf2 := frozen_of_heap r0x 2
    have rf3 := frozen_of_heap r0x 3
    have rf4 := frozen_of_heap r0x 4
    have rf5 := frozen_of_heap r0x 5
    have rf6 := frozen_of_heap r0x 6
    have rf7 := frozen_of_heap r0x 7
    have rf8 := frozen_of_heap r0x 8
    have rf9 := frozen_of_heap r0x 9
    have rf10 := frozen_of_heap r0x 10
    have e0 := cell_of_heap e0x 0 _ rfl
    have e1 := cell_of_heap e0x 1 _ rfl
    have e2 := cell_of_heap e0x 2 _ rfl
    have e3 := cell_of_heap e0x 3 _ rfl
    have e4 := cell_of_heap e0x 4 _ rfl
    have e5 := cell_of_heap e0x 5 _ rfl
    have e6 := cell_of_heap e0x 6 _ rfl
    have e7 := cell_of_heap e0x 7 _ rfl
    have e8 := cell_of_heap e0x 8 _ rfl
    have e9 := cell_of_heap e0x 9 _ rfl
    have e10 := cell_of_heap e0x 10 _ rfl
    have ef0 := frozen_of_heap e0x 0
    have ef1 := frozen_of_heap e0x 1
    have ef2 := frozen_of_heap e0x 2
    have ef3 := frozen_of_heap e0x 3
    have ef4 := frozen_of_heap e0x 4
    have ef5 := frozen_of_heap e0x 5
    have ef6 := frozen_of_heap e0x 6
    have ef7 := frozen_of_heap e0x 7
    have ef8 := frozen_of_heap e0x 8
    have ef9 := frozen_of_heap e0x 9
    have ef10 := frozen_of_heap e0x 10
    clear hst0 r0x e0x hfin hbad hPn
    go_wp2_with fail
    go_loopw [41] (fun i wr => i = .int .i64 0 ∧ wr = w7) (fun _ _ => 0)
    case atStart => exact ⟨rfl, rfl⟩
    case round =>
      obtain ⟨rfl, rfl⟩ := hrel
      go_wp2_with fail
      refine bodyPost_ret (v := .tuple #[.agg #[.int .i64 E2.k, .int .i64 E2.ok, .int .i64 E2.m, .int .i64 E2.h, .int .i64 E2.g, .int .i64 E2.i, .int .i64 E2.n, .int .i64 E2.v, .int .i64 E2.en, .int .i64 E2.base, .int .i64 E2.pages], .bool true]) (by simp [results, Tryd.results11, go_sem, r0, rf0, r1, rf1, r2, rf2, r3, rf3, r4, rf4, r5, rf5, r6, rf6, r7, rf7, r8, rf8, r9, rf9, r10, rf10]) rfl ?_
      refine ⟨⟨_, _, rfl, y.out⟩, ?_⟩
      repeat (refine Below.setCell ?_ (by simp) _)
      exact hB0.out
  case neg =>
    have hz0 : r.offs.length ≠ 0 := fun h => hz (List.eq_nil_of_length_eq_zero h)
    go_wp2_with fail
    go_loopw [41] (fun i wr => ∃ (j : Nat) (vs : List Int), j ≤ r.offs.length ∧ i = .int .i64 j ∧ Hid (LoopSt w wr gE gS j r P x a vs)) (fun i _ => r.offs.length - (Go.RowKit.intOf i).toNat)
    case atStart => exact ⟨0, [], Nat.zero_le _, rfl, hst0⟩
    case round =>
      obtain ⟨j, vs, hj, rfl, hst⟩ := hrel
      by_cases hlt : j < r.offs.length
      · obtain ⟨o, ho⟩ : ∃ o, r.offs[j]? = some o := ⟨_, List.getElem?_eq_getElem hlt⟩
        obtain ⟨t, hPt⟩ : ∃ t, P[j]? = some t := ⟨_, List.getElem?_eq_getElem (by omega)⟩
        obtain ⟨b, o2, rfl, hgb, x0⟩ := hst.out.ptr j o ho
        have s0 := cell_of_heap hst.out.row (1 + j) (strV t) (by rw [Nat.add_comm]; simp [hPt])
        have hlt' : (j : Int) < (r.offs.length : Int) := by omega
        have hdec := Lib.hid (idec_any ⟨t.toArray⟩ wr (ht'.out.below hst.out.bel) (by
          have := hsh.out t (List.mem_of_getElem? hPt)
          simpa [ByteArray.size] using this))
        go_wp2_with fail
        refine hdec.out.mono ?_
        rintro e w8 ⟨⟨n, bn, rfl, hnum⟩, b8⟩
        have hst8 := Lib.hid (hst.out.below b8)
        have x8 := cell_below b8 x0
        clear hst b8 x0 s0 hdec
        rcases hnum with ⟨rfl, hI, hit⟩ | ⟨rfl, rfl, hno⟩
        · have hob := offs_bd hr'.out ho
          have hnew := Lib.hid (hst8.out.put hr'.out hgE.out (by have := hgS.out; omega) ho hPt hI hit)
          have hl8 := hst8.out.len
          have hcx := hst8.out.box
          have hfz := frozen_of_heap hcx o
          obtain ⟨v0, hcell⟩ : ∃ v0, w8.cell? ⟨gE, o, none⟩ = some v0 := by
            have hsz : o < (build r vs).cells.size := by
              have : (build r vs).cells.size = 11 := rfl
              omega
            exact ⟨_, cell_of_heap hcx o _ (Array.getElem?_eq_getElem hsz)⟩
          clear hI hit hPt hfin hbad hst8 hcx hob ho
          go_wp2_with fail
          go_roundw
          case rel => exact ⟨j + 1, vs ++ [n], by omega, by go_num, hnew⟩
          case measure => simp [Go.RowKit.intOf]; omega
        · have y := Lib.hid (hbad.out j t hPt hno)
          have hRx := hst8.out.res
          have hB8 := Lib.hid hst8.out.bel
          have r0 := cell_of_heap hRx 0 _ rfl
          have r1 := cell_of_heap hRx 1 _ rfl
          have r2 := cell_of_heap hRx 2 _ rfl
          have r3 := cell_of_heap hRx 3 _ rfl
          have r4 := cell_of_heap hRx 4 _ rfl
          have r5 := cell_of_heap hRx 5 _ rfl
          have r6 := cell_of_heap hRx 6 _ rfl
          have r7 := cell_of_heap hRx 7 _ rfl
          have r8 := cell_of_heap hRx 8 _ rfl
          have r9 := cell_of_heap hRx 9 _ rfl
          have r10 := cell_of_heap hRx 10 _ rfl
          have rf0 := frozen_of_heap hRx 0
          have rf1 := frozen_of_heap hRx 1
          have rf2 := frozen_of_heap hRx 2
          have rf3 := frozen_of_heap hRx 3
          have rf4 := frozen_of_heap hRx 4
          have rf5 := frozen_of_heap hRx 5
          have rf6 := frozen_of_heap hRx 6
          have rf7 := frozen_of_heap hRx 7
          have rf8 := frozen_of_heap hRx 8
          have rf9 := frozen_of_heap hRx 9
          have rf10 := frozen_of_heap hRx 10
          clear hno hPt hfin hbad hst8 hRx ho x8
          go_wp2_with fail
          refine bodyPost_ret (v := .tuple #[.agg #[.int .i64 0, .int .i64 0, .int .i64 0, .int .i64 0, .int .i64 0, .int .i64 0, .int .i64 0, .int .i64 0, .int .i64 0, .int .i64 0, .int .i64 0], .bool false]) (by simp [results, Tryd.results11, go_sem, r0, rf0, r1, rf1, r2, rf2, r3, rf3, r4, rf4, r5, rf5, r6, rf6, r7, rf7, r8, rf8, r9, rf9, r10, rf10]) rfl ?_
          refine ⟨⟨_, _, rfl, y.out⟩, ?_⟩
          repeat (refine Below.setCell ?_ (by simp) _)
          exact hB8.out
      · obtain rfl : j = r.offs.length := by omega
        have hl8 := hst.out.len
        have hpre := hst.out.pre
        rw [List.take_of_length_le (by omega)] at hpre
        have y := Lib.hid (hfin.out vs hst.out.fit hl8 hpre)
        have r0x := hst.out.res
        have e0x := hst.out.box
        have hB8 := Lib.hid hst.out.bel
        generalize build r vs = E2 at *
        dsimp only [EvD.cells] at e0x
        have r0 := cell_of_heap r0x 0 _ rfl
        have r1 := cell_of_heap r0x 1 _ rfl
        have r2 := cell_of_heap r0x 2 _ rfl
        have r3 := cell_of_heap r0x 3 _ rfl
        have r4 := cell_of_heap r0x 4 _ rfl
        have r5 := cell_of_heap r0x 5 _ rfl
        have r6 := cell_of_heap r0x 6 _ rfl
        have r7 := cell_of_heap r0x 7 _ rfl
        have r8 := cell_of_heap r0x 8 _ rfl
        have r9 := cell_of_heap r0x 9 _ rfl
        have r10 := cell_of_heap r0x 10 _ rfl
        have rf0 := frozen_of_heap r0x 0
        have rf1 := frozen_of_heap r0x 1
        have rf2 := frozen_of_heap r0x 2
        have rf3 := frozen_of_heap r0x 3
        have rf4 := frozen_of_heap r0x 4
        have rf5 := frozen_of_heap r0x 5
        have rf6 := frozen_of_heap r0x 6
        have rf7 := frozen_of_heap r0x 7
        have rf8 := frozen_of_heap r0x 8
        have rf9 := frozen_of_heap r0x 9
        have rf10 := frozen_of_heap r0x 10
        have e0 := cell_of_heap e0x 0 _ rfl
        have e1 := cell_of_heap e0x 1 _ rfl
        have e2 := cell_of_heap e0x 2 _ rfl
        have e3 := cell_of_heap e0x 3 _ rfl
        have e4 := cell_of_heap e0x 4 _ rfl
        have e5 := cell_of_heap e0x 5 _ rfl
        have e6 := cell_of_heap e0x 6 _ rfl
        have e7 := cell_of_heap e0x 7 _ rfl
        have e8 := cell_of_heap e0x 8 _ rfl
        have e9 := cell_of_heap e0x 9 _ rfl
        have e10 := cell_of_heap e0x 10 _ rfl
        have ef0 := frozen_of_heap e0x 0
        have ef1 := frozen_of_heap e0x 1
        have ef2 := frozen_of_heap e0x 2
        have ef3 := frozen_of_heap e0x 3
        have ef4 := frozen_of_heap e0x 4
        have ef5 := frozen_of_heap e0x 5
        have ef6 := frozen_of_heap e0x 6
        have ef7 := frozen_of_heap e0x 7
        have ef8 := frozen_of_heap e0x 8
        have ef9 := frozen_of_heap e0x 9
        have ef10 := frozen_of_heap e0x 10
        clear hst r0x e0x hfin hbad hpre
        go_wp2_with fail
        refine bodyPost_ret (v := .tuple #[.agg #[.int .i64 E2.k, .int .i64 E2.ok, .int .i64 E2.m, .int .i64 E2.h, .int .i64 E2.g, .int .i64 E2.i, .int .i64 E2.n, .int .i64 E2.v, .int .i64 E2.en, .int .i64 E2.base, .int .i64 E2.pages], .bool true]) (by simp [results, Tryd.results11, go_sem, r0, rf0, r1, rf1, r2, rf2, r3, rf3, r4, rf4, r5, rf5, r6, rf6, r7, rf7, r8, rf8, r9, rf9, r10, rf10]) rfl ?_
        refine ⟨⟨_, _, rfl, y.out⟩, ?_⟩
        repeat (refine Below.setCell ?_ (by simp) _)
        exact hB8.out
end Go.Proofs.YtjldjeokcpjgkaaDoor

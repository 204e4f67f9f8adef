/-
  The program's eventNamed: the event that is written with a word.
-/
import Derived.Test.YtjldjeokcpjgkaaDoorTxK
import Derived.Test.YtjldjeokcpjgkaaDoorTxU
namespace Go.Proofs.YtjldjeokcpjgkaaDoor
open Go.RowKit
set_option linter.unusedVariables false
set_option linter.unusedSimpArgs false

def Named (x : List UInt8) (E : EvD) (b : Bool) : Prop := (b = true ∧ ∃ r, r ∈ kinds ∧ r.word = x ∧ E = evK r.k r.ok) ∨ (b = false ∧ E = zeroE ∧ ∀ r, r ∈ kinds → r.word ≠ x)
def NamedE (x : List UInt8) (e : Ending) : Prop := ∃ (E : EvD) (b : Bool), e = .returned (.tuple #[.agg E.cells, .bool b]) ∧ Named x E b
theorem evK_line {r : KD} (hr : r ∈ kinds) : evL (evK r.k r.ok) = (r.word, r.offs.map fun o => (o, 0)) := by
  simp only [kinds, List.mem_cons, List.not_mem_nil, or_false] at hr
  rcases hr with rfl | rfl | rfl | rfl | rfl | rfl | rfl | rfl | rfl | rfl | rfl | rfl | rfl | rfl | rfl <;> rfl
theorem rows_at {w : World} {base n : Nat} {v : Value} {L : List EvD} (h : w.ownsRow base 29 11 v n (flatE L)) (hl : L.length = n) (hn : 0 < n) : ∃ g cap, v = .slice (some ⟨g, 0, none⟩) n cap ∧ ∀ (j : Nat) E, L[j]? = some E → RdEv w g (j * 11) E := by
  subst hl
  rcases id h.2 with ⟨_, h0⟩ | ⟨g, cap, cur, rfl, _, hg, hnc, _⟩
  · omega
  · refine ⟨g, cap, rfl, fun j E hE i x hx => ?_⟩
    have hj := (List.getElem?_eq_some_iff.1 hE).1
    have hi : i < 11 := by have := (Array.getElem?_eq_some_iff.1 hx).1; simpa [EvD.cells] using this
    rw [h.cellAt (j * 11 + i) (by omega)]
    have e : L = L.take j ++ E :: L.drop (j + 1) := by
      have hE' : L[j] = E := (List.getElem?_eq_some_iff.1 hE).2
      rw [← hE', List.getElem_cons_drop, List.take_append_drop]
    have hl2 : (flatE (L.take j)).length = j * 11 := by rw [flatE_len, List.length_take]; congr 1; omega
    have e2 : flatE L = flatE (L.take j) ++ (E.cells.toList ++ flatE (L.drop (j + 1))) := by
      conv => lhs; rw [e]
      simp [flatE]
    rw [e2, List.getElem?_append_right (by omega), hl2, show j * 11 + i - j * 11 = i by omega, List.getElem?_append_left (by simp [EvD.cells]; omega)]
    simpa using hx

set_option maxRecDepth 100000 in
set_option maxHeartbeats 8000000 in
theorem inamed_any (X : ByteArray) (w : World) : Calls Tryd.prog 32 #[.string X] w fun e w' => NamedE X.data.toList e ∧ Below w.heap.size w w' := by
  have hb := Lib.hid (below_box w (.cells #[.int .i64 0, .int .i64 0, .int .i64 0, .int .i64 0, .int .i64 0, .int .i64 0, .int .i64 0, .int .i64 0, .int .i64 0, .int .i64 0, .int .i64 0] 29))
  have hR := Lib.hid (box_new w (.cells #[.int .i64 0, .int .i64 0, .int .i64 0, .int .i64 0, .int .i64 0, .int .i64 0, .int .i64 0, .int .i64 0, .int .i64 0, .int .i64 0, .int .i64 0] 29))
  have hX := Lib.hid (show X.toList = X.data.toList from ByteArray.toList_eq ..)
  have fld : ∀ (S : ByteArray) (a : Option Addr) (n c : Nat) (u : World), (Instr.field 52 (.agg #[.string S, .slice a n c]) 0).run Tryd.prog u = .ok (.string S) u := fun _ _ _ _ _ => by kernel_rfl
  generalize X.data.toList = l at *
  go_enter Tryd.func32, Tryd.ntmps32
  go_wp2_with fail
  generalize w.alloc (.cells #[.int .i64 0, .int .i64 0, .int .i64 0, .int .i64 0, .int .i64 0, .int .i64 0, .int .i64 0, .int .i64 0, .int .i64 0, .int .i64 0, .int .i64 0] 29) = W at *
  refine (iwritten_any W).mono ?_
  rintro e w2 ⟨v, rfl, hown, b2⟩
  obtain ⟨gL, cL, rfl, hrow⟩ := rows_at hown rfl (by decide)
  have hrow' := Lib.hid hrow
  have b2' := Lib.hid b2
  clear hown hrow b2
  go_wp2_with fail
  go_loopw [8] (fun i wr => ∃ k : Nat, k ≤ 15 ∧ i = .int .i64 k ∧ Hid (∀ (j : Nat) r, j < k → kinds[j]? = some r → r.word ≠ l) ∧ Below w2.heap.size w2 wr) (fun i _ => 15 - (Go.RowKit.intOf i).toNat)
  case atStart => exact ⟨0, by omega, rfl, Lib.hid (fun j r h => absurd h (by omega)), Below.refl _ _⟩
  case round =>
    obtain ⟨k, hk, rfl, hno, hB⟩ := hrel
    by_cases hlt : k < 15
    · have hlt1 : (k : Int) < 15 := by omega
      obtain ⟨r, hr⟩ : ∃ r, kinds[k]? = some r := ⟨_, List.getElem?_eq_getElem (by exact hlt)⟩
      have hm := List.mem_of_getElem? hr
      obtain ⟨E, hE⟩ : ∃ E, E = evK r.k r.ok := ⟨_, rfl⟩
      have hLk : (list2 6)[k]? = some E := by rw [list2_all, List.getElem?_map, hr, hE]; rfl
      obtain ⟨x0, x1, x2, x3, x4, x5, x6, x7, x8, x9, x10⟩ := ((hrow'.out k E hLk).below hB).all
      have hev := Lib.hid (show (evL E).1 = r.word by rw [hE, evK_line hm])
      have hE' := Lib.hid hE
      have hr' := Lib.hid hr
      have bE := Lib.hid (below_box wr (.cells #[.int .i64 E.k, .int .i64 E.ok, .int .i64 E.m, .int .i64 E.h, .int .i64 E.g, .int .i64 E.i, .int .i64 E.n, .int .i64 E.v, .int .i64 E.en, .int .i64 E.base, .int .i64 E.pages] 29))
      have hxE := Lib.hid (box_new wr (.cells #[.int .i64 E.k, .int .i64 E.ok, .int .i64 E.m, .int .i64 E.h, .int .i64 E.g, .int .i64 E.i, .int .i64 E.n, .int .i64 E.v, .int .i64 E.en, .int .i64 E.base, .int .i64 E.pages] 29))
      have hBE := Lib.hid (hB.trans (bE.out.mono hB.size))
      have hR5 := Lib.hid (heap_below (b2'.out.trans (hBE.out.mono b2'.out.size)) hR.out)
      have HB5 := Lib.hid (below_trans hb.out (b2'.out.trans (hBE.out.mono b2'.out.size)))
      clear hB hLk hE hr hm
      go_upto_region 4 with fail
      generalize wr.alloc (.cells #[.int .i64 E.k, .int .i64 E.ok, .int .i64 E.m, .int .i64 E.h, .int .i64 E.g, .int .i64 E.i, .int .i64 E.n, .int .i64 E.v, .int .i64 E.en, .int .i64 E.base, .int .i64 E.pages] 29) = W5 at *
      generalize wr.heap.size = gE at *
      clear x0 x1 x2 x3 x4 x5 x6 x7 x8 x9 x10
      go_wp2_with fail
      refine (iline_any E gE W5 hxE.out).mono ?_
      rintro e w6 ⟨⟨S, a, c, rfl, hS, _⟩, b6⟩
      have hR6 := Lib.hid (heap_below b6 hR5.out)
      have hE6 := Lib.hid (heap_below b6 hxE.out)
      have hB6 := Lib.hid (hBE.out.trans (b6.mono hBE.out.size))
      have HB := Lib.hid (below_trans HB5.out b6)
      have hSt : S.toList = r.word := by rw [ByteArray.toList_eq, hS, hev.out]
      clear b6 hS
      generalize (evL E).2.length = nE at *
      by_cases he : r.word = l
      · have y := Lib.hid (show Named l E true from .inl ⟨rfl, r, List.mem_of_getElem? hr'.out, he, hE'.out⟩)
        have hcmp : (S.toList == X.toList) = true := by rw [hSt, hX.out, he]; exact beq_self_eq_true l
        clear hSt he
        have r0 := cell_of_heap hR6.out 0 _ rfl
        have r1 := cell_of_heap hR6.out 1 _ rfl
        have r2 := cell_of_heap hR6.out 2 _ rfl
        have r3 := cell_of_heap hR6.out 3 _ rfl
        have r4 := cell_of_heap hR6.out 4 _ rfl
        have r5 := cell_of_heap hR6.out 5 _ rfl
        have r6 := cell_of_heap hR6.out 6 _ rfl
        have r7 := cell_of_heap hR6.out 7 _ rfl
        have r8 := cell_of_heap hR6.out 8 _ rfl
        have r9 := cell_of_heap hR6.out 9 _ rfl
        have r10 := cell_of_heap hR6.out 10 _ rfl
        have rf0 := frozen_of_heap hR6.out 0
        have rf1 := frozen_of_heap hR6.out 1
        have rf2 := frozen_of_heap hR6.out 2
        have rf3 := frozen_of_heap hR6.out 3
        have rf4 := frozen_of_heap hR6.out 4
        have rf5 := frozen_of_heap hR6.out 5
        have rf6 := frozen_of_heap hR6.out 6
        have rf7 := frozen_of_heap hR6.out 7
        have rf8 := frozen_of_heap hR6.out 8
        have rf9 := frozen_of_heap hR6.out 9
        have rf10 := frozen_of_heap hR6.out 10
        have u0 := cell_of_heap hE6.out 0 _ rfl
        have u1 := cell_of_heap hE6.out 1 _ rfl
        have u2 := cell_of_heap hE6.out 2 _ rfl
        have u3 := cell_of_heap hE6.out 3 _ rfl
        have u4 := cell_of_heap hE6.out 4 _ rfl
        have u5 := cell_of_heap hE6.out 5 _ rfl
        have u6 := cell_of_heap hE6.out 6 _ rfl
        have u7 := cell_of_heap hE6.out 7 _ rfl
        have u8 := cell_of_heap hE6.out 8 _ rfl
        have u9 := cell_of_heap hE6.out 9 _ rfl
        have u10 := cell_of_heap hE6.out 10 _ rfl
        go_wp2_with fail
        refine bodyPost_ret (v := .tuple #[.agg #[.int .i64 E.k, .int .i64 E.ok, .int .i64 E.m, .int .i64 E.h, .int .i64 E.g, .int .i64 E.i, .int .i64 E.n, .int .i64 E.v, .int .i64 E.en, .int .i64 E.base, .int .i64 E.pages], .bool true]) (by simp [results, Tryd.results32, go_sem, r0, rf0, r1, rf1, r2, rf2, r3, rf3, r4, rf4, r5, rf5, r6, rf6, r7, rf7, r8, rf8, r9, rf9, r10, rf10]) rfl ?_
        refine ⟨⟨_, _, rfl, y.out⟩, ?_⟩
        repeat (refine Below.setCell ?_ (by simp) _)
        exact HB.out
      · have hno2 := Lib.hid (show ∀ (j : Nat) r, j < k + 1 → kinds[j]? = some r → r.word ≠ l from fun j q hj hq => by
          by_cases hjk : j = k
          · subst hjk
            rw [hr'.out] at hq
            cases hq
            exact he
          · exact hno.out j q (by omega) hq)
        have hcmp : (S.toList == X.toList) = false := by rw [hSt, hX.out]; exact beq_eq_false_iff_ne.2 he
        clear hSt he hno
        go_wp2_with fail
        go_roundw
        case rel => exact ⟨k + 1, by omega, by go_num, hno2, hB6.out⟩
        case measure => simp [Go.RowKit.intOf]; omega
    · obtain rfl : k = 15 := by omega
      have y := Lib.hid (show Named l zeroE false from .inr ⟨rfl, rfl, fun r hr => by
        obtain ⟨j, hj⟩ := List.mem_iff_getElem?.1 hr
        exact hno.out j r (List.getElem?_eq_some_iff.1 hj).1 hj⟩)
      have hR6 := Lib.hid (heap_below (b2'.out.trans (hB.mono b2'.out.size)) hR.out)
      have HB := Lib.hid (below_trans hb.out (b2'.out.trans (hB.mono b2'.out.size)))
      clear hB hno
      have r0 := cell_of_heap hR6.out 0 _ rfl
      have r1 := cell_of_heap hR6.out 1 _ rfl
      have r2 := cell_of_heap hR6.out 2 _ rfl
      have r3 := cell_of_heap hR6.out 3 _ rfl
      have r4 := cell_of_heap hR6.out 4 _ rfl
      have r5 := cell_of_heap hR6.out 5 _ rfl
      have r6 := cell_of_heap hR6.out 6 _ rfl
      have r7 := cell_of_heap hR6.out 7 _ rfl
      have r8 := cell_of_heap hR6.out 8 _ rfl
      have r9 := cell_of_heap hR6.out 9 _ rfl
      have r10 := cell_of_heap hR6.out 10 _ rfl
      have rf0 := frozen_of_heap hR6.out 0
      have rf1 := frozen_of_heap hR6.out 1
      have rf2 := frozen_of_heap hR6.out 2
      have rf3 := frozen_of_heap hR6.out 3
      have rf4 := frozen_of_heap hR6.out 4
      have rf5 := frozen_of_heap hR6.out 5
      have rf6 := frozen_of_heap hR6.out 6
      have rf7 := frozen_of_heap hR6.out 7
      have rf8 := frozen_of_heap hR6.out 8
      have rf9 := frozen_of_heap hR6.out 9
      have rf10 := frozen_of_heap hR6.out 10
      go_wp2_with fail
      refine bodyPost_ret (v := .tuple #[.agg #[.int .i64 0, .int .i64 0, .int .i64 0, .int .i64 0, .int .i64 0, .int .i64 0, .int .i64 0, .int .i64 0, .int .i64 0, .int .i64 0, .int .i64 0], .bool false]) (by simp [results, Tryd.results32, go_sem, r0, rf0, r1, rf1, r2, rf2, r3, rf3, r4, rf4, r5, rf5, r6, rf6, r7, rf7, r8, rf8, r9, rf9, r10, rf10]) rfl ?_
      refine ⟨⟨_, _, rfl, y.out⟩, ?_⟩
      repeat (refine Below.setCell ?_ (by simp) _)
      exact HB.out

end Go.Proofs.YtjldjeokcpjgkaaDoor

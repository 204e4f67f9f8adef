/-
  The model's ReadEv: what it answers.
-/
import Derived.Test.YtjldjeokcpjgkaaDoorTxN
import Derived.Test.YtjldjeokcpjgkaaDoorWTo2
namespace Go.Proofs.YtjldjeokcpjgkaaDoor
open Go.RowKit
set_option linter.unusedVariables false
set_option linter.unusedSimpArgs false

def ReadE (t : List UInt8) (e : Ending) : Prop := ∃ (E : EvD) (b : Bool), e = .returned (.tuple #[.agg E.cells, .bool b]) ∧ ReadIs t E b
theorem nums_row {P : List (List UInt8)} (j : Nat) (hj : j < 4) : (numsOf P (j + 1)).set j (numAt P (j + 1)) = numsOf P (j + 2) := by
  apply List.ext_getElem?
  intro q
  rw [List.getElem?_set]
  unfold numsOf
  rw [List.length_map, List.length_range]
  by_cases hq : q < 4
  · rw [List.getElem?_map, List.getElem?_map, List.getElem?_range hq]
    simp only [Option.map_some]
    by_cases e : j = q
    · subst e
      rw [if_pos rfl, if_pos hq, if_pos (by omega)]
    · rw [if_neg e]
      by_cases h : q + 1 < j + 1
      · rw [if_pos h, if_pos (by omega)]
      · rw [if_neg h, if_neg (by omega)]
  · rw [List.getElem?_eq_none (by simp; omega), List.getElem?_eq_none (by simp; omega)]
    split
    · omega
    · rfl
theorem nums_zero (P : List (List UInt8)) : numsOf P 1 = [0, 0, 0, 0] := by rfl
theorem nums_end {P : List (List UInt8)} {k : Nat} (h : k = 5 ∨ P.length ≤ k) : numsOf P k = numE P := by
  have : ∀ j, j < 4 → (if j + 1 < k then numAt P (j + 1) else 0) = numAt P (j + 1) := by
    intro j hj
    by_cases h1 : j + 1 < k
    · rw [if_pos h1]
    · rw [if_neg h1]
      unfold numAt
      rw [List.getElem?_eq_none (by omega)]
  unfold numsOf numE
  simp only [List.range_succ, List.range_zero, List.nil_append, List.map_append, List.map_cons, List.map_nil, List.cons_append]
  rw [this 0 (by omega), this 1 (by omega), this 2 (by omega), this 3 (by omega)]

theorem made_ints {w : World} {g n base : Nat} {z : Value} {e : TypeId} (hg : w.heap[g]? = some (.cells (madeCells #[z] n) e (0, 0))) (hb : base ≤ g) (hn : n ≤ maxLen) : w.ownsRow base e 1 (.slice (some ⟨g, 0, none⟩) n n) n (List.replicate n z) :=
  ⟨by simp, .inr ⟨g, n, _, rfl, hb, hg, Nat.le_refl _, hn, by simp [size_madeCells], by rw [toList_madeCells_one]; simp⟩⟩
theorem row_holds {B : Nat} {a w w' : World} {size : Nat} {e : TypeId} {v : Value} {n : Nat} {xs : List Value} (h : Below B a w) (hr : w.ownsRow B e size v n xs) (hg : w.grownBy w' v.ownBlock) (hB : B ≤ w.heap.size) : Below B a w' :=
  h.grown hg hB fun k hk => (hr.lt k hk).1
theorem rd_row {w : World} {base g n cap : Nat} {L : List Int} (hl : L.length = n) (hn : n ≤ maxLen) (h : w.ownsRow base 3 1 (.slice (some ⟨g, 0, none⟩) n cap) n (L.map (Value.int .i64))) : Rd w (.slice (some ⟨g, 0, none⟩) n cap) L := by
  subst hl
  refine ⟨_, _, rfl, hn, fun j hj => ⟨g, 0, rfl, ?_⟩⟩
  rw [Nat.zero_add, h.cellAt j (by omega), List.getElem?_map, List.getElem?_eq_getElem hj]
  rfl
theorem spl_short {s t : List UInt8} (h : t ∈ spl s) : t.length ≤ s.length := by
  induction s generalizing t with
  | nil => simp [spl] at h; subst h; simp
  | cons b r ih =>
    by_cases hb : b = 32
    · subst hb
      rw [spl_blank, List.mem_cons] at h
      rcases h with rfl | h
      · simp
      · have := ih h; simp; omega
    · obtain ⟨y, q, h1, h2⟩ := spl_cons r hb
      rw [h2, List.mem_cons] at h
      rcases h with rfl | h
      · have := ih (t := y) (by rw [h1]; simp); simp; omega
      · have := ih (t := t) (by rw [h1]; simp [h]); simp; omega
theorem makeE_fit (x : List UInt8) (P : List (List UInt8)) : FitE (makeE x (numE P)) := by
  have hn : AllI (numE P) := by
    intro n hn
    simp only [numE, List.mem_cons, List.not_mem_nil, or_false] at hn
    rcases hn with rfl | rfl | rfl | rfl <;> exact numAt_in _ _
  by_cases hk : ∃ r, r ∈ kinds ∧ r.word = x
  · obtain ⟨r, hr, rfl⟩ := hk
    rw [makeE_kind hr]
    exact build_fit hr _ (fun n h => hn n (List.mem_of_mem_take h))
  · have hno : ∀ r, r ∈ kinds → r.word ≠ x := fun r hr e => hk ⟨r, hr, e⟩
    rw [show numE P = numAt P 1 :: numAt P 2 :: [numAt P 3, numAt P 4] from rfl, makeE_no hno]
    have h0 : I64 0 := by unfold I64; omega
    have h1 : I64 1 := by unfold I64; omega
    exact ⟨h1, h0, numAt_in _ _, numAt_in _ _, h0, h0, h0, h0, h0, h0, h0⟩

set_option maxRecDepth 100000 in
set_option maxHeartbeats 8000000 in
theorem sread_any (s : ByteArray) (hs : s.size ≤ 1048576) (w : World) :
    Calls Tryd.prog 10 #[.string s] w fun e w' => ReadE s.data.toList e ∧ Below w.heap.size w w' := by
  have mk : ∀ (w : World), (Instr.makeSlice 48 (.int .i64 4) (.int .i64 4)).run Tryd.prog w = .ok (.slice (some ⟨w.heap.size, 0, none⟩) 4 4) (w.alloc (.cells (madeCells #[.int .i64 0] 4) 3)) := run_make_row' (P := Tryd.prog) 48 3 (.int .i64 0) 8 Tryd.underlying48 infoInt rfl .i64 .i64 4 (by omega) (by omega)
  have hb := Lib.hid (below_box w (.cells #[.int .i64 0, .int .i64 0, .int .i64 0, .int .i64 0, .int .i64 0, .int .i64 0, .int .i64 0, .int .i64 0, .int .i64 0, .int .i64 0, .int .i64 0] 29))
  have hR := Lib.hid (box_new w (.cells #[.int .i64 0, .int .i64 0, .int .i64 0, .int .i64 0, .int .i64 0, .int .i64 0, .int .i64 0, .int .i64 0, .int .i64 0, .int .i64 0, .int .i64 0] 29))
  have hlt := Lib.hid (show w.heap.size < (w.alloc (.cells #[.int .i64 0, .int .i64 0, .int .i64 0, .int .i64 0, .int .i64 0, .int .i64 0, .int .i64 0, .int .i64 0, .int .i64 0, .int .i64 0, .int .i64 0] 29)).heap.size by rw [World.size_alloc]; omega)
  obtain ⟨l, hl⟩ : ∃ l, l = s.data.toList := ⟨_, rfl⟩
  rw [← hl]
  have hl' := Lib.hid hl
  clear hl
  go_enter Tryd.func10, Tryd.ntmps10
  go_wp2_with fail
  generalize w.alloc (.cells #[.int .i64 0, .int .i64 0, .int .i64 0, .int .i64 0, .int .i64 0, .int .i64 0, .int .i64 0, .int .i64 0, .int .i64 0, .int .i64 0, .int .i64 0] 29) = W at *
  refine (swords_any s hs W).mono ?_
  rw [← hl'.out]
  rintro e w2 ⟨v, rfl, hown, b2⟩
  obtain ⟨x, P, hP⟩ : ∃ x P, spl l = x :: P := by
    cases h : spl l with
    | nil => exact absurd h (spl_ne l)
    | cons a t => exact ⟨a, t, rfl⟩
  rw [hP] at hown
  have hP' := Lib.hid hP
  obtain ⟨bk, cp, rfl, hbk, hcp, hcell⟩ := strs_at hown (by simp)
  have hcell' := Lib.hid hcell
  have b2' := Lib.hid b2
  have hPl := Lib.hid (show (x :: P).length = P.length + 1 from rfl)
  rw [hPl.out]
  have hsh := Lib.hid (fun t (ht : t ∈ x :: P) => show t.length ≤ 1048576 by
    have h1 := spl_short (s := l) (t := t) (by rw [hP]; exact ht)
    have h2 : l.length = s.size := by rw [hl'.out]; simp
    omega)
  have hmade := Lib.hid (made_ints (w := w2.alloc (.cells (madeCells #[.int .i64 0] 4) 3)) (base := w2.heap.size) (box_new _ _) (Nat.le_refl _) (by unfold maxLen; omega))
  have hbm := Lib.hid (below_box w2 (.cells (madeCells #[.int .i64 0] 4) 3))
  have hpl := Lib.hid (show P.length ≤ 1048576 by
    have h1 := countByte_spl l
    rw [hP] at h1
    have h2 : Lib.countByte l 32 ≤ l.length := List.count_le_length
    have h3 : l.length = s.size := by rw [hl'.out]; simp
    simp only [List.length_cons] at h1
    omega)
  have hpl1 := hpl.out
  clear hP hown hcell b2 hbk hcp
  go_wp2_with fail
  clear mk
  generalize hgN : w2.heap.size = gN at *
  go_loopw [6] (fun i wr => ∃ j : Nat, j ≤ 4 ∧ j ≤ P.length ∧ i = .int .i64 ((j : Int) + 1) ∧ wr.ownsRow gN 3 1 (.slice (some ⟨gN, 0, none⟩) 4 4) 4 ((numsOf (x :: P) (j + 1)).map (Value.int .i64)) ∧ Below gN w2 wr) (fun i _ => 6 - (Go.RowKit.intOf i).toNat)
  case atStart => exact ⟨0, by omega, by omega, rfl, hmade.out, hbm.out⟩
  case round =>
    obtain ⟨j, hj4, hjP, rfl, hown, hB⟩ := hrel
    have hBs := hB.size
    have hB2 := Lib.hid (show Below w2.heap.size w2 wr by rw [hgN]; exact hB)
    by_cases hgo : j < 4 ∧ j < P.length
    · obtain ⟨h4, hP1⟩ := hgo
      have hlt1 : (j : Int) < (P.length : Int) := by omega
      have hlt4 : (j : Int) + 1 < 5 := by omega
      have hPj : (x :: P)[j + 1]? = some P[j] := by simp
      have hset := Lib.hid (show (numsOf (x :: P) (j + 1)).set j (numL P[j]) = numsOf (x :: P) (j + 1 + 1) by
        rw [show numL P[j] = numAt (x :: P) (j + 1) by unfold numAt; rw [hPj], nums_row j h4])
      have hnl : (numsOf (x :: P) (j + 1)).length = 4 := by simp [numsOf]
      have hxc := cell_below hB2.out (hcell'.out (j + 1) ⟨P[j].toArray⟩ (by rw [List.getElem?_map, hPj]; rfl))
      rw [Nat.zero_add] at hxc
      have hnum := Lib.hid (snum_any ⟨P[j].toArray⟩ (by rw [size_of_data (T := P[j]) rfl]; exact hsh.out _ (by simp)) wr)
      have hown' := Lib.hid hown
      have hB' := Lib.hid hB
      have e1 : (j : Int) + 1 - 1 = (j : Int) := by omega
      generalize P[j] = t at *
      generalize numsOf (x :: P) (j + 1) = ns at *
      have hnl' := Lib.hid hnl
      clear hown hB hPj hnl
      go_wp2_with fail
      refine hnum.out.mono ?_
      rintro e w3 ⟨rfl, b3⟩
      have hown3 := own_below hown'.out b3
      have hB3 := hB'.out.trans (b3.mono (by have := hB'.out.size; omega))
      have hst := hown3.stored j (.int .i64 (numL t))
      rw [← List.map_set, hset.out] at hst
      have hB4 := Lib.hid (row_holds hB3 hown3 hst.2 (by have := hB3.size; omega))
      have hst' := Lib.hid hst.1
      have hfz := hown3.frozenAt j
      have hcl : ∃ z, w3.cell? ⟨gN, j, none⟩ = some z := by
        rw [hown3.cellAt j (by omega), List.getElem?_eq_getElem (by rw [List.length_map, hnl'.out]; exact h4)]
        exact ⟨_, rfl⟩
      obtain ⟨z0, hcl⟩ := hcl
      clear b3 hown3 hB3 hst hxc
      go_wp2_with fail
      go_roundw
      case rel => exact ⟨j + 1, by omega, by omega, by go_num, hst'.out, hB4.out⟩
      case measure => simp [Go.RowKit.intOf]; omega
    · have hend := nums_end (P := x :: P) (k := j + 1) (by simp only [List.length_cons]; omega)
      rw [hend] at hown
      have hrd : Rd wr (.slice (some ⟨gN, 0, none⟩) 4 4) (numE (x :: P)) := rd_row rfl (by unfold maxLen; omega) hown
      have hB3 := Lib.hid (hb.out.trans ((b2'.out.trans ((show Below w2.heap.size w2 wr by rw [hgN]; exact hB).mono b2'.out.size)).mono hb.out.size))
      have hx0 := cell_below hB2.out (hcell'.out 0 ⟨x.toArray⟩ rfl)
      have hR3 := Lib.hid (heap_below ((b2'.out.trans ((show Below w2.heap.size w2 wr by rw [hgN]; exact hB).mono b2'.out.size))) hR.out)
      have hmk := Lib.hid (smake_any ⟨x.toArray⟩ _ _ _ _ _ wr hrd)
      have hyes := Lib.hid (fun h0 he => read_yes hP'.out h0 he)
      have hno := Lib.hid (fun he => read_no hP'.out he)
      have hfit := Lib.hid (makeE_fit x (x :: P))
      have hmE := Lib.hid (show makeE (⟨x.toArray⟩ : ByteArray).data.toList [numAt (x :: P) 1, numAt (x :: P) 2, numAt (x :: P) 3, numAt (x :: P) 4] = makeE x (numE (x :: P)) from rfl)
      rw [hmE.out] at hmk
      generalize makeE x (numE (x :: P)) = E at *
      have hmk2 := Lib.hid (show Calls Tryd.prog 30 #[.string ⟨x.toArray⟩, .slice (some ⟨gN, 0, none⟩) 4 4] wr fun e w' => e = .returned (.agg #[.int .i64 E.k, .int .i64 E.ok, .int .i64 E.m, .int .i64 E.h, .int .i64 E.g, .int .i64 E.i, .int .i64 E.n, .int .i64 E.v, .int .i64 E.en, .int .i64 E.base, .int .i64 E.pages]) ∧ Below wr.heap.size wr w' from hmk.out)
      have hcond : ¬ ((j : Int) < (P.length : Int) ∧ (j : Int) + 1 < 5) := by omega
      have hj5 : (j : Int) < (P.length : Int) → ¬ (j : Int) + 1 < 5 := fun a b => hcond ⟨a, b⟩
      have hx0' : wr.cell? ⟨bk, 0, none⟩ = some (.string ⟨x.toArray⟩) := hx0
      clear hend hown hrd hB hx0 hmk hmE hcond
      by_cases hjp : j < P.length
      · have hjp1 : (j : Int) < (P.length : Int) := by omega
        obtain rfl : j = 4 := by omega
        clear hj5 hgo hj4
        go_wp2_with fail
        refine hmk2.out.mono ?_
        rintro e w4 ⟨rfl, b4⟩
        have bE := below_box w4 (.cells #[.int .i64 E.k, .int .i64 E.ok, .int .i64 E.m, .int .i64 E.h, .int .i64 E.g, .int .i64 E.i, .int .i64 E.n, .int .i64 E.v, .int .i64 E.en, .int .i64 E.base, .int .i64 E.pages] 29)
        have hE5 := Lib.hid (box_new w4 (.cells #[.int .i64 E.k, .int .i64 E.ok, .int .i64 E.m, .int .i64 E.h, .int .i64 E.g, .int .i64 E.i, .int .i64 E.n, .int .i64 E.v, .int .i64 E.en, .int .i64 E.base, .int .i64 E.pages] 29))
        have hR5 := Lib.hid (heap_below bE (heap_below b4 hR3.out))
        have HB5 := Lib.hid (below_trans (below_trans hB3.out b4) bE)
        clear b4 bE hx0'
        go_upto_region 8 with fail
        generalize w4.alloc (.cells #[.int .i64 E.k, .int .i64 E.ok, .int .i64 E.m, .int .i64 E.h, .int .i64 E.g, .int .i64 E.i, .int .i64 E.n, .int .i64 E.v, .int .i64 E.en, .int .i64 E.base, .int .i64 E.pages] 29) = W5 at *
        generalize w4.heap.size = gE at *
        have htl : s.toList = l := by rw [hl'.out]; exact ByteArray.toList_eq ..
        by_cases h0 : l = []
        · have y := Lib.hid (hno.out (.inl h0))
          have hs0 : s.toList = [] := by rw [htl, h0]
          have HB := HB5
          clear htl h0
          have r0 := cell_of_heap hR5.out 0 _ rfl
          have r1 := cell_of_heap hR5.out 1 _ rfl
          have r2 := cell_of_heap hR5.out 2 _ rfl
          have r3 := cell_of_heap hR5.out 3 _ rfl
          have r4 := cell_of_heap hR5.out 4 _ rfl
          have r5 := cell_of_heap hR5.out 5 _ rfl
          have r6 := cell_of_heap hR5.out 6 _ rfl
          have r7 := cell_of_heap hR5.out 7 _ rfl
          have r8 := cell_of_heap hR5.out 8 _ rfl
          have r9 := cell_of_heap hR5.out 9 _ rfl
          have r10 := cell_of_heap hR5.out 10 _ rfl
          have rf0 := frozen_of_heap hR5.out 0
          have rf1 := frozen_of_heap hR5.out 1
          have rf2 := frozen_of_heap hR5.out 2
          have rf3 := frozen_of_heap hR5.out 3
          have rf4 := frozen_of_heap hR5.out 4
          have rf5 := frozen_of_heap hR5.out 5
          have rf6 := frozen_of_heap hR5.out 6
          have rf7 := frozen_of_heap hR5.out 7
          have rf8 := frozen_of_heap hR5.out 8
          have rf9 := frozen_of_heap hR5.out 9
          have rf10 := frozen_of_heap hR5.out 10
          go_wp2_with fail
          refine bodyPost_ret (v := .tuple #[.agg #[.int .i64 0, .int .i64 0, .int .i64 0, .int .i64 0, .int .i64 0, .int .i64 0, .int .i64 0, .int .i64 0, .int .i64 0, .int .i64 0, .int .i64 0], .bool false]) (by simp [results, Tryd.results10, go_sem, r0, rf0, r1, rf1, r2, rf2, r3, rf3, r4, rf4, r5, rf5, r6, rf6, r7, rf7, r8, rf8, r9, rf9, r10, rf10]) rfl ?_
          refine ⟨⟨_, _, rfl, y.out⟩, ?_⟩
          repeat (refine Below.setCell ?_ (by simp) _)
          exact HB.out
        · have hs0 : ¬ s.toList = [] := by rw [htl]; exact h0
          have hs1 : s.toList.isEmpty = false := by rw [List.isEmpty_eq_false_iff]; exact hs0
          have htl' := Lib.hid htl
          clear htl
          have u0 := cell_of_heap hE5.out 0 _ rfl
          have u1 := cell_of_heap hE5.out 1 _ rfl
          have u2 := cell_of_heap hE5.out 2 _ rfl
          have u3 := cell_of_heap hE5.out 3 _ rfl
          have u4 := cell_of_heap hE5.out 4 _ rfl
          have u5 := cell_of_heap hE5.out 5 _ rfl
          have u6 := cell_of_heap hE5.out 6 _ rfl
          have u7 := cell_of_heap hE5.out 7 _ rfl
          have u8 := cell_of_heap hE5.out 8 _ rfl
          have u9 := cell_of_heap hE5.out 9 _ rfl
          have u10 := cell_of_heap hE5.out 10 _ rfl
          go_wp2_with fail
          refine (sevText_any E hfit.out W5).mono ?_
          rintro e w6 ⟨⟨Y, rfl, hY⟩, b6⟩
          have hR6 := Lib.hid (heap_below b6 hR5.out)
          have hE6 := Lib.hid (heap_below b6 hE5.out)
          have HB := Lib.hid (below_trans HB5.out b6)
          have hYt : Y.toList = evT E := by rw [ByteArray.toList_eq]; exact hY
          clear b6 u0 u1 u2 u3 u4 u5 u6 u7 u8 u9 u10
          have r0 := cell_of_heap hR6.out 0 _ rfl
          have r1 := cell_of_heap hR6.out 1 _ rfl
          have r2 := cell_of_heap hR6.out 2 _ rfl
          have r3 := cell_of_heap hR6.out 3 _ rfl
          have r4 := cell_of_heap hR6.out 4 _ rfl
          have r5 := cell_of_heap hR6.out 5 _ rfl
          have r6 := cell_of_heap hR6.out 6 _ rfl
          have r7 := cell_of_heap hR6.out 7 _ rfl
          have r8 := cell_of_heap hR6.out 8 _ rfl
          have r9 := cell_of_heap hR6.out 9 _ rfl
          have r10 := cell_of_heap hR6.out 10 _ rfl
          have rf0 := frozen_of_heap hR6.out 0
          have rf1 := frozen_of_heap hR6.out 1
          have rf2 := frozen_of_heap hR6.out 2
          have rf3 := frozen_of_heap hR6.out 3
          have rf4 := frozen_of_heap hR6.out 4
          have rf5 := frozen_of_heap hR6.out 5
          have rf6 := frozen_of_heap hR6.out 6
          have rf7 := frozen_of_heap hR6.out 7
          have rf8 := frozen_of_heap hR6.out 8
          have rf9 := frozen_of_heap hR6.out 9
          have rf10 := frozen_of_heap hR6.out 10
          have u0 := cell_of_heap hE6.out 0 _ rfl
          have u1 := cell_of_heap hE6.out 1 _ rfl
          have u2 := cell_of_heap hE6.out 2 _ rfl
          have u3 := cell_of_heap hE6.out 3 _ rfl
          have u4 := cell_of_heap hE6.out 4 _ rfl
          have u5 := cell_of_heap hE6.out 5 _ rfl
          have u6 := cell_of_heap hE6.out 6 _ rfl
          have u7 := cell_of_heap hE6.out 7 _ rfl
          have u8 := cell_of_heap hE6.out 8 _ rfl
          have u9 := cell_of_heap hE6.out 9 _ rfl
          have u10 := cell_of_heap hE6.out 10 _ rfl
          by_cases he : evT E = l
          · have y := Lib.hid (hyes.out h0 he)
            have hcmp : (Y.toList == s.toList) = true := by rw [hYt, htl'.out, he]; exact beq_self_eq_true l
            clear h0 hYt hY he
            go_wp2_with fail
            refine bodyPost_ret (v := .tuple #[.agg #[.int .i64 E.k, .int .i64 E.ok, .int .i64 E.m, .int .i64 E.h, .int .i64 E.g, .int .i64 E.i, .int .i64 E.n, .int .i64 E.v, .int .i64 E.en, .int .i64 E.base, .int .i64 E.pages], .bool true]) (by simp [results, Tryd.results10, go_sem, r0, rf0, r1, rf1, r2, rf2, r3, rf3, r4, rf4, r5, rf5, r6, rf6, r7, rf7, r8, rf8, r9, rf9, r10, rf10]) rfl ?_
            refine ⟨⟨_, _, rfl, y.out⟩, ?_⟩
            repeat (refine Below.setCell ?_ (by simp) _)
            exact HB.out
          · have y := Lib.hid (hno.out (.inr he))
            have hcmp : (Y.toList == s.toList) = false := by rw [hYt, htl'.out]; exact beq_eq_false_iff_ne.2 he
            clear h0 hYt hY he
            go_wp2_with fail
            refine bodyPost_ret (v := .tuple #[.agg #[.int .i64 0, .int .i64 0, .int .i64 0, .int .i64 0, .int .i64 0, .int .i64 0, .int .i64 0, .int .i64 0, .int .i64 0, .int .i64 0, .int .i64 0], .bool false]) (by simp [results, Tryd.results10, go_sem, r0, rf0, r1, rf1, r2, rf2, r3, rf3, r4, rf4, r5, rf5, r6, rf6, r7, rf7, r8, rf8, r9, rf9, r10, rf10]) rfl ?_
            refine ⟨⟨_, _, rfl, y.out⟩, ?_⟩
            repeat (refine Below.setCell ?_ (by simp) _)
            exact HB.out
      · have hjp1 : ¬ (j : Int) < (P.length : Int) := by omega
        have hjp2 : (P.length : Int) ≤ (j : Int) := by omega
        clear hj5 hgo
        go_wp2_with fail
        refine hmk2.out.mono ?_
        rintro e w4 ⟨rfl, b4⟩
        have bE := below_box w4 (.cells #[.int .i64 E.k, .int .i64 E.ok, .int .i64 E.m, .int .i64 E.h, .int .i64 E.g, .int .i64 E.i, .int .i64 E.n, .int .i64 E.v, .int .i64 E.en, .int .i64 E.base, .int .i64 E.pages] 29)
        have hE5 := Lib.hid (box_new w4 (.cells #[.int .i64 E.k, .int .i64 E.ok, .int .i64 E.m, .int .i64 E.h, .int .i64 E.g, .int .i64 E.i, .int .i64 E.n, .int .i64 E.v, .int .i64 E.en, .int .i64 E.base, .int .i64 E.pages] 29))
        have hR5 := Lib.hid (heap_below bE (heap_below b4 hR3.out))
        have HB5 := Lib.hid (below_trans (below_trans hB3.out b4) bE)
        clear b4 bE hx0'
        go_upto_region 8 with fail
        generalize w4.alloc (.cells #[.int .i64 E.k, .int .i64 E.ok, .int .i64 E.m, .int .i64 E.h, .int .i64 E.g, .int .i64 E.i, .int .i64 E.n, .int .i64 E.v, .int .i64 E.en, .int .i64 E.base, .int .i64 E.pages] 29) = W5 at *
        generalize w4.heap.size = gE at *
        have htl : s.toList = l := by rw [hl'.out]; exact ByteArray.toList_eq ..
        by_cases h0 : l = []
        · have y := Lib.hid (hno.out (.inl h0))
          have hs0 : s.toList = [] := by rw [htl, h0]
          have HB := HB5
          clear htl h0
          have r0 := cell_of_heap hR5.out 0 _ rfl
          have r1 := cell_of_heap hR5.out 1 _ rfl
          have r2 := cell_of_heap hR5.out 2 _ rfl
          have r3 := cell_of_heap hR5.out 3 _ rfl
          have r4 := cell_of_heap hR5.out 4 _ rfl
          have r5 := cell_of_heap hR5.out 5 _ rfl
          have r6 := cell_of_heap hR5.out 6 _ rfl
          have r7 := cell_of_heap hR5.out 7 _ rfl
          have r8 := cell_of_heap hR5.out 8 _ rfl
          have r9 := cell_of_heap hR5.out 9 _ rfl
          have r10 := cell_of_heap hR5.out 10 _ rfl
          have rf0 := frozen_of_heap hR5.out 0
          have rf1 := frozen_of_heap hR5.out 1
          have rf2 := frozen_of_heap hR5.out 2
          have rf3 := frozen_of_heap hR5.out 3
          have rf4 := frozen_of_heap hR5.out 4
          have rf5 := frozen_of_heap hR5.out 5
          have rf6 := frozen_of_heap hR5.out 6
          have rf7 := frozen_of_heap hR5.out 7
          have rf8 := frozen_of_heap hR5.out 8
          have rf9 := frozen_of_heap hR5.out 9
          have rf10 := frozen_of_heap hR5.out 10
          go_wp2_with fail
          refine bodyPost_ret (v := .tuple #[.agg #[.int .i64 0, .int .i64 0, .int .i64 0, .int .i64 0, .int .i64 0, .int .i64 0, .int .i64 0, .int .i64 0, .int .i64 0, .int .i64 0, .int .i64 0], .bool false]) (by simp [results, Tryd.results10, go_sem, r0, rf0, r1, rf1, r2, rf2, r3, rf3, r4, rf4, r5, rf5, r6, rf6, r7, rf7, r8, rf8, r9, rf9, r10, rf10]) rfl ?_
          refine ⟨⟨_, _, rfl, y.out⟩, ?_⟩
          repeat (refine Below.setCell ?_ (by simp) _)
          exact HB.out
        · have hs0 : ¬ s.toList = [] := by rw [htl]; exact h0
          have hs1 : s.toList.isEmpty = false := by rw [List.isEmpty_eq_false_iff]; exact hs0
          have htl' := Lib.hid htl
          clear htl
          have u0 := cell_of_heap hE5.out 0 _ rfl
          have u1 := cell_of_heap hE5.out 1 _ rfl
          have u2 := cell_of_heap hE5.out 2 _ rfl
          have u3 := cell_of_heap hE5.out 3 _ rfl
          have u4 := cell_of_heap hE5.out 4 _ rfl
          have u5 := cell_of_heap hE5.out 5 _ rfl
          have u6 := cell_of_heap hE5.out 6 _ rfl
          have u7 := cell_of_heap hE5.out 7 _ rfl
          have u8 := cell_of_heap hE5.out 8 _ rfl
          have u9 := cell_of_heap hE5.out 9 _ rfl
          have u10 := cell_of_heap hE5.out 10 _ rfl
          go_wp2_with fail
          refine (sevText_any E hfit.out W5).mono ?_
          rintro e w6 ⟨⟨Y, rfl, hY⟩, b6⟩
          have hR6 := Lib.hid (heap_below b6 hR5.out)
          have hE6 := Lib.hid (heap_below b6 hE5.out)
          have HB := Lib.hid (below_trans HB5.out b6)
          have hYt : Y.toList = evT E := by rw [ByteArray.toList_eq]; exact hY
          clear b6 u0 u1 u2 u3 u4 u5 u6 u7 u8 u9 u10
          have r0 := cell_of_heap hR6.out 0 _ rfl
          have r1 := cell_of_heap hR6.out 1 _ rfl
          have r2 := cell_of_heap hR6.out 2 _ rfl
          have r3 := cell_of_heap hR6.out 3 _ rfl
          have r4 := cell_of_heap hR6.out 4 _ rfl
          have r5 := cell_of_heap hR6.out 5 _ rfl
          have r6 := cell_of_heap hR6.out 6 _ rfl
          have r7 := cell_of_heap hR6.out 7 _ rfl
          have r8 := cell_of_heap hR6.out 8 _ rfl
          have r9 := cell_of_heap hR6.out 9 _ rfl
          have r10 := cell_of_heap hR6.out 10 _ rfl
          have rf0 := frozen_of_heap hR6.out 0
          have rf1 := frozen_of_heap hR6.out 1
          have rf2 := frozen_of_heap hR6.out 2
          have rf3 := frozen_of_heap hR6.out 3
          have rf4 := frozen_of_heap hR6.out 4
          have rf5 := frozen_of_heap hR6.out 5
          have rf6 := frozen_of_heap hR6.out 6
          have rf7 := frozen_of_heap hR6.out 7
          have rf8 := frozen_of_heap hR6.out 8
          have rf9 := frozen_of_heap hR6.out 9
          have rf10 := frozen_of_heap hR6.out 10
          have u0 := cell_of_heap hE6.out 0 _ rfl
          have u1 := cell_of_heap hE6.out 1 _ rfl
          have u2 := cell_of_heap hE6.out 2 _ rfl
          have u3 := cell_of_heap hE6.out 3 _ rfl
          have u4 := cell_of_heap hE6.out 4 _ rfl
          have u5 := cell_of_heap hE6.out 5 _ rfl
          have u6 := cell_of_heap hE6.out 6 _ rfl
          have u7 := cell_of_heap hE6.out 7 _ rfl
          have u8 := cell_of_heap hE6.out 8 _ rfl
          have u9 := cell_of_heap hE6.out 9 _ rfl
          have u10 := cell_of_heap hE6.out 10 _ rfl
          by_cases he : evT E = l
          · have y := Lib.hid (hyes.out h0 he)
            have hcmp : (Y.toList == s.toList) = true := by rw [hYt, htl'.out, he]; exact beq_self_eq_true l
            clear h0 hYt hY he
            go_wp2_with fail
            refine bodyPost_ret (v := .tuple #[.agg #[.int .i64 E.k, .int .i64 E.ok, .int .i64 E.m, .int .i64 E.h, .int .i64 E.g, .int .i64 E.i, .int .i64 E.n, .int .i64 E.v, .int .i64 E.en, .int .i64 E.base, .int .i64 E.pages], .bool true]) (by simp [results, Tryd.results10, go_sem, r0, rf0, r1, rf1, r2, rf2, r3, rf3, r4, rf4, r5, rf5, r6, rf6, r7, rf7, r8, rf8, r9, rf9, r10, rf10]) rfl ?_
            refine ⟨⟨_, _, rfl, y.out⟩, ?_⟩
            repeat (refine Below.setCell ?_ (by simp) _)
            exact HB.out
          · have y := Lib.hid (hno.out (.inr he))
            have hcmp : (Y.toList == s.toList) = false := by rw [hYt, htl'.out]; exact beq_eq_false_iff_ne.2 he
            clear h0 hYt hY he
            go_wp2_with fail
            refine bodyPost_ret (v := .tuple #[.agg #[.int .i64 0, .int .i64 0, .int .i64 0, .int .i64 0, .int .i64 0, .int .i64 0, .int .i64 0, .int .i64 0, .int .i64 0, .int .i64 0, .int .i64 0], .bool false]) (by simp [results, Tryd.results10, go_sem, r0, rf0, r1, rf1, r2, rf2, r3, rf3, r4, rf4, r5, rf5, r6, rf6, r7, rf7, r8, rf8, r9, rf9, r10, rf10]) rfl ?_
            refine ⟨⟨_, _, rfl, y.out⟩, ?_⟩
            repeat (refine Below.setCell ?_ (by simp) _)
            exact HB.out
end Go.Proofs.YtjldjeokcpjgkaaDoor

/-
  The program's EvText. Condition: the table of powers of ten is as the program lays it.
-/
import Derived.Test.YtjldjeokcpjgkaaDoorTxL
import Derived.Test.YtjldjeokcpjgkaaDoorShelf
import Derived.Test.YtjldjeokcpjgkaaDoorWEq
import Derived.Lib.Join
import Derived.Sort.Grow
namespace Go.Proofs.YtjldjeokcpjgkaaDoor
open Go.RowKit
set_option linter.unusedVariables false

def TabP (w : World) : Prop := Lib.TabIs Tryd.prog w "internal/strconv.uint64pow10" .u64 Lib.pow10Tab
theorem TabP.below {w w' : World} (h : TabP w) (hb : Below w.heap.size w w') : TabP w' := by
  unfold TabP Lib.TabIs World.var? at h ⊢
  generalize Tryd.prog.globalNamed "internal/strconv.uint64pow10" = G at h ⊢
  cases G with
  | none => cases h
  | some g =>
    simp only [Option.bind_some] at h ⊢
    have hlt : g < w.heap.size := by
      rcases Nat.lt_or_ge g w.heap.size with h' | h'
      · exact h'
      · rw [Array.getElem?_eq_none h'] at h; cases h
    rw [hb.block g hlt]
    exact h
theorem itoa_any (n : Int) (hn : I64 n) (w : World) (ht : TabP w) : Calls Tryd.prog 26 #[.int .i64 n] w fun e w' => e = .returned (.string ⟨(Lib.itoa n).toArray⟩) ∧ Below w.heap.size w w' :=
  (Tryd.strconv_Itoa n hn.1 hn.2 w ht).mono fun e w' ⟨he, k, os, hw⟩ => ⟨he, by
    subst hw
    exact below_trans (below_drewN' k) ⟨rfl, rfl, rfl, by simp [Sort.grow], fun j hj => Sort.heap_grow_old _ _ hj⟩⟩
theorem join_line (ws : List UInt8) (L : List Int) : Lib.join (ws :: L.map Lib.itoa) [32] = lineT ws L := by
  rw [Lib.join_cons]
  unfold lineT Lib.joinTail
  rw [List.map_map, ← List.flatMap_def]
  rfl
theorem infoStr : (Tryd.prog.info? 9).map (fun i => (i.zero, i.size, i.bytes)) = some (some (.string ⟨#[]⟩), 1, 16) := by kernel_rfl
theorem cell_of_one (w : World) (x : Value) (t : TypeId) : ∀ j u, [x][j]? = some u → (w.alloc (.cells #[x] t)).cell? ((⟨w.heap.size, 0, none⟩ : Addr).add j) = some u := by
  intro j u h
  have hj : j = 0 := by
    rcases j with _ | j
    · rfl
    · simp at h
  subst hj
  obtain rfl : x = u := by simpa using h
  simp [Addr.add]
theorem evL_cells (E : EvD) (hf : FitE E) : ∀ (j : Nat) (p : Nat × Int), (evL E).2[j]? = some p → E.cells[p.1]? = some (.int .i64 p.2) ∧ I64 p.2 := by
  intro j p h
  have hm := List.mem_of_getElem? h
  unfold evL opL at hm
  repeat' split at hm
  all_goals
    simp only [List.mem_cons, List.not_mem_nil, or_false] at hm
    try (rcases hm with rfl | rfl | rfl | rfl)
    try (rcases hm with rfl | rfl | rfl)
    try (rcases hm with rfl | rfl)
    try (subst hm)
  all_goals first | exact ⟨rfl, hf.m⟩ | exact ⟨rfl, hf.h⟩ | exact ⟨rfl, hf.g⟩ | exact ⟨rfl, hf.i⟩ | exact ⟨rfl, hf.n⟩ | exact ⟨rfl, hf.v⟩ | exact ⟨rfl, hf.en⟩ | exact ⟨rfl, hf.base⟩ | exact ⟨rfl, hf.pages⟩
theorem evL_len (E : EvD) : (evL E).1.length ≤ 5 ∧ (evL E).2.length ≤ 4 := by
  unfold evL opL
  (repeat' split) <;> simp
/-- The parts of a line. -/
def partsT (ws : List UInt8) (L : List Int) : List (List UInt8) := ws :: L.map Lib.itoa
def strV (t : List UInt8) : Value := .string ⟨t.toArray⟩

theorem strs_at {w : World} {base n : Nat} {v : Value} {ts : List (List UInt8)} (h : w.ownsRow base 9 1 v n (ts.map strV)) (hn : 0 < n) : ∃ bk cp, v = .slice (some ⟨bk, 0, none⟩) n cp ∧ bk < w.heap.size ∧ n ≤ cp ∧ ∀ (j : Nat) x, (ts.map fun t => (⟨t.toArray⟩ : ByteArray))[j]? = some x → w.cell? ⟨bk, 0 + j, none⟩ = some (.string x) := by
  rcases id h.2 with ⟨_, h0⟩ | ⟨g, cap, cur, rfl, _, hg, hnc, _⟩
  · omega
  · refine ⟨g, cap, rfl, (h.lt g rfl).2, hnc, fun j x hx => ?_⟩
    have hl : n * 1 = (ts.map strV).length := h.1.symm
    have hj : j < ts.length := by
      have := (List.getElem?_eq_some_iff.1 hx).1
      simpa using this
    rw [Nat.zero_add, h.cellAt j (by rw [hl, List.length_map]; exact hj), List.getElem?_map]
    rw [List.getElem?_map] at hx
    cases ht : ts[j]? with
    | none => rw [ht] at hx; cases hx
    | some t => rw [ht] at hx; cases hx; rfl
set_option maxRecDepth 100000 in
set_option maxHeartbeats 8000000 in
theorem ievText_any (E : EvD) (hf : FitE E) (w : World) (ht : TabP w) : Calls Tryd.prog 9 #[.agg #[.int .i64 E.k, .int .i64 E.ok, .int .i64 E.m, .int .i64 E.h, .int .i64 E.g, .int .i64 E.i, .int .i64 E.n, .int .i64 E.v, .int .i64 E.en, .int .i64 E.base, .int .i64 E.pages]] w fun e w' => StrIs (evT E) e ∧ Below w.heap.size w w' := by
  have bb := Lib.hid (below_box w (.cells #[.int .i64 E.k, .int .i64 E.ok, .int .i64 E.m, .int .i64 E.h, .int .i64 E.g, .int .i64 E.i, .int .i64 E.n, .int .i64 E.v, .int .i64 E.en, .int .i64 E.base, .int .i64 E.pages] 29))
  have bx := Lib.hid (box_new w (.cells #[.int .i64 E.k, .int .i64 E.ok, .int .i64 E.m, .int .i64 E.h, .int .i64 E.g, .int .i64 E.i, .int .i64 E.n, .int .i64 E.v, .int .i64 E.en, .int .i64 E.base, .int .i64 E.pages] 29))
  have hcall := Lib.hid (iline_any E w.heap.size _ bx.out)
  have ht' := Lib.hid (ht.below bb.out)
  have hcl := Lib.hid (evL_cells E hf)
  have hln := evL_len E
  have hbx := Lib.hid (fun (w' : World) (hb : Below (w.alloc (.cells #[.int .i64 E.k, .int .i64 E.ok, .int .i64 E.m, .int .i64 E.h, .int .i64 E.g, .int .i64 E.i, .int .i64 E.n, .int .i64 E.v, .int .i64 E.en, .int .i64 E.base, .int .i64 E.pages] 29)).heap.size (w.alloc (.cells #[.int .i64 E.k, .int .i64 E.ok, .int .i64 E.m, .int .i64 E.h, .int .i64 E.g, .int .i64 E.i, .int .i64 E.n, .int .i64 E.v, .int .i64 E.en, .int .i64 E.base, .int .i64 E.pages] 29)) w') (j : Nat) (x : Value) (hx : E.cells[j]? = some x) => cell_of_heap (heap_below hb bx.out) j x hx)
  rw [show evT E = lineT (evL E).1 ((evL E).2.map (·.2)) from rfl]
  clear ht hf bx
  generalize evL E = EL at *
  obtain ⟨ws, ps⟩ := EL
  dsimp only at hcl hln hcall ⊢
  have hln1 := hln.1
  have hln2 := hln.2
  clear hln
  go_enter Tryd.func9, Tryd.ntmps9
  go_wp2_with fail
  generalize w.alloc (.cells #[.int .i64 E.k, .int .i64 E.ok, .int .i64 E.m, .int .i64 E.h, .int .i64 E.g, .int .i64 E.i, .int .i64 E.n, .int .i64 E.v, .int .i64 E.en, .int .i64 E.base, .int .i64 E.pages] 29) = W at *
  refine hcall.out.mono ?_
  rintro e w2 ⟨⟨X, a, c, rfl, hX, hp⟩, b2⟩
  obtain rfl : X = ⟨ws.toArray⟩ := bytes_eq (by rw [hX])
  have hp' := Lib.hid hp
  have b2' := Lib.hid b2
  clear hX hp b2 hcall
  have hown0 := Lib.hid (show ((w2.alloc (.cells #[.string ⟨ws.toArray⟩, .slice a ps.length c] 52)).alloc (.cells #[.string ⟨ws.toArray⟩] 9)).ownsRow w2.heap.size 9 1 (.slice (some ⟨w2.heap.size + 1, 0, none⟩) 1 1) 1 [strV ws] from ⟨rfl, .inr ⟨w2.heap.size + 1, 1, _, rfl, Nat.le_succ _, by
    have h := box_new (w2.alloc (.cells #[.string ⟨ws.toArray⟩, .slice a ps.length c] 52)) (.cells #[.string ⟨ws.toArray⟩] 9)
    rw [World.size_alloc] at h
    exact h, Nat.le_refl _, by decide, rfl, rfl⟩⟩)
  have hb0 := Lib.hid (below_trans (below_box w2 (.cells #[.string ⟨ws.toArray⟩, .slice a ps.length c] 52)) (below_box _ (.cells #[.string ⟨ws.toArray⟩] 9)))
  obtain ⟨i0, hi, hz0, hz1, hz2⟩ := info_parts infoStr
  go_wp2_with fail
  go_loopw [4, 14] (fun v i wr => ∃ k : Nat, k ≤ ps.length ∧ i = .int .i64 k ∧ wr.ownsRow w2.heap.size 9 1 v (k + 1) ((partsT ws ((ps.take k).map (·.2))).map strV) ∧ Below w2.heap.size w2 wr) (fun v i _ => ps.length - (Go.RowKit.intOf i).toNat)
  case atStart => exact ⟨0, Nat.zero_le _, rfl, hown0.out, hb0.out⟩
  case round =>
    obtain ⟨k, hk, rfl, hown, hB⟩ := hrel
    have hBs := hB.size
    by_cases hlt : k < ps.length
    · have hlt1 : (k : Int) < (ps.length : Int) := by omega
      obtain ⟨p, hpk⟩ : ∃ p, ps[k]? = some p := ⟨_, List.getElem?_eq_getElem hlt⟩
      obtain ⟨b, o, rfl, hbl, x0⟩ := hp'.out k p hpk
      obtain ⟨y0, hI⟩ := hcl.out k p hpk
      have xk := cell_below hB x0
      have yk := hbx.out wr (below_trans b2'.out hB) p.1 _ y0
      have hit := Lib.hid (itoa_any p.2 hI wr (ht'.out.below (below_trans b2'.out hB)))
      have hnew := Lib.hid (show (partsT ws ((ps.take (k + 1)).map (·.2))).map strV = (partsT ws ((ps.take k).map (·.2))).map strV ++ [strV (Lib.itoa p.2)] by
        rw [List.take_succ_eq_append_getElem hlt, List.map_append]
        have : ps[k] = p := (List.getElem?_eq_some_iff.1 hpk).2
        simp [partsT, this])
      generalize (partsT ws ((ps.take k).map (·.2))).map strV = xs at *
      generalize p.2 = n at *
      generalize p.1 = off at *
      have hown' := Lib.hid hown
      have hB' := Lib.hid hB
      clear x0 y0 hI hpk hown hB hbl
      go_wp2_with (first
        | (go_at_call 26; refine hit.out.mono ?_; rintro e w3 ⟨rfl, b3⟩; have ho3 := Lib.hid (own_below hown'.out b3); have hB3 := Lib.hid (below_trans hB'.out b3); have hz3 := Lib.hid (show w2.heap.size ≤ w3.heap.size from hB3.out.size); clear b3)
        | (at_builtin; refine wpList_append_own _ rfl _ _ 55 rfl w2.heap.size 9 i0 (.string ⟨#[]⟩) 1 16 Tryd.underlying55 hi hz0 hz1 hz2 rfl (by decide) _ _ _ rfl (ho3.out.alloc _) ⟨w3.heap.size, 0, none⟩ 1 1 [strV (Lib.itoa n)] rfl rfl (cell_of_one _ _ _) (by simp [Value.oneCell', strV]) (by unfold maxLen; omega) (by omega) (by have := hz3.out; simp; omega) ?_; intro v' w4 hown4 hgrow _))
      have hB4 := hB3.out.trans ((below_box w3 (.cells #[strV (Lib.itoa n)] 9)).mono hz3.out)
      have hB5 := Lib.hid (hB4.grown hgrow (by have := hz3.out; simp; omega) fun q hq => (ho3.out.lt q hq).1)
      have hown5 := Lib.hid hown4
      clear hown4 hgrow hB4 xk yk
      go_wp2_with fail
      go_roundw
      case rel => exact ⟨k + 1, by omega, by go_num, by rw [hnew.out]; exact hown5.out, hB5.out⟩
      case measure => simp [Go.RowKit.intOf]; omega
    · obtain rfl : k = ps.length := by omega
      rw [List.take_length] at hown
      have y := Lib.hid (join_line ws (ps.map (·.2)))
      obtain ⟨bk, cp, rfl, hbk, hcp, hcell⟩ := strs_at hown (by omega)
      have hlt2 := lineT_len ws (ps.map (·.2)) (fun x hx => by
        obtain ⟨p, hp, rfl⟩ := List.mem_map.1 hx
        obtain ⟨j, hj⟩ := List.mem_iff_getElem?.1 hp
        exact (hcl.out j p hj).2)
      rw [List.length_map] at hlt2
      have hml : ((partsT ws (ps.map (·.2))).map fun t => (⟨t.toArray⟩ : ByteArray)).length = ps.length + 1 := by simp [partsT]
      have hmm : ((partsT ws (ps.map (·.2))).map fun t => (⟨t.toArray⟩ : ByteArray)).map (·.data.toList) = partsT ws (ps.map (·.2)) := by
        rw [List.map_map]
        exact List.map_id'' (fun t => rfl) _
      have hj := Tryd.strings_Join bk 0 cp ((partsT ws (ps.map (·.2))).map fun t => (⟨t.toArray⟩ : ByteArray)) ⟨#[32]⟩ wr hcell hbk (by rw [hml]; omega) (by rw [hml]; exact hcp) (by rw [hmm]; show (Lib.join (ws :: (ps.map (·.2)).map Lib.itoa) [32]).length ≤ _; rw [y.out]; omega)
      rw [hml, hmm] at hj
      have hj2 : Calls Tryd.prog 27 #[.slice (some ⟨bk, 0, none⟩) (ps.length + 1) cp, .string ⟨#[32]⟩] wr fun e w' => e = .returned (.string ⟨(lineT ws (ps.map (·.2))).toArray⟩) ∧ Below wr.heap.size wr w' := by
        rw [← y.out]
        exact hj
      have HJ := Lib.hid hj2
      have hB' := Lib.hid (below_trans b2'.out hB)
      clear hj hj2 hml hmm hlt2 hcell hbk hcp hown hB y
      go_wp2_with fail
      refine HJ.out.mono ?_
      rintro e w5 ⟨rfl, b5⟩
      have b5' := Lib.hid (below_trans bb.out (below_trans hB'.out b5))
      clear b5
      go_wp2_with fail
      go_ret
      exact ⟨⟨_, rfl, rfl⟩, b5'.out⟩
end Go.Proofs.YtjldjeokcpjgkaaDoor

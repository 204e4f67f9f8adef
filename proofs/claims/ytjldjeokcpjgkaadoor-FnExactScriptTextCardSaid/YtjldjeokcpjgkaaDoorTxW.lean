/-
  ScriptText: the model's and the program's. Condition: at most 2^20 events; the table of powers of ten is as the program lays it.
-/
import Derived.Test.YtjldjeokcpjgkaaDoorTxR
import Derived.Test.YtjldjeokcpjgkaaDoorBldA
namespace Go.Proofs.YtjldjeokcpjgkaaDoor
open Go.RowKit
set_option linter.unusedVariables false

def scriptT (L : List EvD) : List UInt8 := L.flatMap fun E => evT E ++ [10]
def FitL (L : List EvD) : Prop := ∀ E, E ∈ L → FitE E
theorem scriptT_snoc (L : List EvD) (E : EvD) : scriptT (L ++ [E]) = scriptT L ++ evT E ++ [10] := by simp [scriptT]
theorem evT_len {E : EvD} (hf : FitE E) : (evT E).length ≤ 93 := by
  have h1 := evL_len E
  have h2 := lineT_len (evL E).1 ((evL E).2.map (·.2)) (fun x hx => by
    obtain ⟨p, hp, rfl⟩ := List.mem_map.1 hx
    obtain ⟨j, hj⟩ := List.mem_iff_getElem?.1 hp
    exact (evL_cells E hf j p hj).2)
  rw [List.length_map] at h2
  unfold evT
  omega
theorem scriptT_len {L : List EvD} (hf : FitL L) : (scriptT L).length ≤ 94 * L.length := by
  induction L with
  | nil => simp [scriptT]
  | cons E L ih =>
    have h1 := ih (fun x hx => hf x (List.mem_cons_of_mem _ hx))
    have h2 := evT_len (hf E (List.mem_cons_self ..))
    have e : scriptT (E :: L) = evT E ++ [10] ++ scriptT L := by simp [scriptT]
    rw [e, List.length_append, List.length_append, List.length_cons]
    simp only [List.length_cons, List.length_nil]
    omega

set_option maxRecDepth 100000 in
set_option maxHeartbeats 8000000 in
theorem sscript_any (v : Value) (L : List EvD) (hs : L.length ≤ 1048576) (hf : FitL L) (w : World) (hr : RdE w v L) :
    Calls Tryd.prog 14 #[v] w fun e w' => StrIs (scriptT L) e ∧ Below w.heap.size w w' := by
  obtain ⟨a, cap, rfl, _, hx⟩ := hr
  have hx' := Lib.hid hx
  have hf' := Lib.hid hf
  have hln := Lib.hid (fun k => show (scriptT (L.take k)).length ≤ 94 * 1048576 by
    have h1 := scriptT_len (L := L.take k) (fun x hx => hf x (List.mem_of_mem_take hx))
    rw [List.length_take] at h1
    omega)
  clear hx hf
  go_enter Tryd.func14, Tryd.ntmps14
  go_wp2_with fail
  go_loopw [3, 4] (fun s i wr => ∃ (k : Nat) (X : ByteArray), k ≤ L.length ∧ i = .int .i64 k ∧ s = .string X ∧ Hid (X.data.toList = scriptT (L.take k)) ∧ Below w.heap.size w wr) (fun s i _ => L.length - (Go.RowKit.intOf i).toNat)
  case atStart => exact ⟨0, ⟨#[]⟩, Nat.zero_le _, rfl, rfl, Lib.hid rfl, Below.refl _ _⟩
  case round =>
    obtain ⟨k, X, hk, rfl, rfl, hX, hB⟩ := hrel
    by_cases hlt : k < L.length
    · obtain ⟨E, hE⟩ : ∃ E, L[k]? = some E := ⟨_, List.getElem?_eq_getElem hlt⟩
      obtain ⟨b1, o1, rfl, p1⟩ := hx'.out k E hE
      obtain ⟨x0, x1, x2, x3, x4, x5, x6, x7, x8, x9, x10⟩ := (p1.below hB).all
      have hlt' : (k : Int) < (L.length : Int) := by omega
      have hfe := Lib.hid (hf'.out E (List.mem_of_getElem? hE))
      have hst := Lib.hid (show L.take (k + 1) = L.take k ++ [E] by rw [List.take_succ_eq_append_getElem hlt, (List.getElem?_eq_some_iff.1 hE).2])
      have hB' := Lib.hid hB
      have hsx := Lib.hid (size_of_data hX.out)
      have hkl := Lib.hid (hln.out k)
      clear hE p1 hB
      go_wp2_with fail
      refine (sevText_any E hfe.out _).mono ?_
      rintro e w2 ⟨⟨Y, rfl, hY⟩, b2⟩
      have hY : Y.data.toList = evT E := hY
      have hsy := size_of_data hY
      have hyl := evT_len hfe.out
      have hnew := Lib.hid (show (X ++ Y ++ ⟨#[10]⟩).data.toList = scriptT (L.take (k + 1)) by rw [hst.out, scriptT_snoc, data_app, data_app, hX.out, hY])
      have s1 : X.size + Y.size ≤ 9223372036854775807 := by
        have h1 := hsx.out; have h2 := hkl.out
        omega
      have s2 : (X ++ Y).size + 1 ≤ 9223372036854775807 := by
        rw [ByteArray.size_append]
        have h1 := hsx.out; have h2 := hkl.out
        omega
      have s3 : X.size + Y.size + 1 ≤ 9223372036854775807 := by
        have h1 := hsx.out; have h2 := hkl.out
        omega
      have hB2 := Lib.hid (below_trans hB'.out b2)
      clear hY b2 hsy hyl x0 x1 x2 x3 x4 x5 x6 x7 x8 x9 x10
      go_wp2_with fail
      go_roundw
      case rel => exact ⟨k + 1, _, by omega, by go_num, rfl, hnew, hB2.out⟩
      case measure => simp [Go.RowKit.intOf]; omega
    · obtain rfl : k = L.length := by omega
      have y := Lib.hid (show StrIs (scriptT L) (.returned (.string X)) from ⟨X, rfl, by rw [hX.out, List.take_length]⟩)
      have hB' := Lib.hid hB
      clear hB
      go_wp2_with fail
      go_ret
      exact ⟨y.out, hB'.out⟩

set_option maxRecDepth 100000 in
set_option maxHeartbeats 8000000 in
theorem iscript_any (v : Value) (L : List EvD) (hs : L.length ≤ 1048576) (hf : FitL L) (w : World) (ht : TabP w) (hr : RdE w v L) :
    Calls Tryd.prog 16 #[v] w fun e w' => StrIs (scriptT L) e ∧ Below w.heap.size w w' := by
  obtain ⟨a, cap, rfl, _, hx⟩ := hr
  have hx' := Lib.hid hx
  have hf' := Lib.hid hf
  have ht' := Lib.hid ht
  have hln := Lib.hid (fun k => show (scriptT (L.take k)).length ≤ 94 * 1048576 by
    have h1 := scriptT_len (L := L.take k) (fun x hx => hf x (List.mem_of_mem_take hx))
    rw [List.length_take] at h1
    omega)
  have hbox := Lib.hid (below_box w (.cells #[.pointer none, .slice none 0 0] 72))
  have hfr := Lib.hid (Lib.fresh_isBuilder 72 5 w)
  clear hx hf ht
  go_enter Tryd.func16, Tryd.ntmps16
  go_wp2_with fail
  go_loopw [8] (fun i wr => ∃ k : Nat, k ≤ L.length ∧ i = .int .i64 k ∧ Hid (Lib.IsBuilder 72 5 w.heap.size w.heap.size (Lib.byteCells (scriptT (L.take k))) wr) ∧ Below w.heap.size w wr) (fun i _ => L.length - (Go.RowKit.intOf i).toNat)
  case atStart => exact ⟨0, Nat.zero_le _, rfl, hfr, hbox.out⟩
  case round =>
    obtain ⟨k, hk, rfl, hBl, hB⟩ := hrel
    by_cases hlt : k < L.length
    · obtain ⟨E, hE⟩ : ∃ E, L[k]? = some E := ⟨_, List.getElem?_eq_getElem hlt⟩
      obtain ⟨b1, o1, rfl, p1⟩ := hx'.out k E hE
      obtain ⟨x0, x1, x2, x3, x4, x5, x6, x7, x8, x9, x10⟩ := (p1.below hB).all
      have hlt' : (k : Int) < (L.length : Int) := by omega
      have hfe := Lib.hid (hf'.out E (List.mem_of_getElem? hE))
      have hst := Lib.hid (show L.take (k + 1) = L.take k ++ [E] by rw [List.take_succ_eq_append_getElem hlt, (List.getElem?_eq_some_iff.1 hE).2])
      have hkl := Lib.hid (hln.out k)
      have bE := Lib.hid (below_box wr (.cells #[.int .i64 E.k, .int .i64 E.ok, .int .i64 E.m, .int .i64 E.h, .int .i64 E.g, .int .i64 E.i, .int .i64 E.n, .int .i64 E.v, .int .i64 E.en, .int .i64 E.base, .int .i64 E.pages] 29))
      have hB' := Lib.hid (below_trans hB bE.out)
      have hBl2 := Lib.hid (Bld.cells hBl.out bE.out)
      have hxE := Lib.hid (box_new wr (.cells #[.int .i64 E.k, .int .i64 E.ok, .int .i64 E.m, .int .i64 E.h, .int .i64 E.g, .int .i64 E.i, .int .i64 E.n, .int .i64 E.v, .int .i64 E.en, .int .i64 E.base, .int .i64 E.pages] 29))
      clear hE p1 hB
      go_upto_region 5 with fail
      generalize wr.alloc (.cells #[.int .i64 E.k, .int .i64 E.ok, .int .i64 E.m, .int .i64 E.h, .int .i64 E.g, .int .i64 E.i, .int .i64 E.n, .int .i64 E.v, .int .i64 E.en, .int .i64 E.base, .int .i64 E.pages] 29) = W at *
      clear x0 x1 x2 x3 x4 x5 x6 x7 x8 x9 x10
      have c0 := cell_of_heap hxE.out 0 _ rfl
      have c1 := cell_of_heap hxE.out 1 _ rfl
      have c2 := cell_of_heap hxE.out 2 _ rfl
      have c3 := cell_of_heap hxE.out 3 _ rfl
      have c4 := cell_of_heap hxE.out 4 _ rfl
      have c5 := cell_of_heap hxE.out 5 _ rfl
      have c6 := cell_of_heap hxE.out 6 _ rfl
      have c7 := cell_of_heap hxE.out 7 _ rfl
      have c8 := cell_of_heap hxE.out 8 _ rfl
      have c9 := cell_of_heap hxE.out 9 _ rfl
      have c10 := cell_of_heap hxE.out 10 _ rfl
      go_wp2_with fail
      refine (ievText_any E hfe.out W (ht'.out.below hB'.out)).mono ?_
      rintro e w2 ⟨⟨Y, rfl, hY⟩, b2⟩
      have hsy := size_of_data hY
      have hyl := evT_len hfe.out
      have hwr := Lib.hid (bwrite_any w.heap.size w.heap.size _ Y w2 (Bld.cells hBl2.out b2) (by
        have h2 := hkl.out
        rw [Lib.byteCells_length]
        omega) (below_trans hB'.out b2).size)
      have hY' := Lib.hid hY
      have hsy' := Lib.hid (show Y.size ≤ 93 by omega)
      have hB2 := Lib.hid (below_trans hB'.out b2)
      clear hY b2 hsy hyl c0 c1 c2 c3 c4 c5 c6 c7 c8 c9 c10
      go_wp2_with fail
      refine hwr.out.mono ?_
      rintro e w3 ⟨rfl, hq3, b3⟩
      have hB3 := Lib.hid (hB2.out.trans b3)
      have hw4 := Lib.hid (bwrite_any w.heap.size w.heap.size _ ⟨#[10]⟩ w3 (.inr hq3) (by
        have h2 := hkl.out
        have h3 := hsy'.out
        rw [List.length_append, Lib.byteCells_length, Lib.strCells_length]
        have h4 : (⟨#[10]⟩ : ByteArray).size = 1 := rfl
        omega) hB3.out.size)
      clear hq3 b3
      go_wp2_with fail
      refine hw4.out.mono ?_
      rintro e w5 ⟨rfl, hq5, b5⟩
      have hB5 := Lib.hid (hB3.out.trans b5)
      have hn := Lib.hid (show Lib.IsBuilder 72 5 w.heap.size w.heap.size (Lib.byteCells (scriptT (L.take (k + 1)))) w5 by
        rw [hst.out, scriptT_snoc]
        have e1 : Lib.byteCells (scriptT (L.take k) ++ evT E ++ [10]) = Lib.byteCells (scriptT (L.take k)) ++ Lib.strCells Y ++ Lib.strCells ⟨#[10]⟩ := by
          simp only [Lib.byteCells, Lib.strCells, List.map_append, hY'.out]
        rw [e1]
        exact .inr hq5)
      clear hq5 b5
      go_wp2_with fail
      go_roundw
      case rel => exact ⟨k + 1, by omega, by go_num, hn, hB5.out⟩
      case measure => simp [Go.RowKit.intOf]; omega
    · obtain rfl : k = L.length := by omega
      rw [List.take_length] at hBl
      have hsg := Lib.hid (Tryd.Builder_String_any w.heap.size w.heap.size (scriptT L) wr hBl.out hB.size)
      have hB' := Lib.hid hB
      clear hB hBl
      go_wp2_with fail
      refine hsg.out.mono ?_
      rintro e w2 ⟨rfl, b2⟩
      have y := Lib.hid (show StrIs (scriptT L) (.returned (.string ⟨(scriptT L).toArray⟩)) from ⟨_, rfl, rfl⟩)
      have hB2 := Lib.hid (hB'.out.trans b2)
      clear b2
      go_wp2_with fail
      go_ret
      exact ⟨y.out, hB2.out⟩
end Go.Proofs.YtjldjeokcpjgkaaDoor

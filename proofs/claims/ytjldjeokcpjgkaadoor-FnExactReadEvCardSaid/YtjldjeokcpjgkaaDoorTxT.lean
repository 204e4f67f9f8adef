/-
  An argument that is an event reads as plain data; the tables that the rows list; what the proofs of the texts' laws share.
-/
import Derived.Test.YtjldjeokcpjgkaaDoorTxD
import Derived.Test.YtjldjeokcpjgkaaDoorRows
import Derived.OpenShut
import Derived.ShutString
import Derived.ChangeOld
import Derived.Deep.Slices
import Derived.Deep.DeepHandedRow
import Derived.Lib.LaidTab
import Derived.LaidSub
namespace Go.Proofs.YtjldjeokcpjgkaaDoor
open Go.ChangeShapes Go.WideShapes Go.ChangeAt Go.RowKit Go.Deep
set_option linter.unusedVariables false
set_option linter.unusedSimpArgs false

set_option maxRecDepth 100000 in
theorem evC_trod {H : Type} {enc : TypeId × Value → H} {w : World} {fuel : Nat} {cs : List Value} {x : DataW H × List MemPlace} (hl : cs.length = 11) (hf : DataW.trod enc Tryd.prog w 0 (fun _ => true) true fuel 25 cs = some x) : ∃ E : EvD, cs = E.cells.toList ∧ FitE E := by
  have kO : Tryd.prog.cellsOf 23 = 7 := by kernel_rfl
  have k3 : Tryd.prog.cellsOf 3 = 1 := by kernel_rfl
  match cs, hl with
  | [c0, c1, c2, c3, c4, c5, c6, c7, c8, c9, c10], _ =>
    obtain ⟨ys, n, _, _, _, hlen, hg⟩ := DataW.trod_struct Tryd.underlying25 hf
    have hy : ∀ i, i < 5 → ∃ y, ys[i]? = some y := fun i hi => ⟨_, List.getElem?_eq_getElem (by rw [hlen]; exact hi)⟩
    obtain ⟨y0, e0⟩ := hy 0 (by omega)
    obtain ⟨y1, e1⟩ := hy 1 (by omega)
    obtain ⟨y2, e2⟩ := hy 2 (by omega)
    obtain ⟨y3, e3⟩ := hy 3 (by omega)
    obtain ⟨y4, e4⟩ := hy 4 (by omega)
    have g0 : DataW.trod enc Tryd.prog w 0 (fun _ => true) true n 3 (([c0, c1, c2, c3, c4, c5, c6, c7, c8, c9, c10].drop 0).take (Tryd.prog.cellsOf 3)) = ys[0]? := hg 0 _ rfl
    simp only [k3, List.drop_succ_cons, List.drop_zero, List.take_succ_cons, List.take_zero] at g0
    replace g0 := g0.trans e0
    have g1 : DataW.trod enc Tryd.prog w 0 (fun _ => true) true n 23 (([c0, c1, c2, c3, c4, c5, c6, c7, c8, c9, c10].drop 1).take (Tryd.prog.cellsOf 23)) = ys[1]? := hg 1 _ rfl
    simp only [kO, List.drop_succ_cons, List.drop_zero, List.take_succ_cons, List.take_zero] at g1
    replace g1 := g1.trans e1
    have g2 : DataW.trod enc Tryd.prog w 0 (fun _ => true) true n 3 (([c0, c1, c2, c3, c4, c5, c6, c7, c8, c9, c10].drop 8).take (Tryd.prog.cellsOf 3)) = ys[2]? := hg 2 _ rfl
    simp only [k3, List.drop_succ_cons, List.drop_zero, List.take_succ_cons, List.take_zero] at g2
    replace g2 := g2.trans e2
    have g3 : DataW.trod enc Tryd.prog w 0 (fun _ => true) true n 3 (([c0, c1, c2, c3, c4, c5, c6, c7, c8, c9, c10].drop 9).take (Tryd.prog.cellsOf 3)) = ys[3]? := hg 3 _ rfl
    simp only [k3, List.drop_succ_cons, List.drop_zero, List.take_succ_cons, List.take_zero] at g3
    replace g3 := g3.trans e3
    have g4 : DataW.trod enc Tryd.prog w 0 (fun _ => true) true n 3 (([c0, c1, c2, c3, c4, c5, c6, c7, c8, c9, c10].drop 10).take (Tryd.prog.cellsOf 3)) = ys[4]? := hg 4 _ rfl
    simp only [k3, List.drop_succ_cons, List.drop_zero, List.take_succ_cons, List.take_zero] at g4
    replace g4 := g4.trans e4
    obtain ⟨zs, n', _, _, _, hlen', hg'⟩ := DataW.trod_struct Tryd.underlying23 g1
    have hz : ∀ i, i < 7 → ∃ y, zs[i]? = some y := fun i hi => ⟨_, List.getElem?_eq_getElem (by rw [hlen']; exact hi)⟩
    obtain ⟨z0, e10⟩ := hz 0 (by omega)
    obtain ⟨z1, e11⟩ := hz 1 (by omega)
    obtain ⟨z2, e12⟩ := hz 2 (by omega)
    obtain ⟨z3, e13⟩ := hz 3 (by omega)
    obtain ⟨z4, e14⟩ := hz 4 (by omega)
    obtain ⟨z5, e15⟩ := hz 5 (by omega)
    obtain ⟨z6, e16⟩ := hz 6 (by omega)
    have g10 : DataW.trod enc Tryd.prog w 0 (fun _ => true) true n' 3 (([c1, c2, c3, c4, c5, c6, c7].drop 0).take (Tryd.prog.cellsOf 3)) = zs[0]? := hg' 0 _ rfl
    simp only [k3, List.drop_succ_cons, List.drop_zero, List.take_succ_cons, List.take_zero] at g10
    replace g10 := g10.trans e10
    have g11 : DataW.trod enc Tryd.prog w 0 (fun _ => true) true n' 3 (([c1, c2, c3, c4, c5, c6, c7].drop 1).take (Tryd.prog.cellsOf 3)) = zs[1]? := hg' 1 _ rfl
    simp only [k3, List.drop_succ_cons, List.drop_zero, List.take_succ_cons, List.take_zero] at g11
    replace g11 := g11.trans e11
    have g12 : DataW.trod enc Tryd.prog w 0 (fun _ => true) true n' 3 (([c1, c2, c3, c4, c5, c6, c7].drop 2).take (Tryd.prog.cellsOf 3)) = zs[2]? := hg' 2 _ rfl
    simp only [k3, List.drop_succ_cons, List.drop_zero, List.take_succ_cons, List.take_zero] at g12
    replace g12 := g12.trans e12
    have g13 : DataW.trod enc Tryd.prog w 0 (fun _ => true) true n' 3 (([c1, c2, c3, c4, c5, c6, c7].drop 3).take (Tryd.prog.cellsOf 3)) = zs[3]? := hg' 3 _ rfl
    simp only [k3, List.drop_succ_cons, List.drop_zero, List.take_succ_cons, List.take_zero] at g13
    replace g13 := g13.trans e13
    have g14 : DataW.trod enc Tryd.prog w 0 (fun _ => true) true n' 3 (([c1, c2, c3, c4, c5, c6, c7].drop 4).take (Tryd.prog.cellsOf 3)) = zs[4]? := hg' 4 _ rfl
    simp only [k3, List.drop_succ_cons, List.drop_zero, List.take_succ_cons, List.take_zero] at g14
    replace g14 := g14.trans e14
    have g15 : DataW.trod enc Tryd.prog w 0 (fun _ => true) true n' 3 (([c1, c2, c3, c4, c5, c6, c7].drop 5).take (Tryd.prog.cellsOf 3)) = zs[5]? := hg' 5 _ rfl
    simp only [k3, List.drop_succ_cons, List.drop_zero, List.take_succ_cons, List.take_zero] at g15
    replace g15 := g15.trans e15
    have g16 : DataW.trod enc Tryd.prog w 0 (fun _ => true) true n' 3 (([c1, c2, c3, c4, c5, c6, c7].drop 6).take (Tryd.prog.cellsOf 3)) = zs[6]? := hg' 6 _ rfl
    simp only [k3, List.drop_succ_cons, List.drop_zero, List.take_succ_cons, List.take_zero] at g16
    replace g16 := g16.trans e16
    obtain ⟨n0, h0, _, w0⟩ := DataW.trod_int Tryd.underlying3 g0
    obtain ⟨n10, h10, _, w10⟩ := DataW.trod_int Tryd.underlying3 g10
    obtain ⟨n11, h11, _, w11⟩ := DataW.trod_int Tryd.underlying3 g11
    obtain ⟨n12, h12, _, w12⟩ := DataW.trod_int Tryd.underlying3 g12
    obtain ⟨n13, h13, _, w13⟩ := DataW.trod_int Tryd.underlying3 g13
    obtain ⟨n14, h14, _, w14⟩ := DataW.trod_int Tryd.underlying3 g14
    obtain ⟨n15, h15, _, w15⟩ := DataW.trod_int Tryd.underlying3 g15
    obtain ⟨n16, h16, _, w16⟩ := DataW.trod_int Tryd.underlying3 g16
    obtain ⟨n2, h2, _, w2⟩ := DataW.trod_int Tryd.underlying3 g2
    obtain ⟨n3, h3, _, w3⟩ := DataW.trod_int Tryd.underlying3 g3
    obtain ⟨n4, h4, _, w4⟩ := DataW.trod_int Tryd.underlying3 g4
    simp only [List.cons.injEq, and_true] at h0 h10 h11 h12 h13 h14 h15 h16 h2 h3 h4
    subst h0; subst h10; subst h11; subst h12; subst h13; subst h14; subst h15; subst h16; subst h2; subst h3; subst h4
    exact ⟨⟨n0, n10, n11, n12, n13, n14, n15, n16, n2, n3, n4⟩, rfl, i64_wf w0, i64_wf w10, i64_wf w11, i64_wf w12, i64_wf w13, i64_wf w14, i64_wf w15, i64_wf w16, i64_wf w2, i64_wf w3, i64_wf w4⟩
set_option maxRecDepth 100000 in
theorem ev_trod {H : Type} {enc : TypeId × Value → H} {w : World} {r : Reach} {b0 : Nat} {v : Value} {d : DataW H} {p : List MemPlace} (hv : Value.okWide Tryd.prog w r b0 25 v) (h : DataW.Trod enc Tryd.prog w 0 (fun _ => true) true 25 v d p) : ∃ E : EvD, v = E.val ∧ FitE E := by
  have kE : Tryd.prog.cellsOf 25 = 11 := by kernel_rfl
  obtain ⟨cs, rfl, hsz⟩ := okWide_struct Tryd.underlying25 hv
  obtain ⟨fuel, hf⟩ := h
  obtain ⟨E, hE, hfit⟩ := evC_trod (cs := cs.toList) (by rw [Array.length_toList]; exact hsz.trans kE) hf
  exact ⟨E, by unfold EvD.val; rw [Array.toList_inj.1 hE], hfit⟩
theorem own : ownKnob Tryd.prog.godebug = none := by kernel_rfl
theorem laidOut : laidOutB Tryd.prog = true := by kernel_rfl
theorem gTab : Tryd.prog.globalNamed "internal/strconv.uint64pow10" = some 1 := by kernel_rfl
theorem gTabType : (Tryd.prog.globals[1]?).map (·.type) = some 113 := by kernel_rfl
theorem cellsTab : Tryd.prog.cellsOf 113 = 20 := by kernel_rfl
theorem cellsU64 : Tryd.prog.cellsOf 101 = 1 := by kernel_rfl
/-- The table's cells, off what the row lists. -/
theorem tab_of_laid {W : World} {l : List (String × DataW Unit)} (h : laidMetH Tryd.prog l W) (keep : String × DataW Unit → Bool) (hl : l.filter keep = [("internal/strconv.uint64pow10", Rows.laid_internal_strconv_uint64pow10)]) : Lib.TabIs Tryd.prog W "internal/strconv.uint64pow10" .u64 Lib.pow10Tab := by
  have h1 := h.filter keep
  rw [hl] at h1
  exact Lib.tabIs_of_head (rest := []) gTab gTabType Tryd.underlying113 Tryd.underlying101 cellsU64 cellsTab h1
def tabCells : DataW Unit → Array Value
  | .agg l => (l.map fun d => match d with | .lit (.int k z) => Value.int k z | _ => .pointer Option.none).toArray
  | _ => #[]
/-- A world in which the listed tables are laid. -/
noncomputable def setRow (d : DataW Unit) : Obj → Obj
  | .cells _ t frozen => .cells (tabCells d) t frozen
  | o => o
noncomputable def laidWorld (os : Os) : World :=
  { World.holding Tryd.prog os ⟨#[], #[], []⟩ with heap := (((World.holding Tryd.prog os ⟨#[], #[], []⟩).heap.modify 1 (setRow Rows.laid_internal_strconv_uint64pow10)).modify 4 (setRow Rows.laid_math_bits_deBruijn32tab)).modify 5 (setRow Rows.laid_math_bits_deBruijn64tab) }
end Go.Proofs.YtjldjeokcpjgkaaDoor

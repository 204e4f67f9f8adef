/-
  An argument that is a Graph, whatever memory it lies in, reads as plain data.
-/
import Derived.Test.YtaaflpklbhjepaaWOpen
import Derived.Test.YtaaflpklbhjepaaGrD
namespace Go.Proofs.Ytaaflpklbhjepaa
open Go.ChangeShapes Go.WideShapes Go.ChangeAt Go.RowKit Go.Deep
set_option linter.unusedVariables false

/-- Ints of the machine. -/
def FitO (o : ObD) : Prop := AllI o.p ∧ AllI o.v
section
variable {H : Type} {enc : TypeId × Value → H} {w : World}

theorem rdObj_trod {fuel : Nat} {cs : List Value} {x : DataW H × List MemPlace} {b o : Nat} (hc : ∀ i, i < 2 → w.cell? ⟨b, o + i, none⟩ = cs[i]?) (hl : cs.length = 2) (h : DataW.trod enc Try.prog w 0 (fun _ => true) true fuel 65 cs = some x) : ∃ s, RdObj w b o s ∧ FitO s := by
  match cs, hl with
  | [c0, c1], _ =>
    obtain ⟨ys, n, _, _, _, hlen, hg⟩ := DataW.trod_struct Try.underlying65 h
    have k25 : Try.prog.cellsOf 42 = 1 := by kernel_rfl
    have g0 : DataW.trod enc Try.prog w 0 (fun _ => true) true n 42 (([c0, c1].drop 0).take (Try.prog.cellsOf 42)) = ys[0]? := hg 0 _ rfl
    simp only [k25, List.drop_zero, List.take_succ_cons, List.take_zero] at g0
    have g1 : DataW.trod enc Try.prog w 0 (fun _ => true) true n 42 (([c0, c1].drop 1).take (Try.prog.cellsOf 42)) = ys[1]? := hg 1 _ rfl
    simp only [k25, List.drop_succ_cons, List.drop_zero, List.take_succ_cons, List.take_zero] at g1
    have hy : ∀ i, i < 2 → ∃ y, ys[i]? = some y := fun i hi => ⟨_, List.getElem?_eq_getElem (by rw [hlen]; exact hi)⟩
    obtain ⟨y0, e0⟩ := hy 0 (by omega)
    obtain ⟨y1, e1⟩ := hy 1 (by omega)
    have e4' := g0.trans e0
    have e5' := g1.trans e1
    obtain ⟨L4, r4, f4⟩ := rd_trod Try.underlying42 e4'
    obtain ⟨L5, r5, f5⟩ := rd_trod Try.underlying42 e5'
    exact ⟨⟨L4, L5⟩, ⟨c0, c1, hc 0 (by omega), hc 1 (by omega), r4, r5⟩, f4, f5⟩

theorem rdO_trod {fuel : Nat} {v : Value} {x : DataW H × List MemPlace} (h : DataW.trod enc Try.prog w 0 (fun _ => true) true fuel 22 [v] = some x) : ∃ L, RdO w v L ∧ ∀ s, s ∈ L → FitO s := by
  have k2 : Try.prog.cellsOf 65 = 2 := by kernel_rfl
  rcases open_slice Try.underlying22 h with ⟨hcs, _⟩ | ⟨a, l, c, m, n, D, Pl, hcs, _, hl, hm, hmm, _, hi⟩
  · obtain rfl : v = .slice none 0 0 := by simpa using hcs
    exact ⟨[], ⟨none, 0, rfl, by simp, fun j s hj => by simp at hj⟩, fun x hx => by simp at hx⟩
  · obtain rfl : v = .slice (some a) l c := by simpa using hcs
    have hm' : m = c := by simpa using hmm
    rw [k2] at hi
    have each : ∀ i, ∃ s, i < l → a.spot = none ∧ RdObj w a.block (a.off + i * 2) s ∧ FitO s := by
      intro i
      by_cases hil : i < l
      · obtain ⟨cs', hc, ht⟩ := hi i (by omega)
        obtain ⟨_, hcl, hat⟩ := World.cells?_some hc
        obtain ⟨cs0, hc0, _⟩ := hi 0 (by omega)
        obtain ⟨_, hcl0, hat0⟩ := World.cells?_some hc0
        have hs : a.spot = none := by
          refine spot_none (w := w) (v := cs0[0]'(by omega)) ?_
          have := hat0 0 (by omega)
          rw [List.getElem?_eq_getElem (by omega)] at this
          simpa [Addr.add] using this
        obtain ⟨s, hsp, hft⟩ := rdObj_trod (b := a.block) (o := a.off + i * 2) (fun j hj => by
          rw [← hat j hj, add_none hs]
          rw [show (⟨a.block, a.off + i * 2, none⟩ : Addr).add j = ⟨a.block, a.off + i * 2 + j, none⟩ from Addr.add_lit ..]) hcl ht
        exact ⟨s, fun _ => ⟨hs, hsp, hft⟩⟩
      · exact ⟨⟨[], []⟩, fun h => absurd h hil⟩
    obtain ⟨f, hf⟩ := Classical.axiomOfChoice each
    refine ⟨(List.range l).map f, ⟨some a, c, by simp, by simp; omega, fun j s hj => ?_⟩, fun x hx => by
      obtain ⟨i, hi, rfl⟩ := List.mem_map.1 hx
      exact (hf i (List.mem_range.1 hi)).2.2⟩
    have hjl : j < l := by
      have := (List.getElem?_eq_some_iff.1 hj).1
      simpa using this
    obtain rfl : f j = s := by simpa [hjl] using hj
    obtain ⟨hs, hsp, _⟩ := hf j hjl
    exact ⟨a.block, a.off, by obtain ⟨b, o, s⟩ := a; obtain rfl : s = none := hs; rfl, hsp⟩

/-- What fits: ints of the machine. -/
def FitG (D : GD) : Prop := (∀ s, s ∈ D.objs → FitO s) ∧ ∀ r, r ∈ D.muts → AllI r
set_option maxRecDepth 100000 in
theorem rdG_trod {r : Reach} {b0 : Nat} {v : Value} {d : DataW H} {p : List MemPlace} (hv : Value.okWide Try.prog w r b0 25 v) (h : DataW.Trod enc Try.prog w 0 (fun _ => true) true 25 v d p) : ∃ D, RdG w v D ∧ FitG D := by
  have k2 : Try.prog.cellsOf 25 = 2 := by kernel_rfl
  have kS : Try.prog.cellsOf 22 = 1 := by kernel_rfl
  have kM : Try.prog.cellsOf 23 = 1 := by kernel_rfl
  obtain ⟨cs, rfl, hsz⟩ := okWide_struct Try.underlying25 hv
  obtain ⟨l⟩ := cs
  match l, hsz.trans k2 with
  | [c0, c1], _ =>
    obtain ⟨fuel, hf⟩ := h
    obtain ⟨ys, n, _, _, _, hlen, hg⟩ := DataW.trod_struct Try.underlying25 hf
    have hy : ∀ i, i < 2 → ∃ y, ys[i]? = some y := fun i hi => ⟨_, List.getElem?_eq_getElem (by rw [hlen]; exact hi)⟩
    obtain ⟨y0, e0⟩ := hy 0 (by omega)
    obtain ⟨y1, e1⟩ := hy 1 (by omega)
    have g0 : DataW.trod enc Try.prog w 0 (fun _ => true) true n 22 (([c0, c1].drop 0).take (Try.prog.cellsOf 22)) = ys[0]? := hg 0 _ rfl
    simp only [kS, List.drop_zero, List.take_succ_cons, List.take_zero] at g0
    have g1 : DataW.trod enc Try.prog w 0 (fun _ => true) true n 23 (([c0, c1].drop 1).take (Try.prog.cellsOf 23)) = ys[1]? := hg 1 _ rfl
    simp only [kM, List.drop_succ_cons, List.drop_zero, List.take_succ_cons, List.take_zero] at g1
    replace g0 := g0.trans e0
    replace g1 := g1.trans e1
    obtain ⟨L4, r4, q4⟩ := rdO_trod g0
    obtain ⟨L5, r5, q5⟩ := rdM_trod g1
    exact ⟨⟨L4, L5⟩, ⟨c0, c1, rfl, r4, r5⟩, q4, q5⟩
end
end Go.Proofs.Ytaaflpklbhjepaa

/-
  An argument that is a list of events reads as plain data.
-/
import Derived.Test.YtjldjeokcpjgkaaDoorTxT
import Derived.Test.YtjldjeokcpjgkaaDoorTxW
import Derived.Test.YtjldjeokcpjgkaaDoorWOpen
namespace Go.Proofs.YtjldjeokcpjgkaaDoor
open Go.ChangeShapes Go.WideShapes Go.ChangeAt Go.RowKit Go.Deep
set_option linter.unusedVariables false

theorem rdE_trod {H : Type} {enc : TypeId × Value → H} {w : World} {fuel : Nat} {v : Value} {x : DataW H × List MemPlace} (h : DataW.trod enc Tryd.prog w 0 (fun _ => true) true fuel 36 [v] = some x) : ∃ L, RdE w v L ∧ FitL L := by
  have k11 : Tryd.prog.cellsOf 25 = 11 := by kernel_rfl
  rcases open_slice Tryd.underlying36 h with ⟨hcs, _⟩ | ⟨a, l, c, m, n, D, Pl, hcs, _, hl, hm, hmm, _, hi⟩
  · obtain rfl : v = .slice none 0 0 := by simpa using hcs
    exact ⟨[], ⟨none, 0, rfl, by simp, fun j s hj => by simp at hj⟩, fun x hx => by simp at hx⟩
  · obtain rfl : v = .slice (some a) l c := by simpa using hcs
    have hm' : m = c := by simpa using hmm
    rw [k11] at hi
    have each : ∀ i, ∃ E, i < l → a.spot = none ∧ RdEv w a.block (a.off + i * 11) E ∧ FitE E := by
      intro i
      by_cases hil : i < l
      · obtain ⟨cs', hc, ht⟩ := hi i (by omega)
        obtain ⟨_, hcl, hat⟩ := World.cells?_some hc
        obtain ⟨cs0, hc0, _⟩ := hi 0 (by omega)
        obtain ⟨_, hcl0, hat0⟩ := World.cells?_some hc0
        have hs : a.spot = none := by
          refine spot_none (w := w) (v := cs0[0]'(by omega)) ?_
          have := hat0 0 (by omega)
          rw [List.getElem?_eq_getElem (by omega)] at this
          simpa [Addr.add] using this
        obtain ⟨E, rfl, hft⟩ := evC_trod hcl ht
        refine ⟨E, fun _ => ⟨hs, fun j y hy => ?_, hft⟩⟩
        have hj : j < 11 := by have := (Array.getElem?_eq_some_iff.1 hy).1; simpa [EvD.cells] using this
        have h2 := hat j hj
        rw [add_none hs, show (⟨a.block, a.off + i * 11, none⟩ : Addr).add j = ⟨a.block, a.off + i * 11 + j, none⟩ from Addr.add_lit ..] at h2
        rw [h2]
        simpa using hy
      · exact ⟨⟨0, 0, 0, 0, 0, 0, 0, 0, 0, 0, 0⟩, fun h => absurd h hil⟩
    obtain ⟨f, hf⟩ := Classical.axiomOfChoice each
    refine ⟨(List.range l).map f, ⟨some a, c, by simp, by simp; omega, fun j s hj => ?_⟩, fun x hx => by
      obtain ⟨i, hi, rfl⟩ := List.mem_map.1 hx
      exact (hf i (List.mem_range.1 hi)).2.2⟩
    have hjl : j < l := by
      have := (List.getElem?_eq_some_iff.1 hj).1
      simpa using this
    obtain rfl : f j = s := by simpa [hjl] using hj
    obtain ⟨hs, hsp, _⟩ := hf j hjl
    exact ⟨a.block, a.off, by obtain ⟨b, o, s⟩ := a; obtain rfl : s = none := hs; rfl, hsp⟩
end Go.Proofs.YtjldjeokcpjgkaaDoor

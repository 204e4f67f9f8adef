/-
  An argument that is a World, whatever memory it lies in, reads as plain data.
-/
import Derived.Test.YtaaflpklbhjepaaWData
import Derived.OpenShut
import Derived.ShutString
import Derived.ChangeOld
import Derived.Deep.Slices
import Derived.Deep.Grids
namespace Go.Proofs.Ytaaflpklbhjepaa
open Go.ChangeShapes Go.WideShapes Go.ChangeAt Go.RowKit Go.Deep
set_option linter.unusedVariables false

section
variable {H : Type} {enc : TypeId × Value → H} {w : World}

theorem spot_none {a : Addr} {v : Value} (h : w.cell? (a.add 0) = some v) : a.spot = none := by
  obtain ⟨b, o, s⟩ := a
  simpa [Addr.add] using World.cell?_spot h
theorem add_none {a : Addr} (h : a.spot = none) (k : Nat) : a.add k = ⟨a.block, a.off + k, none⟩ := by
  obtain ⟨b, o, s⟩ := a
  obtain rfl : s = none := h
  exact Addr.add_lit ..

theorem rd_trod {t : TypeId} {fuel : Nat} {v : Value} {x : DataW H × List MemPlace} (ht : Try.prog.underlying t = some (.slice 3)) (h : DataW.trod enc Try.prog w 0 (fun _ => true) true fuel t [v] = some x) : ∃ L, Rd w v L ∧ AllI L := by
  rcases open_ints ht Try.underlying3 (by kernel_rfl) h with ⟨hcs, _⟩ | ⟨a, l, c, zs, hcs, _, hl, hm, hz, _, hcell, hwz⟩
  · obtain rfl : v = .slice none 0 0 := by simpa using hcs
    exact ⟨[], ⟨none, 0, rfl, by simp, fun j hj => by simp at hj⟩, fun x hx => by simp at hx⟩
  · obtain rfl : v = .slice (some a) l c := by simpa using hcs
    have hzl : zs.length = c := by simpa using hz
    have hlen : (zs.take l).length = l := by simp; omega
    refine ⟨zs.take l, ⟨some a, c, by rw [hlen], by omega, fun j hj => ?_⟩, fun x hx => i64_wf (hwz x (List.mem_of_mem_take hx))⟩
    have hj' : j < l := by omega
    have hs := spot_none (hcell 0 (by omega))
    refine ⟨a.block, a.off, by obtain ⟨b, o, s⟩ := a; obtain rfl : s = none := hs; rfl, ?_⟩
    rw [← add_none hs, hcell j (by omega)]
    simp [List.getD, hj']

theorem rdB_trod {t : TypeId} {fuel : Nat} {v : Value} {x : DataW H × List MemPlace} (ht : Try.prog.underlying t = some (.slice 4)) (h : DataW.trod enc Try.prog w 0 (fun _ => true) true fuel t [v] = some x) : ∃ L, RdB w v L := by
  rcases open_bools ht Try.underlying4 (by kernel_rfl) h with ⟨hcs, _⟩ | ⟨a, l, c, B, hcs, _, hl, hm, _, hcell⟩
  · obtain rfl : v = .slice none 0 0 := by simpa using hcs
    exact ⟨[], none, 0, rfl, by simp, fun j hj => by simp at hj⟩
  · obtain rfl : v = .slice (some a) l c := by simpa using hcs
    refine ⟨(List.range l).map B, some a, c, by simp, by simp; omega, fun j hj => ?_⟩
    have hj' : j < l := by simpa using hj
    have hs := spot_none (hcell 0 (by omega))
    refine ⟨a.block, a.off, by obtain ⟨b, o, s⟩ := a; obtain rfl : s = none := hs; rfl, ?_⟩
    rw [← add_none hs, hcell j (by omega)]
    simp [hj']

theorem rdM_trod {fuel : Nat} {v : Value} {x : DataW H × List MemPlace} (h : DataW.trod enc Try.prog w 0 (fun _ => true) true fuel 23 [v] = some x) : ∃ L, RdM w v L ∧ ∀ r, r ∈ L → AllI r := by
  have k1 : Try.prog.cellsOf 67 = 1 := by kernel_rfl
  have k25 : Try.prog.cellsOf 42 = 1 := by kernel_rfl
  rcases open_slice Try.underlying23 h with ⟨hcs, _⟩ | ⟨a, l, c, m, n, D, Pl, hcs, _, hl, hm, hmm, _, hi⟩
  · obtain rfl : v = .slice none 0 0 := by simpa using hcs
    exact ⟨[], ⟨none, 0, rfl, by simp, fun j s hj => by simp at hj⟩, fun x hx => by simp at hx⟩
  · obtain rfl : v = .slice (some a) l c := by simpa using hcs
    have hm' : m = c := by simpa using hmm
    rw [k1] at hi
    have each : ∀ i, ∃ r, i < l → a.spot = none ∧ (∃ u, w.cell? ⟨a.block, a.off + i, none⟩ = some u ∧ Rd w u r) ∧ AllI r := by
      intro i
      by_cases hil : i < l
      · obtain ⟨cs', hc, ht⟩ := hi i (by omega)
        obtain ⟨_, hcl, hat⟩ := World.cells?_some hc
        obtain ⟨cs0, hc0, _⟩ := hi 0 (by omega)
        obtain ⟨_, hcl0, hat0⟩ := World.cells?_some hc0
        have hs : a.spot = none := by
          refine spot_none (w := w) (v := cs0[0]'(by omega)) ?_
          have := hat0 0 (by omega)
          rw [List.getElem?_eq_getElem (by omega)] at this
          simpa [Addr.add] using this
        match cs', hcl with
        | [c0], _ =>
          obtain ⟨ys, n', _, _, _, hlen, hg⟩ := DataW.trod_struct Try.underlying67 ht
          have g0 : DataW.trod enc Try.prog w 0 (fun _ => true) true n' 42 (([c0].drop 0).take (Try.prog.cellsOf 42)) = ys[0]? := hg 0 _ rfl
          simp only [k25, List.drop_zero, List.take_succ_cons, List.take_zero] at g0
          obtain ⟨y0, e0⟩ : ∃ y, ys[0]? = some y := ⟨_, List.getElem?_eq_getElem (by rw [hlen]; exact Nat.zero_lt_one)⟩
          have e0' := g0.trans e0
          obtain ⟨L0, r0, f0⟩ := rd_trod Try.underlying42 e0'
          have h0 := hat 0 (by omega)
          rw [Nat.mul_one, add_none hs] at h0
          exact ⟨L0, fun _ => ⟨hs, ⟨c0, by simpa [Addr.add] using h0, r0⟩, f0⟩⟩
      · exact ⟨[], fun h => absurd h hil⟩
    obtain ⟨f, hf⟩ := Classical.axiomOfChoice each
    refine ⟨(List.range l).map f, ⟨some a, c, by simp, by simp; omega, fun j r hj => ?_⟩, fun x hx => by
      obtain ⟨i, hi, rfl⟩ := List.mem_map.1 hx
      exact (hf i (List.mem_range.1 hi)).2.2⟩
    have hjl : j < l := by
      have := (List.getElem?_eq_some_iff.1 hj).1
      simpa using this
    obtain rfl : f j = r := by simpa [hjl] using hj
    obtain ⟨hs, ⟨u, hu, hr⟩, _⟩ := hf j hjl
    exact ⟨a.block, a.off, u, by obtain ⟨b, o, s⟩ := a; obtain rfl : s = none := hs; rfl, hu, hr⟩

end
end Go.Proofs.Ytaaflpklbhjepaa

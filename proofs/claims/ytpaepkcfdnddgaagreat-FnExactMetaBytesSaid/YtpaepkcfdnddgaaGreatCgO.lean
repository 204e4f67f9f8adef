import Derived.Test.YtpaepkcfdnddgaaGreatCgW
import Derived.OpenShut
import Derived.ShutString
import Derived.ChangeOld
import Derived.Deep.Slices
import Derived.Deep.Grids

namespace Go.Proofs.YtpaepkcfdnddgaaGreat
open Go.ChangeShapes Go.WideShapes Go.ChangeAt Go.RowKit Go.Deep
set_option linter.unusedVariables false

section
variable {H : Type} {enc : TypeId × Value → H} {w : World}

theorem spot_none {a : Addr} {v : Value} (h : w.cell? (a.add 0) = some v) : a.spot = none := by
  obtain ⟨b, o, s⟩ := a
  simpa [Addr.add] using World.cell?_spot h
theorem add_none {a : Addr} (h : a.spot = none) (k : Nat) : a.add k = ⟨a.block, a.off + k, none⟩ := by
  obtain ⟨b, o, s⟩ := a
  obtain rfl : s = none := h
  exact Addr.add_lit ..

theorem rd_trod {t : TypeId} {fuel : Nat} {v : Value} {x : DataW H × List MemPlace} (ht : Tryz.prog.underlying t = some (.slice 3)) (h : DataW.trod enc Tryz.prog w 0 (fun _ => true) true fuel t [v] = some x) : ∃ L, Rd w v L ∧ AllI L := by
  rcases open_ints ht Tryz.underlying3 (by kernel_rfl) h with ⟨hcs, _⟩ | ⟨a, l, c, zs, hcs, _, hl, hm, hz, _, hcell, hwz⟩
  · obtain rfl : v = .slice none 0 0 := by simpa using hcs
    exact ⟨[], ⟨none, 0, rfl, by simp, fun j hj => by simp at hj⟩, fun x hx => by simp at hx⟩
  · obtain rfl : v = .slice (some a) l c := by simpa using hcs
    have hzl : zs.length = c := by simpa using hz
    have hlen : (zs.take l).length = l := by simp; omega
    refine ⟨zs.take l, ⟨some a, c, by rw [hlen], by omega, fun j hj => ?_⟩, fun x hx => i64_wf (hwz x (List.mem_of_mem_take hx))⟩
    have hj' : j < l := by omega
    have hs := spot_none (hcell 0 (by omega))
    refine ⟨a.block, a.off, by obtain ⟨b, o, s⟩ := a; obtain rfl : s = none := hs; rfl, ?_⟩
    rw [← add_none hs, hcell j (by omega)]
    simp [List.getD, hj']

theorem rdB_trod {t : TypeId} {fuel : Nat} {v : Value} {x : DataW H × List MemPlace} (ht : Tryz.prog.underlying t = some (.slice 4)) (h : DataW.trod enc Tryz.prog w 0 (fun _ => true) true fuel t [v] = some x) : ∃ L, RdB w v L := by
  rcases open_bools ht Tryz.underlying4 (by kernel_rfl) h with ⟨hcs, _⟩ | ⟨a, l, c, B, hcs, _, hl, hm, _, hcell⟩
  · obtain rfl : v = .slice none 0 0 := by simpa using hcs
    exact ⟨[], none, 0, rfl, by simp, fun j hj => by simp at hj⟩
  · obtain rfl : v = .slice (some a) l c := by simpa using hcs
    refine ⟨(List.range l).map B, some a, c, by simp, by simp; omega, fun j hj => ?_⟩
    have hj' : j < l := by simpa using hj
    have hs := spot_none (hcell 0 (by omega))
    refine ⟨a.block, a.off, by obtain ⟨b, o, s⟩ := a; obtain rfl : s = none := hs; rfl, ?_⟩
    rw [← add_none hs, hcell j (by omega)]
    simp [hj']

theorem rdSpan_trod {fuel : Nat} {cs : List Value} {x : DataW H × List MemPlace} {b o : Nat} (hc : ∀ i, i < 6 → w.cell? ⟨b, o + i, none⟩ = cs[i]?) (hl : cs.length = 6) (h : DataW.trod enc Tryz.prog w 0 (fun _ => true) true fuel 88 cs = some x) : ∃ s, RdSpan w b o s ∧ FitS s := by
  match cs, hl with
  | [c0, c1, c2, c3, c4, c5], _ =>
    obtain ⟨ys, n, _, _, _, hlen, hg⟩ := DataW.trod_struct Tryz.underlying88 h
    have k3 : Tryz.prog.cellsOf 3 = 1 := by kernel_rfl
    have k4 : Tryz.prog.cellsOf 4 = 1 := by kernel_rfl
    have k25 : Tryz.prog.cellsOf 22 = 1 := by kernel_rfl
    have g0 : DataW.trod enc Tryz.prog w 0 (fun _ => true) true n 3 (([c0, c1, c2, c3, c4, c5].drop 0).take (Tryz.prog.cellsOf 3)) = ys[0]? := hg 0 _ rfl
    simp only [k3, List.drop_zero, List.take_succ_cons, List.take_zero] at g0
    have g1 : DataW.trod enc Tryz.prog w 0 (fun _ => true) true n 3 (([c0, c1, c2, c3, c4, c5].drop 1).take (Tryz.prog.cellsOf 3)) = ys[1]? := hg 1 _ rfl
    simp only [k3, List.drop_succ_cons, List.drop_zero, List.take_succ_cons, List.take_zero] at g1
    have g2 : DataW.trod enc Tryz.prog w 0 (fun _ => true) true n 3 (([c0, c1, c2, c3, c4, c5].drop 2).take (Tryz.prog.cellsOf 3)) = ys[2]? := hg 2 _ rfl
    simp only [k3, List.drop_succ_cons, List.drop_zero, List.take_succ_cons, List.take_zero] at g2
    have g3 : DataW.trod enc Tryz.prog w 0 (fun _ => true) true n 4 (([c0, c1, c2, c3, c4, c5].drop 3).take (Tryz.prog.cellsOf 4)) = ys[3]? := hg 3 _ rfl
    simp only [k4, List.drop_succ_cons, List.drop_zero, List.take_succ_cons, List.take_zero] at g3
    have g4 : DataW.trod enc Tryz.prog w 0 (fun _ => true) true n 22 (([c0, c1, c2, c3, c4, c5].drop 4).take (Tryz.prog.cellsOf 22)) = ys[4]? := hg 4 _ rfl
    simp only [k25, List.drop_succ_cons, List.drop_zero, List.take_succ_cons, List.take_zero] at g4
    have g5 : DataW.trod enc Tryz.prog w 0 (fun _ => true) true n 22 (([c0, c1, c2, c3, c4, c5].drop 5).take (Tryz.prog.cellsOf 22)) = ys[5]? := hg 5 _ rfl
    simp only [k25, List.drop_succ_cons, List.drop_zero, List.take_succ_cons, List.take_zero] at g5
    have hy : ∀ i, i < 6 → ∃ y, ys[i]? = some y := fun i hi => ⟨_, List.getElem?_eq_getElem (by rw [hlen]; exact hi)⟩
    obtain ⟨y0, e0⟩ := hy 0 (by omega)
    obtain ⟨y1, e1⟩ := hy 1 (by omega)
    obtain ⟨y2, e2⟩ := hy 2 (by omega)
    obtain ⟨y3, e3⟩ := hy 3 (by omega)
    obtain ⟨y4, e4⟩ := hy 4 (by omega)
    obtain ⟨y5, e5⟩ := hy 5 (by omega)
    obtain ⟨n0, h0, _, w0⟩ := DataW.trod_int Tryz.underlying3 (g0.trans e0)
    obtain ⟨n1, h1, _, w1⟩ := DataW.trod_int Tryz.underlying3 (g1.trans e1)
    obtain ⟨n2, h2, _, w2⟩ := DataW.trod_int Tryz.underlying3 (g2.trans e2)
    obtain ⟨b3, h3, _⟩ := DataW.trod_bool Tryz.underlying4 (g3.trans e3)
    have e4' := g4.trans e4
    have e5' := g5.trans e5
    simp only [List.cons.injEq, and_true] at h0 h1 h2 h3
    obtain ⟨L4, r4, f4⟩ := rd_trod Tryz.underlying22 e4'
    obtain ⟨L5, r5, f5⟩ := rd_trod Tryz.underlying22 e5'
    exact ⟨⟨n0, n1, n2, b3, L4, L5⟩, ⟨c4, c5, by rw [← h0]; exact hc 0 (by omega), by rw [← h1]; exact hc 1 (by omega), by rw [← h2]; exact hc 2 (by omega), by rw [← h3]; exact hc 3 (by omega), hc 4 (by omega), hc 5 (by omega), r4, r5⟩, i64_wf w0, i64_wf w1, i64_wf w2, f4, f5⟩

theorem rdS_trod {fuel : Nat} {v : Value} {x : DataW H × List MemPlace} (h : DataW.trod enc Tryz.prog w 0 (fun _ => true) true fuel 24 [v] = some x) : ∃ L, RdS w v L ∧ ∀ s, s ∈ L → FitS s := by
  have k6 : Tryz.prog.cellsOf 88 = 6 := by kernel_rfl
  rcases open_slice Tryz.underlying24 h with ⟨hcs, _⟩ | ⟨a, l, c, m, n, D, Pl, hcs, _, hl, hm, hmm, _, hi⟩
  · obtain rfl : v = .slice none 0 0 := by simpa using hcs
    exact ⟨[], ⟨none, 0, rfl, by simp, fun j s hj => by simp at hj⟩, fun x hx => by simp at hx⟩
  · obtain rfl : v = .slice (some a) l c := by simpa using hcs
    have hm' : m = c := by simpa using hmm
    rw [k6] at hi
    have each : ∀ i, ∃ s, i < l → a.spot = none ∧ RdSpan w a.block (a.off + i * 6) s ∧ FitS s := by
      intro i
      by_cases hil : i < l
      · obtain ⟨cs', hc, ht⟩ := hi i (by omega)
        obtain ⟨_, hcl, hat⟩ := World.cells?_some hc
        obtain ⟨cs0, hc0, _⟩ := hi 0 (by omega)
        obtain ⟨_, hcl0, hat0⟩ := World.cells?_some hc0
        have hs : a.spot = none := by
          refine spot_none (w := w) (v := cs0[0]'(by omega)) ?_
          have := hat0 0 (by omega)
          rw [List.getElem?_eq_getElem (by omega)] at this
          simpa [Addr.add] using this
        obtain ⟨s, hsp, hft⟩ := rdSpan_trod (b := a.block) (o := a.off + i * 6) (fun j hj => by
          rw [← hat j hj, add_none hs]
          rw [show (⟨a.block, a.off + i * 6, none⟩ : Addr).add j = ⟨a.block, a.off + i * 6 + j, none⟩ from Addr.add_lit ..]) hcl ht
        exact ⟨s, fun _ => ⟨hs, hsp, hft⟩⟩
      · exact ⟨⟨0, 0, 0, false, [], []⟩, fun h => absurd h hil⟩
    obtain ⟨f, hf⟩ := Classical.axiomOfChoice each
    refine ⟨(List.range l).map f, ⟨some a, c, by simp, by simp; omega, fun j s hj => ?_⟩, fun x hx => by
      obtain ⟨i, hi, rfl⟩ := List.mem_map.1 hx
      exact (hf i (List.mem_range.1 hi)).2.2⟩
    have hjl : j < l := by
      have := (List.getElem?_eq_some_iff.1 hj).1
      simpa using this
    obtain rfl : f j = s := by simpa [hjl] using hj
    obtain ⟨hs, hsp, _⟩ := hf j hjl
    exact ⟨a.block, a.off, by obtain ⟨b, o, s⟩ := a; obtain rfl : s = none := hs; rfl, hsp⟩

theorem rdM_trod {fuel : Nat} {v : Value} {x : DataW H × List MemPlace} (h : DataW.trod enc Tryz.prog w 0 (fun _ => true) true fuel 25 [v] = some x) : ∃ L, RdM w v L ∧ ∀ r, r ∈ L → AllI r := by
  have k1 : Tryz.prog.cellsOf 90 = 1 := by kernel_rfl
  have k25 : Tryz.prog.cellsOf 22 = 1 := by kernel_rfl
  rcases open_slice Tryz.underlying25 h with ⟨hcs, _⟩ | ⟨a, l, c, m, n, D, Pl, hcs, _, hl, hm, hmm, _, hi⟩
  · obtain rfl : v = .slice none 0 0 := by simpa using hcs
    exact ⟨[], ⟨none, 0, rfl, by simp, fun j s hj => by simp at hj⟩, fun x hx => by simp at hx⟩
  · obtain rfl : v = .slice (some a) l c := by simpa using hcs
    have hm' : m = c := by simpa using hmm
    rw [k1] at hi
    have each : ∀ i, ∃ r, i < l → a.spot = none ∧ (∃ u, w.cell? ⟨a.block, a.off + i, none⟩ = some u ∧ Rd w u r) ∧ AllI r := by
      intro i
      by_cases hil : i < l
      · obtain ⟨cs', hc, ht⟩ := hi i (by omega)
        obtain ⟨_, hcl, hat⟩ := World.cells?_some hc
        obtain ⟨cs0, hc0, _⟩ := hi 0 (by omega)
        obtain ⟨_, hcl0, hat0⟩ := World.cells?_some hc0
        have hs : a.spot = none := by
          refine spot_none (w := w) (v := cs0[0]'(by omega)) ?_
          have := hat0 0 (by omega)
          rw [List.getElem?_eq_getElem (by omega)] at this
          simpa [Addr.add] using this
        match cs', hcl with
        | [c0], _ =>
          obtain ⟨ys, n', _, _, _, hlen, hg⟩ := DataW.trod_struct Tryz.underlying90 ht
          have g0 : DataW.trod enc Tryz.prog w 0 (fun _ => true) true n' 22 (([c0].drop 0).take (Tryz.prog.cellsOf 22)) = ys[0]? := hg 0 _ rfl
          simp only [k25, List.drop_zero, List.take_succ_cons, List.take_zero] at g0
          obtain ⟨y0, e0⟩ : ∃ y, ys[0]? = some y := ⟨_, List.getElem?_eq_getElem (by rw [hlen]; exact Nat.zero_lt_one)⟩
          have e0' := g0.trans e0
          obtain ⟨L0, r0, f0⟩ := rd_trod Tryz.underlying22 e0'
          have h0 := hat 0 (by omega)
          rw [Nat.mul_one, add_none hs] at h0
          exact ⟨L0, fun _ => ⟨hs, ⟨c0, by simpa [Addr.add] using h0, r0⟩, f0⟩⟩
      · exact ⟨[], fun h => absurd h hil⟩
    obtain ⟨f, hf⟩ := Classical.axiomOfChoice each
    refine ⟨(List.range l).map f, ⟨some a, c, by simp, by simp; omega, fun j r hj => ?_⟩, fun x hx => by
      obtain ⟨i, hi, rfl⟩ := List.mem_map.1 hx
      exact (hf i (List.mem_range.1 hi)).2.2⟩
    have hjl : j < l := by
      have := (List.getElem?_eq_some_iff.1 hj).1
      simpa using this
    obtain rfl : f j = r := by simpa [hjl] using hj
    obtain ⟨hs, ⟨u, hu, hr⟩, _⟩ := hf j hjl
    exact ⟨a.block, a.off, u, by obtain ⟨b, o, s⟩ := a; obtain rfl : s = none := hs; rfl, hu, hr⟩

set_option maxRecDepth 100000 in
theorem rdW_trod {r : Reach} {b0 : Nat} {v : Value} {d : DataW H} {p : List MemPlace} (hv : Value.okWide Tryz.prog w r b0 29 v) (h : DataW.Trod enc Tryz.prog w 0 (fun _ => true) true 29 v d p) : ∃ D, RdW w v D ∧ FitD D := by
  have k9 : Tryz.prog.cellsOf 29 = 9 := by kernel_rfl
  have k3 : Tryz.prog.cellsOf 3 = 1 := by kernel_rfl
  have kI : Tryz.prog.cellsOf 22 = 1 := by kernel_rfl
  have kB : Tryz.prog.cellsOf 23 = 1 := by kernel_rfl
  have kS : Tryz.prog.cellsOf 24 = 1 := by kernel_rfl
  have kM : Tryz.prog.cellsOf 25 = 1 := by kernel_rfl
  have kG : Tryz.prog.cellsOf 27 = 3 := by kernel_rfl
  obtain ⟨cs, rfl, hsz⟩ := okWide_struct Tryz.underlying29 hv
  obtain ⟨l⟩ := cs
  match l, hsz.trans k9 with
  | [c0, c1, c2, c3, c4, c5, c6, c7, c8], _ =>
    obtain ⟨fuel, hf⟩ := h
    obtain ⟨ys, n, _, _, _, hlen, hg⟩ := DataW.trod_struct Tryz.underlying29 hf
    have hy : ∀ i, i < 7 → ∃ y, ys[i]? = some y := fun i hi => ⟨_, List.getElem?_eq_getElem (by rw [hlen]; exact hi)⟩
    obtain ⟨y0, e0⟩ := hy 0 (by omega)
    obtain ⟨y1, e1⟩ := hy 1 (by omega)
    obtain ⟨y2, e2⟩ := hy 2 (by omega)
    obtain ⟨y3, e3⟩ := hy 3 (by omega)
    obtain ⟨y4, e4⟩ := hy 4 (by omega)
    obtain ⟨y5, e5⟩ := hy 5 (by omega)
    obtain ⟨y6, e6⟩ := hy 6 (by omega)
    have g0 : DataW.trod enc Tryz.prog w 0 (fun _ => true) true n 3 (([c0, c1, c2, c3, c4, c5, c6, c7, c8].drop 0).take (Tryz.prog.cellsOf 3)) = ys[0]? := hg 0 _ rfl
    simp only [k3, List.drop_zero, List.take_succ_cons, List.take_zero] at g0
    have g1 : DataW.trod enc Tryz.prog w 0 (fun _ => true) true n 3 (([c0, c1, c2, c3, c4, c5, c6, c7, c8].drop 1).take (Tryz.prog.cellsOf 3)) = ys[1]? := hg 1 _ rfl
    simp only [k3, List.drop_succ_cons, List.drop_zero, List.take_succ_cons, List.take_zero] at g1
    have g2 : DataW.trod enc Tryz.prog w 0 (fun _ => true) true n 22 (([c0, c1, c2, c3, c4, c5, c6, c7, c8].drop 2).take (Tryz.prog.cellsOf 22)) = ys[2]? := hg 2 _ rfl
    simp only [kI, List.drop_succ_cons, List.drop_zero, List.take_succ_cons, List.take_zero] at g2
    have g3 : DataW.trod enc Tryz.prog w 0 (fun _ => true) true n 23 (([c0, c1, c2, c3, c4, c5, c6, c7, c8].drop 3).take (Tryz.prog.cellsOf 23)) = ys[3]? := hg 3 _ rfl
    simp only [kB, List.drop_succ_cons, List.drop_zero, List.take_succ_cons, List.take_zero] at g3
    have g4 : DataW.trod enc Tryz.prog w 0 (fun _ => true) true n 24 (([c0, c1, c2, c3, c4, c5, c6, c7, c8].drop 4).take (Tryz.prog.cellsOf 24)) = ys[4]? := hg 4 _ rfl
    simp only [kS, List.drop_succ_cons, List.drop_zero, List.take_succ_cons, List.take_zero] at g4
    have g5 : DataW.trod enc Tryz.prog w 0 (fun _ => true) true n 25 (([c0, c1, c2, c3, c4, c5, c6, c7, c8].drop 5).take (Tryz.prog.cellsOf 25)) = ys[5]? := hg 5 _ rfl
    simp only [kM, List.drop_succ_cons, List.drop_zero, List.take_succ_cons, List.take_zero] at g5
    have g6 : DataW.trod enc Tryz.prog w 0 (fun _ => true) true n 27 (([c0, c1, c2, c3, c4, c5, c6, c7, c8].drop 6).take (Tryz.prog.cellsOf 27)) = ys[6]? := hg 6 _ rfl
    simp only [kG, List.drop_succ_cons, List.drop_zero, List.take_succ_cons, List.take_zero] at g6
    replace g0 := g0.trans e0
    replace g1 := g1.trans e1
    replace g2 := g2.trans e2
    replace g3 := g3.trans e3
    replace g4 := g4.trans e4
    replace g5 := g5.trans e5
    replace g6 := g6.trans e6
    obtain ⟨n0, h0, _, w0⟩ := DataW.trod_int Tryz.underlying3 g0
    obtain ⟨n1, h1, _, w1⟩ := DataW.trod_int Tryz.underlying3 g1
    obtain ⟨L2, r2, u2⟩ := rd_trod Tryz.underlying22 g2
    obtain ⟨L3, r3⟩ := rdB_trod Tryz.underlying23 g3
    obtain ⟨L4, r4, q4⟩ := rdS_trod g4
    obtain ⟨L5, r5, q5⟩ := rdM_trod g5
    obtain ⟨zs, m, _, _, _, hlen6, hg6⟩ := DataW.trod_struct Tryz.underlying27 g6
    have hz : ∀ i, i < 3 → ∃ y, zs[i]? = some y := fun i hi => ⟨_, List.getElem?_eq_getElem (by rw [hlen6]; exact hi)⟩
    obtain ⟨z0, f0⟩ := hz 0 (by omega)
    obtain ⟨z1, f1⟩ := hz 1 (by omega)
    obtain ⟨z2, f2⟩ := hz 2 (by omega)
    have q0 : DataW.trod enc Tryz.prog w 0 (fun _ => true) true m 3 (([c6, c7, c8].drop 0).take (Tryz.prog.cellsOf 3)) = zs[0]? := hg6 0 _ rfl
    simp only [k3, List.drop_zero, List.take_succ_cons, List.take_zero] at q0
    have q1 : DataW.trod enc Tryz.prog w 0 (fun _ => true) true m 3 (([c6, c7, c8].drop 1).take (Tryz.prog.cellsOf 3)) = zs[1]? := hg6 1 _ rfl
    simp only [k3, List.drop_succ_cons, List.drop_zero, List.take_succ_cons, List.take_zero] at q1
    have q2 : DataW.trod enc Tryz.prog w 0 (fun _ => true) true m 22 (([c6, c7, c8].drop 2).take (Tryz.prog.cellsOf 22)) = zs[2]? := hg6 2 _ rfl
    simp only [kI, List.drop_succ_cons, List.drop_zero, List.take_succ_cons, List.take_zero] at q2
    replace q0 := q0.trans f0
    replace q1 := q1.trans f1
    replace q2 := q2.trans f2
    obtain ⟨n6, h6, _, w6⟩ := DataW.trod_int Tryz.underlying3 q0
    obtain ⟨n7, h7, _, w7⟩ := DataW.trod_int Tryz.underlying3 q1
    obtain ⟨L8, r8, q8⟩ := rd_trod Tryz.underlying22 q2
    simp only [List.cons.injEq, and_true] at h0 h1 h6 h7
    subst h0; subst h1; subst h6; subst h7
    exact ⟨⟨n0, n1, L2, L3, L4, L5, n6, n7, L8⟩, ⟨c2, c3, c4, c5, c8, rfl, r2, r3, r4, r5, r8⟩, i64_wf w0, i64_wf w1, u2, q4, q5, i64_wf w6, i64_wf w7, q8⟩
end
end Go.Proofs.YtpaepkcfdnddgaaGreat

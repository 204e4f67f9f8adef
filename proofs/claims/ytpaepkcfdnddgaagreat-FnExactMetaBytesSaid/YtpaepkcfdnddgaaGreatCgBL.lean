import Derived.Test.YtpaepkcfdnddgaaGreatShelf
import Derived.Test.YtpaepkcfdnddgaaGreatCgW
import Derived.Test.YtpaepkcfdnddgaaGreatCgEncD

namespace Go.Proofs.YtpaepkcfdnddgaaGreat
open Go.Proofs Go.RowKit
set_option linter.unusedVariables false

theorem sizeBld : (Tryz.prog.info? 101).map (·.size) = some 2 := by kernel_rfl
theorem liesBld : liesAt Tryz.prog Tryz.prog.depth 101 (2 / Tryz.prog.cellsOf 101) 0 101 1 = true := by kernel_rfl
theorem infoU8 : (Tryz.prog.info? 5).map (fun i => (i.zero, i.size, i.bytes)) = some (some (.int .u8 0), 1, 1) := by kernel_rfl

set_option maxHeartbeats 1000000 in
set_option maxRecDepth 100000 in
theorem bcheck_used (b : Nat) (w : World) (h0 : w.cell? ⟨b, 0, none⟩ = some (.pointer (some ⟨b, 0, none⟩))) :
    Calls Tryz.prog 120 #[.pointer (some ⟨b, 0, none⟩)] w fun e w' => e = .returned (.tuple #[]) ∧ w' = w := by
  obtain ⟨j, hj, _⟩ := Option.map_eq_some_iff.1 sizeBld
  go_enter Tryz.func120, Tryz.ntmps120
  go_wp2
  rw [Lib.run_neq_ptr_same w _ Tryz.underlying98 hj]
  go_wp2
  go_end0
  exact ⟨rfl, rfl⟩

set_option maxHeartbeats 1000000 in
set_option maxRecDepth 100000 in
theorem bcheck_fresh (b : Nat) (w : World) (h0 : w.cell? ⟨b, 0, none⟩ = some (.pointer none)) (hsh : w.shape? b = some (101, 2)) (hfz : w.frozen? ⟨b, 0, none⟩ = false) :
    Calls Tryz.prog 120 #[.pointer (some ⟨b, 0, none⟩)] w fun e w' => e = .returned (.tuple #[]) ∧ w' = w.setCell ⟨b, 0, none⟩ (.pointer (some ⟨b, 0, none⟩)) := by
  obtain ⟨j, hj, hjs⟩ := Option.map_eq_some_iff.1 sizeBld
  go_enter Tryz.func120, Tryz.ntmps120
  go_wp2
  rw [Lib.run_to_unsafe w ⟨b, 0, none⟩ Tryz.underlying98 Tryz.underlying150 hj (by rw [hjs]; decide) hsh (Nat.zero_lt_succ 1)]
  simp only [Result.andThen]
  rw [Oper.upon_value]
  go_wp2
  rw [run_callFunc_extern (f := 146) Tryz.func146 (by kernel_rfl) (by kernel_rfl) (by kernel_rfl) (e := Extern.AbiNoEscape.same) (by kernel_rfl)]
  rw [Lib.run_noEscape]
  simp only [Result.andThen]
  rw [Oper.upon_value]
  go_wp2
  rw [Lib.run_from_unsafe w ⟨b, 0, none⟩ Tryz.underlying150 Tryz.underlying98 hj hsh liesBld]
  simp only [Result.andThen]
  rw [Oper.upon_value]
  go_wp2
  go_end0
  exact ⟨rfl, rfl⟩

theorem bcheck_any (B b : Nat) (bs : List Value) (w : World) (h : Lib.IsBuilder 101 5 B b bs w) :
    Calls Tryz.prog 120 #[.pointer (some ⟨b, 0, none⟩)] w fun e w' => e = .returned (.tuple #[]) ∧ (Lib.BuilderAt 101 5 B b (.pointer (some ⟨b, 0, none⟩)) bs w' ∧ Below B w w') := by
  rcases h with h | h
  · refine (bcheck_fresh b w h.cell0 h.shape h.frozen0).mono ?_
    rintro e w' ⟨rfl, rfl⟩
    exact ⟨rfl, h.used _, (Below.refl B w).setCell (p := ⟨b, 0, none⟩) h.1 _⟩
  · refine (bcheck_used b w h.cell0).mono ?_
    rintro e w' ⟨rfl, rfl⟩
    exact ⟨rfl, h, Below.refl B _⟩

set_option maxHeartbeats 2000000 in
set_option maxRecDepth 100000 in
theorem bwrite_any (B b : Nat) (bs : List Value) (s : ByteArray) (w : World) (h : Lib.IsBuilder 101 5 B b bs w) (hlen : bs.length + s.size ≤ 140737488355328) (hBw : B ≤ w.heap.size) :
    Calls Tryz.prog 81 #[.pointer (some ⟨b, 0, none⟩), .string s] w fun e w' => e = .returned (.tuple #[.int .i64 s.size, .nilIface]) ∧ (Lib.BuilderAt 101 5 B b (.pointer (some ⟨b, 0, none⟩)) (bs ++ Lib.strCells s) w' ∧ Below B w w') := by
  obtain ⟨i0, hi, hz0, hz1, hz2⟩ := info_parts infoU8
  go_enter Tryz.func81, Tryz.ntmps81
  go_wp2_with (go_at_call 120; refine (bcheck_any B b bs _ h).mono ?_)
  rintro e w1 ⟨rfl, h1, hb1⟩
  obtain ⟨hB, v, hbk, hown, hne⟩ := h1
  have c0 : w1.cell? ⟨b, 0, none⟩ = some (.pointer (some ⟨b, 0, none⟩)) := by rw [Lib.cell_of_heap hbk]; rfl
  have c1 : w1.cell? ⟨b, 1, none⟩ = some v := by rw [Lib.cell_of_heap hbk]; rfl
  go_wp2_with (at_builtin; refine Lib.wpList_append_own_string _ rfl _ _ 99 9 rfl B 5 i0 Tryz.underlying99 Tryz.underlying9 hi hz0 hz1 hz2 _ _ _ rfl hown s rfl ?c3 ?c4 ?c5 ?_)
  case c3 => unfold maxLen; omega
  case c4 => omega
  case c5 => have := hb1.size; omega
  intro v' w2 hown' hgrow _
  have hlt : b < w1.heap.size := by
    rcases Nat.lt_or_ge b w1.heap.size with h' | h'
    · exact h'
    · simp [Array.getElem?_eq_none h'] at hbk
  have hb2 : w2.heap[b]? = some (.cells #[.pointer (some ⟨b, 0, none⟩), v] 101 (0, 0)) := by
    rw [hgrow.block b hlt (fun e => hne e.symm)]
    exact hbk
  have d0 : w2.cell? ⟨b, 0, none⟩ = some (.pointer (some ⟨b, 0, none⟩)) := by rw [Lib.cell_of_heap hb2]; rfl
  have d1 : w2.cell? ⟨b, 1, none⟩ = some v := by rw [Lib.cell_of_heap hb2]; rfl
  have f1 : w2.frozen? ⟨b, 1, none⟩ = false := Lib.frozen_of_heap hb2 1
  obtain ⟨ao, n', cap, rfl⟩ : ∃ ao n' cap, v' = .slice ao n' cap := by
    rcases hown'.2 with ⟨hv, _⟩ | ⟨g, cap, cur, hv, _⟩
    · exact ⟨_, _, _, hv⟩
    · exact ⟨_, _, _, hv⟩
  go_wp2
  go_ret2
  refine ⟨rfl, ?_, ?_⟩
  · exact Lib.BuilderAt.put (T := 101) (e := 5) hB hb2 (bs' := bs ++ Lib.strCells s) (by simpa [Lib.strCells_length] using hown') (by decide)
  · exact (hb1.grown hgrow (by have := hb1.size; omega) (fun k hk => (hown.lt k hk).1)).setCell (p := ⟨b, 1, none⟩) hB _

theorem Bld.cells {T e : TypeId} {B b : Nat} {bs : List Value} {w w' : World} (h : Lib.IsBuilder T e B b bs w) (hb : Below w.heap.size w w') : Lib.IsBuilder T e B b bs w' := by
  have key : ∀ p, Lib.BuilderAt T e B b p bs w → Lib.BuilderAt T e B b p bs w' := fun p ⟨h1, v, h2, h3, h4⟩ =>
    ⟨h1, v, heap_below hb h2, own_below h3 hb, h4⟩
  exact h.imp (key _) (key _)

theorem ba_size (l : List UInt8) : (⟨l.toArray⟩ : ByteArray).size = l.length := by
  show l.toArray.size = _
  rw [List.size_toArray]
end Go.Proofs.YtpaepkcfdnddgaaGreat

namespace Go.Proofs.YtpaepkcfdnddgaaGreat
open Go.Proofs Go.RowKit
set_option linter.unusedVariables false

set_option maxHeartbeats 4000000 in
set_option maxRecDepth 100000 in
theorem putInts_any (v : Value) (L : List Int) (hL : L.length ≤ 10000000) (hLI : AllI L) (w : World) (hr : Rd w v L) :
    Calls Tryz.prog 84 #[v] w fun e w' => e = .returned (.string (ints L)) ∧ Below w.heap.size w w' := by
  obtain ⟨a, c, rfl, hlm, hx⟩ := hr
  have hLI' := Lib.hid hLI
  have hx' := Lib.hid hx
  have hPI := Lib.hid (fun n (hn : I64 n) (W : World) => putInt_any n hn W)
  have hbox := below_box w (.cells #[.pointer none, .slice none 0 0] 101)
  have hfr := Lib.fresh_isBuilder 101 5 w
  clear hx hLI hlm
  go_enter Tryz.func84, Tryz.ntmps84
  go_wp2_with fail
  go_loopw [5, 8] (fun n i wr => ∃ k : Nat, k ≤ L.length ∧ i = .int .i64 k ∧ Hid (Lib.IsBuilder 101 5 w.heap.size w.heap.size (Lib.byteCells ((L.take k).flatMap pi)) wr) ∧ Below w.heap.size w wr) (fun _ i _ => L.length - (RowKit.intOf i).toNat)
  case atStart => exact ⟨0, Nat.zero_le _, rfl, Lib.hid hfr, hbox⟩
  case round =>
    obtain ⟨k, hk, rfl, hB, hw⟩ := hrel
    have hw' := Lib.hid hw
    by_cases hlt : k < L.length
    · obtain ⟨b1, o1, rfl, q0⟩ := hx'.out k hlt
      have q0' := cell_below hw q0
      have hlt' : (k : Int) < (L.length : Int) := by omega
      have hge : L[k]?.getD 0 = L[k] := by rw [List.getElem?_eq_getElem hlt]; rfl
      have htk := Lib.hid (List.take_succ_eq_append_getElem hlt)
      have hni : I64 L[k] := hLI'.out _ (List.getElem_mem _)
      rw [hge] at q0'
      have hsz := Lib.hid (show ((L.take k).flatMap pi).length ≤ 10 * L.length by
        have h1 := ints_size (l := L.take k) (fun x hx => hLI'.out x (List.mem_of_mem_take hx))
        unfold ints at h1
        rw [ba_size, List.length_take] at h1
        omega)
      generalize L[k] = n at *
      have hp10 := Lib.hid (pi_len hni.1 hni.2).2
      clear q0 hge hw
      go_wp2_with fail
      refine (hPI.out n hni _).mono ?_
      rintro e w1 ⟨rfl, b1⟩
      have hB1 := Lib.hid (Bld.cells hB.out b1)
      have hw1 := Lib.hid (below_trans hw'.out b1)
      have hwr := Lib.hid (bwrite_any w.heap.size w.heap.size _ ⟨(pi n).toArray⟩ w1 hB1.out (by
        have h1 := hsz.out
        have h2 := hp10.out
        rw [Lib.byteCells_length, ba_size]
        omega) hw1.out.size)
      clear b1
      go_wp2_with fail
      refine hwr.out.mono ?_
      rintro e w2 ⟨rfl, h2, b2⟩
      have hB2 := Lib.hid (show Lib.IsBuilder 101 5 w.heap.size w.heap.size (Lib.byteCells ((L.take (k + 1)).flatMap pi)) w2 from .inr (by
        rw [htk.out, List.flatMap_append, Lib.byteCells_append]
        rw [show [n].flatMap pi = pi n from by simp]
        exact h2))
      have hw2 := Lib.hid (hw1.out.trans b2)
      clear h2 b2
      go_wp2_with fail
      go_roundw
      case rel => exact ⟨k + 1, by omega, by go_num, hB2, hw2.out⟩
      case measure => simp [RowKit.intOf]; omega
    · obtain rfl : k = L.length := by omega
      have hs := Lib.hid (Tryz.Builder_String_any w.heap.size w.heap.size (L.flatMap pi) wr (by have := hB.out; rwa [List.take_length] at this) hw.size)
      clear hw
      go_wp2_with fail
      refine hs.out.mono ?_
      rintro e w3 ⟨rfl, b3⟩
      have hw3 := Lib.hid (hw'.out.trans b3)
      clear b3
      go_wp2_with fail
      go_ret
      exact ⟨rfl, hw3.out⟩
end Go.Proofs.YtpaepkcfdnddgaaGreat

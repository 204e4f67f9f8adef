/-
  What it means that a Graph has the form of one; the contracts of the model's l6in, GraphOk.
-/
import Derived.Test.YtaaflpklbhjepaaGrD
import Derived.Test.YtaaflpklbhjepaaIsB
import Derived.Test.YtaaflpklbhjepaaExt
import Derived.StillTailTactics
namespace Go.Proofs.Ytaaflpklbhjepaa
open Go.RowKit
set_option linter.unusedVariables false

/-- Each leads nowhere or into the objects. -/
def InN (n : Int) (L : List Int) : Prop := ∀ a, a ∈ L → 0 ≤ a ∧ a ≤ n
structure GForm (D : GD) : Prop where
  objs : D.objs.length ≤ 2000
  m1 : 1 ≤ D.muts.length
  m3 : D.muts.length ≤ 3
  obj : ∀ (k : Nat) (o : ObD), D.objs[k]? = some o → 1 ≤ o.p.length + o.v.length ∧ o.p.length + o.v.length ≤ 16 ∧ InN D.objs.length o.p
  usr : ∀ (k : Nat) (r : List Int), D.muts[k]? = some r → r.length = 6 ∧ InN D.objs.length r
theorem InN.snoc {n : Int} {L : List Int} {k : Nat} (hk : k < L.length) (h : InN n (L.take k)) (h0 : 0 ≤ L[k]?.getD 0) (h1 : L[k]?.getD 0 ≤ n) : InN n (L.take (k + 1)) := fun a ha => by
  rw [take_one hk] at ha
  rcases List.mem_append.1 ha with m | m
  · exact h a m
  · rw [List.mem_singleton.1 m]; exact ⟨h0, h1⟩
theorem mem_at {L : List Int} {k : Nat} (hk : k < L.length) : L[k]?.getD 0 ∈ L := by rw [List.getElem?_eq_getElem hk]; exact List.getElem_mem hk

set_option maxHeartbeats 1000000 in
theorem sl6in_any (v : Value) (L : List Int) (n : Int) (w : World) (hr : Rd w v L) :
    Calls Try.prog 19 #[v, .int .i64 n] w fun e w' => IsB (InN n L) e ∧ w = w' := by
  obtain ⟨a1, c1, rfl, hl, r1⟩ := hr
  unfold maxLen at hl
  have r1 := Lib.hid r1
  go_enter Try.func19, Try.ntmps19
  go_wp2_with fail
  go_loop [5] (fun i => ∃ k : Nat, k ≤ L.length ∧ i = .int .i64 k ∧ Hid (InN n (L.take k))) (fun i => L.length - (intOf i).toNat)
  case atStart => exact ⟨0, Nat.zero_le _, rfl, Lib.hid (fun a h => by simp at h)⟩
  case round =>
    obtain ⟨k, hk, rfl, hno⟩ := hrel
    by_cases hlt : k < L.length
    · have hlt1 : (k : Int) < (L.length : Int) := by omega
      obtain ⟨b1, o1, rfl, x0⟩ := r1.out k hlt
      have hmem := Lib.hid (mem_at hlt)
      have hstep := Lib.hid (fun h0 h1 => InN.snoc hlt hno.out h0 h1)
      generalize L[k]?.getD 0 = x at *
      by_cases c0 : x < 0
      · have y := Lib.hid (show ¬ InN n L from fun h => by have := (h x hmem.out).1; omega)
        go_wp2_with fail
        go_ret
        exact ⟨IsB.no y.out, rfl⟩
      · by_cases c1 : n < x
        · have y := Lib.hid (show ¬ InN n L from fun h => by have := (h x hmem.out).2; omega)
          go_wp2_with fail
          go_ret
          exact ⟨IsB.no y.out, rfl⟩
        · have hn := Lib.hid (hstep.out (by omega) (by omega))
          go_wp2_with fail
          go_round
          case rel => exact ⟨k + 1, by omega, by go_num, hn⟩
          case measure => simp [intOf]; omega
    · obtain rfl : k = L.length := by omega
      have y := Lib.hid (show InN n L by simpa using hno.out)
      go_wp2_with fail
      go_ret
      exact ⟨IsB.yes y.out, rfl⟩
end Go.Proofs.Ytaaflpklbhjepaa

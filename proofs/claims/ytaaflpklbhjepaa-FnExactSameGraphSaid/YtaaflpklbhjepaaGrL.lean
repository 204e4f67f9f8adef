/-
  The program's (*Graph).leadInto and what it stands on: zeroOr over its closure.
-/
import Derived.Test.YtaaflpklbhjepaaGrF
import Derived.Test.YtaaflpklbhjepaaIsIn
namespace Go.Proofs.Ytaaflpklbhjepaa
open Go.RowKit
set_option linter.unusedVariables false

set_option maxHeartbeats 1000000 in
theorem zcG_any (B1 : Nat) (Bz : Nat) (P : Int → Prop) (x : Int) (w : World) (hc : w.cell? ⟨Bz, 0, none⟩ = some (.func (.func 42) #[] #[.pointer (some ⟨B1, 0, none⟩)])) (hP : Calls Try.prog 42 #[.int .i64 x, .pointer (some ⟨B1, 0, none⟩)] w fun e w'' => IsB (P x) e ∧ Below w.heap.size w w'') :
    Calls Try.prog 51 #[.int .i64 x, .pointer (some ⟨Bz, 0, none⟩)] w fun e w' => IsB (x ≠ 0 ∧ ¬ P x) e ∧ Below w.heap.size w w' := by
  have hP' := Lib.hid hP
  clear hP
  by_cases c : x = 0
  · have y := Lib.hid (IsB.no (P := x ≠ 0 ∧ ¬ P x) fun h => h.1 c)
    subst c
    clear hc
    go_enter Try.func51, Try.ntmps51
    go_wp2_with fail
    go_ret
    exact ⟨y.out, Below.refl _ _⟩
  have d : (x != 0) = true := bne_iff_ne.2 c
  have hcx := Lib.hid c
  clear c
  go_enter Try.func51, Try.ntmps51
  go_wp2_with fail
  refine hP'.out.mono ?_
  rintro e w1 ⟨⟨r, rfl, hr⟩, b1⟩
  have y := Lib.hid (show IsB (x ≠ 0 ∧ ¬ P x) (.returned (.bool (!r))) from ⟨_, rfl, by rw [← hr]; have := hcx.out; cases r <;> simp [this]⟩)
  have b1' := Lib.hid b1
  clear hr b1 hP'
  go_wp2_with fail
  go_ret
  exact ⟨y.out, b1'.out⟩

set_option maxRecDepth 100000 in
set_option maxHeartbeats 4000000 in
theorem zidxG_any (B1 : Nat) (Bz : Nat) (P : Int → Prop) (v : Value) (L : List Int) (w : World) (hr : Rd w v L) (hc : w.cell? ⟨Bz, 0, none⟩ = some (.func (.func 42) #[] #[.pointer (some ⟨B1, 0, none⟩)])) (hP : ∀ (x : Int) (w' : World), Below w.heap.size w w' → Calls Try.prog 42 #[.int .i64 x, .pointer (some ⟨B1, 0, none⟩)] w' fun e w'' => IsB (P x) e ∧ Below w'.heap.size w' w'') :
    Calls Try.prog 53 #[v, .func (.func 51) #[] #[.pointer (some ⟨Bz, 0, none⟩)]] w fun e w' => ∃ r : Int, e = .returned (.int .i64 r) ∧ Hid (0 ≤ r ↔ ∃ a, a ∈ L ∧ a ≠ 0 ∧ ¬ P a) ∧ Below w.heap.size w w' := by
  have hP' := Lib.hid hP
  have hc' := Lib.hid hc
  obtain ⟨a1, c1, rfl, hl, r1⟩ := hr
  unfold maxLen at hl
  have r1 := Lib.hid r1
  clear hP hc
  go_enter Try.func53, Try.ntmps53
  go_wp2_with fail
  go_loopw [8] (fun i wr => ∃ k : Nat, k ≤ L.length ∧ i = .int .i64 k ∧ Hid (ZeroOr P (L.take k)) ∧ Hid (Below w.heap.size w wr)) (fun i _ => L.length - (Go.RowKit.intOf i).toNat)
  case atStart => exact ⟨0, Nat.zero_le _, rfl, Lib.hid (fun a h => by simp at h), Lib.hid (Below.refl _ _)⟩
  case round =>
    obtain ⟨k, hk, rfl, hno, hB⟩ := hrel
    by_cases hlt : k < L.length
    · have hlt1 : (k : Int) < (L.length : Int) := by omega
      obtain ⟨b1, o1, rfl, x0⟩ := r1.out k hlt
      have x1 := cell_below hB.out x0
      have hmem := Lib.hid (show L[k]?.getD 0 ∈ L by rw [List.getElem?_eq_getElem hlt]; exact List.getElem_mem hlt)
      have hyes := Lib.hid (show ¬ (L[k]?.getD 0 ≠ 0 ∧ ¬ P (L[k]?.getD 0)) → ZeroOr P (L.take (k + 1)) from fun h a ha => by
        rw [take_one hlt] at ha
        rcases List.mem_append.1 ha with m | m
        · exact hno.out a m
        · rw [List.mem_singleton.1 m]
          exact Classical.byContradiction fun h2 => h ⟨fun e => h2 (.inl e), fun e => h2 (.inr e)⟩)
      clear x0
      generalize L[k]?.getD 0 = x at *
      have hcall := Lib.hid (zcG_any B1 Bz P x wr (cell_below hB.out hc'.out) (hP'.out x wr hB.out))
      have hlen : k ≤ 9223372036854775807 := by omega
      go_wp2_with fail
      refine hcall.out.mono ?_
      rintro e w2 ⟨hq, b2⟩
      replace hq := hq.elim
      have hB2 := Lib.hid (below_trans hB.out b2)
      clear b2 hcall x1
      rcases hq with ⟨hq, rfl⟩ | ⟨hq, rfl⟩
      · have y := Lib.hid (show 0 ≤ (k : Int) ↔ ∃ a, a ∈ L ∧ a ≠ 0 ∧ ¬ P a from ⟨fun _ => ⟨x, hmem.out, hq⟩, fun _ => by omega⟩)
        clear hq
        go_wp2_with fail
        go_ret
        exact ⟨_, rfl, y, hB2.out⟩
      · have hn := Lib.hid (hyes.out hq)
        clear hq
        go_wp2_with fail
        go_roundw
        case rel => exact ⟨k + 1, by omega, by go_num, hn, hB2⟩
        case measure => simp [Go.RowKit.intOf]; omega
    obtain rfl : k = L.length := by omega
    have y := Lib.hid (show 0 ≤ (-1 : Int) ↔ ∃ a, a ∈ L ∧ a ≠ 0 ∧ ¬ P a from ⟨fun h => absurd h (by omega), fun h => absurd (show ZeroOr P L by simpa using hno.out) (zeroOr_not.1 h)⟩)
    go_wp2_with fail
    go_ret
    exact ⟨_, rfl, y, hB.out⟩

set_option maxHeartbeats 1000000 in
theorem zconG_any (B1 : Nat) (Bz : Nat) (P : Int → Prop) (v : Value) (L : List Int) (w : World) (hr : Rd w v L) (hc : w.cell? ⟨Bz, 0, none⟩ = some (.func (.func 42) #[] #[.pointer (some ⟨B1, 0, none⟩)])) (hP : ∀ (x : Int) (w' : World), Below w.heap.size w w' → Calls Try.prog 42 #[.int .i64 x, .pointer (some ⟨B1, 0, none⟩)] w' fun e w'' => IsB (P x) e ∧ Below w'.heap.size w' w'') :
    Calls Try.prog 50 #[v, .func (.func 51) #[] #[.pointer (some ⟨Bz, 0, none⟩)]] w fun e w' => IsB (∃ a, a ∈ L ∧ a ≠ 0 ∧ ¬ P a) e ∧ Below w.heap.size w w' := by
  have hcall := Lib.hid (zidxG_any B1 Bz P v L w hr hc hP)
  clear hr hc hP
  go_enter Try.func50, Try.ntmps50
  go_wp2_with fail
  refine hcall.out.mono ?_
  rintro e w1 ⟨r, rfl, hf, b1⟩
  have y := Lib.hid (show IsB (∃ a, a ∈ L ∧ a ≠ 0 ∧ ¬ P a) (.returned (.bool (decide (0 ≤ r)))) from ⟨_, rfl, by rw [decide_eq_true_iff]; exact hf.out⟩)
  have b1' := Lib.hid b1
  clear b1 hcall hf
  go_wp2_with fail
  go_ret
  exact ⟨y.out, b1'.out⟩

set_option maxHeartbeats 1000000 in
theorem zeroOrG_any (B1 : Nat) (P : Int → Prop) (v : Value) (L : List Int) (w : World) (hr : Rd w v L) (hP : ∀ (x : Int) (w' : World), Below w.heap.size w w' → Calls Try.prog 42 #[.int .i64 x, .pointer (some ⟨B1, 0, none⟩)] w' fun e w'' => IsB (P x) e ∧ Below w'.heap.size w' w'') :
    Calls Try.prog 41 #[v, .func (.func 42) #[] #[.pointer (some ⟨B1, 0, none⟩)]] w fun e w' => IsB (ZeroOr P L) e ∧ Below w.heap.size w w' := by
  have bb := Lib.hid (below_box w (.cells #[.func (.func 42) #[] #[.pointer (some ⟨B1, 0, none⟩)]] 38))
  have bx := box_new w (.cells #[.func (.func 42) #[] #[.pointer (some ⟨B1, 0, none⟩)]] 38)
  have hcall := Lib.hid (zconG_any B1 w.heap.size P v L _ (hr.below bb.out) (cell_of_heap bx 0 _ rfl) (fun x w' hb => hP x w' (below_trans bb.out hb)))
  have hmf : ∀ (fn : Fn) (first cap : Array Value) (w : World), (Instr.makeFunc fn first cap).run Try.prog w = .ok (.func fn first cap) w := fun _ _ _ _ => rfl
  clear hr hP bx
  go_enter Try.func41, Try.ntmps41
  go_wp2_with fail
  refine hcall.out.mono ?_
  rintro e w1 ⟨⟨r, rfl, hr⟩, b1⟩
  have y := Lib.hid (show IsB (ZeroOr P L) (.returned (.bool (!r))) from ⟨_, rfl, by
    have h2 := hr.trans (zeroOr_not (P := P) (L := L))
    cases r
    · simp only [Bool.not_false, true_iff]
      exact Classical.byContradiction fun h => by have := h2.2 h; cases this
    · simp only [Bool.not_true, Bool.false_eq_true, false_iff]
      exact h2.1 rfl⟩)
  have b1' := Lib.hid (below_trans bb.out b1)
  clear b1 hcall hr
  go_wp2_with fail
  go_ret
  exact ⟨y.out, b1'.out⟩

theorem inN_zero {n : Nat} {L : List Int} : ZeroOr (fun a => 1 ≤ a ∧ a ≤ (n : Int)) L ↔ InN n L := by
  constructor
  · intro h a ha
    rcases h a ha with rfl | ⟨h1, h2⟩ <;> omega
  · intro h a ha
    have := h a ha
    by_cases e : a = 0
    · exact .inl e
    · exact .inr (show 1 ≤ a ∧ a ≤ (n : Int) by omega)

set_option maxHeartbeats 1000000 in
theorem leadC_any (B1 G : Nat) (ao : Option Addr) (n c : Nat) (x : Int) (w : World) (hb : w.cell? ⟨B1, 0, none⟩ = some (.pointer (some ⟨G, 0, none⟩))) (hg : w.cell? ⟨G, 0, none⟩ = some (.slice ao n c)) :
    Calls Try.prog 42 #[.int .i64 x, .pointer (some ⟨B1, 0, none⟩)] w fun e w' => IsB (1 ≤ x ∧ x ≤ (n : Int)) e ∧ Below w.heap.size w w' := by
  go_enter Try.func42, Try.ntmps42
  go_wp2_with fail
  refine (isIn_any _ _ _ _).mono ?_
  rintro e w1 ⟨rfl, rfl⟩
  go_wp2_with fail
  go_ret
  exact ⟨⟨_, rfl, inB_iff⟩, Below.refl _ _⟩

set_option maxHeartbeats 1000000 in
theorem leadInto_any (G : Nat) (ao : Option Addr) (n c : Nat) (v : Value) (L : List Int) (w : World) (hg : w.cell? ⟨G, 0, none⟩ = some (.slice ao n c)) (hr : Rd w v L) :
    Calls Try.prog 24 #[.pointer (some ⟨G, 0, none⟩), v] w fun e w' => IsB (InN n L) e ∧ Below w.heap.size w w' := by
  have bb := Lib.hid (below_box w (.cells #[.pointer (some ⟨G, 0, none⟩)] 70))
  have bx := Lib.hid (cell_of_heap (box_new w (.cells #[.pointer (some ⟨G, 0, none⟩)] 70)) 0 _ rfl)
  have hcall := Lib.hid (zeroOrG_any w.heap.size (fun a => 1 ≤ a ∧ a ≤ (n : Int)) v L _ (hr.below bb.out) (fun x w' hb => leadC_any w.heap.size G ao n c x w' (cell_below hb bx.out) (cell_below (below_trans bb.out hb) hg)))
  have hmf : ∀ (fn : Fn) (first cap : Array Value) (w : World), (Instr.makeFunc fn first cap).run Try.prog w = .ok (.func fn first cap) w := fun _ _ _ _ => rfl
  clear hg hr
  go_enter Try.func24, Try.ntmps24
  go_wp2_with fail
  refine hcall.out.mono ?_
  rintro e w1 ⟨⟨r, rfl, hr⟩, b1⟩
  have y := Lib.hid (show IsB (InN n L) (.returned (.bool r)) from ⟨_, rfl, hr.trans inN_zero⟩)
  have b1' := Lib.hid (below_trans bb.out b1)
  clear b1 hcall hr
  go_wp2_with fail
  go_ret
  exact ⟨y.out, b1'.out⟩
end Go.Proofs.Ytaaflpklbhjepaa

import Derived.Test.YtdhiablpobnhcaaGreatPkN

/-
  The program's zeroOr: is each of a list 0, or as somebody wants it?
-/
namespace Go.Proofs.YtdhiablpobnhcaaGreat
open Go.RowKit
set_option linter.unusedVariables false

set_option maxHeartbeats 1000000 in
theorem zcS_any (V : Nat) (Bz : Nat) (P : Int → Prop) (x : Int) (hx : I64 x) (w : World) (hc : w.cell? ⟨Bz, 0, none⟩ = some (.func (.func 181) #[.pointer (some ⟨V, 0, none⟩)] #[])) (hP : Calls Tryz.prog 181 #[.pointer (some ⟨V, 0, none⟩), .int .i64 x] w fun e w'' => IsB (P x) e ∧ Below w.heap.size w w'') :
    Calls Tryz.prog 208 #[.int .i64 x, .pointer (some ⟨Bz, 0, none⟩)] w fun e w' => IsB (x ≠ 0 ∧ ¬ P x) e ∧ Below w.heap.size w w' := by
  have hP' := Lib.hid hP
  clear hP
  by_cases c : x = 0
  · have y := Lib.hid (IsB.no (P := x ≠ 0 ∧ ¬ P x) fun h => h.1 c)
    subst c
    clear hc
    go_enter Tryz.func208, Tryz.ntmps208
    go_wp2_with fail
    go_ret
    exact ⟨y.out, Below.refl _ _⟩
  have d : (x != 0) = true := bne_iff_ne.2 c
  have hcx := Lib.hid c
  clear c
  go_enter Tryz.func208, Tryz.ntmps208
  go_wp2_with fail
  refine hP'.out.mono ?_
  rintro e w1 ⟨⟨r, rfl, hr⟩, b1⟩
  have y := Lib.hid (show IsB (x ≠ 0 ∧ ¬ P x) (.returned (.bool (!r))) from ⟨_, rfl, by rw [← hr]; have := hcx.out; cases r <;> simp [this]⟩)
  have b1' := Lib.hid b1
  clear hr b1 hP'
  go_wp2_with fail
  go_ret
  exact ⟨y.out, b1'.out⟩

set_option maxRecDepth 100000 in
set_option maxHeartbeats 4000000 in
theorem zidxS_any (V : Nat) (Bz : Nat) (P : Int → Prop) (v : Value) (L : List Int) (hL : AllI L) (w : World) (hr : Rd w v L) (hc : w.cell? ⟨Bz, 0, none⟩ = some (.func (.func 181) #[.pointer (some ⟨V, 0, none⟩)] #[])) (hP : ∀ (x : Int) (w' : World), I64 x → Below w.heap.size w w' → Calls Tryz.prog 181 #[.pointer (some ⟨V, 0, none⟩), .int .i64 x] w' fun e w'' => IsB (P x) e ∧ Below w'.heap.size w' w'') :
    Calls Tryz.prog 217 #[v, .func (.func 208) #[] #[.pointer (some ⟨Bz, 0, none⟩)]] w fun e w' => ∃ r : Int, e = .returned (.int .i64 r) ∧ Hid (0 ≤ r ↔ ∃ a, a ∈ L ∧ a ≠ 0 ∧ ¬ P a) ∧ Below w.heap.size w w' := by
  have hP' := Lib.hid hP
  have hL' := Lib.hid hL
  have hc' := Lib.hid hc
  obtain ⟨a1, c1, rfl, hl, r1⟩ := hr
  unfold maxLen at hl
  have r1 := Lib.hid r1
  clear hP hL hc
  go_enter Tryz.func217, Tryz.ntmps217
  go_wp2_with fail
  go_loopw [8] (fun i wr => ∃ k : Nat, k ≤ L.length ∧ i = .int .i64 k ∧ Hid (ZeroOr P (L.take k)) ∧ Hid (Below w.heap.size w wr)) (fun i _ => L.length - (Go.RowKit.intOf i).toNat)
  case atStart => exact ⟨0, Nat.zero_le _, rfl, Lib.hid (fun a h => by simp at h), Lib.hid (Below.refl _ _)⟩
  case round =>
    obtain ⟨k, hk, rfl, hno, hB⟩ := hrel
    by_cases hlt : k < L.length
    · have hlt1 : (k : Int) < (L.length : Int) := by omega
      obtain ⟨b1, o1, rfl, x0⟩ := r1.out k hlt
      have x1 := cell_below hB.out x0
      have hmem := Lib.hid (show L[k]?.getD 0 ∈ L by rw [List.getElem?_eq_getElem hlt]; exact List.getElem_mem hlt)
      have hyes := Lib.hid (show ¬ (L[k]?.getD 0 ≠ 0 ∧ ¬ P (L[k]?.getD 0)) → ZeroOr P (L.take (k + 1)) from fun h a ha => by
        rw [take_one hlt] at ha
        rcases List.mem_append.1 ha with m | m
        · exact hno.out a m
        · rw [List.mem_singleton.1 m]
          exact Classical.byContradiction fun h2 => h ⟨fun e => h2 (.inl e), fun e => h2 (.inr e)⟩)
      clear x0
      have hx := hL'.out _ hmem.out
      generalize L[k]?.getD 0 = x at *
      have hcall := Lib.hid (zcS_any V Bz P x hx wr (cell_below hB.out hc'.out) (hP'.out x wr hx hB.out))
      have hlen : k ≤ 9223372036854775807 := by omega
      clear hx
      go_wp2_with fail
      refine hcall.out.mono ?_
      rintro e w2 ⟨hq, b2⟩
      replace hq := hq.elim
      have hB2 := Lib.hid (below_trans hB.out b2)
      clear b2 hcall x1
      rcases hq with ⟨hq, rfl⟩ | ⟨hq, rfl⟩
      · have y := Lib.hid (show 0 ≤ (k : Int) ↔ ∃ a, a ∈ L ∧ a ≠ 0 ∧ ¬ P a from ⟨fun _ => ⟨x, hmem.out, hq⟩, fun _ => by omega⟩)
        clear hq
        go_wp2_with fail
        go_ret
        exact ⟨_, rfl, y, hB2.out⟩
      · have hn := Lib.hid (hyes.out hq)
        clear hq
        go_wp2_with fail
        go_roundw
        case rel => exact ⟨k + 1, by omega, by go_num, hn, hB2⟩
        case measure => simp [Go.RowKit.intOf]; omega
    obtain rfl : k = L.length := by omega
    have y := Lib.hid (show 0 ≤ (-1 : Int) ↔ ∃ a, a ∈ L ∧ a ≠ 0 ∧ ¬ P a from ⟨fun h => absurd h (by omega), fun h => absurd (show ZeroOr P L by simpa using hno.out) (zeroOr_not.1 h)⟩)
    go_wp2_with fail
    go_ret
    exact ⟨_, rfl, y, hB.out⟩

set_option maxHeartbeats 1000000 in
theorem zconS_any (V : Nat) (Bz : Nat) (P : Int → Prop) (v : Value) (L : List Int) (hL : AllI L) (w : World) (hr : Rd w v L) (hc : w.cell? ⟨Bz, 0, none⟩ = some (.func (.func 181) #[.pointer (some ⟨V, 0, none⟩)] #[])) (hP : ∀ (x : Int) (w' : World), I64 x → Below w.heap.size w w' → Calls Tryz.prog 181 #[.pointer (some ⟨V, 0, none⟩), .int .i64 x] w' fun e w'' => IsB (P x) e ∧ Below w'.heap.size w' w'') :
    Calls Tryz.prog 207 #[v, .func (.func 208) #[] #[.pointer (some ⟨Bz, 0, none⟩)]] w fun e w' => IsB (∃ a, a ∈ L ∧ a ≠ 0 ∧ ¬ P a) e ∧ Below w.heap.size w w' := by
  have hcall := Lib.hid (zidxS_any V Bz P v L hL w hr hc hP)
  clear hr hc hP hL
  go_enter Tryz.func207, Tryz.ntmps207
  go_wp2_with fail
  refine hcall.out.mono ?_
  rintro e w1 ⟨r, rfl, hf, b1⟩
  have y := Lib.hid (show IsB (∃ a, a ∈ L ∧ a ≠ 0 ∧ ¬ P a) (.returned (.bool (decide (0 ≤ r)))) from ⟨_, rfl, by rw [decide_eq_true_iff]; exact hf.out⟩)
  have b1' := Lib.hid b1
  clear b1 hcall hf
  go_wp2_with fail
  go_ret
  exact ⟨y.out, b1'.out⟩

set_option maxHeartbeats 1000000 in
theorem zeroOrS_any (V : Nat) (P : Int → Prop) (v : Value) (L : List Int) (hL : AllI L) (w : World) (hr : Rd w v L) (hP : ∀ (x : Int) (w' : World), I64 x → Below w.heap.size w w' → Calls Tryz.prog 181 #[.pointer (some ⟨V, 0, none⟩), .int .i64 x] w' fun e w'' => IsB (P x) e ∧ Below w'.heap.size w' w'') :
    Calls Tryz.prog 180 #[v, .func (.func 181) #[.pointer (some ⟨V, 0, none⟩)] #[]] w fun e w' => IsB (ZeroOr P L) e ∧ Below w.heap.size w w' := by
  have bb := Lib.hid (below_box w (.cells #[.func (.func 181) #[.pointer (some ⟨V, 0, none⟩)] #[]] 89))
  have bx := box_new w (.cells #[.func (.func 181) #[.pointer (some ⟨V, 0, none⟩)] #[]] 89)
  have hcall := Lib.hid (zconS_any V w.heap.size P v L hL _ (hr.below bb.out) (cell_of_heap bx 0 _ rfl) (fun x w' hx hb => hP x w' hx (below_trans bb.out hb)))
  have hmf : ∀ (fn : Fn) (first cap : Array Value) (w : World), (Instr.makeFunc fn first cap).run Tryz.prog w = .ok (.func fn first cap) w := fun _ _ _ _ => rfl
  clear hr hP hL bx
  go_enter Tryz.func180, Tryz.ntmps180
  go_wp2_with fail
  refine hcall.out.mono ?_
  rintro e w1 ⟨⟨r, rfl, hr⟩, b1⟩
  have y := Lib.hid (show IsB (ZeroOr P L) (.returned (.bool (!r))) from ⟨_, rfl, by
    have h2 := hr.trans (zeroOr_not (P := P) (L := L))
    cases r
    · simp only [Bool.not_false, true_iff]
      exact Classical.byContradiction fun h => by have := h2.2 h; cases this
    · simp only [Bool.not_true, Bool.false_eq_true, false_iff]
      exact h2.1 rfl⟩)
  have b1' := Lib.hid (below_trans bb.out b1)
  clear b1 hcall hr
  go_wp2_with fail
  go_ret
  exact ⟨y.out, b1'.out⟩

set_option maxHeartbeats 1000000 in
theorem zcK_any (B1 B2 : Nat) (Bz : Nat) (P : Int → Prop) (x : Int) (hx : I64 x) (w : World) (hc : w.cell? ⟨Bz, 0, none⟩ = some (.func (.func 188) #[] #[.pointer (some ⟨B1, 0, none⟩), .pointer (some ⟨B2, 0, none⟩)])) (hP : Calls Tryz.prog 188 #[.int .i64 x, .pointer (some ⟨B1, 0, none⟩), .pointer (some ⟨B2, 0, none⟩)] w fun e w'' => IsB (P x) e ∧ Below w.heap.size w w'') :
    Calls Tryz.prog 208 #[.int .i64 x, .pointer (some ⟨Bz, 0, none⟩)] w fun e w' => IsB (x ≠ 0 ∧ ¬ P x) e ∧ Below w.heap.size w w' := by
  have hP' := Lib.hid hP
  clear hP
  by_cases c : x = 0
  · have y := Lib.hid (IsB.no (P := x ≠ 0 ∧ ¬ P x) fun h => h.1 c)
    subst c
    clear hc
    go_enter Tryz.func208, Tryz.ntmps208
    go_wp2_with fail
    go_ret
    exact ⟨y.out, Below.refl _ _⟩
  have d : (x != 0) = true := bne_iff_ne.2 c
  have hcx := Lib.hid c
  clear c
  go_enter Tryz.func208, Tryz.ntmps208
  go_wp2_with fail
  refine hP'.out.mono ?_
  rintro e w1 ⟨⟨r, rfl, hr⟩, b1⟩
  have y := Lib.hid (show IsB (x ≠ 0 ∧ ¬ P x) (.returned (.bool (!r))) from ⟨_, rfl, by rw [← hr]; have := hcx.out; cases r <;> simp [this]⟩)
  have b1' := Lib.hid b1
  clear hr b1 hP'
  go_wp2_with fail
  go_ret
  exact ⟨y.out, b1'.out⟩

set_option maxRecDepth 100000 in
set_option maxHeartbeats 4000000 in
theorem zidxK_any (B1 B2 : Nat) (Bz : Nat) (P : Int → Prop) (v : Value) (L : List Int) (hL : AllI L) (w : World) (hr : Rd w v L) (hc : w.cell? ⟨Bz, 0, none⟩ = some (.func (.func 188) #[] #[.pointer (some ⟨B1, 0, none⟩), .pointer (some ⟨B2, 0, none⟩)])) (hP : ∀ (x : Int) (w' : World), I64 x → Below w.heap.size w w' → Calls Tryz.prog 188 #[.int .i64 x, .pointer (some ⟨B1, 0, none⟩), .pointer (some ⟨B2, 0, none⟩)] w' fun e w'' => IsB (P x) e ∧ Below w'.heap.size w' w'') :
    Calls Tryz.prog 217 #[v, .func (.func 208) #[] #[.pointer (some ⟨Bz, 0, none⟩)]] w fun e w' => ∃ r : Int, e = .returned (.int .i64 r) ∧ Hid (0 ≤ r ↔ ∃ a, a ∈ L ∧ a ≠ 0 ∧ ¬ P a) ∧ Below w.heap.size w w' := by
  have hP' := Lib.hid hP
  have hL' := Lib.hid hL
  have hc' := Lib.hid hc
  obtain ⟨a1, c1, rfl, hl, r1⟩ := hr
  unfold maxLen at hl
  have r1 := Lib.hid r1
  clear hP hL hc
  go_enter Tryz.func217, Tryz.ntmps217
  go_wp2_with fail
  go_loopw [8] (fun i wr => ∃ k : Nat, k ≤ L.length ∧ i = .int .i64 k ∧ Hid (ZeroOr P (L.take k)) ∧ Hid (Below w.heap.size w wr)) (fun i _ => L.length - (Go.RowKit.intOf i).toNat)
  case atStart => exact ⟨0, Nat.zero_le _, rfl, Lib.hid (fun a h => by simp at h), Lib.hid (Below.refl _ _)⟩
  case round =>
    obtain ⟨k, hk, rfl, hno, hB⟩ := hrel
    by_cases hlt : k < L.length
    · have hlt1 : (k : Int) < (L.length : Int) := by omega
      obtain ⟨b1, o1, rfl, x0⟩ := r1.out k hlt
      have x1 := cell_below hB.out x0
      have hmem := Lib.hid (show L[k]?.getD 0 ∈ L by rw [List.getElem?_eq_getElem hlt]; exact List.getElem_mem hlt)
      have hyes := Lib.hid (show ¬ (L[k]?.getD 0 ≠ 0 ∧ ¬ P (L[k]?.getD 0)) → ZeroOr P (L.take (k + 1)) from fun h a ha => by
        rw [take_one hlt] at ha
        rcases List.mem_append.1 ha with m | m
        · exact hno.out a m
        · rw [List.mem_singleton.1 m]
          exact Classical.byContradiction fun h2 => h ⟨fun e => h2 (.inl e), fun e => h2 (.inr e)⟩)
      clear x0
      have hx := hL'.out _ hmem.out
      generalize L[k]?.getD 0 = x at *
      have hcall := Lib.hid (zcK_any B1 B2 Bz P x hx wr (cell_below hB.out hc'.out) (hP'.out x wr hx hB.out))
      have hlen : k ≤ 9223372036854775807 := by omega
      clear hx
      go_wp2_with fail
      refine hcall.out.mono ?_
      rintro e w2 ⟨hq, b2⟩
      replace hq := hq.elim
      have hB2 := Lib.hid (below_trans hB.out b2)
      clear b2 hcall x1
      rcases hq with ⟨hq, rfl⟩ | ⟨hq, rfl⟩
      · have y := Lib.hid (show 0 ≤ (k : Int) ↔ ∃ a, a ∈ L ∧ a ≠ 0 ∧ ¬ P a from ⟨fun _ => ⟨x, hmem.out, hq⟩, fun _ => by omega⟩)
        clear hq
        go_wp2_with fail
        go_ret
        exact ⟨_, rfl, y, hB2.out⟩
      · have hn := Lib.hid (hyes.out hq)
        clear hq
        go_wp2_with fail
        go_roundw
        case rel => exact ⟨k + 1, by omega, by go_num, hn, hB2⟩
        case measure => simp [Go.RowKit.intOf]; omega
    obtain rfl : k = L.length := by omega
    have y := Lib.hid (show 0 ≤ (-1 : Int) ↔ ∃ a, a ∈ L ∧ a ≠ 0 ∧ ¬ P a from ⟨fun h => absurd h (by omega), fun h => absurd (show ZeroOr P L by simpa using hno.out) (zeroOr_not.1 h)⟩)
    go_wp2_with fail
    go_ret
    exact ⟨_, rfl, y, hB.out⟩

set_option maxHeartbeats 1000000 in
theorem zconK_any (B1 B2 : Nat) (Bz : Nat) (P : Int → Prop) (v : Value) (L : List Int) (hL : AllI L) (w : World) (hr : Rd w v L) (hc : w.cell? ⟨Bz, 0, none⟩ = some (.func (.func 188) #[] #[.pointer (some ⟨B1, 0, none⟩), .pointer (some ⟨B2, 0, none⟩)])) (hP : ∀ (x : Int) (w' : World), I64 x → Below w.heap.size w w' → Calls Tryz.prog 188 #[.int .i64 x, .pointer (some ⟨B1, 0, none⟩), .pointer (some ⟨B2, 0, none⟩)] w' fun e w'' => IsB (P x) e ∧ Below w'.heap.size w' w'') :
    Calls Tryz.prog 207 #[v, .func (.func 208) #[] #[.pointer (some ⟨Bz, 0, none⟩)]] w fun e w' => IsB (∃ a, a ∈ L ∧ a ≠ 0 ∧ ¬ P a) e ∧ Below w.heap.size w w' := by
  have hcall := Lib.hid (zidxK_any B1 B2 Bz P v L hL w hr hc hP)
  clear hr hc hP hL
  go_enter Tryz.func207, Tryz.ntmps207
  go_wp2_with fail
  refine hcall.out.mono ?_
  rintro e w1 ⟨r, rfl, hf, b1⟩
  have y := Lib.hid (show IsB (∃ a, a ∈ L ∧ a ≠ 0 ∧ ¬ P a) (.returned (.bool (decide (0 ≤ r)))) from ⟨_, rfl, by rw [decide_eq_true_iff]; exact hf.out⟩)
  have b1' := Lib.hid b1
  clear b1 hcall hf
  go_wp2_with fail
  go_ret
  exact ⟨y.out, b1'.out⟩

set_option maxHeartbeats 1000000 in
theorem zeroOrK_any (B1 B2 : Nat) (P : Int → Prop) (v : Value) (L : List Int) (hL : AllI L) (w : World) (hr : Rd w v L) (hP : ∀ (x : Int) (w' : World), I64 x → Below w.heap.size w w' → Calls Tryz.prog 188 #[.int .i64 x, .pointer (some ⟨B1, 0, none⟩), .pointer (some ⟨B2, 0, none⟩)] w' fun e w'' => IsB (P x) e ∧ Below w'.heap.size w' w'') :
    Calls Tryz.prog 180 #[v, .func (.func 188) #[] #[.pointer (some ⟨B1, 0, none⟩), .pointer (some ⟨B2, 0, none⟩)]] w fun e w' => IsB (ZeroOr P L) e ∧ Below w.heap.size w w' := by
  have bb := Lib.hid (below_box w (.cells #[.func (.func 188) #[] #[.pointer (some ⟨B1, 0, none⟩), .pointer (some ⟨B2, 0, none⟩)]] 89))
  have bx := box_new w (.cells #[.func (.func 188) #[] #[.pointer (some ⟨B1, 0, none⟩), .pointer (some ⟨B2, 0, none⟩)]] 89)
  have hcall := Lib.hid (zconK_any B1 B2 w.heap.size P v L hL _ (hr.below bb.out) (cell_of_heap bx 0 _ rfl) (fun x w' hx hb => hP x w' hx (below_trans bb.out hb)))
  have hmf : ∀ (fn : Fn) (first cap : Array Value) (w : World), (Instr.makeFunc fn first cap).run Tryz.prog w = .ok (.func fn first cap) w := fun _ _ _ _ => rfl
  clear hr hP hL bx
  go_enter Tryz.func180, Tryz.ntmps180
  go_wp2_with fail
  refine hcall.out.mono ?_
  rintro e w1 ⟨⟨r, rfl, hr⟩, b1⟩
  have y := Lib.hid (show IsB (ZeroOr P L) (.returned (.bool (!r))) from ⟨_, rfl, by
    have h2 := hr.trans (zeroOr_not (P := P) (L := L))
    cases r
    · simp only [Bool.not_false, true_iff]
      exact Classical.byContradiction fun h => by have := h2.2 h; cases this
    · simp only [Bool.not_true, Bool.false_eq_true, false_iff]
      exact h2.1 rfl⟩)
  have b1' := Lib.hid (below_trans bb.out b1)
  clear b1 hcall hr
  go_wp2_with fail
  go_ret
  exact ⟨y.out, b1'.out⟩
end Go.Proofs.YtdhiablpobnhcaaGreat

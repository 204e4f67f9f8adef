/-
  Four bytes: the program's PutWord, readWord, and the model's PutWord, GetWord. No conditions but that a text has at most 2^62 bytes.
-/
import Derived.Test.YtedhallhdhlhhaaByC
import Derived.Test.YtedhallhdhlhhaaIsIn
import Derived.IntWalk
namespace Go.Proofs.Ytedhallhdhlhhaa
open Go.RowKit
set_option linter.unusedVariables false

/-- The four bytes of a number, the highest first. -/
def putW (n : Nat) : List UInt8 := [(n / 16777216 % 256).toUInt8, (n / 65536 % 256).toUInt8, (n / 256 % 256).toUInt8, (n % 256).toUInt8]
/-- .. and back. -/
def getW : List UInt8 → Nat
  | a :: b :: c :: d :: _ => a.toNat * 16777216 + b.toNat * 65536 + c.toNat * 256 + d.toNat
  | _ => 0
theorem getW_putW {n : Nat} (h : n < 4294967296) (r : List UInt8) : getW (putW n ++ r) = n := by
  have e : ∀ x : Nat, ((x % 256).toUInt8).toNat = x % 256 := fun x => by simp [Nat.toUInt8]
  simp only [putW, List.cons_append, List.nil_append, getW, e]
  omega
theorem putW_length (n : Nat) : (putW n).length = 4 := rfl
theorem getW_lt (l : List UInt8) : getW l < 4294967296 := by
  unfold getW
  split
  · rename_i a b c d r
    have := a.toNat_lt; have := b.toNat_lt; have := c.toNat_lt; have := d.toNat_lt
    omega
  · decide
theorem u8v_mod (x : Nat) : u8v (x % 256).toUInt8 = .int .u8 ((x : Int) % 256) := by
  have e : ((x % 256).toUInt8).toNat = x % 256 := by simp [Nat.toUInt8]
  unfold u8v
  rw [e]
  congr 1

theorem cells_four (w : World) (t : TypeId) (a b c d : Value) : (w.alloc (.cells #[a, b, c, d] t)).ownsRow w.heap.size t 1 (.slice (some ⟨w.heap.size, 0, none⟩) 4 4) 4 [a, b, c, d] :=
  ⟨rfl, .inr ⟨w.heap.size, 4, _, rfl, Nat.le_refl _, heap_alloc_new w _, Nat.le_refl _, by decide, rfl, rfl⟩⟩

set_option maxHeartbeats 400000 in
theorem spec_putWord_no (n : Int) (h : n < 0 ∨ 4294967295 < n) (w : World) : Calls Try.prog 30 #[.int .i64 n] w fun e w' => e = .returned (.string ⟨#[]⟩) ∧ Below w.heap.size w w' := by
  by_cases h0 : n < 0
  · clear h
    go_enter Try.func30, Try.ntmps30
    go_wp2
    go_ret
    exact ⟨rfl, Below.refl _ _⟩
  · have h1 : 4294967295 < n := by omega
    clear h
    go_enter Try.func30, Try.ntmps30
    go_wp2
    go_ret
    exact ⟨rfl, Below.refl _ _⟩
set_option maxHeartbeats 400000 in
theorem spec_putWord_yes (n : Nat) (h : n < 4294967296) (w : World) : Calls Try.prog 30 #[.int .i64 (n : Int)] w fun e w' => e = .returned (.string ⟨(putW n).toArray⟩) ∧ Below w.heap.size w w' := by
  have ho := cells_four w 5 (u8v (n / 16777216 % 256).toUInt8) (u8v (n / 65536 % 256).toUInt8) (u8v (n / 256 % 256).toUInt8) (u8v (n % 256).toUInt8)
  have hcv := str_of_row (l := putW n) ho
  rw [u8v_mod, u8v_mod, u8v_mod, u8v_mod, show ((n / 16777216 : Nat) : Int) % 256 = (n : Int) / 16777216 by omega, show ((n / 65536 : Nat) : Int) % 256 = (n : Int) / 65536 % 256 by omega, show ((n / 256 : Nat) : Int) % 256 = (n : Int) / 256 % 256 by omega] at hcv
  clear ho
  go_enter Try.func30, Try.ntmps30
  go_wp2
  go_ret
  exact ⟨rfl, below_box _ _⟩

theorem shr8 (n i : Nat) : (n : Int) / 2 ^ (i * 8) = ((n / 2 ^ (i * 8) : Nat) : Int) := by simp
/-- A row that is filled from its end on. -/
theorem fill_back (A : List Value) (z v : Value) (i m : Nat) (hm : A.length = m) (hi : i < m) (h : A[m - 1 - i]? = some v) : (List.replicate (m - i) z ++ A.drop (m - i)).set (m - 1 - i) v = List.replicate (m - (i + 1)) z ++ A.drop (m - (i + 1)) := by
  obtain ⟨hl, rfl⟩ := List.getElem?_eq_some_iff.1 h
  have e : m - i = (m - 1 - i) + 1 := by omega
  have e2 : m - (i + 1) = m - 1 - i := by omega
  rw [e2, e, List.replicate_succ', List.append_assoc, List.set_append_right _ _ (by rw [List.length_replicate]; omega), List.length_replicate, Nat.sub_self, List.singleton_append, List.set_cons_zero, ← List.drop_eq_getElem_cons hl]

set_option maxHeartbeats 400000 in
theorem putWord_no (n : Int) (h : n < 0 ∨ 4294967295 < n) (w : World) : Calls Try.prog 26 #[.int .i64 n] w fun e w' => e = .returned (.string ⟨#[]⟩) ∧ Below w.heap.size w w' := by
  have hb := inB_no (n := n) (l := 0) (h := 4294967295) h
  have HB := Lib.hid hb
  clear hb h
  go_enter Try.func26, Try.ntmps26
  go_wp2_with (go_at_call 45; refine (isIn_eq HB.out _).mono ?_; rintro e w' ⟨rfl, rfl⟩)
  go_ret
  exact ⟨rfl, Below.refl _ _⟩
set_option maxHeartbeats 1000000 in
theorem putWord_yes (n : Nat) (h : n < 4294967296) (w : World) : Calls Try.prog 26 #[.int .i64 (n : Int)] w fun e w' => e = .returned (.string ⟨(putW n).toArray⟩) ∧ Below w.heap.size w w' := by
  have HB := Lib.hid (inB_yes (n := (n : Int)) (l := 0) (h := 4294967295) (by omega) (by omega))
  obtain ⟨A, hA⟩ : ∃ A : List Value, A = (putW n).map u8v := ⟨_, rfl⟩
  have hAl : A.length = 4 := by rw [hA]; rfl
  have mk : ∀ w : World, (Instr.makeSlice 22 (.int .i64 4) (.int .i64 4)).run Try.prog w = .ok (.slice (some ⟨w.heap.size, 0, none⟩) 4 4) (w.alloc (.cells (madeCells #[.int .u8 0] 4) 5)) :=
    fun w => run_make_row' (P := Try.prog) 22 5 (.int .u8 0) 1 Try.underlying22 infoByte rfl .i64 .i64 4 (by omega) (by omega) w
  have hAi : ∀ i, i < 4 → A[4 - 1 - i]? = some (.int .u8 ((n : Int) / 2 ^ (i * 8) % 256)) := by
    intro i hi
    rw [hA]
    match i, hi with
    | 0, _ => simp [putW]; exact (u8v_mod n).trans (by simp)
    | 1, _ => simp [putW]; exact (u8v_mod (n / 256)).trans (by simp)
    | 2, _ => simp [putW]; exact (u8v_mod (n / 65536)).trans (by simp)
    | 3, _ => simp [putW]; exact (u8v_mod (n / 16777216)).trans (by simp)
  have HA := Lib.hid hA
  have HAl := Lib.hid hAl
  have HAi := Lib.hid hAi
  clear hA hAl hAi
  go_enter Try.func26, Try.ntmps26
  go_wp2_with (go_at_call 45; refine (isIn_eq HB.out _).mono ?_; rintro e w' ⟨rfl, rfl⟩)
  have hown0 := Lib.hid (byte_made (w := w.alloc (.cells (madeCells #[.int .u8 0] 4) 5)) (base := w.heap.size) (box_new _ _) (Nat.le_refl _) (by unfold maxLen; omega))
  have hB0 := Lib.hid (below_box w (.cells (madeCells #[.int .u8 0] 4) 5))
  clear mk
  go_loopw [9] (fun c wr => ∃ i : Nat, i ≤ 4 ∧ c = .int .i64 i ∧ wr.ownsRow w.heap.size 5 1 (.slice (some ⟨w.heap.size, 0, none⟩) 4 4) 4 (List.replicate (4 - i) (.int .u8 0) ++ A.drop (4 - i)) ∧ Below w.heap.size w wr) (fun c _ => 4 - (intOf c).toNat)
  case atStart => exact ⟨0, Nat.zero_le _, rfl, by have := HAl.out; rw [List.drop_eq_nil_iff.2 (by omega)]; simpa using hown0.out, hB0.out⟩
  case round =>
    obtain ⟨i, hi, rfl, hown, hB⟩ := hrel
    have hBs := hB.size
    by_cases hlt : i < 4
    · have hfz := hown.frozenAt (4 - 1 - i)
      have hst := hown.stored (4 - 1 - i) (.int .u8 ((n : Int) / 2 ^ (i * 8) % 256))
      rw [fill_back A (.int .u8 0) _ i 4 HAl.out hlt (HAi.out i hlt)] at hst
      have hBn := Lib.hid (row_keeps hB hown (w' := wr.setCell ⟨w.heap.size, 4 - 1 - i, none⟩ (.int .u8 ((n : Int) / 2 ^ (i * 8) % 256))) hst.2 (by omega))
      have hst' := Lib.hid hst.1
      have hc : ∃ x, wr.cell? ⟨w.heap.size, 4 - 1 - i, none⟩ = some x := by
        rw [hown.cellAt (4 - 1 - i) (by omega)]
        exact ⟨_, List.getElem?_eq_getElem (by rw [List.length_append, List.length_drop, List.length_replicate, HAl.out]; omega)⟩
      obtain ⟨x, hc⟩ := hc
      clear hst hown hB
      obtain ⟨j, hj⟩ : ∃ j, j = 4 - 1 - i := ⟨_, rfl⟩
      rw [← hj] at hfz hc hBn hst'
      have hji : (3 : Int) - (i : Int) = (j : Int) := by omega
      have HJ := Lib.hid hj
      clear hj
      go_wp2
      go_roundw
      case rel => exact ⟨i + 1, by omega, by go_num, hst'.out, hBn.out⟩
      case measure => simp [intOf]; omega
    · obtain rfl : i = 4 := by omega
      rw [Nat.sub_self, List.replicate_zero, List.nil_append, List.drop_zero, HA.out] at hown
      have hcv := str_of_row hown
      clear hown
      have HBo := Lib.hid hB
      clear hB
      go_wp2
      go_ret
      exact ⟨rfl, HBo.out⟩

theorem wraps_i63 (n : Int) (h₀ : 0 ≤ n) (h₁ : n < 2 ^ 63) : IntKind.i64.wrap n = n := by rw [IntKind.wrap_i64]; omega
theorem i64_join (i : Nat) (x y : Int) (hx₀ : 0 ≤ x) (hx : x % 2 ^ i = 0) (hx₁ : x < 2 ^ 63) (hy₀ : 0 ≤ y) (hy : y < 2 ^ i) (hy₁ : y < 2 ^ 63) : bits .or .i64 x y = x + y :=
  bits_join .i64 63 (by decide) wraps_i63 i x y hx₀ hx hx₁ hy₀ hy hy₁
/-- What the first i bytes spell. -/
def preW (l : List UInt8) : Nat → Nat
  | 0 => 0
  | i + 1 => preW l i * 256 + (l[i]?.getD 0).toNat
theorem preW_lt (l : List UInt8) : ∀ i, preW l i < 256 ^ i
  | 0 => by simp [preW]
  | i + 1 => by
    have := preW_lt l i
    have := (l[i]?.getD 0).toNat_lt
    simp only [preW, Nat.pow_succ]
    omega
theorem preW_four {l : List UInt8} (h : 4 ≤ l.length) : preW l 4 = getW l := by
  match l, h with
  | a :: b :: c :: d :: r, _ => simp [preW, getW]; omega
theorem byte_get (s : ByteArray) (i : Nat) (h : i < s.size) : (s.data.toList[i]?.getD 0) = s[i] := by
  have : i < s.data.toList.length := by simpa using h
  rw [List.getElem?_eq_getElem this]
  rfl

theorem index_at (s : ByteArray) (k : Nat) (h : k < s.size) (i : Int) (hi : i = (k : Int)) (W : World) : (Instr.index 9 (.string s) (.int .i64 i)).run Try.prog W = .ok (.int .u8 (s[k].toNat : Int)) W := by
  subst hi
  have e := run_index_string (P := Try.prog) W 9 s .i64 (k : Int) Try.underlying9
  rw [dif_pos ⟨by omega, by omega⟩] at e
  exact e
theorem getW_drop (s : ByteArray) (k : Nat) (h : k + 4 ≤ s.size) : getW (s.data.toList.drop k) = s[k].toNat * 16777216 + s[k + 1].toNat * 65536 + s[k + 2].toNat * 256 + s[k + 3].toNat := by
  have hl : s.data.toList.length = s.size := by simp
  rw [List.drop_eq_getElem_cons (show k < s.data.toList.length by omega), List.drop_eq_getElem_cons (show k + 1 < s.data.toList.length by omega), List.drop_eq_getElem_cons (show k + 1 + 1 < s.data.toList.length by omega), List.drop_eq_getElem_cons (show k + 1 + 1 + 1 < s.data.toList.length by omega)]
  rfl

set_option maxHeartbeats 400000 in
theorem readWord_no (s : ByteArray) (h : s.size < 4) (w : World) : Calls Try.prog 50 #[.string s] w fun e w' => e = .returned (.tuple #[.int .i64 0, .int .i64 0, .int .i64 1]) ∧ w = w' := by
  go_enter Try.func50, Try.ntmps50
  go_wp2
  go_ret3
  exact ⟨rfl, rfl⟩
set_option maxHeartbeats 1000000 in
theorem readWord_yes (s : ByteArray) (h : 4 ≤ s.size) (hs : s.size ≤ 4611686018427387904) (w : World) : Calls Try.prog 50 #[.string s] w fun e w' => e = .returned (.tuple #[.int .i64 (getW s.data.toList : Nat), .int .i64 4, .int .i64 0]) ∧ w = w' := by
  have hg := Lib.hid (preW_four (l := s.data.toList) (by simpa using h))
  go_enter Try.func50, Try.ntmps50
  go_wp2
  go_loop [5, 10] (fun q i => ∃ k : Nat, k ≤ 4 ∧ i = .int .i64 k ∧ q = .int .i64 (preW s.data.toList k : Nat)) (fun _ i => 4 - (intOf i).toNat)
  case atStart => exact ⟨0, Nat.zero_le _, rfl, rfl⟩
  case round =>
    obtain ⟨k, hk, rfl, rfl⟩ := hrel
    by_cases hlt : k < 4
    · have hp := preW_lt s.data.toList k
      have hn : preW s.data.toList (k + 1) = preW s.data.toList k * 256 + s[k].toNat := by
        show preW s.data.toList k * 256 + _ = _
        rw [byte_get s k (by omega)]
      obtain ⟨p, hpp⟩ : ∃ p, p = preW s.data.toList k := ⟨_, rfl⟩
      rw [← hpp] at hp hn ⊢
      have hp3 : p < 16777216 := by
        have : (256 : Nat) ^ k ≤ 256 ^ 3 := Nat.pow_le_pow_right (by decide) (by omega)
        omega
      have hb := s[k].toNat_lt
      have hj := i64_join 8 ((p : Int) * 256) (s[k].toNat : Int) (by omega) (by omega) (by omega) (by omega) (by omega) (by omega)
      have HN := Lib.hid hn
      clear hp hn hpp
      go_wp2
      go_round
      case rel => exact ⟨k + 1, by omega, by go_num, by rw [HN.out]; go_num⟩
      case measure => simp [intOf]; omega
    · obtain rfl : k = 4 := by omega
      rw [hg.out]
      go_wp2
      go_ret3
      exact ⟨rfl, rfl⟩

set_option maxHeartbeats 400000 in
theorem spec_getWord_no (s : ByteArray) (k : Int) (hs : s.size ≤ 4611686018427387904) (h : k < 0 ∨ (s.size : Int) - 4 < k) (w : World) : Calls Try.prog 31 #[.string s, .int .i64 k] w fun e w' => e = .returned (.tuple #[.int .i64 0, .bool false]) ∧ w = w' := by
  by_cases h0 : k < 0
  · clear h
    go_enter Try.func31, Try.ntmps31
    go_wp2
    go_ret2
    exact ⟨rfl, rfl⟩
  by_cases h1 : (s.size : Int) < k
  · clear h
    go_enter Try.func31, Try.ntmps31
    go_wp2
    go_ret2
    exact ⟨rfl, rfl⟩
  have h2 : (s.size : Int) - k < 4 := by omega
  clear h
  go_enter Try.func31, Try.ntmps31
  go_wp2
  go_ret2
  exact ⟨rfl, rfl⟩
set_option maxHeartbeats 1000000 in
theorem spec_getWord_yes (s : ByteArray) (k : Nat) (hs : s.size ≤ 4611686018427387904) (h : k + 4 ≤ s.size) (w : World) : Calls Try.prog 31 #[.string s, .int .i64 (k : Int)] w fun e w' => e = .returned (.tuple #[.int .i64 (getW (s.data.toList.drop k) : Nat), .bool true]) ∧ ∃ n, w' = w.drewN n := by
  have hg : getW (s.data.toList.drop k) = s[k].toNat * 16777216 + s[k + 1].toNat * 65536 + s[k + 2].toNat * 256 + s[k + 3].toNat := getW_drop s k h
  have ia := index_at s k (by omega) (k : Int) rfl
  have ib := index_at s (k + 1) (by omega) ((k : Int) + 1) (by omega)
  have ic := index_at s (k + 2) (by omega) ((k : Int) + 2) (by omega)
  have id' := index_at s (k + 3) (by omega) ((k : Int) + 3) (by omega)
  have ea : IntKind.i64.wrap ((k : Int) + 1) = (k : Int) + 1 := IntWalk.i64_in _ (by omega)
  have eb : IntKind.i64.wrap ((k : Int) + 2) = (k : Int) + 2 := IntWalk.i64_in _ (by omega)
  have ec : IntKind.i64.wrap ((k : Int) + 3) = (k : Int) + 3 := IntWalk.i64_in _ (by omega)
  obtain ⟨a, ha⟩ : ∃ a, a = s[k].toNat := ⟨_, rfl⟩
  obtain ⟨b, hb⟩ : ∃ b, b = s[k + 1].toNat := ⟨_, rfl⟩
  obtain ⟨c, hc⟩ : ∃ c, c = s[k + 2].toNat := ⟨_, rfl⟩
  obtain ⟨d, hd⟩ : ∃ d, d = s[k + 3].toNat := ⟨_, rfl⟩
  have la : a < 256 := by rw [ha]; exact s[k].toNat_lt
  have lb : b < 256 := by rw [hb]; exact s[k + 1].toNat_lt
  have lc : c < 256 := by rw [hc]; exact s[k + 2].toNat_lt
  have ld : d < 256 := by rw [hd]; exact s[k + 3].toNat_lt
  rw [← ha] at ia hg
  rw [← hb] at ib hg
  rw [← hc] at ic hg
  rw [← hd] at id' hg
  clear ha hb hc hd
  have HG := Lib.hid hg
  clear hg
  have wa : IntKind.i64.wrap (a : Int) = a := IntWalk.i64_in _ (by omega)
  have wb : IntKind.i64.wrap (b : Int) = b := IntWalk.i64_in _ (by omega)
  have wc : IntKind.i64.wrap (c : Int) = c := IntWalk.i64_in _ (by omega)
  have wd : IntKind.i64.wrap (d : Int) = d := IntWalk.i64_in _ (by omega)
  have va : IntKind.i64.wrap ((a : Int) * 16777216) = a * 16777216 := IntWalk.i64_in _ (by omega)
  have vb : IntKind.i64.wrap ((b : Int) * 65536) = b * 65536 := IntWalk.i64_in _ (by omega)
  have vc : IntKind.i64.wrap ((c : Int) * 256) = c * 256 := IntWalk.i64_in _ (by omega)
  have jb := i64_join 24 ((a : Int) * 16777216) ((b : Int) * 65536) (by omega) (by omega) (by omega) (by omega) (by omega) (by omega)
  have jc := i64_join 16 ((a : Int) * 16777216 + (b : Int) * 65536) ((c : Int) * 256) (by omega) (by omega) (by omega) (by omega) (by omega) (by omega)
  have jd := i64_join 8 ((a : Int) * 16777216 + (b : Int) * 65536 + (c : Int) * 256) (d : Int) (by omega) (by omega) (by omega) (by omega) (by omega) (by omega)
  go_enter Try.func31, Try.ntmps31
  go_wp2
  go_quiet (fail)
  go_wp2
  go_ret2
  exact ⟨by rw [HG.out]; go_num, _, rfl⟩
end Go.Proofs.Ytedhallhdhlhhaa

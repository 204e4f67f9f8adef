/-
  Rows of bytes of the call's own, as strings; the program's unsigned, digitsOf, PutInt and the model's PutInt: a number's bytes. Condition: the number is one of 64 bits.
-/
import Derived.Test.YtedhallhdhlhhaaWSize
import Derived.Test.YtedhallhdhlhhaaByA
import Derived.Test.YtedhallhdhlhhaaShelf
import Derived.Laws.IdiomStrings
import Derived.Laws.BytesArg
import Derived.Deep.OwnRows
import Derived.OneCell
import Derived.Test.YtedhallhdhlhhaaExt
namespace Go.Proofs.Ytedhallhdhlhhaa
open Go.RowKit
set_option linter.unusedVariables false

theorem add_at (b o i : Nat) : (⟨b, o, none⟩ : Addr).add i = ⟨b, o + i, none⟩ := by unfold Addr.add; split <;> simp_all
def u8v (b : UInt8) : Value := .int .u8 (b.toNat : Int)
/-- A row's bytes as a text. -/
theorem str_of_row {w : World} {base g n cap : Nat} {l : List UInt8} (h : w.ownsRow base 5 1 (.slice (some ⟨g, 0, none⟩) n cap) n (l.map u8v)) :
    (convert 22 9 (.slice (some ⟨g, 0, none⟩) n cap)).run Try.prog w = .ok (.string ⟨l.toArray⟩) w := by
  have hn : n = l.length := by have := h.1; simpa using this.symm
  subst hn
  refine run_convert_bytes_back w 22 9 5 ⟨g, 0, none⟩ cap l Try.underlying22 Try.underlying5 Try.underlying9 (fun j hj => ?_)
  have := h.cellAt j (by omega)
  rw [add_at, Nat.zero_add, this]
  simp [hj, u8v]

theorem str_of_any {w : World} {base n : Nat} {v : Value} {l : List UInt8} (h : w.ownsRow base 5 1 v n (l.map u8v)) :
    (convert 22 9 v).run Try.prog w = .ok (.string ⟨l.toArray⟩) w := by
  rcases h.2 with ⟨rfl, rfl⟩ | ⟨g, cap, cur, rfl, _⟩
  · have hl : l = [] := by
      have := h.1
      simpa using this
    subst hl
    have := run_convert_bytes_nil (P := Try.prog) w 22 5 Try.underlying22 Try.underlying5 0 0 9 Try.underlying9
    exact this
  · exact str_of_row h

theorem infoByte : (Try.prog.info? 5).map (fun i => (i.zero, i.size, i.bytes)) = some (some (.int .u8 0), 1, 1) := by kernel_rfl
theorem byte_made {w : World} {g n base : Nat} {z : Value} {e : TypeId} (hg : w.heap[g]? = some (.cells (madeCells #[z] n) e (0, 0))) (hb : base ≤ g) (hn : n ≤ maxLen) : w.ownsRow base e 1 (.slice (some ⟨g, 0, none⟩) n n) n (List.replicate n z) :=
  ⟨by simp, .inr ⟨g, n, _, rfl, hb, hg, Nat.le_refl _, hn, by simp [size_madeCells], by rw [toList_madeCells_one]; simp⟩⟩
/-- A row that is filled from its begin on. -/
theorem fill_set (A : List Value) (z v : Value) (i m : Nat) (hm : A.length = m) (h : A[i]? = some v) : (A.take i ++ List.replicate (m - i) z).set i v = A.take (i + 1) ++ List.replicate (m - (i + 1)) z := by
  subst hm
  obtain ⟨hi, rfl⟩ := List.getElem?_eq_some_iff.1 h
  obtain ⟨k, hk⟩ : ∃ k, A.length - i = k + 1 := ⟨A.length - i - 1, by omega⟩
  have e2 : A.length - (i + 1) = k := by omega
  rw [hk, e2, List.set_append_right _ _ (by rw [List.length_take]; omega), List.length_take, Nat.min_eq_left (by omega), Nat.sub_self, List.replicate_succ, List.set_cons_zero, List.take_succ_eq_append_getElem hi, List.append_assoc]
  rfl

theorem u64_or1 (x : Nat) (hx : x < 9223372036854775808) : bits .or .u64 ((2 * x : Nat) : Int) 1 = ((2 * x + 1 : Nat) : Int) := by
  have h := u64_or_nat (2 * x) 1 (by omega) (by decide)
  have e : (2 * x) ||| 1 = 2 * x + 1 := by
    have := Nat.two_pow_add_eq_or_of_lt (i := 1) (b := 1) (by decide) x
    simpa using this.symm
  rw [e] at h
  exact h

set_option maxHeartbeats 400000 in
theorem unsigned_any (n : Int) (hn : I64 n) (w : World) : Calls Try.prog 36 #[.int .i64 n] w fun e w' => e = .returned (.int .u64 (Lib.zigzag n : Nat)) ∧ w = w' := by
  obtain ⟨h0, h1⟩ := hn
  by_cases h : n < 0
  · go_enter Try.func36, Try.ntmps36
    go_wp2
    go_ret
    refine ⟨ret_int ?_, rfl⟩
    have e := u64_or1 (-1 - n).toNat (by omega)
    rw [show ((2 * (-1 - n).toNat : Nat) : Int) = (-1 - n) * 2 by omega] at e
    rw [e]
    unfold Lib.zigzag
    rw [if_neg (by omega)]
    omega
  · go_enter Try.func36, Try.ntmps36
    go_wp2
    go_ret
    refine ⟨ret_int ?_, rfl⟩
    unfold Lib.zigzag
    rw [if_pos (by omega)]
    omega

theorem digits_len (u : Nat) : u < 2 ^ 64 → ((Lib.uvarint u).length : Int) = max 1 (((Lib.bitLen u : Nat) + 6 : Int) / 7) := by
  induction u using Nat.strongRecOn with
  | _ u ih =>
    intro h
    by_cases hu : u < 128
    · rw [Lib.uvarint_small hu]
      have := Lib.bitLen_le u 7 (by decide) (by omega)
      simp only [List.length_cons, List.length_nil]
      omega
    · have e := Lib.bitLen_shift 7 u (by omega) h
      have e2 := Lib.bitLen_half (u / 128) (by omega) (by omega)
      have := ih (u / 128) (by omega) (by omega)
      rw [Lib.uvarint_big (by omega), List.length_cons]
      have e3 : u / 2 ^ 7 = u / 128 := by rfl
      rw [e3] at e
      omega

set_option maxHeartbeats 400000 in
theorem digitsOf_any (u : Nat) (hu : u < 2 ^ 64) (w : World) : Calls Try.prog 37 #[.int .u64 (u : Int)] w fun e w' => e = .returned (.int .i64 ((Lib.uvarint u).length : Nat)) ∧ w = w' := by
  have hl := Lib.hid (digits_len u hu)
  have hb := Lib.bitLen_le u 64 (by decide) hu
  go_enter Try.func37, Try.ntmps37
  go_wp2_with (go_at_call 53; refine (Try.bits_Len64 _ _ (by omega) (by omega)).mono ?_; rintro e w' ⟨rfl, rfl⟩)
  go_ret
  refine ⟨ret_int ?_, rfl⟩
  rw [hl.out, show ((Lib.bitLen u : Nat) : Int) + 7 - 1 = (Lib.bitLen u : Nat) + 6 by omega]
theorem unsigned_at (n : Int) (hn : I64 n) (u : Nat) (hu : u = Lib.zigzag n) (w : World) : Calls Try.prog 36 #[.int .i64 n] w fun e w' => e = .returned (.int .u64 (u : Int)) ∧ w = w' := by
  rw [hu]; exact unsigned_any n hn w
theorem digitsOf_at (u m : Nat) (hu : u < 2 ^ 64) (hm : m = (Lib.uvarint u).length) (w : World) : Calls Try.prog 37 #[.int .u64 (u : Int)] w fun e w' => e = .returned (.int .i64 (m : Int)) ∧ w = w' := by
  rw [hm]; exact digitsOf_any u hu w

theorem row_keeps {B : Nat} {a w w' : World} {size : Nat} {e : TypeId} {v : Value} {n : Nat} {xs : List Value} (h : Below B a w) (hr : w.ownsRow B e size v n xs) (hg : w.grownBy w' v.ownBlock) (hB : B ≤ w.heap.size) : Below B a w' :=
  h.grown hg hB fun k hk => (hr.lt k hk).1
theorem shr7 (u i : Nat) : (u : Int) / 2 ^ (i * 7) = ((u / 128 ^ i : Nat) : Int) := by
  have e : (128 : Nat) ^ i = 2 ^ (i * 7) := by rw [Nat.mul_comm, Nat.pow_mul]
  rw [e]
  simp
theorem byte_or (u i : Nat) : bits .or .u8 ((u : Int) / 2 ^ (i * 7) % 256) 128 = ((u / 128 ^ i % 128 + 128 : Nat) : Int) := by
  rw [shr7, Lib.u8_or128_any _ (by omega) (by omega)]
  omega
theorem byte_off (x : Nat) (hx : x < 128) : bits .andNot .u8 ((x + 128 : Nat) : Int) 128 = (x : Int) := by
  have h := u8_andNot_nat (x + 128) 128 (by omega) (by decide)
  have e : ∀ x : Fin 128, (x.val + 128) &&& (255 - 128) = x.val := by decide
  rw [show ((128 : Nat) : Int) = 128 from rfl] at h
  rw [h]
  have h2 : (x + 128) &&& (255 - 128) = x := e ⟨x, hx⟩
  rw [h2]

theorem last_set (u j : Nat) (hl : (Lib.uvarint u).length = j + 1) (hj : u / 128 ^ j < 128) :
    ((List.range (Lib.uvarint u).length).map fun j => Value.int .u8 ((u / 128 ^ j % 128 + 128 : Nat) : Int)).set j (.int .u8 ((u / 128 ^ j : Nat) : Int)) = (Lib.uvarint u).map u8v := by
  apply List.ext_getElem?
  intro k
  rw [List.getElem?_set]
  by_cases hk : k < (Lib.uvarint u).length
  · have ha := uvarint_at u k hk
    by_cases hkj : j = k
    · subst hkj
      rw [if_pos hl.symm] at ha
      simp [hk, u8v, ha]
    · rw [if_neg (by omega)] at ha
      simp [hk, hkj, u8v, ha]
  · simp [hk]
    intro e
    omega

set_option maxHeartbeats 1000000 in
theorem putInt_any (n : Int) (hn : I64 n) (w : World) : Calls Try.prog 15 #[.int .i64 n] w fun e w' => e = .returned (.string ⟨(pi n).toArray⟩) ∧ Below w.heap.size w w' := by
  have hz : Lib.zigzag n < 2 ^ 64 := Lib.zigzag_lt hn.1 hn.2
  obtain ⟨u, hu⟩ : ∃ u, u = Lib.zigzag n := ⟨_, rfl⟩
  have hp : pi n = Lib.uvarint u := by rw [hu]; rfl
  rw [← hu] at hz
  rw [hp]
  have hl1 := Lib.uvarint_pos u
  have hl2 := Lib.uvarint_length64 (x := u) (by omega)
  obtain ⟨A, hA⟩ : ∃ A : List Value, A = (List.range (Lib.uvarint u).length).map fun j => .int .u8 ((u / 128 ^ j % 128 + 128 : Nat) : Int) := ⟨_, rfl⟩
  have hAl : A.length = (Lib.uvarint u).length := by rw [hA]; simp
  obtain ⟨m, hm⟩ : ∃ m, m = (Lib.uvarint u).length := ⟨_, rfl⟩
  have mk := run_make_row' (P := Try.prog) 22 5 (.int .u8 0) 1 Try.underlying22 infoByte rfl .i64 .i64 m (by omega) (by omega)
  rw [← hm] at hl1 hl2
  have HA := Lib.hid hA
  have HAl := Lib.hid hAl
  have Hm := Lib.hid hm
  have Hu := Lib.hid hu
  clear hA hAl hm hp hu
  go_enter Try.func15, Try.ntmps15
  go_wp2_with (first
    | (go_at_call 36; refine (unsigned_at _ hn u Hu.out _).mono ?_; rintro e w' ⟨rfl, rfl⟩)
    | (go_at_call 37; refine (digitsOf_at u m (by omega) Hm.out _).mono ?_; rintro e w' ⟨rfl, rfl⟩))
  have hown0 := Lib.hid (byte_made (w := w.alloc (.cells (madeCells #[.int .u8 0] m) 5)) (base := w.heap.size) (box_new _ _) (Nat.le_refl _) (by unfold maxLen; omega))
  have hB0 := Lib.hid (below_box w (.cells (madeCells #[.int .u8 0] m) 5))
  clear mk
  go_loopw [14] (fun c wr => ∃ i : Nat, i ≤ m ∧ c = .int .i64 i ∧ wr.ownsRow w.heap.size 5 1 (.slice (some ⟨w.heap.size, 0, none⟩) m m) m (A.take i ++ List.replicate (m - i) (.int .u8 0)) ∧ Below w.heap.size w wr) (fun c _ => m - (intOf c).toNat)
  case atStart => exact ⟨0, Nat.zero_le _, rfl, by simpa using hown0.out, hB0.out⟩
  case round =>
    obtain ⟨i, hi, rfl, hown, hB⟩ := hrel
    have hBs := hB.size
    by_cases hlt : i < m
    · have hfz := hown.frozenAt i
      have hAi : A[i]? = some (.int .u8 (bits .or .u8 ((u : Int) / 2 ^ (i * 7) % 256) 128)) := by
        rw [HA.out, byte_or, List.getElem?_map, List.getElem?_range (by have := Hm.out; omega)]
        rfl
      have hst := hown.stored i (.int .u8 (bits .or .u8 ((u : Int) / 2 ^ (i * 7) % 256) 128))
      have hAl := HAl.out.trans Hm.out.symm
      have hfs := fill_set A (.int .u8 0) _ i m hAl hAi
      rw [hfs] at hst
      have hBn := Lib.hid (row_keeps hB hown (w' := wr.setCell ⟨w.heap.size, i, none⟩ (.int .u8 (bits .or .u8 ((u : Int) / 2 ^ (i * 7) % 256) 128))) hst.2 (by omega))
      have hst' := Lib.hid hst.1
      have hc : ∃ x, wr.cell? ⟨w.heap.size, i, none⟩ = some x := by
        rw [hown.cellAt i (by omega)]
        exact ⟨_, List.getElem?_eq_getElem (by rw [List.length_append, List.length_take, List.length_replicate]; omega)⟩
      obtain ⟨x, hc⟩ := hc
      clear hst hfs hAi hAl hown hB
      go_wp2
      go_roundw
      case rel => exact ⟨i + 1, by omega, by go_num, hst'.out, hBn.out⟩
      case measure => simp [intOf]; omega
    · obtain rfl : i = m := by omega
      rw [Nat.sub_self, List.replicate_zero, List.append_nil, List.take_of_length_le (by rw [HAl.out, Hm.out]; omega)] at hown
      obtain ⟨j, rfl⟩ : ∃ j, i = j + 1 := ⟨i - 1, by omega⟩
      have hj : u / 128 ^ j < 128 := by
        have h1 := (uvarint_len_iff j u).1 (by have := Hm.out; omega)
        rw [Nat.pow_succ] at h1
        exact Nat.div_lt_of_lt_mul h1
      obtain ⟨X, hX⟩ : ∃ X : Nat, X = u / 128 ^ j % 128 + 128 := ⟨_, rfl⟩
      have hAj : A[j]? = some (.int .u8 (X : Int)) := by
        rw [HA.out, hX, List.getElem?_map, List.getElem?_range (by have := Hm.out; omega)]
        rfl
      have hc := hown.cellAt j (by omega)
      rw [hAj] at hc
      have hfz := hown.frozenAt j
      have hst := hown.stored j (.int .u8 (bits .andNot .u8 (X : Int) 128))
      have hfin : A.set j (.int .u8 (bits .andNot .u8 (X : Int) 128)) = (Lib.uvarint u).map u8v := by
        rw [hX, Nat.mod_eq_of_lt hj, byte_off _ hj, HA.out]
        exact last_set u j Hm.out.symm hj
      rw [hfin] at hst
      have hBn := Lib.hid (row_keeps hB hown hst.2 (by omega))
      have hcv := str_of_row hst.1
      clear hst hfin hAj hown hB hX hj
      go_wp2
      go_ret
      exact ⟨rfl, hBn.out⟩

theorem cell_one' (w : World) (t : TypeId) (x : Value) : ∀ j u, [x][j]? = some u → (w.alloc (.cells #[x] t)).cell? ((⟨w.heap.size, 0, none⟩ : Addr).add j) = some u := by
  intro j u hj
  match j, hj with
  | 0, hj => simp at hj; subst hj; simp [Addr.add]
theorem low_or (x : Nat) (hx : x < 2 ^ 64) : Value.int .u8 (bits .or .u8 (bits .and .u64 (x : Int) 127 % 256) 128) = u8v (x % 128 + 128).toUInt8 := by
  have h := bits_mask .u64 64 (by decide) wraps_u64 7 (by decide) (x : Int) (by omega) (by omega)
  have e : ((2 ^ 7 - 1 : Nat) : Int) = 127 := by decide
  simp at h
  rw [h, Lib.u8_or128_any _ (by omega) (by omega)]
  have : ((x % 128 + 128).toUInt8).toNat = x % 128 + 128 := by simp [Nat.toUInt8]; omega
  unfold u8v
  rw [this]
  congr 1
  omega
set_option maxRecDepth 100000 in
set_option maxHeartbeats 1000000 in
theorem spec_putInt_any (n : Int) (hn : I64 n) (w : World) : Calls Try.prog 24 #[.int .i64 n] w fun e w' => e = .returned (.string ⟨(pi n).toArray⟩) ∧ Below w.heap.size w w' := by
  have hz : Lib.zigzag n < 2 ^ 64 := Lib.zigzag_lt hn.1 hn.2
  obtain ⟨u, hu⟩ : ∃ u, u = Lib.zigzag n := ⟨_, rfl⟩
  have hp : pi n = Lib.uvarint u := by rw [hu]; rfl
  rw [hp]
  rw [← hu] at hz
  have hs : IntKind.u64.signed = false := rfl
  have Hu := Lib.hid hu
  clear hp hu
  obtain ⟨i0, hi0, hz0, hz1, hz2⟩ := info_parts infoByte
  obtain ⟨h0, h1⟩ := hn
  by_cases h : n < 0
  · go_enter Try.func24, Try.ntmps24
    go_wp2
    have ret0 : Value.int IntKind.u64 (bits BinOp.xor IntKind.u64 IntKind.u64.max (IntKind.u64.wrap (IntKind.u64.wrap n * 2))) = .int .u64 (u : Int) := by rw [Hu.out, Lib.zigzag_neg h0 h]
    go_loopw [3, 4] (fun q v wr => ∃ (x : Nat) (l : List UInt8), q = .int .u64 (x : Int) ∧ x < 2 ^ 64 ∧ l ++ Lib.uvarint x = Lib.uvarint u ∧ wr.ownsRow w.heap.size 5 1 v l.length (l.map u8v) ∧ Below w.heap.size w wr) (fun q _ _ => (intOf q).toNat)
    case atStart => exact ⟨u, [], ret0, hz, rfl, World.ownsRow_nil _ _ _ _, Below.refl _ _⟩
    case round =>
      obtain ⟨x, l, rfl, hx, hl, hown, hB⟩ := hrel
      have hBs := hB.size
      have HX := Lib.hid hx
      have HZ := Lib.hid hz
      have HL := Lib.hid hl
      clear hx hz ret0 hl
      have hll : l.length + (Lib.uvarint x).length ≤ 10 := by
        have := Lib.uvarint_length64 HZ.out
        rw [← HL.out, List.length_append] at this
        exact this
      have hup := Lib.uvarint_pos x
      by_cases hlt : 128 ≤ x
      · go_wp2_with (at_builtin; refine wpList_append_own _ rfl _ _ 22 rfl w.heap.size 5 i0 (.int .u8 0) 1 1 Try.underlying22 hi0 hz0 hz1 hz2 rfl (by decide) _ _ _ rfl (hown.alloc _) ⟨wr.heap.size, 0, none⟩ 1 1 [.int .u8 (bits .or .u8 (bits .and .u64 (x : Int) 127 % 256) 128)] rfl rfl (cell_one' _ _ _) (by simp [Value.oneCell']) (by unfold maxLen; omega) (by omega) (by simp; omega) ?_; intro v' w1 hown' hgrow _)
        have hB' := Lib.hid (row_keeps (hB.alloc hBs _) (hown.alloc _) hgrow (by simp; omega))
        rw [low_or x HX.out] at hown'
        have ho2 := Lib.hid (show w1.ownsRow w.heap.size 5 1 v' (l ++ [(x % 128 + 128).toUInt8]).length ((l ++ [(x % 128 + 128).toUInt8]).map u8v) by rw [List.map_append, List.length_append]; exact hown')
        clear hown' hgrow hown hB hBs
        go_wp2
        go_roundw
        case rel => exact ⟨x / 128, l ++ [(x % 128 + 128).toUInt8], by go_num, by have := HX.out; omega, by rw [List.append_assoc, ← HL.out, Lib.uvarint_big (x := x) hlt]; rfl, ho2.out, hB'.out⟩
        case measure => simp [intOf]; omega
      · have HF := Lib.hid (show ∀ v' w1, w1.ownsRow w.heap.size 5 1 v' (l.length + 1) (l.map u8v ++ [.int .u8 (x : Int)]) → (convert 22 9 v').run Try.prog w1 = .ok (.string ⟨(Lib.uvarint u).toArray⟩) w1 from fun v' w1 hown' => by
          refine str_of_any (base := w.heap.size) (n := l.length + 1) ?_
          rw [← HL.out, Lib.uvarint_small (by omega), List.map_append]
          have e : u8v x.toUInt8 = .int .u8 (x : Int) := by simp [u8v, Nat.toUInt8]; omega
          simp only [List.map_cons, List.map_nil, e]
          exact hown')
        go_wp2_with (at_builtin; refine wpList_append_own _ rfl _ _ 22 rfl w.heap.size 5 i0 (.int .u8 0) 1 1 Try.underlying22 hi0 hz0 hz1 hz2 rfl (by decide) _ _ _ rfl (hown.alloc _) ⟨wr.heap.size, 0, none⟩ 1 1 [.int .u8 (x : Int)] rfl rfl (cell_one' _ _ _) (by simp [Value.oneCell']) (by unfold maxLen; omega) (by omega) (by simp; omega) ?_; intro v' w1 hown' hgrow _; have hcv := HF.out v' w1 hown')
        go_ret
        exact ⟨rfl, row_keeps (hB.alloc hBs _) (hown.alloc _) hgrow (by simp; omega)⟩
  · go_enter Try.func24, Try.ntmps24
    go_wp2
    have ret0 : Value.int IntKind.u64 (n * 2) = .int .u64 (u : Int) := by rw [Hu.out, Lib.zigzag_nonneg (by omega)]
    go_loopw [3, 4] (fun q v wr => ∃ (x : Nat) (l : List UInt8), q = .int .u64 (x : Int) ∧ x < 2 ^ 64 ∧ l ++ Lib.uvarint x = Lib.uvarint u ∧ wr.ownsRow w.heap.size 5 1 v l.length (l.map u8v) ∧ Below w.heap.size w wr) (fun q _ _ => (intOf q).toNat)
    case atStart => exact ⟨u, [], ret0, hz, rfl, World.ownsRow_nil _ _ _ _, Below.refl _ _⟩
    case round =>
      obtain ⟨x, l, rfl, hx, hl, hown, hB⟩ := hrel
      have hBs := hB.size
      have HX := Lib.hid hx
      have HZ := Lib.hid hz
      have HL := Lib.hid hl
      clear hx hz ret0 hl
      have hll : l.length + (Lib.uvarint x).length ≤ 10 := by
        have := Lib.uvarint_length64 HZ.out
        rw [← HL.out, List.length_append] at this
        exact this
      have hup := Lib.uvarint_pos x
      by_cases hlt : 128 ≤ x
      · go_wp2_with (at_builtin; refine wpList_append_own _ rfl _ _ 22 rfl w.heap.size 5 i0 (.int .u8 0) 1 1 Try.underlying22 hi0 hz0 hz1 hz2 rfl (by decide) _ _ _ rfl (hown.alloc _) ⟨wr.heap.size, 0, none⟩ 1 1 [.int .u8 (bits .or .u8 (bits .and .u64 (x : Int) 127 % 256) 128)] rfl rfl (cell_one' _ _ _) (by simp [Value.oneCell']) (by unfold maxLen; omega) (by omega) (by simp; omega) ?_; intro v' w1 hown' hgrow _)
        have hB' := Lib.hid (row_keeps (hB.alloc hBs _) (hown.alloc _) hgrow (by simp; omega))
        rw [low_or x HX.out] at hown'
        have ho2 := Lib.hid (show w1.ownsRow w.heap.size 5 1 v' (l ++ [(x % 128 + 128).toUInt8]).length ((l ++ [(x % 128 + 128).toUInt8]).map u8v) by rw [List.map_append, List.length_append]; exact hown')
        clear hown' hgrow hown hB hBs
        go_wp2
        go_roundw
        case rel => exact ⟨x / 128, l ++ [(x % 128 + 128).toUInt8], by go_num, by have := HX.out; omega, by rw [List.append_assoc, ← HL.out, Lib.uvarint_big (x := x) hlt]; rfl, ho2.out, hB'.out⟩
        case measure => simp [intOf]; omega
      · have HF := Lib.hid (show ∀ v' w1, w1.ownsRow w.heap.size 5 1 v' (l.length + 1) (l.map u8v ++ [.int .u8 (x : Int)]) → (convert 22 9 v').run Try.prog w1 = .ok (.string ⟨(Lib.uvarint u).toArray⟩) w1 from fun v' w1 hown' => by
          refine str_of_any (base := w.heap.size) (n := l.length + 1) ?_
          rw [← HL.out, Lib.uvarint_small (by omega), List.map_append]
          have e : u8v x.toUInt8 = .int .u8 (x : Int) := by simp [u8v, Nat.toUInt8]; omega
          simp only [List.map_cons, List.map_nil, e]
          exact hown')
        go_wp2_with (at_builtin; refine wpList_append_own _ rfl _ _ 22 rfl w.heap.size 5 i0 (.int .u8 0) 1 1 Try.underlying22 hi0 hz0 hz1 hz2 rfl (by decide) _ _ _ rfl (hown.alloc _) ⟨wr.heap.size, 0, none⟩ 1 1 [.int .u8 (x : Int)] rfl rfl (cell_one' _ _ _) (by simp [Value.oneCell']) (by unfold maxLen; omega) (by omega) (by simp; omega) ?_; intro v' w1 hown' hgrow _; have hcv := HF.out v' w1 hown')
        go_ret
        exact ⟨rfl, row_keeps (hB.alloc hBs _) (hown.alloc _) hgrow (by simp; omega)⟩
end Go.Proofs.Ytedhallhdhlhhaa

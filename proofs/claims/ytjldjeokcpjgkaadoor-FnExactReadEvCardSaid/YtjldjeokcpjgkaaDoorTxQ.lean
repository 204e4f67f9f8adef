/-
  The model's l11words and l11num.
-/
import Derived.Test.YtjldjeokcpjgkaaDoorTxP
import Derived.IntWalk
namespace Go.Proofs.YtjldjeokcpjgkaaDoor
open Go.RowKit
set_option linter.unusedVariables false

theorem idx_at (s : ByteArray) (k : Nat) (h : k < s.size) (i : Int) (hi : i = (k : Int)) (W : World) : (Instr.index 9 (.string s) (.int .i64 i)).run Tryd.prog W = .ok (.int .u8 (s[k].toNat : Int)) W := by
  subst hi
  have e := run_index_string (P := Tryd.prog) W 9 s .i64 (k : Int) Tryd.underlying9
  rw [dif_pos ⟨by omega, by omega⟩] at e
  exact e
theorem get_data (s : ByteArray) (k : Nat) (h : k < s.size) : s.data.toList[k]? = some s[k] := by
  rw [List.getElem?_eq_getElem (by simpa using h)]
  rfl
theorem drop_data (s : ByteArray) (k : Nat) (h : k < s.size) : s.data.toList.drop k = s[k] :: s.data.toList.drop (k + 1) := by
  rw [List.drop_eq_getElem_cons (by simpa using h)]
  rfl
theorem ext_data (s : ByteArray) (a b : Nat) : (s.extract a b).data.toList = (s.data.toList.drop a).take (b - a) := by
  simp [List.extract]
theorem cons_noblank {l : List UInt8} {from_ i : Nat} (h : ∀ j b, from_ ≤ j → j < i → l[j]? = some b → b ≠ 32) : (32 : UInt8) ∉ (l.drop from_).take (i - from_) := by
  intro hm
  obtain ⟨q, hq⟩ := List.mem_iff_getElem?.1 hm
  rw [List.getElem?_take] at hq
  split at hq
  · next hlt =>
    rw [List.getElem?_drop] at hq
    exact h (from_ + q) 32 (by omega) (by omega) hq rfl
  · cases hq

set_option maxRecDepth 100000 in
set_option maxHeartbeats 4000000 in
theorem swords_any (s : ByteArray) (hs : s.size ≤ 1048576) (w : World) :
    Calls Tryd.prog 28 #[.string s] w fun e w' => ∃ v, e = .returned v ∧ w'.ownsRow w.heap.size 9 1 v (spl s.data.toList).length ((spl s.data.toList).map strV) ∧ Below w.heap.size w w' := by
  obtain ⟨i0, hi, hz0, hz1, hz2⟩ := info_parts infoStr
  obtain ⟨l, hl⟩ : ∃ l, l = s.data.toList := ⟨_, rfl⟩
  rw [← hl]
  have hl' := Lib.hid hl
  have hlen := Lib.hid (show l.length = s.size by rw [hl]; simp)
  have hspl : (spl l).length ≤ 1048577 := by
    have h1 := countByte_spl l
    have h2 : Lib.countByte l 32 ≤ l.length := List.count_le_length
    have h3 := hlen.out
    omega
  have hspl' := Lib.hid hspl
  clear hl hspl
  go_enter Tryd.func28, Tryd.ntmps28
  go_wp2_with fail
  go_loopw [3, 4, 5] (fun v f i wr => ∃ (k q : Nat) (O : List (List UInt8)), k ≤ s.size + 1 ∧ i = .int .i64 k ∧ f = .int .i64 q ∧ q ≤ s.size + 1 ∧ Hid ((k ≤ s.size ∧ q ≤ k ∧ (∀ j b, q ≤ j → j < k → l[j]? = some b → b ≠ 32) ∧ O ++ spl (l.drop q) = spl l) ∨ (k = s.size + 1 ∧ O = spl l)) ∧ wr.ownsRow w.heap.size 9 1 v O.length (O.map strV) ∧ Below w.heap.size w wr) (fun v f i _ => s.size + 1 - (Go.RowKit.intOf i).toNat)
  case atStart => exact ⟨0, 0, [], by omega, rfl, rfl, by omega, Lib.hid (.inl ⟨by omega, by omega, fun j b h1 h2 => by omega, by simp⟩), World.ownsRow_nil _ _ _ _, Below.refl _ _⟩
  case round =>
    obtain ⟨k, q, O, hk, rfl, rfl, hq, hst, hown, hB⟩ := hrel
    have hBs := hB.size
    by_cases hle : k ≤ s.size
    · obtain ⟨_, hqk, hnb, hsp⟩ : k ≤ s.size ∧ q ≤ k ∧ (∀ j b, q ≤ j → j < k → l[j]? = some b → b ≠ 32) ∧ O ++ spl (l.drop q) = spl l := by
        rcases hst.out with h | h
        · exact h
        · omega
      have hle1 : (k : Int) ≤ (s.size : Int) := by omega
      have hpc := cons_noblank hnb
      have hOl : O.length ≤ 1048577 := by
        have h1 := congrArg List.length hsp
        rw [List.length_append] at h1
        have := hspl'.out
        omega
      have hext := ext_data s q k
      rw [← hl'.out] at hext
      have hX : s.extract q k = ⟨((l.drop q).take (k - q)).toArray⟩ := bytes_eq (by rw [hext])
      have es : ∀ W : World, (Instr.slice 9 (.string s) (some (.int .i64 (q : Int))) (some (.int .i64 (k : Int))) none).run Tryd.prog W = .ok (.string ⟨((l.drop q).take (k - q)).toArray⟩) W := fun W => by
        have h := run_slice_string (P := Tryd.prog) W 9 s .i64 .i64 (q : Int) (k : Int) Tryd.underlying9 (by omega) (by omega) (by omega)
        rw [h, ← hX]
        rfl
      have hown' := Lib.hid hown
      have hB' := Lib.hid hB
      by_cases hend : k = s.size
      · subst hend
        have hnew := Lib.hid (show O ++ [(l.drop q).take (s.size - q)] = spl l by
          have e : (l.drop q).take (s.size - q) = l.drop q := List.take_of_length_le (by rw [List.length_drop, hlen.out]; omega)
          rw [e] at hpc ⊢
          rw [← hsp, spl_one hpc])
        clear hst hown hB hnb hsp hpc hext hX
        generalize (l.drop q).take (s.size - q) = P at *
        go_wp2_with (at_builtin; refine wpList_append_own _ rfl _ _ 55 rfl w.heap.size 9 i0 (.string ⟨#[]⟩) 1 16 Tryd.underlying55 hi hz0 hz1 hz2 rfl (by decide) _ _ _ rfl (hown'.out.alloc _) ⟨wr.heap.size, 0, none⟩ 1 1 [strV P] rfl rfl (cell_of_one _ _ _) (by simp [Value.oneCell', strV]) (by unfold maxLen; omega) (by omega) (by simp; omega) ?_; intro v' w4 hown4 hgrow _)
        have hB4 := hB'.out.trans ((below_box wr (.cells #[strV P] 9)).mono hBs)
        have hB5 := Lib.hid (hB4.grown hgrow (by simp; omega) fun q hq => (hown'.out.lt q hq).1)
        have hown5 := Lib.hid (show w4.ownsRow w.heap.size 9 1 v' (O ++ [P]).length ((O ++ [P]).map strV) by simpa using hown4)
        clear hown4 hgrow hB4
        go_wp2_with fail
        go_roundw
        case rel => exact ⟨s.size + 1, s.size + 1, O ++ [P], by omega, by go_num, by go_num, by omega, Lib.hid (.inr ⟨rfl, hnew.out⟩), hown5.out, hB5.out⟩
        case measure => simp [Go.RowKit.intOf]
      · have hlt : k < s.size := by omega
        have hend1 : ((k : Int) == (s.size : Int)) = false := beq_eq_false_iff_ne.2 (by omega)
        have hend2 : (k == s.size) = false := beq_eq_false_iff_ne.2 hend
        have hidx := idx_at s k hlt (k : Int) rfl
        have hgd := get_data s k hlt
        rw [← hl'.out] at hgd
        have hdd := drop_data s k hlt
        rw [← hl'.out] at hdd
        by_cases hb : s[k] = 32
        · have hb1 : (((s[k].toNat : Nat) : Int) == 32) = true := by rw [hb]; rfl
          have hnew := Lib.hid (show (O ++ [(l.drop q).take (k - q)]) ++ spl (l.drop (k + 1)) = spl l by
            have e : l.drop q = (l.drop q).take (k - q) ++ 32 :: l.drop (k + 1) := by
              rw [← hb, ← hdd]
              conv => lhs; rw [← List.take_append_drop (k - q) (l.drop q)]
              rw [List.drop_drop, show q + (k - q) = k by omega]
            rw [← hsp]
            conv => rhs; rw [e, spl_app hpc]
            simp)
          have hbn := Lib.hid hb
          generalize (s[k].toNat : Nat) = y at *
          clear hst hown hB hnb hsp hpc hext hX hgd hdd hb hend
          generalize (l.drop q).take (k - q) = P at *
          go_wp2_with (at_builtin; refine wpList_append_own _ rfl _ _ 55 rfl w.heap.size 9 i0 (.string ⟨#[]⟩) 1 16 Tryd.underlying55 hi hz0 hz1 hz2 rfl (by decide) _ _ _ rfl (hown'.out.alloc _) ⟨wr.heap.size, 0, none⟩ 1 1 [strV P] rfl rfl (cell_of_one _ _ _) (by simp [Value.oneCell', strV]) (by unfold maxLen; omega) (by omega) (by simp; omega) ?_; intro v' w4 hown4 hgrow _)
          have hB4 := hB'.out.trans ((below_box wr (.cells #[strV P] 9)).mono hBs)
          have hB5 := Lib.hid (hB4.grown hgrow (by simp; omega) fun q hq => (hown'.out.lt q hq).1)
          have hown5 := Lib.hid (show w4.ownsRow w.heap.size 9 1 v' (O ++ [P]).length ((O ++ [P]).map strV) by simpa using hown4)
          clear hown4 hgrow hB4
          go_wp2_with fail
          go_roundw
          case rel => exact ⟨k + 1, k + 1, O ++ [P], by omega, by go_num, by go_num, by omega, Lib.hid (.inl ⟨by omega, Nat.le_refl _, fun j b h1 h2 => by omega, hnew.out⟩), hown5.out, hB5.out⟩
          case measure => simp [Go.RowKit.intOf]; omega
        · have hb1 : (((s[k].toNat : Nat) : Int) == 32) = false := beq_eq_false_iff_ne.2 (fun e => hb (UInt8.toNat_inj.1 (by have h32 : (32 : UInt8).toNat = 32 := rfl; omega)))
          have hnb2 := Lib.hid (show ∀ j b, q ≤ j → j < k + 1 → l[j]? = some b → b ≠ 32 from fun j b h1 h2 h3 => by
            by_cases hj : j = k
            · subst hj
              rw [hgd] at h3
              cases h3
              exact hb
            · exact hnb j b h1 (by omega) h3)
          have hsp' := Lib.hid hsp
          generalize (s[k].toNat : Nat) = y at *
          clear hst hown hB hnb hsp hpc hext hX hgd hdd hb hend es
          go_wp2_with fail
          go_roundw
          case rel => exact ⟨k + 1, q, O, by omega, by go_num, by go_num, by omega, Lib.hid (.inl ⟨by omega, by omega, hnb2.out, hsp'.out⟩), hown'.out, hB'.out⟩
          case measure => simp [Go.RowKit.intOf]; omega
    · obtain rfl : k = s.size + 1 := by omega
      obtain ⟨_, rfl⟩ : s.size + 1 = s.size + 1 ∧ O = spl l := by
        rcases hst.out with h | h
        · omega
        · exact h
      have hle1 : (s.size : Int) < (s.size : Int) + 1 := by omega
      have hown' := Lib.hid hown
      have hB' := Lib.hid hB
      clear hown hB hst
      go_wp2_with fail
      go_ret
      exact ⟨_, rfl, hown'.out, hB'.out⟩

def isDig (b : UInt8) : Bool := decide (48 ≤ b.toNat) && decide (b.toNat ≤ 57)
def numS (l : List UInt8) : Int := l.foldl (fun a b => if isDig b then a * 10 + ((b.toNat : Int) - 48) else a) 0
def numL (t : List UInt8) : Int := if t.head? = some 45 then IntKind.i64.wrap (-(IntKind.i64.wrap (numS (t.take 21)))) else IntKind.i64.wrap (numS (t.take 21))
theorem numS_snoc (l : List UInt8) (b : UInt8) : numS (l ++ [b]) = if isDig b then numS l * 10 + ((b.toNat : Int) - 48) else numS l := by
  unfold numS
  rw [List.foldl_append]
  rfl
theorem numS_dec (u : Nat) : numS (Lib.decDigits u) = u := by
  have h1 := fold_dec 1 u
  have h2 := dec_chars u
  generalize Lib.decDigits u = l at *
  have : ∀ (l : List UInt8) (a : Int), (∀ b, b ∈ l → 48 ≤ b.toNat ∧ b.toNat ≤ 57) → l.foldl (fun a b => if isDig b then a * 10 + ((b.toNat : Int) - 48) else a) a = fold10 1 l a := by
    intro l
    induction l with
    | nil => intro a _; rfl
    | cons b l ih =>
      intro a h
      have hb := h b (List.mem_cons_self ..)
      have hd : isDig b = true := by simp [isDig, hb]
      unfold fold10 at ih ⊢
      rw [List.foldl_cons, List.foldl_cons, ← ih _ (fun x hx => h x (List.mem_cons_of_mem _ hx)), if_pos hd, Int.one_mul]
  unfold numS
  rw [this l 0 h2, h1]
  omega
theorem numL_itoa (m : Int) (hm : I64 m) : numL (Lib.itoa m) = m := by
  have hl := Lib.itoa_length_le m hm.1 hm.2
  unfold I64 at hm
  unfold numL
  rw [List.take_of_length_le hl]
  unfold Lib.itoa
  by_cases h : m < 0
  · rw [if_pos h, List.head?_cons, if_pos rfl]
    have : numS (45 :: Lib.decDigits m.natAbs) = numS (Lib.decDigits m.natAbs) := by
      unfold numS
      rw [List.foldl_cons]
      rfl
    rw [this, numS_dec, IntKind.wrap_i64, IntKind.wrap_i64]
    omega
  · rw [if_neg h, if_neg (dec_head m.toNat), numS_dec, IntKind.wrap_i64]
    omega
theorem wrap_i64_in (x : Int) : I64 (IntKind.i64.wrap x) := by
  rw [IntKind.wrap_i64]
  unfold I64
  omega
theorem numL_in (t : List UInt8) : I64 (numL t) := by
  unfold numL
  split <;> exact wrap_i64_in _

set_option maxRecDepth 100000 in
set_option maxHeartbeats 4000000 in
theorem snum_any (s : ByteArray) (hs : s.size ≤ 1048576) (w : World) :
    Calls Tryd.prog 29 #[.string s] w fun e w' => e = .returned (.int .i64 (numL s.data.toList)) ∧ Below w.heap.size w w' := by
  obtain ⟨l, hl⟩ : ∃ l, l = s.data.toList := ⟨_, rfl⟩
  rw [← hl]
  have hl' := Lib.hid hl
  have hlen := Lib.hid (show l.length = s.size by rw [hl]; simp)
  clear hl
  go_enter Tryd.func29, Tryd.ntmps29
  go_wp2_with fail
  go_loopw [3, 4] (fun n i wr => ∃ k : Nat, k ≤ 21 ∧ k ≤ s.size ∧ i = .int .i64 k ∧ n = .int .i64 (IntKind.i64.wrap (numS (l.take k))) ∧ Below w.heap.size w wr) (fun n i _ => 21 - (Go.RowKit.intOf i).toNat)
  case atStart => exact ⟨0, by omega, by omega, rfl, rfl, Below.refl _ _⟩
  case round =>
    obtain ⟨k, hk, hks, rfl, rfl, hB⟩ := hrel
    have hz := wrap_i64_in (numS (l.take k))
    by_cases hlt : k < s.size
    · have hlt1 : (k : Int) < (s.size : Int) := by omega
      by_cases h21 : k < 21
      · have h21a : (k : Int) < 21 := by omega
        have hidx := idx_at s k hlt (k : Int) rfl
        have hgd := get_data s k hlt
        rw [← hl'.out] at hgd
        have htk : l.take (k + 1) = l.take k ++ [s[k]] := by
          have hkl : k < l.length := by rw [hlen.out]; exact hlt
          rw [List.take_succ_eq_append_getElem hkl]
          rw [List.getElem?_eq_getElem hkl] at hgd
          rw [Option.some.inj hgd]
        have hsn := Lib.hid (show numS (l.take (k + 1)) = if isDig s[k] then numS (l.take k) * 10 + ((s[k].toNat : Int) - 48) else numS (l.take k) by rw [htk, numS_snoc])
        have hb8 := s[k].toNat_lt
        have hB' := Lib.hid hB
        by_cases hd : isDig s[k] = true
        · have hd2 : 48 ≤ s[k].toNat ∧ s[k].toNat ≤ 57 := by simpa [isDig] using hd
          have hsn2 := hsn.out
          rw [if_pos hd] at hsn2
          have hsn3 := Lib.hid hsn2
          generalize s[k].toNat = y at *
          clear hsn hsn2 hd htk hgd hB
          obtain ⟨N, hN⟩ : ∃ N, N = numS (l.take k) := ⟨_, rfl⟩
          rw [← hN] at hz hsn3 ⊢
          obtain ⟨z, hzz⟩ : ∃ z, z = IntKind.i64.wrap N := ⟨_, rfl⟩
          rw [← hzz] at hz ⊢
          unfold I64 at hz
          have hzz' := Lib.hid hzz
          clear hN hzz
          go_wp2_with fail
          go_roundw
          case rel => exact ⟨k + 1, by omega, by omega, by go_num, by rw [hsn3.out]; have h1 := hzz'.out; rw [IntKind.wrap_i64] at h1 ⊢; congr 1; (try unfold wrap64); omega, hB'.out⟩
          case measure => simp [Go.RowKit.intOf]; omega
        · have hd2 : s[k].toNat < 48 ∨ 57 < s[k].toNat := by
            have : ¬ (48 ≤ s[k].toNat ∧ s[k].toNat ≤ 57) := fun h => hd (by simp [isDig, h])
            omega
          have hsn2 := hsn.out
          rw [if_neg hd] at hsn2
          have hsn3 := Lib.hid hsn2
          generalize s[k].toNat = y at *
          clear hsn hsn2 hd htk hgd hB
          obtain ⟨N, hN⟩ : ∃ N, N = numS (l.take k) := ⟨_, rfl⟩
          rw [← hN] at hz hsn3 ⊢
          obtain ⟨z, hzz⟩ : ∃ z, z = IntKind.i64.wrap N := ⟨_, rfl⟩
          rw [← hzz] at hz ⊢
          have hzz' := Lib.hid hzz
          clear hN hzz
          rcases hd2 with hd2 | hd2
          · go_wp2_with fail
            go_roundw
            case rel => exact ⟨k + 1, by omega, by omega, by go_num, by rw [hsn3.out, hzz'.out], hB'.out⟩
            case measure => simp [Go.RowKit.intOf]; omega
          · have hd3 : 48 ≤ y := by omega
            go_wp2_with fail
            go_roundw
            case rel => exact ⟨k + 1, by omega, by omega, by go_num, by rw [hsn3.out, hzz'.out], hB'.out⟩
            case measure => simp [Go.RowKit.intOf]; omega
      · obtain rfl : k = 21 := by omega
        have hB' := Lib.hid hB
        clear hB
        obtain ⟨z, hzz⟩ : ∃ z, z = IntKind.i64.wrap (numS (l.take 21)) := ⟨_, rfl⟩
        rw [← hzz] at hz ⊢
        have hzz' := Lib.hid hzz
        clear hzz
        by_cases hpos : 0 < s.size
        · have hpos1 : 0 < (s.size : Int) := by omega
          have hidx := idx_at s 0 hpos 0 rfl
          have hgd := get_data s 0 hpos
          rw [← hl'.out] at hgd
          have hhd : l.head? = some s[0] := by rw [List.head?_eq_getElem?]; exact hgd
          by_cases h45 : s[0] = 45
          · have hb1 : (((s[0].toNat : Nat) : Int) == 45) = true := by rw [h45]; rfl
            have y := Lib.hid (show numL l = IntKind.i64.wrap (-z) by unfold numL; rw [if_pos (by rw [hhd, h45]), hzz'.out])
            generalize s[0].toNat = b at *
            clear hgd hhd h45
            unfold I64 at hz
            go_wp2_with fail
            go_ret
            exact ⟨by rw [y.out]; first | rfl | (congr 2; rw [IntKind.wrap_i64]; unfold wrap64; rfl) | skip, hB'.out⟩
          · have hb1 : (((s[0].toNat : Nat) : Int) == 45) = false := beq_eq_false_iff_ne.2 (fun e => h45 (UInt8.toNat_inj.1 (by have h45' : (45 : UInt8).toNat = 45 := rfl; omega)))
            have y := Lib.hid (show numL l = z by unfold numL; rw [if_neg (by rw [hhd]; exact fun e => h45 (Option.some.inj e)), hzz'.out])
            generalize s[0].toNat = b at *
            clear hgd hhd h45
            go_wp2_with fail
            go_ret
            exact ⟨by rw [y.out]; rfl, hB'.out⟩
        · have hz0 : s.size = 0 := by omega
          have y := Lib.hid (show numL l = z by
            have hl0 : l = [] := List.length_eq_zero_iff.1 (by rw [hlen.out]; exact hz0)
            unfold numL
            rw [if_neg (by rw [hl0]; simp), hzz'.out])
          have hpos1 : ¬ 0 < (s.size : Int) := by omega
          go_wp2_with fail
          go_ret
          exact ⟨by rw [y.out]; rfl, hB'.out⟩
    · obtain rfl : k = s.size := by omega
      have hN : numS (l.take s.size) = numS (l.take 21) := by rw [List.take_of_length_le (by rw [hlen.out]; exact Nat.le_refl _), List.take_of_length_le (by rw [hlen.out]; omega)]
      rw [hN] at hz ⊢
      have hB' := Lib.hid hB
      clear hB hN
      obtain ⟨z, hzz⟩ : ∃ z, z = IntKind.i64.wrap (numS (l.take 21)) := ⟨_, rfl⟩
      rw [← hzz] at hz ⊢
      have hzz' := Lib.hid hzz
      clear hzz
      by_cases hpos : 0 < s.size
      · have hpos1 : 0 < (s.size : Int) := by omega
        have hidx := idx_at s 0 hpos 0 rfl
        have hgd := get_data s 0 hpos
        rw [← hl'.out] at hgd
        have hhd : l.head? = some s[0] := by rw [List.head?_eq_getElem?]; exact hgd
        by_cases h45 : s[0] = 45
        · have hb1 : (((s[0].toNat : Nat) : Int) == 45) = true := by rw [h45]; rfl
          have y := Lib.hid (show numL l = IntKind.i64.wrap (-z) by unfold numL; rw [if_pos (by rw [hhd, h45]), hzz'.out])
          generalize s[0].toNat = b at *
          clear hgd hhd h45
          unfold I64 at hz
          go_wp2_with fail
          go_ret
          exact ⟨by rw [y.out]; first | rfl | (congr 2; rw [IntKind.wrap_i64]; unfold wrap64; rfl) | skip, hB'.out⟩
        · have hb1 : (((s[0].toNat : Nat) : Int) == 45) = false := beq_eq_false_iff_ne.2 (fun e => h45 (UInt8.toNat_inj.1 (by have h45' : (45 : UInt8).toNat = 45 := rfl; omega)))
          have y := Lib.hid (show numL l = z by unfold numL; rw [if_neg (by rw [hhd]; exact fun e => h45 (Option.some.inj e)), hzz'.out])
          generalize s[0].toNat = b at *
          clear hgd hhd h45
          go_wp2_with fail
          go_ret
          exact ⟨by rw [y.out]; rfl, hB'.out⟩
      · have hz0 : s.size = 0 := by omega
        have y := Lib.hid (show numL l = z by
          have hl0 : l = [] := List.length_eq_zero_iff.1 (by rw [hlen.out]; exact hz0)
          unfold numL
          rw [if_neg (by rw [hl0]; simp), hzz'.out])
        have hpos1 : ¬ 0 < (s.size : Int) := by omega
        go_wp2_with fail
        go_ret
        exact ⟨by rw [y.out]; rfl, hB'.out⟩
end Go.Proofs.YtjldjeokcpjgkaaDoor

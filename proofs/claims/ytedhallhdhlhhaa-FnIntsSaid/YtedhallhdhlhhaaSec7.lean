/-
  laws.sections answers true; what GetSection finds in a section with anything ahead and behind, and in one that is cut off.
-/
import Derived.Test.YtedhallhdhlhhaaLaw7
namespace Go.Proofs.Ytedhallhdhlhhaa
open Go.RowKit
set_option linter.unusedVariables false

theorem secL_length (tag : Nat) (b : List UInt8) : (secL tag b).length = 1 + (pi (b.length : Int)).length + b.length + 4 := by
  unfold secL
  simp only [List.length_cons, List.length_append, putW_length]
  omega
theorem getS_sec (pre post : List UInt8) (tag : Nat) (ht : tag < 256) (b : List UInt8) (hb : b.length ≤ 200000) :
    getS (pre ++ secL tag b ++ post) (pre.length : Int) = ⟨(tag : Int), b, ((pre.length + (secL tag b).length : Nat) : Int), 0⟩ := by
  have hl := secL_length tag b
  have hp := pi_len (n := (b.length : Int)) (by omega) (by omega)
  have e0 : pre ++ secL tag b ++ post = pre ++ (tag.toUInt8 :: (pi (b.length : Int) ++ (b ++ (putW (crc b) ++ post)))) := by
    unfold secL; simp
  have hL : (pre ++ secL tag b ++ post).length = pre.length + (secL tag b).length + post.length := by simp only [List.length_append]
  unfold getS
  rw [if_neg (by rw [hL]; omega), Int.toNat_natCast]
  have d1 : (pre ++ secL tag b ++ post).drop (pre.length + 1) = pi (b.length : Int) ++ (b ++ (putW (crc b) ++ post)) := by
    rw [e0, ← List.drop_drop, List.drop_left' rfl]
    rfl
  have hg := getN_pi (n := (b.length : Int)) (by omega) (by omega) (b ++ (putW (crc b) ++ post))
  rw [d1, hg]
  simp only
  rw [if_neg (by omega), Int.toNat_natCast]
  have d2 : (pre ++ secL tag b ++ post).drop (pre.length + 1 + (pi (b.length : Int)).length) = b ++ (putW (crc b) ++ post) := by
    rw [← List.drop_drop, d1, List.drop_left' rfl]
  have d3 : (pre ++ secL tag b ++ post).drop (pre.length + 1 + (pi (b.length : Int)).length + b.length) = putW (crc b) ++ post := by
    rw [← List.drop_drop, d2, List.drop_left' rfl]
  have n1 : ¬ (pre ++ secL tag b ++ post).length < pre.length + 1 + (pi (b.length : Int)).length + b.length + 4 := by rw [hL]; omega
  rw [if_neg n1, d2, d3, List.take_left' rfl, getW_putW (crc_lt b) post]
  have n2 : ¬ (crc b ≠ crc b) := fun h => h rfl
  rw [if_neg n2]
  have hat : ((pre ++ secL tag b ++ post)[pre.length]?.getD 0) = tag.toUInt8 := by
    rw [e0, List.getElem?_append_right (Nat.le_refl _), Nat.sub_self]
    rfl
  rw [hat]
  have ht2 : (tag.toUInt8).toNat = tag := by simp [Nat.toUInt8]; omega
  rw [ht2, hl]
  simp only [SecR.mk.injEq, true_and, and_true]
  omega
/-- Cut off within it: too short. -/
theorem getS_cut (tag : Nat) (b : List UInt8) (hb : b.length ≤ 200000) (k : Nat) (hk : k < (secL tag b).length) : getS ((secL tag b).take k) 0 = noSec 1 := by
  have hl := secL_length tag b
  have hp := pi_len (n := (b.length : Int)) (by omega) (by omega)
  have hkl : ((secL tag b).take k).length = k := by rw [List.length_take]; omega
  unfold getS
  by_cases h0 : k = 0
  · rw [if_pos (.inr (by rw [hkl, h0]; decide))]
  · rw [if_neg (by rw [hkl]; omega)]
    have d1 : ((secL tag b).take k).drop ((0 : Int).toNat + 1) = (pi (b.length : Int) ++ (b ++ putW (crc b))).take (k - 1) := by
      obtain ⟨j, rfl⟩ : ∃ j, k = j + 1 := ⟨k - 1, by omega⟩
      unfold secL
      simp
    rw [d1]
    by_cases h1 : k - 1 < (pi (b.length : Int)).length
    · have e : (pi (b.length : Int) ++ (b ++ putW (crc b))).take (k - 1) = (pi (b.length : Int)).take (k - 1) := List.take_append_of_le_length (by omega)
      have hc := cut_lead (Lib.zigzag (b.length : Int)) (k - 1) h1
      have hc' : lead ((pi (b.length : Int)).take (k - 1)) = ((pi (b.length : Int)).take (k - 1)).length := hc
      rw [e, lead_none hc']
      simp only
      rw [if_pos hc']
    · have e : (pi (b.length : Int) ++ (b ++ putW (crc b))).take (k - 1) = pi (b.length : Int) ++ (b ++ putW (crc b)).take (k - 1 - (pi (b.length : Int)).length) := by
        rw [List.take_append, List.take_of_length_le (by omega)]
      have hg := getN_pi (n := (b.length : Int)) (by omega) (by omega) ((b ++ putW (crc b)).take (k - 1 - (pi (b.length : Int)).length))
      rw [e, hg]
      simp only
      have n1 : ((secL tag b).take k).length < (0 : Int).toNat + 1 + (pi (b.length : Int)).length + ((b.length : Int)).toNat + 4 := by
        rw [hkl, Int.toNat_natCast]; show k < 0 + 1 + _ + _ + 4; omega
      rw [if_neg (by omega), if_pos n1]

theorem pi_two : pi 2 = [4] := by
  have : Lib.zigzag 2 = 4 := by decide
  unfold pi
  rw [this, Lib.uvarint_small (by decide)]
  rfl
theorem pi_65 : pi (-65) = [129, 1] := by
  have : Lib.zigzag (-65) = 129 := by decide
  unfold pi
  rw [this, Lib.uvarint_big (by decide), Lib.uvarint_small (by decide)]
  rfl
theorem crc_ab : crc [97] ≠ crc [98] := by decide +kernel

set_option maxRecDepth 100000 in
set_option maxHeartbeats 4000000 in
theorem sections_any (w : World) : Calls Try.prog 19 #[] w fun e w' => e = .returned (.bool true) ∧ Below w.heap.size w w' := by
  obtain ⟨S, hS⟩ : ∃ S : ByteArray, S = secB 7 ⟨#[97, 98]⟩ := ⟨_, rfl⟩
  have hSl : S.data.toList = secL 7 [97, 98] := by rw [hS]; unfold secB; rw [if_neg (by decide)]; rfl
  have hS8 : S.size = 8 := by
    have : S.size = S.data.toList.length := by simp
    rw [this, hSl, secL_length, show (([97, 98] : List UInt8).length : Int) = 2 by decide, pi_two]
    rfl
  have hg := getS_sec [] [] 7 (by decide) [97, 98] (by decide)
  rw [List.nil_append, List.append_nil, ← hSl] at hg
  have hl8 : S.data.toList.length = 8 := by simpa using hS8
  rw [hl8] at hg
  have H1 := Lib.hid (fun v => section_any 7 ⟨#[97, 98]⟩ v)
  have H2 := Lib.hid (fun v => getSection_any S (by omega) 0 (by constructor <;> decide) v)
  rw [getS_eq] at H2
  have hg' : getS S.data.toList 0 = ⟨7, [97, 98], 8, 0⟩ := hg
  rw [hg'] at H2
  rw [← hS] at H1
  obtain ⟨P, hP⟩ : ∃ P : ByteArray, P = ⟨(pi (-65)).toArray⟩ := ⟨_, rfl⟩
  have H3 := Lib.hid (fun v => putInt_any (-65) (by constructor <;> decide) v)
  rw [← hP] at H3
  have hPl : P.data.toList = pi (-65) := by rw [hP]
  have hPs : P.size = 2 := by
    have : P.size = P.data.toList.length := by simp
    rw [this, hPl, pi_65]; rfl
  have H4 := Lib.hid (fun v => getInt_any P (by omega) 0 (by constructor <;> decide) v)
  have hgi : getI P.data.toList 0 = (-65, 2, true) := by
    have := getN_pi (n := -65) (by decide) (by decide) []
    rw [List.append_nil, ← hPl] at this
    have h2 := getI_yes (l := P.data.toList) (k := 0) (Nat.zero_le _) this
    rw [hPl, pi_65] at h2 ⊢
    exact h2
  rw [hgi] at H4
  obtain ⟨Q, hQ⟩ : ∃ Q : ByteArray, Q = putWd 258 := ⟨_, rfl⟩
  have H5 := Lib.hid (fun v => putWord_any 258 v)
  rw [← hQ] at H5
  have hQl : Q.data.toList = putW 258 := by rw [hQ]; unfold putWd; rw [if_neg (by decide)]; rfl
  have hQs : Q.size ≤ 140737488355328 := by
    have : Q.size = Q.data.toList.length := by simp
    rw [this, hQl]
    decide
  have H6 := Lib.hid (fun v => getWord_any Q hQs 0 (by constructor <;> decide) v)
  have hgw : getWd Q.data.toList 0 = (258, true) := by
    unfold getWd
    rw [if_pos (by rw [hQl]; decide), hQl]
    have := getW_putW (n := 258) (by decide) []
    rw [List.append_nil] at this
    show (((getW (putW 258) : Nat) : Int), true) = _
    rw [this]
    rfl
  rw [hgw] at H6
  have H7 := Lib.hid (fun v => crc_any ⟨#[97]⟩ (by decide) v)
  have H8 := Lib.hid (fun v => spec_crc_any ⟨#[97]⟩ (by decide) v)
  have H9 := Lib.hid (fun v => crc_any ⟨#[98]⟩ (by decide) v)
  obtain ⟨c, hc⟩ : ∃ c, c = crc (⟨#[97]⟩ : ByteArray).data.toList := ⟨_, rfl⟩
  obtain ⟨d, hd⟩ : ∃ d, d = crc (⟨#[98]⟩ : ByteArray).data.toList := ⟨_, rfl⟩
  have hcd : ¬ c = d := by rw [hc, hd]; exact crc_ab
  rw [← hc] at H7 H8
  rw [← hd] at H9
  have n1 : ((c : Int) == (d : Int)) = false := beq_eq_false_iff_ne.2 (by omega)
  have n2 : ((c : Int) != (d : Int)) = true := bne_iff_ne.2 (by omega)
  simp only [SecR.val] at H2 H4 H6
  clear hS hSl hg hg' hl8 hP hPl hPs hgi hQ hQl hQs hgw hc hd hcd
  go_enter Try.func19, Try.ntmps19
  go_wp2_with (first
    | (go_at_call 21; refine (H1.out _).mono ?_; rintro e w1 ⟨rfl, b1⟩)
    | (go_at_call 22; refine (H2.out _).mono ?_; rintro e w2 ⟨rfl, b2⟩)
    | (go_at_call 15; refine (H3.out _).mono ?_; rintro e w3 ⟨rfl, b3⟩)
    | (go_at_call 16; refine (H4.out _).mono ?_; rintro e w4 ⟨rfl, b4⟩)
    | (go_at_call 26; refine (H5.out _).mono ?_; rintro e w5 ⟨rfl, b5⟩)
    | (go_at_call 27; refine (H6.out _).mono ?_; rintro e w6 ⟨rfl, b6⟩)
    | (go_at_call 29; with_reducible refine (H7.out _).mono ?_; rintro e w7 ⟨rfl, rfl⟩)
    | (go_at_call 29; with_reducible refine (H9.out _).mono ?_; rintro e w7 ⟨rfl, rfl⟩)
    | (go_at_call 28; refine (H8.out _).mono ?_; rintro e w7 ⟨rfl, rfl⟩))
  go_ret
  exact ⟨rfl, below_trans b1 (below_trans b2 (below_trans b3 (below_trans b4 (below_trans b5 b6))))⟩
end Go.Proofs.Ytedhallhdhlhhaa

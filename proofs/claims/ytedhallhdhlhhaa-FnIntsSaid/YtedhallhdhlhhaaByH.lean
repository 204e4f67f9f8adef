/-
  A section out of a text: the model's GetSection. Condition: the text has at most 2^47 bytes.
-/
import Derived.Test.YtedhallhdhlhhaaByG
namespace Go.Proofs.Ytedhallhdhlhhaa
open Go.RowKit
set_option linter.unusedVariables false

theorem getI_none {l : List UInt8} {k : Nat} (hg : getN (l.drop k) = none) : getI l (k : Int) = (0, 0, false) := getI_no (.inr (by rw [Int.toNat_natCast]; exact hg))

set_option maxRecDepth 100000 in
set_option maxHeartbeats 1000000 in
theorem spec_getSection_out (s : ByteArray) (hs : s.size ≤ 140737488355328) (k : Int) (h : k < 0 ∨ (s.size : Int) ≤ k) (w : World) :
    Calls Try.prog 33 #[.string s, .int .i64 k] w fun e w' => e = .returned (noSec 1).val ∧ Below w.heap.size w w' := by
  by_cases h0 : k < 0
  · clear h
    go_enter Try.func33, Try.ntmps33
    go_wp2
    exact bodyPost_ret (v := .tuple #[.int .i64 0, .string ⟨#[]⟩, .int .i64 0, .int .i64 1]) (by simp [results, Try.results33, go_sem]) rfl ⟨rfl, Below.refl _ _⟩
  · have h1 : (s.size : Int) ≤ k := by omega
    clear h
    go_enter Try.func33, Try.ntmps33
    go_wp2
    exact bodyPost_ret (v := .tuple #[.int .i64 0, .string ⟨#[]⟩, .int .i64 0, .int .i64 1]) (by simp [results, Try.results33, go_sem]) rfl ⟨rfl, Below.refl _ _⟩

set_option maxRecDepth 100000 in
set_option maxHeartbeats 1000000 in
theorem spec_getSection_none (s : ByteArray) (hs : s.size ≤ 140737488355328) (k : Nat) (h : k < s.size) (hg : getN (s.data.toList.drop (k + 1)) = none) (o : Bool) (ho : decide (lead (s.data.toList.drop (k + 1)) = (s.data.toList.drop (k + 1)).length) = o) (w : World) :
    Calls Try.prog 33 #[.string s, .int .i64 (k : Int)] w fun e w' => e = .returned (if o then noSec 1 else noSec 3).val ∧ Below w.heap.size w w' := by
  have HG := Lib.hid (fun v => spec_getInt_any s hs ((k + 1 : Nat) : Int) v)
  rw [getI_none hg, show ((k + 1 : Nat) : Int) = (k : Int) + 1 by omega] at HG
  have HO := Lib.hid (fun v => l7open_any s hs (k + 1) (by omega) v)
  rw [ho, show ((k + 1 : Nat) : Int) = (k : Int) + 1 by omega] at HO
  clear hg ho
  simp only at HG
  cases o
  · go_enter Try.func33, Try.ntmps33
    go_wp2_with (first
      | (go_at_call 18; refine (HG.out _).mono ?_; rintro e w' ⟨rfl, hb⟩)
      | (go_at_call 52; refine (HO.out _).mono ?_; rintro e w2 ⟨rfl, rfl⟩))
    exact bodyPost_ret (v := .tuple #[.int .i64 0, .string ⟨#[]⟩, .int .i64 0, .int .i64 3]) (by simp [results, Try.results33, go_sem]) rfl ⟨rfl, hb⟩
  · go_enter Try.func33, Try.ntmps33
    go_wp2_with (first
      | (go_at_call 18; refine (HG.out _).mono ?_; rintro e w' ⟨rfl, hb⟩)
      | (go_at_call 52; refine (HO.out _).mono ?_; rintro e w2 ⟨rfl, rfl⟩))
    exact bodyPost_ret (v := .tuple #[.int .i64 0, .string ⟨#[]⟩, .int .i64 0, .int .i64 1]) (by simp [results, Try.results33, go_sem]) rfl ⟨rfl, hb⟩

set_option maxRecDepth 100000 in
set_option maxHeartbeats 2000000 in
theorem spec_getSection_some (s : ByteArray) (hs : s.size ≤ 140737488355328) (k : Nat) (h : k < s.size) (n : Int) (j : Nat) (hg : getN (s.data.toList.drop (k + 1)) = some (n, j)) (w : World) :
    Calls Try.prog 33 #[.string s, .int .i64 (k : Int)] w fun e w' => e = .returned (if n < 0 ∨ 200000 < n then noSec 3
      else if s.size < k + 1 + j + n.toNat + 4 then noSec 1
      else if getW (s.data.toList.drop (k + 1 + j + n.toNat)) ≠ crc ((s.data.toList.drop (k + 1 + j)).take n.toNat) then noSec 2
      else ⟨((s.data.toList[k]?.getD 0).toNat : Nat), (s.data.toList.drop (k + 1 + j)).take n.toNat, (k : Int) + 1 + j + n + 4, 0⟩).val ∧ Below w.heap.size w w' := by
  have hsl : s.data.toList.length = s.size := by simp
  have HG := Lib.hid (fun v => spec_getInt_any s hs ((k + 1 : Nat) : Int) v)
  rw [getI_yes (by omega) hg, show ((k + 1 : Nat) : Int) = (k : Int) + 1 by omega] at HG
  obtain ⟨hj, hlt, _, _, _⟩ := getN_some hg
  rw [List.length_drop, hsl] at hlt
  have hjs : k + 1 + j ≤ s.size := by omega
  clear hg hj hlt
  simp only at HG
  by_cases hn0 : n < 0
  · rw [if_pos (.inl hn0)]
    go_enter Try.func33, Try.ntmps33
    go_wp2_with (go_at_call 18; refine (HG.out _).mono ?_; rintro e w' ⟨rfl, hb⟩)
    exact bodyPost_ret (v := .tuple #[.int .i64 0, .string ⟨#[]⟩, .int .i64 0, .int .i64 3]) (by simp [results, Try.results33, go_sem]) rfl ⟨rfl, hb⟩
  by_cases hn1 : 200000 < n
  · rw [if_pos (.inr hn1)]
    go_enter Try.func33, Try.ntmps33
    go_wp2_with (go_at_call 18; refine (HG.out _).mono ?_; rintro e w' ⟨rfl, hb⟩)
    exact bodyPost_ret (v := .tuple #[.int .i64 0, .string ⟨#[]⟩, .int .i64 0, .int .i64 3]) (by simp [results, Try.results33, go_sem]) rfl ⟨rfl, hb⟩
  rw [if_neg (fun h => by omega)]
  obtain ⟨q, rfl⟩ := Int.eq_ofNat_of_zero_le (show 0 ≤ n by omega)
  rw [Int.toNat_natCast]
  have hq : q ≤ 200000 := by omega
  by_cases h4 : s.size < k + 1 + j + q + 4
  · rw [if_pos h4]
    clear hn0 hn1 hsl
    have h4' : (s.size : Int) - ((k : Int) + 1 + j) < (q : Int) + 4 := by omega
    go_enter Try.func33, Try.ntmps33
    go_wp2_with (go_at_call 18; refine (HG.out _).mono ?_; rintro e w' ⟨rfl, hb⟩)
    exact bodyPost_ret (v := .tuple #[.int .i64 0, .string ⟨#[]⟩, .int .i64 0, .int .i64 1]) (by simp [results, Try.results33, go_sem]) rfl ⟨rfl, hb⟩
  · rw [if_neg h4]
    have h4' : ¬ (s.size : Int) - ((k : Int) + 1 + j) < (q : Int) + 4 := by omega
    have h5 : k + 1 + j + q + 4 ≤ s.size := by omega
    have HW := Lib.hid (fun v => spec_getWord_yes s (k + 1 + j + q) (by omega) h5 v)
    rw [show ((k + 1 + j + q : Nat) : Int) = (k : Int) + 1 + j + q by omega] at HW
    have es : ∀ W : World, (Instr.slice 9 (.string s) (some (.int .i64 ((k : Int) + 1 + j))) (some (.int .i64 ((k : Int) + 1 + j + q))) none).run Try.prog W = .ok (.string (s.extract (k + 1 + j) (k + 1 + j + q))) W := fun W => by
      have h := run_slice_string (P := Try.prog) W 9 s .i64 .i64 ((k : Int) + 1 + j) ((k : Int) + 1 + j + q) Try.underlying9 (by omega) (by omega) (by omega)
      rw [h]
      rfl
    obtain ⟨E, hE⟩ : ∃ E, E = s.extract (k + 1 + j) (k + 1 + j + q) := ⟨_, rfl⟩
    rw [← hE] at es
    have hEl : E.data.toList = (s.data.toList.drop (k + 1 + j)).take q := by
      rw [hE]
      simp only [ByteArray.data_extract, Array.toList_extract, List.extract]
      congr 1
      omega
    have hEs : E.size ≤ 4611686018427387904 := by
      have : E.size = E.data.toList.length := by simp
      rw [hEl, List.length_take, List.length_drop, hsl] at this
      omega
    have hEb : (⟨((s.data.toList.drop (k + 1 + j)).take q).toArray⟩ : ByteArray) = E := by
      apply ByteArray.ext
      apply Array.toList_inj.1
      rw [hEl]
    have HC := Lib.hid (fun v => spec_crc_any E hEs v)
    have hix := index_at s k h (k : Int) rfl
    have hgd : (s.data.toList[k]?.getD 0) = s[k] := byte_get s k h
    rw [hgd, ← hEl]
    obtain ⟨g, hg⟩ : ∃ g, g = getW (s.data.toList.drop (k + 1 + j + q)) := ⟨_, rfl⟩
    obtain ⟨c, hc⟩ : ∃ c, c = crc E.data.toList := ⟨_, rfl⟩
    obtain ⟨b, hbb⟩ : ∃ b, b = (s[k]).toNat := ⟨_, rfl⟩
    have hbl : b < 256 := by rw [hbb]; exact (s[k]).toNat_lt
    rw [← hg] at HW ⊢
    rw [← hc] at HC ⊢
    rw [← hbb] at hix ⊢
    have hret : (⟨(b : Int), E.data.toList, (k : Int) + 1 + j + q + 4, 0⟩ : SecR).val = .tuple #[.int .i64 b, .string E, .int .i64 ((k : Int) + 1 + j + q + 4), .int .i64 0] := by
      unfold SecR.val
      rfl
    have HR := Lib.hid hret
    clear hE hEl hEs hEb hgd hg hc hbb hsl h4 hn0 hn1 hret
    by_cases hgc : g = c
    · rw [if_neg (fun h => h hgc)]
      subst hgc
      go_enter Try.func33, Try.ntmps33
      go_wp2_with (first
        | (go_at_call 18; refine (HG.out _).mono ?_; rintro e w' ⟨rfl, hb⟩)
        | (go_at_call 31; refine (HW.out _).mono ?_; rintro e w2 ⟨rfl, nn, rfl⟩)
        | (go_at_call 28; refine (HC.out _).mono ?_; rintro e w3 ⟨rfl, rfl⟩))
      exact bodyPost_ret (v := .tuple #[.int .i64 b, .string E, .int .i64 ((k : Int) + 1 + j + q + 4), .int .i64 0]) (by simp [results, Try.results33, go_sem]) rfl ⟨by rw [HR.out], belowDrawn hb _⟩
    · rw [if_pos hgc]
      have hgc' : ((g : Int) == (c : Int)) = false := beq_eq_false_iff_ne.2 (by omega)
      have hgn : ((g : Int) != (c : Int)) = true := bne_iff_ne.2 (by omega)
      go_enter Try.func33, Try.ntmps33
      go_wp2_with (first
        | (go_at_call 18; refine (HG.out _).mono ?_; rintro e w' ⟨rfl, hb⟩)
        | (go_at_call 31; refine (HW.out _).mono ?_; rintro e w2 ⟨rfl, nn, rfl⟩)
        | (go_at_call 28; refine (HC.out _).mono ?_; rintro e w3 ⟨rfl, rfl⟩))
      exact bodyPost_ret (v := .tuple #[.int .i64 0, .string ⟨#[]⟩, .int .i64 0, .int .i64 2]) (by simp [results, Try.results33, go_sem]) rfl ⟨rfl, belowDrawn hb _⟩

theorem spec_getSection_any (s : ByteArray) (hs : s.size ≤ 140737488355328) (k : Int) (w : World) :
    Calls Try.prog 33 #[.string s, .int .i64 k] w fun e w' => e = .returned (getS s.data.toList k).val ∧ Below w.heap.size w w' := by
  have hsl : s.data.toList.length = s.size := by simp
  unfold getS
  by_cases h0 : k < 0 ∨ (s.data.toList.length : Int) ≤ k
  · rw [if_pos h0]
    exact spec_getSection_out s hs k (by omega) w
  · rw [if_neg h0]
    obtain ⟨j, rfl⟩ := Int.eq_ofNat_of_zero_le (show 0 ≤ k by omega)
    rw [Int.toNat_natCast]
    cases hg : getN (s.data.toList.drop (j + 1)) with
    | none =>
      refine (spec_getSection_none s hs j (by omega) hg _ rfl w).mono fun e w' ⟨he, hb⟩ => ⟨?_, hb⟩
      rw [he]
      by_cases hl : lead (s.data.toList.drop (j + 1)) = (s.data.toList.drop (j + 1)).length
      · simp only [hl, decide_true, if_true]
      · simp only [hl, decide_false, if_false]
        rfl
    | some p =>
      obtain ⟨n, m⟩ := p
      rw [hsl]
      exact spec_getSection_some s hs j (by omega) n m hg w
end Go.Proofs.Ytedhallhdhlhhaa

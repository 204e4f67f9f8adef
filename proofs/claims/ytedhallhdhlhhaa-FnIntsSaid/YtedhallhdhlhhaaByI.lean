/-
  Numbers and words out of a text: the program's GetInt, GetWord and the model's GetInt. Condition: the text has at most 2^47 bytes.
-/
import Derived.Test.YtedhallhdhlhhaaByM
namespace Go.Proofs.Ytedhallhdhlhhaa
open Go.RowKit
set_option linter.unusedVariables false

/-- What GetInt answers. -/
def getI (l : List UInt8) (k : Int) : Int × Int × Bool :=
  if 0 ≤ k ∧ k ≤ l.length then match getN (l.drop k.toNat) with
    | some (n, j) => (n, k + j, true)
    | none => (0, 0, false)
  else (0, 0, false)
/-- What GetWord answers. -/
def getWd (l : List UInt8) (k : Int) : Int × Bool :=
  if 0 ≤ k ∧ k + 4 ≤ l.length then (getW (l.drop k.toNat), true) else (0, false)

theorem lead_none {l : List UInt8} (h : lead l = l.length) : getN l = none := by
  unfold getN
  rw [if_neg (fun hc => by have := hc.1; omega)]
theorem nxt_num (s : ByteArray) (k : Int) : ((nxt rNum ⟨s, k, 0⟩).1, (nxt rNum ⟨s, k, 0⟩).2.at_, (nxt rNum ⟨s, k, 0⟩).2.c == 0) = getI s.data.toList k := by
  have hsl : s.data.toList.length = s.size := by simp
  unfold nxt getI
  simp only [ne_eq, not_true_eq_false, if_false]
  by_cases hin : 0 ≤ k ∧ k ≤ (s.size : Int)
  · rw [if_neg (fun h => h hin), hsl, if_pos hin]
    unfold rNum
    by_cases hl : lead (s.data.toList.drop k.toNat) = (s.data.toList.drop k.toNat).length
    · rw [if_pos hl, lead_none hl]
      rfl
    · rw [if_neg hl]
      cases hg : getN (s.data.toList.drop k.toNat) with
      | none => rfl
      | some p => obtain ⟨n, j⟩ := p; rfl
  · rw [if_pos hin, hsl, if_neg hin]
    rfl
theorem nxt_word (s : ByteArray) (k : Int) : ((nxt rWord ⟨s, k, 0⟩).1, (nxt rWord ⟨s, k, 0⟩).2.c == 0) = getWd s.data.toList k := by
  have hsl : s.data.toList.length = s.size := by simp
  unfold nxt getWd
  simp only [ne_eq, not_true_eq_false, if_false]
  by_cases hin : 0 ≤ k ∧ k ≤ (s.size : Int)
  · rw [if_neg (fun h => h hin), hsl]
    unfold rWord
    by_cases hl : (s.data.toList.drop k.toNat).length < 4
    · have h4 : ¬ (0 ≤ k ∧ k + 4 ≤ (s.size : Int)) := fun h => by rw [List.length_drop, hsl] at hl; omega
      rw [if_pos hl, if_neg h4]
      rfl
    · have h4 : 0 ≤ k ∧ k + 4 ≤ (s.size : Int) := by rw [List.length_drop, hsl] at hl; omega
      rw [if_neg hl, if_pos h4]
      rfl
  · have h4 : ¬ (0 ≤ k ∧ k + 4 ≤ (s.size : Int)) := fun h => hin (by omega)
    rw [if_pos hin, hsl, if_neg h4]
    rfl

theorem i64_zero : I64 0 := by constructor <;> decide
theorem below_box_grown {w w' : World} {o : Obj} (h : (w.alloc o).grownBy w' (some w.heap.size)) : Below w.heap.size w w' :=
  ⟨h.os, h.tape, h.output, Nat.le_trans (by simp) h.size, fun k hk => (h.block k (by simp; omega) (fun e => by cases e; omega)).trans (heap_alloc_old w o hk)⟩
theorem nxt_at (rd : List UInt8 → RdI) (hrd : ∀ l, (rd l).Ok l) (t : TxD) (hs : t.s.size ≤ 140737488355328) (hat : I64 t.at_) : I64 (nxt rd t).2.at_ ∧ (nxt rd t).2.s.size ≤ 140737488355328 := by
  unfold nxt
  split
  · exact ⟨hat, hs⟩
  split
  · exact ⟨i64_zero, by decide⟩
  split
  · exact ⟨i64_zero, (by decide : (⟨#[]⟩ : ByteArray).size ≤ 140737488355328)⟩
  · rename_i h1 h2 h3
    have := (hrd (t.s.data.toList.drop t.at_.toNat)).k
    have hsl : t.s.data.toList.length = t.s.size := by simp
    rw [List.length_drop, hsl] at this
    refine ⟨?_, hs⟩
    unfold I64 at hat ⊢
    simp only
    have h2' : 0 ≤ t.at_ ∧ t.at_ ≤ t.s.size := Decidable.of_not_not h2
    omega

set_option maxHeartbeats 1000000 in
theorem getInt_any (s : ByteArray) (hs : s.size ≤ 140737488355328) (k : Int) (hk : I64 k) (w : World) :
    Calls Try.prog 16 #[.string s, .int .i64 k] w fun e w' => e = .returned (.tuple #[.int .i64 (getI s.data.toList k).1, .int .i64 (getI s.data.toList k).2.1, .bool (getI s.data.toList k).2.2]) ∧ Below w.heap.size w w' := by
  have hB : TxBox (w.alloc (.cells #[.string s, .int .i64 k, .int .i64 0] 51)) w.heap.size ⟨s, k, 0⟩ := heap_alloc_new w _
  have bw := below_box w (.cells #[.string s, .int .i64 k, .int .i64 0] 51)
  have HN := Lib.hid (next_readNumber w.heap.size ⟨s, k, 0⟩ hs hk _ hB)
  have hg := nxt_num s k
  obtain ⟨r, hr⟩ : ∃ r, r = nxt rNum ⟨s, k, 0⟩ := ⟨_, rfl⟩
  rw [← hr] at hg HN
  obtain ⟨n, t⟩ := r
  rw [← hg]
  have bw' := Lib.hid bw
  clear hB hr hg bw
  go_enter Try.func16, Try.ntmps16
  go_wp2_with (go_at_call 39; refine HN.out.mono ?_; rintro e w' ⟨rfl, hgr, hb⟩; have f1 := hb.c1; have f2 := hb.c2)
  go_quiet (fail)
  go_wp2
  go_ret3
  have hbb := below_box_grown hgr
  exact ⟨rfl, ⟨hbb.os, hbb.tape, hbb.output, hbb.size, hbb.block⟩⟩

set_option maxHeartbeats 1000000 in
theorem getWord_any (s : ByteArray) (hs : s.size ≤ 140737488355328) (k : Int) (hk : I64 k) (w : World) :
    Calls Try.prog 27 #[.string s, .int .i64 k] w fun e w' => e = .returned (.tuple #[.int .i64 (getWd s.data.toList k).1, .bool (getWd s.data.toList k).2]) ∧ Below w.heap.size w w' := by
  have hB : TxBox (w.alloc (.cells #[.string s, .int .i64 k, .int .i64 0] 51)) w.heap.size ⟨s, k, 0⟩ := heap_alloc_new w _
  have HN := Lib.hid (next_readWord w.heap.size ⟨s, k, 0⟩ hs hk _ hB)
  have hg := nxt_word s k
  obtain ⟨r, hr⟩ : ∃ r, r = nxt rWord ⟨s, k, 0⟩ := ⟨_, rfl⟩
  rw [← hr] at hg HN
  obtain ⟨n, t⟩ := r
  rw [← hg]
  clear hB hr hg
  go_enter Try.func27, Try.ntmps27
  go_wp2_with (go_at_call 39; refine HN.out.mono ?_; rintro e w' ⟨rfl, hgr, hb⟩; have f2 := hb.c2)
  go_quiet (fail)
  go_wp2
  go_ret2
  have hbb := below_box_grown hgr
  exact ⟨rfl, ⟨hbb.os, hbb.tape, hbb.output, hbb.size, hbb.block⟩⟩

/-- Ten bytes of at least 128: no number. -/
theorem lead_ten {l : List UInt8} (h : 10 ≤ lead l) : getN l = none := by
  unfold getN
  rw [if_neg]
  rintro ⟨h1, h2⟩
  have hu := unzigzag_in (u := val (l.take (lead l + 1)) % 2 ^ 64) (Nat.mod_lt _ (by decide))
  have h3 := (pi_len hu.1 hu.2).2
  rw [h2, List.length_take] at h3
  omega
theorem getI_no {l : List UInt8} {k : Int} (h : ¬ (0 ≤ k ∧ k ≤ l.length) ∨ getN (l.drop k.toNat) = none) : getI l k = (0, 0, false) := by
  unfold getI
  split
  · rename_i hc
    rcases h with h | h
    · exact absurd hc h
    · rw [h]
  · rfl
theorem getI_yes {l : List UInt8} {k : Nat} {n : Int} {j : Nat} (h : k ≤ l.length) (hg : getN (l.drop k) = some (n, j)) : getI l (k : Int) = (n, (k : Int) + j, true) := by
  unfold getI
  rw [if_pos ⟨by omega, by omega⟩, Int.toNat_natCast, hg]

theorem drop_at (s : ByteArray) (k i : Nat) (h : k + i < s.size) (h' : i < (s.data.toList.drop k).length) : (s.data.toList.drop k)[i] = s[k + i] := by
  rw [List.getElem_drop]; rfl
theorem shl7' (b j X : Nat) (hb : b < 128) (hj : j < 10) (hX : X = b % 128 * 128 ^ j % 2 ^ 64) : Op.shift .shl .u64 (b : Int) .i64 (7 * (j : Int)) = pure (.int .u64 (X : Int)) := by
  have h := shl7 b j X hX
  rw [show (b : Int) % 128 = b by omega, show (j : Int) * 7 = 7 * j by omega] at h
  exact h
theorem i64_not' (x : Nat) (hx : x < 9223372036854775808) : bits .xor .i64 (-1) (x : Int) = -(x : Int) - 1 := Lib.i64_not x hx

set_option maxRecDepth 100000 in
set_option maxHeartbeats 4000000 in
theorem spec_getInt_in (s : ByteArray) (hs : s.size ≤ 140737488355328) (k : Nat) (hk : k ≤ s.size) (r : Int × Int × Bool) (hr : r = getI s.data.toList (k : Int)) (w : World) :
    Calls Try.prog 18 #[.string s, .int .i64 (k : Int)] w fun e w' => e = .returned (.tuple #[.int .i64 r.1, .int .i64 r.2.1, .bool r.2.2]) ∧ Below w.heap.size w w' := by
  have hsl : s.data.toList.length = s.size := by simp
  obtain ⟨l, hl⟩ : ∃ l, l = s.data.toList.drop k := ⟨_, rfl⟩
  have hll : l.length = s.size - k := by rw [hl, List.length_drop, hsl]
  have Hl := Lib.hid hl
  have Hr := Lib.hid hr
  have Hll := Lib.hid hll
  have Hsl := Lib.hid hsl
  clear hl hr hll hsl
  have hd1 : decide (s.size < k) = false := decide_eq_false (by omega)
  have hd2 : decide ((k : Int) < 0) = false := decide_eq_false (by omega)
  go_enter Try.func18, Try.ntmps18
  go_wp2
  go_loopw [7, 8] (fun q i wr => ∃ j : Nat, j ≤ 10 ∧ k + j ≤ s.size ∧ j ≤ lead l ∧ i = .int .i64 j ∧ q = .int .u64 (val (l.take j) % 2 ^ 64 : Nat) ∧ wr = w) (fun _ i _ => 10 - (intOf i).toNat)
  case atStart => exact ⟨0, by omega, by omega, by omega, rfl, rfl, rfl⟩
  case round =>
    obtain ⟨j, hj, hkj, hjl, rfl, rfl, rfl⟩ := hrel
    obtain ⟨v, hv⟩ : ∃ v, v = val (l.take j) % 2 ^ 64 := ⟨_, rfl⟩
    rw [← hv]
    by_cases hj10 : j < 10
    · by_cases hin : k + j < s.size
      · have hjlen : j < l.length := by have := Hll.out; omega
        have hor := or_step l j hjlen
        have hlj : l[j] = s[k + j] := by simp only [Hl.out]; exact drop_at s k j hin _
        rw [← hv, hlj] at hor
        obtain ⟨b, hb⟩ : ∃ b, b = (s[k + j]).toNat := ⟨_, rfl⟩
        have hbl : b < 256 := by rw [hb]; exact (s[k + j]).toNat_lt
        obtain ⟨X, hX⟩ : ∃ X, X = b % 128 * 128 ^ j % 2 ^ 64 := ⟨_, rfl⟩
        obtain ⟨Y, hY⟩ : ∃ Y, Y = val (l.take (j + 1)) % 2 ^ 64 := ⟨_, rfl⟩
        rw [← hb, ← hX, ← hY] at hor
        have hidx := index_at s (k + j) hin ((k : Int) + j) (by omega)
        rw [← hb] at hidx
        have hand : bits .and .u64 (b : Int) 127 = ((b % 128 : Nat) : Int) := by
          have h := bits_mask .u64 64 (by decide) wraps_u64 7 (by decide) (b : Int) (by omega) (by omega)
          simp at h
          rw [h]
          omega
        have hsh : IntKind.u64.wrap ((b : Int) % 128 * 2 ^ (7 * j)) = (X : Int) := by
          rw [IntKind.wrap_u64, hX, show (128 : Nat) ^ j = 2 ^ (7 * j) by rw [Nat.pow_mul]]
          simp
        have hbj : b = (l[j]).toNat := by rw [hlj, hb]
        have HB := Lib.hid hbj
        have HY := Lib.hid hY
        have HV := Lib.hid hv
        clear hv hX hY hbj hlj hb
        by_cases hbig : 128 ≤ b
        · have hlead : j + 1 ≤ lead l := by
            apply Decidable.byContradiction
            intro hc
            have hj' : lead l = j := by omega
            have := lead_low l (by omega)
            simp only [hj'] at this
            have := HB.out
            omega
          go_wp2
          go_roundw
          case rel => exact ⟨j + 1, by omega, by omega, hlead, by go_num, by rw [HY.out], trivial⟩
          case measure => simp [intOf]; omega
        · have hlead : lead l = j := by
            apply Decidable.byContradiction
            intro hc
            have := lead_big l j hjlen (by omega)
            have := HB.out
            omega
          have hYl : Y < 2 ^ 64 := by rw [HY.out]; exact Nat.mod_lt _ (by decide)
          have hu := unzigzag_in hYl
          have hgn : getN l = if pi (Lib.unzigzag Y) = l.take (j + 1) then some (Lib.unzigzag Y, j + 1) else none := by
            unfold getN
            rw [hlead, ← HY.out]
            by_cases hp : pi (Lib.unzigzag Y) = l.take (j + 1)
            · rw [if_pos ⟨hjlen, hp⟩, if_pos hp]
            · rw [if_neg (fun h => hp h.2), if_neg hp]
          have hex : (s.extract k (k + j + 1)).toList = l.take (j + 1) := by
            rw [ByteArray.toList_eq, Hl.out]
            simp
            omega
          have hr : (pi (Lib.unzigzag Y) == (s.extract k (k + j + 1)).toList) = true ∧ r = (Lib.unzigzag Y, (k : Int) + j + 1, true) ∨ (pi (Lib.unzigzag Y) == (s.extract k (k + j + 1)).toList) = false ∧ r = (0, 0, false) := by
            rw [hex]
            by_cases hp : pi (Lib.unzigzag Y) = l.take (j + 1)
            · rw [if_pos hp] at hgn
              refine .inl ⟨beq_iff_eq.2 hp, ?_⟩
              rw [Hr.out, getI_yes (n := Lib.unzigzag Y) (j := j + 1) (by have := Hsl.out; omega) (by rw [← Hl.out]; exact hgn)]
              simp only [Prod.mk.injEq, true_and, and_true]
              omega
            · rw [if_neg hp] at hgn
              exact .inr ⟨beq_eq_false_iff_ne.2 hp, by rw [Hr.out, getI_no (.inr (by rw [Int.toNat_natCast, ← Hl.out]; exact hgn))]⟩
          have ha := Lib.u64_and1 (Y : Int) (by omega) (by omega)
          have es : ∀ W : World, (Instr.slice 9 (.string s) (some (.int .i64 (k : Int))) (some (.int .i64 ((k : Int) + j + 1))) none).run Try.prog W = .ok (.string (s.extract k (k + j + 1))) W := fun W => by
            have h := run_slice_string (P := Try.prog) W 9 s .i64 .i64 (k : Int) ((k : Int) + j + 1) Try.underlying9 (by omega) (by omega) (by omega)
            rw [h]
            rfl
          obtain ⟨E, hE⟩ : ∃ E, E = s.extract k (k + j + 1) := ⟨_, rfl⟩
          rw [← hE] at hr es
          have e1 : IntKind.i64.wrap ((k : Int) + j) = (k : Int) + j := IntWalk.i64_in _ (by omega)
          have e2 : IntKind.i64.wrap ((k : Int) + j + 1) = (k : Int) + j + 1 := IntWalk.i64_in _ (by omega)
          clear hgn hex hE
          by_cases hpar : Y % 2 = 0
          · have hq : (Y : Int) % 2 = 0 := by omega
            have hz : Lib.unzigzag Y = (Y : Int) / 2 := by unfold Lib.unzigzag; rw [if_pos hpar]; omega
            rw [hz] at hr hu
            have HP := Lib.hid (fun v => spec_putInt_any ((Y : Int) / 2) hu v)
            clear hz hpar
            rcases hr with ⟨hcmp, hrr⟩ | ⟨hcmp, hrr⟩
            · have HR := Lib.hid hrr
              clear hrr hu
              go_wp2
              refine wp_region_ext (Below.refl _ _) (by kernel_rfl) (by kernel_rfl) ?_
              repeat (go_big_quiet_step ((go_at_call 24; (with_reducible exact Ext.call (HP.out _)))))
              refine wpQuiet_nil ?_
              intro _ hw'
              obtain ⟨x9, hw''⟩ := hw'
              subst hw''
              go_wp2
              go_ret3
              exact ⟨(by rw [HR.out]; rfl), x9.below⟩
            · have HR := Lib.hid hrr
              clear hrr hu
              go_wp2
              refine wp_region_ext (Below.refl _ _) (by kernel_rfl) (by kernel_rfl) ?_
              repeat (go_big_quiet_step ((go_at_call 24; (with_reducible exact Ext.call (HP.out _)))))
              refine wpQuiet_nil ?_
              intro _ hw'
              obtain ⟨x9, hw''⟩ := hw'
              subst hw''
              go_wp2
              go_ret3
              exact ⟨(by rw [HR.out]; rfl), x9.below⟩
          · have hq : (Y : Int) % 2 = 1 := by omega
            have hz : Lib.unzigzag Y = -((Y / 2 : Nat) : Int) - 1 := by unfold Lib.unzigzag; rw [if_neg hpar]
            have hx := Lib.i64_not (Y / 2) (by omega)
            rw [← hz, show ((Y / 2 : Nat) : Int) = (Y : Int) / 2 by omega] at hx
            obtain ⟨n, hn⟩ : ∃ n, n = Lib.unzigzag Y := ⟨_, rfl⟩
            rw [← hn] at hr hu hx
            have HP := Lib.hid (fun v => spec_putInt_any n hu v)
            have HN := Lib.hid hn
            have hsg : IntKind.i64.signed = true := rfl
            clear hz hpar hn
            rcases hr with ⟨hcmp, hrr⟩ | ⟨hcmp, hrr⟩
            · have HR := Lib.hid hrr
              clear hrr hu
              go_wp2
              refine wp_region_ext (Below.refl _ _) (by kernel_rfl) (by kernel_rfl) ?_
              repeat (go_big_quiet_step ((go_at_call 24; (with_reducible exact Ext.call (HP.out _)))))
              refine wpQuiet_nil ?_
              intro _ hw'
              obtain ⟨x9, hw''⟩ := hw'
              subst hw''
              go_wp2
              go_ret3
              exact ⟨(by rw [HR.out]; rfl), x9.below⟩
            · have HR := Lib.hid hrr
              clear hrr hu
              go_wp2
              refine wp_region_ext (Below.refl _ _) (by kernel_rfl) (by kernel_rfl) ?_
              repeat (go_big_quiet_step ((go_at_call 24; (with_reducible exact Ext.call (HP.out _)))))
              refine wpQuiet_nil ?_
              intro _ hw'
              obtain ⟨x9, hw''⟩ := hw'
              subst hw''
              go_wp2
              go_ret3
              exact ⟨(by rw [HR.out]; rfl), x9.below⟩
      · have hlead : lead l = l.length := by have := lead_le l; have := Hll.out; omega
        have hz : r = (0, 0, false) := by rw [Hr.out, getI_no (.inr (by rw [Int.toNat_natCast, ← Hl.out]; exact lead_none hlead))]
        have HZ := Lib.hid hz
        clear hv hz hlead
        go_wp2
        go_ret3
        exact ⟨(by rw [HZ.out]; rfl), Below.refl _ _⟩
    · have hz : r = (0, 0, false) := by rw [Hr.out, getI_no (.inr (by rw [Int.toNat_natCast, ← Hl.out]; exact lead_ten (by omega)))]
      have HZ := Lib.hid hz
      clear hv hz
      obtain rfl : j = 10 := by omega
      go_wp2
      go_ret3
      exact ⟨(by rw [HZ.out]; rfl), Below.refl _ _⟩

set_option maxRecDepth 100000 in
set_option maxHeartbeats 1000000 in
theorem spec_getInt_out (s : ByteArray) (hs : s.size ≤ 140737488355328) (k : Int) (hk : k < 0 ∨ (s.size : Int) < k) (w : World) :
    Calls Try.prog 18 #[.string s, .int .i64 k] w fun e w' => e = .returned (.tuple #[.int .i64 0, .int .i64 0, .bool false]) ∧ Below w.heap.size w w' := by
  by_cases h0 : k < 0
  · clear hk
    go_enter Try.func18, Try.ntmps18
    go_wp2
    go_ret3
    exact ⟨rfl, Below.refl _ _⟩
  · have h1 : (s.size : Int) < k := by omega
    clear hk
    go_enter Try.func18, Try.ntmps18
    go_wp2
    go_ret3
    exact ⟨rfl, Below.refl _ _⟩
theorem spec_getInt_any (s : ByteArray) (hs : s.size ≤ 140737488355328) (k : Int) (w : World) :
    Calls Try.prog 18 #[.string s, .int .i64 k] w fun e w' => e = .returned (.tuple #[.int .i64 (getI s.data.toList k).1, .int .i64 (getI s.data.toList k).2.1, .bool (getI s.data.toList k).2.2]) ∧ Below w.heap.size w w' := by
  have hsl : s.data.toList.length = s.size := by simp
  by_cases h : 0 ≤ k ∧ k ≤ (s.size : Int)
  · obtain ⟨j, rfl⟩ := Int.eq_ofNat_of_zero_le h.1
    exact spec_getInt_in s hs j (by omega) _ rfl w
  · rw [getI_no (l := s.data.toList) (k := k) (.inl (by rw [hsl]; exact h))]
    exact spec_getInt_out s hs k (by omega) w

set_option maxRecDepth 100000 in
set_option maxHeartbeats 1000000 in
/-- Is there no byte below 128 from number k on? -/
theorem l7open_any (s : ByteArray) (hs : s.size ≤ 140737488355328) (k : Nat) (hk : k ≤ s.size) (w : World) :
    Calls Try.prog 52 #[.string s, .int .i64 (k : Int)] w fun e w' => e = .returned (.bool (decide (lead (s.data.toList.drop k) = (s.data.toList.drop k).length))) ∧ w = w' := by
  have hsl : s.data.toList.length = s.size := by simp
  obtain ⟨l, hl⟩ : ∃ l, l = s.data.toList.drop k := ⟨_, rfl⟩
  have hll : l.length = s.size - k := by rw [hl, List.length_drop, hsl]
  rw [← hl]
  have hle := lead_le l
  by_cases hopen : lead l = l.length
  · have HD := Lib.hid (show decide (lead l = l.length) = true from decide_eq_true hopen)
    have Hl := Lib.hid hl
    have Hll := Lib.hid hll
    have Ho := Lib.hid hopen
    rw [HD.out]
    clear hl hll hopen hsl hle
    go_enter Try.func52, Try.ntmps52
    go_wp2
    go_loop [5] (fun i => ∃ j : Nat, j ≤ s.size - k ∧ i = .int .i64 ((k : Int) + j)) (fun i => s.size - (intOf i).toNat)
    case atStart => exact ⟨0, by omega, by simp⟩
    case round =>
      obtain ⟨j, hj, rfl⟩ := hrel
      by_cases hlt : k + j < s.size
      · have hjl : j < l.length := by have := Hll.out; omega
        have hb := lead_big l j hjl (by rw [Ho.out]; exact hjl)
        have hlj : l[j] = s[k + j] := by simp only [Hl.out]; exact drop_at s k j hlt _
        rw [hlj] at hb
        have hidx := index_at s (k + j) hlt ((k : Int) + j) (by omega)
        obtain ⟨b, hbb⟩ : ∃ b, b = (s[k + j]).toNat := ⟨_, rfl⟩
        rw [← hbb] at hidx hb
        clear hlj hbb
        go_wp2
        go_round
        case rel => exact ⟨j + 1, by omega, by go_num⟩
        case measure => simp [intOf]; omega
      · go_wp2
        go_ret
        exact ⟨rfl, rfl⟩
  · have HD := Lib.hid (show decide (lead l = l.length) = false from decide_eq_false hopen)
    have Hl := Lib.hid hl
    have Hll := Lib.hid hll
    have Ho := Lib.hid (show lead l < l.length by omega)
    rw [HD.out]
    clear hl hll hopen hsl hle
    go_enter Try.func52, Try.ntmps52
    go_wp2
    go_loop [5] (fun i => ∃ j : Nat, j ≤ lead l ∧ i = .int .i64 ((k : Int) + j)) (fun i => s.size - (intOf i).toNat)
    case atStart => exact ⟨0, by omega, by simp⟩
    case round =>
      obtain ⟨j, hj, rfl⟩ := hrel
      have hjl : j < l.length := by have := Ho.out; omega
      have hlt : k + j < s.size := by have := Hll.out; omega
      have hlj : l[j] = s[k + j] := by simp only [Hl.out]; exact drop_at s k j hlt _
      have hidx := index_at s (k + j) hlt ((k : Int) + j) (by omega)
      by_cases hjb : j < lead l
      · have hb := lead_big l j hjl hjb
        rw [hlj] at hb
        obtain ⟨b, hbb⟩ : ∃ b, b = (s[k + j]).toNat := ⟨_, rfl⟩
        rw [← hbb] at hidx hb
        clear hlj hbb
        go_wp2
        go_round
        case rel => exact ⟨j + 1, by omega, by go_num⟩
        case measure => simp [intOf]; omega
      · have hje : lead l = j := by omega
        have hb := lead_low l Ho.out
        simp only [hje] at hb
        rw [hlj] at hb
        obtain ⟨b, hbb⟩ : ∃ b, b = (s[k + j]).toNat := ⟨_, rfl⟩
        rw [← hbb] at hidx hb
        clear hlj hbb hje
        go_wp2
        go_ret
        exact ⟨rfl, rfl⟩
end Go.Proofs.Ytedhallhdhlhhaa

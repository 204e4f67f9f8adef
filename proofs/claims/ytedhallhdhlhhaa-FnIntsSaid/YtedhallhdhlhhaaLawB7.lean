/-
  The walk of FnBursts.
-/
import Derived.Test.YtedhallhdhlhhaaTurned
import Derived.Test.YtedhallhdhlhhaaDrawB7
import Derived.StillTailTactics
namespace Go.Proofs.Ytedhallhdhlhhaa
open Go.RowKit
set_option linter.unusedVariables false

theorem below_setg {B g : Nat} {w w' : World} (h : Below B w w') (hg : B ≤ g) (hB : B ≤ w'.heap.size) (j : Nat) (v : Value) : Below B w (w'.setCell ⟨g, j, none⟩ v) :=
  h.grown (grown_set' w' g j v) hB (fun k e => by cases e; exact hg)

theorem byte_of (v : Nat) (h : v < 256) : ∃ z : UInt8, z.toNat = v := ⟨v.toUInt8, by simp [Nat.toUInt8]; omega⟩
set_option maxRecDepth 100000 in
set_option maxHeartbeats 8000000 in
theorem bursts_walk (a : Option Addr) (len cap : Nat) (w : World) (hb : Bytes w a len) (ha : 0 < len → ∀ x, a = some x → x.block < w.heap.size) :
    Calls Try.prog 5 #[.slice a len cap] w fun e w' => e = .returned (.bool true) ∧ Below w.heap.size w w' := by
  have hd := Lib.hid (drawSection_any a len cap w hb ha)
  have HS := Lib.hid (fun v => sections_any v)
  have hbb := Lib.hid hb
  have haa := Lib.hid ha
  clear hb ha
  go_enter Try.func5, Try.ntmps5
  go_wp2_with fail
  refine hd.out.mono ?_
  rintro e w1 ⟨n, s, rfl, hn, hs, b1⟩
  have B1 := Lib.hid b1
  clear b1 hd
  by_cases h0 : n < 0
  · go_wp2_with (go_at_call 19; refine (HS.out _).mono ?_; rintro e w3 ⟨rfl, b3⟩)
    go_ret
    exact ⟨rfl, below_trans B1.out b3⟩
  by_cases h1 : 255 < n
  · go_wp2_with (go_at_call 19; refine (HS.out _).mono ?_; rintro e w3 ⟨rfl, b3⟩)
    go_ret
    exact ⟨rfl, below_trans B1.out b3⟩
  by_cases h2 : 1000 < s.size
  · go_wp2_with (go_at_call 19; refine (HS.out _).mono ?_; rintro e w3 ⟨rfl, b3⟩)
    go_ret
    exact ⟨rfl, below_trans B1.out b3⟩
  obtain ⟨k, rfl⟩ := Int.eq_ofNat_of_zero_le (show 0 ≤ n by omega)
  have hk : k < 256 := by omega
  have hs2 : s.size ≤ 1000 := by omega
  have HP := Lib.hid (fun v => section_any (k : Int) s v)
  obtain ⟨S, hS⟩ : ∃ S : ByteArray, S = secB (k : Int) s := ⟨_, rfl⟩
  rw [← hS] at HP
  have hSl : S.data.toList = secL k s.data.toList := by rw [hS]; unfold secB; rw [if_neg (by omega)]; rfl
  have hsl : s.data.toList.length = s.size := by simp
  have hSS : S.size = S.data.toList.length := by simp
  have hSn := secL_length k s.data.toList
  have hpl := pi_len (n := (s.data.toList.length : Int)) (by omega) (by omega)
  have HI := Lib.hid (fun v => spec_putInt_any (s.size : Int) (by constructor <;> omega) v)
  obtain ⟨P, hP⟩ : ∃ P : ByteArray, P = ⟨(pi (s.size : Int)).toArray⟩ := ⟨_, rfl⟩
  have hPs : P.size = (pi (s.data.toList.length : Int)).length := by rw [hP, hsl]; show (pi (s.size : Int)).toArray.size = _; rw [List.size_toArray]
  rw [← hP] at HI
  obtain ⟨H, hH⟩ : ∃ H : List UInt8, H = k.toUInt8 :: pi (s.data.toList.length : Int) := ⟨_, rfl⟩
  obtain ⟨D, hD⟩ : ∃ D : List UInt8, D = s.data.toList ++ putW (crc s.data.toList) := ⟨_, rfl⟩
  have hHD : secL k s.data.toList = H ++ D := by rw [hH, hD]; unfold secL; simp
  have hHl : H.length = P.size + 1 := by rw [hH, List.length_cons, hPs]
  have hDl : D.length = s.size + 4 := by rw [hD, List.length_append, putW_length, hsl]
  have hSz : S.size = P.size + 1 + s.size + 4 := by rw [hSS, hSl, hHD, List.length_append, hHl, hDl]; omega
  have hP1 : 1 ≤ P.size ∧ P.size ≤ 10 := by rw [hPs]; exact hpl
  rw [hHD] at hSl
  have HSL := Lib.hid hSl
  have HH := Lib.hid hH
  have HD := Lib.hid hD
  have HHl := Lib.hid hHl
  have HDl := Lib.hid hDl
  have HSz := Lib.hid hSz
  clear hS hSl hsl hSS hSn hpl hP hPs hH hD hHD hHl hDl
  obtain ⟨Nb, hNb⟩ : ∃ Nb : Nat, Nb = 8 * (s.size + 4) := ⟨_, rfl⟩
  have hbits : 8 * ((S.size : Int) - (1 + (P.size : Int))) = (Nb : Int) := by omega
  have hSb : S.size ≤ 1100 := by omega
  have hNl : 32 ≤ Nb ∧ Nb ≤ 9000 := by omega
  have HNb := Lib.hid hNb
  have hneq : ((S.size : Int) == (1 + (P.size : Int) + (s.size : Int) + 4)) = true := beq_iff_eq.2 (by omega)
  have hnen : ((S.size : Int) != (1 + (P.size : Int) + (s.size : Int) + 4)) = false := by simp; omega
  clear hSz hNb
  go_wp2_with (first
    | (go_at_call 21; refine (HP.out _).mono ?_; rintro e w2 ⟨rfl, b2⟩)
    | (go_at_call 24; refine (HI.out _).mono ?_; rintro e w3 ⟨rfl, b3⟩; obtain ⟨cp, W, hcv, hrow, bW⟩ := conv_bytes w3 S; obtain ⟨g, hg⟩ : ∃ g, g = w3.heap.size := ⟨_, rfl⟩; rw [← hg] at hcv hrow; have Hg := Lib.hid hg; clear hg; have HR := Lib.hid hrow; have B3 := Lib.hid (below_trans B1.out (below_trans b2 (below_trans b3 bW))); have B30 := Lib.hid (below_trans B1.out (below_trans b2 b3)); clear hrow bW b2 b3))
  refine (code_at a len cap 3 (by omega) W (hbb.out.below haa.out B3.out)).mono ?_
  rintro e w5 ⟨x3, rfl, hx30, hx31, rfl⟩
  go_wp2_with fail
  refine (code_at a len cap 4 (by omega) W (hbb.out.below haa.out B3.out)).mono ?_
  rintro e w5 ⟨x4, rfl, hx40, hx41, rfl⟩
  obtain ⟨f, hf⟩ : ∃ f : Nat, (x3 * 256 + x4) % (Nb : Int) = f := ⟨((x3 * 256 + x4) % (Nb : Int)).toNat, (Int.toNat_of_nonneg (Int.emod_nonneg _ (by omega))).symm⟩
  have hfl : f < Nb := by have := Int.emod_lt_of_pos (x3 * 256 + x4) (show 0 < (Nb : Int) by omega); omega
  go_wp2_with fail
  refine (code_at a len cap 5 (by omega) W (hbb.out.below haa.out B3.out)).mono ?_
  rintro e w5 ⟨x5, rfl, hx50, hx51, rfl⟩
  obtain ⟨m, hm⟩ : ∃ m : Nat, 1 + x5 % 32 = (m : Int) := ⟨(1 + x5 % 32).toNat, by omega⟩
  have hml : 1 ≤ m ∧ m ≤ 32 := by omega
  --LOOP
  have hg0 : w.heap.size ≤ g := by rw [Hg.out]; exact B30.out.size
  go_wp2_with fail
  clear h0 h1 h2 hk hn hs hs2 hx30 hx31 hx40 hx41 hx50 hx51 hf hm hbits hneq hnen hcv
  go_loopw [11] (fun c wr => ∃ (i : Nat) (t : Nat → Bool), i ≤ m ∧ f + i ≤ Nb ∧ c = .int .i64 i ∧ (∀ p, t p = true → f ≤ p ∧ p < f + i) ∧ (0 < i → t f = true) ∧ MRow wr g (H ++ xorL D (turnL t D.length)) ∧ Below w.heap.size w wr) (fun c _ => m - (intOf c).toNat)
  case atStart => exact ⟨0, fun _ => false, Nat.zero_le _, by omega, rfl, fun p h => (by cases h), fun h => absurd h (Nat.lt_irrefl 0), by rw [turnL_none D _ (fun _ => rfl), ← HSL.out]; exact HR.out, B3.out⟩
  case round =>
    obtain ⟨i, t, him, hfi, rfl, ht, ht0, hr, hB⟩ := hrel
    have hgB : w.heap.size ≤ g := hg0
    by_cases hgo : i < m ∧ f + i < Nb
    · obtain ⟨hi, hfl2⟩ := hgo
      obtain ⟨q, hq⟩ : ∃ q, q = f + i := ⟨_, rfl⟩
      by_cases hi0 : i = 0
      · have hb0 : ((i : Int) == 0) = true := beq_iff_eq.2 (by omega)
        clear hi0
        have hp8 : q / 8 < D.length := by have := HDl.out; have := HNb.out; omega
        have htq : t q = false := by
          cases hh : t q
          · rfl
          · have := ht q hh; omega
        obtain ⟨j, hj⟩ : ∃ j, j = P.size + 1 + q / 8 := ⟨_, rfl⟩
        have hxl := xorL_length D (turnL t D.length) (turnL_length t _).symm
        have hjl : j < (H ++ xorL D (turnL t D.length)).length := by rw [List.length_append, hxl, HHl.out, hj]; omega
        obtain ⟨y, hy⟩ : ∃ y : UInt8, y = (H ++ xorL D (turnL t D.length))[j] := ⟨_, rfl⟩
        have hyx : (xorL D (turnL t D.length))[q / 8]?.getD 0 = y := by
          rw [hy, List.getElem_append_right (by rw [HHl.out]; omega), List.getElem?_eq_getElem (by rw [hxl]; exact hp8)]
          simp only [Option.getD_some]
          congr 1
          rw [HHl.out]; omega
        have hcell := hr.cell j hjl
        rw [← hy] at hcell
        have hfree := hr.free j hjl
        obtain ⟨b, hb⟩ : ∃ b : Nat, b = 128 / 2 ^ (q % 8) := ⟨_, rfl⟩
        have hbl : b < 256 := by rw [hb]; exact Nat.lt_of_le_of_lt (Nat.div_le_self _ _) (by decide)
        have hyl := y.toNat_lt
        have hzz : y.toNat ^^^ b < 256 := by rw [show (256 : Nat) = 2 ^ 8 by decide]; exact Nat.xor_lt_two_pow hyl hbl
        obtain ⟨z, hz⟩ : ∃ z : UInt8, z.toNat = y.toNat ^^^ b := byte_of _ hzz
        have hxor : bits .xor .u8 (y.toNat : Int) (b : Int) = (z.toNat : Int) := by rw [u8_xor_nat _ _ hyl hbl, hz]
        have hset := hr.set j hjl z
        have hmore := xorL_more D t q hp8 htq z (by rw [hyx, hz, hb])
        rw [List.set_append_right _ _ (by rw [HHl.out]; omega), show j - H.length = q / 8 by rw [HHl.out]; omega, hmore] at hset
        have hsz := hB.size
        have hSET := Lib.hid hset
        have hBEL := Lib.hid (below_setg hB hgB (by omega) j (.int .u8 (z.toNat : Int)))
        have e1 : (f : Int) + (i : Int) = (q : Int) := by omega
        have e0 : IntKind.i64.wrap (q : Int) = (q : Int) := IntWalk.i64_in _ (by omega)
        have hqN : q < Nb := by omega
        obtain ⟨d8, hd8⟩ : ∃ d8 : Nat, d8 = q / 8 := ⟨_, rfl⟩
        obtain ⟨r8, hr8⟩ : ∃ r8 : Nat, r8 = q % 8 := ⟨_, rfl⟩
        have e2 : (q : Int).tdiv 8 = (d8 : Int) := by rw [Int.tdiv_eq_ediv_of_nonneg (by omega)]; omega
        have e5 : IntKind.i64.wrap (d8 : Int) = (d8 : Int) := IntWalk.i64_in _ (by omega)
        have e3 : IntKind.i64.wrap (1 + (P.size : Int) + (d8 : Int)) = (j : Int) := by rw [IntWalk.i64_in _ (by omega)]; omega
        have e6 : (q : Int).tmod 8 = (r8 : Int) := by rw [Int.tmod_eq_emod_of_nonneg (by omega)]; omega
        have e7 : IntKind.i64.wrap (r8 : Int) = (r8 : Int) := IntWalk.i64_in _ (by omega)
        have e4 : Op.shift .shr .u8 128 .i64 (r8 : Int) = pure (.int .u8 (b : Int)) := by
          rw [shift_shr_u8 _ _ _ (by omega) (by omega), hb, ← hr8, Int.toNat_natCast]
          simp
        have hidx : 0 ≤ (j : Int) ∧ (j : Int) < (S.size : Int) := by have := HSz.out; have := HDl.out; omega
        have hjS : (j : Int) < (S.size : Int) := by have := HSz.out; have := HDl.out; omega
        have hmre : turnMore t q q = true := more_at t q
        have hms : ∀ p, turnMore t q p = true → f ≤ p ∧ p < f + (i + 1) := fun p hp => by
          by_cases hpq : p = q
          · omega
          · rw [more_ne t q p hpq] at hp
            have := ht p hp
            omega
        have hmf : turnMore t q f = true := by
          by_cases hfq : f = q
          · rw [hfq]; exact more_at t q
          · rw [more_ne t q f hfq]; exact ht0 (by omega)
        have HMS := Lib.hid hms
        have HMF := Lib.hid hmf
        have HRB := Lib.hid hB
        have HF2 := Lib.hid (show f + (i + 1) ≤ Nb by omega)
        clear hq hfl2 hfi hd8 hr8 hy hyx hz hb hset hmore hr hB hj hms hmf hmre hxl htq hp8 hjl
        go_wp2_with fail
        go_still_tail 23, (by kernel_rfl)
        change wpList _ _ _ _ _ wr.drew
        go_wp2
        go_roundw
        case rel => exact ⟨i + 1, turnMore t q, by omega, HF2.out, by go_num, HMS.out, fun _ => HMF.out, hSET.out.drew, belowDrawn hBEL.out 1⟩
        case measure => simp [intOf]; omega
      · have hb0 : ((i : Int) == 0) = false := beq_eq_false_iff_ne.2 (by omega)
        obtain ⟨c8, hc8⟩ : ∃ c8 : Nat, 6 + (i : Int) / 8 = (c8 : Int) := ⟨6 + i / 8, by omega⟩
        have hc8l : c8 ≤ 1000 := by omega
        have HQ := Lib.hid hq
        have Hi0 := Lib.hid hi0
        clear hi0 hq
        go_wp2_with fail
        refine (code_at a len cap c8 hc8l wr (hbb.out.below haa.out hB)).mono ?_
        rintro e w6 ⟨x, rfl, hx0, hx1, rfl⟩
        clear hc8
        obtain ⟨v, hv⟩ : ∃ v, bits .and .i64 (x / 2 ^ (i % 8)) 1 = v := ⟨_, rfl⟩
        by_cases hv1 : v = 1
        · have hvb : (v == 1) = true := beq_iff_eq.2 hv1
          clear hv1
          have hq := HQ.out
          have hp8 : q / 8 < D.length := by have := HDl.out; have := HNb.out; omega
          have htq : t q = false := by
            cases hh : t q
            · rfl
            · have := ht q hh; omega
          obtain ⟨j, hj⟩ : ∃ j, j = P.size + 1 + q / 8 := ⟨_, rfl⟩
          have hxl := xorL_length D (turnL t D.length) (turnL_length t _).symm
          have hjl : j < (H ++ xorL D (turnL t D.length)).length := by rw [List.length_append, hxl, HHl.out, hj]; omega
          obtain ⟨y, hy⟩ : ∃ y : UInt8, y = (H ++ xorL D (turnL t D.length))[j] := ⟨_, rfl⟩
          have hyx : (xorL D (turnL t D.length))[q / 8]?.getD 0 = y := by
            rw [hy, List.getElem_append_right (by rw [HHl.out]; omega), List.getElem?_eq_getElem (by rw [hxl]; exact hp8)]
            simp only [Option.getD_some]
            congr 1
            rw [HHl.out]; omega
          have hcell := hr.cell j hjl
          rw [← hy] at hcell
          have hfree := hr.free j hjl
          obtain ⟨b, hb⟩ : ∃ b : Nat, b = 128 / 2 ^ (q % 8) := ⟨_, rfl⟩
          have hbl : b < 256 := by rw [hb]; exact Nat.lt_of_le_of_lt (Nat.div_le_self _ _) (by decide)
          have hyl := y.toNat_lt
          have hzz : y.toNat ^^^ b < 256 := by rw [show (256 : Nat) = 2 ^ 8 by decide]; exact Nat.xor_lt_two_pow hyl hbl
          obtain ⟨z, hz⟩ : ∃ z : UInt8, z.toNat = y.toNat ^^^ b := byte_of _ hzz
          have hxor : bits .xor .u8 (y.toNat : Int) (b : Int) = (z.toNat : Int) := by rw [u8_xor_nat _ _ hyl hbl, hz]
          have hset := hr.set j hjl z
          have hmore := xorL_more D t q hp8 htq z (by rw [hyx, hz, hb])
          rw [List.set_append_right _ _ (by rw [HHl.out]; omega), show j - H.length = q / 8 by rw [HHl.out]; omega, hmore] at hset
          have hsz := hB.size
          have hSET := Lib.hid hset
          have hBEL := Lib.hid (below_setg hB hgB (by omega) j (.int .u8 (z.toNat : Int)))
          have e1 : (f : Int) + (i : Int) = (q : Int) := by omega
          have e0 : IntKind.i64.wrap (q : Int) = (q : Int) := IntWalk.i64_in _ (by omega)
          have hqN : q < Nb := by omega
          obtain ⟨d8, hd8⟩ : ∃ d8 : Nat, d8 = q / 8 := ⟨_, rfl⟩
          obtain ⟨r8, hr8⟩ : ∃ r8 : Nat, r8 = q % 8 := ⟨_, rfl⟩
          have e2 : (q : Int).tdiv 8 = (d8 : Int) := by rw [Int.tdiv_eq_ediv_of_nonneg (by omega)]; omega
          have e5 : IntKind.i64.wrap (d8 : Int) = (d8 : Int) := IntWalk.i64_in _ (by omega)
          have e3 : IntKind.i64.wrap (1 + (P.size : Int) + (d8 : Int)) = (j : Int) := by rw [IntWalk.i64_in _ (by omega)]; omega
          have e6 : (q : Int).tmod 8 = (r8 : Int) := by rw [Int.tmod_eq_emod_of_nonneg (by omega)]; omega
          have e7 : IntKind.i64.wrap (r8 : Int) = (r8 : Int) := IntWalk.i64_in _ (by omega)
          have e4 : Op.shift .shr .u8 128 .i64 (r8 : Int) = pure (.int .u8 (b : Int)) := by
            rw [shift_shr_u8 _ _ _ (by omega) (by omega), hb, ← hr8, Int.toNat_natCast]
            simp
          have hidx : 0 ≤ (j : Int) ∧ (j : Int) < (S.size : Int) := by have := HSz.out; have := HDl.out; omega
          have hjS : (j : Int) < (S.size : Int) := by have := HSz.out; have := HDl.out; omega
          have hmre : turnMore t q q = true := more_at t q
          have hms : ∀ p, turnMore t q p = true → f ≤ p ∧ p < f + (i + 1) := fun p hp => by
            by_cases hpq : p = q
            · omega
            · rw [more_ne t q p hpq] at hp
              have := ht p hp
              omega
          have hmf : turnMore t q f = true := by
            by_cases hfq : f = q
            · rw [hfq]; exact more_at t q
            · rw [more_ne t q f hfq]; exact ht0 (by omega)
          have HMS := Lib.hid hms
          have HMF := Lib.hid hmf
          have HRB := Lib.hid hB
          have HF2 := Lib.hid (show f + (i + 1) ≤ Nb by omega)
          clear hq hfl2 hfi hd8 hr8 hy hyx hz hb hset hmore hr hB hj hms hmf hmre hxl htq hp8 hjl
          go_wp2_with fail
          go_still_tail 23, (by kernel_rfl)
          change wpList _ _ _ _ _ wr.drew
          go_wp2
          go_roundw
          case rel => exact ⟨i + 1, turnMore t q, by omega, HF2.out, by go_num, HMS.out, fun _ => HMF.out, hSET.out.drew, belowDrawn hBEL.out 1⟩
          case measure => simp [intOf]; omega
        · have hvb : (v == 1) = false := beq_eq_false_iff_ne.2 hv1
          have HMS := Lib.hid (show ∀ p, t p = true → f ≤ p ∧ p < f + (i + 1) from fun p hp => by have := ht p hp; omega)
          have HT0 := Lib.hid ht0
          have HRR := Lib.hid hr
          have HBB := Lib.hid hB
          have HF2 := Lib.hid (show f + (i + 1) ≤ Nb by omega)
          clear hv1 ht ht0 hr hB hfi hfl2
          go_wp2_with fail
          go_roundw
          case rel => exact ⟨i + 1, t, by omega, HF2.out, by go_num, HMS.out, fun _ => HT0.out (by have := Hi0.out; omega), HRR.out, HBB.out⟩
          case measure => simp [intOf]; omega
    · have hi1 : 0 < i := by omega
      have htf := ht0 hi1
      have hb1 := burst_told s.data.toList f t (by have := HNb.out; simp; omega) htf (fun p hp => by have := ht p hp; omega)
      rw [← HD.out] at hb1
      have hDn : s.data.toList.length + 4 = D.length := by rw [HDl.out]; simp
      rw [hDn] at hb1
      have hxl := xorL_length D (turnL t D.length) (turnL_length t _).symm
      have hs5 : s.data.toList.length ≤ 200000 := by
        have e : s.data.toList.length = s.size := by simp
        have := HNb.out
        omega
      have hbad := getS_bad k.toUInt8 s.data.toList.length hs5 (xorL D (turnL t D.length)) (by rw [hxl, hDn]) hb1
      obtain ⟨R, hR⟩ : ∃ R, R = H ++ xorL D (turnL t D.length) := ⟨_, rfl⟩
      have hRe : R = k.toUInt8 :: (pi ((s.data.toList.length : Nat) : Int) ++ xorL D (turnL t D.length)) := by rw [hR, HH.out]; rfl
      rw [← hRe] at hbad
      rw [← hR] at hr
      have hRl : R.length = S.size := by rw [hR, List.length_append, hxl, HHl.out, HDl.out, HSz.out]; omega
      have hcv := hr.str (cap := cp)
      rw [hRl] at hcv
      obtain ⟨T, hT⟩ : ∃ T : ByteArray, T = ⟨R.toArray⟩ := ⟨_, rfl⟩
      rw [← hT] at hcv
      have hTs : T.size = S.size := by rw [hT, ← hRl]; show R.toArray.size = _; rw [List.size_toArray]
      have hTl : T.data.toList = R := by rw [hT]
      have HG := Lib.hid (fun v => getSection_any T (by omega) 0 (by constructor <;> decide) v)
      rw [getS_eq, hTl, hbad] at HG
      simp only [SecR.val, noSec] at HG
      have HBB := Lib.hid hB
      clear hi1 htf hb1 hDn hxl hs5 hbad hR hRe hr hRl hT hTs hTl ht ht0 hB
      by_cases hi : i < m
      · have hfo : ¬ f + i < Nb := fun h => hgo ⟨hi, h⟩
        clear hgo
        go_wp2_with (first
          | (go_at_call 22; refine (HG.out _).mono ?_; rintro e w6 ⟨rfl, b6⟩)
          | (go_at_call 19; refine (HS.out _).mono ?_; rintro e w7 ⟨rfl, b7⟩))
        go_ret
        exact ⟨rfl, below_trans HBB.out (below_trans b6 b7)⟩
      · clear hgo
        go_wp2_with (first
          | (go_at_call 22; refine (HG.out _).mono ?_; rintro e w6 ⟨rfl, b6⟩)
          | (go_at_call 19; refine (HS.out _).mono ?_; rintro e w7 ⟨rfl, b7⟩))
        go_ret
        exact ⟨rfl, below_trans HBB.out (below_trans b6 b7)⟩
end Go.Proofs.Ytedhallhdhlhhaa

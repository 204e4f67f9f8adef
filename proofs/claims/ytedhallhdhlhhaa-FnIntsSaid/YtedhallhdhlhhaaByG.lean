/-
  A section out of a text: the program's GetSection and the model's. Condition: the text has at most 2^47 bytes.
-/
import Derived.Test.YtedhallhdhlhhaaByI
namespace Go.Proofs.Ytedhallhdhlhhaa
open Go.RowKit
set_option linter.unusedVariables false

/-- What GetSection answers. -/
structure SecR where
  tag : Int
  body : List UInt8
  next : Int
  code : Int
def SecR.val (r : SecR) : Value := .tuple #[.int .i64 r.tag, .string ⟨r.body.toArray⟩, .int .i64 r.next, .int .i64 r.code]
def noSec (c : Int) : SecR := ⟨0, [], 0, c⟩
def getS (l : List UInt8) (k : Int) : SecR :=
  if k < 0 ∨ (l.length : Int) ≤ k then noSec 1
  else match getN (l.drop (k.toNat + 1)) with
    | none => if lead (l.drop (k.toNat + 1)) = (l.drop (k.toNat + 1)).length then noSec 1 else noSec 3
    | some (n, j) =>
      if n < 0 ∨ 200000 < n then noSec 3
      else if l.length < k.toNat + 1 + j + n.toNat + 4 then noSec 1
      else if getW (l.drop (k.toNat + 1 + j + n.toNat)) ≠ crc ((l.drop (k.toNat + 1 + j)).take n.toNat) then noSec 2
      else ⟨((l[k.toNat]?.getD 0).toNat : Nat), (l.drop (k.toNat + 1 + j)).take n.toNat, k + 1 + j + n + 4, 0⟩

/-- The same, one reader behind the other. -/
def getS' (s : ByteArray) (k : Int) : SecR :=
  let a := nxt rByte ⟨s, k, 0⟩
  let b := nxt rSize a.2
  let c := nxtS b.1.toNat b.2
  let d := nxt rWord c.2
  if d.2.c = 0 then if d.1 = (crc c.1 : Nat) then ⟨a.1, c.1, d.2.at_, 0⟩ else noSec 2 else noSec d.2.c

theorem nxt_stop (rd : List UInt8 → RdI) (t : TxD) (h : t.c ≠ 0) : nxt rd t = (0, t) := by unfold nxt; rw [if_pos h]
theorem nxtS_stop (n : Nat) (t : TxD) (h : t.c ≠ 0) : nxtS n t = ([], t) := by unfold nxtS; rw [if_pos h]
theorem nxt_go (rd : List UInt8 → RdI) (s : ByteArray) (k : Nat) (h : k ≤ s.size) : nxt rd ⟨s, (k : Int), 0⟩ =
    if (rd (s.data.toList.drop k)).c ≠ 0 then (0, ⟨⟨#[]⟩, 0, (rd (s.data.toList.drop k)).c⟩) else ((rd (s.data.toList.drop k)).n, ⟨s, (k : Int) + (rd (s.data.toList.drop k)).k, 0⟩) := by
  unfold nxt
  have hin : 0 ≤ (k : Int) ∧ (k : Int) ≤ s.size := by omega
  simp only [ne_eq, not_true_eq_false, if_false]
  rw [if_neg (fun h => h hin), Int.toNat_natCast]
theorem getS_eq (s : ByteArray) (k : Int) : getS' s k = getS s.data.toList k := by
  have hsl : s.data.toList.length = s.size := by simp
  unfold getS
  by_cases h0 : k < 0 ∨ (s.data.toList.length : Int) ≤ k
  · rw [if_pos h0]
    have e : nxt rByte ⟨s, k, 0⟩ = (0, ⟨⟨#[]⟩, 0, 1⟩) := by
      by_cases h1 : 0 ≤ k ∧ k ≤ (s.size : Int)
      · obtain ⟨j, rfl⟩ := Int.eq_ofNat_of_zero_le h1.1
        rw [nxt_go rByte s j (by omega), List.drop_eq_nil_iff.2 (by omega)]
        rfl
      · unfold nxt
        simp only [ne_eq, not_true_eq_false, if_false]
        rw [if_pos h1]
    unfold getS'
    simp only [e]
    rw [nxt_stop rSize _ (by decide : (1 : Int) ≠ 0)]
    simp only
    rw [nxtS_stop _ _ (by decide : (1 : Int) ≠ 0)]
    simp only
    rw [nxt_stop rWord _ (by decide : (1 : Int) ≠ 0)]
    rfl
  · rw [if_neg h0]
    obtain ⟨j, rfl⟩ := Int.eq_ofNat_of_zero_le (show 0 ≤ k by omega)
    have hj : j < s.data.toList.length := by omega
    rw [Int.toNat_natCast]
    have hd := List.drop_eq_getElem_cons hj
    have e : nxt rByte ⟨s, (j : Int), 0⟩ = (((s.data.toList[j].toNat : Nat) : Int), (⟨s, ((j + 1 : Nat) : Int), 0⟩ : TxD)) := by
      rw [nxt_go rByte s j (by omega), hd]
      rfl
    have hgd : (s.data.toList[j]?.getD 0) = s.data.toList[j] := by rw [List.getElem?_eq_getElem hj]; rfl
    unfold getS'
    simp only [e]
    rw [nxt_go rSize s (j + 1) (by omega)]
    rw [hgd]
    generalize hD : s.data.toList.drop (j + 1) = D
    have hDl : D.length = s.size - (j + 1) := by rw [← hD, List.length_drop, hsl]
    cases hg : getN D with
    | none =>
      by_cases hl : lead D = D.length
      · have er : rSize D = ⟨0, 0, 1⟩ := by
          have : rNum D = ⟨0, 0, 1⟩ := by unfold rNum; rw [if_pos hl]
          unfold rSize; rw [this]; rfl
        simp only [er]
        rw [if_pos (by decide : (1 : Int) ≠ 0), if_pos hl]
        simp only
        rw [nxtS_stop _ _ (by decide : (1 : Int) ≠ 0)]
        simp only
        rw [nxt_stop rWord _ (by decide : (1 : Int) ≠ 0)]
        rfl
      · have er : rSize D = ⟨0, 0, 3⟩ := by
          have : rNum D = ⟨0, 0, 3⟩ := by unfold rNum; rw [if_neg hl, hg]
          unfold rSize; rw [this]; rfl
        simp only [er]
        rw [if_pos (by decide : (3 : Int) ≠ 0), if_neg hl]
        simp only
        rw [nxtS_stop _ _ (by decide : (3 : Int) ≠ 0)]
        simp only
        rw [nxt_stop rWord _ (by decide : (3 : Int) ≠ 0)]
        rfl
    | some p =>
      obtain ⟨n, m⟩ := p
      obtain ⟨hm, hlt, _, _, _⟩ := getN_some hg
      have hnum : rNum D = ⟨n, m, 0⟩ := by
        unfold rNum
        rw [if_neg (by omega), hg]
      simp only
      by_cases hn : n < 0 ∨ 200000 < n
      · have er : rSize D = ⟨0, 0, 3⟩ := by
          unfold rSize
          rw [hnum, if_pos ⟨rfl, by show ¬ (0 ≤ n ∧ n ≤ 200000); omega⟩]
        simp only [er]
        rw [if_pos (by decide : (3 : Int) ≠ 0), if_pos hn]
        simp only
        rw [nxtS_stop _ _ (by decide : (3 : Int) ≠ 0)]
        simp only
        rw [nxt_stop rWord _ (by decide : (3 : Int) ≠ 0)]
        rfl
      · have er : rSize D = ⟨n, m, 0⟩ := by
          unfold rSize
          rw [hnum, if_neg (fun h => h.2 (show 0 ≤ n ∧ n ≤ 200000 by omega))]
        simp only [er]
        rw [if_neg (by decide : ¬ (0 : Int) ≠ 0), if_neg hn]
        simp only
        obtain ⟨q, rfl⟩ := Int.eq_ofNat_of_zero_le (show 0 ≤ n by omega)
        rw [Int.toNat_natCast, hsl]
        have hat : ((j + 1 : Nat) : Int) + (m : Int) = ((j + 1 + m : Nat) : Int) := by omega
        rw [hat]
        have hin : 0 ≤ ((j + 1 + m : Nat) : Int) ∧ ((j + 1 + m : Nat) : Int) ≤ (s.size : Int) := by omega
        by_cases hshort : s.size < j + 1 + m + q
        · have e2 : nxtS q ⟨s, ((j + 1 + m : Nat) : Int), 0⟩ = ([], ⟨⟨#[]⟩, 0, 1⟩) := by
            unfold nxtS
            simp only [ne_eq, not_true_eq_false, if_false]
            rw [if_neg (fun h => h hin), Int.toNat_natCast, if_pos hshort]
          simp only [e2]
          have h4 : s.size < j + 1 + m + q + 4 := by omega
          rw [nxt_stop rWord _ (by decide : (1 : Int) ≠ 0), if_pos h4]
          rfl
        · have e2 : nxtS q ⟨s, ((j + 1 + m : Nat) : Int), 0⟩ = ((s.data.toList.drop (j + 1 + m)).take q, (⟨s, ((j + 1 + m + q : Nat) : Int), 0⟩ : TxD)) := by
            unfold nxtS
            simp only [ne_eq, not_true_eq_false, if_false]
            rw [if_neg (fun h => h hin), Int.toNat_natCast, if_neg hshort]
            rfl
          simp only [e2]
          rw [nxt_go rWord s (j + 1 + m + q) (by omega)]
          by_cases h4 : s.size < j + 1 + m + q + 4
          · have er : rWord (s.data.toList.drop (j + 1 + m + q)) = ⟨0, 0, 1⟩ := by
              unfold rWord
              rw [if_pos (by rw [List.length_drop, hsl]; omega)]
            simp only [er]
            rw [if_pos (by decide : (1 : Int) ≠ 0), if_pos h4]
            rfl
          · have er : rWord (s.data.toList.drop (j + 1 + m + q)) = ⟨getW (s.data.toList.drop (j + 1 + m + q)), 4, 0⟩ := by
              unfold rWord
              rw [if_neg (by rw [List.length_drop, hsl]; omega)]
            simp only [er]
            rw [if_neg (by decide : ¬ (0 : Int) ≠ 0), if_neg h4]
            simp only
            by_cases hw : getW (s.data.toList.drop (j + 1 + m + q)) = crc ((s.data.toList.drop (j + 1 + m)).take q)
            · have hA : ¬ (getW (s.data.toList.drop (j + 1 + m + q)) ≠ crc ((s.data.toList.drop (j + 1 + m)).take q)) := fun h => h hw
              have hB : ((getW (s.data.toList.drop (j + 1 + m + q)) : Nat) : Int) = (crc ((s.data.toList.drop (j + 1 + m)).take q) : Nat) := by rw [hw]
              rw [if_neg hA, if_pos trivial, if_pos hB]
              simp only [SecR.mk.injEq, true_and, and_true]
              omega
            · have hB : ¬ ((getW (s.data.toList.drop (j + 1 + m + q)) : Nat) : Int) = (crc ((s.data.toList.drop (j + 1 + m)).take q) : Nat) := fun h => hw (by omega)
              rw [if_pos hw, if_pos trivial, if_neg hB]

theorem rSize_n (l : List UInt8) (t : TxD) : 0 ≤ (nxt rSize t).1 := by
  unfold nxt
  split
  · exact Int.le_refl _
  split
  · exact Int.le_refl _
  split
  · exact Int.le_refl _
  · rename_i h
    have h' := Decidable.of_not_not h
    simp only
    unfold rSize at h' ⊢
    split
    · exact Int.le_refl _
    · rename_i h2
      rw [if_neg h2] at h'
      exact (Decidable.of_not_not (fun h3 => h2 ⟨h', h3⟩)).1
theorem nxtS_at (n : Nat) (t : TxD) (hs : t.s.size ≤ 140737488355328) (hat : I64 t.at_) : I64 (nxtS n t).2.at_ ∧ (nxtS n t).2.s.size ≤ 140737488355328 := by
  unfold nxtS
  split
  · exact ⟨hat, hs⟩
  split
  · exact ⟨i64_zero, (by decide : (⟨#[]⟩ : ByteArray).size ≤ 140737488355328)⟩
  split
  · exact ⟨i64_zero, (by decide : (⟨#[]⟩ : ByteArray).size ≤ 140737488355328)⟩
  · rename_i h1 h2 h3
    refine ⟨?_, hs⟩
    unfold I64 at hat ⊢
    simp only
    have h2' : 0 ≤ t.at_ ∧ t.at_ ≤ t.s.size := Decidable.of_not_not h2
    omega
theorem nxtS_len (n : Nat) (t : TxD) (hs : t.s.size ≤ 140737488355328) : (nxtS n t).1.length ≤ 140737488355328 := by
  unfold nxtS
  split
  · simp
  split
  · simp
  split
  · simp
  · have hsl : t.s.data.toList.length = t.s.size := by simp
    simp only [List.length_take, List.length_drop]
    omega

theorem below_then {a w w' : World} (h : Below a.heap.size a w) (hg : w.grownBy w' (some a.heap.size)) : Below a.heap.size a w' :=
  ⟨hg.os.trans h.os, hg.tape.trans h.tape, hg.output.trans h.output, Nat.le_trans h.size hg.size, fun k hk => (hg.block k (Nat.lt_of_lt_of_le hk h.size) (fun e => by cases e; omega)).trans (h.block k hk)⟩
theorem belowDrawn {B : Nat} {a w : World} (h : Below B a w) (n : Nat) : Below B a (w.drewN n) := ⟨h.os, h.tape, h.output, h.size, h.block⟩
set_option maxRecDepth 100000 in
set_option maxHeartbeats 2000000 in
theorem getSection_any (s : ByteArray) (hs : s.size ≤ 140737488355328) (k : Int) (hk : I64 k) (w : World) :
    Calls Try.prog 22 #[.string s, .int .i64 k] w fun e w' => e = .returned (getS' s k).val ∧ Below w.heap.size w w' := by
  have hB : TxBox (w.alloc (.cells #[.string s, .int .i64 k, .int .i64 0] 51)) w.heap.size ⟨s, k, 0⟩ := heap_alloc_new w _
  have HN1 := Lib.hid (next_readByte w.heap.size ⟨s, k, 0⟩ hs hk _ hB)
  have ho1 := nxt_at rByte rByte_ok ⟨s, k, 0⟩ hs hk
  obtain ⟨a, ha⟩ : ∃ a, a = nxt rByte ⟨s, k, 0⟩ := ⟨_, rfl⟩
  have ho2 := nxt_at rSize rSize_ok a.2 (by rw [ha]; exact ho1.2) (by rw [ha]; exact ho1.1)
  obtain ⟨b, hb⟩ : ∃ b, b = nxt rSize a.2 := ⟨_, rfl⟩
  have hb0 : 0 ≤ b.1 := by rw [hb]; exact rSize_n [] a.2
  have ho3 := nxtS_at b.1.toNat b.2 (by rw [hb]; exact ho2.2) (by rw [hb]; exact ho2.1)
  have hcl := nxtS_len b.1.toNat b.2 (by rw [hb]; exact ho2.2)
  obtain ⟨c, hc⟩ : ∃ c, c = nxtS b.1.toNat b.2 := ⟨_, rfl⟩
  obtain ⟨d, hd⟩ : ∃ d, d = nxt rWord c.2 := ⟨_, rfl⟩
  have hg : getS' s k = if d.2.c = 0 then if d.1 = (crc c.1 : Nat) then ⟨a.1, c.1, d.2.at_, 0⟩ else noSec 2 else noSec d.2.c := by
    rw [hd, hc, hb, ha]; rfl
  rw [← ha] at HN1 ho1
  have HN2 := Lib.hid (fun v (h : TxBox v w.heap.size a.2) => next_readSize w.heap.size a.2 ho1.2 ho1.1 v h)
  rw [← hb] at HN2 ho2
  have HN3 := Lib.hid (fun v C (h : TxBox v w.heap.size b.2) (h2 : v.cell? ⟨C, 0, none⟩ = some (.int .i64 (b.1.toNat : Int))) => next_body w.heap.size b.2 ho2.2 ho2.1 b.1.toNat C v h h2)
  rw [← hc] at HN3 ho3 hcl
  have HN4 := Lib.hid (fun v (h : TxBox v w.heap.size c.2) => next_readWord w.heap.size c.2 ho3.2 ho3.1 v h)
  rw [← hd] at HN4
  have HCR := Lib.hid (fun v => crc_any ⟨c.1.toArray⟩ (by show c.1.toArray.size ≤ _; rw [List.size_toArray]; omega) v)
  have HRO := Lib.hid (fun v => readerOf_any (b.1.toNat : Int) v)
  rw [Int.toNat_of_nonneg hb0] at HN3 HRO
  clear ha hb hc hd ho1 ho2 ho3 hcl hb0
  obtain ⟨ga, ta⟩ := a
  obtain ⟨gb, tb⟩ := b
  obtain ⟨gc, tc⟩ := c
  obtain ⟨gd, td⟩ := d
  rw [hg]
  simp only at HN1 HN2 HN3 HN4 HCR HRO ⊢
  clear hg hB
  by_cases hc0 : td.c = 0
  · rw [if_pos hc0]
    obtain ⟨x, hx⟩ : ∃ x : Int, x = (crc gc : Nat) := ⟨_, rfl⟩
    rw [← hx]
    have hx' : ((crc (⟨gc.toArray⟩ : ByteArray).data.toList : Nat) : Int) = x := by rw [hx]
    rw [hx'] at HCR
    have HX := Lib.hid hx
    clear hx hx'
    by_cases hsum : gd = x
    · rw [if_pos hsum]
      subst hsum
      go_enter Try.func22, Try.ntmps22
      go_wp2_with fail
      refine HN1.out.mono ?_
      rintro e1 w1 ⟨rfl, g1, b1⟩
      have B1 := Lib.hid b1
      have G1 := Lib.hid (below_box_grown g1)
      clear b1 g1
      go_wp2_with fail
      refine (HN2.out _ B1.out).mono ?_
      rintro e2 w2 ⟨rfl, g2, b2⟩
      have B2 := Lib.hid (b2.below (below_box w2 (.cells #[.int .i64 gb] 3)))
      have C2 := Lib.hid (cell_of_heap (heap_alloc_new w2 (.cells #[.int .i64 gb] 3)) 0 _ rfl)
      have G2 := Lib.hid (below_trans (below_then G1.out g2) (below_box w2 (.cells #[.int .i64 gb] 3)))
      clear b2 g2
      go_wp2_with fail
      refine (HRO.out _).mono ?_
      rintro e3 w3 ⟨rfl, rfl⟩
      go_wp2_with fail
      refine (HN3.out _ _ B2.out C2.out).mono ?_
      rintro e4 w4 ⟨rfl, g4, b4⟩
      have B4 := Lib.hid b4
      have G4 := Lib.hid (below_then G2.out g4)
      clear b4 g4
      go_wp2_with fail
      refine (HN4.out _ B4.out).mono ?_
      rintro e5 w5 ⟨rfl, g5, b5⟩
      have G5 := Lib.hid (below_then G4.out g5)
      have f1 := b5.c1
      have f2 := b5.c2
      have B5 := Lib.hid b5
      clear b5 g5
      rw [hc0] at f2
      go_wp2_with (go_at_call 29; refine (HCR.out _).mono ?_; rintro e6 w6 ⟨rfl, rfl⟩)
      go_quiet (fail)
      go_wp2
      exact bodyPost_ret (v := .tuple #[.int .i64 ga, .string ⟨gc.toArray⟩, .int .i64 td.at_, .int .i64 0]) (by simp [results, Try.results22, go_sem]) rfl ⟨rfl, belowDrawn G5.out _⟩
    · rw [if_neg hsum]
      have hne : (gd == x) = false := beq_eq_false_iff_ne.2 hsum
      have hnn : (gd != x) = true := bne_iff_ne.2 hsum
      clear hsum
      go_enter Try.func22, Try.ntmps22
      go_wp2_with fail
      refine HN1.out.mono ?_
      rintro e1 w1 ⟨rfl, g1, b1⟩
      have B1 := Lib.hid b1
      have G1 := Lib.hid (below_box_grown g1)
      clear b1 g1
      go_wp2_with fail
      refine (HN2.out _ B1.out).mono ?_
      rintro e2 w2 ⟨rfl, g2, b2⟩
      have B2 := Lib.hid (b2.below (below_box w2 (.cells #[.int .i64 gb] 3)))
      have C2 := Lib.hid (cell_of_heap (heap_alloc_new w2 (.cells #[.int .i64 gb] 3)) 0 _ rfl)
      have G2 := Lib.hid (below_trans (below_then G1.out g2) (below_box w2 (.cells #[.int .i64 gb] 3)))
      clear b2 g2
      go_wp2_with fail
      refine (HRO.out _).mono ?_
      rintro e3 w3 ⟨rfl, rfl⟩
      go_wp2_with fail
      refine (HN3.out _ _ B2.out C2.out).mono ?_
      rintro e4 w4 ⟨rfl, g4, b4⟩
      have B4 := Lib.hid b4
      have G4 := Lib.hid (below_then G2.out g4)
      clear b4 g4
      go_wp2_with fail
      refine (HN4.out _ B4.out).mono ?_
      rintro e5 w5 ⟨rfl, g5, b5⟩
      have G5 := Lib.hid (below_then G4.out g5)
      have f1 := b5.c1
      have f2 := b5.c2
      have B5 := Lib.hid b5
      clear b5 g5
      rw [hc0] at f2
      go_wp2_with (first
        | (go_at_call 29; refine (HCR.out _).mono ?_; rintro e6 w6 ⟨rfl, rfl⟩)
        | (go_at_call 51; refine (refuse_any w.heap.size _ 2 _ B5.out).mono ?_; rintro e7 w7 ⟨rfl, g7, b7⟩; have G7 := below_then G5.out g7; have h2 : w7.cell? ⟨w.heap.size, 2, none⟩ = some (.int .i64 2) := b7.c2))
      go_quiet (fail)
      go_wp2
      exact bodyPost_ret (v := .tuple #[.int .i64 0, .string ⟨#[]⟩, .int .i64 0, .int .i64 2]) (by simp [results, Try.results22, go_sem]) rfl ⟨rfl, belowDrawn G7 _⟩
  · rw [if_neg hc0]
    have hcb : (td.c == 0) = false := beq_eq_false_iff_ne.2 hc0
    have hcn : (td.c != 0) = true := bne_iff_ne.2 hc0
    clear hc0
    go_enter Try.func22, Try.ntmps22
    go_wp2_with fail
    refine HN1.out.mono ?_
    rintro e1 w1 ⟨rfl, g1, b1⟩
    have B1 := Lib.hid b1
    have G1 := Lib.hid (below_box_grown g1)
    clear b1 g1
    go_wp2_with fail
    refine (HN2.out _ B1.out).mono ?_
    rintro e2 w2 ⟨rfl, g2, b2⟩
    have B2 := Lib.hid (b2.below (below_box w2 (.cells #[.int .i64 gb] 3)))
    have C2 := Lib.hid (cell_of_heap (heap_alloc_new w2 (.cells #[.int .i64 gb] 3)) 0 _ rfl)
    have G2 := Lib.hid (below_trans (below_then G1.out g2) (below_box w2 (.cells #[.int .i64 gb] 3)))
    clear b2 g2
    go_wp2_with fail
    refine (HRO.out _).mono ?_
    rintro e3 w3 ⟨rfl, rfl⟩
    go_wp2_with fail
    refine (HN3.out _ _ B2.out C2.out).mono ?_
    rintro e4 w4 ⟨rfl, g4, b4⟩
    have B4 := Lib.hid b4
    have G4 := Lib.hid (below_then G2.out g4)
    clear b4 g4
    go_wp2_with fail
    refine (HN4.out _ B4.out).mono ?_
    rintro e5 w5 ⟨rfl, g5, b5⟩
    have G5 := Lib.hid (below_then G4.out g5)
    have f1 := b5.c1
    have f2 := b5.c2
    have B5 := Lib.hid b5
    clear b5 g5
    go_wp2_with fail
    go_quiet (fail)
    go_wp2
    exact bodyPost_ret (v := .tuple #[.int .i64 0, .string ⟨#[]⟩, .int .i64 0, .int .i64 td.c]) (by simp [results, Try.results22, go_sem]) rfl ⟨rfl, belowDrawn G5.out _⟩
end Go.Proofs.Ytedhallhdhlhhaa

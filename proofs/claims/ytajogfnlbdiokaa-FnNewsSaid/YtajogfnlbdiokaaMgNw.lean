import Derived.Test.YtajogfnlbdiokaaInts
import Derived.ChangeOld
import Derived.Below
import Derived.OneCell
import Derived.Test.YtajogfnlbdiokaaTakeD
import Derived.Test.YtajogfnlbdiokaaWordsOf
import Derived.Test.YtajogfnlbdiokaaISoil
import Derived.Test.YtajogfnlbdiokaaMgA
import Derived.Test.YtajogfnlbdiokaaImplE
import Derived.Test.YtajogfnlbdiokaaMgPlc
import Derived.Lib.SliceRun
import Derived.Deep.DeepCutAuto
import Derived.Deep.CutRange
import Derived.Outline
import Derived.Maps.OwnSet
import Derived.Maps.OwnOps

/-
  The contracts of the draws' cursor (l1New, l1Byte, l1Below, l1Once, l1PickInt).
-/
namespace Go.Proofs.Ytajogfnlbdiokaa
open Go.RowKit
set_option linter.unusedVariables false

/-- WHAT IS KNOWN OF THE BYTES OF A DRAW: they lie, whatever they are. -/
def Bytes (w : World) (a : Option Addr) (len : Nat) : Prop :=
  len ≤ maxLen ∧ ∀ j, j < len → ∃ b off x, a = some ⟨b, off, none⟩ ∧ 0 ≤ x ∧ x < 256 ∧ w.cell? ⟨b, off + j, none⟩ = some (.int .u8 x)

/-- BLOCK B IS A CURSOR over these bytes. -/
def Cur (w : World) (B : Nat) (a : Option Addr) (len : Nat) : Prop :=
  ∃ cap i h, w.heap[B]? = some (.cells #[.slice a len cap, .int .i64 i, .int .i64 h] 131 (0, 0)) ∧ 0 ≤ i

theorem i64_and255 (n : Int) : bits .and .i64 n 255 = n % 256 := by
  have h127 : (BitVec.ofInt 64 255).toNat = 2 ^ 8 - 1 := by decide
  have key : (BitVec.ofInt 64 n &&& BitVec.ofInt 64 255).toNat = (n % ((2 ^ 64 : Nat) : Int)).toNat % 2 ^ 8 := by
    rw [BitVec.toNat_and, BitVec.toNat_ofInt, h127, Nat.and_two_pow_sub_one_eq_mod]
  show IntKind.i64.wrap ((BitVec.ofInt 64 n &&& BitVec.ofInt 64 255).toNat : Nat) = n % 256
  rw [key, IntKind.wrap_i64]
  omega
theorem i64_and30 (n : Int) : bits .and .i64 n 1073741823 = n % 1073741824 := by
  have h127 : (BitVec.ofInt 64 1073741823).toNat = 2 ^ 30 - 1 := by decide
  have key : (BitVec.ofInt 64 n &&& BitVec.ofInt 64 1073741823).toNat = (n % ((2 ^ 64 : Nat) : Int)).toNat % 2 ^ 30 := by
    rw [BitVec.toNat_and, BitVec.toNat_ofInt, h127, Nat.and_two_pow_sub_one_eq_mod]
  show IntKind.i64.wrap ((BitVec.ofInt 64 n &&& BitVec.ofInt 64 1073741823).toNat : Nat) = n % 1073741824
  rw [key, IntKind.wrap_i64]
  omega

theorem byte_in (n : Int) : 0 ≤ bits .and .i64 n 255 ∧ bits .and .i64 n 255 ≤ 255 := by rw [i64_and255]; omega

theorem grown_drewN {w w' : World} {row : Option Nat} (h : w.grownBy w' row) (n : Nat) : w.grownBy (w'.drewN n) row := ⟨h.os, h.tape, h.output, h.size, h.block⟩
theorem cur_set2 {w : World} {B : Nat} {u v x : Value} (h : w.heap[B]? = some (.cells #[u, v, x] 131 (0, 0))) (h' : Int) : (w.setCell ⟨B, 2, none⟩ (.int .i64 h')).heap[B]? = some (.cells #[u, v, .int .i64 h'] 131 (0, 0)) := by
  rw [heap_setCell_same w B 2 _ _ _ h]; rfl
theorem cur_set1 {w : World} {B len cap : Nat} {a : Option Addr} {v : Value} {i h : Int} (hh : w.heap[B]? = some (.cells #[.slice a len cap, v, .int .i64 h] 131 (0, 0))) (hi : 0 ≤ i) (n : Nat) : Cur ((w.drewN n).setCell ⟨B, 1, none⟩ (.int .i64 i)) B a len :=
  ⟨cap, i, h, by rw [heap_setCell_same (w.drewN n) B 1 _ _ _ hh]; rfl, hi⟩

set_option maxHeartbeats 1000000 in
theorem l1Byte_any (B : Nat) (a : Option Addr) (len : Nat) (w : World) (hb : Bytes w a len) (hc : Cur w B a len) (n₀ : Nat) (hn : n₀ ≤ B) (ha : 0 < len → ∀ x, a = some x → x.block < n₀) :
    Calls Try.prog 160 #[.pointer (some ⟨B, 0, none⟩)] w fun e w' => ∃ x : Int, e = .returned (.int .i64 x) ∧ 0 ≤ x ∧ x ≤ 255 ∧ w.grownBy w' (some B) ∧ Cur w' B a len := by
  obtain ⟨cap, i, h, hh, hi⟩ := hc
  have hlen := hb.1
  unfold maxLen at hlen
  have f0 : w.cell? ⟨B, 0, none⟩ = some (.slice a len cap) := cell_of_heap hh 0 _ rfl
  have f1 : w.cell? ⟨B, 1, none⟩ = some (.int .i64 i) := cell_of_heap hh 1 _ rfl
  have f2 : w.cell? ⟨B, 2, none⟩ = some (.int .i64 h) := cell_of_heap hh 2 _ rfl
  have z1 := frozen_of_heap hh 1
  have z2 := frozen_of_heap hh 2
  obtain ⟨hh⟩ : Nonempty (Hid _) := ⟨Lib.hid hh⟩
  by_cases hlt : i < (len : Int)
  · obtain ⟨b1, o1, x1, rfl, hx0, hx1, hcx⟩ := hb.2 i.toNat (by omega)
    have hne : b1 < n₀ := ha (by omega) _ rfl
    have hne' : ¬ b1 = B := by omega
    have hne'' : ¬ B = b1 := by omega
    obtain ⟨j, rfl⟩ := Int.eq_ofNat_of_zero_le hi
    rw [Int.toNat_natCast] at hcx
    clear hb ha
    go_enter Try.func160, Try.ntmps160
    go_wp2
    go_quiet (fail)
    generalize wrap64 (wrap64 (h * 6364136223846793005) + 1442695040888963407) = h'
    go_wp2
    go_quiet (fail)
    go_wp2
    go_quiet (fail)
    go_wp2
    go_ret
    exact ⟨_, rfl, (byte_in _).1, (byte_in _).2, grow_trans (grown_drewN (grown_set _ _ _ _) _) (grown_set _ _ _ _), cur_set1 (cur_set2 hh.out h') (by omega) _⟩
  · clear hb ha
    go_enter Try.func160, Try.ntmps160
    go_wp2
    go_quiet (fail)
    generalize wrap64 (wrap64 (h * 6364136223846793005) + 1442695040888963407) = h'
    go_wp2
    go_quiet (fail)
    go_wp2
    go_ret
    exact ⟨_, rfl, (byte_in _).1, (byte_in _).2, grown_drewN (grown_drewN (grown_set _ _ _ _) _) _, _, _, _, cur_set2 hh.out h', hi⟩

theorem Bytes.below {w w' : World} {a : Option Addr} {len n₀ : Nat} (h : Bytes w a len) (ha : 0 < len → ∀ x, a = some x → x.block < n₀) (hb : Below n₀ w w') : Bytes w' a len :=
  ⟨h.1, fun j hj => by
    obtain ⟨b, off, x, rfl, h0, h1, hc⟩ := h.2 j hj
    exact ⟨b, off, x, rfl, h0, h1, (hb.cell (p := ⟨b, off + j, none⟩) (ha (by omega) ⟨b, off, none⟩ rfl)).trans hc⟩⟩

/-- WHAT A DRAW KEEPS: the cursor of block B, over bytes that lie below n₀. -/
structure At (w : World) (n₀ B : Nat) (a : Option Addr) (len : Nat) : Prop where
  bytes : Bytes w a len
  cur : Cur w B a len
  le : n₀ ≤ B
  low : 0 < len → ∀ x, a = some x → x.block < n₀

theorem At.lt {w : World} {n₀ B len : Nat} {a : Option Addr} (h : At w n₀ B a len) : B < w.heap.size := by
  obtain ⟨_, _, _, hh, _⟩ := h.cur
  exact (Array.getElem?_eq_some_iff.1 hh).1
theorem At.below {w w' : World} {n₀ B len : Nat} {a : Option Addr} (h : At w n₀ B a len) (hg : w.grownBy w' (some B)) : Below n₀ w w' :=
  (Below.refl n₀ w).grown hg (by have := h.lt; have := h.le; omega) (fun k e => by cases e; exact h.le)
theorem At.step {w w' : World} {n₀ B len : Nat} {a : Option Addr} (h : At w n₀ B a len) (hg : w.grownBy w' (some B)) (hc : Cur w' B a len) : At w' n₀ B a len :=
  ⟨h.bytes.below h.low (h.below hg), hc, h.le, h.low⟩
theorem At.kept {w w' : World} {n₀ B len : Nat} {a : Option Addr} (h : At w n₀ B a len) (hb : Below w.heap.size w w') : At w' n₀ B a len := by
  obtain ⟨cap, i, q, hh, hi⟩ := h.cur
  exact ⟨h.bytes.below h.low (hb.mono (by have := h.lt; have := h.le; omega)), ⟨cap, i, q, (hb.block B h.lt).trans hh, hi⟩, h.le, h.low⟩

theorem byte_at {w : World} {n₀ B len : Nat} {a : Option Addr} (h : At w n₀ B a len) :
    Calls Try.prog 160 #[.pointer (some ⟨B, 0, none⟩)] w fun e w' => ∃ x : Int, e = .returned (.int .i64 x) ∧ 0 ≤ x ∧ x ≤ 255 ∧ w.grownBy w' (some B) ∧ At w' n₀ B a len :=
  (l1Byte_any B a len w h.bytes h.cur n₀ h.le h.low).mono fun _ _ ⟨x, he, h0, h1, hb, hc⟩ => ⟨x, he, h0, h1, hb, h.step hb hc⟩

set_option maxHeartbeats 1000000 in
theorem below_at {w : World} {n₀ B len : Nat} {a : Option Addr} (h : At w n₀ B a len) (n : Int) (hn : 1 ≤ n) :
    Calls Try.prog 113 #[.pointer (some ⟨B, 0, none⟩), .int .i64 n] w fun e w' => ∃ x : Int, e = .returned (.int .i64 x) ∧ 0 ≤ x ∧ x < n ∧ w.grownBy w' (some B) ∧ At w' n₀ B a len := by
  by_cases hs : n ≤ 256
  · go_enter Try.func113, Try.ntmps113
    go_wp2_with fail
    refine (byte_at h).mono ?_
    rintro e w1 ⟨x, rfl, h0, h1, hb, hat⟩
    go_wp2
    go_ret
    exact ⟨_, rfl, Int.emod_nonneg _ (by omega), Int.emod_lt_of_pos _ (by omega), hb, hat⟩
  · go_enter Try.func113, Try.ntmps113
    go_wp2_with fail
    refine (byte_at h).mono ?_
    rintro e w1 ⟨x1, rfl, h01, h11, hb1, hat1⟩
    go_wp2_with fail
    refine (byte_at hat1).mono ?_
    rintro e w2 ⟨x2, rfl, h02, h12, hb2, hat2⟩
    go_wp2_with fail
    refine (byte_at hat2).mono ?_
    rintro e w3 ⟨x3, rfl, h03, h13, hb3, hat3⟩
    go_wp2_with fail
    refine (byte_at hat3).mono ?_
    rintro e w4 ⟨x4, rfl, h04, h14, hb4, hat4⟩
    go_wp2
    go_ret
    exact ⟨_, rfl, Int.emod_nonneg _ (by omega), Int.emod_lt_of_pos _ (by omega), grow_trans (grow_trans (grow_trans hb1 hb2) hb3) hb4, hat4⟩

set_option maxHeartbeats 1000000 in
/-- One of the numbers of a list. -/
theorem pickInt_at {w : World} {n₀ B len : Nat} {a : Option Addr} (h : At w n₀ B a len) (v : Value) (L : List Int) (hL : 1 ≤ L.length) (hr : ∀ w', w.grownBy w' (some B) → Rd w' v L) :
    Calls Try.prog 43 #[.pointer (some ⟨B, 0, none⟩), v] w fun e w' => ∃ x : Int, e = .returned (.int .i64 x) ∧ x ∈ L ∧ w.grownBy w' (some B) ∧ At w' n₀ B a len := by
  obtain ⟨a1, c1, rfl, hL', _⟩ := hr w (World.grownBy.refl _ _)
  unfold maxLen at hL'
  obtain ⟨hr⟩ : Nonempty (Hid _) := ⟨Lib.hid hr⟩
  go_enter Try.func43, Try.ntmps43
  go_wp2_with fail
  refine (below_at h L.length (by omega)).mono ?_
  rintro e w1 ⟨x, rfl, h0, h1, hb, hat⟩
  obtain ⟨a2, c2, he, _, r2⟩ := hr.out w1 hb
  obtain ⟨rfl, _, rfl⟩ : a1 = a2 ∧ L.length = L.length ∧ c1 = c2 := by simpa using he
  obtain ⟨j, rfl⟩ := Int.eq_ofNat_of_zero_le h0
  obtain ⟨b1, o1, rfl, x1⟩ := r2 j (by omega)
  have hj : j < L.length := by omega
  have hm : L[j]?.getD 0 ∈ L := by simp [hj]
  generalize L[j]?.getD 0 = y at *
  clear hr r2 he
  go_wp2
  go_ret
  exact ⟨_, rfl, hm, hb, hat⟩

theorem alloc_new (w : World) (o : Obj) : (w.alloc o).heap[w.heap.size]? = some o := heap_alloc_new w o

set_option maxRecDepth 100000 in
set_option maxHeartbeats 1000000 in
theorem new_any (a : Option Addr) (len cap : Nat) (w : World) (hb : Bytes w a len) (ha : 0 < len → ∀ x, a = some x → x.block < w.heap.size) :
    Calls Try.prog 42 #[.slice a len cap] w fun e w' => ∃ B, e = .returned (.pointer (some ⟨B, 0, none⟩)) ∧ Below w.heap.size w w' ∧ At w' w.heap.size B a len := by
  have hlen := hb.1
  unfold maxLen at hlen
  have hbb := Lib.hid hb.2
  go_enter Try.func42, Try.ntmps42
  go_wp2
  go_loop [3, 4] (fun h i => ∃ (k : Nat) (q : Int), k ≤ len ∧ i = .int .i64 k ∧ h = .int .i64 q) (fun _ i => len - (intOf i).toNat)
  case atStart => exact ⟨0, _, Nat.zero_le _, rfl, rfl⟩
  case round =>
    obtain ⟨k, q, hk, rfl, rfl⟩ := hrel
    by_cases hlt : k < len ∧ k < 4000
    · obtain ⟨hlt, h4⟩ := hlt
      obtain ⟨b1, o1, x1, rfl, hx0, hx1, hcx⟩ := hbb.out k hlt
      clear hb
      go_wp2
      go_round
      case rel => exact ⟨k + 1, _, by omega, by go_num, rfl⟩
      case measure => simp [intOf]; omega
    · by_cases hlt' : k < len
      · have h4 : ¬ k < 4000 := fun h => hlt ⟨hlt', h⟩
        have hbk := Lib.hid hb
        clear hb hlt
        go_wp2
        go_ret
        exact ⟨_, rfl, (Below.refl _ _).alloc (Nat.le_refl _) _, hbk.out.below ha ((Below.refl _ _).alloc (Nat.le_refl _) _), ⟨_, _, _, alloc_new w _, by omega⟩, Nat.le_refl _, ha⟩
      · have hbk := Lib.hid hb
        clear hb hlt
        go_wp2
        go_ret
        exact ⟨_, rfl, (Below.refl _ _).alloc (Nat.le_refl _) _, hbk.out.below ha ((Below.refl _ _).alloc (Nat.le_refl _) _), ⟨_, _, _, alloc_new w _, by omega⟩, Nat.le_refl _, ha⟩
end Go.Proofs.Ytajogfnlbdiokaa

/-
  The contract of DrawWorldNew.
-/
namespace Go.Proofs.Ytajogfnlbdiokaa
open Go.RowKit
set_option linter.unusedVariables false

theorem rd_new (w : World) (t : TypeId) (L : List Int) (hL : L.length ≤ 1000) : Rd (w.alloc (.cells (L.map (Value.int .i64)).toArray t)) (.slice (some ⟨w.heap.size, 0, none⟩) L.length L.length) L := by
  refine ⟨_, _, rfl, by unfold maxLen; omega, fun j hj => ⟨_, _, rfl, ?_⟩⟩
  rw [Nat.zero_add]
  exact cell_of_heap (alloc_new w _) j _ (by simp [hj])
theorem rd_grown {w w' : World} {g n c B : Nat} {L : List Int} (h : Rd w (.slice (some ⟨g, 0, none⟩) n c) L) (hg : w.grownBy w' (some B)) (hne : g ≠ B) : Rd w' (.slice (some ⟨g, 0, none⟩) n c) L := by
  obtain ⟨a, c', he, hm, hx⟩ := h
  refine ⟨a, c', he, hm, fun j hj => ?_⟩
  obtain ⟨b, o, ha, hc⟩ := hx j hj
  have hb : b = g := by
    have : some (⟨g, 0, none⟩ : Addr) = some ⟨b, o, none⟩ := by simp at he; rw [he.1]; exact ha
    simp at this
    exact this.1.symm
  exact ⟨b, o, ha, (World.cell?_of_block (hg.block b (cell_lt hc) (fun e => hne (hb.symm.trans (by simpa using e))))).trans hc⟩
set_option maxRecDepth 100000 in
set_option maxHeartbeats 4000000 in
theorem drawNew_any (a : Option Addr) (len cap : Nat) (w : World) (hb : Bytes w a len) (ha : 0 < len → ∀ x, a = some x → x.block < w.heap.size) :
    Calls Try.prog 11 #[.slice a len cap] w fun e w' => ∃ b p m : Int, e = .returned (.tuple #[.int .i64 b, .int .i64 p, .int .i64 m]) ∧ 0 ≤ p ∧ p ≤ 13 ∧ Below w.heap.size w w' := by
  have hnew := Lib.hid (new_any a len cap w hb ha)
  clear hb ha
  go_enter Try.func11, Try.ntmps11
  go_wp2_with fail
  refine hnew.out.mono ?_
  rintro e w1 ⟨B, rfl, b1, h1⟩
  have bb1 := Lib.hid b1
  have hh1 := Lib.hid h1
  clear b1 h1
  have c1 : Below w1.heap.size w1 (w1.alloc (.cells #[.int .i64 32, .int .i64 64, .int .i64 1024, .int .i64 1048576, .int .i64 1048608, .int .i64 0, .int .i64 33, .int .i64 (-32)] 3)) := (Below.refl _ _).alloc (Nat.le_refl _) _
  have hk1 := Lib.hid (hh1.out.kept c1)
  have hB1 := hh1.out.lt
  have hr1 := Lib.hid (show ∀ w', (w1.alloc (.cells #[.int .i64 32, .int .i64 64, .int .i64 1024, .int .i64 1048576, .int .i64 1048608, .int .i64 0, .int .i64 33, .int .i64 (-32)] 3)).grownBy w' (some B) → Rd w' (.slice (some ⟨w1.heap.size, 0, none⟩) 8 8) [32, 64, 1024, 1048576, 1048608, 0, 33, -32] from fun w' hg =>
    rd_grown (rd_new w1 3 [32, 64, 1024, 1048576, 1048608, 0, 33, -32] (by decide)) hg (by omega))
  have bc1 := Lib.hid (show Below w.heap.size w (w1.alloc (.cells #[.int .i64 32, .int .i64 64, .int .i64 1024, .int .i64 1048576, .int .i64 1048608, .int .i64 0, .int .i64 33, .int .i64 (-32)] 3)) from bb1.out.trans (c1.mono bb1.out.size))
  clear c1 hB1
  go_wp2_with fail
  refine (pickInt_at hk1.out _ [32, 64, 1024, 1048576, 1048608, 0, 33, -32] (by decide) hr1.out).mono ?_
  rintro e w2 ⟨b, rfl, hy1, g1, a1⟩
  have bb2 := Lib.hid (bc1.out.trans (hk1.out.below g1))
  have hh2 := Lib.hid a1
  clear hy1 g1 a1
  have c2 : Below w2.heap.size w2 (w2.alloc (.cells #[.int .i64 1, .int .i64 2, .int .i64 5, .int .i64 12, .int .i64 13, .int .i64 0] 3)) := (Below.refl _ _).alloc (Nat.le_refl _) _
  have hk2 := Lib.hid (hh2.out.kept c2)
  have hB2 := hh2.out.lt
  have hr2 := Lib.hid (show ∀ w', (w2.alloc (.cells #[.int .i64 1, .int .i64 2, .int .i64 5, .int .i64 12, .int .i64 13, .int .i64 0] 3)).grownBy w' (some B) → Rd w' (.slice (some ⟨w2.heap.size, 0, none⟩) 6 6) [1, 2, 5, 12, 13, 0] from fun w' hg =>
    rd_grown (rd_new w2 3 [1, 2, 5, 12, 13, 0] (by decide)) hg (by omega))
  have bc2 := Lib.hid (show Below w.heap.size w (w2.alloc (.cells #[.int .i64 1, .int .i64 2, .int .i64 5, .int .i64 12, .int .i64 13, .int .i64 0] 3)) from bb2.out.trans (c2.mono bb2.out.size))
  clear c2 hB2
  go_wp2_with fail
  refine (pickInt_at hk2.out _ [1, 2, 5, 12, 13, 0] (by decide) hr2.out).mono ?_
  rintro e w3 ⟨p, rfl, hy2, g2, a2⟩
  have bb3 := Lib.hid (bc2.out.trans (hk2.out.below g2))
  have hh3 := Lib.hid a2
  have hp : 0 ≤ p ∧ p ≤ 13 := by
    simp at hy2
    rcases hy2 with rfl | rfl | rfl | rfl | rfl | rfl <;> omega
  clear hy2 g2 a2
  have c3 : Below w3.heap.size w3 (w3.alloc (.cells #[.int .i64 1, .int .i64 2, .int .i64 3, .int .i64 4, .int .i64 0] 3)) := (Below.refl _ _).alloc (Nat.le_refl _) _
  have hk3 := Lib.hid (hh3.out.kept c3)
  have hB3 := hh3.out.lt
  have hr3 := Lib.hid (show ∀ w', (w3.alloc (.cells #[.int .i64 1, .int .i64 2, .int .i64 3, .int .i64 4, .int .i64 0] 3)).grownBy w' (some B) → Rd w' (.slice (some ⟨w3.heap.size, 0, none⟩) 5 5) [1, 2, 3, 4, 0] from fun w' hg =>
    rd_grown (rd_new w3 3 [1, 2, 3, 4, 0] (by decide)) hg (by omega))
  have bc3 := Lib.hid (show Below w.heap.size w (w3.alloc (.cells #[.int .i64 1, .int .i64 2, .int .i64 3, .int .i64 4, .int .i64 0] 3)) from bb3.out.trans (c3.mono bb3.out.size))
  clear c3 hB3
  go_wp2_with fail
  refine (pickInt_at hk3.out _ [1, 2, 3, 4, 0] (by decide) hr3.out).mono ?_
  rintro e w4 ⟨m, rfl, hy3, g3, a3⟩
  have bb4 := Lib.hid (bc3.out.trans (hk3.out.below g3))
  have hh4 := Lib.hid a3
  clear hy3 g3 a3
  have hp' := Lib.hid hp
  clear hp
  go_wp2_with fail
  refine bodyPost_ret (v := .tuple #[.int .i64 b, .int .i64 p, .int .i64 m]) (by simp [results, Try.results11, go_sem]) rfl ?_
  exact ⟨b, p, m, rfl, hp'.out.1, hp'.out.2, bb4.out⟩
end Go.Proofs.Ytajogfnlbdiokaa

/-
  The fresh World has the heap's form; the Worlds that laws.heaps goes through, in plain Lean.
-/
namespace Go.Proofs.Ytajogfnlbdiokaa
open Go.RowKit
set_option linter.unusedVariables false

theorem rep_zero (n i : Nat) : (List.replicate n (0 : Int))[i]?.getD 0 = 0 := by
  rw [List.getElem?_replicate]; split <;> rfl
theorem newD_form {b : Int} {p m : Nat} (g : Geo b p m) : HeapForm (newD b p m) where
  geo := by simpa [newD] using g
  words := by simp [newD]
  dirty := by simp [newD]
  spans := by simp [newD]
  ph0 := by simp [newD]
  ph1 := by simp [newD]
  span := fun k s h => by simp [newD] at h
  zero := fun i _ _ => rep_zero _ _
  roots := fun k r h => by
    have := List.eq_of_mem_replicate (List.mem_of_getElem? h)
    rw [this]; simp
theorem newD_used (b : Int) (p m : Nat) : usedN (newD b p m) = 0 := by simp [usedN, usedK, newD]

/-- The span that an object of 3 words has made. -/
def hS : SpanD := takeS (freshS (newD 64 2 1) 1 0) 0 3 1
def hD : WD := takeD (insD (newD 64 2 1) 1 0) 0 (freshS (newD 64 2 1) 1 0) 0 3 1
theorem hD_spans : hD.spans = [hS] := rfl
theorem hS_val : hS = ⟨0, 1, 0, false, [3, 0, 0, 0, 0, 0, 0, 0], [1, 0, 0, 0, 0, 0, 0, 0]⟩ := by rfl
theorem hD_take : TakeIs (newD 64 2 1) 3 1 hD 64 true :=
  .inl ⟨⟨newD_form (by unfold Geo; omega), by omega, by omega, by omega, by omega⟩, insD (newD 64 2 1) 1 0, 0, 0, freshS (newD 64 2 1) 1 0,
    .inr ⟨fun i s h => by simp [newD] at h, ⟨by simp [newD], fun j s h => absurd h (by omega), fun s h => by simp [newD] at h⟩, by simp [newD], rfl, rfl⟩, rfl, rfl, by decide, rfl⟩
theorem hS_at : atW hS ((0 : Nat) : Int) = 0 := by decide
theorem hS_slot : ∀ i, i < hS.lens.length → SlotOk hS i := by
  rw [hS_val]
  intro i hi
  have hi8 : i < 8 := by simpa using hi
  have hb : ¬ bitI 0 i := by unfold bitI; simp
  have h3 : sz 1 = 4 := by decide
  rcases i with _ | _ | _ | _ | _ | _ | _ | _ | i
  · exact ⟨by simp, by simp [h3], by simp, by simp, fun h => by simp at h⟩
  all_goals first | omega | exact ⟨by simp, by simp [h3], by simp, by simp, fun _ => hb⟩
theorem hD_span {k : Nat} {s : SpanD} (h : hD.spans[k]? = some s) : k = 0 ∧ s = hS := by
  rw [hD_spans] at h
  cases k with
  | zero => exact ⟨rfl, by simpa using h.symm⟩
  | succ k => simp at h
theorem hD_form : HeapForm hD where
  geo := by have : Geo 64 2 1 := by unfold Geo; omega
            exact this
  words := by rfl
  dirty := by rfl
  spans := by rw [hD_spans]; decide
  ph0 := by decide
  ph1 := by decide
  span := fun k s h => by
    obtain ⟨rfl, rfl⟩ := hD_span h
    exact ⟨by decide, by decide, fun s' h => absurd rfl h, by decide, by decide, by decide, hS_slot, by decide, by decide⟩
  zero := fun i _ _ => rep_zero 64 i
  roots := fun k r h => by
    have := List.eq_of_mem_replicate (List.mem_of_getElem? (show (List.replicate 1 (List.replicate 6 (0 : Int)))[k]? = some r from h))
    rw [this]; simp
theorem hD_obj : IsObj hD 64 0 0 := ⟨hS, rfl, by decide, by decide, by decide⟩
theorem hD_find : FindIs hD 64 (.returned (.tuple #[.int .i64 0, .int .i64 0])) := FindIs.yes hD_form hD_obj
theorem hD_addr : AddrIs hD 0 1 (.returned (.int .i64 68)) := AddrIs.yes (D := hD) (k := 0) (slot := 1) (s := hS) ⟨hD_form, by omega, rfl, by omega, by decide⟩
theorem hD_used : usedN hD = 4 := by decide
theorem hD_empty : EmptyS (giveS hS 0) := by
  intro i hi
  have e : (giveS hS 0).lens = List.replicate 8 0 := by rfl
  rw [e, rep_zero]
  omega
theorem hD_give {D' : WD} {f : Bool} (h : GiveIs hD 64 D' f) : D'.spans = [] ∧ f = true := by
  have h0 : GiveIs hD 64 { giveD hD 0 hS 0 with spans := (giveD hD 0 hS 0).spans.eraseIdx 0 } true := .inl ⟨0, 0, hS, hD_form, hD_obj, rfl, rfl, .inl ⟨hD_empty, rfl⟩⟩
  obtain ⟨rfl, rfl⟩ := h0.unique h
  exact ⟨rfl, rfl⟩
end Go.Proofs.Ytajogfnlbdiokaa

/-
  The contract of the program's World.soil once more: no block but the World's own turns.
-/
namespace Go.Proofs.Ytajogfnlbdiokaa
open Go.RowKit Go.Shelf
set_option linter.unusedVariables false

attribute [local go_sem] Oper.semAt_some

/-- What holds in the loop. -/
structure SoilJ (base B bx : Nat) (S : Shape) (D : WD) (f m : Int) (w0 : World) (pre : List Int) (W : World) : Prop where
  var : VarW W base B S { D with dirty := dirtyL f m D.dirty pre }
  box : Boxed W bx 76 (.pointer (some ⟨B, 0, none⟩))
  bel : Below base w0 W
  chg : Chg (blks S.all) w0 W
theorem soil2_own {base B bx n0 : Nat} {S : Shape} {D : WD} {f m : Int} {w0 : World} (hold : ∀ q, q ∈ blks S.all → q < n0) (hB : B < n0) (hbx : bx < n0) (hb0 : base ≤ w0.heap.size) (hw0 : w0.heap.size ≤ n0) : OwnFrom n0 (SoilJ base B bx S D f m w0) := by
  intro pre W W' row h hg hr
  have c : Chg row.toList W W' := Chg.of_grown hg fun x hx => by rw [hx]; simp
  have hm : ∀ q, q ∈ row.toList → n0 ≤ q := fun q hq => by
    cases row with
    | none => simp at hq
    | some r => simp at hq; subst hq; exact (hr q rfl).1
  refine ⟨h.var.chg c (fun k hk hq => by have := hold k hk; have := hm k hq; omega) (fun hq => by have := hm B hq; omega), h.box.kept hg fun e => by have := (hr bx e.symm).1; omega, ?_, ?_⟩
  · have hz := h.bel.size
    have hle := h.var.le
    exact Chg.below h.bel c (by omega) fun x hx => by have := hm x hx; omega
  · have hz := h.chg.size
    exact ⟨c.os.trans h.chg.os, c.tape.trans h.chg.tape, c.output.trans h.chg.output, Nat.le_trans hz c.size, fun k hk hn => (c.block k (by omega) (fun hq => by have := hm k hq; omega)).trans (h.chg.block k hk hn)⟩

set_option maxRecDepth 100000 in
set_option maxHeartbeats 4000000 in
theorem soil2_in (F : Fence) (n : Nat) (h15 : F.fn 74) (h31 : F.fn 136) (h33 : F.fn 164) (hro : F.round = none) (hn : 3 ≤ n) (base B : Nat) (S : Shape) (D : WD) (f m : Int) (hf0 : 0 ≤ f) (hf : f ≤ 1000000) (hm1 : 1 ≤ m) (hm : m ≤ 32) (hc : f + m ≤ 8 * (D.dirty.length : Int)) (w : World) (h : VarW w base B S D) :
    CallsIn F n Try.prog 74 #[.pointer (some ⟨B, 0, none⟩), .int .i64 f, .int .i64 m] w fun e W' => (∃ v, e = .returned v) ∧ VarW W' base B S { D with dirty := dirtyUp D.dirty f m } ∧ Below base w W' ∧ Chg (blks S.all) w W' := by
  have h1 : 1 ≤ n := by omega
  have hcnt := cnt_le (f := f) hm1 hm
  refine callsIn_of_wp_marks Try.func74 rfl h15 ?_ hro
  simp only [Try.ntmps74, List.size_toArray, List.length_cons, List.length_nil, Nat.reduceAdd, Nat.reduceSub, Array.replicate_succ, Array.replicate_zero, List.push_toArray, List.append_toArray, List.nil_append, List.cons_append]
  gi_wp2_with (gi_at_call 136; refine (cards_in F (n - 1) h31 hro _ _ _).mono ?_; rintro e w' ⟨rfl, rfl⟩)
  have bO := Boxed.new w 76 (.pointer (some ⟨B, 0, none⟩))
  have bF := Boxed.new (w.alloc (.cells #[.pointer (some ⟨B, 0, none⟩)] 76)) 3 (.int .i64 f)
  have bN := Boxed.new ((w.alloc (.cells #[.pointer (some ⟨B, 0, none⟩)] 76)).alloc (.cells #[.int .i64 f] 3)) 3 (.int .i64 m)
  rw [World.size_alloc] at bF bN
  rw [World.size_alloc] at bN
  have bF' := bF.alloc (.cells #[.int .i64 m] 3)
  have hB0 : Below w.heap.size w (((w.alloc (.cells #[.pointer (some ⟨B, 0, none⟩)] 76)).alloc (.cells #[.int .i64 f] 3)).alloc (.cells #[.int .i64 m] 3)) := (((Below.refl _ w).alloc (Nat.le_refl _) _).alloc (by simp) _).alloc (by simp; omega) _
  have hle := h.le
  have hlt := h.lt
  have hown := h.own.lt
  refine wpIn_rangeFunc_ownG hro h1 (gf := 164) (lb := #[.pointer (some ⟨w.heap.size + 1, 0, none⟩), .pointer (some ⟨w.heap.size + 1 + 1, 0, none⟩)]) rfl h33 (enters_of Try.func164 (by kernel_rfl) rfl)
    (cardsC_stops F (n - 1) h33 hro (by omega) (w.heap.size + 1) (w.heap.size + 1 + 1) base f m hf0 hf hm1 hm _ (by simp) (by simp) bF'.cell bN.cell) belowK_t (belowK_b (by simp; omega)) (Below.refl _ _) (fun _ => rfl)
    (SoilJ base B w.heap.size S D f m w)
    (fun _ _ _ => False)
    (soil2_own (fun q hq => by have := hown q hq; simp; omega) (by simp; omega) (by simp; omega) (by omega) (by simp; omega))
    (fun _ _ _ _ _ hs _ _ => hs)
    ⟨h.below hB0, (bO.alloc _).alloc _, hB0.mono (by omega), Chg.of_below hB0 _⟩
    (fun x => { tmps := #[.pointer (some ⟨B, 0, none⟩), .int .i64 f, .int .i64 m, .pointer (some ⟨w.heap.size, 0, none⟩), undef, undef, .int .i64 (clampC f m x), .int .i64 f, .int .i64 m, .func (.func 164) #[] #[.pointer (some ⟨w.heap.size + 1, 0, none⟩), .pointer (some ⟨w.heap.size + 1 + 1, 0, none⟩)], .int .i64 (clampC f m x), undef, undef, undef, undef, undef, undef], defers := [] }) ?assign ?body ?done ?stop
  case assign =>
    intro l x W K hK
    gi_wp2
    exact hK
  case body =>
    rintro l pre x W hI hlt
    obtain ⟨hv, hbx, hb, hch⟩ := hI
    have hc := hbx.cell
    have hcl := clampC_in (f := f) hm1 x
    have hsn := Lib.hid (dirtyL_snoc f m D.dirty pre x)
    obtain ⟨c, hcc⟩ := Int.eq_ofNat_of_zero_le (show 0 ≤ clampC f m x by omega)
    rw [hcc] at hcl hsn ⊢
    have hend : (f + m - 1) / 8 + 1 - f / 8 = (cnt f m : Int) := by unfold cnt; omega
    have hcd : c < D.dirty.length := by omega
    have hld := dirtyL_len f m D.dirty pre
    obtain ⟨gd, cd, hgd⟩ := hv.headD (by simp only [hld]; omega)
    have g3 := hv.cell 3 S.vd rfl
    rw [hgd] at g3
    simp only [hld] at g3
    have hrD := hv.own.dirty
    rw [hgd] at hrD
    have hold := hrD.cellAt c (by simp only [hld]; omega)
    have hfr := hrD.frozenAt c
    have hset := Lib.hid (hv.dirty hgd c true)
    have hbxs := Lib.hid hbx
    have hbl := Lib.hid hb
    have hgin := Lib.hid (show gd ∈ blks S.all from List.mem_filterMap.2 ⟨S.vd, by simp [Shape.all], by rw [hgd]; rfl⟩)
    have hchl := Lib.hid hch
    have hgdlt := Lib.hid (h.own.lt gd (List.mem_filterMap.2 ⟨S.vd, by simp [Shape.all], by rw [hgd]; rfl⟩))
    have hcd1 : (c : Int) < (D.dirty.length : Int) := by omega
    obtain ⟨u, hu⟩ : ∃ u, W.cell? ⟨gd, c, none⟩ = some (.bool u) := by
      rw [hold]
      simp only [List.getElem?_map]
      have : c < (dirtyL f m D.dirty pre).length := by omega
      rw [List.getElem?_eq_getElem this]
      exact ⟨_, rfl⟩
    have hmx := hv.rd.parts.2.1
    obtain ⟨_, _, _, hsm, _⟩ := hmx
    simp only [hld] at hsm
    unfold maxLen at hsm
    clear hold hrD hv hbx hb hcl hend hgd hch
    gi_wp2
    refine ⟨KeepsFrom.of_grownBy (grown_set W gd c (.bool true)) (fun j hj => by cases hj; have := hgdlt.out; simp; omega), hset.out.2, ⟨?_, hbxs.out.kept (grown_set W gd c (.bool true)) (fun e => by have := hgdlt.out; cases e; omega), hbl.out.trans hset.out.2, hchl.out.trans (Chg.of_grown (grown_set W gd c (.bool true)) (fun x hx => by cases hx; exact hgin.out))⟩⟩
    rw [hsn.out]
    exact hset.out.1
  case done =>
    rintro Dd ys W hD rfl hI hK
    obtain ⟨hv, hbx, hb, hch⟩ := hI
    rw [dirtyL_upto _ _ _ _ (Nat.le_refl _)] at hv
    gi_wp2
    refine ⟨by simp, .inl ⟨_, _, rfl, run_takeDeferred hK, ?_⟩⟩
    have cc := fun o : Obj => (Chg.of_grown (grownBy_putObj' W Dd o) (bs := [Dd]) (by simp))
    have hDd : w.heap.size ≤ Dd := by simp at hD; omega
    exact ⟨_, results_none rfl _ _ _, ⟨_, rfl⟩, hv.chg (cc _) (fun k hk hq => by have := hown k hk; rw [List.mem_singleton.1 hq] at this; omega) (fun hq => by have := List.mem_singleton.1 hq; omega), Chg.below hb (cc _) (by have := hb.size; omega) (fun x hx => by rw [List.mem_singleton.1 hx]; omega), ⟨(cc _).os.trans hch.os, (cc _).tape.trans hch.tape, (cc _).output.trans hch.output, Nat.le_trans hch.size (cc _).size, fun k hk hn => ((cc _).block k (by have := hch.size; omega) (fun hq => by have := List.mem_singleton.1 hq; omega)).trans (hch.block k hk hn)⟩⟩
  case stop =>
    rintro D c pre W _ _ h _
    exact h.elim
theorem soil2_any (base B : Nat) (S : Shape) (D : WD) (f m : Int) (hf0 : 0 ≤ f) (hf : f ≤ 1000000) (hm1 : 1 ≤ m) (hm : m ≤ 32) (hc : f + m ≤ 8 * (D.dirty.length : Int)) (w : World) (h : VarW w base B S D) :
    Calls Try.prog 74 #[.pointer (some ⟨B, 0, none⟩), .int .i64 f, .int .i64 m] w fun e W' => (∃ v, e = .returned v) ∧ VarW W' base B S { D with dirty := dirtyUp D.dirty f m } ∧ Below base w W' ∧ Chg (blks S.all) w W' :=
  (callsIn_wide (n := 3)).1 (soil2_in Fence.wide 3 trivial trivial trivial rfl (by omega) base B S D f m hf0 hf hm1 hm hc w h)
end Go.Proofs.Ytajogfnlbdiokaa

/-
  The contract of the program's Take, that of freePlace being a premise.
-/
namespace Go.Proofs.Ytajogfnlbdiokaa
open Go.RowKit
set_option linter.unusedVariables false

/-- What freePlace answers, and what becomes of the variable. -/
def FreeTo (D : WD) (c : Int) (base B : Nat) (S : Shape) (e : Ending) (w' : World) : Prop :=
  (∃ D1 k j S', PlaceIs D c D1 k j ∧ e = .returned (.tuple #[.agg #[.int .i64 (k : Int), .int .i64 (j : Int)], .bool true]) ∧ VarW w' base B S' D1) ∨
  (NoPlace D c ∧ e = .returned (.tuple #[.agg #[.int .i64 0, .int .i64 0], .bool false]) ∧ VarW w' base B S D)
theorem place_in {D : WD} {n : Int} (hF : HeapForm D) (h1 : 1 ≤ n) (h2 : n ≤ 16) {D1 : WD} {k j : Nat} (h : PlaceIs D (cl n) D1 k j) : ∃ s, D1.spans[k]? = some s ∧ SlotIn D1 s j ∧ n ≤ sz s.cls ∧ D1.base = D.base := by
  obtain ⟨-, -, hc, hz⟩ := cl_ok h1 h2
  rcases h with ⟨rfl, s, hs, hsc, hj, _⟩ | ⟨_, hp, hn, rfl, rfl⟩
  · exact ⟨s, hs, hF.slotIn hs hj, by rw [hsc]; exact hz, rfl⟩
  · exact ⟨freshS D (cl n) k, ins_at hp.1 _, fresh_in hF hc hp.1 hn, hz, rfl⟩
set_option maxRecDepth 100000 in
set_option maxHeartbeats 16000000 in
theorem itake_of (hfp : ∀ (base B : Nat) (S : Shape) (D : WD) (c : Int) (hls : D.spans.length ≤ 1000) (w : World) (h : VarW w base B S D), Calls Try.prog 72 #[.pointer (some ⟨B, 0, none⟩), .int .i64 c] w fun e w' => FreeTo D c base B S e w' ∧ Below base w w')
    (v : Value) (D : WD) (n p : Int) (hm : MarksIn D) (hs : Small D) (w : World) (hr : RdW w v D) :
    Calls Try.prog 22 #[v, .int .i64 n, .int .i64 p] w fun e w' => ∃ S D' a f, TakeIs D n p D' a f ∧ e = .returned (.tuple #[S.val D', .int .i64 a, .bool f]) ∧ OwnW w' w.heap.size S D' ∧ Below w.heap.size w w' := by
  have hfp' := Lib.hid hfp
  have hs' := Lib.hid hs
  have hm' := Lib.hid hm
  clear hs hm hfp
  obtain ⟨vw, vd, vs, vm, vg, rfl, a1, a2, a3, a4, a5⟩ := hr
  have bb := below_trans (below_box w (.cells #[.int .i64 D.base, .int .i64 D.pages, vw, vd, vs, vm, .int .i64 D.phase, .int .i64 D.next, vg] 32)) (below_box _ (.cells #[.int .i64 0, .int .i64 0, .slice none 0 0, .slice none 0 0, .slice none 0 0, .slice none 0 0, .int .i64 0, .int .i64 0, .slice none 0 0] 32))
  have hA := heap_below (below_box (w.alloc (.cells #[.int .i64 D.base, .int .i64 D.pages, vw, vd, vs, vm, .int .i64 D.phase, .int .i64 D.next, vg] 32)) (.cells #[.int .i64 0, .int .i64 0, .slice none 0 0, .slice none 0 0, .slice none 0 0, .slice none 0 0, .int .i64 0, .int .i64 0, .slice none 0 0] 32)) (box_new w (.cells #[.int .i64 D.base, .int .i64 D.pages, vw, vd, vs, vm, .int .i64 D.phase, .int .i64 D.next, vg] 32))
  have hR := box_new (w.alloc (.cells #[.int .i64 D.base, .int .i64 D.pages, vw, vd, vs, vm, .int .i64 D.phase, .int .i64 D.next, vg] 32)) (.cells #[.int .i64 0, .int .i64 0, .slice none 0 0, .slice none 0 0, .slice none 0 0, .slice none 0 0, .int .i64 0, .int .i64 0, .slice none 0 0] 32)
  rw [World.size_alloc] at hR
  have hW := Lib.hid (show RdW ((w.alloc (.cells #[.int .i64 D.base, .int .i64 D.pages, vw, vd, vs, vm, .int .i64 D.phase, .int .i64 D.next, vg] 32)).alloc (.cells #[.int .i64 0, .int .i64 0, .slice none 0 0, .slice none 0 0, .slice none 0 0, .slice none 0 0, .int .i64 0, .int .i64 0, .slice none 0 0] 32)) (.agg #[.int .i64 D.base, .int .i64 D.pages, vw, vd, vs, vm, .int .i64 D.phase, .int .i64 D.next, vg]) D from ⟨vw, vd, vs, vm, vg, rfl, a1.below bb, a2.below bb, a3.below bb, a4.below bb, a5.below bb⟩)
  have bb' := Lib.hid bb
  have hA' := Lib.hid hA
  have hR' := Lib.hid hR
  have hz := Lib.hid (show ((w.alloc (.cells #[.int .i64 D.base, .int .i64 D.pages, vw, vd, vs, vm, .int .i64 D.phase, .int .i64 D.next, vg] 32)).alloc (.cells #[.int .i64 0, .int .i64 0, .slice none 0 0, .slice none 0 0, .slice none 0 0, .slice none 0 0, .int .i64 0, .int .i64 0, .slice none 0 0] 32)).heap.size = w.heap.size + 1 + 1 by simp)
  clear a1 a2 a3 a4 a5 bb hA hR
  go_enter Try.func22, Try.ntmps22
  go_wp2_with fail
  generalize (w.alloc (.cells #[.int .i64 D.base, .int .i64 D.pages, vw, vd, vs, vm, .int .i64 D.phase, .int .i64 D.next, vg] 32)).alloc (.cells #[.int .i64 0, .int .i64 0, .slice none 0 0, .slice none 0 0, .slice none 0 0, .slice none 0 0, .int .i64 0, .int .i64 0, .slice none 0 0] 32) = W at *
  refine (formOkI_any _ D hm'.out _ hW.out).mono ?_
  rintro e w1 ⟨hq, b1⟩
  have hq := hq.elim
  have hR1 := heap_below b1 hR'.out
  have hA1 := heap_below b1 hA'.out
  have bb1 := Lib.hid (below_trans bb'.out b1)
  have hW1 := Lib.hid (hW.out.below b1)
  have hz1 := Lib.hid (show w.heap.size + 1 + 1 ≤ w1.heap.size by have := hz.out; have := b1.size; omega)
  by_cases hok : TakeOk D n p
  case neg =>
    have y := Lib.hid (show TakeIs D n p zeroD 0 false from .inr ⟨fun h => absurd h hok, rfl, rfl, rfl⟩)
    have hok' := Lib.hid hok
    have n0 := cell_of_heap hR1 0 _ rfl
    have n1 := cell_of_heap hR1 1 _ rfl
    have n2 := cell_of_heap hR1 2 _ rfl
    have n3 := cell_of_heap hR1 3 _ rfl
    have n4 := cell_of_heap hR1 4 _ rfl
    have n5 := cell_of_heap hR1 5 _ rfl
    have n6 := cell_of_heap hR1 6 _ rfl
    have n7 := cell_of_heap hR1 7 _ rfl
    have n8 := cell_of_heap hR1 8 _ rfl
    have z0 := frozen_of_heap hR1 0
    have z1 := frozen_of_heap hR1 1
    have z2 := frozen_of_heap hR1 2
    have z3 := frozen_of_heap hR1 3
    have z4 := frozen_of_heap hR1 4
    have z5 := frozen_of_heap hR1 5
    have z6 := frozen_of_heap hR1 6
    have z7 := frozen_of_heap hR1 7
    have z8 := frozen_of_heap hR1 8
    clear hok b1 hR1 hA1
    rcases hq with ⟨hF, rfl⟩ | ⟨hF, rfl⟩
    case inr =>
      clear hF
      go_wp2_with fail
      refine bodyPost_ret (v := .tuple #[zeroS.val zeroD, .int .i64 0, .bool false]) (by simp [results, Try.results22, go_sem, n0, n1, n2, n3, n4, n5, n6, n7, n8, Shape.val, zeroS, zeroD]) rfl ?_
      exact ⟨zeroS, zeroD, 0, false, y.out, rfl, own_zero _ _, Chg.below (bs := [w.heap.size + 1]) bb1.out ((((((((((Chg.refl _ _).put (b := w.heap.size + 1) (by simp) 0 _).put (b := w.heap.size + 1) (by simp) 1 _).put (b := w.heap.size + 1) (by simp) 2 _).put (b := w.heap.size + 1) (by simp) 3 _).put (b := w.heap.size + 1) (by simp) 4 _).put (b := w.heap.size + 1) (by simp) 5 _).put (b := w.heap.size + 1) (by simp) 6 _).put (b := w.heap.size + 1) (by simp) 7 _).put (b := w.heap.size + 1) (by simp) 8 _) bb1.out.size (fun q hq => by rw [List.mem_singleton.1 hq]; omega)⟩
    have hF' := Lib.hid hF
    clear hF
    by_cases e1 : 1 ≤ n ∧ n ≤ 16
    case neg =>
      have hb1 := Lib.hid (inB_no (n := n) (l := 1) (h := 16) (by omega))
      clear e1
      go_wp2_with (go_at_call 46; refine (isIn_eq hb1.out _).mono ?_; rintro e w' ⟨rfl, rfl⟩)
      refine bodyPost_ret (v := .tuple #[zeroS.val zeroD, .int .i64 0, .bool false]) (by simp [results, Try.results22, go_sem, n0, n1, n2, n3, n4, n5, n6, n7, n8, Shape.val, zeroS, zeroD]) rfl ?_
      exact ⟨zeroS, zeroD, 0, false, y.out, rfl, own_zero _ _, Chg.below (bs := [w.heap.size + 1]) bb1.out ((((((((((Chg.refl _ _).put (b := w.heap.size + 1) (by simp) 0 _).put (b := w.heap.size + 1) (by simp) 1 _).put (b := w.heap.size + 1) (by simp) 2 _).put (b := w.heap.size + 1) (by simp) 3 _).put (b := w.heap.size + 1) (by simp) 4 _).put (b := w.heap.size + 1) (by simp) 5 _).put (b := w.heap.size + 1) (by simp) 6 _).put (b := w.heap.size + 1) (by simp) 7 _).put (b := w.heap.size + 1) (by simp) 8 _) bb1.out.size (fun q hq => by rw [List.mem_singleton.1 hq]; omega)⟩
    have hb1 := Lib.hid (inB_yes e1.1 e1.2)
    have hb2 := Lib.hid (show inB p 0 n = false from inB_no (by
      rcases Int.lt_or_le p 0 with h | h
      · exact .inl h
      · rcases Int.lt_or_le n p with h2 | h2
        · exact .inr h2
        · exact absurd ⟨hF'.out, e1.1, e1.2, h, h2⟩ hok'.out))
    clear e1
    go_wp2_with (go_at_call 46; first | ((with_reducible refine (isIn_eq hb1.out _).mono ?_); rintro e w' ⟨rfl, rfl⟩) | ((with_reducible refine (isIn_eq hb2.out _).mono ?_); rintro e w' ⟨rfl, rfl⟩))
    refine bodyPost_ret (v := .tuple #[zeroS.val zeroD, .int .i64 0, .bool false]) (by simp [results, Try.results22, go_sem, n0, n1, n2, n3, n4, n5, n6, n7, n8, Shape.val, zeroS, zeroD]) rfl ?_
    exact ⟨zeroS, zeroD, 0, false, y.out, rfl, own_zero _ _, Chg.below (bs := [w.heap.size + 1]) bb1.out ((((((((((Chg.refl _ _).put (b := w.heap.size + 1) (by simp) 0 _).put (b := w.heap.size + 1) (by simp) 1 _).put (b := w.heap.size + 1) (by simp) 2 _).put (b := w.heap.size + 1) (by simp) 3 _).put (b := w.heap.size + 1) (by simp) 4 _).put (b := w.heap.size + 1) (by simp) 5 _).put (b := w.heap.size + 1) (by simp) 6 _).put (b := w.heap.size + 1) (by simp) 7 _).put (b := w.heap.size + 1) (by simp) 8 _) bb1.out.size (fun q hq => by rw [List.mem_singleton.1 hq]; omega)⟩
  have hF := hok.1
  have e1 := hok.2.1
  have e2 := hok.2.2.1
  have e3 := hok.2.2.2.1
  have e4 := hok.2.2.2.2
  have hok' := Lib.hid hok
  have hF' := Lib.hid hF
  have hb1 := Lib.hid (inB_yes e1 e2)
  have hb2 := Lib.hid (inB_yes e3 e4)
  obtain rfl : e = .returned (.bool true) := by
    rcases hq with ⟨_, h⟩ | ⟨h, _⟩
    · exact h
    · exact absurd hF h
  have hown := Lib.hid (copyOf_any w.heap.size _ D hs'.out w1 hW1.out ⟨_, rfl, hA1⟩)
  have hsp := Lib.hid (show D.spans.length ≤ 1000 by have := hF.spans; have := hF.geo.2.2.2.2.1; omega)
  have hR1' := Lib.hid hR1
  have hcn := Lib.hid (fun w => classOf_any n w)
  clear hok hq b1 hR1 hA1 hF
  go_wp2_with (go_at_call 46; first | ((with_reducible refine (isIn_eq hb1.out _).mono ?_); rintro e w' ⟨rfl, rfl⟩) | ((with_reducible refine (isIn_eq hb2.out _).mono ?_); rintro e w' ⟨rfl, rfl⟩))
  refine hown.out.mono ?_
  rintro e w2 ⟨S, rfl, ho, b2⟩
  obtain ⟨aw, ad, aS, am, ag, cw, cd, cS, cm, cg, sv, mv, rfl⟩ := Shape.lits ho
  have hv := Lib.hid (VarW.mk_box ho b2.size)
  have bb2 := Lib.hid (below_trans bb1.out b2)
  have hR2 := Lib.hid (heap_below (below_trans b2 (below_box w2 (.cells (Shape.cells ⟨.slice aw D.words.length cw, .slice ad D.dirty.length cd, .slice aS D.spans.length cS, .slice am D.muts.length cm, .slice ag D.grey.length cg, sv, mv⟩ D) 32))) hR1'.out)
  clear ho b2 hown
  have hbs := Lib.hid (show w1.heap.size ≤ w2.heap.size from hv.out.le)
  have hRne : ¬ (w2.heap.size = w.heap.size + 1) := by have := hz1.out; have := hbs.out; omega
  have hRne' : ¬ (w.heap.size + 1 = w2.heap.size) := by omega
  dsimp only [Shape.val]
  dsimp only [Shape.cells] at hv hR2
  go_wp2_with (go_at_call 73; refine (hcn.out _).mono ?_; rintro e w' ⟨rfl, rfl⟩)
  refine (hfp'.out _ _ _ D (cl n) hsp.out _ hv.out).mono ?_
  rintro e w3 ⟨hq, b3⟩
  have bb3 := Lib.hid (show Below w.heap.size w w3 from (below_trans bb2.out (below_box w2 _)).trans (b3.mono (by have := hz1.out; omega)))
  have hR3 := Lib.hid ((b3.block (w.heap.size + 1) (by have := hz1.out; omega)).trans hR2.out)
  clear b3 hv
  rcases hq with ⟨D1, k, j, S1, hpl, rfl, hv⟩ | ⟨hno, rfl, hv⟩
  case inr =>
    have y := Lib.hid (show TakeIs D n p zeroD 0 false from .inr ⟨fun _ => hno, rfl, rfl, rfl⟩)
    have hv' := Lib.hid hv
    have hzR : w.heap.size + 1 < w3.heap.size := by have := hz1.out; have := hbs.out; have := hv.lt; omega
    have bP := below_box w3 (.cells #[.int .i64 0, .int .i64 0] 93)
    have bb4 := Lib.hid (below_trans bb3.out bP)
    have hR4 := heap_below bP hR3.out
    clear hno hv bP
    go_upto_region 5 with fail
    generalize w3.alloc (.cells #[.int .i64 0, .int .i64 0] 93) = w4 at *
    have n0 := cell_of_heap hR4 0 _ rfl
    have n1 := cell_of_heap hR4 1 _ rfl
    have n2 := cell_of_heap hR4 2 _ rfl
    have n3 := cell_of_heap hR4 3 _ rfl
    have n4 := cell_of_heap hR4 4 _ rfl
    have n5 := cell_of_heap hR4 5 _ rfl
    have n6 := cell_of_heap hR4 6 _ rfl
    have n7 := cell_of_heap hR4 7 _ rfl
    have n8 := cell_of_heap hR4 8 _ rfl
    have z0 := frozen_of_heap hR4 0
    have z1 := frozen_of_heap hR4 1
    have z2 := frozen_of_heap hR4 2
    have z3 := frozen_of_heap hR4 3
    have z4 := frozen_of_heap hR4 4
    have z5 := frozen_of_heap hR4 5
    have z6 := frozen_of_heap hR4 6
    have z7 := frozen_of_heap hR4 7
    have z8 := frozen_of_heap hR4 8
    clear hR4
    go_wp2_with fail
    refine bodyPost_ret (v := .tuple #[zeroS.val zeroD, .int .i64 0, .bool false]) (by simp [results, Try.results22, go_sem, n0, n1, n2, n3, n4, n5, n6, n7, n8, Shape.val, zeroS, zeroD]) rfl ?_
    exact ⟨zeroS, zeroD, 0, false, y.out, rfl, own_zero _ _, Chg.below (bs := [w.heap.size + 1]) bb4.out ((((((((((Chg.refl _ _).put (b := w.heap.size + 1) (by simp) 0 _).put (b := w.heap.size + 1) (by simp) 1 _).put (b := w.heap.size + 1) (by simp) 2 _).put (b := w.heap.size + 1) (by simp) 3 _).put (b := w.heap.size + 1) (by simp) 4 _).put (b := w.heap.size + 1) (by simp) 5 _).put (b := w.heap.size + 1) (by simp) 6 _).put (b := w.heap.size + 1) (by simp) 7 _).put (b := w.heap.size + 1) (by simp) 8 _) bb4.out.size (fun q hq => by rw [List.mem_singleton.1 hq]; omega)⟩
  obtain ⟨s, hks, hin, hszc, hbas⟩ := place_in hF'.out e1 e2 hpl
  have y := Lib.hid (show TakeIs D n p (takeD D1 k s j n p) (D1.base + atW s (j : Int)) true from .inl ⟨hok'.out, D1, k, j, s, hpl, hks, rfl, rfl, rfl⟩)
  have hb0 : 0 ≤ D1.base := by have := hF'.out.geo.1; omega
  have hb1' : D1.base ≤ 1048576 := by have := hF'.out.geo.2.1; omega
  have bP := below_box w3 (.cells #[.int .i64 k, .int .i64 j] 93)
  have nP := Lib.hid (box_new w3 (.cells #[.int .i64 k, .int .i64 j] 93))
  have hv4 := Lib.hid (hv.below bP)
  have hR4 := Lib.hid (heap_below bP hR3.out)
  have bb4 := Lib.hid (below_trans bb3.out bP)
  have hownl := Lib.hid hv.own.lt
  have hB3 := hv.lt
  have hbd := hin.bd
  obtain ⟨p0, hp0⟩ := hv.svAt hks
  obtain ⟨gs, cs, hgs⟩ := hv.headS (by have := (List.getElem?_eq_some_iff.1 hks).1; omega)
  obtain ⟨gl, cl1, hgl⟩ := head_of (hv.own.inner k s p0 hks hp0).1 (by have := hin.j; omega)
  obtain ⟨gp, cp, hgp⟩ := head_of (hv.own.inner k s p0 hks hp0).2 (by have := hin.j; have := hin.lens; have := hin.ptrs; omega)
  have hj := hin.j
  have hjp : j < s.ptrs.length := by have := hin.lens; have := hin.ptrs; omega
  have hkl1 : (k : Int) < (D1.spans.length : Int) := by have := (List.getElem?_eq_some_iff.1 hks).1; omega
  have hjl1 : (j : Int) < (s.lens.length : Int) := by omega
  have hjp1 : (j : Int) < (s.ptrs.length : Int) := by omega
  obtain ⟨A, hA⟩ := Int.eq_ofNat_of_zero_le hbd.1
  have hdl := hin.dirty
  have hpg := hin.pg
  have hpg0 := hin.pg0
  have hpg1 := hin.pg1
  have hA2 : A ≤ 1000 := by omega
  have hdd : (A : Int) + n ≤ 8 * (D1.dirty.length : Int) := by omega
  have hj15 : (j : Int) ≤ 15 := hbd.2.2.2.2.1
  have hn32 : n ≤ 32 := by omega
  obtain ⟨_, _, -, hsm, -⟩ := hv.rd.parts.2.2.1
  obtain ⟨_, _, -, hsm1, -⟩ := Rd.of_owns (hv.own.inner k s p0 hks hp0).1
  obtain ⟨_, _, -, hsm2, -⟩ := Rd.of_owns (hv.own.inner k s p0 hks hp0).2
  unfold maxLen at hsm hsm1 hsm2
  have q0 := cell_of_heap nP.out 0 _ rfl
  have q1 := cell_of_heap nP.out 1 _ rfl
  have G4 := hv4.out.cell 4 (.slice (some ⟨gs, 0, none⟩) D1.spans.length cs) (by rw [← hgs]; rfl)
  obtain ⟨x0, x1, x2, x3, x4, x5⟩ := hv4.out.six hgs hks hp0
  rw [hgl] at x4
  rw [hgp] at x5
  obtain ⟨n1, n2, n3, n4, n5, n6⟩ := hv4.out.nes hgs hks hp0 hgl hgp
  obtain ⟨c1, c2⟩ := ints_cell (hv4.out.own.inner k s p0 hks hp0).1 hgl j hj
  obtain ⟨d1, d2⟩ := ints_cell (hv4.out.own.inner k s p0 hks hp0).2 hgp j hjp
  have m1 : ¬ (w3.heap.size = gl) := fun e => by have := (hownl.out gl (List.mem_filterMap.2 ⟨p0.1, by have : p0.1 ∈ svInts S1.sv := List.mem_flatMap.2 ⟨p0, List.mem_of_getElem? hp0, by simp⟩; simp [Shape.all, this], by rw [hgl]; rfl⟩)).2; omega
  have m2 : ¬ (w3.heap.size = gp) := fun e => by have := (hownl.out gp (List.mem_filterMap.2 ⟨p0.2, by have : p0.2 ∈ svInts S1.sv := List.mem_flatMap.2 ⟨p0, List.mem_of_getElem? hp0, by simp⟩; simp [Shape.all, this], by rw [hgp]; rfl⟩)).2; omega
  have hin' := Lib.hid hin
  have hks' := Lib.hid hks
  have hp0' := Lib.hid hp0
  have hgs' := Lib.hid hgs
  have hgl' := Lib.hid hgl
  have hgp' := Lib.hid hgp
  have hA' := Lib.hid hA
  have hle := Lib.hid hv.le
  have hfw := Lib.hid (fun (w : World) (s' : SpanD) (h0 : s'.page = s.page) (h1 : s'.cls = s.cls) (hr : RdSpan w gs (k * 6) s') => (show Calls Try.prog 75 #[.pointer (some ⟨gs, k * 6, none⟩), .int .i64 j] w fun e w' => e = .returned (.int .i64 (A : Int)) ∧ Drawn w w' from by
    have e9 : atW s' (j : Int) = (A : Int) := by rw [← hA]; unfold atW; rw [h0, h1]
    have := firstWord_any gs (k * 6) s' (j : Int) (by omega) (by omega) (by omega) (by omega) w hr
    rwa [e9] at this))
  clear hin hks hp0 hgs hgl hgp hA hbd hv hpl hszc hj hjp hdl hpg1 bP hbas
  go_wp2_with fail
  generalize hWe : w3.alloc (.cells #[.int .i64 k, .int .i64 j] 93) = w4 at *
  have hWz := Lib.hid (show w4.heap.size = w3.heap.size + 1 by rw [← hWe]; simp)
  clear hWe
  have s1 := hv4.out.lens k j s p0 n hks'.out hp0'.out hgl'.out
  have hk2 := Lib.hid (set_at (t := ({ s with lens := s.lens.set j n } : SpanD)) hks'.out)
  have s2 := s1.1.ptrs k j _ p0 p hk2.out hp0'.out hgp'.out
  have s3 : VarW ((w4.setCell ⟨gl, j, none⟩ (.int .i64 n)).setCell ⟨gp, j, none⟩ (.int .i64 p)) w1.heap.size w2.heap.size S1 { D1 with spans := D1.spans.set k (takeS s j n p) } := by simpa only [List.set_set, takeS] using s2.1
  have S2 := Lib.hid s3.drew
  have S3 := Lib.hid (below_drewN (s1.2.trans s2.2) 1)
  have bs2 := Lib.hid (((heap_setCell_other (w4.setCell ⟨gl, j, none⟩ (.int .i64 n)) ⟨gp, j, none⟩ w3.heap.size (.int .i64 p) (by simpa using m2)).trans (heap_setCell_other w4 ⟨gl, j, none⟩ w3.heap.size (.int .i64 n) (by simpa using m1))).trans nP.out)
  clear s1 s2 s3
  generalize s.lens[j]?.getD 0 = o3 at c1
  generalize s.ptrs[j]?.getD 0 = o4 at d1
  go_upto_region 8 with fail
  go_cut [12] (fun q wx => q = .pointer (some ⟨gs, k * 6, none⟩) ∧ Hid (VarW wx w1.heap.size w2.heap.size S1 { D1 with spans := D1.spans.set k (takeS s j n p) }) ∧ Hid (Below w1.heap.size w4 wx) ∧ Hid (wx.heap[w3.heap.size]? = some (.cells #[.int .i64 k, .int .i64 j] 93 (0, 0))))
  case first =>
    go_region
    all_goals go_wp2_with fail
    all_goals go_meet
    all_goals exact ⟨rfl, S2, S3, bs2⟩
  case rest =>
    obtain ⟨rfl, hv5, hb5, bn5⟩ := hcut
    clear q0 q1 G4 x0 x1 x2 x3 x4 x5 c1 d1 c2 d2 S2 S3 bs2
    have q1 := cell_of_heap bn5.out 1 _ rfl
    have hk5 := Lib.hid (set_at (t := takeS s j n p) hks'.out)
    have hgs5 := Lib.hid (show S1.vs = .slice (some ⟨gs, 0, none⟩) (D1.spans.set k (takeS s j n p)).length cs by rw [List.length_set]; exact hgs'.out)
    have hrs := Lib.hid (show RdSpan wc gs (k * 6) (takeS s j n p) from by
      obtain ⟨x0, x1, x2, x3, x4, x5⟩ := hv5.out.six hgs5.out hk5.out hp0'.out
      have hi := hv5.out.own.inner k _ p0 hk5.out hp0'.out
      exact ⟨_, _, x0, x1, x2, x3, x4, x5, Rd.of_owns hi.1, Rd.of_owns hi.2⟩)
    go_wp2_with fail
    refine (hfw.out _ (takeS s j n p) rfl rfl hrs.out).mono ?_
    rintro e w6 ⟨rfl, dr6⟩
    have b6 := dr6.below
    have hv6 := Lib.hid (hv5.out.below b6)
    have hb6 := Lib.hid (hb5.out.trans (b6.mono (by have := hv5.out.lt; have := hv5.out.le; omega)))
    have bn6 := Lib.hid (heap_below b6 bn5.out)
    clear dr6 b6 q1
    go_wp2_with fail
    refine (soil2_any _ _ _ _ (A : Int) n (by omega) (by omega) (by omega) (by omega) (by exact hdd) _ hv6.out).mono ?_
    rintro e w7 ⟨⟨_, rfl⟩, hv7, b7, ch7⟩
    have hv7' := Lib.hid (show VarW w7 w1.heap.size w2.heap.size S1 (takeD D1 k s j n p) from by
      unfold takeD
      rw [hA'.out]
      exact hv7)
    have hb7 := Lib.hid (hb6.out.trans b7)
    have bn7 := (ch7.block w3.heap.size (Array.getElem?_eq_some_iff.1 bn6.out).1 (fun hm => by have := (hownl.out _ hm).2; omega)).trans bn6.out
    have bn7' := Lib.hid bn7
    have bbe := Lib.hid (bb4.out.trans (hb7.out.mono (by have := hz1.out; omega)))
    have hRe := (hb7.out.block (w.heap.size + 1) (by have := hz1.out; omega)).trans hR4.out
    have hRe' := Lib.hid hRe
    have hkt := Lib.hid (show (takeD D1 k s j n p).spans[k]? = some (takeS s j n p) from set_at hks'.out)
    have hadr := Lib.hid (fun (w' : World) (hb : Below w7.heap.size w7 w') => addrI_any w2.heap.size _ (takeD D1 k s j n p) k j (takeS s j n p) hkt.out hpg0 (by show s.page ≤ 1000; have := hin'.out.pg1; omega) (by omega) hb0 hb1' w' (hv7'.out.below hb).rd (hv7'.out.below hb).boxW)
    have haw : atW (takeS s j n p) (j : Int) = atW s (j : Int) := rfl
    rw [haw] at hadr
    have hbase : (takeD D1 k s j n p).base = D1.base := rfl
    rw [hbase] at hadr
    generalize D1.base + atW s (j : Int) = a at *
    generalize takeD D1 k s j n p = E at *
    obtain ⟨aw', ad', aS', am', ag', cw', cd', cS', cm', cg', sv', mv', rfl⟩ := Shape.lits hv7'.out.own
    have bE := hv7'.out.box
    dsimp only [Shape.cells] at bE
    have u0 := cell_of_heap bE 0 _ rfl
    have u1 := cell_of_heap bE 1 _ rfl
    have u2 := cell_of_heap bE 2 _ rfl
    have u3 := cell_of_heap bE 3 _ rfl
    have u4 := cell_of_heap bE 4 _ rfl
    have u5 := cell_of_heap bE 5 _ rfl
    have u6 := cell_of_heap bE 6 _ rfl
    have u7 := cell_of_heap bE 7 _ rfl
    have u8 := cell_of_heap bE 8 _ rfl
    have v0 := cell_of_heap bn7 0 _ rfl
    have v1 := cell_of_heap bn7 1 _ rfl
    have n0 := cell_of_heap hRe 0 _ rfl
    have n1 := cell_of_heap hRe 1 _ rfl
    have n2 := cell_of_heap hRe 2 _ rfl
    have n3 := cell_of_heap hRe 3 _ rfl
    have n4 := cell_of_heap hRe 4 _ rfl
    have n5 := cell_of_heap hRe 5 _ rfl
    have n6 := cell_of_heap hRe 6 _ rfl
    have n7 := cell_of_heap hRe 7 _ rfl
    have n8 := cell_of_heap hRe 8 _ rfl
    have z0 := frozen_of_heap hRe 0
    have z1 := frozen_of_heap hRe 1
    have z2 := frozen_of_heap hRe 2
    have z3 := frozen_of_heap hRe 3
    have z4 := frozen_of_heap hRe 4
    have z5 := frozen_of_heap hRe 5
    have z6 := frozen_of_heap hRe 6
    have z7 := frozen_of_heap hRe 7
    have z8 := frozen_of_heap hRe 8
    have U0 := Ext.cell u0
    have U1 := Ext.cell u1
    have U2 := Ext.cell u2
    have U3 := Ext.cell u3
    have U4 := Ext.cell u4
    have U5 := Ext.cell u5
    have U6 := Ext.cell u6
    have U7 := Ext.cell u7
    have U8 := Ext.cell u8
    have V0 := Ext.cell v0
    have V1 := Ext.cell v1
    have N0 := Ext.cell n0
    have Z0 := Ext.frozen n0 z0
    have N1 := Ext.cell n1
    have Z1 := Ext.frozen n1 z1
    have N2 := Ext.cell n2
    have Z2 := Ext.frozen n2 z2
    have N3 := Ext.cell n3
    have Z3 := Ext.frozen n3 z3
    have N4 := Ext.cell n4
    have Z4 := Ext.frozen n4 z4
    have N5 := Ext.cell n5
    have Z5 := Ext.frozen n5 z5
    have N6 := Ext.cell n6
    have Z6 := Ext.frozen n6 z6
    have N7 := Ext.cell n7
    have Z7 := Ext.frozen n7 z7
    have N8 := Ext.cell n8
    have Z8 := Ext.frozen n8 z8
    have hB9 := Lib.hid (show w.heap.size + 1 < w2.heap.size by have := hz1.out; have := hbs.out; omega)
    clear hv7 b7 ch7 haw hbase bn7 hRe bE bn7' hRe' hkt hks' hin' hA' hfw hk2 hgs' hgl' hgp' hp0' hle hownl
    go_upto_region 10 with fail
    go_region_with (go_at_call 76; refine (hadr.out _ ?_).mono ?_; (first | exact Below.refl _ _ | exact below_drewN (Below.refl _ _) 1 | exact below_drewN (Below.refl _ _) 2); rintro e w8 ⟨rfl, b8⟩; have b9 : Below w7.heap.size w7 w8 := ⟨b8.os, b8.tape, b8.output, b8.size, b8.block⟩; clear b8; obtain ⟨x8, rfl⟩ := Ext.of b9)
    all_goals go_wp2_with fail
    all_goals refine bodyPost_ret (v := .tuple #[.agg #[.int .i64 E.base, .int .i64 E.pages, .slice aw' E.words.length cw', .slice ad' E.dirty.length cd', .slice aS' E.spans.length cS', .slice am' E.muts.length cm', .int .i64 E.phase, .int .i64 E.next, .slice ag' E.grey.length cg'], .int .i64 a, .bool true]) (by simp [results, Try.results22, go_sem, N0, N1, N2, N3, N4, N5, N6, N7, N8]) rfl ?_
    all_goals exact ⟨_, E, a, true, y.out, rfl, (hv7'.out.below b9).handed (below_trans bbe.out b9) (R := w.heap.size + 1) (Nat.le_succ _) (by have := hz1.out; omega) ((((((((((Chg.refl _ _).put (b := w.heap.size + 1) (by simp) 0 _).put (b := w.heap.size + 1) (by simp) 1 _).put (b := w.heap.size + 1) (by simp) 2 _).put (b := w.heap.size + 1) (by simp) 3 _).put (b := w.heap.size + 1) (by simp) 4 _).put (b := w.heap.size + 1) (by simp) 5 _).put (b := w.heap.size + 1) (by simp) 6 _).put (b := w.heap.size + 1) (by simp) 7 _).put (b := w.heap.size + 1) (by simp) 8 _)⟩
end Go.Proofs.Ytajogfnlbdiokaa

/-
  The contract of the program's Take.
-/
namespace Go.Proofs.Ytajogfnlbdiokaa
open Go.RowKit
set_option linter.unusedVariables false

theorem itake_any (v : Value) (D : WD) (n p : Int) (hm : MarksIn D) (hs : Small D) (w : World) (hr : RdW w v D) :
    Calls Try.prog 22 #[v, .int .i64 n, .int .i64 p] w fun e w' => ∃ S D' a f, TakeIs D n p D' a f ∧ e = .returned (.tuple #[S.val D', .int .i64 a, .bool f]) ∧ OwnW w' w.heap.size S D' ∧ Below w.heap.size w w' :=
  itake_of (fun base B S D c hls w h => (freePlace_any base B S D c hls w h).mono fun e w' h => ⟨h.1, h.2⟩) v D n p hm hs w hr
end Go.Proofs.Ytajogfnlbdiokaa

/-
  The contract of the model's Give.
-/
namespace Go.Proofs.Ytajogfnlbdiokaa
open Go.RowKit
set_option linter.unusedVariables false

theorem Find.some {D : WD} {addr r q : Int} (h : (∃ k j : Nat, HeapForm D ∧ IsObj D addr k j ∧ r = k ∧ q = j) ∨ ((HeapForm D → ∀ k j, ¬ IsObj D addr k j) ∧ r = -1 ∧ q = -1)) :
    (∃ (k j : Nat) (s : SpanD), HeapForm D ∧ IsObj D addr k j ∧ D.spans[k]? = some s ∧ j < s.lens.length ∧ r = k ∧ q = j) ∨ (GiveIs D addr zeroD false ∧ r = -1 ∧ q = -1) := by
  rcases h with ⟨k, j, hF, ho, rfl, rfl⟩ | ⟨hn, rfl, rfl⟩
  · obtain ⟨s, hs, hj, h2⟩ := ho
    exact .inl ⟨k, j, s, hF, ⟨s, hs, hj, h2⟩, hs, hj, rfl, rfl⟩
  · exact .inr ⟨.inr ⟨hn, rfl, rfl⟩, rfl, rfl⟩
set_option maxRecDepth 100000 in
set_option maxHeartbeats 16000000 in
theorem sgiveT_any (v : Value) (D : WD) (addr : Int) (hs : Small D) (w : World) (hr : RdW w v D) :
    Calls Try.prog 26 #[v, .int .i64 addr] w fun e w' => ∃ S D' f, GiveIs D addr D' f ∧ e = .returned (.tuple #[S.val D', .bool f]) ∧ OwnW w' w.heap.size S D' ∧ Below w.heap.size w w' := by
  have hs' := Lib.hid hs
  clear hs
  obtain ⟨vw, vd, vs, vm, vg, rfl, a1, a2, a3, a4, a5⟩ := hr
  have bb := below_trans (below_box w (.cells #[.int .i64 D.base, .int .i64 D.pages, vw, vd, vs, vm, .int .i64 D.phase, .int .i64 D.next, vg] 32)) (below_box _ (.cells #[.int .i64 0, .int .i64 0, .slice none 0 0, .slice none 0 0, .slice none 0 0, .slice none 0 0, .int .i64 0, .int .i64 0, .slice none 0 0] 32))
  have hA := heap_below (below_box (w.alloc (.cells #[.int .i64 D.base, .int .i64 D.pages, vw, vd, vs, vm, .int .i64 D.phase, .int .i64 D.next, vg] 32)) (.cells #[.int .i64 0, .int .i64 0, .slice none 0 0, .slice none 0 0, .slice none 0 0, .slice none 0 0, .int .i64 0, .int .i64 0, .slice none 0 0] 32)) (box_new w (.cells #[.int .i64 D.base, .int .i64 D.pages, vw, vd, vs, vm, .int .i64 D.phase, .int .i64 D.next, vg] 32))
  have hR := box_new (w.alloc (.cells #[.int .i64 D.base, .int .i64 D.pages, vw, vd, vs, vm, .int .i64 D.phase, .int .i64 D.next, vg] 32)) (.cells #[.int .i64 0, .int .i64 0, .slice none 0 0, .slice none 0 0, .slice none 0 0, .slice none 0 0, .int .i64 0, .int .i64 0, .slice none 0 0] 32)
  rw [World.size_alloc] at hR
  have hW := Lib.hid (show RdW ((w.alloc (.cells #[.int .i64 D.base, .int .i64 D.pages, vw, vd, vs, vm, .int .i64 D.phase, .int .i64 D.next, vg] 32)).alloc (.cells #[.int .i64 0, .int .i64 0, .slice none 0 0, .slice none 0 0, .slice none 0 0, .slice none 0 0, .int .i64 0, .int .i64 0, .slice none 0 0] 32)) (.agg #[.int .i64 D.base, .int .i64 D.pages, vw, vd, vs, vm, .int .i64 D.phase, .int .i64 D.next, vg]) D from ⟨vw, vd, vs, vm, vg, rfl, a1.below bb, a2.below bb, a3.below bb, a4.below bb, a5.below bb⟩)
  have bb' := Lib.hid bb
  have hA' := Lib.hid hA
  have hR' := Lib.hid hR
  have hz := Lib.hid (show ((w.alloc (.cells #[.int .i64 D.base, .int .i64 D.pages, vw, vd, vs, vm, .int .i64 D.phase, .int .i64 D.next, vg] 32)).alloc (.cells #[.int .i64 0, .int .i64 0, .slice none 0 0, .slice none 0 0, .slice none 0 0, .slice none 0 0, .int .i64 0, .int .i64 0, .slice none 0 0] 32)).heap.size = w.heap.size + 1 + 1 by simp)
  clear a1 a2 a3 a4 a5 bb hA hR
  go_enter Try.func26, Try.ntmps26
  go_wp2_with fail
  generalize (w.alloc (.cells #[.int .i64 D.base, .int .i64 D.pages, vw, vd, vs, vm, .int .i64 D.phase, .int .i64 D.next, vg] 32)).alloc (.cells #[.int .i64 0, .int .i64 0, .slice none 0 0, .slice none 0 0, .slice none 0 0, .slice none 0 0, .int .i64 0, .int .i64 0, .slice none 0 0] 32) = W at *
  refine (find_any _ D addr _ hW.out).mono ?_
  rintro e w1 ⟨⟨r, q, rfl, hq⟩, b1⟩
  have hR1 := heap_below b1 hR'.out
  have hA1 := heap_below b1 hA'.out
  have bb1 := Lib.hid (below_trans bb'.out b1)
  have hW1 := Lib.hid (hW.out.below b1)
  have hz1 := Lib.hid (show w.heap.size + 1 + 1 ≤ w1.heap.size by have := hz.out; have := b1.size; omega)
  clear b1
  rcases Find.some hq with ⟨k, j, s, hF, ho, hks, hj, rfl, rfl⟩ | ⟨y, rfl, rfl⟩
  case inr =>
    have y := Lib.hid y
    have n0 := cell_of_heap hR1 0 _ rfl
    have n1 := cell_of_heap hR1 1 _ rfl
    have n2 := cell_of_heap hR1 2 _ rfl
    have n3 := cell_of_heap hR1 3 _ rfl
    have n4 := cell_of_heap hR1 4 _ rfl
    have n5 := cell_of_heap hR1 5 _ rfl
    have n6 := cell_of_heap hR1 6 _ rfl
    have n7 := cell_of_heap hR1 7 _ rfl
    have n8 := cell_of_heap hR1 8 _ rfl
    have z0 := frozen_of_heap hR1 0
    have z1 := frozen_of_heap hR1 1
    have z2 := frozen_of_heap hR1 2
    have z3 := frozen_of_heap hR1 3
    have z4 := frozen_of_heap hR1 4
    have z5 := frozen_of_heap hR1 5
    have z6 := frozen_of_heap hR1 6
    have z7 := frozen_of_heap hR1 7
    have z8 := frozen_of_heap hR1 8
    clear hR1 hA1 hq
    go_wp2_with fail
    refine bodyPost_ret (v := .tuple #[zeroS.val zeroD, .bool false]) (by simp [results, Try.results26, go_sem, n0, n1, n2, n3, n4, n5, n6, n7, n8, Shape.val, zeroS, zeroD]) rfl ?_
    exact ⟨zeroS, zeroD, false, y.out, rfl, own_zero _ _, Chg.below (bs := [w.heap.size + 1]) bb1.out ((((((((((Chg.refl _ _).put (b := w.heap.size + 1) (by simp) 0 _).put (b := w.heap.size + 1) (by simp) 1 _).put (b := w.heap.size + 1) (by simp) 2 _).put (b := w.heap.size + 1) (by simp) 3 _).put (b := w.heap.size + 1) (by simp) 4 _).put (b := w.heap.size + 1) (by simp) 5 _).put (b := w.heap.size + 1) (by simp) 6 _).put (b := w.heap.size + 1) (by simp) 7 _).put (b := w.heap.size + 1) (by simp) 8 _) bb1.out.size (fun q hq => by rw [List.mem_singleton.1 hq]; omega)⟩
  have hF' := Lib.hid hF
  have ho' := Lib.hid ho
  have hks' := Lib.hid hks
  have hin := Lib.hid (hF.slotIn hks hj)
  have hown := Lib.hid (sown_any _ D hs'.out w1 hW1.out)
  have hsp := Lib.hid (show D.spans.length ≤ 1000 by have := hF.spans; have := hF.geo.2.2.2.2.1; omega)
  have f0 := cell_of_heap hA1 0 _ rfl
  have f1 := cell_of_heap hA1 1 _ rfl
  have f2 := cell_of_heap hA1 2 _ rfl
  have f3 := cell_of_heap hA1 3 _ rfl
  have f4 := cell_of_heap hA1 4 _ rfl
  have f5 := cell_of_heap hA1 5 _ rfl
  have f6 := cell_of_heap hA1 6 _ rfl
  have f7 := cell_of_heap hA1 7 _ rfl
  have f8 := cell_of_heap hA1 8 _ rfl
  have hR1' := Lib.hid hR1
  clear hq hR1 hA1 hF ho hks
  go_wp2_with fail
  refine hown.out.mono ?_
  rintro e w2 ⟨S, rfl, ho, b2⟩
  obtain ⟨aw, ad, aS, am, ag, cw, cd, cS, cm, cg, sv, mv, rfl⟩ := Shape.lits ho
  have hv := Lib.hid (VarW.mk_box ho b2.size)
  have bb2 := Lib.hid (below_trans bb1.out b2)
  have hR2 := Lib.hid (heap_below (below_trans b2 (below_box w2 (.cells (Shape.cells ⟨.slice aw D.words.length cw, .slice ad D.dirty.length cd, .slice aS D.spans.length cS, .slice am D.muts.length cm, .slice ag D.grey.length cg, sv, mv⟩ D) 32))) hR1'.out)
  clear ho b2 hown f0 f1 f2 f3 f4 f5 f6 f7 f8
  have hbs := Lib.hid (show w1.heap.size ≤ w2.heap.size from hv.out.le)
  have hRne : ¬ (w2.heap.size = w.heap.size + 1) := by have := hz1.out; have := hbs.out; omega
  have hRne' : ¬ (w.heap.size + 1 = w2.heap.size) := by omega
  dsimp only [Shape.val]
  dsimp only [Shape.cells] at hv hR2
  go_wp2_with fail
  refine (sgive_any _ _ _ D k j s hks'.out hin.out _ hv.out).mono ?_
  rintro e w3 ⟨rfl, hv3, b3⟩
  have bb3 := Lib.hid (show Below w.heap.size w w3 from (below_trans bb2.out (below_box w2 _)).trans (b3.mono (by have := hz1.out; omega)))
  have hR3 := Lib.hid ((b3.block (w.heap.size + 1) (by have := hz1.out; omega)).trans hR2.out)
  have hk3 := Lib.hid (show (giveD D k s j).spans[k]? = some (giveS s j) from set_at hks'.out)
  have hl3 := Lib.hid (show (giveD D k s j).spans.length ≤ 1000 by rw [(giveD_bulk hks'.out).2]; exact hsp.out)
  have y1 := Lib.hid (show EmptyS (giveS s j) → GiveIs D addr { giveD D k s j with spans := (giveD D k s j).spans.eraseIdx k } true from fun h => .inl ⟨k, j, s, hF'.out, ho'.out, hks'.out, rfl, .inl ⟨h, rfl⟩⟩)
  have y2 := Lib.hid (show ¬ EmptyS (giveS s j) → GiveIs D addr (giveD D k s j) true from fun h => .inl ⟨k, j, s, hF'.out, ho'.out, hks'.out, rfl, .inr ⟨h, rfl⟩⟩)
  clear b3 hv
  generalize giveD D k s j = D3 at *
  generalize giveS s j = s3 at *
  obtain ⟨p, hp⟩ := hv3.svAt hk3.out
  obtain ⟨gs, cs, hgs⟩ := hv3.headS (by have := (List.getElem?_eq_some_iff.1 hk3.out).1; omega)
  have hkl1 : (k : Int) < (D3.spans.length : Int) := by have := (List.getElem?_eq_some_iff.1 hk3.out).1; omega
  have g4 := hv3.cell 4 (.slice (some ⟨gs, 0, none⟩) D3.spans.length cs) (by rw [← hgs]; rfl)
  obtain ⟨x0, x1, x2, x3, x4, x5⟩ := hv3.six hgs hk3.out hp
  have hsm := hl3.out
  have hlr := Lib.hid (Rd.of_owns (hv3.own.inner k s3 p hk3.out hp).1)
  have hempty := Lib.hid (sempty_any s3 p.1 p.2 w3 hlr.out)
  have hv3' := Lib.hid hv3
  clear hv3 hp hgs
  go_wp2_with fail
  refine hempty.out.mono ?_
  rintro e w4 ⟨hq, b4⟩
  have hq := hq.elim
  have hv4 := Lib.hid (hv3'.out.below b4)
  have bb4 := Lib.hid (below_trans bb3.out b4)
  have hR4 := Lib.hid (heap_below b4 hR3.out)
  clear b4 g4 x0 x1 x2 x3 x4 x5
  rcases hq with ⟨he, rfl⟩ | ⟨he, rfl⟩
  · have y := Lib.hid (y1.out he)
    clear he
    go_wp2_with fail
    refine (sdrop_any _ _ _ D3 k s3 hk3.out hl3.out w4 hv4.out).mono ?_
    rintro e w5 ⟨rfl, ⟨S5, hv⟩, b5⟩
    have bbe := Lib.hid (bb4.out.trans (b5.mono (by have := hz1.out; omega)))
    have hRe := (b5.block (w.heap.size + 1) (by have := hz1.out; omega)).trans hR4.out
    clear b5
    generalize ({ D3 with spans := D3.spans.eraseIdx k } : WD) = E at *
    obtain ⟨aw', ad', aS', am', ag', cw', cd', cS', cm', cg', sv', mv', rfl⟩ := Shape.lits hv.own
    have bE := hv.box
    dsimp only [Shape.cells] at bE
    have n0 := cell_of_heap hRe 0 _ rfl
    have n1 := cell_of_heap hRe 1 _ rfl
    have n2 := cell_of_heap hRe 2 _ rfl
    have n3 := cell_of_heap hRe 3 _ rfl
    have n4 := cell_of_heap hRe 4 _ rfl
    have n5 := cell_of_heap hRe 5 _ rfl
    have n6 := cell_of_heap hRe 6 _ rfl
    have n7 := cell_of_heap hRe 7 _ rfl
    have n8 := cell_of_heap hRe 8 _ rfl
    have z0 := frozen_of_heap hRe 0
    have z1 := frozen_of_heap hRe 1
    have z2 := frozen_of_heap hRe 2
    have z3 := frozen_of_heap hRe 3
    have z4 := frozen_of_heap hRe 4
    have z5 := frozen_of_heap hRe 5
    have z6 := frozen_of_heap hRe 6
    have z7 := frozen_of_heap hRe 7
    have z8 := frozen_of_heap hRe 8
    have m0 := cell_of_heap bE 0 _ rfl
    have m1 := cell_of_heap bE 1 _ rfl
    have m2 := cell_of_heap bE 2 _ rfl
    have m3 := cell_of_heap bE 3 _ rfl
    have m4 := cell_of_heap bE 4 _ rfl
    have m5 := cell_of_heap bE 5 _ rfl
    have m6 := cell_of_heap bE 6 _ rfl
    have m7 := cell_of_heap bE 7 _ rfl
    have m8 := cell_of_heap bE 8 _ rfl
    have hv' := Lib.hid hv
    clear hv bE hRe
    go_wp2_with fail
    refine bodyPost_ret (v := .tuple #[.agg #[.int .i64 E.base, .int .i64 E.pages, .slice aw' E.words.length cw', .slice ad' E.dirty.length cd', .slice aS' E.spans.length cS', .slice am' E.muts.length cm', .int .i64 E.phase, .int .i64 E.next, .slice ag' E.grey.length cg'], .bool true]) (by simp [results, Try.results26, go_sem, n0, n1, n2, n3, n4, n5, n6, n7, n8]) rfl ?_
    exact ⟨_, E, true, y.out, rfl, hv'.out.handed bbe.out (R := w.heap.size + 1) (by omega) (by have := hz1.out; omega) ((((((((((Chg.refl _ _).put (b := w.heap.size + 1) (by simp) 0 _).put (b := w.heap.size + 1) (by simp) 1 _).put (b := w.heap.size + 1) (by simp) 2 _).put (b := w.heap.size + 1) (by simp) 3 _).put (b := w.heap.size + 1) (by simp) 4 _).put (b := w.heap.size + 1) (by simp) 5 _).put (b := w.heap.size + 1) (by simp) 6 _).put (b := w.heap.size + 1) (by simp) 7 _).put (b := w.heap.size + 1) (by simp) 8 _)⟩
  · have y := Lib.hid (y2.out he)
    obtain ⟨E, hE⟩ : ∃ E, E = D3 := ⟨_, rfl⟩
    subst hE
    obtain ⟨S5, hv⟩ : ∃ S5, VarW w4 w1.heap.size w2.heap.size S5 E := ⟨_, hv4.out⟩
    have bbe := bb4
    have hRe := hR4.out
    clear he
    obtain ⟨aw', ad', aS', am', ag', cw', cd', cS', cm', cg', sv', mv', rfl⟩ := Shape.lits hv.own
    have bE := hv.box
    dsimp only [Shape.cells] at bE
    have n0 := cell_of_heap hRe 0 _ rfl
    have n1 := cell_of_heap hRe 1 _ rfl
    have n2 := cell_of_heap hRe 2 _ rfl
    have n3 := cell_of_heap hRe 3 _ rfl
    have n4 := cell_of_heap hRe 4 _ rfl
    have n5 := cell_of_heap hRe 5 _ rfl
    have n6 := cell_of_heap hRe 6 _ rfl
    have n7 := cell_of_heap hRe 7 _ rfl
    have n8 := cell_of_heap hRe 8 _ rfl
    have z0 := frozen_of_heap hRe 0
    have z1 := frozen_of_heap hRe 1
    have z2 := frozen_of_heap hRe 2
    have z3 := frozen_of_heap hRe 3
    have z4 := frozen_of_heap hRe 4
    have z5 := frozen_of_heap hRe 5
    have z6 := frozen_of_heap hRe 6
    have z7 := frozen_of_heap hRe 7
    have z8 := frozen_of_heap hRe 8
    have m0 := cell_of_heap bE 0 _ rfl
    have m1 := cell_of_heap bE 1 _ rfl
    have m2 := cell_of_heap bE 2 _ rfl
    have m3 := cell_of_heap bE 3 _ rfl
    have m4 := cell_of_heap bE 4 _ rfl
    have m5 := cell_of_heap bE 5 _ rfl
    have m6 := cell_of_heap bE 6 _ rfl
    have m7 := cell_of_heap bE 7 _ rfl
    have m8 := cell_of_heap bE 8 _ rfl
    have hv' := Lib.hid hv
    clear hv bE hRe
    go_wp2_with fail
    refine bodyPost_ret (v := .tuple #[.agg #[.int .i64 E.base, .int .i64 E.pages, .slice aw' E.words.length cw', .slice ad' E.dirty.length cd', .slice aS' E.spans.length cS', .slice am' E.muts.length cm', .int .i64 E.phase, .int .i64 E.next, .slice ag' E.grey.length cg'], .bool true]) (by simp [results, Try.results26, go_sem, n0, n1, n2, n3, n4, n5, n6, n7, n8]) rfl ?_
    exact ⟨_, E, true, y.out, rfl, hv'.out.handed bbe.out (R := w.heap.size + 1) (by omega) (by have := hz1.out; omega) ((((((((((Chg.refl _ _).put (b := w.heap.size + 1) (by simp) 0 _).put (b := w.heap.size + 1) (by simp) 1 _).put (b := w.heap.size + 1) (by simp) 2 _).put (b := w.heap.size + 1) (by simp) 3 _).put (b := w.heap.size + 1) (by simp) 4 _).put (b := w.heap.size + 1) (by simp) 5 _).put (b := w.heap.size + 1) (by simp) 6 _).put (b := w.heap.size + 1) (by simp) 7 _).put (b := w.heap.size + 1) (by simp) 8 _)⟩
end Go.Proofs.Ytajogfnlbdiokaa

/-
  The contract of the program's World.clearSlot: a slot is used no more, its span stays.
-/
namespace Go.Proofs.Ytajogfnlbdiokaa
open Go.RowKit
set_option linter.unusedVariables false

theorem elemInts : Try.prog.elem 25 = 3 := by kernel_rfl
theorem undInts : Try.prog.underlying 25 = some (.slice (Try.prog.elem 25)) := by rw [elemInts]; exact Try.underlying25
theorem sizeInts (w : World) : (sizeOf (Try.prog.elem 25)).run Try.prog w = .ok 1 w := by kernel_rfl
theorem zeroInt (w : World) : (zeroValue 3).run Try.prog w = .ok (.int .i64 0) w := by kernel_rfl
theorem setCells_last (g : Nat) (v : Value) : ∀ (n o : Nat) (w : World), w.setCells g o (List.replicate (n + 1) v) = (w.setCells g o (List.replicate n v)).setCell ⟨g, o + n, none⟩ v
  | 0, o, w => rfl
  | n + 1, o, w => by
    show (w.setCell ⟨g, o, none⟩ v).setCells g (o + 1) (List.replicate (n + 1) v) = ((w.setCell ⟨g, o, none⟩ v).setCells g (o + 1) (List.replicate n v)).setCell ⟨g, o + (n + 1), none⟩ v
    rw [setCells_last g v n (o + 1) _, show o + 1 + n = o + (n + 1) by omega]
theorem VarW.zero {w : World} {base B : Nat} {S : Shape} {D : WD} {g cap : Nat} (h : VarW w base B S D) (hg : S.vw = .slice (some ⟨g, 0, none⟩) D.words.length cap) (A : Nat) (n : Nat) :
    VarW (w.setCells g A (List.replicate n (.int .i64 0))) base B S { D with words := zeroK D.words A n } ∧ Below base w (w.setCells g A (List.replicate n (.int .i64 0))) := by
  induction n with
  | zero => exact ⟨h, Below.refl _ _⟩
  | succ n ih =>
    rw [setCells_last]
    have := ih.1.word (g := g) (cap := cap) (by rw [hg, zeroK_len]) (A + n) 0
    exact ⟨this.1, ih.2.trans this.2⟩
/-- The words of a slot. -/
theorem cut_words {g n c A z : Nat} (hA : A < n) (hz : A + z ≤ n) (hn : n ≤ c) (i : Int) (hi : i = (A : Int) + (z : Int)) (w : World) :
    (Instr.slice 25 (.slice (some ⟨g, 0, none⟩) n c) (some (.int .i64 (A : Int))) (some (.int .i64 i)) none).run Try.prog w = .ok (.slice (some ⟨g, A, none⟩) z (c - A)) w := by
  subst hi
  rw [run_slice_lh w 25 _ n c undInts .i64 .i64 (A : Int) ((A : Int) + (z : Int)) (by omega) (by omega) (by omega), sizeInts]
  have e1 : ((A : Int) + (z : Int)).toNat = A + z := by omega
  have e2 : (A : Int).toNat = A := by omega
  simp only [Result.andThen, sliced, e1, e2]
  rw [if_neg (by omega), show A + z - A = z by omega]
  simp [Addr.add]
  intro h
  omega

set_option maxRecDepth 100000 in
set_option maxHeartbeats 16000000 in
theorem clearSlot_any (base B : Nat) (S : Shape) (D : WD) (k j : Nat) (s : SpanD) (hk : D.spans[k]? = some s) (hin : SlotIn D s j) (w : World) (h : VarW w base B S D) :
    Calls Try.prog 93 #[.pointer (some ⟨B, 0, none⟩), .agg #[.int .i64 k, .int .i64 j]] w fun e w' => (∃ v, e = .returned v) ∧ VarW w' base B S (giveD D k s j) ∧ Below base w w' := by
  have hbd := hin.bd
  have hkl := (List.getElem?_eq_some_iff.1 hk).1
  obtain ⟨p, hp⟩ := h.svAt hk
  obtain ⟨gs, cs, hgs⟩ := h.headS (by omega)
  obtain ⟨gw, cw, hgw⟩ := h.headW (by have := hin.words; have := hin.pg0; have := hin.pg1; omega)
  obtain ⟨gl, cl, hgl⟩ := head_of (h.own.inner k s p hk hp).1 (by have := hin.j; omega)
  obtain ⟨gp, cp, hgp⟩ := head_of (h.own.inner k s p hk hp).2 (by have := hin.j; have := hin.lens; have := hin.ptrs; omega)
  have hj := hin.j
  have hjp : j < s.ptrs.length := by have := hin.lens; have := hin.ptrs; omega
  have hwl := hin.words
  have hdl := hin.dirty
  have hpg := hin.pg
  have hpg0 := hin.pg0
  have hpg1 := hin.pg1
  obtain ⟨A, hA⟩ := Int.eq_ofNat_of_zero_le hbd.1
  obtain ⟨z, hz⟩ := Int.eq_ofNat_of_zero_le (show 0 ≤ sz s.cls by omega)
  have hb2 : A + z ≤ D.words.length := by omega
  have hzb : 2 ≤ z ∧ z ≤ 16 := by omega
  obtain ⟨hz1, hz2⟩ := hzb
  have hA2 : A ≤ 1000 := by omega
  have hdd : (A : Int) + (z : Int) ≤ 8 * (D.dirty.length : Int) := by omega
  have hj15 : (j : Int) ≤ 15 := hbd.2.2.2.2.1
  have hjl1 : (j : Int) < (s.lens.length : Int) := by omega
  have hjp1 : (j : Int) < (s.ptrs.length : Int) := by omega
  have hkl1 : (k : Int) < (D.spans.length : Int) := by omega
  have hcs := Lib.hid (fun (w : World) => (hz ▸ size_any s.cls w : Calls Try.prog 57 #[.int .i64 s.cls] w fun e w' => e = .returned (.int .i64 (z : Int)) ∧ w = w'))
  have hsm := h.rd.parts.2.2.1
  obtain ⟨_, _, -, hsm, -⟩ := hsm
  have hwm := h.rd.parts.1
  obtain ⟨_, _, -, hwm, -⟩ := hwm
  have hlx := h.own.inner k s p hk hp
  obtain ⟨_, _, -, hsm1, -⟩ := Rd.of_owns hlx.1
  obtain ⟨_, _, -, hsm2, -⟩ := Rd.of_owns hlx.2
  unfold maxLen at hsm hwm hsm1 hsm2
  have hwc : D.words.length ≤ cw ∧ cw ≤ 9223372036854775807 := by
    have := h.own.words
    rw [hgw] at this
    rcases this.2 with ⟨he, _⟩ | ⟨g, c, cur, he, _, _, hc, hm, _⟩
    · simp at he
    · simp at he
      unfold maxLen at hm
      omega
  have bb := below_box w (.cells #[.int .i64 k, .int .i64 j] 93)
  have bn := box_new w (.cells #[.int .i64 k, .int .i64 j] 93)
  have hv := Lib.hid (h.below bb)
  have h0 := Ext.cell (cell_of_heap bn 0 _ rfl)
  have h1 := Ext.cell (cell_of_heap bn 1 _ rfl)
  have g4 := Ext.cell (hv.out.cell 4 (.slice (some ⟨gs, 0, none⟩) D.spans.length cs) (by rw [← hgs]; rfl))
  have hrs := Lib.hid (show RdSpan (w.alloc (.cells #[.int .i64 k, .int .i64 j] 93)) gs (k * 6) s from by
    obtain ⟨x0, x1, x2, x3, x4, x5⟩ := hv.out.six hgs hk hp
    have hi := hv.out.own.inner k s p hk hp
    exact ⟨_, _, x0, x1, x2, x3, x4, x5, Rd.of_owns hi.1, Rd.of_owns hi.2⟩)
  have x1 := Ext.cell (hv.out.six hgs hk hp).2.1
  have bn' := Lib.hid bn
  have hle := Lib.hid h.le
  have hlt := Lib.hid h.lt
  have hown := Lib.hid h.own.lt
  have b0 := Lib.hid (show Below base w (w.alloc (.cells #[.int .i64 k, .int .i64 j] 93)) from bb.mono (by have := h.le; have := h.lt; omega))
  have hz0 := Lib.hid (show (w.alloc (.cells #[.int .i64 k, .int .i64 j] 93)).heap.size = w.heap.size + 1 by simp)
  have hin' := Lib.hid hin
  have hk' := Lib.hid hk
  have hp' := Lib.hid hp
  have hgs' := Lib.hid hgs
  have hgw' := Lib.hid hgw
  have hgl' := Lib.hid hgl
  have hgp' := Lib.hid hgp
  have hA' := Lib.hid hA
  have hz' := Lib.hid hz
  have hfw := Lib.hid (fun (w : World) (hr : RdSpan w gs (k * 6) s) => (hA ▸ firstWord_any gs (k * 6) s (j : Int) hpg0 (by omega) (by omega) (by omega) w hr : Calls Try.prog 75 #[.pointer (some ⟨gs, k * 6, none⟩), .int .i64 j] w fun e w' => e = .returned (.int .i64 (A : Int)) ∧ Drawn w w'))
  clear hin hk hp hgs hgw hgl hgp hA hz hbd h bb bn hlx hwl hdl hpg1 hj hjp
  go_enter Try.func93, Try.ntmps93
  go_wp2_with fail
  generalize hWe : w.alloc (.cells #[.int .i64 k, .int .i64 j] 93) = W at *
  have hWe' := Lib.hid hWe
  clear hWe
  refine wp_region_ext (Below.refl _ _) (by kernel_rfl) (by kernel_rfl) ?_
  repeat (go_big_quiet_step ((fail)))
  refine wpQuiet_nil ?_
  intro _ hw'
  obtain ⟨x9, hw''⟩ := hw'
  subst hw''
  go_wp2_with fail
  refine wp_region_ext x9.below (by kernel_rfl) (by kernel_rfl) ?_
  repeat (go_big_quiet_step ((first | (go_at_call 75; exact Ext.call ((hfw.out _ (hrs.out.below (Ext.below _))).mono fun _ _ ⟨a, b⟩ => ⟨a, b.below⟩)) | (go_at_call 57; exact Ext.same (hcs.out _)))))
  refine wpQuiet_nil ?_
  intro _ hw'
  obtain ⟨x9, hw''⟩ := hw'
  subst hw''
  go_upto_region 3 with fail
  have hx2 := Lib.hid x9.below
  generalize x9.val = w2 at *
  have hv2 := Lib.hid (hv.out.below hx2.out)
  have bn2 := Lib.hid (heap_below hx2.out bn'.out)
  have hbp : w.heap.size < w2.heap.size := by have := hx2.out.size; have := hz0.out; omega
  clear h0 h1 g4 x1
  have q1 := cell_of_heap bn2.out 1 _ rfl
  obtain ⟨_, _, x2, _, x4, x5⟩ := hv2.out.six hgs'.out hk'.out hp'.out
  rw [hgl'.out] at x4
  rw [hgp'.out] at x5
  obtain ⟨n1, n2, n3, n4, n5, n6⟩ := hv2.out.nes hgs'.out hk'.out hp'.out hgl'.out hgp'.out
  obtain ⟨c1, c2⟩ := ints_cell (hv2.out.own.inner k s p hk'.out hp'.out).1 hgl'.out j hin'.out.j
  obtain ⟨d1, d2⟩ := ints_cell (hv2.out.own.inner k s p hk'.out hp'.out).2 hgp'.out j (by have := hin'.out.lens; have := hin'.out.ptrs; have := hin'.out.j; omega)
  have f2 := hv2.out.frzS hgs'.out (k * 6 + 2)
  have m1 : ¬ (w.heap.size = gl) := fun e => by have := (hown.out gl (List.mem_filterMap.2 ⟨p.1, by have : p.1 ∈ svInts S.sv := List.mem_flatMap.2 ⟨p, List.mem_of_getElem? hp'.out, by simp⟩; simp [Shape.all, this], by rw [hgl'.out]; rfl⟩)).2; omega
  have m2 : ¬ (w.heap.size = gp) := fun e => by have := (hown.out gp (List.mem_filterMap.2 ⟨p.2, by have : p.2 ∈ svInts S.sv := List.mem_flatMap.2 ⟨p, List.mem_of_getElem? hp'.out, by simp⟩; simp [Shape.all, this], by rw [hgp'.out]; rfl⟩)).2; omega
  have s1 := hv2.out.lens k j s p 0 hk'.out hp'.out hgl'.out
  have hk2 := Lib.hid (set_at (t := ({ s with lens := s.lens.set j 0 } : SpanD)) hk'.out)
  have s2 := s1.1.ptrs k j _ p 0 hk2.out hp'.out hgp'.out
  have s3 : VarW ((w2.setCell ⟨gl, j, none⟩ (.int .i64 0)).setCell ⟨gp, j, none⟩ (.int .i64 0)) base B S { D with spans := D.spans.set k { s with lens := s.lens.set j 0, ptrs := s.ptrs.set j 0 } } := by simpa only [List.set_set] using s2.1
  have S2 := Lib.hid s3.drew
  have S3 := Lib.hid (below_drewN (s1.2.trans s2.2) 1)
  have bs2 := Lib.hid (((heap_setCell_other (w2.setCell ⟨gl, j, none⟩ (.int .i64 0)) ⟨gp, j, none⟩ w.heap.size (.int .i64 0) (by simpa using m2)).trans (heap_setCell_other w2 ⟨gl, j, none⟩ w.heap.size (.int .i64 0) (by simpa using m1))).trans bn2.out)
  clear s1 s2 s3
  generalize s.lens[j]?.getD 0 = o3 at c1
  generalize s.ptrs[j]?.getD 0 = o4 at d1
  go_cut [4] (fun q wx => q = .pointer (some ⟨gs, k * 6, none⟩) ∧ Hid (VarW wx base B S { D with spans := D.spans.set k { s with lens := s.lens.set j 0, ptrs := s.ptrs.set j 0 } }) ∧ Hid (Below base w2 wx) ∧ Hid (wx.heap[w.heap.size]? = some (.cells #[.int .i64 k, .int .i64 j] 93 (0, 0))))
  case first =>
    go_region
    all_goals go_wp2_with fail
    all_goals go_meet
    all_goals exact ⟨rfl, S2, S3, bs2⟩
  case rest =>
    obtain ⟨rfl, hv3, hb3, bn3⟩ := hcut
    clear q1 x2 x4 x5 c1 d1 c2 d2 f2 S2 S3 bs2
    have q1 := cell_of_heap bn3.out 1 _ rfl
    have hk3 := Lib.hid (set_at (t := ({ s with lens := s.lens.set j 0, ptrs := s.ptrs.set j 0 } : SpanD)) hk'.out)
    have hgs3 := Lib.hid (show S.vs = .slice (some ⟨gs, 0, none⟩) (D.spans.set k { s with lens := s.lens.set j 0, ptrs := s.ptrs.set j 0 }).length cs by rw [List.length_set]; exact hgs'.out)
    obtain ⟨_, _, x2, _, _, _⟩ := hv3.out.six hgs3.out hk3.out hp'.out
    have f2 := hv3.out.frzS hgs3.out (k * 6 + 2)
    have s1 := hv3.out.mark hgs3.out k _ p (bits .andNot .i64 s.mark (2 ^ j)) hk3.out hp'.out
    have s2 : VarW (wc.setCell ⟨gs, k * 6 + 2, none⟩ (.int .i64 (bits .andNot .i64 s.mark (2 ^ j)))) base B S { D with spans := D.spans.set k (giveS s j) } := by simpa only [List.set_set, giveS] using s1.1
    have S2 := Lib.hid s2.drew
    have S3 := Lib.hid (below_drewN (hb3.out.trans s1.2) 1)
    have hmb := Lib.hid (fun w => markBit_any j (by omega) w)
    clear s1 s2
    dsimp only at x2
    go_upto_region 4 with fail
    go_cut [4] (fun q wx => q = .pointer (some ⟨gs, k * 6, none⟩) ∧ Hid (VarW wx base B S { D with spans := D.spans.set k (giveS s j) }) ∧ Hid (Below base w2 wx))
    case first =>
      go_region_with (first
        | (go_at_call 140; refine (hmb.out _).mono ?_; rintro e w' ⟨rfl, rfl⟩))
      all_goals go_wp2_with fail
      all_goals go_meet
      all_goals exact ⟨rfl, S2, S3⟩
    case rest =>
      obtain ⟨rfl, hv4, hb4⟩ := hcut
      clear q1 x2 f2 S2 S3
      have hA3 : A < D.words.length := by omega
      have hwc1 := hwc.1
      have hwc2 := hwc.2
      have g2 := hv4.out.cell 2 (.slice (some ⟨gw, 0, none⟩) D.words.length cw) (by rw [← hgw'.out]; rfl)
      have hsl := cut_words (g := gw) (n := D.words.length) (c := cw) hA3 hb2 hwc1 ((A : Int) + (z : Int)) rfl
      have hrw := hv4.out.own.words
      rw [hgw'.out] at hrw
      have hcl : ∀ ty, (Builtin.clear_ #[25] ty #[.slice (some ⟨gw, A, none⟩) z (cw - A)]).run Try.prog wc = .ok (.tuple #[]) (wc.setCells gw A (List.replicate z (.int .i64 0))) := fun ty =>
        Lib.run_clear_slice wc 25 3 ty (.int .i64 0) Try.underlying25 zeroInt rfl rfl gw A z _ (by omega) (fun i hi => by rw [hrw.cellAt (A + i) (by show A + i < D.words.length * 1; omega)]; simp; omega) (fun i hi => hrw.frozenAt (A + i))
      have hz5 := hv4.out.zero (g := gw) (cap := cw) hgw'.out A z
      have hv5 := Lib.hid hz5.1
      have hb5 := Lib.hid (hb4.out.trans hz5.2)
      have hso := Lib.hid (soil_any base B S { D with words := zeroK D.words A z, spans := D.spans.set k (giveS s j) } (A : Int) (z : Int) (by omega) (by omega) (by omega) (by omega) hdd _ hv5.out)
      have hA9 : (A : Int) ≤ (A : Int) + (z : Int) := by omega
      clear hrw hz5 hwc
      go_wp2_with fail
      refine hso.out.mono ?_
      rintro e w6 ⟨⟨v, rfl⟩, hv6, hb6⟩
      have hv6' := Lib.hid (show VarW w6 base B S (giveD D k s j) from by
        unfold giveD
        rw [hA'.out, hz'.out, Int.toNat_natCast, Int.toNat_natCast]
        exact hv6)
      have hb7 := Lib.hid (b0.out.trans ((hx2.out.mono (by have := b0.out.size; have := hle.out; have := hlt.out; omega)).trans (hb5.out.trans hb6)))
      clear hv6 hb6 g2 hcl hsl
      go_wp2_with fail
      go_end0
      exact ⟨⟨_, rfl⟩, hv6'.out, hb7.out⟩
end Go.Proofs.Ytajogfnlbdiokaa

/-
  The contracts of the program's places and Find.
-/
namespace Go.Proofs.Ytajogfnlbdiokaa
open Go.RowKit
open Go.Maps (Keyed)
set_option linter.unusedVariables false

/-- What a place reads as. -/
def dat (k j : Int) : DataW Unit := .agg [.lit (.int .i64 k), .lit (.int .i64 j)]
def placeElem : Value → Option (DataW Unit × List MemPlace)
  | .agg cs => match cs.toList with
    | [.int .i64 a, .int .i64 b] => some (dat a b, [])
    | _ => none
  | _ => none
theorem placeElem_mk (a b : Int) : placeElem (.agg #[.int .i64 a, .int .i64 b]) = some (dat a b, []) := rfl
theorem dat_inj {a b c d : Int} (h : dat a b = dat c d) : a = c ∧ b = d := by simpa [dat] using h
theorem placeElem_inv {v : Value} {z : DataW Unit × List MemPlace} (h : placeElem v = some z) : ∃ a b : Int, v = .agg #[.int .i64 a, .int .i64 b] ∧ z = (dat a b, []) := by
  unfold placeElem at h
  split at h
  · rename_i cs
    obtain ⟨l⟩ := cs
    split at h
    · rename_i heq
      simp at heq
      subst heq
      cases h
      exact ⟨_, _, rfl, rfl⟩
    · cases h
  · cases h
theorem zeroPlace (w : World) : (zeroValue 93).run Try.prog w = .ok (.agg #[.int .i64 0, .int .i64 0]) w := by kernel_rfl
theorem mapLaw : Keyed Try.prog 3 := Maps.int_keyed Try.underlying3
theorem key_i64 {a : Int} (h : I64 a) : keyOf Try.prog 3 (.int .i64 a) = some (.int .i64 a) := by
  obtain ⟨h1, h2⟩ := h
  exact Maps.keyOf_int_mk Try.underlying3 (WalkArith.wf_i64 (by omega))
theorem isKey (a : Int) : WideAt.IsKeyLit (.int .i64 a) := by first | trivial | simp [WideAt.IsKeyLit]

/-- Ahead of slot J of span K. -/
def Ahead (K J k j : Nat) : Prop := k < K ∨ (k = K ∧ j < J)
structure PlacesIs (D : WD) (M : DataW Unit) (K J : Nat) : Prop where
  isMap : Maps.IsMap M
  has : ∀ a : Int, Maps.has M (.int .i64 a) = true ↔ ∃ k j, Ahead K J k j ∧ IsObj D a k j
  is : ∀ (a : Int) (k j : Nat) (z : DataW Unit), Ahead K J k j → IsObj D a k j → M.atKey (.int .i64 a) z = dat k j
theorem PlacesIs.zero (D : WD) : PlacesIs D (.map []) 0 0 :=
  ⟨Maps.isMap_empty, fun a => ⟨fun h => by simp [Maps.has_eq] at h, fun ⟨k, j, h, _⟩ => by unfold Ahead at h; omega⟩, fun a k j z h => by unfold Ahead at h; omega⟩
theorem PlacesIs.skip {D : WD} {M : DataW Unit} {K J : Nat} {s : SpanD} (h : PlacesIs D M K J) (hs : D.spans[K]? = some s) (hl : ¬ 0 < s.lens[J]?.getD 0) : PlacesIs D M K (J + 1) := by
  have key : ∀ a k j, Ahead K (J + 1) k j → IsObj D a k j → Ahead K J k j := fun a k j ha ho => by
    rcases ha with ha | ⟨rfl, ha⟩
    · exact .inl ha
    · refine .inr ⟨rfl, ?_⟩
      by_cases e : j = J
      · subst e
        obtain ⟨t, ht, _, hpos, _⟩ := ho
        rw [hs] at ht
        cases ht
        exact absurd hpos hl
      · omega
  refine ⟨h.isMap, fun a => ?_, fun a k j z ha ho => h.is a k j z (key a k j ha ho) ho⟩
  rw [h.has a]
  exact ⟨fun ⟨k, j, ha, ho⟩ => ⟨k, j, ha.imp id fun ⟨e, hlt⟩ => ⟨e, by omega⟩, ho⟩, fun ⟨k, j, ha, ho⟩ => ⟨k, j, key a k j ha ho, ho⟩⟩
theorem PlacesIs.put {D : WD} (hF : HeapForm D) {M : DataW Unit} {K J : Nat} {s : SpanD} (h : PlacesIs D M K J) (hs : D.spans[K]? = some s) (hJ : J < s.lens.length) (hl : 0 < s.lens[J]?.getD 0) :
    PlacesIs D (M.put (.int .i64 (D.base + atW s (J : Int))) (dat K J)) K (J + 1) := by
  have ho : IsObj D (D.base + atW s (J : Int)) K J := ⟨s, hs, hJ, hl, rfl⟩
  have key : ∀ a k j, Ahead K (J + 1) k j → IsObj D a k j → a ≠ D.base + atW s (J : Int) → Ahead K J k j := fun a k j ha hi hne => by
    rcases ha with ha | ⟨rfl, ha⟩
    · exact .inl ha
    · refine .inr ⟨rfl, ?_⟩
      by_cases e : j = J
      · subst e
        obtain ⟨t, ht, _, _, he⟩ := hi
        rw [hs] at ht
        cases ht
        exact absurd he.symm hne
      · omega
  have lit : ∀ a : Int, a ≠ D.base + atW s (J : Int) → (Lit.int .i64 a) ≠ (Lit.int .i64 (D.base + atW s (J : Int))) := fun a hne e => hne (by simpa using e)
  refine ⟨h.isMap.put _ _, fun a => ?_, fun a k j z ha hi => ?_⟩
  · by_cases e : a = D.base + atW s (J : Int)
    · subst e
      rw [Maps.has_put_same h.isMap (isKey _)]
      exact ⟨fun _ => ⟨K, J, .inr ⟨rfl, by omega⟩, ho⟩, fun _ => rfl⟩
    · rw [Maps.has_put_other (lit a e), h.has a]
      exact ⟨fun ⟨k, j, ha, hi⟩ => ⟨k, j, ha.imp id fun ⟨e, hlt⟩ => ⟨e, by omega⟩, hi⟩, fun ⟨k, j, ha, hi⟩ => ⟨k, j, key a k j ha hi e, hi⟩⟩
  · by_cases e : a = D.base + atW s (J : Int)
    · subst e
      rw [Maps.atKey_put_same h.isMap (isKey _)]
      obtain ⟨rfl, rfl⟩ := hi.unique hF ho
      rfl
    · rw [Maps.atKey_put_other (lit a e)]
      exact h.is a k j z (key a k j ha hi e) hi
theorem PlacesIs.next {D : WD} {M : DataW Unit} {K : Nat} {s : SpanD} (h : PlacesIs D M K s.lens.length) (hs : D.spans[K]? = some s) : PlacesIs D M (K + 1) 0 := by
  have key : ∀ a k j, Ahead (K + 1) 0 k j → IsObj D a k j → Ahead K s.lens.length k j := fun a k j ha ho => by
    rcases ha with ha | ⟨_, ha⟩
    · by_cases e : k = K
      · subst e
        obtain ⟨t, ht, hj, _⟩ := ho
        rw [hs] at ht
        cases ht
        exact .inr ⟨rfl, hj⟩
      · exact .inl (by omega)
    · omega
  refine ⟨h.isMap, fun a => ?_, fun a k j z ha ho => h.is a k j z (key a k j ha ho) ho⟩
  rw [h.has a]
  exact ⟨fun ⟨k, j, ha, ho⟩ => ⟨k, j, .inl (by unfold Ahead at ha; omega), ho⟩, fun ⟨k, j, ha, ho⟩ => ⟨k, j, key a k j ha ho, ho⟩⟩

/-- The map of places, in a block of its own. -/
def OwnP (w : World) (g n : Nat) (M : DataW Unit) : Prop := w.ownsMap Try.prog 3 placeElem g n M
theorem OwnP.below {w w' : World} {g n : Nat} {M : DataW Unit} (h : OwnP w g n M) (hb : Below w.heap.size w w') : OwnP w' g n M := World.ownsMap.kept h (grown_of_below hb) (by simp)

set_option maxRecDepth 100000 in
set_option maxHeartbeats 8000000 in
theorem places_any (B : Nat) (v : Value) (D : WD) (hF : HeapForm D) (w : World) (hr : RdW w v D) (hB : BoxW w B v) :
    Calls Try.prog 114 #[.pointer (some ⟨B, 0, none⟩)] w fun e w' => ∃ g n M, e = .returned (.map (some g)) ∧ OwnP w' g n M ∧ PlacesIs D M D.spans.length 0 ∧ Below w.heap.size w w' := by
  have hr' := Lib.hid hr
  have hB' := Lib.hid hB
  have hF' := Lib.hid hF
  obtain ⟨vw, vd, vs, vm, vg, rfl, a1, a2, a3, a4, a5⟩ := hr
  obtain ⟨aS, cS, rfl, hls, hx⟩ := a3
  have g4 := Ext.cell (hB.elim fun cs h => by obtain rfl := (Value.agg.inj h.1).symm; exact cell_of_heap h.2 4 _ rfl)
  have f4 := g4 (Ext.self w)
  have hx' := Lib.hid hx
  have hsl := hF.spans
  have hpl := hF.geo.2.2.2.2.1
  have hbw : Below w.heap.size w (w.alloc (.map #[] 0)) := below_box w _
  have hmk := @run_makeMap Try.prog
  have hown0 := Lib.hid (show OwnP (w.alloc (.map #[] 0)) w.heap.size 0 (.map []) from World.ownsMap_made w Try.prog 3 placeElem)
  have hbw' := Lib.hid hbw
  have f4' := cell_below hbw f4
  clear hF hB hx hls a1 a2 a4 a5 hbw f4
  go_enter Try.func114, Try.ntmps114
  go_wp2_with fail
  clear f4'
  go_loopw [14] (fun i wr => ∃ (k : Nat) (M : DataW Unit), k ≤ D.spans.length ∧ i = .int .i64 k ∧ Hid (PlacesIs D M k 0) ∧ ∃ x : Ext w, wr = x.val ∧ Hid (OwnP x.val w.heap.size (k * 16) M)) (fun i _ => D.spans.length - (intOf i).toNat)
  case atStart => exact ⟨0, .map [], Nat.zero_le _, rfl, PlacesIs.zero D, ⟨_, hbw'.out⟩, rfl, hown0.out⟩
  case round =>
    obtain ⟨k, M, hk, rfl, hP, x, rfl, hown⟩ := hrel
    by_cases hlt : k < D.spans.length
    · have hlt1 : (k : Int) < (D.spans.length : Int) := by omega
      obtain ⟨s, hks⟩ : ∃ s, D.spans[k]? = some s := ⟨_, List.getElem?_eq_getElem hlt⟩
      obtain ⟨b1, o1, rfl, hs⟩ := hx'.out k s hks
      obtain ⟨vl, vp, _, _, _, _, y4, _, ⟨al, cl, rfl, hll, xl⟩, _⟩ := hs
      have y4 := Ext.cell y4
      have xl' := Lib.hid xl
      have hA := hF'.out.span k s hks
      have hks' := Lib.hid hks
      have hl16 : s.lens.length ≤ 16 := by have := hA.lens; have := (sl_bd s.cls).2; omega
      clear hA hks xl hll
      go_wp2_with fail
      go_loopw [26] (fun i wr => ∃ (j : Nat) (M : DataW Unit), j ≤ s.lens.length ∧ i = .int .i64 j ∧ Hid (PlacesIs D M k j) ∧ ∃ x : Ext w, wr = x.val ∧ Hid (OwnP x.val w.heap.size (k * 16 + j) M)) (fun i _ => s.lens.length - (intOf i).toNat)
      case atStart => exact ⟨0, M, Nat.zero_le _, rfl, hP, x, rfl, hown⟩
      case round =>
        clear hP hown
        obtain ⟨j, M, hj, rfl, hP, x, rfl, hown⟩ := hrel
        by_cases hjl : j < s.lens.length
        · have hj1 : (j : Int) < (s.lens.length : Int) := by omega
          obtain ⟨bl, ol, rfl, gl⟩ := xl'.out j hjl
          have gl := Ext.cell gl
          have hskip := Lib.hid (hP.out.skip hks'.out (J := j))
          have hput := Lib.hid (hP.out.put hF'.out hks'.out hjl)
          have hbd := Lib.hid (show I64 (D.base + atW s (j : Int)) from by
            have hA := hF'.out.span k s hks'.out
            have hg := hF'.out.geo
            have h1 := hA.pg0
            have h2 := hA.pg1
            have hm := sz_bd s.cls
            have hm0 : 0 ≤ (j : Int) * sz s.cls := Int.mul_nonneg (by omega) hm.1
            have hm1 : (j : Int) * sz s.cls ≤ 16000 := by
              have := Int.mul_le_mul (show (j : Int) ≤ 1000 by omega) hm.2 hm.1 (by omega)
              omega
            have hg1 := hg.1
            have hg2 := hg.2.1
            unfold I64 atW
            omega)
          generalize s.lens[j]?.getD 0 = l at *
          by_cases hl : 0 < l
          · have hP2 := Lib.hid (hput.out hl)
            have bb := below_box x.val (.cells #[.int .i64 k, .int .i64 j] 93)
            have bn := box_new x.val (.cells #[.int .i64 k, .int .i64 j] 93)
            have bbh := Lib.hid (below_trans x.below bb)
            have bnh := Lib.hid bn
            have hown1 := Lib.hid (OwnP.below hown.out bb)
            have hcall := Lib.hid (fun (w2 : World) (hb : Below w.heap.size w w2) => addrI_any B _ D k j s hks'.out (hF'.out.span k s hks'.out).pg0 (by have := (hF'.out.span k s hks'.out).pg1; omega) (by omega) (by have := hF'.out.geo.1; omega) hF'.out.geo.2.1 w2 (hr'.out.below hb) (hB'.out.below hb))
            have hstep := Lib.hid (show ∀ w2, Below (x.val.alloc (.cells #[.int .i64 k, .int .i64 j] 93)).heap.size (x.val.alloc (.cells #[.int .i64 k, .int .i64 j] 93)) w2 →
                w2.cell? ⟨x.val.heap.size, 0, none⟩ = some (.int .i64 k) ∧ w2.cell? ⟨x.val.heap.size, 1, none⟩ = some (.int .i64 j) ∧
                ∃ w3, (Instr.mapUpdate 133 (.map (some w.heap.size)) (.int .i64 (D.base + atW s (j : Int))) (.agg #[.int .i64 k, .int .i64 j])).run Try.prog w2 = .ok () w3 ∧ Hid (OwnP w3 w.heap.size (k * 16 + (j + 1)) (M.put (.int .i64 (D.base + atW s (j : Int))) (dat k j))) ∧ Hid (Below w.heap.size w w3) from fun w2 b3 => by
              refine ⟨cell_of_heap (heap_below b3 bnh.out) 0 _ rfl, cell_of_heap (heap_below b3 bnh.out) 1 _ rfl, ?_⟩
              obtain ⟨w3, hrun, hown3, hg3⟩ := World.ownsMap.update (OwnP.below hown1.out b3) mapLaw Try.underlying133 (by unfold maxLen; omega) (key_i64 hbd.out) (placeElem_mk k j)
              exact ⟨w3, hrun, hown3, (below_trans bbh.out b3).grown hg3 (Nat.le_trans bbh.out.size b3.size) (fun q hq => by cases hq; exact Nat.le_refl _)⟩)
            clear hP hown hskip hput bb bn
            go_wp2_with fail
            go_region_with (first
              | (go_at_call 76; refine (hcall.out _ ?_).mono ?_; exact ⟨bbh.out.os, bbh.out.tape, bbh.out.output, bbh.out.size, bbh.out.block⟩; rintro e w2 ⟨rfl, b2⟩; obtain ⟨c0, c1, w3, hrun, hown4, b4⟩ := hstep.out w2 ⟨b2.os, b2.tape, b2.output, b2.size, b2.block⟩; clear b2))
            all_goals clear c0 c1 hrun
            all_goals obtain ⟨x2, rfl⟩ := Ext.of b4.out
            all_goals go_wp2_with fail
            all_goals go_roundw
            all_goals first
              | exact ⟨j + 1, _, by omega, by go_num, hP2, x2, rfl, hown4⟩
              | (simp [intOf]; omega)
          · have hP2 := Lib.hid (hskip.out hl)
            have hown2 := Lib.hid (show OwnP x.val w.heap.size (k * 16 + (j + 1)) M from World.ownsMap.mono hown.out (by omega))
            clear hP hown
            go_wp2_with fail
            go_roundw
            case rel => exact ⟨j + 1, M, by omega, by go_num, hP2, x, rfl, hown2⟩
            case measure => simp [intOf]; omega
        · obtain rfl : j = s.lens.length := by omega
          have hP2 := Lib.hid (hP.out.next hks'.out)
          have hown2 := Lib.hid (show OwnP x.val w.heap.size ((k + 1) * 16) M from World.ownsMap.mono hown.out (by omega))
          clear hP hown
          go_wp2_with fail
          go_roundw
          case rel => exact ⟨k + 1, M, by omega, by go_num, hP2, x, rfl, hown2⟩
          case measure => simp [intOf]; omega
    · obtain rfl : k = D.spans.length := by omega
      go_wp2_with fail
      go_ret
      exact ⟨_, _, _, rfl, hown.out, hP.out, x.below⟩
end Go.Proofs.Ytajogfnlbdiokaa

/-
  The contract of the program's Find.
-/
namespace Go.Proofs.Ytajogfnlbdiokaa
open Go.RowKit
open Go.Maps (Keyed)
set_option linter.unusedVariables false

/-- 'at, ok := places[addr]': what comes is a place; ok as it is known. -/
theorem lookup_place {P : Program} (w : World) {ops : Array Oper} {rest : List Oper} {o : Oper} {a : Act} {Q : Exit → Act → World → Prop} (hP : P = Try.prog) (hg : o.guard = none) (m x : Operand) (hop : o.op = Op.lookup 133 m x true) (b n : Nat) (D : DataW Unit)
    (hm : a.eval m = .map (some b)) (hown : OwnP w b n D) (key : Value) (kl : Lit) (hx : a.eval x = key) (hkey : keyOf P 3 key = some kl) (ok : Bool) (hok : Maps.has D kl = ok) (c d : Int) (hcd : D.atKey kl (dat 0 0) = dat c d)
    (hK : wpList P ops Q rest (a.put o.dst (.tuple #[.agg #[.int .i64 c, .int .i64 d], .bool ok])) w) : wpList P ops Q (o :: rest) a w := by
  subst hP
  refine wpList_lookup_own_ok w hg m x _ hop 3 93 mapLaw Try.underlying133 placeElem (zeroPlace w) (dat 0 0) [] (placeElem_mk 0 0) b n D hm hown key kl hx hkey fun v ps hv => ?_
  obtain ⟨c', d', rfl, he⟩ := placeElem_inv hv
  have e := congrArg Prod.fst he
  simp only at e
  rw [hcd] at e
  obtain ⟨rfl, rfl⟩ := dat_inj e
  rw [hok]
  exact hK

set_option maxRecDepth 100000 in
set_option maxHeartbeats 4000000 in
theorem findI_any (v : Value) (D : WD) (hm : MarksIn D) (addr : Int) (ha : I64 addr) (w : World) (hr : RdW w v D) :
    Calls Try.prog 51 #[v, .int .i64 addr] w fun e w' => FindIs D addr e ∧ Below w.heap.size w w' := by
  have hm' := Lib.hid hm
  clear hm
  obtain ⟨vw, vd, vs, vm, vg, rfl, a1, a2, a3, a4, a5⟩ := hr
  have bx := box_new w (.cells #[.int .i64 D.base, .int .i64 D.pages, vw, vd, vs, vm, .int .i64 D.phase, .int .i64 D.next, vg] 32)
  have bw := below_box w (.cells #[.int .i64 D.base, .int .i64 D.pages, vw, vd, vs, vm, .int .i64 D.phase, .int .i64 D.next, vg] 32)
  have hW := Lib.hid (show RdW (w.alloc (.cells #[.int .i64 D.base, .int .i64 D.pages, vw, vd, vs, vm, .int .i64 D.phase, .int .i64 D.next, vg] 32)) (.agg #[.int .i64 D.base, .int .i64 D.pages, vw, vd, vs, vm, .int .i64 D.phase, .int .i64 D.next, vg]) D from ⟨vw, vd, vs, vm, vg, rfl, a1.below bw, a2.below bw, a3.below bw, a4.below bw, a5.below bw⟩)
  have hBx := Lib.hid (show BoxW (w.alloc (.cells #[.int .i64 D.base, .int .i64 D.pages, vw, vd, vs, vm, .int .i64 D.phase, .int .i64 D.next, vg] 32)) w.heap.size (.agg #[.int .i64 D.base, .int .i64 D.pages, vw, vd, vs, vm, .int .i64 D.phase, .int .i64 D.next, vg]) from ⟨_, rfl, bx⟩)
  have bw' := Lib.hid bw
  clear a1 a2 a3 a4 a5 bx bw
  go_enter Try.func51, Try.ntmps51
  go_wp2_with fail
  refine (formOkI_any _ D hm'.out _ hW.out).mono ?_
  rintro e w1 ⟨hq, b1⟩
  have hq := hq.elim
  obtain ⟨x1, rfl⟩ := Ext.of b1
  clear b1
  generalize w.alloc (.cells #[.int .i64 D.base, .int .i64 D.pages, vw, vd, vs, vm, .int .i64 D.phase, .int .i64 D.next, vg] 32) = W at *
  rcases hq with ⟨hF, rfl⟩ | ⟨hF, rfl⟩
  case inr =>
    have n := Lib.hid (FindIs.no (D := D) (addr := addr) fun h => absurd h hF)
    clear hF
    go_wp2_with fail
    go_ret2
    exact ⟨n.out, below_trans bw'.out x1.below⟩
  have hF' := Lib.hid hF
  have hcall := Lib.hid (places_any w.heap.size _ D hF x1.val (hW.out.below x1.below) (hBx.out.below x1.below))
  have hkey := Lib.hid (key_i64 ha)
  clear hF ha
  go_wp2_with fail
  refine hcall.out.mono ?_
  rintro e w2 ⟨g, n, M, rfl, hown, hP, b2⟩
  have hown' := Lib.hid hown
  have hP' := Lib.hid hP
  have bw2 := Lib.hid (below_trans bw'.out (below_trans x1.below b2))
  clear hown hP b2 hcall
  by_cases hh : ∃ k j, IsObj D addr k j
  · obtain ⟨k, j, ho⟩ := hh
    have hk := Lib.hid (show Ahead D.spans.length 0 k j from .inl (ho.elim fun s hs => (List.getElem?_eq_some_iff.1 hs.1).1))
    have h1 := Lib.hid ((hP'.out.has addr).2 ⟨k, j, hk.out, ho⟩)
    have h2 := Lib.hid (hP'.out.is addr k j (dat 0 0) hk.out ho)
    have y := Lib.hid (FindIs.yes hF'.out ho)
    clear ho
    have hcs := World.alloc
    clear hcs
    go_wp2_with (at_lookup; refine lookup_place _ rfl rfl _ _ rfl g n M rfl hown'.out _ _ rfl hkey.out true h1.out (k : Int) (j : Int) h2.out ?_)
    go_quiet (fail)
    go_wp2
    go_ret2
    exact ⟨y.out, below_drewN (below_trans bw2.out (below_box _ _)) _⟩
  · have h1 := Lib.hid (show Maps.has M (.int .i64 addr) = false from by
      cases h : Maps.has M (.int .i64 addr)
      · rfl
      · obtain ⟨k, j, _, ho⟩ := (hP'.out.has addr).1 h
        exact absurd ⟨k, j, ho⟩ hh)
    have h2 := Lib.hid (show M.atKey (.int .i64 addr) (dat 0 0) = dat 0 0 from Maps.atKey_of_not_has h1.out _)
    have n' := Lib.hid (FindIs.no (D := D) (addr := addr) fun _ k j h => hh ⟨k, j, h⟩)
    clear hh
    go_wp2_with (at_lookup; refine lookup_place _ rfl rfl _ _ rfl g n M rfl hown'.out _ _ rfl hkey.out false h1.out 0 0 h2.out ?_)
    go_ret2
    exact ⟨n'.out, below_trans bw2.out (below_box _ _)⟩
end Go.Proofs.Ytajogfnlbdiokaa

/-
  The contract of the program's Give.
-/
namespace Go.Proofs.Ytajogfnlbdiokaa
open Go.RowKit
set_option linter.unusedVariables false

theorem empty_iff (s : SpanD) : usedCnt s s.lens.length = 0 ↔ EmptyS s := by
  unfold usedCnt EmptyS
  rw [List.take_length, List.length_eq_zero_iff, List.filter_eq_nil_iff]
  constructor
  · intro h i hi h0
    rw [List.getElem?_eq_getElem hi] at h0
    exact absurd (by simpa using h0) (h s.lens[i] (List.getElem_mem hi))
  · intro h x hx hd
    obtain ⟨i, hi, rfl⟩ := List.mem_iff_getElem.1 hx
    refine h i hi ?_
    rw [List.getElem?_eq_getElem hi]
    simpa using hd
/-- The variable's spans have one less. -/
theorem VarW.erase {w : World} {base B n0 : Nat} {S : Shape} {D : WD} (h : VarW w base B S D) (hB0 : B < n0) {v : Value} {k : Nat} (hk : k < D.spans.length)
    (hr : w.ownsRow n0 79 6 v (k + (D.spans.length - (k + 1))) ((flatV D.spans S.sv).take (k * 6) ++ (flatV D.spans S.sv).drop ((k + 1) * 6))) :
    (∃ S', VarW (w.setCell ⟨B, 4, none⟩ v) base B S' { D with spans := D.spans.eraseIdx k }) ∧ Below base w (w.setCell ⟨B, 4, none⟩ v) := by
  have hle := h.le
  have hS : OwnS w base v (D.spans.eraseIdx k) (S.sv.eraseIdx k) := OwnS.erase h.own.inner h.own.svl k hk (by omega) hr
  have hnew := h.newSpans hS ?_ ?_
  · exact ⟨⟨_, hnew.1⟩, hnew.2⟩
  · have hsub : (({ S with vs := v, sv := S.sv.eraseIdx k } : Shape).ints).Sublist S.ints := by
      show ((S.vw :: (svInts (S.sv.eraseIdx k))) ++ S.mv ++ [S.vg]).Sublist ((S.vw :: svInts S.sv) ++ S.mv ++ [S.vg])
      exact (((svInts_sub S.sv k).cons_cons _).append (List.Sublist.refl _)).append (List.Sublist.refl _)
    exact h.own.nodup.sublist (hsub.filterMap _)
  · intro x hx
    rcases List.mem_cons.1 hx with rfl | hx
    · intro e
      have := (hr.lt B e).1
      omega
    · intro e
      exact h.ne (List.mem_filterMap.2 ⟨x, by have := (svInts_sub S.sv k).subset hx; simp [Shape.all, this], e⟩)
set_option maxRecDepth 100000 in
set_option maxHeartbeats 16000000 in
theorem igive_any (v : Value) (D : WD) (addr : Int) (hm : MarksIn D) (ha : I64 addr) (hs : Small D) (w : World) (hr : RdW w v D) :
    Calls Try.prog 27 #[v, .int .i64 addr] w fun e w' => ∃ S D' f, GiveIs D addr D' f ∧ e = .returned (.tuple #[S.val D', .bool f]) ∧ OwnW w' w.heap.size S D' ∧ Below w.heap.size w w' := by
  have hs' := Lib.hid hs
  have hm' := Lib.hid hm
  have ha' := Lib.hid ha
  clear hs hm ha
  obtain ⟨vw, vd, vs, vm, vg, rfl, a1, a2, a3, a4, a5⟩ := hr
  have bb := below_trans (below_box w (.cells #[.int .i64 D.base, .int .i64 D.pages, vw, vd, vs, vm, .int .i64 D.phase, .int .i64 D.next, vg] 32)) (below_box _ (.cells #[.int .i64 0, .int .i64 0, .slice none 0 0, .slice none 0 0, .slice none 0 0, .slice none 0 0, .int .i64 0, .int .i64 0, .slice none 0 0] 32))
  have hA := heap_below (below_box (w.alloc (.cells #[.int .i64 D.base, .int .i64 D.pages, vw, vd, vs, vm, .int .i64 D.phase, .int .i64 D.next, vg] 32)) (.cells #[.int .i64 0, .int .i64 0, .slice none 0 0, .slice none 0 0, .slice none 0 0, .slice none 0 0, .int .i64 0, .int .i64 0, .slice none 0 0] 32)) (box_new w (.cells #[.int .i64 D.base, .int .i64 D.pages, vw, vd, vs, vm, .int .i64 D.phase, .int .i64 D.next, vg] 32))
  have hR := box_new (w.alloc (.cells #[.int .i64 D.base, .int .i64 D.pages, vw, vd, vs, vm, .int .i64 D.phase, .int .i64 D.next, vg] 32)) (.cells #[.int .i64 0, .int .i64 0, .slice none 0 0, .slice none 0 0, .slice none 0 0, .slice none 0 0, .int .i64 0, .int .i64 0, .slice none 0 0] 32)
  rw [World.size_alloc] at hR
  have hW := Lib.hid (show RdW ((w.alloc (.cells #[.int .i64 D.base, .int .i64 D.pages, vw, vd, vs, vm, .int .i64 D.phase, .int .i64 D.next, vg] 32)).alloc (.cells #[.int .i64 0, .int .i64 0, .slice none 0 0, .slice none 0 0, .slice none 0 0, .slice none 0 0, .int .i64 0, .int .i64 0, .slice none 0 0] 32)) (.agg #[.int .i64 D.base, .int .i64 D.pages, vw, vd, vs, vm, .int .i64 D.phase, .int .i64 D.next, vg]) D from ⟨vw, vd, vs, vm, vg, rfl, a1.below bb, a2.below bb, a3.below bb, a4.below bb, a5.below bb⟩)
  have bb' := Lib.hid bb
  have hA' := Lib.hid hA
  have hR' := Lib.hid hR
  have hz := Lib.hid (show ((w.alloc (.cells #[.int .i64 D.base, .int .i64 D.pages, vw, vd, vs, vm, .int .i64 D.phase, .int .i64 D.next, vg] 32)).alloc (.cells #[.int .i64 0, .int .i64 0, .slice none 0 0, .slice none 0 0, .slice none 0 0, .slice none 0 0, .int .i64 0, .int .i64 0, .slice none 0 0] 32)).heap.size = w.heap.size + 1 + 1 by simp)
  clear a1 a2 a3 a4 a5 bb hA hR
  go_enter Try.func27, Try.ntmps27
  go_wp2_with fail
  generalize (w.alloc (.cells #[.int .i64 D.base, .int .i64 D.pages, vw, vd, vs, vm, .int .i64 D.phase, .int .i64 D.next, vg] 32)).alloc (.cells #[.int .i64 0, .int .i64 0, .slice none 0 0, .slice none 0 0, .slice none 0 0, .slice none 0 0, .int .i64 0, .int .i64 0, .slice none 0 0] 32) = W at *
  refine (findI_any _ D hm'.out addr ha'.out _ hW.out).mono ?_
  rintro e w1 ⟨⟨r, q, rfl, hq⟩, b1⟩
  have hR1 := heap_below b1 hR'.out
  have hA1 := heap_below b1 hA'.out
  have bb1 := Lib.hid (below_trans bb'.out b1)
  have hW1 := Lib.hid (hW.out.below b1)
  have hz1 := Lib.hid (show w.heap.size + 1 + 1 ≤ w1.heap.size by have := hz.out; have := b1.size; omega)
  clear b1
  rcases Find.some hq with ⟨k, j, s, hF, ho, hks, hj, rfl, rfl⟩ | ⟨y, rfl, rfl⟩
  case inr =>
    have y := Lib.hid y
    have n0 := cell_of_heap hR1 0 _ rfl
    have n1 := cell_of_heap hR1 1 _ rfl
    have n2 := cell_of_heap hR1 2 _ rfl
    have n3 := cell_of_heap hR1 3 _ rfl
    have n4 := cell_of_heap hR1 4 _ rfl
    have n5 := cell_of_heap hR1 5 _ rfl
    have n6 := cell_of_heap hR1 6 _ rfl
    have n7 := cell_of_heap hR1 7 _ rfl
    have n8 := cell_of_heap hR1 8 _ rfl
    have z0 := frozen_of_heap hR1 0
    have z1 := frozen_of_heap hR1 1
    have z2 := frozen_of_heap hR1 2
    have z3 := frozen_of_heap hR1 3
    have z4 := frozen_of_heap hR1 4
    have z5 := frozen_of_heap hR1 5
    have z6 := frozen_of_heap hR1 6
    have z7 := frozen_of_heap hR1 7
    have z8 := frozen_of_heap hR1 8
    clear hR1 hA1 hq
    go_wp2_with fail
    refine bodyPost_ret (v := .tuple #[zeroS.val zeroD, .bool false]) (by simp [results, Try.results27, go_sem, n0, n1, n2, n3, n4, n5, n6, n7, n8, Shape.val, zeroS, zeroD]) rfl ?_
    exact ⟨zeroS, zeroD, false, y.out, rfl, own_zero _ _, Chg.below (bs := [w.heap.size + 1]) bb1.out ((((((((((Chg.refl _ _).put (b := w.heap.size + 1) (by simp) 0 _).put (b := w.heap.size + 1) (by simp) 1 _).put (b := w.heap.size + 1) (by simp) 2 _).put (b := w.heap.size + 1) (by simp) 3 _).put (b := w.heap.size + 1) (by simp) 4 _).put (b := w.heap.size + 1) (by simp) 5 _).put (b := w.heap.size + 1) (by simp) 6 _).put (b := w.heap.size + 1) (by simp) 7 _).put (b := w.heap.size + 1) (by simp) 8 _) bb1.out.size (fun q hq => by rw [List.mem_singleton.1 hq]; omega)⟩
  have hF' := Lib.hid hF
  have ho' := Lib.hid ho
  have hks' := Lib.hid hks
  have hin := Lib.hid (hF.slotIn hks hj)
  have hown := Lib.hid (copyOf_any w.heap.size _ D hs'.out w1 hW1.out ⟨_, rfl, hA1⟩)
  have hsp := Lib.hid (show D.spans.length ≤ 1000 by have := hF.spans; have := hF.geo.2.2.2.2.1; omega)
  have hR1' := Lib.hid hR1
  clear hq hR1 hA1 hF ho hks
  go_wp2_with fail
  refine hown.out.mono ?_
  rintro e w2 ⟨S, rfl, ho, b2⟩
  obtain ⟨aw, ad, aS, am, ag, cw, cd, cS, cm, cg, sv, mv, rfl⟩ := Shape.lits ho
  have hv := Lib.hid (VarW.mk_box ho b2.size)
  have bb2 := Lib.hid (below_trans bb1.out b2)
  have hR2 := Lib.hid (heap_below (below_trans b2 (below_box w2 (.cells (Shape.cells ⟨.slice aw D.words.length cw, .slice ad D.dirty.length cd, .slice aS D.spans.length cS, .slice am D.muts.length cm, .slice ag D.grey.length cg, sv, mv⟩ D) 32))) hR1'.out)
  clear ho b2 hown
  have hbs := Lib.hid (show w1.heap.size ≤ w2.heap.size from hv.out.le)
  have hRne : ¬ (w2.heap.size = w.heap.size + 1) := by have := hz1.out; have := hbs.out; omega
  have hRne' : ¬ (w.heap.size + 1 = w2.heap.size) := by omega
  dsimp only [Shape.val]
  dsimp only [Shape.cells] at hv hR2
  go_wp2_with fail
  refine (clearSlot_any _ _ _ D k j s hks'.out hin.out _ hv.out).mono ?_
  rintro e w3 ⟨⟨_, rfl⟩, hv3, b3⟩
  have bb3 := Lib.hid (show Below w.heap.size w w3 from (below_trans bb2.out (below_box w2 _)).trans (b3.mono (by have := hz1.out; omega)))
  have hR3 := Lib.hid ((b3.block (w.heap.size + 1) (by have := hz1.out; omega)).trans hR2.out)
  have hk3 := Lib.hid (show (giveD D k s j).spans[k]? = some (giveS s j) from set_at hks'.out)
  have hl3 := Lib.hid (show (giveD D k s j).spans.length ≤ 1000 by rw [(giveD_bulk hks'.out).2]; exact hsp.out)
  have y1 := Lib.hid (show EmptyS (giveS s j) → GiveIs D addr { giveD D k s j with spans := (giveD D k s j).spans.eraseIdx k } true from fun h => .inl ⟨k, j, s, hF'.out, ho'.out, hks'.out, rfl, .inl ⟨h, rfl⟩⟩)
  have y2 := Lib.hid (show ¬ EmptyS (giveS s j) → GiveIs D addr (giveD D k s j) true from fun h => .inl ⟨k, j, s, hF'.out, ho'.out, hks'.out, rfl, .inr ⟨h, rfl⟩⟩)
  have hu16 := Lib.hid (show (giveS s j).lens.length ≤ 16 from by have := hin.out.lens; have := (sl_bd s.cls).2; simp only [giveS, List.length_set]; omega)
  clear b3 hv
  generalize giveD D k s j = D3 at *
  generalize giveS s j = s3 at *
  obtain ⟨p, hp⟩ := hv3.svAt hk3.out
  obtain ⟨gs, cs, hgs⟩ := hv3.headS (by have := (List.getElem?_eq_some_iff.1 hk3.out).1; omega)
  have hkl0 := (List.getElem?_eq_some_iff.1 hk3.out).1
  have hkl1 : (k : Int) < (D3.spans.length : Int) := by omega
  have g4 := hv3.cell 4 (.slice (some ⟨gs, 0, none⟩) D3.spans.length cs) (by rw [← hgs]; rfl)
  have f4 := hv3.frz 4
  have hsm := hl3.out
  have hoS := hv3.own.ownS
  rw [hgs] at hoS
  have hsr := Lib.hid (own_src hoS)
  have hrs := Lib.hid (show RdSpan w3 gs (k * 6) s3 from by
    obtain ⟨x0, x1, x2, x3, x4, x5⟩ := hv3.six hgs hk3.out hp
    have hi := hv3.own.inner k s3 p hk3.out hp
    exact ⟨_, _, x0, x1, x2, x3, x4, x5, Rd.of_owns hi.1, Rd.of_owns hi.2⟩)
  have hus := Lib.hid (usedSlots_any gs (k * 6) s3 w3 hrs.out)
  have hei := Lib.hid (empty_iff s3)
  have hcl := usedCnt_le s3 s3.lens.length
  have h16 := hu16.out
  have hv3' := Lib.hid hv3
  have hwo := Lib.hid (withoutSpan_any (some ⟨gs, 0, none⟩) D3.spans.length cs k (flatV D3.spans _) hsr.out.2.1 hsr.out.2.2.1 hsm hkl0 w3 hsr.out.2.2.2)
  clear hv3 hp hgs hoS
  go_wp2_with fail
  refine hus.out.mono ?_
  rintro e w' ⟨rfl, rfl⟩
  generalize usedCnt s3 s3.lens.length = u at *
  by_cases he : u = 0
  · have y := Lib.hid (y1.out (hei.out.1 he))
    have hu0 : ((u : Int) == 0) = true := by rw [he]; rfl
    clear he
    go_wp2_with fail
    refine hwo.out.mono ?_
    rintro e w5 ⟨v5, rfl, hr5, b5⟩
    have hv5 := hv3'.out.below b5
    have hx5 := hv5.erase (n0 := w3.heap.size) hv3'.out.lt hkl0 hr5
    obtain ⟨a5, c5, rfl⟩ := own_slice hr5
    have g45 := cell_below b5 g4
    have f45 : w5.frozen? ⟨w2.heap.size, 4, none⟩ = false := (b5.frozen (p := ⟨w2.heap.size, 4, none⟩) hv3'.out.lt).trans f4
    obtain ⟨S5, hv⟩ := hx5.1
    have bbe := Lib.hid ((below_trans bb3.out b5).trans (hx5.2.mono (by have := hz1.out; omega)))
    have hRe := (heap_setCell_other w5 ⟨w2.heap.size, 4, none⟩ (w.heap.size + 1) (.slice a5 (k + (D3.spans.length - (k + 1))) c5) (by simpa using hRne')).trans (heap_below b5 hR3.out)
    clear b5 hr5 hv5 hx5 g4 f4
    go_upto_region 8 with fail
    clear g45 f45
    generalize ({ D3 with spans := D3.spans.eraseIdx k } : WD) = E at *
    generalize w5.setCell ⟨w2.heap.size, 4, none⟩ (.slice a5 (k + (D3.spans.length - (k + 1))) c5) = w6 at *
    obtain ⟨aw', ad', aS', am', ag', cw', cd', cS', cm', cg', sv', mv', rfl⟩ := Shape.lits hv.own
    have bE := hv.box
    dsimp only [Shape.cells] at bE
    have n0 := cell_of_heap hRe 0 _ rfl
    have n1 := cell_of_heap hRe 1 _ rfl
    have n2 := cell_of_heap hRe 2 _ rfl
    have n3 := cell_of_heap hRe 3 _ rfl
    have n4 := cell_of_heap hRe 4 _ rfl
    have n5 := cell_of_heap hRe 5 _ rfl
    have n6 := cell_of_heap hRe 6 _ rfl
    have n7 := cell_of_heap hRe 7 _ rfl
    have n8 := cell_of_heap hRe 8 _ rfl
    have z0 := frozen_of_heap hRe 0
    have z1 := frozen_of_heap hRe 1
    have z2 := frozen_of_heap hRe 2
    have z3 := frozen_of_heap hRe 3
    have z4 := frozen_of_heap hRe 4
    have z5 := frozen_of_heap hRe 5
    have z6 := frozen_of_heap hRe 6
    have z7 := frozen_of_heap hRe 7
    have z8 := frozen_of_heap hRe 8
    have m0 := cell_of_heap bE 0 _ rfl
    have m1 := cell_of_heap bE 1 _ rfl
    have m2 := cell_of_heap bE 2 _ rfl
    have m3 := cell_of_heap bE 3 _ rfl
    have m4 := cell_of_heap bE 4 _ rfl
    have m5 := cell_of_heap bE 5 _ rfl
    have m6 := cell_of_heap bE 6 _ rfl
    have m7 := cell_of_heap bE 7 _ rfl
    have m8 := cell_of_heap bE 8 _ rfl
    have hv' := Lib.hid hv
    clear hv bE hRe
    go_wp2_with fail
    refine bodyPost_ret (v := .tuple #[.agg #[.int .i64 E.base, .int .i64 E.pages, .slice aw' E.words.length cw', .slice ad' E.dirty.length cd', .slice aS' E.spans.length cS', .slice am' E.muts.length cm', .int .i64 E.phase, .int .i64 E.next, .slice ag' E.grey.length cg'], .bool true]) (by simp [results, Try.results27, go_sem, n0, n1, n2, n3, n4, n5, n6, n7, n8]) rfl ?_
    exact ⟨_, E, true, y.out, rfl, hv'.out.handed bbe.out (R := w.heap.size + 1) (by omega) (by have := hz1.out; omega) ((((((((((Chg.refl _ _).put (b := w.heap.size + 1) (by simp) 0 _).put (b := w.heap.size + 1) (by simp) 1 _).put (b := w.heap.size + 1) (by simp) 2 _).put (b := w.heap.size + 1) (by simp) 3 _).put (b := w.heap.size + 1) (by simp) 4 _).put (b := w.heap.size + 1) (by simp) 5 _).put (b := w.heap.size + 1) (by simp) 6 _).put (b := w.heap.size + 1) (by simp) 7 _).put (b := w.heap.size + 1) (by simp) 8 _)⟩
  · have y := Lib.hid (y2.out (fun h => he (hei.out.2 h)))
    have hu0 : ((u : Int) == 0) = false := beq_eq_false_iff_ne.2 (by omega)
    obtain ⟨E, hE⟩ : ∃ E, E = D3 := ⟨_, rfl⟩
    subst hE
    obtain ⟨S5, hv⟩ : ∃ S5, VarW w3 w1.heap.size w2.heap.size S5 E := ⟨_, hv3'.out⟩
    have bbe := bb3
    have hRe := hR3.out
    clear he g4 f4
    go_upto_region 8 with fail
    obtain ⟨aw', ad', aS', am', ag', cw', cd', cS', cm', cg', sv', mv', rfl⟩ := Shape.lits hv.own
    have bE := hv.box
    dsimp only [Shape.cells] at bE
    have n0 := cell_of_heap hRe 0 _ rfl
    have n1 := cell_of_heap hRe 1 _ rfl
    have n2 := cell_of_heap hRe 2 _ rfl
    have n3 := cell_of_heap hRe 3 _ rfl
    have n4 := cell_of_heap hRe 4 _ rfl
    have n5 := cell_of_heap hRe 5 _ rfl
    have n6 := cell_of_heap hRe 6 _ rfl
    have n7 := cell_of_heap hRe 7 _ rfl
    have n8 := cell_of_heap hRe 8 _ rfl
    have z0 := frozen_of_heap hRe 0
    have z1 := frozen_of_heap hRe 1
    have z2 := frozen_of_heap hRe 2
    have z3 := frozen_of_heap hRe 3
    have z4 := frozen_of_heap hRe 4
    have z5 := frozen_of_heap hRe 5
    have z6 := frozen_of_heap hRe 6
    have z7 := frozen_of_heap hRe 7
    have z8 := frozen_of_heap hRe 8
    have m0 := cell_of_heap bE 0 _ rfl
    have m1 := cell_of_heap bE 1 _ rfl
    have m2 := cell_of_heap bE 2 _ rfl
    have m3 := cell_of_heap bE 3 _ rfl
    have m4 := cell_of_heap bE 4 _ rfl
    have m5 := cell_of_heap bE 5 _ rfl
    have m6 := cell_of_heap bE 6 _ rfl
    have m7 := cell_of_heap bE 7 _ rfl
    have m8 := cell_of_heap bE 8 _ rfl
    have hv' := Lib.hid hv
    clear hv bE hRe
    go_wp2_with fail
    refine bodyPost_ret (v := .tuple #[.agg #[.int .i64 E.base, .int .i64 E.pages, .slice aw' E.words.length cw', .slice ad' E.dirty.length cd', .slice aS' E.spans.length cS', .slice am' E.muts.length cm', .int .i64 E.phase, .int .i64 E.next, .slice ag' E.grey.length cg'], .bool true]) (by simp [results, Try.results27, go_sem, n0, n1, n2, n3, n4, n5, n6, n7, n8]) rfl ?_
    exact ⟨_, E, true, y.out, rfl, hv'.out.handed bbe.out (R := w.heap.size + 1) (by omega) (by have := hz1.out; omega) ((((((((((Chg.refl _ _).put (b := w.heap.size + 1) (by simp) 0 _).put (b := w.heap.size + 1) (by simp) 1 _).put (b := w.heap.size + 1) (by simp) 2 _).put (b := w.heap.size + 1) (by simp) 3 _).put (b := w.heap.size + 1) (by simp) 4 _).put (b := w.heap.size + 1) (by simp) 5 _).put (b := w.heap.size + 1) (by simp) 6 _).put (b := w.heap.size + 1) (by simp) 7 _).put (b := w.heap.size + 1) (by simp) 8 _)⟩
end Go.Proofs.Ytajogfnlbdiokaa

/-
  The walk of FnNews, the contracts of the program's WorldNew and of laws.heaps being premises.
-/
namespace Go.Proofs.Ytajogfnlbdiokaa
open Go.RowKit
set_option linter.unusedVariables false

theorem HeapForm.marks0 {D : WD} (h : HeapForm D) : MarksIn D := fun k s hs => by
  have A := h.span k s hs
  have h0 := A.mk0
  have h1 := A.mk1
  have hl := A.lens
  have h16 := (sl_bd s.cls).2
  have hp : (2 : Int) ^ s.lens.length ≤ 2 ^ 16 := by
    have := Nat.pow_le_pow_right (n := 2) (by omega) (show s.lens.length ≤ 16 by omega)
    exact_mod_cast this
  unfold I64
  omega
theorem NewIs.unique {b p m : Int} {D1 D2 : WD} {f1 f2 : Bool} (h1 : NewIs b p m D1 f1) (h2 : NewIs b p m D2 f2) : D2 = D1 ∧ f2 = f1 := by
  rcases h1 with ⟨g, rfl, rfl⟩ | ⟨g, rfl, rfl⟩ <;> rcases h2 with ⟨g', rfl, rfl⟩ | ⟨g', rfl, rfl⟩
  · exact ⟨rfl, rfl⟩
  · exact absurd g g'
  · exact absurd g' g
  · exact ⟨rfl, rfl⟩

set_option maxRecDepth 100000 in
set_option maxHeartbeats 4000000 in
theorem none_any (c1 vd vs c6 c7 vg : Value) (a m : Option Addr) (k q : Nat) (w : World) :
    Calls Try.prog 14 #[.agg #[.int .i64 0, c1, .slice a 0 k, vd, vs, .slice m 0 q, c6, c7, vg]] w fun e w' => e = .returned (.bool true) ∧ Below w.heap.size w w' := by
  have bb := Lib.hid (below_box w (.cells #[.int .i64 0, c1, .slice a 0 k, vd, vs, .slice m 0 q, c6, c7, vg] 32))
  go_enter Try.func14, Try.ntmps14
  go_wp2_with fail
  go_ret
  exact ⟨rfl, bb.out⟩

set_option maxRecDepth 100000 in
set_option maxHeartbeats 8000000 in
theorem news_walk (hN : ∀ (b p m : Int) (w : World), Calls Try.prog 12 #[.int .i64 b, .int .i64 p, .int .i64 m] w fun e w' => ∃ S D f, NewIs b p m D f ∧ e = .returned (.tuple #[S.val D, .bool f]) ∧ OwnW w' w.heap.size S D ∧ Below w.heap.size w w')
    (hH : ∀ w : World, Calls Try.prog 15 #[] w fun e w' => e = .returned (.bool true) ∧ Below w.heap.size w w')
    (a : Option Addr) (len cap : Nat) (w : World) (hb : Bytes w a len) (ha : 0 < len → ∀ x, a = some x → x.block < w.heap.size) :
    Calls Try.prog 3 #[.slice a len cap] w fun e w' => e = .returned (.bool true) ∧ Below w.heap.size w w' := by
  have hN' := Lib.hid hN
  have hH' := Lib.hid hH
  have hd := Lib.hid (drawNew_any a len cap w hb ha)
  clear hN hH hb ha
  go_enter Try.func3, Try.ntmps3
  go_wp2_with fail
  refine hd.out.mono ?_
  rintro e w1 ⟨b, p, m, rfl, hp0, hp1, b1⟩
  have bb1 := Lib.hid b1
  clear b1
  go_wp2_with fail
  refine (hN'.out b p m _).mono ?_
  rintro e w2 ⟨S, D, f, hn, rfl, h2, b2⟩
  obtain ⟨aw, ad, aS, am, ag, cw, cd, cS, cm, cg, sv, mv, rfl⟩ := Shape.lits h2
  have c2 := below_box w2 (.cells #[.int .i64 D.base, .int .i64 D.pages, .slice aw D.words.length cw, .slice ad D.dirty.length cd, .slice aS D.spans.length cS, .slice am D.muts.length cm, .int .i64 D.phase, .int .i64 D.next, .slice ag D.grey.length cg] 32)
  have x2 := Lib.hid (box_new w2 (.cells #[.int .i64 D.base, .int .i64 D.pages, .slice aw D.words.length cw, .slice ad D.dirty.length cd, .slice aS D.spans.length cS, .slice am D.muts.length cm, .int .i64 D.phase, .int .i64 D.next, .slice ag D.grey.length cg] 32))
  have bb2 := Lib.hid (below_trans bb1.out (below_trans b2 c2))
  have r2 := Lib.hid (h2.rd.below c2)
  have hn2 := Lib.hid hn
  clear hn h2 b2 c2
  dsimp only [Shape.val] at r2 ⊢
  go_upto_region 3 with fail
  generalize w2.alloc (.cells #[.int .i64 D.base, .int .i64 D.pages, .slice aw D.words.length cw, .slice ad D.dirty.length cd, .slice aS D.spans.length cS, .slice am D.muts.length cm, .int .i64 D.phase, .int .i64 D.next, .slice ag D.grey.length cg] 32) = W2 at *
  go_wp2_with fail
  refine (sworldNew_any b p m _).mono ?_
  rintro e w3 ⟨S', D', f', hn, rfl, h3, b3⟩
  obtain ⟨rfl, rfl⟩ := hn.unique hn2.out
  obtain ⟨a3, d3, s3, m3, y3, k3, l3, n3, q3, z3, sv3, mv3, rfl⟩ := Shape.lits h3
  have c3 := below_box w3 (.cells #[.int .i64 D.base, .int .i64 D.pages, .slice a3 D.words.length k3, .slice d3 D.dirty.length l3, .slice s3 D.spans.length n3, .slice m3 D.muts.length q3, .int .i64 D.phase, .int .i64 D.next, .slice y3 D.grey.length z3] 32)
  have bb3 := Lib.hid (below_trans bb2.out (below_trans b3 c3))
  have x3 := Lib.hid (heap_below (below_trans b3 c3) x2.out)
  have r3 := Lib.hid (r2.out.below (below_trans b3 c3))
  clear hn h3 b3 c3 x2 r2 bb2
  dsimp only [Shape.val]
  go_upto_region 4 with fail
  generalize w3.alloc (.cells #[.int .i64 D.base, .int .i64 D.pages, .slice a3 D.words.length k3, .slice d3 D.dirty.length l3, .slice s3 D.spans.length n3, .slice m3 D.muts.length q3, .int .i64 D.phase, .int .i64 D.next, .slice y3 D.grey.length z3] 32) = W3 at *
  rcases hn2.out with ⟨g, hD, rfl⟩ | ⟨g, hD, rfl⟩
  · have hF := Lib.hid (show HeapForm D by rw [hD]; exact newD_form (by obtain ⟨g1, g2, g3, g4, g5, g6, g7⟩ := g; unfold Geo; omega))
    have hmk := Lib.hid hF.out.marks0
    have hu := Lib.hid (show usedN D = 0 by rw [hD]; exact newD_used _ _ _)
    have hpg := Lib.hid (show D.pages = p by rw [hD]; show ((p.toNat : Nat) : Int) = p; obtain ⟨g1, g2, g3, g4, g5, g6, g7⟩ := g; omega)
    have hml : (D.muts.length : Int) = m := by rw [hD]; simp only [newD, List.length_replicate]; obtain ⟨g1, g2, g3, g4, g5, g6, g7⟩ := g; omega
    have hmb : ((D.muts.length : Int) == m) = true := beq_iff_eq.2 hml
    have cO := Lib.hid (fun v w h => formOkI_any v D hmk.out w h)
    have cU := Lib.hid (fun v w h => usedWordsI_any v D hmk.out w h)
    have cE := Lib.hid (fun v w h => freeWordsI_any v D hmk.out w h)
    clear hn2 hD g hml
    have f0 := cell_of_heap x3.out 0 _ rfl
    have f1 := cell_of_heap x3.out 1 _ rfl
    have f2 := cell_of_heap x3.out 2 _ rfl
    have f3 := cell_of_heap x3.out 3 _ rfl
    have f4 := cell_of_heap x3.out 4 _ rfl
    have f5 := cell_of_heap x3.out 5 _ rfl
    have f6 := cell_of_heap x3.out 6 _ rfl
    have f7 := cell_of_heap x3.out 7 _ rfl
    have f8 := cell_of_heap x3.out 8 _ rfl
    go_wp2_with fail
    refine (cO.out _ _ r3.out).mono ?_
    rintro e w4 ⟨hq, b4⟩
    obtain rfl : e = .returned (.bool true) := by
      rcases hq.elim with ⟨_, h2⟩ | ⟨h, _⟩
      · exact h2
      · exact absurd hF.out h
    have bb4 := Lib.hid (below_trans bb3.out b4)
    have x4 := Lib.hid (heap_below b4 x3.out)
    have r4 := Lib.hid (r3.out.below b4)
    clear hq b4
    clear f0 f1 f2 f3 f4 f5 f6 f7 f8
    have f0 := cell_of_heap x4.out 0 _ rfl
    have f1 := cell_of_heap x4.out 1 _ rfl
    have f2 := cell_of_heap x4.out 2 _ rfl
    have f3 := cell_of_heap x4.out 3 _ rfl
    have f4 := cell_of_heap x4.out 4 _ rfl
    have f5 := cell_of_heap x4.out 5 _ rfl
    have f6 := cell_of_heap x4.out 6 _ rfl
    have f7 := cell_of_heap x4.out 7 _ rfl
    have f8 := cell_of_heap x4.out 8 _ rfl
    go_wp2_with fail
    refine (cE.out _ _ r4.out).mono ?_
    rintro e w5 ⟨hq, b5⟩
    obtain rfl : e = .returned (.int .i64 (p * 32)) := by
      obtain ⟨r, rfl, h⟩ := hq
      rcases h with ⟨_, h⟩ | ⟨h, _⟩
      · rw [h, hu.out, hpg.out, Int.sub_zero]
      · exact absurd hF.out h
    have bb5 := Lib.hid (below_trans bb4.out b5)
    have x5 := Lib.hid (heap_below b5 x4.out)
    have r5 := Lib.hid (r4.out.below b5)
    clear hq b5
    clear f0 f1 f2 f3 f4 f5 f6 f7 f8
    have f0 := cell_of_heap x5.out 0 _ rfl
    have f1 := cell_of_heap x5.out 1 _ rfl
    have f2 := cell_of_heap x5.out 2 _ rfl
    have f3 := cell_of_heap x5.out 3 _ rfl
    have f4 := cell_of_heap x5.out 4 _ rfl
    have f5 := cell_of_heap x5.out 5 _ rfl
    have f6 := cell_of_heap x5.out 6 _ rfl
    have f7 := cell_of_heap x5.out 7 _ rfl
    have f8 := cell_of_heap x5.out 8 _ rfl
    go_wp2_with fail
    refine (cU.out _ _ r5.out).mono ?_
    rintro e w6 ⟨hq, b6⟩
    obtain rfl : e = .returned (.int .i64 0) := by
      obtain ⟨r, rfl, h⟩ := hq
      rcases h with ⟨_, h⟩ | ⟨h, _⟩
      · rw [h, hu.out]
      · exact absurd hF.out h
    have bb6 := Lib.hid (below_trans bb5.out b6)
    have x6 := Lib.hid (heap_below b6 x5.out)
    clear hq b6
    clear f0 f1 f2 f3 f4 f5 f6 f7 f8
    have f0 := cell_of_heap x6.out 0 _ rfl
    have f1 := cell_of_heap x6.out 1 _ rfl
    have f2 := cell_of_heap x6.out 2 _ rfl
    have f3 := cell_of_heap x6.out 3 _ rfl
    have f4 := cell_of_heap x6.out 4 _ rfl
    have f5 := cell_of_heap x6.out 5 _ rfl
    have f6 := cell_of_heap x6.out 6 _ rfl
    have f7 := cell_of_heap x6.out 7 _ rfl
    have f8 := cell_of_heap x6.out 8 _ rfl
    go_wp2_with fail
    refine (hH'.out _).mono ?_
    rintro e w7 ⟨rfl, b7⟩
    have bb7 := Lib.hid (below_trans bb6.out b7)
    clear b7
    clear f0 f1 f2 f3 f4 f5 f6 f7 f8
    go_wp2_with fail
    go_ret
    exact ⟨rfl, bb7.out⟩
  · subst hD
    clear hn2 g
    have f0 := cell_of_heap x3.out 0 _ rfl
    have f1 := cell_of_heap x3.out 1 _ rfl
    have f2 := cell_of_heap x3.out 2 _ rfl
    have f3 := cell_of_heap x3.out 3 _ rfl
    have f4 := cell_of_heap x3.out 4 _ rfl
    have f5 := cell_of_heap x3.out 5 _ rfl
    have f6 := cell_of_heap x3.out 6 _ rfl
    have f7 := cell_of_heap x3.out 7 _ rfl
    have f8 := cell_of_heap x3.out 8 _ rfl
    go_wp2_with fail
    refine (none_any _ _ _ _ _ _ _ _ _ _ _).mono ?_
    rintro e w4 ⟨rfl, b4⟩
    have bb4 := Lib.hid (below_trans bb3.out b4)
    clear b4
    clear f0 f1 f2 f3 f4 f5 f6 f7 f8
    go_wp2_with fail
    refine (hH'.out _).mono ?_
    rintro e w7 ⟨rfl, b7⟩
    have bb7 := Lib.hid (below_trans bb4.out b7)
    clear b7
    go_wp2_with fail
    go_ret
    exact ⟨rfl, bb7.out⟩
end Go.Proofs.Ytajogfnlbdiokaa

/-
  The contract of laws.heaps, that of the program's WorldNew at 64, 2, 1 being a premise.
-/
namespace Go.Proofs.Ytajogfnlbdiokaa
open Go.RowKit
set_option linter.unusedVariables false

theorem heap_small {D : WD} (h : D.bulk ≤ 1000) : Small D := Small.of_bulk (by omega)
set_option maxRecDepth 100000 in
set_option maxHeartbeats 16000000 in
theorem heaps_gen (D0 X : WD) (m0 : MarksIn D0) (s0 : Small D0) (mX : MarksIn X) (sX : Small X) (hT : TakeIs D0 3 1 X 64 true) (hF : HeapForm X) (hfind : FindIs X 64 (.returned (.tuple #[.int .i64 0, .int .i64 0])))
    (hadr : AddrIs X 0 1 (.returned (.int .i64 68))) (hused : usedN X = 4) (hpg : X.pages = 2) (hgive : ∀ D' f, GiveIs X 64 D' f → D'.spans = [] ∧ f = true)
    (hnew : ∀ w, Calls Try.prog 12 #[.int .i64 64, .int .i64 2, .int .i64 1] w fun e w' => ∃ S, e = .returned (.tuple #[S.val D0, .bool true]) ∧ OwnW w' w.heap.size S D0 ∧ Below w.heap.size w w') (w : World) :
    Calls Try.prog 15 #[] w fun e w' => e = .returned (.bool true) ∧ Below w.heap.size w w' := by
  have hnew' := Lib.hid (hnew w)
  have cT := Lib.hid (fun v w h => itake_any v D0 3 1 m0 s0 w h)
  have cG := Lib.hid (fun v w h => igive_any v X 64 mX (by unfold I64; omega) sX w h)
  have cF := Lib.hid (fun v w h => findI_any v X mX 64 (by unfold I64; omega) w h)
  have cO := Lib.hid (fun v w h => formOkI_any v X mX w h)
  have cU := Lib.hid (fun v w h => usedWordsI_any v X mX w h)
  have cE := Lib.hid (fun v w h => freeWordsI_any v X mX w h)
  have cA := Lib.hid (fun v w h => addrOfI_any v X mX 0 1 w h)
  have hT' := Lib.hid hT
  have hF' := Lib.hid hF
  have hfind' := Lib.hid hfind
  have hadr' := Lib.hid hadr
  have hused' := Lib.hid hused
  have hpg' := Lib.hid hpg
  have hgive' := Lib.hid hgive
  clear m0 s0 mX sX hT hF hfind hadr hused hpg hgive hnew
  go_enter Try.func15, Try.ntmps15
  go_wp2_with fail
  refine hnew'.out.mono ?_
  rintro e w1 ⟨S1, rfl, h1, b1⟩
  obtain ⟨a1, k1, c1, d1, l1, e1, s1, n1, o1, m1, q1, r1, y1, z1, u1, sv1, mv1, rfl⟩ := h1.lits
  have bb1 := Lib.hid (below_trans b1 (below_box w1 (.cells #[.int .i64 D0.base, .int .i64 D0.pages, .slice a1 k1 c1, .slice d1 l1 e1, .slice s1 n1 o1, .slice m1 q1 r1, .int .i64 D0.phase, .int .i64 D0.next, .slice y1 z1 u1] 32)))
  have bW1 := Lib.hid (box_new w1 (.cells #[.int .i64 D0.base, .int .i64 D0.pages, .slice a1 k1 c1, .slice d1 l1 e1, .slice s1 n1 o1, .slice m1 q1 r1, .int .i64 D0.phase, .int .i64 D0.next, .slice y1 z1 u1] 32))
  have hW1 := Lib.hid (h1.below (below_box w1 (.cells #[.int .i64 D0.base, .int .i64 D0.pages, .slice a1 k1 c1, .slice d1 l1 e1, .slice s1 n1 o1, .slice m1 q1 r1, .int .i64 D0.phase, .int .i64 D0.next, .slice y1 z1 u1] 32)))
  clear h1 b1
  dsimp only [Shape.val]
  go_wp2_with fail
  refine (cT.out _ _ hW1.out.rd).mono ?_
  rintro e w2 ⟨S2, D', a, f, hq, rfl, h2, b2⟩
  obtain ⟨rfl, rfl, rfl⟩ := hq.unique hT'.out
  obtain ⟨a2, k2, c2, d2, l2, e2, s2, n2, o2, m2, q2, r2, y2, z2, u2, sv2, mv2, rfl⟩ := h2.lits
  have bb2 := Lib.hid (below_trans bb1.out (below_trans b2 (below_box w2 (.cells #[.int .i64 X.base, .int .i64 X.pages, .slice a2 k2 c2, .slice d2 l2 e2, .slice s2 n2 o2, .slice m2 q2 r2, .int .i64 X.phase, .int .i64 X.next, .slice y2 z2 u2] 32))))
  have bW2 := Lib.hid (box_new w2 (.cells #[.int .i64 X.base, .int .i64 X.pages, .slice a2 k2 c2, .slice d2 l2 e2, .slice s2 n2 o2, .slice m2 q2 r2, .int .i64 X.phase, .int .i64 X.next, .slice y2 z2 u2] 32))
  have hW2 := Lib.hid (h2.below (below_box w2 (.cells #[.int .i64 X.base, .int .i64 X.pages, .slice a2 k2 c2, .slice d2 l2 e2, .slice s2 n2 o2, .slice m2 q2 r2, .int .i64 X.phase, .int .i64 X.next, .slice y2 z2 u2] 32)))
  clear hq h2 b2 bW1 hW1 bb1
  dsimp only [Shape.val]
  go_wp2_with fail
  refine (cG.out _ _ hW2.out.rd).mono ?_
  rintro e w3 ⟨S3, E, f, hq, rfl, h3, b3⟩
  obtain ⟨he, rfl⟩ := hgive'.out E f hq
  obtain ⟨a3, d3, s3, m3, y3, k3, l3, n3, q3, z3, sv3, mv3, rfl⟩ := Shape.lits h3
  rw [he]
  dsimp only [Shape.val, List.length_nil]
  have b3' := below_box w3 (.cells #[.int .i64 E.base, .int .i64 E.pages, .slice a3 E.words.length k3, .slice d3 E.dirty.length l3, .slice s3 0 n3, .slice m3 E.muts.length q3, .int .i64 E.phase, .int .i64 E.next, .slice y3 E.grey.length z3] 32)
  have bY3 := box_new w3 (.cells #[.int .i64 E.base, .int .i64 E.pages, .slice a3 E.words.length k3, .slice d3 E.dirty.length l3, .slice s3 0 n3, .slice m3 E.muts.length q3, .int .i64 E.phase, .int .i64 E.next, .slice y3 E.grey.length z3] 32)
  have bb3 := Lib.hid (below_trans bb2.out (below_trans b3 b3'))
  have bW3 := Lib.hid (heap_below (below_trans b3 b3') bW2.out)
  have hW3 := Lib.hid (hW2.out.rd.below (below_trans b3 b3'))
  have yL := Lib.hid (fun (w' : World) (hb : Below (w3.alloc (.cells #[.int .i64 E.base, .int .i64 E.pages, .slice a3 E.words.length k3, .slice d3 E.dirty.length l3, .slice s3 0 n3, .slice m3 E.muts.length q3, .int .i64 E.phase, .int .i64 E.next, .slice y3 E.grey.length z3] 32)).heap.size (w3.alloc (.cells #[.int .i64 E.base, .int .i64 E.pages, .slice a3 E.words.length k3, .slice d3 E.dirty.length l3, .slice s3 0 n3, .slice m3 E.muts.length q3, .int .i64 E.phase, .int .i64 E.next, .slice y3 E.grey.length z3] 32)) w') => cell_below hb (cell_of_heap bY3 4 (.slice s3 0 n3) rfl))
  have xL := Lib.hid (fun (w' : World) (hb : Below (w3.alloc (.cells #[.int .i64 E.base, .int .i64 E.pages, .slice a3 E.words.length k3, .slice d3 E.dirty.length l3, .slice s3 0 n3, .slice m3 E.muts.length q3, .int .i64 E.phase, .int .i64 E.next, .slice y3 E.grey.length z3] 32)).heap.size (w3.alloc (.cells #[.int .i64 E.base, .int .i64 E.pages, .slice a3 E.words.length k3, .slice d3 E.dirty.length l3, .slice s3 0 n3, .slice m3 E.muts.length q3, .int .i64 E.phase, .int .i64 E.next, .slice y3 E.grey.length z3] 32)) w') => heap_below hb bW3.out)
  clear hq h3 b3 b3' bY3 he bW2 hW2 bb2
  go_upto_region 4 with fail
  generalize w3.alloc (.cells #[.int .i64 E.base, .int .i64 E.pages, .slice a3 E.words.length k3, .slice d3 E.dirty.length l3, .slice s3 0 n3, .slice m3 E.muts.length q3, .int .i64 E.phase, .int .i64 E.next, .slice y3 E.grey.length z3] 32) = W3 at *
  have f0 := cell_of_heap bW3.out 0 _ rfl
  have f1 := cell_of_heap bW3.out 1 _ rfl
  have f2 := cell_of_heap bW3.out 2 _ rfl
  have f3 := cell_of_heap bW3.out 3 _ rfl
  have f4 := cell_of_heap bW3.out 4 _ rfl
  have f5 := cell_of_heap bW3.out 5 _ rfl
  have f6 := cell_of_heap bW3.out 6 _ rfl
  have f7 := cell_of_heap bW3.out 7 _ rfl
  have f8 := cell_of_heap bW3.out 8 _ rfl
  dsimp only [Shape.val] at hW3
  go_wp2_with fail
  refine (cF.out _ _ hW3.out).mono ?_
  rintro e w4 ⟨hq, b4⟩
  obtain rfl := hfind'.out.unique hq
  have b4' := Lib.hid b4
  have r4 := Lib.hid (hW3.out.below b4)
  have bX4 := xL.out _ b4
  clear hq b4
  clear f0 f1 f2 f3 f4 f5 f6 f7 f8
  have f0 := cell_of_heap bX4 0 _ rfl
  have f1 := cell_of_heap bX4 1 _ rfl
  have f2 := cell_of_heap bX4 2 _ rfl
  have f3 := cell_of_heap bX4 3 _ rfl
  have f4 := cell_of_heap bX4 4 _ rfl
  have f5 := cell_of_heap bX4 5 _ rfl
  have f6 := cell_of_heap bX4 6 _ rfl
  have f7 := cell_of_heap bX4 7 _ rfl
  have f8 := cell_of_heap bX4 8 _ rfl
  clear bX4
  go_wp2_with fail
  refine (cO.out _ _ r4.out).mono ?_
  rintro e w5 ⟨hq, b5⟩
  obtain ⟨-, rfl⟩ : HeapForm X ∧ e = .returned (.bool true) := by
    rcases hq.elim with ⟨h, h2⟩ | ⟨h, _⟩
    · exact ⟨h, h2⟩
    · exact absurd hF'.out h
  clear hq
  have b5' := Lib.hid (below_trans b4'.out b5)
  have r5 := Lib.hid (hW3.out.below b5'.out)
  have bX5 := xL.out _ b5'.out
  have yc5 := yL.out _ b5'.out
  clear b5
  clear f0 f1 f2 f3 f4 f5 f6 f7 f8
  have f0 := cell_of_heap bX5 0 _ rfl
  have f1 := cell_of_heap bX5 1 _ rfl
  have f2 := cell_of_heap bX5 2 _ rfl
  have f3 := cell_of_heap bX5 3 _ rfl
  have f4 := cell_of_heap bX5 4 _ rfl
  have f5 := cell_of_heap bX5 5 _ rfl
  have f6 := cell_of_heap bX5 6 _ rfl
  have f7 := cell_of_heap bX5 7 _ rfl
  have f8 := cell_of_heap bX5 8 _ rfl
  clear bX5
  go_wp2_with fail
  refine (cU.out _ _ r5.out).mono ?_
  rintro e w6 ⟨hq, b6⟩
  obtain rfl : e = .returned (.int .i64 4) := by
    obtain ⟨r, rfl, h⟩ := hq
    rcases h with ⟨_, h⟩ | ⟨h, _⟩
    · rw [h, hused'.out]
    · exact absurd hF'.out h
  clear hq yc5
  have b6' := Lib.hid (below_trans b5'.out b6)
  have r6 := Lib.hid (hW3.out.below b6'.out)
  have bX6 := xL.out _ b6'.out
  have yc6 := yL.out _ b6'.out
  clear b6
  clear f0 f1 f2 f3 f4 f5 f6 f7 f8
  have f0 := cell_of_heap bX6 0 _ rfl
  have f1 := cell_of_heap bX6 1 _ rfl
  have f2 := cell_of_heap bX6 2 _ rfl
  have f3 := cell_of_heap bX6 3 _ rfl
  have f4 := cell_of_heap bX6 4 _ rfl
  have f5 := cell_of_heap bX6 5 _ rfl
  have f6 := cell_of_heap bX6 6 _ rfl
  have f7 := cell_of_heap bX6 7 _ rfl
  have f8 := cell_of_heap bX6 8 _ rfl
  clear bX6
  go_wp2_with fail
  refine (cE.out _ _ r6.out).mono ?_
  rintro e w7 ⟨hq, b7⟩
  obtain rfl : e = .returned (.int .i64 60) := by
    obtain ⟨r, rfl, h⟩ := hq
    rcases h with ⟨_, h⟩ | ⟨h, _⟩
    · rw [h, hused'.out, hpg'.out]; rfl
    · exact absurd hF'.out h
  clear hq yc6
  have b7' := Lib.hid (below_trans b6'.out b7)
  have r7 := Lib.hid (hW3.out.below b7'.out)
  have bX7 := xL.out _ b7'.out
  have yc7 := yL.out _ b7'.out
  clear b7
  clear f0 f1 f2 f3 f4 f5 f6 f7 f8
  have f0 := cell_of_heap bX7 0 _ rfl
  have f1 := cell_of_heap bX7 1 _ rfl
  have f2 := cell_of_heap bX7 2 _ rfl
  have f3 := cell_of_heap bX7 3 _ rfl
  have f4 := cell_of_heap bX7 4 _ rfl
  have f5 := cell_of_heap bX7 5 _ rfl
  have f6 := cell_of_heap bX7 6 _ rfl
  have f7 := cell_of_heap bX7 7 _ rfl
  have f8 := cell_of_heap bX7 8 _ rfl
  clear bX7
  go_wp2_with fail
  refine (cA.out _ _ r7.out).mono ?_
  rintro e w8 ⟨hq, b8⟩
  obtain rfl := hadr'.out.unique hq
  have b8' := Lib.hid (below_trans b7'.out b8)
  clear hq b8
  clear f0 f1 f2 f3 f4 f5 f6 f7 f8
  go_wp2_with fail
  go_ret
  exact ⟨rfl, below_trans bb3.out b8'.out⟩
end Go.Proofs.Ytajogfnlbdiokaa

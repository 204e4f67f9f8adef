/-
  Plain: the check sum tells one row of at most 32 turned bits.
-/
import Derived.Test.YtedhallhdhlhhaaByP
namespace Go.Proofs.Ytedhallhdhlhhaa
set_option linter.unusedVariables false

theorem crT_alt {x : Nat} (h : x < 4294967296) : crT x = (2 * x % 4294967296) ^^^ (if x.testBit 31 then 79764919 else 0) := by
  have hb : x.testBit 31 = decide (2147483648 ≤ x) := by
    rw [Nat.testBit_eq_decide_div_mod_eq]
    by_cases hx : 2147483648 ≤ x
    · have : x / 2 ^ 31 = 1 := by omega
      simp [this, hx]
    · have : x / 2 ^ 31 = 0 := by omega
      simp [this, hx]
  rw [hb]
  unfold crT
  by_cases hx : x < 2147483648
  · have h2 : ¬ 2147483648 ≤ x := by omega
    rw [if_pos hx]
    simp [h2]
    omega
  · have h2 : 2147483648 ≤ x := by omega
    have e : 2 * x - 4294967296 = 2 * x % 4294967296 := by omega
    rw [if_neg hx, e]
    simp only [h2, decide_true, if_true]
theorem xor_lt32 {x y : Nat} (hx : x < 4294967296) (hy : y < 4294967296) : x ^^^ y < 4294967296 := Nat.xor_lt_two_pow (n := 32) hx hy
theorem xor_swap (a b c d : Nat) : (a ^^^ b) ^^^ (c ^^^ d) = (a ^^^ c) ^^^ (b ^^^ d) := by
  rw [Nat.xor_assoc, Nat.xor_assoc, ← Nat.xor_assoc b c d, Nat.xor_comm b c, Nat.xor_assoc c b d]
theorem crT_xor {x y : Nat} (hx : x < 4294967296) (hy : y < 4294967296) : crT (x ^^^ y) = crT x ^^^ crT y := by
  rw [crT_alt hx, crT_alt hy, crT_alt (xor_lt32 hx hy), xor_swap]
  have e1 : 2 * (x ^^^ y) % 4294967296 = 2 * x % 4294967296 ^^^ 2 * y % 4294967296 := by
    have h1 : 2 * (x ^^^ y) = 2 * x ^^^ 2 * y := by
      have := Nat.shiftLeft_xor_distrib (a := x) (b := y) (i := 1)
      simpa [Nat.shiftLeft_eq, Nat.mul_comm] using this
    rw [h1]
    exact Nat.xor_mod_two_pow (n := 32)
  rw [e1, Nat.testBit_xor]
  congr 1
  cases x.testBit 31 <;> cases y.testBit 31 <;> simp
theorem crT_zero : crT 0 = 0 := rfl
theorem crT_ne {x : Nat} (h : x < 4294967296) (hx : x ≠ 0) : crT x ≠ 0 := by
  unfold crT
  split
  · omega
  · intro he
    have h2 : 2 * x - 4294967296 = 79764919 := by
      have := congrArg (· ^^^ 79764919) he
      simpa [Nat.xor_assoc] using this
    omega
theorem crI_xor {x y : Nat} (hx : x < 4294967296) (hy : y < 4294967296) : ∀ k, crI k (x ^^^ y) = crI k x ^^^ crI k y
  | 0 => rfl
  | k + 1 => by
    show crT (crI k (x ^^^ y)) = crT (crI k x) ^^^ crT (crI k y)
    rw [crI_xor hx hy k, crT_xor (crI_lt hx k) (crI_lt hy k)]
theorem crI_zero : ∀ k, crI k 0 = 0
  | 0 => rfl
  | k + 1 => by show crT (crI k 0) = 0; rw [crI_zero k]; rfl
theorem crI_ne {x : Nat} (h : x < 4294967296) (hx : x ≠ 0) : ∀ k, crI k x ≠ 0
  | 0 => hx
  | k + 1 => crT_ne (crI_lt h k) (crI_ne h hx k)
theorem crI_add (x : Nat) (j : Nat) : ∀ k, crI (j + k) x = crI k (crI j x)
  | 0 => rfl
  | k + 1 => by show crT (crI (j + k) x) = crT (crI k (crI j x)); rw [crI_add x j k]
/-- No bit is lost: one further is twice. -/
theorem crI_small : ∀ (k x : Nat), x * 2 ^ k < 4294967296 → crI k x = x * 2 ^ k
  | 0, x, _ => by simp [crI]
  | k + 1, x, h => by
    rw [Nat.pow_succ, ← Nat.mul_assoc] at h ⊢
    have h2 : x * 2 ^ k < 2147483648 := by omega
    show crT (crI k x) = _
    rw [crI_small k x (by omega)]
    unfold crT
    rw [if_pos h2]
    omega

/-- One bit more. -/
def crBit (w : Nat) (m : Bool) : Nat := crT (w ^^^ (if m then 2147483648 else 0))
def crBits (l : List Bool) (w : Nat) : Nat := l.foldl crBit w
/-- Bits as a number, the first one at place 31 - k. -/
def wd : Nat → List Bool → Nat
  | _, [] => 0
  | k, m :: r => (if m then 2 ^ (31 - k) else 0) ^^^ wd (k + 1) r
theorem top_lt (m : Bool) : (if m then 2147483648 else 0 : Nat) < 4294967296 := by cases m <;> decide
theorem crBit_lt {w : Nat} (h : w < 4294967296) (m : Bool) : crBit w m < 4294967296 := crT_lt (xor_lt32 h (top_lt m))
theorem crBits_lt (l : List Bool) : ∀ {w : Nat}, w < 4294967296 → crBits l w < 4294967296 := by
  unfold crBits
  induction l with
  | nil => intro w h; exact h
  | cons m r ih => intro w h; rw [List.foldl_cons]; exact ih (crBit_lt h m)
theorem wd_lt : ∀ (l : List Bool) (k : Nat), k + l.length ≤ 32 → wd k l < 2 ^ (32 - k)
  | [], k, _ => by simp [wd]; exact Nat.pow_pos (by decide)
  | m :: r, k, h => by
    simp only [List.length_cons] at h
    have hr := wd_lt r (k + 1) (by omega)
    have hp : (2 : Nat) ^ (32 - (k + 1)) ≤ 2 ^ (32 - k) := Nat.pow_le_pow_right (by decide) (by omega)
    have hm : (if m then 2 ^ (31 - k) else 0 : Nat) < 2 ^ (32 - k) := by
      cases m
      · simp; exact Nat.pow_pos (by decide)
      · simp; exact Nat.pow_lt_pow_right (by decide) (by omega)
    exact Nat.xor_lt_two_pow hm (by omega)
theorem crBits_word : ∀ (l : List Bool) (k x : Nat), x < 4294967296 → k + l.length ≤ 32 → crBits l (crI k x) = crI (k + l.length) (x ^^^ wd k l)
  | [], k, x, hx, _ => by simp [crBits, wd]
  | m :: r, k, x, hx, h => by
    simp only [List.length_cons] at h
    have hpk : (2 : Nat) ^ (31 - k) * 2 ^ k = 2147483648 := by
      rw [← Nat.pow_add, show 31 - k + k = 31 by omega]
    have hp : (2 : Nat) ^ (31 - k) ≤ 2 ^ 31 := Nat.pow_le_pow_right (by decide) (by omega)
    have hm : (if m then 2 ^ (31 - k) else 0 : Nat) < 4294967296 := by
      cases m
      · simp
      · simp only [if_true]; omega
    have e : crI k (if m then 2 ^ (31 - k) else 0) = if m then 2147483648 else 0 := by
      cases m
      · simp [crI_zero]
      · simp only [if_true]
        rw [crI_small k _ (by omega), hpk]
    show crBits r (crBit (crI k x) m) = _
    have e2 : crBit (crI k x) m = crI (k + 1) (x ^^^ (if m then 2 ^ (31 - k) else 0)) := by
      show crT (crI k x ^^^ _) = crT (crI k (x ^^^ _))
      rw [crI_xor hx hm, e]
    rw [e2, crBits_word r (k + 1) _ (xor_lt32 hx hm) (by omega), Nat.xor_assoc]
    simp only [wd, List.length_cons]
    rw [show k + 1 + r.length = k + (r.length + 1) by omega]
theorem crBits_append (a b : List Bool) (w : Nat) : crBits (a ++ b) w = crBits b (crBits a w) := List.foldl_append
theorem crBits_false (l : List Bool) : ∀ {w : Nat}, (∀ m ∈ l, m = false) → crBits l w = crI l.length w := by
  unfold crBits
  induction l with
  | nil => intro w _; rfl
  | cons m r ih =>
    intro w h
    have hm := h m (by simp)
    subst hm
    rw [List.foldl_cons, ih (fun m hm => h m (by simp [hm])), List.length_cons]
    have e : crBit w false = crI 1 w := by show crT (w ^^^ 0) = crT w; rw [Nat.xor_zero]
    rw [e, ← crI_add, Nat.add_comm]
/-- A row that begins with a turned bit, has at most 31 more, and none behind. -/
theorem crBits_burst (r z : List Bool) (hr : r.length ≤ 31) (hz : ∀ m ∈ z, m = false) : crBits (true :: r ++ z) 0 ≠ 0 := by
  have h1 := crBits_word (true :: r) 0 0 (by decide) (by simp; omega)
  have hw : wd 0 (true :: r) = 2 ^ 31 ^^^ wd 1 r := rfl
  have hl := wd_lt r 1 (by omega)
  have hne : wd 0 (true :: r) ≠ 0 := by
    rw [hw]
    intro he
    have : 2 ^ 31 = wd 1 r := by
      have := congrArg (· ^^^ wd 1 r) he
      simpa [Nat.xor_assoc] using this
    omega
  have hlt := wd_lt (true :: r) 0 (by simp; omega)
  rw [crBits_append, crBits_false z hz]
  have h0 : crBits (true :: r) 0 = crI (0 + (true :: r).length) (0 ^^^ wd 0 (true :: r)) := h1
  rw [h0, Nat.zero_xor, ← crI_add]
  exact crI_ne (by omega) hne _

/-- The byte that turns the bits t from number 8 j on. -/
def turnB (t : Nat → Bool) (j : Nat) : Nat :=
  (if t (8 * j) then 128 else 0) + (if t (8 * j + 1) then 64 else 0) + (if t (8 * j + 2) then 32 else 0) + (if t (8 * j + 3) then 16 else 0) +
  (if t (8 * j + 4) then 8 else 0) + (if t (8 * j + 5) then 4 else 0) + (if t (8 * j + 6) then 2 else 0) + (if t (8 * j + 7) then 1 else 0)
def turnL (t : Nat → Bool) (n : Nat) : List UInt8 := (List.range n).map fun j => (turnB t j).toUInt8
set_option maxRecDepth 100000 in
theorem byte_bits : ∀ b0 b1 b2 b3 b4 b5 b6 b7 : Bool, ((if b0 then 128 else 0) + (if b1 then 64 else 0) + (if b2 then 32 else 0) + (if b3 then 16 else 0) + (if b4 then 8 else 0) + (if b5 then 4 else 0) + (if b6 then 2 else 0) + (if b7 then 1 else 0) : Nat) * 16777216 = wd 0 [b0, b1, b2, b3, b4, b5, b6, b7] := by
  decide
theorem turnB_lt (t : Nat → Bool) (j : Nat) : turnB t j < 256 := by
  unfold turnB
  repeat' split
  all_goals omega
theorem crB_bits (t : Nat → Bool) (j w : Nat) (hw : w < 4294967296) : crB w (turnB t j).toUInt8 = crBits [t (8 * j), t (8 * j + 1), t (8 * j + 2), t (8 * j + 3), t (8 * j + 4), t (8 * j + 5), t (8 * j + 6), t (8 * j + 7)] w := by
  have h := crBits_word [t (8 * j), t (8 * j + 1), t (8 * j + 2), t (8 * j + 3), t (8 * j + 4), t (8 * j + 5), t (8 * j + 6), t (8 * j + 7)] 0 w hw (by simp)
  rw [← byte_bits] at h
  have e : ((turnB t j).toUInt8).toNat = turnB t j := by have := turnB_lt t j; simp [Nat.toUInt8]; omega
  unfold crB
  rw [e]
  exact h.symm
theorem range_eight (t : Nat → Bool) (n : Nat) : (List.range (8 * (n + 1))).map t = (List.range (8 * n)).map t ++ [t (8 * n), t (8 * n + 1), t (8 * n + 2), t (8 * n + 3), t (8 * n + 4), t (8 * n + 5), t (8 * n + 6), t (8 * n + 7)] := by
  have e : 8 * (n + 1) = 8 * n + 1 + 1 + 1 + 1 + 1 + 1 + 1 + 1 := by omega
  rw [e]
  simp only [List.range_succ, List.map_append, List.map_cons, List.map_nil, List.append_assoc, List.cons_append, List.nil_append]
theorem crL_bits (t : Nat → Bool) : ∀ n, crL (turnL t n) 0 = crBits ((List.range (8 * n)).map t) 0
  | 0 => rfl
  | n + 1 => by
    have e : turnL t (n + 1) = turnL t n ++ [(turnB t n).toUInt8] := by unfold turnL; rw [List.range_succ, List.map_append]; rfl
    rw [e, crL_snoc, crL_bits t n, range_eight, crBits_append]
    exact crB_bits t n _ (crBits_lt _ (by decide))
theorem burst_ne (n f : Nat) (t : Nat → Bool) (hf : f < 8 * n) (h1 : t f = true) (h2 : ∀ p, t p = true → f ≤ p ∧ p < f + 32) : crL (turnL t n) 0 ≠ 0 := by
  rw [crL_bits]
  obtain ⟨L, hL⟩ : ∃ L, L = (List.range (8 * n)).map t := ⟨_, rfl⟩
  have hl : L.length = 8 * n := by rw [hL]; simp
  have hat : ∀ p (h : p < L.length), L[p] = t p := fun p h => by simp [hL]
  rw [← hL]
  have e : L = L.take f ++ (true :: ((L.drop (f + 1)).take 31) ++ L.drop (f + 32)) := by
    have h3 := List.drop_eq_getElem_cons (show f < L.length by omega)
    rw [hat f (by omega), h1] at h3
    have h4 : L.drop (f + 1) = (L.drop (f + 1)).take 31 ++ L.drop (f + 32) := by
      have := (List.take_append_drop 31 (L.drop (f + 1))).symm
      rw [List.drop_drop, show f + 1 + 31 = f + 32 by omega] at this
      exact this
    calc L = L.take f ++ L.drop f := (List.take_append_drop f L).symm
      _ = L.take f ++ (true :: L.drop (f + 1)) := by rw [h3]
      _ = _ := congrArg (fun z => L.take f ++ (true :: z)) h4
  have hz : ∀ m ∈ L.take f, m = false := by
    intro m hm
    obtain ⟨p, hp, rfl⟩ := List.mem_iff_getElem.1 hm
    rw [List.length_take] at hp
    rw [List.getElem_take, hat p (by omega)]
    cases ht : t p
    · rfl
    · have := h2 p ht; omega
  have hz2 : ∀ m ∈ L.drop (f + 32), m = false := by
    intro m hm
    obtain ⟨p, hp, rfl⟩ := List.mem_iff_getElem.1 hm
    rw [List.length_drop] at hp
    rw [List.getElem_drop, hat _ (by omega)]
    cases ht : t (f + 32 + p)
    · rfl
    · have := h2 _ ht; omega
  rw [e, crBits_append, crBits_false _ hz, crI_zero]
  exact crBits_burst _ _ (by rw [List.length_take]; omega) hz2

/-- Two rows of bytes, byte by byte. -/
def xorL (a b : List UInt8) : List UInt8 := List.zipWith (fun x y => x ^^^ y) a b
theorem crL_cons (b : UInt8) (l : List UInt8) (w : Nat) : crL (b :: l) w = crL l (crB w b) := by unfold crL; rw [List.foldl_cons]
theorem crB_xor {w v : Nat} (hw : w < 4294967296) (hv : v < 4294967296) (b c : UInt8) : crB (w ^^^ v) (b ^^^ c) = crB w b ^^^ crB v c := by
  have e1 : ((b ^^^ c).toNat) * 16777216 = b.toNat * 16777216 ^^^ c.toNat * 16777216 := by
    rw [UInt8.toNat_xor]
    have := Nat.shiftLeft_xor_distrib (a := b.toNat) (b := c.toNat) (i := 24)
    simpa [Nat.shiftLeft_eq] using this
  unfold crB
  rw [e1, xor_swap, crI_xor (crX_lt hw b) (crX_lt hv c)]
theorem crL_xor (l : List UInt8) : ∀ (e : List UInt8) (w v : Nat), l.length = e.length → w < 4294967296 → v < 4294967296 → crL (xorL l e) (w ^^^ v) = crL l w ^^^ crL e v := by
  induction l with
  | nil =>
    intro e w v h _ _
    have he : e = [] := List.length_eq_zero_iff.1 (by simpa using h.symm)
    subst he
    unfold xorL crL
    simp only [List.zipWith_nil_left, List.foldl_nil]
  | cons b l ih =>
    intro e w v h hw hv
    cases e with
    | nil => simp at h
    | cons c e =>
      have hz : xorL (b :: l) (c :: e) = (b ^^^ c) :: xorL l e := rfl
      rw [hz, crL_cons, crL_cons, crL_cons, crB_xor hw hv]
      exact ih e _ _ (by simpa using h) (crB_lt hw b) (crB_lt hv c)
theorem crc_xor (l e : List UInt8) (h : l.length = e.length) : crc (xorL l e) = crc l ^^^ crL e 0 := by
  unfold crc
  have h1 := crL_xor l e 4294967295 0 h (by decide) (by decide)
  rw [Nat.xor_zero] at h1
  have ha := crL_lt l (w := 4294967295) (by decide)
  have hb := crL_lt e (w := 0) (by decide)
  have hx := crL_lt (xorL l e) (w := 4294967295) (by decide)
  have x1 := xor_ones32 (crL (xorL l e) 4294967295) (by omega)
  have x2 := xor_ones32 (crL l 4294967295) (by omega)
  rw [show 4294967295 - crL (xorL l e) 4294967295 = (2 ^ 32 - 1) ^^^ crL (xorL l e) 4294967295 by rw [x1], show 4294967295 - crL l 4294967295 = (2 ^ 32 - 1) ^^^ crL l 4294967295 by rw [x2], h1, Nat.xor_assoc]

theorem xorL_length (a b : List UInt8) (h : a.length = b.length) : (xorL a b).length = a.length := by unfold xorL; simp [h]
theorem crL_append (a b : List UInt8) (w : Nat) : crL (a ++ b) w = crL b (crL a w) := by unfold crL; rw [List.foldl_append]
theorem add_xor (i b a : Nat) (h : b < 2 ^ i) : 2 ^ i * a + b = 2 ^ i * a ^^^ b := by
  apply Nat.eq_of_testBit_eq
  intro j
  rw [Nat.testBit_xor, Nat.testBit_two_pow_mul_add a h, Nat.testBit_two_pow_mul]
  by_cases hj : j < i
  · have h2 : ¬ i ≤ j := by omega
    simp [hj, h2]
  · have h2 : i ≤ j := by omega
    have : b.testBit j = false := Nat.testBit_lt_two_pow (Nat.lt_of_lt_of_le h (Nat.pow_le_pow_right (by decide) (by omega)))
    simp [hj, h2, this]
set_option maxRecDepth 100000 in
theorem getW_as_xor (a b c d : UInt8) : getW [a, b, c, d] = a.toNat * 16777216 ^^^ (b.toNat * 65536 ^^^ (c.toNat * 256 ^^^ d.toNat)) := by
  have ha := a.toNat_lt; have hb := b.toNat_lt; have hc := c.toNat_lt; have hd := d.toNat_lt
  have h1 : c.toNat * 256 + d.toNat = c.toNat * 256 ^^^ d.toNat := by
    have := add_xor 8 d.toNat c.toNat (by omega)
    rw [Nat.mul_comm] at this; exact this
  have h2 : b.toNat * 65536 + (c.toNat * 256 + d.toNat) = b.toNat * 65536 ^^^ (c.toNat * 256 + d.toNat) := by
    have := add_xor 16 (c.toNat * 256 + d.toNat) b.toNat (by omega)
    rw [Nat.mul_comm] at this; exact this
  have h3 : a.toNat * 16777216 + (b.toNat * 65536 + (c.toNat * 256 + d.toNat)) = a.toNat * 16777216 ^^^ (b.toNat * 65536 + (c.toNat * 256 + d.toNat)) := by
    have := add_xor 24 (b.toNat * 65536 + (c.toNat * 256 + d.toNat)) a.toNat (by omega)
    rw [Nat.mul_comm] at this; exact this
  rw [← h1, ← h2, ← h3]
  have e : getW [a, b, c, d] = a.toNat * 16777216 + b.toNat * 65536 + c.toNat * 256 + d.toNat := by unfold getW; rfl
  rw [e]
  simp only [Nat.add_assoc]
set_option maxRecDepth 100000 in
/-- Four bytes behind: as one word. -/
theorem crL_four (a b c d : UInt8) (w : Nat) (hw : w < 4294967296) : crL [a, b, c, d] w = crI 32 (w ^^^ getW [a, b, c, d]) := by
  have ha := a.toNat_lt; have hb := b.toNat_lt; have hc := c.toNat_lt; have hd := d.toNat_lt
  have hg := getW_as_xor a b c d
  have e8 : ∀ x : Nat, x < 16777216 → crI 8 x = x * 256 := fun x hx => crI_small 8 x (by omega)
  have x1 : c.toNat * 256 ^^^ d.toNat < 65536 := by rw [show (65536 : Nat) = 2 ^ 16 by decide]; exact Nat.xor_lt_two_pow (by omega) (by omega)
  have x2 : b.toNat * 65536 ^^^ (c.toNat * 256 ^^^ d.toNat) < 16777216 := by rw [show (16777216 : Nat) = 2 ^ 24 by decide]; exact Nat.xor_lt_two_pow (by omega) (by omega)
  have m1 : (b.toNat * 65536 ^^^ (c.toNat * 256 ^^^ d.toNat)) * 256 = b.toNat * 16777216 ^^^ (c.toNat * 65536 ^^^ d.toNat * 256) := by
    have h1 := Nat.shiftLeft_xor_distrib (a := b.toNat * 65536) (b := c.toNat * 256 ^^^ d.toNat) (i := 8)
    have h2 := Nat.shiftLeft_xor_distrib (a := c.toNat * 256) (b := d.toNat) (i := 8)
    simp only [Nat.shiftLeft_eq, show (2 : Nat) ^ 8 = 256 by decide] at h1 h2
    rw [h1, h2, show b.toNat * 65536 * 256 = b.toNat * 16777216 by omega, show c.toNat * 256 * 256 = c.toNat * 65536 by omega]
  have m2 : (c.toNat * 65536 ^^^ d.toNat * 256) * 256 = c.toNat * 16777216 ^^^ d.toNat * 65536 := by
    have h2 := Nat.shiftLeft_xor_distrib (a := c.toNat * 65536) (b := d.toNat * 256) (i := 8)
    simp only [Nat.shiftLeft_eq, show (2 : Nat) ^ 8 = 256 by decide] at h2
    rw [h2, show c.toNat * 65536 * 256 = c.toNat * 16777216 by omega, show d.toNat * 256 * 256 = d.toNat * 65536 by omega]
  have y1 : c.toNat * 65536 ^^^ d.toNat * 256 < 16777216 := by rw [show (16777216 : Nat) = 2 ^ 24 by decide]; exact Nat.xor_lt_two_pow (by omega) (by omega)
  have la : crB w a < 4294967296 := crB_lt hw a
  have lb : crB (crB w a) b < 4294967296 := crB_lt la b
  have s1 : crI 8 (w ^^^ (a.toNat * 16777216 ^^^ (b.toNat * 65536 ^^^ (c.toNat * 256 ^^^ d.toNat)))) = crB w a ^^^ (b.toNat * 16777216 ^^^ (c.toNat * 65536 ^^^ d.toNat * 256)) := by
    rw [← Nat.xor_assoc, crI_xor (crX_lt hw a) (Nat.lt_of_lt_of_le x2 (by decide)), e8 _ x2, m1]
    rfl
  have s2 : crI 8 (crB w a ^^^ (b.toNat * 16777216 ^^^ (c.toNat * 65536 ^^^ d.toNat * 256))) = crB (crB w a) b ^^^ (c.toNat * 16777216 ^^^ d.toNat * 65536) := by
    rw [← Nat.xor_assoc, crI_xor (crX_lt la b) (Nat.lt_of_lt_of_le y1 (by decide)), e8 _ y1, m2]
    rfl
  have s3 : crI 8 (crB (crB w a) b ^^^ (c.toNat * 16777216 ^^^ d.toNat * 65536)) = crB (crB (crB w a) b) c ^^^ d.toNat * 16777216 := by
    have hd2 : d.toNat * 65536 < 16777216 := by omega
    have hd3 : d.toNat * 65536 * 256 = d.toNat * 16777216 := by omega
    rw [← Nat.xor_assoc, crI_xor (crX_lt lb c) (Nat.lt_of_lt_of_le hd2 (by decide)), e8 _ hd2, hd3]
    rfl
  rw [hg, show (32 : Nat) = 8 + (8 + (8 + 8)) by decide, crI_add, s1, crI_add, s2, crI_add, s3, crL_cons, crL_cons, crL_cons, crL_cons]
  unfold crL
  rw [List.foldl_nil]
  rfl

theorem shl_xor (x y i m : Nat) (hm : 2 ^ i = m) : (x ^^^ y) * m = x * m ^^^ y * m := by
  have := Nat.shiftLeft_xor_distrib (a := x) (b := y) (i := i)
  simpa [Nat.shiftLeft_eq, hm] using this
theorem getW_xor (n : Nat) (hn : n < 4294967296) (a b c d : UInt8) : getW (xorL (putW n) [a, b, c, d]) = n ^^^ getW [a, b, c, d] := by
  obtain ⟨p, q, r, s, hp, hg⟩ : ∃ p q r s : UInt8, putW n = [p, q, r, s] ∧ getW [p, q, r, s] = n := ⟨_, _, _, _, rfl, by have := getW_putW hn []; rw [List.append_nil] at this; exact this⟩
  have hz : xorL [p, q, r, s] [a, b, c, d] = [p ^^^ a, q ^^^ b, r ^^^ c, s ^^^ d] := rfl
  rw [hp, hz, ← hg, getW_as_xor, getW_as_xor, getW_as_xor, UInt8.toNat_xor, UInt8.toNat_xor, UInt8.toNat_xor, UInt8.toNat_xor, shl_xor _ _ 24 _ (by decide), shl_xor _ _ 16 _ (by decide), shl_xor _ _ 8 _ (by decide)]
  rw [xor_swap (r.toNat * 256) (c.toNat * 256), xor_swap (q.toNat * 65536) (b.toNat * 65536), xor_swap (p.toNat * 16777216) (a.toNat * 16777216)]
/-- A body and its sum of which one row of at most 32 bits was turned: the sum is not the body's. -/
theorem burst_told (l : List UInt8) (f : Nat) (t : Nat → Bool) (hf : f < 8 * (l.length + 4)) (h1 : t f = true) (h2 : ∀ p, t p = true → f ≤ p ∧ p < f + 32) :
    getW ((xorL (l ++ putW (crc l)) (turnL t (l.length + 4))).drop l.length) ≠ crc ((xorL (l ++ putW (crc l)) (turnL t (l.length + 4))).take l.length) := by
  obtain ⟨E, hE⟩ : ∃ E, E = turnL t (l.length + 4) := ⟨_, rfl⟩
  have hEl : E.length = l.length + 4 := by rw [hE]; simp [turnL]
  have hne := burst_ne (l.length + 4) f t hf h1 h2
  rw [← hE] at hne ⊢
  obtain ⟨e1, e2, hs, hl1⟩ : ∃ e1 e2, E = e1 ++ e2 ∧ e1.length = l.length := ⟨E.take l.length, E.drop l.length, (List.take_append_drop _ _).symm, by rw [List.length_take]; omega⟩
  have hl2 : e2.length = 4 := by rw [hs, List.length_append] at hEl; omega
  have hx : xorL (l ++ putW (crc l)) E = xorL l e1 ++ xorL (putW (crc l)) e2 := by
    rw [hs]; unfold xorL
    exact List.zipWith_append hl1.symm
  have hxl : (xorL l e1).length = l.length := xorL_length l e1 hl1.symm
  rw [hx, List.drop_left' hxl, List.take_left' hxl, crc_xor l e1 hl1.symm]
  obtain ⟨a, b, c, d, rfl⟩ : ∃ a b c d, e2 = [a, b, c, d] := by
    match e2, hl2 with
    | [a, b, c, d], _ => exact ⟨a, b, c, d, rfl⟩
  intro he
  apply hne
  have hw := crL_lt e1 (w := 0) (by decide)
  rw [hs, crL_append, crL_four a b c d _ hw]
  have hc := crc_lt l
  have hxw : getW (xorL (putW (crc l)) [a, b, c, d]) = crc l ^^^ getW [a, b, c, d] := getW_xor (crc l) hc a b c d
  rw [hxw] at he
  have : getW [a, b, c, d] = crL e1 0 := by
    have h := congrArg (crc l ^^^ ·) he
    simp only [← Nat.xor_assoc, Nat.xor_self, Nat.zero_xor] at h
    exact h
  rw [this, Nat.xor_self, crI_zero]
end Go.Proofs.Ytedhallhdhlhhaa

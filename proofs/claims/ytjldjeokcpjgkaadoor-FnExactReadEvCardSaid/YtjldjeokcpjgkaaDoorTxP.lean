/-
  Lines taken apart: words between blanks, numbers, and which event a line is.
-/
import Derived.Test.YtjldjeokcpjgkaaDoorTxE
import Derived.Lib.Split
import Derived.Lib.IndexBytes
namespace Go.Proofs.YtjldjeokcpjgkaaDoor
open Go.RowKit
set_option linter.unusedVariables false

/-- The words between blanks. -/
def spl : List UInt8 → List (List UInt8)
  | [] => [[]]
  | b :: r => if b = 32 then [] :: spl r else match spl r with | h :: t => (b :: h) :: t | [] => [[b]]
theorem spl_ne (s : List UInt8) : spl s ≠ [] := by
  cases s with
  | nil => simp [spl]
  | cons b r =>
    unfold spl
    split
    · simp
    · split <;> simp
theorem spl_cons {b : UInt8} (r : List UInt8) (hb : b ≠ 32) : ∃ h t, spl r = h :: t ∧ spl (b :: r) = (b :: h) :: t := by
  cases h : spl r with
  | nil => exact absurd h (spl_ne r)
  | cons x t => exact ⟨x, t, rfl, by rw [spl, if_neg hb, h]⟩
theorem spl_blank (r : List UInt8) : spl (32 :: r) = [] :: spl r := by rw [spl, if_pos rfl]
theorem spl_one {x : List UInt8} (h : (32 : UInt8) ∉ x) : spl x = [x] := by
  induction x with
  | nil => rfl
  | cons b r ih =>
    simp only [List.mem_cons, not_or] at h
    obtain ⟨y, t, h1, h2⟩ := spl_cons r (fun e => h.1 e.symm)
    rw [ih h.2] at h1
    cases h1
    exact h2
theorem spl_app {x : List UInt8} (h : (32 : UInt8) ∉ x) (s : List UInt8) : spl (x ++ 32 :: s) = x :: spl s := by
  induction x with
  | nil => exact spl_blank s
  | cons b r ih =>
    simp only [List.mem_cons, not_or] at h
    obtain ⟨y, t, h1, h2⟩ := spl_cons (r ++ 32 :: s) (fun e => h.1 e.symm)
    rw [ih h.2] at h1
    cases h1
    exact h2
theorem spl_line {x : List UInt8} (hx : (32 : UInt8) ∉ x) (L : List Int) (hL : ∀ n, n ∈ L → (32 : UInt8) ∉ Lib.itoa n) : spl (lineT x L) = x :: L.map Lib.itoa := by
  induction L generalizing x with
  | nil => simp only [lineT, List.flatMap_nil, List.append_nil, List.map_nil]; exact spl_one hx
  | cons n L ih =>
    have e : lineT x (n :: L) = x ++ 32 :: lineT (Lib.itoa n) L := by simp [lineT]
    rw [e, spl_app hx, ih (hL n (List.mem_cons_self ..)) (fun m hm => hL m (List.mem_cons_of_mem _ hm))]
    rfl
theorem line_spl {s x : List UInt8} {L : List Int} (h : spl s = x :: L.map Lib.itoa) : s = lineT x L := by
  induction s generalizing x L with
  | nil =>
    simp only [spl, List.cons.injEq] at h
    obtain ⟨rfl, h2⟩ := h
    cases L with
    | nil => rfl
    | cons => simp at h2
  | cons b r ih =>
    by_cases hb : b = 32
    · subst hb
      rw [spl_blank] at h
      simp only [List.cons.injEq] at h
      obtain ⟨rfl, h2⟩ := h
      cases L with
      | nil => exact absurd h2 (spl_ne r)
      | cons n L =>
        rw [List.map_cons] at h2
        rw [ih h2]
        simp [lineT]
    · obtain ⟨y, t, h1, h2⟩ := spl_cons r hb
      rw [h2] at h
      simp only [List.cons.injEq] at h
      obtain ⟨rfl, rfl⟩ := h
      rw [ih h1]
      rfl
/-- Where the first blank is. -/
theorem idx_spl (s : List UInt8) : (Lib.index s [32] = -1 ∧ spl s = [s]) ∨ ∃ i : Nat, Lib.index s [32] = i ∧ i < s.length ∧ spl s = s.take i :: spl (s.drop (i + 1)) := by
  induction s with
  | nil => exact .inl ⟨rfl, rfl⟩
  | cons b r ih =>
    have hp : List.isPrefixOf [32] (b :: r) = ((32 : UInt8) == b) := by simp [List.isPrefixOf]
    by_cases hb : b = 32
    · subst hb
      refine .inr ⟨0, ?_, by simp, by simp [spl_blank]⟩
      unfold Lib.index
      rw [hp]
      rfl
    · have hpb : ((32 : UInt8) == b) = false := beq_eq_false_iff_ne.2 (fun e => hb e.symm)
      obtain ⟨y, t, h1, h2⟩ := spl_cons r hb
      rcases ih with ⟨h3, h4⟩ | ⟨i, h3, h5, h4⟩
      · refine .inl ⟨?_, ?_⟩
        · unfold Lib.index
          rw [hp, hpb, h3]
          rfl
        · rw [h4] at h1
          cases h1
          exact h2
      · refine .inr ⟨i + 1, ?_, by simp; omega, ?_⟩
        · unfold Lib.index
          rw [hp, hpb, h3]
          have : ((i : Int) == -1) = false := by rw [beq_eq_false_iff_ne]; omega
          simp [this]
        · rw [h4] at h1
          cases h1
          rw [h2]
          simp
theorem cut_spl (s : List UInt8) : (Lib.cut s [32]).1 = (spl s).headD [] := by
  unfold Lib.cut
  rcases idx_spl s with ⟨h3, h4⟩ | ⟨i, h3, _, h4⟩
  · rw [if_neg (by omega), h4]; rfl
  · rw [if_pos (by omega), h4, h3]; rfl
theorem splitK_spl : ∀ (k : Nat) (s : List UInt8), (spl s).length = k + 1 → Lib.splitK [32] 0 k s = spl s
  | 0, s, h => by
    rcases idx_spl s with ⟨h3, h4⟩ | ⟨i, h3, _, h4⟩
    · rw [h4]; rfl
    · rw [h4, List.length_cons] at h
      have := List.length_pos_iff.2 (spl_ne (s.drop (i + 1)))
      omega
  | k + 1, s, h => by
    rcases idx_spl s with ⟨h3, h4⟩ | ⟨i, h3, _, h4⟩
    · rw [h4] at h; simp at h
    · rw [h4, List.length_cons] at h
      unfold Lib.splitK
      rw [if_neg (by rw [h3]; intro e; have := beq_iff_eq.1 e; omega), h3, h4]
      have := splitK_spl k (s.drop (i + 1)) (by omega)
      simp only [Int.toNat_natCast, Nat.add_zero, List.length_cons, List.length_nil]
      rw [this]
theorem countFrom_spl : ∀ (f : Nat) (s : List UInt8), s.length < f → Lib.countFrom [32] f s + 1 = (spl s).length
  | 0, s, h => by omega
  | f + 1, s, h => by
    unfold Lib.countFrom
    rcases idx_spl s with ⟨h3, h4⟩ | ⟨i, h3, hi, h4⟩
    · rw [if_pos (by rw [h3]; rfl), h4]; rfl
    · rw [if_neg (by rw [h3]; intro e; have := beq_iff_eq.1 e; omega), h3, h4, List.length_cons]
      have := countFrom_spl f (s.drop (i + 1)) (by rw [List.length_drop]; omega)
      simp only [Int.toNat_natCast, List.length_cons, List.length_nil, Nat.zero_add]
      omega
theorem count_spl (s : List UInt8) : Lib.count s [32] + 1 = (spl s).length := countFrom_spl _ _ (Nat.lt_succ_self _)
theorem countByte_spl (s : List UInt8) : Lib.countByte s 32 + 1 = (spl s).length := by
  unfold Lib.countByte
  induction s with
  | nil => rfl
  | cons b r ih =>
    by_cases hb : b = 32
    · subst hb
      rw [spl_blank, List.length_cons, List.count_cons_self]
      omega
    · obtain ⟨y, t, h1, h2⟩ := spl_cons r hb
      rw [h2, List.length_cons, List.count_cons_of_ne (fun e => hb e)]
      rw [h1, List.length_cons] at ih
      exact ih

/-! ### Numbers -/
theorem digit_u8 (d : Nat) (h : d < 10) : (UInt8.ofNat (48 + d)).toNat = 48 + d := by rw [UInt8.toNat_ofNat']; omega
theorem dec_chars (u : Nat) : ∀ b, b ∈ Lib.decDigits u → 48 ≤ b.toNat ∧ b.toNat ≤ 57 := by
  induction u using Nat.strongRecOn with
  | _ u ih =>
    intro b hb
    rw [Lib.decDigits] at hb
    split at hb
    · next h =>
      simp only [List.mem_cons, List.not_mem_nil, or_false] at hb
      subst hb
      rw [digit_u8 u h]; omega
    · next h =>
      rcases List.mem_append.1 hb with hb | hb
      · exact ih (u / 10) (by omega) b hb
      · simp only [List.mem_cons, List.not_mem_nil, or_false] at hb
        subst hb
        rw [digit_u8 _ (Nat.mod_lt _ (by decide))]; omega
theorem dec_ne (u : Nat) : Lib.decDigits u ≠ [] := by
  rw [Lib.decDigits]; split <;> simp
theorem itoa_noblank (n : Int) : (32 : UInt8) ∉ Lib.itoa n := by
  intro h
  unfold Lib.itoa at h
  split at h
  · rcases List.mem_cons.1 h with h | h
    · exact absurd h (by decide)
    · exact absurd (dec_chars _ _ h) (by decide)
  · exact absurd (dec_chars _ _ h) (by decide)
def fold10 (sg : Int) (l : List UInt8) (a : Int) : Int := l.foldl (fun a b => a * 10 + sg * ((b.toNat : Int) - 48)) a
theorem fold_dec (sg : Int) (u : Nat) : fold10 sg (Lib.decDigits u) 0 = sg * (u : Int) := by
  induction u using Nat.strongRecOn with
  | _ u ih =>
    rw [Lib.decDigits]
    split
    · next h =>
      unfold fold10
      simp only [List.foldl_cons, List.foldl_nil, digit_u8 u h]
      rw [show ((48 + u : Nat) : Int) - 48 = (u : Int) by omega]
      omega
    · next h =>
      have h1 := ih (u / 10) (by omega)
      unfold fold10 at h1 ⊢
      rw [List.foldl_append, h1]
      simp only [List.foldl_cons, List.foldl_nil, digit_u8 _ (Nat.mod_lt u (by decide : 0 < 10))]
      rw [show ((48 + u % 10 : Nat) : Int) - 48 = ((u % 10 : Nat) : Int) by omega, Int.mul_assoc, ← Int.mul_add]
      congr 1
      omega
def sgn (t : List UInt8) : Int := if t.head? = some 45 then -1 else 1
def digs (t : List UInt8) : List UInt8 := if t.head? = some 45 then t.tail else t
def valT (t : List UInt8) : Int := fold10 (sgn t) (digs t) 0
def Digits (t : List UInt8) : Prop := ∀ b, b ∈ t → 48 ≤ b.toNat ∧ b.toNat ≤ 57
def okT (t : List UInt8) : Prop := Digits (digs t)
theorem dec_head (u : Nat) : (Lib.decDigits u).head? ≠ some 45 := by
  intro h
  have hm : (45 : UInt8) ∈ Lib.decDigits u := List.mem_of_mem_head? h
  exact absurd (dec_chars u _ hm) (by decide)
theorem itoa_val (n : Int) : okT (Lib.itoa n) ∧ valT (Lib.itoa n) = n := by
  unfold Lib.itoa
  split
  · next h =>
    refine ⟨fun b hb => dec_chars n.natAbs b (by simpa [digs] using hb), ?_⟩
    have : valT (45 :: Lib.decDigits n.natAbs) = fold10 (-1) (Lib.decDigits n.natAbs) 0 := by simp [valT, sgn, digs]
    rw [this, fold_dec]
    omega
  · next h =>
    have hh := dec_head n.toNat
    refine ⟨fun b hb => dec_chars n.toNat b (by simpa [digs, hh] using hb), ?_⟩
    have : valT (Lib.decDigits n.toNat) = fold10 1 (Lib.decDigits n.toNat) 0 := by simp [valT, sgn, digs, hh]
    rw [this, fold_dec]
    omega
theorem itoa_inj {a b : Int} (h : Lib.itoa a = Lib.itoa b) : a = b := by
  rw [← (itoa_val a).2, ← (itoa_val b).2, h]
/-- What a text is, read as a number. -/
def NumIs (t : List UInt8) (n : Int) (ok : Bool) : Prop := (ok = true ∧ I64 n ∧ Lib.itoa n = t) ∨ (ok = false ∧ n = 0 ∧ ∀ m, I64 m → Lib.itoa m ≠ t)

/-! ### Events by their words -/
structure KD where
  word : List UInt8
  k : Int
  ok : Int
  offs : List Nat
def kinds : List KD := [
  ⟨[97, 108, 108, 111, 99], 1, 1, [2, 3, 6, 7]⟩, ⟨[108, 111, 97, 100], 1, 2, [2, 3, 5, 4]⟩, ⟨[115, 116, 111, 114, 101], 1, 3, [2, 3, 5, 4]⟩, ⟨[115, 101, 116], 1, 4, [2, 3, 5, 7]⟩, ⟨[103, 101, 116], 1, 5, [2, 3, 5]⟩,
  ⟨[100, 114, 111, 112], 1, 6, [2, 3]⟩, ⟨[115, 97, 109, 101], 1, 7, [2, 3, 4]⟩, ⟨[99, 111, 112, 121], 1, 8, [2, 3, 4]⟩, ⟨[108, 101, 110], 1, 9, [2, 3]⟩,
  ⟨[115, 116, 97, 114, 116], 2, 0, []⟩, ⟨[115, 116, 101, 112, 115], 3, 0, [8]⟩, ⟨[109, 111, 118, 101], 4, 0, [9, 10]⟩, ⟨[102, 117, 108, 108], 5, 0, []⟩, ⟨[100, 101, 108, 116, 97], 6, 0, []⟩, ⟨[99, 114, 97, 115, 104], 7, 0, [8]⟩]
def zeroE : EvD := ⟨0, 0, 0, 0, 0, 0, 0, 0, 0, 0, 0⟩
def setF (E : EvD) (o : Nat) (x : Int) : EvD :=
  if o = 2 then { E with m := x } else if o = 3 then { E with h := x } else if o = 4 then { E with g := x } else if o = 5 then { E with i := x } else if o = 6 then { E with n := x }
  else if o = 7 then { E with v := x } else if o = 8 then { E with en := x } else if o = 9 then { E with base := x } else if o = 10 then { E with pages := x } else E
def build (r : KD) (vs : List Int) : EvD := (r.offs.zip vs).foldl (fun E p => setF E p.1 p.2) { zeroE with k := r.k, ok := r.ok }
/-- The line of an event. -/
def IsLine (s : List UInt8) (r : KD) (vs : List Int) : Prop := r ∈ kinds ∧ vs.length = r.offs.length ∧ AllI vs ∧ s = lineT r.word vs
def ReadIs (s : List UInt8) (E : EvD) (ok : Bool) : Prop := (ok = true ∧ ∃ r vs, IsLine s r vs ∧ E = build r vs) ∨ (ok = false ∧ E = zeroE ∧ ¬ ∃ r vs, IsLine s r vs)
theorem word_noblank {r : KD} (h : r ∈ kinds) : (32 : UInt8) ∉ r.word := by
  have : ∀ r, r ∈ kinds → (32 : UInt8) ∉ r.word := by decide
  exact this r h
theorem kinds_inj {r r' : KD} (h : r ∈ kinds) (h' : r' ∈ kinds) (e : r.word = r'.word) : r = r' := by
  have : ∀ r, r ∈ kinds → ∀ r', r' ∈ kinds → r.word = r'.word → r.k = r'.k ∧ r.ok = r'.ok ∧ r.offs = r'.offs := by decide +kernel
  obtain ⟨h1, h2, h3⟩ := this r h r' h' e
  cases r; cases r'
  simp only [KD.mk.injEq]
  exact ⟨e, h1, h2, h3⟩
theorem IsLine.spl {s : List UInt8} {r : KD} {vs : List Int} (h : IsLine s r vs) : spl s = r.word :: vs.map Lib.itoa := by
  rw [h.2.2.2]
  exact spl_line (word_noblank h.1) vs (fun n _ => itoa_noblank n)
theorem IsLine.unique {s : List UInt8} {r r' : KD} {vs vs' : List Int} (h : IsLine s r vs) (h' : IsLine s r' vs') : r = r' ∧ vs = vs' := by
  have e := h.spl.symm.trans h'.spl
  simp only [List.cons.injEq] at e
  refine ⟨kinds_inj h.1 h'.1 e.1, ?_⟩
  have e2 := congrArg (List.map valT) e.2
  rw [List.map_map, List.map_map] at e2
  have f : ∀ l : List Int, l.map (valT ∘ Lib.itoa) = l := fun l => by
    induction l with
    | nil => rfl
    | cons a l ih => rw [List.map_cons, ih]; simp [(itoa_val a).2]
  rwa [f, f] at e2
theorem ReadIs.unique {s : List UInt8} {E E' : EvD} {ok ok' : Bool} (h : ReadIs s E ok) (h' : ReadIs s E' ok') : E = E' ∧ ok = ok' := by
  rcases h with ⟨rfl, r, vs, hl, rfl⟩ | ⟨rfl, rfl, hn⟩ <;> rcases h' with ⟨rfl, r', vs', hl', rfl⟩ | ⟨rfl, rfl, hn'⟩
  · obtain ⟨rfl, rfl⟩ := hl.unique hl'
    exact ⟨rfl, rfl⟩
  · exact absurd ⟨r, vs, hl⟩ hn'
  · exact absurd ⟨r', vs', hl'⟩ hn
  · exact ⟨rfl, rfl⟩
set_option maxRecDepth 100000 in
theorem evL_build {r : KD} (hr : r ∈ kinds) (vs : List Int) (hl : vs.length = r.offs.length) : evL (build r vs) = (r.word, r.offs.zip vs) := by
  simp only [kinds, List.mem_cons, List.not_mem_nil, or_false] at hr
  rcases hr with rfl | rfl | rfl | rfl | rfl | rfl | rfl | rfl | rfl | rfl | rfl | rfl | rfl | rfl | rfl
  all_goals
    simp only [List.length_cons, List.length_nil] at hl
    rcases vs with _ | ⟨a, _ | ⟨b, _ | ⟨c, _ | ⟨d, _ | ⟨e, t⟩⟩⟩⟩⟩
  all_goals first | (simp only [List.length_cons, List.length_nil] at hl; omega) | rfl
theorem setF_fit {E : EvD} (h : FitE E) (o : Nat) {x : Int} (h1 : I64 x) : FitE (setF E o x) := by
  unfold setF
  (repeat' split)
  all_goals
    constructor
    all_goals first | exact h1 | exact h.k | exact h.ok | exact h.m | exact h.h | exact h.g | exact h.i | exact h.n | exact h.v | exact h.en | exact h.base | exact h.pages
theorem build_fit {r : KD} (hr : r ∈ kinds) (vs : List Int) (hv : AllI vs) : FitE (build r vs) := by
  have hz : ∀ (L : List (Nat × Int)) (E : EvD), FitE E → (∀ p, p ∈ L → I64 p.2) → FitE (L.foldl (fun E p => setF E p.1 p.2) E) := by
    intro L
    induction L with
    | nil => intro E h _; exact h
    | cons p L ih =>
      intro E h hp
      exact ih _ (setF_fit h p.1 (hp p (List.mem_cons_self ..))) (fun q hq => hp q (List.mem_cons_of_mem _ hq))
  have h0 : I64 0 := by unfold I64; omega
  have hk : I64 r.k ∧ I64 r.ok := by
    have : ∀ r, r ∈ kinds → 0 ≤ r.k ∧ r.k ≤ 100 ∧ 0 ≤ r.ok ∧ r.ok ≤ 100 := by decide
    have := this r hr
    unfold I64
    omega
  exact hz _ _ ⟨hk.1, hk.2, h0, h0, h0, h0, h0, h0, h0, h0, h0⟩ (fun p hp => hv _ (List.of_mem_zip hp).2)
theorem zero_fit : FitE zeroE := by
  have h0 : I64 0 := by unfold I64; omega
  exact ⟨h0, h0, h0, h0, h0, h0, h0, h0, h0, h0, h0⟩
end Go.Proofs.YtjldjeokcpjgkaaDoor

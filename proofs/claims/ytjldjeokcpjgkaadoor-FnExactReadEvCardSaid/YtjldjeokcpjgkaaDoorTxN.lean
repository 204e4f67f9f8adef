/-
  The model's ReadEv.
-/
import Derived.Test.YtjldjeokcpjgkaaDoorTxM1
import Derived.Test.YtjldjeokcpjgkaaDoorTxM2
import Derived.Test.YtjldjeokcpjgkaaDoorTxM3
import Derived.Test.YtjldjeokcpjgkaaDoorTxM4
import Derived.Test.YtjldjeokcpjgkaaDoorTxM5
import Derived.Test.YtjldjeokcpjgkaaDoorTxM6
import Derived.Test.YtjldjeokcpjgkaaDoorTxOp
namespace Go.Proofs.YtjldjeokcpjgkaaDoor
open Go.RowKit
set_option linter.unusedVariables false
set_option linter.unusedSimpArgs false

/-- What l11make gives. -/
def makeE (x : List UInt8) (ns : List Int) : EvD :=
  match kinds.find? (fun r => r.word == x) with
  | some r => build r (ns.take r.offs.length)
  | none => { zeroE with k := 1, m := ns.getD 0 0, h := ns.getD 1 0 }
theorem makeE_kind {r : KD} (hr : r ∈ kinds) (ns : List Int) : makeE r.word ns = build r (ns.take r.offs.length) := by
  unfold makeE
  cases h : kinds.find? (fun q => q.word == r.word) with
  | none => exact absurd (List.find?_eq_none.1 h r hr) (by simp)
  | some q =>
    have h1 : q.word = r.word := by simpa using List.find?_some h
    rw [kinds_inj (List.mem_of_find?_eq_some h) hr h1]
theorem makeE_no {x : List UInt8} (hx : ∀ r, r ∈ kinds → r.word ≠ x) (a b : Int) (t : List Int) : makeE x (a :: b :: t) = ⟨1, 0, a, b, 0, 0, 0, 0, 0, 0, 0⟩ := by
  unfold makeE
  rw [List.find?_eq_none.2 (fun r hr => by simpa using hx r hr)]
  rfl
def evV (E : EvD) : Value := .agg E.cells
theorem smake_any (X : ByteArray) (a b c d : Int) (vn : Value) (w : World) (hn : Rd w vn [a, b, c, d]) : Calls Tryd.prog 30 #[.string X, vn] w fun e w' => e = .returned (evV (makeE X.data.toList [a, b, c, d])) ∧ Below w.heap.size w w' := by
  by_cases hk : ∃ r, r ∈ kinds ∧ r.word = X.data.toList
  · obtain ⟨r, hr, hx⟩ := hk
    have hX : X = ⟨r.word.toArray⟩ := bytes_eq (by rw [hx])
    rw [← hx, makeE_kind hr, hX]
    simp only [kinds, List.mem_cons, List.not_mem_nil, or_false] at hr
    rcases hr with rfl | rfl | rfl | rfl | rfl | rfl | rfl | rfl | rfl | rfl | rfl | rfl | rfl | rfl | rfl
    · exact smake_0 a b c d vn w hn
    · exact smake_1 a b c d vn w hn
    · exact smake_2 a b c d vn w hn
    · exact smake_3 a b c d vn w hn
    · exact smake_4 a b c d vn w hn
    · exact smake_5 a b c d vn w hn
    · exact smake_6 a b c d vn w hn
    · exact smake_7 a b c d vn w hn
    · exact smake_8 a b c d vn w hn
    · exact smake_9 a b c d vn w hn
    · exact smake_10 a b c d vn w hn
    · exact smake_11 a b c d vn w hn
    · exact smake_12 a b c d vn w hn
    · exact smake_13 a b c d vn w hn
    · exact smake_14 a b c d vn w hn
  · have hno : ∀ r, r ∈ kinds → r.word ≠ X.data.toList := fun r hr e => hk ⟨r, hr, e⟩
    rw [makeE_no hno]
    have ht : X.toList = X.data.toList := ByteArray.toList_eq ..
    have g : ∀ (j : Nat) r, kinds[j]? = some r → ¬ X.toList = r.word := fun j r hj e => hno r (List.mem_of_getElem? hj) (by rw [← e, ht])
    exact smake_15 X (g 0 _ rfl) (g 1 _ rfl) (g 2 _ rfl) (g 3 _ rfl) (g 4 _ rfl) (g 5 _ rfl) (g 6 _ rfl) (g 7 _ rfl) (g 8 _ rfl) (g 9 _ rfl) (g 10 _ rfl) (g 11 _ rfl) (g 12 _ rfl) (g 13 _ rfl) (g 14 _ rfl) a b c d vn w hn
/-- The number in word j, 0 if there is none. -/
def numAt (P : List (List UInt8)) (j : Nat) : Int := match P[j]? with | some t => numL t | none => 0
def numsOf (P : List (List UInt8)) (k : Nat) : List Int := (List.range 4).map fun j => if j + 1 < k then numAt P (j + 1) else 0
theorem numAt_in (P : List (List UInt8)) (j : Nat) : I64 (numAt P j) := by
  unfold numAt
  split
  · exact numL_in _
  · unfold I64; omega
def numE (P : List (List UInt8)) : List Int := [numAt P 1, numAt P 2, numAt P 3, numAt P 4]
theorem kinds_offs {r : KD} (hr : r ∈ kinds) : r.offs.length ≤ 4 ∧ r.word ≠ [] := by
  have : ∀ r, r ∈ kinds → r.offs.length ≤ 4 ∧ r.word ≠ [] := by decide
  exact this r hr
theorem numE_line {P : List (List UInt8)} {x : List UInt8} {vs : List Int} (h : P = x :: vs.map Lib.itoa) (hv : AllI vs) (hl : vs.length ≤ 4) : (numE P).take vs.length = vs := by
  subst h
  have hn : ∀ n, n ∈ vs → numL (Lib.itoa n) = n := fun n hn => numL_itoa n (hv n hn)
  rcases vs with _ | ⟨a, _ | ⟨b, _ | ⟨c, _ | ⟨d, _ | ⟨e, t⟩⟩⟩⟩⟩
  · rfl
  · simp [numE, numAt, hn]
  · simp [numE, numAt, hn]
  · simp [numE, numAt, hn]
  · simp [numE, numAt, hn]
  · simp at hl
/-- The model's answer is right. -/
theorem read_yes {s x : List UInt8} {P : List (List UInt8)} (hs : spl s = x :: P) (h0 : s ≠ []) (he : evT (makeE x (numE (x :: P))) = s) : ReadIs s (makeE x (numE (x :: P))) true := by
  by_cases hk : ∃ r, r ∈ kinds ∧ r.word = x
  · obtain ⟨r, hr, rfl⟩ := hk
    have ho := (kinds_offs hr).1
    have hl : ((numE (r.word :: P)).take r.offs.length).length = r.offs.length := by rw [List.length_take]; simp [numE]; omega
    refine .inl ⟨rfl, r, (numE (r.word :: P)).take r.offs.length, ⟨hr, hl, ?_, ?_⟩, makeE_kind hr _⟩
    · intro n hn
      have := List.mem_of_mem_take hn
      simp only [numE, List.mem_cons, List.not_mem_nil, or_false] at this
      rcases this with rfl | rfl | rfl | rfl <;> exact numAt_in _ _
    · rw [makeE_kind hr] at he
      unfold evT at he
      rw [evL_build hr _ hl] at he
      dsimp only at he
      have e2 : (r.offs.zip ((numE (r.word :: P)).take r.offs.length)).map (·.2) = (numE (r.word :: P)).take r.offs.length := List.map_snd_zip (by rw [hl]; exact Nat.le_refl _)
      rw [e2] at he
      exact he.symm
  · exfalso
    have hno : ∀ r, r ∈ kinds → r.word ≠ x := fun r hr e => hk ⟨r, hr, e⟩
    rw [show numE (x :: P) = numAt (x :: P) 1 :: numAt (x :: P) 2 :: [numAt (x :: P) 3, numAt (x :: P) 4] from rfl, makeE_no hno] at he
    apply h0
    rw [← he]
    rfl
theorem read_no {s x : List UInt8} {P : List (List UInt8)} (hs : spl s = x :: P) (he : s = [] ∨ evT (makeE x (numE (x :: P))) ≠ s) : ReadIs s zeroE false := by
  refine .inr ⟨rfl, rfl, ?_⟩
  rintro ⟨r, vs, hl⟩
  have h1 := hl.spl
  rw [hs] at h1
  have hx : x = r.word := (List.cons.inj h1).1
  subst hx
  have ho := kinds_offs hl.1
  rcases he with he | he
  · have h2 := hl.2.2.2
    rw [he] at h2
    unfold lineT at h2
    have h3 := congrArg List.length h2
    rw [List.length_append, List.length_nil] at h3
    have h4 := List.length_pos_iff.2 ho.2
    omega
  · apply he
    rw [makeE_kind hl.1, ← hl.2.1, numE_line h1 hl.2.2.1 (by rw [hl.2.1]; exact ho.1)]
    unfold evT
    rw [evL_build hl.1 vs hl.2.1]
    dsimp only
    rw [List.map_snd_zip (by rw [hl.2.1]; exact Nat.le_refl _)]
    exact hl.2.2.2.symm
end Go.Proofs.YtjldjeokcpjgkaaDoor

/-
  An event as plain data, and its line.
-/
import Derived.Test.YtjldjeokcpjgkaaDoorWData
import Derived.Lib.ItoaNum
import Derived.Lib.ItoaMem
import Derived.Lib.ItoaLen
namespace Go.Proofs.YtjldjeokcpjgkaaDoor
open Go.RowKit
set_option linter.unusedVariables false

structure EvD where
  k : Int
  ok : Int
  m : Int
  h : Int
  g : Int
  i : Int
  n : Int
  v : Int
  en : Int
  base : Int
  pages : Int
def EvD.cells (E : EvD) : Array Value := #[.int .i64 E.k, .int .i64 E.ok, .int .i64 E.m, .int .i64 E.h, .int .i64 E.g, .int .i64 E.i, .int .i64 E.n, .int .i64 E.v, .int .i64 E.en, .int .i64 E.base, .int .i64 E.pages]
def EvD.val (E : EvD) : Value := .agg E.cells
structure FitE (E : EvD) : Prop where
  k : I64 E.k
  ok : I64 E.ok
  m : I64 E.m
  h : I64 E.h
  g : I64 E.g
  i : I64 E.i
  n : I64 E.n
  v : I64 E.v
  en : I64 E.en
  base : I64 E.base
  pages : I64 E.pages
/-- An operation's word, and the places of what stands behind it. -/
def opL (E : EvD) : List UInt8 × List (Nat × Int) :=
  if E.ok = 1 then ([97, 108, 108, 111, 99], [(2, E.m), (3, E.h), (6, E.n), (7, E.v)])
  else if E.ok = 2 then ([108, 111, 97, 100], [(2, E.m), (3, E.h), (5, E.i), (4, E.g)])
  else if E.ok = 3 then ([115, 116, 111, 114, 101], [(2, E.m), (3, E.h), (5, E.i), (4, E.g)])
  else if E.ok = 4 then ([115, 101, 116], [(2, E.m), (3, E.h), (5, E.i), (7, E.v)])
  else if E.ok = 5 then ([103, 101, 116], [(2, E.m), (3, E.h), (5, E.i)])
  else if E.ok = 6 then ([100, 114, 111, 112], [(2, E.m), (3, E.h)])
  else if E.ok = 7 then ([115, 97, 109, 101], [(2, E.m), (3, E.h), (4, E.g)])
  else if E.ok = 8 then ([99, 111, 112, 121], [(2, E.m), (3, E.h), (4, E.g)])
  else if E.ok = 9 then ([108, 101, 110], [(2, E.m), (3, E.h)])
  else ([], [])
def evL (E : EvD) : List UInt8 × List (Nat × Int) :=
  if E.k = 1 then opL E
  else if E.k = 2 then ([115, 116, 97, 114, 116], [])
  else if E.k = 3 then ([115, 116, 101, 112, 115], [(8, E.en)])
  else if E.k = 4 then ([109, 111, 118, 101], [(9, E.base), (10, E.pages)])
  else if E.k = 5 then ([102, 117, 108, 108], [])
  else if E.k = 6 then ([100, 101, 108, 116, 97], [])
  else if E.k = 7 then ([99, 114, 97, 115, 104], [(8, E.en)])
  else ([], [])
def lineT (word : List UInt8) (l : List Int) : List UInt8 := word ++ l.flatMap fun n => 32 :: Lib.itoa n
def evT (E : EvD) : List UInt8 := lineT (evL E).1 ((evL E).2.map (·.2))
theorem lineT_snoc (word : List UInt8) (l : List Int) (n : Int) : lineT word (l ++ [n]) = lineT word l ++ 32 :: Lib.itoa n := by
  unfold lineT
  rw [List.flatMap_append, List.append_assoc]
  simp
theorem lineT_len (word : List UInt8) (l : List Int) (h : AllI l) : (lineT word l).length ≤ word.length + 22 * l.length := by
  unfold lineT
  induction l with
  | nil => simp
  | cons n l ih =>
    have h1 := ih (fun x hx => h x (List.mem_cons_of_mem _ hx))
    have h2 := h n (List.mem_cons_self ..)
    have h3 := Lib.itoa_length_le n h2.1 h2.2
    simp only [List.flatMap_cons, List.length_append, List.length_cons] at h1 ⊢
    omega
/-- What is returned is this text. -/
def StrIs (T : List UInt8) (e : Ending) : Prop := ∃ X : ByteArray, e = .returned (.string X) ∧ X.data.toList = T
theorem bytes_eq {X Y : ByteArray} (h : X.data.toList = Y.data.toList) : X = Y := by
  cases X; cases Y
  simp only [ByteArray.mk.injEq]
  exact Array.toList_inj.1 h
theorem StrIs.unique {T : List UInt8} {e e' : Ending} (h : StrIs T e) (h' : StrIs T e') : e = e' := by
  obtain ⟨X, rfl, hx⟩ := h
  obtain ⟨Y, rfl, hy⟩ := h'
  rw [bytes_eq (hx.trans hy.symm)]
theorem data_app (X Y : ByteArray) : (X ++ Y).data.toList = X.data.toList ++ Y.data.toList := by
  rw [ByteArray.data_append, Array.toList_append]
theorem size_of_data {X : ByteArray} {T : List UInt8} (h : X.data.toList = T) : X.size = T.length := by
  rw [← h, Array.length_toList]; rfl
theorem itoa_small (u : Nat) (h : u < 10) : Lib.itoa (u : Int) = [UInt8.ofNat (48 + u)] := by rw [Lib.itoa_nonneg, Lib.decDigits, dif_pos h]
theorem itoa_big (u : Nat) (h : ¬ u < 10) : Lib.itoa (u : Int) = Lib.itoa ((u / 10 : Nat) : Int) ++ [UInt8.ofNat (48 + u % 10)] := by
  rw [Lib.itoa_nonneg, Lib.itoa_nonneg, Lib.decDigits, dif_neg h]
theorem itoa_minus (u : Nat) (h : 1 ≤ u) : Lib.itoa (-(u : Int)) = 45 :: Lib.itoa (u : Int) := by rw [Lib.itoa_neg u h, Lib.itoa_nonneg]
theorem itoa_least : Lib.itoa (-9223372036854775808) = [45, 57, 50, 50, 51, 51, 55, 50, 48, 51, 54, 56, 53, 52, 55, 55, 53, 56, 48, 56] := by
  rw [show (-9223372036854775808 : Int) = -((9223372036854775808 : Nat) : Int) from rfl, itoa_minus _ (by decide)]
  repeat rw [itoa_big _ (by decide)]
  rw [itoa_small _ (by decide)]
  decide
end Go.Proofs.YtjldjeokcpjgkaaDoor

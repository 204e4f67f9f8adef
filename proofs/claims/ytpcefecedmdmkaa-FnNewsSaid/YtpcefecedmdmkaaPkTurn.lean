import Derived.Test.YtpcefecedmdmkaaPkCut

/-
  What a run leaves of a variable's memory: nothing that is not its own turned; its own blocks are old ones or new.
-/
namespace Go.Proofs.Ytpcefecedmdmkaa
open Go.RowKit
set_option linter.unusedVariables false

structure Turned (w w' : World) (B : Nat) (S S' : Shape) : Prop where
  own : ∀ q, q ∈ blks S'.all → q ∈ blks S.all ∨ w.heap.size ≤ q
  chg : Chg (B :: blks S.all) w w'
theorem Turned.of_below {w w' : World} (B : Nat) (S : Shape) (h : Below w.heap.size w w') : Turned w w' B S S := ⟨fun q hq => .inl hq, .of_below h _⟩
theorem Turned.step {w w1 w2 : World} {B : Nat} {S T : Shape} {bs : List Nat} (h : Turned w w1 B S T) (c : Chg bs w1 w2) (hn : ∀ q, q ∈ bs → q = B ∨ q ∈ blks T.all ∨ w.heap.size ≤ q) : Turned w w2 B S T := by
  refine ⟨h.own, ⟨c.os.trans h.chg.os, c.tape.trans h.chg.tape, c.output.trans h.chg.output, Nat.le_trans h.chg.size c.size, fun j hj hnj => ?_⟩⟩
  refine (c.block j (Nat.lt_of_lt_of_le hj h.chg.size) fun hm => ?_).trans (h.chg.block j hj hnj)
  rcases hn j hm with rfl | h1 | h1
  · exact hnj (by simp)
  · rcases h.own j h1 with h2 | h2
    · exact hnj (List.mem_cons_of_mem _ h2)
    · omega
  · omega
theorem Turned.trans {w w1 w2 : World} {B : Nat} {S T U : Shape} (h : Turned w w1 B S T) (g : Turned w1 w2 B T U) : Turned w w2 B S U := by
  have hs := h.chg.size
  refine ⟨fun q hq => ?_, (h.step g.chg fun q hq => ?_).chg⟩
  · rcases g.own q hq with h1 | h1
    · exact h.own q h1
    · exact .inr (by omega)
  · rcases List.mem_cons.1 hq with rfl | hq
    · exact .inl rfl
    · exact .inr (.inl hq)
/-- A block that is not the variable's own is as it was. -/
theorem Turned.keeps {w w' : World} {B : Nat} {S S' : Shape} (h : Turned w w' B S S') {V : Nat} {x : _} (hV : V ∉ B :: blks S.all) (hx : w.heap[V]? = x) (hlt : V < w.heap.size) : w'.heap[V]? = x :=
  (h.chg.block V hlt hV).trans hx
theorem svInts_ins {sv : List (Value × Value)} {p : Value × Value} {k : Nat} {x : Value} (hx : x ∈ svInts (sv.take k ++ p :: sv.drop k)) : x ∈ svInts sv ∨ x = p.1 ∨ x = p.2 := by
  have e : svInts sv = svInts (sv.take k) ++ svInts (sv.drop k) := by rw [← svInts_app, List.take_append_drop]
  rw [e]
  simp only [svInts, List.flatMap_append, List.flatMap_cons, List.mem_append, List.mem_cons, List.not_mem_nil, or_false] at hx ⊢
  rcases hx with h | (h | h) | h
  · exact .inl (.inl h)
  · exact .inr (.inl h)
  · exact .inr (.inr h)
  · exact .inl (.inr h)
theorem ins_turned {w w3 : World} {B k : Nat} {S : Shape} {v : Value} {p : Value × Value} (hb : Below w.heap.size w w3) (hv : ∀ q, v.ownBlock = some q → w.heap.size ≤ q) (h1 : ∀ q, p.1.ownBlock = some q → w.heap.size ≤ q) (h2 : ∀ q, p.2.ownBlock = some q → w.heap.size ≤ q) :
    Turned w (w3.setCell ⟨B, 4, none⟩ v) B S { S with vs := v, sv := S.sv.take k ++ p :: S.sv.drop k } := by
  refine ⟨fun q hq => ?_, (Chg.of_below hb _).trans (Chg.of_grown (grown_set w3 B 4 v) (by simp))⟩
  obtain ⟨x, hx, e⟩ := List.mem_filterMap.1 hq
  simp only [Shape.all, List.mem_append, List.mem_cons, List.not_mem_nil, or_false] at hx
  rcases hx with (((rfl | rfl) | (rfl | hx)) | (rfl | hx)) | rfl
  · exact .inl (List.mem_filterMap.2 ⟨_, by simp [Shape.all], e⟩)
  · exact .inl (List.mem_filterMap.2 ⟨_, by simp [Shape.all], e⟩)
  · exact .inr (hv q e)
  · rcases svInts_ins hx with h | rfl | rfl
    · exact .inl (List.mem_filterMap.2 ⟨x, by simp [Shape.all, h], e⟩)
    · exact .inr (h1 q e)
    · exact .inr (h2 q e)
  · exact .inl (List.mem_filterMap.2 ⟨_, by simp [Shape.all], e⟩)
  · exact .inl (List.mem_filterMap.2 ⟨x, by simp [Shape.all, hx], e⟩)
  · exact .inl (List.mem_filterMap.2 ⟨_, by simp [Shape.all], e⟩)
end Go.Proofs.Ytpcefecedmdmkaa

import Derived.Test.YtmkldekangdfmaaGreatPkN
import Derived.Test.YtmkldekangdfmaaGreatPkP
import Derived.Test.YtmkldekangdfmaaGreatPkV
import Derived.Test.YtmkldekangdfmaaGreatPkQ

/-
  The program's spread, with a closure that always goes on, and with one that goes on from what is not marked.
-/
namespace Go.Proofs.YtmkldekangdfmaaGreat
open Go.RowKit
open Go.Maps (Keyed)
set_option linter.unusedVariables false

/-- How many entries the map in block g has. -/
def metLen (w : World) (g : Nat) : Nat := match w.heap[g]? with
  | some (.map es _) => es.size
  | _ => 0
theorem metLen_eq {w : World} {g n : Nat} {M : DataW Unit} {S : List Int} (h : OwnB w g n M) (hM : MetIs M S) (hn : S.Nodup) : metLen w g = S.length := by
  have hp : S.Perm (intKeys M) := CollectedI.perm (left := fun _ => false) ⟨hn, fun x => by rw [← hM.has]; simp⟩ h mapLaw Tryz.underlying3 (fun _ => rfl)
  obtain ⟨es, clock, hb, F, hs, rfl⟩ := h
  unfold metLen
  rw [hb, hp.length_eq]
  simp [intKeys, length_sorted]
theorem own_init {w : World} {base : Nat} {a : Option Addr} {c : Nat} {T : List Int} {x : Int} (h : w.ownsRow base 3 1 (.slice a (T.length + 1) c) (T ++ [x]).length ((T ++ [x]).map (Value.int .i64))) :
    ∃ g, a = some ⟨g, 0, none⟩ ∧ T.length + 1 ≤ c ∧ c ≤ maxLen ∧ w.cell? ⟨g, T.length, none⟩ = some (.int .i64 x) ∧ w.ownsRow base 3 1 (.slice (some ⟨g, 0, none⟩) T.length c) T.length (T.map (Value.int .i64)) := by
  rcases h.2 with ⟨h0, _⟩ | ⟨g, cap, cur, he, hb, hg, hnc, hcm, hcs, ht⟩
  · simp at h0
  · simp only [Value.slice.injEq, List.length_append, List.length_cons, List.length_nil, Nat.zero_add] at he
    obtain ⟨rfl, _, rfl⟩ := he
    simp only [List.length_append, List.length_cons, List.length_nil, Nat.zero_add, Nat.mul_one, List.map_append, List.map_cons, List.map_nil] at hnc ht
    refine ⟨g, rfl, hnc, hcm, ?_, by simp, .inr ⟨g, c, cur, rfl, hb, hg, by omega, hcm, hcs, ?_⟩⟩
    · rw [cell_of_row w g T.length cur _ (0, 0) hg]
      have := congrArg (fun l => l[T.length]?) ht
      simpa [List.getElem?_take] using this
    · have := congrArg (List.take T.length) ht
      rw [List.take_take, Nat.min_eq_left (by omega)] at this
      rw [Nat.mul_one, this, List.take_left' (by simp)]
theorem ptrW_i64 {D : WD} (h : AllI D.words) (s : SpanD) (j : Nat) : AllI (ptrW D s j) := fun x hx => h x (List.mem_of_mem_drop (List.mem_of_mem_take hx))
theorem World.below_none {w wr w2 w3 : World} {g : Nat} (hg : w2.grownBy w3 (some g)) (h1 : Below w.heap.size w wr) (h2 : Below wr.heap.size wr w2) (hg2 : w.heap.size ≤ g) : Below w.heap.size w w3 :=
  (below_trans h1 h2).grown hg (by have := h1.size; have := h2.size; omega) (fun q hq => by cases hq; exact hg2)
/-- Between two rounds: S is met (in map M, block g), T is open. -/
structure SpSt (D : WD) (F : Nat → Nat → Prop) (fr : List Int) (w wr : World) (g : Nat) (v : Value) (S T : List Int) : Prop where
  st : GoSt D F fr S T
  i64 : AllI T
  len : T.length ≤ fr.length + 16 * S.length
  met : ∃ M, MetIs M S ∧ OwnB wr g S.length M
  own : wr.ownsRow w.heap.size 3 1 v T.length (T.map (Value.int .i64))
  below : Below w.heap.size w wr
  lo : w.heap.size ≤ g
theorem SpSt.next {D : WD} {F : Nat → Nat → Prop} {fr S T : List Int} {w wr w2 : World} {g : Nat} {v : Value} (h : SpSt D F fr w wr g v S T) (hb : Below wr.heap.size wr w2) : SpSt D F fr w w2 g v S T :=
  ⟨h.st, h.i64, h.len, by obtain ⟨M, h1, h2⟩ := h.met; exact ⟨M, h1, h2.below hb⟩, own_below h.own hb, below_trans h.below hb, h.lo⟩
theorem SpSt.mlen {D : WD} {F : Nat → Nat → Prop} {fr S T : List Int} {w wr : World} {g : Nat} {v : Value} (h : SpSt D F fr w wr g v S T) : metLen wr g = S.length := by
  obtain ⟨M, h1, h2⟩ := h.met
  exact metLen_eq h2 h1 h.st.nodup
theorem mem_snoc {T : List Int} {x : Int} (a : Int) : a ∈ T ++ [x] ↔ a = x ∨ a ∈ T := by
  rw [List.mem_append, List.mem_singleton]; exact Or.comm
theorem SpSt.skip {D : WD} {F : Nat → Nat → Prop} {fr S T : List Int} {x : Int} {w wr w2 : World} {g : Nat} {v v' : Value} (h : SpSt D F fr w wr g v S (T ++ [x])) (hx : ¬ HasObj D x ∨ x ∈ S) (ho : wr.ownsRow w.heap.size 3 1 v' T.length (T.map (Value.int .i64))) (hb : Below wr.heap.size wr w2) : SpSt D F fr w w2 g v' S T :=
  SpSt.next ⟨h.st.skip mem_snoc hx, fun a ha => h.i64 a (List.mem_append.2 (.inl ha)), by have := h.len; rw [List.length_append] at this; omega, h.met, ho, h.below, h.lo⟩ hb

end Go.Proofs.YtmkldekangdfmaaGreat

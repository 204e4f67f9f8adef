import Derived.Test.YtiokdgceabnkaaaPkCut
import Derived.StillTailTactics
import Derived.Outline

/-
  The contracts of the program's withSpan and withoutSpan: a row of spans with one more, or one less, in new memory.
-/
namespace Go.Proofs.Ytiokdgceabnkaaa
open Go.RowKit
set_option linter.unusedVariables false

/-- append onto a slice without spare room: it is the same slice, or one that the call makes. -/
theorem wp_full {P : Program} {w : World} {o : Oper} {a : Act} {K : Act → World → Prop} {Q : Exit → Act → World → Prop} (s x : Operand) (t : TypeId)
    (ho : o.op = .call { callee := .builtin .append, args := #[s, x], argTypes := #[t, t] })
    (e : TypeId) (z : Value) (size bytes : Nat) (ht : P.underlying t = some (.slice e)) (hinfo : (P.info? e).map (fun i => (i.zero, i.size, i.bytes)) = some (some z, size, bytes)) (hzs : z.cells.size = size) (hsz : 0 < size)
    (A1 : Option Addr) (k : Nat) (olds : List Value) (hs : a.eval s = .slice A1 k k) (h1 : SrcIs w A1 k size olds)
    (A2 : Option Addr) (m c : Nat) (news : List Value) (hx : a.eval x = .slice A2 m c) (h2 : SrcIs w A2 m size news)
    (h63 : k + m ≤ maxLen) (hbytes : (k + m) * bytes ≤ 140737488355328)
    (h0 : m = 0 → K (a.put o.dst (.slice A1 k k)) w)
    (h : ∀ v' w', 0 < m → w'.ownsRow w.heap.size e size v' (k + m) (olds ++ news) → w.grownBy w' none → K (a.put o.dst v') w') : o.wp P a w K Q := by
  obtain ⟨i, hi, hz, hsize, hby⟩ := info_parts hinfo
  have fin : ∀ v' w', (Builtin.append_ #[t, t] o.type #[.slice A1 k k, .slice A2 m c]).run P w = .ok v' w' → K (a.put o.dst v') w' → o.wp P a w K Q := fun v' w' hrun hk => by
    unfold Oper.wp execOp
    simp only [ho, resolve, invoke, builtin, Sem.run_bind, Sem.run_pure, Result.andThen_ok, List.map_toArray, List.map_cons, List.map_nil, hs, hx, hrun]
    exact hk
  rcases Nat.eq_zero_or_pos m with hm | hm
  · subst hm
    refine fin _ _ ?_ (h0 rfl)
    cases A2 with
    | none => cases A1 <;> simp [Builtin.append_, run_underlying ht, sizeOf, typeInfo, hi, Builtin.lenOf, Builtin.firstCells, storeCells]
    | some a2 =>
      have hf := run_firstCells_some (P := P) w i.size 0 a2 0 c [] (by simp) (fun j u hu => by simp at hu)
      cases A1 <;> simp [Builtin.append_, run_underlying ht, sizeOf, typeInfo, hi, Builtin.lenOf, hf, storeCells]
  · have hn0 : 0 < news.length := by rw [h2.len]; exact Nat.mul_pos hm hsz
    obtain ⟨a2, rfl⟩ : ∃ a2, A2 = some a2 := by
      obtain ⟨a2, e2, _⟩ := h2.at_ 0 news[0] (List.getElem?_eq_getElem hn0)
      exact ⟨a2, e2⟩
    have hc2 : ∀ j u, news[j]? = some u → w.cell? (a2.add j) = some u := fun j u hu => by
      obtain ⟨b, eb, hc⟩ := h2.at_ j u hu
      cases eb
      exact hc
    cases A1 with
    | some b =>
      have hc1 : ∀ j u, olds[j]? = some u → w.cell? (b.add j) = some u := fun j u hu => by
        obtain ⟨b', eb, hc⟩ := h1.at_ j u hu
        cases eb
        exact hc
      obtain ⟨v', w', hrun, r1, r2⟩ := run_append_arg_grows (P := P) w t o.type e i z size bytes ht hi hz hsize hby hzs hsz b k k olds h1.len hc1 a2 m c news h2.len hc2 (by omega) h63 hbytes
      exact fin _ _ hrun (h v' w' hm r1 r2)
    | none =>
      have ho0 : olds = [] := by
        rcases olds with _ | ⟨u, l⟩
        · rfl
        · obtain ⟨_, eb, _⟩ := h1.at_ 0 u rfl
          cases eb
      subst ho0
      have hk0 : k = 0 := by
        have := h1.len
        rcases Nat.eq_zero_or_pos k with h0 | h0
        · exact h0
        · have := Nat.mul_pos h0 hsz
          simp at *
          omega
      subst hk0
      obtain ⟨v', w', hrun, r1, r2, _⟩ := run_append_own (P := P) w w.heap.size t o.type e i z size bytes ht hi hz hsize hby hzs hsz (.slice none 0 0) 0 [] (World.ownsRow_nil w _ e size) a2 m c news h2.len hc2 h2.one h63 hbytes (Nat.le_refl _)
      exact fin _ _ hrun (h v' w' hm r1 (by simpa [Value.ownBlock] using r2))
theorem wpList_full {P : Program} {w : World} {ops : Array Oper} {rest : List Oper} {o : Oper} {a : Act} {Q : Exit → Act → World → Prop} (hgd : o.guard = none) (s x : Operand) (t : TypeId)
    (ho : o.op = .call { callee := .builtin .append, args := #[s, x], argTypes := #[t, t] })
    (e : TypeId) (z : Value) (size bytes : Nat) (ht : P.underlying t = some (.slice e)) (hinfo : (P.info? e).map (fun i => (i.zero, i.size, i.bytes)) = some (some z, size, bytes)) (hzs : z.cells.size = size) (hsz : 0 < size)
    (A1 : Option Addr) (k : Nat) (olds : List Value) (hs : a.eval s = .slice A1 k k) (h1 : SrcIs w A1 k size olds)
    (A2 : Option Addr) (m c : Nat) (news : List Value) (hx : a.eval x = .slice A2 m c) (h2 : SrcIs w A2 m size news)
    (h63 : k + m ≤ maxLen) (hbytes : (k + m) * bytes ≤ 140737488355328)
    (h0 : m = 0 → wpList P ops Q rest (a.put o.dst (.slice A1 k k)) w)
    (h : ∀ v' w', 0 < m → w'.ownsRow w.heap.size e size v' (k + m) (olds ++ news) → w.grownBy w' none → wpList P ops Q rest (a.put o.dst v') w') : wpList P ops Q (o :: rest) a w :=
  wpList_plain hgd fun _ hK => wp_full s x t ho e z size bytes ht hinfo hzs hsz A1 k olds hs h1 A2 m c news hx h2 h63 hbytes (fun hm => hK _ _ (h0 hm)) fun v' w' h3 h4 h5 => hK _ _ (h v' w' h3 h4 h5)
theorem SrcIs.drew {w : World} {A : Option Addr} {m size : Nat} {news : List Value} (h : SrcIs w A m size news) : SrcIs w.drew A m size news := h.below (below_drewN (Below.refl _ _) 1)
theorem own_srcIs {w : World} {base n c : Nat} {A : Option Addr} {xs : List Value} (h : w.ownsRow base 82 6 (.slice A n c) n xs) (h1 : ∀ u, u ∈ xs → u.oneCell' = true) : SrcIs w A n 6 xs := by
  rcases h.2 with ⟨he, h0⟩ | ⟨g, cap, cur, he, _⟩
  · obtain ⟨rfl, rfl, rfl⟩ : A = none ∧ n = 0 ∧ c = 0 := by simpa using he
    obtain rfl : xs = [] := List.length_eq_zero_iff.1 (by simpa using h.1)
    exact SrcIs.none _ _ _
  · obtain ⟨rfl, rfl⟩ : A = some ⟨g, 0, none⟩ ∧ c = cap := by simpa using he
    refine ⟨h.1, fun j u hu => ⟨_, rfl, ?_⟩, h1⟩
    have hl := (List.getElem?_eq_some_iff.1 hu).1
    rw [show (⟨g, 0, none⟩ : Addr).add j = ⟨g, j, none⟩ by rw [Addr.add_lit, Nat.zero_add], h.cellAt j (by have := h.1; omega)]
    exact hu

end Go.Proofs.Ytiokdgceabnkaaa

/-
  append onto a row of the call's own, whatever the source: nil, empty, or not; for the list walk and for a region that draws its order.
-/
import Derived.Test.YtajogfnlbdiokaaSDrop
namespace Go.Proofs.Ytajogfnlbdiokaa
open Go.RowKit
set_option linter.unusedVariables false

/-- The source yields these cells. -/
structure SrcIs (w : World) (A : Option Addr) (m size : Nat) (news : List Value) : Prop where
  len : news.length = m * size
  at_ : ∀ j u, news[j]? = some u → ∃ a, A = some a ∧ w.cell? (a.add j) = some u
  one : ∀ u, u ∈ news → u.oneCell' = true
theorem SrcIs.below {w w' : World} {A : Option Addr} {m size : Nat} {news : List Value} (h : SrcIs w A m size news) (hb : Below w.heap.size w w') : SrcIs w' A m size news :=
  ⟨h.len, fun j u hu => by obtain ⟨a, e, hc⟩ := h.at_ j u hu; exact ⟨a, e, cell_below hb hc⟩, h.one⟩
theorem SrcIs.none (w : World) (A : Option Addr) (size : Nat) : SrcIs w A 0 size [] := ⟨by simp, fun j u h => by simp at h, fun u h => by simp at h⟩

theorem wp_app {P : Program} {w : World} {o : Oper} {a : Act} {K : Act → World → Prop} {Q : Exit → Act → World → Prop} (s x : Operand) (t : TypeId)
    (ho : o.op = .call { callee := .builtin .append, args := #[s, x], argTypes := #[t, t] })
    (base : Nat) (e : TypeId) (z : Value) (size bytes : Nat) (ht : P.underlying t = some (.slice e)) (hinfo : (P.info? e).map (fun i => (i.zero, i.size, i.bytes)) = some (some z, size, bytes)) (hzs : z.cells.size = size) (hsz : 0 < size)
    (v : Value) (n : Nat) (xs : List Value) (hs : a.eval s = v) (hown : w.ownsRow base e size v n xs)
    (A : Option Addr) (m c : Nat) (news : List Value) (hx : a.eval x = .slice A m c) (hr : SrcIs w A m size news)
    (h63 : n + m ≤ maxLen) (hbytes : (n + m) * bytes ≤ 140737488355328) (hbase : base ≤ w.heap.size)
    (h : ∀ v' w', w'.ownsRow base e size v' (n + m) (xs ++ news) → w.grownBy w' v.ownBlock → K (a.put o.dst v') w') : o.wp P a w K Q := by
  obtain ⟨i, hi, hz, hsize, hby⟩ := info_parts hinfo
  rcases A with _ | ad
  · have hnews : news = [] := by
      rcases news with _ | ⟨u, l⟩
      · rfl
      · obtain ⟨ad, e, _⟩ := hr.at_ 0 u rfl
        cases e
    have hm : m = 0 := by
      have := hr.len
      rw [hnews] at this
      rcases Nat.eq_zero_or_pos m with h0 | h0
      · exact h0
      · have := Nat.mul_pos h0 hsz
        simp at *
        omega
    subst hm
    subst hnews
    have hrun : (Builtin.append_ #[t, t] o.type #[v, .slice none 0 c]).run P w = .ok v w := by
      rcases hown.2 with ⟨rfl, rfl⟩ | ⟨g, cap, cur, rfl, _, _, hnc, _⟩
      · simp [Builtin.append_, run_underlying ht, sizeOf, typeInfo, hi, Builtin.lenOf, Builtin.firstCells]
      · simp [Builtin.append_, run_underlying ht, sizeOf, typeInfo, hi, Builtin.lenOf, Builtin.firstCells, hnc, storeCells]
    have hk := h v w (by simpa using hown) (World.grownBy.refl w _)
    unfold Oper.wp execOp
    simp only [ho, resolve, invoke, builtin, Sem.run_bind, Sem.run_pure, Result.andThen_ok, List.map_toArray, List.map_cons, List.map_nil, hs, hx, hrun]
    exact hk
  · exact wp_append_own _ s x t ho base e i z size bytes ht hi hz hsize hby hzs hsz v n xs hs hown ad m c news hx hr.len
      (fun j u hu => by obtain ⟨a, e, hc⟩ := hr.at_ j u hu; cases e; exact hc) hr.one h63 hbytes hbase fun v' w' h1 h2 _ => h v' w' h1 h2
theorem wpList_app {P : Program} {w : World} {ops : Array Oper} {rest : List Oper} {o : Oper} {a : Act} {Q : Exit → Act → World → Prop} (hgd : o.guard = none) (s x : Operand) (t : TypeId)
    (ho : o.op = .call { callee := .builtin .append, args := #[s, x], argTypes := #[t, t] })
    (base : Nat) (e : TypeId) (z : Value) (size bytes : Nat) (ht : P.underlying t = some (.slice e)) (hinfo : (P.info? e).map (fun i => (i.zero, i.size, i.bytes)) = some (some z, size, bytes)) (hzs : z.cells.size = size) (hsz : 0 < size)
    (v : Value) (n : Nat) (xs : List Value) (hs : a.eval s = v) (hown : w.ownsRow base e size v n xs)
    (A : Option Addr) (m c : Nat) (news : List Value) (hx : a.eval x = .slice A m c) (hr : SrcIs w A m size news)
    (h63 : n + m ≤ maxLen) (hbytes : (n + m) * bytes ≤ 140737488355328) (hbase : base ≤ w.heap.size)
    (h : ∀ v' w', w'.ownsRow base e size v' (n + m) (xs ++ news) → w.grownBy w' v.ownBlock → wpList P ops Q rest (a.put o.dst v') w') : wpList P ops Q (o :: rest) a w :=
  wpList_plain hgd fun _ hK => wp_app s x t ho base e z size bytes ht hinfo hzs hsz v n xs hs hown A m c news hx hr h63 hbytes hbase fun v' w' h2 h3 => hK _ _ (h v' w' h2 h3)
theorem own_empty (w : World) (e : TypeId) (size : Nat) : (w.alloc (.cells #[] e)).ownsRow w.heap.size e size (.slice (some ⟨w.heap.size, 0, none⟩) 0 0) 0 [] :=
  ⟨by simp, .inr ⟨w.heap.size, 0, #[], rfl, Nat.le_refl _, box_new w _, Nat.le_refl _, by unfold maxLen; omega, by simp, by simp⟩⟩
/-- What a slice that reads as ints, bools yields. -/
theorem Rd.src {w : World} {A : Option Addr} {c : Nat} {L : List Int} (h : Rd w (.slice A L.length c) L) : SrcIs w A L.length 1 (L.map (Value.int .i64)) := by
  obtain ⟨a, c', he, _, hx⟩ := h
  obtain ⟨rfl, _⟩ : A = a ∧ c = c' := by simpa using he
  refine ⟨by simp, fun j u hu => ?_, fun u hu => by obtain ⟨x, _, rfl⟩ := List.mem_map.1 hu; rfl⟩
  have hj : j < L.length := by have := (List.getElem?_eq_some_iff.1 hu).1; simpa using this
  obtain ⟨b, o, rfl, hc⟩ := hx j hj
  refine ⟨_, rfl, ?_⟩
  rw [show (⟨b, o, none⟩ : Addr).add j = ⟨b, o + j, none⟩ from Addr.add_lit .., hc]
  simpa [hj] using hu
theorem RdB.src {w : World} {A : Option Addr} {c : Nat} {L : List Bool} (h : RdB w (.slice A L.length c) L) : SrcIs w A L.length 1 (L.map Value.bool) := by
  obtain ⟨a, c', he, _, hx⟩ := h
  obtain ⟨rfl, _⟩ : A = a ∧ c = c' := by simpa using he
  refine ⟨by simp, fun j u hu => ?_, fun u hu => by obtain ⟨x, _, rfl⟩ := List.mem_map.1 hu; rfl⟩
  have hj : j < L.length := by have := (List.getElem?_eq_some_iff.1 hu).1; simpa using this
  obtain ⟨b, o, rfl, hc⟩ := hx j hj
  refine ⟨_, rfl, ?_⟩
  rw [show (⟨b, o, none⟩ : Addr).add j = ⟨b, o + j, none⟩ from Addr.add_lit .., hc]
  simpa [hj] using hu
end Go.Proofs.Ytajogfnlbdiokaa

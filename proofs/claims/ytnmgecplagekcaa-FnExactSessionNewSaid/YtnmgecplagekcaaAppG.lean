/-
  append onto a row of the call's own, whatever the source: nil, empty, or not; for the list walk and for a region that draws its order. What owned rows and changes say besides; all of it without a World's lists.
-/
import Derived.Test.YtnmgecplagekcaaMarkM
import Derived.Deep.RegionLaw
namespace Go.Proofs.Ytnmgecplagekcaa
open Go.RowKit
set_option linter.unusedVariables false

/-- The source yields these cells. -/
structure SrcIs (w : World) (A : Option Addr) (m size : Nat) (news : List Value) : Prop where
  len : news.length = m * size
  at_ : ∀ j u, news[j]? = some u → ∃ a, A = some a ∧ w.cell? (a.add j) = some u
  one : ∀ u, u ∈ news → u.oneCell' = true
theorem SrcIs.below {w w' : World} {A : Option Addr} {m size : Nat} {news : List Value} (h : SrcIs w A m size news) (hb : Below w.heap.size w w') : SrcIs w' A m size news :=
  ⟨h.len, fun j u hu => by obtain ⟨a, e, hc⟩ := h.at_ j u hu; exact ⟨a, e, cell_below hb hc⟩, h.one⟩
theorem SrcIs.none (w : World) (A : Option Addr) (size : Nat) : SrcIs w A 0 size [] := ⟨by simp, fun j u h => by simp at h, fun u h => by simp at h⟩

theorem wp_app {P : Program} {w : World} {o : Oper} {a : Act} {K : Act → World → Prop} {Q : Exit → Act → World → Prop} (s x : Operand) (t : TypeId)
    (ho : o.op = .call { callee := .builtin .append, args := #[s, x], argTypes := #[t, t] })
    (base : Nat) (e : TypeId) (z : Value) (size bytes : Nat) (ht : P.underlying t = some (.slice e)) (hinfo : (P.info? e).map (fun i => (i.zero, i.size, i.bytes)) = some (some z, size, bytes)) (hzs : z.cells.size = size) (hsz : 0 < size)
    (v : Value) (n : Nat) (xs : List Value) (hs : a.eval s = v) (hown : w.ownsRow base e size v n xs)
    (A : Option Addr) (m c : Nat) (news : List Value) (hx : a.eval x = .slice A m c) (hr : SrcIs w A m size news)
    (h63 : n + m ≤ maxLen) (hbytes : (n + m) * bytes ≤ 140737488355328) (hbase : base ≤ w.heap.size)
    (h : ∀ v' w', w'.ownsRow base e size v' (n + m) (xs ++ news) → w.grownBy w' v.ownBlock → K (a.put o.dst v') w') : o.wp P a w K Q := by
  obtain ⟨i, hi, hz, hsize, hby⟩ := info_parts hinfo
  rcases A with _ | ad
  · have hnews : news = [] := by
      rcases news with _ | ⟨u, l⟩
      · rfl
      · obtain ⟨ad, e, _⟩ := hr.at_ 0 u rfl
        cases e
    have hm : m = 0 := by
      have := hr.len
      rw [hnews] at this
      rcases Nat.eq_zero_or_pos m with h0 | h0
      · exact h0
      · have := Nat.mul_pos h0 hsz
        simp at *
        omega
    subst hm
    subst hnews
    have hrun : (Builtin.append_ #[t, t] o.type #[v, .slice none 0 c]).run P w = .ok v w := by
      rcases hown.2 with ⟨rfl, rfl⟩ | ⟨g, cap, cur, rfl, _, _, hnc, _⟩
      · simp [Builtin.append_, run_underlying ht, sizeOf, typeInfo, hi, Builtin.lenOf, Builtin.firstCells]
      · simp [Builtin.append_, run_underlying ht, sizeOf, typeInfo, hi, Builtin.lenOf, Builtin.firstCells, hnc, storeCells]
    have hk := h v w (by simpa using hown) (World.grownBy.refl w _)
    unfold Oper.wp execOp
    simp only [ho, resolve, invoke, builtin, Sem.run_bind, Sem.run_pure, Result.andThen_ok, List.map_toArray, List.map_cons, List.map_nil, hs, hx, hrun]
    exact hk
  · exact wp_append_own _ s x t ho base e i z size bytes ht hi hz hsize hby hzs hsz v n xs hs hown ad m c news hx hr.len
      (fun j u hu => by obtain ⟨a, e, hc⟩ := hr.at_ j u hu; cases e; exact hc) hr.one h63 hbytes hbase fun v' w' h1 h2 _ => h v' w' h1 h2
theorem wpList_app {P : Program} {w : World} {ops : Array Oper} {rest : List Oper} {o : Oper} {a : Act} {Q : Exit → Act → World → Prop} (hgd : o.guard = none) (s x : Operand) (t : TypeId)
    (ho : o.op = .call { callee := .builtin .append, args := #[s, x], argTypes := #[t, t] })
    (base : Nat) (e : TypeId) (z : Value) (size bytes : Nat) (ht : P.underlying t = some (.slice e)) (hinfo : (P.info? e).map (fun i => (i.zero, i.size, i.bytes)) = some (some z, size, bytes)) (hzs : z.cells.size = size) (hsz : 0 < size)
    (v : Value) (n : Nat) (xs : List Value) (hs : a.eval s = v) (hown : w.ownsRow base e size v n xs)
    (A : Option Addr) (m c : Nat) (news : List Value) (hx : a.eval x = .slice A m c) (hr : SrcIs w A m size news)
    (h63 : n + m ≤ maxLen) (hbytes : (n + m) * bytes ≤ 140737488355328) (hbase : base ≤ w.heap.size)
    (h : ∀ v' w', w'.ownsRow base e size v' (n + m) (xs ++ news) → w.grownBy w' v.ownBlock → wpList P ops Q rest (a.put o.dst v') w') : wpList P ops Q (o :: rest) a w :=
  wpList_plain hgd fun _ hK => wp_app s x t ho base e z size bytes ht hinfo hzs hsz v n xs hs hown A m c news hx hr h63 hbytes hbase fun v' w' h2 h3 => hK _ _ (h v' w' h2 h3)
theorem own_empty (w : World) (e : TypeId) (size : Nat) : (w.alloc (.cells #[] e)).ownsRow w.heap.size e size (.slice (some ⟨w.heap.size, 0, none⟩) 0 0) 0 [] :=
  ⟨by simp, .inr ⟨w.heap.size, 0, #[], rfl, Nat.le_refl _, box_new w _, Nat.le_refl _, by unfold maxLen; omega, by simp, by simp⟩⟩
/-- What a slice that reads as ints, bools yields. -/
theorem Rd.src {w : World} {A : Option Addr} {c : Nat} {L : List Int} (h : Rd w (.slice A L.length c) L) : SrcIs w A L.length 1 (L.map (Value.int .i64)) := by
  obtain ⟨a, c', he, _, hx⟩ := h
  obtain ⟨rfl, _⟩ : A = a ∧ c = c' := by simpa using he
  refine ⟨by simp, fun j u hu => ?_, fun u hu => by obtain ⟨x, _, rfl⟩ := List.mem_map.1 hu; rfl⟩
  have hj : j < L.length := by have := (List.getElem?_eq_some_iff.1 hu).1; simpa using this
  obtain ⟨b, o, rfl, hc⟩ := hx j hj
  refine ⟨_, rfl, ?_⟩
  rw [show (⟨b, o, none⟩ : Addr).add j = ⟨b, o + j, none⟩ from Addr.add_lit .., hc]
  simpa [hj] using hu
theorem RdB.src {w : World} {A : Option Addr} {c : Nat} {L : List Bool} (h : RdB w (.slice A L.length c) L) : SrcIs w A L.length 1 (L.map Value.bool) := by
  obtain ⟨a, c', he, _, hx⟩ := h
  obtain ⟨rfl, _⟩ : A = a ∧ c = c' := by simpa using he
  refine ⟨by simp, fun j u hu => ?_, fun u hu => by obtain ⟨x, _, rfl⟩ := List.mem_map.1 hu; rfl⟩
  have hj : j < L.length := by have := (List.getElem?_eq_some_iff.1 hu).1; simpa using this
  obtain ⟨b, o, rfl, hc⟩ := hx j hj
  refine ⟨_, rfl, ?_⟩
  rw [show (⟨b, o, none⟩ : Addr).add j = ⟨b, o + j, none⟩ from Addr.add_lit .., hc]
  simpa [hj] using hu
theorem step_own {P : Program} {ops : Array Oper} {o : Oper} {a : Act} {w : World} {K : Act → World → Prop} {Q : Exit → Act → World → Prop} {E : Prop} (hg : o.guard = none) (h : o.wp P a w K Q) :
    if Region.wanted o (yielded ops a.tmps) = true then Oper.wp P o a w K Q else E := by
  rw [if_pos (by simp [Region.wanted, hg])]
  exact h
theorem own_slice {w : World} {base size n : Nat} {e : TypeId} {v : Value} {xs : List Value} (h : w.ownsRow base e size v n xs) : ∃ a c, v = .slice a n c := by
  rcases h.2 with ⟨rfl, rfl⟩ | ⟨g, cap, cur, rfl, _⟩
  · exact ⟨none, 0, rfl⟩
  · exact ⟨_, _, rfl⟩
theorem grown_block {w w' : World} {row : Option Nat} (h : w.grownBy w' row) {b : Nat} (hb : b < w.heap.size) (hne : ∀ r, row = some r → b ≠ r) {o : Obj} (ho : w.heap[b]? = some o) : w'.heap[b]? = some o :=
  (h.block b hb (fun e => hne b e.symm rfl)).trans ho
theorem src_box (w : World) {cs : Array Value} {T : TypeId} {m size : Nat} (hl : cs.size = m * size) (h1 : ∀ u, u ∈ cs.toList → u.oneCell' = true) : SrcIs (w.alloc (.cells cs T)) (some ⟨w.heap.size, 0, none⟩) m size cs.toList := by
  refine ⟨by simpa using hl, fun j u hu => ⟨_, rfl, ?_⟩, h1⟩
  rw [show (⟨w.heap.size, 0, none⟩ : Addr).add j = ⟨w.heap.size, j, none⟩ by rw [Addr.add_lit, Nat.zero_add]]
  exact cell_of_heap (box_new w (.cells cs T)) j u (by simpa using hu)
theorem St1.at4 {wr w3 Y : World} {v3 : Value} {b base : Nat} {o : Obj} (b3 : Below wr.heap.size wr Y) (g3 : Y.grownBy w3 v3.ownBlock) (hv : ∀ q, v3.ownBlock = some q → base ≤ q) (hb : b < base) (h : wr.heap[b]? = some o) : w3.heap[b]? = some o := by
  have := heap_below b3 h
  exact grown_block g3 (Array.getElem?_eq_some_iff.1 this).1 (fun r hr => by have := hv r hr; omega) this

theorem OwnM.below {w w' : World} {base : Nat} {v : Value} {L : List (List Int)} {mv : List Value} (h : OwnM w base v L mv) (hb : Below w.heap.size w w') : OwnM w' base v L mv := h.chg (Chg.of_below hb []) (fun _ _ => by simp) (fun _ _ _ _ => by simp)

theorem own_made {w : World} {g n base : Nat} {z : Value} {e : TypeId} (hg : w.heap[g]? = some (.cells (madeCells #[z] n) e (0, 0))) (hb : base ≤ g) (hn : n ≤ maxLen) : w.ownsRow base e 1 (.slice (some ⟨g, 0, none⟩) n n) n (List.replicate n z) :=
  ⟨by simp, .inr ⟨g, n, madeCells #[z] n, rfl, hb, hg, Nat.le_refl _, hn, by simp [size_madeCells], by rw [toList_madeCells_one]; simp⟩⟩
theorem Chg.put {bs : List Nat} {w w' : World} (h : Chg bs w w') {b : Nat} (hb : b ∈ bs) (i : Nat) (v : Value) : Chg bs w (w'.setCell ⟨b, i, none⟩ v) :=
  h.trans (Chg.of_grown (grown_set w' b i v) (fun x hx => by cases hx; exact hb))
end Go.Proofs.Ytnmgecplagekcaa

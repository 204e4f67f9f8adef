import Derived.Test.YtpcefecedmdmkaaPkCut
import Derived.StillTailTactics
import Derived.Outline

/-
  The contracts of the program's withSpan and withoutSpan: a row of spans with one more, or one less, in new memory.
-/
namespace Go.Proofs.Ytpcefecedmdmkaa
open Go.RowKit
set_option linter.unusedVariables false

/-- append onto a slice without spare room: it is the same slice, or one that the call makes. -/
theorem wp_full {P : Program} {w : World} {o : Oper} {a : Act} {K : Act → World → Prop} {Q : Exit → Act → World → Prop} (s x : Operand) (t : TypeId)
    (ho : o.op = .call { callee := .builtin .append, args := #[s, x], argTypes := #[t, t] })
    (e : TypeId) (z : Value) (size bytes : Nat) (ht : P.underlying t = some (.slice e)) (hinfo : (P.info? e).map (fun i => (i.zero, i.size, i.bytes)) = some (some z, size, bytes)) (hzs : z.cells.size = size) (hsz : 0 < size)
    (A1 : Option Addr) (k : Nat) (olds : List Value) (hs : a.eval s = .slice A1 k k) (h1 : SrcIs w A1 k size olds)
    (A2 : Option Addr) (m c : Nat) (news : List Value) (hx : a.eval x = .slice A2 m c) (h2 : SrcIs w A2 m size news)
    (h63 : k + m ≤ maxLen) (hbytes : (k + m) * bytes ≤ 140737488355328)
    (h0 : m = 0 → K (a.put o.dst (.slice A1 k k)) w)
    (h : ∀ v' w', 0 < m → w'.ownsRow w.heap.size e size v' (k + m) (olds ++ news) → w.grownBy w' none → K (a.put o.dst v') w') : o.wp P a w K Q := by
  obtain ⟨i, hi, hz, hsize, hby⟩ := info_parts hinfo
  have fin : ∀ v' w', (Builtin.append_ #[t, t] o.type #[.slice A1 k k, .slice A2 m c]).run P w = .ok v' w' → K (a.put o.dst v') w' → o.wp P a w K Q := fun v' w' hrun hk => by
    unfold Oper.wp execOp
    simp only [ho, resolve, invoke, builtin, Sem.run_bind, Sem.run_pure, Result.andThen_ok, List.map_toArray, List.map_cons, List.map_nil, hs, hx, hrun]
    exact hk
  rcases Nat.eq_zero_or_pos m with hm | hm
  · subst hm
    refine fin _ _ ?_ (h0 rfl)
    cases A2 with
    | none => cases A1 <;> simp [Builtin.append_, run_underlying ht, sizeOf, typeInfo, hi, Builtin.lenOf, Builtin.firstCells, storeCells]
    | some a2 =>
      have hf := run_firstCells_some (P := P) w i.size 0 a2 0 c [] (by simp) (fun j u hu => by simp at hu)
      cases A1 <;> simp [Builtin.append_, run_underlying ht, sizeOf, typeInfo, hi, Builtin.lenOf, hf, storeCells]
  · have hn0 : 0 < news.length := by rw [h2.len]; exact Nat.mul_pos hm hsz
    obtain ⟨a2, rfl⟩ : ∃ a2, A2 = some a2 := by
      obtain ⟨a2, e2, _⟩ := h2.at_ 0 news[0] (List.getElem?_eq_getElem hn0)
      exact ⟨a2, e2⟩
    have hc2 : ∀ j u, news[j]? = some u → w.cell? (a2.add j) = some u := fun j u hu => by
      obtain ⟨b, eb, hc⟩ := h2.at_ j u hu
      cases eb
      exact hc
    cases A1 with
    | some b =>
      have hc1 : ∀ j u, olds[j]? = some u → w.cell? (b.add j) = some u := fun j u hu => by
        obtain ⟨b', eb, hc⟩ := h1.at_ j u hu
        cases eb
        exact hc
      obtain ⟨v', w', hrun, r1, r2⟩ := run_append_arg_grows (P := P) w t o.type e i z size bytes ht hi hz hsize hby hzs hsz b k k olds h1.len hc1 a2 m c news h2.len hc2 (by omega) h63 hbytes
      exact fin _ _ hrun (h v' w' hm r1 r2)
    | none =>
      have ho0 : olds = [] := by
        rcases olds with _ | ⟨u, l⟩
        · rfl
        · obtain ⟨_, eb, _⟩ := h1.at_ 0 u rfl
          cases eb
      subst ho0
      have hk0 : k = 0 := by
        have := h1.len
        rcases Nat.eq_zero_or_pos k with h0 | h0
        · exact h0
        · have := Nat.mul_pos h0 hsz
          simp at *
          omega
      subst hk0
      obtain ⟨v', w', hrun, r1, r2, _⟩ := run_append_own (P := P) w w.heap.size t o.type e i z size bytes ht hi hz hsize hby hzs hsz (.slice none 0 0) 0 [] (World.ownsRow_nil w _ e size) a2 m c news h2.len hc2 h2.one h63 hbytes (Nat.le_refl _)
      exact fin _ _ hrun (h v' w' hm r1 (by simpa [Value.ownBlock] using r2))
theorem wpList_full {P : Program} {w : World} {ops : Array Oper} {rest : List Oper} {o : Oper} {a : Act} {Q : Exit → Act → World → Prop} (hgd : o.guard = none) (s x : Operand) (t : TypeId)
    (ho : o.op = .call { callee := .builtin .append, args := #[s, x], argTypes := #[t, t] })
    (e : TypeId) (z : Value) (size bytes : Nat) (ht : P.underlying t = some (.slice e)) (hinfo : (P.info? e).map (fun i => (i.zero, i.size, i.bytes)) = some (some z, size, bytes)) (hzs : z.cells.size = size) (hsz : 0 < size)
    (A1 : Option Addr) (k : Nat) (olds : List Value) (hs : a.eval s = .slice A1 k k) (h1 : SrcIs w A1 k size olds)
    (A2 : Option Addr) (m c : Nat) (news : List Value) (hx : a.eval x = .slice A2 m c) (h2 : SrcIs w A2 m size news)
    (h63 : k + m ≤ maxLen) (hbytes : (k + m) * bytes ≤ 140737488355328)
    (h0 : m = 0 → wpList P ops Q rest (a.put o.dst (.slice A1 k k)) w)
    (h : ∀ v' w', 0 < m → w'.ownsRow w.heap.size e size v' (k + m) (olds ++ news) → w.grownBy w' none → wpList P ops Q rest (a.put o.dst v') w') : wpList P ops Q (o :: rest) a w :=
  wpList_plain hgd fun _ hK => wp_full s x t ho e z size bytes ht hinfo hzs hsz A1 k olds hs h1 A2 m c news hx h2 h63 hbytes (fun hm => hK _ _ (h0 hm)) fun v' w' h3 h4 h5 => hK _ _ (h v' w' h3 h4 h5)
theorem SrcIs.drew {w : World} {A : Option Addr} {m size : Nat} {news : List Value} (h : SrcIs w A m size news) : SrcIs w.drew A m size news := h.below (below_drewN (Below.refl _ _) 1)
theorem own_srcIs {w : World} {base n c : Nat} {A : Option Addr} {xs : List Value} (h : w.ownsRow base 60 6 (.slice A n c) n xs) (h1 : ∀ u, u ∈ xs → u.oneCell' = true) : SrcIs w A n 6 xs := by
  rcases h.2 with ⟨he, h0⟩ | ⟨g, cap, cur, he, _⟩
  · obtain ⟨rfl, rfl, rfl⟩ : A = none ∧ n = 0 ∧ c = 0 := by simpa using he
    obtain rfl : xs = [] := List.length_eq_zero_iff.1 (by simpa using h.1)
    exact SrcIs.none _ _ _
  · obtain ⟨rfl, rfl⟩ : A = some ⟨g, 0, none⟩ ∧ c = cap := by simpa using he
    refine ⟨h.1, fun j u hu => ⟨_, rfl, ?_⟩, h1⟩
    have hl := (List.getElem?_eq_some_iff.1 hu).1
    rw [show (⟨g, 0, none⟩ : Addr).add j = ⟨g, j, none⟩ by rw [Addr.add_lit, Nat.zero_add], h.cellAt j (by have := h.1; omega)]
    exact hu

set_option maxRecDepth 100000 in
set_option maxHeartbeats 8000000 in
theorem withoutSpan_any (A : Option Addr) (n c k : Nat) (xs : List Value) (hn : n ≤ c) (hc : c ≤ maxLen) (hn2 : n ≤ 1000) (hk : k < n) (w : World) (h : SrcIs w A n 6 xs) :
    Calls Try.prog 56 #[.slice A n c, .int .i64 k] w fun e w' => ∃ v, e = .returned v ∧ w'.ownsRow w.heap.size 60 6 v (k + (n - (k + 1))) (xs.take (k * 6) ++ xs.drop ((k + 1) * 6)) ∧ Below w.heap.size w w' := by
  obtain ⟨A1, hs1, sr1⟩ := cut_to3 h (show k ≤ n by omega) hn
  obtain ⟨A2, hs2, sr2⟩ := cut_from h (show k + 1 ≤ n by omega) hn ((k : Int) + 1) (by omega)
  have sr1 := Lib.hid sr1.drew
  have sr2 := Lib.hid sr2.drew
  have hone := Lib.hid (show ∀ u, u ∈ xs.take (k * 6) ++ xs.drop ((k + 1) * 6) → u.oneCell' = true from fun u hu => (List.mem_append.1 hu).elim (fun hu => h.one u (List.mem_of_mem_take hu)) fun hu => h.one u (List.mem_of_mem_drop hu))
  have hw1 : IntKind.i64.wrap ((k : Int) + 1) = (k : Int) + 1 := IntWalk.i64_in _ (by omega)
  have hk1 : k ≤ 1000 := by omega
  have hkm : k + (n - (k + 1)) ≤ 1000 := by omega
  have hlm := Lib.hid (fun A n c news hs w h => listSpan_any A n c news hs w h)
  have hd := Lib.hid (show Below w.heap.size w w.drew from below_drewN (Below.refl _ _) 1)
  have hdz := Lib.hid (show w.drew.heap.size = w.heap.size from rfl)
  have hk' := Lib.hid hk
  have hn' := Lib.hid hn
  have hc' := Lib.hid hc
  clear h hk hn hc
  go_enter Try.func56, Try.ntmps56
  go_wp2_with fail
  go_still_tail 8, (by kernel_rfl)
  change wpList _ _ _ _ _ w.drew
  generalize w.drew = W at *
  refine wpList_full rfl (.tmp 8) (.tmp 12) 27 rfl 60 (.agg #[.int .i64 0, .int .i64 0, .int .i64 0, .bool false, .slice none 0 0, .slice none 0 0]) 6 80 Try.underlying27 infoSpan (by rfl) (by decide) A1 k (xs.take (k * 6)) rfl sr1.out A2 (n - (k + 1)) (c - (k + 1)) (xs.drop ((k + 1) * 6)) rfl sr2.out (by unfold maxLen; omega) (by omega) ?_ ?_
  · intro hm
    have hsrc := Lib.hid (show SrcIs W A1 k 6 (xs.take (k * 6) ++ xs.drop ((k + 1) * 6)) from by
      have e : xs.drop ((k + 1) * 6) = [] := List.length_eq_zero_iff.1 (by have := sr2.out.len; rw [hm] at this; simpa using this)
      rw [e, List.append_nil]
      exact sr1.out)
    have hm' := Lib.hid hm
    clear hm
    go_wp2_with fail
    refine (hlm.out A1 k k _ (by omega) W hsrc.out).mono ?_
    rintro e w2 ⟨v, rfl, hr, hb⟩
    have hr' := Lib.hid hr
    have hb' := Lib.hid hb
    clear hr hb
    go_wp2_with fail
    go_ret
    exact ⟨v, rfl, by rw [hm'.out, Nat.add_zero, ← hdz.out]; exact hr'.out, hd.out.trans (hb'.out.mono (by rw [hdz.out]; exact Nat.le_refl _))⟩
  · intro v' w' hm hr1 hg
    obtain ⟨a3, c3, rfl⟩ := own_slice hr1
    have hsrc := Lib.hid (own_srcIs hr1 hone.out)
    have hb1 := Lib.hid (show Below W.heap.size W w' from (Below.refl _ _).grown hg (Nat.le_refl _) (fun q hq => by cases hq))
    clear hr1 hg
    go_wp2_with fail
    refine (hlm.out a3 _ c3 _ (by omega) w' hsrc.out).mono ?_
    rintro e w2 ⟨v, rfl, hr, hb⟩
    have hr' := Lib.hid hr
    have hb' := Lib.hid hb
    clear hr hb
    go_wp2_with fail
    go_ret
    have z1 := hb1.out.size
    have z2 := hdz.out
    exact ⟨v, rfl, own_base hr'.out (by omega), hd.out.trans ((hb1.out.trans (hb'.out.mono z1)).mono (by omega))⟩
end Go.Proofs.Ytpcefecedmdmkaa

import Derived.Test.YtajogfnlbdiokaaCut
import Derived.StillTailTactics
import Derived.Outline
import Derived.Test.YtajogfnlbdiokaaWData
import Derived.Orders
import Derived.Deep.RegionHeld
import Derived.Test.YtajogfnlbdiokaaSTake
import Derived.Test.YtajogfnlbdiokaaImplR
import Derived.Test.YtajogfnlbdiokaaISoil
import Derived.Deep.DeepCutAuto
import Derived.Deep.CutRange
import Derived.Deep.RegionWith

/-
  The contracts of the program's withSpan and withoutSpan: a row of spans with one more, or one less, in new memory.
-/
namespace Go.Proofs.Ytajogfnlbdiokaa
open Go.RowKit
set_option linter.unusedVariables false

/-- append onto a slice without spare room: it is the same slice, or one that the call makes. -/
theorem wp_full {P : Program} {w : World} {o : Oper} {a : Act} {K : Act → World → Prop} {Q : Exit → Act → World → Prop} (s x : Operand) (t : TypeId)
    (ho : o.op = .call { callee := .builtin .append, args := #[s, x], argTypes := #[t, t] })
    (e : TypeId) (z : Value) (size bytes : Nat) (ht : P.underlying t = some (.slice e)) (hinfo : (P.info? e).map (fun i => (i.zero, i.size, i.bytes)) = some (some z, size, bytes)) (hzs : z.cells.size = size) (hsz : 0 < size)
    (A1 : Option Addr) (k : Nat) (olds : List Value) (hs : a.eval s = .slice A1 k k) (h1 : SrcIs w A1 k size olds)
    (A2 : Option Addr) (m c : Nat) (news : List Value) (hx : a.eval x = .slice A2 m c) (h2 : SrcIs w A2 m size news)
    (h63 : k + m ≤ maxLen) (hbytes : (k + m) * bytes ≤ 140737488355328)
    (h0 : m = 0 → K (a.put o.dst (.slice A1 k k)) w)
    (h : ∀ v' w', 0 < m → w'.ownsRow w.heap.size e size v' (k + m) (olds ++ news) → w.grownBy w' none → K (a.put o.dst v') w') : o.wp P a w K Q := by
  obtain ⟨i, hi, hz, hsize, hby⟩ := info_parts hinfo
  have fin : ∀ v' w', (Builtin.append_ #[t, t] o.type #[.slice A1 k k, .slice A2 m c]).run P w = .ok v' w' → K (a.put o.dst v') w' → o.wp P a w K Q := fun v' w' hrun hk => by
    unfold Oper.wp execOp
    simp only [ho, resolve, invoke, builtin, Sem.run_bind, Sem.run_pure, Result.andThen_ok, List.map_toArray, List.map_cons, List.map_nil, hs, hx, hrun]
    exact hk
  rcases Nat.eq_zero_or_pos m with hm | hm
  · subst hm
    refine fin _ _ ?_ (h0 rfl)
    cases A2 with
    | none => cases A1 <;> simp [Builtin.append_, run_underlying ht, sizeOf, typeInfo, hi, Builtin.lenOf, Builtin.firstCells, storeCells]
    | some a2 =>
      have hf := run_firstCells_some (P := P) w i.size 0 a2 0 c [] (by simp) (fun j u hu => by simp at hu)
      cases A1 <;> simp [Builtin.append_, run_underlying ht, sizeOf, typeInfo, hi, Builtin.lenOf, hf, storeCells]
  · have hn0 : 0 < news.length := by rw [h2.len]; exact Nat.mul_pos hm hsz
    obtain ⟨a2, rfl⟩ : ∃ a2, A2 = some a2 := by
      obtain ⟨a2, e2, _⟩ := h2.at_ 0 news[0] (List.getElem?_eq_getElem hn0)
      exact ⟨a2, e2⟩
    have hc2 : ∀ j u, news[j]? = some u → w.cell? (a2.add j) = some u := fun j u hu => by
      obtain ⟨b, eb, hc⟩ := h2.at_ j u hu
      cases eb
      exact hc
    cases A1 with
    | some b =>
      have hc1 : ∀ j u, olds[j]? = some u → w.cell? (b.add j) = some u := fun j u hu => by
        obtain ⟨b', eb, hc⟩ := h1.at_ j u hu
        cases eb
        exact hc
      obtain ⟨v', w', hrun, r1, r2⟩ := run_append_arg_grows (P := P) w t o.type e i z size bytes ht hi hz hsize hby hzs hsz b k k olds h1.len hc1 a2 m c news h2.len hc2 (by omega) h63 hbytes
      exact fin _ _ hrun (h v' w' hm r1 r2)
    | none =>
      have ho0 : olds = [] := by
        rcases olds with _ | ⟨u, l⟩
        · rfl
        · obtain ⟨_, eb, _⟩ := h1.at_ 0 u rfl
          cases eb
      subst ho0
      have hk0 : k = 0 := by
        have := h1.len
        rcases Nat.eq_zero_or_pos k with h0 | h0
        · exact h0
        · have := Nat.mul_pos h0 hsz
          simp at *
          omega
      subst hk0
      obtain ⟨v', w', hrun, r1, r2, _⟩ := run_append_own (P := P) w w.heap.size t o.type e i z size bytes ht hi hz hsize hby hzs hsz (.slice none 0 0) 0 [] (World.ownsRow_nil w _ e size) a2 m c news h2.len hc2 h2.one h63 hbytes (Nat.le_refl _)
      exact fin _ _ hrun (h v' w' hm r1 (by simpa [Value.ownBlock] using r2))
theorem wpList_full {P : Program} {w : World} {ops : Array Oper} {rest : List Oper} {o : Oper} {a : Act} {Q : Exit → Act → World → Prop} (hgd : o.guard = none) (s x : Operand) (t : TypeId)
    (ho : o.op = .call { callee := .builtin .append, args := #[s, x], argTypes := #[t, t] })
    (e : TypeId) (z : Value) (size bytes : Nat) (ht : P.underlying t = some (.slice e)) (hinfo : (P.info? e).map (fun i => (i.zero, i.size, i.bytes)) = some (some z, size, bytes)) (hzs : z.cells.size = size) (hsz : 0 < size)
    (A1 : Option Addr) (k : Nat) (olds : List Value) (hs : a.eval s = .slice A1 k k) (h1 : SrcIs w A1 k size olds)
    (A2 : Option Addr) (m c : Nat) (news : List Value) (hx : a.eval x = .slice A2 m c) (h2 : SrcIs w A2 m size news)
    (h63 : k + m ≤ maxLen) (hbytes : (k + m) * bytes ≤ 140737488355328)
    (h0 : m = 0 → wpList P ops Q rest (a.put o.dst (.slice A1 k k)) w)
    (h : ∀ v' w', 0 < m → w'.ownsRow w.heap.size e size v' (k + m) (olds ++ news) → w.grownBy w' none → wpList P ops Q rest (a.put o.dst v') w') : wpList P ops Q (o :: rest) a w :=
  wpList_plain hgd fun _ hK => wp_full s x t ho e z size bytes ht hinfo hzs hsz A1 k olds hs h1 A2 m c news hx h2 h63 hbytes (fun hm => hK _ _ (h0 hm)) fun v' w' h3 h4 h5 => hK _ _ (h v' w' h3 h4 h5)
theorem SrcIs.drew {w : World} {A : Option Addr} {m size : Nat} {news : List Value} (h : SrcIs w A m size news) : SrcIs w.drew A m size news := h.below (below_drewN (Below.refl _ _) 1)
theorem own_srcIs {w : World} {base n c : Nat} {A : Option Addr} {xs : List Value} (h : w.ownsRow base 79 6 (.slice A n c) n xs) (h1 : ∀ u, u ∈ xs → u.oneCell' = true) : SrcIs w A n 6 xs := by
  rcases h.2 with ⟨he, h0⟩ | ⟨g, cap, cur, he, _⟩
  · obtain ⟨rfl, rfl, rfl⟩ : A = none ∧ n = 0 ∧ c = 0 := by simpa using he
    obtain rfl : xs = [] := List.length_eq_zero_iff.1 (by simpa using h.1)
    exact SrcIs.none _ _ _
  · obtain ⟨rfl, rfl⟩ : A = some ⟨g, 0, none⟩ ∧ c = cap := by simpa using he
    refine ⟨h.1, fun j u hu => ⟨_, rfl, ?_⟩, h1⟩
    have hl := (List.getElem?_eq_some_iff.1 hu).1
    rw [show (⟨g, 0, none⟩ : Addr).add j = ⟨g, j, none⟩ by rw [Addr.add_lit, Nat.zero_add], h.cellAt j (by have := h.1; omega)]
    exact hu

set_option maxRecDepth 100000 in
set_option maxHeartbeats 8000000 in
theorem withoutSpan_any (A : Option Addr) (n c k : Nat) (xs : List Value) (hn : n ≤ c) (hc : c ≤ maxLen) (hn2 : n ≤ 1000) (hk : k < n) (w : World) (h : SrcIs w A n 6 xs) :
    Calls Try.prog 94 #[.slice A n c, .int .i64 k] w fun e w' => ∃ v, e = .returned v ∧ w'.ownsRow w.heap.size 79 6 v (k + (n - (k + 1))) (xs.take (k * 6) ++ xs.drop ((k + 1) * 6)) ∧ Below w.heap.size w w' := by
  obtain ⟨A1, hs1, sr1⟩ := cut_to3 h (show k ≤ n by omega) hn
  obtain ⟨A2, hs2, sr2⟩ := cut_from h (show k + 1 ≤ n by omega) hn ((k : Int) + 1) (by omega)
  have sr1 := Lib.hid sr1.drew
  have sr2 := Lib.hid sr2.drew
  have hone := Lib.hid (show ∀ u, u ∈ xs.take (k * 6) ++ xs.drop ((k + 1) * 6) → u.oneCell' = true from fun u hu => (List.mem_append.1 hu).elim (fun hu => h.one u (List.mem_of_mem_take hu)) fun hu => h.one u (List.mem_of_mem_drop hu))
  have hw1 : IntKind.i64.wrap ((k : Int) + 1) = (k : Int) + 1 := IntWalk.i64_in _ (by omega)
  have hk1 : k ≤ 1000 := by omega
  have hkm : k + (n - (k + 1)) ≤ 1000 := by omega
  have hlm := Lib.hid (fun A n c news hs w h => listSpan_any A n c news hs w h)
  have hd := Lib.hid (show Below w.heap.size w w.drew from below_drewN (Below.refl _ _) 1)
  have hdz := Lib.hid (show w.drew.heap.size = w.heap.size from rfl)
  have hk' := Lib.hid hk
  have hn' := Lib.hid hn
  have hc' := Lib.hid hc
  clear h hk hn hc
  go_enter Try.func94, Try.ntmps94
  go_wp2_with fail
  go_still_tail 8, (by kernel_rfl)
  change wpList _ _ _ _ _ w.drew
  generalize w.drew = W at *
  refine wpList_full rfl (.tmp 8) (.tmp 12) 27 rfl 79 (.agg #[.int .i64 0, .int .i64 0, .int .i64 0, .bool false, .slice none 0 0, .slice none 0 0]) 6 80 Try.underlying27 infoSpan (by rfl) (by decide) A1 k (xs.take (k * 6)) rfl sr1.out A2 (n - (k + 1)) (c - (k + 1)) (xs.drop ((k + 1) * 6)) rfl sr2.out (by unfold maxLen; omega) (by omega) ?_ ?_
  · intro hm
    have hsrc := Lib.hid (show SrcIs W A1 k 6 (xs.take (k * 6) ++ xs.drop ((k + 1) * 6)) from by
      have e : xs.drop ((k + 1) * 6) = [] := List.length_eq_zero_iff.1 (by have := sr2.out.len; rw [hm] at this; simpa using this)
      rw [e, List.append_nil]
      exact sr1.out)
    have hm' := Lib.hid hm
    clear hm
    go_wp2_with fail
    refine (hlm.out A1 k k _ (by omega) W hsrc.out).mono ?_
    rintro e w2 ⟨v, rfl, hr, hb⟩
    have hr' := Lib.hid hr
    have hb' := Lib.hid hb
    clear hr hb
    go_wp2_with fail
    go_ret
    exact ⟨v, rfl, by rw [hm'.out, Nat.add_zero, ← hdz.out]; exact hr'.out, hd.out.trans (hb'.out.mono (by rw [hdz.out]; exact Nat.le_refl _))⟩
  · intro v' w' hm hr1 hg
    obtain ⟨a3, c3, rfl⟩ := own_slice hr1
    have hsrc := Lib.hid (own_srcIs hr1 hone.out)
    have hb1 := Lib.hid (show Below W.heap.size W w' from (Below.refl _ _).grown hg (Nat.le_refl _) (fun q hq => by cases hq))
    clear hr1 hg
    go_wp2_with fail
    refine (hlm.out a3 _ c3 _ (by omega) w' hsrc.out).mono ?_
    rintro e w2 ⟨v, rfl, hr, hb⟩
    have hr' := Lib.hid hr
    have hb' := Lib.hid hb
    clear hr hb
    go_wp2_with fail
    go_ret
    have z1 := hb1.out.size
    have z2 := hdz.out
    exact ⟨v, rfl, own_base hr'.out (by omega), hd.out.trans ((hb1.out.trans (hb'.out.mono z1)).mono (by omega))⟩
end Go.Proofs.Ytajogfnlbdiokaa

/-
  The contract of the program's withSpan: a row of spans with one more, in new memory.
-/
namespace Go.Proofs.Ytajogfnlbdiokaa
open Go.RowKit
set_option linter.unusedVariables false

set_option maxRecDepth 100000 in
set_option maxHeartbeats 8000000 in
theorem withSpan_any (A : Option Addr) (n c k : Nat) (xs : List Value) (s : SpanD) (a3 a4 : Option Addr) (n3 n4 c3 c4 : Nat) (hn : n ≤ c) (hc : c ≤ maxLen) (hn2 : n ≤ 1000) (hk : k ≤ n) (w : World) (h : SrcIs w A n 6 xs) :
    Calls Try.prog 134 #[.slice A n c, .int .i64 k, .agg #[.int .i64 s.page, .int .i64 s.cls, .int .i64 s.mark, .bool s.swept, .slice a3 n3 c3, .slice a4 n4 c4]] w fun e w' => ∃ v, e = .returned v ∧ w'.ownsRow w.heap.size 79 6 v (n + 1) (xs.take (k * 6) ++ spanCv s (.slice a3 n3 c3, .slice a4 n4 c4) ++ xs.drop (k * 6)) ∧ Below w.heap.size w w' := by
  obtain ⟨A1, hs1, sr1⟩ := cut_to3 h (show k ≤ n by omega) hn
  obtain ⟨A2, hs2, sr2⟩ := cut_from h (show k ≤ n by omega) hn (k : Int) rfl
  have bb := below_box w (.cells #[.int .i64 s.page, .int .i64 s.cls, .int .i64 s.mark, .bool s.swept, .slice a3 n3 c3, .slice a4 n4 c4] 79)
  have bn := box_new w (.cells #[.int .i64 s.page, .int .i64 s.cls, .int .i64 s.mark, .bool s.swept, .slice a3 n3 c3, .slice a4 n4 c4] 79)
  have d0 := cell_of_heap bn 0 _ rfl
  have d1 := cell_of_heap bn 1 _ rfl
  have d2 := cell_of_heap bn 2 _ rfl
  have d3 := cell_of_heap bn 3 _ rfl
  have d4 := cell_of_heap bn 4 _ rfl
  have d5 := cell_of_heap bn 5 _ rfl
  have sr1 := Lib.hid (sr1.below bb)
  have sr2 := Lib.hid (sr2.below bb)
  have bb' := Lib.hid (show Below w.heap.size w (w.alloc (.cells #[.int .i64 s.page, .int .i64 s.cls, .int .i64 s.mark, .bool s.swept, .slice a3 n3 c3, .slice a4 n4 c4] 79)) from bb)
  have hk1 : k ≤ 1000 := by omega
  have hkm : n - k ≤ 1000 := by omega
  have hkn := Lib.hid (show k + 1 + (n - k) = n + 1 by omega)
  clear h hk hn hc bb bn
  go_enter Try.func134, Try.ntmps134
  go_wp2_with fail
  generalize w.alloc (.cells #[.int .i64 s.page, .int .i64 s.cls, .int .i64 s.mark, .bool s.swept, .slice a3 n3 c3, .slice a4 n4 c4] 79) = W0 at *
  have b1 := Lib.hid (show Below W0.heap.size W0 (W0.alloc (.cells #[.int .i64 s.page, .int .i64 s.cls, .int .i64 s.mark, .bool s.swept, .slice a3 n3 c3, .slice a4 n4 c4] 79)).drew from below_drewN (below_box W0 (.cells #[.int .i64 s.page, .int .i64 s.cls, .int .i64 s.mark, .bool s.swept, .slice a3 n3 c3, .slice a4 n4 c4] 79)) 1)
  have r1 := Lib.hid (sr1.out.below b1.out)
  have r2 := Lib.hid (show SrcIs (W0.alloc (.cells #[.int .i64 s.page, .int .i64 s.cls, .int .i64 s.mark, .bool s.swept, .slice a3 n3 c3, .slice a4 n4 c4] 79)).drew (some ⟨W0.heap.size, 0, none⟩) 1 6 (spanCv s (.slice a3 n3 c3, .slice a4 n4 c4)) from (src_box W0 (cs := #[.int .i64 s.page, .int .i64 s.cls, .int .i64 s.mark, .bool s.swept, .slice a3 n3 c3, .slice a4 n4 c4]) (T := 79) (m := 1) (size := 6) rfl (fun u hu => by
    simp only [List.mem_cons, List.not_mem_nil, or_false] at hu
    rcases hu with rfl | rfl | rfl | rfl | rfl | rfl <;> rfl)).drew)
  go_region_law (first
    | (refine step_own rfl (wp_full (.tmp 11) (.tmp 13) 27 rfl 79 (.agg #[.int .i64 0, .int .i64 0, .int .i64 0, .bool false, .slice none 0 0, .slice none 0 0]) 6 80 Try.underlying27 infoSpan (by rfl) (by decide) A1 k (xs.take (k * 6)) rfl r1.out (some ⟨W0.heap.size, 0, none⟩) 1 1 (spanCv s (.slice a3 n3 c3, .slice a4 n4 c4)) rfl r2.out (by unfold maxLen; omega) (by omega) (fun h => absurd h (by decide)) ?_); intro v1 w1 hm p1 h1; obtain ⟨a5, c5, rfl⟩ := own_slice p1; have p1' := Lib.hid p1; have b2 := Lib.hid (show Below W0.heap.size W0 w1 from b1.out.grown h1 b1.out.size (fun q hq => (by cases hq))); have r3 := Lib.hid (sr2.out.below b2.out); have le1 := Lib.hid (show (W0.alloc (.cells #[.int .i64 s.page, .int .i64 s.cls, .int .i64 s.mark, .bool s.swept, .slice a3 n3 c3, .slice a4 n4 c4] 79)).drew.heap.size ≤ w1.heap.size from h1.size); clear p1 h1 hm))
  all_goals clear d0 d1 d2 d3 d4 d5
  all_goals go_wp2_with (first
    | (refine wpList_app rfl (.tmp 15) (.tmp 18) 27 rfl (W0.alloc (.cells #[.int .i64 s.page, .int .i64 s.cls, .int .i64 s.mark, .bool s.swept, .slice a3 n3 c3, .slice a4 n4 c4] 79)).drew.heap.size 79 (.agg #[.int .i64 0, .int .i64 0, .int .i64 0, .bool false, .slice none 0 0, .slice none 0 0]) 6 80 Try.underlying27 infoSpan (by rfl) (by decide) (.slice a5 (k + 1) c5) (k + 1) _ rfl p1'.out A2 (n - k) (c - k) _ rfl r3.out (by unfold maxLen; omega) (by omega) le1.out ?_; intro v2 w2 p2 h2; obtain ⟨a6, c6, rfl⟩ := own_slice p2; have p2' := Lib.hid p2; have b3 := Lib.hid (show Below W0.heap.size W0 w2 from b2.out.grown h2 b2.out.size (fun q hq => (by have := (p1'.out.lt q hq).1; have := b1.out.size; omega))); clear p2 h2))
  all_goals go_ret
  all_goals have hz := bb'.out.size
  all_goals have hz1 := b1.out.size
  all_goals refine ⟨.slice a6 (k + 1 + (n - k)) c6, rfl, ?_, bb'.out.trans (b3.out.mono hz)⟩
  all_goals have := own_base p2'.out (show w.heap.size ≤ (W0.alloc (.cells #[.int .i64 s.page, .int .i64 s.cls, .int .i64 s.mark, .bool s.swept, .slice a3 n3 c3, .slice a4 n4 c4] 79)).drew.heap.size by omega)
  all_goals rw [hkn.out, List.append_assoc] at this
  all_goals rw [hkn.out]
  all_goals first | exact this | (rw [List.append_assoc]; exact this)
end Go.Proofs.Ytajogfnlbdiokaa

/-
  A region that draws its order, met by an invariant over what is done so far: each operation once, whatever the order.
-/
namespace Go.Proofs.Ytajogfnlbdiokaa
open Go.RowKit
set_option linter.unusedVariables false

theorem ready_lt {md : Region.Mode} {ops : Array Oper} {l : Array Bool} {i : Nat} (h : i ∈ Region.ready md ops l) : i < ops.size := by
  unfold Region.ready at h
  exact List.mem_range.1 (List.mem_filter.1 h).1
theorem ready_not {md : Region.Mode} {ops : Array Oper} {l : Array Bool} {i : Nat} (h : i ∈ Region.ready md ops l) : l.getD i true = false := by
  unfold Region.ready at h
  have := (List.mem_filter.1 h).2
  simp only [Bool.and_eq_true, Bool.not_eq_true'] at this
  exact this.1
/-- What an operation waits for is done. -/
theorem ready_dep {md : Region.Mode} {ops : Array Oper} {l : Array Bool} {i : Nat} (h : i ∈ Region.ready md ops l) {o : Oper} (ho : ops[i]? = some o) : ∀ e ∈ o.after, Region.binds md e = true → l.getD e.on false = true := by
  unfold Region.ready at h
  have := (List.mem_filter.1 h).2
  simp only [Bool.and_eq_true, ho, Option.map_some, Option.getD_some] at this
  intro e he hb
  have h2 := (Array.all_eq_true_iff_forall_mem.1 this.2) e he
  simpa [hb] using h2
def undone (l : Array Bool) : Nat := l.toList.countP (fun b => !b)
theorem undone_set {l : Array Bool} {i : Nat} (hi : i < l.size) (h : l.getD i true = false) : undone (l.setIfInBounds i true) + 1 = undone l := by
  have hb : l.toList[i]? = some false := by
    have e : l[i] = false := by simpa [Array.getD, hi] using h
    simp [hi, e]
  unfold undone
  rw [Array.toList_setIfInBounds]
  generalize l.toList = L at hb
  clear h hi
  induction L generalizing i with
  | nil => simp at hb
  | cons x L ih =>
    cases i with
    | zero =>
      simp at hb
      subst hb
      simp
    | succ i =>
      simp at hb
      have := ih hb
      cases x <;> simp at this ⊢ <;> omega
theorem wp_region_inv {P : Program} {id : Nat} {ops : Array Oper} {Q : Exit → Act → World → Prop} {a : Act} {w : World} (hm : P.follows .mixedOrders = true) (Inv : Array Bool → Act → World → Prop)
    (h0 : Inv (Array.replicate ops.size false) a { w with drawn := w.drawn + 1 })
    (hs : ∀ (l : Array Bool) (a : Act) (w : World) (i : Nat), l.size = ops.size → Inv l a w → i ∈ Region.ready .any ops l → wpOp P ops Q i (Inv (l.setIfInBounds i true)) a w)
    (he : ∀ (l : Array Bool) (a : Act) (w : World), l.size = ops.size → Inv l a w → Region.ready .any ops l = [] → Q .normal a w) : (Code.region id ops true).wp P Q a w := by
  refine wp_region_any hm ?_
  have key : ∀ (fuel : Nat) (l : Array Bool) (a : Act) (w : World), l.size = ops.size → undone l ≤ fuel → Inv l a w → wpAny P .any ops Q fuel l a w := by
    intro fuel
    induction fuel with
    | zero =>
      intro l a w hl hu hi
      have hr : Region.ready .any ops l = [] := by
        cases hr : Region.ready .any ops l with
        | nil => rfl
        | cons i rest =>
          have hi' : i ∈ Region.ready .any ops l := by rw [hr]; simp
          have := undone_set (by rw [hl]; exact ready_lt hi') (ready_not hi')
          omega
      exact ⟨hr, he l a w hl hi hr⟩
    | succ fuel ih =>
      intro l a w hl hu hi
      refine ⟨fun hr => he l a w hl hi hr, fun i hr => ?_⟩
      refine wpOp_mono (fun a' w' h' => ih _ a' w' (by simpa using hl) ?_ h') (hs l a w i hl hi hr)
      have := undone_set (by rw [hl]; exact ready_lt hr) (ready_not hr)
      omega
  exact key ops.size _ a _ (by simp) (by unfold undone; exact Nat.le_trans List.countP_le_length (by simp)) h0
end Go.Proofs.Ytajogfnlbdiokaa

/-
  A region that draws its order, of which a last operation writes a cell that loads of the region read: the loads may be taken first all the same, where the writer waits for them.
-/
namespace Go.Proofs.Ytajogfnlbdiokaa
open Go.RowKit
set_option linter.unusedVariables false

section
variable {P : Program} {ops : Array Oper} {Q : Exit → Act → World → Prop} {md : Region.Mode} {S : World → Prop} {late : Nat → Bool}

/-- No late one is done. -/
def NoLate (late : Nat → Bool) (l : Array Bool) : Prop := ∀ j, late j = true → l.getD j false = false
theorem NoLate.less {l : Array Bool} {i : Nat} (h : NoLate late (l.setIfInBounds i true)) : NoLate late l := fun j hj => by
  cases e : l.getD j false
  · rfl
  · have := h j hj
    rw [getD_set_true e] at this
    cases this
theorem NoLate.more {l : Array Bool} {i : Nat} (h : NoLate late l) (hi : late i = false) : NoLate late (l.setIfInBounds i true) := fun j hj => by
  by_cases e : i = j
  · subst e
    rw [hi] at hj
    cases hj
  · rw [getD_set_ne false e]
    exact h j hj
/-- Whatever order is picked, and S holds behind every operation till a late one is done. -/
def wpLate (P : Program) (md : Region.Mode) (ops : Array Oper) (Q : Exit → Act → World → Prop) (S : World → Prop) (late : Nat → Bool) : Nat → Array Bool → Act → World → Prop
  | 0, listed, a, w => Region.ready md ops listed = [] ∧ Q .normal a w
  | fuel + 1, listed, a, w =>
    (Region.ready md ops listed = [] → Q .normal a w) ∧
    ∀ i ∈ Region.ready md ops listed, wpOp P ops Q i (fun a' w' => (NoLate late (listed.setIfInBounds i true) → S w') ∧ wpLate P md ops Q S late fuel (listed.setIfInBounds i true) a' w') a w

theorem wpAny_of_late : ∀ (fuel : Nat) (listed : Array Bool) (a : Act) (w : World), wpLate P md ops Q S late fuel listed a w → wpAny P md ops Q fuel listed a w
  | 0, _, _, _, h => h
  | fuel + 1, _, _, _, h => ⟨h.1, fun i hi => wpOp_mono (fun a' w' h' => wpAny_of_late fuel _ a' w' h'.2) (h.2 i hi)⟩

/-- Does j wait for i, itself or by others? -/
def waits (md : Region.Mode) (ops : Array Oper) : Nat → Nat → Nat → Bool
  | 0, _, _ => false
  | n + 1, j, i => match ops[j]? with
    | none => false
    | some o => o.after.any fun e => Region.binds md e && (e.on == i || waits md ops n e.on i)
/-- What a done one waits for is done. -/
def Closed (md : Region.Mode) (ops : Array Oper) (l : Array Bool) : Prop := ∀ (j : Nat) (o : Oper), ops[j]? = some o → l.getD j false = true → ∀ e ∈ o.after, Region.binds md e = true → l.getD e.on false = true
def closedB (md : Region.Mode) (ops : Array Oper) (l : Array Bool) : Bool := (List.range ops.size).all fun j => !l.getD j false || match ops[j]? with
  | none => true
  | some o => o.after.all fun e => !Region.binds md e || l.getD e.on false
theorem Closed.of_b {l : Array Bool} (h : closedB md ops l = true) : Closed md ops l := by
  intro j o ho hl e he hb
  have h1 := (List.all_eq_true.1 h) j (List.mem_range.2 (Array.getElem?_eq_some_iff.1 ho).1)
  simp only [ho, hl, Bool.not_true, Bool.false_or] at h1
  have h2 := (Array.all_eq_true_iff_forall_mem.1 h1) e he
  simpa [hb] using h2
theorem waits_done {l : Array Bool} (hc : Closed md ops l) (i : Nat) : ∀ (n j : Nat), (∀ o, ops[j]? = some o → ∀ e ∈ o.after, Region.binds md e = true → l.getD e.on false = true) → waits md ops n j i = true → l.getD i false = true := by
  intro n
  induction n with
  | zero => intro j _ h; simp [waits] at h
  | succ n ih =>
    intro j hd h
    unfold waits at h
    cases ho : ops[j]? with
    | none => simp [ho] at h
    | some o =>
      simp only [ho] at h
      obtain ⟨e, he, h2⟩ := Array.any_eq_true'.1 h
      simp only [Bool.and_eq_true, Bool.or_eq_true, beq_iff_eq] at h2
      have h3 := hd o ho e he h2.1
      rcases h2.2 with rfl | h4
      · exact h3
      · exact ih e.on (fun o' ho' => hc e.on o' ho' h3) h4
theorem Closed.set {l : Array Bool} (hc : Closed md ops l) {j : Nat} (hj : j ∈ Region.ready md ops l) : Closed md ops (l.setIfInBounds j true) := by
  intro k o ho hl e he hb
  by_cases hk : k = j
  · subst hk
    exact getD_set_true (ready_dep hj ho e he hb)
  · rw [getD_set_ne false (Ne.symm hk)] at hl
    exact getD_set_true (hc k o ho hl e he hb)

/-- An operation that may come up now and yields its value in every world that meets S may be taken first, if all late ones wait for it. -/
theorem wpLate_first {i : Nat} {oi : Oper} {v : Value} (hi : ops[i]? = some oi) (hsel : ∀ (j : Nat) (o : Oper) cs b, ops[j]? = some o → o.op ≠ .select cs b)
    (hQ : ∀ c a w, Q (.panic c) (a.put oi.dst v) w → Q (.panic c) a w) (n : Nat) (hl : ∀ j, late j = true → waits md ops n j i = true) :
    ∀ (fuel : Nat) (listed : Array Bool) (a : Act) (w : World), Closed md ops listed →
      (∀ j oj, ops[j]? = some oj → j ≠ i → listed.getD j true = false → (∀ e ∈ oj.after, Region.binds md e = true → e.on ≠ i) → oi.apart ops oj = true) →
      i ∈ Region.ready md ops listed → YieldsIf P ops S oi v a → S w →
      wpLate P md ops Q S late fuel (listed.setIfInBounds i true) (a.put oi.dst v) w → wpLate P md ops Q S late (fuel + 1) listed a w := by
  intro fuel
  induction fuel with
  | zero =>
    intro listed a w hc hfree hr hy hS H
    refine ⟨fun h => (by rw [h] at hr; cases hr), fun j hj => ?_⟩
    by_cases hji : j = i
    · subst hji; exact hy.wpOp hi hS ⟨fun _ => hS, H⟩
    · have := ready_mono hj hji
      rw [H.1] at this
      cases this
  | succ fuel ih =>
    intro listed a w hc hfree hr hy hS H
    refine ⟨fun h => (by rw [h] at hr; cases hr), fun j hj => ?_⟩
    by_cases hji : j = i
    · subst hji; exact hy.wpOp hi hS ⟨fun _ => hS, H⟩
    · have h1 := H.2 j (ready_mono hj hji)
      obtain ⟨hjun, oj, hoj, hall⟩ := mem_ready.1 hj
      have hun : listed.getD i false = false := by
        have h0 := ready_not hr
        rcases Nat.lt_or_ge i listed.size with h' | h'
        · simpa [Array.getD, h'] using h0
        · simp [Array.getD, Nat.not_lt.2 h']
      have hno : ∀ k, late k = true → (∀ o, ops[k]? = some o → ∀ e ∈ o.after, Region.binds md e = true → listed.getD e.on false = true) → False := fun k hk hd => by
        have := waits_done hc i n k hd (hl k hk)
        rw [hun] at this
        cases this
      have hnl : NoLate late ((listed.setIfInBounds i true).setIfInBounds j true) := fun k hk => by
        by_cases e1 : j = k
        · subst e1
          exact (hno j hk (fun o ho e he hb => ready_dep hj ho e he hb)).elim
        by_cases e2 : i = k
        · subst e2
          exact (hno i hk (fun o ho e he hb => ready_dep hr ho e he hb)).elim
        rw [getD_set_ne false e1, getD_set_ne false e2]
        cases e3 : listed.getD k false
        · rfl
        · exact (hno k hk (fun o ho e he hb => hc k o ho e3 e he hb)).elim
      have hnot : ∀ e ∈ oj.after, Region.binds md e = true → e.on ≠ i := fun e he hb heq => by
        have h1 := hall e he hb
        rw [heq, hun] at h1
        cases h1
      have h2 := wpOp_putIf hoj (hfree j oj hoj hji hjun hnot) (fun cs b => hsel i oi cs b hi) (fun cs b => hsel j oj cs b hoj) hQ hy h1
      have hfree' : ∀ k ok, ops[k]? = some ok → k ≠ i → (listed.setIfInBounds j true).getD k true = false →
          (∀ e ∈ ok.after, Region.binds md e = true → e.on ≠ i) → oi.apart ops ok = true := fun k ok hk hki hun hno => by
        refine hfree k ok hk hki ?_ hno
        by_cases hjk : j = k
        · subst hjk; exact hjun
        · rw [getD_set_ne true hjk] at hun; exact hun
      refine wpOp_mono (fun a' w' h3 => ⟨fun _ => h3.2.1 hnl, ih (listed.setIfInBounds j true) a' w' (hc.set hj) hfree' (ready_mono hr (Ne.symm hji)) h3.1 (h3.2.1 hnl) ?_⟩) h2
      rw [Array.setIfInBounds_comm _ _ hji]
      exact h3.2.2

/-- One that yields in whatever world may be taken first too. -/
theorem wpLate_any {i : Nat} {oi : Oper} {v : Value} (hi : ops[i]? = some oi) (hsel : ∀ (j : Nat) (o : Oper) cs b, ops[j]? = some o → o.op ≠ .select cs b)
    (hQ : ∀ c a w, Q (.panic c) (a.put oi.dst v) w → Q (.panic c) a w) (hil : late i = false) :
    ∀ (fuel : Nat) (listed : Array Bool) (a : Act) (w : World),
      (∀ j oj, ops[j]? = some oj → j ≠ i → listed.getD j true = false → (∀ e ∈ oj.after, Region.binds md e = true → e.on ≠ i) → oi.apart ops oj = true) →
      i ∈ Region.ready md ops listed → YieldsIf P ops (fun _ => True) oi v a → (NoLate late listed → S w) →
      wpLate P md ops Q S late fuel (listed.setIfInBounds i true) (a.put oi.dst v) w → wpLate P md ops Q S late (fuel + 1) listed a w := by
  intro fuel
  induction fuel with
  | zero =>
    intro listed a w hfree hr hy hS H
    refine ⟨fun h => (by rw [h] at hr; cases hr), fun j hj => ?_⟩
    by_cases hji : j = i
    · subst hji; exact hy.wpOp hi trivial ⟨fun h => hS h.less, H⟩
    · have := ready_mono hj hji
      rw [H.1] at this
      cases this
  | succ fuel ih =>
    intro listed a w hfree hr hy hS H
    refine ⟨fun h => (by rw [h] at hr; cases hr), fun j hj => ?_⟩
    by_cases hji : j = i
    · subst hji; exact hy.wpOp hi trivial ⟨fun h => hS h.less, H⟩
    · have h1 := H.2 j (ready_mono hj hji)
      obtain ⟨hjun, oj, hoj, hall⟩ := mem_ready.1 hj
      have hun : listed.getD i false = false := by
        have h0 := ready_not hr
        rcases Nat.lt_or_ge i listed.size with h' | h'
        · simpa [Array.getD, h'] using h0
        · simp [Array.getD, Nat.not_lt.2 h']
      have hnot : ∀ e ∈ oj.after, Region.binds md e = true → e.on ≠ i := fun e he hb heq => by
        have h1 := hall e he hb
        rw [heq, hun] at h1
        cases h1
      have h2 := wpOp_putIf hoj (hfree j oj hoj hji hjun hnot) (fun cs b => hsel i oi cs b hi) (fun cs b => hsel j oj cs b hoj) hQ hy h1
      have hfree' : ∀ k ok, ops[k]? = some ok → k ≠ i → (listed.setIfInBounds j true).getD k true = false →
          (∀ e ∈ ok.after, Region.binds md e = true → e.on ≠ i) → oi.apart ops ok = true := fun k ok hk hki hun hno => by
        refine hfree k ok hk hki ?_ hno
        by_cases hjk : j = k
        · subst hjk; exact hjun
        · rw [getD_set_ne true hjk] at hun; exact hun
      have hS' : ∀ w', (NoLate late ((listed.setIfInBounds i true).setIfInBounds j true) → S w') → NoLate late (listed.setIfInBounds j true) → S w' := fun w' h hn => h (by rw [Array.setIfInBounds_comm _ _ (Ne.symm hji)]; exact hn.more hil)
      refine wpOp_mono (fun a' w' h3 => ⟨hS' w' h3.2.1, ih (listed.setIfInBounds j true) a' w' hfree' (ready_mono hr (Ne.symm hji)) h3.1 (hS' w' h3.2.1) ?_⟩) h2
      rw [Array.setIfInBounds_comm _ _ hji]
      exact h3.2.2
theorem wpLate_free {i : Nat} {oi : Oper} {v : Value} {fuel : Nat} {listed : Array Bool} {a : Act} {w : World} (hi : ops[i]? = some oi)
    (hs : Region.noSelect ops = true) (hf : Region.free md ops listed i = true) (hr : (Region.ready md ops listed).contains i = true) (hil : late i = false)
    (hQ : ∀ c a w, Q (.panic c) (a.put oi.dst v) w → Q (.panic c) a w) (hy : YieldsIf P ops (fun _ => True) oi v a) (hS : NoLate late listed → S w)
    (h : wpLate P md ops Q S late fuel (listed.setIfInBounds i true) (a.put oi.dst v) w) : wpLate P md ops Q S late (fuel + 1) listed a w :=
  wpLate_any hi (Region.noSelect_spec hs) hQ hil fuel listed a w (Region.free_spec hi hf) (by simpa using hr) hy hS h
/-- Take number i first. -/
theorem wpLate_take {i : Nat} {oi : Oper} {v : Value} {fuel : Nat} {listed : Array Bool} {a : Act} {w : World} (hi : ops[i]? = some oi)
    (hs : Region.noSelect ops = true) (hf : Region.free md ops listed i = true) (hr : (Region.ready md ops listed).contains i = true)
    (hc : closedB md ops listed = true) (hl : ∀ j, late j = true → waits md ops 8 j i = true)
    (hQ : ∀ c a w, Q (.panic c) (a.put oi.dst v) w → Q (.panic c) a w) (hy : YieldsIf P ops S oi v a) (hS : S w)
    (h : wpLate P md ops Q S late fuel (listed.setIfInBounds i true) (a.put oi.dst v) w) : wpLate P md ops Q S late (fuel + 1) listed a w :=
  wpLate_first hi (Region.noSelect_spec hs) hQ 8 hl fuel listed a w (Closed.of_b hc) (Region.free_spec hi hf) (by simpa using hr) hy hS h
theorem wpLate_all {rs : List Nat} {fuel : Nat} {listed : Array Bool} {a : Act} {w : World} (hr : Region.ready md ops listed = rs) (hne : rs ≠ [])
    (h : ∀ i ∈ rs, wpOp P ops Q i (fun a' w' => (NoLate late (listed.setIfInBounds i true) → S w') ∧ wpLate P md ops Q S late fuel (listed.setIfInBounds i true) a' w') a w) : wpLate P md ops Q S late (fuel + 1) listed a w :=
  ⟨fun h0 => absurd (hr ▸ h0) hne, hr ▸ h⟩
theorem wpLate_done {listed : Array Bool} {a : Act} {w : World} (hr : Region.ready md ops listed = []) (h : Q .normal a w) : ∀ fuel, wpLate P md ops Q S late fuel listed a w
  | 0 => ⟨hr, h⟩
  | _ + 1 => ⟨fun _ => h, by rw [hr]; simp⟩
theorem wpLate_step {i : Nat} {o : Oper} {fuel : Nat} {listed : Array Bool} {a : Act} {w : World} (ho : ops[i]? = some o)
    (h : ∀ K' : Act → World → Prop, Shut (∀ a w, (NoLate late (listed.setIfInBounds i true) → S w) → wpLate P md ops Q S late fuel (listed.setIfInBounds i true) a w → K' a w) → if Region.wanted o (yielded ops a.tmps) = true then Oper.wp P o a w K' Q else K' (a.put o.dst undef) w) :
    wpOp P ops Q i (fun a' w' => (NoLate late (listed.setIfInBounds i true) → S w') ∧ wpLate P md ops Q S late fuel (listed.setIfInBounds i true) a' w') a w :=
  wpOp_step ho (fun K' hK => h K' (fun a w hS hW => hK a w ⟨hS, hW⟩))
theorem wp_region_late (S : World → Prop) (late : Nat → Bool) {id : Nat} {a : Act} {w : World} (hm : P.follows .mixedOrders = true)
    (h : wpLate P .any ops Q S late ops.size (Array.replicate ops.size false) a w.drew) : (Code.region id ops true).wp P Q a w :=
  wp_region_any hm (wpAny_of_late _ _ _ _ h)
end
end Go.Proofs.Ytajogfnlbdiokaa

/-
  The contract of the program's World.freePlace: where the next object of a class goes.
-/
namespace Go.Proofs.Ytajogfnlbdiokaa
open Go.RowKit
set_option linter.unusedVariables false
set_option linter.unusedSimpArgs false

theorem slots_eq {c v : Int} (h : sl' c = v) (w : World) : Calls Try.prog 135 #[.int .i64 c] w fun e w' => e = .returned (.int .i64 v) ∧ w = w' := by
  rw [← h]; exact slots_any c w
theorem freeS_cases (s : SpanD) : (∃ j : Nat, freeS s = j ∧ j < s.lens.length ∧ s.lens[j]?.getD 0 = 0 ∧ ∀ i, i < j → s.lens[i]?.getD 0 ≠ 0) ∨ (freeS s = -1 ∧ ∀ i, i < s.lens.length → s.lens[i]?.getD 0 ≠ 0) := by
  cases h : s.lens.findIdx? (fun l => decide (l = 0)) with
  | some j =>
    obtain ⟨hj, h0, hb⟩ := List.findIdx?_eq_some_iff_getElem.1 h
    refine .inl ⟨j, by unfold freeS; rw [h], hj, by simpa [hj] using h0, fun i hi => ?_⟩
    have := hb i hi
    rw [List.getElem?_eq_getElem (by omega)]
    simpa using this
  | none =>
    refine .inr ⟨by unfold freeS; rw [h], fun i hi => ?_⟩
    have := List.findIdx?_eq_none_iff.1 h s.lens[i] (List.getElem_mem hi)
    rw [List.getElem?_eq_getElem hi]
    simpa using this
theorem page_fin2 {W wm w3 : World} {base B : Nat} {S : Shape} {D : WD} {c : Int} {k g1 g2 : Nat} {v : Value} (h : VarW W base B S D) (hk : k ≤ D.spans.length) (hb0 : Below W.heap.size W wm)
    (r1 : wm.heap[g1]? = some (.cells (madeCells #[.int .i64 0] (sl' c).toNat) 3 (0, 0))) (r2 : wm.heap[g2]? = some (.cells (madeCells #[.int .i64 0] (sl' c).toNat) 3 (0, 0))) (h1 : W.heap.size ≤ g1) (h2 : W.heap.size ≤ g2) (ne : g1 ≠ g2)
    (hb : Below wm.heap.size wm w3) (hr : w3.ownsRow wm.heap.size 79 6 v (D.spans.length + 1) ((flatV D.spans S.sv).take (k * 6) ++ spanCv (freshS D c k) (.slice (some ⟨g1, 0, none⟩) (sl' c).toNat (sl' c).toNat, .slice (some ⟨g2, 0, none⟩) (sl' c).toNat (sl' c).toNat) ++ (flatV D.spans S.sv).drop (k * 6))) :
    (∃ S', VarW (w3.setCell ⟨B, 4, none⟩ v) base B S' (insD D c k)) ∧ Below base W (w3.setCell ⟨B, 4, none⟩ v) := by
  have hlt := h.lt
  have hle := h.le
  have hz := hb0.size
  have hb2 : Below W.heap.size W w3 := hb0.trans (hb.mono hz)
  have hv := h.below hb2
  have hl : (sl' c).toNat ≤ maxLen := by have := (sl_bd c).2; unfold maxLen; omega
  have hr1 := own_base (own_below (own_made (base := g1) r1 (Nat.le_refl _) hl) hb) h1
  have hr2 := own_base (own_below (own_made (base := g2) r2 (Nat.le_refl _) hl) hb) h2
  have hx := hv.ins (n0 := W.heap.size) (fun q hq => (h.own.lt q hq).2) hlt (p := (.slice (some ⟨g1, 0, none⟩) (sl' c).toNat (sl' c).toNat, .slice (some ⟨g2, 0, none⟩) (sl' c).toNat (sl' c).toNat)) (s := freshS D c k) hk (own_base hr hz)
    (by simpa [freshS] using hr1) (by simpa [freshS] using hr2) (fun q hq e => ne (by simp [Value.ownBlock] at hq e; omega))
  exact ⟨⟨_, hx.1⟩, (hb2.mono (by omega)).trans hx.2⟩
theorem own_at {w : World} {b sz n q : Nat} {t : TypeId} {x : Value} {xs : List Value} (h : w.ownsRow b t sz x n xs) (hq : x.ownBlock = some q) : ∃ cur, w.heap[q]? = some (.cells cur t (0, 0)) := by
  rcases h.2 with ⟨rfl, _⟩ | ⟨g, cap, cur, rfl, _, hg, _⟩
  · cases hq
  · obtain rfl : g = q := by simpa [Value.ownBlock] using hq
    exact ⟨cur, hg⟩
/-- A block of another type is none of the World's. -/
theorem VarW.other {w : World} {base B R : Nat} {S : Shape} {D : WD} {cs : Array Value} {T : TypeId} (h : VarW w base B S D) (hR : w.heap[R]? = some (.cells cs T (0, 0))) (h1 : T ≠ 3) (h2 : T ≠ 4) (h3 : T ≠ 79) (h4 : T ≠ 69) : R ∉ blks S.all := by
  intro hm
  obtain ⟨x, hx, hxR⟩ := List.mem_filterMap.1 hm
  have key : ∀ {t : TypeId}, Typ w x t → T = t := fun ⟨_, _, _, _, ht⟩ => by
    obtain ⟨cur, hc⟩ := own_at ht hxR
    rw [hR] at hc
    cases hc
    rfl
  have ho := h.own
  simp only [Shape.all, List.mem_append, List.mem_cons, List.not_mem_nil, or_false] at hx
  rcases hx with (((rfl | rfl) | (rfl | hx)) | (rfl | hx)) | rfl
  · exact h1 (key ⟨_, _, _, _, ho.words⟩)
  · exact h2 (key ⟨_, _, _, _, ho.dirty⟩)
  · exact h3 (key ⟨_, _, _, _, ho.spans⟩)
  · exact h1 (key (ho.tS x hx))
  · exact h4 (key ⟨_, _, _, _, ho.muts⟩)
  · exact h1 (key (ho.tM x hx))
  · exact h1 (key ⟨_, _, _, _, ho.grey⟩)
/-- What freePlace answers, and what becomes of the variable. -/
def FreeAt (D : WD) (c : Int) (base B : Nat) (S : Shape) (e : Ending) (w' : World) : Prop :=
  (∃ D1 k j S', PlaceIs D c D1 k j ∧ e = .returned (.tuple #[.agg #[.int .i64 (k : Int), .int .i64 (j : Int)], .bool true]) ∧ VarW w' base B S' D1) ∨
  (NoPlace D c ∧ e = .returned (.tuple #[.agg #[.int .i64 0, .int .i64 0], .bool false]) ∧ VarW w' base B S D)

set_option maxRecDepth 100000 in
set_option maxHeartbeats 16000000 in
theorem freePlace_any (base B : Nat) (S : Shape) (D : WD) (c : Int) (hls : D.spans.length ≤ 1000) (w : World) (h : VarW w base B S D) :
    Calls Try.prog 72 #[.pointer (some ⟨B, 0, none⟩), .int .i64 c] w fun e w' => FreeAt D c base B S e w' ∧ Below base w w' := by
  have bb := below_box w (.cells #[.int .i64 0, .int .i64 0] 93)
  have bn := Lib.hid (box_new w (.cells #[.int .i64 0, .int .i64 0] 93))
  have hv := Lib.hid (h.below bb)
  obtain ⟨aS, cS, hgs⟩ := own_slice h.own.spans
  have hgs' := Lib.hid hgs
  have hsrc := hv.out.own.ownS
  rw [hgs] at hsrc
  have hsrc' := Lib.hid (own_src hsrc)
  have hrd := hv.out.rd.parts.2.2.1
  rw [hgs] at hrd
  have hat := Lib.hid (fun k s hk => hrd.at_ k s hk)
  have g1 := hv.out.cell 1 (.int .i64 D.pages) rfl
  have g4 := hv.out.cell 4 (.slice aS D.spans.length cS) (by rw [← hgs]; rfl)
  have g6 := hv.out.cell 6 (.int .i64 D.phase) rfl
  have f4 := Lib.hid (hv.out.frz 4)
  have hle := Lib.hid h.le
  have hBlt := h.lt
  have hown := Lib.hid h.own.lt
  have hbase := Lib.hid (show Below base w (w.alloc (.cells #[.int .i64 0, .int .i64 0] 93)) from bb.mono (by have := h.le; omega))
  have hwz := Lib.hid (show (w.alloc (.cells #[.int .i64 0, .int .i64 0] 93)).heap.size = w.heap.size + 1 by simp)
  have hns := sl_bd c
  obtain ⟨ns, hns'⟩ := Int.eq_ofNat_of_zero_le hns.1
  have hn16 : ns ≤ 16 := by omega
  have hsl := Lib.hid (fun w => slots_eq hns' w)
  have hnn := Lib.hid (show (sl' c).toNat = ns by omega)
  clear h hsrc hgs hrd hns hns' bb
  go_enter Try.func72, Try.ntmps72
  go_wp2_with fail
  generalize w.alloc (.cells #[.int .i64 0, .int .i64 0] 93) = W at *
  go_loop [14] (fun i => ∃ i' : Nat, i' ≤ D.spans.length ∧ i = .int .i64 i' ∧ Hid (FullUp D c i')) (fun i => D.spans.length - (intOf i).toNat)
  case atStart => exact ⟨0, Nat.zero_le _, rfl, fun i s hi => absurd hi (by omega)⟩
  case round =>
    obtain ⟨i, hi, rfl, hfu⟩ := hrel
    by_cases hil : i < D.spans.length
    · obtain ⟨s, hks⟩ : ∃ s, D.spans[i]? = some s := ⟨_, List.getElem?_eq_getElem hil⟩
      have hil1 : (i : Int) < (D.spans.length : Int) := by omega
      obtain ⟨b1, o1, rfl, hrs⟩ := hat.out i s hks
      have hfs := Lib.hid (freeSlot_any b1 (o1 + i * 6) s W hrs)
      obtain ⟨vl, vp, _, x1, _⟩ := hrs
      have hks' := Lib.hid hks
      clear hks
      have hfc := Lib.hid (freeS_cases s)
      go_wp2_with fail
      refine hfs.out.mono ?_
      rintro e w' ⟨rfl, rfl⟩
      by_cases hcc : s.cls = c
      · have hcb : (s.cls == c) = true := beq_iff_eq.2 hcc
        rcases hfc.out with ⟨j, hj, hjl, hj0, hjb⟩ | ⟨hj, hno⟩
        · have y := Lib.hid (show PlaceIs D c D i j from .inl ⟨rfl, s, hks'.out, hcc, hjl, hj0, hjb, hfu.out⟩)
          have bnc := bn.out
          have q0 := cell_of_heap bnc 0 _ rfl
          have q1 := cell_of_heap bnc 1 _ rfl
          have z0 := frozen_of_heap bnc 0
          have z1 := frozen_of_heap bnc 1
          rw [hj]
          clear hcc hj hjl hj0 hjb bnc
          go_wp2_with fail
          refine bodyPost_ret (v := .tuple #[.agg #[.int .i64 (i : Int), .int .i64 (j : Int)], .bool true]) (by simp [results, Try.results72, go_sem, q0, q1]) rfl ?_
          have cc := ((Chg.refl [w.heap.size] W).put (b := w.heap.size) (by simp) 0 (.int .i64 (i : Int))).put (b := w.heap.size) (by simp) 1 (.int .i64 (j : Int))
          exact ⟨.inl ⟨D, i, j, S, y.out, rfl, hv.out.chg cc (fun q hq hm => by have := (hown.out q hq).2; rw [List.mem_singleton.1 hm] at this; omega) (fun hm => by have := List.mem_singleton.1 hm; omega)⟩, Chg.below hbase.out cc (by have := hbase.out.size; have := hle.out; omega) (fun q hq => by rw [List.mem_singleton.1 hq]; have := hle.out; omega)⟩
        · have y := Lib.hid (fullUp_next hfu.out hks'.out fun _ => hno)
          rw [hj]
          clear hcc hj hno
          go_wp2_with fail
          go_round
          case rel => exact ⟨i + 1, by omega, by go_num, y⟩
          case measure => simp [intOf]; omega
      · have hcb : (s.cls == c) = false := beq_eq_false_iff_ne.2 hcc
        have y := Lib.hid (fullUp_next hfu.out hks'.out fun h => absurd h hcc)
        clear hcc
        generalize freeS s = fs at *
        go_wp2_with fail
        go_round
        case rel => exact ⟨i + 1, by omega, by go_num, y⟩
        case measure => simp [intOf]; omega
    · obtain rfl : i = D.spans.length := by omega
      have hfp := Lib.hid (freePage_any B _ D W hv.out.rd hv.out.boxW)
      go_wp2_with fail
      refine hfp.out.mono ?_
      rintro e w' ⟨⟨k, hk, rfl⟩, rfl⟩
      have bnc := bn.out
      have q0 := cell_of_heap bnc 0 _ rfl
      have q1 := cell_of_heap bnc 1 _ rfl
      have z0 := frozen_of_heap bnc 0
      have z1 := frozen_of_heap bnc 1
      by_cases hkp : (k : Int) = D.pages
      · have y := Lib.hid (show NoPlace D c from ⟨hfu.out, k, hk.out, hkp⟩)
        rw [← hkp] at g1
        clear hkp bnc
        go_wp2_with fail
        refine bodyPost_ret (v := .tuple #[.agg #[.int .i64 0, .int .i64 0], .bool false]) (by simp [results, Try.results72, go_sem, q0, q1]) rfl ?_
        have cc := ((Chg.refl [w.heap.size] W).put (b := w.heap.size) (by simp) 0 (.int .i64 0)).put (b := w.heap.size) (by simp) 1 (.int .i64 0)
        exact ⟨.inr ⟨y.out, rfl, hv.out.chg cc (fun q hq hm => by have := (hown.out q hq).2; rw [List.mem_singleton.1 hm] at this; omega) (fun hm => by have := List.mem_singleton.1 hm; omega)⟩, Chg.below hbase.out cc (by have := hbase.out.size; have := hle.out; omega) (fun q hq => by rw [List.mem_singleton.1 hq]; have := hle.out; omega)⟩
      · have hkb : ((k : Int) == D.pages) = false := beq_eq_false_iff_ne.2 hkp
        have y := Lib.hid (show PlaceIs D c (insD D c k) k 0 from .inr ⟨hfu.out, hk.out, hkp, rfl, rfl⟩)
        have hkl := hk.out.1
        have hmk : ∀ (w : World), (Instr.makeSlice 25 (.int .i64 (ns : Int)) (.int .i64 (ns : Int))).run Try.prog w = .ok (.slice (some ⟨w.heap.size, 0, none⟩) ns ns) (w.alloc (.cells (madeCells #[.int .i64 0] ns) 3)) := run_make_row' (P := Try.prog) 25 3 (.int .i64 0) 8 Try.underlying25 infoInt rfl .i64 .i64 ns (by omega) (by omega)
        have g6a : ∀ a, (W.alloc a).cell? ⟨B, 6, none⟩ = some (.int .i64 D.phase) := fun a => cell_below (below_box _ _) g6
        have g6b : ∀ a b, ((W.alloc a).alloc b).cell? ⟨B, 6, none⟩ = some (.int .i64 D.phase) := fun a b => cell_below (below_box _ _) (g6a a)
        have g4a : ∀ a, (W.alloc a).cell? ⟨B, 4, none⟩ = some (.slice aS D.spans.length cS) := fun a => cell_below (below_box _ _) g4
        have g4b : ∀ a b, ((W.alloc a).alloc b).cell? ⟨B, 4, none⟩ = some (.slice aS D.spans.length cS) := fun a b => cell_below (below_box _ _) (g4a a)
        have hsb := Lib.hid (show Below W.heap.size W ((W.alloc (.cells (madeCells #[.int .i64 0] ns) 3)).alloc (.cells (madeCells #[.int .i64 0] ns) 3)) from below_trans (below_box W _) (below_box _ _))
        have hsw := Lib.hid (hsrc'.out.2.2.2.below hsb.out)
        have hms1 := Lib.hid (show ((W.alloc (.cells (madeCells #[.int .i64 0] ns) 3)).alloc (.cells (madeCells #[.int .i64 0] ns) 3)).heap[W.heap.size]? = some (.cells (madeCells #[.int .i64 0] ns) 3 (0, 0)) from heap_below (below_box _ _) (box_new W _))
        have hms2 := Lib.hid (show ((W.alloc (.cells (madeCells #[.int .i64 0] ns) 3)).alloc (.cells (madeCells #[.int .i64 0] ns) 3)).heap[W.heap.size + 1]? = some (.cells (madeCells #[.int .i64 0] ns) 3 (0, 0)) from by have := box_new (W.alloc (.cells (madeCells #[.int .i64 0] ns) 3)) (.cells (madeCells #[.int .i64 0] ns) 3); rwa [World.size_alloc] at this)
        have hwith := Lib.hid (fun (a3 a4 : Option Addr) (w : World) h => withSpan_any aS D.spans.length cS k (flatV D.spans S.sv) (freshS D c k) a3 a4 ns ns ns ns hsrc'.out.2.1 hsrc'.out.2.2.1 hls hkl w h)
        have F1 := Lib.hid (show ∀ (v : Value) (w3 : World), Below ((W.alloc (.cells (madeCells #[.int .i64 0] ns) 3)).alloc (.cells (madeCells #[.int .i64 0] ns) 3)).heap.size ((W.alloc (.cells (madeCells #[.int .i64 0] ns) 3)).alloc (.cells (madeCells #[.int .i64 0] ns) 3)) w3 → w3.ownsRow ((W.alloc (.cells (madeCells #[.int .i64 0] ns) 3)).alloc (.cells (madeCells #[.int .i64 0] ns) 3)).heap.size 79 6 v (D.spans.length + 1) ((flatV D.spans S.sv).take (k * 6) ++ spanCv (freshS D c k) (.slice (some ⟨W.heap.size, 0, none⟩) ns ns, .slice (some ⟨W.heap.size + 1, 0, none⟩) ns ns) ++ (flatV D.spans S.sv).drop (k * 6)) → (∃ S', VarW (w3.setCell ⟨B, 4, none⟩ v) base B S' (insD D c k)) ∧ Below base W (w3.setCell ⟨B, 4, none⟩ v) from
          fun v w3 hb hr => page_fin2 (g1 := W.heap.size) (g2 := W.heap.size + 1) hv.out hkl hsb.out (by rw [hnn.out]; exact hms1.out) (by rw [hnn.out]; exact hms2.out) (by omega) (by omega) (by omega) hb (by rw [hnn.out]; exact hr))
        have F2 := Lib.hid (show ∀ (v : Value) (w3 : World), Below ((W.alloc (.cells (madeCells #[.int .i64 0] ns) 3)).alloc (.cells (madeCells #[.int .i64 0] ns) 3)).heap.size ((W.alloc (.cells (madeCells #[.int .i64 0] ns) 3)).alloc (.cells (madeCells #[.int .i64 0] ns) 3)) w3 → w3.ownsRow ((W.alloc (.cells (madeCells #[.int .i64 0] ns) 3)).alloc (.cells (madeCells #[.int .i64 0] ns) 3)).heap.size 79 6 v (D.spans.length + 1) ((flatV D.spans S.sv).take (k * 6) ++ spanCv (freshS D c k) (.slice (some ⟨W.heap.size + 1, 0, none⟩) ns ns, .slice (some ⟨W.heap.size, 0, none⟩) ns ns) ++ (flatV D.spans S.sv).drop (k * 6)) → (∃ S', VarW (w3.setCell ⟨B, 4, none⟩ v) base B S' (insD D c k)) ∧ Below base W (w3.setCell ⟨B, 4, none⟩ v) from
          fun v w3 hb hr => page_fin2 (g1 := W.heap.size + 1) (g2 := W.heap.size) hv.out hkl hsb.out (by rw [hnn.out]; exact hms2.out) (by rw [hnn.out]; exact hms1.out) (by omega) (by omega) (by omega) hb (by rw [hnn.out]; exact hr))
        have g4W := Lib.hid g4
        have hk' := Lib.hid hkl
        clear hkp hkl bnc
        go_upto_region 11 with fail
        go_cut [8] (fun q wx => q = .int .i64 k ∧ Hid (∃ S', VarW wx base B S' (insD D c k)) ∧ Hid (Below base W wx) ∧ Hid (wx.heap[w.heap.size]? = some (.cells #[.int .i64 0, .int .i64 0] 93 (0, 0))))
        case first =>
          clear hat g1 q0 q1 z0 z1 hkb hfu y hk hms1 hms2 hown hbase hle hnn hsrc' hk' hgs' hls hfp hi
          have h0 : W.drew.cell? ⟨B, 4, none⟩ = some (.slice aS D.spans.length cS) ∧ W.drew.cell? ⟨B, 6, none⟩ = some (.int .i64 D.phase) := ⟨g4, g6⟩
          refine wp_region_late (fun w' => w'.cell? ⟨B, 4, none⟩ = some (.slice aS D.spans.length cS) ∧ w'.cell? ⟨B, 6, none⟩ = some (.int .i64 D.phase)) (fun j => j == 21 || j == 24) (by kernel_rfl) ?_
          refine wpLate_free (i := 0) (v := ?vq1) rfl (by kernel_rfl) (by kernel_rfl) (by kernel_rfl) rfl (fun _ _ _ h => h) (Or.inl ⟨by rfl, ?hyq1⟩) (fun _ => h0) ?restq1
          case hyq1 => (intro w _; go_simp; try with_reducible rfl)
          try simp only [Act.put, List.setIfInBounds_toArray, List.set_cons_zero, List.set_cons_succ]
          refine wpLate_free (i := 1) (v := ?vq2) rfl (by kernel_rfl) (by kernel_rfl) (by kernel_rfl) rfl (fun _ _ _ h => h) (Or.inl ⟨by rfl, ?hyq2⟩) (fun _ => h0) ?restq2
          case hyq2 => (intro w _; go_simp; try with_reducible rfl)
          try simp only [Act.put, List.setIfInBounds_toArray, List.set_cons_zero, List.set_cons_succ]
          refine wpLate_free (i := 2) (v := ?vq3) rfl (by kernel_rfl) (by kernel_rfl) (by kernel_rfl) rfl (fun _ _ _ h => h) (Or.inl ⟨by rfl, ?hyq3⟩) (fun _ => h0) ?restq3
          case hyq3 => (intro w _; go_simp; try with_reducible rfl)
          try simp only [Act.put, List.setIfInBounds_toArray, List.set_cons_zero, List.set_cons_succ]
          refine wpLate_free (i := 3) (v := ?vq4) rfl (by kernel_rfl) (by kernel_rfl) (by kernel_rfl) rfl (fun _ _ _ h => h) (Or.inl ⟨by rfl, ?hyq4⟩) (fun _ => h0) ?restq4
          case hyq4 => (intro w _; go_simp; try with_reducible rfl)
          try simp only [Act.put, List.setIfInBounds_toArray, List.set_cons_zero, List.set_cons_succ]
          refine wpLate_take (i := 4) (v := ?vq5) rfl (by kernel_rfl) (by kernel_rfl) (by kernel_rfl) (by kernel_rfl) (fun j hj => by simp at hj; rcases hj with rfl | rfl <;> kernel_rfl) (fun _ _ _ h => h) (Or.inl ⟨by rfl, ?hyq5⟩) (by exact h0) ?restq5
          case hyq5 => (intro w hSw; (try dsimp only at hSw); obtain ⟨s4, s6⟩ := hSw; go_simp; try with_reducible rfl)
          try simp only [Act.put, List.setIfInBounds_toArray, List.set_cons_zero, List.set_cons_succ]
          refine wpLate_free (i := 5) (v := ?vq6) rfl (by kernel_rfl) (by kernel_rfl) (by kernel_rfl) rfl (fun _ _ _ h => h) (Or.inl ⟨by rfl, ?hyq6⟩) (fun _ => h0) ?restq6
          case hyq6 => (intro w _; go_simp; try with_reducible rfl)
          try simp only [Act.put, List.setIfInBounds_toArray, List.set_cons_zero, List.set_cons_succ]
          refine wpLate_free (i := 6) (v := ?vq7) rfl (by kernel_rfl) (by kernel_rfl) (by kernel_rfl) rfl (fun _ _ _ h => h) (Or.inl ⟨by rfl, ?hyq7⟩) (fun _ => h0) ?restq7
          case hyq7 => (intro w _; go_simp; try with_reducible rfl)
          try simp only [Act.put, List.setIfInBounds_toArray, List.set_cons_zero, List.set_cons_succ]
          refine wpLate_free (i := 7) (v := ?vq8) rfl (by kernel_rfl) (by kernel_rfl) (by kernel_rfl) rfl (fun _ _ _ h => h) (Or.inl ⟨by rfl, ?hyq8⟩) (fun _ => h0) ?restq8
          case hyq8 => (intro w _; go_simp; try with_reducible rfl)
          try simp only [Act.put, List.setIfInBounds_toArray, List.set_cons_zero, List.set_cons_succ]
          refine wpLate_free (i := 8) (v := ?vq9) rfl (by kernel_rfl) (by kernel_rfl) (by kernel_rfl) rfl (fun _ _ _ h => h) (Or.inl ⟨by rfl, ?hyq9⟩) (fun _ => h0) ?restq9
          case hyq9 => (intro w _; go_simp; try with_reducible rfl)
          try simp only [Act.put, List.setIfInBounds_toArray, List.set_cons_zero, List.set_cons_succ]
          refine wpLate_free (i := 9) (v := ?vq10) rfl (by kernel_rfl) (by kernel_rfl) (by kernel_rfl) rfl (fun _ _ _ h => h) (Or.inl ⟨by rfl, ?hyq10⟩) (fun _ => h0) ?restq10
          case hyq10 => (intro w _; go_simp; try with_reducible rfl)
          try simp only [Act.put, List.setIfInBounds_toArray, List.set_cons_zero, List.set_cons_succ]
          refine wpLate_free (i := 10) (v := ?vq11) rfl (by kernel_rfl) (by kernel_rfl) (by kernel_rfl) rfl (fun _ _ _ h => h) (Or.inl ⟨by rfl, ?hyq11⟩) (fun _ => h0) ?restq11
          case hyq11 => (intro w _; go_simp; try with_reducible rfl)
          try simp only [Act.put, List.setIfInBounds_toArray, List.set_cons_zero, List.set_cons_succ]
          refine wpLate_free (i := 11) (v := ?vq12) rfl (by kernel_rfl) (by kernel_rfl) (by kernel_rfl) rfl (fun _ _ _ h => h) (Or.inl ⟨by rfl, ?hyq12⟩) (fun _ => h0) ?restq12
          case hyq12 => (intro w _; go_simp; try with_reducible rfl)
          try simp only [Act.put, List.setIfInBounds_toArray, List.set_cons_zero, List.set_cons_succ]
          refine wpLate_take (i := 12) (v := ?vq13) rfl (by kernel_rfl) (by kernel_rfl) (by kernel_rfl) (by kernel_rfl) (fun j hj => by simp at hj; rcases hj with rfl | rfl <;> kernel_rfl) (fun _ _ _ h => h) (Or.inl ⟨by rfl, ?hyq13⟩) (by exact h0) ?restq13
          case hyq13 => (intro w hSw; (try dsimp only at hSw); obtain ⟨s4, s6⟩ := hSw; go_simp; try with_reducible rfl)
          try simp only [Act.put, List.setIfInBounds_toArray, List.set_cons_zero, List.set_cons_succ]
          refine wpLate_free (i := 13) (v := ?vq14) rfl (by kernel_rfl) (by kernel_rfl) (by kernel_rfl) rfl (fun _ _ _ h => h) (Or.inl ⟨by rfl, ?hyq14⟩) (fun _ => h0) ?restq14
          case hyq14 => (intro w _; go_simp; try with_reducible rfl)
          try simp only [Act.put, List.setIfInBounds_toArray, List.set_cons_zero, List.set_cons_succ]
          refine wpLate_free (i := 14) (v := ?vq15) rfl (by kernel_rfl) (by kernel_rfl) (by kernel_rfl) rfl (fun _ _ _ h => h) (Or.inl ⟨by rfl, ?hyq15⟩) (fun _ => h0) ?restq15
          case hyq15 => (intro w _; go_simp; try with_reducible rfl)
          try simp only [Act.put, List.setIfInBounds_toArray, List.set_cons_zero, List.set_cons_succ]
          refine wpLate_free (i := 17) (v := ?vq16) rfl (by kernel_rfl) (by kernel_rfl) (by kernel_rfl) rfl (fun _ _ _ h => h) (Or.inl ⟨by rfl, ?hyq16⟩) (fun _ => h0) ?restq16
          case hyq16 => (intro w _; go_simp; try with_reducible rfl)
          try simp only [Act.put, List.setIfInBounds_toArray, List.set_cons_zero, List.set_cons_succ]
          refine wpLate_all (rs := [15]) (by kernel_rfl) (by simp) ?_
          intro i hi
          simp only [List.mem_cons, List.not_mem_nil, or_false] at hi
          subst hi
          refine wpLate_step (i := 15) rfl (fun K hK => ?_)
          go_simp
          go_wp2_with (go_at_call 135; refine (hsl.out _).mono ?_; rintro e w' ⟨rfl, rfl⟩)
          refine hK.out _ _ (fun _ => (by first | exact ⟨g4, g6⟩ | exact ⟨g4a _, g6a _⟩ | exact ⟨g4b _ _, g6b _ _⟩)) ?_
          clear hK K
          try simp only [Act.put, List.setIfInBounds_toArray, List.set_cons_zero, List.set_cons_succ]
          refine wpLate_all (rs := [16, 18]) (by kernel_rfl) (by simp) ?_
          intro i hi
          simp only [List.mem_cons, List.not_mem_nil, or_false] at hi
          rcases hi with rfl | rfl
          · skip
            refine wpLate_step (i := 16) rfl (fun K hK => ?_)
            go_simp
            refine hK.out _ _ (fun _ => (by first | exact ⟨g4, g6⟩ | exact ⟨g4a _, g6a _⟩ | exact ⟨g4b _ _, g6b _ _⟩)) ?_
            clear hK K
            try simp only [Act.put, List.setIfInBounds_toArray, List.set_cons_zero, List.set_cons_succ]
            refine wpLate_all (rs := [18]) (by kernel_rfl) (by simp) ?_
            intro i hi
            simp only [List.mem_cons, List.not_mem_nil, or_false] at hi
            subst hi
            refine wpLate_step (i := 18) rfl (fun K hK => ?_)
            go_simp
            go_wp2_with (go_at_call 135; refine (hsl.out _).mono ?_; rintro e w' ⟨rfl, rfl⟩)
            refine hK.out _ _ (fun _ => (by first | exact ⟨g4, g6⟩ | exact ⟨g4a _, g6a _⟩ | exact ⟨g4b _ _, g6b _ _⟩)) ?_
            clear hK K
            try simp only [Act.put, List.setIfInBounds_toArray, List.set_cons_zero, List.set_cons_succ]
            refine wpLate_all (rs := [19]) (by kernel_rfl) (by simp) ?_
            intro i hi
            simp only [List.mem_cons, List.not_mem_nil, or_false] at hi
            subst hi
            refine wpLate_step (i := 19) rfl (fun K hK => ?_)
            go_simp
            refine hK.out _ _ (fun _ => (by first | exact ⟨g4, g6⟩ | exact ⟨g4a _, g6a _⟩ | exact ⟨g4b _ _, g6b _ _⟩)) ?_
            clear hK K
            try simp only [Act.put, List.setIfInBounds_toArray, List.set_cons_zero, List.set_cons_succ]
            refine wpLate_free (i := 20) (v := ?vq17) rfl (by kernel_rfl) (by kernel_rfl) (by kernel_rfl) rfl (fun _ _ _ h => h) (Or.inl ⟨by rfl, ?hyq17⟩) (fun _ => (by first | exact ⟨g4, g6⟩ | exact ⟨g4a _, g6a _⟩ | exact ⟨g4b _ _, g6b _ _⟩)) ?restq17
            case hyq17 => (intro w _; go_simp; try with_reducible rfl)
            try simp only [Act.put, List.setIfInBounds_toArray, List.set_cons_zero, List.set_cons_succ]
            refine wpLate_all (rs := [21]) (by kernel_rfl) (by simp) ?_
            intro i hi
            simp only [List.mem_cons, List.not_mem_nil, or_false] at hi
            subst hi
            refine wpLate_step (i := 21) rfl (fun K hK => ?_)
            go_simp
            go_wp2_with (go_at_call 134; refine (hwith.out _ _ _ ?_).mono ?_; (first | exact hsw.out | exact hsw.out.drew); rintro e w3 ⟨v, rfl, hr, hb⟩; obtain ⟨a9, c9, rfl⟩ := own_slice hr; have hb' := (show Below ((W.alloc (.cells (madeCells #[.int .i64 0] ns) 3)).alloc (.cells (madeCells #[.int .i64 0] ns) 3)).heap.size ((W.alloc (.cells (madeCells #[.int .i64 0] ns) 3)).alloc (.cells (madeCells #[.int .i64 0] ns) 3)) w3 from ⟨hb.os, hb.tape, hb.output, hb.size, hb.block⟩); (first | (have hf := Lib.hid (F1.out _ w3 hb' hr)) | (have hf := Lib.hid (F2.out _ w3 hb' hr))); have g4c := cell_below (below_trans hsb.out hb') g4W.out; have f4c : w3.frozen? ⟨B, 4, none⟩ = false := (World.frozen?_of_block ((below_trans hsb.out hb').block B (by have := hwz.out; omega))).trans f4.out; have bnz := Lib.hid (heap_below (below_trans hsb.out hb') bn.out); clear hr hb hb')
            refine hK.out _ _ (fun h => Bool.noConfusion ((h 21 (by kernel_rfl)).symm.trans (show _ = true by kernel_rfl))) ?_
            clear hK K
            try simp only [Act.put, List.setIfInBounds_toArray, List.set_cons_zero, List.set_cons_succ]
            refine wpLate_free (i := 22) (v := ?vq18) rfl (by kernel_rfl) (by kernel_rfl) (by kernel_rfl) rfl (fun _ _ _ h => h) (Or.inl ⟨by rfl, ?hyq18⟩) (fun h => Bool.noConfusion ((h 21 (by kernel_rfl)).symm.trans (show _ = true by kernel_rfl))) ?restq18
            case hyq18 => (intro w _; go_simp; try with_reducible rfl)
            try simp only [Act.put, List.setIfInBounds_toArray, List.set_cons_zero, List.set_cons_succ]
            refine wpLate_free (i := 23) (v := ?vq19) rfl (by kernel_rfl) (by kernel_rfl) (by kernel_rfl) rfl (fun _ _ _ h => h) (Or.inl ⟨by rfl, ?hyq19⟩) (fun h => Bool.noConfusion ((h 21 (by kernel_rfl)).symm.trans (show _ = true by kernel_rfl))) ?restq19
            case hyq19 => (intro w _; go_simp; try with_reducible rfl)
            try simp only [Act.put, List.setIfInBounds_toArray, List.set_cons_zero, List.set_cons_succ]
            refine wpLate_all (rs := [24]) (by kernel_rfl) (by simp) ?_
            intro i hi
            simp only [List.mem_cons, List.not_mem_nil, or_false] at hi
            subst hi
            refine wpLate_step (i := 24) rfl (fun K hK => ?_)
            go_simp
            refine hK.out _ _ (fun h => Bool.noConfusion ((h 21 (by kernel_rfl)).symm.trans (show _ = true by kernel_rfl))) ?_
            clear hK K
            try simp only [Act.put, List.setIfInBounds_toArray, List.set_cons_zero, List.set_cons_succ]
            refine wpLate_done (by kernel_rfl) ?_ _
            go_wp2_with fail
            go_meet
            exact ⟨rfl, hf.out.1, hf.out.2, (heap_setCell_other w3 ⟨B, 4, none⟩ w.heap.size _ (by show w.heap.size ≠ B; omega)).trans bnz.out⟩
          · skip
            refine wpLate_step (i := 18) rfl (fun K hK => ?_)
            go_simp
            go_wp2_with (go_at_call 135; refine (hsl.out _).mono ?_; rintro e w' ⟨rfl, rfl⟩)
            refine hK.out _ _ (fun _ => (by first | exact ⟨g4, g6⟩ | exact ⟨g4a _, g6a _⟩ | exact ⟨g4b _ _, g6b _ _⟩)) ?_
            clear hK K
            try simp only [Act.put, List.setIfInBounds_toArray, List.set_cons_zero, List.set_cons_succ]
            refine wpLate_all (rs := [16, 19]) (by kernel_rfl) (by simp) ?_
            intro i hi
            simp only [List.mem_cons, List.not_mem_nil, or_false] at hi
            rcases hi with rfl | rfl
            · skip
              refine wpLate_step (i := 16) rfl (fun K hK => ?_)
              go_simp
              refine hK.out _ _ (fun _ => (by first | exact ⟨g4, g6⟩ | exact ⟨g4a _, g6a _⟩ | exact ⟨g4b _ _, g6b _ _⟩)) ?_
              clear hK K
              try simp only [Act.put, List.setIfInBounds_toArray, List.set_cons_zero, List.set_cons_succ]
              refine wpLate_all (rs := [19]) (by kernel_rfl) (by simp) ?_
              intro i hi
              simp only [List.mem_cons, List.not_mem_nil, or_false] at hi
              subst hi
              refine wpLate_step (i := 19) rfl (fun K hK => ?_)
              go_simp
              refine hK.out _ _ (fun _ => (by first | exact ⟨g4, g6⟩ | exact ⟨g4a _, g6a _⟩ | exact ⟨g4b _ _, g6b _ _⟩)) ?_
              clear hK K
              try simp only [Act.put, List.setIfInBounds_toArray, List.set_cons_zero, List.set_cons_succ]
              refine wpLate_free (i := 20) (v := ?vq20) rfl (by kernel_rfl) (by kernel_rfl) (by kernel_rfl) rfl (fun _ _ _ h => h) (Or.inl ⟨by rfl, ?hyq20⟩) (fun _ => (by first | exact ⟨g4, g6⟩ | exact ⟨g4a _, g6a _⟩ | exact ⟨g4b _ _, g6b _ _⟩)) ?restq20
              case hyq20 => (intro w _; go_simp; try with_reducible rfl)
              try simp only [Act.put, List.setIfInBounds_toArray, List.set_cons_zero, List.set_cons_succ]
              refine wpLate_all (rs := [21]) (by kernel_rfl) (by simp) ?_
              intro i hi
              simp only [List.mem_cons, List.not_mem_nil, or_false] at hi
              subst hi
              refine wpLate_step (i := 21) rfl (fun K hK => ?_)
              go_simp
              go_wp2_with (go_at_call 134; refine (hwith.out _ _ _ ?_).mono ?_; (first | exact hsw.out | exact hsw.out.drew); rintro e w3 ⟨v, rfl, hr, hb⟩; obtain ⟨a9, c9, rfl⟩ := own_slice hr; have hb' := (show Below ((W.alloc (.cells (madeCells #[.int .i64 0] ns) 3)).alloc (.cells (madeCells #[.int .i64 0] ns) 3)).heap.size ((W.alloc (.cells (madeCells #[.int .i64 0] ns) 3)).alloc (.cells (madeCells #[.int .i64 0] ns) 3)) w3 from ⟨hb.os, hb.tape, hb.output, hb.size, hb.block⟩); (first | (have hf := Lib.hid (F1.out _ w3 hb' hr)) | (have hf := Lib.hid (F2.out _ w3 hb' hr))); have g4c := cell_below (below_trans hsb.out hb') g4W.out; have f4c : w3.frozen? ⟨B, 4, none⟩ = false := (World.frozen?_of_block ((below_trans hsb.out hb').block B (by have := hwz.out; omega))).trans f4.out; have bnz := Lib.hid (heap_below (below_trans hsb.out hb') bn.out); clear hr hb hb')
              refine hK.out _ _ (fun h => Bool.noConfusion ((h 21 (by kernel_rfl)).symm.trans (show _ = true by kernel_rfl))) ?_
              clear hK K
              try simp only [Act.put, List.setIfInBounds_toArray, List.set_cons_zero, List.set_cons_succ]
              refine wpLate_free (i := 22) (v := ?vq21) rfl (by kernel_rfl) (by kernel_rfl) (by kernel_rfl) rfl (fun _ _ _ h => h) (Or.inl ⟨by rfl, ?hyq21⟩) (fun h => Bool.noConfusion ((h 21 (by kernel_rfl)).symm.trans (show _ = true by kernel_rfl))) ?restq21
              case hyq21 => (intro w _; go_simp; try with_reducible rfl)
              try simp only [Act.put, List.setIfInBounds_toArray, List.set_cons_zero, List.set_cons_succ]
              refine wpLate_free (i := 23) (v := ?vq22) rfl (by kernel_rfl) (by kernel_rfl) (by kernel_rfl) rfl (fun _ _ _ h => h) (Or.inl ⟨by rfl, ?hyq22⟩) (fun h => Bool.noConfusion ((h 21 (by kernel_rfl)).symm.trans (show _ = true by kernel_rfl))) ?restq22
              case hyq22 => (intro w _; go_simp; try with_reducible rfl)
              try simp only [Act.put, List.setIfInBounds_toArray, List.set_cons_zero, List.set_cons_succ]
              refine wpLate_all (rs := [24]) (by kernel_rfl) (by simp) ?_
              intro i hi
              simp only [List.mem_cons, List.not_mem_nil, or_false] at hi
              subst hi
              refine wpLate_step (i := 24) rfl (fun K hK => ?_)
              go_simp
              refine hK.out _ _ (fun h => Bool.noConfusion ((h 21 (by kernel_rfl)).symm.trans (show _ = true by kernel_rfl))) ?_
              clear hK K
              try simp only [Act.put, List.setIfInBounds_toArray, List.set_cons_zero, List.set_cons_succ]
              refine wpLate_done (by kernel_rfl) ?_ _
              go_wp2_with fail
              go_meet
              exact ⟨rfl, hf.out.1, hf.out.2, (heap_setCell_other w3 ⟨B, 4, none⟩ w.heap.size _ (by show w.heap.size ≠ B; omega)).trans bnz.out⟩
            · skip
              refine wpLate_step (i := 19) rfl (fun K hK => ?_)
              go_simp
              refine hK.out _ _ (fun _ => (by first | exact ⟨g4, g6⟩ | exact ⟨g4a _, g6a _⟩ | exact ⟨g4b _ _, g6b _ _⟩)) ?_
              clear hK K
              try simp only [Act.put, List.setIfInBounds_toArray, List.set_cons_zero, List.set_cons_succ]
              refine wpLate_all (rs := [16]) (by kernel_rfl) (by simp) ?_
              intro i hi
              simp only [List.mem_cons, List.not_mem_nil, or_false] at hi
              subst hi
              refine wpLate_step (i := 16) rfl (fun K hK => ?_)
              go_simp
              refine hK.out _ _ (fun _ => (by first | exact ⟨g4, g6⟩ | exact ⟨g4a _, g6a _⟩ | exact ⟨g4b _ _, g6b _ _⟩)) ?_
              clear hK K
              try simp only [Act.put, List.setIfInBounds_toArray, List.set_cons_zero, List.set_cons_succ]
              refine wpLate_free (i := 20) (v := ?vq23) rfl (by kernel_rfl) (by kernel_rfl) (by kernel_rfl) rfl (fun _ _ _ h => h) (Or.inl ⟨by rfl, ?hyq23⟩) (fun _ => (by first | exact ⟨g4, g6⟩ | exact ⟨g4a _, g6a _⟩ | exact ⟨g4b _ _, g6b _ _⟩)) ?restq23
              case hyq23 => (intro w _; go_simp; try with_reducible rfl)
              try simp only [Act.put, List.setIfInBounds_toArray, List.set_cons_zero, List.set_cons_succ]
              refine wpLate_all (rs := [21]) (by kernel_rfl) (by simp) ?_
              intro i hi
              simp only [List.mem_cons, List.not_mem_nil, or_false] at hi
              subst hi
              refine wpLate_step (i := 21) rfl (fun K hK => ?_)
              go_simp
              go_wp2_with (go_at_call 134; refine (hwith.out _ _ _ ?_).mono ?_; (first | exact hsw.out | exact hsw.out.drew); rintro e w3 ⟨v, rfl, hr, hb⟩; obtain ⟨a9, c9, rfl⟩ := own_slice hr; have hb' := (show Below ((W.alloc (.cells (madeCells #[.int .i64 0] ns) 3)).alloc (.cells (madeCells #[.int .i64 0] ns) 3)).heap.size ((W.alloc (.cells (madeCells #[.int .i64 0] ns) 3)).alloc (.cells (madeCells #[.int .i64 0] ns) 3)) w3 from ⟨hb.os, hb.tape, hb.output, hb.size, hb.block⟩); (first | (have hf := Lib.hid (F1.out _ w3 hb' hr)) | (have hf := Lib.hid (F2.out _ w3 hb' hr))); have g4c := cell_below (below_trans hsb.out hb') g4W.out; have f4c : w3.frozen? ⟨B, 4, none⟩ = false := (World.frozen?_of_block ((below_trans hsb.out hb').block B (by have := hwz.out; omega))).trans f4.out; have bnz := Lib.hid (heap_below (below_trans hsb.out hb') bn.out); clear hr hb hb')
              refine hK.out _ _ (fun h => Bool.noConfusion ((h 21 (by kernel_rfl)).symm.trans (show _ = true by kernel_rfl))) ?_
              clear hK K
              try simp only [Act.put, List.setIfInBounds_toArray, List.set_cons_zero, List.set_cons_succ]
              refine wpLate_free (i := 22) (v := ?vq24) rfl (by kernel_rfl) (by kernel_rfl) (by kernel_rfl) rfl (fun _ _ _ h => h) (Or.inl ⟨by rfl, ?hyq24⟩) (fun h => Bool.noConfusion ((h 21 (by kernel_rfl)).symm.trans (show _ = true by kernel_rfl))) ?restq24
              case hyq24 => (intro w _; go_simp; try with_reducible rfl)
              try simp only [Act.put, List.setIfInBounds_toArray, List.set_cons_zero, List.set_cons_succ]
              refine wpLate_free (i := 23) (v := ?vq25) rfl (by kernel_rfl) (by kernel_rfl) (by kernel_rfl) rfl (fun _ _ _ h => h) (Or.inl ⟨by rfl, ?hyq25⟩) (fun h => Bool.noConfusion ((h 21 (by kernel_rfl)).symm.trans (show _ = true by kernel_rfl))) ?restq25
              case hyq25 => (intro w _; go_simp; try with_reducible rfl)
              try simp only [Act.put, List.setIfInBounds_toArray, List.set_cons_zero, List.set_cons_succ]
              refine wpLate_all (rs := [24]) (by kernel_rfl) (by simp) ?_
              intro i hi
              simp only [List.mem_cons, List.not_mem_nil, or_false] at hi
              subst hi
              refine wpLate_step (i := 24) rfl (fun K hK => ?_)
              go_simp
              refine hK.out _ _ (fun h => Bool.noConfusion ((h 21 (by kernel_rfl)).symm.trans (show _ = true by kernel_rfl))) ?_
              clear hK K
              try simp only [Act.put, List.setIfInBounds_toArray, List.set_cons_zero, List.set_cons_succ]
              refine wpLate_done (by kernel_rfl) ?_ _
              go_wp2_with fail
              go_meet
              exact ⟨rfl, hf.out.1, hf.out.2, (heap_setCell_other w3 ⟨B, 4, none⟩ w.heap.size _ (by show w.heap.size ≠ B; omega)).trans bnz.out⟩
        case rest =>
          obtain ⟨rfl, hv2, hb2, bn2⟩ := hcut
          clear q0 q1 z0 z1 g6a g6b g4a g4b hmk
          have q0 := cell_of_heap bn2.out 0 _ rfl
          have q1 := cell_of_heap bn2.out 1 _ rfl
          have z0 := frozen_of_heap bn2.out 0
          have z1 := frozen_of_heap bn2.out 1
          obtain ⟨S2, hv3⟩ := hv2.out
          have hv3' := Lib.hid hv3
          clear hv3
          have hlt2 := Lib.hid (show w.heap.size < wc.heap.size from (Array.getElem?_eq_some_iff.1 bn2.out).1)
          go_wp2_with fail
          refine bodyPost_ret (v := .tuple #[.agg #[.int .i64 (k : Int), .int .i64 0], .bool true]) (by simp [results, Try.results72, go_sem, q0, q1]) rfl ?_
          have cc := ((Chg.refl [w.heap.size] wc).put (b := w.heap.size) (by simp) 0 (.int .i64 (k : Int))).put (b := w.heap.size) (by simp) 1 (.int .i64 0)
          have hwl := hb2.out.size
          exact ⟨.inl ⟨_, k, 0, S2, y.out, rfl, hv3'.out.chg cc (fun q hq hm => by rw [List.mem_singleton.1 hm] at hq; exact hv3'.out.other bn2.out (by decide) (by decide) (by decide) (by decide) hq) (fun hm => by have := List.mem_singleton.1 hm; omega)⟩, (hbase.out.trans hb2.out |> fun b => Chg.below b cc (by have := hwz.out; have := hle.out; omega) (fun q hq => by rw [List.mem_singleton.1 hq]; have := hle.out; omega))⟩
end Go.Proofs.Ytajogfnlbdiokaa

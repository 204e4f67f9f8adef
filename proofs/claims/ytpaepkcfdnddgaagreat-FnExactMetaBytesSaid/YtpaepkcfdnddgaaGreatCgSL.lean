import Derived.Test.YtpaepkcfdnddgaaGreatCgV

namespace Go.Proofs.YtpaepkcfdnddgaaGreat
open Go.RowKit
set_option linter.unusedVariables false
set_option linter.unusedSimpArgs false

theorem run_copy_rows {P : Program} (w : World) (dT sT ty elem : TypeId) (size g o dLen dCap : Nat) (a : Addr) (sLen sCap : Nat) (cur : Array Value) (t : TypeId) (cs : List Value)
    (hu : P.underlying dT = some (.slice elem)) (hs : (P.info? elem).map (·.size) = some size)
    (hg : w.heap[g]? = some (.cells cur t (0, 0))) (hn : cs.length = Nat.min sLen dLen * size)
    (hsrc : ∀ j v, cs[j]? = some v → w.cell? (a.add j) = some v) (hfit : o + cs.length ≤ cur.size) (h1 : ∀ v ∈ cs, v.oneCell' = true) :
    (Builtin.copy_ #[dT, sT] ty #[.slice (some ⟨g, o, none⟩) dLen dCap, .slice (some a) sLen sCap]).run P w =
      .ok (goInt (Nat.min sLen dLen)) (w.setRow g (cur.toList.take o ++ cs ++ cur.toList.drop (o + cs.length)).toArray) := by
  have hl := run_loadCells_list (P := P) w a cs hsrc
  have hst := run_storeCells_at P g o t cs 0 cur w hg (by simpa using hfit) h1
  cases hq : P.info? elem with
  | none => simp [hq] at hs
  | some i =>
    have hi : i.size = size := by simpa [hq] using hs
    simp [Builtin.copy_, run_underlying hu, Builtin.lenOf, Builtin.firstCells, sizeOf, typeInfo, hq, hi, ← hn, hl, hst]
theorem wpList_copy_rows {P : Program} {w : World} {ops : Array Oper} {rest : List Oper} {o : Oper} {a : Act} {Q : Exit → Act → World → Prop} (hgd : o.guard = none) (d s : Operand) (dT sT : TypeId)
    (ho : o.op = .call { callee := .builtin .copy, args := #[d, s], argTypes := #[dT, sT] }) (elem : TypeId) (size : Nat) (hu : P.underlying dT = some (.slice elem)) (hsz : (P.info? elem).map (·.size) = some size)
    (g off dLen dCap : Nat) (ad : Addr) (sLen sCap : Nat) (hd : a.eval d = .slice (some ⟨g, off, none⟩) dLen dCap) (hs : a.eval s = .slice (some ad) sLen sCap)
    (cur : Array Value) (t : TypeId) (hg : w.heap[g]? = some (.cells cur t (0, 0))) (cs : List Value) (hn : cs.length = Nat.min sLen dLen * size)
    (hsrc : ∀ j v, cs[j]? = some v → w.cell? (ad.add j) = some v) (hfit : off + cs.length ≤ cur.size) (h1 : ∀ v ∈ cs, v.oneCell' = true)
    (h : wpList P ops Q rest (a.put o.dst (goInt (Nat.min sLen dLen))) (w.setRow g (cur.toList.take off ++ (cs ++ cur.toList.drop (off + cs.length))).toArray)) : wpList P ops Q (o :: rest) a w := by
  refine wpList_plain hgd fun K hK => ?_
  have hrun := run_copy_rows (P := P) w dT sT o.type elem size g off dLen dCap ad sLen sCap cur t cs hu hsz hg hn hsrc hfit h1
  unfold Oper.wp
  simp [execOp, ho, resolve, invoke, builtin, hd, hs, hrun, Result.andThen]
  exact hK _ _ h

set_option maxRecDepth 100000 in
set_option maxHeartbeats 4000000 in
theorem listSpan_any (A : Option Addr) (n c : Nat) (news : List Value) (hs : n ≤ 1048576) (w : World) (h : SrcIs w A n 6 news) :
    Calls Tryz.prog 140 #[.slice A n c] w fun e w' => ∃ v, e = .returned v ∧ w'.ownsRow w.heap.size 73 6 v n news ∧ Below w.heap.size w w' := by
  by_cases hn : n = 0
  · subst hn
    obtain rfl : news = [] := List.length_eq_zero_iff.1 (by simpa using h.len)
    clear h
    go_enter Tryz.func140, Tryz.ntmps140
    go_wp2_with fail
    go_ret
    exact ⟨_, rfl, World.ownsRow_nil _ _ _ _, Below.refl _ _⟩
  · have hlen : news.length = n * 6 := h.len
    obtain ⟨ad, rfl⟩ : ∃ ad, A = some ad := by
      obtain ⟨a, e, _⟩ := h.at_ 0 news[0] (List.getElem?_eq_getElem (by omega))
      exact ⟨a, e⟩
    have h' := Lib.hid (h.below (below_box w (.cells (madeCells zero6.toArray (n * 6)) 73)))
    obtain ⟨i0, hi, hz0, hz1, hz2⟩ := info_parts infoSpan
    have mk : ∀ w : World, (Instr.makeSlice 32 (.int .i64 (n : Int)) (.int .i64 (n : Int))).run Tryz.prog w = .ok (.slice (some ⟨w.heap.size, 0, none⟩) n n) (w.alloc (.cells (madeCells zero6.toArray (n * 6)) 73)) := fun w => by
      have := run_make (P := Tryz.prog) w 32 73 i0 _ Tryz.underlying32 hi hz0 .i64 .i64 (n : Int) (n : Int) (by omega) (by omega) (by rw [hz2]; omega) (by omega)
      rw [this, hz1]
      simp [zero6, show (Value.agg #[.int .i64 0, .int .i64 0, .int .i64 0, .bool false, .slice none 0 0, .slice none 0 0]).cells = #[.int .i64 0, .int .i64 0, .int .i64 0, .bool false, .slice none 0 0, .slice none 0 0] from rfl]
    clear hi hz0 hz1 hz2
    have hlen' := Lib.hid hlen
    have hnz : ¬ (n : Int) = 0 := by omega
    clear h hlen
    go_enter Tryz.func140, Tryz.ntmps140
    go_wp2_with (first
      | (refine wpList_copy_rows rfl (.tmp 10) (.tmp 11) 32 32 rfl 73 6 Tryz.underlying32 (by kernel_rfl) w.heap.size 0 n n ad n c rfl rfl (madeCells zero6.toArray (n * 6)) 73 (box_new w _) news (by rw [hlen'.out, show Nat.min n n = n from Nat.min_self n]) (fun j u hj => (by obtain ⟨a, e, hc⟩ := h'.out.at_ j u hj; cases e; exact hc)) (by rw [hlen'.out]; simp [size_madeCells]) h'.out.one ?_))
    go_ret
    refine ⟨_, rfl, ⟨by simpa using hlen'.out, .inr ⟨w.heap.size, n, _, rfl, Nat.le_refl _, setRow_heap _ _ _ _ _ _ (box_new w _), Nat.le_refl _, by unfold maxLen; omega, ?_, ?_⟩⟩, below_setRow (below_box w _) (Nat.le_refl _) _⟩
    · simp [hlen'.out, size_madeCells]
    · have e : List.drop (n * 6) (madeCells zero6.toArray (n * 6)).toList = [] := List.drop_eq_nil_iff.2 (by simp [size_madeCells])
      have hl := hlen'.out
      rw [List.toList_toArray, hl, e, List.append_nil, List.take_of_length_le (by omega)]
end Go.Proofs.YtpaepkcfdnddgaaGreat

namespace Go.Proofs.YtpaepkcfdnddgaaGreat
open Go.RowKit
set_option linter.unusedVariables false

theorem RdS.src {w : World} {A : Option Addr} {c : Nat} {L : List SpanD} (h : RdS w (.slice A L.length c) L) : ∃ sv : List (Value × Value), sv.length = L.length ∧ SrcIs w A L.length 6 (flatV L sv) ∧
    ∀ (i : Nat) (s : SpanD) (p : Value × Value), L[i]? = some s → sv[i]? = some p → Rd w p.1 s.lens ∧ Rd w p.2 s.ptrs := by
  have key : ∀ i : Fin L.length, ∃ p : Value × Value, Rd w p.1 L[i].lens ∧ Rd w p.2 L[i].ptrs ∧ ∀ j u, (spanCv L[i] p)[j]? = some u → ∃ a, A = some a ∧ w.cell? (a.add (i.val * 6 + j)) = some u := fun i => by
    obtain ⟨b, off, rfl, vl, vp, x0, x1, x2, x3, x4, x5, hl, hp⟩ := h.at_ i.val L[i] (by simp)
    refine ⟨(vl, vp), hl, hp, fun j u hu => ⟨_, rfl, ?_⟩⟩
    rw [show (⟨b, off, none⟩ : Addr).add (i.val * 6 + j) = ⟨b, off + i.val * 6 + j, none⟩ by rw [Addr.add_lit, Nat.add_assoc]]
    have hj : j < 6 := by simpa [spanCv] using (List.getElem?_eq_some_iff.1 hu).1
    obtain rfl | rfl | rfl | rfl | rfl | rfl : j = 0 ∨ j = 1 ∨ j = 2 ∨ j = 3 ∨ j = 4 ∨ j = 5 := by omega
    · rw [← hu]; exact x0
    · rw [← hu]; exact x1
    · rw [← hu]; exact x2
    · rw [← hu]; exact x3
    · rw [← hu]; exact x4
    · rw [← hu]; exact x5
  obtain ⟨f, hf⟩ := Classical.axiomOfChoice key
  have hlen : (List.ofFn f).length = L.length := by simp
  have hat : ∀ (i : Nat) (hi : i < L.length), (List.ofFn f)[i]? = some (f ⟨i, hi⟩) := fun i hi => by simp [hi]
  refine ⟨List.ofFn f, hlen, ⟨by rw [flatV_len _ _ hlen], fun j u hu => ?_, ?_⟩, fun i s p hs hp => ?_⟩
  · have hj : j < L.length * 6 := by have := (List.getElem?_eq_some_iff.1 hu).1; rwa [flatV_len _ _ hlen] at this
    have hi : j / 6 < L.length := by omega
    have hm : j % 6 < 6 := Nat.mod_lt _ (by omega)
    have e : j / 6 * 6 + j % 6 = j := by omega
    have := flatV_at L (List.ofFn f) (j / 6) L[j / 6] (f ⟨j / 6, hi⟩) (by simp [hi]) (hat _ hi) (j % 6) hm
    rw [e, hu] at this
    have h3 := (hf ⟨j / 6, hi⟩).2.2 (j % 6) u this.symm
    simpa only [e] using h3
  · exact oneV L _ fun p hp => by
      obtain ⟨i, hi⟩ := List.mem_iff_getElem?.1 hp
      have hil : i < L.length := by have := (List.getElem?_eq_some_iff.1 hi).1; omega
      rw [hat i hil] at hi
      cases hi
      obtain ⟨⟨a, c, e, _⟩, ⟨a', c', e', _⟩, _⟩ := hf ⟨i, hil⟩
      exact ⟨by rw [e]; rfl, by rw [e']; rfl⟩
  · obtain ⟨hi, rfl⟩ := List.getElem?_eq_some_iff.1 hs
    rw [hat i hi] at hp
    cases hp
    exact ⟨(hf ⟨i, hi⟩).1, (hf ⟨i, hi⟩).2.1⟩
theorem RdM.src {w : World} {A : Option Addr} {c : Nat} {L : List (List Int)} (h : RdM w (.slice A L.length c) L) : ∃ mv : List Value, mv.length = L.length ∧ SrcIs w A L.length 1 mv ∧
    ∀ (i : Nat) (r : List Int) (u : Value), L[i]? = some r → mv[i]? = some u → Rd w u r := by
  obtain ⟨a, c', he, hl, hx⟩ := h
  obtain ⟨rfl, rfl⟩ : A = a ∧ c = c' := by simpa using he
  have key : ∀ i : Fin L.length, ∃ u : Value, Rd w u L[i] ∧ ∃ a, A = some a ∧ w.cell? (a.add i.val) = some u := fun i => by
    obtain ⟨b, off, vr, rfl, hc, hr⟩ := hx i.val L[i] (by simp)
    exact ⟨vr, hr, _, rfl, by rw [show (⟨b, off, none⟩ : Addr).add i.val = ⟨b, off + i.val, none⟩ from Addr.add_lit ..]; exact hc⟩
  obtain ⟨f, hf⟩ := Classical.axiomOfChoice key
  have hlen : (List.ofFn f).length = L.length := by simp
  have hat : ∀ (i : Nat) (hi : i < L.length), (List.ofFn f)[i]? = some (f ⟨i, hi⟩) := fun i hi => by simp [hi]
  refine ⟨List.ofFn f, hlen, ⟨by simp, fun j u hu => ?_, fun u hu => ?_⟩, fun i r u hr hu => ?_⟩
  · have hj : j < L.length := by have := (List.getElem?_eq_some_iff.1 hu).1; simpa using this
    rw [hat j hj] at hu
    cases hu
    exact (hf ⟨j, hj⟩).2
  · obtain ⟨i, hi⟩ := List.mem_iff_getElem?.1 hu
    have hil : i < L.length := by have := (List.getElem?_eq_some_iff.1 hi).1; omega
    rw [hat i hil] at hi
    cases hi
    obtain ⟨a, c, e, _⟩ := (hf ⟨i, hil⟩).1
    rw [e]
    rfl
  · obtain ⟨hi, rfl⟩ := List.getElem?_eq_some_iff.1 hr
    rw [hat i hi] at hu
    cases hu
    exact (hf ⟨i, hi⟩).1
end Go.Proofs.YtpaepkcfdnddgaaGreat

import Derived.Test.YtmkldekangdfmaaGreatPkCoreA
import Derived.Test.YtmkldekangdfmaaGreatPkQ
import Derived.Test.YtmkldekangdfmaaGreatPkF2
import Derived.Test.YtmkldekangdfmaaGreatPkV

/-
  A World variable's Grey grows; the contract of the model's l4shade.
-/
namespace Go.Proofs.YtmkldekangdfmaaGreat
open Go.RowKit
set_option linter.unusedVariables false

/-- append onto a row of ints: the row's own block, or a new one. -/
theorem wp_appF {w : World} {base : Nat} {v : Value} {L : List Int} {o : Oper} {a : Act} {K : Act → World → Prop} {Q : Exit → Act → World → Prop} (s x : Operand)
    (ho : o.op = .call { callee := .builtin .append, args := #[s, x], argTypes := #[22, 22] })
    (hs : a.eval s = v) (hown : w.ownsRow base 3 1 v L.length (L.map (Value.int .i64))) (ad : Addr) (m c : Nat) (R : List Int) (hx : a.eval x = .slice (some ad) m c) (hm : R.length = m) (hr : SrcIs w (some ad) m 1 (R.map (Value.int .i64)))
    (h63 : L.length + m ≤ 16777216) (hbase : base ≤ w.heap.size)
    (h : ∀ v' w', w'.ownsRow base 3 1 v' (L ++ R).length ((L ++ R).map (Value.int .i64)) → w.grownBy w' v.ownBlock → (∀ q, v'.ownBlock = some q → v.ownBlock = some q ∨ w.heap.size ≤ q) → K (a.put o.dst v') w') : o.wp Tryz.prog a w K Q := by
  obtain ⟨i, hi, hz, hsize, hby⟩ := info_parts infoInt
  have ht : Tryz.prog.underlying 22 = some (.slice 3) := Tryz.underlying22
  obtain ⟨v', w', hrun, h2, h3, h4⟩ := OwnQ.run_app o.type (OwnQ.of_row hown) (some ad) m c R hm hr h63 hbase
  obtain ⟨v2, w2, hrun2, g2, g3, _⟩ := run_append_own (P := Tryz.prog) (w := w) base 22 o.type 3 i (.int .i64 0) 1 8 ht hi hz hsize hby rfl (by decide) v L.length _ hown ad m c (R.map (Value.int .i64)) (by simpa using hm)
    (fun j u hu => by obtain ⟨b, e, hc⟩ := hr.at_ j u hu; cases e; exact hc) hr.one (by unfold maxLen; omega) (by omega) hbase
  rw [hrun] at hrun2
  cases hrun2
  unfold Oper.wp execOp
  simp only [ho, resolve, invoke, builtin, Sem.run_bind, Sem.run_pure, Result.andThen_ok, List.map_toArray, List.map_cons, List.map_nil, hs, hx, hrun]
  refine h v' w' ?_ h3 fun q hq => ?_
  · rw [List.length_append, List.map_append, hm]
    exact g2
  · rcases h4 with e | e
    · left; rw [← e]; exact hq
    · right; exact (e.lt q hq).1
theorem wpList_appF {w : World} {base : Nat} {v : Value} {L : List Int} {ops : Array Oper} {rest : List Oper} {o : Oper} {a : Act} {Q : Exit → Act → World → Prop} (hgd : o.guard = none) (s x : Operand)
    (ho : o.op = .call { callee := .builtin .append, args := #[s, x], argTypes := #[22, 22] })
    (hs : a.eval s = v) (hown : w.ownsRow base 3 1 v L.length (L.map (Value.int .i64))) (ad : Addr) (m c : Nat) (R : List Int) (hx : a.eval x = .slice (some ad) m c) (hm : R.length = m) (hr : SrcIs w (some ad) m 1 (R.map (Value.int .i64)))
    (h63 : L.length + m ≤ 16777216) (hbase : base ≤ w.heap.size)
    (h : ∀ v' w', w'.ownsRow base 3 1 v' (L ++ R).length ((L ++ R).map (Value.int .i64)) → w.grownBy w' v.ownBlock → (∀ q, v'.ownBlock = some q → v.ownBlock = some q ∨ w.heap.size ≤ q) → wpList Tryz.prog ops Q rest (a.put o.dst v') w') : wpList Tryz.prog ops Q (o :: rest) a w :=
  wpList_plain hgd fun _ hK => wp_appF s x ho hs hown ad m c R hx hm hr h63 hbase fun v' w' h1 h2 h3 => hK _ _ (h v' w' h1 h2 h3)

section
variable {w w' : World} {base B : Nat} {S : Shape} {D : WD}
/-- Grey has been appended to, and is stored. -/
theorem VarW.grow (h : VarW w base B S D) (g : w.grownBy w' S.vg.ownBlock) {v : Value} {L : List Int} (r : w'.ownsRow base 3 1 v L.length (L.map (Value.int .i64))) (f : ∀ q, v.ownBlock = some q → S.vg.ownBlock = some q ∨ w.heap.size ≤ q) :
    VarW (w'.setCell ⟨B, 8, none⟩ v) base B { S with vg := v } { D with grey := L } ∧ Below base w (w'.setCell ⟨B, 8, none⟩ v) := by
  have c1 : Chg (blks [S.vg]) w w' := Chg.of_grown g fun x hx => List.mem_filterMap.2 ⟨S.vg, by simp, hx⟩
  have c2 := Chg.of_grown (grown_set w' B 8 v) (bs := [B]) (by simp)
  have P := h.own.parts
  have hb := h.keep c1 (in_all (by simp [Shape.all]))
  have hbel := h.bel c1 (in_all (by simp [Shape.all]))
  have hm : ∀ x, x ∈ S.all → ∀ q, x.ownBlock = some q → q ∉ [B] := fun x hx q hq hm => h.ne (List.mem_filterMap.2 ⟨x, hx, by rw [hq, List.mem_singleton.1 hm]⟩)
  have hvB : v.ownBlock ≠ some B := fun e => by
    rcases f B e with e | e
    · exact h.ne (List.mem_filterMap.2 ⟨S.vg, by simp [Shape.all], e⟩)
    · have := h.lt
      omega
  have hn0 := h.own.nodup
  rw [show S.ints = (S.vw :: svInts S.sv ++ S.mv) ++ [S.vg] from rfl, List.filterMap_append] at hn0
  have h1 := List.nodup_append.1 hn0
  have hn : (({ S with vg := v } : Shape).ints.filterMap Value.ownBlock).Nodup := by
    rw [show ({ S with vg := v } : Shape).ints = (S.vw :: svInts S.sv ++ S.mv) ++ [v] from rfl, List.filterMap_append]
    refine List.nodup_append.2 ⟨h1.1, ?_, ?_⟩
    · cases e : v.ownBlock <;> simp [e]
    · intro a ha b hb
      obtain ⟨y, hy, hyb⟩ := List.mem_filterMap.1 hb
      obtain rfl := List.mem_singleton.1 hy
      rintro rfl
      rcases f a hyb with hf | hf
      · exact h1.2.2 a ha a (by simp [hf]) rfl
      · obtain ⟨y', hy', hyb'⟩ := List.mem_filterMap.1 ha
        have hal : y' ∈ S.all := by
          simp only [List.mem_append, List.mem_cons] at hy'
          rcases hy' with (rfl | hy') | hy' <;> simp [Shape.all, *]
        have := (h.own.lt a (List.mem_filterMap.2 ⟨y', hal, hyb'⟩)).2
        omega
  refine ⟨⟨?_, ?_, h.le, ?_⟩, hbel.trans ((Below.refl _ _).setCell (p := ⟨B, 8, none⟩) h.le _)⟩
  · have := heap_setCell_same w' B 8 _ _ v hb
    simpa [Shape.cells] using this
  · refine .mk' (own_chg (own_chg h.own.words c1 fun q hq => P.d04.not_mem (by simp) hq) c2 (hm _ (by simp [Shape.all]))) (own_chg (own_chg h.own.dirty c1 fun q hq => P.d14.not_mem (by simp) hq) c2 (hm _ (by simp [Shape.all])))
      ((h.own.ownS.chg c1 (fun q hq => P.d24.not_mem (by simp) hq) (fun x hx q hq => P.d24.not_mem (by simp [hx]) hq)).chg c2 (hm _ (by simp [Shape.all])) (fun x hx => hm x (by simp [Shape.all, hx])))
      ((h.own.ownM.chg c1 (fun q hq => P.d34.not_mem (by simp) hq) (fun x hx q hq => P.d34.not_mem (by simp [hx]) hq)).chg c2 (hm _ (by simp [Shape.all])) (fun x hx => hm x (by simp [Shape.all, hx])))
      (own_chg r c2 fun q hq hm => hvB (by rw [hq, List.mem_singleton.1 hm])) hn
  · intro hB2
    obtain ⟨x, hx, hxB⟩ := List.mem_filterMap.1 hB2
    simp only [Shape.all, List.mem_append, List.mem_cons, List.not_mem_nil, or_false] at hx
    have old : ∀ y, y ∈ S.all → y.ownBlock ≠ some B := fun y hy e => h.ne (List.mem_filterMap.2 ⟨y, hy, e⟩)
    rcases hx with (((rfl | rfl) | (rfl | hx)) | (rfl | hx)) | rfl
    · exact old _ (by simp [Shape.all]) hxB
    · exact old _ (by simp [Shape.all]) hxB
    · exact old _ (by simp [Shape.all]) hxB
    · exact old x (by simp [Shape.all, hx]) hxB
    · exact old _ (by simp [Shape.all]) hxB
    · exact old x (by simp [Shape.all, hx]) hxB
    · exact hvB hxB
end
/-- What a run of shading leaves of a variable's memory: its Grey may lie elsewhere, nothing that is not its own turned. -/
structure Shaded (w w' : World) (B : Nat) (S S' : Shape) : Prop where
  vg : ∃ v, S' = { S with vg := v } ∧ ∀ q, v.ownBlock = some q → S.vg.ownBlock = some q ∨ w.heap.size ≤ q
  chg : Chg (B :: blks S.all) w w'
theorem Shaded.of_below {w w' : World} (B : Nat) (S : Shape) (h : Below w.heap.size w w') : Shaded w w' B S S := ⟨⟨S.vg, rfl, fun q hq => .inl hq⟩, .of_below h _⟩
theorem Shape.all_vg {S : Shape} {v : Value} {k : Nat} (h : k ∈ blks ({ S with vg := v } : Shape).all) : k ∈ blks S.all ∨ v.ownBlock = some k := by
  obtain ⟨x, hx, e⟩ := List.mem_filterMap.1 h
  simp only [Shape.all, List.mem_append, List.mem_cons, List.not_mem_nil, or_false] at hx
  rcases hx with (((rfl | rfl) | (rfl | hx)) | (rfl | hx)) | rfl
  · exact .inl (List.mem_filterMap.2 ⟨_, by simp [Shape.all], e⟩)
  · exact .inl (List.mem_filterMap.2 ⟨_, by simp [Shape.all], e⟩)
  · exact .inl (List.mem_filterMap.2 ⟨_, by simp [Shape.all], e⟩)
  · exact .inl (List.mem_filterMap.2 ⟨x, by simp [Shape.all, hx], e⟩)
  · exact .inl (List.mem_filterMap.2 ⟨_, by simp [Shape.all], e⟩)
  · exact .inl (List.mem_filterMap.2 ⟨x, by simp [Shape.all, hx], e⟩)
  · exact .inr e
theorem Shaded.trans {w w1 w2 : World} {B : Nat} {S T U : Shape} (h : Shaded w w1 B S T) (g : Shaded w1 w2 B T U) : Shaded w w2 B S U := by
  obtain ⟨v, rfl, hv⟩ := h.vg
  obtain ⟨u, rfl, hu⟩ := g.vg
  have hs := h.chg.size
  refine ⟨⟨u, rfl, fun q hq => ?_⟩, ⟨g.chg.os.trans h.chg.os, g.chg.tape.trans h.chg.tape, g.chg.output.trans h.chg.output, Nat.le_trans hs g.chg.size, fun j hj hn => ?_⟩⟩
  · rcases hu q hq with h1 | h1
    · exact hv q h1
    · exact .inr (by omega)
  · refine (g.chg.block j (by omega) fun hm => ?_).trans (h.chg.block j hj hn)
    rcases List.mem_cons.1 hm with rfl | hm
    · exact hn (by simp)
    · rcases Shape.all_vg hm with h1 | h1
      · exact hn (by simp [h1])
      · rcases hv j h1 with h2 | h2
        · exact hn (List.mem_cons_of_mem _ (List.mem_filterMap.2 ⟨S.vg, by simp [Shape.all], h2⟩))
        · omega
set_option maxRecDepth 100000 in
set_option maxHeartbeats 4000000 in
theorem sshade_any (base B : Nat) (S : Shape) (D : WD) (addr : Int) (hF : HeapForm D) (hgl : D.grey.length ≤ 1048576) (w : World) (h : VarW w base B S D) :
    Calls Tryz.prog 39 #[.pointer (some ⟨B, 0, none⟩), .int .i64 addr] w fun e w' => e = .returned (.tuple #[]) ∧ (∃ S' E, ShadeIs D addr E ∧ VarW w' base B S' E ∧ Shaded w w' B S S') ∧ Below base w w' := by
  have h' := Lib.hid h
  have hF' := Lib.hid hF
  have hgl' := Lib.hid hgl
  have hle := Lib.hid (Nat.le_of_lt (Nat.lt_of_le_of_lt h.le h.lt))
  have hfnd := Lib.hid (find_at B _ D hF addr w h.rd h.boxW)
  have g6 := h.cell 6 (.int .i64 D.phase) rfl
  clear hF hgl h
  by_cases c1 : D.phase = 1 ∨ D.phase = 2
  case neg =>
    have y := Lib.hid (show ShadeIs D addr D from .inr ⟨fun h => absurd h c1, rfl⟩)
    have d1 : (D.phase != 1) = true := bne_iff_ne.2 fun h => c1 (.inl h)
    have d2 : (D.phase != 2) = true := bne_iff_ne.2 fun h => c1 (.inr h)
    clear c1
    go_enter Tryz.func39, Tryz.ntmps39
    go_wp2_with fail
    refine bodyPost_ret (v := .tuple #[]) (by simp [results, Tryz.results39, go_sem]) rfl ?_
    exact ⟨rfl, ⟨_, _, y.out, h'.out, .of_below _ _ (Below.refl _ _)⟩, Below.refl _ _⟩
  have hc := Lib.hid c1
  rcases c1 with c1 | c1
  all_goals rw [c1] at g6
  all_goals clear c1
  all_goals go_enter Tryz.func39, Tryz.ntmps39
  all_goals go_wp2_with fail
  all_goals
    refine hfnd.out.mono ?_
    rintro e w1 ⟨hq, b1⟩
    obtain ⟨r, q, rfl, hq⟩ := hq
    have v1 := Lib.hid (h'.out.below b1)
    have B1 := Lib.hid (b1.mono hle.out)
    have Z1 := Lib.hid b1
    clear b1 g6
    rcases hq with ⟨k, j, _, ho, rfl, rfl⟩ | ⟨hn, rfl, rfl⟩
    case inr =>
      have y := Lib.hid (show ShadeIs D addr D from .inr ⟨fun _ k j h => absurd h (hn hF'.out k j), rfl⟩)
      clear hn
      go_wp2_with fail
      refine bodyPost_ret (v := .tuple #[]) (by simp [results, Tryz.results39, go_sem]) rfl ?_
      exact ⟨rfl, ⟨_, _, y.out, v1.out, .of_below _ _ Z1.out⟩, B1.out⟩
    have ho' := Lib.hid ho
    obtain ⟨s, hs, hj, hl, ha⟩ := ho
    have hs' := Lib.hid hs
    have hj16 := Lib.hid (mark_range hF'.out hs hj)
    have hm := Lib.hid (smarked_any B _ D k j s hs hj16.out.2.2 w1 v1.out.rd v1.out.boxW)
    have hkl1 : (k : Int) < (D.spans.length : Int) := by have := (List.getElem?_eq_some_iff.1 hs).1; omega
    clear hs hj hl ha
    go_wp2_with fail
    refine hm.out.mono ?_
    rintro e w2 ⟨hq, b2⟩
    replace hq := hq.elim
    have v2 := Lib.hid (v1.out.below b2)
    have B2 := Lib.hid (B1.out.trans (b2.mono (by have := B1.out.size; have := hle.out; omega)))
    have Z2 := Lib.hid (below_trans Z1.out b2)
    clear b2 hm
    rcases hq with ⟨hmk, rfl⟩ | ⟨hmk, rfl⟩
    case inl =>
      have y := Lib.hid (show ShadeIs D addr D from .inr ⟨fun _ k' j' h => by obtain ⟨rfl, rfl⟩ := ho'.out.unique hF'.out h; exact hmk, rfl⟩)
      clear hmk
      go_wp2_with fail
      refine bodyPost_ret (v := .tuple #[]) (by simp [results, Tryz.results39, go_sem]) rfl ?_
      exact ⟨rfl, ⟨_, _, y.out, v2.out, .of_below _ _ Z2.out⟩, B2.out⟩
    have y := Lib.hid (show ShadeIs D addr (shadeD D addr k j s) from .inl ⟨k, j, s, hc.out, ho'.out, hs'.out, fun hb => hmk ((MarkedP.iff hs'.out).2 hb), rfl⟩)
    obtain ⟨p, hp⟩ := v2.out.svAt hs'.out
    obtain ⟨gs, cs, hgs⟩ := v2.out.headS (by omega)
    have g4 := v2.out.cell 4 S.vs rfl
    rw [hgs] at g4
    have x2 := (v2.out.six hgs hs'.out hp).2.2.1
    have f2 := v2.out.frzS hgs (k * 6 + 2)
    have hmx := v2.out.rd.parts.2.2.1
    obtain ⟨_, _, _, hsm, _⟩ := hmx
    unfold maxLen at hsm
    have hj1 : (j : Int) ≤ 16 := by have := hj16.out.2.2; omega
    have v3 := Lib.hid (v2.out.mark hgs k s p (bits .or .i64 s.mark (2 ^ j)) hs'.out hp)
    have hgs' := hgs
    clear hmk hp hgs
    have hgs' := Lib.hid hgs'
    go_wp2_with fail
    go_region
    rw [wrap_pow (show j ≤ 16 by omega)]
    have v4 := Lib.hid v3.out.1.drew
    have B4 := Lib.hid (below_drewN (B2.out.trans v3.out.2) 1)
    have C4 := Lib.hid ((Chg.of_below Z2.out (B :: blks S.all)).trans ((Chg.of_grown (grown_set w2 gs (k * 6 + 2) (.int .i64 (bits .or .i64 s.mark (2 ^ j)))) (bs := B :: blks S.all) (fun x hx => by cases hx; exact List.mem_cons_of_mem _ (List.mem_filterMap.2 ⟨S.vs, by simp [Shape.all], by rw [hgs'.out]; rfl⟩))).trans (Chg.of_below (below_drewN (Below.refl _ _) 1) _)))
    have q0 : bits .or .i64 s.mark (2 ^ j) = bits .or .i64 s.mark ((2 : Int) ^ j) := rfl
    clear g4 x2 f2 v2 B2 v3 v1 B1 hj1 hkl1
    generalize hw3 : (w2.setCell ⟨gs, k * 6 + 2, none⟩ (.int .i64 (bits .or .i64 s.mark (2 ^ j)))).drew = w3 at *
    have B4' : Hid (Below base w w3) := Lib.hid (by rw [← hw3]; exact B4.out)
    have C4' : Hid (Chg (B :: blks S.all) w w3) := Lib.hid (by rw [← hw3]; exact C4.out)
    clear hw3 B4 C4 hsm q0 hgs' Z1 Z2
    have hown := show w3.ownsRow base 3 1 S.vg D.grey.length (D.grey.map (Value.int .i64)) from v4.out.own.grey
    obtain ⟨ag, cg, hvg⟩ := own_slice hown
    have b8 := v4.out.cell 8 S.vg rfl
    rw [hvg] at b8 hown
    have hown' := Lib.hid hown
    have hbs := Lib.hid (show base ≤ (w3.alloc (.cells #[.int .i64 addr] 3)).heap.size by have := B4'.out.size; have := hle.out; simp; omega)
    have hgl2 := hgl'.out
    clear hown
    have src := Lib.hid (show SrcIs (w3.alloc (.cells #[.int .i64 addr] 3)) (some ⟨w3.heap.size, 0, none⟩) 1 1 ([addr].map (Value.int .i64)) from ⟨rfl, fun j u hu => ⟨_, rfl, cell_one _ _ _ j u hu⟩, by simp [Value.oneCell']⟩)
    have v5 := Lib.hid (v4.out.below (below_box w3 (.cells #[.int .i64 addr] 3)))
    have B5 := Lib.hid (B4'.out.trans ((below_box w3 (.cells #[.int .i64 addr] 3)).mono (by have := B4'.out.size; have := hle.out; omega)))
    have ex := Lib.hid (show ∀ (v : Value) (w6 : World) , w6.ownsRow base 3 1 v (D.grey ++ [addr]).length ((D.grey ++ [addr]).map (Value.int .i64)) → (w3.alloc (.cells #[.int .i64 addr] 3)).grownBy w6 (Value.slice ag D.grey.length cg).ownBlock →
        (∀ q, v.ownBlock = some q → (Value.slice ag D.grey.length cg).ownBlock = some q ∨ (w3.alloc (.cells #[.int .i64 addr] 3)).heap.size ≤ q) →
        (∃ a c, v = .slice a (D.grey.length + 1) c) ∧ w6.cell? ⟨B, 8, none⟩ = some S.vg ∧ w6.frozen? ⟨B, 8, none⟩ = false ∧ (VarW (w6.setCell ⟨B, 8, none⟩ v) base B { S with vg := v } (shadeD D addr k j s) ∧ Shaded w (w6.setCell ⟨B, 8, none⟩ v) B S { S with vg := v }) ∧ Below base w (w6.setCell ⟨B, 8, none⟩ v) from fun v w6 r g f => by
      have hg := v5.out.grow (L := D.grey ++ [addr]) (v := v) (by rw [hvg]; exact g) r (by rw [hvg]; exact f)
      have hb6 := v5.out.keep (Chg.of_grown g (bs := blks [S.vg]) fun x hx => List.mem_filterMap.2 ⟨S.vg, by simp, by rw [hvg]; exact hx⟩) (in_all (by simp [Shape.all]))
      obtain ⟨a, c, e⟩ := own_slice r
      have hsz := C4'.out.size
      have hc5 : Chg (B :: blks S.all) w (w6.setCell ⟨B, 8, none⟩ v) := ((C4'.out.trans (Chg.of_below (below_box w3 _) _)).trans (Chg.of_grown g (bs := B :: blks S.all) fun x hx => List.mem_cons_of_mem _ (List.mem_filterMap.2 ⟨S.vg, by simp [Shape.all], by rw [hvg]; exact hx⟩))).trans (Chg.of_grown (grown_set w6 B 8 v) (bs := B :: blks S.all) (by simp))
      exact ⟨⟨a, c, by rw [e, List.length_append]; rfl⟩, cell_of_heap hb6 8 S.vg rfl, frozen_of_heap hb6 8, ⟨hg.1, ⟨v, rfl, fun q hq => (f q hq).imp (fun h => by rw [hvg]; exact h) (fun h => by simp at h; omega)⟩, hc5⟩, B5.out.trans hg.2⟩)
    clear v4 v5 B4' C4' B5 hc ho' hs' hj16
    go_wp2_with (at_builtin; go_loud (refine wpList_appF rfl (.tmp 57) (.tmp 59) rfl rfl (hown'.out.alloc _) ⟨w3.heap.size, 0, none⟩ 1 1 [addr] rfl rfl src.out (by omega) hbs.out ?_; intro v6 w6 q6 g6 f6; obtain ⟨⟨a6, c6, rfl⟩, b6, z6, hv6⟩ := ex.out _ _ q6 g6 f6; have hv := Lib.hid hv6; rw [hvg] at b6; clear q6 g6 f6 hv6 ex))
    go_end0
    exact ⟨rfl, ⟨_, _, y.out, hv.out.1.1, hv.out.1.2⟩, hv.out.2⟩
end Go.Proofs.YtmkldekangdfmaaGreat

import Derived.Test.YtpcefecedmdmkaaPkISoil

/-
  The contract of the program's World.soil once more: no block but the World's own turns.
-/
namespace Go.Proofs.Ytpcefecedmdmkaa
open Go.RowKit Go.Shelf
set_option linter.unusedVariables false

attribute [local go_sem] Oper.semAt_some

/-- What holds in the loop. -/
structure SoilJ (base B bx : Nat) (S : Shape) (D : WD) (f m : Int) (w0 : World) (pre : List Int) (W : World) : Prop where
  var : VarW W base B S { D with dirty := dirtyL f m D.dirty pre }
  box : Boxed W bx 57 (.pointer (some ⟨B, 0, none⟩))
  bel : Below base w0 W
  chg : Chg (blks S.all) w0 W
theorem soil2_own {base B bx n0 : Nat} {S : Shape} {D : WD} {f m : Int} {w0 : World} (hold : ∀ q, q ∈ blks S.all → q < n0) (hB : B < n0) (hbx : bx < n0) (hb0 : base ≤ w0.heap.size) (hw0 : w0.heap.size ≤ n0) : OwnFrom n0 (SoilJ base B bx S D f m w0) := by
  intro pre W W' row h hg hr
  have c : Chg row.toList W W' := Chg.of_grown hg fun x hx => by rw [hx]; simp
  have hm : ∀ q, q ∈ row.toList → n0 ≤ q := fun q hq => by
    cases row with
    | none => simp at hq
    | some r => simp at hq; subst hq; exact (hr q rfl).1
  refine ⟨h.var.chg c (fun k hk hq => by have := hold k hk; have := hm k hq; omega) (fun hq => by have := hm B hq; omega), h.box.kept hg fun e => by have := (hr bx e.symm).1; omega, ?_, ?_⟩
  · have hz := h.bel.size
    have hle := h.var.le
    exact Chg.below h.bel c (by omega) fun x hx => by have := hm x hx; omega
  · have hz := h.chg.size
    exact ⟨c.os.trans h.chg.os, c.tape.trans h.chg.tape, c.output.trans h.chg.output, Nat.le_trans hz c.size, fun k hk hn => (c.block k (by omega) (fun hq => by have := hm k hq; omega)).trans (h.chg.block k hk hn)⟩

set_option maxRecDepth 100000 in
set_option maxHeartbeats 4000000 in
theorem soil2_in (F : Fence) (n : Nat) (h15 : F.fn 70) (h31 : F.fn 77) (h33 : F.fn 79) (hro : F.round = none) (hn : 3 ≤ n) (base B : Nat) (S : Shape) (D : WD) (f m : Int) (hf0 : 0 ≤ f) (hf : f ≤ 1000000) (hm1 : 1 ≤ m) (hm : m ≤ 32) (hc : f + m ≤ 8 * (D.dirty.length : Int)) (w : World) (h : VarW w base B S D) :
    CallsIn F n Try.prog 70 #[.pointer (some ⟨B, 0, none⟩), .int .i64 f, .int .i64 m] w fun e W' => (∃ v, e = .returned v) ∧ VarW W' base B S { D with dirty := dirtyUp D.dirty f m } ∧ Below base w W' ∧ Chg (blks S.all) w W' := by
  have h1 : 1 ≤ n := by omega
  have hcnt := cnt_le (f := f) hm1 hm
  refine callsIn_of_wp_marks Try.func70 rfl h15 ?_ hro
  simp only [Try.ntmps70, List.size_toArray, List.length_cons, List.length_nil, Nat.reduceAdd, Nat.reduceSub, Array.replicate_succ, Array.replicate_zero, List.push_toArray, List.append_toArray, List.nil_append, List.cons_append]
  gi_wp2_with (gi_at_call 77; refine (cards_in F (n - 1) h31 hro _ _ _).mono ?_; rintro e w' ⟨rfl, rfl⟩)
  have bO := Boxed.new w 57 (.pointer (some ⟨B, 0, none⟩))
  have bF := Boxed.new (w.alloc (.cells #[.pointer (some ⟨B, 0, none⟩)] 57)) 3 (.int .i64 f)
  have bN := Boxed.new ((w.alloc (.cells #[.pointer (some ⟨B, 0, none⟩)] 57)).alloc (.cells #[.int .i64 f] 3)) 3 (.int .i64 m)
  rw [World.size_alloc] at bF bN
  rw [World.size_alloc] at bN
  have bF' := bF.alloc (.cells #[.int .i64 m] 3)
  have hB0 : Below w.heap.size w (((w.alloc (.cells #[.pointer (some ⟨B, 0, none⟩)] 57)).alloc (.cells #[.int .i64 f] 3)).alloc (.cells #[.int .i64 m] 3)) := (((Below.refl _ w).alloc (Nat.le_refl _) _).alloc (by simp) _).alloc (by simp; omega) _
  have hle := h.le
  have hlt := h.lt
  have hown := h.own.lt
  refine wpIn_rangeFunc_ownG hro h1 (gf := 79) (lb := #[.pointer (some ⟨w.heap.size + 1, 0, none⟩), .pointer (some ⟨w.heap.size + 1 + 1, 0, none⟩)]) rfl h33 (enters_of Try.func79 (by kernel_rfl) rfl)
    (cardsC_stops F (n - 1) h33 hro (by omega) (w.heap.size + 1) (w.heap.size + 1 + 1) base f m hf0 hf hm1 hm _ (by simp) (by simp) bF'.cell bN.cell) belowK_t (belowK_b (by simp; omega)) (Below.refl _ _) (fun _ => rfl)
    (SoilJ base B w.heap.size S D f m w)
    (fun _ _ _ => False)
    (soil2_own (fun q hq => by have := hown q hq; simp; omega) (by simp; omega) (by simp; omega) (by omega) (by simp; omega))
    (fun _ _ _ _ _ hs _ _ => hs)
    ⟨h.below hB0, (bO.alloc _).alloc _, hB0.mono (by omega), Chg.of_below hB0 _⟩
    (fun x => { tmps := #[.pointer (some ⟨B, 0, none⟩), .int .i64 f, .int .i64 m, .pointer (some ⟨w.heap.size, 0, none⟩), undef, undef, .int .i64 (clampC f m x), .int .i64 f, .int .i64 m, .func (.func 79) #[] #[.pointer (some ⟨w.heap.size + 1, 0, none⟩), .pointer (some ⟨w.heap.size + 1 + 1, 0, none⟩)], .int .i64 (clampC f m x), undef, undef, undef, undef, undef, undef], defers := [] }) ?assign ?body ?done ?stop
  case assign =>
    intro l x W K hK
    gi_wp2
    exact hK
  case body =>
    rintro l pre x W hI hlt
    obtain ⟨hv, hbx, hb, hch⟩ := hI
    have hc := hbx.cell
    have hcl := clampC_in (f := f) hm1 x
    have hsn := Lib.hid (dirtyL_snoc f m D.dirty pre x)
    obtain ⟨c, hcc⟩ := Int.eq_ofNat_of_zero_le (show 0 ≤ clampC f m x by omega)
    rw [hcc] at hcl hsn ⊢
    have hend : (f + m - 1) / 8 + 1 - f / 8 = (cnt f m : Int) := by unfold cnt; omega
    have hcd : c < D.dirty.length := by omega
    have hld := dirtyL_len f m D.dirty pre
    obtain ⟨gd, cd, hgd⟩ := hv.headD (by simp only [hld]; omega)
    have g3 := hv.cell 3 S.vd rfl
    rw [hgd] at g3
    simp only [hld] at g3
    have hrD := hv.own.dirty
    rw [hgd] at hrD
    have hold := hrD.cellAt c (by simp only [hld]; omega)
    have hfr := hrD.frozenAt c
    have hset := Lib.hid (hv.dirty hgd c true)
    have hbxs := Lib.hid hbx
    have hbl := Lib.hid hb
    have hgin := Lib.hid (show gd ∈ blks S.all from List.mem_filterMap.2 ⟨S.vd, by simp [Shape.all], by rw [hgd]; rfl⟩)
    have hchl := Lib.hid hch
    have hgdlt := Lib.hid (h.own.lt gd (List.mem_filterMap.2 ⟨S.vd, by simp [Shape.all], by rw [hgd]; rfl⟩))
    have hcd1 : (c : Int) < (D.dirty.length : Int) := by omega
    obtain ⟨u, hu⟩ : ∃ u, W.cell? ⟨gd, c, none⟩ = some (.bool u) := by
      rw [hold]
      simp only [List.getElem?_map]
      have : c < (dirtyL f m D.dirty pre).length := by omega
      rw [List.getElem?_eq_getElem this]
      exact ⟨_, rfl⟩
    have hmx := hv.rd.parts.2.1
    obtain ⟨_, _, _, hsm, _⟩ := hmx
    simp only [hld] at hsm
    unfold maxLen at hsm
    clear hold hrD hv hbx hb hcl hend hgd hch
    gi_wp2
    refine ⟨KeepsFrom.of_grownBy (grown_set W gd c (.bool true)) (fun j hj => by cases hj; have := hgdlt.out; simp; omega), hset.out.2, ⟨?_, hbxs.out.kept (grown_set W gd c (.bool true)) (fun e => by have := hgdlt.out; cases e; omega), hbl.out.trans hset.out.2, hchl.out.trans (Chg.of_grown (grown_set W gd c (.bool true)) (fun x hx => by cases hx; exact hgin.out))⟩⟩
    rw [hsn.out]
    exact hset.out.1
  case done =>
    rintro Dd ys W hD rfl hI hK
    obtain ⟨hv, hbx, hb, hch⟩ := hI
    rw [dirtyL_upto _ _ _ _ (Nat.le_refl _)] at hv
    gi_wp2
    refine ⟨by simp, .inl ⟨_, _, rfl, run_takeDeferred hK, ?_⟩⟩
    have cc := fun o : Obj => (Chg.of_grown (grownBy_putObj' W Dd o) (bs := [Dd]) (by simp))
    have hDd : w.heap.size ≤ Dd := by simp at hD; omega
    exact ⟨_, results_none rfl _ _ _, ⟨_, rfl⟩, hv.chg (cc _) (fun k hk hq => by have := hown k hk; rw [List.mem_singleton.1 hq] at this; omega) (fun hq => by have := List.mem_singleton.1 hq; omega), Chg.below hb (cc _) (by have := hb.size; omega) (fun x hx => by rw [List.mem_singleton.1 hx]; omega), ⟨(cc _).os.trans hch.os, (cc _).tape.trans hch.tape, (cc _).output.trans hch.output, Nat.le_trans hch.size (cc _).size, fun k hk hn => ((cc _).block k (by have := hch.size; omega) (fun hq => by have := List.mem_singleton.1 hq; omega)).trans (hch.block k hk hn)⟩⟩
  case stop =>
    rintro D c pre W _ _ h _
    exact h.elim
theorem soil2_any (base B : Nat) (S : Shape) (D : WD) (f m : Int) (hf0 : 0 ≤ f) (hf : f ≤ 1000000) (hm1 : 1 ≤ m) (hm : m ≤ 32) (hc : f + m ≤ 8 * (D.dirty.length : Int)) (w : World) (h : VarW w base B S D) :
    Calls Try.prog 70 #[.pointer (some ⟨B, 0, none⟩), .int .i64 f, .int .i64 m] w fun e W' => (∃ v, e = .returned v) ∧ VarW W' base B S { D with dirty := dirtyUp D.dirty f m } ∧ Below base w W' ∧ Chg (blks S.all) w W' :=
  (callsIn_wide (n := 3)).1 (soil2_in Fence.wide 3 trivial trivial trivial rfl (by omega) base B S D f m hf0 hf hm1 hm hc w h)
end Go.Proofs.Ytpcefecedmdmkaa

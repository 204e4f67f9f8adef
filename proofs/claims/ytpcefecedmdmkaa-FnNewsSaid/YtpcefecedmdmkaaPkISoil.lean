import Derived.Test.YtpcefecedmdmkaaPkV
import Derived.RangeFuncWrites

/-
  The contract of the program's World.soil: the cards of a row of words are dirty.
-/
namespace Go.Proofs.Ytpcefecedmdmkaa
open Go.RowKit Go.Shelf
set_option linter.unusedVariables false

attribute [local go_sem] Oper.semAt_some

theorem VarW.chg {w w' : World} {base B : Nat} {S : Shape} {D : WD} (h : VarW w base B S D) {bs : List Nat} (c : Chg bs w w') (hn : ∀ k, k ∈ blks S.all → k ∉ bs) (hB : B ∉ bs) : VarW w' base B S D :=
  ⟨(c.block B h.lt hB).trans h.box, h.own.chg c hn, h.le, h.ne⟩
/-- A card that is told, kept within the cards. -/
def clampC (f m x : Int) : Int := if f / 8 ≤ x ∧ x < f / 8 + (cnt f m : Int) then x else f / 8
theorem clampC_in {f m : Int} (hm : 1 ≤ m) (x : Int) : f / 8 ≤ clampC f m x ∧ clampC f m x < f / 8 + (cnt f m : Int) := by
  have := cnt_pos (f := f) hm
  unfold clampC
  split <;> omega
theorem clampC_at {f m : Int} {k : Nat} (h : k < cnt f m) : clampC f m (f / 8 + (k : Int)) = f / 8 + (k : Int) := by
  unfold clampC
  rw [if_pos (by omega)]
def dirtyL (f m : Int) (L : List Bool) (pre : List Int) : List Bool := pre.foldl (fun L x => L.set (clampC f m x).toNat true) L
theorem dirtyL_snoc (f m : Int) (L : List Bool) (pre : List Int) (x : Int) : dirtyL f m L (pre ++ [x]) = (dirtyL f m L pre).set (clampC f m x).toNat true := by simp [dirtyL]
theorem dirtyL_upto (f m : Int) (L : List Bool) (k : Nat) (h : k ≤ cnt f m) : dirtyL f m L (upto f k) = dirtyK L f k := by
  induction k with
  | zero => rfl
  | succ k ih => rw [upto_succ, dirtyL_snoc, clampC_at (by omega), ih (by omega)]; rfl
theorem dirtyL_len (f m : Int) (L : List Bool) (pre : List Int) : (dirtyL f m L pre).length = L.length := by
  unfold dirtyL
  induction pre generalizing L with
  | nil => rfl
  | cons x pre ih => rw [List.foldl_cons, ih, List.length_set]

set_option maxRecDepth 100000 in
set_option maxHeartbeats 2000000 in
theorem cards1C_in (F : Fence) (n : Nat) (h33 : F.fn 79) (hro : F.round = none) (hn : 1 ≤ n) (l B1 B2 n₀ : Nat) (f m : Int) (hf0 : 0 ≤ f) (hf : f ≤ 1000000) (hm1 : 1 ≤ m) (hm : m ≤ 32) (J Jx : List Int → World → Prop)
    (hY : ∀ pre x W, J pre W → pre.length < cnt f m → YieldAt F (n - 1) Try.prog l #[.int .i64 (clampC f m x)] W fun e W' =>
      (e = .returned (.bool true) ∧ J (pre ++ [x]) W' ∧ Below n₀ W W') ∨ (e = .returned (.bool false) ∧ Jx (pre ++ [x]) W'))
    (W : World) (hB1 : W.cell? ⟨B1, 0, none⟩ = some (.int .i64 f)) (hB2 : W.cell? ⟨B2, 0, none⟩ = some (.int .i64 m)) (h0 : J [] W) :
    CallsIn F n Try.prog 79 #[.func (.yield l) #[] #[], .pointer (some ⟨B1, 0, none⟩), .pointer (some ⟨B2, 0, none⟩)] W fun e W' => (∃ v, e = .returned v) ∧
      ((∃ ys, ys = upto f (cnt f m) ∧ J ys W') ∨ (∃ pre, (∃ k, k ≤ cnt f m ∧ pre = upto f k) ∧ Jx pre W')) := by
  refine callsIn_of_wp Try.func79 rfl h33 ?_ hro
  simp only [Try.ntmps79, List.size_toArray, List.length_cons, List.length_nil, Nat.reduceAdd, Nat.reduceSub, Array.replicate_succ, Array.replicate_zero, List.push_toArray, List.append_toArray, List.nil_append, List.cons_append]
  gi_wp2
  gi_loopw [5] (fun c wr => ∃ k : Nat, k ≤ cnt f m ∧ c = .int .i64 (f / 8 + (k : Int)) ∧ J (upto f k) wr)
    (fun c _ => cnt f m - (intOf c - f / 8).toNat)
  case atStart => exact ⟨0, Nat.zero_le _, by simp, h0⟩
  case round =>
    obtain ⟨k, hk, rfl, hJs⟩ := hrel
    by_cases hlt : k < cnt f m
    · have hle := cnt_lt hlt
      have hY1 := hY _ (f / 8 + (k : Int)) wr hJs (by rw [upto_length]; exact hlt)
      rw [clampC_at hlt] at hY1
      obtain ⟨fn, tmps, assign, body, hy, hR⟩ := hY1
      gi_wp2
      refine hR.mono ?_
      rintro e W3 (⟨rfl, hJ3, hk3⟩ | ⟨rfl, hJx3⟩)
      · gi_wp2
        go_roundw
        case rel => exact ⟨k + 1, by omega, by simp; omega, by rw [upto_succ]; exact hJ3⟩
        case measure => simp [intOf]; omega
      · gi_wp2
        refine bodyPost_ret (results_none rfl _ _ _) rfl ?_
        exact ⟨⟨_, rfl⟩, .inr ⟨_, ⟨k + 1, by omega, (upto_succ _ _).symm⟩, hJx3⟩⟩
    · have hkk : k = cnt f m := by omega
      have hle := cnt_end hkk hm1
      have hJs' : J (upto f (cnt f m)) wr := by rw [← hkk]; exact hJs
      clear hkk hJs hlt
      gi_wp2
      go_end0
      exact ⟨⟨_, rfl⟩, .inl ⟨_, rfl, hJs'⟩⟩
theorem cardsC_stops (F : Fence) (n : Nat) (h33 : F.fn 79) (hro : F.round = none) (hn : 1 ≤ n) (B1 B2 n₀ : Nat) (f m : Int) (hf0 : 0 ≤ f) (hf : f ≤ 1000000) (hm1 : 1 ≤ m) (hm : m ≤ 32) (w : World) (hb1 : B1 < w.heap.size) (hb2 : B2 < w.heap.size)
    (hc1 : w.cell? ⟨B1, 0, none⟩ = some (.int .i64 f)) (hc2 : w.cell? ⟨B2, 0, none⟩ = some (.int .i64 m)) :
    SeqStopsK F n Try.prog 79 #[.pointer (some ⟨B1, 0, none⟩), .pointer (some ⟨B2, 0, none⟩)] (fun x : Int => #[Value.int .i64 (clampC f m x)]) (Below n₀) (fun ys => ys = upto f (cnt f m)) (fun pre => ∃ k, k ≤ cnt f m ∧ pre = upto f k) (cnt f m) w := fun l J Jx W hW _ _ hY h0 =>
  cards1C_in F n h33 hro hn l B1 B2 n₀ f m hf0 hf hm1 hm J Jx hY W ((hW.cell (p := ⟨B1, 0, none⟩) hb1).trans hc1) ((hW.cell (p := ⟨B2, 0, none⟩) hb2).trans hc2) h0

/-- What holds in the loop. -/
structure SoilI (base B bx : Nat) (S : Shape) (D : WD) (f m : Int) (w0 : World) (pre : List Int) (W : World) : Prop where
  var : VarW W base B S { D with dirty := dirtyL f m D.dirty pre }
  box : Boxed W bx 57 (.pointer (some ⟨B, 0, none⟩))
  bel : Below base w0 W
theorem soil_own {base B bx n0 : Nat} {S : Shape} {D : WD} {f m : Int} {w0 : World} (hold : ∀ q, q ∈ blks S.all → q < n0) (hB : B < n0) (hbx : bx < n0) (hb0 : base ≤ w0.heap.size) : OwnFrom n0 (SoilI base B bx S D f m w0) := by
  intro pre W W' row h hg hr
  have c : Chg row.toList W W' := Chg.of_grown hg fun x hx => by rw [hx]; simp
  have hm : ∀ q, q ∈ row.toList → n0 ≤ q := fun q hq => by
    cases row with
    | none => simp at hq
    | some r => simp at hq; subst hq; exact (hr q rfl).1
  refine ⟨h.var.chg c (fun k hk hq => by have := hold k hk; have := hm k hq; omega) (fun hq => by have := hm B hq; omega), h.box.kept hg fun e => by have := (hr bx e.symm).1; omega, ?_⟩
  have hz := h.bel.size
  have hle := h.var.le
  exact Chg.below h.bel c (by omega) fun x hx => by have := hm x hx; omega

set_option maxRecDepth 100000 in
set_option maxHeartbeats 4000000 in
theorem soil_in (F : Fence) (n : Nat) (h15 : F.fn 70) (h31 : F.fn 77) (h33 : F.fn 79) (hro : F.round = none) (hn : 3 ≤ n) (base B : Nat) (S : Shape) (D : WD) (f m : Int) (hf0 : 0 ≤ f) (hf : f ≤ 1000000) (hm1 : 1 ≤ m) (hm : m ≤ 32) (hc : f + m ≤ 8 * (D.dirty.length : Int)) (w : World) (h : VarW w base B S D) :
    CallsIn F n Try.prog 70 #[.pointer (some ⟨B, 0, none⟩), .int .i64 f, .int .i64 m] w fun e W' => (∃ v, e = .returned v) ∧ VarW W' base B S { D with dirty := dirtyUp D.dirty f m } ∧ Below base w W' := by
  have h1 : 1 ≤ n := by omega
  have hcnt := cnt_le (f := f) hm1 hm
  refine callsIn_of_wp_marks Try.func70 rfl h15 ?_ hro
  simp only [Try.ntmps70, List.size_toArray, List.length_cons, List.length_nil, Nat.reduceAdd, Nat.reduceSub, Array.replicate_succ, Array.replicate_zero, List.push_toArray, List.append_toArray, List.nil_append, List.cons_append]
  gi_wp2_with (gi_at_call 77; refine (cards_in F (n - 1) h31 hro _ _ _).mono ?_; rintro e w' ⟨rfl, rfl⟩)
  have bO := Boxed.new w 57 (.pointer (some ⟨B, 0, none⟩))
  have bF := Boxed.new (w.alloc (.cells #[.pointer (some ⟨B, 0, none⟩)] 57)) 3 (.int .i64 f)
  have bN := Boxed.new ((w.alloc (.cells #[.pointer (some ⟨B, 0, none⟩)] 57)).alloc (.cells #[.int .i64 f] 3)) 3 (.int .i64 m)
  rw [World.size_alloc] at bF bN
  rw [World.size_alloc] at bN
  have bF' := bF.alloc (.cells #[.int .i64 m] 3)
  have hB0 : Below w.heap.size w (((w.alloc (.cells #[.pointer (some ⟨B, 0, none⟩)] 57)).alloc (.cells #[.int .i64 f] 3)).alloc (.cells #[.int .i64 m] 3)) := (((Below.refl _ w).alloc (Nat.le_refl _) _).alloc (by simp) _).alloc (by simp; omega) _
  have hle := h.le
  have hlt := h.lt
  have hown := h.own.lt
  refine wpIn_rangeFunc_ownG hro h1 (gf := 79) (lb := #[.pointer (some ⟨w.heap.size + 1, 0, none⟩), .pointer (some ⟨w.heap.size + 1 + 1, 0, none⟩)]) rfl h33 (enters_of Try.func79 (by kernel_rfl) rfl)
    (cardsC_stops F (n - 1) h33 hro (by omega) (w.heap.size + 1) (w.heap.size + 1 + 1) base f m hf0 hf hm1 hm _ (by simp) (by simp) bF'.cell bN.cell) belowK_t (belowK_b (by simp; omega)) (Below.refl _ _) (fun _ => rfl)
    (SoilI base B w.heap.size S D f m w)
    (fun _ _ _ => False)
    (soil_own (fun q hq => by have := hown q hq; simp; omega) (by simp; omega) (by simp; omega) (by omega))
    (fun _ _ _ _ _ hs _ _ => hs)
    ⟨h.below hB0, (bO.alloc _).alloc _, hB0.mono (by omega)⟩
    (fun x => { tmps := #[.pointer (some ⟨B, 0, none⟩), .int .i64 f, .int .i64 m, .pointer (some ⟨w.heap.size, 0, none⟩), undef, undef, .int .i64 (clampC f m x), .int .i64 f, .int .i64 m, .func (.func 79) #[] #[.pointer (some ⟨w.heap.size + 1, 0, none⟩), .pointer (some ⟨w.heap.size + 1 + 1, 0, none⟩)], .int .i64 (clampC f m x), undef, undef, undef, undef, undef, undef], defers := [] }) ?assign ?body ?done ?stop
  case assign =>
    intro l x W K hK
    gi_wp2
    exact hK
  case body =>
    rintro l pre x W hI hlt
    obtain ⟨hv, hbx, hb⟩ := hI
    have hc := hbx.cell
    have hcl := clampC_in (f := f) hm1 x
    have hsn := Lib.hid (dirtyL_snoc f m D.dirty pre x)
    obtain ⟨c, hcc⟩ := Int.eq_ofNat_of_zero_le (show 0 ≤ clampC f m x by omega)
    rw [hcc] at hcl hsn ⊢
    have hend : (f + m - 1) / 8 + 1 - f / 8 = (cnt f m : Int) := by unfold cnt; omega
    have hcd : c < D.dirty.length := by omega
    have hld := dirtyL_len f m D.dirty pre
    obtain ⟨gd, cd, hgd⟩ := hv.headD (by simp only [hld]; omega)
    have g3 := hv.cell 3 S.vd rfl
    rw [hgd] at g3
    simp only [hld] at g3
    have hrD := hv.own.dirty
    rw [hgd] at hrD
    have hold := hrD.cellAt c (by simp only [hld]; omega)
    have hfr := hrD.frozenAt c
    have hset := Lib.hid (hv.dirty hgd c true)
    have hbxs := Lib.hid hbx
    have hbl := Lib.hid hb
    have hgdlt := Lib.hid (h.own.lt gd (List.mem_filterMap.2 ⟨S.vd, by simp [Shape.all], by rw [hgd]; rfl⟩))
    have hcd1 : (c : Int) < (D.dirty.length : Int) := by omega
    obtain ⟨u, hu⟩ : ∃ u, W.cell? ⟨gd, c, none⟩ = some (.bool u) := by
      rw [hold]
      simp only [List.getElem?_map]
      have : c < (dirtyL f m D.dirty pre).length := by omega
      rw [List.getElem?_eq_getElem this]
      exact ⟨_, rfl⟩
    have hmx := hv.rd.parts.2.1
    obtain ⟨_, _, _, hsm, _⟩ := hmx
    simp only [hld] at hsm
    unfold maxLen at hsm
    clear hold hrD hv hbx hb hcl hend hgd
    gi_wp2
    refine ⟨KeepsFrom.of_grownBy (grown_set W gd c (.bool true)) (fun j hj => by cases hj; have := hgdlt.out; simp; omega), hset.out.2, ⟨?_, hbxs.out.kept (grown_set W gd c (.bool true)) (fun e => by have := hgdlt.out; cases e; omega), hbl.out.trans hset.out.2⟩⟩
    rw [hsn.out]
    exact hset.out.1
  case done =>
    rintro Dd ys W hD rfl hI hK
    obtain ⟨hv, hbx, hb⟩ := hI
    rw [dirtyL_upto _ _ _ _ (Nat.le_refl _)] at hv
    gi_wp2
    refine ⟨by simp, .inl ⟨_, _, rfl, run_takeDeferred hK, ?_⟩⟩
    have cc := fun o : Obj => (Chg.of_grown (grownBy_putObj' W Dd o) (bs := [Dd]) (by simp))
    have hDd : w.heap.size ≤ Dd := by simp at hD; omega
    exact ⟨_, results_none rfl _ _ _, ⟨_, rfl⟩, hv.chg (cc _) (fun k hk hq => by have := hown k hk; rw [List.mem_singleton.1 hq] at this; omega) (fun hq => by have := List.mem_singleton.1 hq; omega), Chg.below hb (cc _) (by have := hb.size; omega) (fun x hx => by rw [List.mem_singleton.1 hx]; omega)⟩
  case stop =>
    rintro D c pre W _ _ h _
    exact h.elim
theorem soil_any (base B : Nat) (S : Shape) (D : WD) (f m : Int) (hf0 : 0 ≤ f) (hf : f ≤ 1000000) (hm1 : 1 ≤ m) (hm : m ≤ 32) (hc : f + m ≤ 8 * (D.dirty.length : Int)) (w : World) (h : VarW w base B S D) :
    Calls Try.prog 70 #[.pointer (some ⟨B, 0, none⟩), .int .i64 f, .int .i64 m] w fun e W' => (∃ v, e = .returned v) ∧ VarW W' base B S { D with dirty := dirtyUp D.dirty f m } ∧ Below base w W' :=
  (callsIn_wide (n := 3)).1 (soil_in Fence.wide 3 trivial trivial trivial rfl (by omega) base B S D f m hf0 hf hm1 hm hc w h)
end Go.Proofs.Ytpcefecedmdmkaa

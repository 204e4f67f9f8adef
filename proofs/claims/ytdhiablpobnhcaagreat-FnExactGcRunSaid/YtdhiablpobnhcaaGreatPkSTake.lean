import Derived.Test.YtdhiablpobnhcaaGreatPkSPage

/-
  The contract of the model's l2take: an object in the first place for it.
-/
namespace Go.Proofs.YtdhiablpobnhcaaGreat
open Go.RowKit
set_option linter.unusedVariables false

/-- What l2take does to the variable. -/
def TookIs (D : WD) (n p : Int) (base B : Nat) (S : Shape) (e : Ending) (w' : World) : Prop :=
  (∃ D1 k j s S', PlaceIs D (cl n) D1 k j ∧ D1.spans[k]? = some s ∧ e = .returned (.int .i64 (D1.base + atW s (j : Int))) ∧ VarW w' base B S' (takeD D1 k s j n p)) ∨
  (NoPlace D (cl n) ∧ e = .returned (.int .i64 0) ∧ VarW w' base B S D)
theorem fullUp_next {D : WD} {c : Int} {k : Nat} {s : SpanD} (h : FullUp D c k) (hs : D.spans[k]? = some s) (hf : s.cls = c → ∀ j, j < s.lens.length → s.lens[j]?.getD 0 ≠ 0) : FullUp D c (k + 1) := by
  intro i t hi ht
  by_cases e : i = k
  · subst e
    rw [hs] at ht
    cases ht
    exact hf
  · exact h i t (by omega) ht
theorem ins_at {L : List SpanD} {k : Nat} (h : k ≤ L.length) (s : SpanD) : (L.take k ++ s :: L.drop k)[k]? = some s := by
  rw [List.getElem?_append_right (by rw [List.length_take]; omega)]
  simp [Nat.min_eq_left h]
theorem fresh_in {D : WD} {c : Int} {k : Nat} (hF : HeapForm D) (hc : sl' c ≠ 0) (hk : k ≤ D.spans.length) (hp : (k : Int) ≠ D.pages) : SlotIn (insD D c k) (freshS D c k) 0 := by
  have h0 := sl_bd c
  have h1 := hF.spans
  have h2 : ((List.replicate (sl' c).toNat (0 : Int)).length : Int) = sl' c := by rw [List.length_replicate]; omega
  exact ⟨hc, h2, h2, by simp only [freshS, List.length_replicate]; omega, by simp only [freshS]; omega, by simp only [freshS, insD]; omega, hF.words, hF.dirty, hF.geo.2.2.2.2.1⟩

set_option maxRecDepth 100000 in
set_option maxHeartbeats 40000000 in
theorem stake_at (base B : Nat) (S : Shape) (D : WD) (n p : Int) (hF : HeapForm D) (hn1 : 1 ≤ n) (hn : n ≤ 16) (hp0 : 0 ≤ p) (hp : p ≤ n) (w : World) (h : VarW w base B S D) :
    Calls Tryz.prog 212 #[.pointer (some ⟨B, 0, none⟩), .int .i64 n, .int .i64 p] w fun e w' => TookIs D n p base B S e w' ∧ Below base w w' := by
  obtain ⟨aS, cS, hgs⟩ := own_slice h.own.spans
  have h' := Lib.hid h
  have hF' := Lib.hid hF
  have hrd := h.rd.parts.2.2.1
  rw [hgs] at hrd
  have hat := Lib.hid (fun k s hk => hrd.at_ k s hk)
  have hsl : D.spans.length ≤ 12 := by have := hF.spans; have := hF.geo.2.2.2.2.1; omega
  have hb0 : 0 ≤ D.base := by have := hF.geo.1; omega
  have hb1 : D.base ≤ 1048576 := hF.geo.2.1
  have g4 := h.cell 4 S.vs rfl
  rw [hgs] at g4
  have hc := Lib.hid (cl_ok hn1 hn)
  have hcn := Lib.hid (fun w => spec_classOf_any n w)
  have hbB := Lib.hid (Below.refl base w)
  clear h hgs hrd hF
  have hce : ∃ c, c = cl n := ⟨_, rfl⟩
  obtain ⟨c, hce⟩ := hce
  rw [← hce] at hc
  simp only [← hce] at hcn
  have hce' := Lib.hid hce
  clear hce
  go_enter Tryz.func212, Tryz.ntmps212
  go_wp2_with (go_at_call 211; refine (hcn.out _).mono ?_; rintro e w' ⟨rfl, rfl⟩)
  go_loop [8, 9, 10] (fun a b i => ∃ k : Nat, k ≤ D.spans.length ∧ i = .int .i64 k ∧ ((∃ z : Nat, a = .int .i64 (-1) ∧ b = .int .i64 z ∧ Hid (z = 0) ∧ Hid (FullUp D c k)) ∨ ∃ k0 j0 : Nat, a = .int .i64 k0 ∧ b = .int .i64 j0 ∧ Hid (PlaceIs D c D k0 j0))) (fun a b i => D.spans.length - (intOf i).toNat)
  case atStart => exact ⟨0, Nat.zero_le _, rfl, .inl ⟨0, rfl, rfl, Lib.hid rfl, fun i s hi => absurd hi (by omega)⟩⟩
  case round =>
    obtain ⟨i, hi, rfl, hst⟩ := hrel
    rcases hst with ⟨z, rfl, rfl, hz0, hfu⟩ | ⟨k, j, rfl, rfl, hpl⟩
    case inr =>
      obtain ⟨s, hs, hsc, hsj, hs0, hsb, hsf⟩ : ∃ s, D.spans[k]? = some s ∧ s.cls = c ∧ j < s.lens.length ∧ s.lens[j]?.getD 0 = 0 ∧ (∀ i, i < j → s.lens[i]?.getD 0 ≠ 0) ∧ FullUp D c k := by
        rcases hpl.out with ⟨_, h⟩ | ⟨_, _, _, e, _⟩
        · exact h
        · exfalso
          have := congrArg (fun x : WD => x.spans.length) e
          simp only [insD, List.length_append, List.length_cons] at this
          have h9 := congrArg List.length (List.take_append_drop k D.spans)
          simp only [List.length_append] at h9
          omega
      have hpl := Lib.hid (show PlaceIs D (cl n) D k j from hce'.out ▸ hpl.out)
      have hin := hF'.out.slotIn hs hsj
      have hv := h'
      have hBB := hbB
      have hszc := hc.out.2.2.2
      rw [← hsc] at hszc
      have hbn : n ≤ 32 := by omega
      obtain ⟨D1, hD1⟩ : ∃ x : WD, x = D := ⟨_, rfl⟩
      obtain ⟨S1, hS1⟩ : ∃ x : Shape, x = S := ⟨_, rfl⟩
      obtain ⟨w1, hw1⟩ : ∃ x : World, x = w := ⟨_, rfl⟩
      clear hsc hs0 hsb hsf hsj g4
      subst hD1 hS1 hw1
      by_cases hil : (i : Int) < (D1.spans.length : Int)
      all_goals
        have hbd := hin.bd
        obtain ⟨p0, hp0⟩ := hv.out.svAt hs
        obtain ⟨gs, cs, hgs⟩ := hv.out.headS (by have := (List.getElem?_eq_some_iff.1 hs).1; omega)
        obtain ⟨gl, cl1, hgl⟩ := head_of (hv.out.own.inner k s p0 hs hp0).1 (by have := hin.j; omega)
        obtain ⟨gp, cp, hgp⟩ := head_of (hv.out.own.inner k s p0 hs hp0).2 (by have := hin.j; have := hin.lens; have := hin.ptrs; omega)
        have hj := hin.j
        have hjp : j < s.ptrs.length := by have := hin.lens; have := hin.ptrs; omega
        have hkl1 : (k : Int) < (D1.spans.length : Int) := by have := (List.getElem?_eq_some_iff.1 hs).1; omega
        have hjl1 : (j : Int) < (s.lens.length : Int) := by omega
        have hjp1 : (j : Int) < (s.ptrs.length : Int) := by omega
        obtain ⟨A, hA⟩ := Int.eq_ofNat_of_zero_le hbd.1
        have hdl := hin.dirty
        have hpg := hin.pg
        have hpg0 := hin.pg0
        have hpg1 := hin.pg1
        have hA2 : A ≤ 1000 := by omega
        have hdd : (A : Int) + n ≤ 8 * (D1.dirty.length : Int) := by omega
        have hj15 : (j : Int) ≤ 15 := hbd.2.2.2.2.1
        have hat2 := Lib.hid (fun (w : World) => (hA ▸ at_any s (.slice (some ⟨gl, 0, none⟩) s.lens.length cl1) (.slice (some ⟨gp, 0, none⟩) s.ptrs.length cp) (j : Int) hpg0 (by omega) (by omega) (by omega) w :
          Calls Tryz.prog 160 #[spanV s (.slice (some ⟨gl, 0, none⟩) s.lens.length cl1) (.slice (some ⟨gp, 0, none⟩) s.ptrs.length cp), .int .i64 j] w fun e w' => e = .returned (.int .i64 (A : Int)) ∧ Below w.heap.size w w'))
        have G4 := hv.out.cell 4 S1.vs rfl
        rw [hgs] at G4
        obtain ⟨x0, x1, x2, x3, x4, x5⟩ := hv.out.six hgs hs hp0
        rw [hgl] at x4
        rw [hgp] at x5
        obtain ⟨n1, n2, n3, n4, n5, n6⟩ := hv.out.nes hgs hs hp0 hgl hgp
        obtain ⟨c1, c2⟩ := ints_cell (hv.out.own.inner k s p0 hs hp0).1 hgl j hj
        obtain ⟨d1, d2⟩ := ints_cell (hv.out.own.inner k s p0 hs hp0).2 hgp j hjp
        have s1 := hv.out.lens k j s p0 n hs hp0 hgl
        have hk2 := Lib.hid (set_at (t := ({ s with lens := s.lens.set j n } : SpanD)) hs)
        have s2 := Lib.hid (s1.1.ptrs k j _ p0 p hk2.out hp0 hgp)
        have B2 := Lib.hid (s1.2.trans s2.out.2)
        have hmx := hv.out.rd.parts.2.2.1
        obtain ⟨_, _, _, hsm, _⟩ := hmx
        unfold maxLen at hsm
        have hlx := (hv.out.own.inner k s p0 hs hp0)
        have hlx1 := (Rd.of_owns hlx.1)
        have hlx2 := (Rd.of_owns hlx.2)
        obtain ⟨_, _, _, hsm1, _⟩ := hlx1
        obtain ⟨_, _, _, hsm2, _⟩ := hlx2
        unfold maxLen at hsm1 hsm2
        have hin' := Lib.hid hin
        have hs' := Lib.hid hs
        have hA' := Lib.hid hA
        have hle1 := Lib.hid (Nat.le_of_lt (Nat.lt_of_le_of_lt hv.out.le hv.out.lt))
        have hz1 := Lib.hid (show (w1.setCell ⟨gl, j, none⟩ (.int .i64 n)).heap.size = w1.heap.size from World.size_setCell ..)
        generalize s.lens[j]?.getD 0 = o3 at c1
        generalize s.ptrs[j]?.getD 0 = o4 at d1
        clear s1 hin hs hgs hgl hgp hp0 hA hbd hlx hj hjp
        go_wp2_with fail
        refine (hat2.out _).mono ?_
        rintro e w3 ⟨rfl, b3⟩
        have v3 := Lib.hid (s2.out.1.below b3)
        have B3 := Lib.hid (B2.out.trans (b3.mono (by have := hle1.out; simp; omega)))
        clear b3 G4 x0 x1 x2 x3 x4 x5 c1 c2 d1 d2
        go_wp2_with fail
        refine (sdirty_any base B S1 _ (A : Int) n (by omega) (by omega) (by omega) (by omega) (by exact hdd) w3 v3.out).mono ?_
        rintro e w4 ⟨rfl, v4, b4⟩
        have hks := Lib.hid (show (takeD D1 k s j n p).spans[k]? = some (takeS s j n p) from set_at hs'.out)
        have v4' := Lib.hid (show VarW w4 base B S1 (takeD D1 k s j n p) from by simpa only [takeD, takeS, hA'.out, List.set_set] using v4)
        have B4 := Lib.hid (B3.out.trans b4)
        clear v4 b4
        have hadr := Lib.hid (addr_any B _ (takeD D1 k s j n p) k j (takeS s j n p) hks.out hpg0 (by show s.page ≤ 1000; omega) (by omega) hb0 hb1 w4 v4'.out.rd v4'.out.boxW)
        go_wp2_with fail
        refine hadr.out.mono ?_
        rintro e w5 ⟨rfl, b5⟩
        go_wp2_with fail
        go_ret
        exact ⟨.inl ⟨D1, k, j, s, S1, hpl.out, hs'.out, rfl, v4'.out.below b5⟩, hBB.out.trans (B4.out.trans (b5.mono (by have := v4'.out.le; have := v4'.out.lt; omega)))⟩
    by_cases hil : i < D.spans.length
    · obtain ⟨s, hks⟩ : ∃ s, D.spans[i]? = some s := ⟨_, List.getElem?_eq_getElem hil⟩
      have hil1 : (i : Int) < (D.spans.length : Int) := by omega
      obtain ⟨b1, o1, rfl, vl, vp, _, x1, _, _, x4, _, ⟨al, cl1, rfl, hll, xl⟩, _⟩ := hat.out i s hks
      have xl' := Lib.hid xl
      have hks' := Lib.hid hks
      unfold maxLen at hll
      clear xl hks
      go_wp2_with fail
      go_loop [8, 9, 11] (fun a b jj => ∃ j : Nat, j ≤ s.lens.length ∧ jj = .int .i64 j ∧ ((a = .int .i64 (-1) ∧ b = .int .i64 z ∧ Hid (s.cls = c → ∀ i, i < j → s.lens[i]?.getD 0 ≠ 0)) ∨ ∃ j0 : Nat, a = .int .i64 i ∧ b = .int .i64 j0 ∧ Hid (s.cls = c) ∧ Hid (PlaceIs D c D i j0))) (fun a b jj => s.lens.length - (intOf jj).toNat)
      case atStart => exact ⟨0, Nat.zero_le _, rfl, .inl ⟨rfl, rfl, fun _ i hi => absurd hi (by omega)⟩⟩
      case round =>
        obtain ⟨j, hj, rfl, hst⟩ := hrel
        rcases hst with ⟨rfl, rfl, hno⟩ | ⟨j0, rfl, rfl, hcc, hpl⟩
        case inr =>
          have hcb : (s.cls == c) = true := beq_iff_eq.2 hcc.out
          by_cases hjl : (j : Int) < (s.lens.length : Int)
          all_goals go_wp2_with fail
          all_goals go_round
          all_goals first
            | exact ⟨i + 1, by omega, by go_num, .inr ⟨i, j0, rfl, rfl, hpl⟩⟩
            | (simp [intOf]; omega)
        by_cases hcc : s.cls = c
        · have hcb : (s.cls == c) = true := beq_iff_eq.2 hcc
          have hcc' := Lib.hid hcc
          clear hcc
          by_cases hjl : j < s.lens.length
          · have hjl1 : (j : Int) < (s.lens.length : Int) := by omega
            obtain ⟨bl, ol, rfl, gl⟩ := xl'.out j hjl
            have hyes := Lib.hid (show s.lens[j]?.getD 0 = 0 → PlaceIs D c D i j from fun h => .inl ⟨rfl, s, hks'.out, hcc'.out, hjl, h, hno.out hcc'.out, hfu.out⟩)
            have hnext := Lib.hid (show s.lens[j]?.getD 0 ≠ 0 → s.cls = c → ∀ i, i < j + 1 → s.lens[i]?.getD 0 ≠ 0 from fun h hc i hi => if e : i = j then by subst e; exact h else hno.out hc i (by omega))
            generalize s.lens[j]?.getD 0 = l at *
            by_cases hl : l = 0
            · have y := Lib.hid (hyes.out hl)
              subst hl
              go_wp2_with fail
              go_round
              case rel => exact ⟨j + 1, by omega, by go_num, .inr ⟨j, rfl, rfl, hcc', y⟩⟩
              case measure => simp [intOf]; omega
            · have y := Lib.hid (hnext.out hl)
              go_wp2_with fail
              go_round
              case rel => exact ⟨j + 1, by omega, by go_num, .inl ⟨rfl, rfl, y⟩⟩
              case measure => simp [intOf]; omega
          · have hjl1 : ¬ (j : Int) < (s.lens.length : Int) := by omega
            have y := Lib.hid (fullUp_next hfu.out hks'.out fun h i hi => hno.out h i (by omega))
            go_wp2_with fail
            go_round
            case rel => exact ⟨i + 1, by omega, by go_num, .inl ⟨z, rfl, rfl, hz0, y⟩⟩
            case measure => simp [intOf]; omega
        · have hcb : (s.cls == c) = false := beq_eq_false_iff_ne.2 hcc
          have y := Lib.hid (fullUp_next hfu.out hks'.out fun h => absurd h hcc)
          clear hcc
          by_cases hjl : (j : Int) < (s.lens.length : Int)
          all_goals go_wp2_with fail
          all_goals go_round
          all_goals first
            | exact ⟨i + 1, by omega, by go_num, .inl ⟨z, rfl, rfl, hz0, y⟩⟩
            | (simp [intOf]; omega)
    · obtain rfl : i = D.spans.length := by omega
      have hpage := Lib.hid (fun w h => spage_any base B S D c (by omega) w h)
      go_wp2_with fail
      refine (hpage.out _ h'.out).mono ?_
      rintro e w1 ⟨hq, b1⟩
      obtain ⟨k, hfp, hq⟩ := hq
      have hfp' := Lib.hid hfp
      have hbB2 := Lib.hid b1
      clear hfp b1 g4
      rcases hq with ⟨hkp, rfl, hv1⟩ | ⟨hkp, rfl, S1, hv1⟩
      · have hv1' := Lib.hid hv1
        have y := Lib.hid (show NoPlace D (cl n) from hce'.out ▸ (⟨hfu.out, k, hfp'.out, hkp⟩ : NoPlace D c))
        clear hv1 hkp
        go_wp2_with fail
        go_ret
        exact ⟨.inr ⟨y.out, rfl, hv1'.out⟩, hbB2.out⟩
      · obtain ⟨j, hj⟩ : ∃ j : Nat, j = z := ⟨_, rfl⟩
        subst hj
        have hj0 := hz0.out
        have hv := Lib.hid hv1
        have hBB := hbB2
        have hkl := hfp'.out.1
        have hin := fresh_in hF'.out hc.out.2.2.1 hkl hkp
        have hs : (insD D c k).spans[k]? = some (freshS D c k) := ins_at hkl _
        have hpl := Lib.hid (show PlaceIs D (cl n) (insD D c k) k j from hce'.out ▸ (.inr ⟨hfu.out, hfp'.out, hkp, rfl, hj0⟩ : PlaceIs D c (insD D c k) k j))
        have hszc : n ≤ sz (freshS D c k).cls := hc.out.2.2.2
        have hbn : n ≤ 32 := by omega
        replace hb0 : 0 ≤ (insD D c k).base := hb0
        replace hb1 : (insD D c k).base ≤ 1048576 := hb1
        rw [← hj0] at hin
        clear hv1 hkp
        generalize insD D c k = D1 at *
        generalize freshS D c k = s at *
        clear hj0 hz0
        have hbd := hin.bd
        obtain ⟨p0, hp0⟩ := hv.out.svAt hs
        obtain ⟨gs, cs, hgs⟩ := hv.out.headS (by have := (List.getElem?_eq_some_iff.1 hs).1; omega)
        obtain ⟨gl, cl1, hgl⟩ := head_of (hv.out.own.inner k s p0 hs hp0).1 (by have := hin.j; omega)
        obtain ⟨gp, cp, hgp⟩ := head_of (hv.out.own.inner k s p0 hs hp0).2 (by have := hin.j; have := hin.lens; have := hin.ptrs; omega)
        have hj := hin.j
        have hjp : j < s.ptrs.length := by have := hin.lens; have := hin.ptrs; omega
        have hkl1 : (k : Int) < (D1.spans.length : Int) := by have := (List.getElem?_eq_some_iff.1 hs).1; omega
        have hjl1 : (j : Int) < (s.lens.length : Int) := by omega
        have hjp1 : (j : Int) < (s.ptrs.length : Int) := by omega
        obtain ⟨A, hA⟩ := Int.eq_ofNat_of_zero_le hbd.1
        have hdl := hin.dirty
        have hpg := hin.pg
        have hpg0 := hin.pg0
        have hpg1 := hin.pg1
        have hA2 : A ≤ 1000 := by omega
        have hdd : (A : Int) + n ≤ 8 * (D1.dirty.length : Int) := by omega
        have hj15 : (j : Int) ≤ 15 := hbd.2.2.2.2.1
        have hat2 := Lib.hid (fun (w : World) => (hA ▸ at_any s (.slice (some ⟨gl, 0, none⟩) s.lens.length cl1) (.slice (some ⟨gp, 0, none⟩) s.ptrs.length cp) (j : Int) hpg0 (by omega) (by omega) (by omega) w :
          Calls Tryz.prog 160 #[spanV s (.slice (some ⟨gl, 0, none⟩) s.lens.length cl1) (.slice (some ⟨gp, 0, none⟩) s.ptrs.length cp), .int .i64 j] w fun e w' => e = .returned (.int .i64 (A : Int)) ∧ Below w.heap.size w w'))
        have G4 := hv.out.cell 4 S1.vs rfl
        rw [hgs] at G4
        obtain ⟨x0, x1, x2, x3, x4, x5⟩ := hv.out.six hgs hs hp0
        rw [hgl] at x4
        rw [hgp] at x5
        obtain ⟨n1, n2, n3, n4, n5, n6⟩ := hv.out.nes hgs hs hp0 hgl hgp
        obtain ⟨c1, c2⟩ := ints_cell (hv.out.own.inner k s p0 hs hp0).1 hgl j hj
        obtain ⟨d1, d2⟩ := ints_cell (hv.out.own.inner k s p0 hs hp0).2 hgp j hjp
        have s1 := hv.out.lens k j s p0 n hs hp0 hgl
        have hk2 := Lib.hid (set_at (t := ({ s with lens := s.lens.set j n } : SpanD)) hs)
        have s2 := Lib.hid (s1.1.ptrs k j _ p0 p hk2.out hp0 hgp)
        have B2 := Lib.hid (s1.2.trans s2.out.2)
        have hmx := hv.out.rd.parts.2.2.1
        obtain ⟨_, _, _, hsm, _⟩ := hmx
        unfold maxLen at hsm
        have hlx := (hv.out.own.inner k s p0 hs hp0)
        have hlx1 := (Rd.of_owns hlx.1)
        have hlx2 := (Rd.of_owns hlx.2)
        obtain ⟨_, _, _, hsm1, _⟩ := hlx1
        obtain ⟨_, _, _, hsm2, _⟩ := hlx2
        unfold maxLen at hsm1 hsm2
        have hin' := Lib.hid hin
        have hs' := Lib.hid hs
        have hA' := Lib.hid hA
        have hle1 := Lib.hid (Nat.le_of_lt (Nat.lt_of_le_of_lt hv.out.le hv.out.lt))
        have hz1 := Lib.hid (show (w1.setCell ⟨gl, j, none⟩ (.int .i64 n)).heap.size = w1.heap.size from World.size_setCell ..)
        generalize s.lens[j]?.getD 0 = o3 at c1
        generalize s.ptrs[j]?.getD 0 = o4 at d1
        clear s1 hin hs hgs hgl hgp hp0 hA hbd hlx hj hjp
        go_wp2_with fail
        refine (hat2.out _).mono ?_
        rintro e w3 ⟨rfl, b3⟩
        have v3 := Lib.hid (s2.out.1.below b3)
        have B3 := Lib.hid (B2.out.trans (b3.mono (by have := hle1.out; simp; omega)))
        clear b3 G4 x0 x1 x2 x3 x4 x5 c1 c2 d1 d2
        go_wp2_with fail
        refine (sdirty_any base B S1 _ (A : Int) n (by omega) (by omega) (by omega) (by omega) (by exact hdd) w3 v3.out).mono ?_
        rintro e w4 ⟨rfl, v4, b4⟩
        have hks := Lib.hid (show (takeD D1 k s j n p).spans[k]? = some (takeS s j n p) from set_at hs'.out)
        have v4' := Lib.hid (show VarW w4 base B S1 (takeD D1 k s j n p) from by simpa only [takeD, takeS, hA'.out, List.set_set] using v4)
        have B4 := Lib.hid (B3.out.trans b4)
        clear v4 b4
        have hadr := Lib.hid (addr_any B _ (takeD D1 k s j n p) k j (takeS s j n p) hks.out hpg0 (by show s.page ≤ 1000; omega) (by omega) hb0 hb1 w4 v4'.out.rd v4'.out.boxW)
        go_wp2_with fail
        refine hadr.out.mono ?_
        rintro e w5 ⟨rfl, b5⟩
        go_wp2_with fail
        go_ret
        exact ⟨.inl ⟨D1, k, j, s, S1, hpl.out, hs'.out, rfl, v4'.out.below b5⟩, hBB.out.trans (B4.out.trans (b5.mono (by have := v4'.out.le; have := v4'.out.lt; omega)))⟩
end Go.Proofs.YtdhiablpobnhcaaGreat

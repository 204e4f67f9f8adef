import Derived.Test.YtpcefecedmdmkaaPkSTake2
import Derived.Test.YtpcefecedmdmkaaPkIC
import Derived.Test.YtpcefecedmdmkaaPkTurn
import Derived.Test.YtpcefecedmdmkaaPkISoil2
import Derived.Test.YtpcefecedmdmkaaPkA

/-
  The contract of the program's Take, that of freePlace being a premise.
-/
namespace Go.Proofs.Ytpcefecedmdmkaa
open Go.RowKit
set_option linter.unusedVariables false

/-- What freePlace answers, and what becomes of the variable. -/
def FreeTo (D : WD) (c : Int) (base B : Nat) (S : Shape) (w : World) (e : Ending) (w' : World) : Prop :=
  (∃ D1 k j S', PlaceIs D c D1 k j ∧ e = .returned (.tuple #[.agg #[.int .i64 (k : Int), .int .i64 (j : Int)], .bool true]) ∧ VarW w' base B S' D1 ∧ Turned w w' B S S') ∨
  (NoPlace D c ∧ e = .returned (.tuple #[.agg #[.int .i64 0, .int .i64 0], .bool false]) ∧ VarW w' base B S D ∧ Turned w w' B S S)
/-- What take answers, and what becomes of the variable. -/
def TookTo (D : WD) (n p : Int) (base B : Nat) (S : Shape) (w : World) (e : Ending) (w' : World) : Prop :=
  (∃ D1 k j s S', PlaceIs D (cl n) D1 k j ∧ D1.spans[k]? = some s ∧ e = .returned (.tuple #[.agg #[.int .i64 (k : Int), .int .i64 (j : Int)], .bool true]) ∧ VarW w' base B S' (takeD D1 k s j n p) ∧ Turned w w' B S S') ∨
  (NoPlace D (cl n) ∧ e = .returned (.tuple #[.agg #[.int .i64 0, .int .i64 0], .bool false]) ∧ VarW w' base B S D ∧ Turned w w' B S S)
theorem place_in {D : WD} {n : Int} (hF : HeapForm D) (h1 : 1 ≤ n) (h2 : n ≤ 16) {D1 : WD} {k j : Nat} (h : PlaceIs D (cl n) D1 k j) : ∃ s, D1.spans[k]? = some s ∧ SlotIn D1 s j ∧ n ≤ sz s.cls ∧ D1.base = D.base := by
  obtain ⟨-, -, hc, hz⟩ := cl_ok h1 h2
  rcases h with ⟨rfl, s, hs, hsc, hj, _⟩ | ⟨_, hp, hn, rfl, rfl⟩
  · exact ⟨s, hs, hF.slotIn hs hj, by rw [hsc]; exact hz, rfl⟩
  · exact ⟨freshS D (cl n) k, ins_at hp.1 _, fresh_in hF hc hp.1 hn, hz, rfl⟩
def sizesB (n p : Int) : Bool := inB n 1 16 && inB p 0 n
set_option maxHeartbeats 400000 in
theorem sizesOk_any (n p : Int) (w : World) : Calls Try.prog 51 #[.int .i64 n, .int .i64 p] w fun e w' => e = .returned (.bool (sizesB n p)) ∧ w = w' := by
  cases hv : inB n 1 16
  · have hb : sizesB n p = false := by simp [sizesB, hv]
    rw [hb]
    clear hb
    have hv' := Lib.hid hv
    clear hv
    go_enter Try.func51, Try.ntmps51
    go_wp2_with (go_at_call 20; refine (isIn_eq hv'.out _).mono ?_; rintro e w' ⟨rfl, rfl⟩)
    go_ret
    exact ⟨rfl, rfl⟩
  · have hb : sizesB n p = inB p 0 n := by simp [sizesB, hv]
    rw [hb]
    obtain ⟨q, hq⟩ : ∃ q, inB p 0 n = q := ⟨_, rfl⟩
    rw [hq]
    have hv' := Lib.hid hv
    have hq' := Lib.hid hq
    clear hv hb hq
    go_enter Try.func51, Try.ntmps51
    go_wp2_with (go_at_call 20; first | ((with_reducible refine (isIn_eq hv'.out _).mono ?_); rintro e w' ⟨rfl, rfl⟩) | ((with_reducible refine (isIn_eq hq'.out _).mono ?_); rintro e w' ⟨rfl, rfl⟩))
    go_ret
    exact ⟨rfl, rfl⟩
theorem sizesOk_eq {n p : Int} {v : Bool} (hv : sizesB n p = v) (w : World) : Calls Try.prog 51 #[.int .i64 n, .int .i64 p] w fun e w' => e = .returned (.bool v) ∧ w = w' := by
  rw [← hv]; exact sizesOk_any n p w

set_option maxRecDepth 100000 in
set_option maxHeartbeats 8000000 in
theorem take_of (hfp : ∀ (base B : Nat) (S : Shape) (D : WD) (c : Int) (hls : D.spans.length ≤ 1000) (w : World) (h : VarW w base B S D), Calls Try.prog 68 #[.pointer (some ⟨B, 0, none⟩), .int .i64 c] w fun e w' => FreeTo D c base B S w e w' ∧ Below base w w')
    (base B : Nat) (S : Shape) (D : WD) (n p : Int) (hF : HeapForm D) (e1 : 1 ≤ n) (e2 : n ≤ 16) (e3 : 0 ≤ p) (e4 : p ≤ n) (w : World) (h : VarW w base B S D) :
    Calls Try.prog 53 #[.pointer (some ⟨B, 0, none⟩), .int .i64 n, .int .i64 p] w fun e w' => TookTo D n p base B S w e w' ∧ Below base w w' := by
  have hF' := Lib.hid hF
  have hsp := Lib.hid (show D.spans.length ≤ 1000 by have := hF.spans; have := hF.geo.2.2.2.2.1; omega)
  have hcn := Lib.hid (fun w => classOf_any n w)
  have bb0 := below_box w (.cells #[.int .i64 0, .int .i64 0] 80)
  have hr0 := box_new w (.cells #[.int .i64 0, .int .i64 0] 80)
  have hcall := Lib.hid (hfp base B S D (cl n) hsp.out _ (h.below bb0))
  have hle := h.le
  have hlt := h.lt
  have hown0 := Lib.hid h.own.lt
  have hR0 := Lib.hid hr0
  have bb0' := Lib.hid (bb0.mono (Nat.le_of_lt (Nat.lt_of_le_of_lt hle hlt)))
  have ht0 := Lib.hid (Turned.of_below B S bb0)
  have hz0 := Lib.hid (show (w.alloc (.cells #[.int .i64 0, .int .i64 0] 80)).heap.size = w.heap.size + 1 by simp)
  clear hfp hF h bb0 hr0
  go_enter Try.func53, Try.ntmps53
  go_wp2_with (go_at_call 69; refine (hcn.out _).mono ?_; rintro e w' ⟨rfl, rfl⟩)
  refine hcall.out.mono ?_
  rintro e w3 ⟨hq, b3⟩
  have b3' := Lib.hid (bb0'.out.trans b3)
  clear b3
  have hRn : w.heap.size ∉ B :: blks S.all := fun hm => by
    rcases List.mem_cons.1 hm with e | hm
    · omega
    · have := (hown0.out _ hm).2
      omega
  rcases hq with ⟨D1, k, j, S1, hpl, rfl, hv, htW⟩ | ⟨hno, rfl, hv, htW⟩
  case inr =>
    have hR3 := htW.keeps hRn hR0.out (by have := hz0.out; omega)
    have ht := ht0.out.trans htW
    have hns : ∀ q, q ∈ blks S.all → q ∉ [w.heap.size] := fun q hq hm => by
      have h1 := List.mem_singleton.1 hm
      have := (hown0.out q hq).2
      omega
    have hns' := Lib.hid hns
    have y := Lib.hid (show NoPlace D (cl n) from hno)
    have bP := below_box w3 (.cells #[.int .i64 0, .int .i64 0] 80)
    have hv4 := Lib.hid (hv.below bP)
    have ht4 := Lib.hid (ht.trans (Turned.of_below B S bP))
    have b4 := Lib.hid (b3'.out.trans (bP.mono (by have := hv.le; have := hv.lt; omega)))
    have hR4 := heap_below bP hR3
    have q0 := cell_of_heap hR4 0 _ rfl
    have q1 := cell_of_heap hR4 1 _ rfl
    have z0 := frozen_of_heap hR4 0
    have z1 := frozen_of_heap hR4 1
    have hsz := Lib.hid (show base ≤ (w3.alloc (.cells #[.int .i64 0, .int .i64 0] 80)).heap.size by have := hv.le; have := hv.lt; simp; omega)
    clear hno hv ht bP hR3 hR4 htW hns hRn
    go_upto_region 2 with fail
    generalize w3.alloc (.cells #[.int .i64 0, .int .i64 0] 80) = w4 at *
    go_wp2_with fail
    refine bodyPost_ret (v := .tuple #[.agg #[.int .i64 0, .int .i64 0], .bool false]) (by simp [results, Try.results53, go_sem, q0, q1]) rfl ?_
    have cc := ((Chg.refl [w.heap.size] w4).put (b := w.heap.size) (by simp) 0 (.int .i64 0)).put (b := w.heap.size) (by simp) 1 (.int .i64 0)
    exact ⟨.inr ⟨y.out, rfl, hv4.out.chg cc hns'.out (fun hm => by have := List.mem_singleton.1 hm; omega), ht4.out.step cc (fun q hq => .inr (.inr (Nat.le_of_eq (List.mem_singleton.1 hq).symm)))⟩, Chg.below b4.out cc hsz.out (fun q hq => by rw [List.mem_singleton.1 hq]; omega)⟩
  have hR3 := htW.keeps hRn hR0.out (by have := hz0.out; omega)
  have ht := ht0.out.trans htW
  have hlt3 := Lib.hid (show w.heap.size + 1 ≤ w3.heap.size by have := htW.chg.size; have := hz0.out; omega)
  have hns : ∀ q, q ∈ blks S1.all → q ≠ w.heap.size := fun q hq => by
    rcases htW.own q hq with h1 | h1
    · have := (hown0.out q h1).2
      omega
    · have := hz0.out
      omega
  have hns' := Lib.hid hns
  obtain ⟨s, hks, hin, hszc, hbas⟩ := place_in hF'.out e1 e2 hpl
  have y := Lib.hid (show PlaceIs D (cl n) D1 k j ∧ D1.spans[k]? = some s from ⟨hpl, hks⟩)
  have bP := below_box w3 (.cells #[.int .i64 k, .int .i64 j] 80)
  have nP := Lib.hid (box_new w3 (.cells #[.int .i64 k, .int .i64 j] 80))
  have hv4 := Lib.hid (hv.below bP)
  have ht4 := Lib.hid (ht.trans (Turned.of_below B S1 bP))
  have hR4 := Lib.hid (heap_below bP hR3)
  have b4 := Lib.hid (b3'.out.trans (bP.mono (by have := hv.le; have := hv.lt; omega)))
  have hownl := Lib.hid hv.own.lt
  have hB3 := hv.lt
  have hBne := hv.ne
  have hbd := hin.bd
  obtain ⟨p0, hp0⟩ := hv.svAt hks
  obtain ⟨gs, cs, hgs⟩ := hv.headS (by have := (List.getElem?_eq_some_iff.1 hks).1; omega)
  obtain ⟨gl, cl1, hgl⟩ := head_of (hv.own.inner k s p0 hks hp0).1 (by have := hin.j; omega)
  obtain ⟨gp, cp, hgp⟩ := head_of (hv.own.inner k s p0 hks hp0).2 (by have := hin.j; have := hin.lens; have := hin.ptrs; omega)
  have hj := hin.j
  have hjp : j < s.ptrs.length := by have := hin.lens; have := hin.ptrs; omega
  have hkl1 : (k : Int) < (D1.spans.length : Int) := by have := (List.getElem?_eq_some_iff.1 hks).1; omega
  have hjl1 : (j : Int) < (s.lens.length : Int) := by omega
  have hjp1 : (j : Int) < (s.ptrs.length : Int) := by omega
  obtain ⟨A, hA⟩ := Int.eq_ofNat_of_zero_le hbd.1
  have hdl := hin.dirty
  have hpg := hin.pg
  have hpg0 := hin.pg0
  have hpg1 := hin.pg1
  have hA2 : A ≤ 1000 := by omega
  have hdd : (A : Int) + n ≤ 8 * (D1.dirty.length : Int) := by omega
  have hj15 : (j : Int) ≤ 15 := hbd.2.2.2.2.1
  have hn32 : n ≤ 32 := by omega
  obtain ⟨_, _, -, hsm, -⟩ := hv.rd.parts.2.2.1
  obtain ⟨_, _, -, hsm1, -⟩ := Rd.of_owns (hv.own.inner k s p0 hks hp0).1
  obtain ⟨_, _, -, hsm2, -⟩ := Rd.of_owns (hv.own.inner k s p0 hks hp0).2
  unfold maxLen at hsm hsm1 hsm2
  have q0 := cell_of_heap nP.out 0 _ rfl
  have q1 := cell_of_heap nP.out 1 _ rfl
  have G4 := hv4.out.cell 4 (.slice (some ⟨gs, 0, none⟩) D1.spans.length cs) (by rw [← hgs]; rfl)
  obtain ⟨x0, x1, x2, x3, x4, x5⟩ := hv4.out.six hgs hks hp0
  rw [hgl] at x4
  rw [hgp] at x5
  obtain ⟨n1, n2, n3, n4, n5, n6⟩ := hv4.out.nes hgs hks hp0 hgl hgp
  obtain ⟨c1, c2⟩ := ints_cell (hv4.out.own.inner k s p0 hks hp0).1 hgl j hj
  obtain ⟨d1, d2⟩ := ints_cell (hv4.out.own.inner k s p0 hks hp0).2 hgp j hjp
  have k1 : gl ∈ blks S1.all := List.mem_filterMap.2 ⟨p0.1, by have : p0.1 ∈ svInts S1.sv := List.mem_flatMap.2 ⟨p0, List.mem_of_getElem? hp0, by simp⟩; simp [Shape.all, this], by rw [hgl]; rfl⟩
  have k2 : gp ∈ blks S1.all := List.mem_filterMap.2 ⟨p0.2, by have : p0.2 ∈ svInts S1.sv := List.mem_flatMap.2 ⟨p0, List.mem_of_getElem? hp0, by simp⟩; simp [Shape.all, this], by rw [hgp]; rfl⟩
  have m1 : ¬ (w3.heap.size = gl) := fun e => by have := (hownl.out gl k1).2; omega
  have m2 : ¬ (w3.heap.size = gp) := fun e => by have := (hownl.out gp k2).2; omega
  have hin' := Lib.hid hin
  have hks' := Lib.hid hks
  have hp0' := Lib.hid hp0
  have hgs' := Lib.hid hgs
  have hgl' := Lib.hid hgl
  have hgp' := Lib.hid hgp
  have hA' := Lib.hid hA
  have k1' := Lib.hid k1
  have k2' := Lib.hid k2
  have hfw := Lib.hid (fun (w : World) (s' : SpanD) (h0 : s'.page = s.page) (h1 : s'.cls = s.cls) (hr : RdSpan w gs (k * 6) s') => (show Calls Try.prog 59 #[.pointer (some ⟨gs, k * 6, none⟩), .int .i64 j] w fun e w' => e = .returned (.int .i64 (A : Int)) ∧ Drawn w w' from by
    have e9 : atW s' (j : Int) = (A : Int) := by rw [← hA]; unfold atW; rw [h0, h1]
    have := firstWord_any gs (k * 6) s' (j : Int) (by omega) (by omega) (by omega) (by omega) w hr
    rwa [e9] at this))
  have hgn1 := hns gl k1
  have hgn2 := hns gp k2
  clear hin hks hp0 hgs hgl hgp hA hbd hv hpl hszc hj hjp hdl hpg1 bP hbas ht k1 k2 hBne hR3 htW hns hRn
  go_upto_region 2 with fail
  generalize hWe : w3.alloc (.cells #[.int .i64 k, .int .i64 j] 80) = w4 at *
  have hWz := Lib.hid (show w4.heap.size = w3.heap.size + 1 by rw [← hWe]; simp)
  clear hWe
  go_upto_region 4 with fail
  go_cut [10] (fun q wx => q = .pointer (some ⟨gs, k * 6, none⟩) ∧ wx = w4.drew)
  case first =>
    go_region
    all_goals go_wp2_with fail
    all_goals go_meet
    all_goals exact ⟨rfl, rfl⟩
  obtain ⟨rfl, rfl⟩ := hcut
  have s1 := hv4.out.drew.lens k j s p0 n hks'.out hp0'.out hgl'.out
  have hk2 := Lib.hid (set_at (t := ({ s with lens := s.lens.set j n } : SpanD)) hks'.out)
  have s2 := s1.1.ptrs k j _ p0 p hk2.out hp0'.out hgp'.out
  have s3 : VarW ((w4.drew.setCell ⟨gl, j, none⟩ (.int .i64 n)).setCell ⟨gp, j, none⟩ (.int .i64 p)) base B S1 { D1 with spans := D1.spans.set k (takeS s j n p) } := by simpa only [List.set_set, takeS] using s2.1
  have S2 := Lib.hid s3.drew
  have S3 := Lib.hid ((below_drewN b4.out 1).trans (below_drewN (s1.2.trans s2.2) 1))
  have T3 := Lib.hid ((((ht4.out.step (Chg.of_below (below_drewN (Below.refl _ w4) 1) []) (by simp)).step (Chg.of_grown (grown_set w4.drew gl j (.int .i64 n)) (bs := [gl]) (by simp)) (fun q hq => by rw [List.mem_singleton.1 hq]; exact .inr (.inl k1'.out))).step (Chg.of_grown (grown_set (w4.drew.setCell ⟨gl, j, none⟩ (.int .i64 n)) gp j (.int .i64 p)) (bs := [gp]) (by simp)) (fun q hq => by rw [List.mem_singleton.1 hq]; exact .inr (.inl k2'.out))).step (Chg.of_below (below_drewN (Below.refl _ _) 1) []) (by simp))
  have bs2 := Lib.hid (((heap_setCell_other (w4.drew.setCell ⟨gl, j, none⟩ (.int .i64 n)) ⟨gp, j, none⟩ w3.heap.size (.int .i64 p) (by simpa using m2)).trans (heap_setCell_other w4.drew ⟨gl, j, none⟩ w3.heap.size (.int .i64 n) (by simpa using m1))).trans nP.out)
  have bR2 := Lib.hid (((heap_setCell_other (w4.drew.setCell ⟨gl, j, none⟩ (.int .i64 n)) ⟨gp, j, none⟩ w.heap.size (.int .i64 p) (by simpa using hgn2.symm)).trans (heap_setCell_other w4.drew ⟨gl, j, none⟩ w.heap.size (.int .i64 n) (by simpa using hgn1.symm))).trans hR4.out)
  clear s1 s2 s3
  generalize s.lens[j]?.getD 0 = o3 at c1
  generalize s.ptrs[j]?.getD 0 = o4 at d1
  go_upto_region 5 with fail
  go_cut [10] (fun q wx => q = .pointer (some ⟨gs, k * 6, none⟩) ∧ Hid (VarW wx base B S1 { D1 with spans := D1.spans.set k (takeS s j n p) }) ∧ Hid (Below base w wx) ∧ Hid (Turned w wx B S S1) ∧ Hid (wx.heap[w3.heap.size]? = some (.cells #[.int .i64 k, .int .i64 j] 80 (0, 0))) ∧ Hid (wx.heap[w.heap.size]? = some (.cells #[.int .i64 0, .int .i64 0] 80 (0, 0))))
  case first =>
    go_region
    all_goals go_wp2_with fail
    all_goals go_meet
    all_goals exact ⟨rfl, S2, S3, T3, bs2, bR2⟩
  case rest =>
    obtain ⟨rfl, hv5, hb5, ht5, bn5, bR5⟩ := hcut
    clear q0 q1 G4 x0 x1 x2 x3 x4 x5 c1 d1 c2 d2 S2 S3 T3 bs2 bR2 hR4
    have q1 := cell_of_heap bn5.out 1 _ rfl
    have hk5 := Lib.hid (set_at (t := takeS s j n p) hks'.out)
    have hgs5 := Lib.hid (show S1.vs = .slice (some ⟨gs, 0, none⟩) (D1.spans.set k (takeS s j n p)).length cs by rw [List.length_set]; exact hgs'.out)
    have hrs := Lib.hid (show RdSpan wc gs (k * 6) (takeS s j n p) from by
      obtain ⟨x0, x1, x2, x3, x4, x5⟩ := hv5.out.six hgs5.out hk5.out hp0'.out
      have hi := hv5.out.own.inner k _ p0 hk5.out hp0'.out
      exact ⟨_, _, x0, x1, x2, x3, x4, x5, Rd.of_owns hi.1, Rd.of_owns hi.2⟩)
    go_wp2_with fail
    refine (hfw.out _ (takeS s j n p) rfl rfl hrs.out).mono ?_
    rintro e w6 ⟨rfl, dr6⟩
    have b6 := dr6.below
    have hv6 := Lib.hid (hv5.out.below b6)
    have hb6 := Lib.hid (hb5.out.trans (b6.mono (by have := hv5.out.lt; have := hv5.out.le; omega)))
    have ht6 := Lib.hid (ht5.out.trans (Turned.of_below B S1 b6))
    have bn6 := Lib.hid (heap_below b6 bn5.out)
    have bR6 := Lib.hid (heap_below b6 bR5.out)
    clear dr6 b6 q1
    go_wp2_with fail
    refine (soil2_any _ _ _ _ (A : Int) n (by omega) (by omega) (by omega) (by omega) (by exact hdd) _ hv6.out).mono ?_
    rintro e w7 ⟨⟨_, rfl⟩, hv7, b7, ch7⟩
    have hv7' := Lib.hid (show VarW w7 base B S1 (takeD D1 k s j n p) from by
      unfold takeD
      rw [hA'.out]
      exact hv7)
    have hb7 := Lib.hid (hb6.out.trans b7)
    have ht7 := Lib.hid (ht6.out.step ch7 (fun q hq => .inr (.inl hq)))
    have bn7 := (ch7.block w3.heap.size (Array.getElem?_eq_some_iff.1 bn6.out).1 (fun hm => by have := (hownl.out _ hm).2; omega)).trans bn6.out
    have bR7 := (ch7.block w.heap.size (Array.getElem?_eq_some_iff.1 bR6.out).1 (fun hm => hns'.out _ hm rfl)).trans bR6.out
    have v0 := cell_of_heap bn7 0 _ rfl
    have v1 := cell_of_heap bn7 1 _ rfl
    have q0 := cell_of_heap bR7 0 _ rfl
    have q1 := cell_of_heap bR7 1 _ rfl
    have z0 := frozen_of_heap bR7 0
    have z1 := frozen_of_heap bR7 1
    have hsz := Lib.hid (show base ≤ w7.heap.size by have := hv7.le; have := hv7.lt; omega)
    have hne9 : ¬ (w3.heap.size = w.heap.size) := fun e => by
      have h1 := ht6.out.chg.size
      have h2 := hB3
      have h3 := ht4.out.chg.size
      have h4 := hWz.out
      have h5 := hz0.out
      have h6 := hlt3.out
      omega
    clear hv7 b7 ch7 hfw hk2 hgs' hgl' hgp' hp0' hownl hv6 hb6 ht6 bn6 hv5 hb5 ht5 bn5 bR5 bR6 bR7 bn7
    go_wp2_with fail
    refine bodyPost_ret (v := .tuple #[.agg #[.int .i64 (k : Int), .int .i64 (j : Int)], .bool true]) (by simp [results, Try.results53, go_sem, q0, q1]) rfl ?_
    have cc := ((Chg.refl [w.heap.size] w7).put (b := w.heap.size) (by simp) 0 (.int .i64 (k : Int))).put (b := w.heap.size) (by simp) 1 (.int .i64 (j : Int))
    exact ⟨.inl ⟨D1, k, j, s, S1, y.out.1, y.out.2, rfl, hv7'.out.chg cc (fun q hq hm => hns'.out q hq (List.mem_singleton.1 hm)) (fun hm => by have := List.mem_singleton.1 hm; omega), ht7.out.step cc (fun q hq => .inr (.inr (Nat.le_of_eq (List.mem_singleton.1 hq).symm)))⟩, Chg.below hb7.out cc hsz.out (fun q hq => by rw [List.mem_singleton.1 hq]; omega)⟩
set_option maxRecDepth 100000 in
set_option maxHeartbeats 16000000 in
theorem itake_of (hfp : ∀ (base B : Nat) (S : Shape) (D : WD) (c : Int) (hls : D.spans.length ≤ 1000) (w : World) (h : VarW w base B S D), Calls Try.prog 68 #[.pointer (some ⟨B, 0, none⟩), .int .i64 c] w fun e w' => FreeTo D c base B S w e w' ∧ Below base w w')
    (v : Value) (D : WD) (n p : Int) (hm : MarksIn D) (hs : Small D) (w : World) (hr : RdW w v D) :
    Calls Try.prog 26 #[v, .int .i64 n, .int .i64 p] w fun e w' => ∃ S D' a f, TakeIs D n p D' a f ∧ e = .returned (.tuple #[S.val D', .int .i64 a, .bool f]) ∧ OwnW w' w.heap.size S D' ∧ Below w.heap.size w w' := by
  have hfp' := Lib.hid hfp
  have hs' := Lib.hid hs
  have hm' := Lib.hid hm
  clear hs hm hfp
  obtain ⟨vw, vd, vs, vm, vg, rfl, a1, a2, a3, a4, a5⟩ := hr
  have bb := below_trans (below_box w (.cells #[.int .i64 D.base, .int .i64 D.pages, vw, vd, vs, vm, .int .i64 D.phase, .int .i64 D.next, vg] 32)) (below_box _ (.cells #[.int .i64 0, .int .i64 0, .slice none 0 0, .slice none 0 0, .slice none 0 0, .slice none 0 0, .int .i64 0, .int .i64 0, .slice none 0 0] 32))
  have hA := heap_below (below_box (w.alloc (.cells #[.int .i64 D.base, .int .i64 D.pages, vw, vd, vs, vm, .int .i64 D.phase, .int .i64 D.next, vg] 32)) (.cells #[.int .i64 0, .int .i64 0, .slice none 0 0, .slice none 0 0, .slice none 0 0, .slice none 0 0, .int .i64 0, .int .i64 0, .slice none 0 0] 32)) (box_new w (.cells #[.int .i64 D.base, .int .i64 D.pages, vw, vd, vs, vm, .int .i64 D.phase, .int .i64 D.next, vg] 32))
  have hR := box_new (w.alloc (.cells #[.int .i64 D.base, .int .i64 D.pages, vw, vd, vs, vm, .int .i64 D.phase, .int .i64 D.next, vg] 32)) (.cells #[.int .i64 0, .int .i64 0, .slice none 0 0, .slice none 0 0, .slice none 0 0, .slice none 0 0, .int .i64 0, .int .i64 0, .slice none 0 0] 32)
  rw [World.size_alloc] at hR
  have hW := Lib.hid (show RdW ((w.alloc (.cells #[.int .i64 D.base, .int .i64 D.pages, vw, vd, vs, vm, .int .i64 D.phase, .int .i64 D.next, vg] 32)).alloc (.cells #[.int .i64 0, .int .i64 0, .slice none 0 0, .slice none 0 0, .slice none 0 0, .slice none 0 0, .int .i64 0, .int .i64 0, .slice none 0 0] 32)) (.agg #[.int .i64 D.base, .int .i64 D.pages, vw, vd, vs, vm, .int .i64 D.phase, .int .i64 D.next, vg]) D from ⟨vw, vd, vs, vm, vg, rfl, a1.below bb, a2.below bb, a3.below bb, a4.below bb, a5.below bb⟩)
  have bb' := Lib.hid bb
  have hA' := Lib.hid hA
  have hR' := Lib.hid hR
  have hz := Lib.hid (show ((w.alloc (.cells #[.int .i64 D.base, .int .i64 D.pages, vw, vd, vs, vm, .int .i64 D.phase, .int .i64 D.next, vg] 32)).alloc (.cells #[.int .i64 0, .int .i64 0, .slice none 0 0, .slice none 0 0, .slice none 0 0, .slice none 0 0, .int .i64 0, .int .i64 0, .slice none 0 0] 32)).heap.size = w.heap.size + 1 + 1 by simp)
  clear a1 a2 a3 a4 a5 bb hA hR
  go_enter Try.func26, Try.ntmps26
  go_wp2_with fail
  generalize (w.alloc (.cells #[.int .i64 D.base, .int .i64 D.pages, vw, vd, vs, vm, .int .i64 D.phase, .int .i64 D.next, vg] 32)).alloc (.cells #[.int .i64 0, .int .i64 0, .slice none 0 0, .slice none 0 0, .slice none 0 0, .slice none 0 0, .int .i64 0, .int .i64 0, .slice none 0 0] 32) = W at *
  refine (formOkI_any _ D hm'.out _ hW.out).mono ?_
  rintro e w1 ⟨hq, b1⟩
  have hq := hq.elim
  have hR1 := heap_below b1 hR'.out
  have hA1 := heap_below b1 hA'.out
  have bb1 := Lib.hid (below_trans bb'.out b1)
  have hW1 := Lib.hid (hW.out.below b1)
  have hz1 := Lib.hid (show w.heap.size + 1 + 1 ≤ w1.heap.size by have := hz.out; have := b1.size; omega)
  by_cases hok : TakeOk D n p
  case neg =>
    have y := Lib.hid (show TakeIs D n p zeroD 0 false from .inr ⟨fun h => absurd h hok, rfl, rfl, rfl⟩)
    have hok' := Lib.hid hok
    have n0 := cell_of_heap hR1 0 _ rfl
    have n1 := cell_of_heap hR1 1 _ rfl
    have n2 := cell_of_heap hR1 2 _ rfl
    have n3 := cell_of_heap hR1 3 _ rfl
    have n4 := cell_of_heap hR1 4 _ rfl
    have n5 := cell_of_heap hR1 5 _ rfl
    have n6 := cell_of_heap hR1 6 _ rfl
    have n7 := cell_of_heap hR1 7 _ rfl
    have n8 := cell_of_heap hR1 8 _ rfl
    have z0 := frozen_of_heap hR1 0
    have z1 := frozen_of_heap hR1 1
    have z2 := frozen_of_heap hR1 2
    have z3 := frozen_of_heap hR1 3
    have z4 := frozen_of_heap hR1 4
    have z5 := frozen_of_heap hR1 5
    have z6 := frozen_of_heap hR1 6
    have z7 := frozen_of_heap hR1 7
    have z8 := frozen_of_heap hR1 8
    clear hok b1 hR1 hA1
    rcases hq with ⟨hF, rfl⟩ | ⟨hF, rfl⟩
    case inr =>
      clear hF
      go_wp2_with fail
      refine bodyPost_ret (v := .tuple #[zeroS.val zeroD, .int .i64 0, .bool false]) (by simp [results, Try.results26, go_sem, n0, n1, n2, n3, n4, n5, n6, n7, n8, Shape.val, zeroS, zeroD]) rfl ?_
      exact ⟨zeroS, zeroD, 0, false, y.out, rfl, own_zero _ _, Chg.below (bs := [w.heap.size + 1]) bb1.out ((((((((((Chg.refl _ _).put (b := w.heap.size + 1) (by simp) 0 _).put (b := w.heap.size + 1) (by simp) 1 _).put (b := w.heap.size + 1) (by simp) 2 _).put (b := w.heap.size + 1) (by simp) 3 _).put (b := w.heap.size + 1) (by simp) 4 _).put (b := w.heap.size + 1) (by simp) 5 _).put (b := w.heap.size + 1) (by simp) 6 _).put (b := w.heap.size + 1) (by simp) 7 _).put (b := w.heap.size + 1) (by simp) 8 _) bb1.out.size (fun q hq => by rw [List.mem_singleton.1 hq]; omega)⟩
    have hb := Lib.hid (show sizesB n p = false from by
      cases h : sizesB n p
      · rfl
      · rw [sizesB, Bool.and_eq_true] at h
        have h1 := inB_iff.1 h.1
        have h2 := inB_iff.1 h.2
        exact absurd ⟨hF, h1.1, h1.2, h2.1, h2.2⟩ hok'.out)
    clear hF
    go_wp2_with (go_at_call 51; refine (sizesOk_eq hb.out _).mono ?_; rintro e w' ⟨rfl, rfl⟩)
    refine bodyPost_ret (v := .tuple #[zeroS.val zeroD, .int .i64 0, .bool false]) (by simp [results, Try.results26, go_sem, n0, n1, n2, n3, n4, n5, n6, n7, n8, Shape.val, zeroS, zeroD]) rfl ?_
    exact ⟨zeroS, zeroD, 0, false, y.out, rfl, own_zero _ _, Chg.below (bs := [w.heap.size + 1]) bb1.out ((((((((((Chg.refl _ _).put (b := w.heap.size + 1) (by simp) 0 _).put (b := w.heap.size + 1) (by simp) 1 _).put (b := w.heap.size + 1) (by simp) 2 _).put (b := w.heap.size + 1) (by simp) 3 _).put (b := w.heap.size + 1) (by simp) 4 _).put (b := w.heap.size + 1) (by simp) 5 _).put (b := w.heap.size + 1) (by simp) 6 _).put (b := w.heap.size + 1) (by simp) 7 _).put (b := w.heap.size + 1) (by simp) 8 _) bb1.out.size (fun q hq => by rw [List.mem_singleton.1 hq]; omega)⟩
  have hF := hok.1
  have e1 := hok.2.1
  have e2 := hok.2.2.1
  have e3 := hok.2.2.2.1
  have e4 := hok.2.2.2.2
  have hok' := Lib.hid hok
  have hF' := Lib.hid hF
  have hb := Lib.hid (show sizesB n p = true from by rw [sizesB, inB_yes e1 e2, inB_yes e3 e4]; rfl)
  have htk := Lib.hid (fun base B S w h => take_of hfp'.out base B S D n p hF e1 e2 e3 e4 w h)
  obtain rfl : e = .returned (.bool true) := by
    rcases hq with ⟨_, h⟩ | ⟨h, _⟩
    · exact h
    · exact absurd hF h
  have hown := Lib.hid (copyOf_any w.heap.size _ D hs'.out w1 hW1.out ⟨_, rfl, hA1⟩)
  have hsp := Lib.hid (show D.spans.length ≤ 1000 by have := hF.spans; have := hF.geo.2.2.2.2.1; omega)
  have hR1' := Lib.hid hR1
  clear hok hq b1 hR1 hA1 hF
  go_wp2_with (go_at_call 51; refine (sizesOk_eq hb.out _).mono ?_; rintro e w' ⟨rfl, rfl⟩)
  refine hown.out.mono ?_
  rintro e w2 ⟨S, rfl, ho, b2⟩
  obtain ⟨aw, ad, aS, am, ag, cw, cd, cS, cm, cg, sv, mv, rfl⟩ := Shape.lits ho
  have hv := Lib.hid (VarW.mk_box ho b2.size)
  have bb2 := Lib.hid (below_trans bb1.out b2)
  have hR2 := Lib.hid (heap_below (below_trans b2 (below_box w2 (.cells (Shape.cells ⟨.slice aw D.words.length cw, .slice ad D.dirty.length cd, .slice aS D.spans.length cS, .slice am D.muts.length cm, .slice ag D.grey.length cg, sv, mv⟩ D) 32))) hR1'.out)
  clear ho b2 hown
  have hbs := Lib.hid (show w1.heap.size ≤ w2.heap.size from hv.out.le)
  have hRne : ¬ (w2.heap.size = w.heap.size + 1) := by have := hz1.out; have := hbs.out; omega
  have hRne' : ¬ (w.heap.size + 1 = w2.heap.size) := by omega
  dsimp only [Shape.val]
  dsimp only [Shape.cells] at hv hR2
  go_wp2_with fail
  refine (htk.out _ _ _ _ hv.out).mono ?_
  rintro e w3 ⟨hq, b3⟩
  have bb3 := Lib.hid (show Below w.heap.size w w3 from (below_trans bb2.out (below_box w2 _)).trans (b3.mono (by have := hz1.out; omega)))
  have hR3 := (b3.block (w.heap.size + 1) (by have := hz1.out; omega)).trans hR2.out
  clear b3 hv hR2
  rcases hq with ⟨D1, k, j, s, S1, hpl, hks, rfl, hv, -⟩ | ⟨hno, rfl, hv, -⟩
  case inr =>
    have y := Lib.hid (show TakeIs D n p zeroD 0 false from .inr ⟨fun _ => hno, rfl, rfl, rfl⟩)
    have hzR : w.heap.size + 1 < w3.heap.size := by have := hz1.out; have := hbs.out; have := hv.lt; omega
    have bP := below_box w3 (.cells #[.int .i64 0, .int .i64 0] 80)
    have bb4 := Lib.hid (below_trans bb3.out bP)
    have hR4 := heap_below bP hR3
    clear hno hv bP hR3
    go_upto_region 5 with fail
    generalize w3.alloc (.cells #[.int .i64 0, .int .i64 0] 80) = w4 at *
    have n0 := cell_of_heap hR4 0 _ rfl
    have n1 := cell_of_heap hR4 1 _ rfl
    have n2 := cell_of_heap hR4 2 _ rfl
    have n3 := cell_of_heap hR4 3 _ rfl
    have n4 := cell_of_heap hR4 4 _ rfl
    have n5 := cell_of_heap hR4 5 _ rfl
    have n6 := cell_of_heap hR4 6 _ rfl
    have n7 := cell_of_heap hR4 7 _ rfl
    have n8 := cell_of_heap hR4 8 _ rfl
    have z0 := frozen_of_heap hR4 0
    have z1 := frozen_of_heap hR4 1
    have z2 := frozen_of_heap hR4 2
    have z3 := frozen_of_heap hR4 3
    have z4 := frozen_of_heap hR4 4
    have z5 := frozen_of_heap hR4 5
    have z6 := frozen_of_heap hR4 6
    have z7 := frozen_of_heap hR4 7
    have z8 := frozen_of_heap hR4 8
    clear hR4
    go_wp2_with fail
    refine bodyPost_ret (v := .tuple #[zeroS.val zeroD, .int .i64 0, .bool false]) (by simp [results, Try.results26, go_sem, n0, n1, n2, n3, n4, n5, n6, n7, n8, Shape.val, zeroS, zeroD]) rfl ?_
    exact ⟨zeroS, zeroD, 0, false, y.out, rfl, own_zero _ _, Chg.below (bs := [w.heap.size + 1]) bb4.out ((((((((((Chg.refl _ _).put (b := w.heap.size + 1) (by simp) 0 _).put (b := w.heap.size + 1) (by simp) 1 _).put (b := w.heap.size + 1) (by simp) 2 _).put (b := w.heap.size + 1) (by simp) 3 _).put (b := w.heap.size + 1) (by simp) 4 _).put (b := w.heap.size + 1) (by simp) 5 _).put (b := w.heap.size + 1) (by simp) 6 _).put (b := w.heap.size + 1) (by simp) 7 _).put (b := w.heap.size + 1) (by simp) 8 _) bb4.out.size (fun q hq => by rw [List.mem_singleton.1 hq]; omega)⟩
  obtain ⟨s', hks', hin, hszc, hbas⟩ := place_in hF'.out e1 e2 hpl
  rw [hks] at hks'
  cases hks'
  have y := Lib.hid (show TakeIs D n p (takeD D1 k s j n p) (D1.base + atW s (j : Int)) true from .inl ⟨hok'.out, D1, k, j, s, hpl, hks, rfl, rfl, rfl⟩)
  have hb0 : 0 ≤ D1.base := by have := hF'.out.geo.1; omega
  have hb1' : D1.base ≤ 1048576 := by have := hF'.out.geo.2.1; omega
  have hpg0 := hin.pg0
  have hpg1 := hin.pg1
  have hpg := hin.pg
  have hj15 : (j : Int) ≤ 15 := hin.bd.2.2.2.2.1
  have hkt := Lib.hid (show (takeD D1 k s j n p).spans[k]? = some (takeS s j n p) from set_at hks)
  have hB3 := hv.lt
  have bP := below_box w3 (.cells #[.int .i64 k, .int .i64 j] 80)
  have nP := Lib.hid (box_new w3 (.cells #[.int .i64 k, .int .i64 j] 80))
  have hv7' := Lib.hid (hv.below bP)
  have hR4 := Lib.hid (heap_below bP hR3)
  have bb4 := Lib.hid (below_trans bb3.out bP)
  clear hv hR3 bP
  go_upto_region 5 with fail
  generalize w3.alloc (.cells #[.int .i64 k, .int .i64 j] 80) = w4 at *
  have hadr := Lib.hid (fun (w' : World) (hb : Below w4.heap.size w4 w') => addrI_any w2.heap.size _ (takeD D1 k s j n p) k j (takeS s j n p) hkt.out hpg0 (by show s.page ≤ 1000; omega) (by omega) hb0 hb1' w' (hv7'.out.below hb).rd (hv7'.out.below hb).boxW)
  have haw : atW (takeS s j n p) (j : Int) = atW s (j : Int) := rfl
  rw [haw] at hadr
  have hbase : (takeD D1 k s j n p).base = D1.base := rfl
  rw [hbase] at hadr
  generalize D1.base + atW s (j : Int) = a at *
  generalize takeD D1 k s j n p = E at *
  obtain ⟨aw', ad', aS', am', ag', cw', cd', cS', cm', cg', sv', mv', rfl⟩ := Shape.lits hv7'.out.own
  have bE := hv7'.out.box
  dsimp only [Shape.cells] at bE
  have u0 := cell_of_heap bE 0 _ rfl
  have u1 := cell_of_heap bE 1 _ rfl
  have u2 := cell_of_heap bE 2 _ rfl
  have u3 := cell_of_heap bE 3 _ rfl
  have u4 := cell_of_heap bE 4 _ rfl
  have u5 := cell_of_heap bE 5 _ rfl
  have u6 := cell_of_heap bE 6 _ rfl
  have u7 := cell_of_heap bE 7 _ rfl
  have u8 := cell_of_heap bE 8 _ rfl
  clear haw hbase hks hin hpl
  have v0 := cell_of_heap nP.out 0 _ rfl
  have v1 := cell_of_heap nP.out 1 _ rfl
  have n0 := cell_of_heap hR4.out 0 _ rfl
  have n1 := cell_of_heap hR4.out 1 _ rfl
  have n2 := cell_of_heap hR4.out 2 _ rfl
  have n3 := cell_of_heap hR4.out 3 _ rfl
  have n4 := cell_of_heap hR4.out 4 _ rfl
  have n5 := cell_of_heap hR4.out 5 _ rfl
  have n6 := cell_of_heap hR4.out 6 _ rfl
  have n7 := cell_of_heap hR4.out 7 _ rfl
  have n8 := cell_of_heap hR4.out 8 _ rfl
  have z0 := frozen_of_heap hR4.out 0
  have z1 := frozen_of_heap hR4.out 1
  have z2 := frozen_of_heap hR4.out 2
  have z3 := frozen_of_heap hR4.out 3
  have z4 := frozen_of_heap hR4.out 4
  have z5 := frozen_of_heap hR4.out 5
  have z6 := frozen_of_heap hR4.out 6
  have z7 := frozen_of_heap hR4.out 7
  have z8 := frozen_of_heap hR4.out 8
  have V0 := Ext.cell v0
  have V1 := Ext.cell v1
  have U0 := Ext.cell u0
  have U1 := Ext.cell u1
  have U2 := Ext.cell u2
  have U3 := Ext.cell u3
  have U4 := Ext.cell u4
  have U5 := Ext.cell u5
  have U6 := Ext.cell u6
  have U7 := Ext.cell u7
  have U8 := Ext.cell u8
  have N0 := Ext.cell n0
  have Z0 := Ext.frozen n0 z0
  have N1 := Ext.cell n1
  have Z1 := Ext.frozen n1 z1
  have N2 := Ext.cell n2
  have Z2 := Ext.frozen n2 z2
  have N3 := Ext.cell n3
  have Z3 := Ext.frozen n3 z3
  have N4 := Ext.cell n4
  have Z4 := Ext.frozen n4 z4
  have N5 := Ext.cell n5
  have Z5 := Ext.frozen n5 z5
  have N6 := Ext.cell n6
  have Z6 := Ext.frozen n6 z6
  have N7 := Ext.cell n7
  have Z7 := Ext.frozen n7 z7
  have N8 := Ext.cell n8
  have Z8 := Ext.frozen n8 z8
  have hB9 := Lib.hid (show w.heap.size + 1 < w2.heap.size by have := hz1.out; have := hbs.out; omega)
  clear bE hkt
  go_upto_region 7 with fail
  go_region_with (go_at_call 54; refine (hadr.out _ ?_).mono ?_; (first | exact Below.refl _ _ | exact below_drewN (Below.refl _ _) 1 | exact below_drewN (Below.refl _ _) 2); rintro e w8 ⟨rfl, b8⟩; have b9 : Below w4.heap.size w4 w8 := ⟨b8.os, b8.tape, b8.output, b8.size, b8.block⟩; clear b8; obtain ⟨x8, rfl⟩ := Ext.of b9)
  all_goals go_wp2_with fail
  all_goals refine bodyPost_ret (v := .tuple #[.agg #[.int .i64 E.base, .int .i64 E.pages, .slice aw' E.words.length cw', .slice ad' E.dirty.length cd', .slice aS' E.spans.length cS', .slice am' E.muts.length cm', .int .i64 E.phase, .int .i64 E.next, .slice ag' E.grey.length cg'], .int .i64 a, .bool true]) (by simp [results, Try.results26, go_sem, N0, N1, N2, N3, N4, N5, N6, N7, N8]) rfl ?_
  all_goals exact ⟨_, E, a, true, y.out, rfl, (hv7'.out.below b9).handed (below_trans bb4.out b9) (R := w.heap.size + 1) (Nat.le_succ _) (by have := hz1.out; omega) ((((((((((Chg.refl _ _).put (b := w.heap.size + 1) (by simp) 0 _).put (b := w.heap.size + 1) (by simp) 1 _).put (b := w.heap.size + 1) (by simp) 2 _).put (b := w.heap.size + 1) (by simp) 3 _).put (b := w.heap.size + 1) (by simp) 4 _).put (b := w.heap.size + 1) (by simp) 5 _).put (b := w.heap.size + 1) (by simp) 6 _).put (b := w.heap.size + 1) (by simp) 7 _).put (b := w.heap.size + 1) (by simp) 8 _)⟩
end Go.Proofs.Ytpcefecedmdmkaa

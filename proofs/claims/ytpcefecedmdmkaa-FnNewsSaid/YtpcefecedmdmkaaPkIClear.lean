import Derived.Test.YtpcefecedmdmkaaPkISoil
import Derived.Test.YtpcefecedmdmkaaPkV
import Derived.Lib.SliceRun
import Derived.Deep.DeepCutAuto
import Derived.Deep.CutRange
import Derived.Outline

/-
  The contract of the program's World.clearSlot: a slot is used no more, its span stays.
-/
namespace Go.Proofs.Ytpcefecedmdmkaa
open Go.RowKit
set_option linter.unusedVariables false

theorem elemInts : Try.prog.elem 25 = 3 := by kernel_rfl
theorem undInts : Try.prog.underlying 25 = some (.slice (Try.prog.elem 25)) := by rw [elemInts]; exact Try.underlying25
theorem sizeInts (w : World) : (sizeOf (Try.prog.elem 25)).run Try.prog w = .ok 1 w := by kernel_rfl
theorem zeroInt (w : World) : (zeroValue 3).run Try.prog w = .ok (.int .i64 0) w := by kernel_rfl
theorem setCells_last (g : Nat) (v : Value) : ∀ (n o : Nat) (w : World), w.setCells g o (List.replicate (n + 1) v) = (w.setCells g o (List.replicate n v)).setCell ⟨g, o + n, none⟩ v
  | 0, o, w => rfl
  | n + 1, o, w => by
    show (w.setCell ⟨g, o, none⟩ v).setCells g (o + 1) (List.replicate (n + 1) v) = ((w.setCell ⟨g, o, none⟩ v).setCells g (o + 1) (List.replicate n v)).setCell ⟨g, o + (n + 1), none⟩ v
    rw [setCells_last g v n (o + 1) _, show o + 1 + n = o + (n + 1) by omega]
theorem VarW.zero {w : World} {base B : Nat} {S : Shape} {D : WD} {g cap : Nat} (h : VarW w base B S D) (hg : S.vw = .slice (some ⟨g, 0, none⟩) D.words.length cap) (A : Nat) (n : Nat) :
    VarW (w.setCells g A (List.replicate n (.int .i64 0))) base B S { D with words := zeroK D.words A n } ∧ Below base w (w.setCells g A (List.replicate n (.int .i64 0))) := by
  induction n with
  | zero => exact ⟨h, Below.refl _ _⟩
  | succ n ih =>
    rw [setCells_last]
    have := ih.1.word (g := g) (cap := cap) (by rw [hg, zeroK_len]) (A + n) 0
    exact ⟨this.1, ih.2.trans this.2⟩
/-- The words of a slot. -/
theorem cut_words {g n c A z : Nat} (hA : A < n) (hz : A + z ≤ n) (hn : n ≤ c) (i : Int) (hi : i = (A : Int) + (z : Int)) (w : World) :
    (Instr.slice 25 (.slice (some ⟨g, 0, none⟩) n c) (some (.int .i64 (A : Int))) (some (.int .i64 i)) none).run Try.prog w = .ok (.slice (some ⟨g, A, none⟩) z (c - A)) w := by
  subst hi
  rw [run_slice_lh w 25 _ n c undInts .i64 .i64 (A : Int) ((A : Int) + (z : Int)) (by omega) (by omega) (by omega), sizeInts]
  have e1 : ((A : Int) + (z : Int)).toNat = A + z := by omega
  have e2 : (A : Int).toNat = A := by omega
  simp only [Result.andThen, sliced, e1, e2]
  rw [if_neg (by omega), show A + z - A = z by omega]
  simp [Addr.add]
  intro h
  omega

set_option maxRecDepth 100000 in
set_option maxHeartbeats 16000000 in
theorem clearSlot_any (base B : Nat) (S : Shape) (D : WD) (k j : Nat) (s : SpanD) (hk : D.spans[k]? = some s) (hin : SlotIn D s j) (w : World) (h : VarW w base B S D) :
    Calls Try.prog 55 #[.pointer (some ⟨B, 0, none⟩), .agg #[.int .i64 k, .int .i64 j]] w fun e w' => (∃ v, e = .returned v) ∧ VarW w' base B S (giveD D k s j) ∧ Below base w w' := by
  have hbd := hin.bd
  have hkl := (List.getElem?_eq_some_iff.1 hk).1
  obtain ⟨p, hp⟩ := h.svAt hk
  obtain ⟨gs, cs, hgs⟩ := h.headS (by omega)
  obtain ⟨gw, cw, hgw⟩ := h.headW (by have := hin.words; have := hin.pg0; have := hin.pg1; omega)
  obtain ⟨gl, cl, hgl⟩ := head_of (h.own.inner k s p hk hp).1 (by have := hin.j; omega)
  obtain ⟨gp, cp, hgp⟩ := head_of (h.own.inner k s p hk hp).2 (by have := hin.j; have := hin.lens; have := hin.ptrs; omega)
  have hj := hin.j
  have hjp : j < s.ptrs.length := by have := hin.lens; have := hin.ptrs; omega
  have hwl := hin.words
  have hdl := hin.dirty
  have hpg := hin.pg
  have hpg0 := hin.pg0
  have hpg1 := hin.pg1
  obtain ⟨A, hA⟩ := Int.eq_ofNat_of_zero_le hbd.1
  obtain ⟨z, hz⟩ := Int.eq_ofNat_of_zero_le (show 0 ≤ sz s.cls by omega)
  have hb2 : A + z ≤ D.words.length := by omega
  have hzb : 2 ≤ z ∧ z ≤ 16 := by omega
  obtain ⟨hz1, hz2⟩ := hzb
  have hA2 : A ≤ 1000 := by omega
  have hdd : (A : Int) + (z : Int) ≤ 8 * (D.dirty.length : Int) := by omega
  have hj15 : (j : Int) ≤ 15 := hbd.2.2.2.2.1
  have hjl1 : (j : Int) < (s.lens.length : Int) := by omega
  have hjp1 : (j : Int) < (s.ptrs.length : Int) := by omega
  have hkl1 : (k : Int) < (D.spans.length : Int) := by omega
  have hcs := Lib.hid (fun (w : World) => (hz ▸ size_any s.cls w : Calls Try.prog 34 #[.int .i64 s.cls] w fun e w' => e = .returned (.int .i64 (z : Int)) ∧ w = w'))
  have hsm := h.rd.parts.2.2.1
  obtain ⟨_, _, -, hsm, -⟩ := hsm
  have hwm := h.rd.parts.1
  obtain ⟨_, _, -, hwm, -⟩ := hwm
  have hlx := h.own.inner k s p hk hp
  obtain ⟨_, _, -, hsm1, -⟩ := Rd.of_owns hlx.1
  obtain ⟨_, _, -, hsm2, -⟩ := Rd.of_owns hlx.2
  unfold maxLen at hsm hwm hsm1 hsm2
  have hwc : D.words.length ≤ cw ∧ cw ≤ 9223372036854775807 := by
    have := h.own.words
    rw [hgw] at this
    rcases this.2 with ⟨he, _⟩ | ⟨g, c, cur, he, _, _, hc, hm, _⟩
    · simp at he
    · simp at he
      unfold maxLen at hm
      omega
  have bb := below_box w (.cells #[.int .i64 k, .int .i64 j] 80)
  have bn := box_new w (.cells #[.int .i64 k, .int .i64 j] 80)
  have hv := Lib.hid (h.below bb)
  have h0 := Ext.cell (cell_of_heap bn 0 _ rfl)
  have h1 := Ext.cell (cell_of_heap bn 1 _ rfl)
  have g4 := Ext.cell (hv.out.cell 4 (.slice (some ⟨gs, 0, none⟩) D.spans.length cs) (by rw [← hgs]; rfl))
  have hrs := Lib.hid (show RdSpan (w.alloc (.cells #[.int .i64 k, .int .i64 j] 80)) gs (k * 6) s from by
    obtain ⟨x0, x1, x2, x3, x4, x5⟩ := hv.out.six hgs hk hp
    have hi := hv.out.own.inner k s p hk hp
    exact ⟨_, _, x0, x1, x2, x3, x4, x5, Rd.of_owns hi.1, Rd.of_owns hi.2⟩)
  have x1 := Ext.cell (hv.out.six hgs hk hp).2.1
  have bn' := Lib.hid bn
  have hle := Lib.hid h.le
  have hlt := Lib.hid h.lt
  have hown := Lib.hid h.own.lt
  have b0 := Lib.hid (show Below base w (w.alloc (.cells #[.int .i64 k, .int .i64 j] 80)) from bb.mono (by have := h.le; have := h.lt; omega))
  have hz0 := Lib.hid (show (w.alloc (.cells #[.int .i64 k, .int .i64 j] 80)).heap.size = w.heap.size + 1 by simp)
  have hin' := Lib.hid hin
  have hk' := Lib.hid hk
  have hp' := Lib.hid hp
  have hgs' := Lib.hid hgs
  have hgw' := Lib.hid hgw
  have hgl' := Lib.hid hgl
  have hgp' := Lib.hid hgp
  have hA' := Lib.hid hA
  have hz' := Lib.hid hz
  have hfw := Lib.hid (fun (w : World) (hr : RdSpan w gs (k * 6) s) => (hA ▸ firstWord_any gs (k * 6) s (j : Int) hpg0 (by omega) (by omega) (by omega) w hr : Calls Try.prog 59 #[.pointer (some ⟨gs, k * 6, none⟩), .int .i64 j] w fun e w' => e = .returned (.int .i64 (A : Int)) ∧ Drawn w w'))
  clear hin hk hp hgs hgw hgl hgp hA hz hbd h bb bn hlx hwl hdl hpg1 hj hjp
  go_enter Try.func55, Try.ntmps55
  go_wp2_with fail
  generalize hWe : w.alloc (.cells #[.int .i64 k, .int .i64 j] 80) = W at *
  have hWe' := Lib.hid hWe
  clear hWe
  refine wp_region_ext (Below.refl _ _) (by kernel_rfl) (by kernel_rfl) ?_
  repeat (go_big_quiet_step ((fail)))
  refine wpQuiet_nil ?_
  intro _ hw'
  obtain ⟨x9, hw''⟩ := hw'
  subst hw''
  go_wp2_with fail
  refine wp_region_ext x9.below (by kernel_rfl) (by kernel_rfl) ?_
  repeat (go_big_quiet_step ((first | (go_at_call 59; exact Ext.call ((hfw.out _ (hrs.out.below (Ext.below _))).mono fun _ _ ⟨a, b⟩ => ⟨a, b.below⟩)) | (go_at_call 34; exact Ext.same (hcs.out _)))))
  refine wpQuiet_nil ?_
  intro _ hw'
  obtain ⟨x9, hw''⟩ := hw'
  subst hw''
  go_upto_region 3 with fail
  have hx2 := Lib.hid x9.below
  generalize x9.val = w2 at *
  have hv2 := Lib.hid (hv.out.below hx2.out)
  have bn2 := Lib.hid (heap_below hx2.out bn'.out)
  have hbp : w.heap.size < w2.heap.size := by have := hx2.out.size; have := hz0.out; omega
  clear h0 h1 g4 x1
  have q1 := cell_of_heap bn2.out 1 _ rfl
  obtain ⟨_, _, x2, _, x4, x5⟩ := hv2.out.six hgs'.out hk'.out hp'.out
  rw [hgl'.out] at x4
  rw [hgp'.out] at x5
  obtain ⟨n1, n2, n3, n4, n5, n6⟩ := hv2.out.nes hgs'.out hk'.out hp'.out hgl'.out hgp'.out
  obtain ⟨c1, c2⟩ := ints_cell (hv2.out.own.inner k s p hk'.out hp'.out).1 hgl'.out j hin'.out.j
  obtain ⟨d1, d2⟩ := ints_cell (hv2.out.own.inner k s p hk'.out hp'.out).2 hgp'.out j (by have := hin'.out.lens; have := hin'.out.ptrs; have := hin'.out.j; omega)
  have f2 := hv2.out.frzS hgs'.out (k * 6 + 2)
  have m1 : ¬ (w.heap.size = gl) := fun e => by have := (hown.out gl (List.mem_filterMap.2 ⟨p.1, by have : p.1 ∈ svInts S.sv := List.mem_flatMap.2 ⟨p, List.mem_of_getElem? hp'.out, by simp⟩; simp [Shape.all, this], by rw [hgl'.out]; rfl⟩)).2; omega
  have m2 : ¬ (w.heap.size = gp) := fun e => by have := (hown.out gp (List.mem_filterMap.2 ⟨p.2, by have : p.2 ∈ svInts S.sv := List.mem_flatMap.2 ⟨p, List.mem_of_getElem? hp'.out, by simp⟩; simp [Shape.all, this], by rw [hgp'.out]; rfl⟩)).2; omega
  have s1 := hv2.out.lens k j s p 0 hk'.out hp'.out hgl'.out
  have hk2 := Lib.hid (set_at (t := ({ s with lens := s.lens.set j 0 } : SpanD)) hk'.out)
  have s2 := s1.1.ptrs k j _ p 0 hk2.out hp'.out hgp'.out
  have s3 : VarW ((w2.setCell ⟨gl, j, none⟩ (.int .i64 0)).setCell ⟨gp, j, none⟩ (.int .i64 0)) base B S { D with spans := D.spans.set k { s with lens := s.lens.set j 0, ptrs := s.ptrs.set j 0 } } := by simpa only [List.set_set] using s2.1
  have S2 := Lib.hid s3.drew
  have S3 := Lib.hid (below_drewN (s1.2.trans s2.2) 1)
  have bs2 := Lib.hid (((heap_setCell_other (w2.setCell ⟨gl, j, none⟩ (.int .i64 0)) ⟨gp, j, none⟩ w.heap.size (.int .i64 0) (by simpa using m2)).trans (heap_setCell_other w2 ⟨gl, j, none⟩ w.heap.size (.int .i64 0) (by simpa using m1))).trans bn2.out)
  clear s1 s2 s3
  generalize s.lens[j]?.getD 0 = o3 at c1
  generalize s.ptrs[j]?.getD 0 = o4 at d1
  go_cut [4] (fun q wx => q = .pointer (some ⟨gs, k * 6, none⟩) ∧ Hid (VarW wx base B S { D with spans := D.spans.set k { s with lens := s.lens.set j 0, ptrs := s.ptrs.set j 0 } }) ∧ Hid (Below base w2 wx) ∧ Hid (wx.heap[w.heap.size]? = some (.cells #[.int .i64 k, .int .i64 j] 80 (0, 0))))
  case first =>
    go_region
    all_goals go_wp2_with fail
    all_goals go_meet
    all_goals exact ⟨rfl, S2, S3, bs2⟩
  case rest =>
    obtain ⟨rfl, hv3, hb3, bn3⟩ := hcut
    clear q1 x2 x4 x5 c1 d1 c2 d2 f2 S2 S3 bs2
    have q1 := cell_of_heap bn3.out 1 _ rfl
    have hk3 := Lib.hid (set_at (t := ({ s with lens := s.lens.set j 0, ptrs := s.ptrs.set j 0 } : SpanD)) hk'.out)
    have hgs3 := Lib.hid (show S.vs = .slice (some ⟨gs, 0, none⟩) (D.spans.set k { s with lens := s.lens.set j 0, ptrs := s.ptrs.set j 0 }).length cs by rw [List.length_set]; exact hgs'.out)
    obtain ⟨_, _, x2, _, _, _⟩ := hv3.out.six hgs3.out hk3.out hp'.out
    have f2 := hv3.out.frzS hgs3.out (k * 6 + 2)
    have s1 := hv3.out.mark hgs3.out k _ p (bits .andNot .i64 s.mark (2 ^ j)) hk3.out hp'.out
    have s2 : VarW (wc.setCell ⟨gs, k * 6 + 2, none⟩ (.int .i64 (bits .andNot .i64 s.mark (2 ^ j)))) base B S { D with spans := D.spans.set k (giveS s j) } := by simpa only [List.set_set, giveS] using s1.1
    have S2 := Lib.hid s2.drew
    have S3 := Lib.hid (below_drewN (hb3.out.trans s1.2) 1)
    have hmb := Lib.hid (fun w => markBit_any j (by omega) w)
    clear s1 s2
    dsimp only at x2
    go_upto_region 4 with fail
    go_cut [4] (fun q wx => q = .pointer (some ⟨gs, k * 6, none⟩) ∧ Hid (VarW wx base B S { D with spans := D.spans.set k (giveS s j) }) ∧ Hid (Below base w2 wx))
    case first =>
      go_region_with (first
        | (go_at_call 71; refine (hmb.out _).mono ?_; rintro e w' ⟨rfl, rfl⟩))
      all_goals go_wp2_with fail
      all_goals go_meet
      all_goals exact ⟨rfl, S2, S3⟩
    case rest =>
      obtain ⟨rfl, hv4, hb4⟩ := hcut
      clear q1 x2 f2 S2 S3
      have hA3 : A < D.words.length := by omega
      have hwc1 := hwc.1
      have hwc2 := hwc.2
      have g2 := hv4.out.cell 2 (.slice (some ⟨gw, 0, none⟩) D.words.length cw) (by rw [← hgw'.out]; rfl)
      have hsl := cut_words (g := gw) (n := D.words.length) (c := cw) hA3 hb2 hwc1 ((A : Int) + (z : Int)) rfl
      have hrw := hv4.out.own.words
      rw [hgw'.out] at hrw
      have hcl : ∀ ty, (Builtin.clear_ #[25] ty #[.slice (some ⟨gw, A, none⟩) z (cw - A)]).run Try.prog wc = .ok (.tuple #[]) (wc.setCells gw A (List.replicate z (.int .i64 0))) := fun ty =>
        Lib.run_clear_slice wc 25 3 ty (.int .i64 0) Try.underlying25 zeroInt rfl rfl gw A z _ (by omega) (fun i hi => by rw [hrw.cellAt (A + i) (by show A + i < D.words.length * 1; omega)]; simp; omega) (fun i hi => hrw.frozenAt (A + i))
      have hz5 := hv4.out.zero (g := gw) (cap := cw) hgw'.out A z
      have hv5 := Lib.hid hz5.1
      have hb5 := Lib.hid (hb4.out.trans hz5.2)
      have hso := Lib.hid (soil_any base B S { D with words := zeroK D.words A z, spans := D.spans.set k (giveS s j) } (A : Int) (z : Int) (by omega) (by omega) (by omega) (by omega) hdd _ hv5.out)
      have hA9 : (A : Int) ≤ (A : Int) + (z : Int) := by omega
      clear hrw hz5 hwc
      go_wp2_with fail
      refine hso.out.mono ?_
      rintro e w6 ⟨⟨v, rfl⟩, hv6, hb6⟩
      have hv6' := Lib.hid (show VarW w6 base B S (giveD D k s j) from by
        unfold giveD
        rw [hA'.out, hz'.out, Int.toNat_natCast, Int.toNat_natCast]
        exact hv6)
      have hb7 := Lib.hid (b0.out.trans ((hx2.out.mono (by have := b0.out.size; have := hle.out; have := hlt.out; omega)).trans (hb5.out.trans hb6)))
      clear hv6 hb6 g2 hcl hsl
      go_wp2_with fail
      go_end0
      exact ⟨⟨_, rfl⟩, hv6'.out, hb7.out⟩
end Go.Proofs.Ytpcefecedmdmkaa

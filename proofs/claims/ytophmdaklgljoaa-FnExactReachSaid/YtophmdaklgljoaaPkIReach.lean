import Derived.Test.YtophmdaklgljoaaPkISpread
import Derived.Test.YtophmdaklgljoaaShelf

/-
  The program's Reach.
-/
namespace Go.Proofs.Ytophmdaklgljoaa
open Go.RowKit
set_option linter.unusedVariables false

set_option maxRecDepth 100000 in
set_option maxHeartbeats 8000000 in
theorem ireach_any (v : Value) (D : WD) (hm : MarksIn D) (hI : AllI D.words) (hcap : CapW v) (af : Option Addr) (cf : Nat) (fr : List Int) (hfI : AllI fr) (hfr : fr.length ≤ 1048576) (w : World) (hr : RdW w v D) (hf : Rd w (.slice af fr.length cf) fr) :
    Calls Try.prog 10 #[v, .slice af fr.length cf] w fun e w' => ∃ L u, ReachIs D fr L ∧ e = .returned u ∧ w'.ownsRow w.heap.size 3 1 u L.length (L.map (Value.int .i64)) ∧ Below w.heap.size w w' := by
  have hm' := Lib.hid hm
  have hI' := Lib.hid hI
  have hcap' := Lib.hid hcap
  have hfI' := Lib.hid hfI
  have hf' := Lib.hid hf
  clear hm hI hcap hfI hf
  obtain ⟨vw, vd, vs, vm, vg, rfl, a1, a2, a3, a4, a5⟩ := hr
  have bx := box_new w (.cells #[.int .i64 D.base, .int .i64 D.pages, vw, vd, vs, vm, .int .i64 D.phase, .int .i64 D.next, vg] 36)
  have bw := below_box w (.cells #[.int .i64 D.base, .int .i64 D.pages, vw, vd, vs, vm, .int .i64 D.phase, .int .i64 D.next, vg] 36)
  have hW := Lib.hid (show RdW (w.alloc (.cells #[.int .i64 D.base, .int .i64 D.pages, vw, vd, vs, vm, .int .i64 D.phase, .int .i64 D.next, vg] 36)) (.agg #[.int .i64 D.base, .int .i64 D.pages, vw, vd, vs, vm, .int .i64 D.phase, .int .i64 D.next, vg]) D from ⟨vw, vd, vs, vm, vg, rfl, a1.below bw, a2.below bw, a3.below bw, a4.below bw, a5.below bw⟩)
  have hBx := Lib.hid (show BoxW (w.alloc (.cells #[.int .i64 D.base, .int .i64 D.pages, vw, vd, vs, vm, .int .i64 D.phase, .int .i64 D.next, vg] 36)) w.heap.size (.agg #[.int .i64 D.base, .int .i64 D.pages, vw, vd, vs, vm, .int .i64 D.phase, .int .i64 D.next, vg]) from ⟨_, rfl, bx⟩)
  have bw' := Lib.hid bw
  clear a1 a2 a3 a4 a5 bx bw
  have hf2 := Lib.hid (hf'.out.below bw'.out)
  clear hf'
  go_enter Try.func10, Try.ntmps10
  go_wp2_with fail
  refine (formOkI_any _ D hm'.out _ hW.out).mono ?_
  rintro e w1 ⟨hq, b1⟩
  have hq := hq.elim
  obtain ⟨x1, rfl⟩ := Ext.of b1
  clear b1
  generalize w.alloc (.cells #[.int .i64 D.base, .int .i64 D.pages, vw, vd, vs, vm, .int .i64 D.phase, .int .i64 D.next, vg] 36) = W at *
  rcases hq with ⟨hF, rfl⟩ | ⟨hF, rfl⟩
  case inr =>
    have y := Lib.hid (show ReachIs D fr [] from .inr ⟨hF, rfl⟩)
    clear hF
    go_wp2_with fail
    go_ret
    exact ⟨[], _, y.out, rfl, World.ownsRow_nil _ _ _ _, below_trans bw'.out x1.below⟩
  have hF' := Lib.hid hF
  have hcall := Lib.hid (viewOf_any w.heap.size _ D hF x1.val (hW.out.below x1.below) (hBx.out.below x1.below))
  clear hF
  go_wp2_with fail
  refine hcall.out.mono ?_
  rintro e w2 ⟨V, g, n, M, rfl, hv, b2⟩
  have b2' := Lib.hid (below_trans x1.below b2)
  have hsp := Lib.hid (spreadA_any V w.heap.size g n M _ D hF'.out hI'.out hcap'.out af cf fr hfI'.out hfr w2 (hW.out.below b2'.out) (hBx.out.below b2'.out) hv (hf2.out.below b2'.out))
  have bb2 := Lib.hid (below_trans bw'.out b2'.out)
  clear hv b2 hcall
  go_wp2_with fail
  refine hsp.out.mono ?_
  rintro e w3 ⟨g', S, hS, rfl, hM, hg, b3⟩
  have hS' := Lib.hid hS
  have bb3 := Lib.hid (below_trans bb2.out b3)
  obtain ⟨M', hM1, hM2⟩ := hM.out
  have hM1' := Lib.hid hM1
  have hM2' := Lib.hid hM2
  have hl := nodup_range (n := 384) (lo := D.base) hS.out.1 fun a ha => obj_range hF'.out ((hS.out.2 a).1 ha).obj
  have hsz := Lib.hid (World.ownsMap.size_le hM2)
  have hsort := Lib.hid (Try.sorted_at g' S.length M' boolElem w3 hM2 (by have := hsz.out; unfold maxLen; omega) (by have := hsz.out; omega))
  clear hS hM hM1 hM2 hg b3 hsp
  go_wp2_with (first
    | (go_at_call 48; refine (Try.keys_at _ _).mono ?_; rintro e w4 ⟨rfl, rfl⟩)
    | (go_at_call 47; refine hsort.out.mono ?_; rintro e w5 ⟨v5, ss, rfl, hp, hrow, hnil, b5⟩; have hk := Lib.hid (met_keys hM2'.out hM1'.out hS'.out.1 hp); have hrow' := Lib.hid hrow; have hp' := Lib.hid hp; have b5' := Lib.hid b5; clear hnil hrow hp b5))
  go_ret
  have hlen : (srt ss).length = ss.length := srt_len' ss
  refine ⟨srt ss, _, .inl ⟨hF'.out, hk.out.1, fun a => (hk.out.2 a).trans (hS'.out.2 a)⟩, rfl, ?_, ?_⟩
  · rw [hlen]
    exact own_base hrow'.out (by have := bb3.out.size; omega)
  · exact bb3.out.trans ((below_box w3 _).mono bb3.out.size |>.trans (b5'.out.mono (by have := bb3.out.size; omega)))
end Go.Proofs.Ytophmdaklgljoaa

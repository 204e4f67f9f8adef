/-
  The contract of the program's GraphOk.
-/
import Derived.Test.YtaaflpklbhjepaaGrG
import Derived.Test.YtaaflpklbhjepaaGrL
import Derived.Test.YtaaflpklbhjepaaMutsOk
namespace Go.Proofs.Ytaaflpklbhjepaa
open Go.RowKit
set_option linter.unusedVariables false

def MutsIn (D : GD) (k : Nat) : Prop := ∀ (j : Nat) (r : List Int), j < k → D.muts[j]? = some r → InN D.objs.length r
theorem MutsIn.next {D : GD} {k : Nat} {r : List Int} (h : MutsIn D k) (ho : D.muts[k]? = some r) (hk : InN D.objs.length r) : MutsIn D (k + 1) := fun j o' hj hjo =>
  if e : j = k then by subst e; rw [ho] at hjo; cases hjo; exact hk else h j o' (by omega) hjo

set_option maxRecDepth 100000 in
set_option maxHeartbeats 8000000 in
theorem igraphOk_any (v : Value) (D : GD) (hs : GSmall D) (w : World) (hr : RdG w v D) :
    Calls Try.prog 9 #[v] w fun e w' => IsB (GForm D) e ∧ Below w.heap.size w w' := by
  obtain ⟨vo, vm, rfl, ro, rm⟩ := hr
  have bw := below_box w (.cells #[vo, vm] 31)
  have bx := box_new w (.cells #[vo, vm] 31)
  have ro' := ro.below bw
  have rm' := rm.below bw
  obtain ⟨ao, co, rfl, hlo, _⟩ := ro
  obtain ⟨am, cm, rfl, hlm, _⟩ := rm
  have g0 := cell_of_heap bx 0 _ rfl
  have g1 := cell_of_heap bx 1 _ rfl
  have bw' := Lib.hid bw
  have ro' := Lib.hid ro'
  have rm' := Lib.hid rm'
  have hs' := Lib.hid hs
  have h20 := hs.objs
  have h21 := hs.muts
  clear bw bx hlo hlm hs
  go_enter Try.func9, Try.ntmps9
  by_cases c1 : (2000 : Int) < (D.objs.length : Int)
  case pos =>
    have n := Lib.hid (show ¬ GForm D from fun h => by have := h.objs; omega)
    go_wp2_with fail
    go_ret
    exact ⟨IsB.no n.out, bw'.out⟩
  go_wp2_with fail
  refine (mutsOk_any _ _ _ rm'.out).mono ?_
  rintro e w1 ⟨hq, rfl⟩
  replace hq := hq.elim
  rcases hq with ⟨hq, rfl⟩ | ⟨hq, rfl⟩
  case inr =>
    have n := Lib.hid (show ¬ GForm D from fun h => hq ⟨h.m1, h.m3, fun j r hj => (h.usr j r hj).1⟩)
    clear hq
    go_wp2_with fail
    go_ret
    exact ⟨IsB.no n.out, bw'.out⟩
  have hq' := Lib.hid hq
  clear hq
  go_wp2_with fail
  generalize w.alloc (.cells #[.slice ao D.objs.length co, .slice am D.muts.length cm] 31) = W at *
  have g0' := Lib.hid g0
  have G0 := Ext.cell g0
  have G1 := Ext.cell g1
  clear g0 g1
  go_loopw [19] (fun i wr => ∃ k : Nat, k ≤ D.objs.length ∧ i = .int .i64 k ∧ Hid (ObjsTo D k) ∧ ∃ x : Ext W, wr = x.val) (fun i _ => D.objs.length - (intOf i).toNat)
  case atStart => exact ⟨0, Nat.zero_le _, rfl, Lib.hid (ObjsTo.zero D), Ext.self W, rfl⟩
  case round =>
    obtain ⟨k, hk, rfl, hno, x, rfl⟩ := hrel
    by_cases hlt : k < D.objs.length
    · have hlt1 : (k : Int) < (D.objs.length : Int) := by omega
      obtain ⟨o, hko⟩ : ∃ o, D.objs[k]? = some o := ⟨_, List.getElem?_eq_getElem hlt⟩
      obtain ⟨ao', co', he, _, hx⟩ := ro'.out
      obtain ⟨rfl, rfl⟩ : ao = ao' ∧ co = co' := by simpa using he
      obtain ⟨b1, o1, rfl, vp, vv, y0, y1, rp, rv⟩ := hx k o hko
      have rp' := Lib.hid rp
      obtain ⟨ap, cp, rfl, _, _⟩ := rp
      obtain ⟨av, cv, rfl, _, _⟩ := rv
      have hin := hs'.out.inner o (List.mem_of_getElem? hko)
      have Y0 := Ext.cell y0
      have Y1 := Ext.cell y1
      have hko' := Lib.hid hko
      obtain ⟨d, hd⟩ := flagOf (InN D.objs.length o.p)
      have hd' := Lib.hid hd
      have hcall := Lib.hid (fun (y : Ext W) => show Calls Try.prog 24 #[.pointer (some ⟨w.heap.size, 0, none⟩), .slice ap o.p.length cp] y.val fun e w' => e = .returned (.bool d) ∧ Below y.val.heap.size y.val w' from (leadInto_any _ _ _ _ _ o.p _ (cell_below y.below g0'.out) (rp'.out.below y.below)).mono fun e w' ⟨a, b⟩ => ⟨IsB.at_ d hd'.out a, b⟩)
      have hsum : IntKind.i64.wrap ((o.p.length : Int) + (o.v.length : Int)) = (o.p.length : Int) + (o.v.length : Int) := IntWalk.i64_in _ (by omega)
      clear he hx y0 y1 hko hd
      go_wp2_with fail
      by_cases c4 : 1 ≤ o.p.length + o.v.length ∧ o.p.length + o.v.length ≤ 16
      case neg =>
        have n := Lib.hid (show ¬ GForm D from fun h => c4 ⟨(h.obj k o hko'.out).1, (h.obj k o hko'.out).2.1⟩)
        have hi := Lib.hid (inB_no (n := (o.p.length : Int) + (o.v.length : Int)) (l := 1) (h := 16) (by omega))
        clear c4
        refine wp_region_ext x.below (by kernel_rfl) (by kernel_rfl) ?_
        repeat (go_big_quiet_step ((go_at_call 23; exact Ext.same (isIn_eq hi.out _))))
        refine wpQuiet_nil ?_
        intro _ hw'
        obtain ⟨x9, hw''⟩ := hw'
        subst hw''
        go_wp2_with fail
        go_ret
        exact ⟨IsB.no n.out, below_trans bw'.out x9.below⟩
      have hb := Lib.hid c4
      have hi := Lib.hid (inB_yes (n := (o.p.length : Int) + (o.v.length : Int)) (l := 1) (h := 16) (by omega) (by omega))
      clear c4
      refine wp_region_ext x.below (by kernel_rfl) (by kernel_rfl) ?_
      repeat (go_big_quiet_step ((first | (go_at_call 23; exact Ext.same (isIn_eq hi.out _)) | (go_at_call 24; exact Ext.call (hcall.out _)))))
      refine wpQuiet_nil ?_
      intro _ hw'
      obtain ⟨x9, hw''⟩ := hw'
      subst hw''
      cases d
      · have n := Lib.hid (show ¬ GForm D from fun h => by have := hd'.out.2 (h.obj k o hko'.out).2.2; cases this)
        go_wp2_with fail
        go_ret
        exact ⟨IsB.no n.out, below_trans bw'.out x9.below⟩
      · have hn := Lib.hid (hno.out.next hko'.out ⟨hb.out.1, hb.out.2, hd'.out.1 rfl⟩)
        clear hsum
        go_wp2_with fail
        go_roundw
        case rel => exact ⟨k + 1, by omega, by go_num, hn, x9, rfl⟩
        case measure => simp [intOf]; omega
    · obtain rfl : k = D.objs.length := by omega
      go_wp2_with fail
      go_loopw [51] (fun i wr => ∃ k : Nat, k ≤ D.muts.length ∧ i = .int .i64 k ∧ Hid (MutsIn D k) ∧ ∃ x : Ext W, wr = x.val) (fun i _ => D.muts.length - (intOf i).toNat)
      case atStart => exact ⟨0, Nat.zero_le _, rfl, Lib.hid (fun j r h => absurd h (by omega)), x, rfl⟩
      case round =>
        obtain ⟨k, hk, rfl, hmo, x, rfl⟩ := hrel
        by_cases hlt : k < D.muts.length
        · have hlt1 : (k : Int) < (D.muts.length : Int) := by omega
          obtain ⟨r, hko⟩ : ∃ o, D.muts[k]? = some o := ⟨_, List.getElem?_eq_getElem hlt⟩
          obtain ⟨am', cm', he, _, hx⟩ := rm'.out
          obtain ⟨rfl, rfl⟩ : am = am' ∧ cm = cm' := by simpa using he
          obtain ⟨b1, o1, vp, rfl, y0, rp⟩ := hx k r hko
          have rp' := Lib.hid rp
          obtain ⟨ap, cp, rfl, _, _⟩ := rp
          have Y0 := Ext.cell y0
          have hko' := Lib.hid hko
          have hcall := Lib.hid (leadInto_any w.heap.size _ _ _ _ r _ (cell_below x.below g0'.out) (rp'.out.below x.below))
          clear he hx y0 hko
          go_wp2_with fail
          refine hcall.out.mono ?_
          rintro e w3 ⟨hq, b3⟩
          replace hq := hq.elim
          obtain ⟨x3, rfl⟩ := x.then b3
          clear b3 hcall
          rcases hq with ⟨hq, rfl⟩ | ⟨hq, rfl⟩
          · have hn := Lib.hid (hmo.out.next hko'.out hq)
            clear hq
            go_wp2_with fail
            go_roundw
            case rel => exact ⟨k + 1, by omega, by go_num, hn, x3, rfl⟩
            case measure => simp [intOf]; omega
          · have n := Lib.hid (show ¬ GForm D from fun h => hq (h.usr k r hko'.out).2)
            clear hq
            go_wp2_with fail
            go_ret
            exact ⟨IsB.no n.out, below_trans bw'.out x3.below⟩
        · obtain rfl : k = D.muts.length := by omega
          have y := Lib.hid (GForm.of (D := D) (by omega) hq'.out.1 hq'.out.2.1 hno.out (fun j r hj hr => ⟨hq'.out.2.2 j r hr, hmo.out j r hj hr⟩))
          go_wp2_with fail
          go_ret
          exact ⟨IsB.yes y.out, below_trans bw'.out x.below⟩
end Go.Proofs.Ytaaflpklbhjepaa

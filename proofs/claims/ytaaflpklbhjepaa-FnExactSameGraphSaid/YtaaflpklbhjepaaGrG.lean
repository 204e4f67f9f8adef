/-
  The contract of the model's GraphOk.
-/
import Derived.Test.YtaaflpklbhjepaaGrF
import Derived.Test.YtaaflpklbhjepaaGrT
namespace Go.Proofs.Ytaaflpklbhjepaa
open Go.RowKit
set_option linter.unusedVariables false

open Classical in
theorem flagOf (P : Prop) : ∃ d : Bool, d = true ↔ P := ⟨decide P, by simp⟩
def ObjOk (D : GD) (o : ObD) : Prop := 1 ≤ o.p.length + o.v.length ∧ o.p.length + o.v.length ≤ 16 ∧ InN D.objs.length o.p
def ObjsTo (D : GD) (k : Nat) : Prop := ∀ (j : Nat) (o : ObD), j < k → D.objs[j]? = some o → ObjOk D o
def MutsTo (D : GD) (k : Nat) : Prop := ∀ (j : Nat) (r : List Int), j < k → D.muts[j]? = some r → r.length = 6 ∧ InN D.objs.length r
theorem ObjsTo.zero (D : GD) : ObjsTo D 0 := fun j o h => absurd h (by omega)
theorem MutsTo.zero (D : GD) : MutsTo D 0 := fun j o h => absurd h (by omega)
theorem ObjsTo.next {D : GD} {k : Nat} {o : ObD} (h : ObjsTo D k) (ho : D.objs[k]? = some o) (hk : ObjOk D o) : ObjsTo D (k + 1) := fun j o' hj hjo =>
  if e : j = k then by subst e; rw [ho] at hjo; cases hjo; exact hk else h j o' (by omega) hjo
theorem MutsTo.next {D : GD} {k : Nat} {r : List Int} (h : MutsTo D k) (ho : D.muts[k]? = some r) (h6 : r.length = 6) (hk : InN D.objs.length r) : MutsTo D (k + 1) := fun j o' hj hjo =>
  if e : j = k then by subst e; rw [ho] at hjo; cases hjo; exact ⟨h6, hk⟩ else h j o' (by omega) hjo
theorem GForm.of {D : GD} (h1 : D.objs.length ≤ 2000) (h2 : 1 ≤ D.muts.length) (h3 : D.muts.length ≤ 3) (ho : ObjsTo D D.objs.length) (hm : MutsTo D D.muts.length) : GForm D :=
  ⟨h1, h2, h3, fun k o h => ho k o (List.getElem?_eq_some_iff.1 h).1 h, fun k r h => hm k r (List.getElem?_eq_some_iff.1 h).1 h⟩

set_option maxRecDepth 100000 in
set_option maxHeartbeats 8000000 in
theorem sgraphOk_any (v : Value) (D : GD) (hs : GSmall D) (w : World) (hr : RdG w v D) :
    Calls Try.prog 7 #[v] w fun e w' => IsB (GForm D) e ∧ Below w.heap.size w w' := by
  obtain ⟨vo, vm, rfl, ro, rm⟩ := hr
  have bw := below_box w (.cells #[vo, vm] 31)
  have bx := box_new w (.cells #[vo, vm] 31)
  have ro' := ro.below bw
  have rm' := rm.below bw
  obtain ⟨ao, co, rfl, hlo, _⟩ := ro
  obtain ⟨am, cm, rfl, hlm, _⟩ := rm
  have g0 := cell_of_heap bx 0 _ rfl
  have g1 := cell_of_heap bx 1 _ rfl
  have bw' := Lib.hid bw
  have ro' := Lib.hid ro'
  have rm' := Lib.hid rm'
  have hs' := Lib.hid hs
  have h20 := hs.objs
  have h21 := hs.muts
  clear bw bx hlo hlm hs
  go_enter Try.func7, Try.ntmps7
  by_cases c1 : (2000 : Int) < (D.objs.length : Int)
  case pos =>
    have n := Lib.hid (show ¬ GForm D from fun h => by have := h.objs; omega)
    go_wp2_with fail
    go_ret
    exact ⟨IsB.no n.out, bw'.out⟩
  by_cases c2 : (D.muts.length : Int) < 1
  case pos =>
    have n := Lib.hid (show ¬ GForm D from fun h => by have := h.m1; omega)
    go_wp2_with fail
    go_ret
    exact ⟨IsB.no n.out, bw'.out⟩
  by_cases c3 : (3 : Int) < (D.muts.length : Int)
  case pos =>
    have n := Lib.hid (show ¬ GForm D from fun h => by have := h.m3; omega)
    go_wp2_with fail
    go_ret
    exact ⟨IsB.no n.out, bw'.out⟩
  have hsz := Lib.hid (World.size_alloc w (.cells #[.slice ao D.objs.length co, .slice am D.muts.length cm] 31))
  go_wp2_with fail
  generalize w.alloc (.cells #[.slice ao D.objs.length co, .slice am D.muts.length cm] 31) = W at *
  have G0 := Ext.cell g0
  have G1 := Ext.cell g1
  clear g0 g1
  go_loopw [3] (fun i wr => ∃ k : Nat, k ≤ D.objs.length ∧ i = .int .i64 k ∧ Hid (ObjsTo D k) ∧ ∃ x : Ext W, wr = x.val) (fun i _ => D.objs.length - (intOf i).toNat)
  case atStart => exact ⟨0, Nat.zero_le _, rfl, Lib.hid (ObjsTo.zero D), Ext.self W, rfl⟩
  case round =>
    obtain ⟨k, hk, rfl, hno, x, rfl⟩ := hrel
    by_cases hlt : k < D.objs.length
    · have hlt1 : (k : Int) < (D.objs.length : Int) := by omega
      obtain ⟨o, hko⟩ : ∃ o, D.objs[k]? = some o := ⟨_, List.getElem?_eq_getElem hlt⟩
      obtain ⟨ao', co', he, _, hx⟩ := ro'.out
      obtain ⟨rfl, rfl⟩ : ao = ao' ∧ co = co' := by simpa using he
      obtain ⟨b1, o1, rfl, vp, vv, y0, y1, rp, rv⟩ := hx k o hko
      have rp' := Lib.hid rp
      obtain ⟨ap, cp, rfl, _, _⟩ := rp
      obtain ⟨av, cv, rfl, _, _⟩ := rv
      have hin := hs'.out.inner o (List.mem_of_getElem? hko)
      have Y0 := Ext.cell y0
      have Y1 := Ext.cell y1
      have hko' := Lib.hid hko
      obtain ⟨d, hd⟩ := flagOf (InN D.objs.length o.p)
      have hd' := Lib.hid hd
      have hcall := Lib.hid (fun (w : World) (h : Rd w (.slice ap o.p.length cp) o.p) => show Calls Try.prog 19 #[.slice ap o.p.length cp, .int .i64 D.objs.length] w fun e w' => e = .returned (.bool d) ∧ w = w' from (sl6in_any _ o.p D.objs.length w h).mono fun e w' ⟨a, b⟩ => ⟨IsB.at_ d hd'.out a, b⟩)
      have hsum : IntKind.i64.wrap ((o.p.length : Int) + (o.v.length : Int)) = (o.p.length : Int) + (o.v.length : Int) := IntWalk.i64_in _ (by omega)
      clear he hx y0 y1 hko hd
      go_wp2_with fail
      refine wp_region_ext x.below (by kernel_rfl) (by kernel_rfl) ?_
      repeat (go_big_quiet_step (fail))
      refine wpQuiet_nil ?_
      intro _ hw'
      obtain ⟨x9, hw''⟩ := hw'
      subst hw''
      by_cases c4 : (o.p.length : Int) + (o.v.length : Int) < 1
      case pos =>
        have n := Lib.hid (show ¬ GForm D from fun h => by have := (h.obj k o hko'.out).1; omega)
        have d4 : decide ((o.p.length : Int) + (o.v.length : Int) < 1) = true := decide_eq_true c4
        go_wp2_with fail
        refine wp_region_ext x9.below (by kernel_rfl) (by kernel_rfl) ?_
        repeat (go_big_quiet_step (fail))
        refine wpQuiet_nil ?_
        intro _ hw'
        obtain ⟨x9, hw''⟩ := hw'
        subst hw''
        go_wp2_with fail
        go_ret
        exact ⟨IsB.no n.out, below_trans bw'.out x9.below⟩
      have d4 : decide ((o.p.length : Int) + (o.v.length : Int) < 1) = false := decide_eq_false c4
      by_cases c5 : 16 < (o.p.length : Int) + (o.v.length : Int)
      case pos =>
        have n := Lib.hid (show ¬ GForm D from fun h => by have := (h.obj k o hko'.out).2.1; omega)
        have d5 : decide (16 < (o.p.length : Int) + (o.v.length : Int)) = true := decide_eq_true c5
        go_wp2_with fail
        refine wp_region_ext x9.below (by kernel_rfl) (by kernel_rfl) ?_
        repeat (go_big_quiet_step (fail))
        refine wpQuiet_nil ?_
        intro _ hw'
        obtain ⟨x9, hw''⟩ := hw'
        subst hw''
        go_wp2_with fail
        go_ret
        exact ⟨IsB.no n.out, below_trans bw'.out x9.below⟩
      have d5 : decide (16 < (o.p.length : Int) + (o.v.length : Int)) = false := decide_eq_false c5
      have hb := Lib.hid (And.intro (show 1 ≤ o.p.length + o.v.length by omega) (show o.p.length + o.v.length ≤ 16 by omega))
      go_wp2_with fail
      refine wp_region_ext x9.below (by kernel_rfl) (by kernel_rfl) ?_
      repeat (go_big_quiet_step ((go_at_call 19; exact Ext.same (hcall.out _ (rp'.out.below (Ext.below _))))))
      refine wpQuiet_nil ?_
      intro _ hw'
      obtain ⟨x9, hw''⟩ := hw'
      subst hw''
      cases d
      · have n := Lib.hid (show ¬ GForm D from fun h => by have := hd'.out.2 (h.obj k o hko'.out).2.2; cases this)
        go_wp2_with fail
        go_ret
        exact ⟨IsB.no n.out, below_trans bw'.out x9.below⟩
      · have hn := Lib.hid (hno.out.next hko'.out ⟨hb.out.1, hb.out.2, hd'.out.1 rfl⟩)
        clear hsum
        go_wp2_with fail
        go_roundw
        case rel => exact ⟨k + 1, by omega, by go_num, hn, x9, rfl⟩
        case measure => simp [intOf]; omega
    · obtain rfl : k = D.objs.length := by omega
      go_wp2_with fail
      go_loopw [5] (fun i wr => ∃ k : Nat, k ≤ D.muts.length ∧ i = .int .i64 k ∧ Hid (MutsTo D k) ∧ ∃ x : Ext W, wr = x.val) (fun i _ => D.muts.length - (intOf i).toNat)
      case atStart => exact ⟨0, Nat.zero_le _, rfl, Lib.hid (MutsTo.zero D), x, rfl⟩
      case round =>
        obtain ⟨k, hk, rfl, hmo, x, rfl⟩ := hrel
        by_cases hlt : k < D.muts.length
        · have hlt1 : (k : Int) < (D.muts.length : Int) := by omega
          obtain ⟨r, hko⟩ : ∃ o, D.muts[k]? = some o := ⟨_, List.getElem?_eq_getElem hlt⟩
          obtain ⟨am', cm', he, _, hx⟩ := rm'.out
          obtain ⟨rfl, rfl⟩ : am = am' ∧ cm = cm' := by simpa using he
          obtain ⟨b1, o1, vp, rfl, y0, rp⟩ := hx k r hko
          have rp' := Lib.hid rp
          obtain ⟨ap, cp, rfl, _, _⟩ := rp
          have Y0 := Ext.cell y0
          have hko' := Lib.hid hko
          obtain ⟨d, hd⟩ := flagOf (InN D.objs.length r)
          have hd' := Lib.hid hd
          have hcall := Lib.hid (fun (w : World) (h : Rd w (.slice ap r.length cp) r) => show Calls Try.prog 19 #[.slice ap r.length cp, .int .i64 D.objs.length] w fun e w' => e = .returned (.bool d) ∧ w = w' from (sl6in_any _ r D.objs.length w h).mono fun e w' ⟨a, b⟩ => ⟨IsB.at_ d hd'.out a, b⟩)
          clear he hx y0 hko hd
          by_cases h6 : (r.length : Int) = 6
          case neg =>
            have n := Lib.hid (show ¬ GForm D from fun h => h6 (by have := (h.usr k r hko'.out).1; omega))
            have hb6 : ((r.length : Int) != 6) = true := by rw [bne_iff_ne]; exact h6
            clear h6
            go_wp2_with fail
            refine wp_region_ext x.below (by kernel_rfl) (by kernel_rfl) ?_
            repeat (go_big_quiet_step (fail))
            refine wpQuiet_nil ?_
            intro _ hw'
            obtain ⟨x9, hw''⟩ := hw'
            subst hw''
            go_wp2_with fail
            go_ret
            exact ⟨IsB.no n.out, below_trans bw'.out x9.below⟩
          have h6' := Lib.hid (show r.length = 6 by omega)
          have hb6 : ((r.length : Int) != 6) = false := by rw [bne_eq_false_iff_eq]; exact h6
          clear h6
          go_wp2_with fail
          refine wp_region_ext x.below (by kernel_rfl) (by kernel_rfl) ?_
          repeat (go_big_quiet_step ((go_at_call 19; exact Ext.same (hcall.out _ (rp'.out.below (Ext.below _))))))
          refine wpQuiet_nil ?_
          intro _ hw'
          obtain ⟨x9, hw''⟩ := hw'
          subst hw''
          cases d
          · have n := Lib.hid (show ¬ GForm D from fun h => by have := hd'.out.2 (h.usr k r hko'.out).2; cases this)
            go_wp2_with fail
            go_ret
            exact ⟨IsB.no n.out, below_trans bw'.out x9.below⟩
          · have hn := Lib.hid (hmo.out.next hko'.out h6'.out (hd'.out.1 rfl))
            clear hb6
            go_wp2_with fail
            go_roundw
            case rel => exact ⟨k + 1, by omega, by go_num, hn, x9, rfl⟩
            case measure => simp [intOf]; omega
        · obtain rfl : k = D.muts.length := by omega
          have y := Lib.hid (GForm.of (by omega) (by omega) (by omega) hno.out hmo.out)
          go_wp2_with fail
          go_ret
          exact ⟨IsB.yes y.out, below_trans bw'.out x.below⟩
end Go.Proofs.Ytaaflpklbhjepaa

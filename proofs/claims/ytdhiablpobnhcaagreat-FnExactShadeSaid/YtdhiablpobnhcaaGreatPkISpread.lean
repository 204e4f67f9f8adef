import Derived.Test.YtdhiablpobnhcaaGreatPkN
import Derived.Test.YtdhiablpobnhcaaGreatPkP
import Derived.Test.YtdhiablpobnhcaaGreatPkV
import Derived.Test.YtdhiablpobnhcaaGreatPkQ

/-
  The program's spread, with a closure that always goes on, and with one that goes on from what is not marked.
-/
namespace Go.Proofs.YtdhiablpobnhcaaGreat
open Go.RowKit
open Go.Maps (Keyed)
set_option linter.unusedVariables false

/-- How many entries the map in block g has. -/
def metLen (w : World) (g : Nat) : Nat := match w.heap[g]? with
  | some (.map es _) => es.size
  | _ => 0
theorem metLen_eq {w : World} {g n : Nat} {M : DataW Unit} {S : List Int} (h : OwnB w g n M) (hM : MetIs M S) (hn : S.Nodup) : metLen w g = S.length := by
  have hp : S.Perm (intKeys M) := CollectedI.perm (left := fun _ => false) ⟨hn, fun x => by rw [← hM.has]; simp⟩ h mapLaw Tryz.underlying3 (fun _ => rfl)
  obtain ⟨es, clock, hb, F, hs, rfl⟩ := h
  unfold metLen
  rw [hb, hp.length_eq]
  simp [intKeys, length_sorted]
theorem own_init {w : World} {base : Nat} {a : Option Addr} {c : Nat} {T : List Int} {x : Int} (h : w.ownsRow base 3 1 (.slice a (T.length + 1) c) (T ++ [x]).length ((T ++ [x]).map (Value.int .i64))) :
    ∃ g, a = some ⟨g, 0, none⟩ ∧ T.length + 1 ≤ c ∧ c ≤ maxLen ∧ w.cell? ⟨g, T.length, none⟩ = some (.int .i64 x) ∧ w.ownsRow base 3 1 (.slice (some ⟨g, 0, none⟩) T.length c) T.length (T.map (Value.int .i64)) := by
  rcases h.2 with ⟨h0, _⟩ | ⟨g, cap, cur, he, hb, hg, hnc, hcm, hcs, ht⟩
  · simp at h0
  · simp only [Value.slice.injEq, List.length_append, List.length_cons, List.length_nil, Nat.zero_add] at he
    obtain ⟨rfl, _, rfl⟩ := he
    simp only [List.length_append, List.length_cons, List.length_nil, Nat.zero_add, Nat.mul_one, List.map_append, List.map_cons, List.map_nil] at hnc ht
    refine ⟨g, rfl, hnc, hcm, ?_, by simp, .inr ⟨g, c, cur, rfl, hb, hg, by omega, hcm, hcs, ?_⟩⟩
    · rw [cell_of_row w g T.length cur _ (0, 0) hg]
      have := congrArg (fun l => l[T.length]?) ht
      simpa [List.getElem?_take] using this
    · have := congrArg (List.take T.length) ht
      rw [List.take_take, Nat.min_eq_left (by omega)] at this
      rw [Nat.mul_one, this, List.take_left' (by simp)]
theorem ptrW_i64 {D : WD} (h : AllI D.words) (s : SpanD) (j : Nat) : AllI (ptrW D s j) := fun x hx => h x (List.mem_of_mem_drop (List.mem_of_mem_take hx))
theorem World.below_none {w wr w2 w3 : World} {g : Nat} (hg : w2.grownBy w3 (some g)) (h1 : Below w.heap.size w wr) (h2 : Below wr.heap.size wr w2) (hg2 : w.heap.size ≤ g) : Below w.heap.size w w3 :=
  (below_trans h1 h2).grown hg (by have := h1.size; have := h2.size; omega) (fun q hq => by cases hq; exact hg2)
/-- Between two rounds: S is met (in map M, block g), T is open. -/
structure SpSt (D : WD) (F : Nat → Nat → Prop) (fr : List Int) (w wr : World) (g : Nat) (v : Value) (S T : List Int) : Prop where
  st : GoSt D F fr S T
  i64 : AllI T
  len : T.length ≤ fr.length + 16 * S.length
  met : ∃ M, MetIs M S ∧ OwnB wr g S.length M
  own : wr.ownsRow w.heap.size 3 1 v T.length (T.map (Value.int .i64))
  below : Below w.heap.size w wr
  lo : w.heap.size ≤ g
theorem SpSt.next {D : WD} {F : Nat → Nat → Prop} {fr S T : List Int} {w wr w2 : World} {g : Nat} {v : Value} (h : SpSt D F fr w wr g v S T) (hb : Below wr.heap.size wr w2) : SpSt D F fr w w2 g v S T :=
  ⟨h.st, h.i64, h.len, by obtain ⟨M, h1, h2⟩ := h.met; exact ⟨M, h1, h2.below hb⟩, own_below h.own hb, below_trans h.below hb, h.lo⟩
theorem SpSt.mlen {D : WD} {F : Nat → Nat → Prop} {fr S T : List Int} {w wr : World} {g : Nat} {v : Value} (h : SpSt D F fr w wr g v S T) : metLen wr g = S.length := by
  obtain ⟨M, h1, h2⟩ := h.met
  exact metLen_eq h2 h1 h.st.nodup
theorem mem_snoc {T : List Int} {x : Int} (a : Int) : a ∈ T ++ [x] ↔ a = x ∨ a ∈ T := by
  rw [List.mem_append, List.mem_singleton]; exact Or.comm
theorem SpSt.skip {D : WD} {F : Nat → Nat → Prop} {fr S T : List Int} {x : Int} {w wr w2 : World} {g : Nat} {v v' : Value} (h : SpSt D F fr w wr g v S (T ++ [x])) (hx : ¬ HasObj D x ∨ x ∈ S) (ho : wr.ownsRow w.heap.size 3 1 v' T.length (T.map (Value.int .i64))) (hb : Below wr.heap.size wr w2) : SpSt D F fr w w2 g v' S T :=
  SpSt.next ⟨h.st.skip mem_snoc hx, fun a ha => h.i64 a (List.mem_append.2 (.inl ha)), by have := h.len; rw [List.length_append] at this; omega, h.met, ho, h.below, h.lo⟩ hb

theorem always_any (k j : Int) (w : World) : Calls Tryz.prog 46 #[.agg #[.int .i64 k, .int .i64 j]] w fun e w' => e = .returned (.bool true) ∧ Below w.heap.size w w' := by
  go_enter Tryz.func46, Tryz.ntmps46
  go_wp2_with fail
  go_ret
  exact ⟨rfl, below_box _ _⟩

set_option maxRecDepth 100000 in
set_option maxHeartbeats 8000000 in
theorem spreadA_any (V B gv n : Nat) (Mv : DataW Unit) (v : Value) (D : WD) (hF : HeapForm D) (hI : AllI D.words) (hcap : CapW v) (af : Option Addr) (cf : Nat) (fr : List Int) (hfI : AllI fr) (hfr : fr.length ≤ 1048576) (w : World) (hr : RdW w v D) (hB : BoxW w B v) (hv : ViewIs D w V B gv n Mv) (hf : Rd w (.slice af fr.length cf) fr) :
    Calls Tryz.prog 50 #[.pointer (some ⟨V, 0, none⟩), .slice af fr.length cf, .func (.func 46) #[] #[]] w fun e w' => ∃ g' S, Hid (S.Nodup ∧ ∀ a, a ∈ S ↔ Led D (fun _ _ => True) fr a) ∧ e = .returned (.map (some g')) ∧ Hid (∃ M, MetIs M S ∧ OwnB w' g' S.length M) ∧ w.heap.size ≤ g' ∧ Below w.heap.size w w' := by
  have hF' := Lib.hid hF
  have hI' := Lib.hid hI
  have hcap' := Lib.hid hcap
  have hr' := Lib.hid hr
  have hB' := Lib.hid hB
  have hv' := Lib.hid hv
  have hfI' := Lib.hid hfI
  have hf' := Lib.hid hf
  have c00 := Lib.hid (cell_of_heap hv.box 0 (.pointer (some ⟨B, 0, none⟩)) rfl)
  have bb := Lib.hid (below_box w (.map #[] 0))
  have hmk := @run_makeMap Tryz.prog
  have hown0 := Lib.hid (show OwnB (w.alloc (.map #[] 0)) w.heap.size 0 (.map []) from World.ownsMap_made w Tryz.prog 3 boolElem)
  have hcall := Lib.hid (listInt_any af fr.length cf (fr.map (Value.int .i64)) hfr _ (Rd.src (hf.below bb.out)))
  clear hF hI hcap hr hB hv hfI hf
  go_enter Tryz.func50, Tryz.ntmps50
  go_wp2_with fail
  refine hcall.out.mono ?_
  rintro e w1 ⟨v1, rfl, ho1, b1⟩
  have st1 := Lib.hid (show SpSt D (fun _ _ => True) fr w w1 w.heap.size v1 [] fr from ⟨GoSt.zero _ _ _, hfI'.out, by simp, ⟨_, MetIs.zero, hown0.out.below b1⟩, own_base (base' := w.heap.size) ho1 (by simp), below_trans bb.out b1, Nat.le_refl _⟩)
  clear ho1 b1 hcall hmk
  go_wp2_with fail
  go_loopw [8] (fun v wr => ∃ S T : List Int, Hid (SpSt D (fun _ _ => True) fr w wr w.heap.size v S T)) (fun v wr => lenV v + 17 * (384 - metLen wr w.heap.size))
  case atStart => exact ⟨[], fr, st1⟩
  case round =>
    clear st1
    obtain ⟨S, T, st⟩ := hrel
    have hml := st.out.mlen
    have hlenS : S.length ≤ 384 := st.out.st.len hF'.out
    have hl := st.out.len
    obtain ⟨au, cu, hu⟩ := own_slice st.out.own
    rcases List.eq_nil_or_concat T with rfl | ⟨T, x, rfl⟩
    · subst hu
      go_wp2_with fail
      go_ret
      exact ⟨_, S, Lib.hid ⟨st.out.st.nodup, fun a => st.out.st.done a⟩, rfl, Lib.hid st.out.met, Nat.le_refl _, st.out.below⟩
    rw [List.concat_eq_append] at st hu hl
    have e1 : (T ++ [x]).length = T.length + 1 := by simp
    rw [e1] at hu hl
    subst hu
    obtain ⟨gu, hgu, hcap, hcm, x0, htail⟩ := own_init st.out.own
    subst hgu
    have hx64 := st.out.i64 x (by simp)
    have hkey := Lib.hid (key_i64 hx64)
    obtain ⟨M, hM, hOM⟩ := st.out.met
    have hM' := Lib.hid hM
    have hOM' := Lib.hid hOM
    have hw := Lib.hid st.out.below
    have htail' := Lib.hid htail
    have hvr := Lib.hid (hv'.out.below hw.out)
    have c0 := cell_of_heap hvr.out.box 0 (.pointer (some ⟨B, 0, none⟩)) rfl
    have c1 := cell_of_heap hvr.out.box 1 (.map (some gv)) rfl
    have hpos : (0 : Int) < ((T.length + 1 : Nat) : Int) := by omega
    have hcm' : cu ≤ 9223372036854775807 := by unfold maxLen at hcm; omega
    have hsub : IntKind.i64.wrap (((T.length + 1 : Nat) : Int) - 1) = (T.length : Int) := (IntWalk.i64_in _ (by omega)).trans (by omega)
    have hlt0 : (T.length : Int) < ((T.length + 1 : Nat) : Int) := by omega
    have hle0 : (T.length : Int) ≤ (cu : Int) := by omega
    clear hM hOM hcm htail hx64
    by_cases hh : ∃ k j, IsObj D x k j
    case neg =>
      have h1 := Lib.hid (show Maps.has Mv (.int .i64 x) = false from by
        cases h : Maps.has Mv (.int .i64 x)
        · rfl
        · obtain ⟨k, j, _, ho⟩ := (hvr.out.is.has x).1 h
          exact absurd ⟨k, j, ho⟩ hh)
      have h2 := Lib.hid (show Mv.atKey (.int .i64 x) (dat 0 0) = dat 0 0 from Maps.atKey_of_not_has h1.out _)
      have st2 := Lib.hid (fun w2 (hb : Below wr.heap.size wr w2) => st.out.skip (.inl fun ⟨k, j, h⟩ => hh ⟨k, j, h⟩) htail'.out hb)
      have st3 := Lib.hid (st2.out _ (below_box wr (.cells #[.int .i64 0, .int .i64 0] 69)))
      clear hh st
      go_wp2_with (at_lookup; refine lookup_place _ rfl rfl _ _ rfl gv n Mv rfl hvr.out.own _ _ rfl hkey.out false h1.out 0 0 h2.out ?_)
      go_roundw
      case rel => exact ⟨S, T, st3⟩
      case measure => rw [st3.out.mlen, hml]; simp only [lenV]; omega
    obtain ⟨k, j, ho⟩ := hh
    obtain ⟨s, hks, hin, p0, p1⟩ := obj_slot hF'.out ho
    have ho' := Lib.hid ho
    have hks' := Lib.hid hks
    have hin' := Lib.hid hin
    have hk := Lib.hid (show Ahead D.spans.length 0 k j from .inl (List.getElem?_eq_some_iff.1 hks).1)
    have h1 := Lib.hid ((hvr.out.is.has x).2 ⟨k, j, hk.out, ho⟩)
    have h2 := Lib.hid (hvr.out.is.is x k j (dat 0 0) hk.out ho)
    have bb2 := Lib.hid (below_box wr (.cells #[.int .i64 k, .int .i64 j] 69))
    have bx2 := Lib.hid (box_new wr (.cells #[.int .i64 k, .int .i64 j] 69))
    have hl3 := Lib.hid (hM'.out.look x)
    have hOM2 := Lib.hid (hOM'.out.below bb2.out)
    by_cases hxS : x ∈ S
    · have st2 := Lib.hid (st.out.skip (.inr hxS) htail'.out bb2.out)
      have h3 := Lib.hid (show M.atKey (.int .i64 x) (flag false) = flag true by rw [hl3.out]; simp [hxS])
      have hlk := look_met hOM2.out hkey.out h3.out
      clear ho hks hin p0 p1 hxS st
      go_wp2_with (at_lookup; refine lookup_place _ rfl rfl _ _ rfl gv n Mv rfl hvr.out.own _ _ rfl hkey.out true h1.out (k : Int) (j : Int) h2.out ?_)
      go_roundw
      case rel => exact ⟨S, T, st2⟩
      case measure => rw [st2.out.mlen, hml]; simp only [lenV]; omega
    have h3 := Lib.hid (show M.atKey (.int .i64 x) (flag false) = flag false by rw [hl3.out]; simp [hxS])
    have hpw := Lib.hid (fun (w' : World) (hb : Below w.heap.size w w') => pointerWords_any B v D k j s hks hin p0 p1 hcap'.out w' (hr'.out.below hb) (hB'.out.below hb))
    have hxS' := Lib.hid hxS
    have hlk := look_met hOM2.out hkey.out h3.out
    have hne := Lib.hid (show some wr.heap.size ≠ some w.heap.size from fun e => by have := hOM'.out.lt; simp at e; omega)
    have hne2 := Lib.hid (hOM'.out.ne_row htail'.out)
    clear ho hks hin p0 p1 hxS
    go_wp2_with (first
      | (at_lookup; refine lookup_place _ rfl rfl _ _ rfl gv n Mv rfl hvr.out.own _ _ rfl hkey.out true h1.out (k : Int) (j : Int) h2.out ?_)
      | (at_mapUpdate; refine wpList_mapUpdate_own _ rfl _ _ _ 75 rfl 3 4 mapLaw Tryz.underlying75 boolElem w.heap.size S.length M rfl hOM2.out (by unfold maxLen; omega) _ _ (.int .i64 x) rfl rfl hkey.out (flag true) [] (boolElem_mk true) ?_; intro w3 hown3 hgrow3; have y0 := World.grownBy.cell hgrow3 (cell_of_heap bx2.out 0 (.int .i64 k) rfl) hne.out; have y1 := World.grownBy.cell hgrow3 (cell_of_heap bx2.out 1 (.int .i64 j) rfl) hne.out)
      | (go_at_call 46; refine (always_any _ _ _).mono ?_; rintro e w4 ⟨rfl, b4⟩))
    have M3 := Lib.hid (hM'.out.put x)
    have own3 := Lib.hid ((htail'.out.alloc (.cells #[.int .i64 k, .int .i64 j] 69)).kept hgrow3 (.inr hne2.out))
    have w3b := Lib.hid (show Below w.heap.size w w3 from Below.grown (below_trans hw.out bb2.out) hgrow3 (by have := hw.out.size; have := bb2.out.size; omega) (fun q hq => by cases hq; exact Nat.le_refl _))
    have w4b := Lib.hid (below_trans w3b.out b4)
    have own4 := Lib.hid (own_below own3.out b4)
    have hown4 := Lib.hid (show OwnB w4 w.heap.size (S.length + 1) _ from OwnB.below hown3 b4)
    have D0 := cell_below w4b.out c00.out
    have Y0 := cell_below b4 y0
    have Y1 := cell_below b4 y1
    have hl16 := obj_ptrs hF'.out ho'.out hks'.out
    clear c0 c1 y0 y1 hgrow3 hown3 b4 hlk x0
    have st2 := Lib.hid (st.out.st.put (S' := x :: S) (T'' := T ++ ptrW D s j) hF'.out mem_snoc ho'.out hks'.out (List.nodup_cons.2 ⟨hxS'.out, st.out.st.nodup⟩) (fun a => List.mem_cons) (fun _ b _ => List.mem_append) (fun hn => absurd trivial hn))
    have hi64 := Lib.hid (show AllI (T ++ ptrW D s j) from fun a ha => (List.mem_append.1 ha).elim (fun h => st.out.i64 a (List.mem_append.2 (.inl h))) (ptrW_i64 hI'.out s j a))
    have hle4 := Lib.hid w4b.out.size
    clear st
    generalize ptrW D s j = Z at *
    go_region_law (first
      | (refine step_own rfl (wp_app (.tmp 50) (.tmp 56) 23 rfl w.heap.size 3 (.int .i64 0) 1 8 Tryz.underlying23 infoInt rfl (by decide) _ T.length _ rfl own6.out A Z.length c (Z.map (Value.int .i64)) rfl src6.out (by unfold maxLen; omega) (by omega) hle6.out ?_); intro v7 w7 o7 g7)
      | (go_simp; go_wp2_with (go_at_call 116; refine (hpw.out _ ?_).mono ?_; (first | exact w4b.out | exact below_drewN w4b.out 1 | exact below_drewN w4b.out 2); rintro e w6 ⟨A, c, rfl, hrd, h16, b6⟩; have b66 := Lib.hid (show Below w4.heap.size w4 w6 from ⟨b6.os, b6.tape, b6.output, b6.size, b6.block⟩); have src6 := Lib.hid (Rd.src hrd); have own6 := Lib.hid (own_below own4.out b66.out); have hle6 := Lib.hid (Nat.le_trans hle4.out b66.out.size); clear hrd b6)))
    all_goals
      obtain ⟨a7, c7, hv7⟩ := own_slice o7
      subst hv7
      have st7 := Lib.hid (show SpSt D (fun _ _ => True) fr w w7 w.heap.size _ (x :: S) (T ++ Z) from ⟨st2.out, hi64.out, by simp only [List.length_append, List.length_cons]; omega, ⟨_, M3.out, World.ownsMap.kept (OwnB.below hown4.out b66.out) g7 (fun e => hown4.out.ne_row own4.out e.symm)⟩, by simpa using o7, (below_trans w4b.out b66.out).grown g7 hle6.out (fun q hq => (own6.out.lt q hq).1), Nat.le_refl _⟩)
      have h384 := st2.out.len hF'.out
      clear o7 g7
      go_simp
      go_wp2_with fail
      go_roundw
      case rel => exact ⟨x :: S, T ++ Z, st7⟩
      case measure => rw [st7.out.mlen, hml]; simp only [lenV, List.length_cons] at h384 ⊢; omega
end Go.Proofs.YtdhiablpobnhcaaGreat

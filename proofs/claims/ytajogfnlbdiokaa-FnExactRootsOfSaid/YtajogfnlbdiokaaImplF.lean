/-
  The contracts of the program's places and Find.
-/
import Derived.Test.YtajogfnlbdiokaaImplE
import Derived.Maps.OwnSet
import Derived.Maps.OwnOps
namespace Go.Proofs.Ytajogfnlbdiokaa
open Go.RowKit
open Go.Maps (Keyed)
set_option linter.unusedVariables false

/-- What a place reads as. -/
def dat (k j : Int) : DataW Unit := .agg [.lit (.int .i64 k), .lit (.int .i64 j)]
def placeElem : Value → Option (DataW Unit × List MemPlace)
  | .agg cs => match cs.toList with
    | [.int .i64 a, .int .i64 b] => some (dat a b, [])
    | _ => none
  | _ => none
theorem placeElem_mk (a b : Int) : placeElem (.agg #[.int .i64 a, .int .i64 b]) = some (dat a b, []) := rfl
theorem dat_inj {a b c d : Int} (h : dat a b = dat c d) : a = c ∧ b = d := by simpa [dat] using h
theorem placeElem_inv {v : Value} {z : DataW Unit × List MemPlace} (h : placeElem v = some z) : ∃ a b : Int, v = .agg #[.int .i64 a, .int .i64 b] ∧ z = (dat a b, []) := by
  unfold placeElem at h
  split at h
  · rename_i cs
    obtain ⟨l⟩ := cs
    split at h
    · rename_i heq
      simp at heq
      subst heq
      cases h
      exact ⟨_, _, rfl, rfl⟩
    · cases h
  · cases h
theorem zeroPlace (w : World) : (zeroValue 93).run Try.prog w = .ok (.agg #[.int .i64 0, .int .i64 0]) w := by kernel_rfl
theorem mapLaw : Keyed Try.prog 3 := Maps.int_keyed Try.underlying3
theorem key_i64 {a : Int} (h : I64 a) : keyOf Try.prog 3 (.int .i64 a) = some (.int .i64 a) := by
  obtain ⟨h1, h2⟩ := h
  exact Maps.keyOf_int_mk Try.underlying3 (WalkArith.wf_i64 (by omega))
theorem isKey (a : Int) : WideAt.IsKeyLit (.int .i64 a) := by first | trivial | simp [WideAt.IsKeyLit]

/-- Ahead of slot J of span K. -/
def Ahead (K J k j : Nat) : Prop := k < K ∨ (k = K ∧ j < J)
structure PlacesIs (D : WD) (M : DataW Unit) (K J : Nat) : Prop where
  isMap : Maps.IsMap M
  has : ∀ a : Int, Maps.has M (.int .i64 a) = true ↔ ∃ k j, Ahead K J k j ∧ IsObj D a k j
  is : ∀ (a : Int) (k j : Nat) (z : DataW Unit), Ahead K J k j → IsObj D a k j → M.atKey (.int .i64 a) z = dat k j
theorem PlacesIs.zero (D : WD) : PlacesIs D (.map []) 0 0 :=
  ⟨Maps.isMap_empty, fun a => ⟨fun h => by simp [Maps.has_eq] at h, fun ⟨k, j, h, _⟩ => by unfold Ahead at h; omega⟩, fun a k j z h => by unfold Ahead at h; omega⟩
theorem PlacesIs.skip {D : WD} {M : DataW Unit} {K J : Nat} {s : SpanD} (h : PlacesIs D M K J) (hs : D.spans[K]? = some s) (hl : ¬ 0 < s.lens[J]?.getD 0) : PlacesIs D M K (J + 1) := by
  have key : ∀ a k j, Ahead K (J + 1) k j → IsObj D a k j → Ahead K J k j := fun a k j ha ho => by
    rcases ha with ha | ⟨rfl, ha⟩
    · exact .inl ha
    · refine .inr ⟨rfl, ?_⟩
      by_cases e : j = J
      · subst e
        obtain ⟨t, ht, _, hpos, _⟩ := ho
        rw [hs] at ht
        cases ht
        exact absurd hpos hl
      · omega
  refine ⟨h.isMap, fun a => ?_, fun a k j z ha ho => h.is a k j z (key a k j ha ho) ho⟩
  rw [h.has a]
  exact ⟨fun ⟨k, j, ha, ho⟩ => ⟨k, j, ha.imp id fun ⟨e, hlt⟩ => ⟨e, by omega⟩, ho⟩, fun ⟨k, j, ha, ho⟩ => ⟨k, j, key a k j ha ho, ho⟩⟩
theorem PlacesIs.put {D : WD} (hF : HeapForm D) {M : DataW Unit} {K J : Nat} {s : SpanD} (h : PlacesIs D M K J) (hs : D.spans[K]? = some s) (hJ : J < s.lens.length) (hl : 0 < s.lens[J]?.getD 0) :
    PlacesIs D (M.put (.int .i64 (D.base + atW s (J : Int))) (dat K J)) K (J + 1) := by
  have ho : IsObj D (D.base + atW s (J : Int)) K J := ⟨s, hs, hJ, hl, rfl⟩
  have key : ∀ a k j, Ahead K (J + 1) k j → IsObj D a k j → a ≠ D.base + atW s (J : Int) → Ahead K J k j := fun a k j ha hi hne => by
    rcases ha with ha | ⟨rfl, ha⟩
    · exact .inl ha
    · refine .inr ⟨rfl, ?_⟩
      by_cases e : j = J
      · subst e
        obtain ⟨t, ht, _, _, he⟩ := hi
        rw [hs] at ht
        cases ht
        exact absurd he.symm hne
      · omega
  have lit : ∀ a : Int, a ≠ D.base + atW s (J : Int) → (Lit.int .i64 a) ≠ (Lit.int .i64 (D.base + atW s (J : Int))) := fun a hne e => hne (by simpa using e)
  refine ⟨h.isMap.put _ _, fun a => ?_, fun a k j z ha hi => ?_⟩
  · by_cases e : a = D.base + atW s (J : Int)
    · subst e
      rw [Maps.has_put_same h.isMap (isKey _)]
      exact ⟨fun _ => ⟨K, J, .inr ⟨rfl, by omega⟩, ho⟩, fun _ => rfl⟩
    · rw [Maps.has_put_other (lit a e), h.has a]
      exact ⟨fun ⟨k, j, ha, hi⟩ => ⟨k, j, ha.imp id fun ⟨e, hlt⟩ => ⟨e, by omega⟩, hi⟩, fun ⟨k, j, ha, hi⟩ => ⟨k, j, key a k j ha hi e, hi⟩⟩
  · by_cases e : a = D.base + atW s (J : Int)
    · subst e
      rw [Maps.atKey_put_same h.isMap (isKey _)]
      obtain ⟨rfl, rfl⟩ := hi.unique hF ho
      rfl
    · rw [Maps.atKey_put_other (lit a e)]
      exact h.is a k j z (key a k j ha hi e) hi
theorem PlacesIs.next {D : WD} {M : DataW Unit} {K : Nat} {s : SpanD} (h : PlacesIs D M K s.lens.length) (hs : D.spans[K]? = some s) : PlacesIs D M (K + 1) 0 := by
  have key : ∀ a k j, Ahead (K + 1) 0 k j → IsObj D a k j → Ahead K s.lens.length k j := fun a k j ha ho => by
    rcases ha with ha | ⟨_, ha⟩
    · by_cases e : k = K
      · subst e
        obtain ⟨t, ht, hj, _⟩ := ho
        rw [hs] at ht
        cases ht
        exact .inr ⟨rfl, hj⟩
      · exact .inl (by omega)
    · omega
  refine ⟨h.isMap, fun a => ?_, fun a k j z ha ho => h.is a k j z (key a k j ha ho) ho⟩
  rw [h.has a]
  exact ⟨fun ⟨k, j, ha, ho⟩ => ⟨k, j, .inl (by unfold Ahead at ha; omega), ho⟩, fun ⟨k, j, ha, ho⟩ => ⟨k, j, key a k j ha ho, ho⟩⟩

/-- The map of places, in a block of its own. -/
def OwnP (w : World) (g n : Nat) (M : DataW Unit) : Prop := w.ownsMap Try.prog 3 placeElem g n M
theorem OwnP.below {w w' : World} {g n : Nat} {M : DataW Unit} (h : OwnP w g n M) (hb : Below w.heap.size w w') : OwnP w' g n M := World.ownsMap.kept h (grown_of_below hb) (by simp)

set_option maxRecDepth 100000 in
set_option maxHeartbeats 8000000 in
theorem places_any (B : Nat) (v : Value) (D : WD) (hF : HeapForm D) (w : World) (hr : RdW w v D) (hB : BoxW w B v) :
    Calls Try.prog 114 #[.pointer (some ⟨B, 0, none⟩)] w fun e w' => ∃ g n M, e = .returned (.map (some g)) ∧ OwnP w' g n M ∧ PlacesIs D M D.spans.length 0 ∧ Below w.heap.size w w' := by
  have hr' := Lib.hid hr
  have hB' := Lib.hid hB
  have hF' := Lib.hid hF
  obtain ⟨vw, vd, vs, vm, vg, rfl, a1, a2, a3, a4, a5⟩ := hr
  obtain ⟨aS, cS, rfl, hls, hx⟩ := a3
  have g4 := Ext.cell (hB.elim fun cs h => by obtain rfl := (Value.agg.inj h.1).symm; exact cell_of_heap h.2 4 _ rfl)
  have f4 := g4 (Ext.self w)
  have hx' := Lib.hid hx
  have hsl := hF.spans
  have hpl := hF.geo.2.2.2.2.1
  have hbw : Below w.heap.size w (w.alloc (.map #[] 0)) := below_box w _
  have hmk := @run_makeMap Try.prog
  have hown0 := Lib.hid (show OwnP (w.alloc (.map #[] 0)) w.heap.size 0 (.map []) from World.ownsMap_made w Try.prog 3 placeElem)
  have hbw' := Lib.hid hbw
  have f4' := cell_below hbw f4
  clear hF hB hx hls a1 a2 a4 a5 hbw f4
  go_enter Try.func114, Try.ntmps114
  go_wp2_with fail
  clear f4'
  go_loopw [14] (fun i wr => ∃ (k : Nat) (M : DataW Unit), k ≤ D.spans.length ∧ i = .int .i64 k ∧ Hid (PlacesIs D M k 0) ∧ ∃ x : Ext w, wr = x.val ∧ Hid (OwnP x.val w.heap.size (k * 16) M)) (fun i _ => D.spans.length - (intOf i).toNat)
  case atStart => exact ⟨0, .map [], Nat.zero_le _, rfl, PlacesIs.zero D, ⟨_, hbw'.out⟩, rfl, hown0.out⟩
  case round =>
    obtain ⟨k, M, hk, rfl, hP, x, rfl, hown⟩ := hrel
    by_cases hlt : k < D.spans.length
    · have hlt1 : (k : Int) < (D.spans.length : Int) := by omega
      obtain ⟨s, hks⟩ : ∃ s, D.spans[k]? = some s := ⟨_, List.getElem?_eq_getElem hlt⟩
      obtain ⟨b1, o1, rfl, hs⟩ := hx'.out k s hks
      obtain ⟨vl, vp, _, _, _, _, y4, _, ⟨al, cl, rfl, hll, xl⟩, _⟩ := hs
      have y4 := Ext.cell y4
      have xl' := Lib.hid xl
      have hA := hF'.out.span k s hks
      have hks' := Lib.hid hks
      have hl16 : s.lens.length ≤ 16 := by have := hA.lens; have := (sl_bd s.cls).2; omega
      clear hA hks xl hll
      go_wp2_with fail
      go_loopw [26] (fun i wr => ∃ (j : Nat) (M : DataW Unit), j ≤ s.lens.length ∧ i = .int .i64 j ∧ Hid (PlacesIs D M k j) ∧ ∃ x : Ext w, wr = x.val ∧ Hid (OwnP x.val w.heap.size (k * 16 + j) M)) (fun i _ => s.lens.length - (intOf i).toNat)
      case atStart => exact ⟨0, M, Nat.zero_le _, rfl, hP, x, rfl, hown⟩
      case round =>
        clear hP hown
        obtain ⟨j, M, hj, rfl, hP, x, rfl, hown⟩ := hrel
        by_cases hjl : j < s.lens.length
        · have hj1 : (j : Int) < (s.lens.length : Int) := by omega
          obtain ⟨bl, ol, rfl, gl⟩ := xl'.out j hjl
          have gl := Ext.cell gl
          have hskip := Lib.hid (hP.out.skip hks'.out (J := j))
          have hput := Lib.hid (hP.out.put hF'.out hks'.out hjl)
          have hbd := Lib.hid (show I64 (D.base + atW s (j : Int)) from by
            have hA := hF'.out.span k s hks'.out
            have hg := hF'.out.geo
            have h1 := hA.pg0
            have h2 := hA.pg1
            have hm := sz_bd s.cls
            have hm0 : 0 ≤ (j : Int) * sz s.cls := Int.mul_nonneg (by omega) hm.1
            have hm1 : (j : Int) * sz s.cls ≤ 16000 := by
              have := Int.mul_le_mul (show (j : Int) ≤ 1000 by omega) hm.2 hm.1 (by omega)
              omega
            have hg1 := hg.1
            have hg2 := hg.2.1
            unfold I64 atW
            omega)
          generalize s.lens[j]?.getD 0 = l at *
          by_cases hl : 0 < l
          · have hP2 := Lib.hid (hput.out hl)
            have bb := below_box x.val (.cells #[.int .i64 k, .int .i64 j] 93)
            have bn := box_new x.val (.cells #[.int .i64 k, .int .i64 j] 93)
            have bbh := Lib.hid (below_trans x.below bb)
            have bnh := Lib.hid bn
            have hown1 := Lib.hid (OwnP.below hown.out bb)
            have hcall := Lib.hid (fun (w2 : World) (hb : Below w.heap.size w w2) => addrI_any B _ D k j s hks'.out (hF'.out.span k s hks'.out).pg0 (by have := (hF'.out.span k s hks'.out).pg1; omega) (by omega) (by have := hF'.out.geo.1; omega) hF'.out.geo.2.1 w2 (hr'.out.below hb) (hB'.out.below hb))
            have hstep := Lib.hid (show ∀ w2, Below (x.val.alloc (.cells #[.int .i64 k, .int .i64 j] 93)).heap.size (x.val.alloc (.cells #[.int .i64 k, .int .i64 j] 93)) w2 →
                w2.cell? ⟨x.val.heap.size, 0, none⟩ = some (.int .i64 k) ∧ w2.cell? ⟨x.val.heap.size, 1, none⟩ = some (.int .i64 j) ∧
                ∃ w3, (Instr.mapUpdate 133 (.map (some w.heap.size)) (.int .i64 (D.base + atW s (j : Int))) (.agg #[.int .i64 k, .int .i64 j])).run Try.prog w2 = .ok () w3 ∧ Hid (OwnP w3 w.heap.size (k * 16 + (j + 1)) (M.put (.int .i64 (D.base + atW s (j : Int))) (dat k j))) ∧ Hid (Below w.heap.size w w3) from fun w2 b3 => by
              refine ⟨cell_of_heap (heap_below b3 bnh.out) 0 _ rfl, cell_of_heap (heap_below b3 bnh.out) 1 _ rfl, ?_⟩
              obtain ⟨w3, hrun, hown3, hg3⟩ := World.ownsMap.update (OwnP.below hown1.out b3) mapLaw Try.underlying133 (by unfold maxLen; omega) (key_i64 hbd.out) (placeElem_mk k j)
              exact ⟨w3, hrun, hown3, (below_trans bbh.out b3).grown hg3 (Nat.le_trans bbh.out.size b3.size) (fun q hq => by cases hq; exact Nat.le_refl _)⟩)
            clear hP hown hskip hput bb bn
            go_wp2_with fail
            go_region_with (first
              | (go_at_call 76; refine (hcall.out _ ?_).mono ?_; exact ⟨bbh.out.os, bbh.out.tape, bbh.out.output, bbh.out.size, bbh.out.block⟩; rintro e w2 ⟨rfl, b2⟩; obtain ⟨c0, c1, w3, hrun, hown4, b4⟩ := hstep.out w2 ⟨b2.os, b2.tape, b2.output, b2.size, b2.block⟩; clear b2))
            all_goals clear c0 c1 hrun
            all_goals obtain ⟨x2, rfl⟩ := Ext.of b4.out
            all_goals go_wp2_with fail
            all_goals go_roundw
            all_goals first
              | exact ⟨j + 1, _, by omega, by go_num, hP2, x2, rfl, hown4⟩
              | (simp [intOf]; omega)
          · have hP2 := Lib.hid (hskip.out hl)
            have hown2 := Lib.hid (show OwnP x.val w.heap.size (k * 16 + (j + 1)) M from World.ownsMap.mono hown.out (by omega))
            clear hP hown
            go_wp2_with fail
            go_roundw
            case rel => exact ⟨j + 1, M, by omega, by go_num, hP2, x, rfl, hown2⟩
            case measure => simp [intOf]; omega
        · obtain rfl : j = s.lens.length := by omega
          have hP2 := Lib.hid (hP.out.next hks'.out)
          have hown2 := Lib.hid (show OwnP x.val w.heap.size ((k + 1) * 16) M from World.ownsMap.mono hown.out (by omega))
          clear hP hown
          go_wp2_with fail
          go_roundw
          case rel => exact ⟨k + 1, M, by omega, by go_num, hP2, x, rfl, hown2⟩
          case measure => simp [intOf]; omega
    · obtain rfl : k = D.spans.length := by omega
      go_wp2_with fail
      go_ret
      exact ⟨_, _, _, rfl, hown.out, hP.out, x.below⟩
end Go.Proofs.Ytajogfnlbdiokaa

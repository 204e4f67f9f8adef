import Derived.Test.YtdhiablpobnhcaaGreatPkSWhite
import Derived.Test.YtdhiablpobnhcaaGreatPkSGcOk

/-
  The contract of the model's l3keptOk.
-/
namespace Go.Proofs.YtdhiablpobnhcaaGreat
open Go.RowKit
set_option linter.unusedVariables false

/-- The state behind M users, and behind K' spans and J slots: K is kept, L leads. -/
structure KeepSt (D : WD) (M K' J : Nat) (K L : List Int) : Prop where
  asc : Asc K
  kept : ∀ a, a ∈ K ↔ Coming D a ∨ ∃ k j, Ahead K' J k j ∧ IsObj D a k j ∧ MarkedP D k j
  lead : ∀ a, a ∈ L ↔ (∃ (m : Nat) (r : List Int), m < M ∧ D.muts[m]? = some r ∧ SeenP D m ∧ a ∈ r) ∨ ∃ b k j s, Ahead K' J k j ∧ IsObj D b k j ∧ D.spans[k]? = some s ∧ MarkedP D k j ∧ a ∈ nz (ptrW D s j)
  len : L.length ≤ 6 * M + 256 * K' + 16 * J
theorem ahead_zero {k j : Nat} (h : Ahead 0 0 k j) : False := by unfold Ahead at h; omega
theorem KeepSt.zero {D : WD} {K : List Int} (ha : Asc K) (hm : ∀ a, a ∈ K ↔ Coming D a) : KeepSt D 0 0 0 K [] :=
  ⟨ha, fun a => (hm a).trans ⟨.inl, fun h => h.elim id fun ⟨k, j, h, _⟩ => (ahead_zero h).elim⟩, fun a => ⟨fun h => by simp at h, fun h => h.elim (fun ⟨m, r, h, _⟩ => absurd h (by omega)) fun ⟨b, k, j, s, h, _⟩ => (ahead_zero h).elim⟩, by simp⟩
theorem KeepSt.mutSkip {D : WD} {M : Nat} {K L r : List Int} (h : KeepSt D M 0 0 K L) (hs : ¬ SeenP D M) : KeepSt D (M + 1) 0 0 K L :=
  ⟨h.asc, h.kept, fun a => (h.lead a).trans ⟨fun h => h.imp (fun ⟨m, r, h1, h2⟩ => ⟨m, r, by omega, h2⟩) id, fun h => h.imp (fun ⟨m, r, h1, h2, h3, h4⟩ => ⟨m, r, by
    by_cases e : m = M
    · subst e; exact absurd h3 hs
    · omega, h2, h3, h4⟩) id⟩, by have := h.len; omega⟩
theorem KeepSt.mutAdd {D : WD} {M : Nat} {K L r : List Int} (h : KeepSt D M 0 0 K L) (hr : D.muts[M]? = some r) (h6 : r.length = 6) (hs : SeenP D M) : KeepSt D (M + 1) 0 0 K (L ++ r) := by
  refine ⟨h.asc, h.kept, fun a => ?_, by have := h.len; rw [List.length_append]; omega⟩
  rw [List.mem_append, h.lead a]
  constructor
  · rintro ((⟨m, r', h1, h2⟩ | ⟨b, k, j, s, h1, _⟩) | hm)
    · exact .inl ⟨m, r', by omega, h2⟩
    · exact (ahead_zero h1).elim
    · exact .inl ⟨M, r, by omega, hr, hs, hm⟩
  · rintro (⟨m, r', h1, h2, h3, h4⟩ | ⟨b, k, j, s, h1, _⟩)
    · by_cases e : m = M
      · subst e
        rw [hr] at h2
        cases h2
        exact .inr h4
      · exact .inl (.inl ⟨m, r', by omega, h2, h3, h4⟩)
    · exact (ahead_zero h1).elim
theorem ahead_up {K J k j : Nat} (h : Ahead K J k j) : Ahead K (J + 1) k j := h.imp id fun ⟨e, h⟩ => ⟨e, by omega⟩
theorem ahead_last {K J k j : Nat} (h : Ahead K (J + 1) k j) : Ahead K J k j ∨ (k = K ∧ j = J) := by unfold Ahead at *; omega
theorem KeepSt.skip {D : WD} {M K' J : Nat} {K L : List Int} {s : SpanD} (h : KeepSt D M K' J K L) (hs : D.spans[K']? = some s) (hn : ¬ (0 < s.lens[J]?.getD 0 ∧ MarkedP D K' J)) : KeepSt D M K' (J + 1) K L := by
  have key : ∀ a k j, Ahead K' (J + 1) k j → IsObj D a k j → MarkedP D k j → Ahead K' J k j := fun a k j ha ho hm => by
    rcases ahead_last ha with h | ⟨rfl, rfl⟩
    · exact h
    · obtain ⟨t, ht, _, hp, _⟩ := ho
      rw [hs] at ht
      cases ht
      exact absurd ⟨hp, hm⟩ hn
  exact ⟨h.asc, fun a => (h.kept a).trans ⟨fun h => h.imp id fun ⟨k, j, h1, h2⟩ => ⟨k, j, ahead_up h1, h2⟩, fun h => h.imp id fun ⟨k, j, h1, h2, h3⟩ => ⟨k, j, key a k j h1 h2 h3, h2, h3⟩⟩,
    fun a => (h.lead a).trans ⟨fun h => h.imp id fun ⟨b, k, j, s, h1, h2⟩ => ⟨b, k, j, s, ahead_up h1, h2⟩, fun h => h.imp id fun ⟨b, k, j, s, h1, h2, h3, h4, h5⟩ => ⟨b, k, j, s, key b k j h1 h2 h4, h2, h3, h4, h5⟩⟩, by have := h.len; omega⟩
theorem KeepSt.add {D : WD} {M K' J : Nat} {K L R : List Int} {s : SpanD} {x : Int} (hF : HeapForm D) (h : KeepSt D M K' J K L) (hs : D.spans[K']? = some s) (ho : IsObj D x K' J) (hm : MarkedP D K' J) (hp : PutIs K x R) : KeepSt D M K' (J + 1) R (L ++ nz (ptrW D s J)) := by
  have hl := nz_len16 hF ho hs
  refine ⟨hp.1, fun a => ?_, fun a => ?_, by have := h.len; rw [List.length_append]; omega⟩
  · rw [hp.2.1, h.kept a]
    constructor
    · rintro (rfl | h | ⟨k, j, h1, h2⟩)
      · exact .inr ⟨K', J, .inr ⟨rfl, by omega⟩, ho, hm⟩
      · exact .inl h
      · exact .inr ⟨k, j, ahead_up h1, h2⟩
    · rintro (h | ⟨k, j, h1, h2, h3⟩)
      · exact .inr (.inl h)
      · rcases ahead_last h1 with h1 | ⟨rfl, rfl⟩
        · exact .inr (.inr ⟨k, j, h1, h2, h3⟩)
        · left
          obtain ⟨t, ht, _, _, e⟩ := ho
          obtain ⟨t', ht', _, _, e'⟩ := h2
          rw [ht] at ht'
          cases ht'
          omega
  · rw [List.mem_append, h.lead a]
    constructor
    · rintro ((h | ⟨b, k, j, t, h1, h2⟩) | h)
      · exact .inl h
      · exact .inr ⟨b, k, j, t, ahead_up h1, h2⟩
      · exact .inr ⟨x, K', J, s, .inr ⟨rfl, by omega⟩, ho, hs, hm, h⟩
    · rintro (h | ⟨b, k, j, t, h1, h2, h3, h4, h5⟩)
      · exact .inl (.inl h)
      · rcases ahead_last h1 with h1 | ⟨rfl, rfl⟩
        · exact .inl (.inr ⟨b, k, j, t, h1, h2, h3, h4, h5⟩)
        · rw [hs] at h3
          cases h3
          exact .inr h5
theorem ahead_next {D : WD} {K : Nat} {s : SpanD} (hs : D.spans[K]? = some s) {a : Int} {k j : Nat} (h : Ahead (K + 1) 0 k j) (ho : IsObj D a k j) : Ahead K s.lens.length k j := by
  rcases h with h | ⟨_, h⟩
  · by_cases e : k = K
    · subst e
      obtain ⟨t, ht, hj, _⟩ := ho
      rw [hs] at ht
      cases ht
      exact .inr ⟨rfl, hj⟩
    · exact .inl (by omega)
  · omega
theorem KeepSt.next {D : WD} {M K' : Nat} {K L : List Int} {s : SpanD} (h : KeepSt D M K' s.lens.length K L) (hs : D.spans[K']? = some s) (h16 : s.lens.length ≤ 16) : KeepSt D M (K' + 1) 0 K L :=
  ⟨h.asc, fun a => (h.kept a).trans ⟨fun h => h.imp id fun ⟨k, j, h1, h2⟩ => ⟨k, j, .inl (by unfold Ahead at h1; omega), h2⟩, fun h => h.imp id fun ⟨k, j, h1, h2, h3⟩ => ⟨k, j, ahead_next hs h1 h2, h2, h3⟩⟩,
    fun a => (h.lead a).trans ⟨fun h => h.imp id fun ⟨b, k, j, t, h1, h2⟩ => ⟨b, k, j, t, .inl (by unfold Ahead at h1; omega), h2⟩, fun h => h.imp id fun ⟨b, k, j, t, h1, h2, h3⟩ => ⟨b, k, j, t, ahead_next hs h1 h2, h2, h3⟩⟩, by have := h.len; omega⟩
theorem KeepSt.klen {D : WD} {M K' J : Nat} {K L : List Int} (hF : HeapForm D) (h : KeepSt D M K' J K L) : K.length ≤ 384 :=
  nodup_range (lo := D.base) h.asc.nodup fun a ha => obj_range hF (((h.kept a).1 ha).elim (fun h => h.obj) fun ⟨k, j, _, ho, _⟩ => ⟨k, j, ho⟩)
theorem KeepSt.done {D : WD} {K L : List Int} (h : KeepSt D D.muts.length D.spans.length 0 K L) (h0 : D.phase ≠ 0) (h4 : D.phase ≠ 4) : (∀ a, a ∈ L → a = 0 ∨ a ∈ K) ↔ KeptRight D := by
  have hk : ∀ a, a ∈ K ↔ Coming D a ∨ MarkedObj D a := fun a => (h.kept a).trans ⟨fun h => h.imp id fun ⟨k, j, _, h⟩ => ⟨k, j, h⟩, fun h => h.imp id fun ⟨k, j, ho, hm⟩ => ⟨k, j, .inl (by obtain ⟨s, hs, _⟩ := ho; exact (List.getElem?_eq_some_iff.1 hs).1), ho, hm⟩⟩
  constructor
  · intro hall _ _
    refine ⟨fun m r hm hr hs a ha => ?_, fun b k j s hah ho hs hm a ha => ?_⟩
    · exact (hall a ((h.lead a).2 (.inl ⟨m, r, hm, hr, hs, ha⟩))).imp id (hk a).1
    · by_cases e : a = 0
      · exact .inl e
      · exact (hall a ((h.lead a).2 (.inr ⟨b, k, j, s, hah, ho, hs, hm, nz_mem_iff.2 ⟨ha, e⟩⟩))).imp id (hk a).1
  · intro hK a ha
    obtain ⟨h1, h2⟩ := hK h0 h4
    have : Kept D a := by
      rcases (h.lead a).1 ha with ⟨m, r, hm, hr, hs, ha⟩ | ⟨b, k, j, s, hah, ho, hs, hm, ha⟩
      · exact h1 m r hm hr hs a ha
      · exact h2 b k j s hah ho hs hm a (nz_mem_iff.1 ha).1
    exact this.imp id (hk a).2

set_option maxRecDepth 100000 in
set_option maxHeartbeats 8000000 in
theorem skeptOk_any (B : Nat) (v : Value) (D : WD) (hF : HeapForm D) (hgm : GreyMarked D D.grey) (w : World) (hr : RdW w v D) (hB : BoxW w B v) :
    Calls Tryz.prog 66 #[.pointer (some ⟨B, 0, none⟩)] w fun e w' => IsB (KeptRight D) e ∧ Below w.heap.size w w' := by
  have hr' := Lib.hid hr
  have hB' := Lib.hid hB
  have hF' := Lib.hid hF
  have hgl : D.grey.length ≤ 384 := nodup_range (lo := D.base) hgm.1 fun a ha => obj_range hF (hgm.obj a ha)
  have hwhite := Lib.hid (swhite_any B v D hF hgm.obj hgl w hr hB)
  obtain ⟨vw, vd, vs, vm, vg, rfl, a1, a2, a3, a4, a5⟩ := hr
  obtain ⟨aS, cS, rfl, hsl, _⟩ := a3
  obtain ⟨aM, cM, rfl, hml, hxm⟩ := a4
  have hxm' := Lib.hid hxm
  unfold maxLen at hsl hml
  have g6 := hB.cell 6 _ rfl
  have hf4 := Lib.hid (fun (w' : World) (hb : Below w.heap.size w w') => cell_below hb (hB.cell 4 (.slice aS D.spans.length cS) rfl))
  have hf5 := Lib.hid (fun (w' : World) (hb : Below w.heap.size w w') => cell_below hb (hB.cell 5 (.slice aM D.muts.length cM) rfl))
  have hspl := hF.spans
  have hpl := hF.geo.2.2.2.2.1
  have hmu := hF.geo.2.2.2.2.2.2
  clear a1 a2 a5 hF hB hgm hxm hgl
  by_cases e0 : D.phase = 0
  · have n := Lib.hid (IsB.yes (P := KeptRight D) fun h _ => absurd e0 h)
    rw [e0] at g6
    clear e0
    go_enter Tryz.func66, Tryz.ntmps66
    go_wp2_with fail
    go_ret
    exact ⟨n.out, Below.refl _ _⟩
  by_cases e4 : D.phase = 4
  · have n := Lib.hid (IsB.yes (P := KeptRight D) fun _ h => absurd e4 h)
    rw [e4] at g6
    clear e0 e4
    go_enter Tryz.func66, Tryz.ntmps66
    go_wp2_with fail
    go_ret
    exact ⟨n.out, Below.refl _ _⟩
  have d0 : (D.phase == 0) = false := beq_eq_false_iff_ne.2 e0
  have d4 : (D.phase == 4) = false := beq_eq_false_iff_ne.2 e4
  have e0' := Lib.hid e0
  have e4' := Lib.hid e4
  clear e0 e4
  go_enter Tryz.func66, Tryz.ntmps66
  go_wp2_with fail
  refine hwhite.out.mono ?_
  rintro e w1 ⟨K, u, hK, rfl, hu, b1⟩
  have st0 := Lib.hid (KeepSt.zero hK.out.1 hK.out.2)
  have two0 := Lib.hid (show TwoL w w1 u (.slice none 0 0) K [] from ⟨hu, .inl ⟨rfl, rfl⟩, fun q hq hv => by simp [Value.ownBlock] at hv, b1⟩)
  clear hu b1 hK hwhite g6 d0 d4
  go_wp2_with fail
  go_loopw [4, 5] (fun v i wr => ∃ (m : Nat) (L : List Int), m ≤ D.muts.length ∧ i = .int .i64 m ∧ Hid (KeepSt D m 0 0 K L) ∧ Hid (TwoL w wr u v K L)) (fun _ i _ => D.muts.length - (Go.RowKit.intOf i).toNat)
  case atStart => exact ⟨0, [], Nat.zero_le _, rfl, st0, two0⟩
  case round =>
    clear st0 two0
    obtain ⟨m, L, hm, rfl, st, two⟩ := hrel
    have g5 := hf5.out _ two.out.below
    obtain ⟨av, cv, hv⟩ := two.out.que.shape
    subst hv
    by_cases hlt : m < D.muts.length
    · have hlt1 : (m : Int) < (D.muts.length : Int) := by omega
      obtain ⟨r, hmr⟩ : ∃ r, D.muts[m]? = some r := ⟨_, List.getElem?_eq_getElem hlt⟩
      have h6 := hF'.out.roots m r hmr
      obtain ⟨bM, oM, vr, rfl, xm0, hrd⟩ := hxm'.out m r hmr
      obtain ⟨ar, cr, rfl, hrl, xr⟩ := id hrd
      have xm := cell_below two.out.below xm0
      have src := Lib.hid (Rd.src (hrd.below two.out.below))
      have hseen := Lib.hid (l3seen_any B _ D (m : Int) wr (hr'.out.below two.out.below) (hB'.out.below two.out.below))
      have hsk := Lib.hid (fun hs => st.out.mutSkip (r := r) hs)
      have had := Lib.hid (fun hs => st.out.mutAdd hmr h6 hs)
      have hll := st.out.len
      have h6' := Lib.hid h6
      clear xm0 hrd xr hmr hrl h6
      go_wp2_with fail
      refine hseen.out.mono ?_
      rintro e w2 ⟨hq, rfl⟩
      replace hq := hq.elim
      clear hseen
      rcases hq with ⟨hq, rfl⟩ | ⟨hq, rfl⟩
      · have st2 := Lib.hid (had.out hq)
        clear hq hsk had
        go_wp2_with (at_builtin; refine wpList_appQ rfl (.tmp 37) (.tmp 45) rfl rfl two.out.que ar r.length cr r rfl rfl src.out (by have := h6'.out; omega) two.out.below.size ?_; intro v6 w6 q6 g6 f6)
        have two6 := Lib.hid (two.out.app g6 q6 f6)
        clear q6 g6 f6 g5 xm
        go_wp2_with fail
        go_roundw
        case rel => exact ⟨m + 1, L ++ r, by omega, by go_num, st2, two6⟩
        case measure => simp [Go.RowKit.intOf]; omega
      · have st2 := Lib.hid (hsk.out hq)
        clear hq hsk had
        go_wp2_with fail
        go_roundw
        case rel => exact ⟨m + 1, L, by omega, by go_num, st2, two⟩
        case measure => simp [Go.RowKit.intOf]; omega
    obtain rfl : m = D.muts.length := by omega
    clear hlt hm
    obtain ⟨au, cu, hu⟩ := own_slice two.out.own
    subst hu
    go_wp2_with fail
    clear g5
    go_loopw [3, 4, 6] (fun u v k wr => ∃ (k' : Nat) (K L : List Int), k' ≤ D.spans.length ∧ k = .int .i64 k' ∧ Hid (KeepSt D D.muts.length k' 0 K L) ∧ Hid (TwoL w wr u v K L)) (fun _ _ k _ => D.spans.length - (Go.RowKit.intOf k).toNat)
    case atStart => exact ⟨0, K, L, Nat.zero_le _, rfl, st, two⟩
    case round =>
      clear st two
      obtain ⟨k, K, L, hk, rfl, st, two⟩ := hrel
      have g4 := hf4.out _ two.out.below
      obtain ⟨au, cu, hu⟩ := own_slice two.out.own
      obtain ⟨av, cv, hv⟩ := two.out.que.shape
      subst hu hv
      by_cases hlt : k < D.spans.length
      · obtain ⟨s, hks⟩ : ∃ s, D.spans[k]? = some s := ⟨_, List.getElem?_eq_getElem hlt⟩
        have hks' := Lib.hid hks
        have hlt1 : (k : Int) < (D.spans.length : Int) := by omega
        obtain ⟨b1, o1, rfl, vl, vp, x0, x1, x2, x3, x4, x5, ⟨al, cl, rfl, hll, _⟩, _⟩ := (hr'.out.below two.out.below).parts.2.2.1.at_ k s hks
        unfold maxLen at hll
        have A := Lib.hid (hF'.out.span k s hks)
        have hl16 : s.lens.length ≤ 16 := by have := A.out.lens; have := (sl_bd s.cls).2; omega
        clear hks x0 x1 x2 x3 x5
        go_wp2_with fail
        clear x4 g4
        go_loopw [3, 4, 7] (fun u v j wj => ∃ (j' : Nat) (K L : List Int), j' ≤ s.lens.length ∧ j = .int .i64 j' ∧ Hid (KeepSt D D.muts.length k j' K L) ∧ Hid (TwoL w wj u v K L)) (fun _ _ j _ => s.lens.length - (Go.RowKit.intOf j).toNat)
        case atStart => exact ⟨0, K, L, Nat.zero_le _, rfl, st, two⟩
        case round =>
          clear st two
          obtain ⟨j, K, L, hj, rfl, st, two⟩ := hrel
          have hB := Lib.hid two.out.below
          have g4 := hf4.out _ hB.out
          obtain ⟨au, cu, hu⟩ := own_slice two.out.own
          obtain ⟨av, cv, hv⟩ := two.out.que.shape
          subst hu hv
          obtain ⟨b1', o1', he, vl', vp', x0, x1, x2, x3, x4, x5, ⟨al', cl', rfl, _, xl⟩, _⟩ := (hr'.out.below hB.out).parts.2.2.1.at_ k s hks'.out
          obtain ⟨rfl, rfl⟩ : b1 = b1' ∧ o1 = o1' := by simpa using he
          clear he x0 x1 x2 x3 x5
          by_cases hjl : j < s.lens.length
          · have hj1 : (j : Int) < (s.lens.length : Int) := by omega
            obtain ⟨bl, ol, rfl, xj⟩ := xl j hjl
            clear xl
            have hS := (A.out.slot j hjl)
            have hlen := st.out.len
            have hkl := st.out.klen hF'.out
            have hmk := Lib.hid (smarked_any B _ D k j s hks'.out (by omega) _ (hr'.out.below hB.out) (hB'.out.below hB.out))
            have hsk := Lib.hid (fun h => st.out.skip hks'.out h)
            have hob := Lib.hid (show 0 < s.lens[j]?.getD 0 → IsObj D (D.base + atW s (j : Int)) k j from fun hl => ⟨s, hks'.out, hjl, hl, rfl⟩)
            have hin := hF'.out.slotIn hks'.out hjl
            have hpt := Lib.hid (fun (w' : World) (hb : Below w.heap.size w w') => sptrs_any B _ D k j s hks'.out hin hS.p0 (by have := hS.p1; have := hS.l1; omega) w' (hr'.out.below hb) (hB'.out.below hb))
            have hg := hF'.out.geo
            have hsp := A.out
            have had := Lib.hid (fun (w' : World) (hb : Below w.heap.size w w') => addr_any B _ D k j s hks'.out hsp.pg0 (by have := hsp.pg1; have := hg.2.2.2.2.1; omega) (by omega) (by have := hg.1; omega) hg.2.1 w' (hr'.out.below hb) (hB'.out.below hb))
            clear hS hin hg hsp
            generalize s.lens[j]?.getD 0 = l at *
            by_cases hl : 0 < l
            case neg =>
              have hn := Lib.hid (hsk.out fun h => hl h.1)
              go_wp2_with fail
              go_roundw
              case rel => exact ⟨j + 1, K, L, by omega, by go_num, hn, two⟩
              case measure => simp [Go.RowKit.intOf]; omega
            have ho := Lib.hid (hob.out hl)
            clear hob
            go_wp2_with fail
            refine hmk.out.mono ?_
            rintro e w3 ⟨hq, b3⟩
            replace hq := hq.elim
            have two3 := Lib.hid (two.out.next b3)
            clear b3 hmk two g4 x4 xj
            rcases hq with ⟨hq, rfl⟩ | ⟨hq, rfl⟩
            case inr =>
              have hn := Lib.hid (hsk.out fun h => hq h.2)
              clear hq
              go_wp2_with fail
              go_roundw
              case rel => exact ⟨j + 1, K, L, by omega, by go_num, hn, two3⟩
              case measure => simp [Go.RowKit.intOf]; omega
            have hq' := Lib.hid hq
            have had3 := Lib.hid (had.out w3 two3.out.below)
            clear hq hsk
            go_wp2_with fail
            refine had3.out.mono ?_
            rintro e w4 ⟨rfl, b4⟩
            have two4 := Lib.hid (two3.out.next b4)
            have hput := Lib.hid (sput_fresh w.heap.size _ K (D.base + atW s (j : Int)) st.out.asc (by omega) w4 two4.out.below.size two4.out.own)
            clear b4 had3
            go_wp2_with fail
            refine hput.out.mono ?_
            rintro e w5 ⟨u', K2, hp, rfl, hown, hfr, b5⟩
            have two5 := Lib.hid (two4.out.put b5 hown hfr)
            obtain ⟨a', c', hu'⟩ := own_slice hown
            subst hu'
            have st2 := Lib.hid (st.out.add hF'.out hks'.out ho.out hq'.out hp)
            have hpt5 := Lib.hid (hpt.out w5 two5.out.below)
            have hz16 := nz_len16 hF'.out ho.out hks'.out
            clear hp hown hfr b5 hput
            generalize nz (ptrW D s j) = Z at *
            go_wp2_with (first
              | (go_at_call 122; refine hpt5.out.mono ?_; rintro e w6 ⟨u6, rfl, h6, b6⟩; obtain ⟨a6, c6, hu6⟩ := own_slice h6; subst hu6; have two6 := Lib.hid (two5.out.next b6); have src6 := Lib.hid (Rd.src (Rd.of_owns h6)); clear h6 b6)
              | (at_builtin; refine wpList_appQ rfl (.tmp 93) (.tmp 97) rfl rfl two6.out.que a6 Z.length c6 Z rfl rfl src6.out (by omega) two6.out.below.size ?_; intro v7 w7 q7 g7 f7))
            have two7 := Lib.hid (two6.out.app g7 q7 f7)
            clear q7 g7 f7
            go_wp2_with fail
            go_roundw
            case rel => exact ⟨j + 1, K2, L ++ Z, by omega, by go_num, st2, two7⟩
            case measure => simp [Go.RowKit.intOf]; omega
          obtain rfl : j = s.lens.length := by omega
          have hn := Lib.hid (st.out.next hks'.out hl16)
          clear xl
          go_wp2_with fail
          go_roundw
          case rel => exact ⟨k + 1, K, L, by omega, by go_num, hn, two⟩
          case measure => simp [Go.RowKit.intOf]; omega
      obtain rfl : k = D.spans.length := by omega
      have hdone := Lib.hid (st.out.done e0'.out e4'.out)
      clear hlt hk
      have hrL := Lib.hid (OwnQ.rd two.out.que)
      obtain ⟨aL, cL, hLe, hLl, hLx⟩ := OwnQ.rd two.out.que
      obtain ⟨rfl, rfl⟩ : av = aL ∧ cv = cL := by simpa using hLe
      have hLx' := Lib.hid hLx
      unfold maxLen at hLl
      have hbw := Lib.hid two.out.below
      have hrK := Lib.hid (Rd.of_owns two.out.own)
      clear hLe hLx two st
      go_wp2_with fail
      clear g4
      go_loopw [8] (fun i wj => ∃ i' : Nat, i' ≤ L.length ∧ i = .int .i64 i' ∧ Hid (∀ a, a ∈ L.take i' → a = 0 ∨ a ∈ K) ∧ Hid (Below wr.heap.size wr wj)) (fun i _ => L.length - (Go.RowKit.intOf i).toNat)
      case atStart => exact ⟨0, Nat.zero_le _, rfl, Lib.hid (fun a ha => by simp at ha), Lib.hid (Below.refl _ _)⟩
      case round =>
        obtain ⟨i, hi, rfl, hok, hb⟩ := hrel
        by_cases hlt : i < L.length
        · have hlt1 : (i : Int) < (L.length : Int) := by omega
          obtain ⟨bL, oL, rfl, y0⟩ := hLx'.out i hlt
          have y1 := cell_below hb.out y0
          have hyes := Lib.hid (show (L[i]?.getD 0 = 0 ∨ L[i]?.getD 0 ∈ K) → ∀ a, a ∈ L.take (i + 1) → a = 0 ∨ a ∈ K from fun h a ha => by
            rw [take_one hlt] at ha
            rcases List.mem_append.1 ha with m | m
            · exact hok.out a m
            · rw [List.mem_singleton.1 m]; exact h)
          have hnot := Lib.hid (show ¬ (L[i]?.getD 0 = 0 ∨ L[i]?.getD 0 ∈ K) → ¬ KeptRight D from fun h h2 => h (hdone.out.2 h2 _ (by rw [List.getElem?_eq_getElem hlt]; exact List.getElem_mem hlt)))
          clear y0
          generalize L[i]?.getD 0 = x at *
          have hhas := Lib.hid (shas_any _ x K _ (hrK.out.below hb.out))
          by_cases hz : x = 0
          · have hn := Lib.hid (hyes.out (.inl hz))
            subst hz
            go_wp2_with fail
            go_roundw
            case rel => exact ⟨i + 1, by omega, by go_num, hn, hb⟩
            case measure => simp [Go.RowKit.intOf]; omega
          have hzb : (x != 0) = true := bne_iff_ne.2 hz
          have hz' := Lib.hid hz
          clear hz
          go_wp2_with fail
          refine hhas.out.mono ?_
          rintro e w2 ⟨hq, rfl⟩
          replace hq := hq.elim
          rcases hq with ⟨hq, rfl⟩ | ⟨hq, rfl⟩
          · have hn := Lib.hid (hyes.out (.inr hq))
            clear hq
            go_wp2_with fail
            go_roundw
            case rel => exact ⟨i + 1, by omega, by go_num, hn, hb⟩
            case measure => simp [Go.RowKit.intOf]; omega
          · have n := Lib.hid (IsB.no (hnot.out fun h => h.elim hz'.out hq))
            clear hq
            go_wp2_with fail
            go_ret
            exact ⟨n.out, below_trans hbw.out hb.out⟩
        obtain rfl : i = L.length := by omega
        have n := Lib.hid (IsB.yes (P := KeptRight D) (hdone.out.1 (by simpa using hok.out)))
        go_wp2_with fail
        go_ret
        exact ⟨n.out, below_trans hbw.out hb.out⟩
end Go.Proofs.YtdhiablpobnhcaaGreat

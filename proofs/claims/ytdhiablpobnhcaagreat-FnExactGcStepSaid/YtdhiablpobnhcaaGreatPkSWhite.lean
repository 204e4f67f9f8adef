import Derived.Test.YtdhiablpobnhcaaGreatPkQ

/-
  The model's l3white.
-/
namespace Go.Proofs.YtdhiablpobnhcaaGreat
open Go.RowKit
set_option linter.unusedVariables false
set_option linter.unusedSimpArgs false

/-- All pointers of the objects at the first m addresses of Grey. -/
def greyPtrs (D : WD) : List Int → List Int → Prop := fun L fr => fr.length ≤ 16 * L.length ∧ (∀ b, HasObj D b → (b ∈ fr ↔ PtrsOf D L b)) ∧ ∀ b, b ∈ fr → b ≠ 0
theorem greyPtrs.nil (D : WD) : greyPtrs D [] [] := ⟨by simp, fun b _ => ⟨fun h => by simp at h, fun ⟨a, _, _, _, h, _⟩ => by simp at h⟩, fun b h => by simp at h⟩
theorem greyPtrs.snoc {D : WD} {L fr : List Int} {x : Int} {k j : Nat} {s : SpanD} (hF : HeapForm D) (h : greyPtrs D L fr) (ho : IsObj D x k j) (hs : D.spans[k]? = some s) : greyPtrs D (L ++ [x]) (fr ++ nz (ptrW D s j)) := by
  have hl := nz_len16 hF ho hs
  refine ⟨by have := h.1; simp only [List.length_append, List.length_cons, List.length_nil]; omega, fun b hb => ?_, fun b hb => ?_⟩
  · rw [List.mem_append, h.2.1 b hb, nz_mem (obj_ne hF hb)]
    constructor
    · rintro (⟨a, k', j', s', ha, h1, h2, h3⟩ | hm)
      · exact ⟨a, k', j', s', List.mem_append.2 (.inl ha), h1, h2, h3⟩
      · exact ⟨x, k, j, s, by simp, ho, hs, hm⟩
    · rintro ⟨a, k', j', s', ha, h1, h2, h3⟩
      rcases List.mem_append.1 ha with ha | ha
      · exact .inl ⟨a, k', j', s', ha, h1, h2, h3⟩
      · obtain rfl := List.mem_singleton.1 ha
        obtain ⟨rfl, rfl⟩ := h1.unique hF ho
        rw [hs] at h2
        cases h2
        exact .inr h3
  · rcases List.mem_append.1 hb with hb | hb
    · exact h.2.2 b hb
    · exact (nz_mem_iff.1 hb).2
set_option maxRecDepth 100000 in
set_option maxHeartbeats 8000000 in
theorem swhite_any (B : Nat) (v : Value) (D : WD) (hF : HeapForm D) (hg : ∀ a, a ∈ D.grey → HasObj D a) (hgl : D.grey.length ≤ 384) (w : World) (hr : RdW w v D) (hB : BoxW w B v) :
    Calls Tryz.prog 136 #[.pointer (some ⟨B, 0, none⟩)] w fun e w' => ∃ L u, Hid (Asc L ∧ ∀ a, a ∈ L ↔ Coming D a) ∧ e = .returned u ∧ w'.ownsRow w.heap.size 3 1 u L.length (L.map (Value.int .i64)) ∧ Below w.heap.size w w' := by
  have hr' := Lib.hid hr
  have hB' := Lib.hid hB
  have hF' := Lib.hid hF
  have hg' := Lib.hid hg
  obtain ⟨vw, vd, vs, vm, vg, rfl, a1, a2, a3, a4, a5⟩ := hr
  obtain ⟨ag, cg, rfl, hgm, xg⟩ := a5
  have xg' := Lib.hid xg
  have G8 := Lib.hid (fun (w' : World) (hb : Below w.heap.size w w') => cell_below hb (hB.cell 8 (.slice ag D.grey.length cg) rfl))
  clear a1 a2 a3 a4 xg hB hF hg hgm
  go_enter Tryz.func136, Tryz.ntmps136
  go_wp2_with fail
  go_loopw [4, 5] (fun v i wr => ∃ (m : Nat) (fr : List Int), m ≤ D.grey.length ∧ i = .int .i64 m ∧ Hid (greyPtrs D (D.grey.take m) fr) ∧ Hid (wr.ownsRow w.heap.size 3 1 v fr.length (fr.map (Value.int .i64))) ∧ Hid (Below w.heap.size w wr)) (fun _ i _ => D.grey.length - (Go.RowKit.intOf i).toNat)
  case atStart => exact ⟨0, [], Nat.zero_le _, rfl, Lib.hid (by simpa using greyPtrs.nil D), Lib.hid (World.ownsRow_nil _ _ _ _), Lib.hid (Below.refl _ _)⟩
  case round =>
    obtain ⟨m, fr, hm, rfl, hfr, hown, hb⟩ := hrel
    have g8 := G8.out _ hb.out
    have hfl := hfr.out.1
    rw [List.length_take] at hfl
    by_cases hlt : m < D.grey.length
    · have hlt1 : (m : Int) < (D.grey.length : Int) := by omega
      obtain ⟨bg, og, rfl, x0⟩ := xg'.out m hlt
      have x1 := cell_below hb.out x0
      have hmem := Lib.hid (show HasObj D (D.grey[m]?.getD 0) from hg'.out _ (by rw [List.getElem?_eq_getElem hlt]; exact List.getElem_mem hlt))
      have hfind := Lib.hid (find_at B _ D hF'.out (D.grey[m]?.getD 0) wr (hr'.out.below hb.out) (hB'.out.below hb.out))
      have ht1 := Lib.hid (take_one hlt)
      clear x0
      generalize D.grey[m]?.getD 0 = x at *
      obtain ⟨au, cu, hu⟩ := own_slice hown.out
      subst hu
      go_wp2_with fail
      refine hfind.out.mono ?_
      rintro e w1 ⟨⟨r, q, rfl, hq⟩, b1⟩
      have hb1 := Lib.hid (below_trans hb.out b1)
      have hown1 := Lib.hid (own_below hown.out b1)
      clear b1 hfind g8 x1 hown hb
      rcases hq with ⟨k, j, _, ho, rfl, rfl⟩ | ⟨hn, rfl, rfl⟩
      case inr => exact absurd hmem.out (HasObj.no (hn hF'.out))
      obtain ⟨s, hks, hin, p0, p1⟩ := obj_slot hF'.out ho
      have hpt := Lib.hid (sptrs_any B _ D k j s hks hin p0 p1 w1 (hr'.out.below hb1.out) (hB'.out.below hb1.out))
      have hnx := Lib.hid (show greyPtrs D (D.grey.take (m + 1)) (fr ++ nz (ptrW D s j)) by rw [ht1.out]; exact hfr.out.snoc hF'.out ho hks)
      have hpl := nz_len16 hF'.out ho hks
      clear ho hks hin p0 p1 hmem ht1
      generalize nz (ptrW D s j) = Z at *
      go_wp2_with (first
        | (go_at_call 122; refine hpt.out.mono ?_; rintro e w5 ⟨u4, rfl, h4, b5⟩; obtain ⟨a4, c4, hu4⟩ := own_slice h4; subst hu4; have own5 := Lib.hid (own_below hown1.out b5); have src5 := Lib.hid (Rd.src (Rd.of_owns h4)); have hb5 := Lib.hid (below_trans hb1.out b5); clear h4 b5)
        | (at_builtin; refine wpList_app rfl (.tmp 34) (.tmp 38) 23 rfl w.heap.size 3 (.int .i64 0) 1 8 Tryz.underlying23 infoInt rfl (by decide) _ fr.length _ rfl own5.out a4 Z.length c4 (Z.map (Value.int .i64)) rfl src5.out (by unfold maxLen; omega) (by omega) hb5.out.size ?_; intro v6 w6 o6 g6))
      have hb6 := Lib.hid (row_below hb5.out own5.out g6 hb5.out.size)
      have o6' := Lib.hid (show w6.ownsRow w.heap.size 3 1 v6 (fr ++ Z).length ((fr ++ Z).map (Value.int .i64)) by simpa using o6)
      clear o6 g6
      go_wp2_with fail
      go_roundw
      case rel => exact ⟨m + 1, fr ++ Z, by omega, by go_num, hnx, o6', hb6⟩
      case measure => simp [Go.RowKit.intOf]; omega
    obtain rfl : m = D.grey.length := by omega
    have hfr2 := Lib.hid (show greyPtrs D D.grey fr by simpa using hfr.out)
    have hfl2 : fr.length ≤ 1048576 := by omega
    obtain ⟨au, cu, hu⟩ := own_slice hown.out
    subst hu
    have two := Lib.hid (show TwoL w wr (.slice none 0 0) (.slice au fr.length cu) [] fr from ⟨World.ownsRow_nil _ _ _ _, .of_row hown.out, fun q hq => by simp [Value.ownBlock] at hq, hb.out⟩)
    clear hfr hlt hm hfl
    go_wp2_with fail
    clear g8 hown hb
    go_loopw [3, 4] (fun u v wr => ∃ S T : List Int, Hid (GoSt D (fun k j => ¬ MarkedP D k j) fr S T) ∧ Hid (Asc S) ∧ Hid (T.length ≤ fr.length + 16 * S.length) ∧ Hid (TwoL w wr u v S T)) (fun u v _ => lenV v + 17 * (384 - lenV u))
    case atStart => exact ⟨[], fr, Lib.hid (GoSt.zero _ _ _), Lib.hid List.Pairwise.nil, Lib.hid (by simp), two⟩
    case round =>
      clear two
      obtain ⟨S, T, st, asc, len, two⟩ := hrel
      obtain ⟨au, cu, hu⟩ := own_slice two.out.own
      rcases T with _ | ⟨x, T⟩
      · obtain ⟨av, cv, hv⟩ := two.out.que.shape
        subst hu hv
        go_wp2_with fail
        go_ret
        exact ⟨S, _, Lib.hid ⟨asc.out, fun a => (st.out.done a).trans (Coming.of_led hfr2.out.2.1 a)⟩, rfl, two.out.own, two.out.below⟩
      obtain ⟨g, o, cap, hv, x0, hcap, hcm, htail⟩ := two.out.que.cons
      subst hu hv
      have hw := two.out.below
      have hlenS : S.length ≤ 384 := st.out.len hF'.out
      have hl := len.out
      simp only [List.length_cons] at hl
      have hpos : (0 : Int) < ((T.length + 1 : Nat) : Int) := by omega
      have hmem := Lib.hid (show ∀ a, a ∈ x :: T ↔ a = x ∨ a ∈ T from fun a => List.mem_cons)
      have hfind := Lib.hid (find_at B _ D hF'.out x wr (hr'.out.below hw) (hB'.out.below hw))
      have two' := Lib.hid (fun (o' : Nat) ho' => two.out.tail (htail o' ho') rfl)
      have hcm' : cap ≤ 9223372036854775807 := by unfold maxLen at hcm; omega
      clear htail hw two hcm len
      by_cases hc : cap = 1
      · subst hc
        obtain rfl : T = [] := List.length_eq_zero_iff.1 (by omega)
        have two : Hid (TwoL w wr (.slice au S.length cu) (.slice (some ⟨g, o, none⟩) 0 0) S []) := Lib.hid (two'.out o (.inr ⟨rfl, rfl⟩))
        clear two'
        go_wp2_with fail
        refine hfind.out.mono ?_
        rintro e w1 ⟨⟨r, q, rfl, hq⟩, b1⟩
        have two1 := Lib.hid (two.out.next b1)
        clear b1 hfind two
        have hq := Lib.hid hq
        have hhas := Lib.hid (shas_any (.slice au S.length cu) x S w1 (Rd.of_owns two1.out.own))
        go_wp2_with fail
        refine hhas.out.mono ?_
        rintro e w2 ⟨hm, rfl⟩
        replace hm := hm.elim
        rcases hm with ⟨hm, rfl⟩ | ⟨hm, rfl⟩
        · have st2 := Lib.hid (st.out.skip hmem.out (.inr hm))
          clear hm
          go_wp2_with fail
          go_roundw
          case rel => exact ⟨S, [], st2, asc, Lib.hid (by omega), two1⟩
          case measure => simp only [lenV, List.length_nil]; omega
        have hm := Lib.hid hm
        rcases hq.out with ⟨k, j, _, ho, rfl, rfl⟩ | ⟨hn, rfl, rfl⟩
        case inr =>
          have st2 := Lib.hid (st.out.skip hmem.out (.inl (HasObj.no (hn hF'.out))))
          clear hn
          go_wp2_with fail
          go_roundw
          case rel => exact ⟨S, [], st2, asc, Lib.hid (by omega), two1⟩
          case measure => simp only [lenV, List.length_nil]; omega
        obtain ⟨s, hks, hin, p0, p1⟩ := obj_slot hF'.out ho
        have ho' := Lib.hid ho
        have hks' := Lib.hid hks
        have hin' := Lib.hid hin
        have p0' := Lib.hid p0
        have p1' := Lib.hid p1
        clear ho hks hin p0 p1
        have hput := Lib.hid (sput_fresh w.heap.size _ S x asc.out (by omega) w1 two1.out.below.size two1.out.own)
        go_wp2_with fail
        refine hput.out.mono ?_
        rintro e w3 ⟨u', S', hp, rfl, hown, hfr, b3⟩
        have two3 := Lib.hid (two1.out.put b3 hown hfr)
        obtain ⟨a', c', hu'⟩ := own_slice hown
        subst hu'
        have hsl := Lib.hid (PutIs.len' st.out.nodup hm.out hp)
        have hpl := nz_len16 hF'.out ho'.out hks'.out
        have hnod := Lib.hid hp.1.nodup
        have hasc := Lib.hid hp.1
        have hS := Lib.hid hp.2.1
        clear hown hfr b3 hhas hput hp
        have hmk := Lib.hid (smarked_any B _ D k j s hks'.out (by have := hin'.out.bd; omega) w3 (hr'.out.below two3.out.below) (hB'.out.below two3.out.below))
        go_wp2_with fail
        refine hmk.out.mono ?_
        rintro e w4 ⟨hm2, b4⟩
        replace hm2 := hm2.elim
        have two4 := Lib.hid (two3.out.next b4)
        clear b4 hmk two3
        rcases hm2 with ⟨hm2, rfl⟩ | ⟨hm2, rfl⟩
        · have st2 := Lib.hid (st.out.put (T'' := []) hF'.out hmem.out ho'.out hks'.out hnod.out hS.out (fun hn => absurd hm2 hn) (fun _ => rfl))
          have h384 := st2.out.len hF'.out
          clear hm2
          go_wp2_with fail
          go_roundw
          case rel => exact ⟨S', [], st2, hasc, Lib.hid (by have := hsl.out; (try simp only [List.length_nil]); omega), two4⟩
          case measure => have := hsl.out; simp only [lenV, List.length_nil]; omega
        have st2 := Lib.hid (st.out.put (T'' := [] ++ nz (ptrW D s j)) hF'.out hmem.out ho'.out hks'.out hnod.out hS.out (fun _ b hb => by rw [List.mem_append, nz_mem (obj_ne hF'.out hb)]) (fun hn => absurd hm2 hn))
        have h384 := st2.out.len hF'.out
        have hpt := Lib.hid (sptrs_any B _ D k j s hks'.out hin'.out p0'.out p1'.out w4 (hr'.out.below two4.out.below) (hB'.out.below two4.out.below))
        clear hm2
        generalize nz (ptrW D s j) = Z at *
        go_wp2_with (first
          | (go_at_call 122; refine hpt.out.mono ?_; rintro e w5 ⟨u4, rfl, h4, b5⟩; obtain ⟨a4, c4, hu4⟩ := own_slice h4; subst hu4; have two5 := Lib.hid (two4.out.next b5); have src5 := Lib.hid (Rd.src (Rd.of_owns h4)); clear h4 b5)
          | (at_builtin; refine wpList_appQ rfl (.tmp 69) (.tmp 73) rfl rfl two5.out.que a4 Z.length c4 Z rfl rfl src5.out (by omega) two5.out.below.size ?_; intro v6 w6 q6 g6 f6))
        have two6 := Lib.hid (two5.out.app g6 q6 f6)
        obtain ⟨a6, c6, hv6⟩ := q6.shape
        subst hv6
        clear q6 g6 f6
        go_wp2_with fail
        go_roundw
        case rel => exact ⟨S', [] ++ Z, st2, hasc, Lib.hid (by have := hsl.out; simp only [List.length_append, List.length_nil]; omega), two6⟩
        case measure => simp only [lenV, List.length_append, List.length_nil]; (try have hsl2 := hsl.out); omega
      · have two := Lib.hid (two'.out (o + 1) (.inl rfl))
        clear two'
        go_wp2_with fail
        refine hfind.out.mono ?_
        rintro e w1 ⟨⟨r, q, rfl, hq⟩, b1⟩
        have two1 := Lib.hid (two.out.next b1)
        clear b1 hfind two
        have hq := Lib.hid hq
        have hhas := Lib.hid (shas_any (.slice au S.length cu) x S w1 (Rd.of_owns two1.out.own))
        go_wp2_with fail
        refine hhas.out.mono ?_
        rintro e w2 ⟨hm, rfl⟩
        replace hm := hm.elim
        rcases hm with ⟨hm, rfl⟩ | ⟨hm, rfl⟩
        · have st2 := Lib.hid (st.out.skip hmem.out (.inr hm))
          clear hm
          go_wp2_with fail
          go_roundw
          case rel => exact ⟨S, T, st2, asc, Lib.hid (by omega), two1⟩
          case measure => simp only [lenV, List.length_nil]; omega
        have hm := Lib.hid hm
        rcases hq.out with ⟨k, j, _, ho, rfl, rfl⟩ | ⟨hn, rfl, rfl⟩
        case inr =>
          have st2 := Lib.hid (st.out.skip hmem.out (.inl (HasObj.no (hn hF'.out))))
          clear hn
          go_wp2_with fail
          go_roundw
          case rel => exact ⟨S, T, st2, asc, Lib.hid (by omega), two1⟩
          case measure => simp only [lenV, List.length_nil]; omega
        obtain ⟨s, hks, hin, p0, p1⟩ := obj_slot hF'.out ho
        have ho' := Lib.hid ho
        have hks' := Lib.hid hks
        have hin' := Lib.hid hin
        have p0' := Lib.hid p0
        have p1' := Lib.hid p1
        clear ho hks hin p0 p1
        have hput := Lib.hid (sput_fresh w.heap.size _ S x asc.out (by omega) w1 two1.out.below.size two1.out.own)
        go_wp2_with fail
        refine hput.out.mono ?_
        rintro e w3 ⟨u', S', hp, rfl, hown, hfr, b3⟩
        have two3 := Lib.hid (two1.out.put b3 hown hfr)
        obtain ⟨a', c', hu'⟩ := own_slice hown
        subst hu'
        have hsl := Lib.hid (PutIs.len' st.out.nodup hm.out hp)
        have hpl := nz_len16 hF'.out ho'.out hks'.out
        have hnod := Lib.hid hp.1.nodup
        have hasc := Lib.hid hp.1
        have hS := Lib.hid hp.2.1
        clear hown hfr b3 hhas hput hp
        have hmk := Lib.hid (smarked_any B _ D k j s hks'.out (by have := hin'.out.bd; omega) w3 (hr'.out.below two3.out.below) (hB'.out.below two3.out.below))
        go_wp2_with fail
        refine hmk.out.mono ?_
        rintro e w4 ⟨hm2, b4⟩
        replace hm2 := hm2.elim
        have two4 := Lib.hid (two3.out.next b4)
        clear b4 hmk two3
        rcases hm2 with ⟨hm2, rfl⟩ | ⟨hm2, rfl⟩
        · have st2 := Lib.hid (st.out.put (T'' := T) hF'.out hmem.out ho'.out hks'.out hnod.out hS.out (fun hn => absurd hm2 hn) (fun _ => rfl))
          have h384 := st2.out.len hF'.out
          clear hm2
          go_wp2_with fail
          go_roundw
          case rel => exact ⟨S', T, st2, hasc, Lib.hid (by have := hsl.out; (try simp only [List.length_nil]); omega), two4⟩
          case measure => have := hsl.out; simp only [lenV, List.length_nil]; omega
        have st2 := Lib.hid (st.out.put (T'' := T ++ nz (ptrW D s j)) hF'.out hmem.out ho'.out hks'.out hnod.out hS.out (fun _ b hb => by rw [List.mem_append, nz_mem (obj_ne hF'.out hb)]) (fun hn => absurd hm2 hn))
        have h384 := st2.out.len hF'.out
        have hpt := Lib.hid (sptrs_any B _ D k j s hks'.out hin'.out p0'.out p1'.out w4 (hr'.out.below two4.out.below) (hB'.out.below two4.out.below))
        clear hm2
        generalize nz (ptrW D s j) = Z at *
        go_wp2_with (first
          | (go_at_call 122; refine hpt.out.mono ?_; rintro e w5 ⟨u4, rfl, h4, b5⟩; obtain ⟨a4, c4, hu4⟩ := own_slice h4; subst hu4; have two5 := Lib.hid (two4.out.next b5); have src5 := Lib.hid (Rd.src (Rd.of_owns h4)); clear h4 b5)
          | (at_builtin; refine wpList_appQ rfl (.tmp 69) (.tmp 73) rfl rfl two5.out.que a4 Z.length c4 Z rfl rfl src5.out (by omega) two5.out.below.size ?_; intro v6 w6 q6 g6 f6))
        have two6 := Lib.hid (two5.out.app g6 q6 f6)
        obtain ⟨a6, c6, hv6⟩ := q6.shape
        subst hv6
        clear q6 g6 f6
        go_wp2_with fail
        go_roundw
        case rel => exact ⟨S', T ++ Z, st2, hasc, Lib.hid (by have := hsl.out; simp only [List.length_append, List.length_nil]; omega), two6⟩
        case measure => simp only [lenV, List.length_append, List.length_nil]; (try have hsl2 := hsl.out); omega
end Go.Proofs.YtdhiablpobnhcaaGreat

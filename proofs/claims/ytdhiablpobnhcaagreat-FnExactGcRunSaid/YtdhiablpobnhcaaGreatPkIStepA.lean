import Derived.Test.YtdhiablpobnhcaaGreatPkIShade
import Derived.Test.YtdhiablpobnhcaaGreatPkH
import Derived.Test.YtdhiablpobnhcaaGreatPkISweep
import Derived.Test.YtdhiablpobnhcaaGreatPkIContains
import Derived.Test.YtdhiablpobnhcaaGreatPkCaps

/-
  The contracts of the program's shadeAll, scanLast and of the steps of its phases.
-/
namespace Go.Proofs.YtdhiablpobnhcaaGreat
open Go.RowKit
set_option linter.unusedVariables false
set_option linter.unusedSimpArgs false

theorem row_cells {w : World} {base size n : Nat} {e : TypeId} {v : Value} {xs : List Value} (h : w.ownsRow base e size v n xs) {q : Nat} (hq : v.ownBlock = some q) : ∃ cur, w.heap[q]? = some (.cells cur e (0, 0)) := by
  rcases h.2 with ⟨rfl, _⟩ | ⟨g, cap, cur, rfl, _, hh, _⟩
  · cases hq
  · cases hq
    exact ⟨cur, hh⟩
theorem OwnW.cells {w : World} {base : Nat} {S : Shape} {D : WD} (h : OwnW w base S D) {q : Nat} (hq : q ∈ blks S.all) : ∃ cur e, w.heap[q]? = some (.cells cur e (0, 0)) := by
  obtain ⟨x, hx, e⟩ := List.mem_filterMap.1 hq
  simp only [Shape.all, List.mem_append, List.mem_cons, List.not_mem_nil, or_false] at hx
  rcases hx with (((rfl | rfl) | (rfl | hx)) | (rfl | hx)) | rfl
  · exact (row_cells h.words e).imp fun _ h => ⟨_, h⟩
  · exact (row_cells h.dirty e).imp fun _ h => ⟨_, h⟩
  · exact (row_cells h.spans e).imp fun _ h => ⟨_, h⟩
  · obtain ⟨p, hp, hm⟩ := List.mem_flatMap.1 hx
    obtain ⟨i, hi⟩ := List.mem_iff_getElem?.1 hp
    have hl := (List.getElem?_eq_some_iff.1 hi).1
    have hs : D.spans[i]? = some (D.spans[i]'(by have := h.svl; omega)) := List.getElem?_eq_getElem _
    have hi2 := h.inner i _ p hs hi
    simp only [List.mem_cons, List.not_mem_nil, or_false] at hm
    rcases hm with rfl | rfl
    · exact (row_cells hi2.1 e).imp fun _ h => ⟨_, h⟩
    · exact (row_cells hi2.2 e).imp fun _ h => ⟨_, h⟩
  · exact (row_cells h.muts e).imp fun _ h => ⟨_, h⟩
  · obtain ⟨i, hi⟩ := List.mem_iff_getElem?.1 hx
    have hl := (List.getElem?_eq_some_iff.1 hi).1
    have hs : D.muts[i]? = some (D.muts[i]'(by have := h.mvl; omega)) := List.getElem?_eq_getElem _
    exact (row_cells (h.innerM i _ x hs hi) e).imp fun _ h => ⟨_, h⟩
  · exact (row_cells h.grey e).imp fun _ h => ⟨_, h⟩
/-- A view holds while objects are shaded. -/
theorem ViewIs.turn {D E : WD} {w w' : World} {V B g n base : Nat} {M : DataW Unit} {S S' : Shape} (hv : ViewIs D w V B g n M) (h : VarW w base B S D) (hs : Shaded w w' B S S') (hO : SameO D E) (hV : V ∉ B :: blks S.all) : ViewIs E w' V B g n M ∧ V ∉ B :: blks S'.all := by
  have hlt : V < w.heap.size := (Array.getElem?_eq_some_iff.1 hv.box).1
  obtain ⟨es, clock, hb, F, hsz, hD⟩ := hv.own
  have hgl : g < w.heap.size := (Array.getElem?_eq_some_iff.1 hb).1
  have hg : g ∉ B :: blks S.all := fun hm => by
    rcases List.mem_cons.1 hm with rfl | hm
    · have := h.box.symm.trans hb
      simp at this
    · obtain ⟨cur, e, hc⟩ := h.own.cells hm
      have := hc.symm.trans hb
      simp at this
  refine ⟨⟨(hs.chg.block V hlt hV).trans hv.box, ⟨es, clock, (hs.chg.block g hgl hg).trans hb, F, hsz, hD⟩, ⟨hv.is.isMap, fun a => ?_, fun a k j z ha ho => hv.is.is a k j z (by rw [← hO.len]; exact ha) (hO.obj_iff.1 ho)⟩⟩, fun hm => ?_⟩
  · rw [hv.is.has a, hO.len]
    exact ⟨fun ⟨k, j, h1, h2⟩ => ⟨k, j, h1, hO.obj h2⟩, fun ⟨k, j, h1, h2⟩ => ⟨k, j, h1, hO.obj_iff.1 h2⟩⟩
  · obtain ⟨v, rfl, hvg⟩ := hs.vg
    rcases List.mem_cons.1 hm with rfl | hm
    · exact hV (by simp)
    · rcases Shape.all_vg hm with hm | hm
      · exact hV (List.mem_cons_of_mem _ hm)
      · rcases hvg V hm with hm | hm
        · exact hV (List.mem_cons_of_mem _ (List.mem_filterMap.2 ⟨S.vg, by simp [Shape.all], hm⟩))
        · omega
theorem zero_noObj {D : WD} (hF : HeapForm D) {k j : Nat} : ¬ IsObj D 0 k j := fun h => by
  have := h.range hF
  have := hF.geo.1
  omega
theorem ShadeIs.zero {D E : WD} (hF : HeapForm D) (h : ShadeIs D 0 E) : E = D := by
  rcases h with ⟨k, j, s, _, ho, _⟩ | ⟨_, rfl⟩
  · exact absurd ho (zero_noObj hF)
  · rfl
theorem shades_nz {D E : WD} {L : List Int} (h : ShadesIs D L E) (hF : HeapForm D) : ShadesIs D (nz L) E := by
  induction h with
  | nil D => exact .nil D
  | @cons D E F a L h1 h2 ih =>
    by_cases e : a = 0
    · subst e
      obtain rfl := h1.zero hF
      have := ih hF
      unfold nz at this ⊢
      simpa using this
    · have := ih (h1.form hF)
      have e2 : nz (a :: L) = a :: nz L := by unfold nz; simp [e]
      rw [e2]
      exact .cons h1 this

/-- What holds in the loop of shadeAll. -/
structure IAll (base B V g n : Nat) (M : DataW Unit) (S : Shape) (D : WD) (w : World) (L : List Int) (wr : World) (S' : Shape) (E : WD) : Prop where
  st : AllSt base B S D w L wr S' E
  vw : ViewIs E wr V B g n M
  ne : V ∉ B :: blks S'.all

set_option maxRecDepth 100000 in
set_option maxHeartbeats 4000000 in
theorem ishadeAll_any (base B V g n : Nat) (M : DataW Unit) (S : Shape) (D : WD) (Z : List Int) (a : Option Addr) (c : Nat) (hG : Going D) (hZ : AllI Z) (hzl : Z.length ≤ 1000) (w : World) (h : VarW w base B S D) (hv : ViewIs D w V B g n M) (hVB : V ∉ B :: blks S.all)
    (hrd : ∀ (w' : World) (S' : Shape) (E : WD), VarW w' base B S' E → Shaded w w' B S S' → E.muts = D.muts → Rd w' (.slice a Z.length c) Z) :
    Calls Tryz.prog 237 #[.pointer (some ⟨V, 0, none⟩), .slice a Z.length c] w fun e w' => e = .returned (.tuple #[]) ∧ (∃ S' E, AllSt base B S D w Z w' S' E) := by
  have hG' := Lib.hid hG
  have hZ' := Lib.hid hZ
  have hrd' := Lib.hid hrd
  have st0 := Lib.hid (show IAll base B V g n M S D w [] w S D from ⟨⟨.nil _, h, .of_below _ _ (Below.refl _ _), Below.refl _ _⟩, hv, hVB⟩)
  clear hG hZ h hv hVB hrd
  go_enter Tryz.func237, Tryz.ntmps237
  go_wp2_with fail
  go_loopw [8] (fun i wr => ∃ (k : Nat) (S' : Shape) (E : WD), k ≤ Z.length ∧ i = .int .i64 k ∧ Hid (IAll base B V g n M S D w (Z.take k) wr S' E)) (fun i _ => Z.length - (Go.RowKit.intOf i).toNat)
  case atStart => exact ⟨0, S, D, Nat.zero_le _, rfl, st0⟩
  case round =>
    obtain ⟨k, S', E, hk, rfl, st⟩ := hrel
    have hgo := Lib.hid (st.out.st.is.going (fun x hx => hZ'.out x (List.mem_of_mem_take hx)) hG'.out)
    by_cases hlt : k < Z.length
    · obtain ⟨a', c', he, hll, xl⟩ := hrd'.out wr S' E st.out.st.var st.out.st.sh hgo.out.2.2.1
      obtain ⟨b, o, rfl, xj⟩ := xl k hlt
      obtain ⟨rfl, rfl⟩ : some (⟨b, o, none⟩ : Addr) = a ∧ c' = c := by simp at he; exact ⟨he.1.symm, he.2.symm⟩
      have hlt1 : (k : Int) < (Z.length : Int) := by omega
      have hxk : Z[k]?.getD 0 = Z[k] := by simp [hlt]
      have nx := Lib.hid (show Z.take (k + 1) = Z.take k ++ [Z[k]?.getD 0] by rw [hxk]; exact List.take_succ_eq_append_getElem hlt)
      have hcall := Lib.hid (ishade_any base B V g n M S' E (Z[k]?.getD 0) hgo.out.1.form (hZ'.out _ (by rw [hxk]; exact List.getElem_mem hlt)) (by have := hgo.out.1.greyLen; omega) wr st.out.st.var st.out.vw st.out.ne)
      clear he xl hll hxk
      generalize Z[k]?.getD 0 = x at *
      go_wp2_with fail
      refine hcall.out.mono ?_
      rintro e w2 ⟨rfl, ⟨S2, E2, i2, v2, s2⟩, b2⟩
      have tn := st.out.vw.turn st.out.st.var s2 i2.same st.out.ne
      have st2 := Lib.hid (show IAll base B V g n M S D w (Z.take (k + 1)) w2 S2 E2 by rw [nx.out]; exact ⟨st.out.st.next i2 v2 s2 b2, tn.1, tn.2⟩)
      clear i2 v2 s2 b2 hcall st xj tn
      go_wp2_with fail
      go_roundw
      case rel => exact ⟨k + 1, S2, E2, by omega, by go_num, st2⟩
      case measure => simp [Go.RowKit.intOf]; omega
    · obtain rfl : k = Z.length := by omega
      have st2 := Lib.hid (show AllSt base B S D w Z wr S' E by have := st.out.st; rwa [List.take_length] at this)
      clear st hgo
      go_wp2_with fail
      go_end0
      exact ⟨rfl, S', E, st2.out⟩

set_option maxRecDepth 100000 in
set_option maxHeartbeats 4000000 in
theorem iscan_any (base B V g n : Nat) (M : DataW Unit) (S : Shape) (D : WD) (G : List Int) (a : Int) (k j : Nat) (s : SpanD) (hG : Going D) (hg : D.grey = G ++ [a]) (ho : IsObj D a k j) (hks : D.spans[k]? = some s) (w : World) (h : VarW w base B S D) (hv : ViewIs D w V B g n M) (hVB : V ∉ B :: blks S.all) :
    Calls Tryz.prog 234 #[.pointer (some ⟨V, 0, none⟩)] w fun e w' => e = .returned (.tuple #[]) ∧ (∃ S' E, ShadesIs { D with grey := G } (nz (ptrW D s j)) E ∧ VarW w' base B S' E) ∧ Below base w w' := by
  have h' := Lib.hid h
  have hG' := Lib.hid hG
  have hle := Lib.hid (Nat.le_of_lt (Nat.lt_of_le_of_lt h.le h.lt))
  have c0 := cell_of_heap hv.box 0 (.pointer (some ⟨B, 0, none⟩)) rfl
  obtain ⟨ag, cg, hvg⟩ := own_slice h.own.grey
  have g8 := h.cell 8 S.vg rfl
  rw [hvg] at g8
  have f8 := h.frz 8
  have hm : D.grey.length = G.length + 1 := by rw [hg]; simp
  have hgl := hG.greyLen
  obtain ⟨gg, cg', hgg⟩ := head_of h.own.grey (by omega)
  obtain ⟨rfl, rfl⟩ : ag = some ⟨gg, 0, none⟩ ∧ cg = cg' := by have := hvg.symm.trans hgg; simpa using this
  have hcap : G.length + 1 ≤ cg := by have hr := h.own.grey; rw [hvg] at hr; have := row_capV hr; omega
  have hxa := (ints_cell h.own.grey hvg G.length (by omega)).1
  rw [show D.grey[G.length]?.getD 0 = a by rw [hg]; simp] at hxa
  have hVlt : V < w.heap.size := (Array.getElem?_eq_some_iff.1 hv.box).1
  have v2 := h.cutGrey hg hvg
  have hsd : Shaded w (w.setCell ⟨B, 8, none⟩ (.slice (some ⟨gg, 0, none⟩) G.length cg)) B S { S with vg := .slice (some ⟨gg, 0, none⟩) G.length cg } :=
    ⟨⟨_, rfl, fun q hq => .inl (by rw [hvg]; simpa [Value.ownBlock] using hq)⟩, Chg.of_grown (grown_set w B 8 _) (by simp)⟩
  have hO : SameO D { D with grey := G } := ⟨rfl, rfl, rfl, fun k s t h1 h2 => by rw [h1] at h2; cases h2; exact .refl _⟩
  have tn := hv.turn h hsd hO hVB
  have hai : I64 a := hG.ints.grey a (by rw [hg]; simp)
  obtain ⟨s', hks2, hin, p0, p1⟩ := obj_slot hG.form ho
  rw [hks] at hks2
  cases hks2
  have hpl := Lib.hid (show (nz (ptrW D s j)).length ≤ 16 from Nat.le_trans (List.length_filter_le _ _) (by unfold ptrW; rw [List.length_take]; have := (hin.bd).2.2.2.1; omega))
  have hcw : CapW (Shape.val { S with vg := .slice (some ⟨gg, 0, none⟩) G.length cg } { D with grey := G }) := OwnW.capWords v2.1.own
  have hptr := Lib.hid (vpointers_any V B g n M _ { D with grey := G } (grey_form hG.form G) a hai hcw _ v2.1.rd v2.1.boxW tn.1)
  have hPu := Lib.hid (show ∀ L, PtrIs { D with grey := G } a L → L = nz (ptrW D s j) from fun L hL => by
    rcases hL with ⟨k', j', s', _, ho', hs', rfl⟩ | ⟨hn, _⟩
    · obtain ⟨rfl, rfl⟩ := (hO.symm.obj ho').unique hG.form ho
      have hs2 : D.spans[k']? = some s' := hs'
      rw [hks] at hs2
      cases hs2
      rfl
    · exact absurd (hO.obj ho) (hn (grey_form hG.form G) k j))
  have hgo := Lib.hid (show Going { D with grey := G } from ⟨grey_form hG.form G, ⟨⟨fun e => hG.gc.1.1 (by rw [hg]; simp), GreyMarked.of hO (fun _ _ h => h) (by have g2 := hG.gc.1.2; rw [hg] at g2; exact ⟨(List.nodup_append.1 g2.1).1, fun b hb => g2.2 b (List.mem_append.2 (.inl hb))⟩)⟩, hG.gc.2.1, hG.gc.2.2⟩, ⟨hG.ints.words, hG.ints.muts, fun x hx => hG.ints.grey x (by rw [hg]; exact List.mem_append.2 (.inl hx))⟩⟩)
  have hwi := Lib.hid (nz_ints (ptrW_ints hG.ints.words s j))
  have v2' := Lib.hid v2.1
  have hB2 := Lib.hid v2.2
  have tn' := Lib.hid tn
  rw [hm] at g8
  have hgl' : G.length ≤ 1000 := by omega
  have hk1 : (G.length : Int) < (G.length : Int) + 1 := by omega
  have hk2 : (G.length : Int) ≤ (cg : Int) := by omega
  have hc0 : ¬ cg = 0 := by omega
  have hmi : (G.length : Int) + 1 - 1 = (G.length : Int) := by omega
  clear h hG hg ho hks hv hVB hvg hgg hm hgl hcap v2 hsd hO tn hai hin p0 p1 hcw
  go_enter Tryz.func234, Tryz.ntmps234
  go_wp2_with fail
  refine hptr.out.mono ?_
  rintro e w4 ⟨Z, u, hZ, rfl, hrow, b4⟩
  obtain rfl := hPu.out Z hZ
  obtain ⟨au, cu, rfl⟩ := own_slice hrow
  have v4 := Lib.hid (v2'.out.below b4)
  have hB4 := Lib.hid (hB2.out.trans (b4.mono (by have := hB2.out.size; have := hle.out; omega)))
  have hsa := Lib.hid (ishadeAll_any base B V g n M _ { D with grey := G } (nz (ptrW D s j)) au cu hgo.out hwi.out (by have := hpl.out; omega) w4 v4.out (tn'.out.1.below b4) tn'.out.2 fun w' S' E hv hs hm => Rd.of_owns (hs.row hrow fun q hq hmem => by
    have h1 := (hrow.lt q hq).1
    rcases List.mem_cons.1 hmem with rfl | hmem
    · have := v2'.out.lt
      omega
    · have := (v2'.out.own.lt q hmem).2
      omega))
  clear b4 hrow hptr hZ
  go_wp2_with fail
  refine hsa.out.mono ?_
  rintro e w5 ⟨rfl, S5, E5, st⟩
  have y := Lib.hid (show ∃ S' E, ShadesIs { D with grey := G } (nz (ptrW D s j)) E ∧ VarW w5 base B S' E from ⟨S5, E5, st.is, st.var⟩)
  have b5 := Lib.hid (hB4.out.trans st.bel)
  clear st hsa
  go_wp2_with fail
  go_end0
  exact ⟨rfl, y.out, b5.out⟩
end Go.Proofs.YtdhiablpobnhcaaGreat

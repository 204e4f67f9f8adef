import Derived.Test.YtdhiablpobnhcaaGreatPkQ
import Derived.Test.YtdhiablpobnhcaaGreatPkF2

/-
  The model's l3roots and RootsOf.
-/
namespace Go.Proofs.YtdhiablpobnhcaaGreat
open Go.RowKit
set_option linter.unusedVariables false

/-- What RootsOf answers. -/
def RootsIs (D : WD) (L : List Int) : Prop :=
  (HeapForm D ∧ Asc L ∧ (∀ y, y ∈ L ↔ y ≠ 0 ∧ ∃ r, r ∈ D.muts ∧ y ∈ r) ∧ L.length ≤ 1048576) ∨ (¬ HeapForm D ∧ L = [])
theorem RootsIs.unique {D : WD} {L L' : List Int} (h : RootsIs D L) (h' : RootsIs D L') : L' = L := by
  rcases h with ⟨hF, a, m, _⟩ | ⟨hn, rfl⟩ <;> rcases h' with ⟨hF', a', m', _⟩ | ⟨hn', rfl⟩
  · exact Asc.ext a' a fun y => (m' y).trans (m y).symm
  · exact absurd hF hn'
  · exact absurd hF' hn
  · rfl
theorem RootsIs.len {D : WD} {L : List Int} (h : RootsIs D L) : L.length ≤ 1048576 := by
  rcases h with ⟨_, _, _, h⟩ | ⟨_, rfl⟩
  · exact h
  · exact Nat.zero_le _
/-- The state behind m users and k roots of the next. -/
structure RootSt (D : WD) (m k : Nat) (L : List Int) : Prop where
  asc : Asc L
  mem : ∀ y, y ∈ L ↔ y ≠ 0 ∧ ((∃ i r, i < m ∧ D.muts[i]? = some r ∧ y ∈ r) ∨ (∃ r, D.muts[m]? = some r ∧ y ∈ r.take k))
  len : L.length ≤ m * 6 + k
theorem RootSt.zero (D : WD) : RootSt D 0 0 [] := ⟨List.Pairwise.nil, fun y => by simp, by simp⟩
theorem RootSt.skip {D : WD} {m k : Nat} {L r : List Int} (h : RootSt D m k L) (hr : D.muts[m]? = some r) (hk : k < r.length) (hz : r[k]?.getD 0 = 0) : RootSt D m (k + 1) L := by
  refine ⟨h.asc, fun y => (h.mem y).trans ⟨fun ⟨h0, h1⟩ => ⟨h0, h1.imp id fun ⟨r', e, hy⟩ => ⟨r', e, ?_⟩⟩, fun ⟨h0, h1⟩ => ⟨h0, h1.imp id fun ⟨r', e, hy⟩ => ⟨r', e, ?_⟩⟩⟩, by have := h.len; omega⟩
  · exact (List.take_subset_take_left _ (by omega)) hy
  · rw [hr] at e
    cases e
    rw [take_one hk, hz] at hy
    rcases List.mem_append.1 hy with m | m
    · exact m
    · exact absurd (List.mem_singleton.1 m) h0
theorem RootSt.put {D : WD} {m k : Nat} {L R r : List Int} (h : RootSt D m k L) (hr : D.muts[m]? = some r) (hk : k < r.length) (hz : r[k]?.getD 0 ≠ 0) (hp : PutIs L (r[k]?.getD 0) R) : RootSt D m (k + 1) R := by
  refine ⟨hp.1, fun y => (hp.2.1 y).trans ⟨?_, ?_⟩, by have := h.len; have := hp.2.2; omega⟩
  · rintro (rfl | hy)
    · exact ⟨hz, .inr ⟨r, hr, by rw [take_one hk]; exact List.mem_append.2 (.inr (List.mem_singleton.2 rfl))⟩⟩
    · obtain ⟨h0, h1⟩ := (h.mem y).1 hy
      exact ⟨h0, h1.imp id fun ⟨r', e, hy⟩ => ⟨r', e, (List.take_subset_take_left _ (by omega)) hy⟩⟩
  · rintro ⟨h0, h1⟩
    rcases h1 with h1 | ⟨r', e, hy⟩
    · exact .inr ((h.mem y).2 ⟨h0, .inl h1⟩)
    · rw [hr] at e
      cases e
      rw [take_one hk] at hy
      rcases List.mem_append.1 hy with m | m
      · exact .inr ((h.mem y).2 ⟨h0, .inr ⟨r, hr, m⟩⟩)
      · exact .inl (List.mem_singleton.1 m)
theorem RootSt.next {D : WD} {m : Nat} {L r : List Int} (h : RootSt D m r.length L) (hr : D.muts[m]? = some r) (h6 : r.length = 6) : RootSt D (m + 1) 0 L := by
  refine ⟨h.asc, fun y => (h.mem y).trans ⟨fun ⟨h0, h1⟩ => ⟨h0, ?_⟩, fun ⟨h0, h1⟩ => ⟨h0, ?_⟩⟩, by have := h.len; omega⟩
  · rcases h1 with ⟨i, r', hi, e, hy⟩ | ⟨r', e, hy⟩
    · exact .inl ⟨i, r', by omega, e, hy⟩
    · exact .inl ⟨m, r', by omega, e, List.mem_of_mem_take hy⟩
  · rcases h1 with ⟨i, r', hi, e, hy⟩ | ⟨r', e, hy⟩
    · by_cases hm : i = m
      · subst hm
        rw [hr] at e
        cases e
        exact .inr ⟨r, hr, by rw [List.take_length]; exact hy⟩
      · exact .inl ⟨i, r', by omega, e, hy⟩
    · simp at hy
theorem RootSt.done {D : WD} {L : List Int} (h : RootSt D D.muts.length 0 L) (hF : HeapForm D) : RootsIs D L := by
  refine .inl ⟨hF, h.asc, fun y => (h.mem y).trans ⟨fun ⟨h0, h1⟩ => ⟨h0, ?_⟩, fun ⟨h0, r, hr, hy⟩ => ⟨h0, .inl ?_⟩⟩, by have := h.len; have := hF.geo.2.2.2.2.2.2; omega⟩
  · rcases h1 with ⟨i, r', hi, e, hy⟩ | ⟨r', e, hy⟩
    · exact ⟨r', List.mem_of_getElem? e, hy⟩
    · simp at hy
  · obtain ⟨i, hi⟩ := List.mem_iff_getElem?.1 hr
    exact ⟨i, r, (List.getElem?_eq_some_iff.1 hi).1, hi, hy⟩

set_option maxRecDepth 100000 in
set_option maxHeartbeats 4000000 in
theorem sroots_any (B : Nat) (v : Value) (D : WD) (hF : HeapForm D) (w : World) (hr : RdW w v D) (hB : BoxW w B v) :
    Calls Tryz.prog 134 #[.pointer (some ⟨B, 0, none⟩)] w fun e w' => ∃ u L, RootsIs D L ∧ e = .returned u ∧ w'.ownsRow w.heap.size 3 1 u L.length (L.map (Value.int .i64)) ∧ Below w.heap.size w w' := by
  obtain ⟨vw, vd, vs, vm, vg, rfl, a1, a2, a3, a4, a5⟩ := hr
  obtain ⟨cs, he, hh⟩ := hB
  obtain rfl := (Value.agg.inj he).symm
  obtain ⟨aM, cM, rfl, hml, hx⟩ := a4
  have hx' := Lib.hid hx
  have hF' := Lib.hid hF
  have hg := hF.geo.2.2.2.2.2.2
  have g0 := cell_of_heap hh 5 (.slice aM D.muts.length cM) rfl
  have G := Lib.hid (fun (w' : World) (hb : Below w.heap.size w w') => cell_below hb g0)
  unfold maxLen at hml
  clear a1 a2 a3 a5 he hh hx hF g0
  go_enter Tryz.func134, Tryz.ntmps134
  go_wp2_with fail
  go_loopw [3, 4] (fun v i wr => ∃ (m : Nat) (L : List Int), m ≤ D.muts.length ∧ i = .int .i64 m ∧ Hid (RootSt D m 0 L) ∧ wr.ownsRow w.heap.size 3 1 v L.length (L.map (Value.int .i64)) ∧ Below w.heap.size w wr) (fun v i _ => D.muts.length - (Go.RowKit.intOf i).toNat)
  case atStart => exact ⟨0, [], Nat.zero_le _, rfl, RootSt.zero D, World.ownsRow_nil _ _ _ _, Below.refl _ _⟩
  case round =>
    obtain ⟨m, L, hm, rfl, st, hown, hB⟩ := hrel
    have g5 := G.out _ hB
    by_cases hlt : m < D.muts.length
    · have hlt1 : (m : Int) < (D.muts.length : Int) := by omega
      obtain ⟨r, hmr⟩ : ∃ r, D.muts[m]? = some r := ⟨_, List.getElem?_eq_getElem hlt⟩
      have h6 := hF'.out.roots m r hmr
      obtain ⟨bM, oM, vr, rfl, xm0, hrd⟩ := hx'.out m r hmr
      obtain ⟨ar, cr, rfl, hrl, xr⟩ := hrd
      have XM := Lib.hid (fun (w' : World) (hb : Below w.heap.size w w') => cell_below hb xm0)
      have xr' := Lib.hid xr
      have hmr' := Lib.hid hmr
      unfold maxLen at hrl
      clear xm0 xr hmr
      have hown' := Lib.hid hown
      clear hown
      go_wp2_with fail
      clear g5
      go_loopw [3, 5] (fun v i wr => ∃ (k : Nat) (L : List Int), k ≤ r.length ∧ i = .int .i64 k ∧ Hid (RootSt D m k L) ∧ wr.ownsRow w.heap.size 3 1 v L.length (L.map (Value.int .i64)) ∧ Below w.heap.size w wr) (fun v i _ => r.length - (Go.RowKit.intOf i).toNat)
      case atStart => exact ⟨0, L, Nat.zero_le _, rfl, st, hown'.out, hB⟩
      case round =>
        obtain ⟨k, L, hk, rfl, st, hown, hB⟩ := hrel
        have g5 := G.out _ hB
        have xm := XM.out _ hB
        have hLl := st.out.len
        by_cases hkl : k < r.length
        · have hkl1 : (k : Int) < (r.length : Int) := by omega
          obtain ⟨br, or, rfl, xk0⟩ := xr'.out k hkl
          have xk := cell_below hB xk0
          clear xk0
          by_cases hz : r[k]?.getD 0 = 0
          · have st2 := Lib.hid (st.out.skip hmr'.out hkl hz)
            rw [hz] at xk
            have hown2 := Lib.hid hown
            clear hz st hown
            go_wp2_with fail
            go_roundw
            case rel => exact ⟨k + 1, L, by omega, by go_num, st2, hown2.out, hB⟩
            case measure => simp [Go.RowKit.intOf]; omega
          · have hput := Lib.hid (fun R hp => (st.out.put hmr'.out hkl hz hp : RootSt D m (k + 1) R))
            obtain ⟨au, cu, hu⟩ := own_slice hown
            have hcall := Lib.hid (sput_any w.heap.size _ L (r[k]?.getD 0) st.out.asc (by omega) _ hB.size hown)
            generalize r[k]?.getD 0 = y at *
            have hzb : (y == 0) = false := beq_eq_false_iff_ne.2 hz
            clear st hown hu
            go_wp2_with fail
            refine hcall.out.mono ?_
            rintro e w2 ⟨u, R, hR, rfl, hown2, b2⟩
            have st2 := Lib.hid (hput.out R hR)
            have hown2' := Lib.hid hown2
            have hB2 := below_trans hB b2
            clear hR hown2 b2 hput hcall hB g5 xm xk
            go_wp2_with fail
            go_roundw
            case rel => exact ⟨k + 1, R, by omega, by go_num, st2, hown2'.out, hB2⟩
            case measure => simp [Go.RowKit.intOf]; omega
        · obtain rfl : k = r.length := by omega
          have st2 := Lib.hid (st.out.next hmr'.out h6)
          have hown2 := Lib.hid hown
          clear st hown
          go_wp2_with fail
          go_roundw
          case rel => exact ⟨m + 1, L, by omega, by go_num, st2, hown2.out, hB⟩
          case measure => simp [Go.RowKit.intOf]; omega
    · obtain rfl : m = D.muts.length := by omega
      have y := Lib.hid (st.out.done hF'.out)
      have hown2 := Lib.hid hown
      clear st hown
      go_wp2_with fail
      go_ret
      exact ⟨_, _, y.out, rfl, hown2.out, hB⟩

end Go.Proofs.YtdhiablpobnhcaaGreat

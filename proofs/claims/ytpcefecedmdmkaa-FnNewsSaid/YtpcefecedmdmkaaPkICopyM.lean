import Derived.Test.YtpcefecedmdmkaaPkSrc
import Derived.Test.YtpcefecedmdmkaaPkV
import Derived.Test.YtpcefecedmdmkaaPkW
import Derived.Deep.RegionWith

/-
  The contract of the program's copyOfMuts: users' rows of the call's own.
-/
namespace Go.Proofs.Ytpcefecedmdmkaa
open Go.RowKit
set_option linter.unusedVariables false

/-- The loop's state. -/
structure CpM (w wr : World) (L : List (List Int)) (v5 : Value) (mv : List Value) (k : Nat) : Prop where
  below : Below w.heap.size w wr
  mrow : wr.ownsRow w.heap.size 76 1 v5 L.length mv
  mvl : mv.length = L.length
  mutsN : ∀ (i : Nat) (r : List Int) (u : Value), i < k → L[i]? = some r → mv[i]? = some u → wr.ownsRow w.heap.size 3 1 u r.length (r.map (Value.int .i64))
  mutsO : ∀ (i : Nat) (r : List Int) (u : Value), k ≤ i → L[i]? = some r → mv[i]? = some u → Rd w u r
  nodup : ((mv.take k).filterMap Value.ownBlock).Nodup
theorem CpM.next {w wr y wF : World} {L : List (List Int)} {u : Value} {g5 c5 : Nat} {mv : List Value} {k : Nat} (h : CpM w wr L (.slice (some ⟨g5, 0, none⟩) L.length c5) mv k) {r : List Int} (hr : L[k]? = some r)
    (hy : Below wr.heap.size wr y) (o1 : y.ownsRow wr.heap.size 3 1 u r.length (r.map (Value.int .i64))) (hF : wF = y.setCell ⟨g5, k, none⟩ u) :
    CpM w wF L (.slice (some ⟨g5, 0, none⟩) L.length c5) (mv.set k u) (k + 1) := by
  subst hF
  have hk := (List.getElem?_eq_some_iff.1 hr).1
  have hsz := h.below.size
  have hyz := hy.size
  have hmv := h.mvl
  have hrow := own_below h.mrow hy
  have st1 := hrow.stored k u
  have cF : Chg [g5] y (y.setCell ⟨g5, k, none⟩ u) := Chg.of_grown (grown_set y g5 _ u) (by simp)
  have hg5 := hrow.lt g5 rfl
  have keep : ∀ {x : Value} {n b : Nat} {xs : List Value} {t : TypeId} {sz : Nat}, y.ownsRow b t sz x n xs → t ≠ 76 → (y.setCell ⟨g5, k, none⟩ u).ownsRow b t sz x n xs := fun hx ht =>
    own_chg hx cF fun q hq hm => own_types hx hrow ht q hq (by rw [List.mem_singleton.1 hm]; rfl)
  refine ⟨Chg.below (h.below.trans (hy.mono hsz)) cF (by omega) (fun x hx => by rw [List.mem_singleton.1 hx]; omega), st1.1, by rw [List.length_set]; exact h.mvl, fun i t q hi ht hq => ?_, fun i t q hi ht hq => ?_, ?_⟩
  · by_cases e : i = k
    · subst e
      rw [hr] at ht
      cases ht
      rw [List.getElem?_set_self (by omega)] at hq
      cases hq
      exact own_base (keep o1 (by decide)) hsz
    · rw [List.getElem?_set_ne (fun h => e h.symm)] at hq
      exact keep (own_below (h.mutsN i t q (by omega) ht hq) hy) (by decide)
  · rw [List.getElem?_set_ne (by omega)] at hq
    exact h.mutsO i t q (by omega) ht hq
  · have e1 : (mv.set k u).take (k + 1) = mv.take k ++ [u] := by
      rw [List.take_succ_eq_append_getElem (by simp; omega), List.take_set_of_le (Nat.le_refl _)]
      simp
    rw [e1, List.filterMap_append, List.nodup_append]
    refine ⟨h.nodup, by cases hv : u.ownBlock <;> simp [hv], fun a ha c hc eac => ?_⟩
    obtain ⟨x, hx, hxa⟩ := List.mem_filterMap.1 ha
    obtain ⟨i, hi⟩ := List.mem_iff_getElem?.1 hx
    have hil := (List.getElem?_eq_some_iff.1 hi).1
    rw [List.length_take] at hil
    rw [List.getElem?_take_of_lt (by omega)] at hi
    obtain ⟨t, ht⟩ : ∃ t, L[i]? = some t := ⟨_, List.getElem?_eq_getElem (by omega)⟩
    have h1 := ((h.mutsN i t x (by omega) ht hi).lt a hxa).2
    obtain ⟨y', hy', hyc⟩ := List.mem_filterMap.1 hc
    rw [List.mem_singleton] at hy'
    subst hy'
    have h2 := (o1.lt c hyc).1
    omega

set_option maxRecDepth 100000 in
set_option maxHeartbeats 8000000 in
theorem copyOfMuts_any (v : Value) (L : List (List Int)) (hs : L.length ≤ 1048576) (hs1 : ∀ r ∈ L, r.length ≤ 1048576) (w : World) (hr : RdM w v L) :
    Calls Try.prog 67 #[v] w fun e w' => ∃ a c mv, e = .returned (.slice a L.length c) ∧ OwnM w' w.heap.size (.slice a L.length c) L mv ∧ (mv.filterMap Value.ownBlock).Nodup ∧ Below w.heap.size w w' := by
  obtain ⟨am, cm, rfl⟩ : ∃ a c, v = .slice a L.length c := by obtain ⟨a, c, h, _⟩ := hr; exact ⟨a, c, h⟩
  obtain ⟨mv0, hl0, hsrc, hin0⟩ := hr.src
  have hcall := Lib.hid (listMut_any am L.length cm mv0 hs w hsrc)
  have hs1' := Lib.hid hs1
  have H0 := Lib.hid (And.intro hl0 hin0)
  clear hl0 hin0 hsrc hr hs1
  go_enter Try.func67, Try.ntmps67
  go_wp2_with fail
  refine hcall.out.mono ?_
  rintro e w1 ⟨v, rfl, ho, hb⟩
  obtain ⟨a5, c5, rfl⟩ := own_slice ho
  have st0 := Lib.hid (show CpM w w1 L (.slice a5 L.length c5) mv0 0 from ⟨hb, ho, H0.out.1, fun i r u hi => absurd hi (by omega), fun i r u _ => H0.out.2 i r u, by simp⟩)
  clear ho hb hcall
  go_wp2_with fail
  go_loopw [9] (fun i wr => ∃ (k : Nat) (mv : List Value), k ≤ L.length ∧ i = .int .i64 k ∧ Hid (CpM w wr L (.slice a5 L.length c5) mv k)) (fun i _ => L.length - (intOf i).toNat)
  case atStart => exact ⟨0, mv0, Nat.zero_le _, rfl, st0⟩
  case round =>
    clear st0
    obtain ⟨k, mv, hk, rfl, st⟩ := hrel
    by_cases hltk : k < L.length
    · have hlt1 : (k : Int) < (L.length : Int) := by omega
      obtain ⟨r, hks⟩ : ∃ s, L[k]? = some s := ⟨_, List.getElem?_eq_getElem hltk⟩
      obtain ⟨u, hu⟩ : ∃ p, mv[k]? = some p := ⟨_, List.getElem?_eq_getElem (by have := st.out.mvl; omega)⟩
      obtain ⟨g5, rfl⟩ : ∃ g5, a5 = some ⟨g5, 0, none⟩ := by
        rcases st.out.mrow.2 with ⟨he, h0⟩ | ⟨g, cap, cur, he, _⟩
        · omega
        · exact ⟨g, by simp at he; exact he.1⟩
      have hrow := st.out.mrow
      have x0 : wr.cell? ⟨g5, k, none⟩ = some u := by rw [hrow.cellAt k (by have := st.out.mvl; omega), hu]
      have f0 := hrow.frozenAt k
      have ho := st.out.mutsO k r u (Nat.le_refl _) hks hu
      obtain ⟨al, cl, hul, hll, -⟩ := id ho
      unfold maxLen at hll
      have hi := hs1'.out r (List.mem_of_getElem? hks)
      have rL := Lib.hid (show SrcIs wr al r.length 1 (r.map (Value.int .i64)) from by have := ho; rw [hul] at this; exact (this.src.below st.out.below))
      rw [hul] at x0
      have cL := Lib.hid (listInt_any al r.length cl (r.map (Value.int .i64)) hi wr rL.out)
      have hg5 := Lib.hid (hrow.lt g5 rfl)
      have hg5a : g5 < wr.heap.size := hg5.out.2
      have hrow' := Lib.hid hrow
      have hlen := hrow.1
      have nxt := Lib.hid (fun (y wF : World) (u : Value) hy o1 hF => st.out.next (y := y) (wF := wF) (u := u) hks hy o1 hF)
      clear hks hu hrow ho hul hi f0
      go_wp2_with fail
      refine cL.out.mono ?_
      rintro e w1 ⟨v, rfl, o1, b1⟩
      obtain ⟨aL, cL2, rfl⟩ := own_slice o1
      have hown2 := own_below hrow'.out b1
      have x1 := cell_below b1 x0
      have f1 := hown2.frozenAt k
      have oL := Lib.hid o1
      have bL := Lib.hid b1
      clear o1 b1 hown2 x0
      go_wp2_with fail
      go_roundw
      case rel => exact ⟨k + 1, _, by omega, by go_num, nxt.out _ _ _ bL.out oL.out rfl⟩
      case measure => simp [intOf]; omega
    · obtain rfl : k = L.length := by omega
      have y := Lib.hid (show OwnM wr w.heap.size (.slice a5 L.length c5) L mv ∧ (mv.filterMap Value.ownBlock).Nodup ∧ Below w.heap.size w wr from
        ⟨⟨st.out.mrow, st.out.mvl, fun i r u h1 h2 => st.out.mutsN i r u (List.getElem?_eq_some_iff.1 h1).1 h1 h2⟩, by
          have := st.out.nodup
          rwa [show mv.take L.length = mv by rw [← st.out.mvl]; exact List.take_length] at this, st.out.below⟩)
      go_wp2_with fail
      go_ret
      exact ⟨_, _, mv, rfl, y.out⟩
end Go.Proofs.Ytpcefecedmdmkaa

/-
  The program's RootsOf.
-/
import Derived.Test.YtajogfnlbdiokaaSRoots
import Derived.Test.YtajogfnlbdiokaaSorted
import Derived.Test.YtajogfnlbdiokaaShelf
import Derived.Test.YtajogfnlbdiokaaImplG
import Derived.Test.YtajogfnlbdiokaaSOwn4
import Derived.Sort.OwnSorted
import Derived.Sort.Grow
import Derived.Lib.OwnBridge
namespace Go.Proofs.Ytajogfnlbdiokaa
open Go.RowKit Go.Sort
set_option linter.unusedVariables false

def joinL (D : WD) (m : Nat) : List Int := (D.muts.take m).flatMap nz
theorem joinL_succ {D : WD} {m : Nat} {r : List Int} (h : D.muts[m]? = some r) : joinL D (m + 1) = joinL D m ++ nz r := by
  have hlt := (List.getElem?_eq_some_iff.1 h).1
  unfold joinL
  rw [List.take_succ_eq_append_getElem hlt, List.flatMap_append]
  have e : D.muts[m] = r := (List.getElem?_eq_some_iff.1 h).2
  simp [e]
theorem nz_mem (L : List Int) (y : Int) : y ∈ nz L ↔ y ≠ 0 ∧ y ∈ L := by
  unfold nz
  rw [List.mem_filter]
  simp
  exact And.comm
theorem joinL_done {D : WD} (hF : HeapForm D) (hl : (joinL D D.muts.length).length ≤ 1048576) : RootsIs D (cmp (joinL D D.muts.length)) := by
  refine .inl ⟨hF, cmp_asc _, fun y => ?_, Nat.le_trans (Lib.compact_length_le _) (by unfold srt; rw [List.length_mergeSort]; exact hl)⟩
  rw [cmp_mem]
  unfold joinL
  rw [List.take_length, List.mem_flatMap]
  constructor
  · rintro ⟨r, hr, hy⟩
    have := (nz_mem r y).1 hy
    exact ⟨this.1, r, hr, this.2⟩
  · rintro ⟨h0, r, hr, hy⟩
    exact ⟨r, hr, (nz_mem r y).2 ⟨h0, hy⟩⟩
theorem below_grow (w : World) (os : Array Obj) : Below w.heap.size w (grow w os) := ⟨rfl, rfl, rfl, by simp, fun j hj => heap_grow_old _ _ hj⟩
theorem below_put {B : Nat} {w0 w : World} {g q : Nat} {d : Array Int} (h : Below B w0 w) (hg : B ≤ g) : Below B w0 (putRow (Value.int .i64) (Sort.ahead w q) g 0 d) := Lib.below_putRow h hg
theorem srt_len (L : List Int) : (srt L).length = L.length := by unfold srt; exact List.length_mergeSort L
/-- slices.Sort and slices.Compact, one behind the other, at a list of the call's own. -/
theorem sort_compact {B : Nat} {w w1 : World} {a : Option Addr} {c : Nat} {L : List Int} (hl : L.length ≤ 1048576) (hown : w1.ownsRow B 3 1 (.slice a L.length c) L.length (L.map (Value.int .i64))) (hbel : Below B w w1) (hB : B ≤ w1.heap.size) :
    Calls Try.prog 105 #[.slice a L.length c] w1 fun e w2 => e = .returned (.tuple #[]) ∧ Hid (Calls Try.prog 106 #[.slice a L.length c] w2 fun e w3 => e = .returned (.slice a (cmp L).length c) ∧ w3.ownsRow B 3 1 (.slice a (cmp L).length c) (cmp L).length ((cmp L).map (Value.int .i64)) ∧ Below B w w3) := by
  by_cases hn : L = []
  · subst hn
    have he : cmp [] = [] := List.eq_nil_iff_forall_not_mem.2 fun y hy => by simpa using (cmp_mem [] y).1 hy
    rw [he]
    refine (Try.slices_Sort_int_none a c w1).mono fun e w2 ⟨h1, h2⟩ => ⟨h1, ?_⟩
    subst h2
    refine Lib.hid ((Try.slices_Compact_int_empty a c w2).mono fun e w3 ⟨h1, h2⟩ => ⟨h1, ?_⟩)
    subst h2
    exact ⟨hown, hbel⟩
  have hnn : (Value.slice a L.length c) ≠ .slice none 0 0 := fun e => by
    injection e with _ e2
    exact hn (List.length_eq_zero_iff.1 e2)
  obtain ⟨g, cap, he, hbg, hgl, hncap, hcm, hlen, hH⟩ := Lib.holds_of_ownsRow hown hnn
  cases he
  refine (Try.slices_Sort_int g 0 c L w1 hH hgl (by omega)).mono fun e w2 ⟨h1, nn, os, h2⟩ => ⟨h1, ?_⟩
  have hH1 : Holds (Value.int .i64) (putRow (Value.int .i64) (Sort.ahead w1 nn) g 0 (srt L).toArray) g 0 (srt L).toArray := holds_putRow (Value.int .i64) _ g 0 _ _ (holds_ahead (Value.int .i64) w1 nn g 0 _ hH) (by simp [srt_len])
  have hH2 : Holds (Value.int .i64) w2 g 0 (srt L).toArray := by
    rw [h2]
    exact holds_grow (Value.int .i64) _ os g 0 _ (by simpa [putRow, mapBlock, Sort.ahead] using hgl) hH1
  have hs : (putRow (Value.int .i64) (Sort.ahead w1 nn) g 0 (srt L).toArray).ownsRow B 3 1 (.slice (some ⟨g, 0, none⟩) L.length c) L.length ((srt L).map (Value.int .i64)) := by
    have := Lib.ownsRow_putRow (q := nn) (k := L.length) (ys := srt L) hown (srt_len L) (Nat.le_refl _)
    rwa [List.take_of_length_le (by rw [srt_len]; exact Nat.le_refl _)] at this
  have hs2 : w2.ownsRow B 3 1 (.slice (some ⟨g, 0, none⟩) L.length c) L.length ((srt L).map (Value.int .i64)) := by
    rw [h2]
    exact own_chg hs (Chg.of_below (below_grow _ os) []) (fun q hq => by simp)
  have hb2 : Below B w w2 := by
    rw [h2]
    have h3 : Below B w (putRow (Value.int .i64) (Sort.ahead w1 nn) g 0 (srt L).toArray) := below_put hbel hbg
    exact h3.trans ((below_grow _ os).mono (by simpa [putRow, mapBlock, Sort.ahead] using hB))
  have hcl := Lib.compact_length_le (srt L)
  have hc := Try.slices_Compact_int g 0 c (srt L) w2 hH2 (by rw [srt_len]; omega) (by rw [srt_len]; exact hncap)
  rw [srt_len] at hc hcl
  refine Lib.hid (hc.mono fun e w3 ⟨h3, q, h4⟩ => ⟨h3, ?_⟩)
  rw [h4]
  refine ⟨?_, below_put hb2 hbg⟩
  have := Lib.ownsRow_putRow (q := q) (k := (cmp L).length) (ys := Lib.compact (srt L) ++ List.replicate (L.length - (Lib.compact (srt L)).length) 0) hs2 (by simp; omega) (by exact hcl)
  rwa [show cmp L = Lib.compact (srt L) from rfl, List.take_left] at this

set_option maxRecDepth 100000 in
set_option maxHeartbeats 8000000 in
theorem irootsOf_any (v : Value) (D : WD) (hm : MarksIn D) (w : World) (hr : RdW w v D) :
    Calls Try.prog 37 #[v] w fun e w' => ∃ L u, RootsIs D L ∧ e = .returned u ∧ w'.ownsRow w.heap.size 3 1 u L.length (L.map (Value.int .i64)) ∧ Below w.heap.size w w' := by
  have hm' := Lib.hid hm
  clear hm
  obtain ⟨vw, vd, vs, vm, vg, rfl, a1, a2, a3, a4, a5⟩ := hr
  have bx := box_new w (.cells #[.int .i64 D.base, .int .i64 D.pages, vw, vd, vs, vm, .int .i64 D.phase, .int .i64 D.next, vg] 32)
  have bw := below_box w (.cells #[.int .i64 D.base, .int .i64 D.pages, vw, vd, vs, vm, .int .i64 D.phase, .int .i64 D.next, vg] 32)
  have hW := Lib.hid (show RdW (w.alloc (.cells #[.int .i64 D.base, .int .i64 D.pages, vw, vd, vs, vm, .int .i64 D.phase, .int .i64 D.next, vg] 32)) (.agg #[.int .i64 D.base, .int .i64 D.pages, vw, vd, vs, vm, .int .i64 D.phase, .int .i64 D.next, vg]) D from ⟨vw, vd, vs, vm, vg, rfl, a1.below bw, a2.below bw, a3.below bw, a4.below bw, a5.below bw⟩)
  have hBx := Lib.hid (show BoxW (w.alloc (.cells #[.int .i64 D.base, .int .i64 D.pages, vw, vd, vs, vm, .int .i64 D.phase, .int .i64 D.next, vg] 32)) w.heap.size (.agg #[.int .i64 D.base, .int .i64 D.pages, vw, vd, vs, vm, .int .i64 D.phase, .int .i64 D.next, vg]) from ⟨_, rfl, bx⟩)
  have bw' := Lib.hid bw
  clear a1 a2 a3 a4 a5 bx bw
  go_enter Try.func37, Try.ntmps37
  go_wp2_with fail
  refine (formOkI_any _ D hm'.out _ hW.out).mono ?_
  rintro e w1 ⟨hq, b1⟩
  have hq := hq.elim
  obtain ⟨x1, rfl⟩ := Ext.of b1
  clear b1
  generalize w.alloc (.cells #[.int .i64 D.base, .int .i64 D.pages, vw, vd, vs, vm, .int .i64 D.phase, .int .i64 D.next, vg] 32) = W at *
  rcases hq with ⟨hF, rfl⟩ | ⟨hF, rfl⟩
  case inr =>
    have y := Lib.hid (show RootsIs D [] from .inr ⟨hF, rfl⟩)
    clear hF
    go_wp2_with fail
    go_ret
    exact ⟨[], _, y.out, rfl, World.ownsRow_nil _ _ _ _, below_trans bw'.out x1.below⟩
  have hF' := Lib.hid hF
  have hg := hF.geo.2.2.2.2.2.2
  obtain ⟨aM, cM, rfl, hml, hx⟩ := hW.out.parts.2.2.2.1
  have hx' := Lib.hid hx
  have g0 := hBx.out.elim fun cs h => by obtain rfl := (Value.agg.inj h.1).symm; exact cell_of_heap h.2 5 (.slice aM D.muts.length cM) rfl
  have G := Lib.hid (fun (w' : World) (hb : Below W.heap.size W w') => cell_below hb g0)
  have g5 := G.out _ x1.below
  have hxb := Lib.hid x1.below
  unfold maxLen at hml
  clear hx hF g0
  go_wp2_with fail
  clear g5
  go_loopw [3, 11] (fun v i wr => ∃ (m : Nat), m ≤ D.muts.length ∧ i = .int .i64 m ∧ wr.ownsRow W.heap.size 3 1 v (joinL D m).length ((joinL D m).map (Value.int .i64)) ∧ Below W.heap.size W wr ∧ (joinL D m).length ≤ m * 6) (fun v i _ => D.muts.length - (intOf i).toNat)
  case atStart => exact ⟨0, Nat.zero_le _, rfl, World.ownsRow_nil _ _ _ _, hxb.out, by simp [joinL]⟩
  case round =>
    obtain ⟨m, hm, rfl, hown, hB, hjl⟩ := hrel
    have g5 := G.out _ hB
    have hBs := hB.size
    by_cases hlt : m < D.muts.length
    · have hlt1 : (m : Int) < (D.muts.length : Int) := by omega
      obtain ⟨r, hmr⟩ : ∃ r, D.muts[m]? = some r := ⟨_, List.getElem?_eq_getElem hlt⟩
      have h6 := hF'.out.roots m r hmr
      obtain ⟨bM, oM, vr, rfl, xm0, hrd⟩ := hx'.out m r hmr
      obtain ⟨ar, cr, rfl, hrl, xr⟩ := id hrd
      have xm := cell_below hB xm0
      have hz := Lib.hid (withoutZeros_any ar cr r (by omega) wr (hrd.below hB))
      have hjs := Lib.hid (joinL_succ hmr)
      have hnl : (nz r).length ≤ 6 := by have := List.length_filter_le (fun x : Int => x != 0) r; unfold nz; omega
      generalize nz r = Z at *
      have hown' := Lib.hid hown
      have hB' := Lib.hid hB
      clear xm0 hrd xr hmr hown hB h6 hrl
      go_wp2_with (first
        | (go_at_call 104; refine hz.out.mono ?_; rintro e w2 ⟨u, rfl, hu, b2⟩; obtain ⟨au, cu, rfl⟩ := own_slice hu; have hsrc := Lib.hid (Rd.src (Rd.of_owns hu)); have ho := Lib.hid (own_chg hown'.out (Chg.of_below b2 []) (fun q hq => by simp)); have hB2 := Lib.hid (below_trans hB'.out b2); have hz2 := Lib.hid (show W.heap.size ≤ w2.heap.size from hB2.out.size); clear hu b2)
        | (at_builtin; refine wpList_app rfl (.tmp 14) (.tmp 21) 25 rfl W.heap.size 3 (.int .i64 0) 1 8 Try.underlying25 infoInt rfl (by decide) _ _ _ rfl ho.out au Z.length cu (Z.map (Value.int .i64)) rfl hsrc.out (by unfold maxLen; omega) (by omega) hz2.out ?_; intro v' w3 hown3 hgrow3))
      have hB3 := row_below hB2.out ho.out hgrow3 hz2.out
      have ho3 : w3.ownsRow W.heap.size 3 1 v' (joinL D m ++ Z).length ((joinL D m ++ Z).map (Value.int .i64)) := by simpa using hown3
      have hl3 : (joinL D m ++ Z).length ≤ (m + 1) * 6 := by rw [List.length_append]; omega
      clear hown3 hgrow3 g5 xm
      go_wp2_with fail
      go_roundw
      case rel => exact ⟨m + 1, by omega, by go_num, by rw [hjs.out]; exact ho3, hB3, by rw [hjs.out]; exact hl3⟩
      case measure => simp [intOf]; omega
    · obtain rfl : m = D.muts.length := by omega
      have y := Lib.hid (joinL_done hF'.out (by omega))
      obtain ⟨a, c, rfl⟩ := own_slice hown
      have hb0 := Lib.hid (bw'.out.size)
      have hsort := Lib.hid (sort_compact (by omega) hown hB hBs)
      clear hown hB hjl
      generalize joinL D D.muts.length = N at *
      go_wp2_with (first
        | (go_at_call 105; refine hsort.out.mono ?_; rintro e w2 ⟨rfl, hcomp⟩)
        | (go_at_call 106; refine hcomp.out.mono ?_; rintro e w3 ⟨rfl, ho3, hb3⟩; have ho3' := Lib.hid ho3; have hb3' := Lib.hid hb3; clear ho3 hb3))
      go_ret
      exact ⟨_, _, y.out, rfl, own_base ho3'.out hb0.out, below_trans bw'.out hb3'.out⟩
end Go.Proofs.Ytajogfnlbdiokaa

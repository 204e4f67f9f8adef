import Derived.Test.YtpaepkcfdnddgaaGreatCgBL
import Derived.Test.YtpaepkcfdnddgaaGreatCgW
import Derived.Test.YtpaepkcfdnddgaaGreatCgM
import Derived.Test.YtpaepkcfdnddgaaGreatCgR

namespace Go.Proofs.YtpaepkcfdnddgaaGreat
open Go.RowKit
set_option linter.unusedVariables false

def leadsN (D : WD) : List Int := D.muts.flatten ++ ((D.grey.length : Int) :: D.grey)
theorem flat_all {D : WD} (hI : FitD D) : AllI D.muts.flatten := fun x hx => by
  obtain ⟨r, hr, hx⟩ := List.mem_flatten.1 hx
  exact hI.muts r hr x hx
theorem flat_le {L : List (List Int)} (k : Nat) : (L.take k).flatten.length ≤ L.flatten.length := by
  conv => rhs; rw [← List.take_append_drop k L, List.flatten_append, List.length_append]
  omega

set_option maxRecDepth 100000 in
set_option maxHeartbeats 4000000 in
theorem iputLeads_any (B : Nat) (v : Value) (D : WD) (hI : FitD D) (hM : D.muts.length ≤ 3) (hfl : D.muts.flatten.length ≤ 1000) (hg : D.grey.length ≤ 2000000) (w : World) (hr : RdW w v D) (hB : BoxW w B v) :
    Calls Tryz.prog 36 #[.pointer (some ⟨B, 0, none⟩)] w fun e w' => e = .returned (.string (secB 82 (ints (leadsN D)))) ∧ Below w.heap.size w w' := by
  obtain ⟨vw, vd, vs, vm, vg, rfl, a1, a2, a3, a4, a5⟩ := hr
  obtain ⟨cs, he, hh⟩ := hB
  obtain rfl := (Value.agg.inj he).symm
  obtain ⟨aM, cM, rfl, hml, hy⟩ := a4
  obtain ⟨aG, cG, rfl, hgl, hz⟩ := id a5
  have hsrcG := Lib.hid a5
  have G5 := Lib.hid (cell_of_heap hh 5 (.slice aM D.muts.length cM) rfl)
  have G8 := Lib.hid (cell_of_heap hh 8 (.slice aG D.grey.length cG) rfl)
  have hy' := Lib.hid hy
  have hfin := Lib.hid (show leadsN D = D.muts.flatten ++ [(D.grey.length : Int)] ++ D.grey by unfold leadsN; rw [List.append_assoc]; rfl)
  have hall := Lib.hid (show AllI (leadsN D) from allI_append (flat_all hI) (allI_append (allI_one (by constructor <;> omega)) hI.grey))
  have hlen := Lib.hid (show (leadsN D).length ≤ 3000000 by unfold leadsN; rw [List.length_append, List.length_cons]; omega)
  have hfl' := Lib.hid hfl
  have hS := Lib.hid (fun s W => section_any 82 s W)
  obtain ⟨i0, hi, hz0, hz1, hz2⟩ := info_parts info3
  clear a1 a2 a3 a5 he hh hy hz hgl hI hfl
  unfold maxLen at hml
  have g5 := G5.out
  have g8 := G8.out
  go_enter Tryz.func36, Tryz.ntmps36
  go_wp2_with fail
  clear g5 g8
  go_loopw [3, 4, 10] (fun v _ i wr => ∃ k : Nat, k ≤ D.muts.length ∧ i = .int .i64 k ∧ wr.ownsRow w.heap.size 3 1 v (D.muts.take k).flatten.length ((D.muts.take k).flatten.map (Value.int .i64)) ∧ Below w.heap.size w wr) (fun _ _ i _ => D.muts.length - (RowKit.intOf i).toNat)
  case atStart => exact ⟨0, Nat.zero_le _, rfl, World.ownsRow_nil _ _ _ _, Below.refl _ _⟩
  case round =>
    obtain ⟨k, hk, rfl, hown, hB⟩ := hrel
    have g5 := cell_below hB G5.out
    have g8 := cell_below hB G8.out
    obtain ⟨av, cv, rfl⟩ := own_slice hown
    by_cases hlt : k < D.muts.length
    · obtain ⟨rt, hrt⟩ : ∃ rt, D.muts[k]? = some rt := ⟨_, List.getElem?_eq_getElem hlt⟩
      obtain ⟨b1, o1, vr, rfl, q0, hrd⟩ := hy'.out k rt hrt
      obtain ⟨al, cl, rfl, -, -⟩ := id hrd
      have q0' := cell_below hB q0
      have hsrc := Lib.hid (hrd.below hB).src
      have hlt' : (k : Int) < (D.muts.length : Int) := by omega
      have hss := Lib.hid (show (D.muts.take (k + 1)).flatten = (D.muts.take k).flatten ++ rt by
        rw [List.take_succ_eq_append_getElem hlt, List.flatten_append]
        obtain ⟨_, rfl⟩ := List.getElem?_eq_some_iff.1 hrt
        simp)
      have hle := Lib.hid (show (D.muts.take k).flatten.length + rt.length ≤ 1000 by
        have h1 := flat_le (L := D.muts) (k + 1)
        have h2 := hfl'.out
        rw [hss.out, List.length_append] at h1
        omega)
      have hBs := Lib.hid hB.size
      have hB' := Lib.hid hB
      have hown' := Lib.hid hown
      clear q0 hrt hrd hown hB
      generalize (D.muts.take k).flatten = T at *
      go_wp2_with (at_builtin; refine wpList_app rfl (.tmp 13) (.tmp 21) 22 rfl w.heap.size 3 (.int .i64 0) 1 8 Tryz.underlying22 info3 rfl (by decide) _ _ _ rfl hown'.out al rt.length cl (rt.map (Value.int .i64)) rfl hsrc.out (by have := hle.out; unfold maxLen; omega) (by have := hle.out; omega) hBs.out ?_; intro v' w1 ho hgrow)
      have hB2 := Lib.hid (row_below hB'.out hown'.out hgrow hBs.out)
      have ho2 := Lib.hid (show w1.ownsRow w.heap.size 3 1 v' (T ++ rt).length ((T ++ rt).map (Value.int .i64)) by simpa using ho)
      clear ho hgrow q0' g5 g8
      go_wp2_with fail
      go_roundw
      case rel => exact ⟨k + 1, by omega, by go_num, by rw [hss.out]; exact ho2.out, hB2.out⟩
      case measure => simp [RowKit.intOf]; omega
    · obtain rfl : k = D.muts.length := by omega
      have hBs := hB.size
      have hT := Lib.hid (show (D.muts.take D.muts.length).flatten = D.muts.flatten by rw [List.take_length])
      rw [hT.out] at hown
      rw [hT.out]
      have hle := hfl'.out
      have hsG := Lib.hid (fun (x : Ext w) => (hsrcG.out.below x.below).src)
      generalize D.muts.flatten = T at *
      have hfin1 := Lib.hid (fun T2 (h : T2 = T ++ [(D.grey.length : Int)]) => (show leadsN D = T2 ++ D.grey by rw [hfin.out, h]))
      go_wp2_with (first
        | (at_builtin; refine wpList_append_own _ rfl _ _ 22 rfl w.heap.size 3 i0 (.int .i64 0) 1 8 Tryz.underlying22 hi hz0 hz1 hz2 rfl (by decide) _ _ _ rfl (hown.alloc _) ⟨wr.heap.size, 0, none⟩ 1 1 [.int .i64 (D.grey.length : Int)] rfl rfl (cell_one _ _ _) (by simp [Value.oneCell']) (by unfold maxLen; omega) (by omega) (by simp; omega) ?_; intro v' w1 hown' hgrow _; have hB2 := Lib.hid (row_below (hB.alloc hBs _) (hown.alloc _) hgrow (by simp; omega)); have g8b := cell_below hB2.out G8.out; obtain ⟨T2, hT2⟩ : ∃ T2, T2 = T ++ [(D.grey.length : Int)] := ⟨_, rfl⟩; have ho2 := Lib.hid (show w1.ownsRow w.heap.size 3 1 v' T2.length (T2.map (Value.int .i64)) by rw [hT2]; simpa using hown'); have hT2l : T2.length ≤ 1001 := (by rw [hT2]; simp; omega); have hsg := Lib.hid (hsG.out ⟨w1, hB2.out⟩); have hzB := Lib.hid hB2.out.size; have hfin2 := Lib.hid (hfin1.out T2 hT2); clear hT2 hown' hgrow hown hB hBs g5 g8)
        | (at_builtin; refine wpList_app rfl (.tmp 33) (.tmp 38) 22 rfl w.heap.size 3 (.int .i64 0) 1 8 Tryz.underlying22 info3 rfl (by decide) _ _ _ rfl ho2.out aG D.grey.length cG (D.grey.map (Value.int .i64)) rfl hsg.out (by unfold maxLen; omega) (by omega) hzB.out ?_; intro v3 w3 ho3 hgrow3; have hB3 := Lib.hid (row_below hB2.out ho2.out hgrow3 hzB.out); have ho4 := Lib.hid (show Rd w3 v3 (leadsN D) from Rd.of_owns (by rw [hfin2.out]; simpa using ho3)); clear ho3 hgrow3 g8b))
      have hP := Lib.hid (putInts_any v3 (leadsN D) (by have := hlen.out; omega) hall.out w3 ho4.out)
      refine hP.out.mono ?_
      rintro e w4 ⟨rfl, b4⟩
      go_wp2_with fail
      refine (hS.out _ _).mono ?_
      rintro e w5 ⟨rfl, b5⟩
      have hbb := Lib.hid (below_trans (below_trans hB3.out b4) b5)
      clear b4 b5
      go_wp2_with fail
      go_ret
      exact ⟨rfl, hbb.out⟩
end Go.Proofs.YtpaepkcfdnddgaaGreat

namespace Go.Proofs.YtpaepkcfdnddgaaGreat
open Go.RowKit
set_option linter.unusedVariables false
set_option linter.unusedSimpArgs false

theorem iputMagic_any (v : Value) (w : World) : Calls Tryz.prog 44 #[v] w fun e w' => e = .returned (.string ⟨#[66, 82, 77, 49]⟩) ∧ w = w' := by
  go_enter Tryz.func44, Tryz.ntmps44
  go_wp2
  go_ret
  exact ⟨rfl, rfl⟩

set_option maxRecDepth 100000 in
set_option maxHeartbeats 4000000 in
theorem iputRound_any (B : Nat) (v : Value) (D : WD) (hI : FitD D) (hM : D.muts.length ≤ 3) (w : World) (hr : RdW w v D) (hB : BoxW w B v) :
    Calls Tryz.prog 34 #[.pointer (some ⟨B, 0, none⟩)] w fun e w' => e = .returned (.string (secB 71 (ints (roundN D)))) ∧ Below w.heap.size w w' := by
  obtain ⟨vw, vd, vs, vm, vg, rfl, a1, a2, a3, a4, a5⟩ := hr
  obtain ⟨cs, he, hh⟩ := hB
  obtain rfl := (Value.agg.inj he).symm
  obtain ⟨aM, cM, rfl, hml, hy⟩ := a4
  have hS0 : (fun w' => w'.cell? ⟨B, 1, none⟩ = some (.int .i64 D.pages) ∧ w'.cell? ⟨B, 6, none⟩ = some (.int .i64 D.phase) ∧ w'.cell? ⟨B, 7, none⟩ = some (.int .i64 D.next) ∧ w'.cell? ⟨B, 5, none⟩ = some (.slice aM D.muts.length cM)) w := ⟨cell_of_heap hh 1 _ rfl, cell_of_heap hh 6 _ rfl, cell_of_heap hh 7 _ rfl, cell_of_heap hh 5 _ rfl⟩
  have hS := Lib.hid (show ∀ w', Below w.heap.size w w' → (fun w' => w'.cell? ⟨B, 1, none⟩ = some (.int .i64 D.pages) ∧ w'.cell? ⟨B, 6, none⟩ = some (.int .i64 D.phase) ∧ w'.cell? ⟨B, 7, none⟩ = some (.int .i64 D.next) ∧ w'.cell? ⟨B, 5, none⟩ = some (.slice aM D.muts.length cM)) w' from fun w' b => ⟨cell_below b hS0.1, cell_below b hS0.2.1, cell_below b hS0.2.2.1, cell_below b hS0.2.2.2⟩)
  have hall := Lib.hid (show AllI (roundN D) from fun x hx => by
    simp only [roundN, List.mem_cons, List.not_mem_nil, or_false] at hx
    rcases hx with rfl | rfl | rfl | rfl
    · exact hI.pages
    · exact hI.phase
    · exact hI.next
    · constructor <;> omega)
  have hSec := Lib.hid (fun s W => section_any 71 s W)
  clear a1 a2 a3 a5 he hh hy hI hml
  go_enter Tryz.func34, Tryz.ntmps34
  go_wp2_with fail
  refine wp_region_lateW (fun w' => w'.cell? ⟨B, 1, none⟩ = some (.int .i64 D.pages) ∧ w'.cell? ⟨B, 6, none⟩ = some (.int .i64 D.phase) ∧ w'.cell? ⟨B, 7, none⟩ = some (.int .i64 D.next) ∧ w'.cell? ⟨B, 5, none⟩ = some (.slice aM D.muts.length cM)) (fun j => j == 21 || j == 22) (by kernel_rfl) ?_
  intro w3 hw3
  have b3 := Lib.hid (show Below w.heap.size w w3 by rw [hw3]; exact below_drewN' 1)
  clear hw3
  have h0 : (fun w' => w'.cell? ⟨B, 1, none⟩ = some (.int .i64 D.pages) ∧ w'.cell? ⟨B, 6, none⟩ = some (.int .i64 D.phase) ∧ w'.cell? ⟨B, 7, none⟩ = some (.int .i64 D.next) ∧ w'.cell? ⟨B, 5, none⟩ = some (.slice aM D.muts.length cM)) w3 := hS.out w3 b3.out
  have b4 := Lib.hid (below_trans b3.out (below_box w3 (.cells #[.int .i64 D.pages, .int .i64 D.phase, .int .i64 D.next, .int .i64 (D.muts.length : Int)] 3)))
  have h1 : (fun w' => w'.cell? ⟨B, 1, none⟩ = some (.int .i64 D.pages) ∧ w'.cell? ⟨B, 6, none⟩ = some (.int .i64 D.phase) ∧ w'.cell? ⟨B, 7, none⟩ = some (.int .i64 D.next) ∧ w'.cell? ⟨B, 5, none⟩ = some (.slice aM D.muts.length cM)) (w3.alloc (.cells #[.int .i64 D.pages, .int .i64 D.phase, .int .i64 D.next, .int .i64 (D.muts.length : Int)] 3)) := hS.out _ b4.out
  have hP := Lib.hid (putInts_any (.slice (some ⟨w3.heap.size, 0, none⟩) 4 4) (roundN D) (by simp [roundN]) hall.out (w3.alloc (.cells #[.int .i64 D.pages, .int .i64 D.phase, .int .i64 D.next, .int .i64 (D.muts.length : Int)] 3)) (Rd.of_owns (L := roundN D) (cells_four w3 3 (.int .i64 D.pages) (.int .i64 D.phase) (.int .i64 D.next) (.int .i64 (D.muts.length : Int)))))
  refine wpLate_free (i := 0) (v := ?vq1) rfl (by kernel_rfl) (by kernel_rfl) (by kernel_rfl) rfl (fun _ _ _ h => h) (Or.inl ⟨by rfl, ?hyq1⟩) (fun _ => h0) ?restq1
  case hyq1 => (intro w _; go_simp; try with_reducible rfl)
  try simp only [Act.put, List.setIfInBounds_toArray, List.set_cons_zero, List.set_cons_succ]
  refine wpLate_free (i := 1) (v := ?vq2) rfl (by kernel_rfl) (by kernel_rfl) (by kernel_rfl) rfl (fun _ _ _ h => h) (Or.inl ⟨by rfl, ?hyq2⟩) (fun _ => h0) ?restq2
  case hyq2 => (intro w _; go_simp; try with_reducible rfl)
  try simp only [Act.put, List.setIfInBounds_toArray, List.set_cons_zero, List.set_cons_succ]
  refine wpLate_free (i := 2) (v := ?vq3) rfl (by kernel_rfl) (by kernel_rfl) (by kernel_rfl) rfl (fun _ _ _ h => h) (Or.inl ⟨by rfl, ?hyq3⟩) (fun _ => h0) ?restq3
  case hyq3 => (intro w _; go_simp; try with_reducible rfl)
  try simp only [Act.put, List.setIfInBounds_toArray, List.set_cons_zero, List.set_cons_succ]
  refine wpLate_take (i := 3) (v := ?vq4) rfl (by kernel_rfl) (by kernel_rfl) (by kernel_rfl) (by kernel_rfl) (fun j hj => by simp at hj; rcases hj with rfl | rfl <;> kernel_rfl) (fun _ _ _ h => h) (Or.inl ⟨by rfl, ?hyq4⟩) (by exact h0) ?restq4
  case hyq4 => (intro w hSw; (try dsimp only at hSw); obtain ⟨s0, s1, s2, s3⟩ := hSw; go_simp; try with_reducible rfl)
  try simp only [Act.put, List.setIfInBounds_toArray, List.set_cons_zero, List.set_cons_succ]
  refine wpLate_free (i := 4) (v := ?vq5) rfl (by kernel_rfl) (by kernel_rfl) (by kernel_rfl) rfl (fun _ _ _ h => h) (Or.inl ⟨by rfl, ?hyq5⟩) (fun _ => h0) ?restq5
  case hyq5 => (intro w _; go_simp; try with_reducible rfl)
  try simp only [Act.put, List.setIfInBounds_toArray, List.set_cons_zero, List.set_cons_succ]
  refine wpLate_free (i := 5) (v := ?vq6) rfl (by kernel_rfl) (by kernel_rfl) (by kernel_rfl) rfl (fun _ _ _ h => h) (Or.inl ⟨by rfl, ?hyq6⟩) (fun _ => h0) ?restq6
  case hyq6 => (intro w _; go_simp; try with_reducible rfl)
  try simp only [Act.put, List.setIfInBounds_toArray, List.set_cons_zero, List.set_cons_succ]
  refine wpLate_free (i := 6) (v := ?vq7) rfl (by kernel_rfl) (by kernel_rfl) (by kernel_rfl) rfl (fun _ _ _ h => h) (Or.inl ⟨by rfl, ?hyq7⟩) (fun _ => h0) ?restq7
  case hyq7 => (intro w _; go_simp; try with_reducible rfl)
  try simp only [Act.put, List.setIfInBounds_toArray, List.set_cons_zero, List.set_cons_succ]
  refine wpLate_free (i := 7) (v := ?vq8) rfl (by kernel_rfl) (by kernel_rfl) (by kernel_rfl) rfl (fun _ _ _ h => h) (Or.inl ⟨by rfl, ?hyq8⟩) (fun _ => h0) ?restq8
  case hyq8 => (intro w _; go_simp; try with_reducible rfl)
  try simp only [Act.put, List.setIfInBounds_toArray, List.set_cons_zero, List.set_cons_succ]
  refine wpLate_take (i := 8) (v := ?vq9) rfl (by kernel_rfl) (by kernel_rfl) (by kernel_rfl) (by kernel_rfl) (fun j hj => by simp at hj; rcases hj with rfl | rfl <;> kernel_rfl) (fun _ _ _ h => h) (Or.inl ⟨by rfl, ?hyq9⟩) (by exact h0) ?restq9
  case hyq9 => (intro w hSw; (try dsimp only at hSw); obtain ⟨s0, s1, s2, s3⟩ := hSw; go_simp; try with_reducible rfl)
  try simp only [Act.put, List.setIfInBounds_toArray, List.set_cons_zero, List.set_cons_succ]
  refine wpLate_free (i := 9) (v := ?vq10) rfl (by kernel_rfl) (by kernel_rfl) (by kernel_rfl) rfl (fun _ _ _ h => h) (Or.inl ⟨by rfl, ?hyq10⟩) (fun _ => h0) ?restq10
  case hyq10 => (intro w _; go_simp; try with_reducible rfl)
  try simp only [Act.put, List.setIfInBounds_toArray, List.set_cons_zero, List.set_cons_succ]
  refine wpLate_free (i := 10) (v := ?vq11) rfl (by kernel_rfl) (by kernel_rfl) (by kernel_rfl) rfl (fun _ _ _ h => h) (Or.inl ⟨by rfl, ?hyq11⟩) (fun _ => h0) ?restq11
  case hyq11 => (intro w _; go_simp; try with_reducible rfl)
  try simp only [Act.put, List.setIfInBounds_toArray, List.set_cons_zero, List.set_cons_succ]
  refine wpLate_free (i := 11) (v := ?vq12) rfl (by kernel_rfl) (by kernel_rfl) (by kernel_rfl) rfl (fun _ _ _ h => h) (Or.inl ⟨by rfl, ?hyq12⟩) (fun _ => h0) ?restq12
  case hyq12 => (intro w _; go_simp; try with_reducible rfl)
  try simp only [Act.put, List.setIfInBounds_toArray, List.set_cons_zero, List.set_cons_succ]
  refine wpLate_free (i := 12) (v := ?vq13) rfl (by kernel_rfl) (by kernel_rfl) (by kernel_rfl) rfl (fun _ _ _ h => h) (Or.inl ⟨by rfl, ?hyq13⟩) (fun _ => h0) ?restq13
  case hyq13 => (intro w _; go_simp; try with_reducible rfl)
  try simp only [Act.put, List.setIfInBounds_toArray, List.set_cons_zero, List.set_cons_succ]
  refine wpLate_take (i := 13) (v := ?vq14) rfl (by kernel_rfl) (by kernel_rfl) (by kernel_rfl) (by kernel_rfl) (fun j hj => by simp at hj; rcases hj with rfl | rfl <;> kernel_rfl) (fun _ _ _ h => h) (Or.inl ⟨by rfl, ?hyq14⟩) (by exact h0) ?restq14
  case hyq14 => (intro w hSw; (try dsimp only at hSw); obtain ⟨s0, s1, s2, s3⟩ := hSw; go_simp; try with_reducible rfl)
  try simp only [Act.put, List.setIfInBounds_toArray, List.set_cons_zero, List.set_cons_succ]
  refine wpLate_free (i := 14) (v := ?vq15) rfl (by kernel_rfl) (by kernel_rfl) (by kernel_rfl) rfl (fun _ _ _ h => h) (Or.inl ⟨by rfl, ?hyq15⟩) (fun _ => h0) ?restq15
  case hyq15 => (intro w _; go_simp; try with_reducible rfl)
  try simp only [Act.put, List.setIfInBounds_toArray, List.set_cons_zero, List.set_cons_succ]
  refine wpLate_free (i := 15) (v := ?vq16) rfl (by kernel_rfl) (by kernel_rfl) (by kernel_rfl) rfl (fun _ _ _ h => h) (Or.inl ⟨by rfl, ?hyq16⟩) (fun _ => h0) ?restq16
  case hyq16 => (intro w _; go_simp; try with_reducible rfl)
  try simp only [Act.put, List.setIfInBounds_toArray, List.set_cons_zero, List.set_cons_succ]
  refine wpLate_free (i := 16) (v := ?vq17) rfl (by kernel_rfl) (by kernel_rfl) (by kernel_rfl) rfl (fun _ _ _ h => h) (Or.inl ⟨by rfl, ?hyq17⟩) (fun _ => h0) ?restq17
  case hyq17 => (intro w _; go_simp; try with_reducible rfl)
  try simp only [Act.put, List.setIfInBounds_toArray, List.set_cons_zero, List.set_cons_succ]
  refine wpLate_take (i := 17) (v := ?vq18) rfl (by kernel_rfl) (by kernel_rfl) (by kernel_rfl) (by kernel_rfl) (fun j hj => by simp at hj; rcases hj with rfl | rfl <;> kernel_rfl) (fun _ _ _ h => h) (Or.inl ⟨by rfl, ?hyq18⟩) (by exact h0) ?restq18
  case hyq18 => (intro w hSw; (try dsimp only at hSw); obtain ⟨s0, s1, s2, s3⟩ := hSw; go_simp; try with_reducible rfl)
  try simp only [Act.put, List.setIfInBounds_toArray, List.set_cons_zero, List.set_cons_succ]
  refine wpLate_free (i := 18) (v := ?vq19) rfl (by kernel_rfl) (by kernel_rfl) (by kernel_rfl) rfl (fun _ _ _ h => h) (Or.inl ⟨by rfl, ?hyq19⟩) (fun _ => h0) ?restq19
  case hyq19 => (intro w _; go_simp; try with_reducible rfl)
  try simp only [Act.put, List.setIfInBounds_toArray, List.set_cons_zero, List.set_cons_succ]
  refine wpLate_all (rs := [19]) (by kernel_rfl) (by simp) ?_
  intro i hi
  simp only [List.mem_cons, List.not_mem_nil, or_false] at hi
  subst hi
  refine wpLate_step (i := 19) rfl (fun K hK => ?_)
  go_simp
  refine hK.out _ _ (fun _ => h1) ?_
  clear hK K
  try simp only [Act.put, List.setIfInBounds_toArray, List.set_cons_zero, List.set_cons_succ]
  refine wpLate_all (rs := [20]) (by kernel_rfl) (by simp) ?_
  intro i hi
  simp only [List.mem_cons, List.not_mem_nil, or_false] at hi
  subst hi
  refine wpLate_step (i := 20) rfl (fun K hK => ?_)
  go_simp
  go_wp2_with (go_at_call 84; refine hP.out.mono ?_; rintro e w5 ⟨rfl, b5x⟩; have b5 := Lib.hid (below_trans b4.out b5x); clear b5x)
  refine hK.out _ _ (fun _ => (hS.out w5 b5.out)) ?_
  clear hK K
  try simp only [Act.put, List.setIfInBounds_toArray, List.set_cons_zero, List.set_cons_succ]
  refine wpLate_all (rs := [21]) (by kernel_rfl) (by simp) ?_
  intro i hi
  simp only [List.mem_cons, List.not_mem_nil, or_false] at hi
  subst hi
  refine wpLate_step (i := 21) rfl (fun K hK => ?_)
  go_simp
  go_wp2_with (go_at_call 83; refine (hSec.out _ _).mono ?_; rintro e w6 ⟨rfl, b6x⟩; have b6 := Lib.hid (below_trans b5.out b6x); clear b6x)
  refine hK.out _ _ (fun h => Bool.noConfusion ((h 21 (by kernel_rfl)).symm.trans (show _ = true by kernel_rfl))) ?_
  clear hK K
  try simp only [Act.put, List.setIfInBounds_toArray, List.set_cons_zero, List.set_cons_succ]
  refine wpLate_all (rs := [22]) (by kernel_rfl) (by simp) ?_
  intro i hi
  simp only [List.mem_cons, List.not_mem_nil, or_false] at hi
  subst hi
  refine wpLate_step (i := 22) rfl (fun K hK => ?_)
  go_simp
  refine hK.out _ _ (fun h => Bool.noConfusion ((h 21 (by kernel_rfl)).symm.trans (show _ = true by kernel_rfl))) ?_
  clear hK K
  try simp only [Act.put, List.setIfInBounds_toArray, List.set_cons_zero, List.set_cons_succ]
  refine wpLate_done (by kernel_rfl) ?_ _
  go_wp2_with fail
  go_ret
  exact ⟨rfl, b6.out⟩
end Go.Proofs.YtpaepkcfdnddgaaGreat

namespace Go.Proofs.YtpaepkcfdnddgaaGreat
open Go.RowKit
set_option linter.unusedVariables false
set_option linter.unusedSimpArgs false

theorem cells_1 (w : World) (t : TypeId) (a : Value) : (w.alloc (.cells #[a] t)).ownsRow w.heap.size t 1 (.slice (some ⟨w.heap.size, 0, none⟩) 1 1) 1 [a] :=
  ⟨rfl, .inr ⟨w.heap.size, 1, _, rfl, Nat.le_refl _, heap_alloc_new w _, Nat.le_refl _, by decide, rfl, rfl⟩⟩
theorem src_new (w : World) (t : TypeId) (l : List Value) (h : ∀ u, u ∈ l → u.oneCell' = true) : SrcIs (w.alloc (.cells l.toArray t)) (some ⟨w.heap.size, 0, none⟩) l.length 1 l :=
  ⟨by simp, fun j u hu => ⟨_, rfl, by
    rw [show (⟨w.heap.size, 0, none⟩ : Addr).add j = ⟨w.heap.size, j, none⟩ by rw [Addr.add_lit, Nat.zero_add]]
    exact cell_of_heap (box_new w _) j u (by simpa using hu)⟩, h⟩

set_option maxRecDepth 100000 in
set_option maxHeartbeats 16000000 in
theorem iputSpans_any (B : Nat) (v : Value) (D : WD) (hF : HeapForm D) (hI : FitD D) (w : World) (hr : RdW w v D) (hB : BoxW w B v) :
    Calls Tryz.prog 35 #[.pointer (some ⟨B, 0, none⟩)] w fun e w' => e = .returned (.string (secB 83 (ints (spansP D D.spans.length)))) ∧ Below w.heap.size w w' := by
  have hsp : D.spans.length ≤ 12 := by have := hF.spans; have := hF.geo.2.2.2.2.1; omega
  have hall := Lib.hid (spansP_all hI (by omega) D.spans.length)
  have hlen := Lib.hid (fun k => spansP_len hF k)
  have hSec := Lib.hid (fun s W => section_any 83 s W)
  have hF' := Lib.hid hF
  obtain ⟨vw, vd, vs, vm, vg, rfl, a1, a2, a3, a4, a5⟩ := hr
  obtain ⟨cs, he, hh⟩ := hB
  obtain rfl := (Value.agg.inj he).symm
  obtain ⟨aS, cS, rfl, hsl, hx⟩ := a3
  have G4 := Lib.hid (cell_of_heap hh 4 (.slice aS D.spans.length cS) rfl)
  have g4 := G4.out
  have hx' := Lib.hid hx
  have hsl' := Lib.hid hsp
  obtain ⟨i0, hi, hz0, hz1, hz2⟩ := info_parts info3
  have hown0 := Lib.hid (cells_1 w 3 (.int .i64 (D.spans.length : Int)))
  have hB0 := Lib.hid (below_box w (.cells #[.int .i64 (D.spans.length : Int)] 3))
  have g4' := cell_below hB0.out G4.out
  clear a1 a2 a4 a5 he hh hx hsl hF hsp hI
  go_enter Tryz.func35, Tryz.ntmps35
  go_wp2_with fail
  clear g4 g4'
  go_loopw [3, 4, 5, 6, 20] (fun v _ _ _ i wr => ∃ k : Nat, k ≤ D.spans.length ∧ i = .int .i64 k ∧ wr.ownsRow w.heap.size 3 1 v (spansP D k).length ((spansP D k).map (Value.int .i64)) ∧ Below w.heap.size w wr) (fun _ _ _ _ i _ => D.spans.length - (RowKit.intOf i).toNat)
  case atStart => exact ⟨0, Nat.zero_le _, rfl, hown0.out, hB0.out⟩
  case round =>
    obtain ⟨k, hk, rfl, hown, hB⟩ := hrel
    have g4 := cell_below hB G4.out
    obtain ⟨av, cv, rfl⟩ := own_slice hown
    by_cases hlt : k < D.spans.length
    · obtain ⟨s, hs⟩ : ∃ s, D.spans[k]? = some s := ⟨_, List.getElem?_eq_getElem hlt⟩
      obtain ⟨b1, o1, rfl, vl, vp, q0, q1, q2, q3, q4, q5, ⟨al, cl, rfl, hll, xl⟩, ⟨ap, cp, rfl, hpl, xp⟩⟩ := hx'.out k s hs
      have hA := hF'.out.span k s hs
      have hl16 : s.lens.length ≤ 16 := by have := hA.lens; unfold sl' at this; (repeat' split at this) <;> omega
      have hpq : s.ptrs.length = s.lens.length := by have := hA.lens; have := hA.ptrs; omega
      have hlt' : (k : Int) < (D.spans.length : Int) := by omega
      have hk12 := hsl'.out
      have hss := Lib.hid (spansP_succ hs)
      have hSl := hlen.out k
      have hltH := Lib.hid hlt
      have hBH := Lib.hid hB
      have hownH := Lib.hid hown
      have Q0 := Lib.hid q0
      have Q1 := Lib.hid q1
      have Q2 := Lib.hid q2
      have Q4 := Lib.hid q4
      have Q5 := Lib.hid q5
      have xl' := Lib.hid xl
      have xp' := Lib.hid xp
      have hl16' := Lib.hid hl16
      have hpq' := Lib.hid hpq
      have q3' := cell_below hB q3
      have hspanN := Lib.hid (show spanN s = spanH s ++ slotsN s s.lens.length from rfl)
      have hspanH := Lib.hid (show spanH s = [s.page, s.cls, s.mark, if s.swept then 1 else 0] from rfl)
      clear hs hA hl16 hpq hB hown q0 q1 q2 q3 q4 q5 xl xp
      obtain ⟨P, hP⟩ : ∃ P, P = spansP D k := ⟨_, rfl⟩
      rw [← hP] at hSl hss hownH
      rw [← hP]
      clear hP
      obtain ⟨wo, rfl⟩ : ∃ wo : World, wo = wr := ⟨_, rfl⟩
      cases hsw : s.swept
      case false =>
        rw [hsw] at q3' hspanH
        clear hsw
        go_wp2_with fail
        refine wp_region_lateW (fun w' => w'.cell? ⟨b1, o1 + k * 6, none⟩ = some (.int .i64 s.page) ∧ w'.cell? ⟨b1, o1 + k * 6 + 1, none⟩ = some (.int .i64 s.cls) ∧ w'.cell? ⟨b1, o1 + k * 6 + 2, none⟩ = some (.int .i64 s.mark)) (fun j => j == 15 || j == 16) (by kernel_rfl) ?_
        intro w3 hw3
        have b3 := Lib.hid (show Below w.heap.size w w3 by rw [hw3]; exact below_trans hBH.out (below_drewN' 1))
        have own3 := Lib.hid (show w3.ownsRow w.heap.size 3 1 (.slice av P.length cv) P.length (P.map (Value.int .i64)) by rw [hw3]; exact own_below hownH.out (below_drewN' 1))
        clear hw3
        have h0 : (fun w' => w'.cell? ⟨b1, o1 + k * 6, none⟩ = some (.int .i64 s.page) ∧ w'.cell? ⟨b1, o1 + k * 6 + 1, none⟩ = some (.int .i64 s.cls) ∧ w'.cell? ⟨b1, o1 + k * 6 + 2, none⟩ = some (.int .i64 s.mark)) w3 := ⟨cell_below b3.out Q0.out, cell_below b3.out Q1.out, cell_below b3.out Q2.out⟩
        have b4 := Lib.hid (below_trans b3.out (below_box w3 (.cells #[.int .i64 s.page, .int .i64 s.cls, .int .i64 s.mark, .int .i64 0] 3)))
        have h1 : (fun w' => w'.cell? ⟨b1, o1 + k * 6, none⟩ = some (.int .i64 s.page) ∧ w'.cell? ⟨b1, o1 + k * 6 + 1, none⟩ = some (.int .i64 s.cls) ∧ w'.cell? ⟨b1, o1 + k * 6 + 2, none⟩ = some (.int .i64 s.mark)) (w3.alloc (.cells #[.int .i64 s.page, .int .i64 s.cls, .int .i64 s.mark, .int .i64 0] 3)) := ⟨cell_below b4.out Q0.out, cell_below b4.out Q1.out, cell_below b4.out Q2.out⟩
        have own4 := Lib.hid (own3.out.alloc (.cells #[.int .i64 s.page, .int .i64 s.cls, .int .i64 s.mark, .int .i64 0] 3))
        have src4 := Lib.hid (src_new w3 3 ([s.page, s.cls, s.mark, 0].map (Value.int .i64)) (by simp [Value.oneCell']))
        have z4 := Lib.hid b4.out.size
        refine wpLate_free (i := 0) (v := ?vq1) rfl (by kernel_rfl) (by kernel_rfl) (by kernel_rfl) rfl (fun _ _ _ h => h) (Or.inl ⟨by rfl, ?hyq1⟩) (fun _ => h0) ?restq1
        case hyq1 => (intro w _; go_simp; try with_reducible rfl)
        try simp only [Act.put, List.setIfInBounds_toArray, List.set_cons_zero, List.set_cons_succ]
        refine wpLate_free (i := 1) (v := ?vq2) rfl (by kernel_rfl) (by kernel_rfl) (by kernel_rfl) rfl (fun _ _ _ h => h) (Or.inl ⟨by rfl, ?hyq2⟩) (fun _ => h0) ?restq2
        case hyq2 => (intro w _; go_simp; try with_reducible rfl)
        try simp only [Act.put, List.setIfInBounds_toArray, List.set_cons_zero, List.set_cons_succ]
        refine wpLate_free (i := 2) (v := ?vq3) rfl (by kernel_rfl) (by kernel_rfl) (by kernel_rfl) rfl (fun _ _ _ h => h) (Or.inl ⟨by rfl, ?hyq3⟩) (fun _ => h0) ?restq3
        case hyq3 => (intro w _; go_simp; try with_reducible rfl)
        try simp only [Act.put, List.setIfInBounds_toArray, List.set_cons_zero, List.set_cons_succ]
        refine wpLate_free (i := 3) (v := ?vq4) rfl (by kernel_rfl) (by kernel_rfl) (by kernel_rfl) rfl (fun _ _ _ h => h) (Or.inl ⟨by rfl, ?hyq4⟩) (fun _ => h0) ?restq4
        case hyq4 => (intro w _; go_simp; try with_reducible rfl)
        try simp only [Act.put, List.setIfInBounds_toArray, List.set_cons_zero, List.set_cons_succ]
        refine wpLate_take (i := 4) (v := ?vq5) rfl (by kernel_rfl) (by kernel_rfl) (by kernel_rfl) (by kernel_rfl) (fun j hj => by simp at hj; rcases hj with rfl | rfl <;> kernel_rfl) (fun _ _ _ h => h) (Or.inl ⟨by rfl, ?hyq5⟩) (by exact h0) ?restq5
        case hyq5 => (intro w hSw; (try dsimp only at hSw); obtain ⟨s0, s1, s2⟩ := hSw; go_simp; try with_reducible rfl)
        try simp only [Act.put, List.setIfInBounds_toArray, List.set_cons_zero, List.set_cons_succ]
        refine wpLate_free (i := 5) (v := ?vq6) rfl (by kernel_rfl) (by kernel_rfl) (by kernel_rfl) rfl (fun _ _ _ h => h) (Or.inl ⟨by rfl, ?hyq6⟩) (fun _ => h0) ?restq6
        case hyq6 => (intro w _; go_simp; try with_reducible rfl)
        try simp only [Act.put, List.setIfInBounds_toArray, List.set_cons_zero, List.set_cons_succ]
        refine wpLate_free (i := 6) (v := ?vq7) rfl (by kernel_rfl) (by kernel_rfl) (by kernel_rfl) rfl (fun _ _ _ h => h) (Or.inl ⟨by rfl, ?hyq7⟩) (fun _ => h0) ?restq7
        case hyq7 => (intro w _; go_simp; try with_reducible rfl)
        try simp only [Act.put, List.setIfInBounds_toArray, List.set_cons_zero, List.set_cons_succ]
        refine wpLate_free (i := 7) (v := ?vq8) rfl (by kernel_rfl) (by kernel_rfl) (by kernel_rfl) rfl (fun _ _ _ h => h) (Or.inl ⟨by rfl, ?hyq8⟩) (fun _ => h0) ?restq8
        case hyq8 => (intro w _; go_simp; try with_reducible rfl)
        try simp only [Act.put, List.setIfInBounds_toArray, List.set_cons_zero, List.set_cons_succ]
        refine wpLate_take (i := 8) (v := ?vq9) rfl (by kernel_rfl) (by kernel_rfl) (by kernel_rfl) (by kernel_rfl) (fun j hj => by simp at hj; rcases hj with rfl | rfl <;> kernel_rfl) (fun _ _ _ h => h) (Or.inl ⟨by rfl, ?hyq9⟩) (by exact h0) ?restq9
        case hyq9 => (intro w hSw; (try dsimp only at hSw); obtain ⟨s0, s1, s2⟩ := hSw; go_simp; try with_reducible rfl)
        try simp only [Act.put, List.setIfInBounds_toArray, List.set_cons_zero, List.set_cons_succ]
        refine wpLate_free (i := 9) (v := ?vq10) rfl (by kernel_rfl) (by kernel_rfl) (by kernel_rfl) rfl (fun _ _ _ h => h) (Or.inl ⟨by rfl, ?hyq10⟩) (fun _ => h0) ?restq10
        case hyq10 => (intro w _; go_simp; try with_reducible rfl)
        try simp only [Act.put, List.setIfInBounds_toArray, List.set_cons_zero, List.set_cons_succ]
        refine wpLate_free (i := 10) (v := ?vq11) rfl (by kernel_rfl) (by kernel_rfl) (by kernel_rfl) rfl (fun _ _ _ h => h) (Or.inl ⟨by rfl, ?hyq11⟩) (fun _ => h0) ?restq11
        case hyq11 => (intro w _; go_simp; try with_reducible rfl)
        try simp only [Act.put, List.setIfInBounds_toArray, List.set_cons_zero, List.set_cons_succ]
        refine wpLate_free (i := 11) (v := ?vq12) rfl (by kernel_rfl) (by kernel_rfl) (by kernel_rfl) rfl (fun _ _ _ h => h) (Or.inl ⟨by rfl, ?hyq12⟩) (fun _ => h0) ?restq12
        case hyq12 => (intro w _; go_simp; try with_reducible rfl)
        try simp only [Act.put, List.setIfInBounds_toArray, List.set_cons_zero, List.set_cons_succ]
        refine wpLate_take (i := 12) (v := ?vq13) rfl (by kernel_rfl) (by kernel_rfl) (by kernel_rfl) (by kernel_rfl) (fun j hj => by simp at hj; rcases hj with rfl | rfl <;> kernel_rfl) (fun _ _ _ h => h) (Or.inl ⟨by rfl, ?hyq13⟩) (by exact h0) ?restq13
        case hyq13 => (intro w hSw; (try dsimp only at hSw); obtain ⟨s0, s1, s2⟩ := hSw; go_simp; try with_reducible rfl)
        try simp only [Act.put, List.setIfInBounds_toArray, List.set_cons_zero, List.set_cons_succ]
        refine wpLate_free (i := 13) (v := ?vq14) rfl (by kernel_rfl) (by kernel_rfl) (by kernel_rfl) rfl (fun _ _ _ h => h) (Or.inl ⟨by rfl, ?hyq14⟩) (fun _ => h0) ?restq14
        case hyq14 => (intro w _; go_simp; try with_reducible rfl)
        try simp only [Act.put, List.setIfInBounds_toArray, List.set_cons_zero, List.set_cons_succ]
        refine wpLate_all (rs := [14]) (by kernel_rfl) (by simp) ?_
        intro i hi
        simp only [List.mem_cons, List.not_mem_nil, or_false] at hi
        subst hi
        refine wpLate_step (i := 14) rfl (fun K hK => ?_)
        go_simp
        refine hK.out _ _ (fun _ => h1) ?_
        clear hK K
        try simp only [Act.put, List.setIfInBounds_toArray, List.set_cons_zero, List.set_cons_succ]
        refine wpLate_all (rs := [15]) (by kernel_rfl) (by simp) ?_
        intro i hi
        simp only [List.mem_cons, List.not_mem_nil, or_false] at hi
        subst hi
        refine wpLate_step (i := 15) rfl (fun K hK => ?_)
        refine step_own rfl (wp_app (.tmp 33) (.tmp 47) 22 rfl w.heap.size 3 (.int .i64 0) 1 8 Tryz.underlying22 info3 rfl (by decide) _ _ _ rfl own4.out (some ⟨w3.heap.size, 0, none⟩) 4 4 ([s.page, s.cls, s.mark, 0].map (Value.int .i64)) rfl src4.out (by unfold maxLen; omega) (by omega) z4.out ?_); intro v6 w6 q6 g6; have b6 := Lib.hid (row_below b4.out own4.out g6 z4.out); obtain ⟨T0, hT0⟩ : ∃ T0, T0 = P ++ [s.page, s.cls, s.mark, 0] := ⟨_, rfl⟩; have own6 := Lib.hid (show w6.ownsRow w.heap.size 3 1 v6 T0.length (T0.map (Value.int .i64)) by rw [hT0]; simpa using q6); have hT0' := Lib.hid hT0; clear hT0; obtain ⟨a6, c6, e6⟩ := own_slice own6.out; subst e6; clear q6 g6
        refine hK.out _ _ (fun h => Bool.noConfusion ((h 15 (by kernel_rfl)).symm.trans (show _ = true by kernel_rfl))) ?_
        clear hK K
        try simp only [Act.put, List.setIfInBounds_toArray, List.set_cons_zero, List.set_cons_succ]
        refine wpLate_all (rs := [16]) (by kernel_rfl) (by simp) ?_
        intro i hi
        simp only [List.mem_cons, List.not_mem_nil, or_false] at hi
        subst hi
        refine wpLate_step (i := 16) rfl (fun K hK => ?_)
        go_simp
        refine hK.out _ _ (fun h => Bool.noConfusion ((h 15 (by kernel_rfl)).symm.trans (show _ = true by kernel_rfl))) ?_
        clear hK K
        try simp only [Act.put, List.setIfInBounds_toArray, List.set_cons_zero, List.set_cons_succ]
        refine wpLate_done (by kernel_rfl) ?_ _
        have q4' := cell_below b6.out Q4.out
        have hT := Lib.hid (show T0.length ≤ 500 by rw [hT0'.out, List.length_append]; simp; omega)
        have hfull := Lib.hid (show P ++ spanN s = T0 ++ slotsN s s.lens.length by rw [hspanN.out, hspanH.out, hT0'.out, List.append_assoc]; rfl)
        have own7 := own6.out
        clear h0 h1
        go_wp2_with fail
        clear q4'
        go_loopw [3, 7, 8, 54] (fun v _ _ i wr => ∃ j : Nat, j ≤ s.lens.length ∧ i = .int .i64 j ∧ wr.ownsRow w.heap.size 3 1 v (T0 ++ slotsN s j).length ((T0 ++ slotsN s j).map (Value.int .i64)) ∧ Below w.heap.size w wr) (fun _ _ _ i _ => s.lens.length - (RowKit.intOf i).toNat)
        case atStart => exact ⟨0, Nat.zero_le _, rfl, by rw [slotsN_zero, List.append_nil]; exact own7, b6.out⟩
        case round =>
          obtain ⟨j, hj, rfl, hown, hB⟩ := hrel
          obtain ⟨a8, c8, e8⟩ := own_slice hown
          subst e8
          by_cases hlj : j < s.lens.length
          · obtain ⟨b2, o2, rfl, c1⟩ := xl'.out j hlj
            obtain ⟨b3y, o3y, rfl, c2⟩ := xp'.out j (by have := hpq'.out; omega)
            have q5' := cell_below hB Q5.out
            have c1' := cell_below hB c1
            have c2' := cell_below hB c2
            have hlj' : (j : Int) < (s.lens.length : Int) := by omega
            have hlp' : (j : Int) < (s.ptrs.length : Int) := by have := hpq'.out; omega
            have hs2 := slotsN_succ (s := s) (i := j) hlj (by have := hpq'.out; omega)
            have hl2 := Lib.hid (show (T0 ++ slotsN s j).length ≤ 600 by have := hT.out; have := slotsN_len s j; have := hl16'.out; rw [List.length_append]; omega)
            have hl16b := hl16'.out
            obtain ⟨T, hTe⟩ : ∃ T, T = T0 ++ slotsN s j := ⟨_, rfl⟩
            have hfin := Lib.hid (show T0 ++ slotsN s (j + 1) = T ++ [s.lens[j]?.getD 0, s.ptrs[j]?.getD 0] by rw [hs2, hTe, List.append_assoc])
            rw [← hTe] at hown hl2
            rw [← hTe]
            clear c1 c2 hs2 hTe
            generalize s.lens[j]?.getD 0 = lj at *
            generalize s.ptrs[j]?.getD 0 = pj at *
            have own8 := Lib.hid (hown.alloc (.cells #[.int .i64 lj, .int .i64 pj] 3))
            have src8 := Lib.hid (src_new wr 3 ([lj, pj].map (Value.int .i64)) (by simp [Value.oneCell']))
            have b8 := Lib.hid (below_trans hB (below_box wr (.cells #[.int .i64 lj, .int .i64 pj] 3)))
            have z8 := Lib.hid b8.out.size
            clear hown hB
            go_wp2_with (at_builtin; refine wpList_app rfl (.tmp 59) (.tmp 68) 22 rfl w.heap.size 3 (.int .i64 0) 1 8 Tryz.underlying22 info3 rfl (by decide) _ _ _ rfl own8.out (some ⟨wr.heap.size, 0, none⟩) 2 2 ([lj, pj].map (Value.int .i64)) rfl src8.out (by have := hl2.out; unfold maxLen; omega) (by have := hl2.out; omega) z8.out ?_; intro v9 w9 q9 g9; have b9 := Lib.hid (row_below b8.out own8.out g9 z8.out); have own9 := Lib.hid (show w9.ownsRow w.heap.size 3 1 v9 (T ++ [lj, pj]).length ((T ++ [lj, pj]).map (Value.int .i64)) by simpa using q9); clear q9 g9 q5' c1' c2')
            go_roundw
            case rel => exact ⟨j + 1, by omega, by go_num, by rw [hfin.out]; exact own9.out, b9.out⟩
            case measure => simp [RowKit.intOf]; omega
          · obtain rfl : j = s.lens.length := by omega
            have ho9 := Lib.hid hown
            have hB9 := Lib.hid hB
            have hltK := hltH.out
            have hk13 := hsl'.out
            clear hown hB
            go_wp2_with fail
            go_roundw
            case rel => exact ⟨k + 1, by have := hltH.out; omega, by go_num, by rw [hss.out, hfull.out]; exact ho9.out, hB9.out⟩
            case measure => (have := hltH.out; simp [RowKit.intOf]; omega)
      case true =>
        rw [hsw] at q3' hspanH
        clear hsw
        go_wp2_with fail
        refine wp_region_lateW (fun w' => w'.cell? ⟨b1, o1 + k * 6, none⟩ = some (.int .i64 s.page) ∧ w'.cell? ⟨b1, o1 + k * 6 + 1, none⟩ = some (.int .i64 s.cls) ∧ w'.cell? ⟨b1, o1 + k * 6 + 2, none⟩ = some (.int .i64 s.mark)) (fun j => j == 15 || j == 16) (by kernel_rfl) ?_
        intro w3 hw3
        have b3 := Lib.hid (show Below w.heap.size w w3 by rw [hw3]; exact below_trans hBH.out (below_drewN' 1))
        have own3 := Lib.hid (show w3.ownsRow w.heap.size 3 1 (.slice av P.length cv) P.length (P.map (Value.int .i64)) by rw [hw3]; exact own_below hownH.out (below_drewN' 1))
        clear hw3
        have h0 : (fun w' => w'.cell? ⟨b1, o1 + k * 6, none⟩ = some (.int .i64 s.page) ∧ w'.cell? ⟨b1, o1 + k * 6 + 1, none⟩ = some (.int .i64 s.cls) ∧ w'.cell? ⟨b1, o1 + k * 6 + 2, none⟩ = some (.int .i64 s.mark)) w3 := ⟨cell_below b3.out Q0.out, cell_below b3.out Q1.out, cell_below b3.out Q2.out⟩
        have b4 := Lib.hid (below_trans b3.out (below_box w3 (.cells #[.int .i64 s.page, .int .i64 s.cls, .int .i64 s.mark, .int .i64 1] 3)))
        have h1 : (fun w' => w'.cell? ⟨b1, o1 + k * 6, none⟩ = some (.int .i64 s.page) ∧ w'.cell? ⟨b1, o1 + k * 6 + 1, none⟩ = some (.int .i64 s.cls) ∧ w'.cell? ⟨b1, o1 + k * 6 + 2, none⟩ = some (.int .i64 s.mark)) (w3.alloc (.cells #[.int .i64 s.page, .int .i64 s.cls, .int .i64 s.mark, .int .i64 1] 3)) := ⟨cell_below b4.out Q0.out, cell_below b4.out Q1.out, cell_below b4.out Q2.out⟩
        have own4 := Lib.hid (own3.out.alloc (.cells #[.int .i64 s.page, .int .i64 s.cls, .int .i64 s.mark, .int .i64 1] 3))
        have src4 := Lib.hid (src_new w3 3 ([s.page, s.cls, s.mark, 1].map (Value.int .i64)) (by simp [Value.oneCell']))
        have z4 := Lib.hid b4.out.size
        refine wpLate_free (i := 0) (v := ?vq18) rfl (by kernel_rfl) (by kernel_rfl) (by kernel_rfl) rfl (fun _ _ _ h => h) (Or.inl ⟨by rfl, ?hyq18⟩) (fun _ => h0) ?restq18
        case hyq18 => (intro w _; go_simp; try with_reducible rfl)
        try simp only [Act.put, List.setIfInBounds_toArray, List.set_cons_zero, List.set_cons_succ]
        refine wpLate_free (i := 1) (v := ?vq19) rfl (by kernel_rfl) (by kernel_rfl) (by kernel_rfl) rfl (fun _ _ _ h => h) (Or.inl ⟨by rfl, ?hyq19⟩) (fun _ => h0) ?restq19
        case hyq19 => (intro w _; go_simp; try with_reducible rfl)
        try simp only [Act.put, List.setIfInBounds_toArray, List.set_cons_zero, List.set_cons_succ]
        refine wpLate_free (i := 2) (v := ?vq20) rfl (by kernel_rfl) (by kernel_rfl) (by kernel_rfl) rfl (fun _ _ _ h => h) (Or.inl ⟨by rfl, ?hyq20⟩) (fun _ => h0) ?restq20
        case hyq20 => (intro w _; go_simp; try with_reducible rfl)
        try simp only [Act.put, List.setIfInBounds_toArray, List.set_cons_zero, List.set_cons_succ]
        refine wpLate_free (i := 3) (v := ?vq21) rfl (by kernel_rfl) (by kernel_rfl) (by kernel_rfl) rfl (fun _ _ _ h => h) (Or.inl ⟨by rfl, ?hyq21⟩) (fun _ => h0) ?restq21
        case hyq21 => (intro w _; go_simp; try with_reducible rfl)
        try simp only [Act.put, List.setIfInBounds_toArray, List.set_cons_zero, List.set_cons_succ]
        refine wpLate_take (i := 4) (v := ?vq22) rfl (by kernel_rfl) (by kernel_rfl) (by kernel_rfl) (by kernel_rfl) (fun j hj => by simp at hj; rcases hj with rfl | rfl <;> kernel_rfl) (fun _ _ _ h => h) (Or.inl ⟨by rfl, ?hyq22⟩) (by exact h0) ?restq22
        case hyq22 => (intro w hSw; (try dsimp only at hSw); obtain ⟨s0, s1, s2⟩ := hSw; go_simp; try with_reducible rfl)
        try simp only [Act.put, List.setIfInBounds_toArray, List.set_cons_zero, List.set_cons_succ]
        refine wpLate_free (i := 5) (v := ?vq23) rfl (by kernel_rfl) (by kernel_rfl) (by kernel_rfl) rfl (fun _ _ _ h => h) (Or.inl ⟨by rfl, ?hyq23⟩) (fun _ => h0) ?restq23
        case hyq23 => (intro w _; go_simp; try with_reducible rfl)
        try simp only [Act.put, List.setIfInBounds_toArray, List.set_cons_zero, List.set_cons_succ]
        refine wpLate_free (i := 6) (v := ?vq24) rfl (by kernel_rfl) (by kernel_rfl) (by kernel_rfl) rfl (fun _ _ _ h => h) (Or.inl ⟨by rfl, ?hyq24⟩) (fun _ => h0) ?restq24
        case hyq24 => (intro w _; go_simp; try with_reducible rfl)
        try simp only [Act.put, List.setIfInBounds_toArray, List.set_cons_zero, List.set_cons_succ]
        refine wpLate_free (i := 7) (v := ?vq25) rfl (by kernel_rfl) (by kernel_rfl) (by kernel_rfl) rfl (fun _ _ _ h => h) (Or.inl ⟨by rfl, ?hyq25⟩) (fun _ => h0) ?restq25
        case hyq25 => (intro w _; go_simp; try with_reducible rfl)
        try simp only [Act.put, List.setIfInBounds_toArray, List.set_cons_zero, List.set_cons_succ]
        refine wpLate_take (i := 8) (v := ?vq26) rfl (by kernel_rfl) (by kernel_rfl) (by kernel_rfl) (by kernel_rfl) (fun j hj => by simp at hj; rcases hj with rfl | rfl <;> kernel_rfl) (fun _ _ _ h => h) (Or.inl ⟨by rfl, ?hyq26⟩) (by exact h0) ?restq26
        case hyq26 => (intro w hSw; (try dsimp only at hSw); obtain ⟨s0, s1, s2⟩ := hSw; go_simp; try with_reducible rfl)
        try simp only [Act.put, List.setIfInBounds_toArray, List.set_cons_zero, List.set_cons_succ]
        refine wpLate_free (i := 9) (v := ?vq27) rfl (by kernel_rfl) (by kernel_rfl) (by kernel_rfl) rfl (fun _ _ _ h => h) (Or.inl ⟨by rfl, ?hyq27⟩) (fun _ => h0) ?restq27
        case hyq27 => (intro w _; go_simp; try with_reducible rfl)
        try simp only [Act.put, List.setIfInBounds_toArray, List.set_cons_zero, List.set_cons_succ]
        refine wpLate_free (i := 10) (v := ?vq28) rfl (by kernel_rfl) (by kernel_rfl) (by kernel_rfl) rfl (fun _ _ _ h => h) (Or.inl ⟨by rfl, ?hyq28⟩) (fun _ => h0) ?restq28
        case hyq28 => (intro w _; go_simp; try with_reducible rfl)
        try simp only [Act.put, List.setIfInBounds_toArray, List.set_cons_zero, List.set_cons_succ]
        refine wpLate_free (i := 11) (v := ?vq29) rfl (by kernel_rfl) (by kernel_rfl) (by kernel_rfl) rfl (fun _ _ _ h => h) (Or.inl ⟨by rfl, ?hyq29⟩) (fun _ => h0) ?restq29
        case hyq29 => (intro w _; go_simp; try with_reducible rfl)
        try simp only [Act.put, List.setIfInBounds_toArray, List.set_cons_zero, List.set_cons_succ]
        refine wpLate_take (i := 12) (v := ?vq30) rfl (by kernel_rfl) (by kernel_rfl) (by kernel_rfl) (by kernel_rfl) (fun j hj => by simp at hj; rcases hj with rfl | rfl <;> kernel_rfl) (fun _ _ _ h => h) (Or.inl ⟨by rfl, ?hyq30⟩) (by exact h0) ?restq30
        case hyq30 => (intro w hSw; (try dsimp only at hSw); obtain ⟨s0, s1, s2⟩ := hSw; go_simp; try with_reducible rfl)
        try simp only [Act.put, List.setIfInBounds_toArray, List.set_cons_zero, List.set_cons_succ]
        refine wpLate_free (i := 13) (v := ?vq31) rfl (by kernel_rfl) (by kernel_rfl) (by kernel_rfl) rfl (fun _ _ _ h => h) (Or.inl ⟨by rfl, ?hyq31⟩) (fun _ => h0) ?restq31
        case hyq31 => (intro w _; go_simp; try with_reducible rfl)
        try simp only [Act.put, List.setIfInBounds_toArray, List.set_cons_zero, List.set_cons_succ]
        refine wpLate_all (rs := [14]) (by kernel_rfl) (by simp) ?_
        intro i hi
        simp only [List.mem_cons, List.not_mem_nil, or_false] at hi
        subst hi
        refine wpLate_step (i := 14) rfl (fun K hK => ?_)
        go_simp
        refine hK.out _ _ (fun _ => h1) ?_
        clear hK K
        try simp only [Act.put, List.setIfInBounds_toArray, List.set_cons_zero, List.set_cons_succ]
        refine wpLate_all (rs := [15]) (by kernel_rfl) (by simp) ?_
        intro i hi
        simp only [List.mem_cons, List.not_mem_nil, or_false] at hi
        subst hi
        refine wpLate_step (i := 15) rfl (fun K hK => ?_)
        refine step_own rfl (wp_app (.tmp 33) (.tmp 47) 22 rfl w.heap.size 3 (.int .i64 0) 1 8 Tryz.underlying22 info3 rfl (by decide) _ _ _ rfl own4.out (some ⟨w3.heap.size, 0, none⟩) 4 4 ([s.page, s.cls, s.mark, 1].map (Value.int .i64)) rfl src4.out (by unfold maxLen; omega) (by omega) z4.out ?_); intro v6 w6 q6 g6; have b6 := Lib.hid (row_below b4.out own4.out g6 z4.out); obtain ⟨T0, hT0⟩ : ∃ T0, T0 = P ++ [s.page, s.cls, s.mark, 1] := ⟨_, rfl⟩; have own6 := Lib.hid (show w6.ownsRow w.heap.size 3 1 v6 T0.length (T0.map (Value.int .i64)) by rw [hT0]; simpa using q6); have hT0' := Lib.hid hT0; clear hT0; obtain ⟨a6, c6, e6⟩ := own_slice own6.out; subst e6; clear q6 g6
        refine hK.out _ _ (fun h => Bool.noConfusion ((h 15 (by kernel_rfl)).symm.trans (show _ = true by kernel_rfl))) ?_
        clear hK K
        try simp only [Act.put, List.setIfInBounds_toArray, List.set_cons_zero, List.set_cons_succ]
        refine wpLate_all (rs := [16]) (by kernel_rfl) (by simp) ?_
        intro i hi
        simp only [List.mem_cons, List.not_mem_nil, or_false] at hi
        subst hi
        refine wpLate_step (i := 16) rfl (fun K hK => ?_)
        go_simp
        refine hK.out _ _ (fun h => Bool.noConfusion ((h 15 (by kernel_rfl)).symm.trans (show _ = true by kernel_rfl))) ?_
        clear hK K
        try simp only [Act.put, List.setIfInBounds_toArray, List.set_cons_zero, List.set_cons_succ]
        refine wpLate_done (by kernel_rfl) ?_ _
        have q4' := cell_below b6.out Q4.out
        have hT := Lib.hid (show T0.length ≤ 500 by rw [hT0'.out, List.length_append]; simp; omega)
        have hfull := Lib.hid (show P ++ spanN s = T0 ++ slotsN s s.lens.length by rw [hspanN.out, hspanH.out, hT0'.out, List.append_assoc]; rfl)
        have own7 := own6.out
        clear h0 h1
        go_wp2_with fail
        clear q4'
        go_loopw [3, 7, 8, 54] (fun v _ _ i wr => ∃ j : Nat, j ≤ s.lens.length ∧ i = .int .i64 j ∧ wr.ownsRow w.heap.size 3 1 v (T0 ++ slotsN s j).length ((T0 ++ slotsN s j).map (Value.int .i64)) ∧ Below w.heap.size w wr) (fun _ _ _ i _ => s.lens.length - (RowKit.intOf i).toNat)
        case atStart => exact ⟨0, Nat.zero_le _, rfl, by rw [slotsN_zero, List.append_nil]; exact own7, b6.out⟩
        case round =>
          obtain ⟨j, hj, rfl, hown, hB⟩ := hrel
          obtain ⟨a8, c8, e8⟩ := own_slice hown
          subst e8
          by_cases hlj : j < s.lens.length
          · obtain ⟨b2, o2, rfl, c1⟩ := xl'.out j hlj
            obtain ⟨b3y, o3y, rfl, c2⟩ := xp'.out j (by have := hpq'.out; omega)
            have q5' := cell_below hB Q5.out
            have c1' := cell_below hB c1
            have c2' := cell_below hB c2
            have hlj' : (j : Int) < (s.lens.length : Int) := by omega
            have hlp' : (j : Int) < (s.ptrs.length : Int) := by have := hpq'.out; omega
            have hs2 := slotsN_succ (s := s) (i := j) hlj (by have := hpq'.out; omega)
            have hl2 := Lib.hid (show (T0 ++ slotsN s j).length ≤ 600 by have := hT.out; have := slotsN_len s j; have := hl16'.out; rw [List.length_append]; omega)
            have hl16b := hl16'.out
            obtain ⟨T, hTe⟩ : ∃ T, T = T0 ++ slotsN s j := ⟨_, rfl⟩
            have hfin := Lib.hid (show T0 ++ slotsN s (j + 1) = T ++ [s.lens[j]?.getD 0, s.ptrs[j]?.getD 0] by rw [hs2, hTe, List.append_assoc])
            rw [← hTe] at hown hl2
            rw [← hTe]
            clear c1 c2 hs2 hTe
            generalize s.lens[j]?.getD 0 = lj at *
            generalize s.ptrs[j]?.getD 0 = pj at *
            have own8 := Lib.hid (hown.alloc (.cells #[.int .i64 lj, .int .i64 pj] 3))
            have src8 := Lib.hid (src_new wr 3 ([lj, pj].map (Value.int .i64)) (by simp [Value.oneCell']))
            have b8 := Lib.hid (below_trans hB (below_box wr (.cells #[.int .i64 lj, .int .i64 pj] 3)))
            have z8 := Lib.hid b8.out.size
            clear hown hB
            go_wp2_with (at_builtin; refine wpList_app rfl (.tmp 59) (.tmp 68) 22 rfl w.heap.size 3 (.int .i64 0) 1 8 Tryz.underlying22 info3 rfl (by decide) _ _ _ rfl own8.out (some ⟨wr.heap.size, 0, none⟩) 2 2 ([lj, pj].map (Value.int .i64)) rfl src8.out (by have := hl2.out; unfold maxLen; omega) (by have := hl2.out; omega) z8.out ?_; intro v9 w9 q9 g9; have b9 := Lib.hid (row_below b8.out own8.out g9 z8.out); have own9 := Lib.hid (show w9.ownsRow w.heap.size 3 1 v9 (T ++ [lj, pj]).length ((T ++ [lj, pj]).map (Value.int .i64)) by simpa using q9); clear q9 g9 q5' c1' c2')
            go_roundw
            case rel => exact ⟨j + 1, by omega, by go_num, by rw [hfin.out]; exact own9.out, b9.out⟩
            case measure => simp [RowKit.intOf]; omega
          · obtain rfl : j = s.lens.length := by omega
            have ho9 := Lib.hid hown
            have hB9 := Lib.hid hB
            have hltK := hltH.out
            have hk13 := hsl'.out
            clear hown hB
            go_wp2_with fail
            go_roundw
            case rel => exact ⟨k + 1, by have := hltH.out; omega, by go_num, by rw [hss.out, hfull.out]; exact ho9.out, hB9.out⟩
            case measure => (have := hltH.out; simp [RowKit.intOf]; omega)
    · obtain rfl : k = D.spans.length := by omega
      have ho4 := Lib.hid (Rd.of_owns hown)
      have hB2 := Lib.hid hB
      have hP := Lib.hid (putInts_any (.slice av (spansP D D.spans.length).length cv) (spansP D D.spans.length) (by have := hlen.out D.spans.length; have := hsl'.out; omega) hall.out wr ho4.out)
      clear hown hB
      go_wp2_with fail
      refine hP.out.mono ?_
      rintro e w4 ⟨rfl, b4⟩
      go_wp2_with fail
      refine (hSec.out _ _).mono ?_
      rintro e w5 ⟨rfl, b5⟩
      have hbb := Lib.hid (below_trans (below_trans hB2.out b4) b5)
      clear b4 b5
      go_wp2_with fail
      go_ret
      exact ⟨rfl, hbb.out⟩
end Go.Proofs.YtpaepkcfdnddgaaGreat

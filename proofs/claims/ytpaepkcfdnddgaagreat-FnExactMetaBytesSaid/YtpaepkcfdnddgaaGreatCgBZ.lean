import Derived.Test.YtpaepkcfdnddgaaGreatCgBY
import Derived.Test.YtpaepkcfdnddgaaGreatCgW
import Derived.Deep.RegionWith

namespace Go.Proofs.YtpaepkcfdnddgaaGreat
open Go.RowKit
set_option linter.unusedVariables false

/-- A section: the tag, the body's length, the body, its sum. -/
def secL (tag : Nat) (b : List UInt8) : List UInt8 := tag.toUInt8 :: (pi (b.length : Int) ++ b ++ putW (crc b))

theorem conv_one (W : World) (g : Nat) (x : UInt8) (h : W.cell? ⟨g, 0, none⟩ = some (.int .u8 (x.toNat : Int))) : (convert 99 9 (.slice (some ⟨g, 0, none⟩) 1 1)).run Tryz.prog W = .ok (.string ⟨#[x]⟩) W :=
  run_convert_bytes_back W 99 9 5 ⟨g, 0, none⟩ 1 [x] Tryz.underlying99 Tryz.underlying5 Tryz.underlying9 (fun j hj => by
    have : j = 0 := by simpa using hj
    subst this
    rw [add_at]
    exact h)
theorem cell_alloc1 {W w' : World} {v : Value} {t : TypeId} (h : Below (W.alloc (.cells #[v] t)).heap.size (W.alloc (.cells #[v] t)) w') : w'.cell? ⟨W.heap.size, 0, none⟩ = some v :=
  cell_below h (cell_of_heap (heap_alloc_new W _) 0 _ rfl)

theorem cell_alloc1d {W w' : World} {v : Value} {t : TypeId} (h : Below (W.alloc (.cells #[v] t)).drew.heap.size (W.alloc (.cells #[v] t)).drew w') : w'.cell? ⟨W.heap.size, 0, none⟩ = some v :=
  cell_below h (cell_of_heap (heap_alloc_new W _) 0 _ rfl)
theorem sec_b1 {w w1 w2 : World} {o : Obj} (h2 : Below w1.heap.size w1 w2) (h : Below (w.alloc o).drew.heap.size (w.alloc o).drew w1) : Below w.heap.size w w2 :=
  below_trans (below_trans (below_box w o) (show Below (w.alloc o).heap.size (w.alloc o) w1 from ⟨h.os, h.tape, h.output, h.size, h.block⟩)) h2
theorem sec_b2 {w w1 w2 : World} {o : Obj} (h2 : Below (w1.alloc o).heap.size (w1.alloc o) w2) (h : Below w.drew.heap.size w.drew w1) : Below w.heap.size w w2 :=
  below_trans (below_trans (show Below w.heap.size w w1 from ⟨h.os, h.tape, h.output, h.size, h.block⟩) (below_box w1 o)) h2
theorem sec_b3 {w w1 w2 : World} (o : Obj) (h2 : Below w1.heap.size w1 w2) (h : Below w.drew.heap.size w.drew w1) : Below w.heap.size w (w2.alloc o) :=
  below_trans (below_trans (show Below w.heap.size w w1 from ⟨h.os, h.tape, h.output, h.size, h.block⟩) h2) (below_box w2 o)
theorem sec_join (x : UInt8) (s : ByteArray) : (⟨#[x]⟩ : ByteArray) ++ ⟨(pi (s.size : Int)).toArray⟩ ++ s ++ ⟨(putW (crc s.data.toList)).toArray⟩ = ⟨(x :: (pi (s.data.toList.length : Int) ++ s.data.toList ++ putW (crc s.data.toList))).toArray⟩ := by
  apply ByteArray.ext
  apply Array.toList_inj.1
  rw [show s.data.toList.length = s.size from (by simp)]
  generalize pi (s.size : Int) = p
  generalize putW (crc s.data.toList) = q
  rw [ByteArray.data_append, ByteArray.data_append, ByteArray.data_append, Array.toList_append, Array.toList_append, Array.toList_append]
  show [x] ++ p ++ s.data.toList ++ q = x :: (p ++ s.data.toList ++ q)
  rw [List.append_assoc, List.append_assoc, List.singleton_append, List.append_assoc]
theorem sec_at (tag : Nat) (s : ByteArray) (c : Nat) (hc : c = crc s.data.toList) : (⟨(tag.toUInt8 :: (pi (s.data.toList.length : Int) ++ s.data.toList ++ putW c)).toArray⟩ : ByteArray) = ⟨(secL tag s.data.toList).toArray⟩ := by
  rw [hc]; rfl
set_option maxRecDepth 100000 in
set_option maxHeartbeats 4000000 in
theorem spec_section_yes (tag : Nat) (ht : tag < 256) (s : ByteArray) (hs : s.size ≤ 200000) (w : World) : Calls Tryz.prog 78 #[.int .i64 (tag : Int), .string s] w fun e w' => e = .returned (.string ⟨(secL tag s.data.toList).toArray⟩) ∧ Below w.heap.size w w' := by
  obtain ⟨x, hx⟩ : ∃ x : UInt8, x = tag.toUInt8 := ⟨_, rfl⟩
  have hxt : (x.toNat : Int) = tag := by rw [hx]; simp [Nat.toUInt8]; omega
  rw [← hxt]
  have hxl := x.toNat_lt
  have hwr : IntKind.u8.wrap (x.toNat : Int) = x.toNat := IntWalk.u8_in _ (by omega)
  have HT := Lib.hid hx
  clear hx hxt ht
  have hfin := sec_join x s
  obtain ⟨X, hX⟩ : ∃ X : ByteArray, X = ⟨#[x]⟩ := ⟨_, rfl⟩
  obtain ⟨P, hP⟩ : ∃ P : ByteArray, P = ⟨(pi (s.size : Int)).toArray⟩ := ⟨_, rfl⟩
  obtain ⟨Q, hQ⟩ : ∃ Q : ByteArray, Q = ⟨(putW (crc s.data.toList)).toArray⟩ := ⟨_, rfl⟩
  have hXs : X.size = 1 := by rw [hX]; rfl
  have hPs : P.size ≤ 10 := by
    rw [hP]
    have := (pi_len (n := (s.size : Int)) (by omega) (by omega)).2
    show (pi (s.size : Int)).toArray.size ≤ 10
    rw [List.size_toArray]
    exact this
  have hQs : Q.size = 4 := by rw [hQ]; rfl
  have cvr := fun W g => conv_one W g x
  have HP := Lib.hid (fun v => spec_putInt_any (s.size : Int) (by constructor <;> omega) v)
  have HC := Lib.hid (fun v => spec_crc_any s (by omega) v)
  have hcl := crc_lt s.data.toList
  obtain ⟨c, hc⟩ : ∃ c, c = crc s.data.toList := ⟨_, rfl⟩
  rw [← hc] at HC hcl hQ hfin
  have HW := Lib.hid (fun v => spec_putWord_yes c hcl v)
  rw [← hX] at cvr hfin
  rw [← hP] at HP hfin
  rw [← hQ] at HW hfin
  have e1 : X.size + P.size ≤ 9223372036854775807 := by omega
  have e2 : (X ++ P).size + s.size ≤ 9223372036854775807 := by rw [ByteArray.size_append]; omega
  have e3 : (X ++ P ++ s).size + Q.size ≤ 9223372036854775807 := by rw [ByteArray.size_append, ByteArray.size_append]; omega
  have a1 := fun W => run_string_add_sum (P := Tryz.prog) W X P e1
  have a2 := fun W => run_string_add_sum (P := Tryz.prog) W (X ++ P) s e2
  have a3 := fun W => run_string_add_sum (P := Tryz.prog) W (X ++ P ++ s) Q e3
  obtain ⟨A1, h1⟩ : ∃ A1, A1 = X ++ P := ⟨_, rfl⟩
  rw [← h1] at a1 a2 a3 hfin e2 e3
  obtain ⟨A2, h2⟩ : ∃ A2, A2 = A1 ++ s := ⟨_, rfl⟩
  rw [← h2] at a2 a3 hfin e3
  obtain ⟨A3, h3⟩ : ∃ A3, A3 = A2 ++ Q := ⟨_, rfl⟩
  rw [← h3] at a3 hfin
  have HF := Lib.hid hfin
  have Hc := Lib.hid hc
  clear hc hX hP hQ hXs hPs hQs h1 h2 h3 hfin e1 e2 e3
  go_enter Tryz.func78, Tryz.ntmps78
  go_wp2
  go_region_with (first
    | (go_at_call 76; refine (HP.out _).mono ?_; rintro e w2 ⟨rfl, hb⟩; first | (have hcx := cell_alloc1 hb) | (have hcx := cell_alloc1d hb) | (have hcx := cell_below hb hcx) | skip)
    | (go_at_call 118; refine (HW.out _).mono ?_; rintro e w2 ⟨rfl, hb⟩; first | (have hcx := cell_alloc1 hb) | (have hcx := cell_alloc1d hb) | (have hcx := cell_below hb hcx) | skip)
    | (go_at_call 119; refine (HC.out _).mono ?_; rintro e w2 ⟨rfl, rfl⟩))
  all_goals go_wp2_with fail
  all_goals go_ret
  all_goals refine ⟨by rw [HF.out, HT.out]; exact congrArg Ending.returned (congrArg Value.string (sec_at tag s c Hc.out)), ?_⟩
  all_goals first | exact sec_b1 hb (by assumption) | exact sec_b2 hb (by assumption) | exact sec_b3 _ hb (by assumption)
end Go.Proofs.YtpaepkcfdnddgaaGreat

namespace Go.Proofs.YtpaepkcfdnddgaaGreat
open Go.RowKit
set_option linter.unusedVariables false

set_option maxRecDepth 100000 in
set_option maxHeartbeats 4000000 in
theorem section_yes (tag : Nat) (ht : tag < 256) (s : ByteArray) (hs : s.size ≤ 200000) (w : World) : Calls Tryz.prog 83 #[.int .i64 (tag : Int), .string s] w fun e w' => e = .returned (.string ⟨(secL tag s.data.toList).toArray⟩) ∧ Below w.heap.size w w' := by
  obtain ⟨x, hx⟩ : ∃ x : UInt8, x = tag.toUInt8 := ⟨_, rfl⟩
  have hxt : (x.toNat : Int) = tag := by rw [hx]; simp [Nat.toUInt8]; omega
  rw [← hxt]
  have hxl := x.toNat_lt
  have hwr : IntKind.u8.wrap (x.toNat : Int) = x.toNat := IntWalk.u8_in _ (by omega)
  have HI := Lib.hid (inB_yes (n := (x.toNat : Int)) (l := 0) (h := 255) (by omega) (by omega))
  have HT := Lib.hid hx
  clear hx hxt ht
  have hfin := sec_join x s
  obtain ⟨X, hX⟩ : ∃ X : ByteArray, X = ⟨#[x]⟩ := ⟨_, rfl⟩
  obtain ⟨P, hP⟩ : ∃ P : ByteArray, P = ⟨(pi (s.size : Int)).toArray⟩ := ⟨_, rfl⟩
  obtain ⟨Q, hQ⟩ : ∃ Q : ByteArray, Q = ⟨(putW (crc s.data.toList)).toArray⟩ := ⟨_, rfl⟩
  have hXs : X.size = 1 := by rw [hX]; rfl
  have hPs : P.size ≤ 10 := by
    rw [hP]
    have := (pi_len (n := (s.size : Int)) (by omega) (by omega)).2
    show (pi (s.size : Int)).toArray.size ≤ 10
    rw [List.size_toArray]
    exact this
  have hQs : Q.size = 4 := by rw [hQ]; rfl
  have cvr := fun W g => conv_one W g x
  have HP := Lib.hid (fun v => putInt_any (s.size : Int) (by constructor <;> omega) v)
  have HC := Lib.hid (fun v => crc_any s (by omega) v)
  have hcl := crc_lt s.data.toList
  obtain ⟨c, hc⟩ : ∃ c, c = crc s.data.toList := ⟨_, rfl⟩
  rw [← hc] at HC hcl hQ hfin
  have HW := Lib.hid (fun v => putWord_yes c hcl v)
  rw [← hX] at cvr hfin
  rw [← hP] at HP hfin
  rw [← hQ] at HW hfin
  have e1 : X.size + P.size ≤ 9223372036854775807 := by omega
  have e2 : (X ++ P).size + s.size ≤ 9223372036854775807 := by rw [ByteArray.size_append]; omega
  have e3 : (X ++ P ++ s).size + Q.size ≤ 9223372036854775807 := by rw [ByteArray.size_append, ByteArray.size_append]; omega
  have a1 := fun W => run_string_add_sum (P := Tryz.prog) W X P e1
  have a2 := fun W => run_string_add_sum (P := Tryz.prog) W (X ++ P) s e2
  have a3 := fun W => run_string_add_sum (P := Tryz.prog) W (X ++ P ++ s) Q e3
  obtain ⟨A1, h1⟩ : ∃ A1, A1 = X ++ P := ⟨_, rfl⟩
  rw [← h1] at a1 a2 a3 hfin e2 e3
  obtain ⟨A2, h2⟩ : ∃ A2, A2 = A1 ++ s := ⟨_, rfl⟩
  rw [← h2] at a2 a3 hfin e3
  obtain ⟨A3, h3⟩ : ∃ A3, A3 = A2 ++ Q := ⟨_, rfl⟩
  rw [← h3] at a3 hfin
  have HF := Lib.hid hfin
  have Hc := Lib.hid hc
  clear hc hX hP hQ hXs hPs hQs h1 h2 h3 hfin e1 e2 e3
  go_enter Tryz.func83, Tryz.ntmps83
  go_wp2_with (go_at_call 100; refine (isIn_eq HI.out _).mono ?_; rintro e w' ⟨rfl, rfl⟩)
  go_region_with (first
    | (go_at_call 121; refine (HP.out _).mono ?_; rintro e w2 ⟨rfl, hb⟩; first | (have hcx := cell_alloc1 hb) | (have hcx := cell_alloc1d hb) | (have hcx := cell_below hb hcx) | skip)
    | (go_at_call 122; refine (HW.out _).mono ?_; rintro e w2 ⟨rfl, hb⟩; first | (have hcx := cell_alloc1 hb) | (have hcx := cell_alloc1d hb) | (have hcx := cell_below hb hcx) | skip)
    | (go_at_call 123; refine (HC.out _).mono ?_; rintro e w2 ⟨rfl, rfl⟩))
  all_goals go_wp2_with fail
  all_goals go_ret
  all_goals refine ⟨by rw [HF.out, HT.out]; exact congrArg Ending.returned (congrArg Value.string (sec_at tag s c Hc.out)), ?_⟩
  all_goals first | exact sec_b1 hb (by assumption) | exact sec_b2 hb (by assumption) | exact sec_b3 _ hb (by assumption)

set_option maxHeartbeats 400000 in
theorem section_no (tag : Int) (s : ByteArray) (h : tag < 0 ∨ 255 < tag ∨ 200000 < s.size) (w : World) : Calls Tryz.prog 83 #[.int .i64 tag, .string s] w fun e w' => e = .returned (.string ⟨#[]⟩) ∧ Below w.heap.size w w' := by
  by_cases h0 : 0 ≤ tag ∧ tag ≤ 255
  · have HI := Lib.hid (inB_yes h0.1 h0.2)
    have hz : 200000 < s.size := by omega
    clear h h0
    go_enter Tryz.func83, Tryz.ntmps83
    go_wp2_with (go_at_call 100; refine (isIn_eq HI.out _).mono ?_; rintro e w' ⟨rfl, rfl⟩)
    go_ret
    exact ⟨rfl, Below.refl _ _⟩
  · have HI := Lib.hid (inB_no (n := tag) (l := 0) (h := 255) (by omega))
    clear h h0
    go_enter Tryz.func83, Tryz.ntmps83
    go_wp2_with (go_at_call 100; refine (isIn_eq HI.out _).mono ?_; rintro e w' ⟨rfl, rfl⟩)
    go_ret
    exact ⟨rfl, Below.refl _ _⟩
set_option maxHeartbeats 400000 in
theorem spec_section_no (tag : Int) (s : ByteArray) (h : tag < 0 ∨ 255 < tag ∨ 200000 < s.size) (w : World) : Calls Tryz.prog 78 #[.int .i64 tag, .string s] w fun e w' => e = .returned (.string ⟨#[]⟩) ∧ Below w.heap.size w w' := by
  by_cases h0 : tag < 0
  · clear h
    go_enter Tryz.func78, Tryz.ntmps78
    go_wp2
    go_ret
    exact ⟨rfl, Below.refl _ _⟩
  by_cases h1 : 255 < tag
  · clear h
    go_enter Tryz.func78, Tryz.ntmps78
    go_wp2
    go_ret
    exact ⟨rfl, Below.refl _ _⟩
  have hz : 200000 < s.size := by omega
  clear h
  go_enter Tryz.func78, Tryz.ntmps78
  go_wp2
  go_ret
  exact ⟨rfl, Below.refl _ _⟩
/-- What Section answers. -/
def secB (tag : Int) (s : ByteArray) : ByteArray := if tag < 0 ∨ 255 < tag ∨ 200000 < s.size then ⟨#[]⟩ else ⟨(secL tag.toNat s.data.toList).toArray⟩
theorem section_any (tag : Int) (s : ByteArray) (w : World) : Calls Tryz.prog 83 #[.int .i64 tag, .string s] w fun e w' => e = .returned (.string (secB tag s)) ∧ Below w.heap.size w w' := by
  unfold secB
  by_cases h : tag < 0 ∨ 255 < tag ∨ 200000 < s.size
  · rw [if_pos h]; exact section_no tag s h w
  · rw [if_neg h]
    obtain ⟨t, rfl⟩ := Int.eq_ofNat_of_zero_le (show 0 ≤ tag by omega)
    exact section_yes t (by omega) s (by omega) w
theorem spec_section_any (tag : Int) (s : ByteArray) (w : World) : Calls Tryz.prog 78 #[.int .i64 tag, .string s] w fun e w' => e = .returned (.string (secB tag s)) ∧ Below w.heap.size w w' := by
  unfold secB
  by_cases h : tag < 0 ∨ 255 < tag ∨ 200000 < s.size
  · rw [if_pos h]; exact spec_section_no tag s h w
  · rw [if_neg h]
    obtain ⟨t, rfl⟩ := Int.eq_ofNat_of_zero_le (show 0 ≤ tag by omega)
    exact spec_section_yes t (by omega) s (by omega) w
end Go.Proofs.YtpaepkcfdnddgaaGreat

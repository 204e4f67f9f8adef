/-
  The model's numbers and lines.
-/
import Derived.Test.YtjldjeokcpjgkaaDoorTxD
import Derived.Test.YtjldjeokcpjgkaaDoorExt
import Derived.Test.YtjldjeokcpjgkaaDoorWTo
import Derived.Laws.IdiomStrings
import Derived.OneCell
namespace Go.Proofs.YtjldjeokcpjgkaaDoor
open Go.RowKit
set_option linter.unusedVariables false

def u8w (b : UInt8) : Value := .int .u8 (b.toNat : Int)
theorem str_of_one (w : World) (b : UInt8) : (convert 70 9 (.slice (some ⟨w.heap.size, 0, none⟩) 1 1)).run Tryd.prog (w.alloc (.cells #[u8w b] 5)) = .ok (.string ⟨#[b]⟩) (w.alloc (.cells #[u8w b] 5)) := by
  refine run_convert_bytes_back _ 70 9 5 ⟨w.heap.size, 0, none⟩ 1 [b] Tryd.underlying70 Tryd.underlying5 Tryd.underlying9 (fun j hj => ?_)
  obtain rfl : j = 0 := by simpa using hj
  simp [u8w, Addr.add]

set_option maxRecDepth 100000 in
set_option maxHeartbeats 4000000 in
theorem sdec_nat (u : Nat) : u ≤ 9223372036854775807 → ∀ w : World, Calls Tryd.prog 41 #[.int .i64 (u : Int)] w fun e w' => StrIs (Lib.itoa (u : Int)) e ∧ Below w.heap.size w w' := by
  induction u using Nat.strongRecOn with
  | _ u ih =>
    intro hu w
    have hb : ∃ b : UInt8, b = UInt8.ofNat (48 + u % 10) := ⟨_, rfl⟩
    obtain ⟨b, hb⟩ := hb
    have hbn : (48 : Int) + (u : Int) % 10 = (b.toNat : Int) := by
      rw [hb, UInt8.toNat_ofNat']
      omega
    have hB8 := b.toNat_lt
    have hcv := str_of_one w b
    unfold u8w at hcv
    by_cases hlt : u < 10
    · have y := Lib.hid (show StrIs (Lib.itoa (u : Int)) (.returned (.string ⟨#[b]⟩)) from ⟨_, rfl, by rw [itoa_small u hlt, hb, Nat.mod_eq_of_lt hlt]⟩)
      clear hb ih
      go_enter Tryd.func41, Tryd.ntmps41
      go_wp2_with fail
      go_ret
      exact ⟨y.out, below_box _ _⟩
    · have IH := Lib.hid (fun w => ih (u / 10) (by omega) (by omega) w)
      have hB := Lib.hid hb
      have hlt' := Lib.hid hlt
      clear hb ih
      go_enter Tryd.func41, Tryd.ntmps41
      go_wp2_with fail
      refine (IH.out _).mono ?_
      rintro e w2 ⟨⟨X, rfl, hX⟩, b2⟩
      have y := Lib.hid (show StrIs (Lib.itoa (u : Int)) (.returned (.string (X ++ ⟨#[b]⟩))) from ⟨_, rfl, by rw [itoa_big u hlt'.out, data_app, hX, hB.out]⟩)
      have hsz := Lib.hid (size_of_data hX)
      have hl := Lib.itoa_length_le ((u / 10 : Nat) : Int) (by omega) (by omega)
      have hs2 : X.size + 1 ≤ 9223372036854775807 := by have := hsz.out; omega
      have b2' := Lib.hid (below_trans (below_box _ _) b2)
      clear hX b2
      go_wp2_with fail
      go_ret
      exact ⟨y.out, b2'.out⟩

set_option maxRecDepth 100000 in
set_option maxHeartbeats 4000000 in
theorem sdec_any (n : Int) (hn : I64 n) (w : World) : Calls Tryd.prog 41 #[.int .i64 n] w fun e w' => StrIs (Lib.itoa n) e ∧ Below w.heap.size w w' := by
  by_cases h0 : 0 ≤ n
  · obtain ⟨u, rfl⟩ := Int.eq_ofNat_of_zero_le h0
    exact sdec_nat u (by have := hn.2; omega) w
  · by_cases hm : n = -9223372036854775808
    · subst hm
      have y := Lib.hid (show StrIs (Lib.itoa (-9223372036854775808)) (.returned (.string ⟨#[45, 57, 50, 50, 51, 51, 55, 50, 48, 51, 54, 56, 53, 52, 55, 55, 53, 56, 48, 56]⟩)) from ⟨_, rfl, itoa_least.symm⟩)
      clear hn h0
      go_enter Tryd.func41, Tryd.ntmps41
      go_wp2_with fail
      go_ret
      exact ⟨y.out, Below.refl _ _⟩
    · have hlo : -9223372036854775808 < n := by have := hn.1; omega
      obtain ⟨u, hu⟩ := Int.eq_ofNat_of_zero_le (show 0 ≤ -n by omega)
      have hmb : (n == -9223372036854775808) = false := beq_eq_false_iff_ne.2 hm
      have hneg : n < 0 := by omega
      have hw : IntKind.i64.wrap (-n) = (u : Int) := by rw [hu]; exact IntWalk.i64_in _ (by omega)
      have hcall := Lib.hid (fun w => sdec_nat u (by omega) w)
      have hi := Lib.hid (itoa_minus u (by omega))
      have hn' : n = -(u : Int) := by omega
      have hl := Lib.itoa_length_le (u : Int) (by omega) (by omega)
      have hN := Lib.hid hn'
      clear hn h0 hm hu hn'
      go_enter Tryd.func41, Tryd.ntmps41
      go_wp2_with fail
      refine (hcall.out _).mono ?_
      rintro e w2 ⟨⟨X, rfl, hX⟩, b2⟩
      have y := Lib.hid (show StrIs (Lib.itoa n) (.returned (.string (⟨#[45]⟩ ++ X))) from ⟨_, rfl, by rw [hN.out, hi.out, data_app, hX]; rfl⟩)
      have hs2 : 1 + X.size ≤ 9223372036854775807 := by have := size_of_data hX; omega
      have b2' := Lib.hid b2
      clear hX b2
      go_wp2_with fail
      go_ret
      exact ⟨y.out, b2'.out⟩

set_option maxRecDepth 100000 in
set_option maxHeartbeats 4000000 in
theorem sline_any (W0 : ByteArray) (word : List UInt8) (hW0 : W0.data.toList = word) (hwd : word.length ≤ 100) (L : List Int) (hL : L.length ≤ 4) (hI : AllI L) (v : Value) (w : World) (hr : Rd w v L) :
    Calls Tryd.prog 23 #[.string W0, v] w fun e w' => StrIs (lineT word L) e ∧ Below w.heap.size w w' := by
  obtain ⟨a, c, rfl, hlm, hx⟩ := hr
  have hx' := Lib.hid hx
  have hI' := Lib.hid hI
  have h0 := Lib.hid (show W0.data.toList = lineT word (L.take 0) by rw [hW0]; simp [lineT])
  have hln := Lib.hid (fun k => show (lineT word (L.take k)).length ≤ 300 by
    have h1 := lineT_len word (L.take k) (fun x hx => hI x (List.mem_of_mem_take hx))
    rw [List.length_take] at h1
    omega)
  clear hx hI hW0 hwd hlm
  go_enter Tryd.func23, Tryd.ntmps23
  go_wp2_with fail
  go_loopw [0, 5] (fun s i wr => ∃ (k : Nat) (X : ByteArray), k ≤ L.length ∧ i = .int .i64 k ∧ s = .string X ∧ Hid (X.data.toList = lineT word (L.take k)) ∧ Below w.heap.size w wr) (fun s i _ => L.length - (Go.RowKit.intOf i).toNat)
  case atStart => exact ⟨0, W0, Nat.zero_le _, rfl, rfl, h0, Below.refl _ _⟩
  case round =>
    obtain ⟨k, X, hk, rfl, rfl, hX, hB⟩ := hrel
    by_cases hlt : k < L.length
    · have hlt1 : (k : Int) < (L.length : Int) := by omega
      obtain ⟨b1, o1, rfl, x0⟩ := hx'.out k hlt
      have xk := cell_below hB x0
      have hge : L[k]?.getD 0 = L[k] := by rw [List.getElem?_eq_getElem hlt]; rfl
      have hst := Lib.hid (List.take_succ_eq_append_getElem hlt)
      have hni := hI'.out _ (List.getElem_mem hlt)
      rw [hge] at xk
      have hcall := Lib.hid (fun w => sdec_any L[k] hni w)
      have hil := Lib.hid (Lib.itoa_length_le L[k] hni.1 hni.2)
      have hsx := Lib.hid (size_of_data hX.out)
      have hk300 := Lib.hid (hln.out k)
      generalize L[k] = n at *
      have hB' := Lib.hid hB
      have s1 : X.size + 1 ≤ 9223372036854775807 := by have := hsx.out; have := hk300.out; omega
      clear x0 hge hni hB
      go_wp2_with fail
      refine (hcall.out _).mono ?_
      rintro e w2 ⟨⟨Y, rfl, hY⟩, b2⟩
      have hsy := size_of_data hY
      have hnew := Lib.hid (show (X ++ ⟨#[32]⟩ ++ Y).data.toList = lineT word (L.take (k + 1)) by rw [hst.out, lineT_snoc, data_app, data_app, hX.out, hY, List.append_assoc]; rfl)
      have s2 : (X ++ ⟨#[32]⟩).size + Y.size ≤ 9223372036854775807 := by
        rw [ByteArray.size_append]
        have h1 := hsx.out; have h2 := hk300.out; have h3 := hil.out
        have h4 : (⟨#[32]⟩ : ByteArray).size = 1 := rfl
        omega
      have hB2 := Lib.hid (below_trans hB'.out b2)
      clear hY b2 hsy xk
      go_wp2_with fail
      go_roundw
      case rel => exact ⟨k + 1, _, by omega, by go_num, rfl, hnew, hB2.out⟩
      case measure => simp [Go.RowKit.intOf]; omega
    · obtain rfl : k = L.length := by omega
      have y := Lib.hid (show StrIs (lineT word L) (.returned (.string X)) from ⟨X, rfl, by rw [hX.out, List.take_length]⟩)
      have hB' := Lib.hid hB
      clear hB
      go_wp2_with fail
      go_ret
      exact ⟨y.out, hB'.out⟩
end Go.Proofs.YtjldjeokcpjgkaaDoor

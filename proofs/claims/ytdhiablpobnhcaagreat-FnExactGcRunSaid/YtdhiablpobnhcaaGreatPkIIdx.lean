import Derived.Test.YtdhiablpobnhcaaGreatPkIContains

/-
  slices.IndexFunc at spans, with the closure of the program's sweepPhase.
-/
namespace Go.Proofs.YtdhiablpobnhcaaGreat
open Go.RowKit
set_option linter.unusedVariables false

set_option maxHeartbeats 1000000 in
theorem cunswept_any (s : SpanD) (al : Option Addr) (cl : Nat) (ap : Option Addr) (cp : Nat) (w : World) :
    Calls Tryz.prog 241 #[.agg #[.int .i64 s.page, .int .i64 s.cls, .int .i64 s.mark, .bool s.swept, .slice al s.lens.length cl, .slice ap s.ptrs.length cp]] w fun e w' => IsB (s.swept = false) e ∧ Below w.heap.size w w' := by
  have bb := Lib.hid (below_box w (.cells #[.int .i64 s.page, .int .i64 s.cls, .int .i64 s.mark, .bool s.swept, .slice al s.lens.length cl, .slice ap s.ptrs.length cp] 126))
  have y := Lib.hid (show IsB (s.swept = false) (.returned (.bool (!s.swept))) from ⟨_, rfl, by simp⟩)
  go_enter Tryz.func241, Tryz.ntmps241
  go_wp2_with fail
  go_ret
  exact ⟨y.out, bb.out⟩


set_option maxRecDepth 100000 in
set_option maxHeartbeats 4000000 in
theorem idx_unswept (v : Value) (L : List SpanD) (w : World) (hr : RdS w v L) :
    Calls Tryz.prog 209 #[v, .func (.func 241) #[] #[]] w fun e w' => ∃ r : Int, e = .returned (.int .i64 r) ∧ Hid (FirstIs L (fun s => s.swept = false) r) ∧ Below w.heap.size w w' := by
  have hr' := Lib.hid hr
  obtain ⟨aS, cS, rfl, hl, _⟩ := hr
  unfold maxLen at hl
  go_enter Tryz.func209, Tryz.ntmps209
  go_wp2_with fail
  go_loopw [8] (fun i wr => ∃ k : Nat, k ≤ L.length ∧ i = .int .i64 k ∧ Hid (∀ q t, q < k → L[q]? = some t → ¬ (fun s => s.swept = false) t) ∧ Hid (Below w.heap.size w wr)) (fun i _ => L.length - (Go.RowKit.intOf i).toNat)
  case atStart => exact ⟨0, Nat.zero_le _, rfl, Lib.hid (fun q t h => absurd h (by omega)), Lib.hid (Below.refl _ _)⟩
  case round =>
    obtain ⟨k, hk, rfl, hno, hB⟩ := hrel
    by_cases hlt : k < L.length
    · have hlt1 : (k : Int) < (L.length : Int) := by omega
      obtain ⟨s, hks⟩ : ∃ s, L[k]? = some s := ⟨_, List.getElem?_eq_getElem hlt⟩
      obtain ⟨b1, o1, rfl, vl, vp, x0, x1, x2, x3, x4, x5, ⟨al, cl, rfl, _⟩, ⟨ap, cp, rfl, _⟩⟩ := (hr'.out.below hB.out).at_ k s hks
      have hcall := Lib.hid (cunswept_any s al cl ap cp wr)
      have hks' := Lib.hid hks
      clear hks
      go_wp2_with fail
      refine hcall.out.mono ?_
      rintro e w2 ⟨hq, b2⟩
      replace hq := hq.elim
      have hB2 := Lib.hid (below_trans hB.out b2)
      clear b2 hcall x0 x1 x2 x3 x4 x5
      rcases hq with ⟨hq, rfl⟩ | ⟨hq, rfl⟩
      · have y := Lib.hid (show FirstIs L (fun s => s.swept = false) (k : Int) from .inl ⟨k, s, rfl, hks'.out, hq, hno.out⟩)
        clear hq
        go_wp2_with fail
        go_ret
        exact ⟨_, rfl, y, hB2.out⟩
      · have hn := Lib.hid (show ∀ q t, q < k + 1 → L[q]? = some t → ¬ (fun s => s.swept = false) t from fun q t hq2 ht => if e : q = k then by subst e; rw [hks'.out] at ht; cases ht; exact hq else hno.out q t (by omega) ht)
        clear hq
        go_wp2_with fail
        go_roundw
        case rel => exact ⟨k + 1, by omega, by go_num, hn, hB2⟩
        case measure => simp [Go.RowKit.intOf]; omega
    obtain rfl : k = L.length := by omega
    have y := Lib.hid (show FirstIs L (fun s => s.swept = false) (-1) from .inr ⟨rfl, fun s hs => by obtain ⟨q, hq⟩ := List.mem_iff_getElem?.1 hs; exact hno.out q s (List.getElem?_eq_some_iff.1 hq).1 hq⟩)
    go_wp2_with fail
    go_ret
    exact ⟨_, rfl, y, hB.out⟩

end Go.Proofs.YtdhiablpobnhcaaGreat

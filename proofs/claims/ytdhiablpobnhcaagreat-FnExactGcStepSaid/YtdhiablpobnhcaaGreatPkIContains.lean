import Derived.Test.YtdhiablpobnhcaaGreatPkN

/-
  slices.ContainsFunc and slices.IndexFunc at spans, with the program's closures.
-/
namespace Go.Proofs.YtdhiablpobnhcaaGreat
open Go.RowKit
set_option linter.unusedVariables false

/-- The first of L of which P holds; -1: none. -/
def FirstIs (L : List SpanD) (P : SpanD → Prop) (r : Int) : Prop := (∃ (k : Nat) (s : SpanD), r = k ∧ L[k]? = some s ∧ P s ∧ ∀ q t, q < k → L[q]? = some t → ¬ P t) ∨ (r = -1 ∧ ∀ s, s ∈ L → ¬ P s)
theorem FirstIs.ge {L : List SpanD} {P : SpanD → Prop} {r : Int} (h : FirstIs L P r) : (0 ≤ r ↔ ∃ s, s ∈ L ∧ P s) ∧ -1 ≤ r ∧ r ≤ (L.length : Int) := by
  rcases h with ⟨k, s, rfl, hs, hp, _⟩ | ⟨rfl, hn⟩
  · have := (List.getElem?_eq_some_iff.1 hs).1
    exact ⟨⟨fun _ => ⟨s, List.mem_of_getElem? hs, hp⟩, fun _ => by omega⟩, by omega, by omega⟩
  · exact ⟨⟨fun h => absurd h (by omega), fun ⟨s, hs, hp⟩ => absurd hp (hn s hs)⟩, by omega, by omega⟩

set_option maxHeartbeats 1000000 in
theorem cswept_any (s : SpanD) (al : Option Addr) (cl : Nat) (ap : Option Addr) (cp : Nat) (w : World) :
    Calls Tryz.prog 184 #[.agg #[.int .i64 s.page, .int .i64 s.cls, .int .i64 s.mark, .bool s.swept, .slice al s.lens.length cl, .slice ap s.ptrs.length cp]] w fun e w' => IsB (s.swept = true) e ∧ Below w.heap.size w w' := by
  have bb := Lib.hid (below_box w (.cells #[.int .i64 s.page, .int .i64 s.cls, .int .i64 s.mark, .bool s.swept, .slice al s.lens.length cl, .slice ap s.ptrs.length cp] 126))
  have y := Lib.hid (show IsB (s.swept = true) (.returned (.bool s.swept)) from ⟨_, rfl, Iff.rfl⟩)
  go_enter Tryz.func184, Tryz.ntmps184
  go_wp2_with fail
  go_ret
  exact ⟨y.out, bb.out⟩


set_option maxHeartbeats 1000000 in
theorem cmarked_any (s : SpanD) (al : Option Addr) (cl : Nat) (ap : Option Addr) (cp : Nat) (w : World) :
    Calls Tryz.prog 185 #[.agg #[.int .i64 s.page, .int .i64 s.cls, .int .i64 s.mark, .bool s.swept, .slice al s.lens.length cl, .slice ap s.ptrs.length cp]] w fun e w' => IsB (s.mark ≠ 0) e ∧ Below w.heap.size w w' := by
  have bb := Lib.hid (below_box w (.cells #[.int .i64 s.page, .int .i64 s.cls, .int .i64 s.mark, .bool s.swept, .slice al s.lens.length cl, .slice ap s.ptrs.length cp] 126))
  have y := Lib.hid (show IsB (s.mark ≠ 0) (.returned (.bool (s.mark != 0))) from ⟨_, rfl, bne_iff_ne⟩)
  go_enter Tryz.func185, Tryz.ntmps185
  go_wp2_with fail
  go_ret
  exact ⟨y.out, bb.out⟩


set_option maxHeartbeats 1000000 in
theorem cboth0 (pg c mk : Int) (sw : Bool) (al : Option Addr) (nl cl : Nat) (ap : Option Addr) (np cp : Nat) (w : World) :
    Calls Tryz.prog 186 #[.agg #[.int .i64 pg, .int .i64 c, .int .i64 mk, .bool sw, .slice al nl cl, .slice ap np cp]] w fun e w' => IsB (sw = true ∧ mk ≠ 0) e ∧ Below w.heap.size w w' := by
  have bb := Lib.hid (below_box w (.cells #[.int .i64 pg, .int .i64 c, .int .i64 mk, .bool sw, .slice al nl cl, .slice ap np cp] 126))
  cases sw
  · have y := Lib.hid (IsB.no (P := false = true ∧ mk ≠ 0) fun h => absurd h.1 (by decide))
    go_enter Tryz.func186, Tryz.ntmps186
    go_wp2_with fail
    go_ret
    exact ⟨y.out, bb.out⟩
  · have y := Lib.hid (show IsB (True ∧ mk ≠ 0) (.returned (.bool (mk != 0))) from ⟨_, rfl, by rw [bne_iff_ne]; simp⟩)
    go_enter Tryz.func186, Tryz.ntmps186
    go_wp2_with fail
    go_ret
    exact ⟨y.out, bb.out⟩
theorem cboth_any (s : SpanD) (al : Option Addr) (cl : Nat) (ap : Option Addr) (cp : Nat) (w : World) :
    Calls Tryz.prog 186 #[.agg #[.int .i64 s.page, .int .i64 s.cls, .int .i64 s.mark, .bool s.swept, .slice al s.lens.length cl, .slice ap s.ptrs.length cp]] w fun e w' => IsB (s.swept = true ∧ s.mark ≠ 0) e ∧ Below w.heap.size w w' := cboth0 s.page s.cls s.mark s.swept al _ cl ap _ cp w

set_option maxRecDepth 100000 in
set_option maxHeartbeats 4000000 in
theorem idx_cswept (v : Value) (L : List SpanD) (w : World) (hr : RdS w v L) :
    Calls Tryz.prog 209 #[v, .func (.func 184) #[] #[]] w fun e w' => ∃ r : Int, e = .returned (.int .i64 r) ∧ Hid (FirstIs L (fun s => s.swept = true) r) ∧ Below w.heap.size w w' := by
  have hr' := Lib.hid hr
  obtain ⟨aS, cS, rfl, hl, _⟩ := hr
  unfold maxLen at hl
  go_enter Tryz.func209, Tryz.ntmps209
  go_wp2_with fail
  go_loopw [8] (fun i wr => ∃ k : Nat, k ≤ L.length ∧ i = .int .i64 k ∧ Hid (∀ q t, q < k → L[q]? = some t → ¬ (fun s => s.swept = true) t) ∧ Hid (Below w.heap.size w wr)) (fun i _ => L.length - (Go.RowKit.intOf i).toNat)
  case atStart => exact ⟨0, Nat.zero_le _, rfl, Lib.hid (fun q t h => absurd h (by omega)), Lib.hid (Below.refl _ _)⟩
  case round =>
    obtain ⟨k, hk, rfl, hno, hB⟩ := hrel
    by_cases hlt : k < L.length
    · have hlt1 : (k : Int) < (L.length : Int) := by omega
      obtain ⟨s, hks⟩ : ∃ s, L[k]? = some s := ⟨_, List.getElem?_eq_getElem hlt⟩
      obtain ⟨b1, o1, rfl, vl, vp, x0, x1, x2, x3, x4, x5, ⟨al, cl, rfl, _⟩, ⟨ap, cp, rfl, _⟩⟩ := (hr'.out.below hB.out).at_ k s hks
      have hcall := Lib.hid (cswept_any s al cl ap cp wr)
      have hks' := Lib.hid hks
      clear hks
      go_wp2_with fail
      refine hcall.out.mono ?_
      rintro e w2 ⟨hq, b2⟩
      replace hq := hq.elim
      have hB2 := Lib.hid (below_trans hB.out b2)
      clear b2 hcall x0 x1 x2 x3 x4 x5
      rcases hq with ⟨hq, rfl⟩ | ⟨hq, rfl⟩
      · have y := Lib.hid (show FirstIs L (fun s => s.swept = true) (k : Int) from .inl ⟨k, s, rfl, hks'.out, hq, hno.out⟩)
        clear hq
        go_wp2_with fail
        go_ret
        exact ⟨_, rfl, y, hB2.out⟩
      · have hn := Lib.hid (show ∀ q t, q < k + 1 → L[q]? = some t → ¬ (fun s => s.swept = true) t from fun q t hq2 ht => if e : q = k then by subst e; rw [hks'.out] at ht; cases ht; exact hq else hno.out q t (by omega) ht)
        clear hq
        go_wp2_with fail
        go_roundw
        case rel => exact ⟨k + 1, by omega, by go_num, hn, hB2⟩
        case measure => simp [Go.RowKit.intOf]; omega
    obtain rfl : k = L.length := by omega
    have y := Lib.hid (show FirstIs L (fun s => s.swept = true) (-1) from .inr ⟨rfl, fun s hs => by obtain ⟨q, hq⟩ := List.mem_iff_getElem?.1 hs; exact hno.out q s (List.getElem?_eq_some_iff.1 hq).1 hq⟩)
    go_wp2_with fail
    go_ret
    exact ⟨_, rfl, y, hB.out⟩

set_option maxHeartbeats 1000000 in
theorem con_cswept (v : Value) (L : List SpanD) (w : World) (hr : RdS w v L) :
    Calls Tryz.prog 183 #[v, .func (.func 184) #[] #[]] w fun e w' => IsB (∃ s, s ∈ L ∧ (fun s => s.swept = true) s) e ∧ Below w.heap.size w w' := by
  have hl : L.length ≤ 9223372036854775807 := by obtain ⟨_, _, _, hl, _⟩ := hr; unfold maxLen at hl; omega
  have hcall := Lib.hid (idx_cswept v L w hr)
  clear hr
  go_enter Tryz.func183, Tryz.ntmps183
  go_wp2_with fail
  refine hcall.out.mono ?_
  rintro e w1 ⟨r, rfl, hf, b1⟩
  have y := Lib.hid (show IsB (∃ s, s ∈ L ∧ (fun s => s.swept = true) s) (.returned (.bool (decide (0 ≤ r)))) from ⟨_, rfl, by rw [decide_eq_true_iff]; exact hf.out.ge.1⟩)
  have b1' := Lib.hid b1
  clear b1 hcall hf
  go_wp2_with fail
  go_ret
  exact ⟨y.out, b1'.out⟩

set_option maxRecDepth 100000 in
set_option maxHeartbeats 4000000 in
theorem idx_cmarked (v : Value) (L : List SpanD) (w : World) (hr : RdS w v L) :
    Calls Tryz.prog 209 #[v, .func (.func 185) #[] #[]] w fun e w' => ∃ r : Int, e = .returned (.int .i64 r) ∧ Hid (FirstIs L (fun s => s.mark ≠ 0) r) ∧ Below w.heap.size w w' := by
  have hr' := Lib.hid hr
  obtain ⟨aS, cS, rfl, hl, _⟩ := hr
  unfold maxLen at hl
  go_enter Tryz.func209, Tryz.ntmps209
  go_wp2_with fail
  go_loopw [8] (fun i wr => ∃ k : Nat, k ≤ L.length ∧ i = .int .i64 k ∧ Hid (∀ q t, q < k → L[q]? = some t → ¬ (fun s => s.mark ≠ 0) t) ∧ Hid (Below w.heap.size w wr)) (fun i _ => L.length - (Go.RowKit.intOf i).toNat)
  case atStart => exact ⟨0, Nat.zero_le _, rfl, Lib.hid (fun q t h => absurd h (by omega)), Lib.hid (Below.refl _ _)⟩
  case round =>
    obtain ⟨k, hk, rfl, hno, hB⟩ := hrel
    by_cases hlt : k < L.length
    · have hlt1 : (k : Int) < (L.length : Int) := by omega
      obtain ⟨s, hks⟩ : ∃ s, L[k]? = some s := ⟨_, List.getElem?_eq_getElem hlt⟩
      obtain ⟨b1, o1, rfl, vl, vp, x0, x1, x2, x3, x4, x5, ⟨al, cl, rfl, _⟩, ⟨ap, cp, rfl, _⟩⟩ := (hr'.out.below hB.out).at_ k s hks
      have hcall := Lib.hid (cmarked_any s al cl ap cp wr)
      have hks' := Lib.hid hks
      clear hks
      go_wp2_with fail
      refine hcall.out.mono ?_
      rintro e w2 ⟨hq, b2⟩
      replace hq := hq.elim
      have hB2 := Lib.hid (below_trans hB.out b2)
      clear b2 hcall x0 x1 x2 x3 x4 x5
      rcases hq with ⟨hq, rfl⟩ | ⟨hq, rfl⟩
      · have y := Lib.hid (show FirstIs L (fun s => s.mark ≠ 0) (k : Int) from .inl ⟨k, s, rfl, hks'.out, hq, hno.out⟩)
        clear hq
        go_wp2_with fail
        go_ret
        exact ⟨_, rfl, y, hB2.out⟩
      · have hn := Lib.hid (show ∀ q t, q < k + 1 → L[q]? = some t → ¬ (fun s => s.mark ≠ 0) t from fun q t hq2 ht => if e : q = k then by subst e; rw [hks'.out] at ht; cases ht; exact hq else hno.out q t (by omega) ht)
        clear hq
        go_wp2_with fail
        go_roundw
        case rel => exact ⟨k + 1, by omega, by go_num, hn, hB2⟩
        case measure => simp [Go.RowKit.intOf]; omega
    obtain rfl : k = L.length := by omega
    have y := Lib.hid (show FirstIs L (fun s => s.mark ≠ 0) (-1) from .inr ⟨rfl, fun s hs => by obtain ⟨q, hq⟩ := List.mem_iff_getElem?.1 hs; exact hno.out q s (List.getElem?_eq_some_iff.1 hq).1 hq⟩)
    go_wp2_with fail
    go_ret
    exact ⟨_, rfl, y, hB.out⟩

set_option maxHeartbeats 1000000 in
theorem con_cmarked (v : Value) (L : List SpanD) (w : World) (hr : RdS w v L) :
    Calls Tryz.prog 183 #[v, .func (.func 185) #[] #[]] w fun e w' => IsB (∃ s, s ∈ L ∧ (fun s => s.mark ≠ 0) s) e ∧ Below w.heap.size w w' := by
  have hl : L.length ≤ 9223372036854775807 := by obtain ⟨_, _, _, hl, _⟩ := hr; unfold maxLen at hl; omega
  have hcall := Lib.hid (idx_cmarked v L w hr)
  clear hr
  go_enter Tryz.func183, Tryz.ntmps183
  go_wp2_with fail
  refine hcall.out.mono ?_
  rintro e w1 ⟨r, rfl, hf, b1⟩
  have y := Lib.hid (show IsB (∃ s, s ∈ L ∧ (fun s => s.mark ≠ 0) s) (.returned (.bool (decide (0 ≤ r)))) from ⟨_, rfl, by rw [decide_eq_true_iff]; exact hf.out.ge.1⟩)
  have b1' := Lib.hid b1
  clear b1 hcall hf
  go_wp2_with fail
  go_ret
  exact ⟨y.out, b1'.out⟩

set_option maxRecDepth 100000 in
set_option maxHeartbeats 4000000 in
theorem idx_cboth (v : Value) (L : List SpanD) (w : World) (hr : RdS w v L) :
    Calls Tryz.prog 209 #[v, .func (.func 186) #[] #[]] w fun e w' => ∃ r : Int, e = .returned (.int .i64 r) ∧ Hid (FirstIs L (fun s => s.swept = true ∧ s.mark ≠ 0) r) ∧ Below w.heap.size w w' := by
  have hr' := Lib.hid hr
  obtain ⟨aS, cS, rfl, hl, _⟩ := hr
  unfold maxLen at hl
  go_enter Tryz.func209, Tryz.ntmps209
  go_wp2_with fail
  go_loopw [8] (fun i wr => ∃ k : Nat, k ≤ L.length ∧ i = .int .i64 k ∧ Hid (∀ q t, q < k → L[q]? = some t → ¬ (fun s => s.swept = true ∧ s.mark ≠ 0) t) ∧ Hid (Below w.heap.size w wr)) (fun i _ => L.length - (Go.RowKit.intOf i).toNat)
  case atStart => exact ⟨0, Nat.zero_le _, rfl, Lib.hid (fun q t h => absurd h (by omega)), Lib.hid (Below.refl _ _)⟩
  case round =>
    obtain ⟨k, hk, rfl, hno, hB⟩ := hrel
    by_cases hlt : k < L.length
    · have hlt1 : (k : Int) < (L.length : Int) := by omega
      obtain ⟨s, hks⟩ : ∃ s, L[k]? = some s := ⟨_, List.getElem?_eq_getElem hlt⟩
      obtain ⟨b1, o1, rfl, vl, vp, x0, x1, x2, x3, x4, x5, ⟨al, cl, rfl, _⟩, ⟨ap, cp, rfl, _⟩⟩ := (hr'.out.below hB.out).at_ k s hks
      have hcall := Lib.hid (cboth_any s al cl ap cp wr)
      have hks' := Lib.hid hks
      clear hks
      go_wp2_with fail
      refine hcall.out.mono ?_
      rintro e w2 ⟨hq, b2⟩
      replace hq := hq.elim
      have hB2 := Lib.hid (below_trans hB.out b2)
      clear b2 hcall x0 x1 x2 x3 x4 x5
      rcases hq with ⟨hq, rfl⟩ | ⟨hq, rfl⟩
      · have y := Lib.hid (show FirstIs L (fun s => s.swept = true ∧ s.mark ≠ 0) (k : Int) from .inl ⟨k, s, rfl, hks'.out, hq, hno.out⟩)
        clear hq
        go_wp2_with fail
        go_ret
        exact ⟨_, rfl, y, hB2.out⟩
      · have hn := Lib.hid (show ∀ q t, q < k + 1 → L[q]? = some t → ¬ (fun s => s.swept = true ∧ s.mark ≠ 0) t from fun q t hq2 ht => if e : q = k then by subst e; rw [hks'.out] at ht; cases ht; exact hq else hno.out q t (by omega) ht)
        clear hq
        go_wp2_with fail
        go_roundw
        case rel => exact ⟨k + 1, by omega, by go_num, hn, hB2⟩
        case measure => simp [Go.RowKit.intOf]; omega
    obtain rfl : k = L.length := by omega
    have y := Lib.hid (show FirstIs L (fun s => s.swept = true ∧ s.mark ≠ 0) (-1) from .inr ⟨rfl, fun s hs => by obtain ⟨q, hq⟩ := List.mem_iff_getElem?.1 hs; exact hno.out q s (List.getElem?_eq_some_iff.1 hq).1 hq⟩)
    go_wp2_with fail
    go_ret
    exact ⟨_, rfl, y, hB.out⟩

set_option maxHeartbeats 1000000 in
theorem con_cboth (v : Value) (L : List SpanD) (w : World) (hr : RdS w v L) :
    Calls Tryz.prog 183 #[v, .func (.func 186) #[] #[]] w fun e w' => IsB (∃ s, s ∈ L ∧ (fun s => s.swept = true ∧ s.mark ≠ 0) s) e ∧ Below w.heap.size w w' := by
  have hl : L.length ≤ 9223372036854775807 := by obtain ⟨_, _, _, hl, _⟩ := hr; unfold maxLen at hl; omega
  have hcall := Lib.hid (idx_cboth v L w hr)
  clear hr
  go_enter Tryz.func183, Tryz.ntmps183
  go_wp2_with fail
  refine hcall.out.mono ?_
  rintro e w1 ⟨r, rfl, hf, b1⟩
  have y := Lib.hid (show IsB (∃ s, s ∈ L ∧ (fun s => s.swept = true ∧ s.mark ≠ 0) s) (.returned (.bool (decide (0 ≤ r)))) from ⟨_, rfl, by rw [decide_eq_true_iff]; exact hf.out.ge.1⟩)
  have b1' := Lib.hid b1
  clear b1 hcall hf
  go_wp2_with fail
  go_ret
  exact ⟨y.out, b1'.out⟩
end Go.Proofs.YtdhiablpobnhcaaGreat

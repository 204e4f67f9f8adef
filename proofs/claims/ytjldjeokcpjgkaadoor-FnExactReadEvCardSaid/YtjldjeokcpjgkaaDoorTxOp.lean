/-
  The model's l11op and EvText.
-/
import Derived.Test.YtjldjeokcpjgkaaDoorTxS
namespace Go.Proofs.YtjldjeokcpjgkaaDoor
open Go.RowKit
set_option linter.unusedVariables false

theorem rd_built (w : World) (L : List Int) (hL : L.length ≤ maxLen) (c B : Nat) (hB : B = w.heap.size) : Rd (w.alloc (.cells (L.map (Value.int .i64)).toArray 3)) (.slice (some ⟨B, 0, none⟩) L.length c) L :=
  ⟨_, _, rfl, hL, fun j hj => ⟨_, 0, rfl, by
    rw [Nat.zero_add, hB]
    exact cell_of_heap (box_new w _) j _ (by simp [List.getElem?_eq_getElem hj])⟩⟩
set_option maxRecDepth 100000 in
set_option maxHeartbeats 8000000 in
theorem sopText_any (E : EvD) (hf : FitE E) (w : World) : Calls Tryd.prog 22 #[.agg #[.int .i64 E.ok, .int .i64 E.m, .int .i64 E.h, .int .i64 E.g, .int .i64 E.i, .int .i64 E.n, .int .i64 E.v]] w fun e w' => StrIs (lineT (opL E).1 ((opL E).2.map (·.2))) e ∧ Below w.heap.size w w' := by
  obtain ⟨k, ok, m, h, g, i, n, v, en, base, pages⟩ := E
  have hf' := Lib.hid hf
  clear hf
  dsimp only
  have bb := Lib.hid (below_box w (.cells #[.int .i64 ok, .int .i64 m, .int .i64 h, .int .i64 g, .int .i64 i, .int .i64 n, .int .i64 v] 27))
  by_cases h1 : ok = 1
  · subst h1
    have hT := Lib.hid (show lineT (opL ⟨k, 1, m, h, g, i, n, v, en, base, pages⟩).1 ((opL ⟨k, 1, m, h, g, i, n, v, en, base, pages⟩).2.map (·.2)) = lineT [97, 108, 108, 111, 99] [m, h, n, v] by simp [opL])
    rw [hT.out]
    have hcall := Lib.hid (sline_any ⟨#[97, 108, 108, 111, 99]⟩ [97, 108, 108, 111, 99] rfl (by decide) [m, h, n, v] (by simp) (by intro x hx; simp only [List.mem_cons, List.not_mem_nil, or_false] at hx; rcases hx with rfl | rfl | rfl | rfl <;> first | exact hf'.out.m | exact hf'.out.h | exact hf'.out.n | exact hf'.out.v) _ ((w.alloc (.cells #[.int .i64 1, .int .i64 m, .int .i64 h, .int .i64 g, .int .i64 i, .int .i64 n, .int .i64 v] 27)).alloc (.cells #[.int .i64 m, .int .i64 h, .int .i64 n, .int .i64 v] 3)) (rd_built (w.alloc (.cells #[.int .i64 1, .int .i64 m, .int .i64 h, .int .i64 g, .int .i64 i, .int .i64 n, .int .i64 v] 27)) [m, h, n, v] (by simp [maxLen]) 4 (w.heap.size + 1) (World.size_alloc ..).symm))
    clear hf'
    go_enter Tryd.func22, Tryd.ntmps22
    go_wp2_with fail
    refine hcall.out.mono ?_
    rintro e w2 ⟨⟨X, rfl, hX⟩, b2⟩
    have y := Lib.hid hX
    have b2' := Lib.hid (below_trans (below_trans bb.out (below_box _ _)) b2)
    clear hX b2
    go_wp2_with fail
    go_ret
    exact ⟨⟨X, rfl, y.out⟩, b2'.out⟩
  by_cases h2 : ok = 2
  · subst h2
    have hT := Lib.hid (show lineT (opL ⟨k, 2, m, h, g, i, n, v, en, base, pages⟩).1 ((opL ⟨k, 2, m, h, g, i, n, v, en, base, pages⟩).2.map (·.2)) = lineT [108, 111, 97, 100] [m, h, i, g] by simp [opL])
    rw [hT.out]
    have hcall := Lib.hid (sline_any ⟨#[108, 111, 97, 100]⟩ [108, 111, 97, 100] rfl (by decide) [m, h, i, g] (by simp) (by intro x hx; simp only [List.mem_cons, List.not_mem_nil, or_false] at hx; rcases hx with rfl | rfl | rfl | rfl <;> first | exact hf'.out.m | exact hf'.out.h | exact hf'.out.i | exact hf'.out.g) _ ((w.alloc (.cells #[.int .i64 2, .int .i64 m, .int .i64 h, .int .i64 g, .int .i64 i, .int .i64 n, .int .i64 v] 27)).alloc (.cells #[.int .i64 m, .int .i64 h, .int .i64 i, .int .i64 g] 3)) (rd_built (w.alloc (.cells #[.int .i64 2, .int .i64 m, .int .i64 h, .int .i64 g, .int .i64 i, .int .i64 n, .int .i64 v] 27)) [m, h, i, g] (by simp [maxLen]) 4 (w.heap.size + 1) (World.size_alloc ..).symm))
    clear h1
    go_enter Tryd.func22, Tryd.ntmps22
    go_wp2_with fail
    refine hcall.out.mono ?_
    rintro e w2 ⟨⟨X, rfl, hX⟩, b2⟩
    have y := Lib.hid hX
    have b2' := Lib.hid (below_trans (below_trans bb.out (below_box _ _)) b2)
    clear hX b2
    go_wp2_with fail
    go_ret
    exact ⟨⟨X, rfl, y.out⟩, b2'.out⟩
  by_cases h3 : ok = 3
  · subst h3
    have hT := Lib.hid (show lineT (opL ⟨k, 3, m, h, g, i, n, v, en, base, pages⟩).1 ((opL ⟨k, 3, m, h, g, i, n, v, en, base, pages⟩).2.map (·.2)) = lineT [115, 116, 111, 114, 101] [m, h, i, g] by simp [opL])
    rw [hT.out]
    have hcall := Lib.hid (sline_any ⟨#[115, 116, 111, 114, 101]⟩ [115, 116, 111, 114, 101] rfl (by decide) [m, h, i, g] (by simp) (by intro x hx; simp only [List.mem_cons, List.not_mem_nil, or_false] at hx; rcases hx with rfl | rfl | rfl | rfl <;> first | exact hf'.out.m | exact hf'.out.h | exact hf'.out.i | exact hf'.out.g) _ ((w.alloc (.cells #[.int .i64 3, .int .i64 m, .int .i64 h, .int .i64 g, .int .i64 i, .int .i64 n, .int .i64 v] 27)).alloc (.cells #[.int .i64 m, .int .i64 h, .int .i64 i, .int .i64 g] 3)) (rd_built (w.alloc (.cells #[.int .i64 3, .int .i64 m, .int .i64 h, .int .i64 g, .int .i64 i, .int .i64 n, .int .i64 v] 27)) [m, h, i, g] (by simp [maxLen]) 4 (w.heap.size + 1) (World.size_alloc ..).symm))
    clear h1 h2
    go_enter Tryd.func22, Tryd.ntmps22
    go_wp2_with fail
    refine hcall.out.mono ?_
    rintro e w2 ⟨⟨X, rfl, hX⟩, b2⟩
    have y := Lib.hid hX
    have b2' := Lib.hid (below_trans (below_trans bb.out (below_box _ _)) b2)
    clear hX b2
    go_wp2_with fail
    go_ret
    exact ⟨⟨X, rfl, y.out⟩, b2'.out⟩
  by_cases h4 : ok = 4
  · subst h4
    have hT := Lib.hid (show lineT (opL ⟨k, 4, m, h, g, i, n, v, en, base, pages⟩).1 ((opL ⟨k, 4, m, h, g, i, n, v, en, base, pages⟩).2.map (·.2)) = lineT [115, 101, 116] [m, h, i, v] by simp [opL])
    rw [hT.out]
    have hcall := Lib.hid (sline_any ⟨#[115, 101, 116]⟩ [115, 101, 116] rfl (by decide) [m, h, i, v] (by simp) (by intro x hx; simp only [List.mem_cons, List.not_mem_nil, or_false] at hx; rcases hx with rfl | rfl | rfl | rfl <;> first | exact hf'.out.m | exact hf'.out.h | exact hf'.out.i | exact hf'.out.v) _ ((w.alloc (.cells #[.int .i64 4, .int .i64 m, .int .i64 h, .int .i64 g, .int .i64 i, .int .i64 n, .int .i64 v] 27)).alloc (.cells #[.int .i64 m, .int .i64 h, .int .i64 i, .int .i64 v] 3)) (rd_built (w.alloc (.cells #[.int .i64 4, .int .i64 m, .int .i64 h, .int .i64 g, .int .i64 i, .int .i64 n, .int .i64 v] 27)) [m, h, i, v] (by simp [maxLen]) 4 (w.heap.size + 1) (World.size_alloc ..).symm))
    clear h1 h2 h3
    go_enter Tryd.func22, Tryd.ntmps22
    go_wp2_with fail
    refine hcall.out.mono ?_
    rintro e w2 ⟨⟨X, rfl, hX⟩, b2⟩
    have y := Lib.hid hX
    have b2' := Lib.hid (below_trans (below_trans bb.out (below_box _ _)) b2)
    clear hX b2
    go_wp2_with fail
    go_ret
    exact ⟨⟨X, rfl, y.out⟩, b2'.out⟩
  by_cases h5 : ok = 5
  · subst h5
    have hT := Lib.hid (show lineT (opL ⟨k, 5, m, h, g, i, n, v, en, base, pages⟩).1 ((opL ⟨k, 5, m, h, g, i, n, v, en, base, pages⟩).2.map (·.2)) = lineT [103, 101, 116] [m, h, i] by simp [opL])
    rw [hT.out]
    have hcall := Lib.hid (sline_any ⟨#[103, 101, 116]⟩ [103, 101, 116] rfl (by decide) [m, h, i] (by simp) (by intro x hx; simp only [List.mem_cons, List.not_mem_nil, or_false] at hx; rcases hx with rfl | rfl | rfl <;> first | exact hf'.out.m | exact hf'.out.h | exact hf'.out.i) _ ((w.alloc (.cells #[.int .i64 5, .int .i64 m, .int .i64 h, .int .i64 g, .int .i64 i, .int .i64 n, .int .i64 v] 27)).alloc (.cells #[.int .i64 m, .int .i64 h, .int .i64 i] 3)) (rd_built (w.alloc (.cells #[.int .i64 5, .int .i64 m, .int .i64 h, .int .i64 g, .int .i64 i, .int .i64 n, .int .i64 v] 27)) [m, h, i] (by simp [maxLen]) 3 (w.heap.size + 1) (World.size_alloc ..).symm))
    clear h1 h2 h3 h4
    go_enter Tryd.func22, Tryd.ntmps22
    go_wp2_with fail
    refine hcall.out.mono ?_
    rintro e w2 ⟨⟨X, rfl, hX⟩, b2⟩
    have y := Lib.hid hX
    have b2' := Lib.hid (below_trans (below_trans bb.out (below_box _ _)) b2)
    clear hX b2
    go_wp2_with fail
    go_ret
    exact ⟨⟨X, rfl, y.out⟩, b2'.out⟩
  by_cases h6 : ok = 6
  · subst h6
    have hT := Lib.hid (show lineT (opL ⟨k, 6, m, h, g, i, n, v, en, base, pages⟩).1 ((opL ⟨k, 6, m, h, g, i, n, v, en, base, pages⟩).2.map (·.2)) = lineT [100, 114, 111, 112] [m, h] by simp [opL])
    rw [hT.out]
    have hcall := Lib.hid (sline_any ⟨#[100, 114, 111, 112]⟩ [100, 114, 111, 112] rfl (by decide) [m, h] (by simp) (by intro x hx; simp only [List.mem_cons, List.not_mem_nil, or_false] at hx; rcases hx with rfl | rfl <;> first | exact hf'.out.m | exact hf'.out.h) _ ((w.alloc (.cells #[.int .i64 6, .int .i64 m, .int .i64 h, .int .i64 g, .int .i64 i, .int .i64 n, .int .i64 v] 27)).alloc (.cells #[.int .i64 m, .int .i64 h] 3)) (rd_built (w.alloc (.cells #[.int .i64 6, .int .i64 m, .int .i64 h, .int .i64 g, .int .i64 i, .int .i64 n, .int .i64 v] 27)) [m, h] (by simp [maxLen]) 2 (w.heap.size + 1) (World.size_alloc ..).symm))
    clear h1 h2 h3 h4 h5
    go_enter Tryd.func22, Tryd.ntmps22
    go_wp2_with fail
    refine hcall.out.mono ?_
    rintro e w2 ⟨⟨X, rfl, hX⟩, b2⟩
    have y := Lib.hid hX
    have b2' := Lib.hid (below_trans (below_trans bb.out (below_box _ _)) b2)
    clear hX b2
    go_wp2_with fail
    go_ret
    exact ⟨⟨X, rfl, y.out⟩, b2'.out⟩
  by_cases h7 : ok = 7
  · subst h7
    have hT := Lib.hid (show lineT (opL ⟨k, 7, m, h, g, i, n, v, en, base, pages⟩).1 ((opL ⟨k, 7, m, h, g, i, n, v, en, base, pages⟩).2.map (·.2)) = lineT [115, 97, 109, 101] [m, h, g] by simp [opL])
    rw [hT.out]
    have hcall := Lib.hid (sline_any ⟨#[115, 97, 109, 101]⟩ [115, 97, 109, 101] rfl (by decide) [m, h, g] (by simp) (by intro x hx; simp only [List.mem_cons, List.not_mem_nil, or_false] at hx; rcases hx with rfl | rfl | rfl <;> first | exact hf'.out.m | exact hf'.out.h | exact hf'.out.g) _ ((w.alloc (.cells #[.int .i64 7, .int .i64 m, .int .i64 h, .int .i64 g, .int .i64 i, .int .i64 n, .int .i64 v] 27)).alloc (.cells #[.int .i64 m, .int .i64 h, .int .i64 g] 3)) (rd_built (w.alloc (.cells #[.int .i64 7, .int .i64 m, .int .i64 h, .int .i64 g, .int .i64 i, .int .i64 n, .int .i64 v] 27)) [m, h, g] (by simp [maxLen]) 3 (w.heap.size + 1) (World.size_alloc ..).symm))
    clear h1 h2 h3 h4 h5 h6
    go_enter Tryd.func22, Tryd.ntmps22
    go_wp2_with fail
    refine hcall.out.mono ?_
    rintro e w2 ⟨⟨X, rfl, hX⟩, b2⟩
    have y := Lib.hid hX
    have b2' := Lib.hid (below_trans (below_trans bb.out (below_box _ _)) b2)
    clear hX b2
    go_wp2_with fail
    go_ret
    exact ⟨⟨X, rfl, y.out⟩, b2'.out⟩
  by_cases h8 : ok = 8
  · subst h8
    have hT := Lib.hid (show lineT (opL ⟨k, 8, m, h, g, i, n, v, en, base, pages⟩).1 ((opL ⟨k, 8, m, h, g, i, n, v, en, base, pages⟩).2.map (·.2)) = lineT [99, 111, 112, 121] [m, h, g] by simp [opL])
    rw [hT.out]
    have hcall := Lib.hid (sline_any ⟨#[99, 111, 112, 121]⟩ [99, 111, 112, 121] rfl (by decide) [m, h, g] (by simp) (by intro x hx; simp only [List.mem_cons, List.not_mem_nil, or_false] at hx; rcases hx with rfl | rfl | rfl <;> first | exact hf'.out.m | exact hf'.out.h | exact hf'.out.g) _ ((w.alloc (.cells #[.int .i64 8, .int .i64 m, .int .i64 h, .int .i64 g, .int .i64 i, .int .i64 n, .int .i64 v] 27)).alloc (.cells #[.int .i64 m, .int .i64 h, .int .i64 g] 3)) (rd_built (w.alloc (.cells #[.int .i64 8, .int .i64 m, .int .i64 h, .int .i64 g, .int .i64 i, .int .i64 n, .int .i64 v] 27)) [m, h, g] (by simp [maxLen]) 3 (w.heap.size + 1) (World.size_alloc ..).symm))
    clear h1 h2 h3 h4 h5 h6 h7
    go_enter Tryd.func22, Tryd.ntmps22
    go_wp2_with fail
    refine hcall.out.mono ?_
    rintro e w2 ⟨⟨X, rfl, hX⟩, b2⟩
    have y := Lib.hid hX
    have b2' := Lib.hid (below_trans (below_trans bb.out (below_box _ _)) b2)
    clear hX b2
    go_wp2_with fail
    go_ret
    exact ⟨⟨X, rfl, y.out⟩, b2'.out⟩
  by_cases h9 : ok = 9
  · subst h9
    have hT := Lib.hid (show lineT (opL ⟨k, 9, m, h, g, i, n, v, en, base, pages⟩).1 ((opL ⟨k, 9, m, h, g, i, n, v, en, base, pages⟩).2.map (·.2)) = lineT [108, 101, 110] [m, h] by simp [opL])
    rw [hT.out]
    have hcall := Lib.hid (sline_any ⟨#[108, 101, 110]⟩ [108, 101, 110] rfl (by decide) [m, h] (by simp) (by intro x hx; simp only [List.mem_cons, List.not_mem_nil, or_false] at hx; rcases hx with rfl | rfl <;> first | exact hf'.out.m | exact hf'.out.h) _ ((w.alloc (.cells #[.int .i64 9, .int .i64 m, .int .i64 h, .int .i64 g, .int .i64 i, .int .i64 n, .int .i64 v] 27)).alloc (.cells #[.int .i64 m, .int .i64 h] 3)) (rd_built (w.alloc (.cells #[.int .i64 9, .int .i64 m, .int .i64 h, .int .i64 g, .int .i64 i, .int .i64 n, .int .i64 v] 27)) [m, h] (by simp [maxLen]) 2 (w.heap.size + 1) (World.size_alloc ..).symm))
    clear h1 h2 h3 h4 h5 h6 h7 h8
    go_enter Tryd.func22, Tryd.ntmps22
    go_wp2_with fail
    refine hcall.out.mono ?_
    rintro e w2 ⟨⟨X, rfl, hX⟩, b2⟩
    have y := Lib.hid hX
    have b2' := Lib.hid (below_trans (below_trans bb.out (below_box _ _)) b2)
    clear hX b2
    go_wp2_with fail
    go_ret
    exact ⟨⟨X, rfl, y.out⟩, b2'.out⟩
  have hT := Lib.hid (show lineT (opL ⟨k, ok, m, h, g, i, n, v, en, base, pages⟩).1 ((opL ⟨k, ok, m, h, g, i, n, v, en, base, pages⟩).2.map (·.2)) = [] by simp [opL, lineT, h1, h2, h3, h4, h5, h6, h7, h8, h9])
  rw [hT.out]
  have d1 : (ok == 1) = false := beq_eq_false_iff_ne.2 h1
  have d2 : (ok == 2) = false := beq_eq_false_iff_ne.2 h2
  have d3 : (ok == 3) = false := beq_eq_false_iff_ne.2 h3
  have d4 : (ok == 4) = false := beq_eq_false_iff_ne.2 h4
  have d5 : (ok == 5) = false := beq_eq_false_iff_ne.2 h5
  have d6 : (ok == 6) = false := beq_eq_false_iff_ne.2 h6
  have d7 : (ok == 7) = false := beq_eq_false_iff_ne.2 h7
  have d8 : (ok == 8) = false := beq_eq_false_iff_ne.2 h8
  have d9 : (ok == 9) = false := beq_eq_false_iff_ne.2 h9
  have y := Lib.hid (show StrIs [] (.returned (.string ⟨#[]⟩)) from ⟨_, rfl, rfl⟩)
  clear h1 h2 h3 h4 h5 h6 h7 h8 h9
  go_enter Tryd.func22, Tryd.ntmps22
  go_wp2_with fail
  go_ret
  exact ⟨y.out, bb.out⟩

set_option maxRecDepth 100000 in
set_option maxHeartbeats 8000000 in
theorem sevText_any (E : EvD) (hf : FitE E) (w : World) : Calls Tryd.prog 7 #[.agg #[.int .i64 E.k, .int .i64 E.ok, .int .i64 E.m, .int .i64 E.h, .int .i64 E.g, .int .i64 E.i, .int .i64 E.n, .int .i64 E.v, .int .i64 E.en, .int .i64 E.base, .int .i64 E.pages]] w fun e w' => StrIs (lineT (evL E).1 ((evL E).2.map (·.2))) e ∧ Below w.heap.size w w' := by
  obtain ⟨k, ok, m, h, g, i, n, v, en, base, pages⟩ := E
  have hf' := Lib.hid hf
  clear hf
  dsimp only
  have bb := Lib.hid (below_box w (.cells #[.int .i64 k, .int .i64 ok, .int .i64 m, .int .i64 h, .int .i64 g, .int .i64 i, .int .i64 n, .int .i64 v, .int .i64 en, .int .i64 base, .int .i64 pages] 29))
  by_cases h1 : k = 1
  · subst h1
    have hcall := Lib.hid (fun W => sopText_any ⟨1, ok, m, h, g, i, n, v, en, base, pages⟩ hf'.out W)
    have hT := Lib.hid (show lineT (evL ⟨1, ok, m, h, g, i, n, v, en, base, pages⟩).1 ((evL ⟨1, ok, m, h, g, i, n, v, en, base, pages⟩).2.map (·.2)) = lineT (opL ⟨1, ok, m, h, g, i, n, v, en, base, pages⟩).1 ((opL ⟨1, ok, m, h, g, i, n, v, en, base, pages⟩).2.map (·.2)) by simp [evL])
    rw [hT.out]
    dsimp only at hcall
    go_enter Tryd.func7, Tryd.ntmps7
    go_wp2_with fail
    refine (hcall.out _).mono ?_
    rintro e w2 ⟨⟨X, rfl, hX⟩, b2⟩
    have y := Lib.hid hX
    have b2' := Lib.hid (below_trans bb.out b2)
    clear hX b2
    go_wp2_with fail
    go_ret
    exact ⟨⟨X, rfl, y.out⟩, b2'.out⟩
  by_cases h2 : k = 2
  · subst h2
    have hT := Lib.hid (show lineT (evL ⟨2, ok, m, h, g, i, n, v, en, base, pages⟩).1 ((evL ⟨2, ok, m, h, g, i, n, v, en, base, pages⟩).2.map (·.2)) = lineT [115, 116, 97, 114, 116] [] by simp [evL])
    rw [hT.out]
    have y := Lib.hid (show StrIs (lineT [115, 116, 97, 114, 116] []) (.returned (.string ⟨#[115, 116, 97, 114, 116]⟩)) from ⟨_, rfl, rfl⟩)
    clear h1
    go_enter Tryd.func7, Tryd.ntmps7
    go_wp2_with fail
    go_ret
    exact ⟨y.out, bb.out⟩
  by_cases h3 : k = 3
  · subst h3
    have hT := Lib.hid (show lineT (evL ⟨3, ok, m, h, g, i, n, v, en, base, pages⟩).1 ((evL ⟨3, ok, m, h, g, i, n, v, en, base, pages⟩).2.map (·.2)) = lineT [115, 116, 101, 112, 115] [en] by simp [evL])
    rw [hT.out]
    have hcall := Lib.hid (sline_any ⟨#[115, 116, 101, 112, 115]⟩ [115, 116, 101, 112, 115] rfl (by decide) [en] (by simp) (by intro x hx; simp only [List.mem_cons, List.not_mem_nil, or_false] at hx; rcases hx with rfl <;> first | exact hf'.out.en) _ ((w.alloc (.cells #[.int .i64 3, .int .i64 ok, .int .i64 m, .int .i64 h, .int .i64 g, .int .i64 i, .int .i64 n, .int .i64 v, .int .i64 en, .int .i64 base, .int .i64 pages] 29)).alloc (.cells #[.int .i64 en] 3)) (rd_built (w.alloc (.cells #[.int .i64 3, .int .i64 ok, .int .i64 m, .int .i64 h, .int .i64 g, .int .i64 i, .int .i64 n, .int .i64 v, .int .i64 en, .int .i64 base, .int .i64 pages] 29)) [en] (by simp [maxLen]) 1 (w.heap.size + 1) (World.size_alloc ..).symm))
    clear h1 h2
    go_enter Tryd.func7, Tryd.ntmps7
    go_wp2_with fail
    refine hcall.out.mono ?_
    rintro e w2 ⟨⟨X, rfl, hX⟩, b2⟩
    have y := Lib.hid hX
    have b2' := Lib.hid (below_trans (below_trans bb.out (below_box _ _)) b2)
    clear hX b2
    go_wp2_with fail
    go_ret
    exact ⟨⟨X, rfl, y.out⟩, b2'.out⟩
  by_cases h4 : k = 4
  · subst h4
    have hT := Lib.hid (show lineT (evL ⟨4, ok, m, h, g, i, n, v, en, base, pages⟩).1 ((evL ⟨4, ok, m, h, g, i, n, v, en, base, pages⟩).2.map (·.2)) = lineT [109, 111, 118, 101] [base, pages] by simp [evL])
    rw [hT.out]
    have hcall := Lib.hid (sline_any ⟨#[109, 111, 118, 101]⟩ [109, 111, 118, 101] rfl (by decide) [base, pages] (by simp) (by intro x hx; simp only [List.mem_cons, List.not_mem_nil, or_false] at hx; rcases hx with rfl | rfl <;> first | exact hf'.out.base | exact hf'.out.pages) _ ((w.alloc (.cells #[.int .i64 4, .int .i64 ok, .int .i64 m, .int .i64 h, .int .i64 g, .int .i64 i, .int .i64 n, .int .i64 v, .int .i64 en, .int .i64 base, .int .i64 pages] 29)).alloc (.cells #[.int .i64 base, .int .i64 pages] 3)) (rd_built (w.alloc (.cells #[.int .i64 4, .int .i64 ok, .int .i64 m, .int .i64 h, .int .i64 g, .int .i64 i, .int .i64 n, .int .i64 v, .int .i64 en, .int .i64 base, .int .i64 pages] 29)) [base, pages] (by simp [maxLen]) 2 (w.heap.size + 1) (World.size_alloc ..).symm))
    clear h1 h2 h3
    go_enter Tryd.func7, Tryd.ntmps7
    go_wp2_with fail
    refine hcall.out.mono ?_
    rintro e w2 ⟨⟨X, rfl, hX⟩, b2⟩
    have y := Lib.hid hX
    have b2' := Lib.hid (below_trans (below_trans bb.out (below_box _ _)) b2)
    clear hX b2
    go_wp2_with fail
    go_ret
    exact ⟨⟨X, rfl, y.out⟩, b2'.out⟩
  by_cases h5 : k = 5
  · subst h5
    have hT := Lib.hid (show lineT (evL ⟨5, ok, m, h, g, i, n, v, en, base, pages⟩).1 ((evL ⟨5, ok, m, h, g, i, n, v, en, base, pages⟩).2.map (·.2)) = lineT [102, 117, 108, 108] [] by simp [evL])
    rw [hT.out]
    have y := Lib.hid (show StrIs (lineT [102, 117, 108, 108] []) (.returned (.string ⟨#[102, 117, 108, 108]⟩)) from ⟨_, rfl, rfl⟩)
    clear h1 h2 h3 h4
    go_enter Tryd.func7, Tryd.ntmps7
    go_wp2_with fail
    go_ret
    exact ⟨y.out, bb.out⟩
  by_cases h6 : k = 6
  · subst h6
    have hT := Lib.hid (show lineT (evL ⟨6, ok, m, h, g, i, n, v, en, base, pages⟩).1 ((evL ⟨6, ok, m, h, g, i, n, v, en, base, pages⟩).2.map (·.2)) = lineT [100, 101, 108, 116, 97] [] by simp [evL])
    rw [hT.out]
    have y := Lib.hid (show StrIs (lineT [100, 101, 108, 116, 97] []) (.returned (.string ⟨#[100, 101, 108, 116, 97]⟩)) from ⟨_, rfl, rfl⟩)
    clear h1 h2 h3 h4 h5
    go_enter Tryd.func7, Tryd.ntmps7
    go_wp2_with fail
    go_ret
    exact ⟨y.out, bb.out⟩
  by_cases h7 : k = 7
  · subst h7
    have hT := Lib.hid (show lineT (evL ⟨7, ok, m, h, g, i, n, v, en, base, pages⟩).1 ((evL ⟨7, ok, m, h, g, i, n, v, en, base, pages⟩).2.map (·.2)) = lineT [99, 114, 97, 115, 104] [en] by simp [evL])
    rw [hT.out]
    have hcall := Lib.hid (sline_any ⟨#[99, 114, 97, 115, 104]⟩ [99, 114, 97, 115, 104] rfl (by decide) [en] (by simp) (by intro x hx; simp only [List.mem_cons, List.not_mem_nil, or_false] at hx; rcases hx with rfl <;> first | exact hf'.out.en) _ ((w.alloc (.cells #[.int .i64 7, .int .i64 ok, .int .i64 m, .int .i64 h, .int .i64 g, .int .i64 i, .int .i64 n, .int .i64 v, .int .i64 en, .int .i64 base, .int .i64 pages] 29)).alloc (.cells #[.int .i64 en] 3)) (rd_built (w.alloc (.cells #[.int .i64 7, .int .i64 ok, .int .i64 m, .int .i64 h, .int .i64 g, .int .i64 i, .int .i64 n, .int .i64 v, .int .i64 en, .int .i64 base, .int .i64 pages] 29)) [en] (by simp [maxLen]) 1 (w.heap.size + 1) (World.size_alloc ..).symm))
    clear h1 h2 h3 h4 h5 h6
    go_enter Tryd.func7, Tryd.ntmps7
    go_wp2_with fail
    refine hcall.out.mono ?_
    rintro e w2 ⟨⟨X, rfl, hX⟩, b2⟩
    have y := Lib.hid hX
    have b2' := Lib.hid (below_trans (below_trans bb.out (below_box _ _)) b2)
    clear hX b2
    go_wp2_with fail
    go_ret
    exact ⟨⟨X, rfl, y.out⟩, b2'.out⟩
  have hT := Lib.hid (show lineT (evL ⟨k, ok, m, h, g, i, n, v, en, base, pages⟩).1 ((evL ⟨k, ok, m, h, g, i, n, v, en, base, pages⟩).2.map (·.2)) = [] by simp [evL, lineT, h1, h2, h3, h4, h5, h6, h7])
  rw [hT.out]
  have d1 : (k == 1) = false := beq_eq_false_iff_ne.2 h1
  have d2 : (k == 2) = false := beq_eq_false_iff_ne.2 h2
  have d3 : (k == 3) = false := beq_eq_false_iff_ne.2 h3
  have d4 : (k == 4) = false := beq_eq_false_iff_ne.2 h4
  have d5 : (k == 5) = false := beq_eq_false_iff_ne.2 h5
  have d6 : (k == 6) = false := beq_eq_false_iff_ne.2 h6
  have d7 : (k == 7) = false := beq_eq_false_iff_ne.2 h7
  have y := Lib.hid (show StrIs [] (.returned (.string ⟨#[]⟩)) from ⟨_, rfl, rfl⟩)
  clear h1 h2 h3 h4 h5 h6 h7
  go_enter Tryd.func7, Tryd.ntmps7
  go_wp2_with fail
  go_ret
  exact ⟨y.out, bb.out⟩

end Go.Proofs.YtjldjeokcpjgkaaDoor

import Derived.Test.YtpcefecedmdmkaaPkIWith

/-
  The contract of the program's withSpan: a row of spans with one more, in new memory.
-/
namespace Go.Proofs.Ytpcefecedmdmkaa
open Go.RowKit
set_option linter.unusedVariables false

set_option maxRecDepth 100000 in
set_option maxHeartbeats 8000000 in
theorem withSpan_any (A : Option Addr) (n c k : Nat) (xs : List Value) (s : SpanD) (a3 a4 : Option Addr) (n3 n4 c3 c4 : Nat) (hn : n ≤ c) (hc : c ≤ maxLen) (hn2 : n ≤ 1000) (hk : k ≤ n) (w : World) (h : SrcIs w A n 6 xs) :
    Calls Try.prog 76 #[.slice A n c, .int .i64 k, .agg #[.int .i64 s.page, .int .i64 s.cls, .int .i64 s.mark, .bool s.swept, .slice a3 n3 c3, .slice a4 n4 c4]] w fun e w' => ∃ v, e = .returned v ∧ w'.ownsRow w.heap.size 60 6 v (n + 1) (xs.take (k * 6) ++ spanCv s (.slice a3 n3 c3, .slice a4 n4 c4) ++ xs.drop (k * 6)) ∧ Below w.heap.size w w' := by
  obtain ⟨A1, hs1, sr1⟩ := cut_to3 h (show k ≤ n by omega) hn
  obtain ⟨A2, hs2, sr2⟩ := cut_from h (show k ≤ n by omega) hn (k : Int) rfl
  have bb := below_box w (.cells #[.int .i64 s.page, .int .i64 s.cls, .int .i64 s.mark, .bool s.swept, .slice a3 n3 c3, .slice a4 n4 c4] 60)
  have bn := box_new w (.cells #[.int .i64 s.page, .int .i64 s.cls, .int .i64 s.mark, .bool s.swept, .slice a3 n3 c3, .slice a4 n4 c4] 60)
  have d0 := cell_of_heap bn 0 _ rfl
  have d1 := cell_of_heap bn 1 _ rfl
  have d2 := cell_of_heap bn 2 _ rfl
  have d3 := cell_of_heap bn 3 _ rfl
  have d4 := cell_of_heap bn 4 _ rfl
  have d5 := cell_of_heap bn 5 _ rfl
  have sr1 := Lib.hid (sr1.below bb)
  have sr2 := Lib.hid (sr2.below bb)
  have bb' := Lib.hid (show Below w.heap.size w (w.alloc (.cells #[.int .i64 s.page, .int .i64 s.cls, .int .i64 s.mark, .bool s.swept, .slice a3 n3 c3, .slice a4 n4 c4] 60)) from bb)
  have hk1 : k ≤ 1000 := by omega
  have hkm : n - k ≤ 1000 := by omega
  have hkn := Lib.hid (show k + 1 + (n - k) = n + 1 by omega)
  clear h hk hn hc bb bn
  go_enter Try.func76, Try.ntmps76
  go_wp2_with fail
  generalize w.alloc (.cells #[.int .i64 s.page, .int .i64 s.cls, .int .i64 s.mark, .bool s.swept, .slice a3 n3 c3, .slice a4 n4 c4] 60) = W0 at *
  have b1 := Lib.hid (show Below W0.heap.size W0 (W0.alloc (.cells #[.int .i64 s.page, .int .i64 s.cls, .int .i64 s.mark, .bool s.swept, .slice a3 n3 c3, .slice a4 n4 c4] 60)).drew from below_drewN (below_box W0 (.cells #[.int .i64 s.page, .int .i64 s.cls, .int .i64 s.mark, .bool s.swept, .slice a3 n3 c3, .slice a4 n4 c4] 60)) 1)
  have r1 := Lib.hid (sr1.out.below b1.out)
  have r2 := Lib.hid (show SrcIs (W0.alloc (.cells #[.int .i64 s.page, .int .i64 s.cls, .int .i64 s.mark, .bool s.swept, .slice a3 n3 c3, .slice a4 n4 c4] 60)).drew (some ⟨W0.heap.size, 0, none⟩) 1 6 (spanCv s (.slice a3 n3 c3, .slice a4 n4 c4)) from (src_box W0 (cs := #[.int .i64 s.page, .int .i64 s.cls, .int .i64 s.mark, .bool s.swept, .slice a3 n3 c3, .slice a4 n4 c4]) (T := 60) (m := 1) (size := 6) rfl (fun u hu => by
    simp only [List.mem_cons, List.not_mem_nil, or_false] at hu
    rcases hu with rfl | rfl | rfl | rfl | rfl | rfl <;> rfl)).drew)
  go_region_law (first
    | (refine step_own rfl (wp_full (.tmp 11) (.tmp 13) 27 rfl 60 (.agg #[.int .i64 0, .int .i64 0, .int .i64 0, .bool false, .slice none 0 0, .slice none 0 0]) 6 80 Try.underlying27 infoSpan (by rfl) (by decide) A1 k (xs.take (k * 6)) rfl r1.out (some ⟨W0.heap.size, 0, none⟩) 1 1 (spanCv s (.slice a3 n3 c3, .slice a4 n4 c4)) rfl r2.out (by unfold maxLen; omega) (by omega) (fun h => absurd h (by decide)) ?_); intro v1 w1 hm p1 h1; obtain ⟨a5, c5, rfl⟩ := own_slice p1; have p1' := Lib.hid p1; have b2 := Lib.hid (show Below W0.heap.size W0 w1 from b1.out.grown h1 b1.out.size (fun q hq => (by cases hq))); have r3 := Lib.hid (sr2.out.below b2.out); have le1 := Lib.hid (show (W0.alloc (.cells #[.int .i64 s.page, .int .i64 s.cls, .int .i64 s.mark, .bool s.swept, .slice a3 n3 c3, .slice a4 n4 c4] 60)).drew.heap.size ≤ w1.heap.size from h1.size); clear p1 h1 hm))
  all_goals clear d0 d1 d2 d3 d4 d5
  all_goals go_wp2_with (first
    | (refine wpList_app rfl (.tmp 15) (.tmp 18) 27 rfl (W0.alloc (.cells #[.int .i64 s.page, .int .i64 s.cls, .int .i64 s.mark, .bool s.swept, .slice a3 n3 c3, .slice a4 n4 c4] 60)).drew.heap.size 60 (.agg #[.int .i64 0, .int .i64 0, .int .i64 0, .bool false, .slice none 0 0, .slice none 0 0]) 6 80 Try.underlying27 infoSpan (by rfl) (by decide) (.slice a5 (k + 1) c5) (k + 1) _ rfl p1'.out A2 (n - k) (c - k) _ rfl r3.out (by unfold maxLen; omega) (by omega) le1.out ?_; intro v2 w2 p2 h2; obtain ⟨a6, c6, rfl⟩ := own_slice p2; have p2' := Lib.hid p2; have b3 := Lib.hid (show Below W0.heap.size W0 w2 from b2.out.grown h2 b2.out.size (fun q hq => (by have := (p1'.out.lt q hq).1; have := b1.out.size; omega))); clear p2 h2))
  all_goals go_ret
  all_goals have hz := bb'.out.size
  all_goals have hz1 := b1.out.size
  all_goals refine ⟨.slice a6 (k + 1 + (n - k)) c6, rfl, ?_, bb'.out.trans (b3.out.mono hz)⟩
  all_goals have := own_base p2'.out (show w.heap.size ≤ (W0.alloc (.cells #[.int .i64 s.page, .int .i64 s.cls, .int .i64 s.mark, .bool s.swept, .slice a3 n3 c3, .slice a4 n4 c4] 60)).drew.heap.size by omega)
  all_goals rw [hkn.out, List.append_assoc] at this
  all_goals rw [hkn.out]
  all_goals first | exact this | (rw [List.append_assoc]; exact this)
end Go.Proofs.Ytpcefecedmdmkaa

/-
  The contract of the model's l3put.
-/
import Derived.Test.YtajogfnlbdiokaaSPut
import Derived.Test.YtajogfnlbdiokaaSDrop
namespace Go.Proofs.Ytajogfnlbdiokaa
open Go.RowKit
set_option linter.unusedVariables false

set_option maxRecDepth 100000 in
set_option maxHeartbeats 4000000 in
theorem sput_any (base : Nat) (u0 : Value) (L : List Int) (x : Int) (ha : Asc L) (hl : L.length ≤ 1048576) (w : World) (hbase : base ≤ w.heap.size) (hown : w.ownsRow base 3 1 u0 L.length (L.map (Value.int .i64))) :
    Calls Try.prog 143 #[u0, .int .i64 x] w fun e w' => ∃ u R, PutIs L x R ∧ e = .returned u ∧ w'.ownsRow base 3 1 u R.length (R.map (Value.int .i64)) ∧ Below w.heap.size w w' := by
  obtain ⟨a, c, rfl⟩ := own_slice hown
  have ha' := Lib.hid ha
  have hown0 := Lib.hid hown
  have hr' := Lib.hid (Rd.of_owns hown)
  obtain ⟨i0, hi, hz0, hz1, hz2⟩ := info_parts info3
  have hb' := Lib.hid hbase
  clear ha hown hbase
  go_enter Try.func143, Try.ntmps143
  go_wp2_with fail
  go_loopw [5, 6, 7] (fun v d i wr => ∃ (k : Nat) (f : Bool) (O : List Int), k ≤ L.length ∧ i = .int .i64 k ∧ d = .bool f ∧ Hid (PutSt L x k f O) ∧ wr.ownsRow w.heap.size 3 1 v O.length (O.map (Value.int .i64)) ∧ Below w.heap.size w wr) (fun v d i _ => L.length - (intOf i).toNat)
  case atStart => exact ⟨0, false, [], Nat.zero_le _, rfl, rfl, .inl ⟨rfl, rfl, fun y hy => by simp at hy⟩, World.ownsRow_nil _ _ _ _, Below.refl _ _⟩
  case round =>
    obtain ⟨k, f, O, hk, rfl, rfl, st, hown, hB⟩ := hrel
    have hBs := hB.size
    have hle := st.out.len hk
    by_cases hlt : k < L.length
    · obtain ⟨a', c', he, hll, xl⟩ := hr'.out
      obtain ⟨b, o, rfl, xj0⟩ := xl k hlt
      have hc := Lib.hid (fun (w' : World) (hb : Below w.heap.size w w') => cell_below hb xj0)
      have xj := hc.out _ hB
      clear xj0
      obtain ⟨rfl, rfl⟩ : some (⟨b, o, none⟩ : Addr) = a ∧ c' = c := by simp at he; exact ⟨he.1.symm, he.2.symm⟩
      have hlt1 : (k : Int) < (L.length : Int) := by omega
      clear he xl hll
      by_cases hx : L[k]?.getD 0 = x
      · have y := Lib.hid (PutIs.found ha'.out hlt hx)
        rw [hx] at xj
        have hB' := Lib.hid hB
        clear hB hown hx
        go_wp2_with fail
        go_ret
        exact ⟨_, _, y.out, rfl, own_chg hown0.out (Chg.of_below hB'.out []) (fun q hq => by simp), hB'.out⟩
      cases f
      · have s1 := Lib.hid (fun h => st.out.low hlt h)
        have s2 := Lib.hid (fun h => st.out.here hlt h)
        generalize L[k]?.getD 0 = y at *
        have hxb : (y == x) = false := beq_eq_false_iff_ne.2 hx
        by_cases hxy : x < y
        · have st2 := Lib.hid (s2.out hxy)
          clear st s1 s2
          go_upto_region 10 with (at_builtin; refine wpList_append_own _ rfl _ _ 25 rfl w.heap.size 3 i0 (.int .i64 0) 1 8 Try.underlying25 hi hz0 hz1 hz2 rfl (by decide) _ _ _ rfl (hown.alloc _) ⟨wr.heap.size, 0, none⟩ 1 1 [.int .i64 x] rfl rfl (cell_one _ _ _) (by simp [Value.oneCell']) (by unfold maxLen; omega) (by omega) (by simp; omega) ?_; intro v1 w1 hown1 hgrow1 _)
          have hB1 := row_below (hB.alloc hBs _) (hown.alloc _) hgrow1 (by simp; omega)
          have ho1 : w1.ownsRow w.heap.size 3 1 v1 (O ++ [x]).length ((O ++ [x]).map (Value.int .i64)) := by simpa using hown1
          have hB1s := hB1.size
          have xj1 := hc.out _ hB1
          have hlen2 : (O ++ [x]).length = O.length + 1 := by simp
          clear hown1 hgrow1 hown hB xj hBs
          go_wp2_with (at_builtin; refine wpList_append_own _ rfl _ _ 25 rfl w.heap.size 3 i0 (.int .i64 0) 1 8 Try.underlying25 hi hz0 hz1 hz2 rfl (by decide) _ _ _ rfl (ho1.alloc _) ⟨w1.heap.size, 0, none⟩ 1 1 [.int .i64 y] rfl rfl (cell_one _ _ _) (by simp [Value.oneCell']) (by unfold maxLen; omega) (by omega) (by simp; omega) ?_; intro v2 w2 hown2 hgrow2 _)
          have hB2 := row_below (hB1.alloc hB1s _) (ho1.alloc _) hgrow2 (by simp; omega)
          have ho2 : w2.ownsRow w.heap.size 3 1 v2 (O ++ [x] ++ [y]).length ((O ++ [x] ++ [y]).map (Value.int .i64)) := by simpa using hown2
          clear hown2 hgrow2 ho1 hB1 xj1 hB1s
          go_wp2_with fail
          go_roundw
          case rel => exact ⟨k + 1, true, _, by omega, by go_num, rfl, st2, ho2, hB2⟩
          case measure => simp [intOf]; omega
        · have st2 := Lib.hid (s1.out (by omega))
          clear st s1 s2
          go_wp2_with (at_builtin; refine wpList_append_own _ rfl _ _ 25 rfl w.heap.size 3 i0 (.int .i64 0) 1 8 Try.underlying25 hi hz0 hz1 hz2 rfl (by decide) _ _ _ rfl (hown.alloc _) ⟨wr.heap.size, 0, none⟩ 1 1 [.int .i64 y] rfl rfl (cell_one _ _ _) (by simp [Value.oneCell']) (by unfold maxLen; omega) (by omega) (by simp; omega) ?_; intro v2 w2 hown2 hgrow2 _)
          have hB2 := row_below (hB.alloc hBs _) (hown.alloc _) hgrow2 (by simp; omega)
          have ho2 : w2.ownsRow w.heap.size 3 1 v2 (O ++ [y]).length ((O ++ [y]).map (Value.int .i64)) := by simpa using hown2
          clear hown2 hgrow2 hown hB xj hBs
          go_wp2_with fail
          go_roundw
          case rel => exact ⟨k + 1, false, _, by omega, by go_num, rfl, st2, ho2, hB2⟩
          case measure => simp [intOf]; omega
      · have st2 := Lib.hid (st.out.high ha'.out hlt)
        generalize L[k]?.getD 0 = y at *
        have hxb : (y == x) = false := beq_eq_false_iff_ne.2 hx
        clear st
        go_wp2_with (at_builtin; refine wpList_append_own _ rfl _ _ 25 rfl w.heap.size 3 i0 (.int .i64 0) 1 8 Try.underlying25 hi hz0 hz1 hz2 rfl (by decide) _ _ _ rfl (hown.alloc _) ⟨wr.heap.size, 0, none⟩ 1 1 [.int .i64 y] rfl rfl (cell_one _ _ _) (by simp [Value.oneCell']) (by unfold maxLen; omega) (by omega) (by simp; omega) ?_; intro v2 w2 hown2 hgrow2 _)
        have hB2 := row_below (hB.alloc hBs _) (hown.alloc _) hgrow2 (by simp; omega)
        have ho2 : w2.ownsRow w.heap.size 3 1 v2 (O ++ [y]).length ((O ++ [y]).map (Value.int .i64)) := by simpa using hown2
        clear hown2 hgrow2 hown hB xj hBs
        go_wp2_with fail
        go_roundw
        case rel => exact ⟨k + 1, true, _, by omega, by go_num, rfl, st2, ho2, hB2⟩
        case measure => simp [intOf]; omega
    · obtain rfl : k = L.length := by omega
      cases f
      · have y := Lib.hid (st.out.end0 ha'.out)
        clear st
        go_wp2_with (at_builtin; refine wpList_append_own _ rfl _ _ 25 rfl w.heap.size 3 i0 (.int .i64 0) 1 8 Try.underlying25 hi hz0 hz1 hz2 rfl (by decide) _ _ _ rfl (hown.alloc _) ⟨wr.heap.size, 0, none⟩ 1 1 [.int .i64 x] rfl rfl (cell_one _ _ _) (by simp [Value.oneCell']) (by unfold maxLen; omega) (by omega) (by simp; omega) ?_; intro v2 w2 hown2 hgrow2 _)
        have hB2 := Lib.hid (row_below (hB.alloc hBs _) (hown.alloc _) hgrow2 (by simp; omega))
        have ho2 := Lib.hid (show w2.ownsRow w.heap.size 3 1 v2 (O ++ [x]).length ((O ++ [x]).map (Value.int .i64)) by simpa using hown2)
        clear hown2 hgrow2 hown hB hBs
        go_wp2_with fail
        go_ret
        exact ⟨_, _, y.out, rfl, own_base ho2.out hb'.out, hB2.out⟩
      · have y := Lib.hid (st.out.end1 ha'.out)
        have ho2 := Lib.hid hown
        have hB2 := Lib.hid hB
        clear st hown hB
        go_wp2_with fail
        go_ret
        exact ⟨_, _, y.out, rfl, own_base ho2.out hb'.out, hB2.out⟩
end Go.Proofs.Ytajogfnlbdiokaa

/-
  The contract of the program's Find.
-/
import Derived.Test.YtajogfnlbdiokaaImplF
namespace Go.Proofs.Ytajogfnlbdiokaa
open Go.RowKit
open Go.Maps (Keyed)
set_option linter.unusedVariables false

/-- 'at, ok := places[addr]': what comes is a place; ok as it is known. -/
theorem lookup_place {P : Program} (w : World) {ops : Array Oper} {rest : List Oper} {o : Oper} {a : Act} {Q : Exit → Act → World → Prop} (hP : P = Try.prog) (hg : o.guard = none) (m x : Operand) (hop : o.op = Op.lookup 133 m x true) (b n : Nat) (D : DataW Unit)
    (hm : a.eval m = .map (some b)) (hown : OwnP w b n D) (key : Value) (kl : Lit) (hx : a.eval x = key) (hkey : keyOf P 3 key = some kl) (ok : Bool) (hok : Maps.has D kl = ok) (c d : Int) (hcd : D.atKey kl (dat 0 0) = dat c d)
    (hK : wpList P ops Q rest (a.put o.dst (.tuple #[.agg #[.int .i64 c, .int .i64 d], .bool ok])) w) : wpList P ops Q (o :: rest) a w := by
  subst hP
  refine wpList_lookup_own_ok w hg m x _ hop 3 93 mapLaw Try.underlying133 placeElem (zeroPlace w) (dat 0 0) [] (placeElem_mk 0 0) b n D hm hown key kl hx hkey fun v ps hv => ?_
  obtain ⟨c', d', rfl, he⟩ := placeElem_inv hv
  have e := congrArg Prod.fst he
  simp only at e
  rw [hcd] at e
  obtain ⟨rfl, rfl⟩ := dat_inj e
  rw [hok]
  exact hK

set_option maxRecDepth 100000 in
set_option maxHeartbeats 4000000 in
theorem findI_any (v : Value) (D : WD) (hm : MarksIn D) (addr : Int) (ha : I64 addr) (w : World) (hr : RdW w v D) :
    Calls Try.prog 51 #[v, .int .i64 addr] w fun e w' => FindIs D addr e ∧ Below w.heap.size w w' := by
  have hm' := Lib.hid hm
  clear hm
  obtain ⟨vw, vd, vs, vm, vg, rfl, a1, a2, a3, a4, a5⟩ := hr
  have bx := box_new w (.cells #[.int .i64 D.base, .int .i64 D.pages, vw, vd, vs, vm, .int .i64 D.phase, .int .i64 D.next, vg] 32)
  have bw := below_box w (.cells #[.int .i64 D.base, .int .i64 D.pages, vw, vd, vs, vm, .int .i64 D.phase, .int .i64 D.next, vg] 32)
  have hW := Lib.hid (show RdW (w.alloc (.cells #[.int .i64 D.base, .int .i64 D.pages, vw, vd, vs, vm, .int .i64 D.phase, .int .i64 D.next, vg] 32)) (.agg #[.int .i64 D.base, .int .i64 D.pages, vw, vd, vs, vm, .int .i64 D.phase, .int .i64 D.next, vg]) D from ⟨vw, vd, vs, vm, vg, rfl, a1.below bw, a2.below bw, a3.below bw, a4.below bw, a5.below bw⟩)
  have hBx := Lib.hid (show BoxW (w.alloc (.cells #[.int .i64 D.base, .int .i64 D.pages, vw, vd, vs, vm, .int .i64 D.phase, .int .i64 D.next, vg] 32)) w.heap.size (.agg #[.int .i64 D.base, .int .i64 D.pages, vw, vd, vs, vm, .int .i64 D.phase, .int .i64 D.next, vg]) from ⟨_, rfl, bx⟩)
  have bw' := Lib.hid bw
  clear a1 a2 a3 a4 a5 bx bw
  go_enter Try.func51, Try.ntmps51
  go_wp2_with fail
  refine (formOkI_any _ D hm'.out _ hW.out).mono ?_
  rintro e w1 ⟨hq, b1⟩
  have hq := hq.elim
  obtain ⟨x1, rfl⟩ := Ext.of b1
  clear b1
  generalize w.alloc (.cells #[.int .i64 D.base, .int .i64 D.pages, vw, vd, vs, vm, .int .i64 D.phase, .int .i64 D.next, vg] 32) = W at *
  rcases hq with ⟨hF, rfl⟩ | ⟨hF, rfl⟩
  case inr =>
    have n := Lib.hid (FindIs.no (D := D) (addr := addr) fun h => absurd h hF)
    clear hF
    go_wp2_with fail
    go_ret2
    exact ⟨n.out, below_trans bw'.out x1.below⟩
  have hF' := Lib.hid hF
  have hcall := Lib.hid (places_any w.heap.size _ D hF x1.val (hW.out.below x1.below) (hBx.out.below x1.below))
  have hkey := Lib.hid (key_i64 ha)
  clear hF ha
  go_wp2_with fail
  refine hcall.out.mono ?_
  rintro e w2 ⟨g, n, M, rfl, hown, hP, b2⟩
  have hown' := Lib.hid hown
  have hP' := Lib.hid hP
  have bw2 := Lib.hid (below_trans bw'.out (below_trans x1.below b2))
  clear hown hP b2 hcall
  by_cases hh : ∃ k j, IsObj D addr k j
  · obtain ⟨k, j, ho⟩ := hh
    have hk := Lib.hid (show Ahead D.spans.length 0 k j from .inl (ho.elim fun s hs => (List.getElem?_eq_some_iff.1 hs.1).1))
    have h1 := Lib.hid ((hP'.out.has addr).2 ⟨k, j, hk.out, ho⟩)
    have h2 := Lib.hid (hP'.out.is addr k j (dat 0 0) hk.out ho)
    have y := Lib.hid (FindIs.yes hF'.out ho)
    clear ho
    have hcs := World.alloc
    clear hcs
    go_wp2_with (at_lookup; refine lookup_place _ rfl rfl _ _ rfl g n M rfl hown'.out _ _ rfl hkey.out true h1.out (k : Int) (j : Int) h2.out ?_)
    go_quiet (fail)
    go_wp2
    go_ret2
    exact ⟨y.out, below_drewN (below_trans bw2.out (below_box _ _)) _⟩
  · have h1 := Lib.hid (show Maps.has M (.int .i64 addr) = false from by
      cases h : Maps.has M (.int .i64 addr)
      · rfl
      · obtain ⟨k, j, _, ho⟩ := (hP'.out.has addr).1 h
        exact absurd ⟨k, j, ho⟩ hh)
    have h2 := Lib.hid (show M.atKey (.int .i64 addr) (dat 0 0) = dat 0 0 from Maps.atKey_of_not_has h1.out _)
    have n' := Lib.hid (FindIs.no (D := D) (addr := addr) fun _ k j h => hh ⟨k, j, h⟩)
    clear hh
    go_wp2_with (at_lookup; refine lookup_place _ rfl rfl _ _ rfl g n M rfl hown'.out _ _ rfl hkey.out false h1.out 0 0 h2.out ?_)
    go_ret2
    exact ⟨n'.out, below_trans bw2.out (below_box _ _)⟩
end Go.Proofs.Ytajogfnlbdiokaa

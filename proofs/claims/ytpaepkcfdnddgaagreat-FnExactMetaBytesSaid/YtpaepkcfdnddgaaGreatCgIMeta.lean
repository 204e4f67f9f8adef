import Derived.Test.YtpaepkcfdnddgaaGreatCgIM2
import Derived.Test.YtpaepkcfdnddgaaGreatCgIPU
import Derived.Test.YtpaepkcfdnddgaaGreatCgIW2
import Derived.Test.YtpaepkcfdnddgaaGreatCgMX

namespace Go.Proofs.YtpaepkcfdnddgaaGreat
open Go.RowKit
set_option linter.unusedVariables false

/-- What the three writers put down. -/
def MetaP (D : WD) (k : Nat) (b : ByteArray) : Prop :=
  (k = 0 → b = secB 71 (ints (roundN D))) ∧ (k = 1 → b = secB 83 (ints (spansP D D.spans.length))) ∧ (k = 2 → ∃ E, ImageIs D E ∧ b = secB 82 (ints (leadsN E)))
theorem ba_list (b : ByteArray) : (⟨b.data.toList.toArray⟩ : ByteArray) = b := by cases b; rfl
theorem MetaP.joined {D : WD} {l : List UInt8} (h : Joined (MetaP D) 3 l) : MetaIs D ⟨l.toArray⟩ := by
  obtain ⟨bs, hl, hp, rfl⟩ := h
  match bs, hl with
  | [b0, b1, b2], _ =>
    have e0 := (hp 0 b0 rfl).1 rfl
    have e1 := (hp 1 b1 rfl).2.1 rfl
    obtain ⟨E, hE, e2⟩ := (hp 2 b2 rfl).2.2 rfl
    have hm := hE.meta_
    rw [hE.same.1, hE.same.2.1, ← e0, ← e1, ← e2] at hm
    have : (⟨([b0, b1, b2].flatMap fun b => b.data.toList).toArray⟩ : ByteArray) = b0 ++ b1 ++ b2 := by
      rw [show ([b0, b1, b2].flatMap fun b => b.data.toList) = (b0.data.toList ++ b1.data.toList) ++ b2.data.toList by simp, ← ba_add, ← ba_add, ba_list, ba_list, ba_list]
    rw [this]
    exact hm
theorem MetaR.str {D : WD} {e : Ending} (h : MetaR D e) : ∃ X, e = .returned (.string X) := by
  rcases h with ⟨_, b, rfl, _⟩ | ⟨_, rfl⟩
  · exact ⟨_, rfl⟩
  · exact ⟨_, rfl⟩

set_option maxRecDepth 100000 in
set_option maxHeartbeats 8000000 in
theorem imetaBytes_any (v : Value) (D : WD) (hcap : CapW v) (hs : Small D) (hI : FitD D) (hg : D.grey.length ≤ 2000000) (w : World) (hr : RdW w v D) :
    Calls Tryz.prog 10 #[v] w fun e w' => MetaR D e ∧ Below w.heap.size w w' := by
  have hcap' := Lib.hid hcap
  have hI' := Lib.hid hI
  have hs' := Lib.hid hs
  clear hcap hI hs
  obtain ⟨vw, vd, vs, vm, vg, rfl, a1, a2, a3, a4, a5⟩ := hr
  have bx := box_new w (.cells #[.int .i64 D.base, .int .i64 D.pages, vw, vd, vs, vm, .int .i64 D.phase, .int .i64 D.next, vg] 36)
  have bw := below_box w (.cells #[.int .i64 D.base, .int .i64 D.pages, vw, vd, vs, vm, .int .i64 D.phase, .int .i64 D.next, vg] 36)
  have hW := Lib.hid (show RdW (w.alloc (.cells #[.int .i64 D.base, .int .i64 D.pages, vw, vd, vs, vm, .int .i64 D.phase, .int .i64 D.next, vg] 36)) (.agg #[.int .i64 D.base, .int .i64 D.pages, vw, vd, vs, vm, .int .i64 D.phase, .int .i64 D.next, vg]) D from ⟨vw, vd, vs, vm, vg, rfl, a1.below bw, a2.below bw, a3.below bw, a4.below bw, a5.below bw⟩)
  have hBx := Lib.hid (show BoxW (w.alloc (.cells #[.int .i64 D.base, .int .i64 D.pages, vw, vd, vs, vm, .int .i64 D.phase, .int .i64 D.next, vg] 36)) w.heap.size (.agg #[.int .i64 D.base, .int .i64 D.pages, vw, vd, vs, vm, .int .i64 D.phase, .int .i64 D.next, vg]) from ⟨_, rfl, bx⟩)
  have bw' := Lib.hid bw
  clear a1 a2 a3 a4 a5 bx bw
  have hwr := Lib.hid (fun (W : World) (A : Addr) (hb : Below (w.alloc (.cells #[.int .i64 D.base, .int .i64 D.pages, vw, vd, vs, vm, .int .i64 D.phase, .int .i64 D.next, vg] 36)).heap.size (w.alloc (.cells #[.int .i64 D.base, .int .i64 D.pages, vw, vd, vs, vm, .int .i64 D.phase, .int .i64 D.next, vg] 36)) W)
    (h0 : W.cell? ⟨A.block, A.off + 0, none⟩ = some (.func (.func 34) #[] #[])) (h1 : W.cell? ⟨A.block, A.off + 1, none⟩ = some (.func (.func 35) #[] #[])) (h2 : W.cell? ⟨A.block, A.off + 2, none⟩ = some (.func (.func 36) #[] #[])) (hA : A = ⟨A.block, A.off, none⟩) =>
    (show Calls Tryz.prog 33 #[.pointer (some ⟨w.heap.size, 0, none⟩), .slice (some A) 3 3] W fun e w' => MetaR D e ∧ Below W.heap.size W w' from
    (written_any (MetaP D) [34, 35, 36] (by decide) w.heap.size (.agg #[.int .i64 D.base, .int .i64 D.pages, vw, vd, vs, vm, .int .i64 D.phase, .int .i64 D.next, vg]) D hs'.out hI'.out hg W (some A) 3
      (fun k F hk => ⟨A.block, A.off, by rw [hA], by
        match k, hk with
        | 0, hk => obtain rfl := Option.some.inj hk; exact h0
        | 1, hk => obtain rfl := Option.some.inj hk; exact h1
        | 2, hk => obtain rfl := Option.some.inj hk; exact h2⟩)
      (fun F hF x w => by
        rcases List.mem_cons.1 hF with rfl | hF
        · kernel_rfl
        rcases List.mem_cons.1 hF with rfl | hF
        · kernel_rfl
        rcases List.mem_cons.1 hF with rfl | hF
        · kernel_rfl
        cases hF)
      (fun W1 b1 => iworldOk_any _ D hI'.out hcap'.out W1 ((hW.out.below hb).below b1))
      (fun hR S E hE k F hk B1 W1 hr1 hB1 => by
        have hFE := hE.form hR.1
        have hIE := hE.fit hR.1 hI'.out
        match k, hk with
        | 0, hk =>
          obtain rfl := Option.some.inj hk
          exact (iputRound_any B1 _ E hIE hFE.flat.1 W1 hr1 hB1).mono fun e w' ⟨h, b⟩ => ⟨⟨_, h, ⟨(fun _ => by rw [hE.same.1]), (fun h => by cases h), (fun h => by cases h)⟩, Nat.le_trans (secB_size _ _) (by decide)⟩, b⟩
        | 1, hk =>
          obtain rfl := Option.some.inj hk
          exact (iputSpans_any B1 _ E hFE hIE W1 hr1 hB1).mono fun e w' ⟨h, b⟩ => ⟨⟨_, h, ⟨(fun h => by cases h), (fun _ => by rw [hE.same.2.1]), (fun h => by cases h)⟩, Nat.le_trans (secB_size _ _) (by decide)⟩, b⟩
        | 2, hk =>
          obtain rfl := Option.some.inj hk
          exact (iputLeads_any B1 _ E hIE hFE.flat.1 hFE.flat.2 (by rw [hE.same.2.2.2]; exact hg) W1 hr1 hB1).mono fun e w' ⟨h, b⟩ => ⟨⟨_, h, ⟨(fun h => by cases h), (fun h => by cases h), fun _ => ⟨E, hE, rfl⟩⟩, Nat.le_trans (secB_size _ _) (by decide)⟩, b⟩)
      (hW.out.below hb) (hBx.out.below hb)).mono fun e w' ⟨h, b⟩ => ⟨h.elim (fun ⟨hR, l, he, hJ⟩ => .inl ⟨hR, _, he, MetaP.joined hJ⟩) (fun ⟨hR, he⟩ => .inr ⟨hR, he⟩), b⟩))
  go_enter Tryz.func10, Tryz.ntmps10
  go_wp2_with fail
  have hrow := box_new (w.alloc (.cells #[.int .i64 D.base, .int .i64 D.pages, vw, vd, vs, vm, .int .i64 D.phase, .int .i64 D.next, vg] 36)) (.cells #[.func (.func 34) #[] #[], .func (.func 35) #[] #[], .func (.func 36) #[] #[]] 66)
  rw [World.size_alloc] at hrow
  refine (hwr.out _ ⟨w.heap.size + 1, 0, none⟩ (below_box _ (.cells #[.func (.func 34) #[] #[], .func (.func 35) #[] #[], .func (.func 36) #[] #[]] 66)) (cell_of_heap hrow 0 _ rfl) (cell_of_heap hrow 1 _ rfl) (cell_of_heap hrow 2 _ rfl) rfl).mono ?_
  rintro e w2 ⟨hq, b2⟩
  have hq' := Lib.hid hq
  obtain ⟨X, rfl⟩ := hq.str
  have bb := Lib.hid (below_trans bw'.out (below_trans (below_box _ (.cells #[.func (.func 34) #[] #[], .func (.func 35) #[] #[], .func (.func 36) #[] #[]] 66)) b2))
  clear hq b2 hrow hwr
  go_wp2_with fail
  go_ret
  exact ⟨hq'.out, bb.out⟩
end Go.Proofs.YtpaepkcfdnddgaaGreat

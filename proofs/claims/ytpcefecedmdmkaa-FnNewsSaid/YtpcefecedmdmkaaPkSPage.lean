import Derived.Test.YtpcefecedmdmkaaPkCut
import Derived.Deep.DeepCutAuto
import Derived.Deep.CutRange
import Derived.Deep.OwnRows
import Derived.Outline

/-
  The contract of the model's l2page: a new span at the first page that is none.
-/
namespace Go.Proofs.Ytpcefecedmdmkaa
open Go.RowKit
set_option linter.unusedVariables false

theorem alloc3 (w : World) (a b c : Obj) : (((w.alloc a).alloc b).alloc c).drew.heap[w.heap.size]? = some a ∧ (((w.alloc a).alloc b).alloc c).drew.heap[w.heap.size + 1]? = some b ∧ (((w.alloc a).alloc b).alloc c).drew.heap[w.heap.size + 1 + 1]? = some c ∧
    Below w.heap.size w (((w.alloc a).alloc b).alloc c).drew ∧ (((w.alloc a).alloc b).alloc c).drew.heap.size = w.heap.size + 1 + 1 + 1 := by
  obtain ⟨h1, h2, h3, hb⟩ := box3 w a b c
  exact ⟨h1, h2, h3, below_drewN hb 1, by simp [World.drew]⟩
/-- Behind the statement that makes the span: its box, its lists. -/
structure PageI (w wr : World) (c : Int) (ph : Bool) (k ns C g1 g2 : Nat) : Prop where
  below : Below w.heap.size w wr
  size : wr.heap.size = w.heap.size + 1 + 1 + 1
  boxC : wr.heap[C]? = some (.cells #[.int .i64 k, .int .i64 c, .int .i64 0, .bool ph, .slice (some ⟨g1, 0, none⟩) ns ns, .slice (some ⟨g2, 0, none⟩) ns ns] 60 (0, 0))
  r1 : wr.heap[g1]? = some (.cells (madeCells #[.int .i64 0] ns) 3 (0, 0))
  r2 : wr.heap[g2]? = some (.cells (madeCells #[.int .i64 0] ns) 3 (0, 0))
  hC : w.heap.size ≤ C ∧ C < w.heap.size + 1 + 1 + 1
  h1 : w.heap.size ≤ g1 ∧ g1 < w.heap.size + 1 + 1 + 1
  h2 : w.heap.size ≤ g2 ∧ g2 < w.heap.size + 1 + 1 + 1
  ne : g1 ≠ g2
/-- What the three appends come to. -/
theorem page_fin {w wr w3 : World} {base B : Nat} {S : Shape} {D : WD} {c : Int} {k C g1 g2 : Nat} {v : Value} (h : VarW w base B S D) (hI : PageI w wr c (D.phase == 4) k (sl' c).toNat C g1 g2) (hk : k ≤ D.spans.length)
    (hb : Below wr.heap.size wr w3) (hr : w3.ownsRow wr.heap.size 60 6 v (D.spans.length + 1) ((flatV D.spans S.sv).take (k * 6) ++ spanCv (freshS D c k) (.slice (some ⟨g1, 0, none⟩) (sl' c).toNat (sl' c).toNat, .slice (some ⟨g2, 0, none⟩) (sl' c).toNat (sl' c).toNat) ++ (flatV D.spans S.sv).drop (k * 6))) :
    (∃ S', VarW (w3.setCell ⟨B, 4, none⟩ v) base B S' (insD D c k)) ∧ Below base w (w3.setCell ⟨B, 4, none⟩ v) := by
  have hsz := hI.size
  have hlt := h.lt
  have hle := h.le
  have hb2 : Below w.heap.size w w3 := hI.below.trans (hb.mono (by omega))
  have hv := h.below hb2
  have hl : (sl' c).toNat ≤ maxLen := by have := (sl_bd c).2; unfold maxLen; omega
  have hr1 := own_base (own_below (own_made (base := g1) hI.r1 (Nat.le_refl _) hl) hb) hI.h1.1
  have hr2 := own_base (own_below (own_made (base := g2) hI.r2 (Nat.le_refl _) hl) hb) hI.h2.1
  have hx := hv.ins (n0 := w.heap.size) (fun q hq => (h.own.lt q hq).2) hlt (p := (.slice (some ⟨g1, 0, none⟩) (sl' c).toNat (sl' c).toNat, .slice (some ⟨g2, 0, none⟩) (sl' c).toNat (sl' c).toNat)) (s := freshS D c k) hk (own_base hr (by omega))
    (by simpa [freshS] using hr1) (by simpa [freshS] using hr2) (fun q hq e => hI.ne (by simp [Value.ownBlock] at hq e; omega))
  exact ⟨⟨_, hx.1⟩, (hb2.mono (by omega)).trans hx.2⟩
/-- The page where the next span comes, or none. -/
def PageIs (D : WD) (c : Int) (base B : Nat) (S : Shape) (e : Ending) (w' : World) : Prop :=
  ∃ k : Nat, FreePg D k ∧ (((k : Int) = D.pages ∧ e = .returned (.int .i64 (-1)) ∧ VarW w' base B S D) ∨ ((k : Int) ≠ D.pages ∧ e = .returned (.int .i64 (k : Int)) ∧ ∃ S', VarW w' base B S' (insD D c k)))

end Go.Proofs.Ytpcefecedmdmkaa

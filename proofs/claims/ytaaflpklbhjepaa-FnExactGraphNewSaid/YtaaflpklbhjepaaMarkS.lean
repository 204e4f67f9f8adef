/-
  The contract of the laws' 'markSpanS'.
-/
import Derived.Test.YtaaflpklbhjepaaMark
namespace Go.Proofs.Ytaaflpklbhjepaa
open Go.RowKit
set_option linter.unusedVariables false

theorem flatV_same (L : List SpanD) (sv : List (Value × Value)) (i : Nat) (s s' : SpanD) (h1 : L[i]? = some s) (e0 : s'.page = s.page) (e1 : s'.cls = s.cls) (e2 : s'.mark = s.mark) (e3 : s'.swept = s.swept) : flatV (L.set i s') sv = flatV L sv := by
  induction i generalizing L sv with
  | zero =>
    cases L with
    | nil => simp at h1
    | cons a L =>
      cases sv with
      | nil => simp [flatV]
      | cons q sv =>
        simp at h1
        subst h1
        simp [flatV, spanCv, e0, e1, e2, e3]
  | succ i ih =>
    cases L with
    | nil => simp at h1
    | cons a L =>
      cases sv with
      | nil => simp [flatV]
      | cons q sv =>
        simp at h1
        have := ih L sv h1
        simp only [flatV, List.set_cons_succ, List.zip_cons_cons, List.flatMap_cons] at this ⊢
        rw [this]

section
variable {w w' : World} {base : Nat} {v : Value} {L : List SpanD} {sv : List (Value × Value)}
end

theorem set_at {α : Type} {L : List α} {i : Nat} {s t : α} (h : L[i]? = some s) : (L.set i t)[i]? = some t := by
  have := (List.getElem?_eq_some_iff.1 h).1
  simp [this]
theorem markSpan_eq (s : SpanD) (k : Int) : markSpan s k = ⟨k, k + 1, k + 1 + 1, (k + 1 + 1 + 1) % 3 == 0, seqL (k + 1 + 1 + 1 + 1) s.lens.length, seqL (k + 1 + 1 + 1 + 1 + (s.lens.length : Int)) s.ptrs.length⟩ := by
  unfold markSpan
  rw [show k + 1 + 1 = k + 2 by omega, show k + 2 + 1 = k + 3 by omega, show k + 3 + 1 = k + 4 by omega]
theorem spanEnd_eq (s : SpanD) (k : Int) : spanEnd s k = k + 1 + 1 + 1 + 1 + (s.lens.length : Int) + (s.ptrs.length : Int) := by unfold spanEnd; omega

end Go.Proofs.Ytaaflpklbhjepaa

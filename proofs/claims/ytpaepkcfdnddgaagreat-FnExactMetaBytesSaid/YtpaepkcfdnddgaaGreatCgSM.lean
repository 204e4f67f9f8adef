import Derived.Test.YtpaepkcfdnddgaaGreatCgV
import Derived.Test.YtpaepkcfdnddgaaGreatCgSL
import Derived.Deep.RegionLawGrows
import Derived.Deep.DeepCutAuto
import Derived.Deep.CutRange
import Derived.Deep.OwnRows
import Derived.Outline

namespace Go.Proofs.YtpaepkcfdnddgaaGreat
open Go.RowKit
set_option linter.unusedVariables false

theorem elemSpan : Tryz.prog.elem 32 = 73 := by kernel_rfl
theorem undSpan : Tryz.prog.underlying 32 = some (.slice (Tryz.prog.elem 32)) := by rw [elemSpan]; exact Tryz.underlying32
theorem sizeSpan (w : World) : (sizeOf (Tryz.prog.elem 32)).run Tryz.prog w = .ok 6 w := by kernel_rfl
theorem src_part {w : World} {A : Option Addr} {n : Nat} {xs : List Value} (h : SrcIs w A n 6 xs) (k : Nat) (hk : k ≤ n) : SrcIs w A k 6 (xs.take (k * 6)) := by
  refine ⟨by rw [List.length_take, h.len]; omega, fun j u hu => ?_, fun u hu => h.one u (List.mem_of_mem_take hu)⟩
  have hj := (List.getElem?_eq_some_iff.1 hu).1
  rw [List.length_take] at hj
  exact h.at_ j u (by rwa [List.getElem?_take_of_lt (by omega)] at hu)
theorem src_same {w : World} {A A' : Option Addr} {n : Nat} {xs : List Value} (h : SrcIs w A n 6 xs) (he : ∀ a, A = some a → A' = some (a.add 0)) : SrcIs w A' n 6 xs :=
  ⟨h.len, fun j u hu => by
    obtain ⟨a, e, hc⟩ := h.at_ j u hu
    refine ⟨_, he a e, ?_⟩
    rw [Addr.add_add, Nat.zero_add]
    exact hc, h.one⟩
/-- x[:k] -/
theorem cut_to {w : World} {A : Option Addr} {n c k : Nat} {xs : List Value} (h : SrcIs w A n 6 xs) (hk : k ≤ n) (hn : n ≤ c) :
    ∃ A' c', (∀ w', (Instr.slice 32 (.slice A n c) none (some (.int .i64 (k : Int))) none).run Tryz.prog w' = .ok (.slice A' k c') w') ∧ SrcIs w A' k 6 (xs.take (k * 6)) := by
  refine ⟨if c = 0 then A else A.map (·.add (0 * 6)), c - 0, fun w' => ?_, ?_⟩
  · rw [run_slice_h w' 32 A n c undSpan .i64 (k : Int) (by omega) (by omega), sizeSpan]
    rfl
  · have hp := src_part h k hk
    split
    · exact hp
    · exact src_same hp fun a e => by subst e; rfl
/-- x[:k:k] -/
theorem cut_to3 {w : World} {A : Option Addr} {n c k : Nat} {xs : List Value} (h : SrcIs w A n 6 xs) (hk : k ≤ n) (hn : n ≤ c) :
    ∃ A', (∀ w', (Instr.slice 32 (.slice A n c) none (some (.int .i64 (k : Int))) (some (.int .i64 (k : Int)))).run Tryz.prog w' = .ok (.slice A' k k) w') ∧ SrcIs w A' k 6 (xs.take (k * 6)) := by
  refine ⟨if k = 0 then A else A.map (·.add (0 * 6)), fun w' => ?_, ?_⟩
  · rw [run_slice_hm w' 32 A n c undSpan .i64 .i64 (k : Int) (k : Int) (by omega) (by omega) (by omega), sizeSpan]
    rfl
  · have hp := src_part h k hk
    split
    · exact hp
    · exact src_same hp fun a e => by subst e; rfl
/-- x[k:] -/
theorem cut_from {w : World} {A : Option Addr} {n c k : Nat} {xs : List Value} (h : SrcIs w A n 6 xs) (hk : k ≤ n) (hn : n ≤ c) (i : Int) (hi : i = (k : Int)) :
    ∃ A', (∀ w', (Instr.slice 32 (.slice A n c) (some (.int .i64 i)) none none).run Tryz.prog w' = .ok (.slice A' (n - k) (c - k)) w') ∧ SrcIs w A' (n - k) 6 (xs.drop (k * 6)) := by
  subst hi
  refine ⟨if c = k then A else A.map (·.add (k * 6)), fun w' => ?_, ⟨by rw [List.length_drop, h.len]; omega, fun j u hu => ?_, fun u hu => h.one u (List.mem_of_mem_drop hu)⟩⟩
  · rw [run_slice_l w' 32 A n c undSpan .i64 (k : Int) (by omega) (by omega), sizeSpan]
    rfl
  · rw [List.getElem?_drop] at hu
    obtain ⟨a, rfl, hc⟩ := h.at_ _ u hu
    have hl := (List.getElem?_eq_some_iff.1 hu).1
    rw [h.len] at hl
    rw [if_neg (by omega)]
    exact ⟨_, rfl, by rw [Addr.add_add]; exact hc⟩
theorem own_src {w : World} {base n c : Nat} {A : Option Addr} {L : List SpanD} {sv : List (Value × Value)} (h : OwnS w base (.slice A n c) L sv) : n = L.length ∧ n ≤ c ∧ c ≤ maxLen ∧ SrcIs w A n 6 (flatV L sv) := by
  have hr := h.row
  have hone := oneV_own h
  rcases hr.2 with ⟨he, h0⟩ | ⟨g, cap, cur, he, _, _, hc, hm, _, _⟩
  · obtain ⟨rfl, rfl, rfl⟩ : A = none ∧ n = 0 ∧ c = 0 := by simpa using he
    have hl := hr.1
    rw [h0] at hl
    obtain e : flatV L sv = [] := List.length_eq_zero_iff.1 (by omega)
    rw [e]
    exact ⟨h0.symm, Nat.le_refl _, by unfold maxLen; omega, SrcIs.none _ _ _⟩
  · obtain ⟨rfl, rfl, rfl⟩ : A = some ⟨g, 0, none⟩ ∧ n = L.length ∧ c = cap := by simpa using he
    refine ⟨rfl, hc, hm, hr.1, fun j u hu => ⟨_, rfl, ?_⟩, hone⟩
    have hl := (List.getElem?_eq_some_iff.1 hu).1
    rw [show (⟨g, 0, none⟩ : Addr).add j = ⟨g, j, none⟩ by rw [Addr.add_lit, Nat.zero_add], hr.cellAt j (by have := hr.1; omega)]
    exact hu
theorem flatV_ins (L : List SpanD) (sv : List (Value × Value)) (k : Nat) (s : SpanD) (p : Value × Value) (h : sv.length = L.length) :
    (flatV L sv).take (k * 6) ++ spanCv s p ++ (flatV L sv).drop (k * 6) = flatV (L.take k ++ s :: L.drop k) (sv.take k ++ p :: sv.drop k) := by
  rw [flatV_take L sv k h, flatV_drop L sv k h, flatV_app _ _ _ _ (by simp [h])]
  simp [flatV]
theorem OwnS.insert {w : World} {base n0 : Nat} {v : Value} {L : List SpanD} {sv : List (Value × Value)} {s : SpanD} {p : Value × Value}
    (hin : ∀ (i : Nat) (s : SpanD) (p : Value × Value), L[i]? = some s → sv[i]? = some p → w.ownsRow base 3 1 p.1 s.lens.length (s.lens.map (Value.int .i64)) ∧ w.ownsRow base 3 1 p.2 s.ptrs.length (s.ptrs.map (Value.int .i64)))
    (hl : sv.length = L.length) (k : Nat) (hk : k ≤ L.length) (hb : base ≤ n0) (hr : w.ownsRow n0 73 6 v (L.length + 1) ((flatV L sv).take (k * 6) ++ spanCv s p ++ (flatV L sv).drop (k * 6)))
    (h1 : w.ownsRow base 3 1 p.1 s.lens.length (s.lens.map (Value.int .i64))) (h2 : w.ownsRow base 3 1 p.2 s.ptrs.length (s.ptrs.map (Value.int .i64))) :
    OwnS w base v (L.take k ++ s :: L.drop k) (sv.take k ++ p :: sv.drop k) := by
  have len : (L.take k ++ s :: L.drop k).length = L.length + 1 := by simp; omega
  refine ⟨?_, by simp; omega, fun i t q ht hq => ?_⟩
  · rw [len, ← flatV_ins L sv k s p hl]
    exact own_base hr hb
  · rcases Nat.lt_trichotomy i k with h | h | h
    · rw [List.getElem?_append_left (by simp; omega), List.getElem?_take_of_lt h] at ht
      rw [List.getElem?_append_left (by simp; omega), List.getElem?_take_of_lt h] at hq
      exact hin i t q ht hq
    · subst h
      rw [List.getElem?_append_right (by simp; omega)] at ht hq
      have e1 : i - (L.take i).length = 0 := by simp; omega
      have e2 : i - (sv.take i).length = 0 := by simp; omega
      rw [e1] at ht
      rw [e2] at hq
      simp at ht hq
      subst ht
      subst hq
      exact ⟨h1, h2⟩
    · rw [List.getElem?_append_right (by simp; omega)] at ht hq
      obtain ⟨m, rfl⟩ : ∃ m, i = k + m + 1 := ⟨i - k - 1, by omega⟩
      have e1 : k + m + 1 - (L.take k).length = m + 1 := by simp; omega
      have e2 : k + m + 1 - (sv.take k).length = m + 1 := by simp; omega
      rw [e1, List.getElem?_cons_succ, List.getElem?_drop] at ht
      rw [e2, List.getElem?_cons_succ, List.getElem?_drop] at hq
      exact hin (k + m) t q ht hq
theorem nodup_ins {X Y : List Value} {a b : Value} (h : ((X ++ Y).filterMap Value.ownBlock).Nodup) (ha : ∀ q, a.ownBlock = some q → q ∉ blks (X ++ Y)) (hb : ∀ q, b.ownBlock = some q → q ∉ blks (X ++ Y)) (hab : ∀ q, a.ownBlock = some q → b.ownBlock ≠ some q) :
    ((X ++ a :: b :: Y).filterMap Value.ownBlock).Nodup := by
  have hp : (X ++ a :: b :: Y).Perm (a :: b :: (X ++ Y)) := List.perm_middle.trans (List.perm_middle.cons a)
  rw [(hp.filterMap _).nodup_iff]
  have hb' : ((b :: (X ++ Y)).filterMap Value.ownBlock).Nodup := by
    cases hv : b.ownBlock with
    | none => rw [List.filterMap_cons_none hv]; exact h
    | some q => rw [List.filterMap_cons_some hv, List.nodup_cons]; exact ⟨hb q hv, h⟩
  cases hv : a.ownBlock with
  | none => rw [List.filterMap_cons_none hv]; exact hb'
  | some q =>
    rw [List.filterMap_cons_some hv, List.nodup_cons]
    refine ⟨fun hm => ?_, hb'⟩
    obtain ⟨x, hx, hxq⟩ := List.mem_filterMap.1 hm
    rcases List.mem_cons.1 hx with rfl | hx
    · exact hab q hv hxq
    · exact ha q hv (List.mem_filterMap.2 ⟨x, hx, hxq⟩)
theorem ints_all {S : Shape} : ∀ k, k ∈ blks S.ints → k ∈ blks S.all := sub_all fun x hx => by
  simp only [Shape.ints, List.mem_append, List.mem_cons, List.not_mem_nil, or_false] at hx
  simp only [Shape.all, List.mem_append, List.mem_cons, List.not_mem_nil, or_false]
  rcases hx with ((rfl | hx) | hx) | rfl
  · simp
  · exact .inl (.inl (.inr (.inr hx)))
  · exact .inl (.inr (.inr hx))
  · simp
/-- The variable's spans have one more. -/
theorem VarW.ins {w : World} {base B n0 : Nat} {S : Shape} {D : WD} (h : VarW w base B S D) (hold : ∀ q, q ∈ blks S.all → q < n0) (hB0 : B < n0) {v : Value} {p : Value × Value} {s : SpanD} {k : Nat} (hk : k ≤ D.spans.length)
    (hr : w.ownsRow n0 73 6 v (D.spans.length + 1) ((flatV D.spans S.sv).take (k * 6) ++ spanCv s p ++ (flatV D.spans S.sv).drop (k * 6)))
    (h1 : w.ownsRow n0 3 1 p.1 s.lens.length (s.lens.map (Value.int .i64))) (h2 : w.ownsRow n0 3 1 p.2 s.ptrs.length (s.ptrs.map (Value.int .i64))) (h12 : ∀ q, p.1.ownBlock = some q → p.2.ownBlock ≠ some q) :
    VarW (w.setCell ⟨B, 4, none⟩ v) base B { S with vs := v, sv := S.sv.take k ++ p :: S.sv.drop k } { D with spans := D.spans.take k ++ s :: D.spans.drop k } ∧ Below base w (w.setCell ⟨B, 4, none⟩ v) := by
  have hle := h.le
  have b0 : base ≤ n0 := by omega
  refine h.newSpans (OwnS.insert h.own.inner h.own.svl k hk b0 hr (own_base h1 b0) (own_base h2 b0)) ?_ fun x hx => ?_
  · have e : ({ S with vs := v, sv := S.sv.take k ++ p :: S.sv.drop k } : Shape).ints = (S.vw :: svInts (S.sv.take k)) ++ p.1 :: p.2 :: (svInts (S.sv.drop k) ++ S.mv ++ [S.vg]) := by
      simp [Shape.ints, svInts]
    have e0 : (S.vw :: svInts (S.sv.take k)) ++ (svInts (S.sv.drop k) ++ S.mv ++ [S.vg]) = S.ints := by
      have : svInts (S.sv.take k) ++ svInts (S.sv.drop k) = svInts S.sv := by rw [← svInts_app, List.take_append_drop]
      show _ = (S.vw :: svInts S.sv) ++ S.mv ++ [S.vg]
      rw [← this]
      simp
    rw [e]
    refine nodup_ins (by rw [e0]; exact h.own.nodup) (fun q hq hm => ?_) (fun q hq hm => ?_) h12
    · rw [e0] at hm
      have := hold q (ints_all q hm)
      have := (h1.lt q hq).1
      omega
    · rw [e0] at hm
      have := hold q (ints_all q hm)
      have := (h2.lt q hq).1
      omega
  · rcases List.mem_cons.1 hx with rfl | hx
    · intro e
      have := (hr.lt B e).1
      omega
    · rw [svInts_app] at hx
      rcases List.mem_append.1 hx with hx | hx
      · intro e
        refine h.ne (List.mem_filterMap.2 ⟨x, ?_, e⟩)
        have : x ∈ svInts S.sv := by
          obtain ⟨q, hq, hxq⟩ := List.mem_flatMap.1 hx
          exact List.mem_flatMap.2 ⟨q, List.mem_of_mem_take hq, hxq⟩
        simp [Shape.all, this]
      · have hx' : x = p.1 ∨ x = p.2 ∨ x ∈ svInts (S.sv.drop k) := by
          simp only [svInts, List.flatMap_cons, List.mem_append, List.mem_cons, List.not_mem_nil, or_false] at hx
          rcases hx with (h | h) | h
          · exact .inl h
          · exact .inr (.inl h)
          · exact .inr (.inr h)
        rcases hx' with rfl | rfl | hx
        · intro e
          have := (h1.lt B e).1
          omega
        · intro e
          have := (h2.lt B e).1
          omega
        · intro e
          refine h.ne (List.mem_filterMap.2 ⟨x, ?_, e⟩)
          have : x ∈ svInts S.sv := by
            obtain ⟨q, hq, hxq⟩ := List.mem_flatMap.1 hx
            exact List.mem_flatMap.2 ⟨q, List.mem_of_mem_drop hq, hxq⟩
          simp [Shape.all, this]
end Go.Proofs.YtpaepkcfdnddgaaGreat

namespace Go.Proofs.YtpaepkcfdnddgaaGreat
open Go.RowKit
set_option linter.unusedVariables false

theorem alloc3 (w : World) (a b c : Obj) : (((w.alloc a).alloc b).alloc c).drew.heap[w.heap.size]? = some a ∧ (((w.alloc a).alloc b).alloc c).drew.heap[w.heap.size + 1]? = some b ∧ (((w.alloc a).alloc b).alloc c).drew.heap[w.heap.size + 1 + 1]? = some c ∧
    Below w.heap.size w (((w.alloc a).alloc b).alloc c).drew ∧ (((w.alloc a).alloc b).alloc c).drew.heap.size = w.heap.size + 1 + 1 + 1 := by
  obtain ⟨h1, h2, h3, hb⟩ := box3 w a b c
  exact ⟨h1, h2, h3, below_drewN hb 1, by simp [World.drew]⟩
/-- Behind the statement that makes the span: its box, its lists. -/
structure PageI (w wr : World) (c : Int) (ph : Bool) (k ns C g1 g2 : Nat) : Prop where
  below : Below w.heap.size w wr
  size : wr.heap.size = w.heap.size + 1 + 1 + 1
  boxC : wr.heap[C]? = some (.cells #[.int .i64 k, .int .i64 c, .int .i64 0, .bool ph, .slice (some ⟨g1, 0, none⟩) ns ns, .slice (some ⟨g2, 0, none⟩) ns ns] 73 (0, 0))
  r1 : wr.heap[g1]? = some (.cells (madeCells #[.int .i64 0] ns) 3 (0, 0))
  r2 : wr.heap[g2]? = some (.cells (madeCells #[.int .i64 0] ns) 3 (0, 0))
  hC : w.heap.size ≤ C ∧ C < w.heap.size + 1 + 1 + 1
  h1 : w.heap.size ≤ g1 ∧ g1 < w.heap.size + 1 + 1 + 1
  h2 : w.heap.size ≤ g2 ∧ g2 < w.heap.size + 1 + 1 + 1
  ne : g1 ≠ g2
/-- What the three appends come to. -/
theorem page_fin {w wr w3 : World} {base B : Nat} {S : Shape} {D : WD} {c : Int} {k C g1 g2 : Nat} {v : Value} (h : VarW w base B S D) (hI : PageI w wr c (D.phase == 4) k (sl' c).toNat C g1 g2) (hk : k ≤ D.spans.length)
    (hb : Below wr.heap.size wr w3) (hr : w3.ownsRow wr.heap.size 73 6 v (D.spans.length + 1) ((flatV D.spans S.sv).take (k * 6) ++ spanCv (freshS D c k) (.slice (some ⟨g1, 0, none⟩) (sl' c).toNat (sl' c).toNat, .slice (some ⟨g2, 0, none⟩) (sl' c).toNat (sl' c).toNat) ++ (flatV D.spans S.sv).drop (k * 6))) :
    (∃ S', VarW (w3.setCell ⟨B, 4, none⟩ v) base B S' (insD D c k)) ∧ Below base w (w3.setCell ⟨B, 4, none⟩ v) := by
  have hsz := hI.size
  have hlt := h.lt
  have hle := h.le
  have hb2 : Below w.heap.size w w3 := hI.below.trans (hb.mono (by omega))
  have hv := h.below hb2
  have hl : (sl' c).toNat ≤ maxLen := by have := (sl_bd c).2; unfold maxLen; omega
  have hr1 := own_base (own_below (own_made (base := g1) hI.r1 (Nat.le_refl _) hl) hb) hI.h1.1
  have hr2 := own_base (own_below (own_made (base := g2) hI.r2 (Nat.le_refl _) hl) hb) hI.h2.1
  have hx := hv.ins (n0 := w.heap.size) (fun q hq => (h.own.lt q hq).2) hlt (p := (.slice (some ⟨g1, 0, none⟩) (sl' c).toNat (sl' c).toNat, .slice (some ⟨g2, 0, none⟩) (sl' c).toNat (sl' c).toNat)) (s := freshS D c k) hk (own_base hr (by omega))
    (by simpa [freshS] using hr1) (by simpa [freshS] using hr2) (fun q hq e => hI.ne (by simp [Value.ownBlock] at hq e; omega))
  exact ⟨⟨_, hx.1⟩, (hb2.mono (by omega)).trans hx.2⟩
theorem spec_slots_eq {c v : Int} (h : sl' c = v) (w : World) : Calls Tryz.prog 144 #[.int .i64 c] w fun e w' => e = .returned (.int .i64 v) ∧ w = w' := by
  rw [← h]; exact spec_slots_any c w
/-- The page where the next span comes, or none. -/
def PageIs (D : WD) (c : Int) (base B : Nat) (S : Shape) (e : Ending) (w' : World) : Prop :=
  ∃ k : Nat, FreePg D k ∧ (((k : Int) = D.pages ∧ e = .returned (.int .i64 (-1)) ∧ VarW w' base B S D) ∨ ((k : Int) ≠ D.pages ∧ e = .returned (.int .i64 (k : Int)) ∧ ∃ S', VarW w' base B S' (insD D c k)))

end Go.Proofs.YtpaepkcfdnddgaaGreat

namespace Go.Proofs.YtpaepkcfdnddgaaGreat
open Go.RowKit
set_option linter.unusedVariables false

/-- What l2take does to the variable. -/
def TookIs (D : WD) (n p : Int) (base B : Nat) (S : Shape) (e : Ending) (w' : World) : Prop :=
  (∃ D1 k j s S', PlaceIs D (cl n) D1 k j ∧ D1.spans[k]? = some s ∧ e = .returned (.int .i64 (D1.base + atW s (j : Int))) ∧ VarW w' base B S' (takeD D1 k s j n p)) ∨
  (NoPlace D (cl n) ∧ e = .returned (.int .i64 0) ∧ VarW w' base B S D)
theorem fullUp_next {D : WD} {c : Int} {k : Nat} {s : SpanD} (h : FullUp D c k) (hs : D.spans[k]? = some s) (hf : s.cls = c → ∀ j, j < s.lens.length → s.lens[j]?.getD 0 ≠ 0) : FullUp D c (k + 1) := by
  intro i t hi ht
  by_cases e : i = k
  · subst e
    rw [hs] at ht
    cases ht
    exact hf
  · exact h i t (by omega) ht
theorem ins_at {L : List SpanD} {k : Nat} (h : k ≤ L.length) (s : SpanD) : (L.take k ++ s :: L.drop k)[k]? = some s := by
  rw [List.getElem?_append_right (by rw [List.length_take]; omega)]
  simp [Nat.min_eq_left h]
theorem fresh_in {D : WD} {c : Int} {k : Nat} (hF : HeapForm D) (hc : sl' c ≠ 0) (hk : k ≤ D.spans.length) (hp : (k : Int) ≠ D.pages) : SlotIn (insD D c k) (freshS D c k) 0 := by
  have h0 := sl_bd c
  have h1 := hF.spans
  have h2 : ((List.replicate (sl' c).toNat (0 : Int)).length : Int) = sl' c := by rw [List.length_replicate]; omega
  exact ⟨hc, h2, h2, by simp only [freshS, List.length_replicate]; omega, by simp only [freshS]; omega, by simp only [freshS, insD]; omega, hF.words, hF.dirty, hF.geo.2.2.2.2.1⟩

end Go.Proofs.YtpaepkcfdnddgaaGreat

namespace Go.Proofs.YtpaepkcfdnddgaaGreat
open Go.RowKit
set_option linter.unusedVariables false
set_option linter.unusedSimpArgs false

theorem Chg.set1 {bs : List Nat} {w w' : World} (h : Chg bs w w') {b : Nat} (hb : b ∈ bs) (i : Nat) (v : Value) : Chg bs w (w'.setCell ⟨b, i, none⟩ v) :=
  h.trans (Chg.of_grown (grown_set w' b i v) (fun x hx => by cases hx; exact hb))

set_option maxRecDepth 100000 in
set_option maxHeartbeats 8000000 in
theorem sown_any (v : Value) (D : WD) (hs : Small D) (w : World) (hr : RdW w v D) :
    Calls Tryz.prog 48 #[v] w fun e w' => ∃ S, e = .returned (S.val D) ∧ OwnW w' w.heap.size S D ∧ Below w.heap.size w w' := by
  obtain ⟨vw, vd, vs, vm, vg, rfl, a1, a2, a3, a4, a5⟩ := hr
  obtain ⟨aw, cw, rfl, hlw, j1⟩ := id a1
  obtain ⟨ad, cd, rfl, hld, j2⟩ := id a2
  obtain ⟨aS, cS, rfl, hls, j3⟩ := id a3
  obtain ⟨am, cm, rfl, hlm, j4⟩ := id a4
  obtain ⟨ag, cg, rfl, hlg, j5⟩ := id a5
  unfold maxLen at hlw hld hls hlm hlg
  have hs1 := hs.words
  have hs2 := hs.dirty
  have hs3 := hs.spans
  have hs4 := hs.muts
  have hs5 := hs.grey
  have hs' := Lib.hid hs
  obtain ⟨hA, hR, hC, bb⟩ := box3 w (.cells #[.int .i64 D.base, .int .i64 D.pages, .slice aw D.words.length cw, .slice ad D.dirty.length cd, .slice aS D.spans.length cS, .slice am D.muts.length cm, .int .i64 D.phase, .int .i64 D.next, .slice ag D.grey.length cg] 36) (.cells #[.int .i64 0, .int .i64 0, .slice none 0 0, .slice none 0 0, .slice none 0 0, .slice none 0 0, .int .i64 0, .int .i64 0, .slice none 0 0] 36) (.cells #[.int .i64 D.base, .int .i64 D.pages, .slice aw D.words.length cw, .slice ad D.dirty.length cd, .slice aS D.spans.length cS, .slice am D.muts.length cm, .int .i64 D.phase, .int .i64 D.next, .slice ag D.grey.length cg] 36)
  have q1 := Lib.hid a1
  have q2 := Lib.hid a2
  have q3 := Lib.hid a3
  have q4 := Lib.hid a4
  have q5 := Lib.hid a5
  have hz0 : ((((w.alloc (.cells #[.int .i64 D.base, .int .i64 D.pages, .slice aw D.words.length cw, .slice ad D.dirty.length cd, .slice aS D.spans.length cS, .slice am D.muts.length cm, .int .i64 D.phase, .int .i64 D.next, .slice ag D.grey.length cg] 36)).alloc (.cells #[.int .i64 0, .int .i64 0, .slice none 0 0, .slice none 0 0, .slice none 0 0, .slice none 0 0, .int .i64 0, .int .i64 0, .slice none 0 0] 36)).alloc (.cells #[.int .i64 D.base, .int .i64 D.pages, .slice aw D.words.length cw, .slice ad D.dirty.length cd, .slice aS D.spans.length cS, .slice am D.muts.length cm, .int .i64 D.phase, .int .i64 D.next, .slice ag D.grey.length cg] 36)) : World).heap.size = w.heap.size + 1 + 1 + 1 := by simp
  have E1 := Lib.hid (own_empty' hz0 3 1)
  have hz0' := Lib.hid hz0
  have s1 := Lib.hid ((a1.below (below_trans bb (below_box _ (.cells #[] 3)))).src)
  have hle1 := Lib.hid (show w.heap.size + 1 + 1 + 1 ≤ (((((w.alloc (.cells #[.int .i64 D.base, .int .i64 D.pages, .slice aw D.words.length cw, .slice ad D.dirty.length cd, .slice aS D.spans.length cS, .slice am D.muts.length cm, .int .i64 D.phase, .int .i64 D.next, .slice ag D.grey.length cg] 36)).alloc (.cells #[.int .i64 0, .int .i64 0, .slice none 0 0, .slice none 0 0, .slice none 0 0, .slice none 0 0, .int .i64 0, .int .i64 0, .slice none 0 0] 36)).alloc (.cells #[.int .i64 D.base, .int .i64 D.pages, .slice aw D.words.length cw, .slice ad D.dirty.length cd, .slice aS D.spans.length cS, .slice am D.muts.length cm, .int .i64 D.phase, .int .i64 D.next, .slice ag D.grey.length cg] 36)) : World).alloc (.cells #[] 3)).heap.size by simp)
  have bb' := Lib.hid bb
  have hA' := Lib.hid hA
  have hR' := Lib.hid hR
  have hC' := Lib.hid hC
  clear a1 a2 a3 a4 a5 hs bb hA hR hC j1 j2 j3 j4 j5 hz0
  go_enter Tryz.func48, Tryz.ntmps48
  go_wp2_with (first
    | (refine wpList_app rfl (.tmp 8) (.tmp 10) 22 rfl (w.heap.size + 1 + 1 + 1) 3 (.int .i64 0) 1 8 Tryz.underlying22 infoInt rfl (by decide) _ 0 [] rfl E1.out aw D.words.length cw (D.words.map (Value.int .i64)) rfl s1.out (by unfold maxLen; omega) (by omega) hle1.out ?_; intro v1 w1 o1 g1; simp only [Nat.zero_add, List.nil_append] at o1; obtain ⟨a1, c1, rfl⟩ := own_slice o1; have o1' := Lib.hid o1; have g1' := Lib.hid g1; obtain ⟨b1, z1⟩ := step2n hz0'.out g1; have A1 := heap_below b1 hA'.out; have C1 := heap_below b1 hC'.out; have b1' := Lib.hid (bb'.out.trans (b1.mono (by first | omega | (simp only [World.size_alloc, World.size_setCell]; done) | (simp only [World.size_alloc, World.size_setCell]; omega)))); have A1' := Lib.hid A1; have C1' := Lib.hid C1; have z1' : w.heap.size + 1 + 1 + 1 < w1.heap.size := z1; have ne1 : ¬ (w.heap.size = w1.heap.size) := (by omega); have ne2 : ¬ (w.heap.size + 1 + 1 = w1.heap.size) := (by omega); have lt1 : w.heap.size < w1.heap.size := (by omega); have lt2 : w.heap.size + 1 + 1 < w1.heap.size := (by omega); have y2 := cell_of_heap C1 2 _ rfl; have y2f := frozen_of_heap C1 2; have y3 := cell_of_heap A1 3 _ rfl; have E2 := Lib.hid (own_empty' (w := w1.setCell ⟨w.heap.size + 1 + 1, 2, none⟩ (.slice a1 D.words.length c1)) (n := w1.heap.size) (by simp) 4 1); have s2 := Lib.hid ((q2.out.below ((b1'.out.setCell (p := ⟨w.heap.size + 1 + 1, 2, none⟩) (by first | omega | (simp only [World.size_alloc, World.size_setCell]; done) | (simp only [World.size_alloc, World.size_setCell]; omega)) (.slice a1 D.words.length c1)).trans ((below_box (w1.setCell ⟨w.heap.size + 1 + 1, 2, none⟩ (.slice a1 D.words.length c1)) (.cells #[] 4)).mono (by first | omega | (simp only [World.size_alloc, World.size_setCell]; done) | (simp only [World.size_alloc, World.size_setCell]; omega))))).src); have hle2 := Lib.hid (show w1.heap.size ≤ ((w1.setCell ⟨w.heap.size + 1 + 1, 2, none⟩ (.slice a1 D.words.length c1)).alloc (.cells #[] 4)).heap.size by simp); clear o1 g1 z1 A1 C1 b1)
    | (refine wpList_app rfl (.tmp 13) (.tmp 15) 23 rfl w1.heap.size 4 (.bool false) 1 1 Tryz.underlying23 infoBool rfl (by decide) _ 0 [] rfl E2.out ad D.dirty.length cd (D.dirty.map Value.bool) rfl s2.out (by unfold maxLen; omega) (by omega) hle2.out ?_; intro v2 w2 o2 g2; simp only [Nat.zero_add, List.nil_append] at o2; obtain ⟨a2, c2, rfl⟩ := own_slice o2; have st := Lib.hid (St1.start (v2 := .slice a2 D.dirty.length c2) hA'.out hR'.out hC'.out bb'.out g1'.out o1'.out g2 o2); obtain ⟨C2, k2, z2⟩ := step3 (show w.heap.size + 1 + 1 < w1.heap.size by omega) C1'.out g2; have x3 := cell_of_heap C2 3 _ rfl; have x3f := frozen_of_heap C2 3; have x4 := cell_of_heap C2 4 _ rfl; have x4f := frozen_of_heap C2 4; clear o2 g2 C2 k2 z2 y2 y2f y3 z1' ne1 ne2 lt1 lt2))
  go_loopw [4] (fun i wr => ∃ (k : Nat) (v3 : Value) (sv : List (Value × Value)), k ≤ D.spans.length ∧ i = .int .i64 k ∧ Hid (St1 w wr #[.int .i64 D.base, .int .i64 D.pages, .slice aw D.words.length cw, .slice ad D.dirty.length cd, .slice aS D.spans.length cS, .slice am D.muts.length cm, .int .i64 D.phase, .int .i64 D.next, .slice ag D.grey.length cg] D (.slice a1 D.words.length c1) (.slice a2 D.dirty.length c2) v3 (.slice am D.muts.length cm) (.slice ag D.grey.length cg) sv k)) (fun i _ => D.spans.length - (RowKit.intOf i).toNat)
  case atStart => exact ⟨0, .slice none 0 0, [], Nat.zero_le _, rfl, st⟩
  case round =>
    obtain ⟨k, v3, sv, hk, rfl, st⟩ := hrel
    have y4 := cell_of_heap st.out.boxA 4 _ rfl
    have z4 := cell_of_heap st.out.boxC 4 _ rfl
    by_cases hlt : k < D.spans.length
    · obtain ⟨s, hks⟩ : ∃ s, D.spans[k]? = some s := ⟨_, List.getElem?_eq_getElem hlt⟩
      have hlt1 : (k : Int) < (D.spans.length : Int) := by omega
      obtain ⟨b1, o1, rfl, vl, vp, x0, x1, x2, x3, x4, x5, hl, hp⟩ := (q3.out.below st.out.below).at_ k s hks
      obtain ⟨al, cl, rfl, hll, jl⟩ := id hl
      obtain ⟨ap, cp, rfl, hlp, jp⟩ := id hp
      clear jl jp
      unfold maxLen at hll hlp
      have hin := hs'.out.inner s (List.mem_of_getElem? hks)
      have hl1 := hin.1
      have hl2 := hin.2
      clear hin
      have hks' := Lib.hid hks
      have hsz := Lib.hid st.out.size
      have szb : w.heap.size + 1 + 1 + 1 ≤ wr.heap.size := hsz.out
      have nb0 : ¬ (w.heap.size = wr.heap.size) := by omega
      have nb : ¬ (w.heap.size + 1 + 1 = wr.heap.size) := by omega
      have F1 := Lib.hid (own_empty' (w := wr.alloc (.cells #[.int .i64 s.page, .int .i64 s.cls, .int .i64 s.mark, .bool s.swept, .slice al s.lens.length cl, .slice ap s.ptrs.length cp] 73)) (n := wr.heap.size + 1) (by simp) 3 1)
      have r1 := Lib.hid ((hl.below (below_trans (below_box wr (.cells #[.int .i64 s.page, .int .i64 s.cls, .int .i64 s.mark, .bool s.swept, .slice al s.lens.length cl, .slice ap s.ptrs.length cp] 73)) (below_box _ (.cells #[] 3)))).src)
      have r2 := Lib.hid hp
      have tk : (D.spans.take k).length = k := by rw [List.length_take]; omega
      have tk' := Lib.hid tk
      have row3 := Lib.hid (show ∀ w', Below wr.heap.size wr w' → w'.ownsRow (w.heap.size + 1 + 1 + 1) 73 6 v3 k (flatV (D.spans.take k) sv) from fun w' hb => by have := own_below st.out.cop.spans.row hb; rwa [tk] at this)
      clear tk
      have hv3 := Lib.hid (show ∀ q, v3.ownBlock = some q → w.heap.size + 1 + 1 + 1 ≤ q from fun q hq => (st.out.cop.spans.row.lt q hq).1)
      have boxC := Lib.hid st.out.boxC
      obtain ⟨a0, c0, rfl⟩ := own_slice (row3.out _ (Below.refl _ _))
      clear hks hl hp
      go_wp2_with (first
        | (refine wpList_app rfl (.tmp 31) (.tmp 33) 22 rfl (wr.heap.size + 1) 3 (.int .i64 0) 1 8 Tryz.underlying22 infoInt rfl (by decide) _ 0 [] rfl F1.out al s.lens.length cl (s.lens.map (Value.int .i64)) rfl r1.out (by unfold maxLen; omega) (by omega) (by simp) ?_; intro u1 w1 p1 h1; simp only [Nat.zero_add, List.nil_append] at p1; obtain ⟨a3, c3, rfl⟩ := own_slice p1; have H1 := Lib.hid (And.intro h1 p1); obtain ⟨T1, d1, zz1⟩ := St1.at1 h1; have T1' := Lib.hid T1; have d1' := Lib.hid d1; have t4 := cell_of_heap T1 4 _ rfl; have t4f := frozen_of_heap T1 4; have t5 := cell_of_heap T1 5 _ rfl; have lw1 : wr.heap.size < w1.heap.size := (by omega); have nw1 : ¬ (wr.heap.size = w1.heap.size) := (by omega); have F2 := Lib.hid (own_empty' (w := w1.setCell ⟨wr.heap.size, 4, none⟩ (.slice a3 s.lens.length c3)) (n := w1.heap.size) (by simp) 3 1); have r2' := Lib.hid ((r2.out.below (St1.at3 d1 (i := 4) (u := .slice a3 s.lens.length c3) (X := #[]) (T := 3))).src); have le2 := Lib.hid (show w1.heap.size ≤ ((w1.setCell ⟨wr.heap.size, 4, none⟩ (.slice a3 s.lens.length c3)).alloc (.cells #[] 3)).heap.size by simp); clear p1 h1 T1 d1)
        | (refine wpList_app rfl (.tmp 36) (.tmp 38) 22 rfl w1.heap.size 3 (.int .i64 0) 1 8 Tryz.underlying22 infoInt rfl (by decide) _ 0 [] rfl F2.out ap s.ptrs.length cp (s.ptrs.map (Value.int .i64)) rfl r2'.out (by unfold maxLen; omega) (by omega) le2.out ?_; intro u2 w2 p2 h2; simp only [Nat.zero_add, List.nil_append] at p2; obtain ⟨a4, c4, rfl⟩ := own_slice p2; have H2 := Lib.hid (And.intro h2 p2); obtain ⟨T2, d2, zz2⟩ := St1.at2 T1'.out d1'.out zz1 h2; have d2' := Lib.hid d2; clear t4 t4f t5; have e0 := cell_of_heap T2 0 _ rfl; have e1 := cell_of_heap T2 1 _ rfl; have e2 := cell_of_heap T2 2 _ rfl; have e3 := cell_of_heap T2 3 _ rfl; have e4 := cell_of_heap T2 4 _ rfl; have t5 := cell_of_heap T2 5 _ rfl; have t5f := frozen_of_heap T2 5; have zC := cell_of_heap (heap_below d2 boxC.out) 4 _ rfl; have nw2 : ¬ (wr.heap.size = w2.heap.size) := (by omega); have nw3 : ¬ (w.heap.size + 1 + 1 = w2.heap.size) := (by omega); have rw3 := Lib.hid (row3.out _ (St1.at3 d2 (i := 5) (u := .slice a4 s.ptrs.length c4) (X := #[.int .i64 s.page, .int .i64 s.cls, .int .i64 s.mark, .bool s.swept, .slice a3 s.lens.length c3, .slice a4 s.ptrs.length c4]) (T := 73))); have r3 := Lib.hid (src_span w2 ⟨wr.heap.size, 5, none⟩ (.slice a4 s.ptrs.length c4) s a3 a4 s.lens.length s.ptrs.length c3 c4); have le3 := Lib.hid (show w.heap.size + 1 + 1 + 1 ≤ ((w2.setCell ⟨wr.heap.size, 5, none⟩ (.slice a4 s.ptrs.length c4)).alloc (.cells #[.int .i64 s.page, .int .i64 s.cls, .int .i64 s.mark, .bool s.swept, .slice a3 s.lens.length c3, .slice a4 s.ptrs.length c4] 73)).heap.size by simp; omega); clear p2 h2 T2 d2)
        | (refine wpList_app rfl (.tmp 42) (.tmp 44) 32 rfl (w.heap.size + 1 + 1 + 1) 73 (.agg #[.int .i64 0, .int .i64 0, .int .i64 0, .bool false, .slice none 0 0, .slice none 0 0]) 6 80 Tryz.underlying32 infoSpan (by rfl) (by decide) _ k _ rfl rw3.out (some ⟨w2.heap.size, 0, none⟩) 1 1 (spanCv s (.slice a3 s.lens.length c3, .slice a4 s.ptrs.length c4)) rfl r3.out (by unfold maxLen; omega) (by omega) le3.out ?_; intro u3 w3 p3 h3; obtain ⟨a5, c5, rfl⟩ := own_slice p3; have boxC3 := St1.at4 (St1.at3 d2'.out) h3 hv3.out (by omega) boxC.out; have fC := frozen_of_heap boxC3 4; have zC3 := cell_of_heap boxC3 4 _ rfl; have p3' := Lib.hid (show w3.ownsRow (w.heap.size + 1 + 1 + 1) 73 6 (.slice a5 (k + 1) c5) ((D.spans.take k).length + 1) (flatV (D.spans.take k) sv ++ spanCv s (.slice a3 s.lens.length c3, .slice a4 s.ptrs.length c4)) by rw [tk'.out]; exact p3); have nst := Lib.hid (st.out.next hks'.out (p := (.slice a3 s.lens.length c3, .slice a4 s.ptrs.length c4)) H1.out.1 H1.out.2 H2.out.1 H2.out.2 h3 p3'.out); clear p3 h3 boxC3 zC e0 e1 e2 e3 e4 t5 t5f))
      exact ⟨⟨k + 1, _, _, by omega, by go_num, nst⟩, by simp [RowKit.intOf]; omega⟩
    · obtain rfl : k = D.spans.length := by omega
      have z5 := cell_of_heap st.out.boxC 5 _ rfl
      have z5f := frozen_of_heap st.out.boxC 5
      have st2 := Lib.hid (St2.start st.out)
      clear z4 hk
      go_wp2_with fail
      clear y4 z5 z5f st
      go_loopw [6] (fun i wr => ∃ (k : Nat) (v5 : Value) (mv : List Value), k ≤ D.muts.length ∧ i = .int .i64 k ∧ Hid (St2 w wr #[.int .i64 D.base, .int .i64 D.pages, .slice aw D.words.length cw, .slice ad D.dirty.length cd, .slice aS D.spans.length cS, .slice am D.muts.length cm, .int .i64 D.phase, .int .i64 D.next, .slice ag D.grey.length cg] D (.slice a1 D.words.length c1) (.slice a2 D.dirty.length c2) v3 v5 (.slice ag D.grey.length cg) sv mv k)) (fun i _ => D.muts.length - (RowKit.intOf i).toNat)
      case atStart => exact ⟨0, .slice none 0 0, [], Nat.zero_le _, rfl, st2⟩
      case round =>
        obtain ⟨k, v5, mv, hk, rfl, st⟩ := hrel
        have y5 : wr.cell? ⟨w.heap.size, 5, none⟩ = some (.slice am D.muts.length cm) := cell_of_heap st.out.boxA 5 _ rfl
        have z5 : wr.cell? ⟨w.heap.size + 1 + 1, 5, none⟩ = some v5 := cell_of_heap st.out.boxC 5 _ rfl
        have z5f := frozen_of_heap st.out.boxC 5
        by_cases hlt : k < D.muts.length
        · obtain ⟨r, hkr⟩ : ∃ r, D.muts[k]? = some r := ⟨_, List.getElem?_eq_getElem hlt⟩
          have hlt1 : (k : Int) < (D.muts.length : Int) := by omega
          obtain ⟨a', c', he, hml, jm⟩ := q4.out.below st.out.below
          obtain ⟨rfl, rfl⟩ : am = a' ∧ cm = c' := by simpa using he
          obtain ⟨b1, o1, vr, rfl, x0, hl⟩ := jm k r hkr
          obtain ⟨al, cl, rfl, hll, jl⟩ := id hl
          clear jl jm he hml
          unfold maxLen at hll
          have hl1 := hs'.out.innerM r (List.mem_of_getElem? hkr)
          have hkr' := Lib.hid hkr
          have hsz := Lib.hid st.out.size
          have szb : w.heap.size + 1 + 1 + 1 ≤ wr.heap.size := hsz.out
          have nb : ¬ (w.heap.size + 1 + 1 = wr.heap.size) := by omega
          have y5a := cell_below (below_box wr (.cells #[] 3)) y5
          have z5a := cell_below (below_box wr (.cells #[] 3)) z5
          have x0a := cell_below (below_box wr (.cells #[] 3)) x0
          have hy0 := Lib.hid (show Below wr.heap.size wr (wr.alloc (.cells #[] 3)).drew from below_drewN (below_box wr (.cells #[] 3)) 1)
          have F1 := Lib.hid (show (wr.alloc (.cells #[] 3)).drew.ownsRow wr.heap.size 3 1 (.slice (some ⟨wr.heap.size, 0, none⟩) 0 0) 0 [] from own_below (own_empty wr 3 1) (below_drewN (Below.refl _ _) 1))
          have r1 := Lib.hid ((hl.below hy0.out).src)
          have tk : (D.muts.take k).length = k := by rw [List.length_take]; omega
          have tk' := Lib.hid tk
          have hv5 := Lib.hid (show ∀ q, v5.ownBlock = some q → w.heap.size + 1 + 1 + 1 ≤ q from fun q hq => (st.out.muts.row.lt q hq).1)
          have row5 := Lib.hid (show ∀ w', Below wr.heap.size wr w' → w'.ownsRow (w.heap.size + 1 + 1 + 1) 78 1 v5 k mv from fun w' hb => by have := own_below st.out.muts.row hb; rwa [tk] at this)
          have boxC := Lib.hid st.out.boxC
          clear tk
          obtain ⟨a0, c0, rfl⟩ := own_slice (row5.out _ (Below.refl _ _))
          clear hkr hl
          go_wp2_with fail
          go_region_law (first
            | (refine step_own rfl (wp_app (.tmp 57) (.tmp 63) 22 rfl wr.heap.size 3 (.int .i64 0) 1 8 Tryz.underlying22 infoInt rfl (by decide) (.slice (some ⟨wr.heap.size, 0, none⟩) 0 0) 0 [] rfl F1.out al r.length cl (r.map (Value.int .i64)) rfl r1.out (by unfold maxLen; omega) (by omega) hy0.out.size ?_); intro u1 x1 p1 h1; simp only [Nat.zero_add, List.nil_append] at p1; obtain ⟨a3, c3, rfl⟩ := own_slice p1; have H1 := Lib.hid (And.intro (show (wr.alloc (.cells #[] 3)).drew.grownBy x1 (some wr.heap.size) from h1) p1); have d1 := Lib.hid (show Below wr.heap.size wr x1 from hy0.out.grown H1.out.1 hy0.out.size (fun q hq => (by cases hq; exact Nat.le_refl _))); have d2 := Lib.hid (show Below wr.heap.size wr (x1.alloc (.cells #[.slice a3 r.length c3] 78)) from d1.out.trans ((below_box x1 _).mono d1.out.size)); have y5b := cell_below d1.out y5; have z5b := cell_below d1.out z5; have z5c := cell_below d2.out z5; have rw5 := Lib.hid (row5.out _ d2.out); have r3 := Lib.hid (src_box x1 (cs := #[.slice a3 r.length c3]) (T := 78) (m := 1) (size := 1) rfl (fun u hu => (by simp only [List.mem_singleton] at hu; subst hu; rfl))); have le3 := Lib.hid (show w.heap.size + 1 + 1 + 1 ≤ (x1.alloc (.cells #[.slice a3 r.length c3] 78)).heap.size from Nat.le_trans szb d2.out.size); clear p1 h1)
            | (refine step_own rfl (wp_app (.tmp 56) (.tmp 66) 33 rfl (w.heap.size + 1 + 1 + 1) 78 (.agg #[.slice none 0 0]) 1 24 Tryz.underlying33 infoMut (by rfl) (by decide) (.slice a0 k c0) k mv rfl rw5.out (some ⟨x1.heap.size, 0, none⟩) 1 1 [.slice a3 r.length c3] rfl r3.out (by unfold maxLen; omega) (by omega) le3.out ?_); intro u2 x2 p2 h2; obtain ⟨a5, c5, rfl⟩ := own_slice p2; have boxC2 := St1.at4 d2.out h2 hv5.out (by omega) boxC.out; have z5d := cell_of_heap boxC2 5 _ rfl; have f5d := frozen_of_heap boxC2 5; have nst := Lib.hid (St2.next st.out hkr'.out hy0.out H1.out.1 H1.out.2 (below_box x1 _) h2 (show x2.ownsRow (w.heap.size + 1 + 1 + 1) 78 1 (.slice a5 (k + 1) c5) ((D.muts.take k).length + 1) (mv ++ [.slice a3 r.length c3]) from (by rw [tk'.out]; exact p2)) (Chg.of_grown (grown_set x2 (w.heap.size + 1 + 1) 5 (.slice a5 (k + 1) c5)) (by simp)) (heap_setCell_same x2 (w.heap.size + 1 + 1) 5 _ _ (.slice a5 (k + 1) c5) boxC2)); clear p2 h2 boxC2))
          all_goals go_wp2_with fail
          all_goals exact ⟨⟨k + 1, _, _, by omega, by go_num, nst⟩, by simp [RowKit.intOf]; omega⟩
        · obtain rfl : k = D.muts.length := by omega
          have y8 : wr.cell? ⟨w.heap.size, 8, none⟩ = some (.slice ag D.grey.length cg) := cell_of_heap st.out.boxA 8 _ rfl
          have hl := q5.out.below st.out.below
          have hy0 := Lib.hid (below_box wr (.cells #[] 3))
          have y8a := cell_below hy0.out y8
          have F1 := Lib.hid (own_empty wr 3 1)
          have r1 := Lib.hid ((hl.below hy0.out).src)
          have boxC := Lib.hid st.out.boxC
          have boxR := Lib.hid st.out.boxR
          have hsz := Lib.hid st.out.size
          have szb : w.heap.size + 1 + 1 + 1 ≤ wr.heap.size := hsz.out
          obtain ⟨a4, c4, rfl⟩ := own_slice st.out.spans.row
          have hm5 := st.out.muts.row
          rw [show (D.muts.take D.muts.length).length = D.muts.length by simp] at hm5
          obtain ⟨a5, c5, rfl⟩ := own_slice hm5
          clear hk hl hm5
          go_wp2_with (first
            | (at_builtin; refine wpList_app rfl (.tmp 69) (.tmp 72) 22 rfl wr.heap.size 3 (.int .i64 0) 1 8 Tryz.underlying22 infoInt rfl (by decide) _ 0 [] rfl F1.out ag D.grey.length cg (D.grey.map (Value.int .i64)) rfl r1.out (by unfold maxLen; omega) (by omega) hy0.out.size ?_; intro u1 x1 p1 h1; simp only [Nat.zero_add, List.nil_append] at p1; obtain ⟨a3, c3, rfl⟩ := own_slice p1; have d1 : Below wr.heap.size wr x1 := hy0.out.grown h1 hy0.out.size (fun q hq => (by cases hq; exact Nat.le_refl _)); have C1 := heap_below d1 boxC.out; have R1 := heap_below d1 boxR.out; have H1 := Lib.hid (And.intro h1 p1); have f8 := frozen_of_heap C1 8; have m0 := cell_of_heap C1 0 _ rfl; have m1 := cell_of_heap C1 1 _ rfl; have m2 := cell_of_heap C1 2 _ rfl; have m3 := cell_of_heap C1 3 _ rfl; have m4 := cell_of_heap C1 4 _ rfl; have m5 := cell_of_heap C1 5 _ rfl; have m6 := cell_of_heap C1 6 _ rfl; have m7 := cell_of_heap C1 7 _ rfl; have m8 := cell_of_heap C1 8 _ rfl; have n0 := cell_of_heap R1 0 _ rfl; have n1 := cell_of_heap R1 1 _ rfl; have n2 := cell_of_heap R1 2 _ rfl; have n3 := cell_of_heap R1 3 _ rfl; have n4 := cell_of_heap R1 4 _ rfl; have n5 := cell_of_heap R1 5 _ rfl; have n6 := cell_of_heap R1 6 _ rfl; have n7 := cell_of_heap R1 7 _ rfl; have n8 := cell_of_heap R1 8 _ rfl; have z0 := frozen_of_heap R1 0; have z1 := frozen_of_heap R1 1; have z2 := frozen_of_heap R1 2; have z3 := frozen_of_heap R1 3; have z4 := frozen_of_heap R1 4; have z5 := frozen_of_heap R1 5; have z6 := frozen_of_heap R1 6; have z7 := frozen_of_heap R1 7; have z8 := frozen_of_heap R1 8; clear p1 h1 d1 C1 R1))
          refine bodyPost_ret (v := .agg #[.int .i64 D.base, .int .i64 D.pages, .slice a1 D.words.length c1, .slice a2 D.dirty.length c2, .slice a4 D.spans.length c4, .slice a5 D.muts.length c5, .int .i64 D.phase, .int .i64 D.next, .slice a3 D.grey.length c3]) (by simp [results, Tryz.results48, go_sem, n0, n1, n2, n3, n4, n5, n6, n7, n8]) rfl ?_
          exact ⟨⟨.slice a1 D.words.length c1, .slice a2 D.dirty.length c2, .slice a4 D.spans.length c4, .slice a5 D.muts.length c5, .slice a3 D.grey.length c3, sv, mv⟩, rfl, St2.own (bs := [w.heap.size + 1, w.heap.size + 1 + 1]) st.out hy0.out H1.out.1 H1.out.2 (((((((((((Chg.of_grown (World.grownBy.refl x1 none) (by simp)).set1 (b := w.heap.size + 1 + 1) (by simp) 8 _).set1 (b := w.heap.size + 1) (by simp) 0 _).set1 (b := w.heap.size + 1) (by simp) 1 _).set1 (b := w.heap.size + 1) (by simp) 2 _).set1 (b := w.heap.size + 1) (by simp) 3 _).set1 (b := w.heap.size + 1) (by simp) 4 _).set1 (b := w.heap.size + 1) (by simp) 5 _).set1 (b := w.heap.size + 1) (by simp) 6 _).set1 (b := w.heap.size + 1) (by simp) 7 _).set1 (b := w.heap.size + 1) (by simp) 8 _) (fun q hq => by simp only [List.mem_cons, List.not_mem_nil, or_false] at hq; omega)⟩
end Go.Proofs.YtpaepkcfdnddgaaGreat

namespace Go.Proofs.YtpaepkcfdnddgaaGreat
open Go.RowKit
set_option linter.unusedVariables false

theorem Shape.lits {w : World} {base : Nat} {S : Shape} {D : WD} (h : OwnW w base S D) : ∃ aw ad aS am ag cw cd cS cm cg sv mv, S = ⟨.slice aw D.words.length cw, .slice ad D.dirty.length cd, .slice aS D.spans.length cS, .slice am D.muts.length cm, .slice ag D.grey.length cg, sv, mv⟩ := by
  obtain ⟨vw, vd, vs, vm, vg, sv, mv⟩ := S
  obtain ⟨a1, c1, h1⟩ := own_slice h.words
  obtain ⟨a2, c2, h2⟩ := own_slice h.dirty
  obtain ⟨a3, c3, h3⟩ := own_slice h.spans
  obtain ⟨a4, c4, h4⟩ := own_slice h.muts
  obtain ⟨a5, c5, h5⟩ := own_slice h.grey
  simp only at h1 h2 h3 h4 h5
  subst h1 h2 h3 h4 h5
  exact ⟨_, _, _, _, _, _, _, _, _, _, _, _, rfl⟩
/-- A World of its own comes into a variable of its own. -/
theorem VarW.mk_box {w : World} {base : Nat} {S : Shape} {D : WD} (h : OwnW w base S D) (hb : base ≤ w.heap.size) : VarW (w.alloc (.cells (S.cells D) 36)) base w.heap.size S D :=
  ⟨box_new w _, h.below (below_box w _), hb, fun hm => by have := (h.lt _ hm).2; omega⟩
/-- The variable's World is handed back through block R. -/
theorem VarW.handed {w wr wF : World} {base B R : Nat} {S : Shape} {D : WD} (h : VarW wr base B S D) (hb : Below w.heap.size w wr) (h1 : w.heap.size ≤ R) (h2 : R < base) (hc : Chg [R] wr wF) : OwnW wF w.heap.size S D ∧ Below w.heap.size w wF :=
  ⟨(h.own.chg0 hc (fun q hq => by rw [List.mem_singleton.1 hq]; omega)).base_le (by omega), Chg.below hb hc hb.size (fun q hq => by rw [List.mem_singleton.1 hq]; omega)⟩

end Go.Proofs.YtpaepkcfdnddgaaGreat

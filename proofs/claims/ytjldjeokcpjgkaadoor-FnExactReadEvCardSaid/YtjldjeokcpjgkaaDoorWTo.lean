/-
  The contracts of the laws' 'to..' functions: a copy of its own, that reads alike.
-/
import Derived.Test.YtjldjeokcpjgkaaDoorWSize
namespace Go.Proofs.YtjldjeokcpjgkaaDoor
open Go.RowKit
set_option linter.unusedVariables false

theorem infoInt : (Tryd.prog.info? 3).map (fun i => (i.zero, i.size, i.bytes)) = some (some (.int .i64 0), 1, 8) := by kernel_rfl
theorem infoBool : (Tryd.prog.info? 4).map (fun i => (i.zero, i.size, i.bytes)) = some (some (.bool false), 1, 1) := by kernel_rfl
/-- A row of zeros of which the first k cells are filled. -/
def fillL (L : List Value) (z : Value) (k : Nat) : List Value := L.take k ++ List.replicate (L.length - k) z
theorem fillL_zero (L : List Value) (z : Value) : fillL L z 0 = List.replicate L.length z := by simp [fillL]
theorem fillL_all (L : List Value) (z : Value) : fillL L z L.length = L := by simp [fillL]
theorem fillL_set (L : List Value) (z : Value) (k : Nat) (h : k < L.length) : (fillL L z k).set k L[k] = fillL L z (k + 1) := by
  unfold fillL
  rw [List.set_append_right _ _ (by simp; omega)]
  have e : L.length - k = (L.length - (k + 1)) + 1 := by omega
  rw [List.length_take, Nat.min_eq_left (by omega), Nat.sub_self, e, List.replicate_succ, List.set_cons_zero, List.take_succ_eq_append_getElem h, List.append_assoc]
  rfl
theorem fillL_len (L : List Value) (z : Value) (k : Nat) (h : k ≤ L.length) : (fillL L z k).length = L.length := by simp [fillL]; omega

/-- The blocks of these values, all between lo and hi, no two alike. -/
def Fresh (lo hi : Nat) (vs : List Value) : Prop := (vs.filterMap Value.ownBlock).Nodup ∧ ∀ b, b ∈ vs.filterMap Value.ownBlock → lo ≤ b ∧ b < hi
theorem Fresh.nil (lo hi : Nat) : Fresh lo hi [] := ⟨by simp, by simp⟩
theorem Fresh.one {w : World} {lo size n : Nat} {e : TypeId} {v : Value} {xs : List Value} (h : w.ownsRow lo e size v n xs) : Fresh lo w.heap.size [v] := by
  refine ⟨?_, fun b hb => ?_⟩
  · cases hv : v.ownBlock <;> simp [hv]
  · cases hv : v.ownBlock with
    | none => simp [hv] at hb
    | some k =>
      simp [hv] at hb
      subst hb
      exact h.lt b hv
theorem Fresh.append {lo mid hi : Nat} {us vs : List Value} (h : Fresh lo mid us) (h' : Fresh mid hi vs) (h1 : lo ≤ mid) (h2 : mid ≤ hi) : Fresh lo hi (us ++ vs) := by
  refine ⟨?_, fun b hb => ?_⟩
  · rw [List.filterMap_append, List.nodup_append]
    refine ⟨h.1, h'.1, fun a ha b hb e => ?_⟩
    have := (h.2 a ha).2
    have := (h'.2 b hb).1
    omega
  · rw [List.filterMap_append, List.mem_append] at hb
    rcases hb with hb | hb
    · have := h.2 b hb; omega
    · have := h'.2 b hb; omega
theorem Fresh.mono {lo hi lo' hi' : Nat} {vs : List Value} (h : Fresh lo hi vs) (h1 : lo' ≤ lo) (h2 : hi ≤ hi') : Fresh lo' hi' vs :=
  ⟨h.1, fun b hb => by have := h.2 b hb; omega⟩

theorem grown_of_below {w w' : World} (h : Below w.heap.size w w') : w.grownBy w' none := ⟨h.os, h.tape, h.output, h.size, fun k hk _ => h.block k hk⟩
theorem own_below {w w' : World} {base size n : Nat} {e : TypeId} {v : Value} {xs : List Value} (h : w.ownsRow base e size v n xs) (hb : Below w.heap.size w w') : w'.ownsRow base e size v n xs :=
  h.kept (grown_of_below hb) (by cases v.ownBlock <;> simp)
theorem own_base {w : World} {base base' size n : Nat} {e : TypeId} {v : Value} {xs : List Value} (h : w.ownsRow base e size v n xs) (hb : base' ≤ base) : w.ownsRow base' e size v n xs :=
  ⟨h.1, h.2.imp id fun ⟨g, cap, cur, h1, h2, h3⟩ => ⟨g, cap, cur, h1, Nat.le_trans hb h2, h3⟩⟩

theorem box3 (w : World) (A B C : Obj) : (((w.alloc A).alloc B).alloc C).heap[w.heap.size]? = some A ∧ (((w.alloc A).alloc B).alloc C).heap[w.heap.size + 1]? = some B ∧ (((w.alloc A).alloc B).alloc C).heap[w.heap.size + 1 + 1]? = some C ∧ Below w.heap.size w (((w.alloc A).alloc B).alloc C) := by
  have h1 := box_new w A
  have h2 := box_new (w.alloc A) B
  have h3 := box_new ((w.alloc A).alloc B) C
  have b2 := below_box (w.alloc A) B
  have b3 := below_box ((w.alloc A).alloc B) C
  rw [World.size_alloc] at h2 h3
  rw [World.size_alloc] at h3
  exact ⟨heap_below b3 (heap_below b2 h1), heap_below b3 h2, h3, below_trans (below_trans (below_box w A) b2) b3⟩
theorem grown_set (w : World) (b i : Nat) (v : Value) : w.grownBy (w.setCell ⟨b, i, none⟩ v) (some b) :=
  ⟨rfl, rfl, rfl, by simp, fun k _ hk => heap_setCell_other w ⟨b, i, none⟩ k v (fun e => hk (by simp [e]))⟩
theorem own_set {w : World} {base size n b : Nat} {e : TypeId} {v : Value} {xs : List Value} (h : w.ownsRow base e size v n xs) (hb : b < base) (i : Nat) (u : Value) : (w.setCell ⟨b, i, none⟩ u).ownsRow base e size v n xs := by
  refine h.kept (grown_set w b i u) ?_
  cases hv : v.ownBlock with
  | none => exact .inl rfl
  | some k => refine .inr fun e => ?_; have := (h.lt k hv).1; cases e; omega

/-- A slice of n at the head of block g, no spare room. -/
abbrev sl (g n : Nat) : Value := .slice (some ⟨g, 0, none⟩) n n

/-- The six cells of a span. -/
def spanC (s : SpanD) (p : Nat × Nat) : List Value := [.int .i64 s.page, .int .i64 s.cls, .int .i64 s.mark, .bool s.swept, sl p.1 s.lens.length, sl p.2 s.ptrs.length]
def zero6 : List Value := [.int .i64 0, .int .i64 0, .int .i64 0, .bool false, .slice none 0 0, .slice none 0 0]
def flatS (L : List SpanD) (sv : List (Nat × Nat)) : List Value := (List.zip L sv).flatMap fun x => spanC x.1 x.2
/-- A row of spans of which the first are filled. -/
def rowS (L : List SpanD) (sv : List (Nat × Nat)) : List Value := flatS L sv ++ (List.replicate (L.length - sv.length) zero6).flatten
theorem flatS_len (L : List SpanD) (sv : List (Nat × Nat)) (h : sv.length ≤ L.length) : (flatS L sv).length = sv.length * 6 := by
  induction sv generalizing L with
  | nil => simp [flatS]
  | cons p sv ih =>
    cases L with
    | nil => simp at h
    | cons s L =>
      simp only [List.length_cons] at h
      have := ih L (by omega)
      simp only [flatS, List.zip_cons_cons, List.flatMap_cons, List.length_append, List.length_cons] at this ⊢
      rw [this]
      simp [spanC]; omega
theorem flatS_snoc (L : List SpanD) (sv : List (Nat × Nat)) (s : SpanD) (p : Nat × Nat) (h : L[sv.length]? = some s) : flatS L (sv ++ [p]) = flatS L sv ++ spanC s p := by
  induction sv generalizing L with
  | nil =>
    cases L with
    | nil => simp at h
    | cons s' L => simp at h; subst h; simp [flatS]
  | cons q sv ih =>
    cases L with
    | nil => simp at h
    | cons s' L =>
      have := ih L (by simpa using h)
      simp only [flatS, List.cons_append, List.zip_cons_cons, List.flatMap_cons, List.append_assoc] at this ⊢
      rw [this]
theorem set6 (A B : List Value) (z0 z1 z2 z3 z4 z5 u0 u1 u2 u3 u4 u5 : Value) (m : Nat) (h : A.length = m) :
    ((((((A ++ z0 :: z1 :: z2 :: z3 :: z4 :: z5 :: B).set m u0).set (m + 1) u1).set (m + 2) u2).set (m + 3) u3).set (m + 4) u4).set (m + 5) u5 = A ++ u0 :: u1 :: u2 :: u3 :: u4 :: u5 :: B := by
  subst h
  simp
theorem rowS_next (L : List SpanD) (sv : List (Nat × Nat)) (s : SpanD) (p : Nat × Nat) (h : L[sv.length]? = some s) :
    ((((((rowS L sv).set (sv.length * 6) (.int .i64 s.page)).set (sv.length * 6 + 1) (.int .i64 s.cls)).set (sv.length * 6 + 2) (.int .i64 s.mark)).set (sv.length * 6 + 3) (.bool s.swept)).set (sv.length * 6 + 4) (sl p.1 s.lens.length)).set (sv.length * 6 + 5) (sl p.2 s.ptrs.length) = rowS L (sv ++ [p]) := by
  have hk := (List.getElem?_eq_some_iff.1 h).1
  have e : L.length - sv.length = (L.length - (sv.length + 1)) + 1 := by omega
  unfold rowS
  rw [e, List.replicate_succ, List.flatten_cons, flatS_snoc L sv s p h, List.length_append, List.length_singleton]
  exact (set6 (flatS L sv) _ _ _ _ _ _ _ _ _ _ _ _ _ _ (flatS_len L sv (by omega))).trans (by simp [spanC])
theorem rowS_zero (L : List SpanD) : rowS L [] = (List.replicate L.length zero6).flatten := by simp [rowS, flatS]
theorem rowS_all (L : List SpanD) (sv : List (Nat × Nat)) (h : sv.length = L.length) : rowS L sv = flatS L sv := by simp [rowS, h]
theorem made6 (n : Nat) : (madeCells zero6.toArray (n * 6)).toList = (List.replicate n zero6).flatten := by
  induction n with
  | zero => simp [madeCells]
  | succ n ih =>
    have e : (n + 1) * 6 = n * 6 + 1 + 1 + 1 + 1 + 1 + 1 := by omega
    have m0 : n * 6 % 6 = 0 := by omega
    have m1 : (n * 6 + 1) % 6 = 1 := by omega
    have m2 : (n * 6 + 1 + 1) % 6 = 2 := by omega
    have m3 : (n * 6 + 1 + 1 + 1) % 6 = 3 := by omega
    have m4 : (n * 6 + 1 + 1 + 1 + 1) % 6 = 4 := by omega
    have m5 : (n * 6 + 1 + 1 + 1 + 1 + 1) % 6 = 5 := by omega
    have hsz : zero6.toArray.size = 6 := rfl
    have hm : ∀ m, (madeCells zero6.toArray m).toList = (List.range m).map (fun j => zero6.toArray[j % 6]!) := by
      intro m; unfold madeCells; rw [hsz]; simp
    rw [List.replicate_succ', List.flatten_append, ← ih, hm, hm, e]
    simp only [List.range_succ, List.map_append, List.map_cons, List.map_nil, m0, m1, m2, m3, m4, m5, List.append_assoc]
    rfl

/-- The rows of the spans' own lists. -/
def InnerS (w : World) (base : Nat) (L : List SpanD) (sv : List (Nat × Nat)) : Prop :=
  ∀ (i : Nat) (s : SpanD) (p : Nat × Nat), L[i]? = some s → sv[i]? = some p → w.ownsRow base 3 1 (sl p.1 s.lens.length) s.lens.length (s.lens.map (Value.int .i64)) ∧ w.ownsRow base 3 1 (sl p.2 s.ptrs.length) s.ptrs.length (s.ptrs.map (Value.int .i64))
def valsS (L : List SpanD) (sv : List (Nat × Nat)) : List Value := (List.zip L sv).flatMap fun x => [sl x.2.1 x.1.lens.length, sl x.2.2 x.1.ptrs.length]
theorem InnerS.below {w w' : World} {base : Nat} {L : List SpanD} {sv : List (Nat × Nat)} (h : InnerS w base L sv) (hb : Below w.heap.size w w') : InnerS w' base L sv :=
  fun i s p h1 h2 => ⟨own_below (h i s p h1 h2).1 hb, own_below (h i s p h1 h2).2 hb⟩
theorem InnerS.set {w : World} {base b : Nat} {L : List SpanD} {sv : List (Nat × Nat)} (h : InnerS w base L sv) (hb : b < base) (i : Nat) (u : Value) : InnerS (w.setCell ⟨b, i, none⟩ u) base L sv :=
  fun j s p h1 h2 => ⟨own_set (h j s p h1 h2).1 hb i u, own_set (h j s p h1 h2).2 hb i u⟩
theorem InnerS.base {w : World} {base base' : Nat} {L : List SpanD} {sv : List (Nat × Nat)} (h : InnerS w base L sv) (hb : base' ≤ base) : InnerS w base' L sv :=
  fun j s p h1 h2 => ⟨own_base (h j s p h1 h2).1 hb, own_base (h j s p h1 h2).2 hb⟩
theorem InnerS.snoc {w : World} {base : Nat} {L : List SpanD} {sv : List (Nat × Nat)} (h : InnerS w base L sv) {s : SpanD} {p : Nat × Nat} (hs : L[sv.length]? = some s)
    (h1 : w.ownsRow base 3 1 (sl p.1 s.lens.length) s.lens.length (s.lens.map (Value.int .i64))) (h2 : w.ownsRow base 3 1 (sl p.2 s.ptrs.length) s.ptrs.length (s.ptrs.map (Value.int .i64))) : InnerS w base L (sv ++ [p]) := by
  intro i s' p' hi hp
  by_cases hlt : i < sv.length
  · rw [List.getElem?_append_left hlt] at hp
    exact h i s' p' hi hp
  · have hi2 : i = sv.length := by
      have := (List.getElem?_eq_some_iff.1 hp).1
      simp at this
      omega
    subst hi2
    rw [hs] at hi
    simp at hp
    cases hi
    subst hp
    exact ⟨h1, h2⟩
theorem valsS_snoc (L : List SpanD) (sv : List (Nat × Nat)) (s : SpanD) (p : Nat × Nat) (h : L[sv.length]? = some s) : valsS L (sv ++ [p]) = valsS L sv ++ [sl p.1 s.lens.length, sl p.2 s.ptrs.length] := by
  induction sv generalizing L with
  | nil =>
    cases L with
    | nil => simp at h
    | cons s' L => simp at h; subst h; simp [valsS]
  | cons q sv ih =>
    cases L with
    | nil => simp at h
    | cons s' L =>
      have := ih L (by simpa using h)
      simp only [valsS, List.cons_append, List.zip_cons_cons, List.flatMap_cons, List.append_assoc] at this ⊢
      rw [this]

end Go.Proofs.YtjldjeokcpjgkaaDoor

import Derived.Test.YtdhiablpobnhcaaGreatThG

namespace Go.Proofs.YtdhiablpobnhcaaGreat
open Go.RowKit
set_option linter.unusedVariables false
structure OpD where
 kind : Int
 m : Int
 h : Int
 g : Int
 i : Int
 n : Int
 v : Int
def OpD.cells (o : OpD) : Array Value := #[.int .i64 o.kind, .int .i64 o.m, .int .i64 o.h, .int .i64 o.g, .int .i64 o.i, .int .i64 o.n, .int .i64 o.v]
def OpD.val (o : OpD) : Value := .agg o.cells
structure FitO (o : OpD) : Prop where
 kind : I64 o.kind
 m : I64 o.m
 h : I64 o.h
 g : I64 o.g
 i : I64 o.i
 n : I64 o.n
 v : I64 o.v
def HOk (x : Int) : Prop := 0 ≤ x ∧ x < 6
def MutOk (D : WD) (o : OpD) : Prop := 0 ≤ o.m ∧ o.m < (D.muts.length : Int) ∧ HOk o.h
def rootOf (D : WD) (m h : Int) : Int := ((D.muts[m.toNat]?.getD [])[h.toNat]?).getD 0
def setRoot (D : WD) (m h x : Int) : WD := { D with muts := D.muts.set m.toNat ((D.muts[m.toNat]?.getD []).set h.toNat x) }
def UsesG (k : Int) : Prop := k = 2 ∨ k = 3 ∨ k = 7 ∨ k = 8
def UsesO (k : Int) : Prop := k = 2 ∨ k = 3 ∨ k = 4 ∨ k = 5 ∨ k = 9
def SizeOk (n v : Int) : Prop := 1 ≤ n ∧ n ≤ 16 ∧ 0 ≤ v ∧ v ≤ n
def KindOk (k : Int) : Prop := 1 ≤ k ∧ k ≤ 9
def FirstCode (D : WD) (o : OpD) (c : Int) : Prop :=
 (¬ MutOk D o ∧ c = 2) ∨
 (MutOk D o ∧ UsesG o.kind ∧ ¬ HOk o.g ∧ c = 2) ∨
 (MutOk D o ∧ (UsesG o.kind → HOk o.g) ∧ UsesO o.kind ∧ rootOf D o.m o.h = 0 ∧ c = 2) ∨
 (MutOk D o ∧ (UsesG o.kind → HOk o.g) ∧ o.kind = 1 ∧ ¬ SizeOk o.n o.v ∧ c = 3) ∨
 (MutOk D o ∧ (UsesG o.kind → HOk o.g) ∧ (UsesO o.kind → rootOf D o.m o.h ≠ 0) ∧ (o.kind = 1 → SizeOk o.n o.v) ∧ c = 0)
theorem FirstCode.unique {D : WD} {o : OpD} {c d : Int} (h : FirstCode D o c) (g : FirstCode D o d) : d = c := by
 have h1 : ∀ {k : Int}, UsesO k → k ≠ 1 := fun h e => by unfold UsesO at h; omega
 rcases h with ⟨a, rfl⟩ | ⟨a, b, e, rfl⟩ | ⟨a, b, e, f, rfl⟩ | ⟨a, b, e, f, rfl⟩ | ⟨a, b, e, f, rfl⟩ <;> rcases g with ⟨a', rfl⟩ | ⟨a', b', e', rfl⟩ | ⟨a', b', e', f', rfl⟩ | ⟨a', b', e', f', rfl⟩ | ⟨a', b', e', f', rfl⟩
 all_goals first
  | rfl
  | exact absurd a' a
  | exact absurd a a'
  | exact absurd (b' b) e
  | exact absurd (b b') e'
  | exact absurd e' (h1 e)
  | exact absurd e (h1 e')
  | exact absurd f (e' e)
  | exact absurd f' (e e')
  | exact absurd (f' e) f
  | exact absurd (f e') f'
def IndexOk (kind i : Int) (s : SpanD) (j : Nat) : Prop :=
 ((kind = 2 ∨ kind = 3) → 0 ≤ i ∧ i < s.ptrs[j]?.getD 0) ∧ ((kind = 4 ∨ kind = 5) → s.ptrs[j]?.getD 0 ≤ i ∧ i < s.lens[j]?.getD 0)
def KeepIs (D : WD) (k j : Nat) (E : WD) : Prop :=
 ∃ t, D.spans[k]? = some t ∧ ((D.phase ≠ 0 ∧ t.swept = false ∧ E = { D with spans := D.spans.set k { t with mark := bits .or .i64 t.mark ((2 : Int) ^ j) } }) ∨ (¬ (D.phase ≠ 0 ∧ t.swept = false) ∧ E = D))
def AllocIs (D : WD) (o : OpD) (E : WD) (c : Int) : Prop :=
 (∃ D1 k j s D3, PlaceIs D (cl o.n) D1 k j ∧ D1.spans[k]? = some s ∧ KeepIs (takeD D1 k s j o.n o.v) k j D3 ∧ E = setRoot D3 o.m o.h (D1.base + atW s (j : Int)) ∧ c = 0) ∨
 (NoPlace D (cl o.n) ∧ E = D ∧ c = 5)
def StoreIs (D : WD) (m z : Int) (p : Nat) (E : WD) : Prop :=
 ∃ D1 D2, ShadeIs D (D.words[p]?.getD 0) D1 ∧ ((SeenP D m ∧ D2 = D1) ∨ (¬ SeenP D m ∧ ShadeIs D1 z D2)) ∧ E = { D2 with words := D2.words.set p z, dirty := dirtyUp D2.dirty (p : Int) 1 }
def OnIs (D : WD) (o : OpD) (s : SpanD) (j p : Nat) (E : WD) (x : Int) : Prop :=
 (o.kind = 2 ∧ E = setRoot D o.m o.g (D.words[p]?.getD 0) ∧ x = 0) ∨
 (o.kind = 3 ∧ StoreIs D o.m (rootOf D o.m o.g) p E ∧ x = 0) ∨
 (o.kind = 4 ∧ E = { D with words := D.words.set p o.v, dirty := dirtyUp D.dirty (p : Int) 1 } ∧ x = 0) ∨
 (o.kind = 5 ∧ E = D ∧ x = D.words[p]?.getD 0) ∨
 (o.kind = 9 ∧ E = D ∧ x = s.lens[j]?.getD 0)
def ObjIs (D : WD) (o : OpD) (E : WD) (c x : Int) : Prop :=
 ∃ k j s, IsObj D (rootOf D o.m o.h) k j ∧ D.spans[k]? = some s ∧
  ((¬ IndexOk o.kind o.i s j ∧ E = D ∧ c = 4 ∧ x = 0) ∨ (IndexOk o.kind o.i s j ∧ OnIs D o s j (atW s (j : Int) + o.i).toNat E x ∧ c = 0))
def ActIs (D : WD) (o : OpD) (E : WD) (c x : Int) : Prop :=
 (o.kind = 1 ∧ AllocIs D o E c ∧ x = 0) ∨
 (o.kind = 6 ∧ E = setRoot D o.m o.h 0 ∧ c = 0 ∧ x = 0) ∨
 (o.kind = 8 ∧ E = setRoot D o.m o.g (rootOf D o.m o.h) ∧ c = 0 ∧ x = 0) ∨
 (o.kind = 7 ∧ E = D ∧ c = 0 ∧ ((rootOf D o.m o.h = rootOf D o.m o.g ∧ x = 1) ∨ (rootOf D o.m o.h ≠ rootOf D o.m o.g ∧ x = 0))) ∨
 (UsesO o.kind ∧ ObjIs D o E c x)
def DoIs (D : WD) (o : OpD) (E : WD) (c x : Int) : Prop :=
 (¬ KindOk o.kind ∧ E = D ∧ c = 1 ∧ x = 0) ∨
 (KindOk o.kind ∧ FirstCode D o c ∧ c ≠ 0 ∧ E = D ∧ x = 0) ∨
 (KindOk o.kind ∧ FirstCode D o 0 ∧ ActIs D o E c x)
theorem KeepIs.unique {D E F : WD} {k j : Nat} (h : KeepIs D k j E) (g : KeepIs D k j F) : F = E := by
 obtain ⟨t, ht, h⟩ := h
 obtain ⟨t', ht', g⟩ := g
 rw [ht] at ht'
 cases ht'
 rcases h with ⟨a, b, rfl⟩ | ⟨a, rfl⟩ <;> rcases g with ⟨a', b', rfl⟩ | ⟨a', rfl⟩
 ·rfl
 ·exact absurd ⟨a, b⟩ a'
 ·exact absurd ⟨a', b'⟩ a
 ·rfl
theorem AllocIs.unique {D E F : WD} {o : OpD} {c d : Int} (h : AllocIs D o E c) (g : AllocIs D o F d) : F = E ∧ d = c := by
 rcases h with ⟨D1, k, j, s, D3, hp, hs, hk, rfl, rfl⟩ | ⟨hn, rfl, rfl⟩ <;> rcases g with ⟨D1', k', j', s', D3', hp', hs', hk', rfl, rfl⟩ | ⟨hn', rfl, rfl⟩
 ·obtain ⟨rfl, rfl, rfl⟩ := hp.unique hp'
  rw [hs] at hs'
  cases hs'
  obtain rfl := hk.unique hk'
  exact ⟨rfl, rfl⟩
 ·exact absurd hn' hp.some
 ·exact absurd hn hp'.some
 ·exact ⟨rfl, rfl⟩
theorem StoreIs.unique {D E F : WD} {m z : Int} {p : Nat} (hF : HeapForm D) (h : StoreIs D m z p E) (g : StoreIs D m z p F) : F = E := by
 obtain ⟨D1, D2, h1, h2, rfl⟩ := h
 obtain ⟨D1', D2', g1, g2, rfl⟩ := g
 obtain rfl := h1.unique hF g1
 rcases h2 with ⟨a, rfl⟩ | ⟨a, h2⟩ <;> rcases g2 with ⟨a', rfl⟩ | ⟨a', g2⟩
 ·rfl
 ·exact absurd a a'
 ·exact absurd a' a
 ·obtain rfl := h2.unique (h1.form hF) g2
  rfl
theorem OnIs.unique {D E F : WD} {o : OpD} {s : SpanD} {j p : Nat} {x y : Int} (hF : HeapForm D) (h : OnIs D o s j p E x) (g : OnIs D o s j p F y) : F = E ∧ y = x := by
 rcases h with ⟨a, h, rfl⟩ | ⟨a, h, rfl⟩ | ⟨a, h, rfl⟩ | ⟨a, h, rfl⟩ | ⟨a, h, rfl⟩ <;> rcases g with ⟨a', g, rfl⟩ | ⟨a', g, rfl⟩ | ⟨a', g, rfl⟩ | ⟨a', g, rfl⟩ | ⟨a', g, rfl⟩
 all_goals first
  | (exfalso; omega)
  | exact ⟨g.trans h.symm, rfl⟩
  | exact ⟨h.unique hF g, rfl⟩
theorem ObjIs.unique {D E F : WD} {o : OpD} {c d x y : Int} (hF : HeapForm D) (h : ObjIs D o E c x) (g : ObjIs D o F d y) : F = E ∧ d = c ∧ y = x := by
 obtain ⟨k, j, s, ho, hs, h⟩ := h
 obtain ⟨k', j', s', ho', hs', g⟩ := g
 obtain ⟨rfl, rfl⟩ := ho.unique hF ho'
 rw [hs] at hs'
 cases hs'
 rcases h with ⟨a, rfl, rfl, rfl⟩ | ⟨a, h, rfl⟩ <;> rcases g with ⟨a', rfl, rfl, rfl⟩ | ⟨a', g, rfl⟩
 ·exact ⟨rfl, rfl, rfl⟩
 ·exact absurd a' a
 ·exact absurd a a'
 ·obtain ⟨rfl, rfl⟩ := h.unique hF g
  exact ⟨rfl, rfl, rfl⟩
theorem ActIs.unique {D E F : WD} {o : OpD} {c d x y : Int} (hF : HeapForm D) (h : ActIs D o E c x) (g : ActIs D o F d y) : F = E ∧ d = c ∧ y = x := by
 unfold ActIs UsesO at h g
 rcases h with ⟨a, h, rfl⟩ | ⟨a, rfl, rfl, rfl⟩ | ⟨a, rfl, rfl, rfl⟩ | ⟨a, rfl, rfl, h⟩ | ⟨a, h⟩ <;> rcases g with ⟨a', g, rfl⟩ | ⟨a', rfl, rfl, rfl⟩ | ⟨a', rfl, rfl, rfl⟩ | ⟨a', rfl, rfl, g⟩ | ⟨a', g⟩
 all_goals first
  | (exfalso; omega)
  | exact ⟨rfl, rfl, rfl⟩
  | exact ⟨(h.unique g).1, (h.unique g).2, rfl⟩
  | exact h.unique hF g
  | (refine ⟨rfl, rfl, ?_⟩; omega)
theorem DoIs.unique {D E F : WD} {o : OpD} {c d x y : Int} (hF : HeapForm D) (h : DoIs D o E c x) (g : DoIs D o F d y) : F = E ∧ d = c ∧ y = x := by
 rcases h with ⟨a, rfl, rfl, rfl⟩ | ⟨a, b, e, rfl, rfl⟩ | ⟨a, b, h⟩ <;> rcases g with ⟨a', rfl, rfl, rfl⟩ | ⟨a', b', e', rfl, rfl⟩ | ⟨a', b', g⟩
 all_goals first
  | exact ⟨rfl, rfl, rfl⟩
  | exact absurd a' a
  | exact absurd a a'
  | exact ⟨rfl, b.unique b', rfl⟩
  | exact absurd (b'.unique b) e
  | exact absurd (b.unique b') e'
  | exact h.unique hF g
end Go.Proofs.YtdhiablpobnhcaaGreat

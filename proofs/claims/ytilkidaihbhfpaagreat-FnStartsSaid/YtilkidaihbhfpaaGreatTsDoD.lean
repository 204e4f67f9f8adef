import Derived.Test.YtilkidaihbhfpaaGreatTsG

set_option maxRecDepth 100000
set_option maxHeartbeats 16000000
namespace Go.Proofs.YtilkidaihbhfpaaGreat
open Go.RowKit
set_option linter.unusedVariables false
structure OpD where
 kind:Int
 m:Int
 h:Int
 g:Int
 i:Int
 n:Int
 v:Int
def OpD.cells (o:OpD):Array Value:=#[.int .i64 o.kind,.int .i64 o.m,.int .i64 o.h,.int .i64 o.g,.int .i64 o.i,.int .i64 o.n,.int .i64 o.v]
def OpD.val (o:OpD):Value:=.agg o.cells
structure FitO (o:OpD):Prop where
 kind:I64 o.kind
 m:I64 o.m
 h:I64 o.h
 g:I64 o.g
 i:I64 o.i
 n:I64 o.n
 v:I64 o.v
def HOk (x:Int):Prop:=0≤x∧x<6
def zhj (D:WD) (o:OpD):Prop:=0≤o.m∧o.m<(D.muts.length:Int)∧HOk o.h
def V4 (D:WD) (m h:Int):Int:=((D.muts[m.toNat]?.getD [])[h.toNat]?).getD 0
def M8 (D:WD) (m h x:Int):WD:={ D with muts:=D.muts.set m.toNat ((D.muts[m.toNat]?.getD []).set h.toNat x) }
def L3 (k:Int):Prop:=k=2∨k=3∨k=7∨k=8
def N2 (k:Int):Prop:=k=2∨k=3∨k=4∨k=5∨k=9
def zle (n v:Int):Prop:=1≤n∧n≤16∧0≤v∧v≤n
def zix (k:Int):Prop:=1≤k∧k≤9
def X0 (D:WD) (o:OpD) (c:Int):Prop :=
 (¬ zhj D o∧c=2) ∨
 (zhj D o∧L3 o.kind∧¬ HOk o.g∧c=2) ∨
 (zhj D o∧(L3 o.kind→HOk o.g)∧N2 o.kind∧V4 D o.m o.h=0∧c=2) ∨
 (zhj D o∧(L3 o.kind→HOk o.g)∧o.kind=1∧¬ zle o.n o.v∧c=3) ∨
 (zhj D o∧(L3 o.kind→HOk o.g)∧(N2 o.kind→V4 D o.m o.h≠0)∧(o.kind=1→zle o.n o.v)∧c=0)
theorem X0.unique {D:WD} {o:OpD} {c d:Int} (h:X0 D o c) (g:X0 D o d):d=c:=by
 have h1:∀ {k:Int},N2 k→k≠1:=fun h e=>by unfold N2 at h;omega
 rcases h with ⟨a,rfl⟩ | ⟨a,b,e,rfl⟩ | ⟨a,b,e,f,rfl⟩ | ⟨a,b,e,f,rfl⟩ | ⟨a,b,e,f,rfl⟩ <;> rcases g with ⟨a',rfl⟩ | ⟨a',b',e',rfl⟩ | ⟨a',b',e',f',rfl⟩ | ⟨a',b',e',f',rfl⟩ | ⟨a',b',e',f',rfl⟩
 all_goals first
  | rfl
  | exact absurd a' a
  | exact absurd a a'
  | exact absurd (b' b) e
  | exact absurd (b b') e'
  | exact absurd e' (h1 e)
  | exact absurd e (h1 e')
  | exact absurd f (e' e)
  | exact absurd f' (e e')
  | exact absurd (f' e) f
  | exact absurd (f e') f'
def J8 (kind i:Int) (s:Y3) (j:Nat):Prop :=
 ((kind=2∨kind=3)→0≤i∧i<s.ptrs[j]?.getD 0)∧((kind=4∨kind=5)→s.ptrs[j]?.getD 0≤i∧i<s.lens[j]?.getD 0)
def zlf (D:WD) (k j:Nat) (E:WD):Prop :=
 ∃ t,D.spans[k]?=some t∧((D.phase≠0∧t.swept=false∧E={ D with spans:=D.spans.set k { t with mark:=bits .or .i64 t.mark ((2:Int) ^ j) } })∨(¬ (D.phase≠0∧t.swept=false)∧E=D))
def ziz (D:WD) (o:OpD) (E:WD) (c:Int):Prop :=
 (∃ D1 k j s D3,J7 D (cl o.n) D1 k j∧D1.spans[k]?=some s∧zlf (zgp D1 k s j o.n o.v) k j D3∧E=M8 D3 o.m o.h (D1.base+atW s (j:Int))∧c=0) ∨
 (zob D (cl o.n)∧E=D∧c=5)
def zft (D:WD) (m z:Int) (p:Nat) (E:WD):Prop :=
 ∃ D1 D2,V1 D (D.words[p]?.getD 0) D1∧((N8 D m∧D2=D1)∨(¬ N8 D m∧V1 D1 z D2))∧E={ D2 with words:=D2.words.set p z,dirty:=zfr D2.dirty (p:Int) 1 }
def OnIs (D:WD) (o:OpD) (s:Y3) (j p:Nat) (E:WD) (x:Int):Prop :=
 (o.kind=2∧E=M8 D o.m o.g (D.words[p]?.getD 0)∧x=0) ∨
 (o.kind=3∧zft D o.m (V4 D o.m o.g) p E∧x=0) ∨
 (o.kind=4∧E={ D with words:=D.words.set p o.v,dirty:=zfr D.dirty (p:Int) 1 }∧x=0) ∨
 (o.kind=5∧E=D∧x=D.words[p]?.getD 0) ∨
 (o.kind=9∧E=D∧x=s.lens[j]?.getD 0)
def ObjIs (D:WD) (o:OpD) (E:WD) (c x:Int):Prop :=
 ∃ k j s,U3 D (V4 D o.m o.h) k j∧D.spans[k]?=some s ∧
  ((¬ J8 o.kind o.i s j∧E=D∧c=4∧x=0)∨(J8 o.kind o.i s j∧OnIs D o s j (atW s (j:Int)+o.i).toNat E x∧c=0))
def zlk (D:WD) (o:OpD) (E:WD) (c x:Int):Prop :=
 (o.kind=1∧ziz D o E c∧x=0) ∨
 (o.kind=6∧E=M8 D o.m o.h 0∧c=0∧x=0) ∨
 (o.kind=8∧E=M8 D o.m o.g (V4 D o.m o.h)∧c=0∧x=0) ∨
 (o.kind=7∧E=D∧c=0∧((V4 D o.m o.h=V4 D o.m o.g∧x=1)∨(V4 D o.m o.h≠V4 D o.m o.g∧x=0))) ∨
 (N2 o.kind∧ObjIs D o E c x)
def DoIs (D:WD) (o:OpD) (E:WD) (c x:Int):Prop :=
 (¬ zix o.kind∧E=D∧c=1∧x=0) ∨
 (zix o.kind∧X0 D o c∧c≠0∧E=D∧x=0) ∨
 (zix o.kind∧X0 D o 0∧zlk D o E c x)
theorem zlf.unique {D E F:WD} {k j:Nat} (h:zlf D k j E) (g:zlf D k j F):F=E:=by
 obtain ⟨t,ht,h⟩:=h
 obtain ⟨t',ht',g⟩:=g
 rw [ht] at ht'
 cases ht'
 rcases h with ⟨a,b,rfl⟩ | ⟨a,rfl⟩ <;> rcases g with ⟨a',b',rfl⟩ | ⟨a',rfl⟩
 ·rfl
 ·exact absurd ⟨a,b⟩ a'
 ·exact absurd ⟨a',b'⟩ a
 ·rfl
theorem ziz.unique {D E F:WD} {o:OpD} {c d:Int} (h:ziz D o E c) (g:ziz D o F d):F=E∧d=c:=by
 rcases h with ⟨D1,k,j,s,D3,hp,hs,hk,rfl,rfl⟩ | ⟨hn,rfl,rfl⟩ <;> rcases g with ⟨D1',k',j',s',D3',hp',hs',hk',rfl,rfl⟩ | ⟨hn',rfl,rfl⟩
 ·obtain ⟨rfl,rfl,rfl⟩:=hp.unique hp'
  rw [hs] at hs'
  cases hs'
  obtain rfl:=hk.unique hk'
  exact ⟨rfl,rfl⟩
 ·exact absurd hn' hp.some
 ·exact absurd hn hp'.some
 ·exact ⟨rfl,rfl⟩
theorem zft.unique {D E F:WD} {m z:Int} {p:Nat} (hF:Z8 D) (h:zft D m z p E) (g:zft D m z p F):F=E:=by
 obtain ⟨D1,D2,h1,h2,rfl⟩:=h
 obtain ⟨D1',D2',g1,g2,rfl⟩:=g
 obtain rfl:=h1.unique hF g1
 rcases h2 with ⟨a,rfl⟩ | ⟨a,h2⟩ <;> rcases g2 with ⟨a',rfl⟩ | ⟨a',g2⟩
 ·rfl
 ·exact absurd a a'
 ·exact absurd a' a
 ·obtain rfl:=h2.unique (h1.form hF) g2
  rfl
theorem OnIs.unique {D E F:WD} {o:OpD} {s:Y3} {j p:Nat} {x y:Int} (hF:Z8 D) (h:OnIs D o s j p E x) (g:OnIs D o s j p F y):F=E∧y=x:=by
 rcases h with ⟨a,h,rfl⟩ | ⟨a,h,rfl⟩ | ⟨a,h,rfl⟩ | ⟨a,h,rfl⟩ | ⟨a,h,rfl⟩ <;> rcases g with ⟨a',g,rfl⟩ | ⟨a',g,rfl⟩ | ⟨a',g,rfl⟩ | ⟨a',g,rfl⟩ | ⟨a',g,rfl⟩
 all_goals first
  | (exfalso;omega)
  | exact ⟨g.trans h.symm,rfl⟩
  | exact ⟨h.unique hF g,rfl⟩
theorem ObjIs.unique {D E F:WD} {o:OpD} {c d x y:Int} (hF:Z8 D) (h:ObjIs D o E c x) (g:ObjIs D o F d y):F=E∧d=c∧y=x:=by
 obtain ⟨k,j,s,ho,hs,h⟩:=h
 obtain ⟨k',j',s',ho',hs',g⟩:=g
 obtain ⟨rfl,rfl⟩:=ho.unique hF ho'
 rw [hs] at hs'
 cases hs'
 rcases h with ⟨a,rfl,rfl,rfl⟩ | ⟨a,h,rfl⟩ <;> rcases g with ⟨a',rfl,rfl,rfl⟩ | ⟨a',g,rfl⟩
 ·exact ⟨rfl,rfl,rfl⟩
 ·exact absurd a' a
 ·exact absurd a a'
 ·obtain ⟨rfl,rfl⟩:=h.unique hF g
  exact ⟨rfl,rfl,rfl⟩
theorem zlk.unique {D E F:WD} {o:OpD} {c d x y:Int} (hF:Z8 D) (h:zlk D o E c x) (g:zlk D o F d y):F=E∧d=c∧y=x:=by
 unfold zlk N2 at h g
 rcases h with ⟨a,h,rfl⟩ | ⟨a,rfl,rfl,rfl⟩ | ⟨a,rfl,rfl,rfl⟩ | ⟨a,rfl,rfl,h⟩ | ⟨a,h⟩ <;> rcases g with ⟨a',g,rfl⟩ | ⟨a',rfl,rfl,rfl⟩ | ⟨a',rfl,rfl,rfl⟩ | ⟨a',rfl,rfl,g⟩ | ⟨a',g⟩
 all_goals first
  | (exfalso;omega)
  | exact ⟨rfl,rfl,rfl⟩
  | exact ⟨(h.unique g).1,(h.unique g).2,rfl⟩
  | exact h.unique hF g
  | (refine ⟨rfl,rfl,?_⟩;omega)
theorem DoIs.unique {D E F:WD} {o:OpD} {c d x y:Int} (hF:Z8 D) (h:DoIs D o E c x) (g:DoIs D o F d y):F=E∧d=c∧y=x:=by
 rcases h with ⟨a,rfl,rfl,rfl⟩ | ⟨a,b,e,rfl,rfl⟩ | ⟨a,b,h⟩ <;> rcases g with ⟨a',rfl,rfl,rfl⟩ | ⟨a',b',e',rfl,rfl⟩ | ⟨a',b',g⟩
 all_goals first
  | exact ⟨rfl,rfl,rfl⟩
  | exact absurd a' a
  | exact absurd a a'
  | exact ⟨rfl,b.unique b',rfl⟩
  | exact absurd (b'.unique b) e
  | exact absurd (b.unique b') e'
  | exact h.unique hF g
end Go.Proofs.YtilkidaihbhfpaaGreat

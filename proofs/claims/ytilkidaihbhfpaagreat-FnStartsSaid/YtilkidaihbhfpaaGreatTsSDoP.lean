import Derived.Test.YtilkidaihbhfpaaGreatTsSDoA
import Derived.Test.YtilkidaihbhfpaaGreatTsSDoB
import Derived.Test.YtilkidaihbhfpaaGreatTsSDoC
import Derived.Test.YtilkidaihbhfpaaGreatTsN

set_option maxRecDepth 100000
set_option maxHeartbeats 16000000
namespace Go.Proofs.YtilkidaihbhfpaaGreat
open Go.RowKit
set_option linter.unusedVariables false
def zih (D:WD) (o:OpD) (base B:Nat) (S:Y2) (w:World) (e:Ending) (w':World):Prop :=
 ∃ c x S' E,DoIs D o E c x∧e=.returned (.agg #[.int .i64 c,.int .i64 x])∧VarW w' base B S' E∧T8 w w' B S S'
theorem X0.total (D:WD) (o:OpD):∃ c,X0 D o c:=by
 by_cases a:zhj D o
 case neg=>exact ⟨2,.inl ⟨a,rfl⟩⟩
 by_cases b:L3 o.kind→HOk o.g
 case neg=>exact ⟨2,.inr (.inl ⟨a,Classical.byContradiction fun h=>b fun h'=>absurd h' h,fun h=>b fun _=>h,rfl⟩)⟩
 by_cases c:N2 o.kind→V4 D o.m o.h≠0
 case neg=>exact ⟨2,.inr (.inr (.inl ⟨a,b,Classical.byContradiction fun h=>c fun h'=>absurd h' h,Classical.byContradiction fun h=>c fun _=>h,rfl⟩))⟩
 by_cases e:o.kind=1→zle o.n o.v
 case neg=>exact ⟨3,.inr (.inr (.inr (.inl ⟨a,b,Classical.byContradiction fun h=>e fun h'=>absurd h' h,fun h=>e fun _=>h,rfl⟩)))⟩
 exact ⟨0,.inr (.inr (.inr (.inr ⟨a,b,c,e,rfl⟩)))⟩
theorem X0.zero {D:WD} {o:OpD} (h:X0 D o 0):zhj D o∧(L3 o.kind→HOk o.g)∧(N2 o.kind→V4 D o.m o.h≠0)∧(o.kind=1→zle o.n o.v):=by
 rcases h with ⟨_,e⟩ | ⟨_,_,_,e⟩ | ⟨_,_,_,_,e⟩ | ⟨_,_,_,_,e⟩ | ⟨a,b,c,d,_⟩
 ·omega
 ·omega
 ·omega
 ·omega
 ·exact ⟨a,b,c,d⟩
def F0 (D:WD):Prop:=∀ r,r ∈ D.muts→∀ a,a ∈ r→a=0∨R7 D a
theorem F0.at_ {D:WD} (h:F0 D) {m x:Int} (hr:V4 D m x≠0):∃ k j s,U3 D (V4 D m x) k j∧D.spans[k]?=some s:=by
 have hm:∃ r,r ∈ D.muts∧V4 D m x ∈ r:=by
  unfold V4 at hr ⊢
  cases e:D.muts[m.toNat]? with
  | none=>rw [e] at hr;simp at hr
  | some r =>
   rw [e] at hr
   simp only [Option.getD_some] at hr ⊢
   cases e2:r[x.toNat]? with
   | none=>rw [e2] at hr;simp at hr
   | some a=>exact ⟨r,List.mem_of_getElem? e,by simp only [Option.getD_some];exact List.mem_of_getElem? e2⟩
 obtain ⟨r,h1,h2⟩:=hm
 rcases h r h1 _ h2 with h0 | ⟨k,j,ho⟩
 ·exact absurd h0 hr
 ·obtain ⟨s,hs,hrest⟩:=id ho
  exact ⟨k,j,s,ho,hs⟩
theorem Q9 {D E:WD} {o:OpD} {base B q:Nat} {S T:Y2} {w w1 w2:World} {c x:Int} (y:DoIs D o E c x) (hv:VarW w1 base B T E) (hT:T8 w w1 B S T) (hB:Below base w w1) (hb:base≤q) (hq:w.heap.size≤q) (hn:q ∉ B :: blks T.all) (hc:Chg [q] w1 w2) :
  zih D o base B S w (.returned (.agg #[.int .i64 c,.int .i64 x])) w2∧Below base w w2:=by
 refine ⟨⟨c,x,T,E,y,rfl,⟨(hc.block B hv.lt fun hm=>hn (by rw [← List.mem_singleton.1 hm];simp)).trans hv.box,hv.own.chg hc fun k hk hm=>hn (by rw [← List.mem_singleton.1 hm];exact List.mem_cons_of_mem _ hk),hv.le,hv.ne⟩,hT.step hc fun q' hq'=>.inr (.inr (by rw [List.mem_singleton.1 hq'];exact hq))⟩,Chg.below hB hc (Nat.le_of_lt (Nat.lt_of_le_of_lt hv.le hv.lt)) fun q' hq'=>by rw [List.mem_singleton.1 hq'];exact hb⟩
theorem T8.fresh {w w1:World} {B q:Nat} {S T:Y2} (h:T8 w w1 B S T) (hq:q ∉ B :: blks S.all) (hl:q<w.heap.size):q ∉ B :: blks T.all:=fun hm=>by
 rcases List.mem_cons.1 hm with rfl | hm
 ·exact hq (by simp)
 ·rcases h.own q hm with h1 | h1
  ·exact hq (List.mem_cons_of_mem _ h1)
  ·omega
end Go.Proofs.YtilkidaihbhfpaaGreat

import Derived.Test.YtilkidaihbhfpaaGreatTsSrc
import Derived.Test.YtilkidaihbhfpaaGreatTsV
import Derived.Test.YtilkidaihbhfpaaGreatTsW
import Derived.Deep.RegionWith
import Derived.Test.YtilkidaihbhfpaaGreatTsSTake2
import Derived.Test.YtilkidaihbhfpaaGreatTsL1
import Derived.Test.YtilkidaihbhfpaaGreatTsP
import Derived.Deep.DeepCutAuto
import Derived.Deep.CutRange
import Derived.Outline
import Derived.Test.YtilkidaihbhfpaaGreatTsSW
import Derived.Test.YtilkidaihbhfpaaGreatTsIW
import Derived.Test.YtilkidaihbhfpaaGreatTsCaps
import Derived.Test.YtilkidaihbhfpaaGreatTsG
import Derived.Test.YtilkidaihbhfpaaGreatTsN
import Derived.Test.YtilkidaihbhfpaaGreatTsR
import Derived.RangeFuncWrites
import Derived.Lib.SliceRun
import Derived.Test.YtilkidaihbhfpaaGreatTsCut
import Derived.StillTailTactics
import Derived.Test.YtilkidaihbhfpaaGreatTsH
import Derived.Test.YtilkidaihbhfpaaGreatTsA
import Derived.ScopeJumps
import Derived.WalkMore
import Derived.Test.YtilkidaihbhfpaaGreatTsLeft

set_option maxRecDepth 100000
set_option maxHeartbeats 16000000
namespace Go.Proofs.YtilkidaihbhfpaaGreat
open Go.RowKit
set_option linter.unusedVariables false
structure CpM (w wr:World) (L:List (List Int)) (v5:Value) (mv:List Value) (k:Nat):Prop where
 below:Below w.heap.size w wr
 mrow:wr.ownsRow w.heap.size 74 1 v5 L.length mv
 mvl:mv.length=L.length
 mutsN:∀ (i:Nat) (r:List Int) (u:Value),i<k→L[i]?=some r→mv[i]?=some u→wr.ownsRow w.heap.size 3 1 u r.length (r.map (Value.int .i64))
 mutsO:∀ (i:Nat) (r:List Int) (u:Value),k≤i→L[i]?=some r→mv[i]?=some u→Rd w u r
 nodup:((mv.take k).filterMap Value.ownBlock).Nodup
theorem CpM.next {w wr y wF:World} {L:List (List Int)} {u:Value} {g5 c5:Nat} {mv:List Value} {k:Nat} (h:CpM w wr L (.slice (some ⟨g5,0,none⟩) L.length c5) mv k) {r:List Int} (hr:L[k]?=some r)
  (hy:Below wr.heap.size wr y) (o1:y.ownsRow wr.heap.size 3 1 u r.length (r.map (Value.int .i64))) (hF:wF=y.setCell ⟨g5,k,none⟩ u) :
  CpM w wF L (.slice (some ⟨g5,0,none⟩) L.length c5) (mv.set k u) (k+1):=by
 subst hF
 have hk:=(List.getElem?_eq_some_iff.1 hr).1
 have hsz:=h.below.size
 have hyz:=hy.size
 have hmv:=h.mvl
 have hrow:=Y9 h.mrow hy
 have st1:=hrow.stored k u
 have cF:Chg [g5] y (y.setCell ⟨g5,k,none⟩ u):=Chg.of_grown (V5 y g5 _ u) (by simp)
 have hg5:=hrow.lt g5 rfl
 have keep:∀ {x:Value} {n b:Nat} {xs:List Value} {t:TypeId} {sz:Nat},y.ownsRow b t sz x n xs→t≠74→(y.setCell ⟨g5,k,none⟩ u).ownsRow b t sz x n xs:=fun hx ht =>
  X9 hx cF fun q hq hm=>L7 hx hrow ht q hq (by rw [List.mem_singleton.1 hm];rfl)
 refine ⟨Chg.below (h.below.trans (hy.mono hsz)) cF (by omega) (fun x hx=>by rw [List.mem_singleton.1 hx];omega),st1.1,by rw [List.length_set];exact h.mvl,fun i t q hi ht hq=>?_,fun i t q hi ht hq=>?_,?_⟩
 ·by_cases e:i=k
  ·subst e
   rw [hr] at ht
   cases ht
   rw [List.getElem?_set_self (by omega)] at hq
   cases hq
   exact V8 (keep o1 (by decide)) hsz
  ·rw [List.getElem?_set_ne (fun h=>e h.symm)] at hq
   exact keep (Y9 (h.mutsN i t q (by omega) ht hq) hy) (by decide)
 ·rw [List.getElem?_set_ne (by omega)] at hq
  exact h.mutsO i t q (by omega) ht hq
 ·have e1:(mv.set k u).take (k+1)=mv.take k ++ [u]:=by
   rw [List.take_succ_eq_append_getElem (by simp;omega),List.take_set_of_le (Nat.le_refl _)]
   simp
  rw [e1,List.filterMap_append,List.nodup_append]
  refine ⟨h.nodup,by cases hv:u.ownBlock <;> simp [hv],fun a ha c hc eac=>?_⟩
  obtain ⟨x,hx,hxa⟩:=List.mem_filterMap.1 ha
  obtain ⟨i,hi⟩:=List.mem_iff_getElem?.1 hx
  have hil:=(List.getElem?_eq_some_iff.1 hi).1
  rw [List.length_take] at hil
  rw [List.getElem?_take_of_lt (by omega)] at hi
  obtain ⟨t,ht⟩:∃ t,L[i]?=some t:=⟨_,List.getElem?_eq_getElem (by omega)⟩
  have h1:=((h.mutsN i t x (by omega) ht hi).lt a hxa).2
  obtain ⟨y',hy',hyc⟩:=List.mem_filterMap.1 hc
  rw [List.mem_singleton] at hy'
  subst hy'
  have h2:=(o1.lt c hyc).1
  omega
theorem zoe (v:Value) (L:List (List Int)) (hs:L.length≤1048576) (hs1:∀ r ∈ L,r.length≤1048576) (w:World) (hr:RdM w v L) :
  Calls Tryz.prog 92 #[v] w fun e w'=>∃ a c mv,e=.returned (.slice a L.length c)∧OwnM w' w.heap.size (.slice a L.length c) L mv∧(mv.filterMap Value.ownBlock).Nodup∧Below w.heap.size w w':=by
 obtain ⟨am,cm,rfl⟩:∃ a c,v=.slice a L.length c:=by obtain ⟨a,c,h,_⟩:=hr;exact ⟨a,c,h⟩
 obtain ⟨mv0,hl0,hsrc,hin0⟩:=hr.src
 have hcall:=zaa (zsq am L.length cm mv0 hs w hsrc)
 have hs1':=zaa hs1
 have H0:=zaa (And.intro hl0 hin0)
 clear hl0 hin0 hsrc hr hs1
 go_enter Tryz.func92,Tryz.ntmps92
 go_wp2_with fail
 refine hcall.out.mono ?_
 rintro e w1 ⟨v,rfl,ho,hb⟩
 obtain ⟨a5,c5,rfl⟩:=Y4 ho
 have st0:=zaa (show CpM w w1 L (.slice a5 L.length c5) mv0 0 from ⟨hb,ho,H0.out.1,fun i r u hi=>absurd hi (by omega),fun i r u _=>H0.out.2 i r u,by simp⟩)
 clear ho hb hcall
 go_wp2_with fail
 go_loopw [9] (fun i wr=>∃ (k:Nat) (mv:List Value),k≤L.length∧i=.int .i64 k∧Hid (CpM w wr L (.slice a5 L.length c5) mv k)) (fun i _=>L.length-(RowKit.intOf i).toNat)
 case atStart=>exact ⟨0,mv0,Nat.zero_le _,rfl,st0⟩
 case round =>
  clear st0
  obtain ⟨k,mv,hk,rfl,st⟩:=hrel
  by_cases hltk:k<L.length
  ·have hlt1:(k:Int)<(L.length:Int):=by omega
   obtain ⟨r,hks⟩:∃ s,L[k]?=some s:=⟨_,List.getElem?_eq_getElem hltk⟩
   obtain ⟨u,hu⟩:∃ p,mv[k]?=some p:=⟨_,List.getElem?_eq_getElem (by have:=st.out.mvl;omega)⟩
   obtain ⟨g5,rfl⟩:∃ g5,a5=some ⟨g5,0,none⟩:=by
    rcases st.out.mrow.2 with ⟨he,h0⟩ | ⟨g,cap,cur,he,_⟩
    ·omega
    ·exact ⟨g,by simp at he;exact he.1⟩
   have hrow:=st.out.mrow
   have x0:wr.cell? ⟨g5,k,none⟩=some u:=by rw [hrow.cellAt k (by have:=st.out.mvl;omega),hu]
   have f0:=hrow.frozenAt k
   have ho:=st.out.mutsO k r u (Nat.le_refl _) hks hu
   obtain ⟨al,cl,hul,hll,-⟩:=id ho
   unfold maxLen at hll
   have hi:=hs1'.out r (List.mem_of_getElem? hks)
   have rL:=zaa (show N1 wr al r.length 1 (r.map (Value.int .i64)) from by have:=ho;rw [hul] at this;exact (this.src.below st.out.below))
   rw [hul] at x0
   have cL:=zaa (zfd al r.length cl (r.map (Value.int .i64)) hi wr rL.out)
   have hg5:=zaa (hrow.lt g5 rfl)
   have hg5a:g5<wr.heap.size:=hg5.out.2
   have hrow':=zaa hrow
   have hlen:=hrow.1
   have nxt:=zaa (fun (y wF:World) (u:Value) hy o1 hF=>st.out.next (y:=y) (wF:=wF) (u:=u) hks hy o1 hF)
   clear hks hu hrow ho hul hi f0
   go_wp2_with fail
   refine cL.out.mono ?_
   rintro e w1 ⟨v,rfl,o1,b1⟩
   obtain ⟨aL,cL2,rfl⟩:=Y4 o1
   have hown2:=Y9 hrow'.out b1
   have x1:=Z7 b1 x0
   have f1:=hown2.frozenAt k
   have oL:=zaa o1
   have bL:=zaa b1
   clear o1 b1 hown2 x0
   go_wp2_with fail
   go_roundw
   case rel=>exact ⟨k+1,_,by omega,by go_num,nxt.out _ _ _ bL.out oL.out rfl⟩
   case measure=>simp [RowKit.intOf];omega
  ·obtain rfl:k=L.length:=by omega
   have y:=zaa (show OwnM wr w.heap.size (.slice a5 L.length c5) L mv∧(mv.filterMap Value.ownBlock).Nodup∧Below w.heap.size w wr from
    ⟨⟨st.out.mrow,st.out.mvl,fun i r u h1 h2=>st.out.mutsN i r u (List.getElem?_eq_some_iff.1 h1).1 h1 h2⟩,by
     have:=st.out.nodup
     rwa [show mv.take L.length=mv by rw [← st.out.mvl];exact List.take_length] at this,st.out.below⟩)
   go_wp2_with fail
   go_ret
   exact ⟨_,_,mv,rfl,y.out⟩
theorem OwnM.baseLe {w:World} {base base':Nat} {v:Value} {L:List (List Int)} {mv:List Value} (h:OwnM w base v L mv) (hb:base'≤base):OwnM w base' v L mv :=
 ⟨V8 h.row hb,h.len,fun i r u h1 h2=>V8 (h.inner i r u h1 h2) hb⟩
theorem OwnM.set {w:World} {base b:Nat} {v:Value} {L:List (List Int)} {mv:List Value} (h:OwnM w base v L mv) (hb:b<base) (i:Nat) (u:Value):OwnM (w.setCell ⟨b,i,none⟩ u) base v L mv :=
 ⟨own_set h.row hb i u,h.len,fun j r x h1 h2=>own_set (h.inner j r x h1 h2) hb i u⟩
theorem OwnM.mvIn {w:World} {base:Nat} {v:Value} {L:List (List Int)} {mv:List Value} (h:OwnM w base v L mv):∀ q,q ∈ mv.filterMap Value.ownBlock→base≤q∧q<w.heap.size:=fun q hq=>by
 obtain ⟨x,hx,hxa⟩:=List.mem_filterMap.1 hq
 obtain ⟨i,hi⟩:=List.mem_iff_getElem?.1 hx
 have hil:=(List.getElem?_eq_some_iff.1 hi).1
 obtain ⟨r,hr⟩:∃ r,L[i]?=some r:=⟨_,List.getElem?_eq_getElem (by have:=h.len;omega)⟩
 exact (h.inner i r x hr hi).lt q hxa
def zhl:Array Value:=#[.int .i64 0,.int .i64 0,.slice none 0 0,.slice none 0 0,.slice none 0 0,.slice none 0 0,.int .i64 0,.int .i64 0,.slice none 0 0]
theorem zsw (L:List Y3) (sv:List (Value × Value)) (i:Nat) (p:Value × Value) (u1 u2:Value) (h1:i<L.length) (h2:sv[i]?=some p) :
  ((U9 L sv).set (i*6+4) u1).set (i*6+5) u2=U9 L (sv.set i (u1,u2)):=by
 induction i generalizing L sv with
 | zero =>
  cases L with
  | nil=>simp at h1
  | cons a L =>
   cases sv with
   | nil=>simp at h2
   | cons q sv =>
    simp only [U9,List.zip_cons_cons,List.flatMap_cons,List.set_cons_zero]
    simp [Q8]
 | succ i ih =>
  cases L with
  | nil=>simp at h1
  | cons a L =>
   cases sv with
   | nil=>simp at h2
   | cons q sv =>
    simp at h1 h2
    have:=ih L sv (by omega) h2
    simp only [U9,List.zip_cons_cons,List.flatMap_cons,List.set_cons_succ] at this ⊢
    rw [← this,List.set_append_right _ _ (by simp [Q8];omega),List.set_append_right _ _ (by simp [Q8];omega)]
    rw [show (i+1)*6+4-(Q8 a q).length=i*6+4 by simp [Q8];omega,show (i+1)*6+5-(Q8 a q).length=i*6+5 by simp [Q8];omega]
structure Cp1 (w wr:World) (D:WD) (v1 v2 v3 v5 v8:Value) (sv:List (Value × Value)) (mv:List Value) (k:Nat):Prop where
 below:Below w.heap.size w wr
 boxR:wr.heap[w.heap.size]?=some (.cells zhl 30 (0,0))
 boxB:wr.heap[w.heap.size+1]?=some (.cells #[.int .i64 D.base,.int .i64 D.pages,v1,v2,v3,v5,.int .i64 D.phase,.int .i64 D.next,v8] 30 (0,0))
 size:w.heap.size+1+1≤wr.heap.size
 words:wr.ownsRow (w.heap.size+1+1) 3 1 v1 D.words.length (D.words.map (Value.int .i64))
 dirty:wr.ownsRow (w.heap.size+1+1) 4 1 v2 D.dirty.length (D.dirty.map Value.bool)
 row:wr.ownsRow (w.heap.size+1+1) 97 6 v3 D.spans.length (U9 D.spans sv)
 svl:sv.length=D.spans.length
 innerN:∀ (i:Nat) (s:Y3) (p:Value × Value),i<k→D.spans[i]?=some s→sv[i]?=some p→wr.ownsRow (w.heap.size+1+1) 3 1 p.1 s.lens.length (s.lens.map (Value.int .i64))∧wr.ownsRow (w.heap.size+1+1) 3 1 p.2 s.ptrs.length (s.ptrs.map (Value.int .i64))
 innerO:∀ (i:Nat) (s:Y3) (p:Value × Value),k≤i→D.spans[i]?=some s→sv[i]?=some p→Rd w p.1 s.lens∧Rd w p.2 s.ptrs
 muts:OwnM wr (w.heap.size+1+1) v5 D.muts mv
 grey:wr.ownsRow (w.heap.size+1+1) 3 1 v8 D.grey.length (D.grey.map (Value.int .i64))
 nodup:((v1 :: X7 (sv.take k) ++ (mv ++ [v8])).filterMap Value.ownBlock).Nodup
theorem zut (sv:List (Value × Value)) (k:Nat) (h:k<sv.length) (p:Value × Value):X7 ((sv.set k p).take (k+1))=X7 (sv.take k) ++ [p.1,p.2]:=by
 rw [List.take_succ_eq_append_getElem (by simpa using h),zga]
 have e1:(sv.set k p).take k=sv.take k:=by rw [List.take_set_of_le (Nat.le_refl _)]
 rw [e1]
 simp [X7]
theorem zyu {X:List Value} {C:List Value} {a b:Value} {n:Nat} (h:((X ++ C).filterMap Value.ownBlock).Nodup) (ho:∀ q,q ∈ blks (X ++ C)→q<n) (ha:∀ q,a.ownBlock=some q→n≤q) (hb:∀ q,b.ownBlock=some q→n≤q) (hab:∀ q,a.ownBlock=some q→b.ownBlock≠some q) :
  ((X ++ [a,b] ++ C).filterMap Value.ownBlock).Nodup:=by
 have hp:(X ++ [a,b] ++ C).Perm (a :: b :: (X ++ C)):=by
  rw [List.append_assoc]
  exact List.perm_middle.trans (List.perm_middle.cons a)
 rw [(hp.filterMap _).nodup_iff]
 have hb':((b :: (X ++ C)).filterMap Value.ownBlock).Nodup:=by
  cases hv:b.ownBlock with
  | none=>rw [List.filterMap_cons_none hv];exact h
  | some q=>rw [List.filterMap_cons_some hv,List.nodup_cons];exact ⟨fun hm=>by have:=ho q hm;have:=hb q hv;omega,h⟩
 cases hv:a.ownBlock with
 | none=>rw [List.filterMap_cons_none hv];exact hb'
 | some q =>
  rw [List.filterMap_cons_some hv,List.nodup_cons]
  refine ⟨fun hm=>?_,hb'⟩
  obtain ⟨x,hx,hxq⟩:=List.mem_filterMap.1 hm
  rcases List.mem_cons.1 hx with rfl | hx
  ·exact hab q hv hxq
  ·have:=ho q (List.mem_filterMap.2 ⟨x,hx,hxq⟩)
   have:=ha q hv
   omega
theorem Cp1.next {w wr y wF:World} {D:WD} {v1 v2 v5 v8 u1 u2:Value} {g3 c3:Nat} {sv:List (Value × Value)} {mv:List Value} {k:Nat} (h:Cp1 w wr D v1 v2 (.slice (some ⟨g3,0,none⟩) D.spans.length c3) v5 v8 sv mv k) {s:Y3} (hs:D.spans[k]?=some s)
  (hy:Below wr.heap.size wr y) (o1:y.ownsRow wr.heap.size 3 1 u1 s.lens.length (s.lens.map (Value.int .i64))) (o2:y.ownsRow wr.heap.size 3 1 u2 s.ptrs.length (s.ptrs.map (Value.int .i64))) (hne:∀ q,u1.ownBlock=some q→u2.ownBlock≠some q)
  (hF:wF=(y.setCell ⟨g3,k*6+4,none⟩ u1).setCell ⟨g3,k*6+5,none⟩ u2) :
  Cp1 w wF D v1 v2 (.slice (some ⟨g3,0,none⟩) D.spans.length c3) v5 v8 (sv.set k (u1,u2)) mv (k+1):=by
 subst hF
 have hk:=(List.getElem?_eq_some_iff.1 hs).1
 have hsz:=h.size
 have hyz:=hy.size
 obtain ⟨p,hp⟩:∃ p,sv[k]?=some p:=⟨_,List.getElem?_eq_getElem (by have:=h.svl;omega)⟩
 have hrow:=Y9 h.row hy
 have st1:=hrow.stored (k*6+4) u1
 have st2:=st1.1.stored (k*6+5) u2
 rw [zsw D.spans sv k p u1 u2 hk hp] at st2
 have cF:Chg [g3] y ((y.setCell ⟨g3,k*6+4,none⟩ u1).setCell ⟨g3,k*6+5,none⟩ u2):=(Chg.of_grown (V5 y g3 _ u1) (by simp)).trans (Chg.of_grown (V5 _ g3 _ u2) (by simp))
 have hg3:=hrow.lt g3 rfl
 have keep:∀ {x:Value} {n b:Nat} {xs:List Value} {t:TypeId} {sz:Nat},y.ownsRow b t sz x n xs→t≠97→((y.setCell ⟨g3,k*6+4,none⟩ u1).setCell ⟨g3,k*6+5,none⟩ u2).ownsRow b t sz x n xs:=fun hx ht =>
  X9 hx cF fun q hq hm=>L7 hx hrow ht q hq (by rw [List.mem_singleton.1 hm];rfl)
 have blk:∀ {b:Nat} {o:Obj},b<w.heap.size+1+1→wr.heap[b]?=some o→((y.setCell ⟨g3,k*6+4,none⟩ u1).setCell ⟨g3,k*6+5,none⟩ u2).heap[b]?=some o:=fun hb ho =>
  (cF.block _ (by omega) (by simp only [List.mem_singleton];omega)).trans (Z6 hy ho)
 refine ⟨Chg.below (h.below.trans (hy.mono h.below.size)) cF (by have:=h.below.size;omega) (fun x hx=>by rw [List.mem_singleton.1 hx];omega),blk (by omega) h.boxR,blk (by omega) h.boxB,by have:=cF.size;omega,
  keep (Y9 h.words hy) (by decide),keep (Y9 h.dirty hy) (by decide),st2.1,by rw [List.length_set];exact h.svl,fun i t q hi ht hq=>?_,fun i t q hi ht hq=>?_,⟨keep (Y9 h.muts.row hy) (by decide),h.muts.len,fun i r u h1 h2=>keep (Y9 (h.muts.inner i r u h1 h2) hy) (by decide)⟩,keep (Y9 h.grey hy) (by decide),?_⟩
 ·by_cases e:i=k
  ·subst e
   rw [hs] at ht
   cases ht
   rw [List.getElem?_set_self (by have:=h.svl;omega)] at hq
   cases hq
   exact ⟨V8 (keep o1 (by decide)) hsz,V8 (keep o2 (by decide)) hsz⟩
  ·rw [List.getElem?_set_ne (fun h=>e h.symm)] at hq
   have hi:=h.innerN i t q (by omega) ht hq
   exact ⟨keep (Y9 hi.1 hy) (by decide),keep (Y9 hi.2 hy) (by decide)⟩
 ·rw [List.getElem?_set_ne (by omega)] at hq
  exact h.innerO i t q (by omega) ht hq
 ·rw [zut sv k (by have:=h.svl;omega)]
  have e:v1 :: (X7 (sv.take k) ++ [u1,u2]) ++ (mv ++ [v8])=(v1 :: X7 (sv.take k)) ++ [u1,u2] ++ (mv ++ [v8]):=by simp
  rw [e]
  refine zyu (n:=wr.heap.size) h.nodup (fun q hq=>?_) (fun q hq=>(o1.lt q hq).1) (fun q hq=>(o2.lt q hq).1) hne
  obtain ⟨x,hx,hxq⟩:=List.mem_filterMap.1 hq
  simp only [List.mem_append,List.mem_cons,List.not_mem_nil,or_false] at hx
  rcases hx with (rfl | hx) | hx | rfl
  ·exact (h.words.lt q hxq).2
  ·obtain ⟨p2,hp2,hx⟩:=List.mem_flatMap.1 hx
   obtain ⟨i,hi⟩:=List.mem_iff_getElem?.1 hp2
   have hil:=(List.getElem?_eq_some_iff.1 hi).1
   rw [List.length_take] at hil
   rw [List.getElem?_take_of_lt (by omega)] at hi
   obtain ⟨t,ht⟩:∃ t,D.spans[i]?=some t:=⟨_,List.getElem?_eq_getElem (by omega)⟩
   have hin:=h.innerN i t p2 (by omega) ht hi
   simp only [List.mem_cons,List.not_mem_nil,or_false] at hx
   rcases hx with rfl | rfl
   ·exact (hin.1.lt q hxq).2
   ·exact (hin.2.lt q hxq).2
  ·exact (h.muts.mvIn q (List.mem_filterMap.2 ⟨x,hx,hxq⟩)).2
  ·exact (h.grey.lt q hxq).2
theorem Cp1.own {w wr:World} {D:WD} {v1 v2 v3 v5 v8:Value} {sv:List (Value × Value)} {mv:List Value} (h:Cp1 w wr D v1 v2 v3 v5 v8 sv mv D.spans.length) {wF:World} (hF:Chg [w.heap.size] wr wF) :
  OwnW wF w.heap.size ⟨v1,v2,v3,v5,v8,sv,mv⟩ D∧Below w.heap.size w wF:=by
 have ho:OwnW wr (w.heap.size+1+1) ⟨v1,v2,v3,v5,v8,sv,mv⟩ D:=⟨h.words,h.dirty,h.row,h.svl,fun i s p hs hp=>h.innerN i s p (List.getElem?_eq_some_iff.1 hs).1 hs hp,h.muts.row,h.muts.len,h.muts.inner,h.grey,by
  have:=h.nodup
  rw [show sv.take D.spans.length=sv by rw [← h.svl];exact List.take_length] at this
  rw [← List.append_assoc] at this
  exact this⟩
 exact ⟨(ho.chg0 hF (fun q hq=>by rw [List.mem_singleton.1 hq];omega)).base_le (by omega),Chg.below h.below hF h.below.size (fun q hq=>by rw [List.mem_singleton.1 hq];exact Nat.le_refl _)⟩
theorem nodup3 {v1 v8:Value} {mv:List Value} {n n':Nat} (hm:(mv.filterMap Value.ownBlock).Nodup) (h1:∀ q,v1.ownBlock=some q→q<n) (h2:∀ q,q ∈ mv.filterMap Value.ownBlock→n≤q∧q<n') (h8:∀ q,v8.ownBlock=some q→n'≤q) (hn:n≤n'):((v1 :: X7 [] ++ (mv ++ [v8])).filterMap Value.ownBlock).Nodup:=by
 have hC:((mv ++ [v8]).filterMap Value.ownBlock).Nodup:=by
  rw [List.filterMap_append,List.nodup_append]
  refine ⟨hm,by cases hv:v8.ownBlock <;> simp [hv],fun a ha c hc e=>?_⟩
  obtain ⟨y,hy,hyc⟩:=List.mem_filterMap.1 hc
  rw [List.mem_singleton] at hy
  subst hy
  have:=(h2 a ha).2
  have:=h8 c hyc
  omega
 have e:v1 :: X7 [] ++ (mv ++ [v8])=v1 :: (mv ++ [v8]):=by simp [X7]
 rw [e]
 cases hv:v1.ownBlock with
 | none=>rw [List.filterMap_cons_none hv];exact hC
 | some q =>
  rw [List.filterMap_cons_some hv,List.nodup_cons]
  refine ⟨fun hq=>?_,hC⟩
  have a1:=h1 q hv
  rw [List.filterMap_append,List.mem_append] at hq
  rcases hq with hq | hq
  ·have:=(h2 q hq).1;omega
  ·obtain ⟨y,hy,hyc⟩:=List.mem_filterMap.1 hq
   rw [List.mem_singleton] at hy
   subst hy
   have:=h8 q hyc
   omega
theorem Ext.frozen {W:World} {b o:Nat} {v:Value} (hc:W.cell? ⟨b,o,none⟩=some v) (h:W.frozen? ⟨b,o,none⟩=false):∀ x:Ext W,x.val.frozen? ⟨b,o,none⟩=false:=fun x=>(x.below.frozen (p:=⟨b,o,none⟩) (zis hc)).trans h
theorem ztl {w0 y1 y2:World} {b n1 n2:Nat} {u1 u2:Value} {xs1 xs2:List Value} (b1:Below b w0 y1) (hb:b≤w0.heap.size) (o1:y1.ownsRow b 3 1 u1 n1 xs1) (b2:Below y1.heap.size y1 y2) (o2:y2.ownsRow y1.heap.size 3 1 u2 n2 xs2) :
  Below b w0 y2∧y2.ownsRow b 3 1 u1 n1 xs1∧y2.ownsRow b 3 1 u2 n2 xs2∧∀ q,u1.ownBlock=some q→u2.ownBlock≠some q:=by
 have z:=b1.size
 refine ⟨b1.trans (b2.mono (by omega)),Y9 o1 b2,V8 o2 (by omega),fun q h1 h2=>?_⟩
 have:=(o1.lt q h1).2
 have:=(o2.lt q h2).1
 omega
theorem zlr (B0:Nat) (v:Value) (D:WD) (hs:zgk D) (w:World) (hr:RdW w v D) (hB:BoxW w B0 v) :
  Calls Tryz.prog 47 #[.pointer (some ⟨B0,0,none⟩)] w fun e w'=>∃ S,e=.returned (S.val D)∧OwnW w' w.heap.size S D∧Below w.heap.size w w':=by
 obtain ⟨aw,ad,aS,am,ag,cw,cd,cS,cm,cg,rfl⟩:=hr.written
 unfold zlw at hr hB
 obtain ⟨q1,q2,q3,q4,q5⟩:=hr.parts
 have e1:=zaa q1.src
 have e2:=zaa q2.src
 obtain ⟨sv0,svl,e3,e3i⟩:=q3.src
 have q4':=zaa q4
 have e5:=zaa q5.src
 have e3:=zaa e3
 have e3i:=zaa e3i
 have svl:=zaa svl
 have hs1:=hs.words
 have hs2:=hs.dirty
 have hs3:=hs.spans
 have hs4:=hs.muts
 have hs5:=hs.grey
 have hs':=zaa hs
 have g0:=hB.cell 0 _ rfl
 have g1:=hB.cell 1 _ rfl
 have g2:=hB.cell 2 _ rfl
 have g3:=hB.cell 3 _ rfl
 have g4:=hB.cell 4 _ rfl
 have g5:=hB.cell 5 _ rfl
 have g6:=hB.cell 6 _ rfl
 have g7:=hB.cell 7 _ rfl
 have g8:=hB.cell 8 _ rfl
 have G2:=zaa g2
 have G3:=zaa g3
 have G4:=zaa g4
 have G5:=zaa g5
 have G8:=zaa g8
 have hlt:=zis g0
 dsimp only at hlt
 obtain ⟨l1,l2,l3,l4,l5⟩:=hr.parts
 obtain ⟨_,_,-,m1,-⟩:=l1
 obtain ⟨_,_,-,m2,-⟩:=l2
 obtain ⟨_,_,-,m3,-⟩:=l3
 obtain ⟨_,_,-,m4,-⟩:=l4
 obtain ⟨_,_,-,m5,-⟩:=l5
 unfold maxLen at m1 m2 m3 m4 m5
 have hz:(w.alloc (.cells zhl 30)).heap.size=w.heap.size+1:=by simp
 have bb:=zaa (Z4 (Z5 w (.cells zhl 30)) (Z5 (w.alloc (.cells zhl 30)) (.cells #[.int .i64 D.base,.int .i64 D.pages,.slice aw D.words.length cw,.slice ad D.dirty.length cd,.slice aS D.spans.length cS,.slice am D.muts.length cm,.int .i64 D.phase,.int .i64 D.next,.slice ag D.grey.length cg] 30)))
 have hR:=zaa (Z6 (Z5 (w.alloc (.cells zhl 30)) (.cells #[.int .i64 D.base,.int .i64 D.pages,.slice aw D.words.length cw,.slice ad D.dirty.length cd,.slice aS D.spans.length cS,.slice am D.muts.length cm,.int .i64 D.phase,.int .i64 D.next,.slice ag D.grey.length cg] 30)) (Y6 w (.cells zhl 30)))
 have hC:=zaa (show ((w.alloc (.cells zhl 30)).alloc (.cells #[.int .i64 D.base,.int .i64 D.pages,.slice aw D.words.length cw,.slice ad D.dirty.length cd,.slice aS D.spans.length cS,.slice am D.muts.length cm,.int .i64 D.phase,.int .i64 D.next,.slice ag D.grey.length cg] 30)).heap[w.heap.size+1]?=some (.cells #[.int .i64 D.base,.int .i64 D.pages,.slice aw D.words.length cw,.slice ad D.dirty.length cd,.slice aS D.spans.length cS,.slice am D.muts.length cm,.int .i64 D.phase,.int .i64 D.next,.slice ag D.grey.length cg] 30) from by have:=Y6 (w.alloc (.cells zhl 30)) (.cells #[.int .i64 D.base,.int .i64 D.pages,.slice aw D.words.length cw,.slice ad D.dirty.length cd,.slice aS D.spans.length cS,.slice am D.muts.length cm,.int .i64 D.phase,.int .i64 D.next,.slice ag D.grey.length cg] 30);rwa [hz] at this)
 have g0a:(w.alloc (.cells zhl 30)).cell? ⟨B0,0,none⟩=some (.int .i64 D.base):=Z7 (Z5 _ _) g0
 have g1a:(w.alloc (.cells zhl 30)).cell? ⟨B0,1,none⟩=some (.int .i64 D.pages):=Z7 (Z5 _ _) g1
 have g2a:=Z7 (Z5 w (.cells zhl 30)) g2
 have g3a:=Z7 (Z5 w (.cells zhl 30)) g3
 have g4a:=Z7 (Z5 w (.cells zhl 30)) g4
 have g5a:=Z7 (Z5 w (.cells zhl 30)) g5
 have g6a:=Z7 (Z5 w (.cells zhl 30)) g6
 have g7a:=Z7 (Z5 w (.cells zhl 30)) g7
 have g8a:=Z7 (Z5 w (.cells zhl 30)) g8
 have y2:=Z7 bb.out G2.out
 clear hr hB q1 q2 q3 q4 q5 hs g0 g1 g2 g3 g4 g5 g6 g7 g8 hz
 unfold zhl at *
 go_enter Tryz.func47,Tryz.ntmps47
 go_wp2_with fail
 generalize (w.alloc (.cells #[.int .i64 0,.int .i64 0,.slice none 0 0,.slice none 0 0,.slice none 0 0,.slice none 0 0,.int .i64 0,.int .i64 0,.slice none 0 0] 30)).alloc (.cells #[.int .i64 D.base,.int .i64 D.pages,.slice aw D.words.length cw,.slice ad D.dirty.length cd,.slice aS D.spans.length cS,.slice am D.muts.length cm,.int .i64 D.phase,.int .i64 D.next,.slice ag D.grey.length cg] 30)=W1 at *
 refine (zfd aw D.words.length cw _ hs1 _ (e1.out.below (bb.out))).mono ?_
 rintro e w2 ⟨v,rfl,ho,hb⟩
 obtain ⟨a2,c2,rfl⟩:=Y4 ho
 have C2:=Z6 hb hC.out
 have R2:=Z6 hb hR.out
 have f2:=Z3 C2 2
 have z2:=Z0 C2 2 _ rfl
 have hz2:w.heap.size+1<w2.heap.size:=(Array.getElem?_eq_some_iff.1 C2).1
 have bb':=zaa (show Below w.heap.size w (w2.setCell ⟨w.heap.size+1,2,none⟩ (.slice a2 D.words.length c2)) from (Z4 bb.out hb).setCell (p:=⟨w.heap.size+1,2,none⟩) (by simp) _)
 have hC':=zaa (show (w2.setCell ⟨w.heap.size+1,2,none⟩ (.slice a2 D.words.length c2)).heap[w.heap.size+1]?=some (.cells #[.int .i64 D.base,.int .i64 D.pages,.slice a2 D.words.length c2,.slice ad D.dirty.length cd,.slice aS D.spans.length cS,.slice am D.muts.length cm,.int .i64 D.phase,.int .i64 D.next,.slice ag D.grey.length cg] 30 (0,0)) from heap_setCell_same w2 (w.heap.size+1) 2 _ _ _ C2)
 have hR':=zaa ((heap_setCell_other w2 ⟨w.heap.size+1,2,none⟩ w.heap.size (.slice a2 D.words.length c2) (by simp)).trans R2)
 have o2':=zaa (own_set (V8 ho (show w.heap.size+1+1≤_ by have:=(Array.getElem?_eq_some_iff.1 hC.out).1;omega)) (show w.heap.size+1<w.heap.size+1+1 by omega) 2 (.slice a2 D.words.length c2))
 have y3:=Z7 bb'.out G3.out
 clear ho hb C2 R2 bb hC hR y2
 have bb:=bb'
 have hC:=hC'
 have hR:=hR'
 clear bb' hC' hR'
 have o2:=o2'
 clear o2'
 go_wp2_with fail
 generalize w2.setCell ⟨w.heap.size+1,2,none⟩ (.slice a2 D.words.length c2)=W2 at *
 clear f2 z2 hz2
 refine (zqy ad D.dirty.length cd _ hs2 _ (e2.out.below (bb.out))).mono ?_
 rintro e w3 ⟨v,rfl,ho,hb⟩
 obtain ⟨a3,c3,rfl⟩:=Y4 ho
 have C3:=Z6 hb hC.out
 have R3:=Z6 hb hR.out
 have f3:=Z3 C3 3
 have z3:=Z0 C3 3 _ rfl
 have hz3:w.heap.size+1<w3.heap.size:=(Array.getElem?_eq_some_iff.1 C3).1
 have bb':=zaa (show Below w.heap.size w (w3.setCell ⟨w.heap.size+1,3,none⟩ (.slice a3 D.dirty.length c3)) from (Z4 bb.out hb).setCell (p:=⟨w.heap.size+1,3,none⟩) (by simp) _)
 have hC':=zaa (show (w3.setCell ⟨w.heap.size+1,3,none⟩ (.slice a3 D.dirty.length c3)).heap[w.heap.size+1]?=some (.cells #[.int .i64 D.base,.int .i64 D.pages,.slice a2 D.words.length c2,.slice a3 D.dirty.length c3,.slice aS D.spans.length cS,.slice am D.muts.length cm,.int .i64 D.phase,.int .i64 D.next,.slice ag D.grey.length cg] 30 (0,0)) from heap_setCell_same w3 (w.heap.size+1) 3 _ _ _ C3)
 have hR':=zaa ((heap_setCell_other w3 ⟨w.heap.size+1,3,none⟩ w.heap.size (.slice a3 D.dirty.length c3) (by simp)).trans R3)
 have o2':=zaa (own_set (Y9 o2.out hb) (show w.heap.size+1<w.heap.size+1+1 by omega) 3 (.slice a3 D.dirty.length c3))
 have o3':=zaa (own_set (V8 ho (show w.heap.size+1+1≤_ by have:=(Array.getElem?_eq_some_iff.1 hC.out).1;omega)) (show w.heap.size+1<w.heap.size+1+1 by omega) 3 (.slice a3 D.dirty.length c3))
 have y4:=Z7 bb'.out G4.out
 clear ho hb C3 R3 bb hC hR o2 y3
 have bb:=bb'
 have hC:=hC'
 have hR:=hR'
 clear bb' hC' hR'
 have o2:=o2'
 clear o2'
 have o3:=o3'
 clear o3'
 go_wp2_with fail
 generalize w3.setCell ⟨w.heap.size+1,3,none⟩ (.slice a3 D.dirty.length c3)=W3 at *
 clear f3 z3 hz3
 refine (zme aS D.spans.length cS _ hs3 _ (e3.out.below (bb.out))).mono ?_
 rintro e w4 ⟨v,rfl,ho,hb⟩
 obtain ⟨a4,c4,rfl⟩:=Y4 ho
 have C4:=Z6 hb hC.out
 have R4:=Z6 hb hR.out
 have f4:=Z3 C4 4
 have z4:=Z0 C4 4 _ rfl
 have hz4:w.heap.size+1<w4.heap.size:=(Array.getElem?_eq_some_iff.1 C4).1
 have bb':=zaa (show Below w.heap.size w (w4.setCell ⟨w.heap.size+1,4,none⟩ (.slice a4 D.spans.length c4)) from (Z4 bb.out hb).setCell (p:=⟨w.heap.size+1,4,none⟩) (by simp) _)
 have hC':=zaa (show (w4.setCell ⟨w.heap.size+1,4,none⟩ (.slice a4 D.spans.length c4)).heap[w.heap.size+1]?=some (.cells #[.int .i64 D.base,.int .i64 D.pages,.slice a2 D.words.length c2,.slice a3 D.dirty.length c3,.slice a4 D.spans.length c4,.slice am D.muts.length cm,.int .i64 D.phase,.int .i64 D.next,.slice ag D.grey.length cg] 30 (0,0)) from heap_setCell_same w4 (w.heap.size+1) 4 _ _ _ C4)
 have hR':=zaa ((heap_setCell_other w4 ⟨w.heap.size+1,4,none⟩ w.heap.size (.slice a4 D.spans.length c4) (by simp)).trans R4)
 have o2':=zaa (own_set (Y9 o2.out hb) (show w.heap.size+1<w.heap.size+1+1 by omega) 4 (.slice a4 D.spans.length c4))
 have o3':=zaa (own_set (Y9 o3.out hb) (show w.heap.size+1<w.heap.size+1+1 by omega) 4 (.slice a4 D.spans.length c4))
 have o4':=zaa (own_set (V8 ho (show w.heap.size+1+1≤_ by have:=(Array.getElem?_eq_some_iff.1 hC.out).1;omega)) (show w.heap.size+1<w.heap.size+1+1 by omega) 4 (.slice a4 D.spans.length c4))
 have y5:=Z7 bb'.out G5.out
 clear ho hb C4 R4 bb hC hR o2 o3 y4
 have bb:=bb'
 have hC:=hC'
 have hR:=hR'
 clear bb' hC' hR'
 have o2:=o2'
 clear o2'
 have o3:=o3'
 clear o3'
 have o4:=o4'
 clear o4'
 go_wp2_with fail
 generalize w4.setCell ⟨w.heap.size+1,4,none⟩ (.slice a4 D.spans.length c4)=W4 at *
 clear f4 z4 hz4
 refine (zoe _ D.muts hs4 hs'.out.innerM _ (q4'.out.below bb.out)).mono ?_
 rintro e w5 ⟨a5,c5,mv,rfl,hM,hmd,hb⟩
 have C5:=Z6 hb hC.out
 have R5:=Z6 hb hR.out
 have f5:=Z3 C5 5
 have z5:=Z0 C5 5 _ rfl
 have hz5:w.heap.size+1<w5.heap.size:=(Array.getElem?_eq_some_iff.1 C5).1
 have bb':=zaa (show Below w.heap.size w (w5.setCell ⟨w.heap.size+1,5,none⟩ (.slice a5 D.muts.length c5)) from (Z4 bb.out hb).setCell (p:=⟨w.heap.size+1,5,none⟩) (by simp) _)
 have hC':=zaa (show (w5.setCell ⟨w.heap.size+1,5,none⟩ (.slice a5 D.muts.length c5)).heap[w.heap.size+1]?=some (.cells #[.int .i64 D.base,.int .i64 D.pages,.slice a2 D.words.length c2,.slice a3 D.dirty.length c3,.slice a4 D.spans.length c4,.slice a5 D.muts.length c5,.int .i64 D.phase,.int .i64 D.next,.slice ag D.grey.length cg] 30 (0,0)) from heap_setCell_same w5 (w.heap.size+1) 5 _ _ _ C5)
 have hR':=zaa ((heap_setCell_other w5 ⟨w.heap.size+1,5,none⟩ w.heap.size (.slice a5 D.muts.length c5) (by simp)).trans R5)
 have o2':=zaa (own_set (Y9 o2.out hb) (show w.heap.size+1<w.heap.size+1+1 by omega) 5 (.slice a5 D.muts.length c5))
 have o3':=zaa (own_set (Y9 o3.out hb) (show w.heap.size+1<w.heap.size+1+1 by omega) 5 (.slice a5 D.muts.length c5))
 have o4':=zaa (own_set (Y9 o4.out hb) (show w.heap.size+1<w.heap.size+1+1 by omega) 5 (.slice a5 D.muts.length c5))
 have o5':=zaa ((hM.baseLe (show w.heap.size+1+1≤_ by have:=(Array.getElem?_eq_some_iff.1 hC.out).1;omega)).set (show w.heap.size+1<w.heap.size+1+1 by omega) 5 (.slice a5 D.muts.length c5))
 have hmd':=zaa hmd
 have hN:=zaa (show ∃ n n',n≤n'∧(∀ q,(Value.slice a2 D.words.length c2).ownBlock=some q→q<n)∧(∀ q,q ∈ mv.filterMap Value.ownBlock→n≤q∧q<n')∧n'≤(w5.setCell ⟨w.heap.size+1,5,none⟩ (.slice a5 D.muts.length c5)).heap.size from
  ⟨_,_,hb.size,fun q hq=>(o2.out.lt q hq).2,hM.mvIn,by simp⟩)
 have y8:=Z7 bb'.out G8.out
 clear hM hmd hb C5 R5 bb hC hR o2 o3 o4 y5
 have bb:=bb'
 have hC:=hC'
 have hR:=hR'
 clear bb' hC' hR'
 have o2:=o2'
 clear o2'
 have o3:=o3'
 clear o3'
 have o4:=o4'
 clear o4'
 have o5:=o5'
 clear o5'
 go_wp2_with fail
 generalize w5.setCell ⟨w.heap.size+1,5,none⟩ (.slice a5 D.muts.length c5)=W5 at *
 clear f5 z5 hz5
 refine (zfd ag D.grey.length cg _ hs5 _ (e5.out.below (bb.out))).mono ?_
 rintro e w8 ⟨v,rfl,ho,hb⟩
 obtain ⟨a8,c8,rfl⟩:=Y4 ho
 have C8:=Z6 hb hC.out
 have R8:=Z6 hb hR.out
 have f8:=Z3 C8 8
 have z8:=Z0 C8 8 _ rfl
 have hz8:w.heap.size+1<w8.heap.size:=(Array.getElem?_eq_some_iff.1 C8).1
 have bb':=zaa (show Below w.heap.size w (w8.setCell ⟨w.heap.size+1,8,none⟩ (.slice a8 D.grey.length c8)) from (Z4 bb.out hb).setCell (p:=⟨w.heap.size+1,8,none⟩) (by simp) _)
 have hC':=zaa (show (w8.setCell ⟨w.heap.size+1,8,none⟩ (.slice a8 D.grey.length c8)).heap[w.heap.size+1]?=some (.cells #[.int .i64 D.base,.int .i64 D.pages,.slice a2 D.words.length c2,.slice a3 D.dirty.length c3,.slice a4 D.spans.length c4,.slice a5 D.muts.length c5,.int .i64 D.phase,.int .i64 D.next,.slice a8 D.grey.length c8] 30 (0,0)) from heap_setCell_same w8 (w.heap.size+1) 8 _ _ _ C8)
 have hR':=zaa ((heap_setCell_other w8 ⟨w.heap.size+1,8,none⟩ w.heap.size (.slice a8 D.grey.length c8) (by simp)).trans R8)
 have o2':=zaa (own_set (Y9 o2.out hb) (show w.heap.size+1<w.heap.size+1+1 by omega) 8 (.slice a8 D.grey.length c8))
 have o3':=zaa (own_set (Y9 o3.out hb) (show w.heap.size+1<w.heap.size+1+1 by omega) 8 (.slice a8 D.grey.length c8))
 have o4':=zaa (own_set (Y9 o4.out hb) (show w.heap.size+1<w.heap.size+1+1 by omega) 8 (.slice a8 D.grey.length c8))
 have o5':=zaa ((o5.out.below hb).set (show w.heap.size+1<w.heap.size+1+1 by omega) 8 (.slice a8 D.grey.length c8))
 have o8':=zaa (own_set (V8 ho (show w.heap.size+1+1≤_ by have:=(Array.getElem?_eq_some_iff.1 hC.out).1;omega)) (show w.heap.size+1<w.heap.size+1+1 by omega) 8 (.slice a8 D.grey.length c8))
 have hd18:=zaa (show (((Value.slice a2 D.words.length c2) :: X7 [] ++ (mv ++ [Value.slice a8 D.grey.length c8])).filterMap Value.ownBlock).Nodup from by obtain ⟨n,n',k1,k2,k3,k4⟩:=hN.out;exact nodup3 hmd'.out k2 k3 (fun q hq=>Nat.le_trans k4 (ho.lt q hq).1) k1)
 clear ho hb C8 R8 bb hC hR o2 o3 o4 o5 y8
 have bb:=bb'
 have hC:=hC'
 have hR:=hR'
 clear bb' hC' hR'
 have o2:=o2'
 clear o2'
 have o3:=o3'
 clear o3'
 have o4:=o4'
 clear o4'
 have o5:=o5'
 clear o5'
 have o8:=o8'
 clear o8'
 have z4:=Z0 hC.out 4 _ rfl
 go_wp2_with fail
 generalize w8.setCell ⟨w.heap.size+1,8,none⟩ (.slice a8 D.grey.length c8)=W8 at *
 clear f8 z8 hz8
 have st0:=zaa (show Cp1 w W8 D (.slice a2 D.words.length c2) (.slice a3 D.dirty.length c3) (.slice a4 D.spans.length c4) (.slice a5 D.muts.length c5) (.slice a8 D.grey.length c8) sv0 mv 0 from
  ⟨bb.out,hR.out,hC.out,by have:=(Array.getElem?_eq_some_iff.1 hC.out).1;omega,o2.out,o3.out,o4.out,svl.out,fun i s p hi=>absurd hi (by omega),fun i s p _=>e3i.out i s p,o5.out,o8.out,hd18.out⟩)
 clear bb hC hR o2 o3 o4 o5 o8 hd18 z4 e1 e2 e3 e5 e3i svl q4' hmd' hN G2 G3 G4 G5 G8 g0a g1a g2a g3a g4a g5a g6a g7a g8a
 go_loopw [44] (fun i wr=>∃ (k:Nat) (sv:List (Value × Value)),k≤D.spans.length∧i=.int .i64 k∧Hid (Cp1 w wr D (.slice a2 D.words.length c2) (.slice a3 D.dirty.length c3) (.slice a4 D.spans.length c4) (.slice a5 D.muts.length c5) (.slice a8 D.grey.length c8) sv mv k)) (fun i _=>D.spans.length-(RowKit.intOf i).toNat)
 case atStart=>exact ⟨0,sv0,Nat.zero_le _,rfl,st0⟩
 case round =>
  obtain ⟨k,sv,hk,rfl,st⟩:=hrel
  clear st0
  have hsz:=zaa st.out.size
  have hsz1:w.heap.size+1<wr.heap.size:=by have:=hsz.out;omega
  have z4:=Z0 st.out.boxB 4 _ rfl
  have z5:=Z0 st.out.boxB 5 _ rfl
  by_cases hltk:k<D.spans.length
  ·have hlt1:(k:Int)<(D.spans.length:Int):=by omega
   obtain ⟨s,hks⟩:∃ s,D.spans[k]?=some s:=⟨_,List.getElem?_eq_getElem hltk⟩
   obtain ⟨p,hp⟩:∃ p,sv[k]?=some p:=⟨_,List.getElem?_eq_getElem (by have:=st.out.svl;omega)⟩
   obtain ⟨g3,rfl⟩:∃ g3,a4=some ⟨g3,0,none⟩:=by
    rcases st.out.row.2 with ⟨he,h0⟩ | ⟨g,cap,cur,he,_⟩
    ·omega
    ·exact ⟨g,by simp at he;exact he.1⟩
   have hrow:=st.out.row
   have x4:wr.cell? ⟨g3,k*6+4,none⟩=some p.1:=by rw [hrow.cellAt (k*6+4) (by omega),zlb D.spans sv k s p hks hp 4 (by omega)];rfl
   have x5:wr.cell? ⟨g3,k*6+5,none⟩=some p.2:=by rw [hrow.cellAt (k*6+5) (by omega),zlb D.spans sv k s p hks hp 5 (by omega)];rfl
   have f4:=hrow.frozenAt (k*6+4)
   have f5:=hrow.frozenAt (k*6+5)
   have ho:=st.out.innerO k s p (Nat.le_refl _) hks hp
   obtain ⟨al,cl,hpl,hll,-⟩:=id ho.1
   obtain ⟨ap,cp,hpp,hpl2,-⟩:=id ho.2
   unfold maxLen at hll hpl2
   have hi:=hs'.out.inner s (List.mem_of_getElem? hks)
   have rL:=zaa (show N1 wr al s.lens.length 1 (s.lens.map (Value.int .i64)) from by have:=ho.1;rw [hpl] at this;exact this.src.below st.out.below)
   have rP:=zaa (show N1 wr ap s.ptrs.length 1 (s.ptrs.map (Value.int .i64)) from by have:=ho.2;rw [hpp] at this;exact this.src.below st.out.below)
   rw [hpl] at x4
   rw [hpp] at x5
   have X4:=Ext.cell x4
   have X5:=Ext.cell x5
   have F4:=Ext.frozen x4 f4
   have F5:=Ext.frozen x5 f5
   have cL:=zaa (fun (w':World) h=>zfd al s.lens.length cl (s.lens.map (Value.int .i64)) hi.1 w' h)
   have cP:=zaa (fun (w':World) h=>zfd ap s.ptrs.length cp (s.ptrs.map (Value.int .i64)) hi.2 w' h)
   have hg3:=zaa (hrow.lt g3 rfl)
   have hg3a:g3<wr.heap.size:=hg3.out.2
   have hsml:D.spans.length≤1048576:=hs3
   have nxt:=zaa (fun (y wF:World) (u1 u2:Value) hy o1 o2 hne hF=>st.out.next (y:=y) (wF:=wF) (u1:=u1) (u2:=u2) hks hy o1 o2 hne hF)
   have bd:=zaa (show Below wr.heap.size wr wr.drew from below_drewN (Below.refl _ _) 1)
   have hks':=zaa hks
   clear hks hp hrow ho hpl hpp hi
   go_wp2_with fail
   clear z4 z5
   go_region_with (first
    | (go_at_call 78;((with_reducible refine (cL.out _ ?_).mono ?_);(first | exact rL.out.below bd.out | exact rL.out.below bP.out);rintro e w1 ⟨v,rfl,o1,b1⟩;obtain ⟨aL,cL2,rfl⟩:=Y4 o1;have oL:=zaa o1;have bL:=zaa (show Below wr.heap.size wr w1 from (by first | exact Z4 bP.out b1 | exact Z4 bd.out b1));have bL1:=zaa b1;obtain ⟨xL,rfl⟩:=Ext.of bL.out;clear o1 b1))
    | (go_at_call 78;((with_reducible refine (cP.out _ ?_).mono ?_);(first | exact rP.out.below bd.out | exact rP.out.below bL.out);rintro e w1 ⟨v,rfl,o1,b1⟩;obtain ⟨aP,cP2,rfl⟩:=Y4 o1;have oP:=zaa o1;have bP:=zaa (show Below wr.heap.size wr w1 from (by first | exact Z4 bL.out b1 | exact Z4 bd.out b1));have bP1:=zaa b1;obtain ⟨xP,rfl⟩:=Ext.of bP.out;clear o1 b1)))
   all_goals go_wp2_with fail
   all_goals first
    | (have t:=ztl (b:=wr.heap.size) bL.out (Nat.le_refl _) oL.out bP1.out oP.out;exact ⟨⟨k+1,_,by omega,by go_num,nxt.out _ _ _ _ t.1 t.2.1 t.2.2.1 t.2.2.2 rfl⟩,by simp [RowKit.intOf];omega⟩)
    | (have t:=ztl (b:=wr.heap.size) bP.out (Nat.le_refl _) oP.out bL1.out oL.out;exact ⟨⟨k+1,_,by omega,by go_num,nxt.out _ _ _ _ t.1 t.2.2.1 t.2.1 (fun q h1 h2=>t.2.2.2 q h2 h1) rfl⟩,by simp [RowKit.intOf];omega⟩)
  ·obtain rfl:k=D.spans.length:=by omega
   have C8:=st.out.boxB
   have R8:=st.out.boxR
   unfold zhl at R8
   obtain ⟨m0,m1,m2,m3,m4,m5,m6,m7,m8⟩:=U5 C8
   obtain ⟨n0,y0,n1,y1,n2,y2,n3,y3,n4,y4,n5,y5,n6,y6,n7,y7,n8,y8⟩:=zfv R8
   have fin:=zaa (fun wF hF=>st.out.own (wF:=wF) hF)
   clear C8 R8 z4 z5 st hk
   go_wp2_with fail
   refine bodyPost_ret (v:=.agg #[.int .i64 D.base,.int .i64 D.pages,.slice a2 D.words.length c2,.slice a3 D.dirty.length c3,.slice a4 D.spans.length c4,.slice a5 D.muts.length c5,.int .i64 D.phase,.int .i64 D.next,.slice a8 D.grey.length c8]) (by simp [results,Tryz.results47,go_sem,n0,n1,n2,n3,n4,n5,n6,n7,n8]) rfl ?_
   exact ⟨⟨.slice a2 D.words.length c2,.slice a3 D.dirty.length c3,.slice a4 D.spans.length c4,.slice a5 D.muts.length c5,.slice a8 D.grey.length c8,sv,mv⟩,rfl,fin.out _ ((Chg.refl _ _).put9 (b:=w.heap.size) (by simp) _ _ _ _ _ _ _ _ _)⟩
def ziu (D:WD) (D':WD) (f:Bool):Prop :=
 (U0 D∧D.phase=0∧D'={ D with phase:=1 }∧f=true)∨(¬ (U0 D∧D.phase=0)∧D'=zeroD∧f=false)
theorem ziu.unique {D:WD} {D1 D2:WD} {f1 f2:Bool} (h1:ziu D D1 f1) (h2:ziu D D2 f2):D2=D1∧f2=f1:=by
 rcases h1 with ⟨a,b,rfl,rfl⟩ | ⟨n,rfl,rfl⟩ <;> rcases h2 with ⟨a',b',rfl,rfl⟩ | ⟨n',rfl,rfl⟩
 ·exact ⟨rfl,rfl⟩
 ·exact absurd ⟨a,b⟩ n'
 ·exact absurd ⟨a',b'⟩ n
 ·exact ⟨rfl,rfl⟩
theorem zov (v:Value) (D:WD) (hs:zgk D) (hf:FitD D) (hc:CapW v) (w:World) (hr:RdW w v D) :
  Calls Tryz.prog 17 #[v] w fun e w'=>∃ S D' f,ziu D D' f∧e=.returned (.tuple #[S.val D',.bool f])∧OwnW w' w.heap.size S D'∧Below w.heap.size w w':=by
 have hs':=zaa hs
 have hc':=zaa hc
 have hf':=zaa hf
 clear hs hc hf
 obtain ⟨vw,vd,vs,vm,vg,rfl,a1,a2,a3,a4,a5⟩:=hr
 have bb:=Z4 (Z5 w (.cells #[.int .i64 D.base,.int .i64 D.pages,vw,vd,vs,vm,.int .i64 D.phase,.int .i64 D.next,vg] 30)) (Z5 _ (.cells #[.int .i64 0,.int .i64 0,.slice none 0 0,.slice none 0 0,.slice none 0 0,.slice none 0 0,.int .i64 0,.int .i64 0,.slice none 0 0] 30))
 have hA:=Z6 (Z5 (w.alloc (.cells #[.int .i64 D.base,.int .i64 D.pages,vw,vd,vs,vm,.int .i64 D.phase,.int .i64 D.next,vg] 30)) (.cells #[.int .i64 0,.int .i64 0,.slice none 0 0,.slice none 0 0,.slice none 0 0,.slice none 0 0,.int .i64 0,.int .i64 0,.slice none 0 0] 30)) (Y6 w (.cells #[.int .i64 D.base,.int .i64 D.pages,vw,vd,vs,vm,.int .i64 D.phase,.int .i64 D.next,vg] 30))
 have hR:=Y6 (w.alloc (.cells #[.int .i64 D.base,.int .i64 D.pages,vw,vd,vs,vm,.int .i64 D.phase,.int .i64 D.next,vg] 30)) (.cells #[.int .i64 0,.int .i64 0,.slice none 0 0,.slice none 0 0,.slice none 0 0,.slice none 0 0,.int .i64 0,.int .i64 0,.slice none 0 0] 30)
 rw [World.size_alloc] at hR
 have hW:=zaa (show RdW ((w.alloc (.cells #[.int .i64 D.base,.int .i64 D.pages,vw,vd,vs,vm,.int .i64 D.phase,.int .i64 D.next,vg] 30)).alloc (.cells #[.int .i64 0,.int .i64 0,.slice none 0 0,.slice none 0 0,.slice none 0 0,.slice none 0 0,.int .i64 0,.int .i64 0,.slice none 0 0] 30)) (.agg #[.int .i64 D.base,.int .i64 D.pages,vw,vd,vs,vm,.int .i64 D.phase,.int .i64 D.next,vg]) D from ⟨vw,vd,vs,vm,vg,rfl,a1.below bb,a2.below bb,a3.below bb,a4.below bb,a5.below bb⟩)
 have bb':=zaa bb
 have hA':=zaa hA
 have hR':=zaa hR
 have hz:=zaa (show ((w.alloc (.cells #[.int .i64 D.base,.int .i64 D.pages,vw,vd,vs,vm,.int .i64 D.phase,.int .i64 D.next,vg] 30)).alloc (.cells #[.int .i64 0,.int .i64 0,.slice none 0 0,.slice none 0 0,.slice none 0 0,.slice none 0 0,.int .i64 0,.int .i64 0,.slice none 0 0] 30)).heap.size=w.heap.size+1+1 by simp)
 clear a1 a2 a3 a4 a5 bb hA hR
 go_enter Tryz.func17,Tryz.ntmps17
 go_wp2_with fail
 generalize (w.alloc (.cells #[.int .i64 D.base,.int .i64 D.pages,vw,vd,vs,vm,.int .i64 D.phase,.int .i64 D.next,vg] 30)).alloc (.cells #[.int .i64 0,.int .i64 0,.slice none 0 0,.slice none 0 0,.slice none 0 0,.slice none 0 0,.int .i64 0,.int .i64 0,.slice none 0 0] 30)=W at *
 refine (J4 _ D hf'.out hc'.out _ hW.out).mono ?_
 rintro e w1 ⟨hq,b1⟩
 replace hq:=hq.elim
 have hR1:=Z6 b1 hR'.out
 have hA1:=Z6 b1 hA'.out
 have bb1:=zaa (Z4 bb'.out b1)
 have hW1:=zaa (hW.out.below b1)
 have hz1:=zaa (show w.heap.size+1+1≤w1.heap.size by have:=hz.out;have:=b1.size;omega)
 clear b1
 rcases hq with ⟨hG,rfl⟩ | ⟨hG,rfl⟩
 case inr =>
  have y:=zaa (show ziu D zeroD false from .inr ⟨fun h=>hG h.1,rfl,rfl⟩)
  obtain ⟨n0,n1,n2,n3,n4,n5,n6,n7,n8⟩:=U5 hR1
  have z0:=Z3 hR1 0
  have z1:=Z3 hR1 1
  have z2:=Z3 hR1 2
  have z3:=Z3 hR1 3
  have z4:=Z3 hR1 4
  have z5:=Z3 hR1 5
  have z6:=Z3 hR1 6
  have z7:=Z3 hR1 7
  have z8:=Z3 hR1 8
  clear hR1 hA1 hG
  go_wp2_with fail
  refine bodyPost_ret (v:=.tuple #[zey.val zeroD,.bool false]) (by simp [results,Tryz.results17,go_sem,n0,n1,n2,n3,n4,n5,n6,n7,n8,Y2.val,zey,zeroD]) rfl ?_
  exact ⟨zey,zeroD,false,y.out,rfl,zfy _ _,Chg.below (bs:=[w.heap.size+1]) bb1.out ((Chg.refl _ _).put9 (b:=w.heap.size+1) (by simp) _ _ _ _ _ _ _ _ _) bb1.out.size (fun q hq=>by rw [List.mem_singleton.1 hq];omega)⟩
 have hG':=zaa hG
 clear hG
 obtain ⟨f0,f1,f2,f3,f4,f5,f6,f7,f8⟩:=U5 hA1
 by_cases hp:D.phase=0
 case neg =>
  have y:=zaa (show ziu D zeroD false from .inr ⟨fun h=>hp h.2,rfl,rfl⟩)
  have hpb:(D.phase != 0)=true:=bne_iff_ne.2 hp
  obtain ⟨n0,n1,n2,n3,n4,n5,n6,n7,n8⟩:=U5 hR1
  have z0:=Z3 hR1 0
  have z1:=Z3 hR1 1
  have z2:=Z3 hR1 2
  have z3:=Z3 hR1 3
  have z4:=Z3 hR1 4
  have z5:=Z3 hR1 5
  have z6:=Z3 hR1 6
  have z7:=Z3 hR1 7
  have z8:=Z3 hR1 8
  clear hR1 hA1 hp
  go_wp2_with fail
  refine bodyPost_ret (v:=.tuple #[zey.val zeroD,.bool false]) (by simp [results,Tryz.results17,go_sem,n0,n1,n2,n3,n4,n5,n6,n7,n8,Y2.val,zey,zeroD]) rfl ?_
  exact ⟨zey,zeroD,false,y.out,rfl,zfy _ _,Chg.below (bs:=[w.heap.size+1]) bb1.out ((Chg.refl _ _).put9 (b:=w.heap.size+1) (by simp) _ _ _ _ _ _ _ _ _) bb1.out.size (fun q hq=>by rw [List.mem_singleton.1 hq];omega)⟩
 have y:=zaa (show ziu D { D with phase:=1 } true from .inl ⟨hG'.out,hp,rfl,rfl⟩)
 have hpb:(D.phase != 0)=false:=by rw [hp];rfl
 clear hp
 have hown:=zaa (zlr w.heap.size _ D hs'.out w1 hW1.out ⟨_,rfl,hA1⟩)
 have hR1':=zaa hR1
 clear hR1 hA1
 go_wp2_with fail
 refine hown.out.mono ?_
 rintro e w2 ⟨S,rfl,ho,b2⟩
 obtain ⟨aw,ad,aS,am,ag,cw,cd,cS,cm,cg,sv,mv,rfl⟩:=Y2.lits ho
 have ho1:OwnW w2 w1.heap.size ⟨.slice aw D.words.length cw,.slice ad D.dirty.length cd,.slice aS D.spans.length cS,.slice am D.muts.length cm,.slice ag D.grey.length cg,sv,mv⟩ { D with phase:=1 }:=⟨ho.words,ho.dirty,ho.spans,ho.svl,ho.inner,ho.muts,ho.mvl,ho.innerM,ho.grey,ho.nodup⟩
 have hv:=VarW.mk_box ho1 b2.size
 have bbe:=zaa (Z4 (Z4 bb1.out b2) (Z5 w2 (.cells (Y2.cells ⟨.slice aw D.words.length cw,.slice ad D.dirty.length cd,.slice aS D.spans.length cS,.slice am D.muts.length cm,.slice ag D.grey.length cg,sv,mv⟩ { D with phase:=1 }) 30)))
 have hRe:=Z6 (Z4 b2 (Z5 w2 (.cells (Y2.cells ⟨.slice aw D.words.length cw,.slice ad D.dirty.length cd,.slice aS D.spans.length cS,.slice am D.muts.length cm,.slice ag D.grey.length cg,sv,mv⟩ { D with phase:=1 }) 30))) hR1'.out
 clear ho ho1 b2 hown f0 f1 f2 f3 f4 f5 f6 f7 f8
 have hbs:=zaa (show w1.heap.size≤w2.heap.size from hv.le)
 have hRne:¬ (w2.heap.size=w.heap.size+1):=by have:=hz1.out;have:=hbs.out;omega
 have hRne':¬ (w.heap.size+1=w2.heap.size):=by omega
 dsimp only [Y2.val]
 dsimp only [Y2.cells] at hv hRe bbe
 go_upto_region 5 with fail
 generalize w2.alloc (.cells #[.int .i64 D.base,.int .i64 D.pages,.slice aw D.words.length cw,.slice ad D.dirty.length cd,.slice aS D.spans.length cS,.slice am D.muts.length cm,.int .i64 1,.int .i64 D.next,.slice ag D.grey.length cg] 30)=w6 at *
 have bE:=hv.box
 dsimp only [Y2.cells] at bE
 obtain ⟨n0,n1,n2,n3,n4,n5,n6,n7,n8⟩:=U5 hRe
 have z0:=Z3 hRe 0
 have z1:=Z3 hRe 1
 have z2:=Z3 hRe 2
 have z3:=Z3 hRe 3
 have z4:=Z3 hRe 4
 have z5:=Z3 hRe 5
 have z6:=Z3 hRe 6
 have z7:=Z3 hRe 7
 have z8:=Z3 hRe 8
 obtain ⟨m0,m1,m2,m3,m4,m5,m6,m7,m8⟩:=U5 bE
 have hv':=zaa hv
 clear hv bE hRe
 go_wp2_with fail
 refine bodyPost_ret (v:=.tuple #[.agg #[.int .i64 D.base,.int .i64 D.pages,.slice aw D.words.length cw,.slice ad D.dirty.length cd,.slice aS D.spans.length cS,.slice am D.muts.length cm,.int .i64 1,.int .i64 D.next,.slice ag D.grey.length cg],.bool true]) (by simp [results,Tryz.results17,go_sem,n0,n1,n2,n3,n4,n5,n6,n7,n8]) rfl ?_
 exact ⟨_,{ D with phase:=1 },true,y.out,rfl,hv'.out.handed bbe.out (R:=w.heap.size+1) (by omega) (by have:=hz1.out;omega) ((Chg.refl _ _).put9 (b:=w.heap.size+1) (by simp) _ _ _ _ _ _ _ _ _)⟩
end Go.Proofs.YtilkidaihbhfpaaGreat

namespace Go.Proofs.YtilkidaihbhfpaaGreat
open Go.RowKit
open Go.Maps (Keyed)
set_option linter.unusedVariables false
set_option linter.unusedSimpArgs false
theorem zow (base B V g n:Nat) (M:DataW Unit) (S:Y2) (D:WD) (addr:Int) (hF:Z8 D) (ha:I64 addr) (hgl:D.grey.length≤1048576) (w:World) (h:VarW w base B S D) (hv:M4 D w V B g n M) (hVB:V ∉ B :: blks S.all) :
  Calls Tryz.prog 69 #[.pointer (some ⟨V,0,none⟩),.int .i64 addr] w fun e w'=>e=.returned (.tuple #[])∧(∃ S' E,V1 D addr E∧VarW w' base B S' E∧F6 w w' B S S')∧Below base w w':=by
 have h':=zaa h
 have hF':=zaa hF
 have hv':=zaa hv
 have hgl':=zaa hgl
 have hVB':=zaa hVB
 have hVlt:=zaa (show V<w.heap.size from (Array.getElem?_eq_some_iff.1 hv.box).1)
 have hle:=zaa (Nat.le_of_lt (Nat.lt_of_le_of_lt h.le h.lt))
 have hkey:=zaa (zir ha)
 have c0:=Z0 hv.box 0 (.pointer (some ⟨B,0,none⟩)) rfl
 have c1:=Z0 hv.box 1 (.map (some g)) rfl
 have c6:=h.cell 6 (.int .i64 D.phase) rfl
 clear hF hv ha h hgl hVB
 by_cases hh:∃ k j,U3 D addr k j
 case neg =>
  have h1:=zaa (show Maps.has M (.int .i64 addr)=false from by
   cases h:Maps.has M (.int .i64 addr)
   ·rfl
   ·obtain ⟨k,j,_,ho⟩:=(hv'.out.is.has addr).1 h
    exact absurd ⟨k,j,ho⟩ hh)
  have h2:=zaa (show M.atKey (.int .i64 addr) (dat 0 0)=dat 0 0 from Maps.atKey_of_not_has h1.out _)
  have y:=zaa (show V1 D addr D from .inr ⟨fun _ k j h=>absurd ⟨k,j,h⟩ hh,rfl⟩)
  have bb':=zaa (Z5 w (.cells #[.int .i64 0,.int .i64 0] 58))
  clear hh c6
  go_enter Tryz.func69,Tryz.ntmps69
  go_wp2_with (at_lookup;refine P4 _ rfl rfl _ _ rfl g n M rfl hv'.out.own _ _ rfl hkey.out false h1.out 0 0 h2.out ?_)
  go_upto_region 1 with fail
  clear c0 c1
  generalize w.alloc (.cells #[.int .i64 0,.int .i64 0] 58)=W at *
  refine Y5 (Below.refl _ _) (by kernel_rfl) (by kernel_rfl) ?_
  repeat (go_big_quiet_step ((fail)))
  refine wpQuiet_nil ?_
  intro _ hw'
  obtain ⟨x9,hw''⟩:=hw'
  subst hw''
  go_wp2_with fail
  refine bodyPost_ret (v:=.tuple #[]) (by simp [results,Tryz.results69,go_sem]) rfl ?_
  have b9:=Z4 bb'.out x9.below
  exact ⟨rfl,⟨_,_,y.out,h'.out.below b9,.of_below _ _ b9⟩,b9.mono hle.out⟩
 obtain ⟨k,j,ho⟩:=hh
 obtain ⟨s,hks,hin,p0,p1⟩:=N0 hF'.out ho
 have hk:=zaa (show L6 D.spans.length 0 k j from .inl (List.getElem?_eq_some_iff.1 hks).1)
 have h1:=zaa ((hv'.out.is.has addr).2 ⟨k,j,hk.out,ho⟩)
 have h2:=zaa (hv'.out.is.is addr k j (dat 0 0) hk.out ho)
 have hks':=zaa hks
 have ho':=zaa ho
 obtain ⟨mk,hmk⟩:=J5 (V2 D k j)
 have hmk':=zaa hmk
 have hcall:=zaa (fun (w':World) (hb:Below w.heap.size w w')=>(zfe B _ D k j s hks (zev.mk16 hF'.out hks hin.j) w' (h'.out.below hb).rd (h'.out.below hb).boxW).mono fun e w'' ⟨h1,h2⟩=>(⟨h1.at_ mk hmk,h2⟩:e=Ending.returned (.bool mk)∧Below w'.heap.size w' w''))
 have hj16:=zaa (zek hF'.out hks hin.j)
 obtain ⟨pb,hpb⟩:∃ pb,inB D.phase 1 2=pb:=⟨_,rfl⟩
 have his:=zaa (fun (w:World)=>U8 hpb w)
 have hpb':=zaa hpb
 have hkl1:(k:Int)<(D.spans.length:Int):=by have:=(List.getElem?_eq_some_iff.1 hks).1;omega
 have bb:=Z5 w (.cells #[.int .i64 k,.int .i64 j] 58)
 have bx:=Y6 w (.cells #[.int .i64 k,.int .i64 j] 58)
 have d0:=zaa (Z7 bb c0)
 have d6:=zaa (Z7 bb c6)
 have q0:=zaa (Z0 bx 0 (.int .i64 k) rfl)
 have q1:=zaa (Z0 bx 1 (.int .i64 j) rfl)
 have bb':=zaa bb
 have hWs:=zaa (show w.heap.size+1≤(w.alloc (.cells #[.int .i64 k,.int .i64 j] 58)).heap.size by simp)
 clear ho hks hin p0 p1 bb bx hmk c6 hpb
 go_enter Tryz.func69,Tryz.ntmps69
 go_wp2_with (at_lookup;refine P4 _ rfl rfl _ _ rfl g n M rfl hv'.out.own _ _ rfl hkey.out true h1.out (k:Int) (j:Int) h2.out ?_)
 go_upto_region 1 with fail
 clear c0 c1
 generalize w.alloc (.cells #[.int .i64 k,.int .i64 j] 58)=W at *
 have D0:=Ext.cell d0.out
 have Q0:=Ext.cell q0.out
 have Q1:=Ext.cell q1.out
 have D6:=Ext.cell d6.out
 cases mk
 case true =>
  have y:=zaa (show V1 D addr D from .inr ⟨fun _ k' j' h=>by obtain ⟨rfl,rfl⟩:=ho'.out.unique hF'.out h;exact hmk'.out.1 rfl,rfl⟩)
  refine Y5 (Below.refl _ _) (by kernel_rfl) (by kernel_rfl) ?_
  repeat (go_big_quiet_step ((go_at_call 109;exact Ext.call (hcall.out _ (Z4 bb'.out (Ext.below _))))))
  refine wpQuiet_nil ?_
  intro _ hw'
  obtain ⟨x9,hw''⟩:=hw'
  subst hw''
  go_wp2_with fail
  refine bodyPost_ret (v:=.tuple #[]) (by simp [results,Tryz.results69,go_sem]) rfl ?_
  have b9:=Z4 bb'.out x9.below
  exact ⟨rfl,⟨_,_,y.out,h'.out.below b9,.of_below _ _ b9⟩,b9.mono hle.out⟩
 cases pb
 case false =>
  have y:=zaa (show V1 D addr D from .inr ⟨fun hp=>absurd hpb'.out (by rw [zlp (by omega) (by omega)];decide),rfl⟩)
  refine Y5 (Below.refl _ _) (by kernel_rfl) (by kernel_rfl) ?_
  repeat (go_big_quiet_step ((first | (go_at_call 109;exact Ext.call (hcall.out _ (Z4 bb'.out (Ext.below _)))) | (go_at_call 54;exact Ext.same (his.out _)))))
  refine wpQuiet_nil ?_
  intro _ hw'
  obtain ⟨x9,hw''⟩:=hw'
  subst hw''
  go_wp2_with fail
  refine bodyPost_ret (v:=.tuple #[]) (by simp [results,Tryz.results69,go_sem]) rfl ?_
  have b9:=Z4 bb'.out x9.below
  exact ⟨rfl,⟨_,_,y.out,h'.out.below b9,.of_below _ _ b9⟩,b9.mono hle.out⟩
 have y:=zaa (show V1 D addr (N9 D addr k j s) from .inl ⟨k,j,s,by have:=T9.1 hpb'.out;omega,ho'.out,hks'.out,(fun hb=>absurd (hmk'.out.2 ((V2.iff hks'.out).2 hb)) (by decide)),rfl⟩)
 refine Y5 (Below.refl _ _) (by kernel_rfl) (by kernel_rfl) ?_
 repeat (go_big_quiet_step ((first | (go_at_call 109;exact Ext.call (hcall.out _ (Z4 bb'.out (Ext.below _)))) | (go_at_call 54;exact Ext.same (his.out _)))))
 refine wpQuiet_nil ?_
 intro _ hw'
 obtain ⟨x9,hw''⟩:=hw'
 subst hw''
 have Z2:=zaa (Z4 bb'.out x9.below)
 have e0:=Q0 x9
 have e1:=Q1 x9
 have e2:=D0 x9
 have hW2:=zaa (Nat.le_trans hWs.out x9.size)
 clear D0 Q0 Q1 D6 hcall his d0 d6 q0 q1 hmk' hpb' ho' bb' hWs
 generalize x9.val=w2 at *
 have v2:=zaa (h'.out.below Z2.out)
 have B2:=zaa (Z2.out.mono hle.out)
 obtain ⟨p,hp⟩:=v2.out.svAt hks'.out
 obtain ⟨gs,cs,hgs⟩:=v2.out.headS (by omega)
 have g4:=v2.out.cell 4 S.vs rfl
 rw [hgs] at g4
 have x2:=(v2.out.six hgs hks'.out hp).2.2.1
 have f2:=v2.out.frzS hgs (k*6+2)
 have hmx:=v2.out.rd.parts.2.2.1
 obtain ⟨_,_,_,hsm,_⟩:=hmx
 unfold maxLen at hsm
 have hmb:=zaa (fun w=>zhw j hj16.out.2.2 w)
 have v3:=v2.out.mark hgs k s p (bits .or .i64 s.mark (2 ^ j)) hks'.out hp
 have V3:=zaa v3.1.drew
 have B3:=zaa (below_drewN (B2.out.trans v3.2) 1)
 have C3:=zaa ((Chg.of_below Z2.out (B :: blks S.all)).trans ((Chg.of_grown (V5 w2 gs (k*6+2) (.int .i64 (bits .or .i64 s.mark (2 ^ j)))) (bs:=B :: blks S.all) (fun x hx=>by cases hx;exact List.mem_cons_of_mem _ (List.mem_filterMap.2 ⟨S.vs,by simp [Y2.all],by rw [hgs];rfl⟩))).trans (Chg.of_below (below_drewN (Below.refl _ _) 1) _)))
 clear hp hgs v3 h2 h1 hk hkey
 go_upto_region 2 with fail
 go_cut [5] (fun q wx=>q=.bool true∧Hid (VarW wx base B S { D with spans:=D.spans.set k { s with mark:=bits .or .i64 s.mark (2 ^ j) } })∧Hid (Below base w wx)∧Hid (Chg (B :: blks S.all) w wx))
 case first =>
  have h0:(fun w'=>w'.cell? ⟨V,0,none⟩=some (.pointer (some ⟨B,0,none⟩))∧w'.cell? ⟨B,4,none⟩=some (.slice (some ⟨gs,0,none⟩) D.spans.length cs)∧w'.cell? ⟨w.heap.size,0,none⟩=some (.int .i64 (k:Int))∧w'.cell? ⟨w.heap.size,1,none⟩=some (.int .i64 (j:Int))∧w'.cell? ⟨gs,k*6+2,none⟩=some (.int .i64 s.mark)) w2.drew:=⟨e2,g4,e0,e1,x2⟩
  refine zjs (fun w'=>w'.cell? ⟨V,0,none⟩=some (.pointer (some ⟨B,0,none⟩))∧w'.cell? ⟨B,4,none⟩=some (.slice (some ⟨gs,0,none⟩) D.spans.length cs)∧w'.cell? ⟨w.heap.size,0,none⟩=some (.int .i64 (k:Int))∧w'.cell? ⟨w.heap.size,1,none⟩=some (.int .i64 (j:Int))∧w'.cell? ⟨gs,k*6+2,none⟩=some (.int .i64 s.mark)) (fun j=>j == 18) (by kernel_rfl) ?_
  refine Z9 (i:=0) (v:=?vq1) rfl (by kernel_rfl) (by kernel_rfl) (by kernel_rfl) rfl (fun _ _ _ h=>h) (Or.inl ⟨by rfl,?hq1⟩) (fun _=>h0) ?rq1
  case hq1=>(intro w _;go_simp;try with_reducible rfl)
  try simp only [Act.put,zab,zac,zad]
  refine Z9 (i:=1) (v:=?vq2) rfl (by kernel_rfl) (by kernel_rfl) (by kernel_rfl) rfl (fun _ _ _ h=>h) (Or.inl ⟨by rfl,?hq2⟩) (fun _=>h0) ?rq2
  case hq2=>(intro w _;go_simp;try with_reducible rfl)
  try simp only [Act.put,zab,zac,zad]
  refine Z9 (i:=2) (v:=?vq3) rfl (by kernel_rfl) (by kernel_rfl) (by kernel_rfl) rfl (fun _ _ _ h=>h) (Or.inl ⟨by rfl,?hq3⟩) (fun _=>h0) ?rq3
  case hq3=>(intro w _;go_simp;try with_reducible rfl)
  try simp only [Act.put,zab,zac,zad]
  refine X2 (i:=3) (v:=?vq4) rfl (by kernel_rfl) (by kernel_rfl) (by kernel_rfl) (by kernel_rfl) (fun j hj=>by simp at hj;subst hj;kernel_rfl) (fun _ _ _ h=>h) (Or.inl ⟨by rfl,?hq4⟩) (by exact h0) ?rq4
  case hq4=>(intro w hSw;(try dsimp only at hSw);obtain ⟨s0,s1,s2,s3,s4⟩:=hSw;go_simp;try with_reducible rfl)
  try simp only [Act.put,zab,zac,zad]
  refine Z9 (i:=4) (v:=?vq5) rfl (by kernel_rfl) (by kernel_rfl) (by kernel_rfl) rfl (fun _ _ _ h=>h) (Or.inl ⟨by rfl,?hq5⟩) (fun _=>h0) ?rq5
  case hq5=>(intro w _;go_simp;try with_reducible rfl)
  try simp only [Act.put,zab,zac,zad]
  refine Z9 (i:=5) (v:=?vq6) rfl (by kernel_rfl) (by kernel_rfl) (by kernel_rfl) rfl (fun _ _ _ h=>h) (Or.inl ⟨by rfl,?hq6⟩) (fun _=>h0) ?rq6
  case hq6=>(intro w _;go_simp;try with_reducible rfl)
  try simp only [Act.put,zab,zac,zad]
  refine X2 (i:=6) (v:=?vq7) rfl (by kernel_rfl) (by kernel_rfl) (by kernel_rfl) (by kernel_rfl) (fun j hj=>by simp at hj;subst hj;kernel_rfl) (fun _ _ _ h=>h) (Or.inl ⟨by rfl,?hq7⟩) (by exact h0) ?rq7
  case hq7=>(intro w hSw;(try dsimp only at hSw);obtain ⟨s0,s1,s2,s3,s4⟩:=hSw;go_simp;try with_reducible rfl)
  try simp only [Act.put,zab,zac,zad]
  refine Z9 (i:=7) (v:=?vq8) rfl (by kernel_rfl) (by kernel_rfl) (by kernel_rfl) rfl (fun _ _ _ h=>h) (Or.inl ⟨by rfl,?hq8⟩) (fun _=>h0) ?rq8
  case hq8=>(intro w _;go_simp;try with_reducible rfl)
  try simp only [Act.put,zab,zac,zad]
  refine X2 (i:=8) (v:=?vq9) rfl (by kernel_rfl) (by kernel_rfl) (by kernel_rfl) (by kernel_rfl) (fun j hj=>by simp at hj;subst hj;kernel_rfl) (fun _ _ _ h=>h) (Or.inl ⟨by rfl,?hq9⟩) (by exact h0) ?rq9
  case hq9=>(intro w hSw;(try dsimp only at hSw);obtain ⟨s0,s1,s2,s3,s4⟩:=hSw;go_simp;try with_reducible rfl)
  try simp only [Act.put,zab,zac,zad]
  refine Z9 (i:=9) (v:=?vq10) rfl (by kernel_rfl) (by kernel_rfl) (by kernel_rfl) rfl (fun _ _ _ h=>h) (Or.inl ⟨by rfl,?hq10⟩) (fun _=>h0) ?rq10
  case hq10=>(intro w _;go_simp;try with_reducible rfl)
  try simp only [Act.put,zab,zac,zad]
  refine Z9 (i:=10) (v:=?vq11) rfl (by kernel_rfl) (by kernel_rfl) (by kernel_rfl) rfl (fun _ _ _ h=>h) (Or.inl ⟨by rfl,?hq11⟩) (fun _=>h0) ?rq11
  case hq11=>(intro w _;go_simp;try with_reducible rfl)
  try simp only [Act.put,zab,zac,zad]
  refine X2 (i:=11) (v:=?vq12) rfl (by kernel_rfl) (by kernel_rfl) (by kernel_rfl) (by kernel_rfl) (fun j hj=>by simp at hj;subst hj;kernel_rfl) (fun _ _ _ h=>h) (Or.inl ⟨by rfl,?hq12⟩) (by exact h0) ?rq12
  case hq12=>(intro w hSw;(try dsimp only at hSw);obtain ⟨s0,s1,s2,s3,s4⟩:=hSw;go_simp;try with_reducible rfl)
  try simp only [Act.put,zab,zac,zad]
  refine Z9 (i:=12) (v:=?vq13) rfl (by kernel_rfl) (by kernel_rfl) (by kernel_rfl) rfl (fun _ _ _ h=>h) (Or.inl ⟨by rfl,?hq13⟩) (fun _=>h0) ?rq13
  case hq13=>(intro w _;go_simp;try with_reducible rfl)
  try simp only [Act.put,zab,zac,zad]
  refine X2 (i:=13) (v:=?vq14) rfl (by kernel_rfl) (by kernel_rfl) (by kernel_rfl) (by kernel_rfl) (fun j hj=>by simp at hj;subst hj;kernel_rfl) (fun _ _ _ h=>h) (Or.inl ⟨by rfl,?hq14⟩) (by exact h0) ?rq14
  case hq14=>(intro w hSw;(try dsimp only at hSw);obtain ⟨s0,s1,s2,s3,s4⟩:=hSw;go_simp;try with_reducible rfl)
  try simp only [Act.put,zab,zac,zad]
  refine V6 (rs:=[14]) (by kernel_rfl) (by simp) ?_
  intro i hi
  simp only [List.mem_cons,List.not_mem_nil,or_false] at hi
  subst hi
  refine X8 (i:=14) rfl (fun K hK=>?_)
  go_simp
  go_wp2_with (go_at_call 112;refine (hmb.out _).mono ?_;rintro e w' ⟨rfl,rfl⟩)
  refine hK.out _ _ (fun _=>h0) ?_
  clear hK K
  try simp only [Act.put,zab,zac,zad]
  refine Z9 (i:=15) (v:=?vq16) rfl (by kernel_rfl) (by kernel_rfl) (by kernel_rfl) rfl (fun _ _ _ h=>h) (Or.inl ⟨by rfl,?hq16⟩) (fun _=>h0) ?rq16
  case hq16=>(intro w _;go_simp;try with_reducible rfl)
  try simp only [Act.put,zab,zac,zad]
  refine Z9 (i:=16) (v:=?vq17) rfl (by kernel_rfl) (by kernel_rfl) (by kernel_rfl) rfl (fun _ _ _ h=>h) (Or.inl ⟨by rfl,?hq17⟩) (fun _=>h0) ?rq17
  case hq17=>(intro w _;go_simp;try with_reducible rfl)
  try simp only [Act.put,zab,zac,zad]
  refine Z9 (i:=17) (v:=?vq18) rfl (by kernel_rfl) (by kernel_rfl) (by kernel_rfl) rfl (fun _ _ _ h=>h) (Or.inl ⟨by rfl,?hq18⟩) (fun _=>h0) ?rq18
  case hq18=>(intro w _;go_simp;try with_reducible rfl)
  try simp only [Act.put,zab,zac,zad]
  refine V6 (rs:=[18]) (by kernel_rfl) (by simp) ?_
  intro i hi
  simp only [List.mem_cons,List.not_mem_nil,or_false] at hi
  subst hi
  refine X8 (i:=18) rfl (fun K hK=>?_)
  go_simp
  refine hK.out _ _ (fun h=>Bool.noConfusion ((h 18 (by kernel_rfl)).symm.trans (show _=true by kernel_rfl))) ?_
  clear hK K
  try simp only [Act.put,zab,zac,zad]
  refine P3 (by kernel_rfl) ?_ _
  go_wp2_with fail
  go_meet
  exact ⟨rfl,V3,B3,C3⟩
 case rest =>
  obtain ⟨rfl,hv3,hb3,hc3⟩:=hcut
  clear e0 e1 e2 g4 x2 f2 V3 B3 C3 hmb hsm v2 B2 Z2 hW2 hj16 hkl1
  have hV3:=zaa ((hc3.out.block V hVlt.out hVB'.out).trans hv'.out.box)
  have hVne:V≠B:=fun e=>hVB'.out (by rw [e];exact List.mem_cons_self ..)
  have hV8:=zaa (show V ∉ blks [S.vg] from fun hm=>hVB'.out (List.mem_cons_of_mem _ (zgg (by simp [Y2.all]) _ hm)))
  have cV:wc.drew.cell? ⟨V,0,none⟩=some (.pointer (some ⟨B,0,none⟩)):=Z0 hV3.out 0 _ rfl
  have hV3':Hid (wc.drew.heap[V]?=some (.cells #[.pointer (some ⟨B,0,none⟩),.map (some g)] 103 (0,0))):=zaa hV3.out
  have v4:=zaa hv3.out.drew
  have B4':=zaa (below_drewN hb3.out 1)
  have C4':=zaa (hc3.out.trans (Chg.of_below (below_drewN (Below.refl _ wc) 1) _))
  have B4':Hid (Below base w wc.drew):=zaa B4'.out
  have C4':Hid (Chg (B :: blks S.all) w wc.drew):=zaa C4'.out
  have hVz:=zaa (show V<wc.drew.heap.size from (Array.getElem?_eq_some_iff.1 hV3'.out).1)
  have hown:=show wc.drew.ownsRow base 3 1 S.vg D.grey.length (D.grey.map (Value.int .i64)) from v4.out.own.grey
  obtain ⟨ag,cg,hvg⟩:=Y4 hown
  have b8:=v4.out.cell 8 S.vg rfl
  rw [hvg] at b8 hown
  have hown':=zaa hown
  have hgl2:=hgl'.out
  clear hown hv3 hb3 hc3
  go_upto_region 3 with fail
  refine T6 (fun w'=>w'.cell? ⟨V,0,none⟩=some (.pointer (some ⟨B,0,none⟩))∧w'.cell? ⟨B,8,none⟩=some (.slice ag D.grey.length cg)) (fun j=>j == 18) (by kernel_rfl) ?_
  intro w3 hw3
  rw [← hw3] at cV b8 v4 B4' C4' hV3' hVz hown'
  clear hw3
  have hbs:=zaa (show base≤(w3.alloc (.cells #[.int .i64 addr] 3)).heap.size by have:=B4'.out.size;have:=hle.out;simp;omega)
  have src:=zaa (show N1 (w3.alloc (.cells #[.int .i64 addr] 3)) (some ⟨w3.heap.size,0,none⟩) 1 1 ([addr].map (Value.int .i64)) from ⟨rfl,fun j u hu=>⟨_,rfl,E0 _ _ _ j u hu⟩,by simp [Value.oneCell']⟩)
  have v5:=zaa (v4.out.below (Z5 w3 (.cells #[.int .i64 addr] 3)))
  have B5:=zaa (B4'.out.trans ((Z5 w3 (.cells #[.int .i64 addr] 3)).mono (by have:=B4'.out.size;have:=hle.out;omega)))
  have ex:=zaa (show ∀ (v:Value) (w6:World) ,w6.ownsRow base 3 1 v (D.grey ++ [addr]).length ((D.grey ++ [addr]).map (Value.int .i64))→(w3.alloc (.cells #[.int .i64 addr] 3)).grownBy w6 (Value.slice ag D.grey.length cg).ownBlock →
    (∀ q,v.ownBlock=some q→(Value.slice ag D.grey.length cg).ownBlock=some q∨(w3.alloc (.cells #[.int .i64 addr] 3)).heap.size≤q) →
    (∃ a c,v=.slice a (D.grey.length+1) c)∧w6.cell? ⟨B,8,none⟩=some S.vg∧w6.frozen? ⟨B,8,none⟩=false∧w6.cell? ⟨V,0,none⟩=some (.pointer (some ⟨B,0,none⟩))∧(VarW (w6.setCell ⟨B,8,none⟩ v) base B { S with vg:=v } (N9 D addr k j s)∧F6 w (w6.setCell ⟨B,8,none⟩ v) B S { S with vg:=v })∧Below base w (w6.setCell ⟨B,8,none⟩ v) from fun v w6 r g f=>by
   have hg:=v5.out.grow (L:=D.grey ++ [addr]) (v:=v) (by rw [hvg];exact g) r (by rw [hvg];exact f)
   have hch:=Chg.of_grown g (bs:=blks [S.vg]) fun x hx=>List.mem_filterMap.2 ⟨S.vg,by simp,by rw [hvg];exact hx⟩
   have hb6:=v5.out.keep hch (zgg (by simp [Y2.all]))
   obtain ⟨a,c,e⟩:=Y4 r
   have hsz:=C4'.out.size
   have hV6:=(hch.block V (by have:=hVz.out;simp;omega) hV8.out).trans (Z6 (Z5 w3 (.cells #[.int .i64 addr] 3)) hV3'.out)
   have hc5:Chg (B :: blks S.all) w (w6.setCell ⟨B,8,none⟩ v):=((C4'.out.trans (Chg.of_below (Z5 w3 _) _)).trans (Chg.of_grown g (bs:=B :: blks S.all) fun x hx=>List.mem_cons_of_mem _ (List.mem_filterMap.2 ⟨S.vg,by simp [Y2.all],by rw [hvg];exact hx⟩))).trans (Chg.of_grown (V5 w6 B 8 v) (bs:=B :: blks S.all) (by simp))
   exact ⟨⟨a,c,by rw [e,List.length_append];rfl⟩,Z0 hb6 8 S.vg rfl,Z3 hb6 8,Z0 hV6 0 _ rfl,⟨hg.1,⟨v,rfl,fun q hq=>(f q hq).imp (fun h=>by rw [hvg];exact h) (fun h=>by simp at h;omega)⟩,hc5⟩,B5.out.trans hg.2⟩)
  have hcV5:(w3.alloc (.cells #[.int .i64 addr] 3)).cell? ⟨V,0,none⟩=some (.pointer (some ⟨B,0,none⟩)):=Z7 (Z5 _ _) cV
  have hc85:(w3.alloc (.cells #[.int .i64 addr] 3)).cell? ⟨B,8,none⟩=some (.slice ag D.grey.length cg):=Z7 (Z5 _ _) b8
  have h0:(fun w'=>w'.cell? ⟨V,0,none⟩=some (.pointer (some ⟨B,0,none⟩))∧w'.cell? ⟨B,8,none⟩=some (.slice ag D.grey.length cg)) w3:=⟨cV,b8⟩
  have h1:(fun w'=>w'.cell? ⟨V,0,none⟩=some (.pointer (some ⟨B,0,none⟩))∧w'.cell? ⟨B,8,none⟩=some (.slice ag D.grey.length cg)) (w3.alloc (.cells #[.int .i64 addr] 3)):=⟨hcV5,hc85⟩
  clear v4 v5 B4' C4' B5 hks' hV3 hV3' hV8 hVz
  refine Z9 (i:=0) (v:=?vq20) rfl (by kernel_rfl) (by kernel_rfl) (by kernel_rfl) rfl (fun _ _ _ h=>h) (Or.inl ⟨by rfl,?hq20⟩) (fun _=>h0) ?rq20
  case hq20=>(intro w _;go_simp;try with_reducible rfl)
  try simp only [Act.put,zab,zac,zad]
  refine Z9 (i:=1) (v:=?vq21) rfl (by kernel_rfl) (by kernel_rfl) (by kernel_rfl) rfl (fun _ _ _ h=>h) (Or.inl ⟨by rfl,?hq21⟩) (fun _=>h0) ?rq21
  case hq21=>(intro w _;go_simp;try with_reducible rfl)
  try simp only [Act.put,zab,zac,zad]
  refine Z9 (i:=2) (v:=?vq22) rfl (by kernel_rfl) (by kernel_rfl) (by kernel_rfl) rfl (fun _ _ _ h=>h) (Or.inl ⟨by rfl,?hq22⟩) (fun _=>h0) ?rq22
  case hq22=>(intro w _;go_simp;try with_reducible rfl)
  try simp only [Act.put,zab,zac,zad]
  refine X2 (i:=3) (v:=?vq23) rfl (by kernel_rfl) (by kernel_rfl) (by kernel_rfl) (by kernel_rfl) (fun j hj=>by simp at hj;subst hj;kernel_rfl) (fun _ _ _ h=>h) (Or.inl ⟨by rfl,?hq23⟩) (by exact h0) ?rq23
  case hq23=>(intro w hSw;(try dsimp only at hSw);obtain ⟨s0,s1⟩:=hSw;go_simp;try with_reducible rfl)
  try simp only [Act.put,zab,zac,zad]
  refine Z9 (i:=4) (v:=?vq24) rfl (by kernel_rfl) (by kernel_rfl) (by kernel_rfl) rfl (fun _ _ _ h=>h) (Or.inl ⟨by rfl,?hq24⟩) (fun _=>h0) ?rq24
  case hq24=>(intro w _;go_simp;try with_reducible rfl)
  try simp only [Act.put,zab,zac,zad]
  refine Z9 (i:=5) (v:=?vq25) rfl (by kernel_rfl) (by kernel_rfl) (by kernel_rfl) rfl (fun _ _ _ h=>h) (Or.inl ⟨by rfl,?hq25⟩) (fun _=>h0) ?rq25
  case hq25=>(intro w _;go_simp;try with_reducible rfl)
  try simp only [Act.put,zab,zac,zad]
  refine Z9 (i:=6) (v:=?vq26) rfl (by kernel_rfl) (by kernel_rfl) (by kernel_rfl) rfl (fun _ _ _ h=>h) (Or.inl ⟨by rfl,?hq26⟩) (fun _=>h0) ?rq26
  case hq26=>(intro w _;go_simp;try with_reducible rfl)
  try simp only [Act.put,zab,zac,zad]
  refine X2 (i:=7) (v:=?vq27) rfl (by kernel_rfl) (by kernel_rfl) (by kernel_rfl) (by kernel_rfl) (fun j hj=>by simp at hj;subst hj;kernel_rfl) (fun _ _ _ h=>h) (Or.inl ⟨by rfl,?hq27⟩) (by exact h0) ?rq27
  case hq27=>(intro w hSw;(try dsimp only at hSw);obtain ⟨s0,s1⟩:=hSw;go_simp;try with_reducible rfl)
  try simp only [Act.put,zab,zac,zad]
  refine Z9 (i:=8) (v:=?vq28) rfl (by kernel_rfl) (by kernel_rfl) (by kernel_rfl) rfl (fun _ _ _ h=>h) (Or.inl ⟨by rfl,?hq28⟩) (fun _=>h0) ?rq28
  case hq28=>(intro w _;go_simp;try with_reducible rfl)
  try simp only [Act.put,zab,zac,zad]
  refine Z9 (i:=9) (v:=?vq29) rfl (by kernel_rfl) (by kernel_rfl) (by kernel_rfl) rfl (fun _ _ _ h=>h) (Or.inl ⟨by rfl,?hq29⟩) (fun _=>h0) ?rq29
  case hq29=>(intro w _;go_simp;try with_reducible rfl)
  try simp only [Act.put,zab,zac,zad]
  refine Z9 (i:=10) (v:=?vq30) rfl (by kernel_rfl) (by kernel_rfl) (by kernel_rfl) rfl (fun _ _ _ h=>h) (Or.inl ⟨by rfl,?hq30⟩) (fun _=>h0) ?rq30
  case hq30=>(intro w _;go_simp;try with_reducible rfl)
  try simp only [Act.put,zab,zac,zad]
  refine X2 (i:=11) (v:=?vq31) rfl (by kernel_rfl) (by kernel_rfl) (by kernel_rfl) (by kernel_rfl) (fun j hj=>by simp at hj;subst hj;kernel_rfl) (fun _ _ _ h=>h) (Or.inl ⟨by rfl,?hq31⟩) (by exact h0) ?rq31
  case hq31=>(intro w hSw;(try dsimp only at hSw);obtain ⟨s0,s1⟩:=hSw;go_simp;try with_reducible rfl)
  try simp only [Act.put,zab,zac,zad]
  refine Z9 (i:=12) (v:=?vq32) rfl (by kernel_rfl) (by kernel_rfl) (by kernel_rfl) rfl (fun _ _ _ h=>h) (Or.inl ⟨by rfl,?hq32⟩) (fun _=>h0) ?rq32
  case hq32=>(intro w _;go_simp;try with_reducible rfl)
  try simp only [Act.put,zab,zac,zad]
  refine V6 (rs:=[13]) (by kernel_rfl) (by simp) ?_
  intro i hi
  simp only [List.mem_cons,List.not_mem_nil,or_false] at hi
  subst hi
  refine X8 (i:=13) rfl (fun K hK=>?_)
  go_simp
  refine hK.out _ _ (fun _=>h1) ?_
  clear hK K
  try simp only [Act.put,zab,zac,zad]
  refine V6 (rs:=[14]) (by kernel_rfl) (by simp) ?_
  intro i hi
  simp only [List.mem_cons,List.not_mem_nil,or_false] at hi
  subst hi
  refine X8 (i:=14) rfl (fun K hK=>?_)
  refine zen rfl (zrq (.tmp 66) (.tmp 68) rfl rfl (hown'.out.alloc _) ⟨w3.heap.size,0,none⟩ 1 1 [addr] rfl rfl src.out (by omega) hbs.out ?_);intro v6 w6 q6 g6 f6;obtain ⟨⟨a6,c6,rfl⟩,b6,z6,cV6,hv6⟩:=ex.out _ _ q6 g6 f6;have hv:=zaa hv6;rw [hvg] at b6;clear q6 g6 f6 hv6 ex
  refine hK.out _ _ (fun _=>⟨cV6,b6⟩) ?_
  clear hK K
  try simp only [Act.put,zab,zac,zad]
  refine Z9 (i:=15) (v:=?vq35) rfl (by kernel_rfl) (by kernel_rfl) (by kernel_rfl) rfl (fun _ _ _ h=>h) (Or.inl ⟨by rfl,?hq35⟩) (fun _=>⟨cV6,b6⟩) ?rq35
  case hq35=>(intro w _;go_simp;try with_reducible rfl)
  try simp only [Act.put,zab,zac,zad]
  refine Z9 (i:=16) (v:=?vq36) rfl (by kernel_rfl) (by kernel_rfl) (by kernel_rfl) rfl (fun _ _ _ h=>h) (Or.inl ⟨by rfl,?hq36⟩) (fun _=>⟨cV6,b6⟩) ?rq36
  case hq36=>(intro w _;go_simp;try with_reducible rfl)
  try simp only [Act.put,zab,zac,zad]
  refine Z9 (i:=17) (v:=?vq37) rfl (by kernel_rfl) (by kernel_rfl) (by kernel_rfl) rfl (fun _ _ _ h=>h) (Or.inl ⟨by rfl,?hq37⟩) (fun _=>⟨cV6,b6⟩) ?rq37
  case hq37=>(intro w _;go_simp;try with_reducible rfl)
  try simp only [Act.put,zab,zac,zad]
  refine V6 (rs:=[18]) (by kernel_rfl) (by simp) ?_
  intro i hi
  simp only [List.mem_cons,List.not_mem_nil,or_false] at hi
  subst hi
  refine X8 (i:=18) rfl (fun K hK=>?_)
  go_simp
  refine hK.out _ _ (fun h=>Bool.noConfusion ((h 18 (by kernel_rfl)).symm.trans (show _=true by kernel_rfl))) ?_
  clear hK K
  try simp only [Act.put,zab,zac,zad]
  refine P3 (by kernel_rfl) ?_ _
  go_wp2_with fail
  go_end0
  exact ⟨rfl,⟨_,_,y.out,hv.out.1.1,hv.out.1.2⟩,hv.out.2⟩
end Go.Proofs.YtilkidaihbhfpaaGreat

namespace Go.Proofs.YtilkidaihbhfpaaGreat
open Go.RowKit Go.Shelf
set_option linter.unusedVariables false
attribute [local go_sem] Oper.semAt_some
theorem VarW.chg {w w':World} {base B:Nat} {S:Y2} {D:WD} (h:VarW w base B S D) {bs:List Nat} (c:Chg bs w w') (hn:∀ k,k ∈ blks S.all→k ∉ bs) (hB:B ∉ bs):VarW w' base B S D :=
 ⟨(c.block B h.lt hB).trans h.box,h.own.chg c hn,h.le,h.ne⟩
def zif (f m x:Int):Int:=if f / 8≤x∧x<f / 8+(cnt f m:Int) then x else f / 8
theorem zzh {f m:Int} (hm:1≤m) (x:Int):f / 8≤zif f m x∧zif f m x<f / 8+(cnt f m:Int):=by
 have:=cnt_pos (f:=f) hm
 unfold zif
 split <;> omega
theorem zri {f m:Int} {k:Nat} (h:k<cnt f m):zif f m (f / 8+(k:Int))=f / 8+(k:Int):=by
 unfold zif
 rw [if_pos (by omega)]
def zmj (f m:Int) (L:List Bool) (pre:List Int):List Bool:=pre.foldl (fun L x=>L.set (zif f m x).toNat true) L
theorem znv (f m:Int) (L:List Bool) (pre:List Int) (x:Int):zmj f m L (pre ++ [x])=(zmj f m L pre).set (zif f m x).toNat true:=by simp [zmj]
theorem zsy (f m:Int) (L:List Bool) (k:Nat) (h:k≤cnt f m):zmj f m L (upto f k)=J6 L f k:=by
 induction k with
 | zero=>rfl
 | succ k ih=>rw [zkl,znv,zri (by omega),ih (by omega)];rfl
theorem zwi (f m:Int) (L:List Bool) (pre:List Int):(zmj f m L pre).length=L.length:=by
 unfold zmj
 induction pre generalizing L with
 | nil=>rfl
 | cons x pre ih=>rw [List.foldl_cons,ih,List.length_set]
theorem zwm (F:Fence) (n:Nat) (h33:F.fn 206) (hro:F.round=none) (hn:1≤n) (l B1 B2 n₀:Nat) (f m:Int) (hf0:0≤f) (hf:f≤1000000) (hm1:1≤m) (hm:m≤32) (J Jx:List Int→World→Prop)
  (hY:∀ pre x W,J pre W→pre.length<cnt f m→YieldAt F (n-1) Tryz.prog l #[.int .i64 (zif f m x)] W fun e W' =>
   (e=.returned (.bool true)∧J (pre ++ [x]) W'∧Below n₀ W W')∨(e=.returned (.bool false)∧Jx (pre ++ [x]) W'))
  (W:World) (hB1:W.cell? ⟨B1,0,none⟩=some (.int .i64 f)) (hB2:W.cell? ⟨B2,0,none⟩=some (.int .i64 m)) (h0:J [] W) :
  CallsIn F n Tryz.prog 206 #[.func (.yield l) #[] #[],.pointer (some ⟨B1,0,none⟩),.pointer (some ⟨B2,0,none⟩)] W fun e W'=>(∃ v,e=.returned v) ∧
   ((∃ ys,ys=upto f (cnt f m)∧J ys W')∨(∃ pre,(∃ k,k≤cnt f m∧pre=upto f k)∧Jx pre W')):=by
 refine callsIn_of_wp Tryz.func206 rfl h33 ?_ hro
 simp only [Tryz.ntmps206,List.size_toArray,List.length_cons,List.length_nil,Nat.reduceAdd,Nat.reduceSub,Array.replicate_succ,Array.replicate_zero,List.push_toArray,List.append_toArray,List.nil_append,List.cons_append]
 gi_wp2
 gi_loopw [5] (fun c wr=>∃ k:Nat,k≤cnt f m∧c=.int .i64 (f / 8+(k:Int))∧J (upto f k) wr)
  (fun c _=>cnt f m-(RowKit.intOf c-f / 8).toNat)
 case atStart=>exact ⟨0,Nat.zero_le _,by simp,h0⟩
 case round =>
  obtain ⟨k,hk,rfl,hJs⟩:=hrel
  by_cases hlt:k<cnt f m
  ·have hle:=zue hlt
   have hY1:=hY _ (f / 8+(k:Int)) wr hJs (by rw [P6];exact hlt)
   rw [zri hlt] at hY1
   obtain ⟨fn,tmps,assign,body,hy,hR⟩:=hY1
   gi_wp2
   refine hR.mono ?_
   rintro e W3 (⟨rfl,hJ3,hk3⟩ | ⟨rfl,hJx3⟩)
   ·gi_wp2
    go_roundw
    case rel=>exact ⟨k+1,by omega,by simp;omega,by rw [zkl];exact hJ3⟩
    case measure=>simp [RowKit.intOf];omega
   ·gi_wp2
    refine bodyPost_ret (results_none rfl _ _ _) rfl ?_
    exact ⟨⟨_,rfl⟩,.inr ⟨_,⟨k+1,by omega,(zkl _ _).symm⟩,hJx3⟩⟩
  ·have hkk:k=cnt f m:=by omega
   have hle:=zzf hkk hm1
   have hJs':J (upto f (cnt f m)) wr:=by rw [← hkk];exact hJs
   clear hkk hJs hlt
   gi_wp2
   go_end0
   exact ⟨⟨_,rfl⟩,.inl ⟨_,rfl,hJs'⟩⟩
theorem zrj (F:Fence) (n:Nat) (h33:F.fn 206) (hro:F.round=none) (hn:1≤n) (B1 B2 n₀:Nat) (f m:Int) (hf0:0≤f) (hf:f≤1000000) (hm1:1≤m) (hm:m≤32) (w:World) (hb1:B1<w.heap.size) (hb2:B2<w.heap.size)
  (hc1:w.cell? ⟨B1,0,none⟩=some (.int .i64 f)) (hc2:w.cell? ⟨B2,0,none⟩=some (.int .i64 m)) :
  SeqStopsK F n Tryz.prog 206 #[.pointer (some ⟨B1,0,none⟩),.pointer (some ⟨B2,0,none⟩)] (fun x:Int=>#[Value.int .i64 (zif f m x)]) (Below n₀) (fun ys=>ys=upto f (cnt f m)) (fun pre=>∃ k,k≤cnt f m∧pre=upto f k) (cnt f m) w:=fun l J Jx W hW _ _ hY h0 =>
 zwm F n h33 hro hn l B1 B2 n₀ f m hf0 hf hm1 hm J Jx hY W ((hW.cell (p:=⟨B1,0,none⟩) hb1).trans hc1) ((hW.cell (p:=⟨B2,0,none⟩) hb2).trans hc2) h0
structure SoilI (base B bx:Nat) (S:Y2) (D:WD) (f m:Int) (w0:World) (pre:List Int) (W:World):Prop where
 var:VarW W base B S { D with dirty:=zmj f m D.dirty pre }
 box:Boxed W bx 67 (.pointer (some ⟨B,0,none⟩))
 bel:Below base w0 W
theorem soil_own {base B bx n0:Nat} {S:Y2} {D:WD} {f m:Int} {w0:World} (hold:∀ q,q ∈ blks S.all→q<n0) (hB:B<n0) (hbx:bx<n0) (hb0:base≤w0.heap.size):OwnFrom n0 (SoilI base B bx S D f m w0):=by
 intro pre W W' row h hg hr
 have c:Chg row.toList W W':=Chg.of_grown hg fun x hx=>by rw [hx];simp
 have hm:∀ q,q ∈ row.toList→n0≤q:=fun q hq=>by
  cases row with
  | none=>simp at hq
  | some r=>simp at hq;subst hq;exact (hr q rfl).1
 refine ⟨h.var.chg c (fun k hk hq=>by have:=hold k hk;have:=hm k hq;omega) (fun hq=>by have:=hm B hq;omega),h.box.kept hg fun e=>by have:=(hr bx e.symm).1;omega,?_⟩
 have hz:=h.bel.size
 have hle:=h.var.le
 exact Chg.below h.bel c (by omega) fun x hx=>by have:=hm x hx;omega
theorem soil_in (F:Fence) (n:Nat) (h15:F.fn 204) (h31:F.fn 205) (h33:F.fn 206) (hro:F.round=none) (hn:3≤n) (base B:Nat) (S:Y2) (D:WD) (f m:Int) (hf0:0≤f) (hf:f≤1000000) (hm1:1≤m) (hm:m≤32) (hc:f+m≤8*(D.dirty.length:Int)) (w:World) (h:VarW w base B S D) :
  CallsIn F n Tryz.prog 204 #[.pointer (some ⟨B,0,none⟩),.int .i64 f,.int .i64 m] w fun e W'=>(∃ v,e=.returned v)∧VarW W' base B S { D with dirty:=zfr D.dirty f m }∧Below base w W':=by
 have h1:1≤n:=by omega
 have hcnt:=zuf (f:=f) hm1 hm
 refine callsIn_of_wp_marks Tryz.func204 rfl h15 ?_ hro
 simp only [Tryz.ntmps204,List.size_toArray,List.length_cons,List.length_nil,Nat.reduceAdd,Nat.reduceSub,Array.replicate_succ,Array.replicate_zero,List.push_toArray,List.append_toArray,List.nil_append,List.cons_append]
 gi_wp2_with (gi_at_call 205;refine (cards_in F (n-1) h31 hro _ _ _).mono ?_;rintro e w' ⟨rfl,rfl⟩)
 have bO:=Boxed.new w 67 (.pointer (some ⟨B,0,none⟩))
 have bF:=Boxed.new (w.alloc (.cells #[.pointer (some ⟨B,0,none⟩)] 67)) 3 (.int .i64 f)
 have bN:=Boxed.new ((w.alloc (.cells #[.pointer (some ⟨B,0,none⟩)] 67)).alloc (.cells #[.int .i64 f] 3)) 3 (.int .i64 m)
 rw [World.size_alloc] at bF bN
 rw [World.size_alloc] at bN
 have bF':=bF.alloc (.cells #[.int .i64 m] 3)
 have hB0:Below w.heap.size w (((w.alloc (.cells #[.pointer (some ⟨B,0,none⟩)] 67)).alloc (.cells #[.int .i64 f] 3)).alloc (.cells #[.int .i64 m] 3)):=(((Below.refl _ w).alloc (Nat.le_refl _) _).alloc (by simp) _).alloc (by simp;omega) _
 have hle:=h.le
 have hlt:=h.lt
 have hown:=h.own.lt
 refine wpIn_rangeFunc_ownG hro h1 (gf:=206) (lb:=#[.pointer (some ⟨w.heap.size+1,0,none⟩),.pointer (some ⟨w.heap.size+1+1,0,none⟩)]) rfl h33 (enters_of Tryz.func206 (by kernel_rfl) rfl)
  (zrj F (n-1) h33 hro (by omega) (w.heap.size+1) (w.heap.size+1+1) base f m hf0 hf hm1 hm _ (by simp) (by simp) bF'.cell bN.cell) belowK_t (belowK_b (by simp;omega)) (Below.refl _ _) (fun _=>rfl)
  (SoilI base B w.heap.size S D f m w)
  (fun _ _ _=>False)
  (soil_own (fun q hq=>by have:=hown q hq;simp;omega) (by simp;omega) (by simp;omega) (by omega))
  (fun _ _ _ _ _ hs _ _=>hs)
  ⟨h.below hB0,(bO.alloc _).alloc _,hB0.mono (by omega)⟩
  (fun x=>{ tmps:=#[.pointer (some ⟨B,0,none⟩),.int .i64 f,.int .i64 m,.pointer (some ⟨w.heap.size,0,none⟩),undef,undef,.int .i64 (zif f m x),.int .i64 f,.int .i64 m,.func (.func 206) #[] #[.pointer (some ⟨w.heap.size+1,0,none⟩),.pointer (some ⟨w.heap.size+1+1,0,none⟩)],.int .i64 (zif f m x),undef,undef,undef,undef,undef,undef],defers:=[] }) ?assign ?body ?done ?stop
 case assign =>
  intro l x W K hK
  gi_wp2
  exact hK
 case body =>
  rintro l pre x W hI hlt
  obtain ⟨hv,hbx,hb⟩:=hI
  have hc:=hbx.cell
  have hcl:=zzh (f:=f) hm1 x
  have hsn:=zaa (znv f m D.dirty pre x)
  obtain ⟨c,hcc⟩:=Int.eq_ofNat_of_zero_le (show 0≤zif f m x by omega)
  rw [hcc] at hcl hsn ⊢
  have hend:(f+m-1) / 8+1-f / 8=(cnt f m:Int):=by unfold cnt;omega
  have hcd:c<D.dirty.length:=by omega
  have hld:=zwi f m D.dirty pre
  obtain ⟨gd,cd,hgd⟩:=hv.headD (by simp only [hld];omega)
  have g3:=hv.cell 3 S.vd rfl
  rw [hgd] at g3
  simp only [hld] at g3
  have hrD:=hv.own.dirty
  rw [hgd] at hrD
  have hold:=hrD.cellAt c (by simp only [hld];omega)
  have hfr:=hrD.frozenAt c
  have hset:=zaa (hv.dirty hgd c true)
  have hbxs:=zaa hbx
  have hbl:=zaa hb
  have hgdlt:=zaa (h.own.lt gd (List.mem_filterMap.2 ⟨S.vd,by simp [Y2.all],by rw [hgd];rfl⟩))
  have hcd1:(c:Int)<(D.dirty.length:Int):=by omega
  obtain ⟨u,hu⟩:∃ u,W.cell? ⟨gd,c,none⟩=some (.bool u):=by
   rw [hold]
   simp only [List.getElem?_map]
   have:c<(zmj f m D.dirty pre).length:=by omega
   rw [List.getElem?_eq_getElem this]
   exact ⟨_,rfl⟩
  have hmx:=hv.rd.parts.2.1
  obtain ⟨_,_,_,hsm,_⟩:=hmx
  simp only [hld] at hsm
  unfold maxLen at hsm
  clear hold hrD hv hbx hb hcl hend hgd
  gi_wp2
  refine ⟨KeepsFrom.of_grownBy (V5 W gd c (.bool true)) (fun j hj=>by cases hj;have:=hgdlt.out;simp;omega),hset.out.2,⟨?_,hbxs.out.kept (V5 W gd c (.bool true)) (fun e=>by have:=hgdlt.out;cases e;omega),hbl.out.trans hset.out.2⟩⟩
  rw [hsn.out]
  exact hset.out.1
 case done =>
  rintro Dd ys W hD rfl hI hK
  obtain ⟨hv,hbx,hb⟩:=hI
  rw [zsy _ _ _ _ (Nat.le_refl _)] at hv
  gi_wp2
  refine ⟨by simp,.inl ⟨_,_,rfl,run_takeDeferred hK,?_⟩⟩
  have cc:=fun o:Obj=>(Chg.of_grown (grownBy_putObj' W Dd o) (bs:=[Dd]) (by simp))
  have hDd:w.heap.size≤Dd:=by simp at hD;omega
  exact ⟨_,results_none rfl _ _ _,⟨_,rfl⟩,hv.chg (cc _) (fun k hk hq=>by have:=hown k hk;rw [List.mem_singleton.1 hq] at this;omega) (fun hq=>by have:=List.mem_singleton.1 hq;omega),Chg.below hb (cc _) (by have:=hb.size;omega) (fun x hx=>by rw [List.mem_singleton.1 hx];omega)⟩
 case stop =>
  rintro D c pre W _ _ h _
  exact h.elim
theorem soil_any (base B:Nat) (S:Y2) (D:WD) (f m:Int) (hf0:0≤f) (hf:f≤1000000) (hm1:1≤m) (hm:m≤32) (hc:f+m≤8*(D.dirty.length:Int)) (w:World) (h:VarW w base B S D) :
  Calls Tryz.prog 204 #[.pointer (some ⟨B,0,none⟩),.int .i64 f,.int .i64 m] w fun e W'=>(∃ v,e=.returned v)∧VarW W' base B S { D with dirty:=zfr D.dirty f m }∧Below base w W' :=
 (callsIn_wide (n:=3)).1 (soil_in Fence.wide 3 trivial trivial trivial rfl (by omega) base B S D f m hf0 hf hm1 hm hc w h)
end Go.Proofs.YtilkidaihbhfpaaGreat

namespace Go.Proofs.YtilkidaihbhfpaaGreat
open Go.RowKit
set_option linter.unusedVariables false
theorem elemInts:Tryz.prog.elem 23=3:=by kernel_rfl
theorem undInts:Tryz.prog.underlying 23=some (.slice (Tryz.prog.elem 23)):=by rw [elemInts];exact Tryz.underlying23
theorem sizeInts (w:World):(sizeOf (Tryz.prog.elem 23)).run Tryz.prog w=.ok 1 w:=by kernel_rfl
theorem zeroInt (w:World):(zeroValue 3).run Tryz.prog w=.ok (.int .i64 0) w:=by kernel_rfl
theorem zkt (g:Nat) (v:Value):∀ (n o:Nat) (w:World),w.setCells g o (List.replicate (n+1) v)=(w.setCells g o (List.replicate n v)).setCell ⟨g,o+n,none⟩ v
 | 0,o,w=>rfl
 | n+1,o,w=>by
  show (w.setCell ⟨g,o,none⟩ v).setCells g (o+1) (List.replicate (n+1) v)=((w.setCell ⟨g,o,none⟩ v).setCells g (o+1) (List.replicate n v)).setCell ⟨g,o+(n+1),none⟩ v
  rw [zkt g v n (o+1) _,show o+1+n=o+(n+1) by omega]
theorem VarW.zero {w:World} {base B:Nat} {S:Y2} {D:WD} {g cap:Nat} (h:VarW w base B S D) (hg:S.vw=.slice (some ⟨g,0,none⟩) D.words.length cap) (A:Nat) (n:Nat) :
  VarW (w.setCells g A (List.replicate n (.int .i64 0))) base B S { D with words:=zjp D.words A n }∧Below base w (w.setCells g A (List.replicate n (.int .i64 0))):=by
 induction n with
 | zero=>exact ⟨h,Below.refl _ _⟩
 | succ n ih =>
  rw [zkt]
  have:=ih.1.word (g:=g) (cap:=cap) (by rw [hg,zgw]) (A+n) 0
  exact ⟨this.1,ih.2.trans this.2⟩
theorem zzd {g n c A z:Nat} (hA:A<n) (hz:A+z≤n) (hn:n≤c) (i:Int) (hi:i=(A:Int)+(z:Int)) (w:World) :
  (Instr.slice 23 (.slice (some ⟨g,0,none⟩) n c) (some (.int .i64 (A:Int))) (some (.int .i64 i)) none).run Tryz.prog w=.ok (.slice (some ⟨g,A,none⟩) z (c-A)) w:=by
 subst hi
 rw [run_slice_lh w 23 _ n c undInts .i64 .i64 (A:Int) ((A:Int)+(z:Int)) (by omega) (by omega) (by omega),sizeInts]
 have e1:((A:Int)+(z:Int)).toNat=A+z:=by omega
 have e2:(A:Int).toNat=A:=by omega
 simp only [Result.andThen,sliced,e1,e2]
 rw [if_neg (by omega),show A+z-A=z by omega]
 simp [Addr.add]
 intro h
 omega
theorem zpw (base B:Nat) (S:Y2) (D:WD) (k j:Nat) (s:Y3) (hk:D.spans[k]?=some s) (hin:zev D s j) (w:World) (h:VarW w base B S D) :
  Calls Tryz.prog 202 #[.pointer (some ⟨B,0,none⟩),.agg #[.int .i64 k,.int .i64 j]] w fun e w'=>(∃ v,e=.returned v)∧VarW w' base B S (zkc D k s j)∧Below base w w':=by
 have hbd:=hin.bd
 have hkl:=(List.getElem?_eq_some_iff.1 hk).1
 obtain ⟨p,hp⟩:=h.svAt hk
 obtain ⟨gs,cs,hgs⟩:=h.headS (by omega)
 obtain ⟨gw,cw,hgw⟩:=h.headW (by have:=hin.words;have:=hin.pg0;have:=hin.pg1;omega)
 obtain ⟨gl,cl,hgl⟩:=N7 (h.own.inner k s p hk hp).1 (by have:=hin.j;omega)
 obtain ⟨gp,cp,hgp⟩:=N7 (h.own.inner k s p hk hp).2 (by have:=hin.j;have:=hin.lens;have:=hin.ptrs;omega)
 have hj:=hin.j
 have hjp:j<s.ptrs.length:=by have:=hin.lens;have:=hin.ptrs;omega
 have hwl:=hin.words
 have hdl:=hin.dirty
 have hpg:=hin.pg
 have hpg0:=hin.pg0
 have hpg1:=hin.pg1
 obtain ⟨A,hA⟩:=Int.eq_ofNat_of_zero_le hbd.1
 obtain ⟨z,hz⟩:=Int.eq_ofNat_of_zero_le (show 0≤sz s.cls by omega)
 have hb2:A+z≤D.words.length:=by omega
 have hzb:2≤z∧z≤16:=by omega
 obtain ⟨hz1,hz2⟩:=hzb
 have hA2:A≤1000:=by omega
 have hdd:(A:Int)+(z:Int)≤8*(D.dirty.length:Int):=by omega
 have hj15:(j:Int)≤15:=hbd.2.2.2.2.1
 have hjl1:(j:Int)<(s.lens.length:Int):=by omega
 have hjp1:(j:Int)<(s.ptrs.length:Int):=by omega
 have hkl1:(k:Int)<(D.spans.length:Int):=by omega
 have hcs:=zaa (fun (w:World)=>(hz ▸ zjg s.cls w:Calls Tryz.prog 148 #[.int .i64 s.cls] w fun e w'=>e=.returned (.int .i64 (z:Int))∧w=w'))
 have hsm:=h.rd.parts.2.2.1
 obtain ⟨_,_,-,hsm,-⟩:=hsm
 have hwm:=h.rd.parts.1
 obtain ⟨_,_,-,hwm,-⟩:=hwm
 have hlx:=h.own.inner k s p hk hp
 obtain ⟨_,_,-,hsm1,-⟩:=Rd.of_owns hlx.1
 obtain ⟨_,_,-,hsm2,-⟩:=Rd.of_owns hlx.2
 unfold maxLen at hsm hwm hsm1 hsm2
 have hwc:D.words.length≤cw∧cw≤9223372036854775807:=by
  have:=h.own.words
  rw [hgw] at this
  rcases this.2 with ⟨he,_⟩ | ⟨g,c,cur,he,_,_,hc,hm,_⟩
  ·simp at he
  ·simp at he
   unfold maxLen at hm
   omega
 have bb:=Z5 w (.cells #[.int .i64 k,.int .i64 j] 58)
 have bn:=Y6 w (.cells #[.int .i64 k,.int .i64 j] 58)
 have hv:=zaa (h.below bb)
 have h0:=Ext.cell (Z0 bn 0 _ rfl)
 have h1:=Ext.cell (Z0 bn 1 _ rfl)
 have g4:=Ext.cell (hv.out.cell 4 (.slice (some ⟨gs,0,none⟩) D.spans.length cs) (by rw [← hgs];rfl))
 have hrs:=zaa (show zez (w.alloc (.cells #[.int .i64 k,.int .i64 j] 58)) gs (k*6) s from by
  obtain ⟨x0,x1,x2,x3,x4,x5⟩:=hv.out.six hgs hk hp
  have hi:=hv.out.own.inner k s p hk hp
  exact ⟨_,_,x0,x1,x2,x3,x4,x5,Rd.of_owns hi.1,Rd.of_owns hi.2⟩)
 have x1:=Ext.cell (hv.out.six hgs hk hp).2.1
 have bn':=zaa bn
 have hle:=zaa h.le
 have hlt:=zaa h.lt
 have hown:=zaa h.own.lt
 have b0:=zaa (show Below base w (w.alloc (.cells #[.int .i64 k,.int .i64 j] 58)) from bb.mono (by have:=h.le;have:=h.lt;omega))
 have hz0:=zaa (show (w.alloc (.cells #[.int .i64 k,.int .i64 j] 58)).heap.size=w.heap.size+1 by simp)
 have hin':=zaa hin
 have hk':=zaa hk
 have hp':=zaa hp
 have hgs':=zaa hgs
 have hgw':=zaa hgw
 have hgl':=zaa hgl
 have hgp':=zaa hgp
 have hA':=zaa hA
 have hz':=zaa hz
 have hfw:=zaa (fun (w:World) (hr:zez w gs (k*6) s)=>(hA ▸ zeq gs (k*6) s (j:Int) hpg0 (by omega) (by omega) (by omega) w hr:Calls Tryz.prog 111 #[.pointer (some ⟨gs,k*6,none⟩),.int .i64 j] w fun e w'=>e=.returned (.int .i64 (A:Int))∧zkg w w'))
 clear hin hk hp hgs hgw hgl hgp hA hz hbd h bb bn hlx hwl hdl hpg1 hj hjp
 go_enter Tryz.func202,Tryz.ntmps202
 go_wp2_with fail
 generalize hWe:w.alloc (.cells #[.int .i64 k,.int .i64 j] 58)=W at *
 have hWe':=zaa hWe
 clear hWe
 refine Y5 (Below.refl _ _) (by kernel_rfl) (by kernel_rfl) ?_
 repeat (go_big_quiet_step ((fail)))
 refine wpQuiet_nil ?_
 intro _ hw'
 obtain ⟨x9,hw''⟩:=hw'
 subst hw''
 go_wp2_with fail
 refine Y5 x9.below (by kernel_rfl) (by kernel_rfl) ?_
 repeat (go_big_quiet_step ((first | (go_at_call 111;exact Ext.call ((hfw.out _ (hrs.out.below (Ext.below _))).mono fun _ _ ⟨a,b⟩=>⟨a,b.below⟩)) | (go_at_call 148;exact Ext.same (hcs.out _)))))
 refine wpQuiet_nil ?_
 intro _ hw'
 obtain ⟨x9,hw''⟩:=hw'
 subst hw''
 go_upto_region 3 with fail
 have hx2:=zaa x9.below
 generalize x9.val=w2 at *
 have hv2:=zaa (hv.out.below hx2.out)
 have bn2:=zaa (Z6 hx2.out bn'.out)
 have hbp:w.heap.size<w2.heap.size:=by have:=hx2.out.size;have:=hz0.out;omega
 clear h0 h1 g4 x1
 have q1:=Z0 bn2.out 1 _ rfl
 obtain ⟨_,_,x2,_,x4,x5⟩:=hv2.out.six hgs'.out hk'.out hp'.out
 rw [hgl'.out] at x4
 rw [hgp'.out] at x5
 obtain ⟨n1,n2,n3,n4,n5,n6⟩:=hv2.out.nes hgs'.out hk'.out hp'.out hgl'.out hgp'.out
 obtain ⟨c1,c2⟩:=Y7 (hv2.out.own.inner k s p hk'.out hp'.out).1 hgl'.out j hin'.out.j
 obtain ⟨d1,d2⟩:=Y7 (hv2.out.own.inner k s p hk'.out hp'.out).2 hgp'.out j (by have:=hin'.out.lens;have:=hin'.out.ptrs;have:=hin'.out.j;omega)
 have f2:=hv2.out.frzS hgs'.out (k*6+2)
 have m1:¬ (w.heap.size=gl):=fun e=>by have:=(hown.out gl (List.mem_filterMap.2 ⟨p.1,by have:p.1 ∈ X7 S.sv:=List.mem_flatMap.2 ⟨p,List.mem_of_getElem? hp'.out,by simp⟩;simp [Y2.all,this],by rw [hgl'.out];rfl⟩)).2;omega
 have m2:¬ (w.heap.size=gp):=fun e=>by have:=(hown.out gp (List.mem_filterMap.2 ⟨p.2,by have:p.2 ∈ X7 S.sv:=List.mem_flatMap.2 ⟨p,List.mem_of_getElem? hp'.out,by simp⟩;simp [Y2.all,this],by rw [hgp'.out];rfl⟩)).2;omega
 have s1:=hv2.out.lens k j s p 0 hk'.out hp'.out hgl'.out
 have hk2:=zaa (zhb (t:=({ s with lens:=s.lens.set j 0 }:Y3)) hk'.out)
 have s2:=s1.1.ptrs k j _ p 0 hk2.out hp'.out hgp'.out
 have s3:VarW ((w2.setCell ⟨gl,j,none⟩ (.int .i64 0)).setCell ⟨gp,j,none⟩ (.int .i64 0)) base B S { D with spans:=D.spans.set k { s with lens:=s.lens.set j 0,ptrs:=s.ptrs.set j 0 } }:=by simpa only [List.set_set] using s2.1
 have S2:=zaa s3.drew
 have S3:=zaa (below_drewN (s1.2.trans s2.2) 1)
 have bs2:=zaa (((heap_setCell_other (w2.setCell ⟨gl,j,none⟩ (.int .i64 0)) ⟨gp,j,none⟩ w.heap.size (.int .i64 0) (by simpa using m2)).trans (heap_setCell_other w2 ⟨gl,j,none⟩ w.heap.size (.int .i64 0) (by simpa using m1))).trans bn2.out)
 clear s1 s2 s3
 generalize s.lens[j]?.getD 0=o3 at c1
 generalize s.ptrs[j]?.getD 0=o4 at d1
 go_cut [4] (fun q wx=>q=.pointer (some ⟨gs,k*6,none⟩)∧Hid (VarW wx base B S { D with spans:=D.spans.set k { s with lens:=s.lens.set j 0,ptrs:=s.ptrs.set j 0 } })∧Hid (Below base w2 wx)∧Hid (wx.heap[w.heap.size]?=some (.cells #[.int .i64 k,.int .i64 j] 58 (0,0))))
 case first =>
  go_region
  all_goals go_wp2_with fail
  all_goals go_meet
  all_goals exact ⟨rfl,S2,S3,bs2⟩
 case rest =>
  obtain ⟨rfl,hv3,hb3,bn3⟩:=hcut
  clear q1 x2 x4 x5 c1 d1 c2 d2 f2 S2 S3 bs2
  have q1:=Z0 bn3.out 1 _ rfl
  have hk3:=zaa (zhb (t:=({ s with lens:=s.lens.set j 0,ptrs:=s.ptrs.set j 0 }:Y3)) hk'.out)
  have hgs3:=zaa (show S.vs=.slice (some ⟨gs,0,none⟩) (D.spans.set k { s with lens:=s.lens.set j 0,ptrs:=s.ptrs.set j 0 }).length cs by rw [List.length_set];exact hgs'.out)
  obtain ⟨_,_,x2,_,_,_⟩:=hv3.out.six hgs3.out hk3.out hp'.out
  have f2:=hv3.out.frzS hgs3.out (k*6+2)
  have s1:=hv3.out.mark hgs3.out k _ p (bits .andNot .i64 s.mark (2 ^ j)) hk3.out hp'.out
  have s2:VarW (wc.setCell ⟨gs,k*6+2,none⟩ (.int .i64 (bits .andNot .i64 s.mark (2 ^ j)))) base B S { D with spans:=D.spans.set k (zfq s j) }:=by simpa only [List.set_set,zfq] using s1.1
  have S2:=zaa s2.drew
  have S3:=zaa (below_drewN (hb3.out.trans s1.2) 1)
  have hmb:=zaa (fun w=>zhw j (by omega) w)
  clear s1 s2
  dsimp only at x2
  go_upto_region 4 with fail
  go_cut [4] (fun q wx=>q=.pointer (some ⟨gs,k*6,none⟩)∧Hid (VarW wx base B S { D with spans:=D.spans.set k (zfq s j) })∧Hid (Below base w2 wx))
  case first =>
   go_region_with (first
    | (go_at_call 112;refine (hmb.out _).mono ?_;rintro e w' ⟨rfl,rfl⟩))
   all_goals go_wp2_with fail
   all_goals go_meet
   all_goals exact ⟨rfl,S2,S3⟩
  case rest =>
   obtain ⟨rfl,hv4,hb4⟩:=hcut
   clear q1 x2 f2 S2 S3
   have hA3:A<D.words.length:=by omega
   have hwc1:=hwc.1
   have hwc2:=hwc.2
   have g2:=hv4.out.cell 2 (.slice (some ⟨gw,0,none⟩) D.words.length cw) (by rw [← hgw'.out];rfl)
   have hsl:=zzd (g:=gw) (n:=D.words.length) (c:=cw) hA3 hb2 hwc1 ((A:Int)+(z:Int)) rfl
   have hrw:=hv4.out.own.words
   rw [hgw'.out] at hrw
   have hcl:∀ ty,(Builtin.clear_ #[23] ty #[.slice (some ⟨gw,A,none⟩) z (cw-A)]).run Tryz.prog wc=.ok (.tuple #[]) (wc.setCells gw A (List.replicate z (.int .i64 0))):=fun ty =>
    Lib.run_clear_slice wc 23 3 ty (.int .i64 0) Tryz.underlying23 zeroInt rfl rfl gw A z _ (by omega) (fun i hi=>by rw [hrw.cellAt (A+i) (by show A+i<D.words.length*1;omega)];simp;omega) (fun i hi=>hrw.frozenAt (A+i))
   have hz5:=hv4.out.zero (g:=gw) (cap:=cw) hgw'.out A z
   have hv5:=zaa hz5.1
   have hb5:=zaa (hb4.out.trans hz5.2)
   have hso:=zaa (soil_any base B S { D with words:=zjp D.words A z,spans:=D.spans.set k (zfq s j) } (A:Int) (z:Int) (by omega) (by omega) (by omega) (by omega) hdd _ hv5.out)
   have hA9:(A:Int)≤(A:Int)+(z:Int):=by omega
   clear hrw hz5 hwc
   go_wp2_with fail
   refine hso.out.mono ?_
   rintro e w6 ⟨⟨v,rfl⟩,hv6,hb6⟩
   have hv6':=zaa (show VarW w6 base B S (zkc D k s j) from by
    unfold zkc
    rw [hA'.out,hz'.out,Int.toNat_natCast,Int.toNat_natCast]
    exact hv6)
   have hb7:=zaa (b0.out.trans ((hx2.out.mono (by have:=b0.out.size;have:=hle.out;have:=hlt.out;omega)).trans (hb5.out.trans hb6)))
   clear hv6 hb6 g2 hcl hsl
   go_wp2_with fail
   go_end0
   exact ⟨⟨_,rfl⟩,hv6'.out,hb7.out⟩
theorem wp_full {P:Program} {w:World} {o:Oper} {a:Act} {K:Act→World→Prop} {Q:Exit→Act→World→Prop} (s x:Operand) (t:TypeId)
  (ho:o.op=.call { callee:=.builtin .append,args:=#[s,x],argTypes:=#[t,t] })
  (e:TypeId) (z:Value) (size bytes:Nat) (ht:P.underlying t=some (.slice e)) (hinfo:(P.info? e).map (fun i=>(i.zero,i.size,i.bytes))=some (some z,size,bytes)) (hzs:z.cells.size=size) (hsz:0<size)
  (A1:Option Addr) (k:Nat) (olds:List Value) (hs:a.eval s=.slice A1 k k) (h1:N1 w A1 k size olds)
  (A2:Option Addr) (m c:Nat) (news:List Value) (hx:a.eval x=.slice A2 m c) (h2:N1 w A2 m size news)
  (h63:k+m≤maxLen) (hbytes:(k+m)*bytes≤140737488355328)
  (h0:m=0→K (a.put o.dst (.slice A1 k k)) w)
  (h:∀ v' w',0<m→w'.ownsRow w.heap.size e size v' (k+m) (olds ++ news)→w.grownBy w' none→K (a.put o.dst v') w'):o.wp P a w K Q:=by
 obtain ⟨i,hi,hz,hsize,hby⟩:=info_parts hinfo
 have fin:∀ v' w',(Builtin.append_ #[t,t] o.type #[.slice A1 k k,.slice A2 m c]).run P w=.ok v' w'→K (a.put o.dst v') w'→o.wp P a w K Q:=fun v' w' hrun hk=>by
  unfold Oper.wp execOp
  simp only [ho,resolve,invoke,builtin,Sem.run_bind,Sem.run_pure,Result.andThen_ok,List.map_toArray,List.map_cons,List.map_nil,hs,hx,hrun]
  exact hk
 rcases Nat.eq_zero_or_pos m with hm | hm
 ·subst hm
  refine fin _ _ ?_ (h0 rfl)
  cases A2 with
  | none=>cases A1 <;> simp [Builtin.append_,run_underlying ht,sizeOf,typeInfo,hi,Builtin.lenOf,Builtin.firstCells,storeCells]
  | some a2 =>
   have hf:=run_firstCells_some (P:=P) w i.size 0 a2 0 c [] (by simp) (fun j u hu=>by simp at hu)
   cases A1 <;> simp [Builtin.append_,run_underlying ht,sizeOf,typeInfo,hi,Builtin.lenOf,hf,storeCells]
 ·have hn0:0<news.length:=by rw [h2.len];exact Nat.mul_pos hm hsz
  obtain ⟨a2,rfl⟩:∃ a2,A2=some a2:=by
   obtain ⟨a2,e2,_⟩:=h2.at_ 0 news[0] (List.getElem?_eq_getElem hn0)
   exact ⟨a2,e2⟩
  have hc2:∀ j u,news[j]?=some u→w.cell? (a2.add j)=some u:=fun j u hu=>by
   obtain ⟨b,eb,hc⟩:=h2.at_ j u hu
   cases eb
   exact hc
  cases A1 with
  | some b =>
   have hc1:∀ j u,olds[j]?=some u→w.cell? (b.add j)=some u:=fun j u hu=>by
    obtain ⟨b',eb,hc⟩:=h1.at_ j u hu
    cases eb
    exact hc
   obtain ⟨v',w',hrun,r1,r2⟩:=run_append_arg_grows (P:=P) w t o.type e i z size bytes ht hi hz hsize hby hzs hsz b k k olds h1.len hc1 a2 m c news h2.len hc2 (by omega) h63 hbytes
   exact fin _ _ hrun (h v' w' hm r1 r2)
  | none =>
   have ho0:olds=[]:=by
    rcases olds with _ | ⟨u,l⟩
    ·rfl
    ·obtain ⟨_,eb,_⟩:=h1.at_ 0 u rfl
     cases eb
   subst ho0
   have hk0:k=0:=by
    have:=h1.len
    rcases Nat.eq_zero_or_pos k with h0 | h0
    ·exact h0
    ·have:=Nat.mul_pos h0 hsz
     simp at *
     omega
   subst hk0
   obtain ⟨v',w',hrun,r1,r2,_⟩:=run_append_own (P:=P) w w.heap.size t o.type e i z size bytes ht hi hz hsize hby hzs hsz (.slice none 0 0) 0 [] (World.ownsRow_nil w _ e size) a2 m c news h2.len hc2 h2.one h63 hbytes (Nat.le_refl _)
   exact fin _ _ hrun (h v' w' hm r1 (by simpa [Value.ownBlock] using r2))
theorem zrr {P:Program} {w:World} {ops:Array Oper} {rest:List Oper} {o:Oper} {a:Act} {Q:Exit→Act→World→Prop} (hgd:o.guard=none) (s x:Operand) (t:TypeId)
  (ho:o.op=.call { callee:=.builtin .append,args:=#[s,x],argTypes:=#[t,t] })
  (e:TypeId) (z:Value) (size bytes:Nat) (ht:P.underlying t=some (.slice e)) (hinfo:(P.info? e).map (fun i=>(i.zero,i.size,i.bytes))=some (some z,size,bytes)) (hzs:z.cells.size=size) (hsz:0<size)
  (A1:Option Addr) (k:Nat) (olds:List Value) (hs:a.eval s=.slice A1 k k) (h1:N1 w A1 k size olds)
  (A2:Option Addr) (m c:Nat) (news:List Value) (hx:a.eval x=.slice A2 m c) (h2:N1 w A2 m size news)
  (h63:k+m≤maxLen) (hbytes:(k+m)*bytes≤140737488355328)
  (h0:m=0→wpList P ops Q rest (a.put o.dst (.slice A1 k k)) w)
  (h:∀ v' w',0<m→w'.ownsRow w.heap.size e size v' (k+m) (olds ++ news)→w.grownBy w' none→wpList P ops Q rest (a.put o.dst v') w'):wpList P ops Q (o :: rest) a w :=
 wpList_plain hgd fun _ hK=>wp_full s x t ho e z size bytes ht hinfo hzs hsz A1 k olds hs h1 A2 m c news hx h2 h63 hbytes (fun hm=>hK _ _ (h0 hm)) fun v' w' h3 h4 h5=>hK _ _ (h v' w' h3 h4 h5)
theorem N1.drew {w:World} {A:Option Addr} {m size:Nat} {news:List Value} (h:N1 w A m size news):N1 w.drew A m size news:=h.below (below_drewN (Below.refl _ _) 1)
theorem zyj {w:World} {base n c:Nat} {A:Option Addr} {xs:List Value} (h:w.ownsRow base 97 6 (.slice A n c) n xs) (h1:∀ u,u ∈ xs→u.oneCell'=true):N1 w A n 6 xs:=by
 rcases h.2 with ⟨he,h0⟩ | ⟨g,cap,cur,he,_⟩
 ·obtain ⟨rfl,rfl,rfl⟩:A=none∧n=0∧c=0:=by simpa using he
  obtain rfl:xs=[]:=List.length_eq_zero_iff.1 (by simpa using h.1)
  exact N1.none _ _ _
 ·obtain ⟨rfl,rfl⟩:A=some ⟨g,0,none⟩∧c=cap:=by simpa using he
  refine ⟨h.1,fun j u hu=>⟨_,rfl,?_⟩,h1⟩
  have hl:=(List.getElem?_eq_some_iff.1 hu).1
  rw [show (⟨g,0,none⟩:Addr).add j=⟨g,j,none⟩ by rw [Addr.add_lit,Nat.zero_add],h.cellAt j (by have:=h.1;omega)]
  exact hu
theorem znb (A:Option Addr) (n c k:Nat) (xs:List Value) (hn:n≤c) (hc:c≤maxLen) (hn2:n≤1000) (hk:k<n) (w:World) (h:N1 w A n 6 xs) :
  Calls Tryz.prog 203 #[.slice A n c,.int .i64 k] w fun e w'=>∃ v,e=.returned v∧w'.ownsRow w.heap.size 97 6 v (k+(n-(k+1))) (xs.take (k*6) ++ xs.drop ((k+1)*6))∧Below w.heap.size w w':=by
 obtain ⟨A1,hs1,sr1⟩:=cut_to3 h (show k≤n by omega) hn
 obtain ⟨A2,hs2,sr2⟩:=zuc h (show k+1≤n by omega) hn ((k:Int)+1) (by omega)
 have sr1:=zaa sr1.drew
 have sr2:=zaa sr2.drew
 have hone:=zaa (show ∀ u,u ∈ xs.take (k*6) ++ xs.drop ((k+1)*6)→u.oneCell'=true from fun u hu=>(List.mem_append.1 hu).elim (fun hu=>h.one u (List.mem_of_mem_take hu)) fun hu=>h.one u (List.mem_of_mem_drop hu))
 have hw1:IntKind.i64.wrap ((k:Int)+1)=(k:Int)+1:=IntWalk.i64_in _ (by omega)
 have hk1:k≤1000:=by omega
 have hkm:k+(n-(k+1))≤1000:=by omega
 have hlm:=zaa (fun A n c news hs w h=>zme A n c news hs w h)
 have hd:=zaa (show Below w.heap.size w w.drew from below_drewN (Below.refl _ _) 1)
 have hdz:=zaa (show w.drew.heap.size=w.heap.size from rfl)
 have hk':=zaa hk
 have hn':=zaa hn
 have hc':=zaa hc
 clear h hk hn hc
 go_enter Tryz.func203,Tryz.ntmps203
 go_wp2_with fail
 go_still_tail 8,(by kernel_rfl)
 change wpList _ _ _ _ _ w.drew
 generalize w.drew=W at *
 refine zrr rfl (.tmp 8) (.tmp 12) 25 rfl 97 (.agg #[.int .i64 0,.int .i64 0,.int .i64 0,.bool false,.slice none 0 0,.slice none 0 0]) 6 80 Tryz.underlying25 zfj (by rfl) (by decide) A1 k (xs.take (k*6)) rfl sr1.out A2 (n-(k+1)) (c-(k+1)) (xs.drop ((k+1)*6)) rfl sr2.out (by unfold maxLen;omega) (by omega) ?_ ?_
 ·intro hm
  have hsrc:=zaa (show N1 W A1 k 6 (xs.take (k*6) ++ xs.drop ((k+1)*6)) from by
   have e:xs.drop ((k+1)*6)=[]:=List.length_eq_zero_iff.1 (by have:=sr2.out.len;rw [hm] at this;simpa using this)
   rw [e,List.append_nil]
   exact sr1.out)
  have hm':=zaa hm
  clear hm
  go_wp2_with fail
  refine (hlm.out A1 k k _ (by omega) W hsrc.out).mono ?_
  rintro e w2 ⟨v,rfl,hr,hb⟩
  have hr':=zaa hr
  have hb':=zaa hb
  clear hr hb
  go_wp2_with fail
  go_ret
  exact ⟨v,rfl,by rw [hm'.out,Nat.add_zero,← hdz.out];exact hr'.out,hd.out.trans (hb'.out.mono (by rw [hdz.out];exact Nat.le_refl _))⟩
 ·intro v' w' hm hr1 hg
  obtain ⟨a3,c3,rfl⟩:=Y4 hr1
  have hsrc:=zaa (zyj hr1 hone.out)
  have hb1:=zaa (show Below W.heap.size W w' from (Below.refl _ _).grown hg (Nat.le_refl _) (fun q hq=>by cases hq))
  clear hr1 hg
  go_wp2_with fail
  refine (hlm.out a3 _ c3 _ (by omega) w' hsrc.out).mono ?_
  rintro e w2 ⟨v,rfl,hr,hb⟩
  have hr':=zaa hr
  have hb':=zaa hb
  clear hr hb
  go_wp2_with fail
  go_ret
  have z1:=hb1.out.size
  have z2:=hdz.out
  exact ⟨v,rfl,V8 hr'.out (by omega),hd.out.trans ((hb1.out.trans (hb'.out.mono z1)).mono (by omega))⟩
end Go.Proofs.YtilkidaihbhfpaaGreat

namespace Go.Proofs.YtilkidaihbhfpaaGreat
open Go.RowKit
set_option linter.unusedVariables false
set_option linter.unusedSimpArgs false
theorem zwg (s:Y3):J2 s s.lens.length=0↔zhk s:=by
 unfold J2 zhk
 rw [List.take_length,List.length_eq_zero_iff,List.filter_eq_nil_iff]
 constructor
 ·intro h i hi h0
  rw [List.getElem?_eq_getElem hi] at h0
  exact absurd (by simpa using h0) (h s.lens[i] (List.getElem_mem hi))
 ·intro h x hx hd
  obtain ⟨i,hi,rfl⟩:=List.mem_iff_getElem.1 hx
  refine h i hi ?_
  rw [List.getElem?_eq_getElem hi]
  simpa using hd
theorem VarW.erase2 {w:World} {base B n0:Nat} {S:Y2} {D:WD} (h:VarW w base B S D) (hB0:B<n0) {v:Value} {k:Nat} (hk:k<D.spans.length)
  (hr:w.ownsRow n0 97 6 v (k+(D.spans.length-(k+1))) ((U9 D.spans S.sv).take (k*6) ++ (U9 D.spans S.sv).drop ((k+1)*6))) :
  (∃ S',VarW (w.setCell ⟨B,4,none⟩ v) base B S' { D with spans:=D.spans.eraseIdx k })∧Below base w (w.setCell ⟨B,4,none⟩ v):=by
 have hle:=h.le
 have hS:OwnS w base v (D.spans.eraseIdx k) (S.sv.eraseIdx k):=OwnS.erase h.own.inner h.own.svl k hk (by omega) hr
 have hnew:=h.newSpans hS ?_ ?_
 ·exact ⟨⟨_,hnew.1⟩,hnew.2⟩
 ·have hsub:(({ S with vs:=v,sv:=S.sv.eraseIdx k }:Y2).ints).Sublist S.ints:=by
   show ((S.vw :: (X7 (S.sv.eraseIdx k))) ++ S.mv ++ [S.vg]).Sublist ((S.vw :: X7 S.sv) ++ S.mv ++ [S.vg])
   exact (((zjd S.sv k).cons_cons _).append (List.Sublist.refl _)).append (List.Sublist.refl _)
  exact h.own.nodup.sublist (hsub.filterMap _)
 ·intro x hx
  rcases List.mem_cons.1 hx with rfl | hx
  ·intro e
   have:=(hr.lt B e).1
   omega
  ·intro e
   exact h.ne (List.mem_filterMap.2 ⟨x,by have:=(zjd S.sv k).subset hx;simp [Y2.all,this],e⟩)
theorem zvw (base B:Nat) (S:Y2) (D:WD) (k:Nat) (s:Y3) (hF:Z8 D) (hks:D.spans[k]?=some s) (w:World) (h:VarW w base B S D) :
  Calls Tryz.prog 201 #[.pointer (some ⟨B,0,none⟩),.int .i64 k] w fun e w'=>e=.returned (.tuple #[])∧(∃ S' E,zfs D k s E∧VarW w' base B S' E)∧Below base w w':=by
 have h':=zaa h
 have hF':=zaa hF
 have hle:=zaa (Nat.le_of_lt (Nat.lt_of_le_of_lt h.le h.lt))
 have hks':=zaa hks
 have hkl0:=(List.getElem?_eq_some_iff.1 hks).1
 have hkl1:(k:Int)<(D.spans.length:Int):=by omega
 have hls:D.spans.length≤1000:=by have:=hF.spans;have:=hF.geo.2.2.2.2.1;omega
 have hn16:s.lens.length≤16:=by have A:=hF.span k s hks;have h1:=A.lens;have h2:=(E7 s.cls).2;omega
 obtain ⟨p,hp⟩:=h.svAt hks
 obtain ⟨gs,cs,hgs⟩:=h.headS (by omega)
 obtain ⟨al,cl,hp1⟩:=Y4 (h.own.inner k s p hks hp).1
 have g4:=h.cell 4 S.vs rfl
 rw [hgs] at g4
 have x4:=(h.six hgs hks hp).2.2.2.2.1
 rw [hp1] at x4
 have hp':=zaa hp
 have hgs':=zaa hgs
 have hp1':=zaa hp1
 clear h hF hks hp hgs hp1
 go_enter Tryz.func201,Tryz.ntmps201
 go_wp2_with fail
 go_loopw [19] (fun i wr=>∃ j:Nat,j≤s.lens.length∧i=.int .i64 j∧Hid (VarW wr base B S (U2 D k j))∧Hid (Below base w wr)) (fun i _=>s.lens.length-(Go.RowKit.intOf i).toNat)
 case atStart=>exact ⟨0,Nat.zero_le _,rfl,h',zaa (Below.refl _ _)⟩
 case round =>
  clear g4 x4
  obtain ⟨j,hj,rfl,hv,hB⟩:=hrel
  have hlike:=zaa (zgb (D:=D) hks'.out j)
  obtain ⟨t,ht,tpg,tcl,tsw,tll,tpl⟩:=hlike.out.here s hks'.out
  have hlen:=hlike.out.len
  have hFj:=zaa (zho hF'.out hks'.out hj)
  have ht':=zaa ht
  have hgs2:S.vs=.slice (some ⟨gs,0,none⟩) (U2 D k j).spans.length cs:=by rw [hlen];exact hgs'.out
  by_cases hjl:j<s.lens.length
  ·have hjl1:(j:Int)<(s.lens.length:Int):=by omega
   have hrow:=(hv.out.own.inner k t p ht hp'.out).1
   rw [hp1'.out,tll] at hrow
   obtain ⟨gl,cl',hgl⟩:∃ g c,(Value.slice al s.lens.length cl)=.slice (some ⟨g,0,none⟩) s.lens.length c:=by
    rcases hrow.2 with ⟨_,h0⟩ | ⟨g,cap,cur,e,_⟩
    ·omega
    ·exact ⟨g,cap,e⟩
   obtain ⟨rfl,rfl⟩:al=some ⟨gl,0,none⟩∧cl=cl':=by simpa using hgl
   have xj:=(Y7 (hv.out.own.inner k t p ht hp'.out).1 (g:=gl) (cap:=cl) (by rw [hp1'.out,tll]) j (by omega)).1
   have hm16:=zaa (zev.mk16 (j:=j) hFj.out ht (by omega))
   have hmk:=zaa (fun (w':World) (hb:Below wr.heap.size wr w')=>zfe B _ (U2 D k j) k j t ht hm16.out w' (hv.out.below hb).rd (hv.out.below hb).boxW)
   have hgive:=zaa (fun (w':World) (hb:Below wr.heap.size wr w')=>zpw base B S (U2 D k j) k j t ht (hFj.out.slotIn ht (by omega)) w' (hv.out.below hb))
   have hs1:=zaa (show 0<t.lens[j]?.getD 0→¬ V2 (U2 D k j) k j→U2 D k (j+1)=zkc (U2 D k j) k t j from fun h1 h2=>zgx ht h1 fun hb=>h2 ((V2.iff ht).2 hb))
   have hs2:=zaa (show ¬ (0<t.lens[j]?.getD 0∧¬ V2 (U2 D k j) k j)→U2 D k (j+1)=U2 D k j from fun h=>zil ht fun h2=>h ⟨h2.1,fun hb=>h2.2 ((V2.iff ht).1 hb)⟩)
   have bb:=zaa (Z5 wr (.cells #[.int .i64 k,.int .i64 j] 58))
   have bx:=Y6 wr (.cells #[.int .i64 k,.int .i64 j] 58)
   have q0:=Z0 bx 0 (.int .i64 k) rfl
   have q1:=Z0 bx 1 (.int .i64 j) rfl
   have hBb:=zaa (show Below base w (wr.alloc (.cells #[.int .i64 k,.int .i64 j] 58)) from hB.out.trans (bb.out.mono (by have:=hB.out.size;have:=hle.out;omega)))
   clear ht tpg tcl tsw tll tpl hlen hgs2 hrow bx hgl
   generalize hE2:U2 D k (j+1)=E2 at hs1 hs2
   have hE2':=zaa hE2
   clear hE2
   generalize hn:t.lens[j]?.getD 0=n at *
   have hn':=zaa hn
   clear hn
   generalize U2 D k j=E at *
   by_cases c:0<n
   ·have d1:decide (0<n)=true:=decide_eq_true c
    have hc:=zaa c
    clear c
    go_wp2_with fail
    refine (hmk.out _ bb.out).mono ?_
    rintro e w2 ⟨hq,b2⟩
    replace hq:=hq.elim
    have hb2:=zaa (Z4 bb.out b2)
    have hv2:=zaa (hv.out.below hb2.out)
    have hB2:=zaa (hBb.out.trans (b2.mono (by have:=hBb.out.size;have:=hle.out;omega)))
    have q0:=Z7 b2 q0
    have q1:=Z7 b2 q1
    clear b2 xj
    rcases hq with ⟨hq,rfl⟩ | ⟨hq,rfl⟩
    ·have hE:=zaa (hs2.out fun h=>h.2 hq)
     have hv3:=zaa (show VarW w2 base B S (U2 D k (j+1)) by rw [hE2'.out,hE.out];exact hv2.out)
     clear hq hs1 hs2 hgive hmk
     go_wp2_with fail
     go_roundw
     case rel=>exact ⟨j+1,by omega,by go_num,hv3,hB2⟩
     case measure=>simp [Go.RowKit.intOf];omega
    ·have hE:=zaa (hs1.out hc.out hq)
     clear hq hs1 hs2 hmk
     go_wp2_with fail
     refine (hgive.out w2 hb2.out).mono ?_
     rintro e w3 ⟨⟨_,rfl⟩,hv3,b3⟩
     have hv3':=zaa (show VarW w3 base B S (U2 D k (j+1)) by rw [hE2'.out,hE.out];exact hv3)
     have hB3:=zaa (hB2.out.trans b3)
     clear hv3 b3 hgive q0 q1
     go_wp2_with fail
     go_roundw
     case rel=>exact ⟨j+1,by omega,by go_num,hv3',hB3⟩
     case measure=>simp [Go.RowKit.intOf];omega
   ·have d1:decide (0<n)=false:=decide_eq_false c
    have hE:=zaa (hs2.out fun h=>c h.1)
    have hv3:=zaa (show VarW (wr.alloc (.cells #[.int .i64 k,.int .i64 j] 58)) base B S (U2 D k (j+1)) by rw [hE2'.out,hE.out];exact hv.out.below bb.out)
    clear c hs1 hs2 hgive hmk
    go_wp2_with fail
    go_roundw
    case rel=>exact ⟨j+1,by omega,by go_num,hv3,hBb⟩
    case measure=>simp [Go.RowKit.intOf];omega
  obtain rfl:j=s.lens.length:=by omega
  have hm:=hv.out.mark hgs2 k t p 0 ht hp'.out
  have hk2:=zaa (zhb (t:=({ t with mark:=0 }:Y3)) ht)
  have hgs3:S.vs=.slice (some ⟨gs,0,none⟩) ({ U2 D k s.lens.length with spans:=(U2 D k s.lens.length).spans.set k { t with mark:=0 } }:WD).spans.length cs:=by rw [List.length_set];exact hgs2
  have hs:=hm.1.swept hgs3 k _ p true hk2.out hp'.out
  have hv3:=zaa (show VarW _ base B S (P8 (U2 D k s.lens.length) k t) from by simpa only [P8,offS,List.set_set] using hs.1)
  have hB3:=zaa ((hB.out.trans hm.2).trans hs.2)
  obtain ⟨x0,x1,x2,x3,x4,x5⟩:=hv.out.six hgs2 ht hp'.out
  have f2:=hv.out.frzS hgs2 (k*6+2)
  have f3:=hv.out.frzS hgs2 (k*6+3)
  have hks3:=zaa (show (P8 (U2 D k s.lens.length) k t).spans[k]?=some (offS t) from zhb ht)
  have hl3:=zaa (show (P8 (U2 D k s.lens.length) k t).spans.length=D.spans.length from by simp only [P8,List.length_set];exact hlen)
  have y1:=zaa (show zhk (offS t)→zfs D k s { P8 (U2 D k s.lens.length) k t with spans:=(P8 (U2 D k s.lens.length) k t).spans.eraseIdx k } from fun h=>⟨t,ht'.out,.inl ⟨h,rfl⟩⟩)
  have y2:=zaa (show ¬ zhk (offS t)→zfs D k s (P8 (U2 D k s.lens.length) k t) from fun h=>⟨t,ht'.out,.inr ⟨h,rfl⟩⟩)
  have hu16:(offS t).lens.length≤16:=by show t.lens.length≤16;omega
  clear hm hs ht hgs2 hgs3 tpg tcl tsw tpl hlen hlike hFj tll ht'
  go_upto_region 9 with fail
  generalize hwe:(wr.setCell ⟨gs,k*6+2,none⟩ (.int .i64 0)).setCell ⟨gs,k*6+3,none⟩ (.bool true)=w3 at *
  clear hwe x0 x1 x2 x3 x4 x5 f2 f3
  generalize offS t=t3 at *
  generalize P8 (U2 D k s.lens.length) k t=F at *
  have hgs3:S.vs=.slice (some ⟨gs,0,none⟩) F.spans.length cs:=by rw [hl3.out];exact hgs'.out
  have g4:=hv3.out.cell 4 S.vs rfl
  rw [hgs'.out] at g4
  have f4:=hv3.out.frz 4
  have hoS:=hv3.out.own.ownS
  rw [hgs3] at hoS
  have hsr:=zaa (zyk hoS)
  have hrs:=zaa (show zez w3 gs (k*6) t3 from by
   obtain ⟨x0,x1,x2,x3,x4,x5⟩:=hv3.out.six hgs3 hks3.out hp'.out
   have hi:=hv3.out.own.inner k t3 p hks3.out hp'.out
   exact ⟨_,_,x0,x1,x2,x3,x4,x5,Rd.of_owns hi.1,Rd.of_owns hi.2⟩)
  have hus:=zaa (zkk gs (k*6) t3 w3 hrs.out)
  have hei:=zaa (zwg t3)
  have hcl:=zlm t3 t3.lens.length
  have hwo:=zaa (znb (some ⟨gs,0,none⟩) F.spans.length cs k (U9 F.spans S.sv) hsr.out.2.1 hsr.out.2.2.1 (by rw [hl3.out];exact hls) (by rw [hl3.out];exact hkl0) w3 hsr.out.2.2.2)
  rw [hl3.out] at hwo
  clear hgs3 hoS
  go_wp2_with fail
  refine hus.out.mono ?_
  rintro e w' ⟨rfl,rfl⟩
  generalize J2 t3 t3.lens.length=u at *
  by_cases he:u=0
  ·have y:=zaa (y1.out (hei.out.1 he))
   have hu0:((u:Int) == 0)=true:=by rw [he];rfl
   clear he
   go_wp2_with fail
   refine hwo.out.mono ?_
   rintro e w5 ⟨v5,rfl,hr5,b5⟩
   have hv5:=hv3.out.below b5
   have hx5:=hv5.erase2 (n0:=w3.heap.size) (k:=k) hv3.out.lt (by rw [hl3.out];exact hkl0) (by rw [hl3.out];exact hr5)
   obtain ⟨a5,c5,rfl⟩:=Y4 hr5
   have g45:=Z7 b5 g4
   have f45:w5.frozen? ⟨B,4,none⟩=false:=(b5.frozen (p:=⟨B,4,none⟩) hv3.out.lt).trans f4
   obtain ⟨⟨S5,hv6⟩,b6⟩:=hx5
   have z:=zaa (show ∃ S' E,zfs D k s E∧VarW _ base B S' E from ⟨S5,_,y.out,hv6⟩)
   have hB6:=zaa ((hB3.out.trans (b5.mono (by have:=hB3.out.size;have:=hle.out;omega))).trans b6)
   clear hr5 hv5 b5 b6 hv6 f4 g4
   go_wp2_with fail
   go_end0
   exact ⟨rfl,z.out,hB6.out⟩
  ·have y:=zaa (y2.out fun h=>he (hei.out.2 h))
   have hu0:((u:Int) == 0)=false:=by rw [beq_eq_false_iff_ne];omega
   have z:=zaa (show ∃ S' E,zfs D k s E∧VarW w3 base B S' E from ⟨S,_,y.out,hv3.out⟩)
   clear he
   go_wp2_with fail
   go_end0
   exact ⟨rfl,z.out,hB3.out⟩
theorem zfm {w:World} {base size n:Nat} {e:TypeId} {v:Value} {xs:List Value} (h:w.ownsRow base e size v n xs) {q:Nat} (hq:v.ownBlock=some q):∃ cur,w.heap[q]?=some (.cells cur e (0,0)):=by
 rcases h.2 with ⟨rfl,_⟩ | ⟨g,cap,cur,rfl,_,hh,_⟩
 ·cases hq
 ·cases hq
  exact ⟨cur,hh⟩
theorem OwnW.cells {w:World} {base:Nat} {S:Y2} {D:WD} (h:OwnW w base S D) {q:Nat} (hq:q ∈ blks S.all):∃ cur e,w.heap[q]?=some (.cells cur e (0,0)):=by
 obtain ⟨x,hx,e⟩:=List.mem_filterMap.1 hq
 simp only [Y2.all,List.mem_append,List.mem_cons,List.not_mem_nil,or_false] at hx
 rcases hx with (((rfl | rfl) | (rfl | hx)) | (rfl | hx)) | rfl
 ·exact (zfm h.words e).imp fun _ h=>⟨_,h⟩
 ·exact (zfm h.dirty e).imp fun _ h=>⟨_,h⟩
 ·exact (zfm h.spans e).imp fun _ h=>⟨_,h⟩
 ·obtain ⟨p,hp,hm⟩:=List.mem_flatMap.1 hx
  obtain ⟨i,hi⟩:=List.mem_iff_getElem?.1 hp
  have hl:=(List.getElem?_eq_some_iff.1 hi).1
  have hs:D.spans[i]?=some (D.spans[i]'(by have:=h.svl;omega)):=List.getElem?_eq_getElem _
  have hi2:=h.inner i _ p hs hi
  simp only [List.mem_cons,List.not_mem_nil,or_false] at hm
  rcases hm with rfl | rfl
  ·exact (zfm hi2.1 e).imp fun _ h=>⟨_,h⟩
  ·exact (zfm hi2.2 e).imp fun _ h=>⟨_,h⟩
 ·exact (zfm h.muts e).imp fun _ h=>⟨_,h⟩
 ·obtain ⟨i,hi⟩:=List.mem_iff_getElem?.1 hx
  have hl:=(List.getElem?_eq_some_iff.1 hi).1
  have hs:D.muts[i]?=some (D.muts[i]'(by have:=h.mvl;omega)):=List.getElem?_eq_getElem _
  exact (zfm (h.innerM i _ x hs hi) e).imp fun _ h=>⟨_,h⟩
 ·exact (zfm h.grey e).imp fun _ h=>⟨_,h⟩
theorem M4.turn {D E:WD} {w w':World} {V B g n base:Nat} {M:DataW Unit} {S S':Y2} (hv:M4 D w V B g n M) (h:VarW w base B S D) (hs:F6 w w' B S S') (hO:L2 D E) (hV:V ∉ B :: blks S.all):M4 E w' V B g n M∧V ∉ B :: blks S'.all:=by
 have hlt:V<w.heap.size:=(Array.getElem?_eq_some_iff.1 hv.box).1
 obtain ⟨es,clock,hb,F,hsz,hD⟩:=hv.own
 have hgl:g<w.heap.size:=(Array.getElem?_eq_some_iff.1 hb).1
 have hg:g ∉ B :: blks S.all:=fun hm=>by
  rcases List.mem_cons.1 hm with rfl | hm
  ·have:=h.box.symm.trans hb
   simp at this
  ·obtain ⟨cur,e,hc⟩:=h.own.cells hm
   have:=hc.symm.trans hb
   simp at this
 refine ⟨⟨(hs.chg.block V hlt hV).trans hv.box,⟨es,clock,(hs.chg.block g hgl hg).trans hb,F,hsz,hD⟩,⟨hv.is.isMap,fun a=>?_,fun a k j z ha ho=>hv.is.is a k j z (by rw [← hO.len];exact ha) (hO.obj_iff.1 ho)⟩⟩,fun hm=>?_⟩
 ·rw [hv.is.has a,hO.len]
  exact ⟨fun ⟨k,j,h1,h2⟩=>⟨k,j,h1,hO.obj h2⟩,fun ⟨k,j,h1,h2⟩=>⟨k,j,h1,hO.obj_iff.1 h2⟩⟩
 ·obtain ⟨v,rfl,hvg⟩:=hs.vg
  rcases List.mem_cons.1 hm with rfl | hm
  ·exact hV (by simp)
  ·rcases Y2.all_vg hm with hm | hm
   ·exact hV (List.mem_cons_of_mem _ hm)
   ·rcases hvg V hm with hm | hm
    ·exact hV (List.mem_cons_of_mem _ (List.mem_filterMap.2 ⟨S.vg,by simp [Y2.all],hm⟩))
    ·omega
theorem zui {D:WD} (hF:Z8 D) {k j:Nat}:¬ U3 D 0 k j:=fun h=>by
 have:=h.range hF
 have:=hF.geo.1
 omega
theorem V1.zero {D E:WD} (hF:Z8 D) (h:V1 D 0 E):E=D:=by
 rcases h with ⟨k,j,s,_,ho,_⟩ | ⟨_,rfl⟩
 ·exact absurd ho (zui hF)
 ·rfl
theorem zxn {D E:WD} {L:List Int} (h:Q7 D L E) (hF:Z8 D):Q7 D (nz L) E:=by
 induction h with
 | nil D=>exact .nil D
 | @cons D E F a L h1 h2 ih =>
  by_cases e:a=0
  ·subst e
   obtain rfl:=h1.zero hF
   have:=ih hF
   unfold nz at this ⊢
   simpa using this
  ·have:=ih (h1.form hF)
   have e2:nz (a :: L)=a :: nz L:=by unfold nz;simp [e]
   rw [e2]
   exact .cons h1 this
structure IAll (base B V g n:Nat) (M:DataW Unit) (S:Y2) (D:WD) (w:World) (L:List Int) (wr:World) (S':Y2) (E:WD):Prop where
 st:zmq base B S D w L wr S' E
 vw:M4 E wr V B g n M
 ne:V ∉ B :: blks S'.all
theorem zkz (base B V g n:Nat) (M:DataW Unit) (S:Y2) (D:WD) (Z:List Int) (a:Option Addr) (c:Nat) (hG:U1 D) (hZ:AllI Z) (hzl:Z.length≤1000) (w:World) (h:VarW w base B S D) (hv:M4 D w V B g n M) (hVB:V ∉ B :: blks S.all)
  (hrd:∀ (w':World) (S':Y2) (E:WD),VarW w' base B S' E→F6 w w' B S S'→E.muts=D.muts→Rd w' (.slice a Z.length c) Z) :
  Calls Tryz.prog 196 #[.pointer (some ⟨V,0,none⟩),.slice a Z.length c] w fun e w'=>e=.returned (.tuple #[])∧(∃ S' E,zmq base B S D w Z w' S' E):=by
 have hG':=zaa hG
 have hZ':=zaa hZ
 have hrd':=zaa hrd
 have st0:=zaa (show IAll base B V g n M S D w [] w S D from ⟨⟨.nil _,h,.of_below _ _ (Below.refl _ _),Below.refl _ _⟩,hv,hVB⟩)
 clear hG hZ h hv hVB hrd
 go_enter Tryz.func196,Tryz.ntmps196
 go_wp2_with fail
 go_loopw [8] (fun i wr=>∃ (k:Nat) (S':Y2) (E:WD),k≤Z.length∧i=.int .i64 k∧Hid (IAll base B V g n M S D w (Z.take k) wr S' E)) (fun i _=>Z.length-(Go.RowKit.intOf i).toNat)
 case atStart=>exact ⟨0,S,D,Nat.zero_le _,rfl,st0⟩
 case round =>
  obtain ⟨k,S',E,hk,rfl,st⟩:=hrel
  have hgo:=zaa (st.out.st.is.going (fun x hx=>hZ'.out x (List.mem_of_mem_take hx)) hG'.out)
  by_cases hlt:k<Z.length
  ·obtain ⟨a',c',he,hll,xl⟩:=hrd'.out wr S' E st.out.st.var st.out.st.sh hgo.out.2.2.1
   obtain ⟨b,o,rfl,xj⟩:=xl k hlt
   obtain ⟨rfl,rfl⟩:some (⟨b,o,none⟩:Addr)=a∧c'=c:=by simp at he;exact ⟨he.1.symm,he.2.symm⟩
   have hlt1:(k:Int)<(Z.length:Int):=by omega
   have hxk:Z[k]?.getD 0=Z[k]:=by simp [hlt]
   have nx:=zaa (show Z.take (k+1)=Z.take k ++ [Z[k]?.getD 0] by rw [hxk];exact List.take_succ_eq_append_getElem hlt)
   have hcall:=zaa (zow base B V g n M S' E (Z[k]?.getD 0) hgo.out.1.form (hZ'.out _ (by rw [hxk];exact List.getElem_mem hlt)) (by have:=hgo.out.1.greyLen;omega) wr st.out.st.var st.out.vw st.out.ne)
   clear he xl hll hxk
   generalize Z[k]?.getD 0=x at *
   go_wp2_with fail
   refine hcall.out.mono ?_
   rintro e w2 ⟨rfl,⟨S2,E2,i2,v2,s2⟩,b2⟩
   have tn:=st.out.vw.turn st.out.st.var s2 i2.same st.out.ne
   have st2:=zaa (show IAll base B V g n M S D w (Z.take (k+1)) w2 S2 E2 by rw [nx.out];exact ⟨st.out.st.next i2 v2 s2 b2,tn.1,tn.2⟩)
   clear i2 v2 s2 b2 hcall st xj tn
   go_wp2_with fail
   go_roundw
   case rel=>exact ⟨k+1,S2,E2,by omega,by go_num,st2⟩
   case measure=>simp [Go.RowKit.intOf];omega
  ·obtain rfl:k=Z.length:=by omega
   have st2:=zaa (show zmq base B S D w Z wr S' E by have:=st.out.st;rwa [List.take_length] at this)
   clear st hgo
   go_wp2_with fail
   go_end0
   exact ⟨rfl,S',E,st2.out⟩
theorem zyz (base B V g n:Nat) (M:DataW Unit) (S:Y2) (D:WD) (G:List Int) (a:Int) (k j:Nat) (s:Y3) (hG:U1 D) (hg:D.grey=G ++ [a]) (ho:U3 D a k j) (hks:D.spans[k]?=some s) (w:World) (h:VarW w base B S D) (hv:M4 D w V B g n M) (hVB:V ∉ B :: blks S.all) :
  Calls Tryz.prog 193 #[.pointer (some ⟨V,0,none⟩)] w fun e w'=>e=.returned (.tuple #[])∧(∃ S' E,Q7 { D with grey:=G } (nz (ptrW D s j)) E∧VarW w' base B S' E)∧Below base w w':=by
 have h':=zaa h
 have hG':=zaa hG
 have hle:=zaa (Nat.le_of_lt (Nat.lt_of_le_of_lt h.le h.lt))
 have c0:=Z0 hv.box 0 (.pointer (some ⟨B,0,none⟩)) rfl
 obtain ⟨ag,cg,hvg⟩:=Y4 h.own.grey
 have g8:=h.cell 8 S.vg rfl
 rw [hvg] at g8
 have f8:=h.frz 8
 have hm:D.grey.length=G.length+1:=by rw [hg];simp
 have hgl:=hG.greyLen
 obtain ⟨gg,cg',hgg⟩:=N7 h.own.grey (by omega)
 obtain ⟨rfl,rfl⟩:ag=some ⟨gg,0,none⟩∧cg=cg':=by have:=hvg.symm.trans hgg;simpa using this
 have hcap:G.length+1≤cg:=by have hr:=h.own.grey;rw [hvg] at hr;have:=ztr hr;omega
 have hxa:=(Y7 h.own.grey hvg G.length (by omega)).1
 rw [show D.grey[G.length]?.getD 0=a by rw [hg];simp] at hxa
 have hVlt:V<w.heap.size:=(Array.getElem?_eq_some_iff.1 hv.box).1
 have v2:=h.cutGrey hg hvg
 have hsd:F6 w (w.setCell ⟨B,8,none⟩ (.slice (some ⟨gg,0,none⟩) G.length cg)) B S { S with vg:=.slice (some ⟨gg,0,none⟩) G.length cg } :=
  ⟨⟨_,rfl,fun q hq=>.inl (by rw [hvg];simpa [Value.ownBlock] using hq)⟩,Chg.of_grown (V5 w B 8 _) (by simp)⟩
 have hO:L2 D { D with grey:=G }:=⟨rfl,rfl,rfl,fun k s t h1 h2=>by rw [h1] at h2;cases h2;exact .refl _⟩
 have tn:=hv.turn h hsd hO hVB
 have hai:I64 a:=hG.ints.grey a (by rw [hg];simp)
 obtain ⟨s',hks2,hin,p0,p1⟩:=N0 hG.form ho
 rw [hks] at hks2
 cases hks2
 have hpl:=zaa (show (nz (ptrW D s j)).length≤16 from Nat.le_trans (List.length_filter_le _ _) (by unfold ptrW;rw [List.length_take];have:=(hin.bd).2.2.2.1;omega))
 have hcw:CapW (Y2.val { S with vg:=.slice (some ⟨gg,0,none⟩) G.length cg } { D with grey:=G }):=OwnW.capWords v2.1.own
 have hptr:=zaa (zkj V B g n M _ { D with grey:=G } (zgh hG.form G) a hai hcw _ v2.1.rd v2.1.boxW tn.1)
 have hPu:=zaa (show ∀ L,zth { D with grey:=G } a L→L=nz (ptrW D s j) from fun L hL=>by
  rcases hL with ⟨k',j',s',_,ho',hs',rfl⟩ | ⟨hn,_⟩
  ·obtain ⟨rfl,rfl⟩:=(hO.symm.obj ho').unique hG.form ho
   have hs2:D.spans[k']?=some s':=hs'
   rw [hks] at hs2
   cases hs2
   rfl
  ·exact absurd (hO.obj ho) (hn (zgh hG.form G) k j))
 have hgo:=zaa (show U1 { D with grey:=G } from ⟨zgh hG.form G,⟨⟨fun e=>hG.gc.1.1 (by rw [hg];simp),Y8.of hO (fun _ _ h=>h) (by have g2:=hG.gc.1.2;rw [hg] at g2;exact ⟨(List.nodup_append.1 g2.1).1,fun b hb=>g2.2 b (List.mem_append.2 (.inl hb))⟩)⟩,hG.gc.2.1,hG.gc.2.2⟩,⟨hG.ints.words,hG.ints.muts,fun x hx=>hG.ints.grey x (by rw [hg];exact List.mem_append.2 (.inl hx))⟩⟩)
 have hwi:=zaa (zpp (zqq hG.ints.words s j))
 have v2':=zaa v2.1
 have hB2:=zaa v2.2
 have tn':=zaa tn
 rw [hm] at g8
 have hgl':G.length≤1000:=by omega
 have hk1:(G.length:Int)<(G.length:Int)+1:=by omega
 have hk2:(G.length:Int)≤(cg:Int):=by omega
 have hc0:¬ cg=0:=by omega
 have hmi:(G.length:Int)+1-1=(G.length:Int):=by omega
 clear h hG hg ho hks hv hVB hvg hgg hm hgl hcap v2 hsd hO tn hai hin p0 p1 hcw
 go_enter Tryz.func193,Tryz.ntmps193
 go_wp2_with fail
 refine hptr.out.mono ?_
 rintro e w4 ⟨Z,u,hZ,rfl,hrow,b4⟩
 obtain rfl:=hPu.out Z hZ
 obtain ⟨au,cu,rfl⟩:=Y4 hrow
 have v4:=zaa (v2'.out.below b4)
 have hB4:=zaa (hB2.out.trans (b4.mono (by have:=hB2.out.size;have:=hle.out;omega)))
 have hsa:=zaa (zkz base B V g n M _ { D with grey:=G } (nz (ptrW D s j)) au cu hgo.out hwi.out (by have:=hpl.out;omega) w4 v4.out (tn'.out.1.below b4) tn'.out.2 fun w' S' E hv hs hm=>Rd.of_owns (hs.row hrow fun q hq hmem=>by
  have h1:=(hrow.lt q hq).1
  rcases List.mem_cons.1 hmem with rfl | hmem
  ·have:=v2'.out.lt
   omega
  ·have:=(v2'.out.own.lt q hmem).2
   omega))
 clear b4 hrow hptr hZ
 go_wp2_with fail
 refine hsa.out.mono ?_
 rintro e w5 ⟨rfl,S5,E5,st⟩
 have y:=zaa (show ∃ S' E,Q7 { D with grey:=G } (nz (ptrW D s j)) E∧VarW w5 base B S' E from ⟨S5,E5,st.is,st.var⟩)
 have b5:=zaa (hB4.out.trans st.bel)
 clear st hsa
 go_wp2_with fail
 go_end0
 exact ⟨rfl,y.out,b5.out⟩
end Go.Proofs.YtilkidaihbhfpaaGreat

namespace Go.Proofs.YtilkidaihbhfpaaGreat
open Go.RowKit
set_option linter.unusedVariables false
theorem zrh (s:Y3) (al:Option Addr) (cl:Nat) (ap:Option Addr) (cp:Nat) (w:World) :
  Calls Tryz.prog 200 #[.agg #[.int .i64 s.page,.int .i64 s.cls,.int .i64 s.mark,.bool s.swept,.slice al s.lens.length cl,.slice ap s.ptrs.length cp]] w fun e w'=>IsB (s.swept=false) e∧Below w.heap.size w w':=by
 have bb:=zaa (Z5 w (.cells #[.int .i64 s.page,.int .i64 s.cls,.int .i64 s.mark,.bool s.swept,.slice al s.lens.length cl,.slice ap s.ptrs.length cp] 97))
 have y:=zaa (show IsB (s.swept=false) (.returned (.bool (!s.swept))) from ⟨_,rfl,by simp⟩)
 go_enter Tryz.func200,Tryz.ntmps200
 go_wp2_with fail
 go_ret
 exact ⟨y.out,bb.out⟩
theorem zss (v:Value) (L:List Y3) (w:World) (hr:RdS w v L) :
  Calls Tryz.prog 164 #[v,.func (.func 200) #[] #[]] w fun e w'=>∃ r:Int,e=.returned (.int .i64 r)∧Hid (zex L (fun s=>s.swept=false) r)∧Below w.heap.size w w':=by
 have hr':=zaa hr
 obtain ⟨aS,cS,rfl,hl,_⟩:=hr
 unfold maxLen at hl
 go_enter Tryz.func164,Tryz.ntmps164
 go_wp2_with fail
 go_loopw [8] (fun i wr=>∃ k:Nat,k≤L.length∧i=.int .i64 k∧Hid (∀ q t,q<k→L[q]?=some t→¬ (fun s=>s.swept=false) t)∧Hid (Below w.heap.size w wr)) (fun i _=>L.length-(Go.RowKit.intOf i).toNat)
 case atStart=>exact ⟨0,Nat.zero_le _,rfl,zaa (fun q t h=>absurd h (by omega)),zaa (Below.refl _ _)⟩
 case round =>
  obtain ⟨k,hk,rfl,hno,hB⟩:=hrel
  by_cases hlt:k<L.length
  ·have hlt1:(k:Int)<(L.length:Int):=by omega
   obtain ⟨s,hks⟩:∃ s,L[k]?=some s:=⟨_,List.getElem?_eq_getElem hlt⟩
   obtain ⟨b1,o1,rfl,vl,vp,x0,x1,x2,x3,x4,x5,⟨al,cl,rfl,_⟩,⟨ap,cp,rfl,_⟩⟩:=(hr'.out.below hB.out).at_ k s hks
   have hcall:=zaa (zrh s al cl ap cp wr)
   have hks':=zaa hks
   clear hks
   go_wp2_with fail
   refine hcall.out.mono ?_
   rintro e w2 ⟨hq,b2⟩
   replace hq:=hq.elim
   have hB2:=zaa (Z4 hB.out b2)
   clear b2 hcall x0 x1 x2 x3 x4 x5
   rcases hq with ⟨hq,rfl⟩ | ⟨hq,rfl⟩
   ·have y:=zaa (show zex L (fun s=>s.swept=false) (k:Int) from .inl ⟨k,s,rfl,hks'.out,hq,hno.out⟩)
    clear hq
    go_wp2_with fail
    go_ret
    exact ⟨_,rfl,y,hB2.out⟩
   ·have hn:=zaa (show ∀ q t,q<k+1→L[q]?=some t→¬ (fun s=>s.swept=false) t from fun q t hq2 ht=>if e:q=k then by subst e;rw [hks'.out] at ht;cases ht;exact hq else hno.out q t (by omega) ht)
    clear hq
    go_wp2_with fail
    go_roundw
    case rel=>exact ⟨k+1,by omega,by go_num,hn,hB2⟩
    case measure=>simp [Go.RowKit.intOf];omega
  obtain rfl:k=L.length:=by omega
  have y:=zaa (show zex L (fun s=>s.swept=false) (-1) from .inr ⟨rfl,fun s hs=>by obtain ⟨q,hq⟩:=List.mem_iff_getElem?.1 hs;exact hno.out q s (List.getElem?_eq_some_iff.1 hq).1 hq⟩)
  go_wp2_with fail
  go_ret
  exact ⟨_,rfl,y,hB.out⟩
end Go.Proofs.YtilkidaihbhfpaaGreat

namespace Go.Proofs.YtilkidaihbhfpaaGreat
open Go.RowKit
set_option linter.unusedVariables false
set_option linter.unusedSimpArgs false
def AtAct (A:Act) (R:World→Prop) (a:Act) (w:World):Prop:=a=A∧R w
theorem istep_0 (base B:Nat) (S:Y2) (D:WD) (hG:U1 D) (hp:D.phase=0) (w0:World) (h:VarW w0 base B S D) :
  Calls Tryz.prog 207 #[.agg #[],.pointer (some ⟨B,0,none⟩)] w0 fun e w'=>e=.returned (.tuple #[])∧R6 D base B w'∧Below base w0 w':=by
 have hle0:=Nat.le_of_lt (Nat.lt_of_le_of_lt h.le h.lt)
 have h':=zaa (h.below (Z5 w0 (.cells #[] 154)))
 have b0:=zaa (show Below base w0 (w0.alloc (.cells #[] 154)) from (Z5 w0 (.cells #[] 154)).mono hle0)
 have hle:=zaa (show base≤(w0.alloc (.cells #[] 154)).heap.size by simp;omega)
 have hG':=zaa hG
 have hp':=zaa hp
 clear h
 generalize hw:w0.alloc (.cells #[] 154)=w at h' b0 hle
 have hw':=zaa hw
 have h:=h'.out
 have g6:=h.cell 6 (.int .i64 0) (by rw [← hp];rfl)
 have f6:=h.frz 6
 have y:=zaa (show R6 D base B w from ⟨S,D,.inl ⟨hp,rfl⟩,h⟩)
 clear h hG hp g6 f6 hw
 go_enter Tryz.func207,Tryz.ntmps207
 go_wp2_with fail
 go_end0
 rw [hw'.out]
 exact ⟨rfl,y.out,b0.out⟩
theorem istep_3 (base B:Nat) (S:Y2) (D:WD) (hG:U1 D) (hp:D.phase=3) (w0:World) (h:VarW w0 base B S D) :
  Calls Tryz.prog 198 #[.agg #[],.pointer (some ⟨B,0,none⟩)] w0 fun e w'=>e=.returned (.tuple #[])∧R6 D base B w'∧Below base w0 w':=by
 have hle0:=Nat.le_of_lt (Nat.lt_of_le_of_lt h.le h.lt)
 have h':=zaa (h.below (Z5 w0 (.cells #[] 152)))
 have b0:=zaa (show Below base w0 (w0.alloc (.cells #[] 152)) from (Z5 w0 (.cells #[] 152)).mono hle0)
 have hle:=zaa (show base≤(w0.alloc (.cells #[] 152)).heap.size by simp;omega)
 have hG':=zaa hG
 have hp':=zaa hp
 clear h
 generalize hw:w0.alloc (.cells #[] 152)=w at h' b0 hle
 have hw':=zaa hw
 have h:=h'.out
 have g6:=h.cell 6 (.int .i64 3) (by rw [← hp];rfl)
 have f6:=h.frz 6
 have v1:=h.phase 4
 have y:=zaa (show R6 D base B _ from ⟨S,_,.inr (.inr (.inr (.inl ⟨hp,rfl⟩))),v1.1⟩)
 have b1:=zaa v1.2
 clear h hG hp v1 hw
 go_enter Tryz.func198,Tryz.ntmps198
 go_upto_region 1 with fail
 rw [hw'.out]
 go_wp2_with fail
 go_end0
 exact ⟨rfl,y.out,b0.out.trans b1.out⟩
theorem istep_1 (base B:Nat) (S:Y2) (D:WD) (hG:U1 D) (hp:D.phase=1) (w0:World) (h:VarW w0 base B S D) :
  Calls Tryz.prog 195 #[.agg #[],.pointer (some ⟨B,0,none⟩)] w0 fun e w'=>e=.returned (.tuple #[])∧R6 D base B w'∧Below base w0 w':=by
 have hle0:=Nat.le_of_lt (Nat.lt_of_le_of_lt h.le h.lt)
 have h':=zaa (h.below (Z5 w0 (.cells #[] 150)))
 have b0:=zaa (show Below base w0 (w0.alloc (.cells #[] 150)) from (Z5 w0 (.cells #[] 150)).mono hle0)
 have hle:=zaa (show base≤(w0.alloc (.cells #[] 150)).heap.size by simp;omega)
 have hG':=zaa hG
 have hp':=zaa hp
 clear h
 generalize hw:w0.alloc (.cells #[] 150)=w at h' b0 hle
 have hw':=zaa hw
 have h:=h'.out
 have g6:=h.cell 6 (.int .i64 1) (by rw [← hp];rfl)
 have f6:=h.frz 6
 obtain ⟨am,cm,hvm⟩:=Y4 h.own.muts
 have hvm':=zaa hvm
 have hml:D.muts.length≤9223372036854775807:=by have hmx:=h.rd.parts.2.2.2.1;obtain ⟨_,_,_,hml,_⟩:=hmx;unfold maxLen at hml;omega
 have g7:=h.cell 7 (.int .i64 D.next) rfl
 have g5:=h.cell 5 S.vm rfl
 rw [hvm] at g5
 have f7:=h.frz 7
 have n0:=hG.gc.2.1.1
 have n1:=hG.gc.2.1.2.1
 clear h hG hp hvm hw
 by_cases c:D.next=(D.muts.length:Int)
 case pos =>
  have hc:=zaa c
  have d1:(D.next == (D.muts.length:Int))=true:=beq_iff_eq.2 c
  have v1:=h'.out.phase 2
  have v2:=zaa (v1.1.next 0)
  have y:=zaa (show ∀ w',Below w.heap.size w w'→VarW ((w'.setCell ⟨B,6,none⟩ (.int .i64 2)).setCell ⟨B,7,none⟩ (.int .i64 0)) base B S { D with phase:=2,next:=0 }∧Below base w0 ((w'.setCell ⟨B,6,none⟩ (.int .i64 2)).setCell ⟨B,7,none⟩ (.int .i64 0)) from fun w' hb =>
   have v1:=(h'.out.below hb).phase 2
   have v2:=v1.1.next 0
   ⟨v2.1,b0.out.trans ((hb.mono hle.out).trans (v1.2.trans v2.2))⟩)
  clear v1 v2
  clear c n0 n1
  go_enter Tryz.func195,Tryz.ntmps195
  go_wp2_with fail
  rw [hw'.out]
  refine wp_scope_jumps 0 (AtAct ({ tmps:=#[.agg #[],.pointer (some ⟨B,0,none⟩),.pointer (some ⟨w0.heap.size,0,none⟩),undef,.pointer (some ⟨B,0,none⟩),.pointer (some ⟨B,0,none⟩),.pointer (some ⟨B,6,none⟩),.pointer (some ⟨B,7,none⟩),.int .i64 D.next,.pointer (some ⟨B,0,none⟩),.pointer (some ⟨B,0,none⟩),.pointer (some ⟨B,5,none⟩),.slice am D.muts.length cm,.int .i64 (D.muts.length:Int),.bool true,undef,undef,undef,undef,undef,undef,undef,undef,undef,undef,undef,undef,undef,undef,undef,undef,undef,undef,undef,undef,undef,undef,undef,undef,undef,undef,undef,undef,undef,undef,undef,undef],defers:=[] }) fun w'=>Hid (Below w.heap.size w w')) (fun _ _=>0) rfl ?first ?pass
  case first =>
   go_wp2_with fail
   go_quiet (fail)
   go_wp2_with fail
   go_step3
   exact ⟨rfl,rfl,zaa (below_drewN (Below.refl _ _) nq)⟩
  case pass =>
   rintro a' w1 ⟨rfl,hb1⟩
   have g6':=Z7 hb1.out g6
   have g7':=Z7 hb1.out g7
   have f6':=(h'.out.below hb1.out).frz 6
   have f7':=(h'.out.below hb1.out).frz 7
   have z:=zaa (y.out _ hb1.out)
   clear g6 g7 g5 f6 f7 y
   go_wp2_with fail
   simp only [Exit.jump]
   go_end0
   exact ⟨rfl,⟨S,{ D with phase:=2,next:=0 },.inr (.inl ⟨hp'.out,.inr ⟨hc.out,rfl⟩⟩),z.out.1⟩,z.out.2⟩
 obtain ⟨n,hn⟩:=nat_of n0
 have hn':=zaa hn
 have d1:(D.next == (D.muts.length:Int))=false:=beq_eq_false_iff_ne.2 c
 rw [hn] at g7 c d1
 have hnl:n<D.muts.length:=by omega
 have hnl1:(n:Int)<(D.muts.length:Int):=by omega
 obtain ⟨r,hr⟩:∃ r,D.muts[n]?=some r:=⟨_,List.getElem?_eq_getElem hnl⟩
 have hr':=zaa hr
 obtain ⟨u,hu⟩:∃ u,S.mv[n]?=some u:=⟨_,List.getElem?_eq_getElem (by have:=h'.out.own.mvl;omega)⟩
 obtain ⟨ar,cr,rfl⟩:=Y4 (h'.out.own.innerM n r u hr hu)
 have hu':=zaa hu
 obtain ⟨gm,cm',hgm⟩:∃ g c,S.vm=.slice (some ⟨g,0,none⟩) D.muts.length c:=by
  rcases h'.out.own.muts.2 with ⟨_,h0⟩ | ⟨g,cap,cur,e,_⟩
  ·omega
  ·exact ⟨g,cap,e⟩
 obtain ⟨rfl,rfl⟩:am=some ⟨gm,0,none⟩∧cm=cm':=by have:=hvm'.out.symm.trans hgm;simpa using this
 have xr:w.cell? ⟨gm,n,none⟩=some (.slice ar r.length cr):=by
  have hrow:=h'.out.own.muts
  rw [hgm] at hrow
  have:=hrow.cellAt n (by have:=h'.out.own.mvl;omega)
  rw [this]
  exact hu
 have hr6:=zaa (show r.length=6 from hG'.out.form.roots n r hr)
 clear hr hu hgm n0 n1 c
 go_enter Tryz.func195,Tryz.ntmps195
 go_wp2_with fail
 rw [hw'.out]
 go_step3
 go_wp2_with fail
 go_quiet (fail)
 go_upto_region 2 with fail
 have v1:=zaa (h'.out.drewN nq)
 have B1:=zaa (show Below base w0 (w.drewN nq) from below_drewN b0.out nq)
 have hle1:=zaa (show base≤(w.drewN nq).heap.size from hle.out)
 have g5':(w.drewN nq).cell? ⟨B,5,none⟩=some (.slice (some ⟨gm,0,none⟩) D.muts.length cm):=g5
 have g7':(w.drewN nq).cell? ⟨B,7,none⟩=some (.int .i64 (n:Int)):=g7
 have xr':(w.drewN nq).cell? ⟨gm,n,none⟩=some (.slice ar r.length cr):=xr
 generalize w.drewN nq=w1 at *
 clear g5 g6 g7 f6 f7 xr d1
 refine T6 (fun w'=>w'.cell? ⟨B,5,none⟩=some (.slice (some ⟨gm,0,none⟩) D.muts.length cm)∧w'.cell? ⟨B,7,none⟩=some (.int .i64 (n:Int))∧w'.cell? ⟨gm,n,none⟩=some (.slice ar r.length cr)) (fun j=>j == 14) (by kernel_rfl) ?_
 intro w3 hw3
 have v3:=zaa (show VarW w3 base B S D from hw3 ▸ v1.out.drew)
 have B3:=zaa (show Below base w0 w3 from hw3 ▸ below_drewN B1.out 1)
 have hle3:=zaa (show base≤w3.heap.size from hw3 ▸ hle1.out)
 have h0:(fun w'=>w'.cell? ⟨B,5,none⟩=some (.slice (some ⟨gm,0,none⟩) D.muts.length cm)∧w'.cell? ⟨B,7,none⟩=some (.int .i64 (n:Int))∧w'.cell? ⟨gm,n,none⟩=some (.slice ar r.length cr)) w3:=hw3 ▸ ⟨g5',g7',xr'⟩
 clear hw3 g5' g7' xr'
 have hvw:=zaa (zjc B _ D hG'.out.form w3 v3.out.rd v3.out.boxW)
 have hcall:=zaa (fun (w4:World) (V g m:Nat) (M:DataW Unit) (hb:Below w3.heap.size w3 w4) (hvi:M4 D w4 V B g m M) (hge:w3.heap.size≤V) =>
  zkz base B V g m M S D r ar cr hG'.out (hG'.out.ints.muts r (List.mem_of_getElem? hr'.out)) (by have:=hr6.out;omega) w4 (v3.out.below hb) hvi (fun hm=>by
   rcases List.mem_cons.1 hm with rfl | hm
   ·have:=v3.out.lt
    omega
   ·have:=(v3.out.own.lt V hm).2
    omega) fun w' S' E hv hs hm=>hs.roots hv hm hr'.out hu'.out)
 refine Z9 (i:=0) (v:=?vq1) rfl (by kernel_rfl) (by kernel_rfl) (by kernel_rfl) rfl (fun _ _ _ h=>h) (Or.inl ⟨by rfl,?hq1⟩) (fun _=>h0) ?rq1
 case hq1=>(intro w _;go_simp;try with_reducible rfl)
 try simp only [Act.put,zab,zac,zad]
 refine Z9 (i:=2) (v:=?vq2) rfl (by kernel_rfl) (by kernel_rfl) (by kernel_rfl) rfl (fun _ _ _ h=>h) (Or.inl ⟨by rfl,?hq2⟩) (fun _=>h0) ?rq2
 case hq2=>(intro w _;go_simp;try with_reducible rfl)
 try simp only [Act.put,zab,zac,zad]
 refine Z9 (i:=3) (v:=?vq3) rfl (by kernel_rfl) (by kernel_rfl) (by kernel_rfl) rfl (fun _ _ _ h=>h) (Or.inl ⟨by rfl,?hq3⟩) (fun _=>h0) ?rq3
 case hq3=>(intro w _;go_simp;try with_reducible rfl)
 try simp only [Act.put,zab,zac,zad]
 refine Z9 (i:=4) (v:=?vq4) rfl (by kernel_rfl) (by kernel_rfl) (by kernel_rfl) rfl (fun _ _ _ h=>h) (Or.inl ⟨by rfl,?hq4⟩) (fun _=>h0) ?rq4
 case hq4=>(intro w _;go_simp;try with_reducible rfl)
 try simp only [Act.put,zab,zac,zad]
 refine X2 (i:=5) (v:=?vq5) rfl (by kernel_rfl) (by kernel_rfl) (by kernel_rfl) (by kernel_rfl) (fun j hj=>by simp at hj;subst hj;kernel_rfl) (fun _ _ _ h=>h) (Or.inl ⟨by rfl,?hq5⟩) (by exact h0) ?rq5
 case hq5=>(intro w hSw;(try dsimp only at hSw);obtain ⟨s0,s1,s2⟩:=hSw;go_simp;try with_reducible rfl)
 try simp only [Act.put,zab,zac,zad]
 refine Z9 (i:=6) (v:=?vq6) rfl (by kernel_rfl) (by kernel_rfl) (by kernel_rfl) rfl (fun _ _ _ h=>h) (Or.inl ⟨by rfl,?hq6⟩) (fun _=>h0) ?rq6
 case hq6=>(intro w _;go_simp;try with_reducible rfl)
 try simp only [Act.put,zab,zac,zad]
 refine Z9 (i:=7) (v:=?vq7) rfl (by kernel_rfl) (by kernel_rfl) (by kernel_rfl) rfl (fun _ _ _ h=>h) (Or.inl ⟨by rfl,?hq7⟩) (fun _=>h0) ?rq7
 case hq7=>(intro w _;go_simp;try with_reducible rfl)
 try simp only [Act.put,zab,zac,zad]
 refine Z9 (i:=8) (v:=?vq8) rfl (by kernel_rfl) (by kernel_rfl) (by kernel_rfl) rfl (fun _ _ _ h=>h) (Or.inl ⟨by rfl,?hq8⟩) (fun _=>h0) ?rq8
 case hq8=>(intro w _;go_simp;try with_reducible rfl)
 try simp only [Act.put,zab,zac,zad]
 refine Z9 (i:=9) (v:=?vq9) rfl (by kernel_rfl) (by kernel_rfl) (by kernel_rfl) rfl (fun _ _ _ h=>h) (Or.inl ⟨by rfl,?hq9⟩) (fun _=>h0) ?rq9
 case hq9=>(intro w _;go_simp;try with_reducible rfl)
 try simp only [Act.put,zab,zac,zad]
 refine X2 (i:=10) (v:=?vq10) rfl (by kernel_rfl) (by kernel_rfl) (by kernel_rfl) (by kernel_rfl) (fun j hj=>by simp at hj;subst hj;kernel_rfl) (fun _ _ _ h=>h) (Or.inl ⟨by rfl,?hq10⟩) (by exact h0) ?rq10
 case hq10=>(intro w hSw;(try dsimp only at hSw);obtain ⟨s0,s1,s2⟩:=hSw;go_simp;try with_reducible rfl)
 try simp only [Act.put,zab,zac,zad]
 refine Z9 (i:=11) (v:=?vq11) rfl (by kernel_rfl) (by kernel_rfl) (by kernel_rfl) rfl (fun _ _ _ h=>h) (Or.inl ⟨by rfl,?hq11⟩) (fun _=>h0) ?rq11
 case hq11=>(intro w _;go_simp;try with_reducible rfl)
 try simp only [Act.put,zab,zac,zad]
 refine Z9 (i:=12) (v:=?vq12) rfl (by kernel_rfl) (by kernel_rfl) (by kernel_rfl) rfl (fun _ _ _ h=>h) (Or.inl ⟨by rfl,?hq12⟩) (fun _=>h0) ?rq12
 case hq12=>(intro w _;go_simp;try with_reducible rfl)
 try simp only [Act.put,zab,zac,zad]
 refine X2 (i:=13) (v:=?vq13) rfl (by kernel_rfl) (by kernel_rfl) (by kernel_rfl) (by kernel_rfl) (fun j hj=>by simp at hj;subst hj;kernel_rfl) (fun _ _ _ h=>h) (Or.inl ⟨by rfl,?hq13⟩) (by exact h0) ?rq13
 case hq13=>(intro w hSw;(try dsimp only at hSw);obtain ⟨s0,s1,s2⟩:=hSw;go_simp;try with_reducible rfl)
 try simp only [Act.put,zab,zac,zad]
 refine V6 (rs:=[1]) (by kernel_rfl) (by simp) ?_
 intro i hi
 simp only [List.mem_cons,List.not_mem_nil,or_false] at hi
 subst hi
 refine X8 (i:=1) rfl (fun K hK=>?_)
 go_simp
 go_wp2_with (go_at_call 36;refine hvw.out.mono ?_;rintro e w4 ⟨V,g,m,M,rfl,hvi,hge,b4⟩;have hvi':=zaa hvi;have hge':=zaa hge;have b4':=zaa b4;clear hvi hge b4)
 refine hK.out _ _ (fun _=>⟨Z7 b4'.out h0.1,Z7 b4'.out h0.2.1,Z7 b4'.out h0.2.2⟩) ?_
 clear hK K
 try simp only [Act.put,zab,zac,zad]
 refine V6 (rs:=[14]) (by kernel_rfl) (by simp) ?_
 intro i hi
 simp only [List.mem_cons,List.not_mem_nil,or_false] at hi
 subst hi
 refine X8 (i:=14) rfl (fun K hK=>?_)
 go_simp
 go_wp2_with (go_at_call 196;refine (hcall.out w4 V g m M b4'.out hvi'.out hge'.out).mono ?_;rintro e w5 ⟨rfl,S4,E4,st⟩;have st4:=zaa st;clear st)
 refine hK.out _ _ (fun h=>Bool.noConfusion ((h 14 (by kernel_rfl)).symm.trans (show _=true by kernel_rfl))) ?_
 clear hK K
 try simp only [Act.put,zab,zac,zad]
 refine P3 (by kernel_rfl) ?_ _
 have hgo:=zaa (st4.out.is.going (hG'.out.ints.muts r (List.mem_of_getElem? hr'.out)) hG'.out)
 have g7:=st4.out.var.cell 7 (.int .i64 (n:Int)) (by show some (Value.int .i64 E4.next)=_;rw [hgo.out.2.2.2.2.1,hn'.out])
 have f7:=st4.out.var.frz 7
 have v5:=st4.out.var.next ((n:Int)+1)
 have y:=zaa (show R6 D base B _ from ⟨S4,_,.inr (.inl ⟨hp'.out,.inl ⟨r,E4,by rw [hn'.out];omega,by rw [hn'.out];exact hr'.out,zxn st4.out.is hG'.out.form,by rw [hn'.out]⟩⟩),v5.1⟩)
 have b5:=zaa ((B3.out.trans (b4'.out.mono hle3.out)).trans (st4.out.bel.trans v5.2))
 clear v5 h0 hcall hvw
 go_wp2_with fail
 try rw [Exit.noGoto_ret]
 refine bodyPost_ret (v:=.tuple #[]) (by simp [results,Tryz.results195,go_sem]) rfl ?_
 exact ⟨rfl,y.out,b5.out⟩
theorem istep_2 (base B:Nat) (S:Y2) (D:WD) (hG:U1 D) (hp:D.phase=2) (w0:World) (h:VarW w0 base B S D) :
  Calls Tryz.prog 197 #[.agg #[],.pointer (some ⟨B,0,none⟩)] w0 fun e w'=>e=.returned (.tuple #[])∧R6 D base B w'∧Below base w0 w':=by
 have hle0:=Nat.le_of_lt (Nat.lt_of_le_of_lt h.le h.lt)
 have h':=zaa (h.below (Z5 w0 (.cells #[] 151)))
 have b0:=zaa (show Below base w0 (w0.alloc (.cells #[] 151)) from (Z5 w0 (.cells #[] 151)).mono hle0)
 have hle:=zaa (show base≤(w0.alloc (.cells #[] 151)).heap.size by simp;omega)
 have hG':=zaa hG
 have hp':=zaa hp
 clear h
 generalize hw:w0.alloc (.cells #[] 151)=w at h' b0 hle
 have hw':=zaa hw
 have h:=h'.out
 have g6:=h.cell 6 (.int .i64 2) (by rw [← hp];rfl)
 have f6:=h.frz 6
 obtain ⟨ag,cg,hvg⟩:=Y4 h.own.grey
 have g8:=h.cell 8 S.vg rfl
 rw [hvg] at g8
 rcases List.eq_nil_or_concat D.grey with hg | ⟨G,a,hg⟩
 ·have hg1:=zaa hg
  rw [hg] at g8
  clear h hG hp hvg hg hw
  go_enter Tryz.func197,Tryz.ntmps197
  go_wp2_with fail
  rw [hw'.out]
  refine wp_scope_jumps 0 (AtAct ({ tmps:=#[.agg #[],.pointer (some ⟨B,0,none⟩),.pointer (some ⟨w0.heap.size,0,none⟩),undef,.pointer (some ⟨B,0,none⟩),.pointer (some ⟨B,0,none⟩),.pointer (some ⟨B,6,none⟩),.pointer (some ⟨B,8,none⟩),.slice ag 0 cg,.int .i64 0,.bool true,undef,undef,undef,undef,undef,undef,undef],defers:=[] }) fun w'=>Hid (Below w.heap.size w w')) (fun _ _=>0) rfl ?first ?pass
  case first =>
   go_wp2_with fail
   go_step3
   exact ⟨rfl,rfl,zaa (Below.refl _ _)⟩
  case pass =>
   rintro a' w1 ⟨rfl,hb1⟩
   have g6':=Z7 hb1.out g6
   have f6':=(h'.out.below hb1.out).frz 6
   have z:=zaa ((h'.out.below hb1.out).phase 3)
   clear g6 f6 g8
   go_wp2_with fail
   simp only [Exit.jump]
   go_end0
   exact ⟨rfl,⟨S,{ D with phase:=3 },.inr (.inr (.inl ⟨hp'.out,.inr ⟨hg1.out,rfl⟩⟩)),z.out.1⟩,b0.out.trans ((hb1.out.mono hle.out).trans z.out.2)⟩
 rw [List.concat_eq_append] at hg
 have hm:D.grey.length=G.length+1:=by rw [hg];simp
 have hg':=zaa hg
 have hgl:=hG.greyLen
 obtain ⟨k,j,ho,_⟩:=hG.gc.1.2.2 a (by rw [hg];simp)
 obtain ⟨s,hks,_,_,_⟩:=N0 hG.form ho
 have ho':=zaa ho
 have hks':=zaa hks
 rw [hm] at g8
 have d1:((G.length:Int)+1 == 0)=false:=beq_eq_false_iff_ne.2 (by omega)
 have hvw:=zaa (zjc B _ D hG.form w h.rd h.boxW)
 have hsc:=zaa (fun (w4:World) (V g m:Nat) (M:DataW Unit) (hb:Below w.heap.size w w4) (hvi:M4 D w4 V B g m M) (hge:w.heap.size≤V) =>
  zyz base B V g m M S D G a k j s hG'.out hg'.out ho'.out hks'.out w4 (h'.out.below hb) hvi (fun hm=>by
   rcases List.mem_cons.1 hm with rfl | hm
   ·have:=h'.out.lt
    omega
   ·have:=(h'.out.own.lt V hm).2
    omega))
 have hgl':G.length≤1000:=by omega
 clear h hG hp hvg hg hm ho hks hgl hw
 go_enter Tryz.func197,Tryz.ntmps197
 go_wp2_with fail
 rw [hw'.out]
 go_step3
 go_wp2_with fail
 go_wp2_with fail
 refine hvw.out.mono ?_
 rintro e w4 ⟨V,g,m,M,rfl,hvi,hge,b4⟩
 have hs2:=zaa (hsc.out w4 V g m M b4 hvi hge)
 have b4':=zaa (b0.out.trans (b4.mono hle.out))
 clear hvi hge b4 hsc hvw
 go_wp2_with fail
 refine hs2.out.mono ?_
 rintro e w5 ⟨rfl,⟨S5,E5,hsh,hv5⟩,b5⟩
 have y:=zaa (show R6 D base B w5 from ⟨S5,E5,.inr (.inr (.inl ⟨hp'.out,.inl ⟨G,a,k,j,s,hg'.out,ho'.out,hks'.out,hsh⟩⟩)),hv5⟩)
 have b5':=zaa (b4'.out.trans b5)
 clear hsh hv5 b5 hs2
 go_wp2_with fail
 try rw [Exit.noGoto_ret]
 refine bodyPost_ret (v:=.tuple #[]) (by simp [results,Tryz.results197,go_sem]) rfl ?_
 exact ⟨rfl,y.out,b5'.out⟩
theorem istep_4 (base B:Nat) (S:Y2) (D:WD) (hG:U1 D) (hp:D.phase=4) (w0:World) (h:VarW w0 base B S D) :
  Calls Tryz.prog 199 #[.agg #[],.pointer (some ⟨B,0,none⟩)] w0 fun e w'=>e=.returned (.tuple #[])∧R6 D base B w'∧Below base w0 w':=by
 have hle0:=Nat.le_of_lt (Nat.lt_of_le_of_lt h.le h.lt)
 have h':=zaa (h.below (Z5 w0 (.cells #[] 153)))
 have b0:=zaa (show Below base w0 (w0.alloc (.cells #[] 153)) from (Z5 w0 (.cells #[] 153)).mono hle0)
 have hle:=zaa (show base≤(w0.alloc (.cells #[] 153)).heap.size by simp;omega)
 have hG':=zaa hG
 have hp':=zaa hp
 clear h
 generalize hw:w0.alloc (.cells #[] 153)=w at h' b0 hle
 have hw':=zaa hw
 have h:=h'.out
 have g6:=h.cell 6 (.int .i64 4) (by rw [← hp];rfl)
 have f6:=h.frz 6
 obtain ⟨aS,cS,hvs⟩:=Y4 h.own.spans
 have hvs':=zaa hvs
 have g4:=h.cell 4 S.vs rfl
 rw [hvs] at g4
 have hls:D.spans.length≤1000:=by have:=hG.form.spans;have:=hG.form.geo.2.2.2.2.1;omega
 have hrs:=h.rd.parts.2.2.1
 rw [hvs] at hrs
 have hix:=zaa (zss (.slice aS D.spans.length cS) D.spans w hrs)
 clear h hG hp hvs hrs hw
 by_cases hall:∀ s,s ∈ D.spans→s.swept=true
 ·have hall':=zaa hall
  clear hall
  go_enter Tryz.func199,Tryz.ntmps199
  go_wp2_with fail
  rw [hw'.out]
  refine wp_scope_jumps 0 (AtAct ({ tmps:=#[.agg #[],.pointer (some ⟨B,0,none⟩),.pointer (some ⟨w0.heap.size,0,none⟩),undef,.int .i64 (-1),undef,.pointer (some ⟨B,0,none⟩),.pointer (some ⟨B,0,none⟩),.pointer (some ⟨B,4,none⟩),.slice aS D.spans.length cS,.int .i64 (-1),.int .i64 (-1),.bool true,undef,undef,undef,undef,undef,undef,undef,undef,undef,undef,undef,undef,undef,undef,undef,undef,undef,undef,undef,undef,undef,undef,undef],defers:=[] }) fun w'=>Hid (VarW w' base B S D)∧Hid (Below base w0 w')) (fun _ _=>0) rfl ?first ?pass
  case first =>
   go_wp2_with fail
   refine hix.out.mono ?_
   rintro e w1 ⟨r,rfl,hf,b1⟩
   have b1':=zaa (b0.out.trans (b1.mono hle.out))
   have v1:=zaa (h'.out.below b1)
   obtain rfl:r=-1:=by
    rcases hf.out with ⟨k,s,_,hks,hsw,_⟩ | ⟨hr,_⟩
    ·have:=hall'.out s (List.mem_of_getElem? hks)
     rw [hsw] at this
     cases this
    ·exact hr
   clear b1 hix hf g6 g4 f6
   go_wp2_with fail
   go_step3
   exact ⟨rfl,rfl,v1,b1'⟩
  case pass =>
   rintro a' w1 ⟨rfl,v1,b1'⟩
   clear g6 g4 f6 hix
   have g6':=v1.out.cell 6 (.int .i64 D.phase) rfl
   have g4':=v1.out.cell 4 S.vs rfl
   rw [hvs'.out] at g4'
   have f6':=v1.out.frz 6
   have v2:=zaa (v1.out.phase 0)
   have B2:=zaa (b1'.out.trans v2.out.2)
   go_wp2_with fail
   go_loopw [25] (fun i wr=>∃ k:Nat,k≤D.spans.length∧i=.int .i64 k∧Hid (VarW wr base B S { D with phase:=0,spans:=L1 D.spans k })∧Hid (Below base w0 wr)) (fun i _=>D.spans.length-(Go.RowKit.intOf i).toNat)
   case atStart=>exact ⟨0,Nat.zero_le _,rfl,zaa v2.out.1,B2⟩
   case round =>
    clear g6' g4' f6'
    obtain ⟨k,hk,rfl,hv,hB⟩:=hrel
    have g4:=hv.out.cell 4 S.vs rfl
    rw [hvs'.out] at g4
    by_cases hlt:k<D.spans.length
    ·have hlt1:(k:Int)<(D.spans.length:Int):=by omega
     obtain ⟨s,hks⟩:∃ s,D.spans[k]?=some s:=⟨_,List.getElem?_eq_getElem hlt⟩
     obtain ⟨hk1,hk2⟩:=znq hks
     have hgs0:∃ g c,S.vs=.slice (some ⟨g,0,none⟩) (L1 D.spans k).length c:=hv.out.headS (by show 0<(L1 D.spans k).length;rw [zhf];omega)
     obtain ⟨gs,cs,hgs⟩:=hgs0
     obtain ⟨p,hp⟩:=hv.out.svAt (i:=k) (s:=s) hk1
     have hgs2:=hgs
     rw [zhf] at hgs2
     obtain ⟨rfl,rfl⟩:aS=some ⟨gs,0,none⟩∧cS=cs:=by have:=hvs'.out.symm.trans hgs2;simpa using this
     have x3:=(hv.out.six (D:={ D with phase:=0,spans:=L1 D.spans k }) hgs hk1 hp).2.2.2.1
     have f3:=hv.out.frzS (D:={ D with phase:=0,spans:=L1 D.spans k }) hgs (k*6+3)
     have v3:=hv.out.swept (D:={ D with phase:=0,spans:=L1 D.spans k }) hgs k s p false hk1 hp
     have hv3:=zaa (show VarW _ base B S { D with phase:=0,spans:=L1 D.spans (k+1) } from by rw [hk2];exact v3.1)
     have hB3:=zaa (hB.out.trans v3.2)
     clear hks hk1 hk2 hgs hgs2 hp v3
     go_wp2_with fail
     go_roundw
     case rel=>exact ⟨k+1,by omega,by go_num,hv3,hB3⟩
     case measure=>simp [Go.RowKit.intOf];omega
    ·obtain rfl:k=D.spans.length:=by omega
     have y:=zaa (show R6 D base B wr from ⟨S,{ D with phase:=0,spans:=D.spans.map M1 },.inr (.inr (.inr (.inr ⟨hp'.out,.inr ⟨hall'.out,rfl⟩⟩))),by have:=hv.out;rwa [zoz] at this⟩)
     go_wp2_with fail
     simp only [Exit.jump]
     go_end0
     exact ⟨rfl,y.out,hB.out⟩
 ·have hall':=zaa hall
  clear hall
  go_enter Tryz.func199,Tryz.ntmps199
  go_wp2_with fail
  rw [hw'.out]
  go_step3
  go_wp2_with fail
  refine hix.out.mono ?_
  rintro e w1 ⟨r,rfl,hf,b1⟩
  have b1':=zaa (b0.out.trans (b1.mono hle.out))
  have v1:=zaa (h'.out.below b1)
  clear b1 hix g6 g4 f6
  rcases hf.out with ⟨k,s,hr,hks,hsw,hprev⟩ | ⟨hr,hno⟩
  case inr=>exact absurd (fun s hs=>by have:=hno s hs;cases h:s.swept <;> simp_all) hall'.out
  subst hr
  have hu:=zaa (show zlt D k s from ⟨hks,hsw,fun q t hq ht=>by have:=hprev q t hq ht;cases h:t.swept <;> simp_all⟩)
  have hsp:=zaa (zvw base B S D k s hG'.out.form hks w1 v1.out)
  have d1:decide ((k:Int)<0)=false:=decide_eq_false (by omega)
  clear hks hsw hprev hf
  go_wp2_with fail
  refine hsp.out.mono ?_
  rintro e w2 ⟨rfl,⟨S2,E2,hsi,hv2⟩,b2⟩
  have y:=zaa (show R6 D base B w2 from ⟨S2,E2,.inr (.inr (.inr (.inr ⟨hp'.out,.inl ⟨k,s,hu.out,hsi⟩⟩))),hv2⟩)
  have b2':=zaa (b1'.out.trans b2)
  clear hsi hv2 b2 hsp
  go_wp2_with fail
  try rw [Exit.noGoto_ret]
  refine bodyPost_ret (v:=.tuple #[]) (by simp [results,Tryz.results199,go_sem]) rfl ?_
  exact ⟨rfl,y.out,b2'.out⟩
theorem zye (B:Nat) (w:World) (g6:w.cell? ⟨B,6,none⟩=some (.int .i64 0)):Calls Tryz.prog 98 #[.pointer (some ⟨B,0,none⟩)] w fun e w'=>e=.returned (.iface 154 (.agg #[]))∧w=w':=by
 go_enter Tryz.func98,Tryz.ntmps98
 go_wp2_with fail
 go_ret
 exact ⟨rfl,rfl⟩
theorem stepOf_0 (w : World) : (method (Tryz.prog.types.size + Made.depth) 154 (.agg #[]) "loop.example/g00690/impl.step").run Tryz.prog w = .ok (207, .agg #[]) w := by kernel_rfl
theorem zyd (B:Nat) (w:World) (g6:w.cell? ⟨B,6,none⟩=some (.int .i64 1)):Calls Tryz.prog 98 #[.pointer (some ⟨B,0,none⟩)] w fun e w'=>e=.returned (.iface 150 (.agg #[]))∧w=w':=by
 go_enter Tryz.func98,Tryz.ntmps98
 go_wp2_with fail
 go_ret
 exact ⟨rfl,rfl⟩
theorem stepOf_1 (w : World) : (method (Tryz.prog.types.size + Made.depth) 150 (.agg #[]) "loop.example/g00690/impl.step").run Tryz.prog w = .ok (195, .agg #[]) w := by kernel_rfl
theorem zyc (B:Nat) (w:World) (g6:w.cell? ⟨B,6,none⟩=some (.int .i64 2)):Calls Tryz.prog 98 #[.pointer (some ⟨B,0,none⟩)] w fun e w'=>e=.returned (.iface 151 (.agg #[]))∧w=w':=by
 go_enter Tryz.func98,Tryz.ntmps98
 go_wp2_with fail
 go_ret
 exact ⟨rfl,rfl⟩
theorem stepOf_2 (w : World) : (method (Tryz.prog.types.size + Made.depth) 151 (.agg #[]) "loop.example/g00690/impl.step").run Tryz.prog w = .ok (197, .agg #[]) w := by kernel_rfl
theorem zyb (B:Nat) (w:World) (g6:w.cell? ⟨B,6,none⟩=some (.int .i64 3)):Calls Tryz.prog 98 #[.pointer (some ⟨B,0,none⟩)] w fun e w'=>e=.returned (.iface 152 (.agg #[]))∧w=w':=by
 go_enter Tryz.func98,Tryz.ntmps98
 go_wp2_with fail
 go_ret
 exact ⟨rfl,rfl⟩
theorem stepOf_3 (w : World) : (method (Tryz.prog.types.size + Made.depth) 152 (.agg #[]) "loop.example/g00690/impl.step").run Tryz.prog w = .ok (198, .agg #[]) w := by kernel_rfl
theorem zya (B:Nat) (w:World) (g6:w.cell? ⟨B,6,none⟩=some (.int .i64 4)):Calls Tryz.prog 98 #[.pointer (some ⟨B,0,none⟩)] w fun e w'=>e=.returned (.iface 153 (.agg #[]))∧w=w':=by
 go_enter Tryz.func98,Tryz.ntmps98
 go_wp2_with fail
 go_ret
 exact ⟨rfl,rfl⟩
theorem stepOf_4 (w : World) : (method (Tryz.prog.types.size + Made.depth) 153 (.agg #[]) "loop.example/g00690/impl.step").run Tryz.prog w = .ok (199, .agg #[]) w := by kernel_rfl
theorem zoy (v:Value) (D:WD) (n:Int) (hs:zgk D) (hf:FitD D) (hc:CapW v) (w:World) (hr:RdW w v D) :
  Calls Tryz.prog 51 #[v,.int .i64 n] w fun e w'=>∃ S D',zoa D n D'∧e=.returned (S.val D')∧OwnW w' w.heap.size S D'∧Below w.heap.size w w':=by
 have hs':=zaa hs
 have hc':=zaa hc
 have hf':=zaa hf
 clear hs hc hf
 obtain ⟨vw,vd,vs,vm,vg,rfl,a1,a2,a3,a4,a5⟩:=hr
 have bb:=Z4 (Z5 w (.cells #[.int .i64 D.base,.int .i64 D.pages,vw,vd,vs,vm,.int .i64 D.phase,.int .i64 D.next,vg] 30)) (Z5 _ (.cells #[.int .i64 0,.int .i64 0,.slice none 0 0,.slice none 0 0,.slice none 0 0,.slice none 0 0,.int .i64 0,.int .i64 0,.slice none 0 0] 30))
 have hA:=Z6 (Z5 (w.alloc (.cells #[.int .i64 D.base,.int .i64 D.pages,vw,vd,vs,vm,.int .i64 D.phase,.int .i64 D.next,vg] 30)) (.cells #[.int .i64 0,.int .i64 0,.slice none 0 0,.slice none 0 0,.slice none 0 0,.slice none 0 0,.int .i64 0,.int .i64 0,.slice none 0 0] 30)) (Y6 w (.cells #[.int .i64 D.base,.int .i64 D.pages,vw,vd,vs,vm,.int .i64 D.phase,.int .i64 D.next,vg] 30))
 have hR:=Y6 (w.alloc (.cells #[.int .i64 D.base,.int .i64 D.pages,vw,vd,vs,vm,.int .i64 D.phase,.int .i64 D.next,vg] 30)) (.cells #[.int .i64 0,.int .i64 0,.slice none 0 0,.slice none 0 0,.slice none 0 0,.slice none 0 0,.int .i64 0,.int .i64 0,.slice none 0 0] 30)
 rw [World.size_alloc] at hR
 have hW:=zaa (show RdW ((w.alloc (.cells #[.int .i64 D.base,.int .i64 D.pages,vw,vd,vs,vm,.int .i64 D.phase,.int .i64 D.next,vg] 30)).alloc (.cells #[.int .i64 0,.int .i64 0,.slice none 0 0,.slice none 0 0,.slice none 0 0,.slice none 0 0,.int .i64 0,.int .i64 0,.slice none 0 0] 30)) (.agg #[.int .i64 D.base,.int .i64 D.pages,vw,vd,vs,vm,.int .i64 D.phase,.int .i64 D.next,vg]) D from ⟨vw,vd,vs,vm,vg,rfl,a1.below bb,a2.below bb,a3.below bb,a4.below bb,a5.below bb⟩)
 have bb':=zaa bb
 have hA':=zaa hA
 have hR':=zaa hR
 have hz:=zaa (show ((w.alloc (.cells #[.int .i64 D.base,.int .i64 D.pages,vw,vd,vs,vm,.int .i64 D.phase,.int .i64 D.next,vg] 30)).alloc (.cells #[.int .i64 0,.int .i64 0,.slice none 0 0,.slice none 0 0,.slice none 0 0,.slice none 0 0,.int .i64 0,.int .i64 0,.slice none 0 0] 30)).heap.size=w.heap.size+1+1 by simp)
 clear a1 a2 a3 a4 a5 bb hA hR
 go_enter Tryz.func51,Tryz.ntmps51
 go_wp2_with fail
 generalize (w.alloc (.cells #[.int .i64 D.base,.int .i64 D.pages,vw,vd,vs,vm,.int .i64 D.phase,.int .i64 D.next,vg] 30)).alloc (.cells #[.int .i64 0,.int .i64 0,.slice none 0 0,.slice none 0 0,.slice none 0 0,.slice none 0 0,.int .i64 0,.int .i64 0,.slice none 0 0] 30)=W at *
 refine (J4 _ D hf'.out hc'.out _ hW.out).mono ?_
 rintro e w1 ⟨hq,b1⟩
 replace hq:=hq.elim
 have hR1:=Z6 b1 hR'.out
 have hA1:=Z6 b1 hA'.out
 have bb1:=zaa (Z4 bb'.out b1)
 have hW1:=zaa (hW.out.below b1)
 have hz1:=zaa (show w.heap.size+1+1≤w1.heap.size by have:=hz.out;have:=b1.size;omega)
 clear b1
 rcases hq with ⟨hG,rfl⟩ | ⟨hG,rfl⟩
 case inr =>
  have y:=zaa (show zoa D n zeroD from .inr ⟨fun h=>hG h.1,rfl⟩)
  obtain ⟨n0,n1,n2,n3,n4,n5,n6,n7,n8⟩:=U5 hR1
  have z0:=Z3 hR1 0
  have z1:=Z3 hR1 1
  have z2:=Z3 hR1 2
  have z3:=Z3 hR1 3
  have z4:=Z3 hR1 4
  have z5:=Z3 hR1 5
  have z6:=Z3 hR1 6
  have z7:=Z3 hR1 7
  have z8:=Z3 hR1 8
  clear hR1 hA1 hG
  go_wp2_with fail
  refine bodyPost_ret (v:=zey.val zeroD) (by simp [results,Tryz.results51,go_sem,n0,n1,n2,n3,n4,n5,n6,n7,n8,Y2.val,zey,zeroD]) rfl ?_
  exact ⟨zey,zeroD,y.out,rfl,zfy _ _,Chg.below (bs:=[w.heap.size+1]) bb1.out ((Chg.refl _ _).put9 (b:=w.heap.size+1) (by simp) _ _ _ _ _ _ _ _ _) bb1.out.size (fun q hq=>by rw [List.mem_singleton.1 hq];omega)⟩
 have hG':=zaa hG
 clear hG
 obtain ⟨f0,f1,f2,f3,f4,f5,f6,f7,f8⟩:=U5 hA1
 by_cases hok:zzp n
 case neg =>
  have y:=zaa (show zoa D n zeroD from .inr ⟨fun h=>hok h.2,rfl⟩)
  have his:=zaa (fun (w:World)=>U8 (zox (n:=n) (l:=0) (h:=10000) (by unfold zzp at hok;omega)) w)
  obtain ⟨n0,n1,n2,n3,n4,n5,n6,n7,n8⟩:=U5 hR1
  have z0:=Z3 hR1 0
  have z1:=Z3 hR1 1
  have z2:=Z3 hR1 2
  have z3:=Z3 hR1 3
  have z4:=Z3 hR1 4
  have z5:=Z3 hR1 5
  have z6:=Z3 hR1 6
  have z7:=Z3 hR1 7
  have z8:=Z3 hR1 8
  clear hR1 hA1 hok
  go_wp2_with (go_at_call 54;refine (his.out _).mono ?_;rintro e w' ⟨rfl,rfl⟩)
  refine bodyPost_ret (v:=zey.val zeroD) (by simp [results,Tryz.results51,go_sem,n0,n1,n2,n3,n4,n5,n6,n7,n8,Y2.val,zey,zeroD]) rfl ?_
  exact ⟨zey,zeroD,y.out,rfl,zfy _ _,Chg.below (bs:=[w.heap.size+1]) bb1.out ((Chg.refl _ _).put9 (b:=w.heap.size+1) (by simp) _ _ _ _ _ _ _ _ _) bb1.out.size (fun q hq=>by rw [List.mem_singleton.1 hq];omega)⟩
 have hok':=zaa hok
 obtain ⟨N,rfl⟩:=Int.eq_ofNat_of_zero_le hok.1
 have hN:N≤10000:=by have:=hok.2;omega
 have his:=zaa (fun (w:World)=>U8 (zlp (n:=(N:Int)) (l:=0) (h:=10000) hok.1 hok.2) w)
 clear hok
 have hown:=zaa (zlr w.heap.size _ D hs'.out w1 hW1.out ⟨_,rfl,hA1⟩)
 have hR1':=zaa hR1
 clear hR1 hA1
 go_wp2_with (go_at_call 54;refine (his.out _).mono ?_;rintro e w' ⟨rfl,rfl⟩)
 refine hown.out.mono ?_
 rintro e w2 ⟨S,rfl,ho,b2⟩
 obtain ⟨aw,ad,aS,am,ag,cw,cd,cS,cm,cg,sv,mv,rfl⟩:=Y2.lits ho
 have hv:=zaa (VarW.mk_box ho b2.size)
 have bb2:=zaa (Z4 bb1.out b2)
 have hR2:=zaa (Z6 (Z4 b2 (Z5 w2 (.cells (Y2.cells ⟨.slice aw D.words.length cw,.slice ad D.dirty.length cd,.slice aS D.spans.length cS,.slice am D.muts.length cm,.slice ag D.grey.length cg,sv,mv⟩ D) 30))) hR1'.out)
 clear ho b2 hown f0 f1 f2 f3 f4 f5 f6 f7 f8
 have hbs:=zaa (show w1.heap.size≤w2.heap.size from hv.out.le)
 have hRne:¬ (w2.heap.size=w.heap.size+1):=by have:=hz1.out;have:=hbs.out;omega
 have hRne':¬ (w.heap.size+1=w2.heap.size):=by omega
 dsimp only [Y2.val]
 dsimp only [Y2.cells] at hv hR2
 go_wp2_with fail
 go_loopw [17] (fun i wr=>∃ (k:Nat) (S':Y2) (E:WD),k≤N∧i=.int .i64 k∧Hid (zfh k D E)∧Hid (VarW wr w1.heap.size w2.heap.size S' E)∧Hid (Below w1.heap.size (w2.alloc (.cells #[.int .i64 D.base,.int .i64 D.pages,.slice aw D.words.length cw,.slice ad D.dirty.length cd,.slice aS D.spans.length cS,.slice am D.muts.length cm,.int .i64 D.phase,.int .i64 D.next,.slice ag D.grey.length cg] 30)) wr)) (fun i _=>N-(Go.RowKit.intOf i).toNat)
 case atStart=>exact ⟨0,_,D,Nat.zero_le _,rfl,zaa (.none D),hv,zaa (Below.refl _ _)⟩
 case round =>
  obtain ⟨k,S3,E,hk,rfl,hst,hvr,hbr⟩:=hrel
  by_cases hlt:k<N
  ·have hlt1:(k:Int)<(N:Int):=by omega
   have hgo:=hst.out.going (hG'.out.going hf'.out)
   have hcl:=zaa (fun (w4:World) (hb:Below w1.heap.size (w2.alloc (.cells #[.int .i64 D.base,.int .i64 D.pages,.slice aw D.words.length cw,.slice ad D.dirty.length cd,.slice aS D.spans.length cS,.slice am D.muts.length cm,.int .i64 D.phase,.int .i64 D.next,.slice ag D.grey.length cg] 30)) w4) (S4:Y2) (E4:WD) (i4:zet E E4) (v4:VarW w4 w1.heap.size w2.heap.size S4 E4)=>(⟨zfh.more hst.out i4,v4,hb⟩:zfh (k+1) D E4∧VarW w4 w1.heap.size w2.heap.size S4 E4∧Below w1.heap.size (w2.alloc (.cells #[.int .i64 D.base,.int .i64 D.pages,.slice aw D.words.length cw,.slice ad D.dirty.length cd,.slice aS D.spans.length cS,.slice am D.muts.length cm,.int .i64 D.phase,.int .i64 D.next,.slice ag D.grey.length cg] 30)) w4))
   have h0:=hgo.form.ph0
   have h4:=hgo.form.ph1
   have hgo':=zaa hgo
   have g6:=hvr.out.cell 6 (.int .i64 E.phase) rfl
   clear hgo
   rcases (show E.phase=0∨E.phase=1∨E.phase=2∨E.phase=3∨E.phase=4 by omega) with hp | hp | hp | hp | hp
   ·rw [hp] at g6
    have hpo:=zaa (zye _ _ g6)
    have hm:=stepOf_0
    have hcall:=zaa (istep_0 _ _ S3 E hgo'.out hp wr hvr.out)
    clear hp h0 h4 g6
    go_wp2_with fail
    refine hpo.out.mono ?_
    rintro e w' ⟨rfl,rfl⟩
    clear hpo
    go_wp2_with fail
    refine hcall.out.mono ?_
    rintro e w4 ⟨rfl,⟨S4,E4,i4,v4⟩,b4⟩
    have hall:=hcl.out w4 (hbr.out.trans b4) S4 E4 i4 v4
    have hst4:=zaa hall.1
    have hv4:=zaa hall.2.1
    have hb4:=zaa hall.2.2
    clear i4 v4 b4 hcall hst hvr hbr hall hm
    go_wp2_with fail
    go_roundw
    case rel=>exact ⟨k+1,S4,E4,by omega,by go_num,hst4,hv4,hb4⟩
    case measure=>simp [Go.RowKit.intOf];omega
   ·rw [hp] at g6
    have hpo:=zaa (zyd _ _ g6)
    have hm:=stepOf_1
    have hcall:=zaa (istep_1 _ _ S3 E hgo'.out hp wr hvr.out)
    clear hp h0 h4 g6
    go_wp2_with fail
    refine hpo.out.mono ?_
    rintro e w' ⟨rfl,rfl⟩
    clear hpo
    go_wp2_with fail
    refine hcall.out.mono ?_
    rintro e w4 ⟨rfl,⟨S4,E4,i4,v4⟩,b4⟩
    have hall:=hcl.out w4 (hbr.out.trans b4) S4 E4 i4 v4
    have hst4:=zaa hall.1
    have hv4:=zaa hall.2.1
    have hb4:=zaa hall.2.2
    clear i4 v4 b4 hcall hst hvr hbr hall hm
    go_wp2_with fail
    go_roundw
    case rel=>exact ⟨k+1,S4,E4,by omega,by go_num,hst4,hv4,hb4⟩
    case measure=>simp [Go.RowKit.intOf];omega
   ·rw [hp] at g6
    have hpo:=zaa (zyc _ _ g6)
    have hm:=stepOf_2
    have hcall:=zaa (istep_2 _ _ S3 E hgo'.out hp wr hvr.out)
    clear hp h0 h4 g6
    go_wp2_with fail
    refine hpo.out.mono ?_
    rintro e w' ⟨rfl,rfl⟩
    clear hpo
    go_wp2_with fail
    refine hcall.out.mono ?_
    rintro e w4 ⟨rfl,⟨S4,E4,i4,v4⟩,b4⟩
    have hall:=hcl.out w4 (hbr.out.trans b4) S4 E4 i4 v4
    have hst4:=zaa hall.1
    have hv4:=zaa hall.2.1
    have hb4:=zaa hall.2.2
    clear i4 v4 b4 hcall hst hvr hbr hall hm
    go_wp2_with fail
    go_roundw
    case rel=>exact ⟨k+1,S4,E4,by omega,by go_num,hst4,hv4,hb4⟩
    case measure=>simp [Go.RowKit.intOf];omega
   ·rw [hp] at g6
    have hpo:=zaa (zyb _ _ g6)
    have hm:=stepOf_3
    have hcall:=zaa (istep_3 _ _ S3 E hgo'.out hp wr hvr.out)
    clear hp h0 h4 g6
    go_wp2_with fail
    refine hpo.out.mono ?_
    rintro e w' ⟨rfl,rfl⟩
    clear hpo
    go_wp2_with fail
    refine hcall.out.mono ?_
    rintro e w4 ⟨rfl,⟨S4,E4,i4,v4⟩,b4⟩
    have hall:=hcl.out w4 (hbr.out.trans b4) S4 E4 i4 v4
    have hst4:=zaa hall.1
    have hv4:=zaa hall.2.1
    have hb4:=zaa hall.2.2
    clear i4 v4 b4 hcall hst hvr hbr hall hm
    go_wp2_with fail
    go_roundw
    case rel=>exact ⟨k+1,S4,E4,by omega,by go_num,hst4,hv4,hb4⟩
    case measure=>simp [Go.RowKit.intOf];omega
   ·rw [hp] at g6
    have hpo:=zaa (zya _ _ g6)
    have hm:=stepOf_4
    have hcall:=zaa (istep_4 _ _ S3 E hgo'.out hp wr hvr.out)
    clear hp h0 h4 g6
    go_wp2_with fail
    refine hpo.out.mono ?_
    rintro e w' ⟨rfl,rfl⟩
    clear hpo
    go_wp2_with fail
    refine hcall.out.mono ?_
    rintro e w4 ⟨rfl,⟨S4,E4,i4,v4⟩,b4⟩
    have hall:=hcl.out w4 (hbr.out.trans b4) S4 E4 i4 v4
    have hst4:=zaa hall.1
    have hv4:=zaa hall.2.1
    have hb4:=zaa hall.2.2
    clear i4 v4 b4 hcall hst hvr hbr hall hm
    go_wp2_with fail
    go_roundw
    case rel=>exact ⟨k+1,S4,E4,by omega,by go_num,hst4,hv4,hb4⟩
    case measure=>simp [Go.RowKit.intOf];omega
  obtain rfl:k=N:=by omega
  have y:=zaa (show zoa D (k:Int) E from .inl ⟨hG'.out,hok'.out,by rw [Int.toNat_natCast];exact hst.out⟩)
  have hv3:=hvr.out
  have b3:=hbr.out
  obtain ⟨w3,hw3⟩:∃ w3,w3=wr:=⟨_,rfl⟩
  subst hw3
  clear hvr hbr hst hv
  have bb3:=zaa (show Below w.heap.size w w3 from (Z4 bb2.out (Z5 w2 _)).trans (b3.mono (by have:=hz1.out;omega)))
  have hR3:=(b3.block (w.heap.size+1) (by have:=hz1.out;omega)).trans hR2.out
  clear b3 hR2
  obtain ⟨aw',ad',aS',am',ag',cw',cd',cS',cm',cg',sv',mv',rfl⟩:=Y2.lits hv3.own
  have bE:=hv3.box
  dsimp only [Y2.cells] at bE
  obtain ⟨n0,n1,n2,n3,n4,n5,n6,n7,n8⟩:=U5 hR3
  have z0:=Z3 hR3 0
  have z1:=Z3 hR3 1
  have z2:=Z3 hR3 2
  have z3:=Z3 hR3 3
  have z4:=Z3 hR3 4
  have z5:=Z3 hR3 5
  have z6:=Z3 hR3 6
  have z7:=Z3 hR3 7
  have z8:=Z3 hR3 8
  obtain ⟨m0,m1,m2,m3,m4,m5,m6,m7,m8⟩:=U5 bE
  have hv3':=zaa hv3
  clear hv3 bE hR3
  go_wp2_with fail
  refine bodyPost_ret (v:=.agg #[.int .i64 E.base,.int .i64 E.pages,.slice aw' E.words.length cw',.slice ad' E.dirty.length cd',.slice aS' E.spans.length cS',.slice am' E.muts.length cm',.int .i64 E.phase,.int .i64 E.next,.slice ag' E.grey.length cg']) (by simp [results,Tryz.results51,go_sem,n0,n1,n2,n3,n4,n5,n6,n7,n8]) rfl ?_
  exact ⟨_,E,y.out,rfl,hv3'.out.handed bb3.out (R:=w.heap.size+1) (by omega) (by have:=hz1.out;omega) ((Chg.refl _ _).put9 (b:=w.heap.size+1) (by simp) _ _ _ _ _ _ _ _ _)⟩
theorem OwnW.through {w w1 wF:World} {base R:Nat} {S:Y2} {D:WD} (h:OwnW w1 base S D) (hb:Below w.heap.size w w1) (h1:w.heap.size≤R) (h2:R<base) (hc:Chg [R] w1 wF):OwnW wF w.heap.size S D∧Below w.heap.size w wF :=
 ⟨(h.chg0 hc (fun q hq=>by rw [List.mem_singleton.1 hq];omega)).base_le (by omega),Chg.below hb hc hb.size (fun q hq=>by rw [List.mem_singleton.1 hq];omega)⟩
theorem zsr (v:Value) (D:WD) (hs:zgk D) (hf:FitD D) (hc:CapW v) (w:World) (hr:RdW w v D) :
  Calls Tryz.prog 52 #[v] w fun e w'=>∃ S D',zhh D D'∧e=.returned (S.val D')∧OwnW w' w.heap.size S D'∧Below w.heap.size w w':=by
 have hs':=zaa hs
 have hc':=zaa hc
 have hf':=zaa hf
 clear hs hc hf
 obtain ⟨vw,vd,vs,vm,vg,rfl,a1,a2,a3,a4,a5⟩:=hr
 have bb:=Z4 (Z5 w (.cells #[.int .i64 D.base,.int .i64 D.pages,vw,vd,vs,vm,.int .i64 D.phase,.int .i64 D.next,vg] 30)) (Z5 _ (.cells #[.int .i64 0,.int .i64 0,.slice none 0 0,.slice none 0 0,.slice none 0 0,.slice none 0 0,.int .i64 0,.int .i64 0,.slice none 0 0] 30))
 have hA:=Z6 (Z5 (w.alloc (.cells #[.int .i64 D.base,.int .i64 D.pages,vw,vd,vs,vm,.int .i64 D.phase,.int .i64 D.next,vg] 30)) (.cells #[.int .i64 0,.int .i64 0,.slice none 0 0,.slice none 0 0,.slice none 0 0,.slice none 0 0,.int .i64 0,.int .i64 0,.slice none 0 0] 30)) (Y6 w (.cells #[.int .i64 D.base,.int .i64 D.pages,vw,vd,vs,vm,.int .i64 D.phase,.int .i64 D.next,vg] 30))
 have hR:=Y6 (w.alloc (.cells #[.int .i64 D.base,.int .i64 D.pages,vw,vd,vs,vm,.int .i64 D.phase,.int .i64 D.next,vg] 30)) (.cells #[.int .i64 0,.int .i64 0,.slice none 0 0,.slice none 0 0,.slice none 0 0,.slice none 0 0,.int .i64 0,.int .i64 0,.slice none 0 0] 30)
 rw [World.size_alloc] at hR
 have hW:=zaa (show RdW ((w.alloc (.cells #[.int .i64 D.base,.int .i64 D.pages,vw,vd,vs,vm,.int .i64 D.phase,.int .i64 D.next,vg] 30)).alloc (.cells #[.int .i64 0,.int .i64 0,.slice none 0 0,.slice none 0 0,.slice none 0 0,.slice none 0 0,.int .i64 0,.int .i64 0,.slice none 0 0] 30)) (.agg #[.int .i64 D.base,.int .i64 D.pages,vw,vd,vs,vm,.int .i64 D.phase,.int .i64 D.next,vg]) D from ⟨vw,vd,vs,vm,vg,rfl,a1.below bb,a2.below bb,a3.below bb,a4.below bb,a5.below bb⟩)
 have bb':=zaa bb
 have hA':=zaa hA
 have hR':=zaa hR
 have hz:=zaa (show ((w.alloc (.cells #[.int .i64 D.base,.int .i64 D.pages,vw,vd,vs,vm,.int .i64 D.phase,.int .i64 D.next,vg] 30)).alloc (.cells #[.int .i64 0,.int .i64 0,.slice none 0 0,.slice none 0 0,.slice none 0 0,.slice none 0 0,.int .i64 0,.int .i64 0,.slice none 0 0] 30)).heap.size=w.heap.size+1+1 by simp)
 have hrun:=zaa (zoy _ D 1 hs'.out hf'.out hc'.out _ hW.out)
 clear a1 a2 a3 a4 a5 bb hA hR
 go_enter Tryz.func52,Tryz.ntmps52
 go_wp2_with fail
 refine hrun.out.mono ?_
 rintro e w1 ⟨S,E,hE,rfl,ho,b1⟩
 obtain ⟨aw,nw,cw,ad,nd,cd,aS,nS,cS,am,nm,cm,ag,ng,cg,sv,mv,rfl⟩:=ho.lits
 have y:=zaa hE.one
 have hR1:=Z6 b1 hR'.out
 have bb1:=zaa (Z4 bb'.out b1)
 have ho':=zaa ho
 have hz1:=zaa (show w.heap.size+1+1≤w1.heap.size by have:=hz.out;have:=b1.size;omega)
 clear b1 hE ho hrun
 dsimp only [Y2.val]
 obtain ⟨n0,n1,n2,n3,n4,n5,n6,n7,n8⟩:=U5 hR1
 have z0:=Z3 hR1 0
 have z1:=Z3 hR1 1
 have z2:=Z3 hR1 2
 have z3:=Z3 hR1 3
 have z4:=Z3 hR1 4
 have z5:=Z3 hR1 5
 have z6:=Z3 hR1 6
 have z7:=Z3 hR1 7
 have z8:=Z3 hR1 8
 clear hR1
 go_wp2_with fail
 refine bodyPost_ret (v:=.agg #[.int .i64 E.base,.int .i64 E.pages,.slice aw nw cw,.slice ad nd cd,.slice aS nS cS,.slice am nm cm,.int .i64 E.phase,.int .i64 E.next,.slice ag ng cg]) (by simp [results,Tryz.results52,go_sem,n0,n1,n2,n3,n4,n5,n6,n7,n8]) rfl ?_
 exact ⟨_,E,y.out,rfl,ho'.out.through bb1.out (R:=w.heap.size+1) (by omega) (by have:=hz.out;omega) ((Chg.refl _ _).put9 (b:=w.heap.size+1) (by simp) _ _ _ _ _ _ _ _ _)⟩
end Go.Proofs.YtilkidaihbhfpaaGreat

namespace Go.Proofs.YtilkidaihbhfpaaGreat
open Go.RowKit
set_option linter.unusedVariables false
def zhz (D:WD) (a:Int) (D':WD):Prop :=
 (U0 D∧V1 D a D')∨(¬ U0 D∧D'=zeroD)
theorem zhz.unique {D:WD} {a:Int} {D1 D2:WD} (h1:zhz D a D1) (h2:zhz D a D2):D2=D1:=by
 rcases h1 with ⟨r,h1⟩ | ⟨n,rfl⟩ <;> rcases h2 with ⟨r',h2⟩ | ⟨n',rfl⟩
 ·exact h1.unique r.1 h2
 ·exact absurd r n'
 ·exact absurd r' n
 ·rfl
theorem zve {D:WD} {a:Int} {k j:Nat} {s:Y3} (hs:D.spans[k]?=some s):(N9 D a k j s).bulk=D.bulk+1∧(N9 D a k j s).spans.length=D.spans.length:=by
 refine ⟨?_,by simp [N9]⟩
 unfold WD.bulk N9
 simp only [List.length_append,List.length_set,List.length_singleton]
 rw [zxe D.spans k s { s with mark:=bits .or .i64 s.mark ((2:Int) ^ j) } hs rfl]
 omega
theorem zka (v:Value) (D:WD) (addr:Int) (ha:I64 addr) (hs:zgk D) (hf:FitD D) (hc:CapW v) (w:World) (hr:RdW w v D) :
  Calls Tryz.prog 28 #[v,.int .i64 addr] w fun e w'=>∃ S D',zhz D addr D'∧e=.returned (S.val D')∧OwnW w' w.heap.size S D'∧Below w.heap.size w w':=by
 have hs':=zaa hs
 have hc':=zaa hc
 have hf':=zaa hf
 have ha':=zaa ha
 clear hs hc hf ha
 obtain ⟨vw,vd,vs,vm,vg,rfl,a1,a2,a3,a4,a5⟩:=hr
 have bb:=Z4 (Z5 w (.cells #[.int .i64 D.base,.int .i64 D.pages,vw,vd,vs,vm,.int .i64 D.phase,.int .i64 D.next,vg] 30)) (Z5 _ (.cells #[.int .i64 0,.int .i64 0,.slice none 0 0,.slice none 0 0,.slice none 0 0,.slice none 0 0,.int .i64 0,.int .i64 0,.slice none 0 0] 30))
 have hA:=Z6 (Z5 (w.alloc (.cells #[.int .i64 D.base,.int .i64 D.pages,vw,vd,vs,vm,.int .i64 D.phase,.int .i64 D.next,vg] 30)) (.cells #[.int .i64 0,.int .i64 0,.slice none 0 0,.slice none 0 0,.slice none 0 0,.slice none 0 0,.int .i64 0,.int .i64 0,.slice none 0 0] 30)) (Y6 w (.cells #[.int .i64 D.base,.int .i64 D.pages,vw,vd,vs,vm,.int .i64 D.phase,.int .i64 D.next,vg] 30))
 have hR:=Y6 (w.alloc (.cells #[.int .i64 D.base,.int .i64 D.pages,vw,vd,vs,vm,.int .i64 D.phase,.int .i64 D.next,vg] 30)) (.cells #[.int .i64 0,.int .i64 0,.slice none 0 0,.slice none 0 0,.slice none 0 0,.slice none 0 0,.int .i64 0,.int .i64 0,.slice none 0 0] 30)
 rw [World.size_alloc] at hR
 have hW:=zaa (show RdW ((w.alloc (.cells #[.int .i64 D.base,.int .i64 D.pages,vw,vd,vs,vm,.int .i64 D.phase,.int .i64 D.next,vg] 30)).alloc (.cells #[.int .i64 0,.int .i64 0,.slice none 0 0,.slice none 0 0,.slice none 0 0,.slice none 0 0,.int .i64 0,.int .i64 0,.slice none 0 0] 30)) (.agg #[.int .i64 D.base,.int .i64 D.pages,vw,vd,vs,vm,.int .i64 D.phase,.int .i64 D.next,vg]) D from ⟨vw,vd,vs,vm,vg,rfl,a1.below bb,a2.below bb,a3.below bb,a4.below bb,a5.below bb⟩)
 have bb':=zaa bb
 have hA':=zaa hA
 have hR':=zaa hR
 have hz:=zaa (show ((w.alloc (.cells #[.int .i64 D.base,.int .i64 D.pages,vw,vd,vs,vm,.int .i64 D.phase,.int .i64 D.next,vg] 30)).alloc (.cells #[.int .i64 0,.int .i64 0,.slice none 0 0,.slice none 0 0,.slice none 0 0,.slice none 0 0,.int .i64 0,.int .i64 0,.slice none 0 0] 30)).heap.size=w.heap.size+1+1 by simp)
 clear a1 a2 a3 a4 a5 bb hA hR
 go_enter Tryz.func28,Tryz.ntmps28
 go_wp2_with fail
 generalize (w.alloc (.cells #[.int .i64 D.base,.int .i64 D.pages,vw,vd,vs,vm,.int .i64 D.phase,.int .i64 D.next,vg] 30)).alloc (.cells #[.int .i64 0,.int .i64 0,.slice none 0 0,.slice none 0 0,.slice none 0 0,.slice none 0 0,.int .i64 0,.int .i64 0,.slice none 0 0] 30)=W at *
 refine (J4 _ D hf'.out hc'.out _ hW.out).mono ?_
 rintro e w1 ⟨hq,b1⟩
 replace hq:=hq.elim
 have hR1:=Z6 b1 hR'.out
 have hA1:=Z6 b1 hA'.out
 have bb1:=zaa (Z4 bb'.out b1)
 have hW1:=zaa (hW.out.below b1)
 have hz1:=zaa (show w.heap.size+1+1≤w1.heap.size by have:=hz.out;have:=b1.size;omega)
 clear b1
 rcases hq with ⟨hG,rfl⟩ | ⟨hG,rfl⟩
 case inr =>
  have y:=zaa (show zhz D addr zeroD from .inr ⟨hG,rfl⟩)
  obtain ⟨n0,n1,n2,n3,n4,n5,n6,n7,n8⟩:=U5 hR1
  have z0:=Z3 hR1 0
  have z1:=Z3 hR1 1
  have z2:=Z3 hR1 2
  have z3:=Z3 hR1 3
  have z4:=Z3 hR1 4
  have z5:=Z3 hR1 5
  have z6:=Z3 hR1 6
  have z7:=Z3 hR1 7
  have z8:=Z3 hR1 8
  clear hR1 hA1 hG
  go_wp2_with fail
  refine bodyPost_ret (v:=zey.val zeroD) (by simp [results,Tryz.results28,go_sem,n0,n1,n2,n3,n4,n5,n6,n7,n8,Y2.val,zey,zeroD]) rfl ?_
  exact ⟨zey,zeroD,y.out,rfl,zfy _ _,Chg.below (bs:=[w.heap.size+1]) bb1.out ((Chg.refl _ _).put9 (b:=w.heap.size+1) (by simp) _ _ _ _ _ _ _ _ _) bb1.out.size (fun q hq=>by rw [List.mem_singleton.1 hq];omega)⟩
 have hG':=zaa hG
 clear hG
 obtain ⟨f0,f1,f2,f3,f4,f5,f6,f7,f8⟩:=U5 hA1
 have hown:=zaa (zlr w.heap.size _ D hs'.out w1 hW1.out ⟨_,rfl,hA1⟩)
 have hR1':=zaa hR1
 clear hR1 hA1
 go_wp2_with fail
 refine hown.out.mono ?_
 rintro e w2 ⟨S,rfl,ho,b2⟩
 obtain ⟨aw,ad,aS,am,ag,cw,cd,cS,cm,cg,sv,mv,rfl⟩:=Y2.lits ho
 have hv:=zaa (VarW.mk_box ho b2.size)
 have bb2:=zaa (Z4 bb1.out b2)
 have hR2:=zaa (Z6 (Z4 b2 (Z5 w2 (.cells (Y2.cells ⟨.slice aw D.words.length cw,.slice ad D.dirty.length cd,.slice aS D.spans.length cS,.slice am D.muts.length cm,.slice ag D.grey.length cg,sv,mv⟩ D) 30))) hR1'.out)
 clear ho b2 hown f0 f1 f2 f3 f4 f5 f6 f7 f8
 have hbs:=zaa (show w1.heap.size≤w2.heap.size from hv.out.le)
 have hRne:¬ (w2.heap.size=w.heap.size+1):=by have:=hz1.out;have:=hbs.out;omega
 have hRne':¬ (w.heap.size+1=w2.heap.size):=by omega
 dsimp only [Y2.val]
 dsimp only [Y2.cells] at hv hR2
 go_wp2_with fail
 refine (zjc _ _ D hG'.out.1 _ hv.out.rd hv.out.boxW).mono ?_
 rintro e w5 ⟨V,g,n,M,rfl,hvw,hVge,b5⟩
 have hVB:=zaa (show V ∉ w2.heap.size :: blks (Y2.all ⟨.slice aw D.words.length cw,.slice ad D.dirty.length cd,.slice aS D.spans.length cS,.slice am D.muts.length cm,.slice ag D.grey.length cg,sv,mv⟩) from fun hm=>by
  have h1:=hVge
  simp only [World.size_alloc] at h1
  rcases List.mem_cons.1 hm with rfl | hm
  ·omega
  ·have:=hv.out.own.lt _ hm
   simp only [World.size_alloc] at this
   omega)
 have hvw':=zaa hvw
 have hv5:=zaa (hv.out.below b5)
 have b5':=zaa b5
 clear hvw b5 hVge
 go_wp2_with fail
 refine (zow _ _ V g n M _ D addr hG'.out.1 ha'.out hs'.out.grey _ hv5.out hvw'.out hVB.out).mono ?_
 rintro e w3 ⟨rfl,⟨S3,E,i3,hv3,-⟩,b3⟩
 replace b3:=(b5'.out.mono (show w1.heap.size≤_ by have:=hbs.out;simp only [World.size_alloc];omega)).trans b3
 have y:=zaa (show zhz D addr E from .inl ⟨hG'.out,i3⟩)
 clear i3 hv hv5 hvw' hVB b5'
 have bb3:=zaa (show Below w.heap.size w w3 from (Z4 bb2.out (Z5 w2 _)).trans (b3.mono (by have:=hz1.out;omega)))
 have hR3:=(b3.block (w.heap.size+1) (by have:=hz1.out;omega)).trans hR2.out
 clear b3 hR2
 obtain ⟨aw',ad',aS',am',ag',cw',cd',cS',cm',cg',sv',mv',rfl⟩:=Y2.lits hv3.own
 have bE:=hv3.box
 dsimp only [Y2.cells] at bE
 obtain ⟨n0,n1,n2,n3,n4,n5,n6,n7,n8⟩:=U5 hR3
 have z0:=Z3 hR3 0
 have z1:=Z3 hR3 1
 have z2:=Z3 hR3 2
 have z3:=Z3 hR3 3
 have z4:=Z3 hR3 4
 have z5:=Z3 hR3 5
 have z6:=Z3 hR3 6
 have z7:=Z3 hR3 7
 have z8:=Z3 hR3 8
 obtain ⟨m0,m1,m2,m3,m4,m5,m6,m7,m8⟩:=U5 bE
 have hv3':=zaa hv3
 clear hv3 bE hR3
 go_wp2_with fail
 refine bodyPost_ret (v:=.agg #[.int .i64 E.base,.int .i64 E.pages,.slice aw' E.words.length cw',.slice ad' E.dirty.length cd',.slice aS' E.spans.length cS',.slice am' E.muts.length cm',.int .i64 E.phase,.int .i64 E.next,.slice ag' E.grey.length cg']) (by simp [results,Tryz.results28,go_sem,n0,n1,n2,n3,n4,n5,n6,n7,n8]) rfl ?_
 exact ⟨_,E,y.out,rfl,hv3'.out.handed bb3.out (R:=w.heap.size+1) (by omega) (by have:=hz1.out;omega) ((Chg.refl _ _).put9 (b:=w.heap.size+1) (by simp) _ _ _ _ _ _ _ _ _)⟩
end Go.Proofs.YtilkidaihbhfpaaGreat

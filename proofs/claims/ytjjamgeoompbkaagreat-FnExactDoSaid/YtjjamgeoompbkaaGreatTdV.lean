import Derived.Test.YtjjamgeoompbkaaGreatTdM
import Derived.Test.YtjjamgeoompbkaaGreatTdA
import Derived.Deep.DeepCutAuto
import Derived.Deep.OwnRows
import Derived.Laws.CopyOwn

set_option maxRecDepth 100000
set_option maxHeartbeats 16000000
set_option linter.all false
namespace Go.Proofs.YtjjamgeoompbkaaGreat
open Go.RowKit
open Go.Proofs.Tryz
def Y9.cells(S:Y9)(D:WD):Array Value:=#[.int .i64 D.base,.int .i64 D.pages,S.vw,S.vd,S.vs,S.vm,.int .i64 D.phase,.int .i64 D.next,S.vg]
structure VarW(w:World)(base B:Nat)(S:Y9)(D:WD):Prop where
 box:w.heap[B]?=some (.cells (S.cells D) 37 (0,0))
 own:OwnW w base S D
 le:base≤B
 ne:B∉blks S.all
section
variable {w w':World} {base B:Nat} {S:Y9} {D:WD}
theorem OwnW.mk'(h1:w.ownsRow base 3 1 S.vw D.words.length (D.words.map (Value.int .i64)))(h2:w.ownsRow base 4 1 S.vd D.dirty.length (D.dirty.map Value.bool))(h3:OwnS w base S.vs D.spans S.sv)(h4:OwnM w base S.vm D.muts S.mv)
  (h5:w.ownsRow base 3 1 S.vg D.grey.length (D.grey.map (Value.int .i64))) (h6:(S.ints.filterMap Value.ownBlock).Nodup):OwnW w base S D :=
 ⟨h1,h2,h3.row,h3.len,h3.inner,h4.row,h4.len,h4.inner,h5,h6⟩
theorem OwnW.putWords(h:OwnW w base S D)(c:Chg (blks [S.vw]) w w'){L:List Int}(r:w'.ownsRow base 3 1 S.vw L.length (L.map (Value.int .i64))):OwnW w' base S { D with words:=L }:=by
 have P:=h.parts
 exact .mk' r (U1 h.dirty c fun q hq=>P.d01.symm.not_mem (by simp) hq) (h.ownS.chg c (fun q hq=>P.d02.symm.not_mem (by simp) hq) (fun x hx q hq=>P.d02.symm.not_mem (by simp[hx]) hq))
  (h.ownM.chg c (fun q hq=>P.d03.symm.not_mem (by simp) hq) (fun x hx q hq=>P.d03.symm.not_mem (by simp[hx]) hq)) (U1 h.grey c fun q hq=>P.d04.symm.not_mem (by simp) hq) h.nodup
theorem OwnW.putDirty(h:OwnW w base S D)(c:Chg (blks [S.vd]) w w'){L:List Bool}(r:w'.ownsRow base 4 1 S.vd L.length (L.map Value.bool)):OwnW w' base S { D with dirty:=L }:=by
 have P:=h.parts
 exact .mk' (U1 h.words c fun q hq=>P.d01.not_mem (by simp) hq) r (h.ownS.chg c (fun q hq=>P.d12.symm.not_mem (by simp) hq) (fun x hx q hq=>P.d12.symm.not_mem (by simp[hx]) hq))
  (h.ownM.chg c (fun q hq=>P.d13.symm.not_mem (by simp) hq) (fun x hx q hq=>P.d13.symm.not_mem (by simp[hx]) hq)) (U1 h.grey c fun q hq=>P.d14.symm.not_mem (by simp) hq) h.nodup
theorem OwnW.putSpans(h:OwnW w base S D)(c:Chg (blks (S.vs::V9 S.sv)) w w'){L:List Y7}(r:OwnS w' base S.vs L S.sv):OwnW w' base S { D with spans:=L }:=by
 have P:=h.parts
 exact .mk' (U1 h.words c fun q hq=>P.d02.not_mem (by simp) hq) (U1 h.dirty c fun q hq=>P.d12.not_mem (by simp) hq) r
  (h.ownM.chg c (fun q hq=>P.d23.symm.not_mem (by simp) hq) (fun x hx q hq=>P.d23.symm.not_mem (by simp[hx]) hq)) (U1 h.grey c fun q hq=>P.d24.symm.not_mem (by simp) hq) h.nodup
theorem OwnW.putMuts(h:OwnW w base S D)(c:Chg (blks (S.vm::S.mv)) w w'){L:List (List Int)}(r:OwnM w' base S.vm L S.mv):OwnW w' base S { D with muts:=L }:=by
 have P:=h.parts
 exact .mk' (U1 h.words c fun q hq=>P.d03.not_mem (by simp) hq) (U1 h.dirty c fun q hq=>P.d13.not_mem (by simp) hq)
  (h.ownS.chg c (fun q hq=>P.d23.not_mem (by simp) hq) (fun x hx q hq=>P.d23.not_mem (by simp[hx]) hq)) r (U1 h.grey c fun q hq=>P.d34.symm.not_mem (by simp) hq) h.nodup
theorem OwnW.chg(h:OwnW w base S D){bs:List Nat}(c:Chg bs w w')(hn:∀k,k∈blks S.all→k∉bs):OwnW w' base S D:=by
 have hm:∀x,x∈S.all→∀q,x.ownBlock=some q→q∉bs:=fun x hx q hq=>hn q (List.mem_filterMap.2 ⟨x,hx,hq⟩)
 exact .mk' (U1 h.words c (hm _ (by simp[Y9.all]))) (U1 h.dirty c (hm _ (by simp[Y9.all]))) (h.ownS.chg c (hm _ (by simp[Y9.all])) (fun x hx=>hm x (by simp[Y9.all,hx])))
  (h.ownM.chg c (hm _ (by simp[Y9.all])) (fun x hx=>hm x (by simp[Y9.all,hx]))) (U1 h.grey c (hm _ (by simp[Y9.all]))) h.nodup
theorem VarW.rd(h:VarW w base B S D):RdW w (S.val D) D:=h.own.rd
theorem VarW.boxW(h:VarW w base B S D):BoxW w B (S.val D):=⟨_,rfl,h.box⟩
theorem VarW.cell(h:VarW w base B S D)(j:Nat)(u:Value)(hu:(S.cells D)[j]?=some u):w.cell? ⟨B,j,none⟩=some u:=Z6 h.box j u hu
theorem VarW.frz(h:VarW w base B S D)(j:Nat):w.frozen? ⟨B,j,none⟩=false:=Z9 h.box j
theorem VarW.lt(h:VarW w base B S D):B<w.heap.size:=(Array.getElem?_eq_some_iff.1 h.box).1
theorem VarW.below(h:VarW w base B S D)(hb:Below w.heap.size w w'):VarW w' base B S D:=⟨Z8 hb h.box,h.own.below hb,h.le,h.ne⟩
theorem VarW.drewN(h:VarW w base B S D)(n:Nat):VarW (w.drewN n) base B S D:=h.below (below_drewN (Below.refl _ _) n)
theorem VarW.drew(h:VarW w base B S D):VarW w.drew base B S D:=h.drewN 1
theorem VarW.keep(h:VarW w base B S D){bs:List Nat}(c:Chg bs w w')(hn:∀k,k∈bs→k∈blks S.all):w'.heap[B]?=some (.cells (S.cells D) 37 (0,0)) :=
 (c.block B h.lt fun hm=>h.ne (hn B hm)).trans h.box
theorem zkx{x:Value}(hx:x∈S.all):∀k,k∈blks [x]→k∈blks S.all:=fun k hk=>by
 obtain⟨y,hy,e⟩:=List.mem_filterMap.1 hk;obtain rfl:=List.mem_singleton.1 hy;exact List.mem_filterMap.2 ⟨y,hx,e⟩
theorem VarW.bel(h:VarW w base B S D){bs:List Nat}(c:Chg bs w w')(hn:∀k,k∈bs→k∈blks S.all):Below base w w':=by
 have hB:=h.lt;have hle:=h.le;exact Chg.below (Below.refl _ _) c (by omega) fun x hx=>(h.own.lt x (hn x hx)).1
theorem VarW.putWords(h:VarW w base B S D)(c:Chg (blks [S.vw]) w w'){L:List Int}(r:w'.ownsRow base 3 1 S.vw L.length (L.map (Value.int .i64))):VarW w' base B S { D with words:=L }∧Below base w w' :=
 ⟨⟨h.keep c (zkx (by simp[Y9.all])),h.own.putWords c r,h.le,h.ne⟩,h.bel c (zkx (by simp[Y9.all]))⟩
theorem VarW.putDirty(h:VarW w base B S D)(c:Chg (blks [S.vd]) w w'){L:List Bool}(r:w'.ownsRow base 4 1 S.vd L.length (L.map Value.bool)):VarW w' base B S { D with dirty:=L }∧Below base w w' :=
 ⟨⟨h.keep c (zkx (by simp[Y9.all])),h.own.putDirty c r,h.le,h.ne⟩,h.bel c (zkx (by simp[Y9.all]))⟩
theorem zqt:∀k,k∈blks (S.vs::V9 S.sv)→k∈blks S.all:=zit fun x hx=>by
 simp only[Y9.all,List.mem_append,List.mem_cons]at hx ⊢
 rcases hx with hx|hx<;>simp[hx]
theorem zul:∀k,k∈blks (S.vm::S.mv)→k∈blks S.all:=zit fun x hx=>by
 simp only[Y9.all,List.mem_append,List.mem_cons]at hx ⊢
 rcases hx with hx|hx<;>simp[hx]
theorem VarW.putSpans(h:VarW w base B S D)(c:Chg (blks (S.vs::V9 S.sv)) w w'){L:List Y7}(r:OwnS w' base S.vs L S.sv):VarW w' base B S { D with spans:=L }∧Below base w w' :=
 ⟨⟨h.keep c zqt,h.own.putSpans c r,h.le,h.ne⟩,h.bel c zqt⟩
theorem VarW.putMuts(h:VarW w base B S D)(c:Chg (blks (S.vm::S.mv)) w w'){L:List (List Int)}(r:OwnM w' base S.vm L S.mv):VarW w' base B S { D with muts:=L }∧Below base w w' :=
 ⟨⟨h.keep c zul,h.own.putMuts c r,h.le,h.ne⟩,h.bel c zul⟩
theorem VarW.word(h:VarW w base B S D){g cap:Nat}(hg:S.vw=.slice (some ⟨g,0,none⟩) D.words.length cap)(i:Nat)(x:Int) :
  VarW (w.setCell ⟨g,i,none⟩ (.int .i64 x)) base B S { D with words:=D.words.set i x }∧Below base w (w.setCell ⟨g,i,none⟩ (.int .i64 x)):=by
 have hr:=h.own.words;rw[hg]at hr;have hst:=hr.stored i (.int .i64 x);refine h.putWords (L:=D.words.set i x) (zqg (x:=S.vw) (by rw[hg];exact hst.2)) ?_;rw[List.length_set,hg,List.map_set];exact hst.1
theorem VarW.dirty(h:VarW w base B S D){g cap:Nat}(hg:S.vd=.slice (some ⟨g,0,none⟩) D.dirty.length cap)(i:Nat)(x:Bool) :
  VarW (w.setCell ⟨g,i,none⟩ (.bool x)) base B S { D with dirty:=D.dirty.set i x }∧Below base w (w.setCell ⟨g,i,none⟩ (.bool x)):=by
 have hr:=h.own.dirty;rw[hg]at hr;have hst:=hr.stored i (.bool x);refine h.putDirty (L:=D.dirty.set i x) (zqg (x:=S.vd) (by rw[hg];exact hst.2)) ?_;rw[List.length_set,hg,List.map_set];exact hst.1
theorem VarW.headD(h:VarW w base B S D)(hl:0<D.dirty.length):∃g cap,S.vd=.slice (some ⟨g,0,none⟩) D.dirty.length cap:=by
 rcases h.own.dirty.2 with⟨_,h0⟩|⟨g,cap,cur,e,_⟩
 ·omega
 ·exact⟨g,cap,e⟩
theorem VarW.headW(h:VarW w base B S D)(hl:0<D.words.length):∃g cap,S.vw=.slice (some ⟨g,0,none⟩) D.words.length cap:=by
 rcases h.own.words.2 with⟨_,h0⟩|⟨g,cap,cur,e,_⟩
 ·omega
 ·exact⟨g,cap,e⟩
theorem VarW.headS(h:VarW w base B S D)(hl:0<D.spans.length):∃g cap,S.vs=.slice (some ⟨g,0,none⟩) D.spans.length cap:=by
 rcases h.own.spans.2 with⟨_,h0⟩|⟨g,cap,cur,e,_⟩
 ·omega
 ·exact⟨g,cap,e⟩
end
theorem zwl(L:List Y7)(sv:List (Value × Value))(i j:Nat)(s s':Y7)(p:Value × Value)(u:Value)(h1:L[i]?=some s)(h2:sv[i]?=some p)(hj:j<6)(he:(Q8 s p).set j u=Q8 s' p) :
  (P4 L sv).set (i*6+j) u=P4 (L.set i s') sv:=by
 induction i generalizing L sv with
 | zero =>
  cases L with
  | nil=>simp at h1
  | cons a L =>
   cases sv with
   | nil=>simp at h2
   | cons q sv =>
    simp at h1 h2;subst h1;subst h2;simp only[P4,List.zip_cons_cons,List.flatMap_cons,List.set_cons_zero];rw[List.set_append_left _ _ (by simp[Q8];omega),Nat.zero_mul,Nat.zero_add,he]
 | succ i ih =>
  cases L with
  | nil=>simp at h1
  | cons a L =>
   cases sv with
   | nil=>simp at h2
   | cons q sv =>
    simp at h1 h2;have:=ih L sv h1 h2;simp only[P4,List.zip_cons_cons,List.flatMap_cons,List.set_cons_succ]at this ⊢;rw[←this,List.set_append_right _ _ (by simp[Q8];omega)];rw[show(i+1)*6+j-(Q8 a q).length=i*6+j by simp[Q8];omega]
section
variable {w w':World} {base B:Nat} {S:Y9} {D:WD}
theorem OwnS.head1{v:Value}{L:List Y7}{sv:List (Value × Value)}{g cap:Nat}(h:OwnS w base (.slice (some ⟨g,0,none⟩) L.length cap) L sv)(i j:Nat)(s s':Y7)(p:Value × Value)(u:Value)(hs:L[i]?=some s)(hp:sv[i]?=some p)(hj:j<4)
  (he:(Q8 s p).set j u=Q8 s' p) (el:s'.lens=s.lens) (ep:s'.ptrs=s.ptrs) :
  OwnS (w.setCell ⟨g,i*6+j,none⟩ u) base (.slice (some ⟨g,0,none⟩) L.length cap) (L.set i s') sv∧Chg [g] w (w.setCell ⟨g,i*6+j,none⟩ u):=by
 have c:=Chg.of_grown (U5 w g (i*6+j) u) (bs:=[g]) (by simp);refine⟨⟨?_,by rw[List.length_set];exact h.len,fun q t r ht hq=>?_⟩,c⟩
 ·have hst:=h.row.stored (i*6+j) u
  rw[zwl L sv i j s s' p u hs hp (by omega) he]at hst;rw[List.length_set];exact hst.1
 ·have hlt:=(List.getElem?_eq_some_iff.1 hs).1
  have key:∃t0,L[q]?=some t0∧t.lens=t0.lens∧t.ptrs=t0.ptrs:=by
   by_cases e:q=i
   ·subst e
    simp[hlt]at ht;subst ht;exact⟨s,hs,el,ep⟩
   ·rw[List.getElem?_set_ne (fun h=>e h.symm)]at ht
    exact⟨t,ht,rfl,rfl⟩
  obtain⟨t0,h0,e1,e2⟩:=key;rw[e1,e2];have hi:=h.inner q t0 r h0 hq
  have ne:∀{size m:Nat} {x:Value} {xs:List Value},w.ownsRow base 3 size x m xs→∀k,x.ownBlock=some k→k∉[g]:=fun hx k hk=>by
   have:=E7 hx h.row (by decide) k hk;simp only[List.mem_singleton];intro e;subst e;exact this rfl
  exact⟨U1 hi.1 c (ne hi.1),U1 hi.2 c (ne hi.2)⟩
theorem VarW.head(h:VarW w base B S D){g cap:Nat}(hg:S.vs=.slice (some ⟨g,0,none⟩) D.spans.length cap)(i j:Nat)(s s':Y7)(p:Value × Value)(u:Value)(hs:D.spans[i]?=some s)(hp:S.sv[i]?=some p)(hj:j<4)
  (he:(Q8 s p).set j u=Q8 s' p) (el:s'.lens=s.lens) (ep:s'.ptrs=s.ptrs) :
  VarW (w.setCell ⟨g,i*6+j,none⟩ u) base B S { D with spans:=D.spans.set i s' }∧Below base w (w.setCell ⟨g,i*6+j,none⟩ u):=by
 have ho:=h.own.ownS;rw[hg]at ho;have hst:=ho.head1 (v:=S.vs) i j s s' p u hs hp hj he el ep;refine h.putSpans (L:=D.spans.set i s') (hst.2.mono fun x hx=>?_) (by rw[hg];exact hst.1);rw[List.mem_singleton.1 hx];exact List.mem_filterMap.2 ⟨S.vs,by simp,by rw[hg];rfl⟩
theorem VarW.mark(h:VarW w base B S D){g cap:Nat}(hg:S.vs=.slice (some ⟨g,0,none⟩) D.spans.length cap)(i:Nat)(s:Y7)(p:Value × Value)(m:Int)(hs:D.spans[i]?=some s)(hp:S.sv[i]?=some p) :
  VarW (w.setCell ⟨g,i*6+2,none⟩ (.int .i64 m)) base B S { D with spans:=D.spans.set i { s with mark:=m } }∧Below base w (w.setCell ⟨g,i*6+2,none⟩ (.int .i64 m)) :=
 h.head hg i 2 s _ p _ hs hp (by omega) rfl rfl rfl
theorem VarW.svAt(h:VarW w base B S D){i:Nat}{s:Y7}(hs:D.spans[i]?=some s):∃p,S.sv[i]?=some p :=
 ⟨_,List.getElem?_eq_getElem (by have:=h.own.svl;have:=(List.getElem?_eq_some_iff.1 hs).1;omega)⟩
theorem zww{x:Value}{g cap n i:Nat}{u:Value}(hx:x=.slice (some ⟨g,0,none⟩) n cap):w.grownBy (w.setCell ⟨g,i,none⟩ u) x.ownBlock:=by
 rw[hx];exact U5 w g i u
theorem VarW.lens(h:VarW w base B S D){g cap:Nat}(k i:Nat)(s:Y7)(p:Value × Value)(x:Int)(hs:D.spans[k]?=some s)(hp:S.sv[k]?=some p)(hg:p.1=.slice (some ⟨g,0,none⟩) s.lens.length cap) :
  VarW (w.setCell ⟨g,i,none⟩ (.int .i64 x)) base B S { D with spans:=D.spans.set k { s with lens:=s.lens.set i x } }∧Below base w (w.setCell ⟨g,i,none⟩ (.int .i64 x)):=by
 have ho:=h.own.ownS;have hi:=(ho.inner k s p hs hp).1;rw[hg]at hi;have hst:=hi.stored i (.int .i64 x);have hr:=ho.lists h.own.parts.sv k s { s with lens:=s.lens.set i x } p hs hp rfl rfl rfl rfl p.1 (.inl rfl) (zww hg) (.inl ⟨rfl,rfl,by rw[hg,List.length_set,List.map_set];exact hst.1⟩);refine h.putSpans (L:=D.spans.set k _) (Chg.of_grown (zww (u:=.int .i64 x) (i:=i) hg) fun y hy=>?_) hr;exact List.mem_filterMap.2 ⟨p.1,List.mem_cons_of_mem _ (List.mem_flatMap.2 ⟨p,List.mem_of_getElem? hp,by simp⟩),hy⟩
theorem VarW.ptrs(h:VarW w base B S D){g cap:Nat}(k i:Nat)(s:Y7)(p:Value × Value)(x:Int)(hs:D.spans[k]?=some s)(hp:S.sv[k]?=some p)(hg:p.2=.slice (some ⟨g,0,none⟩) s.ptrs.length cap) :
  VarW (w.setCell ⟨g,i,none⟩ (.int .i64 x)) base B S { D with spans:=D.spans.set k { s with ptrs:=s.ptrs.set i x } }∧Below base w (w.setCell ⟨g,i,none⟩ (.int .i64 x)):=by
 have ho:=h.own.ownS;have hi:=(ho.inner k s p hs hp).2;rw[hg]at hi;have hst:=hi.stored i (.int .i64 x);have hr:=ho.lists h.own.parts.sv k s { s with ptrs:=s.ptrs.set i x } p hs hp rfl rfl rfl rfl p.2 (.inr rfl) (zww hg) (.inr ⟨rfl,rfl,by rw[hg,List.length_set,List.map_set];exact hst.1⟩);refine h.putSpans (L:=D.spans.set k _) (Chg.of_grown (zww (u:=.int .i64 x) (i:=i) hg) fun y hy=>?_) hr;exact List.mem_filterMap.2 ⟨p.2,List.mem_cons_of_mem _ (List.mem_flatMap.2 ⟨p,List.mem_of_getElem? hp,by simp⟩),hy⟩
theorem J3{v:Value}{L:List Int}(h:w.ownsRow base 3 1 v L.length (L.map (Value.int .i64)))(hl:0<L.length):∃g cap,v=.slice (some ⟨g,0,none⟩) L.length cap:=by
 rcases h.2 with⟨_,h0⟩|⟨g,cap,cur,e,_⟩
 ·omega
 ·exact⟨g,cap,e⟩
theorem VarW.root(h:VarW w base B S D){g cap:Nat}(m i:Nat)(r:List Int)(u:Value)(x:Int)(hs:D.muts[m]?=some r)(hp:S.mv[m]?=some u)(hg:u=.slice (some ⟨g,0,none⟩) r.length cap) :
  VarW (w.setCell ⟨g,i,none⟩ (.int .i64 x)) base B S { D with muts:=D.muts.set m (r.set i x) }∧Below base w (w.setCell ⟨g,i,none⟩ (.int .i64 x)):=by
 have ho:=h.own.ownM;have hi:=ho.inner m r u hs hp;rw[hg]at hi;have hst:=hi.stored i (.int .i64 x);have hr:=ho.list h.own.parts.mv m r (r.set i x) u hs hp (zww hg) (by rw[hg,List.length_set,List.map_set];exact hst.1);refine h.putMuts (L:=D.muts.set m _) (Chg.of_grown (zww (u:=.int .i64 x) (i:=i) hg) fun y hy=>?_) hr;exact List.mem_filterMap.2 ⟨u,List.mem_cons_of_mem _ (List.mem_of_getElem? hp),hy⟩
theorem VarW.nes(h:VarW w base B S D){gs cs gl cl gp cp:Nat}{k:Nat}{s:Y7}{p:Value × Value}(hg:S.vs=.slice (some ⟨gs,0,none⟩) D.spans.length cs)(hs:D.spans[k]?=some s)(hp:S.sv[k]?=some p)
  (h1:p.1=.slice (some ⟨gl,0,none⟩) s.lens.length cl) (h2:p.2=.slice (some ⟨gp,0,none⟩) s.ptrs.length cp):gl≠gs∧gp≠gs∧gl≠gp∧B≠gs∧B≠gl∧B≠gp:=by
 have hi:=h.own.inner k s p hs hp;have hr:=h.own.spans;rw[hg]at hr;rw[h1,h2]at hi;have hm:=List.mem_of_getElem? hp;have n1:gl≠gs:=fun e=>E7 hi.1 hr (by decide) gl rfl (by rw[e];rfl);have n2:gp≠gs:=fun e=>E7 hi.2 hr (by decide) gp rfl (by rw[e];rfl)
 have n3:gl≠gp:=by
  obtain⟨A,C,hab,_⟩:=zqr S.sv k p hp;have ha:=h.own.parts.sv;rw[hab]at ha;intro e;exact((zlb ha (k:=gl)).1 (by rw[h1];rfl)).1 (by rw[h2,e];rfl)
 have inS:∀x,x∈S.all→∀q,x.ownBlock=some q→B≠q:=fun x hx q hq e=>h.ne (by rw[e];exact List.mem_filterMap.2 ⟨x,hx,hq⟩)
 have mS:∀x,x=p.1∨x=p.2→x∈S.all:=fun x hx=>by
  have:x∈V9 S.sv:=List.mem_flatMap.2 ⟨p,hm,by rcases hx with rfl|rfl<;>simp⟩;simp[Y9.all,this]
 exact⟨n1,n2,n3,inS S.vs (by simp[Y9.all]) gs (by rw[hg];rfl),inS p.1 (mS _ (.inl rfl)) gl (by rw[h1];rfl),inS p.2 (mS _ (.inr rfl)) gp (by rw[h2];rfl)⟩
theorem VarW.spanAt(h:VarW w base B S D){g cap:Nat}(hg:S.vs=.slice (some ⟨g,0,none⟩) D.spans.length cap){k:Nat}{s:Y7}{p:Value × Value}(hs:D.spans[k]?=some s)(hp:S.sv[k]?=some p)(j:Nat)(hj:j<6) :
  w.cell? ⟨g,k*6+j,none⟩=(Q8 s p)[j]?:=by
 have ho:=h.own.ownS;rw[hg]at ho;exact ho.cellOf k s p hs hp j hj
theorem VarW.six(h:VarW w base B S D){g cap:Nat}(hg:S.vs=.slice (some ⟨g,0,none⟩) D.spans.length cap){k:Nat}{s:Y7}{p:Value × Value}(hs:D.spans[k]?=some s)(hp:S.sv[k]?=some p) :
  w.cell? ⟨g,k*6,none⟩=some (.int .i64 s.page)∧w.cell? ⟨g,k*6+1,none⟩=some (.int .i64 s.cls)∧w.cell? ⟨g,k*6+2,none⟩=some (.int .i64 s.mark)∧w.cell? ⟨g,k*6+3,none⟩=some (.bool s.swept)∧w.cell? ⟨g,k*6+4,none⟩=some p.1∧w.cell? ⟨g,k*6+5,none⟩=some p.2 :=
 ⟨h.spanAt hg hs hp 0 (by omega),h.spanAt hg hs hp 1 (by omega),h.spanAt hg hs hp 2 (by omega),h.spanAt hg hs hp 3 (by omega),h.spanAt hg hs hp 4 (by omega),h.spanAt hg hs hp 5 (by omega)⟩
theorem VarW.frzS(h:VarW w base B S D){g cap:Nat}(hg:S.vs=.slice (some ⟨g,0,none⟩) D.spans.length cap)(j:Nat):w.frozen? ⟨g,j,none⟩=false:=by
 have ho:=h.own.ownS;rw[hg]at ho;exact ho.frz j
theorem U0{v:Value}{L:List Int}{g cap:Nat}(h:w.ownsRow base 3 1 v L.length (L.map (Value.int .i64)))(hv:v=.slice (some ⟨g,0,none⟩) L.length cap)(i:Nat)(hi:i<L.length) :
  w.cell? ⟨g,i,none⟩=some (.int .i64 (L[i]?.getD 0))∧w.frozen? ⟨g,i,none⟩=false:=by
 subst hv;refine⟨?_,h.frozenAt i⟩;rw[h.cellAt i (by omega)];simp[hi]
end
def zgz(L:List Bool)(f:Int):Nat→List Bool
 | 0=>L
 | k+1=>(zgz L f k).set (f / 8+(k:Int)).toNat true
def zfs(L:List Bool)(f m:Int):List Bool:=zgz L f (cnt f m)
theorem zox(L:List Bool)(f:Int)(k:Nat):(zgz L f k).length=L.length:=by
 induction k with
 | zero=>rfl
 | succ k ih=>unfold zgz;rw[List.length_set,ih]
theorem znw(L:List Bool)(f m:Int):(zfs L f m).length=L.length:=zox _ _ _
theorem upto_at(f:Int)(n k:Nat)(h:k<n):(upto f n)[k]?.getD 0=f / 8+(k:Int):=by simp[upto,h]
theorem zub{i:Nat}(h1:i≤16):wrap64 ((2:Int)^i)=2^i:=by
 have hp:=zpo h1;have e:((2:Int)^i)=((2^i:Nat):Int):=(Int.natCast_pow 2 i).symm;rw[e];generalize 2^i=p at hp ⊢;exact IntWalk.wrap64_in _ (by omega)
structure zex(D:WD)(s:Y7)(j:Nat):Prop where
 cls:sl' s.cls≠0
 lens:(s.lens.length:Int)=sl' s.cls
 ptrs:(s.ptrs.length:Int)=sl' s.cls
 j:j<s.lens.length
 pg0:0≤s.page
 pg1:s.page<D.pages
 words:(D.words.length:Int)=D.pages*32
 dirty:(D.dirty.length:Int)=D.pages*4
 pg:D.pages≤12
theorem zex.bd{D:WD}{s:Y7}{j:Nat}(h:zex D s j):0≤atW s (j:Int)∧atW s (j:Int)+sz s.cls≤D.pages*32∧2≤sz s.cls∧sz s.cls≤16∧(j:Int)≤15∧atW s (j:Int)≤1000:=by
 have h1:=h.lens;have h2:=h.j;have h3:=zhx (c:=s.cls) (i:=(j:Int)) (t:=sz s.cls-1) (by omega) (by omega) (by have:=zkl h.cls;omega) (by omega);have h4:=zkl h.cls;have h5:=zkm s.cls;have h6:=zfj s.cls;have h7:=h.pg0;have h8:=h.pg1;have h9:=h.pg;unfold atW;omega
section
variable {w w1:World} {base B:Nat} {S:Y9} {D:WD}
theorem VarW.newSpans(h:VarW w base B S D){v:Value}{L:List Y7}{sv:List (Value × Value)}(r:OwnS w base v L sv)(hn:(({ S with vs:=v,sv:=sv }:Y9).ints.filterMap Value.ownBlock).Nodup)
  (hB:∀x,x∈v::V9 sv→x.ownBlock≠some B) :
  VarW (w.setCell ⟨B,4,none⟩ v) base B { S with vs:=v,sv:=sv } { D with spans:=L }∧Below base w (w.setCell ⟨B,4,none⟩ v):=by
 have c:=Chg.of_grown (U5 w B 4 v) (bs:=[B]) (by simp);have hne:∀k,k∈blks S.all→k∉[B]:=fun k hk hm=>h.ne (by rw[List.mem_singleton.1 hm]at hk;exact hk);have hm:∀x,x∈S.all→∀q,x.ownBlock=some q→q∉[B]:=fun x hx q hq=>hne q (List.mem_filterMap.2 ⟨x,hx,hq⟩);refine⟨⟨?_,?_,h.le,?_⟩,(Below.refl _ _).setCell (p:=⟨B,4,none⟩) h.le _⟩
 ·have:=heap_setCell_same w B 4 _ _ v h.box
  simpa[Y9.cells]using this
 ·refine .mk' (U1 h.own.words c (hm _ (by simp[Y9.all]))) (U1 h.own.dirty c (hm _ (by simp[Y9.all]))) (r.chg c (fun q hq hm=>hB v (by simp) (by rw[hq,List.mem_singleton.1 hm])) (fun x hx q hq hm=>hB x (by simp[hx]) (by rw[hq,List.mem_singleton.1 hm])))
   (h.own.ownM.chg c (hm _ (by simp[Y9.all])) (fun x hx=>hm x (by simp[Y9.all,hx]))) (U1 h.own.grey c (hm _ (by simp[Y9.all]))) hn
 ·intro hB2
  obtain⟨x,hx,hxB⟩:=List.mem_filterMap.1 hB2;simp only[Y9.all,List.mem_append,List.mem_cons,List.not_mem_nil,or_false]at hx;have old:∀y,y∈S.all→y.ownBlock≠some B:=fun y hy e=>h.ne (List.mem_filterMap.2 ⟨y,hy,e⟩)
  rcases hx with(((rfl|rfl)|(rfl|hx))|(rfl|hx))|rfl
  ·exact old _ (by simp[Y9.all]) hxB
  ·exact old _ (by simp[Y9.all]) hxB
  ·exact hB _ (by simp) hxB
  ·exact hB x (by simp[hx]) hxB
  ·exact old _ (by simp[Y9.all]) hxB
  ·exact old x (by simp[Y9.all,hx]) hxB
  ·exact old _ (by simp[Y9.all]) hxB
end
theorem zwk(L:List Y7)(sv:List (Value × Value))(k:Nat)(h:sv.length=L.length):(P4 L sv).take (k*6)=P4 (L.take k) (sv.take k):=by
 induction k generalizing L sv with
 | zero=>simp[P4]
 | succ k ih =>
  cases L with
  | nil=>simp[P4]
  | cons s L =>
   cases sv with
   | nil=>simp at h
   | cons p sv =>
    have:=ih L sv (by simpa using h);simp only[P4,List.take_succ_cons,List.zip_cons_cons,List.flatMap_cons]at this ⊢;rw[←this,show(k+1)*6=(Q8 s p).length+k*6 by simp[Q8];omega,List.take_length_add_append]
theorem zwn(L:List Y7)(sv:List (Value × Value))(k:Nat)(h:sv.length=L.length):(P4 L sv).drop (k*6)=P4 (L.drop k) (sv.drop k):=by
 induction k generalizing L sv with
 | zero=>simp
 | succ k ih =>
  cases L with
  | nil =>
   cases sv with
   | nil=>simp[P4]
   | cons p sv=>simp at h
  | cons s L =>
   cases sv with
   | nil=>simp at h
   | cons p sv =>
    have:=ih L sv (by simpa using h);simp only[P4,List.drop_succ_cons,List.zip_cons_cons,List.flatMap_cons]at this ⊢;rw[←this,show(k+1)*6=(Q8 s p).length+k*6 by simp[Q8];omega,List.drop_append];simp
theorem zrw(L M:List Y7)(sv mv:List (Value × Value))(h:sv.length=L.length):P4 (L++M) (sv++mv)=P4 L sv++P4 M mv:=by
 unfold P4;rw[List.zip_append (by omega),List.flatMap_append]
theorem oneV(L:List Y7)(sv:List (Value × Value))(h:∀p,p∈sv→p.1.oneCell'=true∧p.2.oneCell'=true):∀u,u∈P4 L sv→u.oneCell'=true:=by
 intro u hu;obtain⟨x,hx,hu⟩:=List.mem_flatMap.1 hu;have hp:=h x.2 (List.of_mem_zip hx).2;simp only[Q8,List.mem_cons,List.not_mem_nil,or_false]at hu
 rcases hu with rfl|rfl|rfl|rfl|rfl|rfl
 ·rfl
 ·rfl
 ·rfl
 ·rfl
 ·exact hp.1
 ·exact hp.2
theorem oneV_own{w:World}{base:Nat}{v:Value}{L:List Y7}{sv:List (Value × Value)}(h:OwnS w base v L sv):∀u,u∈P4 L sv→u.oneCell'=true:=by
 refine oneV L sv fun p hp=>?_;obtain⟨i,hi⟩:=List.mem_iff_getElem?.1 hp;have hlt:=(List.getElem?_eq_some_iff.1 hi).1;obtain⟨s,hs⟩:∃s,L[i]?=some s:=⟨_,List.getElem?_eq_getElem (by have:=h.len;omega)⟩;have hin:=h.inner i s p hs hi
 have one:∀{n:Nat} {x:Value} {xs:List Value},w.ownsRow base 3 1 x n xs→x.oneCell'=true:=fun hx=>by
  rcases hx.2 with⟨rfl,_⟩|⟨g,cap,cur,rfl,_⟩<;>rfl
 exact⟨one hin.1,one hin.2⟩
theorem zgd(a b:List (Value × Value)):V9 (a++b)=V9 a++V9 b:=by simp[V9]
def zfb:WD:=⟨0,0,[],[],[],[],0,0,[]⟩
def zhu:Y9:=⟨.slice none 0 0,.slice none 0 0,.slice none 0 0,.slice none 0 0,.slice none 0 0,[],[]⟩
theorem zku(w:World)(base:Nat):OwnW w base zhu zfb :=
 ⟨World.ownsRow_nil _ _ _ _,World.ownsRow_nil _ _ _ _,World.ownsRow_nil _ _ _ _,rfl,fun i s p h=>by simp[zfb]at h,World.ownsRow_nil _ _ _ _,rfl,fun i r v h=>by simp[zfb]at h,World.ownsRow_nil _ _ _ _,(show([]:List Nat).Nodup from List.nodup_nil)⟩
theorem OwnW.lits{w:World}{base:Nat}{S:Y9}{D:WD}(h:OwnW w base S D):∃a1 n1 c1 a2 n2 c2 a3 n3 c3 a4 n4 c4 a5 n5 c5 sv mv,S=⟨.slice a1 n1 c1,.slice a2 n2 c2,.slice a3 n3 c3,.slice a4 n4 c4,.slice a5 n5 c5,sv,mv⟩:=by
 obtain⟨vw,vd,vs,vm,vg,sv,mv⟩:=S;obtain⟨a1,c1,h1⟩:=X0 h.words;obtain⟨a2,c2,h2⟩:=X0 h.dirty;obtain⟨a3,c3,h3⟩:=X0 h.spans;obtain⟨a4,c4,h4⟩:=X0 h.muts;obtain⟨a5,c5,h5⟩:=X0 h.grey;simp only at h1 h2 h3 h4 h5;subst h1 h2 h3 h4 h5;exact⟨_,_,_,_,_,_,_,_,_,_,_,_,_,_,_,_,_,rfl⟩
theorem OwnW.chg0{w w':World}{base:Nat}{S:Y9}{D:WD}{bs:List Nat}(h:OwnW w base S D)(hc:Chg bs w w')(hn:∀q,q∈bs→q<base):OwnW w' base S D:=by
 have f:∀{x:Value} {n:Nat} {xs:List Value} {t:TypeId} {sz:Nat},w.ownsRow base t sz x n xs→w'.ownsRow base t sz x n xs:=fun hx=>U1 hx hc fun q hq hm=>by have:=(hx.lt q hq).1;have:=hn q hm;omega
 exact⟨f h.words,f h.dirty,f h.spans,h.svl,fun i s p h1 h2=>⟨f (h.inner i s p h1 h2).1,f (h.inner i s p h1 h2).2⟩,f h.muts,h.mvl,fun i r v h1 h2=>f (h.innerM i r v h1 h2),f h.grey,h.nodup⟩
theorem OwnW.base_le{w:World}{base base':Nat}{S:Y9}{D:WD}(h:OwnW w base S D)(hb:base'≤base):OwnW w base' S D :=
 ⟨U3 h.words hb,U3 h.dirty hb,U3 h.spans hb,h.svl,fun i s p h1 h2=>⟨U3 (h.inner i s p h1 h2).1 hb,U3 (h.inner i s p h1 h2).2 hb⟩,U3 h.muts hb,h.mvl,fun i r v h1 h2=>U3 (h.innerM i r v h1 h2) hb,U3 h.grey hb,h.nodup⟩
theorem zfd(A:Option Addr)(n c:Nat)(news:List Value)(hs:n≤1048576)(w:World)(h:L7 w A n 1 news) :
  Calls prog 74 #[.slice A n c] w fun e w'=>∃v,e=.returned v∧w'.ownsRow w.heap.size 3 1 v n news∧Below w.heap.size w w':=by
 by_cases hn:n=0
 ·subst hn
  obtain rfl:news=[]:=List.length_eq_zero_iff.1 (by simpa using h.len);clear h;go_enter func74,ntmps74;go_wp2_with fail;go_ret;exact⟨_,rfl,World.ownsRow_nil _ _ _ _,Below.refl _ _⟩
 ·have hlen:news.length=n:=by have:=h.len;omega
  obtain⟨ad,rfl⟩:∃ad,A=some ad:=by
   obtain⟨a,e,_⟩:=h.at_ 0 news[0] (List.getElem?_eq_getElem (by omega));exact⟨a,e⟩
  have h':=Z0 (h.below (Y2 w (.cells (madeCells #[.int .i64 0] n) 3)));have mk:=run_make_row' (P:=prog) 22 3 (.int .i64 0) 8 underlying22 zer rfl .i64 .i64 n (by omega) (by omega);have hlen':=Z0 hlen;have hnz:¬(n:Int)=0:=by omega
  clear h hlen;go_enter func74,ntmps74
  go_wp2_with (first
   | (refine wpList_copy_own rfl (.tmp 10) (.tmp 11) 22 22 rfl 3 underlying22 (by kernel_rfl) w.heap.size 0 n n ad n c rfl rfl (madeCells #[.int .i64 0] n) 3 (Y8 w _) news (by rw[hlen'.out];exact(Nat.min_self n).symm) (fun j u hj=>(by obtain⟨a,e,hc⟩:=h'.out.at_ j u hj;cases e;exact hc)) (by rw[hlen'.out];simp[size_madeCells]) h'.out.one ?_))
  go_ret;refine⟨_,rfl,⟨by simpa using hlen'.out,.inr ⟨w.heap.size,n,_,rfl,Nat.le_refl _,setRow_heap _ _ _ _ _ _ (Y8 w _),Nat.le_refl _,by unfold maxLen;omega,?_,?_⟩⟩,below_setRow (Y2 w _) (Nat.le_refl _) _⟩
  ·simp[hlen'.out,size_madeCells]
  ·have e:List.drop n (madeCells #[.int .i64 0] n).toList=[]:=List.drop_eq_nil_iff.2 (by simp[size_madeCells])
   have hl:=hlen'.out;rw[List.toList_toArray,hl,e,List.append_nil,Nat.mul_one,List.take_of_length_le (by omega)]
theorem zri(A:Option Addr)(n c:Nat)(news:List Value)(hs:n≤1048576)(w:World)(h:L7 w A n 1 news) :
  Calls prog 75 #[.slice A n c] w fun e w'=>∃v,e=.returned v∧w'.ownsRow w.heap.size 4 1 v n news∧Below w.heap.size w w':=by
 by_cases hn:n=0
 ·subst hn
  obtain rfl:news=[]:=List.length_eq_zero_iff.1 (by simpa using h.len);clear h;go_enter func75,ntmps75;go_wp2_with fail;go_ret;exact⟨_,rfl,World.ownsRow_nil _ _ _ _,Below.refl _ _⟩
 ·have hlen:news.length=n:=by have:=h.len;omega
  obtain⟨ad,rfl⟩:∃ad,A=some ad:=by
   obtain⟨a,e,_⟩:=h.at_ 0 news[0] (List.getElem?_eq_getElem (by omega));exact⟨a,e⟩
  have h':=Z0 (h.below (Y2 w (.cells (madeCells #[.bool false] n) 4)));have mk:=run_make_row' (P:=prog) 23 4 (.bool false) 1 underlying23 zkw rfl .i64 .i64 n (by omega) (by omega);have hlen':=Z0 hlen;have hnz:¬(n:Int)=0:=by omega
  clear h hlen;go_enter func75,ntmps75
  go_wp2_with (first
   | (refine wpList_copy_own rfl (.tmp 10) (.tmp 11) 23 23 rfl 4 underlying23 (by kernel_rfl) w.heap.size 0 n n ad n c rfl rfl (madeCells #[.bool false] n) 4 (Y8 w _) news (by rw[hlen'.out];exact(Nat.min_self n).symm) (fun j u hj=>(by obtain⟨a,e,hc⟩:=h'.out.at_ j u hj;cases e;exact hc)) (by rw[hlen'.out];simp[size_madeCells]) h'.out.one ?_))
  go_ret;refine⟨_,rfl,⟨by simpa using hlen'.out,.inr ⟨w.heap.size,n,_,rfl,Nat.le_refl _,setRow_heap _ _ _ _ _ _ (Y8 w _),Nat.le_refl _,by unfold maxLen;omega,?_,?_⟩⟩,below_setRow (Y2 w _) (Nat.le_refl _) _⟩
  ·simp[hlen'.out,size_madeCells]
  ·have e:List.drop n (madeCells #[.bool false] n).toList=[]:=List.drop_eq_nil_iff.2 (by simp[size_madeCells])
   have hl:=hlen'.out;rw[List.toList_toArray,hl,e,List.append_nil,Nat.mul_one,List.take_of_length_le (by omega)]
theorem ztj(A:Option Addr)(n c:Nat)(news:List Value)(hs:n≤1048576)(w:World)(h:L7 w A n 1 news) :
  Calls prog 116 #[.slice A n c] w fun e w'=>∃v,e=.returned v∧w'.ownsRow w.heap.size 94 1 v n news∧Below w.heap.size w w':=by
 by_cases hn:n=0
 ·subst hn
  obtain rfl:news=[]:=List.length_eq_zero_iff.1 (by simpa using h.len);clear h;go_enter func116,ntmps116;go_wp2_with fail;go_ret;exact⟨_,rfl,World.ownsRow_nil _ _ _ _,Below.refl _ _⟩
 ·have hlen:news.length=n:=by have:=h.len;omega
  obtain⟨ad,rfl⟩:∃ad,A=some ad:=by
   obtain⟨a,e,_⟩:=h.at_ 0 news[0] (List.getElem?_eq_getElem (by omega));exact⟨a,e⟩
  have h':=Z0 (h.below (Y2 w (.cells (madeCells #[.slice none 0 0] n) 94)));obtain⟨i0,hi,hz0,hz1,hz2⟩:=info_parts ztk
  have mk:∀w:World,(Instr.makeSlice 34 (.int .i64 (n:Int)) (.int .i64 (n:Int))).run prog w=.ok (.slice (some ⟨w.heap.size,0,none⟩) n n) (w.alloc (.cells (madeCells #[.slice none 0 0] n) 94)):=fun w=>by
   have:=run_make (P:=prog) w 34 94 i0 _ underlying34 hi hz0 .i64 .i64 (n:Int) (n:Int) (by omega) (by omega) (by rw[hz2];omega) (by omega);rw[this,hz1];simp[show(Value.agg #[.slice none 0 0]).cells=#[.slice none 0 0]from rfl]
  clear hi hz0 hz1 hz2;have hlen':=Z0 hlen;have hnz:¬(n:Int)=0:=by omega
  clear h hlen;go_enter func116,ntmps116
  go_wp2_with (first
   | (refine wpList_copy_own rfl (.tmp 10) (.tmp 11) 34 34 rfl 94 underlying34 (by kernel_rfl) w.heap.size 0 n n ad n c rfl rfl (madeCells #[.slice none 0 0] n) 94 (Y8 w _) news (by rw[hlen'.out];exact(Nat.min_self n).symm) (fun j u hj=>(by obtain⟨a,e,hc⟩:=h'.out.at_ j u hj;cases e;exact hc)) (by rw[hlen'.out];simp[size_madeCells]) h'.out.one ?_))
  go_ret;refine⟨_,rfl,⟨by simpa using hlen'.out,.inr ⟨w.heap.size,n,_,rfl,Nat.le_refl _,setRow_heap _ _ _ _ _ _ (Y8 w _),Nat.le_refl _,by unfold maxLen;omega,?_,?_⟩⟩,below_setRow (Y2 w _) (Nat.le_refl _) _⟩
  ·simp[hlen'.out,size_madeCells]
  ·have e:List.drop n (madeCells #[.slice none 0 0] n).toList=[]:=List.drop_eq_nil_iff.2 (by simp[size_madeCells])
   have hl:=hlen'.out;rw[List.toList_toArray,hl,e,List.append_nil,Nat.mul_one,List.take_of_length_le (by omega)]
structure Cop(w:World)(base:Nat)(v1 v2 v3:Value)(sv:List (Value × Value))(D:WD)(k:Nat):Prop where
 words:w.ownsRow base 3 1 v1 D.words.length (D.words.map (Value.int .i64))
 dirty:w.ownsRow base 4 1 v2 D.dirty.length (D.dirty.map Value.bool)
 spans:OwnS w base v3 (D.spans.take k) sv
 nodup:((v1::V9 sv).filterMap Value.ownBlock).Nodup
 lt:∀x,x∈v1::v2::v3::V9 sv→∀q,x.ownBlock=some q→base≤q∧q<w.heap.size
theorem Cop.kept{w w':World}{base:Nat}{v1 v2 v3:Value}{sv:List (Value × Value)}{D:WD}{k:Nat}(h:Cop w base v1 v2 v3 sv D k){bs:List Nat}(c:Chg bs w w')(hn:∀q,q∈bs→q<base∨w.heap.size≤q):Cop w' base v1 v2 v3 sv D k:=by
 have ne:∀x,x∈v1::v2::v3::V9 sv→∀q,x.ownBlock=some q→q∉bs:=fun x hx q hq hm=>by
  have:=h.lt x hx q hq
  rcases hn q hm with h|h<;>omega
 exact⟨U1 h.words c (ne v1 (by simp)),U1 h.dirty c (ne v2 (by simp)),h.spans.chg c (ne v3 (by simp)) (fun x hx=>ne x (by simp[hx])),h.nodup,fun x hx q hq=>by have:=h.lt x hx q hq;have:=c.size;omega⟩
theorem Cop.snoc{w w':World}{base:Nat}{v1 v2 v3 v3':Value}{sv:List (Value × Value)}{D:WD}{k:Nat}(h:Cop w base v1 v2 v3 sv D k){s:Y7}(hs:D.spans[k]?=some s){p:Value × Value}{lo:Nat}(hlo:w.heap.size≤lo∨True)
  (g:w.grownBy w' v3.ownBlock) (hr:w'.ownsRow base 93 6 v3' ((D.spans.take k).length+1) (P4 (D.spans.take k) sv++Q8 s p)) (h1:w.ownsRow base 3 1 p.1 s.lens.length (s.lens.map (Value.int .i64))) (h2:w.ownsRow base 3 1 p.2 s.ptrs.length (s.ptrs.map (Value.int .i64)))
  (hd:(((v1::V9 sv)++[p.1,p.2]).filterMap Value.ownBlock).Nodup):Cop w' base v1 v2 v3' (sv++[p]) D (k+1):=by
 obtain⟨hk,rfl⟩:=List.getElem?_eq_some_iff.1 hs;have e:D.spans.take (k+1)=D.spans.take k++[D.spans[k]]:=List.take_succ_eq_append_getElem hk;have hl:=h.spans.len;have c:Chg v3.ownBlock.toList w w':=Chg.of_grown g fun x hx=>by rw[hx];simp
 have ty:∀{x:Value} {n:Nat} {xs:List Value} {t:TypeId} {sz:Nat},w.ownsRow base t sz x n xs→t≠93→∀q,x.ownBlock=some q→q∉v3.ownBlock.toList:=fun hx ht q hq hm=>by
  refine E7 hx h.spans.row ht q hq ?_
  cases hv:v3.ownBlock with
  | none=>rw[hv]at hm;simp at hm
  | some b=>rw[hv]at hm;simp at hm;rw[hm]
 refine⟨U1 h.words c (ty h.words (by decide)),U1 h.dirty c (ty h.dirty (by decide)),⟨?_,?_,?_⟩,?_,?_⟩
 ·have e2:P4 [D.spans[k]] [p]=Q8 D.spans[k] p:=by simp[P4]
  rw[e,zrw _ _ _ _ hl,e2,List.length_append];exact hr
 ·rw[e,List.length_append,List.length_append,hl];rfl
 ·intro i s' p' hs' hp'
  rw[e]at hs'
  by_cases hi:i<(D.spans.take k).length
  ·rw[List.getElem?_append_left hi]at hs'
   rw[List.getElem?_append_left (by omega)]at hp';have:=h.spans.inner i s' p' hs' hp';exact⟨U1 this.1 c (ty this.1 (by decide)),U1 this.2 c (ty this.2 (by decide))⟩
  ·have hi2:i=(D.spans.take k).length:=by
    have:=(List.getElem?_eq_some_iff.1 hs').1;simp at this hi ⊢;omega
   subst hi2;rw[List.getElem?_append_right (Nat.le_refl _)]at hs';rw[List.getElem?_append_right (by omega)]at hp';simp[hl]at hs' hp';subst hs';subst hp';exact⟨U1 h1 c (ty h1 (by decide)),U1 h2 c (ty h2 (by decide))⟩
 ·rw[zgd]
  exact hd
 ·intro x hx q hq
  rw[zgd]at hx;have hz:=c.size
  rcases List.mem_cons.1 hx with rfl|hx
  ·have:=h.lt x (by simp) q hq;omega
  rcases List.mem_cons.1 hx with rfl|hx
  ·have:=h.lt x (by simp) q hq;omega
  rcases List.mem_cons.1 hx with rfl|hx
  ·exact hr.lt q hq
  rcases List.mem_append.1 hx with hx|hx
  ·have:=h.lt x (by simp[hx]) q hq;omega
  ·simp[V9]at hx
   rcases hx with rfl|rfl
   ·have:=h1.lt q hq;omega
   ·have:=h2.lt q hq;omega
theorem zjk{w:World}{n:Nat}(hn:w.heap.size=n)(e:TypeId)(size:Nat):(w.alloc (.cells #[] e)).ownsRow n e size (.slice (some ⟨n,0,none⟩) 0 0) 0 []:=by subst hn;exact ziy w e size
structure St1(w wr:World)(A:Array Value)(D:WD)(v1 v2 v3 vm vg:Value)(sv:List (Value × Value))(k:Nat):Prop where
 below:Below w.heap.size w wr
 boxA:wr.heap[w.heap.size]?=some (.cells A 37 (0,0))
 boxR:wr.heap[w.heap.size+1]?=some (.cells #[.int .i64 0,.int .i64 0,.slice none 0 0,.slice none 0 0,.slice none 0 0,.slice none 0 0,.int .i64 0,.int .i64 0,.slice none 0 0] 37 (0,0))
 boxC:wr.heap[w.heap.size+1+1]?=some (.cells #[.int .i64 D.base,.int .i64 D.pages,v1,v2,v3,vm,.int .i64 D.phase,.int .i64 D.next,vg] 37 (0,0))
 size:w.heap.size+1+1+1≤wr.heap.size
 cop:Cop wr (w.heap.size+1+1+1) v1 v2 v3 sv D k
theorem step3{x x':World}{b i:Nat}{u:Value}{e:TypeId}{cs:Array Value}{T:TypeId}(hb:b<x.heap.size)(hC:x.heap[b]?=some (.cells cs T (0,0)))(g:((x.setCell ⟨b,i,none⟩ u).alloc (.cells #[] e)).grownBy x' (some x.heap.size)) :
  x'.heap[b]?=some (.cells (cs.setIfInBounds i u) T (0,0))∧Chg [b] x x'∧x.heap.size<x'.heap.size:=by
 have hz:=g.size;simp only[World.size_alloc,World.size_setCell]at hz;have h1:=heap_setCell_same x b i _ _ u hC;refine⟨zff g (by simp;omega) (fun r hr=>by cases hr;omega) (Z8 (Y2 _ _) h1),?_,by omega⟩;refine⟨g.os,g.tape,g.output,by omega,fun k hk hn=>?_⟩;have hkb:k≠b:=fun e=>hn (by simp[e]);rw[g.block k (by simp;omega) (fun e=>by cases e;omega),(Y2 (x.setCell ⟨b,i,none⟩ u) (.cells #[] e)).block k (by simp;omega),heap_setCell_other x ⟨b,i,none⟩ k u (by simpa using hkb)]
theorem step2{x x':World}{e:TypeId}(g:(x.alloc (.cells #[] e)).grownBy x' (some x.heap.size)):Below x.heap.size x x'∧x.heap.size<x'.heap.size:=by
 have hz:=g.size;simp only[World.size_alloc]at hz;exact⟨(Y2 x _).grown g (by simp) (fun k hk=>by cases hk;exact Nat.le_refl _),by omega⟩
theorem St1.next{w wr w1 w2 w3:World}{A:Array Value}{D:WD}{v1 v2 v3 vm vg:Value}{sv:List (Value × Value)}{k:Nat}(h:St1 w wr A D v1 v2 v3 vm vg sv k){s:Y7}(hs:D.spans[k]?=some s){S6 X6:Array Value}{p:Value × Value}{v3':Value}
  (g1:((wr.alloc (.cells S6 93)).alloc (.cells #[] 3)).grownBy w1 (some (wr.heap.size+1))) (o1:w1.ownsRow (wr.heap.size+1) 3 1 p.1 s.lens.length (s.lens.map (Value.int .i64)))
  (g2:((w1.setCell ⟨wr.heap.size,4,none⟩ p.1).alloc (.cells #[] 3)).grownBy w2 (some w1.heap.size)) (o2:w2.ownsRow w1.heap.size 3 1 p.2 s.ptrs.length (s.ptrs.map (Value.int .i64)))
  (g3:((w2.setCell ⟨wr.heap.size,5,none⟩ p.2).alloc (.cells X6 93)).grownBy w3 v3.ownBlock) (o3:w3.ownsRow (w.heap.size+1+1+1) 93 6 v3' ((D.spans.take k).length+1) (P4 (D.spans.take k) sv++Q8 s p)) :
  St1 w (w3.setCell ⟨w.heap.size+1+1,4,none⟩ v3') A D v1 v2 v3' vm vg (sv++[p]) (k+1):=by
 have hsz:=h.size;have b1:Below wr.heap.size wr w1:=(Z7 (Y2 wr _) (Y2 _ _)).grown g1 (by simp;omega) (fun q hq=>by cases hq;omega);have z1:=g1.size;simp only[World.size_alloc]at z1;have c1:Cop w1 (w.heap.size+1+1+1) v1 v2 v3 sv D k:=h.cop.kept (bs:=[]) ⟨b1.os,b1.tape,b1.output,b1.size,fun q hq _=>b1.block q hq⟩ (fun q hq=>by cases hq);have t1:w1.heap[wr.heap.size]?=some (.cells S6 93 (0,0)):=zff g1 (by simp;omega) (fun r hr=>by cases hr;omega) (Z8 (Y2 _ _) (Y8 wr _));obtain⟨t2,k2,z2⟩:=step3 (by omega) t1 g2;have hc2:Chg [wr.heap.size] w1 w2:=k2
 have c2:Cop w2 (w.heap.size+1+1+1) v1 v2 v3 sv D k:=by
  refine⟨U1 c1.words hc2 fun q hq hm=>?_,U1 c1.dirty hc2 fun q hq hm=>?_,c1.spans.chg hc2 (fun q hq hm=>?_) (fun x hx q hq hm=>?_),c1.nodup,fun x hx q hq=>by have:=c1.lt x hx q hq;have:=hc2.size;omega⟩
  all_goals (rw[List.mem_singleton.1 hm]at hq)
  ·have:=(h.cop.lt v1 (by simp) _ hq).2;omega
  ·have:=(h.cop.lt v2 (by simp) _ hq).2;omega
  ·have:=(h.cop.lt v3 (by simp) _ hq).2;omega
  ·have:=(h.cop.lt x (by simp[hx]) _ hq).2;omega
 have o12:w2.ownsRow (wr.heap.size+1) 3 1 p.1 s.lens.length (s.lens.map (Value.int .i64)):=U1 o1 hc2 fun q hq hm=>by
  have:=(o1.lt q hq).1;rw[List.mem_singleton.1 hm]at this;omega
 -- the store into the span's box,the new row of one
 have z3:=g3.size;simp only[World.size_alloc,World.size_setCell]at z3
 have m3:∀{y:World},y=(w2.setCell ⟨wr.heap.size,5,none⟩ p.2).alloc (.cells X6 93)→Chg [wr.heap.size] w2 y:=fun {y} e=>by
  subst e;refine(Chg.of_grown (U5 w2 wr.heap.size 5 p.2) (by simp)).trans ?_;exact Chg.of_below (Y2 _ _) _
 have hc3:=m3 rfl;have own3:∀{x:Value} {n:Nat} {xs:List Value} {t:TypeId} {sz b:Nat},w2.ownsRow b t sz x n xs→(∀q,x.ownBlock=some q→q≠wr.heap.size)→((w2.setCell ⟨wr.heap.size,5,none⟩ p.2).alloc (.cells X6 93)).ownsRow b t sz x n xs:=fun hx hn=>U1 hx hc3 fun q hq hm=>hn q hq (List.mem_singleton.1 hm);have lt3:∀x,x∈v1::v2::v3::V9 sv→∀q,x.ownBlock=some q→q≠wr.heap.size:=fun x hx q hq=>by have:=(h.cop.lt x hx q hq).2;omega
 have c3:Cop ((w2.setCell ⟨wr.heap.size,5,none⟩ p.2).alloc (.cells X6 93)) (w.heap.size+1+1+1) v1 v2 v3 sv D k :=
  ⟨own3 c2.words (lt3 v1 (by simp)),own3 c2.dirty (lt3 v2 (by simp)),c2.spans.chg hc3 (fun q hq hm=>lt3 v3 (by simp) q hq (List.mem_singleton.1 hm)) (fun x hx q hq hm=>lt3 x (by simp[hx]) q hq (List.mem_singleton.1 hm)),c2.nodup,
   fun x hx q hq=>by have:=c2.lt x hx q hq;have:=hc3.size;omega⟩
 have p1:=U3 (own3 o12 fun q hq=>by have:=(o1.lt q hq).1;omega) (show w.heap.size+1+1+1≤wr.heap.size+1 by omega);have p2:=U3 (own3 o2 fun q hq=>by have:=(o2.lt q hq).1;omega) (show w.heap.size+1+1+1≤w1.heap.size by omega)
 have nd:(((v1::V9 sv)++[p.1,p.2]).filterMap Value.ownBlock).Nodup:=by
  rw[List.filterMap_append,List.nodup_append];refine⟨h.cop.nodup,?_,fun a ha b hb e=>?_⟩
  ·have:∀q r,p.1.ownBlock=some q→p.2.ownBlock=some r→q≠r:=fun q r hq hr=>by
    have:=(o1.lt q hq).2;have:=(o2.lt r hr).1;omega
   cases h1:p.1.ownBlock with
   | none=>cases h2:p.2.ownBlock<;>simp[h1,h2]
   | some q=>cases h2:p.2.ownBlock with
    | none=>simp[h1,h2]
    | some r=>simp[h1,h2,this q r h1 h2]
  ·obtain⟨x,hx,hxa⟩:=List.mem_filterMap.1 ha
   have l1:a<wr.heap.size:=by
    rcases List.mem_cons.1 hx with rfl|hx
    ·exact(h.cop.lt x (by simp) a hxa).2
    ·exact(h.cop.lt x (by simp[hx]) a hxa).2
   obtain⟨y,hy,hyb⟩:=List.mem_filterMap.1 hb;simp at hy
   rcases hy with rfl|rfl
   ·have:=(o1.lt b hyb).1;omega
   ·have:=(o2.lt b hyb).1;omega
 have c4:Cop w3 (w.heap.size+1+1+1) v1 v2 v3' (sv++[p]) D (k+1):=c3.snoc hs (lo:=0) (.inr trivial) g3 o3 p1 p2 nd;have hB3:w.heap.size+1+1<wr.heap.size:=by omega
 have keep:∀{b:Nat} {o:Obj},b<w.heap.size+1+1+1→wr.heap[b]?=some o→w3.heap[b]?=some o:=fun {b o} hb ho=>by
  refine zff g3 (by simp;omega) (fun r hr=>by have:=(h.cop.lt v3 (by simp) r hr).1;omega) ?_;refine Z8 (Y2 _ _) ?_;rw[heap_setCell_other w2 ⟨wr.heap.size,5,none⟩ b p.2 (by simp;omega),k2.block b (by omega) (by simp;omega)];exact Z8 b1 ho
 have bA:=keep (by omega) h.boxA;have bC:=keep (by omega) h.boxC;have bR:=keep (by omega) h.boxR;refine⟨?_,?_,?_,?_,by simp;omega,?_⟩
 ·have e1:Below w.heap.size w w1:=h.below.trans (b1.mono (by omega))
  have e2:Below w.heap.size w w2:=Chg.below e1 hc2 (by omega) (fun x hx=>by rw[List.mem_singleton.1 hx];omega);have e3:=Chg.below e2 hc3 (by omega) (fun x hx=>by rw[List.mem_singleton.1 hx];omega);have e4:Below w.heap.size w w3:=e3.grown g3 (by simp;omega) (fun q hq=>by have:=(h.cop.lt v3 (by simp) q hq).1;omega);exact e4.setCell (p:=⟨w.heap.size+1+1,4,none⟩) (by simp;omega) _
 ·rw[heap_setCell_other w3 ⟨w.heap.size+1+1,4,none⟩ w.heap.size v3' (by simp;omega)]
  exact bA
 ·rw[heap_setCell_other w3 ⟨w.heap.size+1+1,4,none⟩ (w.heap.size+1) v3' (by simp)]
  exact bR
 ·exact heap_setCell_same w3 (w.heap.size+1+1) 4 _ _ v3' bC
 ·exact c4.kept (Chg.of_grown (U5 w3 (w.heap.size+1+1) 4 v3') (bs:=[w.heap.size+1+1]) (by simp)) (fun q hq=>by rw[List.mem_singleton.1 hq];omega)
theorem step2n{x x':World}{e:TypeId}{n:Nat}(hn:x.heap.size=n)(g:(x.alloc (.cells #[] e)).grownBy x' (some n)):Below x.heap.size x x'∧n<x'.heap.size:=by subst hn;exact step2 g
theorem St1.start{w w1 w2:World}{A:Array Value}{D:WD}{v1 v2 vs vm vg vw vd:Value}
  (hA:(((w.alloc (.cells A 37)).alloc (.cells #[.int .i64 0,.int .i64 0,.slice none 0 0,.slice none 0 0,.slice none 0 0,.slice none 0 0,.int .i64 0,.int .i64 0,.slice none 0 0] 37)).alloc (.cells #[.int .i64 D.base,.int .i64 D.pages,vw,vd,vs,vm,.int .i64 D.phase,.int .i64 D.next,vg] 37)).heap[w.heap.size]?=some (.cells A 37 (0,0)))
  (hR:(((w.alloc (.cells A 37)).alloc (.cells #[.int .i64 0,.int .i64 0,.slice none 0 0,.slice none 0 0,.slice none 0 0,.slice none 0 0,.int .i64 0,.int .i64 0,.slice none 0 0] 37)).alloc (.cells #[.int .i64 D.base,.int .i64 D.pages,vw,vd,vs,vm,.int .i64 D.phase,.int .i64 D.next,vg] 37)).heap[w.heap.size+1]?=some (.cells #[.int .i64 0,.int .i64 0,.slice none 0 0,.slice none 0 0,.slice none 0 0,.slice none 0 0,.int .i64 0,.int .i64 0,.slice none 0 0] 37 (0,0)))
  (hC:(((w.alloc (.cells A 37)).alloc (.cells #[.int .i64 0,.int .i64 0,.slice none 0 0,.slice none 0 0,.slice none 0 0,.slice none 0 0,.int .i64 0,.int .i64 0,.slice none 0 0] 37)).alloc (.cells #[.int .i64 D.base,.int .i64 D.pages,vw,vd,vs,vm,.int .i64 D.phase,.int .i64 D.next,vg] 37)).heap[w.heap.size+1+1]?=some (.cells #[.int .i64 D.base,.int .i64 D.pages,vw,vd,vs,vm,.int .i64 D.phase,.int .i64 D.next,vg] 37 (0,0)))
  (hb:Below w.heap.size w (((w.alloc (.cells A 37)).alloc (.cells #[.int .i64 0,.int .i64 0,.slice none 0 0,.slice none 0 0,.slice none 0 0,.slice none 0 0,.int .i64 0,.int .i64 0,.slice none 0 0] 37)).alloc (.cells #[.int .i64 D.base,.int .i64 D.pages,vw,vd,vs,vm,.int .i64 D.phase,.int .i64 D.next,vg] 37)))
  (g1:((((w.alloc (.cells A 37)).alloc (.cells #[.int .i64 0,.int .i64 0,.slice none 0 0,.slice none 0 0,.slice none 0 0,.slice none 0 0,.int .i64 0,.int .i64 0,.slice none 0 0] 37)).alloc (.cells #[.int .i64 D.base,.int .i64 D.pages,vw,vd,vs,vm,.int .i64 D.phase,.int .i64 D.next,vg] 37)).alloc (.cells #[] 3)).grownBy w1 (some (w.heap.size+1+1+1)))
  (o1:w1.ownsRow (w.heap.size+1+1+1) 3 1 v1 D.words.length (D.words.map (Value.int .i64)))
  (g2:((w1.setCell ⟨w.heap.size+1+1,2,none⟩ v1).alloc (.cells #[] 4)).grownBy w2 (some w1.heap.size))
  (o2:w2.ownsRow w1.heap.size 4 1 v2 D.dirty.length (D.dirty.map Value.bool)) :
  St1 w ((w2.setCell ⟨w.heap.size+1+1,3,none⟩ v2).setCell ⟨w.heap.size+1+1,4,none⟩ (.slice none 0 0)) A D v1 v2 (.slice none 0 0) vm vg [] 0:=by
 generalize hW:((w.alloc (.cells A 37)).alloc (.cells #[.int .i64 0,.int .i64 0,.slice none 0 0,.slice none 0 0,.slice none 0 0,.slice none 0 0,.int .i64 0,.int .i64 0,.slice none 0 0] 37)).alloc (.cells (Z5 D vw vd vs vm vg) 37)=W at *;have hz:W.heap.size=w.heap.size+1+1+1:=by rw[←hW];simp
 obtain⟨b1,z1⟩:=step2 (by rw[hz];exact g1);have A1:=Z8 b1 hA;have R1:=Z8 b1 hR;have C1:=Z8 b1 hC;obtain⟨C2,k2,z2⟩:=step3 (by omega) C1 g2;have A2:w2.heap[w.heap.size]?=some (.cells A 37 (0,0)):=(k2.block _ (by omega) (by simp only[List.mem_singleton];omega)).trans A1;have C3:=heap_setCell_same w2 (w.heap.size+1+1) 3 _ _ v2 C2;have C4:=heap_setCell_same (w2.setCell ⟨w.heap.size+1+1,3,none⟩ v2) (w.heap.size+1+1) 4 _ _ (.slice none 0 0) C3
 have kk:Chg [w.heap.size+1+1] w2 ((w2.setCell ⟨w.heap.size+1+1,3,none⟩ v2).setCell ⟨w.heap.size+1+1,4,none⟩ (.slice none 0 0)) :=
  (Chg.of_grown (U5 w2 (w.heap.size+1+1) 3 v2) (by simp)).trans (Chg.of_grown (U5 (w2.setCell ⟨w.heap.size+1+1,3,none⟩ v2) (w.heap.size+1+1) 4 (.slice none 0 0)) (by simp))
 have l1:∀q,v1.ownBlock=some q→w.heap.size+1+1+1≤q∧q<w1.heap.size:=o1.lt;have l2:∀q,v2.ownBlock=some q→w1.heap.size≤q∧q<w2.heap.size:=o2.lt;refine⟨?_,?_,?_,C4,by simp;omega,⟨?_,?_,⟨World.ownsRow_nil _ _ _ _,rfl,fun i s p hs=>by simp at hs⟩,?_,?_⟩⟩
 ·have e1:Below w.heap.size w w1:=hb.trans (b1.mono (by omega))
  have e2:=Chg.below e1 k2 (by omega) (fun x hx=>by rw[List.mem_singleton.1 hx];omega);exact Chg.below e2 kk (by omega) (fun x hx=>by rw[List.mem_singleton.1 hx];omega)
 ·exact(kk.block _ (by omega) (by simp only[List.mem_singleton];omega)).trans A2
 ·exact(kk.block _ (by omega) (by simp only[List.mem_singleton];omega)).trans ((k2.block _ (by omega) (by simp only[List.mem_singleton];omega)).trans R1)
 ·refine U1 (U1 o1 k2 fun q hq hm=>?_) kk fun q hq hm=>?_
  all_goals (rw[List.mem_singleton.1 hm]at hq;have:=l1 _ hq;omega)
 ·refine U3 (U1 o2 kk fun q hq hm=>?_) (by omega)
  rw[List.mem_singleton.1 hm]at hq;have:=l2 _ hq;omega
 ·cases h:v1.ownBlock<;>simp[V9,h]
 ·intro x hx q hq
  have hz3:=kk.size;simp only[V9,List.flatMap_nil,List.mem_cons,List.not_mem_nil,or_false]at hx
  rcases hx with rfl|rfl|rfl
  ·have:=l1 q hq;omega
  ·have:=l2 q hq;omega
  ·cases hq
theorem src_span(w2:World)(at_:Addr)(u:Value)(s:Y7)(a3 a4:Option Addr)(n3 n4 c3 c4:Nat):L7 ((w2.setCell at_ u).alloc (.cells #[.int .i64 s.page,.int .i64 s.cls,.int .i64 s.mark,.bool s.swept,.slice a3 n3 c3,.slice a4 n4 c4] 93)) (some ⟨w2.heap.size,0,none⟩) 1 6 (Q8 s (.slice a3 n3 c3,.slice a4 n4 c4)):=by
 have:=znf (w2.setCell at_ u) (cs:=#[.int .i64 s.page,.int .i64 s.cls,.int .i64 s.mark,.bool s.swept,.slice a3 n3 c3,.slice a4 n4 c4]) (T:=93) (m:=1) (size:=6) rfl (by
  intro u hu;simp only[List.mem_cons,List.not_mem_nil,or_false]at hu
  rcases hu with rfl|rfl|rfl|rfl|rfl|rfl<;>rfl)
 rwa [World.size_setCell]at this
theorem St1.at1{wr w1:World}{S6:Array Value}{T e:TypeId}(g1:((wr.alloc (.cells S6 T)).alloc (.cells #[] e)).grownBy w1 (some (wr.heap.size+1))) :
  w1.heap[wr.heap.size]?=some (.cells S6 T (0,0))∧Below wr.heap.size wr w1∧wr.heap.size+1<w1.heap.size:=by
 have hz:(wr.alloc (.cells S6 T)).heap.size=wr.heap.size+1:=by simp
 obtain⟨b,z⟩:=step2n hz g1;exact⟨Z8 b (Y8 wr _),Z7 (Y2 wr _) b,z⟩
theorem St1.at2{wr w1 w2:World}{S6:Array Value}{T e:TypeId}{u:Value}{i:Nat}(h1:w1.heap[wr.heap.size]?=some (.cells S6 T (0,0)))(b1:Below wr.heap.size wr w1)(hz:wr.heap.size+1<w1.heap.size)
  (g2:((w1.setCell ⟨wr.heap.size,i,none⟩ u).alloc (.cells #[] e)).grownBy w2 (some w1.heap.size)) :
  w2.heap[wr.heap.size]?=some (.cells (S6.setIfInBounds i u) T (0,0))∧Below wr.heap.size wr w2∧w1.heap.size<w2.heap.size:=by
 obtain⟨t2,k2,z2⟩:=step3 (by omega) h1 g2;exact⟨t2,Chg.below b1 k2 (by omega) (fun x hx=>by rw[List.mem_singleton.1 hx];omega),z2⟩
theorem St1.at3{wr w2:World}(b2:Below wr.heap.size wr w2){i:Nat}{u:Value}{X:Array Value}{T:TypeId}:Below wr.heap.size wr ((w2.setCell ⟨wr.heap.size,i,none⟩ u).alloc (.cells X T)) :=
 (b2.setCell (p:=⟨wr.heap.size,i,none⟩) (Nat.le_refl _) u).trans ((Y2 _ _).mono (by simpa using b2.size))
structure St2(w wr:World)(A:Array Value)(D:WD)(v1 v2 v3 v5 vg:Value)(sv:List (Value × Value))(mv:List Value)(k:Nat):Prop where
 below:Below w.heap.size w wr
 boxA:wr.heap[w.heap.size]?=some (.cells A 37 (0,0))
 boxR:wr.heap[w.heap.size+1]?=some (.cells #[.int .i64 0,.int .i64 0,.slice none 0 0,.slice none 0 0,.slice none 0 0,.slice none 0 0,.int .i64 0,.int .i64 0,.slice none 0 0] 37 (0,0))
 boxC:wr.heap[w.heap.size+1+1]?=some (.cells #[.int .i64 D.base,.int .i64 D.pages,v1,v2,v3,v5,.int .i64 D.phase,.int .i64 D.next,vg] 37 (0,0))
 size:w.heap.size+1+1+1≤wr.heap.size
 words:wr.ownsRow (w.heap.size+1+1+1) 3 1 v1 D.words.length (D.words.map (Value.int .i64))
 dirty:wr.ownsRow (w.heap.size+1+1+1) 4 1 v2 D.dirty.length (D.dirty.map Value.bool)
 spans:OwnS wr (w.heap.size+1+1+1) v3 D.spans sv
 muts:OwnM wr (w.heap.size+1+1+1) v5 (D.muts.take k) mv
 nodup:((v1::V9 sv++mv).filterMap Value.ownBlock).Nodup
 lt:∀x,x∈v1::v2::v3::v5::(V9 sv++mv)→∀q,x.ownBlock=some q→w.heap.size+1+1+1≤q∧q<wr.heap.size
theorem OwnS.below{w w':World}{base:Nat}{v:Value}{L:List Y7}{sv:List (Value × Value)}(h:OwnS w base v L sv)(hb:Below w.heap.size w w'):OwnS w' base v L sv:=h.chg (Chg.of_below hb []) (fun _ _=>by simp) (fun _ _ _ _=>by simp)
theorem St2.start{w wr:World}{A:Array Value}{D:WD}{v1 v2 v3 vm vg:Value}{sv:List (Value × Value)}(h:St1 w wr A D v1 v2 v3 vm vg sv D.spans.length) :
  St2 w (wr.setCell ⟨w.heap.size+1+1,5,none⟩ (.slice none 0 0)) A D v1 v2 v3 (.slice none 0 0) vg sv [] 0:=by
 have c:Chg [w.heap.size+1+1] wr (wr.setCell ⟨w.heap.size+1+1,5,none⟩ (.slice none 0 0)):=Chg.of_grown (U5 wr (w.heap.size+1+1) 5 (.slice none 0 0)) (by simp);have hs:=h.size;have k:=h.cop.kept c (fun q hq=>by rw[List.mem_singleton.1 hq];omega);have e:D.spans.take D.spans.length=D.spans:=List.take_length;refine⟨h.below.setCell (p:=⟨w.heap.size+1+1,5,none⟩) (by simp;omega) _,?_,?_,heap_setCell_same wr (w.heap.size+1+1) 5 _ _ _ h.boxC,by simpa using hs,k.words,k.dirty,by have:=k.spans;rwa [e]at this,⟨World.ownsRow_nil _ _ _ _,rfl,fun i r u hr=>by simp at hr⟩,by simpa using k.nodup,fun x hx q hq=>?_⟩
 ·rw[heap_setCell_other wr ⟨w.heap.size+1+1,5,none⟩ w.heap.size _ (by simp;omega)]
  exact h.boxA
 ·rw[heap_setCell_other wr ⟨w.heap.size+1+1,5,none⟩ (w.heap.size+1) _ (by simp)]
  exact h.boxR
 ·simp only[List.append_nil,List.mem_cons]at hx
  rcases hx with rfl|rfl|rfl|rfl|hx
  ·exact k.lt _ (by simp) q hq
  ·exact k.lt _ (by simp) q hq
  ·exact k.lt _ (by simp) q hq
  ·cases hq
  ·exact k.lt _ (by simp[hx]) q hq
theorem St2.next{w wr y0 w1 y1 w2 wF:World}{A:Array Value}{D:WD}{v1 v2 v3 v5 vg v5' u:Value}{sv:List (Value × Value)}{mv:List Value}{k:Nat}(h:St2 w wr A D v1 v2 v3 v5 vg sv mv k){r:List Int}(hr:D.muts[k]?=some r)
  (hy0:Below wr.heap.size wr y0) (g1:y0.grownBy w1 (some wr.heap.size)) (o1:w1.ownsRow wr.heap.size 3 1 u r.length (r.map (Value.int .i64)))
  (hy1:Below w1.heap.size w1 y1) (g2:y1.grownBy w2 v5.ownBlock) (o2:w2.ownsRow (w.heap.size+1+1+1) 94 1 v5' ((D.muts.take k).length+1) (mv++[u]))
  (hF:Chg [w.heap.size+1+1] w2 wF) (hC:wF.heap[w.heap.size+1+1]?=some (.cells #[.int .i64 D.base,.int .i64 D.pages,v1,v2,v3,v5',.int .i64 D.phase,.int .i64 D.next,vg] 37 (0,0))) :
  St2 w wF A D v1 v2 v3 v5' vg sv (mv++[u]) (k+1):=by
 obtain⟨hk,rfl⟩:=List.getElem?_eq_some_iff.1 hr;have hsz:=h.size;have b1:Below wr.heap.size wr w1:=hy0.grown g1 hy0.size (fun q hq=>by cases hq;exact Nat.le_refl _);have b2:Below wr.heap.size wr y1:=b1.trans (hy1.mono b1.size);have c2:Chg v5.ownBlock.toList y1 w2:=Chg.of_grown g2 fun x hx=>by rw[hx];simp
 have e:D.muts.take (k+1)=D.muts.take k++[D.muts[k]]:=List.take_succ_eq_append_getElem hk;have hl:=h.muts.len;have m1:=h.muts.below b2
 have ty:∀{x:Value} {n:Nat} {xs:List Value} {t:TypeId} {sz b:Nat},y1.ownsRow b t sz x n xs→t≠94→∀q,x.ownBlock=some q→q∉v5.ownBlock.toList:=fun hx ht q hq hm=>by
  refine E7 hx m1.row ht q hq ?_
  cases hv:v5.ownBlock with
  | none=>rw[hv]at hm;simp at hm
  | some b=>rw[hv]at hm;simp at hm;rw[hm]
 have fin:∀{x:Value} {n b:Nat} {xs:List Value} {t:TypeId} {sz:Nat},y1.ownsRow b t sz x n xs→t≠94→w.heap.size+1+1+1≤b→wF.ownsRow b t sz x n xs:=fun hx ht hb =>
  U1 (U1 hx c2 (ty hx ht)) hF fun q hq hm=>by have:=(hx.lt q hq).1;rw[List.mem_singleton.1 hm]at this;omega
 have o1':=X8 o1 hy1;have u1:=fin o1' (by decide) hsz;have z1:=b1.size;have z2:=b2.size;have z3:=c2.size;have z4:=hF.size;have z5:=hy1.size;have hlt:∀x,x∈v1::v2::v3::v5::(V9 sv++mv)→∀q,x.ownBlock=some q→w.heap.size+1+1+1≤q∧q<wF.heap.size:=fun x hx q hq=>by have:=h.lt x hx q hq;omega
 refine⟨?_,?_,?_,hC,by omega,fin (X8 h.words b2) (by decide) (Nat.le_refl _),fin (X8 h.dirty b2) (by decide) (Nat.le_refl _),?_,⟨?_,by rw[e,List.length_append,List.length_append,hl];rfl,?_⟩,?_,?_⟩
 ·have e1:Below w.heap.size w y1:=h.below.trans (b2.mono (by omega))
  have e2:Below w.heap.size w w2:=e1.grown g2 (by omega) (fun q hq=>by have:=(h.lt v5 (by simp) q hq).1;omega);exact Chg.below e2 hF (by omega) (fun x hx=>by rw[List.mem_singleton.1 hx];omega)
 ·rw[hF.block _ (by omega) (by simp only[List.mem_singleton];omega)]
  exact zff g2 (by omega) (fun q hq=>by have:=(h.lt v5 (by simp) q hq).1;omega) (Z8 b2 h.boxA)
 ·rw[hF.block _ (by omega) (by simp only[List.mem_singleton];omega)]
  exact zff g2 (by omega) (fun q hq=>by have:=(h.lt v5 (by simp) q hq).1;omega) (Z8 b2 h.boxR)
 ·refine⟨fin (X8 h.spans.row b2) (by decide) (Nat.le_refl _),h.spans.len,fun i s p hs hp=>?_⟩
  have:=(h.spans.below b2).inner i s p hs hp;exact⟨fin this.1 (by decide) (Nat.le_refl _),fin this.2 (by decide) (Nat.le_refl _)⟩
 ·rw[e,List.length_append]
  exact U1 o2 hF fun q hq hm=>by have:=(o2.lt q hq).1;rw[List.mem_singleton.1 hm]at this;omega
 ·intro i r' u' hr' hu'
  rw[e]at hr'
  by_cases hi:i<(D.muts.take k).length
  ·rw[List.getElem?_append_left hi]at hr'
   rw[List.getElem?_append_left (by omega)]at hu';exact fin (m1.inner i r' u' hr' hu') (by decide) (Nat.le_refl _)
  ·have hi2:i=(D.muts.take k).length:=by
    have:=(List.getElem?_eq_some_iff.1 hr').1;simp at this hi ⊢;omega
   subst hi2;rw[List.getElem?_append_right (Nat.le_refl _)]at hr';rw[List.getElem?_append_right (by omega)]at hu';simp[hl]at hr' hu';subst hr';subst hu';exact U3 u1 hsz
 ·rw[←List.append_assoc,List.filterMap_append,List.nodup_append]
  refine⟨h.nodup,by cases hq:u.ownBlock<;>simp[hq],fun a ha b hb eab=>?_⟩;obtain⟨x,hx,hxa⟩:=List.mem_filterMap.1 ha
  have l1:a<wr.heap.size:=(h.lt x (by
   simp only[List.cons_append,List.mem_cons]at hx ⊢
   rcases hx with rfl|hx
   ·exact .inl rfl
   ·exact .inr (.inr (.inr (.inr hx)))) a hxa).2
  obtain⟨y,hy,hyb⟩:=List.mem_filterMap.1 hb;rw[List.mem_singleton]at hy;subst hy;have:=(o1.lt b hyb).1;omega
 ·intro x hx q hq
  simp only[List.mem_cons,List.mem_append,List.not_mem_nil,or_false]at hx
  rcases hx with rfl|rfl|rfl|rfl|hx|hx|rfl
  ·exact hlt _ (by simp) q hq
  ·exact hlt _ (by simp) q hq
  ·exact hlt _ (by simp) q hq
  ·have:=o2.lt q hq;omega
  ·exact hlt _ (by simp[hx]) q hq
  ·exact hlt _ (by simp[hx]) q hq
  ·have:=u1.lt q hq;omega
theorem St2.own{w wr:World}{A:Array Value}{D:WD}{v1 v2 v3 v5 vg vg':Value}{sv:List (Value × Value)}{mv:List Value}(h:St2 w wr A D v1 v2 v3 v5 vg sv mv D.muts.length){y0 w1:World}
  (hy0:Below wr.heap.size wr y0) (g1:y0.grownBy w1 (some wr.heap.size)) (o1:w1.ownsRow wr.heap.size 3 1 vg' D.grey.length (D.grey.map (Value.int .i64))) {wF:World} {bs:List Nat} (hF:Chg bs w1 wF) (hbs:∀q,q∈bs→q<w.heap.size+1+1+1∧w.heap.size≤q) :
  OwnW wF w.heap.size ⟨v1,v2,v3,v5,vg',sv,mv⟩ D∧Below w.heap.size w wF:=by
 have hsz:=h.size;have b1:Below wr.heap.size wr w1:=hy0.grown g1 hy0.size (fun q hq=>by cases hq;exact Nat.le_refl _);have z1:=b1.size
 have fin:∀{x:Value} {n b:Nat} {xs:List Value} {t:TypeId} {sz:Nat},w1.ownsRow b t sz x n xs→w.heap.size+1+1+1≤b→wF.ownsRow w.heap.size t sz x n xs:=fun hx hb =>
  U3 (U1 hx hF fun q hq hm=>by have:=(hx.lt q hq).1;have:=(hbs q hm).1;omega) (by omega)
 have e:D.muts.take D.muts.length=D.muts:=List.take_length;have m:=h.muts.below b1;rw[e]at m;have s:=h.spans.below b1;refine⟨⟨fin (X8 h.words b1) (Nat.le_refl _),fin (X8 h.dirty b1) (Nat.le_refl _),fin s.row (Nat.le_refl _),s.len,fun i s' p h1 h2=>⟨fin (s.inner i s' p h1 h2).1 (Nat.le_refl _),fin (s.inner i s' p h1 h2).2 (Nat.le_refl _)⟩,fin m.row (Nat.le_refl _),m.len,fun i r v h1 h2=>fin (m.inner i r v h1 h2) (Nat.le_refl _),fin o1 hsz,?_⟩,Chg.below (h.below.trans (b1.mono (by omega))) hF (by have:=h.below.size;omega) (fun q hq=>(hbs q hq).2)⟩
 show((v1::V9 sv++mv++[vg']).filterMap Value.ownBlock).Nodup
 rw[List.filterMap_append,List.nodup_append];refine⟨h.nodup,by cases hq:vg'.ownBlock<;>simp[hq],fun a ha b hb eab=>?_⟩;obtain⟨x,hx,hxa⟩:=List.mem_filterMap.1 ha
 have l1:a<wr.heap.size:=(h.lt x (by
  simp only[List.cons_append,List.mem_cons]at hx ⊢
  rcases hx with rfl|hx
  ·exact .inl rfl
  ·exact .inr (.inr (.inr (.inr hx)))) a hxa).2
 obtain⟨y,hy,hyb⟩:=List.mem_filterMap.1 hb;rw[List.mem_singleton]at hy;subst hy;have:=(o1.lt b hyb).1;omega
def zmc(D:WD)(c:Int)(k:Nat):Prop:=∀(i:Nat) (s:Y7),i<k→D.spans[i]?=some s→s.cls=c→∀j,j<s.lens.length→s.lens[j]?.getD 0≠0
def J4(D:WD)(c:Int)(k:Nat):Y7:=⟨(k:Int),c,0,D.phase == 4,List.replicate (sl' c).toNat 0,List.replicate (sl' c).toNat 0⟩
def insD(D:WD)(c:Int)(k:Nat):WD:={ D with spans:=D.spans.take k++J4 D c k::D.spans.drop k }
def M0(D:WD)(c:Int)(D1:WD)(k j:Nat):Prop :=
 (D1=D∧∃s,D.spans[k]?=some s∧s.cls=c∧j<s.lens.length∧s.lens[j]?.getD 0=0∧(∀i,i<j→s.lens[i]?.getD 0≠0)∧zmc D c k) ∨
 (zmc D c D.spans.length∧zhc D k∧(k:Int)≠D.pages∧D1=insD D c k∧j=0)
def zgm(D:WD)(c:Int):Prop:=zmc D c D.spans.length∧∃k:Nat,zhc D k∧(k:Int)=D.pages
def N7(s:Y7)(j:Nat)(n p:Int):Y7:={ s with lens:=s.lens.set j n,ptrs:=s.ptrs.set j p }
def zeo(D:WD)(k:Nat)(s:Y7)(j:Nat)(n p:Int):WD :=
 { D with dirty:=zfs D.dirty (atW s (j:Int)) n,spans:=D.spans.set k (N7 s j n p) }
theorem zhc.unique{D:WD}{k k':Nat}(h:zhc D k)(h':zhc D k'):k=k':=by
 have key:∀{a b:Nat},zhc D a→zhc D b→¬a<b:=fun {a b} ha hb hlt=>by
  obtain⟨s,hs⟩:∃s,D.spans[a]?=some s:=⟨_,List.getElem?_eq_getElem (by have:=hb.1;omega)⟩;exact ha.2.2 s hs (hb.2.1 a s hlt hs)
 have h1:=key h h';have h2:=key h' h;omega
theorem M0.unique{D:WD}{c:Int}{D1 D2:WD}{k j k' j':Nat}(h:M0 D c D1 k j)(h':M0 D c D2 k' j'):D2=D1∧k'=k∧j'=j:=by
 rcases h with⟨rfl,s,hs,hc,hj,h0,hb,hf⟩|⟨hf,hp,hn,rfl,rfl⟩<;>rcases h' with⟨rfl,s',hs',hc',hj',h0',hb',hf'⟩|⟨hf',hp',hn',rfl,rfl⟩
 ·have e:k'=k:=by
   rcases Nat.lt_trichotomy k k' with h|h|h
   ·exact absurd h0 (hf' k s h hs hc j hj)
   ·exact h.symm
   ·exact absurd h0' (hf k' s' h hs' hc' j' hj')
  subst e;rw[hs]at hs'
  cases hs'
  refine⟨rfl,rfl,?_⟩
  rcases Nat.lt_trichotomy j j' with h|h|h
  ·exact absurd h0 (hb' j h)
  ·exact h.symm
  ·exact absurd h0' (hb j' h)
 ·exact absurd h0 (hf' k s (List.getElem?_eq_some_iff.1 hs).1 hs hc j hj)
 ·exact absurd h0' (hf k' s' (List.getElem?_eq_some_iff.1 hs').1 hs' hc' j' hj')
 ·obtain rfl:=hp.unique hp'
  exact⟨rfl,rfl,rfl⟩
theorem M0.some{D:WD}{c:Int}{D1:WD}{k j:Nat}(h:M0 D c D1 k j):¬zgm D c:=by
 rintro⟨hf,q,hq,hn⟩
 rcases h with⟨rfl,s,hs,hc,hj,h0,hb,_⟩|⟨_,hp,hn',rfl,rfl⟩
 ·exact absurd h0 (hf k s (List.getElem?_eq_some_iff.1 hs).1 hs hc j hj)
 ·obtain rfl:=hp.unique hq
  exact hn' hn
theorem zwv{n:Int}(h1:1≤n)(h2:n≤16):0≤cl n∧cl n≤3∧sl' (cl n)≠0∧n≤sz (cl n):=by
 unfold cl;rw[if_neg (by omega)]
 (repeat' split)<;>simp[sl',sz]<;>omega
theorem cl_no{n:Int}(h:n<1∨16<n):cl n=-1:=by
 unfold cl
 rcases h with h|h
 ·rw[if_pos h]
 ·rw[if_neg (by omega),if_neg (by omega),if_neg (by omega),if_neg (by omega),if_neg (by omega)]
theorem Y5.slotIn{D:WD}(h:Y5 D){k j:Nat}{s:Y7}(hk:D.spans[k]?=some s)(hj:j<s.lens.length):zex D s j:=by
 have A:=h.span k s hk;have g:=h.geo;exact⟨A.cls,A.lens,A.ptrs,hj,A.pg0,A.pg1,h.words,h.dirty,g.2.2.2.2.1⟩
end Go.Proofs.YtjjamgeoompbkaaGreat

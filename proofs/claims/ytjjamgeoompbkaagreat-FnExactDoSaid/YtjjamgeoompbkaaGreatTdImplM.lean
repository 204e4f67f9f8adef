import Derived.Test.YtjjamgeoompbkaaGreatTdV

set_option maxRecDepth 100000
set_option maxHeartbeats 16000000
set_option linter.all false
namespace Go.Proofs.YtjjamgeoompbkaaGreat
open Go.RowKit
open Go.Proofs.Tryz
theorem zpl{P:Program}(w:World)(dT sT ty elem:TypeId)(size g o dLen dCap:Nat)(a:Addr)(sLen sCap:Nat)(cur:Array Value)(t:TypeId)(cs:List Value)
  (hu:P.underlying dT=some (.slice elem)) (hs:(P.info? elem).map (·.size)=some size)
  (hg:w.heap[g]?=some (.cells cur t (0,0))) (hn:cs.length=Nat.min sLen dLen*size)
  (hsrc:∀j v,cs[j]?=some v→w.cell? (a.add j)=some v) (hfit:o+cs.length≤cur.size) (h1:∀v∈cs,v.oneCell'=true) :
  (Builtin.copy_ #[dT,sT] ty #[.slice (some ⟨g,o,none⟩) dLen dCap,.slice (some a) sLen sCap]).run P w =
   .ok (goInt (Nat.min sLen dLen)) (w.setRow g (cur.toList.take o++cs++cur.toList.drop (o+cs.length)).toArray):=by
 have hl:=run_loadCells_list (P:=P) w a cs hsrc;have hst:=run_storeCells_at P g o t cs 0 cur w hg (by simpa using hfit) h1
 cases hq:P.info? elem with
 | none=>simp[hq]at hs
 | some i =>
  have hi:i.size=size:=by simpa[hq]using hs
  simp[Builtin.copy_,run_underlying hu,Builtin.lenOf,Builtin.firstCells,sizeOf,typeInfo,hq,hi,←hn,hl,hst]
theorem zmf{P:Program}{w:World}{ops:Array Oper}{rest:List Oper}{o:Oper}{a:Act}{Q:Exit→Act→World→Prop}(hgd:o.guard=none)(d s:Operand)(dT sT:TypeId)
  (ho:o.op=.call { callee:=.builtin .copy,args:=#[d,s],argTypes:=#[dT,sT] }) (elem:TypeId) (size:Nat) (hu:P.underlying dT=some (.slice elem)) (hsz:(P.info? elem).map (·.size)=some size)
  (g off dLen dCap:Nat) (ad:Addr) (sLen sCap:Nat) (hd:a.eval d=.slice (some ⟨g,off,none⟩) dLen dCap) (hs:a.eval s=.slice (some ad) sLen sCap)
  (cur:Array Value) (t:TypeId) (hg:w.heap[g]?=some (.cells cur t (0,0))) (cs:List Value) (hn:cs.length=Nat.min sLen dLen*size)
  (hsrc:∀j v,cs[j]?=some v→w.cell? (ad.add j)=some v) (hfit:off+cs.length≤cur.size) (h1:∀v∈cs,v.oneCell'=true)
  (h:wpList P ops Q rest (a.put o.dst (goInt (Nat.min sLen dLen))) (w.setRow g (cur.toList.take off++(cs++cur.toList.drop (off+cs.length))).toArray)):wpList P ops Q (o::rest) a w:=by
 refine wpList_plain hgd fun K hK=>?_;have hrun:=zpl (P:=P) w dT sT o.type elem size g off dLen dCap ad sLen sCap cur t cs hu hsz hg hn hsrc hfit h1;unfold Oper.wp;simp[execOp,ho,resolve,invoke,builtin,hd,hs,hrun,Result.andThen];exact hK _ _ h
theorem zrh(A:Option Addr)(n c:Nat)(news:List Value)(hs:n≤1048576)(w:World)(h:L7 w A n 6 news) :
  Calls prog 76 #[.slice A n c] w fun e w'=>∃v,e=.returned v∧w'.ownsRow w.heap.size 93 6 v n news∧Below w.heap.size w w':=by
 by_cases hn:n=0
 ·subst hn
  obtain rfl:news=[]:=List.length_eq_zero_iff.1 (by simpa using h.len);clear h;go_enter func76,ntmps76;go_wp2_with fail;go_ret;exact⟨_,rfl,World.ownsRow_nil _ _ _ _,Below.refl _ _⟩
 ·have hlen:news.length=n*6:=h.len
  obtain⟨ad,rfl⟩:∃ad,A=some ad:=by
   obtain⟨a,e,_⟩:=h.at_ 0 news[0] (List.getElem?_eq_getElem (by omega));exact⟨a,e⟩
  have h':=Z0 (h.below (Y2 w (.cells (madeCells zme.toArray (n*6)) 93)));obtain⟨i0,hi,hz0,hz1,hz2⟩:=info_parts zeq
  have mk:∀w:World,(Instr.makeSlice 33 (.int .i64 (n:Int)) (.int .i64 (n:Int))).run prog w=.ok (.slice (some ⟨w.heap.size,0,none⟩) n n) (w.alloc (.cells (madeCells zme.toArray (n*6)) 93)):=fun w=>by
   have:=run_make (P:=prog) w 33 93 i0 _ underlying33 hi hz0 .i64 .i64 (n:Int) (n:Int) (by omega) (by omega) (by rw[hz2];omega) (by omega);rw[this,hz1];simp[zme,show(Value.agg #[.int .i64 0,.int .i64 0,.int .i64 0,.bool false,.slice none 0 0,.slice none 0 0]).cells=#[.int .i64 0,.int .i64 0,.int .i64 0,.bool false,.slice none 0 0,.slice none 0 0]from rfl]
  clear hi hz0 hz1 hz2;have hlen':=Z0 hlen;have hnz:¬(n:Int)=0:=by omega
  clear h hlen;go_enter func76,ntmps76
  go_wp2_with (first
   | (refine zmf rfl (.tmp 10) (.tmp 11) 33 33 rfl 93 6 underlying33 (by kernel_rfl) w.heap.size 0 n n ad n c rfl rfl (madeCells zme.toArray (n*6)) 93 (Y8 w _) news (by rw[hlen'.out,show Nat.min n n=n from Nat.min_self n]) (fun j u hj=>(by obtain⟨a,e,hc⟩:=h'.out.at_ j u hj;cases e;exact hc)) (by rw[hlen'.out];simp[size_madeCells]) h'.out.one ?_))
  go_ret;refine⟨_,rfl,⟨by simpa using hlen'.out,.inr ⟨w.heap.size,n,_,rfl,Nat.le_refl _,setRow_heap _ _ _ _ _ _ (Y8 w _),Nat.le_refl _,by unfold maxLen;omega,?_,?_⟩⟩,below_setRow (Y2 w _) (Nat.le_refl _) _⟩
  ·simp[hlen'.out,size_madeCells]
  ·have e:List.drop (n*6) (madeCells zme.toArray (n*6)).toList=[]:=List.drop_eq_nil_iff.2 (by simp[size_madeCells])
   have hl:=hlen'.out;rw[List.toList_toArray,hl,e,List.append_nil,List.take_of_length_le (by omega)]
end Go.Proofs.YtjjamgeoompbkaaGreat

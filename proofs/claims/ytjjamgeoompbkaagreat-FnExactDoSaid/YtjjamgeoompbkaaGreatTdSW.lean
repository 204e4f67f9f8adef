import Derived.Test.YtjjamgeoompbkaaGreatTdN

set_option maxRecDepth 100000
set_option maxHeartbeats 16000000
set_option linter.all false
namespace Go.Proofs.YtjjamgeoompbkaaGreat
open Go.RowKit
open Go.Proofs.Tryz
def J5(D:WD):List Int→List Int→Prop:=fun L fr=>fr.length≤16*L.length∧(∀b,P8 D b→(b∈fr↔zsg D L b))∧∀b,b∈fr→b≠0
theorem J5.nil(D:WD):J5 D [] []:=⟨by simp,fun b _=>⟨fun h=>by simp at h,fun⟨a,_,_,_,h,_⟩=>by simp at h⟩,fun b h=>by simp at h⟩
theorem J5.snoc{D:WD}{L fr:List Int}{x:Int}{k j:Nat}{s:Y7}(hF:Y5 D)(h:J5 D L fr)(ho:R6 D x k j)(hs:D.spans[k]?=some s):J5 D (L++[x]) (fr++nz (ptrW D s j)):=by
 have hl:=zia hF ho hs;refine⟨by have:=h.1;simp only[List.length_append,List.length_cons,List.length_nil];omega,fun b hb=>?_,fun b hb=>?_⟩
 ·rw[List.mem_append,h.2.1 b hb,zuk (zrb hF hb)]
  constructor
  ·rintro(⟨a,k',j',s',ha,h1,h2,h3⟩|hm)
   ·exact⟨a,k',j',s',List.mem_append.2 (.inl ha),h1,h2,h3⟩
   ·exact⟨x,k,j,s,by simp,ho,hs,hm⟩
  ·rintro⟨a,k',j',s',ha,h1,h2,h3⟩
   rcases List.mem_append.1 ha with ha|ha
   ·exact .inl ⟨a,k',j',s',ha,h1,h2,h3⟩
   ·obtain rfl:=List.mem_singleton.1 ha
    obtain⟨rfl,rfl⟩:=h1.unique hF ho;rw[hs]at h2
    cases h2
    exact .inr h3
 ·rcases List.mem_append.1 hb with hb|hb
  ·exact h.2.2 b hb
  ·exact(zho.1 hb).2
theorem zvj(B:Nat)(v:Value)(D:WD)(hF:Y5 D)(hg:∀a,a∈D.grey→P8 D a)(hgl:D.grey.length≤384)(w:World)(hr:RdW w v D)(hB:BoxW w B v) :
  Calls prog 90 #[.pointer (some ⟨B,0,none⟩)] w fun e w'=>∃L u,Hid (Asc L∧∀a,a∈L↔zfa D a)∧e=.returned u∧w'.ownsRow w.heap.size 3 1 u L.length (L.map (Value.int .i64))∧Below w.heap.size w w':=by
 have hr':=Z0 hr;have hB':=Z0 hB;have hF':=Z0 hF;have hg':=Z0 hg;obtain⟨vw,vd,vs,vm,vg,rfl,a1,a2,a3,a4,a5⟩:=hr;obtain⟨ag,cg,rfl,hgm,xg⟩:=a5;have xg':=Z0 xg;have G8:=Z0 (fun(w':World) (hb:Below w.heap.size w w')=>Y3 hb (hB.cell 8 (.slice ag D.grey.length cg) rfl));clear a1 a2 a3 a4 xg hB hF hg hgm;go_enter func90,ntmps90;go_wp2_with fail
 go_loopw [4,5] (fun v i wr=>∃(m:Nat) (fr:List Int),m≤D.grey.length∧i=.int .i64 m∧Hid (J5 D (D.grey.take m) fr)∧Hid (wr.ownsRow w.heap.size 3 1 v fr.length (fr.map (Value.int .i64)))∧Hid (Below w.heap.size w wr)) (fun _ i _=>D.grey.length-(Go.RowKit.intOf i).toNat)
 case atStart=>exact⟨0,[],Nat.zero_le _,rfl,Z0 (by simpa using J5.nil D),Z0 (World.ownsRow_nil _ _ _ _),Z0 (Below.refl _ _)⟩
 case round =>
  obtain⟨m,fr,hm,rfl,hfr,hown,hb⟩:=hrel;have g8:=G8.out _ hb.out;have hfl:=hfr.out.1;rw[List.length_take]at hfl
  by_cases hlt:m<D.grey.length
  ·have hlt1:(m:Int)<(D.grey.length:Int):=by omega
   obtain⟨bg,og,rfl,x0⟩:=xg'.out m hlt;have x1:=Y3 hb.out x0;have hmem:=Z0 (show P8 D (D.grey[m]?.getD 0)from hg'.out _ (by rw[List.getElem?_eq_getElem hlt];exact List.getElem_mem hlt));have hfind:=Z0 (zgk B _ D hF'.out (D.grey[m]?.getD 0) wr (hr'.out.below hb.out) (hB'.out.below hb.out));have ht1:=Z0 (L9 hlt);clear x0;generalize D.grey[m]?.getD 0=x at *;obtain⟨au,cu,hu⟩:=X0 hown.out;subst hu;go_wp2_with fail;refine hfind.out.mono ?_;rintro e w1⟨⟨r,q,rfl,hq⟩,b1⟩;have hb1:=Z0 (Z7 hb.out b1);have hown1:=Z0 (X8 hown.out b1);clear b1 hfind g8 x1 hown hb
   rcases hq with⟨k,j,_,ho,rfl,rfl⟩|⟨hn,rfl,rfl⟩
   case inr=>exact absurd hmem.out (P8.no (hn hF'.out))
   obtain⟨s,hks,hin,p0,p1⟩:=L6 hF'.out ho;have hpt:=Z0 (ziu B _ D k j s hks hin p0 p1 w1 (hr'.out.below hb1.out) (hB'.out.below hb1.out));have hnx:=Z0 (show J5 D (D.grey.take (m+1)) (fr++nz (ptrW D s j)) by rw[ht1.out];exact hfr.out.snoc hF'.out ho hks);have hpl:=zia hF'.out ho hks;clear ho hks hin p0 p1 hmem ht1;generalize nz (ptrW D s j)=Z at *
   go_wp2_with (first
    | (go_at_call 89;refine hpt.out.mono ?_;rintro e w5⟨u4,rfl,h4,b5⟩;obtain⟨a4,c4,hu4⟩:=X0 h4;subst hu4;have own5:=Z0 (X8 hown1.out b5);have src5:=Z0 (Rd.src (Rd.of_owns h4));have hb5:=Z0 (Z7 hb1.out b5);clear h4 b5)
    | (at_builtin;refine N6 rfl (.tmp 34) (.tmp 38) 22 rfl w.heap.size 3 (.int .i64 0) 1 8 underlying22 zer rfl (by decide) _ fr.length _ rfl own5.out a4 Z.length c4 (Z.map (Value.int .i64)) rfl src5.out (by unfold maxLen;omega) (by omega) hb5.out.size ?_;intro v6 w6 o6 g6))
   have hb6:=Z0 (zec hb5.out own5.out g6 hb5.out.size);have o6':=Z0 (show w6.ownsRow w.heap.size 3 1 v6 (fr++Z).length ((fr++Z).map (Value.int .i64)) by simpa using o6);clear o6 g6;go_wp2_with fail
   go_roundw
   case rel=>exact⟨m+1,fr++Z,by omega,by go_num,hnx,o6',hb6⟩
   case measure=>simp[Go.RowKit.intOf];omega
  obtain rfl:m=D.grey.length:=by omega
  have hfr2:=Z0 (show J5 D D.grey fr by simpa using hfr.out);have hfl2:fr.length≤1048576:=by omega
  obtain⟨au,cu,hu⟩:=X0 hown.out;subst hu;have two:=Z0 (show TwoL w wr (.slice none 0 0) (.slice au fr.length cu) [] fr from⟨World.ownsRow_nil _ _ _ _,.of_row hown.out,fun q hq=>by simp[Value.ownBlock]at hq,hb.out⟩);clear hfr hlt hm hfl;go_wp2_with fail;clear g8 hown hb
  go_loopw [3,4] (fun u v wr=>∃S T:List Int,Hid (GoSt D (fun k j=>¬U4 D k j) fr S T)∧Hid (Asc S)∧Hid (T.length≤fr.length+16*S.length)∧Hid (TwoL w wr u v S T)) (fun u v _=>lenV v+17*(384-lenV u))
  case atStart=>exact⟨[],fr,Z0 (GoSt.zero _ _ _),Z0 List.Pairwise.nil,Z0 (by simp),two⟩
  case round =>
   clear two;obtain⟨S,T,st,asc,len,two⟩:=hrel;obtain⟨au,cu,hu⟩:=X0 two.out.own
   rcases T with _|⟨x,T⟩
   ·obtain⟨av,cv,hv⟩:=two.out.que.shape
    subst hu hv;go_wp2_with fail;go_ret;exact⟨S,_,Z0 ⟨asc.out,fun a=>(st.out.done a).trans (zfa.of_led hfr2.out.2.1 a)⟩,rfl,two.out.own,two.out.below⟩
   obtain⟨g,o,cap,hv,x0,hcap,hcm,htail⟩:=two.out.que.cons;subst hu hv;have hw:=two.out.below;have hlenS:S.length≤384:=st.out.len hF'.out;have hl:=len.out;simp only[List.length_cons]at hl;have hpos:(0:Int)<((T.length+1:Nat):Int):=by omega
   have hmem:=Z0 (show ∀a,a∈x::T↔a=x∨a∈T from fun a=>List.mem_cons);have hfind:=Z0 (zgk B _ D hF'.out x wr (hr'.out.below hw) (hB'.out.below hw));have two':=Z0 (fun(o':Nat) ho'=>two.out.tail (htail o' ho') rfl);have hcm':cap≤9223372036854775807:=by unfold maxLen at hcm;omega
   clear htail hw two hcm len
   by_cases hc:cap=1
   ·subst hc
    obtain rfl:T=[]:=List.length_eq_zero_iff.1 (by omega);have two:Hid (TwoL w wr (.slice au S.length cu) (.slice (some ⟨g,o,none⟩) 0 0) S []):=Z0 (two'.out o (.inr ⟨rfl,rfl⟩));clear two';go_wp2_with fail;refine hfind.out.mono ?_;rintro e w1⟨⟨r,q,rfl,hq⟩,b1⟩;have two1:=Z0 (two.out.next b1);clear b1 hfind two;have hq:=Z0 hq;have hhas:=Z0 (zmn (.slice au S.length cu) x S w1 (Rd.of_owns two1.out.own));go_wp2_with fail;refine hhas.out.mono ?_;rintro e w2⟨hm,rfl⟩;replace hm:=hm.elim
    rcases hm with⟨hm,rfl⟩|⟨hm,rfl⟩
    ·have st2:=Z0 (st.out.skip hmem.out (.inr hm))
     clear hm;go_wp2_with fail
     go_roundw
     case rel=>exact⟨S,[],st2,asc,Z0 (by omega),two1⟩
     case measure=>simp only[lenV,List.length_nil];omega
    have hm:=Z0 hm
    rcases hq.out with⟨k,j,_,ho,rfl,rfl⟩|⟨hn,rfl,rfl⟩
    case inr =>
     have st2:=Z0 (st.out.skip hmem.out (.inl (P8.no (hn hF'.out))));clear hn;go_wp2_with fail
     go_roundw
     case rel=>exact⟨S,[],st2,asc,Z0 (by omega),two1⟩
     case measure=>simp only[lenV,List.length_nil];omega
    obtain⟨s,hks,hin,p0,p1⟩:=L6 hF'.out ho;have ho':=Z0 ho;have hks':=Z0 hks;have hin':=Z0 hin;have p0':=Z0 p0;have p1':=Z0 p1;clear ho hks hin p0 p1;have hput:=Z0 (zjh w.heap.size _ S x asc.out (by omega) w1 two1.out.below.size two1.out.own);go_wp2_with fail;refine hput.out.mono ?_;rintro e w3⟨u',S',hp,rfl,hown,hfr,b3⟩;have two3:=Z0 (two1.out.put b3 hown hfr);obtain⟨a',c',hu'⟩:=X0 hown;subst hu';have hsl:=Z0 (zlq.len' st.out.nodup hm.out hp);have hpl:=zia hF'.out ho'.out hks'.out;have hnod:=Z0 hp.1.nodup;have hasc:=Z0 hp.1;have hS:=Z0 hp.2.1;clear hown hfr b3 hhas hput hp;have hmk:=Z0 (zfc B _ D k j s hks'.out (by have:=hin'.out.bd;omega) w3 (hr'.out.below two3.out.below) (hB'.out.below two3.out.below));go_wp2_with fail;refine hmk.out.mono ?_;rintro e w4⟨hm2,b4⟩;replace hm2:=hm2.elim;have two4:=Z0 (two3.out.next b4);clear b4 hmk two3
    rcases hm2 with⟨hm2,rfl⟩|⟨hm2,rfl⟩
    ·have st2:=Z0 (st.out.put (T'':=[]) hF'.out hmem.out ho'.out hks'.out hnod.out hS.out (fun hn=>absurd hm2 hn) (fun _=>rfl))
     have h384:=st2.out.len hF'.out;clear hm2;go_wp2_with fail
     go_roundw
     case rel=>exact⟨S',[],st2,hasc,Z0 (by have:=hsl.out;(try simp only[List.length_nil]);omega),two4⟩
     case measure=>have:=hsl.out;simp only[lenV,List.length_nil];omega
    have st2:=Z0 (st.out.put (T'':=[]++nz (ptrW D s j)) hF'.out hmem.out ho'.out hks'.out hnod.out hS.out (fun _ b hb=>by rw[List.mem_append,zuk (zrb hF'.out hb)]) (fun hn=>absurd hm2 hn));have h384:=st2.out.len hF'.out;have hpt:=Z0 (ziu B _ D k j s hks'.out hin'.out p0'.out p1'.out w4 (hr'.out.below two4.out.below) (hB'.out.below two4.out.below));clear hm2;generalize nz (ptrW D s j)=Z at *
    go_wp2_with (first
     | (go_at_call 89;refine hpt.out.mono ?_;rintro e w5⟨u4,rfl,h4,b5⟩;obtain⟨a4,c4,hu4⟩:=X0 h4;subst hu4;have two5:=Z0 (two4.out.next b5);have src5:=Z0 (Rd.src (Rd.of_owns h4));clear h4 b5)
     | (at_builtin;refine zhw rfl (.tmp 69) (.tmp 73) rfl rfl two5.out.que a4 Z.length c4 Z rfl rfl src5.out (by omega) two5.out.below.size ?_;intro v6 w6 q6 g6 f6))
    have two6:=Z0 (two5.out.app g6 q6 f6);obtain⟨a6,c6,hv6⟩:=q6.shape;subst hv6;clear q6 g6 f6;go_wp2_with fail
    go_roundw
    case rel=>exact⟨S',[]++Z,st2,hasc,Z0 (by have:=hsl.out;simp only[List.length_append,List.length_nil];omega),two6⟩
    case measure=>simp only[lenV,List.length_append,List.length_nil];(try have hsl2:=hsl.out);omega
   ·have two:=Z0 (two'.out (o+1) (.inl rfl))
    clear two';go_wp2_with fail;refine hfind.out.mono ?_;rintro e w1⟨⟨r,q,rfl,hq⟩,b1⟩;have two1:=Z0 (two.out.next b1);clear b1 hfind two;have hq:=Z0 hq;have hhas:=Z0 (zmn (.slice au S.length cu) x S w1 (Rd.of_owns two1.out.own));go_wp2_with fail;refine hhas.out.mono ?_;rintro e w2⟨hm,rfl⟩;replace hm:=hm.elim
    rcases hm with⟨hm,rfl⟩|⟨hm,rfl⟩
    ·have st2:=Z0 (st.out.skip hmem.out (.inr hm))
     clear hm;go_wp2_with fail
     go_roundw
     case rel=>exact⟨S,T,st2,asc,Z0 (by omega),two1⟩
     case measure=>simp only[lenV,List.length_nil];omega
    have hm:=Z0 hm
    rcases hq.out with⟨k,j,_,ho,rfl,rfl⟩|⟨hn,rfl,rfl⟩
    case inr =>
     have st2:=Z0 (st.out.skip hmem.out (.inl (P8.no (hn hF'.out))));clear hn;go_wp2_with fail
     go_roundw
     case rel=>exact⟨S,T,st2,asc,Z0 (by omega),two1⟩
     case measure=>simp only[lenV,List.length_nil];omega
    obtain⟨s,hks,hin,p0,p1⟩:=L6 hF'.out ho;have ho':=Z0 ho;have hks':=Z0 hks;have hin':=Z0 hin;have p0':=Z0 p0;have p1':=Z0 p1;clear ho hks hin p0 p1;have hput:=Z0 (zjh w.heap.size _ S x asc.out (by omega) w1 two1.out.below.size two1.out.own);go_wp2_with fail;refine hput.out.mono ?_;rintro e w3⟨u',S',hp,rfl,hown,hfr,b3⟩;have two3:=Z0 (two1.out.put b3 hown hfr);obtain⟨a',c',hu'⟩:=X0 hown;subst hu';have hsl:=Z0 (zlq.len' st.out.nodup hm.out hp);have hpl:=zia hF'.out ho'.out hks'.out;have hnod:=Z0 hp.1.nodup;have hasc:=Z0 hp.1;have hS:=Z0 hp.2.1;clear hown hfr b3 hhas hput hp;have hmk:=Z0 (zfc B _ D k j s hks'.out (by have:=hin'.out.bd;omega) w3 (hr'.out.below two3.out.below) (hB'.out.below two3.out.below));go_wp2_with fail;refine hmk.out.mono ?_;rintro e w4⟨hm2,b4⟩;replace hm2:=hm2.elim;have two4:=Z0 (two3.out.next b4);clear b4 hmk two3
    rcases hm2 with⟨hm2,rfl⟩|⟨hm2,rfl⟩
    ·have st2:=Z0 (st.out.put (T'':=T) hF'.out hmem.out ho'.out hks'.out hnod.out hS.out (fun hn=>absurd hm2 hn) (fun _=>rfl))
     have h384:=st2.out.len hF'.out;clear hm2;go_wp2_with fail
     go_roundw
     case rel=>exact⟨S',T,st2,hasc,Z0 (by have:=hsl.out;(try simp only[List.length_nil]);omega),two4⟩
     case measure=>have:=hsl.out;simp only[lenV,List.length_nil];omega
    have st2:=Z0 (st.out.put (T'':=T++nz (ptrW D s j)) hF'.out hmem.out ho'.out hks'.out hnod.out hS.out (fun _ b hb=>by rw[List.mem_append,zuk (zrb hF'.out hb)]) (fun hn=>absurd hm2 hn));have h384:=st2.out.len hF'.out;have hpt:=Z0 (ziu B _ D k j s hks'.out hin'.out p0'.out p1'.out w4 (hr'.out.below two4.out.below) (hB'.out.below two4.out.below));clear hm2;generalize nz (ptrW D s j)=Z at *
    go_wp2_with (first
     | (go_at_call 89;refine hpt.out.mono ?_;rintro e w5⟨u4,rfl,h4,b5⟩;obtain⟨a4,c4,hu4⟩:=X0 h4;subst hu4;have two5:=Z0 (two4.out.next b5);have src5:=Z0 (Rd.src (Rd.of_owns h4));clear h4 b5)
     | (at_builtin;refine zhw rfl (.tmp 69) (.tmp 73) rfl rfl two5.out.que a4 Z.length c4 Z rfl rfl src5.out (by omega) two5.out.below.size ?_;intro v6 w6 q6 g6 f6))
    have two6:=Z0 (two5.out.app g6 q6 f6);obtain⟨a6,c6,hv6⟩:=q6.shape;subst hv6;clear q6 g6 f6;go_wp2_with fail
    go_roundw
    case rel=>exact⟨S',T++Z,st2,hasc,Z0 (by have:=hsl.out;simp only[List.length_append,List.length_nil];omega),two6⟩
    case measure=>simp only[lenV,List.length_append,List.length_nil];(try have hsl2:=hsl.out);omega
def CapG(v:Value):Prop:=∀c0 c1 c2 c3 c4 c5 c6 c7 a n c,v=.agg #[c0,c1,c2,c3,c4,c5,c6,c7,.slice a n c]→n≤c
theorem U2.nil(D:WD):U2 D []:=⟨List.nodup_nil,fun a h=>by simp at h⟩
theorem U2.snoc{D:WD}{L:List Int}{x:Int}(h:U2 D L)(hm:U8 D x)(hx:x∉L):U2 D (L++[x]) :=
 ⟨List.nodup_append.2 ⟨h.1,by simp,fun a ha b hb=>by obtain rfl:=List.mem_singleton.1 hb;exact fun e=>hx (e ▸ ha)⟩,fun a ha=>(List.mem_append.1 ha).elim (h.2 a) fun hb=>by rw[List.mem_singleton.1 hb];exact hm⟩
theorem U2.no1{D:WD}{k:Nat}(hk:k<D.grey.length)(hm:¬U8 D (D.grey[k]?.getD 0)):¬U2 D D.grey:=fun h=>hm (h.2 _ (by rw[List.getElem?_eq_getElem hk];exact List.getElem_mem hk))
theorem U2.no2{D:WD}{k:Nat}(hk:k<D.grey.length)(hm:D.grey[k]?.getD 0∈D.grey.take k):¬U2 D D.grey:=fun h=>by
 obtain⟨i,hi,e⟩:=List.mem_iff_getElem.1 hm;rw[List.length_take]at hi;rw[List.getElem_take,List.getElem?_eq_getElem hk]at e;exact(List.pairwise_iff_getElem.1 h.1 i k (by omega) hk (by omega)) e
theorem U2.obj{D:WD}(h:U2 D D.grey):∀a,a∈D.grey→P8 D a:=fun a ha=>by
 obtain⟨k,j,ho,_⟩:=h.2 a ha;exact⟨k,j,ho⟩
theorem zxv(B:Nat)(v:Value)(D:WD)(hF:Y5 D)(hcap:CapG v)(w:World)(hr:RdW w v D)(hB:BoxW w B v) :
  Calls prog 58 #[.pointer (some ⟨B,0,none⟩)] w fun e w'=>IsB (zfg D) e∧Below w.heap.size w w':=by
 have hr':=Z0 hr;have hB':=Z0 hB;have hF':=Z0 hF;obtain⟨vw,vd,vs,vm,vg,rfl,a1,a2,a3,a4,a5⟩:=hr;obtain⟨cs,he,hh⟩:=hB;obtain rfl:=(Value.agg.inj he).symm;obtain⟨aS,cS,rfl,hsl,hx⟩:=a3;obtain⟨aM,cM,rfl,hml,_⟩:=a4;obtain⟨ag,cg,rfl,hgl,hxg⟩:=id a5;have hgc:=hcap _ _ _ _ _ _ _ _ _ _ _ rfl;have a5':=Z0 a5;have hxg':=Z0 hxg;unfold maxLen at hsl hml hgl;have bb:=Y2 w (.cells #[.int .i64 D.phase,.int .i64 D.next,.slice ag D.grey.length cg] 35);have bx:=Y8 w (.cells #[.int .i64 D.phase,.int .i64 D.next,.slice ag D.grey.length cg] 35);have g6:=Z6 hh 6 _ rfl;have g7:=Z6 hh 7 _ rfl;have g8:=Z6 hh 8 _ rfl;have hf4:=Z0 (fun(w':World) (hb:Below w.heap.size w w')=>Y3 hb (Z6 hh 4 (.slice aS D.spans.length cS) rfl));have g5:=Z0 (Y3 bb (Z6 hh 5 (.slice aM D.muts.length cM) rfl));have hspl:=hF.spans;have hpl:=hF.geo.2.2.2.2.1;have bb':=Z0 bb;have bx':=Z0 bx;clear a1 a2 a5 hF he hh hx hxg hcap bb bx;go_enter func58,ntmps58;go_upto_region 2 with fail;clear g6 g7 g8;generalize w.alloc (.cells #[.int .i64 D.phase,.int .i64 D.next,.slice ag D.grey.length cg] 35)=W at *;have p0:=Z6 bx'.out 0 _ rfl;have p1:=Z6 bx'.out 1 _ rfl;have p2:=Z6 bx'.out 2 _ rfl;have q5:=g5.out
 go_cut [51] (fun q wx=>∃b:Bool,q=.bool b∧Hid (b=true↔¬((D.grey≠[]→D.phase=1∨D.phase=2)∧zey D))∧Hid (Below W.heap.size W wx))
 case first =>
  have hA:=Z0 (show(D.grey≠[]→D.phase=1∨D.phase=2)↔(D.grey.length=0∨D.phase=1∨D.phase=2)from by
   rw[List.length_eq_zero_iff]
   by_cases h:D.grey=[]
   ·simp[h]
   ·simp[h])
  have hN:=Z0 (show zey D↔(0≤D.next∧D.next≤(D.muts.length:Int)∧(0<D.next→D.phase=1))from Iff.rfl);generalize (D.grey≠[]→D.phase=1∨D.phase=2)=GA at *;generalize zey D=NA at *;generalize D.phase=ph at *;generalize D.next=nx at *;have d1:¬ph=1→(ph == 1)=false:=fun h=>beq_eq_false_iff_ne.2 h;have d2:¬ph=2→(ph == 2)=false:=fun h=>beq_eq_false_iff_ne.2 h
  by_cases e3:0<D.grey.length
  ·have fe3:decide (0<D.grey.length)=true:=by simpa using e3
   by_cases e1:ph=1
   ·subst e1
    clear d1 d2
    by_cases n1:nx<0
    ·have fn1:decide (nx<0)=true:=by simpa using n1
     have z:=Z0 (show GA→NA→False from fun h1 h2=>by have:=hA.out.1 h1;have:=hN.out.1 h2;omega)
     go_quiet (fail)
     go_wp2_with fail
     go_meet
     exact⟨true,rfl,Z0 ⟨fun _ h=>z.out h.1 h.2,fun _=>rfl⟩,Z0 (below_drewN (Below.refl _ _) _)⟩
    have fn1:decide (nx<0)=false:=by simpa using n1
    by_cases n2:(D.muts.length:Int)<nx
    ·have fn2:decide ((D.muts.length:Int)<nx)=true:=by simpa using n2
     have z:=Z0 (show GA→NA→False from fun h1 h2=>by have:=hA.out.1 h1;have:=hN.out.1 h2;omega)
     go_quiet (fail)
     go_wp2_with fail
     go_meet
     exact⟨true,rfl,Z0 ⟨fun _ h=>z.out h.1 h.2,fun _=>rfl⟩,Z0 (below_drewN (Below.refl _ _) _)⟩
    have fn2:decide ((D.muts.length:Int)<nx)=false:=by simpa using n2
    by_cases n3:0<nx
    ·have fn3:decide (0<nx)=true:=by simpa using n3
     have z:=Z0 (show GA∧NA from⟨hA.out.2 (by omega),hN.out.2 (by omega)⟩)
     go_quiet (fail)
     go_wp2_with fail
     go_meet
     exact⟨false,rfl,Z0 ⟨fun h=>absurd h (by decide),fun h=>absurd z.out h⟩,Z0 (below_drewN (Below.refl _ _) _)⟩
    have fn3:decide (0<nx)=false:=by simpa using n3
    have z:=Z0 (show GA∧NA from⟨hA.out.2 (by omega),hN.out.2 (by omega)⟩)
    go_quiet (fail)
    go_wp2_with fail
    go_meet
    exact⟨false,rfl,Z0 ⟨fun h=>absurd h (by decide),fun h=>absurd z.out h⟩,Z0 (below_drewN (Below.refl _ _) _)⟩
   by_cases e2:ph=2
   ·subst e2
    clear d1 d2
    by_cases n1:nx<0
    ·have fn1:decide (nx<0)=true:=by simpa using n1
     have z:=Z0 (show GA→NA→False from fun h1 h2=>by have:=hA.out.1 h1;have:=hN.out.1 h2;omega)
     go_quiet (fail)
     go_wp2_with fail
     go_meet
     exact⟨true,rfl,Z0 ⟨fun _ h=>z.out h.1 h.2,fun _=>rfl⟩,Z0 (below_drewN (Below.refl _ _) _)⟩
    have fn1:decide (nx<0)=false:=by simpa using n1
    by_cases n2:(D.muts.length:Int)<nx
    ·have fn2:decide ((D.muts.length:Int)<nx)=true:=by simpa using n2
     have z:=Z0 (show GA→NA→False from fun h1 h2=>by have:=hA.out.1 h1;have:=hN.out.1 h2;omega)
     go_quiet (fail)
     go_wp2_with fail
     go_meet
     exact⟨true,rfl,Z0 ⟨fun _ h=>z.out h.1 h.2,fun _=>rfl⟩,Z0 (below_drewN (Below.refl _ _) _)⟩
    have fn2:decide ((D.muts.length:Int)<nx)=false:=by simpa using n2
    by_cases n3:0<nx
    ·have fn3:decide (0<nx)=true:=by simpa using n3
     have z:=Z0 (show GA→NA→False from fun h1 h2=>by have:=hA.out.1 h1;have:=hN.out.1 h2;omega)
     go_quiet (fail)
     go_wp2_with fail
     go_meet
     exact⟨true,rfl,Z0 ⟨fun _ h=>z.out h.1 h.2,fun _=>rfl⟩,Z0 (below_drewN (Below.refl _ _) _)⟩
    have fn3:decide (0<nx)=false:=by simpa using n3
    have z:=Z0 (show GA∧NA from⟨hA.out.2 (by omega),hN.out.2 (by omega)⟩)
    go_quiet (fail)
    go_wp2_with fail
    go_meet
    exact⟨false,rfl,Z0 ⟨fun h=>absurd h (by decide),fun h=>absurd z.out h⟩,Z0 (below_drewN (Below.refl _ _) _)⟩
   have z:=Z0 (show GA→NA→False from fun h1 h2=>by have:=hA.out.1 h1;have:=hN.out.1 h2;omega);have b1:(ph != 1)=true:=bne_iff_ne.2 e1;have b2:(ph != 2)=true:=bne_iff_ne.2 e2;clear e1 e2 d1 d2
   go_quiet (fail)
   go_wp2_with fail
   go_meet
   exact⟨true,rfl,Z0 ⟨fun _ h=>z.out h.1 h.2,fun _=>rfl⟩,Z0 (below_drewN (Below.refl _ _) _)⟩
  have fe3:decide (0<D.grey.length)=false:=by simpa using e3
  by_cases n1:nx<0
  ·have fn1:decide (nx<0)=true:=by simpa using n1
   have z:=Z0 (show GA→NA→False from fun h1 h2=>by have:=hA.out.1 h1;have:=hN.out.1 h2;omega)
   go_quiet (fail)
   go_wp2_with fail
   go_meet
   exact⟨true,rfl,Z0 ⟨fun _ h=>z.out h.1 h.2,fun _=>rfl⟩,Z0 (below_drewN (Below.refl _ _) _)⟩
  have fn1:decide (nx<0)=false:=by simpa using n1
  by_cases n2:(D.muts.length:Int)<nx
  ·have fn2:decide ((D.muts.length:Int)<nx)=true:=by simpa using n2
   have z:=Z0 (show GA→NA→False from fun h1 h2=>by have:=hA.out.1 h1;have:=hN.out.1 h2;omega)
   go_quiet (fail)
   go_wp2_with fail
   go_meet
   exact⟨true,rfl,Z0 ⟨fun _ h=>z.out h.1 h.2,fun _=>rfl⟩,Z0 (below_drewN (Below.refl _ _) _)⟩
  have fn2:decide ((D.muts.length:Int)<nx)=false:=by simpa using n2
  by_cases n3:0<nx
  ·have fn3:decide (0<nx)=true:=by simpa using n3
   by_cases e1:ph=1
   ·subst e1
    have z:=Z0 (show GA∧NA from⟨hA.out.2 (by omega),hN.out.2 (by omega)⟩)
    go_quiet (fail)
    go_wp2_with fail
    go_meet
    exact⟨false,rfl,Z0 ⟨fun h=>absurd h (by decide),fun h=>absurd z.out h⟩,Z0 (below_drewN (Below.refl _ _) _)⟩
   have z:=Z0 (show GA→NA→False from fun h1 h2=>by have:=hA.out.1 h1;have:=hN.out.1 h2;omega);have b1:(ph != 1)=true:=bne_iff_ne.2 e1;clear e1 d1 d2
   go_quiet (fail)
   go_wp2_with fail
   go_meet
   exact⟨true,rfl,Z0 ⟨fun _ h=>z.out h.1 h.2,fun _=>rfl⟩,Z0 (below_drewN (Below.refl _ _) _)⟩
  have fn3:decide (0<nx)=false:=by simpa using n3
  have z:=Z0 (show GA∧NA from⟨hA.out.2 (by omega),hN.out.2 (by omega)⟩)
  go_quiet (fail)
  go_wp2_with fail
  go_meet
  exact⟨false,rfl,Z0 ⟨fun h=>absurd h (by decide),fun h=>absurd z.out h⟩,Z0 (below_drewN (Below.refl _ _) _)⟩
 case rest =>
  obtain⟨b,rfl,hb,hbel⟩:=hcut;clear q5 p0 p1 p2 g5;have bb0:=Z0 (Z7 bb'.out hbel.out);have bx0:=Z0 (Z8 hbel.out bx'.out);clear hbel bb' bx'
  cases b
  case true =>
   have n:=Z0 (IsB.no (P:=zfg D) fun h=>(hb.out.1 rfl) ⟨h.1.1,h.2.1⟩);go_wp2_with fail;go_ret;exact⟨n.out,bb0.out⟩
  have hGN:=Z0 (show(D.grey≠[]→D.phase=1∨D.phase=2)∧zey D from Classical.byContradiction fun h=>by have:=hb.out.2 h;cases this);clear hb;go_wp2_with fail
  go_loopw [4] (fun i wr=>∃k:Nat,k≤D.grey.length∧i=.int .i64 k∧Hid (U2 D (D.grey.take k))∧Hid (Below w.heap.size w wr)∧Hid (wr.heap[w.heap.size]?=some (.cells #[.int .i64 D.phase,.int .i64 D.next,.slice ag D.grey.length cg] 35 (0,0)))) (fun i _=>D.grey.length-(Go.RowKit.intOf i).toNat)
  case atStart=>exact⟨0,Nat.zero_le _,rfl,Z0 (by simpa using U2.nil D),bb0,bx0⟩
  case round =>
   clear bb0 bx0;obtain⟨k,hk,rfl,hgm,hB,hG⟩:=hrel;have p2:=Z6 hG.out 2 (.slice ag D.grey.length cg) rfl
   by_cases hlt:k<D.grey.length
   ·have hlt1:(k:Int)<(D.grey.length:Int):=by omega
    have hkc:(k:Int)≤(cg:Int):=by omega
    have hc0:¬cg=0:=by omega
    obtain⟨bg,og,rfl,x0⟩:=hxg'.out k hlt;have x1:=Y3 hB.out x0;have hfind:=Z0 (zgk B _ D hF'.out (D.grey[k]?.getD 0) wr (hr'.out.below hB.out) (hB'.out.below hB.out));have hno1:=Z0 (U2.no1 (D:=D) hlt);have hno2:=Z0 (U2.no2 (D:=D) hlt);have hsn:=Z0 (show U8 D (D.grey[k]?.getD 0)→D.grey[k]?.getD 0∉D.grey.take k→U2 D (D.grey.take (k+1))from fun hm hx=>by rw[L9 hlt];exact hgm.out.snoc hm hx);have hpart:=Z0 (fun(w':World) (hb:Below w.heap.size w w')=>(by simpa using Rd.part (lo:=0) (n:=k) (a5'.out.below hb) (by omega) cg:Rd w' (.slice (some ⟨bg,og,none⟩) k cg) (D.grey.take k)));clear x0;generalize D.grey[k]?.getD 0=x at *;go_wp2_with fail;refine hfind.out.mono ?_;rintro e w1⟨⟨r,q,rfl,hq⟩,b1⟩;have hB1:=Z0 (Z7 hB.out b1);have hG1:=Z0 (Z8 b1 hG.out);have X1:=Ext.cell (Y3 b1 x1);have P2:=Ext.cell (Y3 b1 p2);clear b1 p2 x1 hfind hB hG
    rcases hq with⟨kk,j,_,ho,rfl,rfl⟩|⟨hn,rfl,rfl⟩
    case inr =>
     have n:=Z0 (IsB.no (P:=zfg D) fun h=>hno1.out (fun⟨k',j',ho,_⟩=>hn hF'.out k' j' ho) h.1.2);clear hn;go_wp2_with fail;refine Y6 (Below.refl _ _) (by kernel_rfl) (by kernel_rfl) ?_
     repeat (go_big_quiet_step ((fail)))
     refine wpQuiet_nil ?_;intro _ hw';obtain⟨x9,hw''⟩:=hw';subst hw'';go_wp2_with fail;go_ret;exact⟨n.out,Z7 hB1.out x9.below⟩
    obtain⟨s,hks,hin,pp0,pp1⟩:=L6 hF'.out ho;obtain⟨mk,hmk⟩:=E0 (U4 D kk j);obtain⟨hs,hhs⟩:=E0 (x∈D.grey.take k);have hmk2:=Z0 (show U8 D x↔mk=true from(U8.at_ hF'.out ho).trans hmk.symm);have hhs':=Z0 hhs;have hcm:=Z0 (fun(x:Ext w1)=>(zfc B _ D kk j s hks (by have:=hin.bd;omega) x.val (hr'.out.below (Z7 hB1.out x.below)) (hB'.out.below (Z7 hB1.out x.below))).mono fun e w' ⟨h1,h2⟩=>(⟨h1.at_ mk hmk,h2⟩:e=Ending.returned (.bool mk)∧Below x.val.heap.size x.val w'));have hch:=Z0 (fun(y:Ext w1)=>(zmn _ x (D.grey.take k) y.val (hpart.out y.val (Z7 hB1.out y.below))).mono fun e w' ⟨h1,h2⟩=>(⟨h1.at_ hs hhs,h2⟩:e=Ending.returned (.bool hs)∧y.val=w'));have hkk:decide ((kk:Int)<0)=false:=decide_eq_false (by omega);clear ho hks hin pp0 pp1 hmk hhs;go_wp2_with fail
    cases mk
    ·have n:=Z0 (IsB.no (P:=zfg D) fun h=>hno1.out (fun hm=>by have:=hmk2.out.1 hm;cases this) h.1.2)
     refine Y6 (Below.refl _ _) (by kernel_rfl) (by kernel_rfl) ?_
     repeat (go_big_quiet_step ((go_at_call 84;exact Ext.call (hcm.out _))))
     refine wpQuiet_nil ?_;intro _ hw';obtain⟨x9,hw''⟩:=hw';subst hw'';go_wp2_with fail;go_ret;exact⟨n.out,Z7 hB1.out x9.below⟩
    cases hs
    case true =>
     have n:=Z0 (IsB.no (P:=zfg D) fun h=>hno2.out (hhs'.out.1 rfl) h.1.2);refine Y6 (Below.refl _ _) (by kernel_rfl) (by kernel_rfl) ?_
     repeat (go_big_quiet_step ((first|(go_at_call 84;exact Ext.call (hcm.out _))|(go_at_call 85;exact Ext.same (hch.out _)))))
     refine wpQuiet_nil ?_;intro _ hw';obtain⟨x9,hw''⟩:=hw';subst hw'';go_wp2_with fail;go_ret;exact⟨n.out,Z7 hB1.out x9.below⟩
    have hn:=Z0 (hsn.out (hmk2.out.2 rfl) (fun hm=>by have:=hhs'.out.2 hm;cases this));refine Y6 (Below.refl _ _) (by kernel_rfl) (by kernel_rfl) ?_
    repeat (go_big_quiet_step ((first|(go_at_call 84;exact Ext.call (hcm.out _))|(go_at_call 85;exact Ext.same (hch.out _)))))
    refine wpQuiet_nil ?_;intro _ hw';obtain⟨x9,hw''⟩:=hw';subst hw'';have hG9:=Z0 (Z8 x9.below hG1.out);have hB9:=Z0 (Z7 hB1.out x9.below);go_wp2_with fail
    go_roundw
    case rel=>exact⟨k+1,by omega,by go_num,hn,hB9,hG9⟩
    case measure=>simp[Go.RowKit.intOf];omega
   obtain rfl:k=D.grey.length:=by omega
   have hgr:=Z0 (show zoa D from⟨hGN.out.1,by simpa using hgm.out⟩);clear hgm hlt hk;go_wp2_with fail;clear p2
   go_loopw [7] (fun i wr=>∃k:Nat,k≤D.spans.length∧i=.int .i64 k∧Hid (∀q t,q<k→D.spans[q]?=some t→zew D t)∧Hid (Below w.heap.size w wr)∧Hid (wr.heap[w.heap.size]?=some (.cells #[.int .i64 D.phase,.int .i64 D.next,.slice ag D.grey.length cg] 35 (0,0)))) (fun i _=>D.spans.length-(Go.RowKit.intOf i).toNat)
   case atStart=>exact⟨0,Nat.zero_le _,rfl,Z0 (fun q t h=>absurd h (by omega)),hB,hG⟩
   case round =>
    clear hB hG;obtain⟨k,hk,rfl,hsp,hB,hG⟩:=hrel;have p0:=Z6 hG.out 0 (.int .i64 D.phase) rfl;have g4:=hf4.out _ hB.out
    by_cases hlt:k<D.spans.length
    ·have hlt1:(k:Int)<(D.spans.length:Int):=by omega
     obtain⟨s,hks⟩:∃s,D.spans[k]?=some s:=⟨_,List.getElem?_eq_getElem hlt⟩;obtain⟨b1,o1,rfl,vl,vp,x0,x1,x2,x3,x4,x5,⟨al,cl,rfl,_⟩,⟨ap,cp,rfl,_⟩⟩:=(hr'.out.below hB.out).parts.2.2.1.at_ k s hks;have hyes:=Z0 (show zew D s→∀q t,q<k+1→D.spans[q]?=some t→zew D t from fun h q t hq ht=>if e:q=k then by subst e;rw[hks]at ht;cases ht;exact h else hsp.out q t (by omega) ht);have hnot:=Z0 (show ¬zew D s→¬zfg D from fun h h2=>h (h2.2.2 s (List.mem_of_getElem? hks)));have hP:=Z0 (show zew D s↔((s.swept=true→D.phase=4)∧(s.mark≠0→D.phase≠0∧s.swept=false))from Iff.rfl);have bbk:=Z0 (Y2 wr (.cells #[.int .i64 s.page,.int .i64 s.cls,.int .i64 s.mark,.bool s.swept,.slice al s.lens.length cl,.slice ap s.ptrs.length cp] 93));have hBk:=Z0 (Z7 hB.out bbk.out);have hGk:=Z0 (Z8 bbk.out hG.out);have p0k:=Z6 hGk.out 0 (.int .i64 D.phase) rfl;clear hks hB hG;generalize zew D s=SR at *;generalize s.swept=sw at *;generalize s.mark=mk at *;generalize D.phase=ph at *
     by_cases e0:mk=0
     ·by_cases e4:ph=4
      ·have n:=Z0 (hyes.out (hP.out.2 ⟨fun _=>e4,fun h=>absurd e0 h⟩))
       subst e0 e4;clear hP hyes hnot
       cases sw
       ·go_wp2_with fail
        go_roundw
        case rel=>exact⟨k+1,by omega,by go_num,n,hBk,hGk⟩
        case measure=>simp[Go.RowKit.intOf];omega
       ·go_wp2_with fail
        go_roundw
        case rel=>exact⟨k+1,by omega,by go_num,n,hBk,hGk⟩
        case measure=>simp[Go.RowKit.intOf];omega
      ·have f4:(ph != 4)=true:=bne_iff_ne.2 e4
       cases sw
       ·have n:=Z0 (hyes.out (hP.out.2 ⟨fun h=>absurd h (by decide),fun h=>absurd e0 h⟩))
        subst e0;clear hP hyes hnot e4;go_wp2_with fail
        go_roundw
        case rel=>exact⟨k+1,by omega,by go_num,n,hBk,hGk⟩
        case measure=>simp[Go.RowKit.intOf];omega
       ·have n:=Z0 (IsB.no (hnot.out fun h=>e4 ((hP.out.1 h).1 rfl)))
        subst e0;clear hP hyes hnot e4;go_wp2_with fail;go_ret;exact⟨n.out,hBk.out⟩
     ·have f0:(mk != 0)=true:=bne_iff_ne.2 e0
      cases sw
      ·by_cases e1:ph=0
       ·have n:=Z0 (IsB.no (hnot.out fun h=>((hP.out.1 h).2 e0).1 e1))
        subst e1;clear hP hyes hnot e0;go_wp2_with fail;go_ret;exact⟨n.out,hBk.out⟩
       ·have n:=Z0 (hyes.out (hP.out.2 ⟨fun h=>absurd h (by decide),fun _=>⟨e1,rfl⟩⟩))
        have f1:(ph == 0)=false:=beq_eq_false_iff_ne.2 e1;clear hP hyes hnot e0 e1;go_wp2_with fail
        go_roundw
        case rel=>exact⟨k+1,by omega,by go_num,n,hBk,hGk⟩
        case measure=>simp[Go.RowKit.intOf];omega
      ·have n:=Z0 (IsB.no (hnot.out fun h=>by have:=((hP.out.1 h).2 e0).2;cases this))
       by_cases e4:ph=4
       ·subst e4
        clear hP hyes hnot e0;go_wp2_with fail;go_ret;exact⟨n.out,hBk.out⟩
       ·have f4:(ph != 4)=true:=bne_iff_ne.2 e4
        clear hP hyes hnot e0 e4;go_wp2_with fail;go_ret;exact⟨n.out,hBk.out⟩
    ·obtain rfl:k=D.spans.length:=by omega
     have n:=Z0 (IsB.yes (P:=zfg D) ⟨hgr.out,hGN.out.2,fun s hs=>by obtain⟨q,hq⟩:=List.mem_iff_getElem?.1 hs;exact hsp.out q s (List.getElem?_eq_some_iff.1 hq).1 hq⟩);go_wp2_with fail;go_ret;exact⟨n.out,hB.out⟩
structure F8(D:WD)(M K' J:Nat)(K L:List Int):Prop where
 asc:Asc K
 kept:∀a,a∈K↔zfa D a∨∃k j,F0 K' J k j∧R6 D a k j∧U4 D k j
 lead:∀a,a∈L↔(∃(m:Nat) (r:List Int),m<M∧D.muts[m]?=some r∧M5 D m∧a∈r)∨∃b k j s,F0 K' J k j∧R6 D b k j∧D.spans[k]?=some s∧U4 D k j∧a∈nz (ptrW D s j)
 len:L.length≤6*M+256*K'+16*J
theorem zjq{k j:Nat}(h:F0 0 0 k j):False:=by unfold F0 at h;omega
theorem F8.zero{D:WD}{K:List Int}(ha:Asc K)(hm:∀a,a∈K↔zfa D a):F8 D 0 0 0 K [] :=
 ⟨ha,fun a=>(hm a).trans ⟨.inl,fun h=>h.elim id fun⟨k,j,h,_⟩=>(zjq h).elim⟩,fun a=>⟨fun h=>by simp at h,fun h=>h.elim (fun⟨m,r,h,_⟩=>absurd h (by omega)) fun⟨b,k,j,s,h,_⟩=>(zjq h).elim⟩,by simp⟩
theorem F8.mutSkip{D:WD}{M:Nat}{K L r:List Int}(h:F8 D M 0 0 K L)(hs:¬M5 D M):F8 D (M+1) 0 0 K L :=
 ⟨h.asc,h.kept,fun a=>(h.lead a).trans ⟨fun h=>h.imp (fun⟨m,r,h1,h2⟩=>⟨m,r,by omega,h2⟩) id,fun h=>h.imp (fun⟨m,r,h1,h2,h3,h4⟩=>⟨m,r,by
  by_cases e:m=M
  ·subst e;exact absurd h3 hs
  ·omega,h2,h3,h4⟩) id⟩,by have:=h.len;omega⟩
theorem F8.mutAdd{D:WD}{M:Nat}{K L r:List Int}(h:F8 D M 0 0 K L)(hr:D.muts[M]?=some r)(h6:r.length=6)(hs:M5 D M):F8 D (M+1) 0 0 K (L++r):=by
 refine⟨h.asc,h.kept,fun a=>?_,by have:=h.len;rw[List.length_append];omega⟩;rw[List.mem_append,h.lead a];constructor
 ·rintro((⟨m,r',h1,h2⟩|⟨b,k,j,s,h1,_⟩)|hm)
  ·exact .inl ⟨m,r',by omega,h2⟩
  ·exact(zjq h1).elim
  ·exact .inl ⟨M,r,by omega,hr,hs,hm⟩
 ·rintro(⟨m,r',h1,h2,h3,h4⟩|⟨b,k,j,s,h1,_⟩)
  ·by_cases e:m=M
   ·subst e
    rw[hr]at h2
    cases h2
    exact .inr h4
   ·exact .inl (.inl ⟨m,r',by omega,h2,h3,h4⟩)
  ·exact(zjq h1).elim
theorem zmw{K J k j:Nat}(h:F0 K J k j):F0 K (J+1) k j:=h.imp id fun⟨e,h⟩=>⟨e,by omega⟩
theorem zlp{K J k j:Nat}(h:F0 K (J+1) k j):F0 K J k j∨(k=K∧j=J):=by unfold F0 at *;omega
theorem F8.skip{D:WD}{M K' J:Nat}{K L:List Int}{s:Y7}(h:F8 D M K' J K L)(hs:D.spans[K']?=some s)(hn:¬(0<s.lens[J]?.getD 0∧U4 D K' J)):F8 D M K' (J+1) K L:=by
 have key:∀a k j,F0 K' (J+1) k j→R6 D a k j→U4 D k j→F0 K' J k j:=fun a k j ha ho hm=>by
  rcases zlp ha with h|⟨rfl,rfl⟩
  ·exact h
  ·obtain⟨t,ht,_,hp,_⟩:=ho
   rw[hs]at ht
   cases ht
   exact absurd ⟨hp,hm⟩ hn
 exact⟨h.asc,fun a=>(h.kept a).trans ⟨fun h=>h.imp id fun⟨k,j,h1,h2⟩=>⟨k,j,zmw h1,h2⟩,fun h=>h.imp id fun⟨k,j,h1,h2,h3⟩=>⟨k,j,key a k j h1 h2 h3,h2,h3⟩⟩,
  fun a=>(h.lead a).trans ⟨fun h=>h.imp id fun⟨b,k,j,s,h1,h2⟩=>⟨b,k,j,s,zmw h1,h2⟩,fun h=>h.imp id fun⟨b,k,j,s,h1,h2,h3,h4,h5⟩=>⟨b,k,j,s,key b k j h1 h2 h4,h2,h3,h4,h5⟩⟩,by have:=h.len;omega⟩
theorem F8.add{D:WD}{M K' J:Nat}{K L R:List Int}{s:Y7}{x:Int}(hF:Y5 D)(h:F8 D M K' J K L)(hs:D.spans[K']?=some s)(ho:R6 D x K' J)(hm:U4 D K' J)(hp:zlq K x R):F8 D M K' (J+1) R (L++nz (ptrW D s J)):=by
 have hl:=zia hF ho hs;refine⟨hp.1,fun a=>?_,fun a=>?_,by have:=h.len;rw[List.length_append];omega⟩
 ·rw[hp.2.1,h.kept a]
  constructor
  ·rintro(rfl|h|⟨k,j,h1,h2⟩)
   ·exact .inr ⟨K',J,.inr ⟨rfl,by omega⟩,ho,hm⟩
   ·exact .inl h
   ·exact .inr ⟨k,j,zmw h1,h2⟩
  ·rintro(h|⟨k,j,h1,h2,h3⟩)
   ·exact .inr (.inl h)
   ·rcases zlp h1 with h1|⟨rfl,rfl⟩
    ·exact .inr (.inr ⟨k,j,h1,h2,h3⟩)
    ·left
     obtain⟨t,ht,_,_,e⟩:=ho;obtain⟨t',ht',_,_,e'⟩:=h2;rw[ht]at ht'
     cases ht'
     omega
 ·rw[List.mem_append,h.lead a]
  constructor
  ·rintro((h|⟨b,k,j,t,h1,h2⟩)|h)
   ·exact .inl h
   ·exact .inr ⟨b,k,j,t,zmw h1,h2⟩
   ·exact .inr ⟨x,K',J,s,.inr ⟨rfl,by omega⟩,ho,hs,hm,h⟩
  ·rintro(h|⟨b,k,j,t,h1,h2,h3,h4,h5⟩)
   ·exact .inl (.inl h)
   ·rcases zlp h1 with h1|⟨rfl,rfl⟩
    ·exact .inl (.inr ⟨b,k,j,t,h1,h2,h3,h4,h5⟩)
    ·rw[hs]at h3
     cases h3
     exact .inr h5
theorem zoz{D:WD}{K:Nat}{s:Y7}(hs:D.spans[K]?=some s){a:Int}{k j:Nat}(h:F0 (K+1) 0 k j)(ho:R6 D a k j):F0 K s.lens.length k j:=by
 rcases h with h|⟨_,h⟩
 ·by_cases e:k=K
  ·subst e
   obtain⟨t,ht,hj,_⟩:=ho;rw[hs]at ht
   cases ht
   exact .inr ⟨rfl,hj⟩
  ·exact .inl (by omega)
 ·omega
theorem F8.next{D:WD}{M K':Nat}{K L:List Int}{s:Y7}(h:F8 D M K' s.lens.length K L)(hs:D.spans[K']?=some s)(h16:s.lens.length≤16):F8 D M (K'+1) 0 K L :=
 ⟨h.asc,fun a=>(h.kept a).trans ⟨fun h=>h.imp id fun⟨k,j,h1,h2⟩=>⟨k,j,.inl (by unfold F0 at h1;omega),h2⟩,fun h=>h.imp id fun⟨k,j,h1,h2,h3⟩=>⟨k,j,zoz hs h1 h2,h2,h3⟩⟩,
  fun a=>(h.lead a).trans ⟨fun h=>h.imp id fun⟨b,k,j,t,h1,h2⟩=>⟨b,k,j,t,.inl (by unfold F0 at h1;omega),h2⟩,fun h=>h.imp id fun⟨b,k,j,t,h1,h2,h3⟩=>⟨b,k,j,t,zoz hs h1 h2,h2,h3⟩⟩,by have:=h.len;omega⟩
theorem F8.klen{D:WD}{M K' J:Nat}{K L:List Int}(hF:Y5 D)(h:F8 D M K' J K L):K.length≤384 :=
 zib (lo:=D.base) h.asc.nodup fun a ha=>zhn hF (((h.kept a).1 ha).elim (fun h=>h.obj) fun⟨k,j,_,ho,_⟩=>⟨k,j,ho⟩)
theorem F8.done{D:WD}{K L:List Int}(h:F8 D D.muts.length D.spans.length 0 K L)(h0:D.phase≠0)(h4:D.phase≠4):(∀a,a∈L→a=0∨a∈K)↔zgo D:=by
 have hk:∀a,a∈K↔zfa D a∨U8 D a:=fun a=>(h.kept a).trans ⟨fun h=>h.imp id fun⟨k,j,_,h⟩=>⟨k,j,h⟩,fun h=>h.imp id fun⟨k,j,ho,hm⟩=>⟨k,j,.inl (by obtain⟨s,hs,_⟩:=ho;exact(List.getElem?_eq_some_iff.1 hs).1),ho,hm⟩⟩;constructor
 ·intro hall _ _
  refine⟨fun m r hm hr hs a ha=>?_,fun b k j s hah ho hs hm a ha=>?_⟩
  ·exact(hall a ((h.lead a).2 (.inl ⟨m,r,hm,hr,hs,ha⟩))).imp id (hk a).1
  ·by_cases e:a=0
   ·exact .inl e
   ·exact(hall a ((h.lead a).2 (.inr ⟨b,k,j,s,hah,ho,hs,hm,zho.2 ⟨ha,e⟩⟩))).imp id (hk a).1
 ·intro hK a ha
  obtain⟨h1,h2⟩:=hK h0 h4
  have:Kept D a:=by
   rcases(h.lead a).1 ha with⟨m,r,hm,hr,hs,ha⟩|⟨b,k,j,s,hah,ho,hs,hm,ha⟩
   ·exact h1 m r hm hr hs a ha
   ·exact h2 b k j s hah ho hs hm a (zho.1 ha).1
  exact this.imp id (hk a).2
theorem zsw(B:Nat)(v:Value)(D:WD)(hF:Y5 D)(hgm:U2 D D.grey)(w:World)(hr:RdW w v D)(hB:BoxW w B v) :
  Calls prog 60 #[.pointer (some ⟨B,0,none⟩)] w fun e w'=>IsB (zgo D) e∧Below w.heap.size w w':=by
 have hr':=Z0 hr;have hB':=Z0 hB;have hF':=Z0 hF;have hgl:D.grey.length≤384:=zib (lo:=D.base) hgm.1 fun a ha=>zhn hF (hgm.obj a ha);have hwhite:=Z0 (zvj B v D hF hgm.obj hgl w hr hB);obtain⟨vw,vd,vs,vm,vg,rfl,a1,a2,a3,a4,a5⟩:=hr;obtain⟨aS,cS,rfl,hsl,_⟩:=a3;obtain⟨aM,cM,rfl,hml,hxm⟩:=a4;have hxm':=Z0 hxm;unfold maxLen at hsl hml;have g6:=hB.cell 6 _ rfl;have hf4:=Z0 (fun(w':World) (hb:Below w.heap.size w w')=>Y3 hb (hB.cell 4 (.slice aS D.spans.length cS) rfl));have hf5:=Z0 (fun(w':World) (hb:Below w.heap.size w w')=>Y3 hb (hB.cell 5 (.slice aM D.muts.length cM) rfl));have hspl:=hF.spans;have hpl:=hF.geo.2.2.2.2.1;have hmu:=hF.geo.2.2.2.2.2.2;clear a1 a2 a5 hF hB hgm hxm hgl
 by_cases e0:D.phase=0
 ·have n:=Z0 (IsB.yes (P:=zgo D) fun h _=>absurd e0 h)
  rw[e0]at g6;clear e0;go_enter func60,ntmps60;go_wp2_with fail;go_ret;exact⟨n.out,Below.refl _ _⟩
 by_cases e4:D.phase=4
 ·have n:=Z0 (IsB.yes (P:=zgo D) fun _ h=>absurd e4 h)
  rw[e4]at g6;clear e0 e4;go_enter func60,ntmps60;go_wp2_with fail;go_ret;exact⟨n.out,Below.refl _ _⟩
 have d0:(D.phase == 0)=false:=beq_eq_false_iff_ne.2 e0;have d4:(D.phase == 4)=false:=beq_eq_false_iff_ne.2 e4;have e0':=Z0 e0;have e4':=Z0 e4;clear e0 e4;go_enter func60,ntmps60;go_wp2_with fail;refine hwhite.out.mono ?_;rintro e w1⟨K,u,hK,rfl,hu,b1⟩;have st0:=Z0 (F8.zero hK.out.1 hK.out.2);have two0:=Z0 (show TwoL w w1 u (.slice none 0 0) K []from⟨hu,.inl ⟨rfl,rfl⟩,fun q hq hv=>by simp[Value.ownBlock]at hv,b1⟩);clear hu b1 hK hwhite g6 d0 d4;go_wp2_with fail
 go_loopw [4,5] (fun v i wr=>∃(m:Nat) (L:List Int),m≤D.muts.length∧i=.int .i64 m∧Hid (F8 D m 0 0 K L)∧Hid (TwoL w wr u v K L)) (fun _ i _=>D.muts.length-(Go.RowKit.intOf i).toNat)
 case atStart=>exact⟨0,[],Nat.zero_le _,rfl,st0,two0⟩
 case round =>
  clear st0 two0;obtain⟨m,L,hm,rfl,st,two⟩:=hrel;have g5:=hf5.out _ two.out.below;obtain⟨av,cv,hv⟩:=two.out.que.shape;subst hv
  by_cases hlt:m<D.muts.length
  ·have hlt1:(m:Int)<(D.muts.length:Int):=by omega
   obtain⟨r,hmr⟩:∃r,D.muts[m]?=some r:=⟨_,List.getElem?_eq_getElem hlt⟩;have h6:=hF'.out.roots m r hmr;obtain⟨bM,oM,vr,rfl,xm0,hrd⟩:=hxm'.out m r hmr;obtain⟨ar,cr,rfl,hrl,xr⟩:=id hrd;have xm:=Y3 two.out.below xm0;have src:=Z0 (Rd.src (hrd.below two.out.below));have hseen:=Z0 (zlm B _ D (m:Int) wr (hr'.out.below two.out.below) (hB'.out.below two.out.below));have hsk:=Z0 (fun hs=>st.out.mutSkip (r:=r) hs);have had:=Z0 (fun hs=>st.out.mutAdd hmr h6 hs);have hll:=st.out.len;have h6':=Z0 h6;clear xm0 hrd xr hmr hrl h6;go_wp2_with fail;refine hseen.out.mono ?_;rintro e w2⟨hq,rfl⟩;replace hq:=hq.elim;clear hseen
   rcases hq with⟨hq,rfl⟩|⟨hq,rfl⟩
   ·have st2:=Z0 (had.out hq)
    clear hq hsk had;go_wp2_with (at_builtin;refine zhw rfl (.tmp 37) (.tmp 45) rfl rfl two.out.que ar r.length cr r rfl rfl src.out (by have:=h6'.out;omega) two.out.below.size ?_;intro v6 w6 q6 g6 f6);have two6:=Z0 (two.out.app g6 q6 f6);clear q6 g6 f6 g5 xm;go_wp2_with fail
    go_roundw
    case rel=>exact⟨m+1,L++r,by omega,by go_num,st2,two6⟩
    case measure=>simp[Go.RowKit.intOf];omega
   ·have st2:=Z0 (hsk.out hq)
    clear hq hsk had;go_wp2_with fail
    go_roundw
    case rel=>exact⟨m+1,L,by omega,by go_num,st2,two⟩
    case measure=>simp[Go.RowKit.intOf];omega
  obtain rfl:m=D.muts.length:=by omega
  clear hlt hm;obtain⟨au,cu,hu⟩:=X0 two.out.own;subst hu;go_wp2_with fail;clear g5
  go_loopw [3,4,6] (fun u v k wr=>∃(k':Nat) (K L:List Int),k'≤D.spans.length∧k=.int .i64 k'∧Hid (F8 D D.muts.length k' 0 K L)∧Hid (TwoL w wr u v K L)) (fun _ _ k _=>D.spans.length-(Go.RowKit.intOf k).toNat)
  case atStart=>exact⟨0,K,L,Nat.zero_le _,rfl,st,two⟩
  case round =>
   clear st two;obtain⟨k,K,L,hk,rfl,st,two⟩:=hrel;have g4:=hf4.out _ two.out.below;obtain⟨au,cu,hu⟩:=X0 two.out.own;obtain⟨av,cv,hv⟩:=two.out.que.shape;subst hu hv
   by_cases hlt:k<D.spans.length
   ·obtain⟨s,hks⟩:∃s,D.spans[k]?=some s:=⟨_,List.getElem?_eq_getElem hlt⟩
    have hks':=Z0 hks;have hlt1:(k:Int)<(D.spans.length:Int):=by omega
    obtain⟨b1,o1,rfl,vl,vp,x0,x1,x2,x3,x4,x5,⟨al,cl,rfl,hll,_⟩,_⟩:=(hr'.out.below two.out.below).parts.2.2.1.at_ k s hks;unfold maxLen at hll;have A:=Z0 (hF'.out.span k s hks);have hl16:s.lens.length≤16:=by have:=A.out.lens;have:=(zfj s.cls).2;omega
    clear hks x0 x1 x2 x3 x5;go_wp2_with fail;clear x4 g4
    go_loopw [3,4,7] (fun u v j wj=>∃(j':Nat) (K L:List Int),j'≤s.lens.length∧j=.int .i64 j'∧Hid (F8 D D.muts.length k j' K L)∧Hid (TwoL w wj u v K L)) (fun _ _ j _=>s.lens.length-(Go.RowKit.intOf j).toNat)
    case atStart=>exact⟨0,K,L,Nat.zero_le _,rfl,st,two⟩
    case round =>
     clear st two;obtain⟨j,K,L,hj,rfl,st,two⟩:=hrel;have hB:=Z0 two.out.below;have g4:=hf4.out _ hB.out;obtain⟨au,cu,hu⟩:=X0 two.out.own;obtain⟨av,cv,hv⟩:=two.out.que.shape;subst hu hv;obtain⟨b1',o1',he,vl',vp',x0,x1,x2,x3,x4,x5,⟨al',cl',rfl,_,xl⟩,_⟩:=(hr'.out.below hB.out).parts.2.2.1.at_ k s hks'.out;obtain⟨rfl,rfl⟩:b1=b1'∧o1=o1':=by simpa using he
     clear he x0 x1 x2 x3 x5
     by_cases hjl:j<s.lens.length
     ·have hj1:(j:Int)<(s.lens.length:Int):=by omega
      obtain⟨bl,ol,rfl,xj⟩:=xl j hjl;clear xl;have hS:=(A.out.slot j hjl);have hlen:=st.out.len;have hkl:=st.out.klen hF'.out;have hmk:=Z0 (zfc B _ D k j s hks'.out (by omega) _ (hr'.out.below hB.out) (hB'.out.below hB.out));have hsk:=Z0 (fun h=>st.out.skip hks'.out h);have hob:=Z0 (show 0<s.lens[j]?.getD 0→R6 D (D.base+atW s (j:Int)) k j from fun hl=>⟨s,hks'.out,hjl,hl,rfl⟩);have hin:=hF'.out.slotIn hks'.out hjl;have hpt:=Z0 (fun(w':World) (hb:Below w.heap.size w w')=>ziu B _ D k j s hks'.out hin hS.p0 (by have:=hS.p1;have:=hS.l1;omega) w' (hr'.out.below hb) (hB'.out.below hb));have hg:=hF'.out.geo;have hsp:=A.out;have had:=Z0 (fun(w':World) (hb:Below w.heap.size w w')=>zmx B _ D k j s hks'.out hsp.pg0 (by have:=hsp.pg1;have:=hg.2.2.2.2.1;omega) (by omega) (by have:=hg.1;omega) hg.2.1 w' (hr'.out.below hb) (hB'.out.below hb));clear hS hin hg hsp;generalize s.lens[j]?.getD 0=l at *
      by_cases hl:0<l
      case neg =>
       have hn:=Z0 (hsk.out fun h=>hl h.1);go_wp2_with fail
       go_roundw
       case rel=>exact⟨j+1,K,L,by omega,by go_num,hn,two⟩
       case measure=>simp[Go.RowKit.intOf];omega
      have ho:=Z0 (hob.out hl);clear hob;go_wp2_with fail;refine hmk.out.mono ?_;rintro e w3⟨hq,b3⟩;replace hq:=hq.elim;have two3:=Z0 (two.out.next b3);clear b3 hmk two g4 x4 xj
      rcases hq with⟨hq,rfl⟩|⟨hq,rfl⟩
      case inr =>
       have hn:=Z0 (hsk.out fun h=>hq h.2);clear hq;go_wp2_with fail
       go_roundw
       case rel=>exact⟨j+1,K,L,by omega,by go_num,hn,two3⟩
       case measure=>simp[Go.RowKit.intOf];omega
      have hq':=Z0 hq;have had3:=Z0 (had.out w3 two3.out.below);clear hq hsk;go_wp2_with fail;refine had3.out.mono ?_;rintro e w4⟨rfl,b4⟩;have two4:=Z0 (two3.out.next b4);have hput:=Z0 (zjh w.heap.size _ K (D.base+atW s (j:Int)) st.out.asc (by omega) w4 two4.out.below.size two4.out.own);clear b4 had3;go_wp2_with fail;refine hput.out.mono ?_;rintro e w5⟨u',K2,hp,rfl,hown,hfr,b5⟩;have two5:=Z0 (two4.out.put b5 hown hfr);obtain⟨a',c',hu'⟩:=X0 hown;subst hu';have st2:=Z0 (st.out.add hF'.out hks'.out ho.out hq'.out hp);have hpt5:=Z0 (hpt.out w5 two5.out.below);have hz16:=zia hF'.out ho.out hks'.out;clear hp hown hfr b5 hput;generalize nz (ptrW D s j)=Z at *
      go_wp2_with (first
       | (go_at_call 89;refine hpt5.out.mono ?_;rintro e w6⟨u6,rfl,h6,b6⟩;obtain⟨a6,c6,hu6⟩:=X0 h6;subst hu6;have two6:=Z0 (two5.out.next b6);have src6:=Z0 (Rd.src (Rd.of_owns h6));clear h6 b6)
       | (at_builtin;refine zhw rfl (.tmp 93) (.tmp 97) rfl rfl two6.out.que a6 Z.length c6 Z rfl rfl src6.out (by omega) two6.out.below.size ?_;intro v7 w7 q7 g7 f7))
      have two7:=Z0 (two6.out.app g7 q7 f7);clear q7 g7 f7;go_wp2_with fail
      go_roundw
      case rel=>exact⟨j+1,K2,L++Z,by omega,by go_num,st2,two7⟩
      case measure=>simp[Go.RowKit.intOf];omega
     obtain rfl:j=s.lens.length:=by omega
     have hn:=Z0 (st.out.next hks'.out hl16);clear xl;go_wp2_with fail
     go_roundw
     case rel=>exact⟨k+1,K,L,by omega,by go_num,hn,two⟩
     case measure=>simp[Go.RowKit.intOf];omega
   obtain rfl:k=D.spans.length:=by omega
   have hdone:=Z0 (st.out.done e0'.out e4'.out);clear hlt hk;have hrL:=Z0 (OwnQ.rd two.out.que);obtain⟨aL,cL,hLe,hLl,hLx⟩:=OwnQ.rd two.out.que;obtain⟨rfl,rfl⟩:av=aL∧cv=cL:=by simpa using hLe
   have hLx':=Z0 hLx;unfold maxLen at hLl;have hbw:=Z0 two.out.below;have hrK:=Z0 (Rd.of_owns two.out.own);clear hLe hLx two st;go_wp2_with fail;clear g4
   go_loopw [8] (fun i wj=>∃i':Nat,i'≤L.length∧i=.int .i64 i'∧Hid (∀a,a∈L.take i'→a=0∨a∈K)∧Hid (Below wr.heap.size wr wj)) (fun i _=>L.length-(Go.RowKit.intOf i).toNat)
   case atStart=>exact⟨0,Nat.zero_le _,rfl,Z0 (fun a ha=>by simp at ha),Z0 (Below.refl _ _)⟩
   case round =>
    obtain⟨i,hi,rfl,hok,hb⟩:=hrel
    by_cases hlt:i<L.length
    ·have hlt1:(i:Int)<(L.length:Int):=by omega
     obtain⟨bL,oL,rfl,y0⟩:=hLx'.out i hlt;have y1:=Y3 hb.out y0
     have hyes:=Z0 (show(L[i]?.getD 0=0∨L[i]?.getD 0∈K)→∀a,a∈L.take (i+1)→a=0∨a∈K from fun h a ha=>by
      rw[L9 hlt]at ha
      rcases List.mem_append.1 ha with m|m
      ·exact hok.out a m
      ·rw[List.mem_singleton.1 m];exact h)
     have hnot:=Z0 (show ¬(L[i]?.getD 0=0∨L[i]?.getD 0∈K)→¬zgo D from fun h h2=>h (hdone.out.2 h2 _ (by rw[List.getElem?_eq_getElem hlt];exact List.getElem_mem hlt)));clear y0;generalize L[i]?.getD 0=x at *;have hhas:=Z0 (zmn _ x K _ (hrK.out.below hb.out))
     by_cases hz:x=0
     ·have hn:=Z0 (hyes.out (.inl hz))
      subst hz;go_wp2_with fail
      go_roundw
      case rel=>exact⟨i+1,by omega,by go_num,hn,hb⟩
      case measure=>simp[Go.RowKit.intOf];omega
     have hzb:(x != 0)=true:=bne_iff_ne.2 hz;have hz':=Z0 hz;clear hz;go_wp2_with fail;refine hhas.out.mono ?_;rintro e w2⟨hq,rfl⟩;replace hq:=hq.elim
     rcases hq with⟨hq,rfl⟩|⟨hq,rfl⟩
     ·have hn:=Z0 (hyes.out (.inr hq))
      clear hq;go_wp2_with fail
      go_roundw
      case rel=>exact⟨i+1,by omega,by go_num,hn,hb⟩
      case measure=>simp[Go.RowKit.intOf];omega
     ·have n:=Z0 (IsB.no (hnot.out fun h=>h.elim hz'.out hq))
      clear hq;go_wp2_with fail;go_ret;exact⟨n.out,Z7 hbw.out hb.out⟩
    obtain rfl:i=L.length:=by omega
    have n:=Z0 (IsB.yes (P:=zgo D) (hdone.out.1 (by simpa using hok.out)));go_wp2_with fail;go_ret;exact⟨n.out,Z7 hbw.out hb.out⟩
def zty(D:WD)(L:List Int):Prop :=
 (Y5 D∧Asc L∧(∀y,y∈L↔y≠0∧∃r,r∈D.muts∧y∈r)∧L.length≤1048576)∨(¬Y5 D∧L=[])
structure zfq(D:WD)(m k:Nat)(L:List Int):Prop where
 asc:Asc L
 mem:∀y,y∈L↔y≠0∧((∃i r,i<m∧D.muts[i]?=some r∧y∈r)∨(∃r,D.muts[m]?=some r∧y∈r.take k))
 len:L.length≤m*6+k
theorem zfq.zero(D:WD):zfq D 0 0 []:=⟨List.Pairwise.nil,fun y=>by simp,by simp⟩
theorem zfq.skip{D:WD}{m k:Nat}{L r:List Int}(h:zfq D m k L)(hr:D.muts[m]?=some r)(hk:k<r.length)(hz:r[k]?.getD 0=0):zfq D m (k+1) L:=by
 refine⟨h.asc,fun y=>(h.mem y).trans ⟨fun⟨h0,h1⟩=>⟨h0,h1.imp id fun⟨r',e,hy⟩=>⟨r',e,?_⟩⟩,fun⟨h0,h1⟩=>⟨h0,h1.imp id fun⟨r',e,hy⟩=>⟨r',e,?_⟩⟩⟩,by have:=h.len;omega⟩
 ·exact(List.take_subset_take_left _ (by omega)) hy
 ·rw[hr]at e
  cases e
  rw[L9 hk,hz]at hy
  rcases List.mem_append.1 hy with m|m
  ·exact m
  ·exact absurd (List.mem_singleton.1 m) h0
theorem zfq.put{D:WD}{m k:Nat}{L R r:List Int}(h:zfq D m k L)(hr:D.muts[m]?=some r)(hk:k<r.length)(hz:r[k]?.getD 0≠0)(hp:zlq L (r[k]?.getD 0) R):zfq D m (k+1) R:=by
 refine⟨hp.1,fun y=>(hp.2.1 y).trans ⟨?_,?_⟩,by have:=h.len;have:=hp.2.2;omega⟩
 ·rintro(rfl|hy)
  ·exact⟨hz,.inr ⟨r,hr,by rw[L9 hk];exact List.mem_append.2 (.inr (List.mem_singleton.2 rfl))⟩⟩
  ·obtain⟨h0,h1⟩:=(h.mem y).1 hy
   exact⟨h0,h1.imp id fun⟨r',e,hy⟩=>⟨r',e,(List.take_subset_take_left _ (by omega)) hy⟩⟩
 ·rintro⟨h0,h1⟩
  rcases h1 with h1|⟨r',e,hy⟩
  ·exact .inr ((h.mem y).2 ⟨h0,.inl h1⟩)
  ·rw[hr]at e
   cases e
   rw[L9 hk]at hy
   rcases List.mem_append.1 hy with m|m
   ·exact .inr ((h.mem y).2 ⟨h0,.inr ⟨r,hr,m⟩⟩)
   ·exact .inl (List.mem_singleton.1 m)
theorem zfq.next{D:WD}{m:Nat}{L r:List Int}(h:zfq D m r.length L)(hr:D.muts[m]?=some r)(h6:r.length=6):zfq D (m+1) 0 L:=by
 refine⟨h.asc,fun y=>(h.mem y).trans ⟨fun⟨h0,h1⟩=>⟨h0,?_⟩,fun⟨h0,h1⟩=>⟨h0,?_⟩⟩,by have:=h.len;omega⟩
 ·rcases h1 with⟨i,r',hi,e,hy⟩|⟨r',e,hy⟩
  ·exact .inl ⟨i,r',by omega,e,hy⟩
  ·exact .inl ⟨m,r',by omega,e,List.mem_of_mem_take hy⟩
 ·rcases h1 with⟨i,r',hi,e,hy⟩|⟨r',e,hy⟩
  ·by_cases hm:i=m
   ·subst hm
    rw[hr]at e
    cases e
    exact .inr ⟨r,hr,by rw[List.take_length];exact hy⟩
   ·exact .inl ⟨i,r',by omega,e,hy⟩
  ·simp at hy
theorem zfq.done{D:WD}{L:List Int}(h:zfq D D.muts.length 0 L)(hF:Y5 D):zty D L:=by
 refine .inl ⟨hF,h.asc,fun y=>(h.mem y).trans ⟨fun⟨h0,h1⟩=>⟨h0,?_⟩,fun⟨h0,r,hr,hy⟩=>⟨h0,.inl ?_⟩⟩,by have:=h.len;have:=hF.geo.2.2.2.2.2.2;omega⟩
 ·rcases h1 with⟨i,r',hi,e,hy⟩|⟨r',e,hy⟩
  ·exact⟨r',List.mem_of_getElem? e,hy⟩
  ·simp at hy
 ·obtain⟨i,hi⟩:=List.mem_iff_getElem?.1 hr
  exact⟨i,r,(List.getElem?_eq_some_iff.1 hi).1,hi,hy⟩
theorem zvn(B:Nat)(v:Value)(D:WD)(hF:Y5 D)(w:World)(hr:RdW w v D)(hB:BoxW w B v) :
  Calls prog 87 #[.pointer (some ⟨B,0,none⟩)] w fun e w'=>∃u L,zty D L∧e=.returned u∧w'.ownsRow w.heap.size 3 1 u L.length (L.map (Value.int .i64))∧Below w.heap.size w w':=by
 obtain⟨vw,vd,vs,vm,vg,rfl,a1,a2,a3,a4,a5⟩:=hr;obtain⟨cs,he,hh⟩:=hB;obtain rfl:=(Value.agg.inj he).symm;obtain⟨aM,cM,rfl,hml,hx⟩:=a4;have hx':=Z0 hx;have hF':=Z0 hF;have hg:=hF.geo.2.2.2.2.2.2;have g0:=Z6 hh 5 (.slice aM D.muts.length cM) rfl;have G:=Z0 (fun(w':World) (hb:Below w.heap.size w w')=>Y3 hb g0);unfold maxLen at hml;clear a1 a2 a3 a5 he hh hx hF g0;go_enter func87,ntmps87;go_wp2_with fail
 go_loopw [3,4] (fun v i wr=>∃(m:Nat) (L:List Int),m≤D.muts.length∧i=.int .i64 m∧Hid (zfq D m 0 L)∧wr.ownsRow w.heap.size 3 1 v L.length (L.map (Value.int .i64))∧Below w.heap.size w wr) (fun v i _=>D.muts.length-(Go.RowKit.intOf i).toNat)
 case atStart=>exact⟨0,[],Nat.zero_le _,rfl,zfq.zero D,World.ownsRow_nil _ _ _ _,Below.refl _ _⟩
 case round =>
  obtain⟨m,L,hm,rfl,st,hown,hB⟩:=hrel;have g5:=G.out _ hB
  by_cases hlt:m<D.muts.length
  ·have hlt1:(m:Int)<(D.muts.length:Int):=by omega
   obtain⟨r,hmr⟩:∃r,D.muts[m]?=some r:=⟨_,List.getElem?_eq_getElem hlt⟩;have h6:=hF'.out.roots m r hmr;obtain⟨bM,oM,vr,rfl,xm0,hrd⟩:=hx'.out m r hmr;obtain⟨ar,cr,rfl,hrl,xr⟩:=hrd;have XM:=Z0 (fun(w':World) (hb:Below w.heap.size w w')=>Y3 hb xm0);have xr':=Z0 xr;have hmr':=Z0 hmr;unfold maxLen at hrl;clear xm0 xr hmr;have hown':=Z0 hown;clear hown;go_wp2_with fail;clear g5
   go_loopw [3,5] (fun v i wr=>∃(k:Nat) (L:List Int),k≤r.length∧i=.int .i64 k∧Hid (zfq D m k L)∧wr.ownsRow w.heap.size 3 1 v L.length (L.map (Value.int .i64))∧Below w.heap.size w wr) (fun v i _=>r.length-(Go.RowKit.intOf i).toNat)
   case atStart=>exact⟨0,L,Nat.zero_le _,rfl,st,hown'.out,hB⟩
   case round =>
    obtain⟨k,L,hk,rfl,st,hown,hB⟩:=hrel;have g5:=G.out _ hB;have xm:=XM.out _ hB;have hLl:=st.out.len
    by_cases hkl:k<r.length
    ·have hkl1:(k:Int)<(r.length:Int):=by omega
     obtain⟨br,or,rfl,xk0⟩:=xr'.out k hkl;have xk:=Y3 hB xk0;clear xk0
     by_cases hz:r[k]?.getD 0=0
     ·have st2:=Z0 (st.out.skip hmr'.out hkl hz)
      rw[hz]at xk;have hown2:=Z0 hown;clear hz st hown;go_wp2_with fail
      go_roundw
      case rel=>exact⟨k+1,L,by omega,by go_num,st2,hown2.out,hB⟩
      case measure=>simp[Go.RowKit.intOf];omega
     ·have hput:=Z0 (fun R hp=>(st.out.put hmr'.out hkl hz hp:zfq D m (k+1) R))
      obtain⟨au,cu,hu⟩:=X0 hown;have hcall:=Z0 (sput_any w.heap.size _ L (r[k]?.getD 0) st.out.asc (by omega) _ hB.size hown);generalize r[k]?.getD 0=y at *;have hzb:(y == 0)=false:=beq_eq_false_iff_ne.2 hz;clear st hown hu;go_wp2_with fail;refine hcall.out.mono ?_;rintro e w2⟨u,R,hR,rfl,hown2,b2⟩;have st2:=Z0 (hput.out R hR);have hown2':=Z0 hown2;have hB2:=Z7 hB b2;clear hR hown2 b2 hput hcall hB g5 xm xk;go_wp2_with fail
      go_roundw
      case rel=>exact⟨k+1,R,by omega,by go_num,st2,hown2'.out,hB2⟩
      case measure=>simp[Go.RowKit.intOf];omega
    ·obtain rfl:k=r.length:=by omega
     have st2:=Z0 (st.out.next hmr'.out h6);have hown2:=Z0 hown;clear st hown;go_wp2_with fail
     go_roundw
     case rel=>exact⟨m+1,L,by omega,by go_num,st2,hown2.out,hB⟩
     case measure=>simp[Go.RowKit.intOf];omega
  ·obtain rfl:m=D.muts.length:=by omega
   have y:=Z0 (st.out.done hF'.out);have hown2:=Z0 hown;clear st hown;go_wp2_with fail;go_ret;exact⟨_,_,y.out,rfl,hown2.out,hB⟩
theorem zwf{D:WD}{L:List Int}(hF:Y5 D)(h:zty D L):N2 D L↔∀r,r∈D.muts→N2 D r:=by
 rcases h with⟨_,_,hm,_⟩|⟨hn,_⟩
 ·constructor
  ·intro h r hr a ha
   by_cases e:a=0
   ·exact .inl e
   ·exact h a ((hm a).2 ⟨e,r,hr,ha⟩)
  ·intro h a ha
   obtain⟨_,r,hr,har⟩:=(hm a).1 ha;exact h r hr a har
 ·exact absurd hF hn
theorem zng(B:Nat)(v:Value)(D:WD)(hF:Y5 D)(w:World)(hr:RdW w v D)(hB:BoxW w B v) :
  Calls prog 59 #[.pointer (some ⟨B,0,none⟩)] w fun e w'=>IsB (zny D) e∧Below w.heap.size w w':=by
 have hr':=Z0 hr;have hB':=Z0 hB;have hF':=Z0 hF;have hroots:=Z0 (zvn B v D hF w hr hB);obtain⟨vw,vd,vs,vm,vg,rfl,a1,a2,a3,a4,a5⟩:=hr;obtain⟨cs,he,hh⟩:=hB;obtain rfl:=(Value.agg.inj he).symm;obtain⟨aS,cS,rfl,hsl,hx⟩:=a3;unfold maxLen at hsl;have hf4:=Z0 (fun(w':World) (hb:Below w.heap.size w w')=>Y3 hb (Z6 hh 4 _ rfl));have hspl:=hF.spans;have hpl:=hF.geo.2.2.2.2.1;clear a1 a2 a4 a5 hF he hh hx;go_enter func59,ntmps59;go_wp2_with fail;refine hroots.out.mono ?_;rintro e w1⟨u,L,hL,rfl,hu,b1⟩;have hall:=Z0 (zlu B _ D hF'.out u L w1 (hr'.out.below b1) (hB'.out.below b1) (Rd.of_owns hu));have hLL:=Z0 (zwf hF'.out hL);have b1':=Z0 b1;clear hu b1 hL hroots;go_wp2_with fail;refine hall.out.mono ?_;rintro e w2⟨hq,b2⟩;replace hq:=hq.elim;have b2':=Z0 (Z7 b1'.out b2);clear b2 hall
 rcases hq with⟨hq,rfl⟩|⟨hq,rfl⟩
 case inr =>
  have n:=Z0 (IsB.no (P:=zny D) fun h=>hq (hLL.out.2 h.1));clear hq;go_wp2_with fail;go_ret;exact⟨n.out,b2'.out⟩
 have hrt:=Z0 (hLL.out.1 hq);clear hq;go_wp2_with fail
 go_loopw [3] (fun k wr=>∃k':Nat,k'≤D.spans.length∧k=.int .i64 k'∧Hid (F7 D k' 0)∧Hid (Below w.heap.size w wr)) (fun k _=>D.spans.length-(Go.RowKit.intOf k).toNat)
 case atStart=>exact⟨0,Nat.zero_le _,rfl,Z0 (F7.zero D),b2'⟩
 case round =>
  clear b1' b2';obtain⟨k,hk,rfl,hno,hB⟩:=hrel;have g4:=hf4.out _ hB.out
  by_cases hlt:k<D.spans.length
  ·obtain⟨s,hks⟩:∃s,D.spans[k]?=some s:=⟨_,List.getElem?_eq_getElem hlt⟩
   have hks':=Z0 hks;have hlt1:(k:Int)<(D.spans.length:Int):=by omega
   obtain⟨b1,o1,rfl,vl,vp,x0,x1,x2,x3,x4,x5,⟨al,cl,rfl,hll,_⟩,_⟩:=(hr'.out.below hB.out).parts.2.2.1.at_ k s hks;unfold maxLen at hll;have A:=Z0 (hF'.out.span k s hks);have hl16:s.lens.length≤16:=by have:=A.out.lens;have:=(zfj s.cls).2;omega
   clear hks x0 x1 x2 x3 x5;go_wp2_with fail;clear x4 g4
   go_loopw [4] (fun j wj=>∃j':Nat,j'≤s.lens.length∧j=.int .i64 j'∧Hid (F7 D k j')∧Hid (Below w.heap.size w wj)) (fun j _=>s.lens.length-(Go.RowKit.intOf j).toNat)
   case atStart=>exact⟨0,Nat.zero_le _,rfl,hno,hB⟩
   case round =>
    clear hno hB;obtain⟨j,hj,rfl,hnj,hB⟩:=hrel;have g4:=hf4.out _ hB.out;obtain⟨b1',o1',he,vl',vp',x0,x1,x2,x3,x4,x5,⟨al',cl',rfl,_,xl⟩,_⟩:=(hr'.out.below hB.out).parts.2.2.1.at_ k s hks'.out;obtain⟨rfl,rfl⟩:b1=b1'∧o1=o1':=by simpa using he
    clear he x0 x1 x2 x3 x5
    by_cases hjl:j<s.lens.length
    ·have hj1:(j:Int)<(s.lens.length:Int):=by omega
     obtain⟨bl,ol,rfl,xj⟩:=xl j hjl;clear xl;have hS:=(A.out.slot j hjl);have hdm:=Z0 (znk B _ D k j s hks'.out hjl (by omega) _ (hr'.out.below hB.out) (hB'.out.below hB.out));have hst:=Z0 (fun(h:∀a,R6 D a k j→¬zei D k j→N2 D (ptrW D s j))=>hnj.out.step hks'.out h);have hnn:=Z0 (show 0<s.lens[j]?.getD 0→¬zei D k j→¬N2 D (ptrW D s j)→¬zny D from fun hl hd ha h=>ha (h.2 (D.base+atW s (j:Int)) k j s (.inl hlt) ⟨s,hks'.out,hjl,hl,rfl⟩ hks'.out hd));have hobj:=Z0 (fun(hl:0<s.lens[j]?.getD 0)=>zua.iff (D:=D) (k:=k) hks'.out hl);have hnl:=Z0 (show ¬0<s.lens[j]?.getD 0→∀a,¬R6 D a k j from fun h a ho=>by obtain⟨t,ht,_,hp,_⟩:=ho;rw[hks'.out]at ht;cases ht;exact h hp);have hin:=hF'.out.slotIn hks'.out hjl;have hpt:=Z0 (fun(w':World) (hb:Below w.heap.size w w')=>ziu B _ D k j s hks'.out hin hS.p0 (by have:=hS.p1;have:=hS.l1;omega) w' (hr'.out.below hb) (hB'.out.below hb));clear hS hin;generalize hlv:s.lens[j]?.getD 0=l at *
     by_cases hl:0<l
     case neg =>
      have hn:=Z0 (hst.out fun a ho=>absurd ho (hnl.out hl a));clear hlv;go_wp2_with fail
      go_roundw
      case rel=>exact⟨j+1,by omega,by go_num,hn,hB⟩
      case measure=>simp[Go.RowKit.intOf];omega
     have hobj2:=Z0 (hobj.out hl);clear hlv;go_wp2_with fail;refine hdm.out.mono ?_;rintro e w3⟨hq,b3⟩;replace hq:=hq.elim;have hB3:=Z0 (Z7 hB.out b3);clear b3 hdm
     rcases hq with⟨hq,rfl⟩|⟨hq,rfl⟩
     ·have hn:=Z0 (hst.out fun a ho hd=>absurd (hobj2.out.1 hq) hd)
      clear hq g4 x4 xj;go_wp2_with fail
      go_roundw
      case rel=>exact⟨j+1,by omega,by go_num,hn,hB3⟩
      case measure=>simp[Go.RowKit.intOf];omega
     have hdd:=Z0 (show ¬zei D k j from fun h=>hq (hobj2.out.2 h));clear hq g4 x4 xj;have hpt3:=Z0 (hpt.out w3 hB3.out);go_wp2_with fail;refine hpt3.out.mono ?_;rintro e w4⟨u4,rfl,hu4,b4⟩;have hB4:=Z0 (Z7 hB3.out b4);have hall:=Z0 (zlu B _ D hF'.out u4 (nz (ptrW D s j)) w4 (hr'.out.below hB4.out) (hB'.out.below hB4.out) (Rd.of_owns hu4));clear hu4 b4 hpt3;go_wp2_with fail;refine hall.out.mono ?_;rintro e w5⟨hq,b5⟩;replace hq:=hq.elim;have hB5:=Z0 (Z7 hB4.out b5);clear b5 hall
     rcases hq with⟨hq,rfl⟩|⟨hq,rfl⟩
     ·have hn:=Z0 (hst.out fun a ho hd=>N2.nz.1 hq)
      clear hq;go_wp2_with fail
      go_roundw
      case rel=>exact⟨j+1,by omega,by go_num,hn,hB5⟩
      case measure=>simp[Go.RowKit.intOf];omega
     ·have n:=Z0 (IsB.no (hnn.out hl hdd.out fun h=>hq (N2.nz.2 h)))
      clear hq;go_wp2_with fail;go_ret;exact⟨n.out,hB5.out⟩
    ·obtain rfl:j=s.lens.length:=by omega
     have hn:=Z0 (hnj.out.next hks'.out);clear xl;go_wp2_with fail
     go_roundw
     case rel=>exact⟨k+1,by omega,by go_num,hn,hB⟩
     case measure=>simp[Go.RowKit.intOf];omega
  ·obtain rfl:k=D.spans.length:=by omega
   have n:=Z0 (IsB.yes (P:=zny D) ⟨hrt.out,hno.out⟩);go_wp2_with fail;go_ret;exact⟨n.out,hB.out⟩
theorem zqq(v:Value)(D:WD)(hcap:CapG v)(w:World)(hr:RdW w v D) :
  Calls prog 28 #[v] w fun e w'=>IsB (M1 D) e∧Below w.heap.size w w':=by
 have hcap':=Z0 hcap;clear hcap;obtain⟨vw,vd,vs,vm,vg,rfl,a1,a2,a3,a4,a5⟩:=hr;have bx:=Y8 w (.cells (Z5 D vw vd vs vm vg) 37);have bw:=Y2 w (.cells (Z5 D vw vd vs vm vg) 37);have hW:=Z0 (show RdW (w.alloc (.cells (Z5 D vw vd vs vm vg) 37)) (.agg #[.int .i64 D.base,.int .i64 D.pages,vw,vd,vs,vm,.int .i64 D.phase,.int .i64 D.next,vg]) D from⟨vw,vd,vs,vm,vg,rfl,a1.below bw,a2.below bw,a3.below bw,a4.below bw,a5.below bw⟩);have hBx:=Z0 (show BoxW (w.alloc (.cells (Z5 D vw vd vs vm vg) 37)) w.heap.size (.agg #[.int .i64 D.base,.int .i64 D.pages,vw,vd,vs,vm,.int .i64 D.phase,.int .i64 D.next,vg])from⟨_,rfl,bx⟩);have bw':=Z0 bw;clear a1 a2 a3 a4 a5 bx bw;go_enter func28,ntmps28;go_wp2_with fail;refine(zwj _ D _ hW.out).mono ?_;rintro e w1⟨hq,b1⟩;replace hq:=hq.elim;have hr1:=Z0 (hW.out.below b1);have hB1:=Z0 (hBx.out.below b1);have bb1:=Z0 (Z7 bw'.out b1);clear b1
 rcases hq with⟨hF,rfl⟩|⟨hF,rfl⟩
 case inr =>
  have n:=Z0 (IsB.no (zqx hF));clear hF;go_wp2_with fail;go_ret;exact⟨n.out,bb1.out⟩
 have hF':=Z0 hF;have h2:=Z0 (zxv w.heap.size _ D hF hcap'.out w1 hr1.out hB1.out);clear hF;go_wp2_with fail;refine h2.out.mono ?_;rintro e w2⟨hq,b2⟩;replace hq:=hq.elim;have hr2:=Z0 (hr1.out.below b2);have hB2:=Z0 (hB1.out.below b2);have bb2:=Z0 (Z7 bb1.out b2);clear b2 h2
 rcases hq with⟨hG,rfl⟩|⟨hG,rfl⟩
 case inr =>
  have n:=Z0 (IsB.no (zye hG));clear hG;go_wp2_with fail;go_ret;exact⟨n.out,bb2.out⟩
 have hG':=Z0 hG;have h3:=Z0 (zng w.heap.size _ D hF'.out w2 hr2.out hB2.out);clear hG;go_wp2_with fail;refine h3.out.mono ?_;rintro e w3⟨hq,b3⟩;replace hq:=hq.elim;have hr3:=Z0 (hr2.out.below b3);have hB3:=Z0 (hB2.out.below b3);have bb3:=Z0 (Z7 bb2.out b3);clear b3 h3
 rcases hq with⟨hS,rfl⟩|⟨hS,rfl⟩
 case inr =>
  have n:=Z0 (IsB.no (zyd hS));clear hS;go_wp2_with fail;go_ret;exact⟨n.out,bb3.out⟩
 have hS':=Z0 hS;have h4:=Z0 (zsw w.heap.size _ D hF'.out hG'.out.1.2 w3 hr3.out hB3.out);clear hS;go_wp2_with fail;refine h4.out.mono ?_;rintro e w4⟨hq,b4⟩;obtain⟨r,rfl,hrr⟩:=hq;have n:=Z0 (show IsB (M1 D) (.returned (.bool r))from⟨r,rfl,hrr.trans ⟨fun h=>⟨hF'.out,hG'.out,hS'.out,h⟩,fun h=>h.2.2.2⟩⟩);have bb4:=Z0 (Z7 bb3.out b4);clear b4 h4 hrr;go_wp2_with fail;go_ret;exact⟨n.out,bb4.out⟩
end Go.Proofs.YtjjamgeoompbkaaGreat

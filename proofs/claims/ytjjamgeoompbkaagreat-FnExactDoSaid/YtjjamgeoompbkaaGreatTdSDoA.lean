import Derived.Test.YtjjamgeoompbkaaGreatTdDD

set_option maxRecDepth 100000
set_option maxHeartbeats 16000000
set_option linter.all false
namespace Go.Proofs.YtjjamgeoompbkaaGreat
open Go.RowKit
open Go.Proofs.Tryz
def hB(h:Int):Bool:=decide (0≤h) && decide (h<6)
theorem hB_yes{h:Int}(hh:HOk h):hB h=true:=by unfold hB;simp[hh.1,hh.2]
theorem hB_no{h:Int}(hh:¬HOk h):hB h=false:=by
 unfold hB
 by_cases c:0≤h
 ·simp[c,show ¬h<6 from fun e=>hh ⟨c,e⟩]
 ·simp[c]
theorem znj(h:Int)(w:World):Calls prog 94 #[.int .i64 h] w fun e w'=>e=.returned (.bool (hB h))∧w=w':=by
 by_cases h1:0≤h
 ·by_cases h2:h<6
  ·rw[hB_yes ⟨h1,h2⟩]
   go_enter func94,ntmps94
   go_wp2
   go_ret;exact⟨rfl,rfl⟩
  ·rw[hB_no fun hh=>h2 hh.2]
   go_enter func94,ntmps94
   go_wp2
   go_ret;exact⟨rfl,rfl⟩
 ·rw[hB_no fun hh=>h1 hh.1]
  go_enter func94,ntmps94
  go_wp2
  go_ret;exact⟨rfl,rfl⟩
theorem N8{h:Int}(hh:HOk h)(w:World):Calls prog 94 #[.int .i64 h] w fun e w'=>e=.returned (.bool true)∧w=w':=by rw[←hB_yes hh];exact znj h w
theorem zhk{h:Int}(hh:¬HOk h)(w:World):Calls prog 94 #[.int .i64 h] w fun e w'=>e=.returned (.bool false)∧w=w':=by rw[←hB_no hh];exact znj h w
theorem zxw(k m h g i n v:Int)(D:WD)(vm:Value)(w:World)(c1:¬zhh D ⟨k,m,h,g,i,n,v⟩)(hM:RdM w vm D.muts) :
  Calls prog 61 #[OpD.val ⟨k,m,h,g,i,n,v⟩,vm] w fun e w'=>(∃c,e=.returned (.int .i64 c)∧X7 D ⟨k,m,h,g,i,n,v⟩ c)∧Below w.heap.size w w':=by
 obtain⟨am,cm,rfl,hml,hMx⟩:=hM;clear hMx;unfold maxLen at hml;unfold OpD.val OpD.cells;have bb:=Z0 (Y2 w (.cells #[.int .i64 k,.int .i64 m,.int .i64 h,.int .i64 g,.int .i64 i,.int .i64 n,.int .i64 v] 43));have y:=Z0 (show X7 D ⟨k,m,h,g,i,n,v⟩ 2 from .inl ⟨c1,rfl⟩)
 by_cases c2:m<0
 ·have d1:decide (m<0)=true:=decide_eq_true c2
  clear c1;go_enter func61,ntmps61;go_wp2_with fail;go_ret;exact⟨⟨_,rfl,y.out⟩,bb.out⟩
 have d1:decide (m<0)=false:=decide_eq_false c2
 by_cases c3:m<(D.muts.length:Int)
 ·have d2:decide ((D.muts.length:Int)≤m)=false:=decide_eq_false (by omega)
  have hh:=Z0 (fun w=>zhk (h:=h) (fun e=>c1 ⟨by show 0≤m;omega,c3,e⟩) w);clear c1 c2 c3;go_enter func61,ntmps61;go_wp2_with (go_at_call 94;refine(hh.out _).mono ?_;rintro e w'⟨rfl,rfl⟩);go_ret;exact⟨⟨_,rfl,y.out⟩,bb.out⟩
 ·have d2:decide ((D.muts.length:Int)≤m)=true:=decide_eq_true (by omega)
  clear c1 c2 c3;go_enter func61,ntmps61;go_wp2_with fail;go_ret;exact⟨⟨_,rfl,y.out⟩,bb.out⟩
theorem sfirst_1(m h g i n v:Int)(D:WD)(vm:Value)(w:World)(c1:0≤m∧m<(D.muts.length:Int))(c3:HOk h)(hM:RdM w vm D.muts)(h6:∀(k:Nat) (r:List Int),D.muts[k]?=some r→r.length=6) :
  Calls prog 61 #[OpD.val ⟨1,m,h,g,i,n,v⟩,vm] w fun e w'=>(∃c,e=.returned (.int .i64 c)∧X7 D ⟨1,m,h,g,i,n,v⟩ c)∧Below w.heap.size w w':=by
 obtain⟨am,cm,rfl,hml,hMx⟩:=hM;have hMx':=Z0 hMx;have h6':=Z0 h6;clear hMx h6;unfold maxLen at hml;unfold OpD.val OpD.cells;have bb:=Z0 (Y2 w (.cells #[.int .i64 1,.int .i64 m,.int .i64 h,.int .i64 g,.int .i64 i,.int .i64 n,.int .i64 v] 43));have d1:decide (m<0)=false:=decide_eq_false (by omega);have d2:decide ((D.muts.length:Int)≤m)=false:=decide_eq_false (by omega);have hh:=Z0 (fun w=>N8 c3 w);have hmo:=Z0 (show zhh D ⟨1,m,h,g,i,n,v⟩from⟨c1.1,c1.2,c3⟩);have hgo:=Z0 (show N1 1→HOk g from fun e=>absurd e (by unfold N1;omega));have hcn:=Z0 (fun w=>zik n w)
 by_cases c6:1≤n∧n≤16
 case neg =>
  have y:=Z0 (show X7 D ⟨1,m,h,g,i,n,v⟩ 3 from .inr (.inr (.inr (.inl ⟨hmo.out,hgo.out,rfl,fun e=>c6 ⟨e.1,e.2.1⟩,rfl⟩))));have hcl:=cl_no (n:=n) (by omega);rw[hcl]at hcn;clear hcl c6 c1 c3;go_enter func61,ntmps61;go_wp2_with (first|(go_at_call 94;refine(hh.out _).mono ?_;rintro e w'⟨rfl,rfl⟩)|(go_at_call 95;refine(hcn.out _).mono ?_;rintro e w'⟨rfl,rfl⟩));go_ret;exact⟨⟨_,rfl,y.out⟩,bb.out⟩
 have hcl:=zwv c6.1 c6.2;have d6:decide (cl n<0)=false:=decide_eq_false (by omega)
 by_cases c7:v<0
 ·have y:=Z0 (show X7 D ⟨1,m,h,g,i,n,v⟩ 3 from .inr (.inr (.inr (.inl ⟨hmo.out,hgo.out,rfl,fun e=>absurd e.2.2.1 (by show ¬0≤v;omega),rfl⟩))))
  have d7:decide (v<0)=true:=decide_eq_true c7;clear hcl c6 c1 c3;generalize cl n=q at *;go_enter func61,ntmps61;go_wp2_with (first|(go_at_call 94;refine(hh.out _).mono ?_;rintro e w'⟨rfl,rfl⟩)|(go_at_call 95;refine(hcn.out _).mono ?_;rintro e w'⟨rfl,rfl⟩));go_ret;exact⟨⟨_,rfl,y.out⟩,bb.out⟩
 have d7:decide (v<0)=false:=decide_eq_false c7
 by_cases c8:n<v
 ·have y:=Z0 (show X7 D ⟨1,m,h,g,i,n,v⟩ 3 from .inr (.inr (.inr (.inl ⟨hmo.out,hgo.out,rfl,fun e=>absurd e.2.2.2 (by show ¬v≤n;omega),rfl⟩))))
  have d8:decide (n<v)=true:=decide_eq_true c8;clear hcl c6 c1 c3;generalize cl n=q at *;go_enter func61,ntmps61;go_wp2_with (first|(go_at_call 94;refine(hh.out _).mono ?_;rintro e w'⟨rfl,rfl⟩)|(go_at_call 95;refine(hcn.out _).mono ?_;rintro e w'⟨rfl,rfl⟩));go_ret;exact⟨⟨_,rfl,y.out⟩,bb.out⟩
 ·have y:=Z0 (show X7 D ⟨1,m,h,g,i,n,v⟩ 0 from .inr (.inr (.inr (.inr ⟨hmo.out,hgo.out,fun e=>absurd e (by show ¬P5 1;unfold P5;omega),fun _=>⟨c6.1,c6.2,by show 0≤v;omega,by show v≤n;omega⟩,rfl⟩))))
  have d8:decide (n<v)=false:=decide_eq_false c8;clear hcl c6 c1 c3;generalize cl n=q at *;go_enter func61,ntmps61;go_wp2_with (first|(go_at_call 94;refine(hh.out _).mono ?_;rintro e w'⟨rfl,rfl⟩)|(go_at_call 95;refine(hcn.out _).mono ?_;rintro e w'⟨rfl,rfl⟩));go_ret;exact⟨⟨_,rfl,y.out⟩,bb.out⟩
theorem sfirst_2(m h g i n v:Int)(D:WD)(vm:Value)(w:World)(c1:0≤m∧m<(D.muts.length:Int))(c3:HOk h)(hM:RdM w vm D.muts)(h6:∀(k:Nat) (r:List Int),D.muts[k]?=some r→r.length=6) :
  Calls prog 61 #[OpD.val ⟨2,m,h,g,i,n,v⟩,vm] w fun e w'=>(∃c,e=.returned (.int .i64 c)∧X7 D ⟨2,m,h,g,i,n,v⟩ c)∧Below w.heap.size w w':=by
 obtain⟨am,cm,rfl,hml,hMx⟩:=hM;have hMx':=Z0 hMx;have h6':=Z0 h6;clear hMx h6;unfold maxLen at hml;unfold OpD.val OpD.cells;have bb:=Z0 (Y2 w (.cells #[.int .i64 2,.int .i64 m,.int .i64 h,.int .i64 g,.int .i64 i,.int .i64 n,.int .i64 v] 43));have d1:decide (m<0)=false:=decide_eq_false (by omega);have d2:decide ((D.muts.length:Int)≤m)=false:=decide_eq_false (by omega);have hh:=Z0 (fun w=>N8 c3 w);have hmo:=Z0 (show zhh D ⟨2,m,h,g,i,n,v⟩from⟨c1.1,c1.2,c3⟩)
 by_cases c4:HOk g
 case neg =>
  have y:=Z0 (show X7 D ⟨2,m,h,g,i,n,v⟩ 2 from .inr (.inl ⟨hmo.out,(by show N1 2;unfold N1;omega),c4,rfl⟩));have hg:=Z0 (fun w=>zhk c4 w);clear c1 c3 c4;go_enter func61,ntmps61;go_wp2_with (go_at_call 94;first|(refine(hh.out _).mono ?_;rintro e w'⟨rfl,rfl⟩)|(refine(hg.out _).mono ?_;rintro e w'⟨rfl,rfl⟩));go_ret;exact⟨⟨_,rfl,y.out⟩,bb.out⟩
 have hg:=Z0 (fun w=>N8 c4 w);have hgo:=Z0 (show N1 2→HOk g from fun _=>c4);clear c4;obtain⟨M,rfl⟩:=Int.eq_ofNat_of_zero_le c1.1;obtain⟨H,rfl⟩:=Int.eq_ofNat_of_zero_le c3.1;have hM:M<D.muts.length:=by omega
 obtain⟨r,hr⟩:∃r,D.muts[M]?=some r:=⟨_,List.getElem?_eq_getElem hM⟩;have hr6:=h6'.out M r hr;have hH:H<r.length:=by have:=c3.2;omega
 obtain⟨gm,om,vr,rfl,x0,hrd⟩:=hMx'.out M r hr;obtain⟨ar,cr,rfl,hrl,hrx⟩:=hrd;obtain⟨br,ob,rfl,x1⟩:=hrx H hH;have hroot:=Z0 (show V2 D (M:Int) (H:Int)=r[H]?.getD 0 by unfold V2;rw[Int.toNat_natCast,Int.toNat_natCast,hr];rfl);have z0:=Y3 bb.out x0;have z1:=Y3 bb.out x1;have hM1:(M:Int)<(D.muts.length:Int):=by omega
 have hH1:(H:Int)<(r.length:Int):=by omega
 have hc:=Z0 c1;clear hrx x0 x1 hr c3 c1;generalize r[H]?.getD 0=x at *
 by_cases c5:x=0
 ·have y:=Z0 (show X7 D ⟨2,(M:Int),(H:Int),g,i,n,v⟩ 2 from .inr (.inr (.inl ⟨hmo.out,hgo.out,(by show P5 2;unfold P5;omega),by show V2 D (M:Int) (H:Int)=0;rw[hroot.out];exact c5,rfl⟩)))
  have d5:(x == 0)=true:=beq_iff_eq.2 c5;clear c5;go_enter func61,ntmps61;go_wp2_with (go_at_call 94;first|(refine(hh.out _).mono ?_;rintro e w'⟨rfl,rfl⟩)|(refine(hg.out _).mono ?_;rintro e w'⟨rfl,rfl⟩))
  go_quiet (fail)
  go_wp2_with (go_at_call 94;first|(refine(hh.out _).mono ?_;rintro e w'⟨rfl,rfl⟩)|(refine(hg.out _).mono ?_;rintro e w'⟨rfl,rfl⟩));go_ret;exact⟨⟨_,rfl,y.out⟩,by first|exact bb.out|exact below_drewN bb.out _⟩
 ·have y:=Z0 (show X7 D ⟨2,(M:Int),(H:Int),g,i,n,v⟩ 0 from .inr (.inr (.inr (.inr ⟨hmo.out,hgo.out,fun _=>by show V2 D (M:Int) (H:Int)≠0;rw[hroot.out];exact c5,fun e=>absurd (show(2:Int)=1 from e) (by omega),rfl⟩))))
  have d5:(x == 0)=false:=beq_eq_false_iff_ne.2 c5;clear c5;go_enter func61,ntmps61;go_wp2_with (go_at_call 94;first|(refine(hh.out _).mono ?_;rintro e w'⟨rfl,rfl⟩)|(refine(hg.out _).mono ?_;rintro e w'⟨rfl,rfl⟩))
  go_quiet (fail)
  go_wp2_with (go_at_call 94;first|(refine(hh.out _).mono ?_;rintro e w'⟨rfl,rfl⟩)|(refine(hg.out _).mono ?_;rintro e w'⟨rfl,rfl⟩));go_ret;exact⟨⟨_,rfl,y.out⟩,by first|exact bb.out|exact below_drewN bb.out _⟩
theorem sfirst_3(m h g i n v:Int)(D:WD)(vm:Value)(w:World)(c1:0≤m∧m<(D.muts.length:Int))(c3:HOk h)(hM:RdM w vm D.muts)(h6:∀(k:Nat) (r:List Int),D.muts[k]?=some r→r.length=6) :
  Calls prog 61 #[OpD.val ⟨3,m,h,g,i,n,v⟩,vm] w fun e w'=>(∃c,e=.returned (.int .i64 c)∧X7 D ⟨3,m,h,g,i,n,v⟩ c)∧Below w.heap.size w w':=by
 obtain⟨am,cm,rfl,hml,hMx⟩:=hM;have hMx':=Z0 hMx;have h6':=Z0 h6;clear hMx h6;unfold maxLen at hml;unfold OpD.val OpD.cells;have bb:=Z0 (Y2 w (.cells #[.int .i64 3,.int .i64 m,.int .i64 h,.int .i64 g,.int .i64 i,.int .i64 n,.int .i64 v] 43));have d1:decide (m<0)=false:=decide_eq_false (by omega);have d2:decide ((D.muts.length:Int)≤m)=false:=decide_eq_false (by omega);have hh:=Z0 (fun w=>N8 c3 w);have hmo:=Z0 (show zhh D ⟨3,m,h,g,i,n,v⟩from⟨c1.1,c1.2,c3⟩)
 by_cases c4:HOk g
 case neg =>
  have y:=Z0 (show X7 D ⟨3,m,h,g,i,n,v⟩ 2 from .inr (.inl ⟨hmo.out,(by show N1 3;unfold N1;omega),c4,rfl⟩));have hg:=Z0 (fun w=>zhk c4 w);clear c1 c3 c4;go_enter func61,ntmps61;go_wp2_with (go_at_call 94;first|(refine(hh.out _).mono ?_;rintro e w'⟨rfl,rfl⟩)|(refine(hg.out _).mono ?_;rintro e w'⟨rfl,rfl⟩));go_ret;exact⟨⟨_,rfl,y.out⟩,bb.out⟩
 have hg:=Z0 (fun w=>N8 c4 w);have hgo:=Z0 (show N1 3→HOk g from fun _=>c4);clear c4;obtain⟨M,rfl⟩:=Int.eq_ofNat_of_zero_le c1.1;obtain⟨H,rfl⟩:=Int.eq_ofNat_of_zero_le c3.1;have hM:M<D.muts.length:=by omega
 obtain⟨r,hr⟩:∃r,D.muts[M]?=some r:=⟨_,List.getElem?_eq_getElem hM⟩;have hr6:=h6'.out M r hr;have hH:H<r.length:=by have:=c3.2;omega
 obtain⟨gm,om,vr,rfl,x0,hrd⟩:=hMx'.out M r hr;obtain⟨ar,cr,rfl,hrl,hrx⟩:=hrd;obtain⟨br,ob,rfl,x1⟩:=hrx H hH;have hroot:=Z0 (show V2 D (M:Int) (H:Int)=r[H]?.getD 0 by unfold V2;rw[Int.toNat_natCast,Int.toNat_natCast,hr];rfl);have z0:=Y3 bb.out x0;have z1:=Y3 bb.out x1;have hM1:(M:Int)<(D.muts.length:Int):=by omega
 have hH1:(H:Int)<(r.length:Int):=by omega
 have hc:=Z0 c1;clear hrx x0 x1 hr c3 c1;generalize r[H]?.getD 0=x at *
 by_cases c5:x=0
 ·have y:=Z0 (show X7 D ⟨3,(M:Int),(H:Int),g,i,n,v⟩ 2 from .inr (.inr (.inl ⟨hmo.out,hgo.out,(by show P5 3;unfold P5;omega),by show V2 D (M:Int) (H:Int)=0;rw[hroot.out];exact c5,rfl⟩)))
  have d5:(x == 0)=true:=beq_iff_eq.2 c5;clear c5;go_enter func61,ntmps61;go_wp2_with (go_at_call 94;first|(refine(hh.out _).mono ?_;rintro e w'⟨rfl,rfl⟩)|(refine(hg.out _).mono ?_;rintro e w'⟨rfl,rfl⟩))
  go_quiet (fail)
  go_wp2_with (go_at_call 94;first|(refine(hh.out _).mono ?_;rintro e w'⟨rfl,rfl⟩)|(refine(hg.out _).mono ?_;rintro e w'⟨rfl,rfl⟩));go_ret;exact⟨⟨_,rfl,y.out⟩,by first|exact bb.out|exact below_drewN bb.out _⟩
 ·have y:=Z0 (show X7 D ⟨3,(M:Int),(H:Int),g,i,n,v⟩ 0 from .inr (.inr (.inr (.inr ⟨hmo.out,hgo.out,fun _=>by show V2 D (M:Int) (H:Int)≠0;rw[hroot.out];exact c5,fun e=>absurd (show(3:Int)=1 from e) (by omega),rfl⟩))))
  have d5:(x == 0)=false:=beq_eq_false_iff_ne.2 c5;clear c5;go_enter func61,ntmps61;go_wp2_with (go_at_call 94;first|(refine(hh.out _).mono ?_;rintro e w'⟨rfl,rfl⟩)|(refine(hg.out _).mono ?_;rintro e w'⟨rfl,rfl⟩))
  go_quiet (fail)
  go_wp2_with (go_at_call 94;first|(refine(hh.out _).mono ?_;rintro e w'⟨rfl,rfl⟩)|(refine(hg.out _).mono ?_;rintro e w'⟨rfl,rfl⟩));go_ret;exact⟨⟨_,rfl,y.out⟩,by first|exact bb.out|exact below_drewN bb.out _⟩
theorem sfirst_4(m h g i n v:Int)(D:WD)(vm:Value)(w:World)(c1:0≤m∧m<(D.muts.length:Int))(c3:HOk h)(hM:RdM w vm D.muts)(h6:∀(k:Nat) (r:List Int),D.muts[k]?=some r→r.length=6) :
  Calls prog 61 #[OpD.val ⟨4,m,h,g,i,n,v⟩,vm] w fun e w'=>(∃c,e=.returned (.int .i64 c)∧X7 D ⟨4,m,h,g,i,n,v⟩ c)∧Below w.heap.size w w':=by
 obtain⟨am,cm,rfl,hml,hMx⟩:=hM;have hMx':=Z0 hMx;have h6':=Z0 h6;clear hMx h6;unfold maxLen at hml;unfold OpD.val OpD.cells;have bb:=Z0 (Y2 w (.cells #[.int .i64 4,.int .i64 m,.int .i64 h,.int .i64 g,.int .i64 i,.int .i64 n,.int .i64 v] 43));have d1:decide (m<0)=false:=decide_eq_false (by omega);have d2:decide ((D.muts.length:Int)≤m)=false:=decide_eq_false (by omega);have hh:=Z0 (fun w=>N8 c3 w);have hmo:=Z0 (show zhh D ⟨4,m,h,g,i,n,v⟩from⟨c1.1,c1.2,c3⟩);have hgo:=Z0 (show N1 4→HOk g from fun e=>absurd e (by unfold N1;omega));obtain⟨M,rfl⟩:=Int.eq_ofNat_of_zero_le c1.1;obtain⟨H,rfl⟩:=Int.eq_ofNat_of_zero_le c3.1;have hM:M<D.muts.length:=by omega
 obtain⟨r,hr⟩:∃r,D.muts[M]?=some r:=⟨_,List.getElem?_eq_getElem hM⟩;have hr6:=h6'.out M r hr;have hH:H<r.length:=by have:=c3.2;omega
 obtain⟨gm,om,vr,rfl,x0,hrd⟩:=hMx'.out M r hr;obtain⟨ar,cr,rfl,hrl,hrx⟩:=hrd;obtain⟨br,ob,rfl,x1⟩:=hrx H hH;have hroot:=Z0 (show V2 D (M:Int) (H:Int)=r[H]?.getD 0 by unfold V2;rw[Int.toNat_natCast,Int.toNat_natCast,hr];rfl);have z0:=Y3 bb.out x0;have z1:=Y3 bb.out x1;have hM1:(M:Int)<(D.muts.length:Int):=by omega
 have hH1:(H:Int)<(r.length:Int):=by omega
 have hc:=Z0 c1;clear hrx x0 x1 hr c3 c1;generalize r[H]?.getD 0=x at *
 by_cases c5:x=0
 ·have y:=Z0 (show X7 D ⟨4,(M:Int),(H:Int),g,i,n,v⟩ 2 from .inr (.inr (.inl ⟨hmo.out,hgo.out,(by show P5 4;unfold P5;omega),by show V2 D (M:Int) (H:Int)=0;rw[hroot.out];exact c5,rfl⟩)))
  have d5:(x == 0)=true:=beq_iff_eq.2 c5;clear c5;go_enter func61,ntmps61;go_wp2_with (go_at_call 94;refine(hh.out _).mono ?_;rintro e w'⟨rfl,rfl⟩)
  go_quiet (fail)
  go_wp2_with (go_at_call 94;refine(hh.out _).mono ?_;rintro e w'⟨rfl,rfl⟩);go_ret;exact⟨⟨_,rfl,y.out⟩,by first|exact bb.out|exact below_drewN bb.out _⟩
 ·have y:=Z0 (show X7 D ⟨4,(M:Int),(H:Int),g,i,n,v⟩ 0 from .inr (.inr (.inr (.inr ⟨hmo.out,hgo.out,fun _=>by show V2 D (M:Int) (H:Int)≠0;rw[hroot.out];exact c5,fun e=>absurd (show(4:Int)=1 from e) (by omega),rfl⟩))))
  have d5:(x == 0)=false:=beq_eq_false_iff_ne.2 c5;clear c5;go_enter func61,ntmps61;go_wp2_with (go_at_call 94;refine(hh.out _).mono ?_;rintro e w'⟨rfl,rfl⟩)
  go_quiet (fail)
  go_wp2_with (go_at_call 94;refine(hh.out _).mono ?_;rintro e w'⟨rfl,rfl⟩);go_ret;exact⟨⟨_,rfl,y.out⟩,by first|exact bb.out|exact below_drewN bb.out _⟩
theorem sfirst_5(m h g i n v:Int)(D:WD)(vm:Value)(w:World)(c1:0≤m∧m<(D.muts.length:Int))(c3:HOk h)(hM:RdM w vm D.muts)(h6:∀(k:Nat) (r:List Int),D.muts[k]?=some r→r.length=6) :
  Calls prog 61 #[OpD.val ⟨5,m,h,g,i,n,v⟩,vm] w fun e w'=>(∃c,e=.returned (.int .i64 c)∧X7 D ⟨5,m,h,g,i,n,v⟩ c)∧Below w.heap.size w w':=by
 obtain⟨am,cm,rfl,hml,hMx⟩:=hM;have hMx':=Z0 hMx;have h6':=Z0 h6;clear hMx h6;unfold maxLen at hml;unfold OpD.val OpD.cells;have bb:=Z0 (Y2 w (.cells #[.int .i64 5,.int .i64 m,.int .i64 h,.int .i64 g,.int .i64 i,.int .i64 n,.int .i64 v] 43));have d1:decide (m<0)=false:=decide_eq_false (by omega);have d2:decide ((D.muts.length:Int)≤m)=false:=decide_eq_false (by omega);have hh:=Z0 (fun w=>N8 c3 w);have hmo:=Z0 (show zhh D ⟨5,m,h,g,i,n,v⟩from⟨c1.1,c1.2,c3⟩);have hgo:=Z0 (show N1 5→HOk g from fun e=>absurd e (by unfold N1;omega));obtain⟨M,rfl⟩:=Int.eq_ofNat_of_zero_le c1.1;obtain⟨H,rfl⟩:=Int.eq_ofNat_of_zero_le c3.1;have hM:M<D.muts.length:=by omega
 obtain⟨r,hr⟩:∃r,D.muts[M]?=some r:=⟨_,List.getElem?_eq_getElem hM⟩;have hr6:=h6'.out M r hr;have hH:H<r.length:=by have:=c3.2;omega
 obtain⟨gm,om,vr,rfl,x0,hrd⟩:=hMx'.out M r hr;obtain⟨ar,cr,rfl,hrl,hrx⟩:=hrd;obtain⟨br,ob,rfl,x1⟩:=hrx H hH;have hroot:=Z0 (show V2 D (M:Int) (H:Int)=r[H]?.getD 0 by unfold V2;rw[Int.toNat_natCast,Int.toNat_natCast,hr];rfl);have z0:=Y3 bb.out x0;have z1:=Y3 bb.out x1;have hM1:(M:Int)<(D.muts.length:Int):=by omega
 have hH1:(H:Int)<(r.length:Int):=by omega
 have hc:=Z0 c1;clear hrx x0 x1 hr c3 c1;generalize r[H]?.getD 0=x at *
 by_cases c5:x=0
 ·have y:=Z0 (show X7 D ⟨5,(M:Int),(H:Int),g,i,n,v⟩ 2 from .inr (.inr (.inl ⟨hmo.out,hgo.out,(by show P5 5;unfold P5;omega),by show V2 D (M:Int) (H:Int)=0;rw[hroot.out];exact c5,rfl⟩)))
  have d5:(x == 0)=true:=beq_iff_eq.2 c5;clear c5;go_enter func61,ntmps61;go_wp2_with (go_at_call 94;refine(hh.out _).mono ?_;rintro e w'⟨rfl,rfl⟩)
  go_quiet (fail)
  go_wp2_with (go_at_call 94;refine(hh.out _).mono ?_;rintro e w'⟨rfl,rfl⟩);go_ret;exact⟨⟨_,rfl,y.out⟩,by first|exact bb.out|exact below_drewN bb.out _⟩
 ·have y:=Z0 (show X7 D ⟨5,(M:Int),(H:Int),g,i,n,v⟩ 0 from .inr (.inr (.inr (.inr ⟨hmo.out,hgo.out,fun _=>by show V2 D (M:Int) (H:Int)≠0;rw[hroot.out];exact c5,fun e=>absurd (show(5:Int)=1 from e) (by omega),rfl⟩))))
  have d5:(x == 0)=false:=beq_eq_false_iff_ne.2 c5;clear c5;go_enter func61,ntmps61;go_wp2_with (go_at_call 94;refine(hh.out _).mono ?_;rintro e w'⟨rfl,rfl⟩)
  go_quiet (fail)
  go_wp2_with (go_at_call 94;refine(hh.out _).mono ?_;rintro e w'⟨rfl,rfl⟩);go_ret;exact⟨⟨_,rfl,y.out⟩,by first|exact bb.out|exact below_drewN bb.out _⟩
theorem sfirst_6(m h g i n v:Int)(D:WD)(vm:Value)(w:World)(c1:0≤m∧m<(D.muts.length:Int))(c3:HOk h)(hM:RdM w vm D.muts)(h6:∀(k:Nat) (r:List Int),D.muts[k]?=some r→r.length=6) :
  Calls prog 61 #[OpD.val ⟨6,m,h,g,i,n,v⟩,vm] w fun e w'=>(∃c,e=.returned (.int .i64 c)∧X7 D ⟨6,m,h,g,i,n,v⟩ c)∧Below w.heap.size w w':=by
 obtain⟨am,cm,rfl,hml,hMx⟩:=hM;have hMx':=Z0 hMx;have h6':=Z0 h6;clear hMx h6;unfold maxLen at hml;unfold OpD.val OpD.cells;have bb:=Z0 (Y2 w (.cells #[.int .i64 6,.int .i64 m,.int .i64 h,.int .i64 g,.int .i64 i,.int .i64 n,.int .i64 v] 43));have d1:decide (m<0)=false:=decide_eq_false (by omega);have d2:decide ((D.muts.length:Int)≤m)=false:=decide_eq_false (by omega);have hh:=Z0 (fun w=>N8 c3 w);have hmo:=Z0 (show zhh D ⟨6,m,h,g,i,n,v⟩from⟨c1.1,c1.2,c3⟩);have hgo:=Z0 (show N1 6→HOk g from fun e=>absurd e (by unfold N1;omega));have y:=Z0 (show X7 D ⟨6,m,h,g,i,n,v⟩ 0 from .inr (.inr (.inr (.inr ⟨hmo.out,hgo.out,fun e=>absurd e (by show ¬P5 6;unfold P5;omega),fun e=>absurd (show(6:Int)=1 from e) (by omega),rfl⟩))));clear c1 c3;go_enter func61,ntmps61;go_wp2_with (go_at_call 94;refine(hh.out _).mono ?_;rintro e w'⟨rfl,rfl⟩);go_ret;exact⟨⟨_,rfl,y.out⟩,bb.out⟩
theorem sfirst_7(m h g i n v:Int)(D:WD)(vm:Value)(w:World)(c1:0≤m∧m<(D.muts.length:Int))(c3:HOk h)(hM:RdM w vm D.muts)(h6:∀(k:Nat) (r:List Int),D.muts[k]?=some r→r.length=6) :
  Calls prog 61 #[OpD.val ⟨7,m,h,g,i,n,v⟩,vm] w fun e w'=>(∃c,e=.returned (.int .i64 c)∧X7 D ⟨7,m,h,g,i,n,v⟩ c)∧Below w.heap.size w w':=by
 obtain⟨am,cm,rfl,hml,hMx⟩:=hM;have hMx':=Z0 hMx;have h6':=Z0 h6;clear hMx h6;unfold maxLen at hml;unfold OpD.val OpD.cells;have bb:=Z0 (Y2 w (.cells #[.int .i64 7,.int .i64 m,.int .i64 h,.int .i64 g,.int .i64 i,.int .i64 n,.int .i64 v] 43));have d1:decide (m<0)=false:=decide_eq_false (by omega);have d2:decide ((D.muts.length:Int)≤m)=false:=decide_eq_false (by omega);have hh:=Z0 (fun w=>N8 c3 w);have hmo:=Z0 (show zhh D ⟨7,m,h,g,i,n,v⟩from⟨c1.1,c1.2,c3⟩)
 by_cases c4:HOk g
 case neg =>
  have y:=Z0 (show X7 D ⟨7,m,h,g,i,n,v⟩ 2 from .inr (.inl ⟨hmo.out,(by show N1 7;unfold N1;omega),c4,rfl⟩));have hg:=Z0 (fun w=>zhk c4 w);clear c1 c3 c4;go_enter func61,ntmps61;go_wp2_with (go_at_call 94;first|(refine(hh.out _).mono ?_;rintro e w'⟨rfl,rfl⟩)|(refine(hg.out _).mono ?_;rintro e w'⟨rfl,rfl⟩));go_ret;exact⟨⟨_,rfl,y.out⟩,bb.out⟩
 have hg:=Z0 (fun w=>N8 c4 w);have hgo:=Z0 (show N1 7→HOk g from fun _=>c4);clear c4;have y:=Z0 (show X7 D ⟨7,m,h,g,i,n,v⟩ 0 from .inr (.inr (.inr (.inr ⟨hmo.out,hgo.out,fun e=>absurd e (by show ¬P5 7;unfold P5;omega),fun e=>absurd (show(7:Int)=1 from e) (by omega),rfl⟩))));clear c1 c3;go_enter func61,ntmps61;go_wp2_with (go_at_call 94;first|(refine(hh.out _).mono ?_;rintro e w'⟨rfl,rfl⟩)|(refine(hg.out _).mono ?_;rintro e w'⟨rfl,rfl⟩));go_ret;exact⟨⟨_,rfl,y.out⟩,bb.out⟩
theorem sfirst_8(m h g i n v:Int)(D:WD)(vm:Value)(w:World)(c1:0≤m∧m<(D.muts.length:Int))(c3:HOk h)(hM:RdM w vm D.muts)(h6:∀(k:Nat) (r:List Int),D.muts[k]?=some r→r.length=6) :
  Calls prog 61 #[OpD.val ⟨8,m,h,g,i,n,v⟩,vm] w fun e w'=>(∃c,e=.returned (.int .i64 c)∧X7 D ⟨8,m,h,g,i,n,v⟩ c)∧Below w.heap.size w w':=by
 obtain⟨am,cm,rfl,hml,hMx⟩:=hM;have hMx':=Z0 hMx;have h6':=Z0 h6;clear hMx h6;unfold maxLen at hml;unfold OpD.val OpD.cells;have bb:=Z0 (Y2 w (.cells #[.int .i64 8,.int .i64 m,.int .i64 h,.int .i64 g,.int .i64 i,.int .i64 n,.int .i64 v] 43));have d1:decide (m<0)=false:=decide_eq_false (by omega);have d2:decide ((D.muts.length:Int)≤m)=false:=decide_eq_false (by omega);have hh:=Z0 (fun w=>N8 c3 w);have hmo:=Z0 (show zhh D ⟨8,m,h,g,i,n,v⟩from⟨c1.1,c1.2,c3⟩)
 by_cases c4:HOk g
 case neg =>
  have y:=Z0 (show X7 D ⟨8,m,h,g,i,n,v⟩ 2 from .inr (.inl ⟨hmo.out,(by show N1 8;unfold N1;omega),c4,rfl⟩));have hg:=Z0 (fun w=>zhk c4 w);clear c1 c3 c4;go_enter func61,ntmps61;go_wp2_with (go_at_call 94;first|(refine(hh.out _).mono ?_;rintro e w'⟨rfl,rfl⟩)|(refine(hg.out _).mono ?_;rintro e w'⟨rfl,rfl⟩));go_ret;exact⟨⟨_,rfl,y.out⟩,bb.out⟩
 have hg:=Z0 (fun w=>N8 c4 w);have hgo:=Z0 (show N1 8→HOk g from fun _=>c4);clear c4;have y:=Z0 (show X7 D ⟨8,m,h,g,i,n,v⟩ 0 from .inr (.inr (.inr (.inr ⟨hmo.out,hgo.out,fun e=>absurd e (by show ¬P5 8;unfold P5;omega),fun e=>absurd (show(8:Int)=1 from e) (by omega),rfl⟩))));clear c1 c3;go_enter func61,ntmps61;go_wp2_with (go_at_call 94;first|(refine(hh.out _).mono ?_;rintro e w'⟨rfl,rfl⟩)|(refine(hg.out _).mono ?_;rintro e w'⟨rfl,rfl⟩));go_ret;exact⟨⟨_,rfl,y.out⟩,bb.out⟩
theorem sfirst_9(m h g i n v:Int)(D:WD)(vm:Value)(w:World)(c1:0≤m∧m<(D.muts.length:Int))(c3:HOk h)(hM:RdM w vm D.muts)(h6:∀(k:Nat) (r:List Int),D.muts[k]?=some r→r.length=6) :
  Calls prog 61 #[OpD.val ⟨9,m,h,g,i,n,v⟩,vm] w fun e w'=>(∃c,e=.returned (.int .i64 c)∧X7 D ⟨9,m,h,g,i,n,v⟩ c)∧Below w.heap.size w w':=by
 obtain⟨am,cm,rfl,hml,hMx⟩:=hM;have hMx':=Z0 hMx;have h6':=Z0 h6;clear hMx h6;unfold maxLen at hml;unfold OpD.val OpD.cells;have bb:=Z0 (Y2 w (.cells #[.int .i64 9,.int .i64 m,.int .i64 h,.int .i64 g,.int .i64 i,.int .i64 n,.int .i64 v] 43));have d1:decide (m<0)=false:=decide_eq_false (by omega);have d2:decide ((D.muts.length:Int)≤m)=false:=decide_eq_false (by omega);have hh:=Z0 (fun w=>N8 c3 w);have hmo:=Z0 (show zhh D ⟨9,m,h,g,i,n,v⟩from⟨c1.1,c1.2,c3⟩);have hgo:=Z0 (show N1 9→HOk g from fun e=>absurd e (by unfold N1;omega));obtain⟨M,rfl⟩:=Int.eq_ofNat_of_zero_le c1.1;obtain⟨H,rfl⟩:=Int.eq_ofNat_of_zero_le c3.1;have hM:M<D.muts.length:=by omega
 obtain⟨r,hr⟩:∃r,D.muts[M]?=some r:=⟨_,List.getElem?_eq_getElem hM⟩;have hr6:=h6'.out M r hr;have hH:H<r.length:=by have:=c3.2;omega
 obtain⟨gm,om,vr,rfl,x0,hrd⟩:=hMx'.out M r hr;obtain⟨ar,cr,rfl,hrl,hrx⟩:=hrd;obtain⟨br,ob,rfl,x1⟩:=hrx H hH;have hroot:=Z0 (show V2 D (M:Int) (H:Int)=r[H]?.getD 0 by unfold V2;rw[Int.toNat_natCast,Int.toNat_natCast,hr];rfl);have z0:=Y3 bb.out x0;have z1:=Y3 bb.out x1;have hM1:(M:Int)<(D.muts.length:Int):=by omega
 have hH1:(H:Int)<(r.length:Int):=by omega
 have hc:=Z0 c1;clear hrx x0 x1 hr c3 c1;generalize r[H]?.getD 0=x at *
 by_cases c5:x=0
 ·have y:=Z0 (show X7 D ⟨9,(M:Int),(H:Int),g,i,n,v⟩ 2 from .inr (.inr (.inl ⟨hmo.out,hgo.out,(by show P5 9;unfold P5;omega),by show V2 D (M:Int) (H:Int)=0;rw[hroot.out];exact c5,rfl⟩)))
  have d5:(x == 0)=true:=beq_iff_eq.2 c5;clear c5;go_enter func61,ntmps61;go_wp2_with (go_at_call 94;refine(hh.out _).mono ?_;rintro e w'⟨rfl,rfl⟩)
  go_quiet (fail)
  go_wp2_with (go_at_call 94;refine(hh.out _).mono ?_;rintro e w'⟨rfl,rfl⟩);go_ret;exact⟨⟨_,rfl,y.out⟩,by first|exact bb.out|exact below_drewN bb.out _⟩
 ·have y:=Z0 (show X7 D ⟨9,(M:Int),(H:Int),g,i,n,v⟩ 0 from .inr (.inr (.inr (.inr ⟨hmo.out,hgo.out,fun _=>by show V2 D (M:Int) (H:Int)≠0;rw[hroot.out];exact c5,fun e=>absurd (show(9:Int)=1 from e) (by omega),rfl⟩))))
  have d5:(x == 0)=false:=beq_eq_false_iff_ne.2 c5;clear c5;go_enter func61,ntmps61;go_wp2_with (go_at_call 94;refine(hh.out _).mono ?_;rintro e w'⟨rfl,rfl⟩)
  go_quiet (fail)
  go_wp2_with (go_at_call 94;refine(hh.out _).mono ?_;rintro e w'⟨rfl,rfl⟩);go_ret;exact⟨⟨_,rfl,y.out⟩,by first|exact bb.out|exact below_drewN bb.out _⟩
theorem C7(o:OpD)(D:WD)(vm:Value)(w:World)(hk:T8 o.kind)(hM:RdM w vm D.muts)(h6:∀(k:Nat) (r:List Int),D.muts[k]?=some r→r.length=6) :
  Calls prog 61 #[OpD.val o,vm] w fun e w'=>(∃c,e=.returned (.int .i64 c)∧X7 D o c)∧Below w.heap.size w w':=by
 obtain⟨kind,m,h,g,i,n,v⟩:=o;have hk':1≤kind∧kind≤9:=hk
 by_cases c:zhh D ⟨kind,m,h,g,i,n,v⟩
 case neg=>exact zxw kind m h g i n v D vm w c hM
 have c1:0≤m∧m<(D.muts.length:Int):=⟨c.1,c.2.1⟩;have c3:HOk h:=c.2.2
 rcases(show kind=1∨kind=2∨kind=3∨kind=4∨kind=5∨kind=6∨kind=7∨kind=8∨kind=9 by omega)with rfl|rfl|rfl|rfl|rfl|rfl|rfl|rfl|rfl
 ·exact sfirst_1 m h g i n v D vm w c1 c3 hM h6
 ·exact sfirst_2 m h g i n v D vm w c1 c3 hM h6
 ·exact sfirst_3 m h g i n v D vm w c1 c3 hM h6
 ·exact sfirst_4 m h g i n v D vm w c1 c3 hM h6
 ·exact sfirst_5 m h g i n v D vm w c1 c3 hM h6
 ·exact sfirst_6 m h g i n v D vm w c1 c3 hM h6
 ·exact sfirst_7 m h g i n v D vm w c1 c3 hM h6
 ·exact sfirst_8 m h g i n v D vm w c1 c3 hM h6
 ·exact sfirst_9 m h g i n v D vm w c1 c3 hM h6
end Go.Proofs.YtjjamgeoompbkaaGreat

import Derived.Test.YtilkidaihbhfpaaGreatTsV
import Derived.Deep.DeepCutAuto
import Derived.Deep.CutRange
import Derived.Outline

set_option maxRecDepth 100000
set_option maxHeartbeats 16000000
namespace Go.Proofs.YtilkidaihbhfpaaGreat
open Go.RowKit
set_option linter.unusedVariables false
set_option linter.unusedSimpArgs false
theorem Chg.set1 {bs:List Nat} {w w':World} (h:Chg bs w w') {b:Nat} (hb:b ∈ bs) (i:Nat) (v:Value):Chg bs w (w'.setCell ⟨b,i,none⟩ v) :=
 h.trans (Chg.of_grown (V5 w' b i v) (fun x hx=>by cases hx;exact hb))
theorem sown_any (v:Value) (D:WD) (hs:zgk D) (w:World) (hr:RdW w v D) :
  Calls Tryz.prog 133 #[v] w fun e w'=>∃ S,e=.returned (S.val D)∧OwnW w' w.heap.size S D∧Below w.heap.size w w':=by
 obtain ⟨vw,vd,vs,vm,vg,rfl,a1,a2,a3,a4,a5⟩:=hr
 obtain ⟨aw,cw,rfl,hlw,j1⟩:=id a1
 obtain ⟨ad,cd,rfl,hld,j2⟩:=id a2
 obtain ⟨aS,cS,rfl,hls,j3⟩:=id a3
 obtain ⟨am,cm,rfl,hlm,j4⟩:=id a4
 obtain ⟨ag,cg,rfl,hlg,j5⟩:=id a5
 unfold maxLen at hlw hld hls hlm hlg
 have hs1:=hs.words
 have hs2:=hs.dirty
 have hs3:=hs.spans
 have hs4:=hs.muts
 have hs5:=hs.grey
 have hs':=zaa hs
 obtain ⟨hA,hR,hC,bb⟩:=box3 w (.cells #[.int .i64 D.base,.int .i64 D.pages,.slice aw D.words.length cw,.slice ad D.dirty.length cd,.slice aS D.spans.length cS,.slice am D.muts.length cm,.int .i64 D.phase,.int .i64 D.next,.slice ag D.grey.length cg] 30) (.cells #[.int .i64 0,.int .i64 0,.slice none 0 0,.slice none 0 0,.slice none 0 0,.slice none 0 0,.int .i64 0,.int .i64 0,.slice none 0 0] 30) (.cells #[.int .i64 D.base,.int .i64 D.pages,.slice aw D.words.length cw,.slice ad D.dirty.length cd,.slice aS D.spans.length cS,.slice am D.muts.length cm,.int .i64 D.phase,.int .i64 D.next,.slice ag D.grey.length cg] 30)
 have q1:=zaa a1
 have q2:=zaa a2
 have q3:=zaa a3
 have q4:=zaa a4
 have q5:=zaa a5
 have hz0:((((w.alloc (.cells #[.int .i64 D.base,.int .i64 D.pages,.slice aw D.words.length cw,.slice ad D.dirty.length cd,.slice aS D.spans.length cS,.slice am D.muts.length cm,.int .i64 D.phase,.int .i64 D.next,.slice ag D.grey.length cg] 30)).alloc (.cells #[.int .i64 0,.int .i64 0,.slice none 0 0,.slice none 0 0,.slice none 0 0,.slice none 0 0,.int .i64 0,.int .i64 0,.slice none 0 0] 30)).alloc (.cells #[.int .i64 D.base,.int .i64 D.pages,.slice aw D.words.length cw,.slice ad D.dirty.length cd,.slice aS D.spans.length cS,.slice am D.muts.length cm,.int .i64 D.phase,.int .i64 D.next,.slice ag D.grey.length cg] 30)):World).heap.size=w.heap.size+1+1+1:=by simp
 have E1:=zaa (zjj hz0 3 1)
 have hz0':=zaa hz0
 have s1:=zaa ((a1.below (Z4 bb (Z5 _ (.cells #[] 3)))).src)
 have hle1:=zaa (show w.heap.size+1+1+1≤(((((w.alloc (.cells #[.int .i64 D.base,.int .i64 D.pages,.slice aw D.words.length cw,.slice ad D.dirty.length cd,.slice aS D.spans.length cS,.slice am D.muts.length cm,.int .i64 D.phase,.int .i64 D.next,.slice ag D.grey.length cg] 30)).alloc (.cells #[.int .i64 0,.int .i64 0,.slice none 0 0,.slice none 0 0,.slice none 0 0,.slice none 0 0,.int .i64 0,.int .i64 0,.slice none 0 0] 30)).alloc (.cells #[.int .i64 D.base,.int .i64 D.pages,.slice aw D.words.length cw,.slice ad D.dirty.length cd,.slice aS D.spans.length cS,.slice am D.muts.length cm,.int .i64 D.phase,.int .i64 D.next,.slice ag D.grey.length cg] 30)):World).alloc (.cells #[] 3)).heap.size by simp)
 have bb':=zaa bb
 have hA':=zaa hA
 have hR':=zaa hR
 have hC':=zaa hC
 clear a1 a2 a3 a4 a5 hs bb hA hR hC j1 j2 j3 j4 j5 hz0
 go_enter Tryz.func133,Tryz.ntmps133
 go_wp2_with (first
  | (refine P5 rfl (.tmp 8) (.tmp 10) 23 rfl (w.heap.size+1+1+1) 3 (.int .i64 0) 1 8 Tryz.underlying23 E9 rfl (by decide) _ 0 [] rfl E1.out aw D.words.length cw (D.words.map (Value.int .i64)) rfl s1.out (by unfold maxLen;omega) (by omega) hle1.out ?_;intro v1 w1 o1 g1;simp only [Nat.zero_add,List.nil_append] at o1;obtain ⟨a1,c1,rfl⟩:=Y4 o1;have o1':=zaa o1;have g1':=zaa g1;obtain ⟨b1,z1⟩:=step2n hz0'.out g1;have A1:=Z6 b1 hA'.out;have C1:=Z6 b1 hC'.out;have b1':=zaa (bb'.out.trans (b1.mono (by first | omega | (simp only [World.size_alloc,World.size_setCell];done) | (simp only [World.size_alloc,World.size_setCell];omega))));have A1':=zaa A1;have C1':=zaa C1;have z1':w.heap.size+1+1+1<w1.heap.size:=z1;have ne1:¬ (w.heap.size=w1.heap.size):=(by omega);have ne2:¬ (w.heap.size+1+1=w1.heap.size):=(by omega);have lt1:w.heap.size<w1.heap.size:=(by omega);have lt2:w.heap.size+1+1<w1.heap.size:=(by omega);have y2:=Z0 C1 2 _ rfl;have y2f:=Z3 C1 2;have y3:=Z0 A1 3 _ rfl;have E2:=zaa (zjj (w:=w1.setCell ⟨w.heap.size+1+1,2,none⟩ (.slice a1 D.words.length c1)) (n:=w1.heap.size) (by simp) 4 1);have s2:=zaa ((q2.out.below ((b1'.out.setCell (p:=⟨w.heap.size+1+1,2,none⟩) (by first | omega | (simp only [World.size_alloc,World.size_setCell];done) | (simp only [World.size_alloc,World.size_setCell];omega)) (.slice a1 D.words.length c1)).trans ((Z5 (w1.setCell ⟨w.heap.size+1+1,2,none⟩ (.slice a1 D.words.length c1)) (.cells #[] 4)).mono (by first | omega | (simp only [World.size_alloc,World.size_setCell];done) | (simp only [World.size_alloc,World.size_setCell];omega))))).src);have hle2:=zaa (show w1.heap.size≤((w1.setCell ⟨w.heap.size+1+1,2,none⟩ (.slice a1 D.words.length c1)).alloc (.cells #[] 4)).heap.size by simp);clear o1 g1 z1 A1 C1 b1)
  | (refine P5 rfl (.tmp 13) (.tmp 15) 24 rfl w1.heap.size 4 (.bool false) 1 1 Tryz.underlying24 zjm rfl (by decide) _ 0 [] rfl E2.out ad D.dirty.length cd (D.dirty.map Value.bool) rfl s2.out (by unfold maxLen;omega) (by omega) hle2.out ?_;intro v2 w2 o2 g2;simp only [Nat.zero_add,List.nil_append] at o2;obtain ⟨a2,c2,rfl⟩:=Y4 o2;have st:=zaa (St1.start (v2:=.slice a2 D.dirty.length c2) hA'.out hR'.out hC'.out bb'.out g1'.out o1'.out g2 o2);obtain ⟨C2,k2,z2⟩:=step3 (show w.heap.size+1+1<w1.heap.size by omega) C1'.out g2;have x3:=Z0 C2 3 _ rfl;have x3f:=Z3 C2 3;have x4:=Z0 C2 4 _ rfl;have x4f:=Z3 C2 4;clear o2 g2 C2 k2 z2 y2 y2f y3 z1' ne1 ne2 lt1 lt2))
 go_loopw [4] (fun i wr=>∃ (k:Nat) (v3:Value) (sv:List (Value × Value)),k≤D.spans.length∧i=.int .i64 k∧Hid (St1 w wr #[.int .i64 D.base,.int .i64 D.pages,.slice aw D.words.length cw,.slice ad D.dirty.length cd,.slice aS D.spans.length cS,.slice am D.muts.length cm,.int .i64 D.phase,.int .i64 D.next,.slice ag D.grey.length cg] D (.slice a1 D.words.length c1) (.slice a2 D.dirty.length c2) v3 (.slice am D.muts.length cm) (.slice ag D.grey.length cg) sv k)) (fun i _=>D.spans.length-(intOf i).toNat)
 case atStart=>exact ⟨0,.slice none 0 0,[],Nat.zero_le _,rfl,st⟩
 case round =>
  obtain ⟨k,v3,sv,hk,rfl,st⟩:=hrel
  have y4:=Z0 st.out.boxA 4 _ rfl
  have z4:=Z0 st.out.boxC 4 _ rfl
  by_cases hlt:k<D.spans.length
  ·obtain ⟨s,hks⟩:∃ s,D.spans[k]?=some s:=⟨_,List.getElem?_eq_getElem hlt⟩
   have hlt1:(k:Int)<(D.spans.length:Int):=by omega
   obtain ⟨b1,o1,rfl,vl,vp,x0,x1,x2,x3,x4,x5,hl,hp⟩:=(q3.out.below st.out.below).at_ k s hks
   obtain ⟨al,cl,rfl,hll,jl⟩:=id hl
   obtain ⟨ap,cp,rfl,hlp,jp⟩:=id hp
   clear jl jp
   unfold maxLen at hll hlp
   have hin:=hs'.out.inner s (List.mem_of_getElem? hks)
   have hl1:=hin.1
   have hl2:=hin.2
   clear hin
   have hks':=zaa hks
   have hsz:=zaa st.out.size
   have szb:w.heap.size+1+1+1≤wr.heap.size:=hsz.out
   have nb0:¬ (w.heap.size=wr.heap.size):=by omega
   have nb:¬ (w.heap.size+1+1=wr.heap.size):=by omega
   have F1:=zaa (zjj (w:=wr.alloc (.cells #[.int .i64 s.page,.int .i64 s.cls,.int .i64 s.mark,.bool s.swept,.slice al s.lens.length cl,.slice ap s.ptrs.length cp] 97)) (n:=wr.heap.size+1) (by simp) 3 1)
   have r1:=zaa ((hl.below (Z4 (Z5 wr (.cells #[.int .i64 s.page,.int .i64 s.cls,.int .i64 s.mark,.bool s.swept,.slice al s.lens.length cl,.slice ap s.ptrs.length cp] 97)) (Z5 _ (.cells #[] 3)))).src)
   have r2:=zaa hp
   have tk:(D.spans.take k).length=k:=by rw [List.length_take];omega
   have tk':=zaa tk
   have row3:=zaa (show ∀ w',Below wr.heap.size wr w'→w'.ownsRow (w.heap.size+1+1+1) 97 6 v3 k (U9 (D.spans.take k) sv) from fun w' hb=>by have:=Y9 st.out.cop.spans.row hb;rwa [tk] at this)
   clear tk
   have hv3:=zaa (show ∀ q,v3.ownBlock=some q→w.heap.size+1+1+1≤q from fun q hq=>(st.out.cop.spans.row.lt q hq).1)
   have boxC:=zaa st.out.boxC
   obtain ⟨a0,c0,rfl⟩:=Y4 (row3.out _ (Below.refl _ _))
   clear hks hl hp
   go_wp2_with (first
    | (refine P5 rfl (.tmp 31) (.tmp 33) 23 rfl (wr.heap.size+1) 3 (.int .i64 0) 1 8 Tryz.underlying23 E9 rfl (by decide) _ 0 [] rfl F1.out al s.lens.length cl (s.lens.map (Value.int .i64)) rfl r1.out (by unfold maxLen;omega) (by omega) (by simp) ?_;intro u1 w1 p1 h1;simp only [Nat.zero_add,List.nil_append] at p1;obtain ⟨a3,c3,rfl⟩:=Y4 p1;have H1:=zaa (And.intro h1 p1);obtain ⟨T1,d1,zz1⟩:=St1.at1 h1;have T1':=zaa T1;have d1':=zaa d1;have t4:=Z0 T1 4 _ rfl;have t4f:=Z3 T1 4;have t5:=Z0 T1 5 _ rfl;have lw1:wr.heap.size<w1.heap.size:=(by omega);have nw1:¬ (wr.heap.size=w1.heap.size):=(by omega);have F2:=zaa (zjj (w:=w1.setCell ⟨wr.heap.size,4,none⟩ (.slice a3 s.lens.length c3)) (n:=w1.heap.size) (by simp) 3 1);have r2':=zaa ((r2.out.below (St1.at3 d1 (i:=4) (u:=.slice a3 s.lens.length c3) (X:=#[]) (T:=3))).src);have le2:=zaa (show w1.heap.size≤((w1.setCell ⟨wr.heap.size,4,none⟩ (.slice a3 s.lens.length c3)).alloc (.cells #[] 3)).heap.size by simp);clear p1 h1 T1 d1)
    | (refine P5 rfl (.tmp 36) (.tmp 38) 23 rfl w1.heap.size 3 (.int .i64 0) 1 8 Tryz.underlying23 E9 rfl (by decide) _ 0 [] rfl F2.out ap s.ptrs.length cp (s.ptrs.map (Value.int .i64)) rfl r2'.out (by unfold maxLen;omega) (by omega) le2.out ?_;intro u2 w2 p2 h2;simp only [Nat.zero_add,List.nil_append] at p2;obtain ⟨a4,c4,rfl⟩:=Y4 p2;have H2:=zaa (And.intro h2 p2);obtain ⟨T2,d2,zz2⟩:=St1.at2 T1'.out d1'.out zz1 h2;have d2':=zaa d2;clear t4 t4f t5;have e0:=Z0 T2 0 _ rfl;have e1:=Z0 T2 1 _ rfl;have e2:=Z0 T2 2 _ rfl;have e3:=Z0 T2 3 _ rfl;have e4:=Z0 T2 4 _ rfl;have t5:=Z0 T2 5 _ rfl;have t5f:=Z3 T2 5;have zC:=Z0 (Z6 d2 boxC.out) 4 _ rfl;have nw2:¬ (wr.heap.size=w2.heap.size):=(by omega);have nw3:¬ (w.heap.size+1+1=w2.heap.size):=(by omega);have rw3:=zaa (row3.out _ (St1.at3 d2 (i:=5) (u:=.slice a4 s.ptrs.length c4) (X:=#[.int .i64 s.page,.int .i64 s.cls,.int .i64 s.mark,.bool s.swept,.slice a3 s.lens.length c3,.slice a4 s.ptrs.length c4]) (T:=97)));have r3:=zaa (src_span w2 ⟨wr.heap.size,5,none⟩ (.slice a4 s.ptrs.length c4) s a3 a4 s.lens.length s.ptrs.length c3 c4);have le3:=zaa (show w.heap.size+1+1+1≤((w2.setCell ⟨wr.heap.size,5,none⟩ (.slice a4 s.ptrs.length c4)).alloc (.cells #[.int .i64 s.page,.int .i64 s.cls,.int .i64 s.mark,.bool s.swept,.slice a3 s.lens.length c3,.slice a4 s.ptrs.length c4] 97)).heap.size by simp;omega);clear p2 h2 T2 d2)
    | (refine P5 rfl (.tmp 42) (.tmp 44) 25 rfl (w.heap.size+1+1+1) 97 (.agg #[.int .i64 0,.int .i64 0,.int .i64 0,.bool false,.slice none 0 0,.slice none 0 0]) 6 80 Tryz.underlying25 zfj (by rfl) (by decide) _ k _ rfl rw3.out (some ⟨w2.heap.size,0,none⟩) 1 1 (Q8 s (.slice a3 s.lens.length c3,.slice a4 s.ptrs.length c4)) rfl r3.out (by unfold maxLen;omega) (by omega) le3.out ?_;intro u3 w3 p3 h3;obtain ⟨a5,c5,rfl⟩:=Y4 p3;have boxC3:=St1.at4 (St1.at3 d2'.out) h3 hv3.out (by omega) boxC.out;have fC:=Z3 boxC3 4;have zC3:=Z0 boxC3 4 _ rfl;have p3':=zaa (show w3.ownsRow (w.heap.size+1+1+1) 97 6 (.slice a5 (k+1) c5) ((D.spans.take k).length+1) (U9 (D.spans.take k) sv ++ Q8 s (.slice a3 s.lens.length c3,.slice a4 s.ptrs.length c4)) by rw [tk'.out];exact p3);have nst:=zaa (st.out.next hks'.out (p:=(.slice a3 s.lens.length c3,.slice a4 s.ptrs.length c4)) H1.out.1 H1.out.2 H2.out.1 H2.out.2 h3 p3'.out);clear p3 h3 boxC3 zC e0 e1 e2 e3 e4 t5 t5f))
   exact ⟨⟨k+1,_,_,by omega,by go_num,nst⟩,by simp [intOf];omega⟩
  ·obtain rfl:k=D.spans.length:=by omega
   have z5:=Z0 st.out.boxC 5 _ rfl
   have z5f:=Z3 st.out.boxC 5
   have st2:=zaa (St2.start st.out)
   clear z4 hk
   go_wp2_with fail
   clear y4 z5 z5f st
   go_loopw [6] (fun i wr=>∃ (k:Nat) (v5:Value) (mv:List Value),k≤D.muts.length∧i=.int .i64 k∧Hid (St2 w wr #[.int .i64 D.base,.int .i64 D.pages,.slice aw D.words.length cw,.slice ad D.dirty.length cd,.slice aS D.spans.length cS,.slice am D.muts.length cm,.int .i64 D.phase,.int .i64 D.next,.slice ag D.grey.length cg] D (.slice a1 D.words.length c1) (.slice a2 D.dirty.length c2) v3 v5 (.slice ag D.grey.length cg) sv mv k)) (fun i _=>D.muts.length-(intOf i).toNat)
   case atStart=>exact ⟨0,.slice none 0 0,[],Nat.zero_le _,rfl,st2⟩
   case round =>
    obtain ⟨k,v5,mv,hk,rfl,st⟩:=hrel
    have y5:wr.cell? ⟨w.heap.size,5,none⟩=some (.slice am D.muts.length cm):=Z0 st.out.boxA 5 _ rfl
    have z5:wr.cell? ⟨w.heap.size+1+1,5,none⟩=some v5:=Z0 st.out.boxC 5 _ rfl
    have z5f:=Z3 st.out.boxC 5
    by_cases hlt:k<D.muts.length
    ·obtain ⟨r,hkr⟩:∃ r,D.muts[k]?=some r:=⟨_,List.getElem?_eq_getElem hlt⟩
     have hlt1:(k:Int)<(D.muts.length:Int):=by omega
     obtain ⟨a',c',he,hml,jm⟩:=q4.out.below st.out.below
     obtain ⟨rfl,rfl⟩:am=a'∧cm=c':=by simpa using he
     obtain ⟨b1,o1,vr,rfl,x0,hl⟩:=jm k r hkr
     obtain ⟨al,cl,rfl,hll,jl⟩:=id hl
     clear jl jm he hml
     unfold maxLen at hll
     have hl1:=hs'.out.innerM r (List.mem_of_getElem? hkr)
     have hkr':=zaa hkr
     have hsz:=zaa st.out.size
     have szb:w.heap.size+1+1+1≤wr.heap.size:=hsz.out
     have nb:¬ (w.heap.size+1+1=wr.heap.size):=by omega
     have y5a:=Z7 (Z5 wr (.cells #[] 3)) y5
     have z5a:=Z7 (Z5 wr (.cells #[] 3)) z5
     have x0a:=Z7 (Z5 wr (.cells #[] 3)) x0
     have hy0:=zaa (show Below wr.heap.size wr (wr.alloc (.cells #[] 3)).drew from below_drewN (Z5 wr (.cells #[] 3)) 1)
     have F1:=zaa (show (wr.alloc (.cells #[] 3)).drew.ownsRow wr.heap.size 3 1 (.slice (some ⟨wr.heap.size,0,none⟩) 0 0) 0 [] from Y9 (ziq wr 3 1) (below_drewN (Below.refl _ _) 1))
     have r1:=zaa ((hl.below hy0.out).src)
     have tk:(D.muts.take k).length=k:=by rw [List.length_take];omega
     have tk':=zaa tk
     have hv5:=zaa (show ∀ q,v5.ownBlock=some q→w.heap.size+1+1+1≤q from fun q hq=>(st.out.muts.row.lt q hq).1)
     have row5:=zaa (show ∀ w',Below wr.heap.size wr w'→w'.ownsRow (w.heap.size+1+1+1) 74 1 v5 k mv from fun w' hb=>by have:=Y9 st.out.muts.row hb;rwa [tk] at this)
     have boxC:=zaa st.out.boxC
     clear tk
     obtain ⟨a0,c0,rfl⟩:=Y4 (row5.out _ (Below.refl _ _))
     clear hkr hl
     go_wp2_with fail
     go_region_law (first
      | (refine zen rfl (zog (.tmp 57) (.tmp 63) 23 rfl wr.heap.size 3 (.int .i64 0) 1 8 Tryz.underlying23 E9 rfl (by decide) (.slice (some ⟨wr.heap.size,0,none⟩) 0 0) 0 [] rfl F1.out al r.length cl (r.map (Value.int .i64)) rfl r1.out (by unfold maxLen;omega) (by omega) hy0.out.size ?_);intro u1 x1 p1 h1;simp only [Nat.zero_add,List.nil_append] at p1;obtain ⟨a3,c3,rfl⟩:=Y4 p1;have H1:=zaa (And.intro (show (wr.alloc (.cells #[] 3)).drew.grownBy x1 (some wr.heap.size) from h1) p1);have d1:=zaa (show Below wr.heap.size wr x1 from hy0.out.grown H1.out.1 hy0.out.size (fun q hq=>(by cases hq;exact Nat.le_refl _)));have d2:=zaa (show Below wr.heap.size wr (x1.alloc (.cells #[.slice a3 r.length c3] 74)) from d1.out.trans ((Z5 x1 _).mono d1.out.size));have y5b:=Z7 d1.out y5;have z5b:=Z7 d1.out z5;have z5c:=Z7 d2.out z5;have rw5:=zaa (row5.out _ d2.out);have r3:=zaa (zln x1 (cs:=#[.slice a3 r.length c3]) (T:=74) (m:=1) (size:=1) rfl (fun u hu=>(by simp only [List.mem_singleton] at hu;subst hu;rfl)));have le3:=zaa (show w.heap.size+1+1+1≤(x1.alloc (.cells #[.slice a3 r.length c3] 74)).heap.size from Nat.le_trans szb d2.out.size);clear p1 h1)
      | (refine zen rfl (zog (.tmp 56) (.tmp 66) 26 rfl (w.heap.size+1+1+1) 74 (.agg #[.slice none 0 0]) 1 24 Tryz.underlying26 zpt (by rfl) (by decide) (.slice a0 k c0) k mv rfl rw5.out (some ⟨x1.heap.size,0,none⟩) 1 1 [.slice a3 r.length c3] rfl r3.out (by unfold maxLen;omega) (by omega) le3.out ?_);intro u2 x2 p2 h2;obtain ⟨a5,c5,rfl⟩:=Y4 p2;have boxC2:=St1.at4 d2.out h2 hv5.out (by omega) boxC.out;have z5d:=Z0 boxC2 5 _ rfl;have f5d:=Z3 boxC2 5;have nst:=zaa (St2.next st.out hkr'.out hy0.out H1.out.1 H1.out.2 (Z5 x1 _) h2 (show x2.ownsRow (w.heap.size+1+1+1) 74 1 (.slice a5 (k+1) c5) ((D.muts.take k).length+1) (mv ++ [.slice a3 r.length c3]) from (by rw [tk'.out];exact p2)) (Chg.of_grown (V5 x2 (w.heap.size+1+1) 5 (.slice a5 (k+1) c5)) (by simp)) (heap_setCell_same x2 (w.heap.size+1+1) 5 _ _ (.slice a5 (k+1) c5) boxC2));clear p2 h2 boxC2))
     all_goals go_wp2_with fail
     all_goals exact ⟨⟨k+1,_,_,by omega,by go_num,nst⟩,by simp [intOf];omega⟩
    ·obtain rfl:k=D.muts.length:=by omega
     have y8:wr.cell? ⟨w.heap.size,8,none⟩=some (.slice ag D.grey.length cg):=Z0 st.out.boxA 8 _ rfl
     have hl:=q5.out.below st.out.below
     have hy0:=zaa (Z5 wr (.cells #[] 3))
     have y8a:=Z7 hy0.out y8
     have F1:=zaa (ziq wr 3 1)
     have r1:=zaa ((hl.below hy0.out).src)
     have boxC:=zaa st.out.boxC
     have boxR:=zaa st.out.boxR
     have hsz:=zaa st.out.size
     have szb:w.heap.size+1+1+1≤wr.heap.size:=hsz.out
     obtain ⟨a4,c4,rfl⟩:=Y4 st.out.spans.row
     have hm5:=st.out.muts.row
     rw [show (D.muts.take D.muts.length).length=D.muts.length by simp] at hm5
     obtain ⟨a5,c5,rfl⟩:=Y4 hm5
     clear hk hl hm5
     go_wp2_with (first
      | (at_builtin;refine P5 rfl (.tmp 69) (.tmp 72) 23 rfl wr.heap.size 3 (.int .i64 0) 1 8 Tryz.underlying23 E9 rfl (by decide) _ 0 [] rfl F1.out ag D.grey.length cg (D.grey.map (Value.int .i64)) rfl r1.out (by unfold maxLen;omega) (by omega) hy0.out.size ?_;intro u1 x1 p1 h1;simp only [Nat.zero_add,List.nil_append] at p1;obtain ⟨a3,c3,rfl⟩:=Y4 p1;have d1:Below wr.heap.size wr x1:=hy0.out.grown h1 hy0.out.size (fun q hq=>(by cases hq;exact Nat.le_refl _));have C1:=Z6 d1 boxC.out;have R1:=Z6 d1 boxR.out;have H1:=zaa (And.intro h1 p1);have f8:=Z3 C1 8;have m0:=Z0 C1 0 _ rfl;have m1:=Z0 C1 1 _ rfl;have m2:=Z0 C1 2 _ rfl;have m3:=Z0 C1 3 _ rfl;have m4:=Z0 C1 4 _ rfl;have m5:=Z0 C1 5 _ rfl;have m6:=Z0 C1 6 _ rfl;have m7:=Z0 C1 7 _ rfl;have m8:=Z0 C1 8 _ rfl;have n0:=Z0 R1 0 _ rfl;have n1:=Z0 R1 1 _ rfl;have n2:=Z0 R1 2 _ rfl;have n3:=Z0 R1 3 _ rfl;have n4:=Z0 R1 4 _ rfl;have n5:=Z0 R1 5 _ rfl;have n6:=Z0 R1 6 _ rfl;have n7:=Z0 R1 7 _ rfl;have n8:=Z0 R1 8 _ rfl;have z0:=Z3 R1 0;have z1:=Z3 R1 1;have z2:=Z3 R1 2;have z3:=Z3 R1 3;have z4:=Z3 R1 4;have z5:=Z3 R1 5;have z6:=Z3 R1 6;have z7:=Z3 R1 7;have z8:=Z3 R1 8;clear p1 h1 d1 C1 R1))
     refine bodyPost_ret (v:=.agg #[.int .i64 D.base,.int .i64 D.pages,.slice a1 D.words.length c1,.slice a2 D.dirty.length c2,.slice a4 D.spans.length c4,.slice a5 D.muts.length c5,.int .i64 D.phase,.int .i64 D.next,.slice a3 D.grey.length c3]) (by simp [results,Tryz.results133,go_sem,n0,n1,n2,n3,n4,n5,n6,n7,n8]) rfl ?_
     exact ⟨⟨.slice a1 D.words.length c1,.slice a2 D.dirty.length c2,.slice a4 D.spans.length c4,.slice a5 D.muts.length c5,.slice a3 D.grey.length c3,sv,mv⟩,rfl,St2.own (bs:=[w.heap.size+1,w.heap.size+1+1]) st.out hy0.out H1.out.1 H1.out.2 (((((((((((Chg.of_grown (World.grownBy.refl x1 none) (by simp)).set1 (b:=w.heap.size+1+1) (by simp) 8 _).set1 (b:=w.heap.size+1) (by simp) 0 _).set1 (b:=w.heap.size+1) (by simp) 1 _).set1 (b:=w.heap.size+1) (by simp) 2 _).set1 (b:=w.heap.size+1) (by simp) 3 _).set1 (b:=w.heap.size+1) (by simp) 4 _).set1 (b:=w.heap.size+1) (by simp) 5 _).set1 (b:=w.heap.size+1) (by simp) 6 _).set1 (b:=w.heap.size+1) (by simp) 7 _).set1 (b:=w.heap.size+1) (by simp) 8 _) (fun q hq=>by simp only [List.mem_cons,List.not_mem_nil,or_false] at hq;omega)⟩
end Go.Proofs.YtilkidaihbhfpaaGreat

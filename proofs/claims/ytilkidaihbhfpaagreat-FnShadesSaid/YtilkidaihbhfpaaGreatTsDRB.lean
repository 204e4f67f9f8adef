import Derived.Test.YtilkidaihbhfpaaGreatTsBent

set_option maxRecDepth 100000
set_option maxHeartbeats 16000000
namespace Go.Proofs.YtilkidaihbhfpaaGreat
open Go.RowKit
set_option linter.unusedVariables false
set_option linter.unusedSimpArgs false
def zzu (w':World) (v:Value) (D:WD):Prop:=zgo D∧CapW v∧CapG v∧RdW w' v D
theorem zzc (a:Option Addr) (len cap:Nat) (w:World) (hb:zlj w a len) (ha:0<len→∀ x,a=some x→x.block<w.heap.size) :
  Calls Tryz.prog 23 #[.slice a len cap] w fun e w'=>∃ v D,zzu w' v D∧e=.returned v∧Below w.heap.size w w':=by
 have hs:=zaa (show w.heap.size<(w.alloc (.cells #[.int .i64 0,.int .i64 0,.slice none 0 0,.slice none 0 0,.slice none 0 0,.slice none 0 0,.int .i64 0,.int .i64 0,.slice none 0 0] 30)).heap.size by simp)
 have bW:=zaa (Z5 w (.cells #[.int .i64 0,.int .i64 0,.slice none 0 0,.slice none 0 0,.slice none 0 0,.slice none 0 0,.int .i64 0,.int .i64 0,.slice none 0 0] 30))
 have hnew:=zaa (zso a len cap (w.alloc (.cells #[.int .i64 0,.int .i64 0,.slice none 0 0,.slice none 0 0,.slice none 0 0,.slice none 0 0,.int .i64 0,.int .i64 0,.slice none 0 0] 30)) (hb.below ha (Z5 w (.cells #[.int .i64 0,.int .i64 0,.slice none 0 0,.slice none 0 0,.slice none 0 0,.slice none 0 0,.int .i64 0,.int .i64 0,.slice none 0 0] 30))) (fun h x e=>Nat.lt_of_lt_of_le (ha h x e) (Z5 w (.cells #[.int .i64 0,.int .i64 0,.slice none 0 0,.slice none 0 0,.slice none 0 0,.slice none 0 0,.int .i64 0,.int .i64 0,.slice none 0 0] 30)).size))
 have r0:=zaa (Y6 w (.cells #[.int .i64 0,.int .i64 0,.slice none 0 0,.slice none 0 0,.slice none 0 0,.slice none 0 0,.int .i64 0,.int .i64 0,.slice none 0 0] 30))
 have hlow:=zaa ha
 clear hb ha
 go_enter Tryz.func23,Tryz.ntmps23
 go_upto_region 1 with fail
 generalize w.alloc (.cells #[.int .i64 0,.int .i64 0,.slice none 0 0,.slice none 0 0,.slice none 0 0,.slice none 0 0,.int .i64 0,.int .i64 0,.slice none 0 0] 30)=W at *
 go_wp2_with fail
 refine hnew.out.mono ?_
 rintro e w1 ⟨B,rfl,b1,h0⟩
 have h1:At w1 w.heap.size B a len:=⟨h0.bytes,h0.cur,Nat.le_trans (Nat.le_of_lt hs.out) h0.le,hlow.out⟩
 have hB:=zaa (show W.heap.size≤B from h0.le)
 have p1:=zaa (ztc h1)
 have r1:=zaa (Z6 b1 r0.out)
 have bb1:=zaa (bW.out.trans (b1.mono (Nat.le_of_lt hs.out)))
 have hBl:=zaa h1.lt
 clear b1 h1 h0 hnew r0
 go_wp2_with fail
 refine p1.out.mono ?_
 rintro e w2 ⟨v,D,hbD,hcw,hcg,rfl,hrd,gg,a2⟩
 have h2:=zaa a2
 have r2:=zaa (R9 gg r1.out (by have:=hB.out;have:=hs.out;omega))
 have bb2:=zaa (show Below w.heap.size w w2 from bb1.out.trans ((Below.refl _ _).grown gg (by have:=bb1.out.size;omega) (fun k e=>by cases e;have:=hB.out;have:=hs.out;omega)))
 have hR:=zaa (show w.heap.size<w1.heap.size from (Array.getElem?_eq_some_iff.1 r1.out).1)
 obtain ⟨aw,ad,aS,am,ag,cw,cd,cS,cm,cg,rfl⟩:=(hrd [] w2 (fun _ h=>absurd h (by simp)) (Chg.refl _ _)).written
 unfold zlw at *
 have hrd':=zaa hrd
 have hD:=zaa (show zgo D∧CapW (.agg #[.int .i64 D.base,.int .i64 D.pages,.slice aw D.words.length cw,.slice ad D.dirty.length cd,.slice aS D.spans.length cS,.slice am D.muts.length cm,.int .i64 D.phase,.int .i64 D.next,.slice ag D.grey.length cg])∧CapG (.agg #[.int .i64 D.base,.int .i64 D.pages,.slice aw D.words.length cw,.slice ad D.dirty.length cd,.slice aS D.spans.length cS,.slice am D.muts.length cm,.int .i64 D.phase,.int .i64 D.next,.slice ag D.grey.length cg]) from ⟨hbD,hcw,hcg⟩)
 have gz:=zaa gg.size
 clear hbD hcw hcg hrd gg a2 p1 r1
 obtain ⟨n0,z0,n1,z1,n2,z2,n3,z3,n4,z4,n5,z5,n6,z6,n7,z7,n8,z8⟩:=zfv r2.out
 go_wp2_with fail
 refine bodyPost_ret (v:=.agg #[.int .i64 D.base,.int .i64 D.pages,.slice aw D.words.length cw,.slice ad D.dirty.length cd,.slice aS D.spans.length cS,.slice am D.muts.length cm,.int .i64 D.phase,.int .i64 D.next,.slice ag D.grey.length cg]) (by simp [results,Tryz.results23,go_sem,n0,n1,n2,n3,n4,n5,n6,n7,n8,z0,z1,z2,z3,z4,z5,z6,z7,z8]) rfl ?_
 exact ⟨_,D,⟨hD.out.1,hD.out.2.1,hD.out.2.2,hrd'.out [w.heap.size] _ (fun q hq=>by rw [List.mem_singleton.1 hq];exact hR.out) ((Chg.refl [w.heap.size] _).put9 (b:=w.heap.size) (by simp) _ _ _ _ _ _ _ _ _)⟩,rfl,Chg.below bb2.out ((Chg.refl [w.heap.size] _).put9 (b:=w.heap.size) (by simp) _ _ _ _ _ _ _ _ _) bb2.out.size (fun q hq=>by rw [List.mem_singleton.1 hq];exact Nat.le_refl _)⟩
theorem znu (a:Option Addr) (len cap:Nat) (w:World) (hb:zlj w a len) (ha:0<len→∀ x,a=some x→x.block<w.heap.size) :
  Calls Tryz.prog 16 #[.slice a len cap] w fun e w'=>∃ v D,zzu w' v D∧e=.returned v∧Below w.heap.size w w':=by
 have hs:=zaa (show w.heap.size<(w.alloc (.cells #[.int .i64 0,.int .i64 0,.slice none 0 0,.slice none 0 0,.slice none 0 0,.slice none 0 0,.int .i64 0,.int .i64 0,.slice none 0 0] 30)).heap.size by simp)
 have bW:=zaa (Z5 w (.cells #[.int .i64 0,.int .i64 0,.slice none 0 0,.slice none 0 0,.slice none 0 0,.slice none 0 0,.int .i64 0,.int .i64 0,.slice none 0 0] 30))
 have hnew:=zaa (zso a len cap (w.alloc (.cells #[.int .i64 0,.int .i64 0,.slice none 0 0,.slice none 0 0,.slice none 0 0,.slice none 0 0,.int .i64 0,.int .i64 0,.slice none 0 0] 30)) (hb.below ha (Z5 w (.cells #[.int .i64 0,.int .i64 0,.slice none 0 0,.slice none 0 0,.slice none 0 0,.slice none 0 0,.int .i64 0,.int .i64 0,.slice none 0 0] 30))) (fun h x e=>Nat.lt_of_lt_of_le (ha h x e) (Z5 w (.cells #[.int .i64 0,.int .i64 0,.slice none 0 0,.slice none 0 0,.slice none 0 0,.slice none 0 0,.int .i64 0,.int .i64 0,.slice none 0 0] 30)).size))
 have r0:=zaa (Y6 w (.cells #[.int .i64 0,.int .i64 0,.slice none 0 0,.slice none 0 0,.slice none 0 0,.slice none 0 0,.int .i64 0,.int .i64 0,.slice none 0 0] 30))
 have hlow:=zaa ha
 clear hb ha
 go_enter Tryz.func16,Tryz.ntmps16
 go_upto_region 1 with fail
 generalize w.alloc (.cells #[.int .i64 0,.int .i64 0,.slice none 0 0,.slice none 0 0,.slice none 0 0,.slice none 0 0,.int .i64 0,.int .i64 0,.slice none 0 0] 30)=W at *
 go_wp2_with fail
 refine hnew.out.mono ?_
 rintro e w1 ⟨B,rfl,b1,h0⟩
 have h1:At w1 w.heap.size B a len:=⟨h0.bytes,h0.cur,Nat.le_trans (Nat.le_of_lt hs.out) h0.le,hlow.out⟩
 have hB:=zaa (show W.heap.size≤B from h0.le)
 have p1:=zaa (ztc h1)
 have r1:=zaa (Z6 b1 r0.out)
 have bb1:=zaa (bW.out.trans (b1.mono (Nat.le_of_lt hs.out)))
 have hBl:=zaa h1.lt
 clear b1 h1 h0 hnew r0
 go_wp2_with fail
 refine p1.out.mono ?_
 rintro e w2 ⟨v,D,hbD,hcw,hcg,rfl,hrd,gg,a2⟩
 have h2:=zaa a2
 have r2:=zaa (R9 gg r1.out (by have:=hB.out;have:=hs.out;omega))
 have bb2:=zaa (show Below w.heap.size w w2 from bb1.out.trans ((Below.refl _ _).grown gg (by have:=bb1.out.size;omega) (fun k e=>by cases e;have:=hB.out;have:=hs.out;omega)))
 have hR:=zaa (show w.heap.size<w1.heap.size from (Array.getElem?_eq_some_iff.1 r1.out).1)
 obtain ⟨aw,ad,aS,am,ag,cw,cd,cS,cm,cg,rfl⟩:=(hrd [] w2 (fun _ h=>absurd h (by simp)) (Chg.refl _ _)).written
 unfold zlw at *
 have hrd':=zaa hrd
 have hD:=zaa (show zgo D∧CapW (.agg #[.int .i64 D.base,.int .i64 D.pages,.slice aw D.words.length cw,.slice ad D.dirty.length cd,.slice aS D.spans.length cS,.slice am D.muts.length cm,.int .i64 D.phase,.int .i64 D.next,.slice ag D.grey.length cg])∧CapG (.agg #[.int .i64 D.base,.int .i64 D.pages,.slice aw D.words.length cw,.slice ad D.dirty.length cd,.slice aS D.spans.length cS,.slice am D.muts.length cm,.int .i64 D.phase,.int .i64 D.next,.slice ag D.grey.length cg]) from ⟨hbD,hcw,hcg⟩)
 have gz:=zaa gg.size
 clear hbD hcw hcg hrd gg a2 p1 r1
 obtain ⟨n0,z0,n1,z1,n2,z2,n3,z3,n4,z4,n5,z5,n6,z6,n7,z7,n8,z8⟩:=zfv r2.out
 go_wp2_with fail
 refine bodyPost_ret (v:=.agg #[.int .i64 D.base,.int .i64 D.pages,.slice aw D.words.length cw,.slice ad D.dirty.length cd,.slice aS D.spans.length cS,.slice am D.muts.length cm,.int .i64 D.phase,.int .i64 D.next,.slice ag D.grey.length cg]) (by simp [results,Tryz.results16,go_sem,n0,n1,n2,n3,n4,n5,n6,n7,n8,z0,z1,z2,z3,z4,z5,z6,z7,z8]) rfl ?_
 exact ⟨_,D,⟨hD.out.1,hD.out.2.1,hD.out.2.2,hrd'.out [w.heap.size] _ (fun q hq=>by rw [List.mem_singleton.1 hq];exact hR.out) ((Chg.refl [w.heap.size] _).put9 (b:=w.heap.size) (by simp) _ _ _ _ _ _ _ _ _)⟩,rfl,Chg.below bb2.out ((Chg.refl [w.heap.size] _).put9 (b:=w.heap.size) (by simp) _ _ _ _ _ _ _ _ _) bb2.out.size (fun q hq=>by rw [List.mem_singleton.1 hq];exact Nat.le_refl _)⟩
def DrawnF (w0 w':World) (v:Value) (D:WD):Prop:=zgo D∧CapW v∧CapG v∧∀ (bs:List Nat) (w9:World),(∀ q,q ∈ bs→q<w0.heap.size)→Chg bs w' w9→RdW w9 v D
theorem zrg (a:Option Addr) (len cap:Nat) (w:World) (hb:zlj w a len) (ha:0<len→∀ x,a=some x→x.block<w.heap.size) :
  Calls Tryz.prog 68 #[.slice a len cap] w fun e w'=>∃ v D x,DrawnF w w' v D∧I64 x∧e=.returned (.tuple #[v,.int .i64 x])∧Below w.heap.size w w':=by
 have hs:=zaa (show w.heap.size<(w.alloc (.cells #[.int .i64 0,.int .i64 0,.slice none 0 0,.slice none 0 0,.slice none 0 0,.slice none 0 0,.int .i64 0,.int .i64 0,.slice none 0 0] 30)).heap.size by simp)
 have bW:=zaa (Z5 w (.cells #[.int .i64 0,.int .i64 0,.slice none 0 0,.slice none 0 0,.slice none 0 0,.slice none 0 0,.int .i64 0,.int .i64 0,.slice none 0 0] 30))
 have hnew:=zaa (zso a len cap (w.alloc (.cells #[.int .i64 0,.int .i64 0,.slice none 0 0,.slice none 0 0,.slice none 0 0,.slice none 0 0,.int .i64 0,.int .i64 0,.slice none 0 0] 30)) (hb.below ha (Z5 w (.cells #[.int .i64 0,.int .i64 0,.slice none 0 0,.slice none 0 0,.slice none 0 0,.slice none 0 0,.int .i64 0,.int .i64 0,.slice none 0 0] 30))) (fun h x e=>Nat.lt_of_lt_of_le (ha h x e) (Z5 w (.cells #[.int .i64 0,.int .i64 0,.slice none 0 0,.slice none 0 0,.slice none 0 0,.slice none 0 0,.int .i64 0,.int .i64 0,.slice none 0 0] 30)).size))
 have r0:=zaa (Y6 w (.cells #[.int .i64 0,.int .i64 0,.slice none 0 0,.slice none 0 0,.slice none 0 0,.slice none 0 0,.int .i64 0,.int .i64 0,.slice none 0 0] 30))
 have hlow:=zaa ha
 clear hb ha
 go_enter Tryz.func68,Tryz.ntmps68
 go_upto_region 1 with fail
 generalize w.alloc (.cells #[.int .i64 0,.int .i64 0,.slice none 0 0,.slice none 0 0,.slice none 0 0,.slice none 0 0,.int .i64 0,.int .i64 0,.slice none 0 0] 30)=W at *
 go_wp2_with fail
 refine hnew.out.mono ?_
 rintro e w1 ⟨B,rfl,b1,h0⟩
 have h1:At w1 w.heap.size B a len:=⟨h0.bytes,h0.cur,Nat.le_trans (Nat.le_of_lt hs.out) h0.le,hlow.out⟩
 have hB:=zaa (show W.heap.size≤B from h0.le)
 have p1:=zaa (ztc h1)
 have r1:=zaa (Z6 b1 r0.out)
 have bb1:=zaa (bW.out.trans (b1.mono (Nat.le_of_lt hs.out)))
 have hBl:=zaa h1.lt
 clear b1 h1 h0 hnew r0
 go_wp2_with fail
 refine p1.out.mono ?_
 rintro e w2 ⟨v,D,hbD,hcw,hcg,rfl,hrd,gg,a2⟩
 have h2:=zaa a2
 have r2:=zaa (R9 gg r1.out (by have:=hB.out;have:=hs.out;omega))
 have bb2:=zaa (show Below w.heap.size w w2 from bb1.out.trans ((Below.refl _ _).grown gg (by have:=bb1.out.size;omega) (fun k e=>by cases e;have:=hB.out;have:=hs.out;omega)))
 have hR:=zaa (show w.heap.size<w1.heap.size from (Array.getElem?_eq_some_iff.1 r1.out).1)
 obtain ⟨aw,ad,aS,am,ag,cw,cd,cS,cm,cg,rfl⟩:=(hrd [] w2 (fun _ h=>absurd h (by simp)) (Chg.refl _ _)).written
 unfold zlw at *
 have hrd':=zaa hrd
 have hD:=zaa (show zgo D∧CapW (.agg #[.int .i64 D.base,.int .i64 D.pages,.slice aw D.words.length cw,.slice ad D.dirty.length cd,.slice aS D.spans.length cS,.slice am D.muts.length cm,.int .i64 D.phase,.int .i64 D.next,.slice ag D.grey.length cg])∧CapG (.agg #[.int .i64 D.base,.int .i64 D.pages,.slice aw D.words.length cw,.slice ad D.dirty.length cd,.slice aS D.spans.length cS,.slice am D.muts.length cm,.int .i64 D.phase,.int .i64 D.next,.slice ag D.grey.length cg]) from ⟨hbD,hcw,hcg⟩)
 have gz:=zaa gg.size
 clear hbD hcw hcg hrd gg a2 p1 r1
 have bx:=zaa (Z5 w2 (.cells #[.int .i64 D.base,.int .i64 D.pages,.slice aw D.words.length cw,.slice ad D.dirty.length cd,.slice aS D.spans.length cS,.slice am D.muts.length cm,.int .i64 D.phase,.int .i64 D.next,.slice ag D.grey.length cg] 30))
 have h3:=zaa (h2.out.kept bx.out)
 have r3:=zaa (Z6 bx.out r2.out)
 have v3:=zaa (Y6 w2 (.cells #[.int .i64 D.base,.int .i64 D.pages,.slice aw D.words.length cw,.slice ad D.dirty.length cd,.slice aS D.spans.length cS,.slice am D.muts.length cm,.int .i64 D.phase,.int .i64 D.next,.slice ag D.grey.length cg] 30))
 have c23:=zaa (Chg.of_below bx.out [w.heap.size,B])
 have bb3:=zaa (Z4 bb2.out bx.out)
 have hV:=zaa (show w1.heap.size≤w2.heap.size from gz.out)
 go_upto_region 3 with fail
 generalize w2.alloc (.cells #[.int .i64 D.base,.int .i64 D.pages,.slice aw D.words.length cw,.slice ad D.dirty.length cd,.slice aS D.spans.length cS,.slice am D.muts.length cm,.int .i64 D.phase,.int .i64 D.next,.slice ag D.grey.length cg] 30)=W3 at *
 have hRV:¬ (w.heap.size=w2.heap.size):=by have:=hR.out;have:=hV.out;omega
 have hVR:¬ (w2.heap.size=w.heap.size):=fun e=>hRV e.symm
 have hAt:=zaa (fun (W':World) (c:Chg [w.heap.size] W3 W')=>h3.out.chg c (by have:=hs.out;have:=hB.out;omega) (by have:=hs.out;have:=hB.out;omega))
 obtain ⟨n0,z0,n1,z1,n2,z2,n3,z3,n4,z4,n5,z5,n6,z6,n7,z7,n8,z8⟩:=zfv r3.out
 obtain ⟨m0,m1,m2,m3,m4,m5,m6,m7,m8⟩:=U5 v3.out
 have hcall:=zaa (fun (W':World) (c:Chg [w.heap.size] W3 W')=>zxk (hAt.out W' c) (.agg #[.int .i64 D.base,.int .i64 D.pages,.slice aw D.words.length cw,.slice ad D.dirty.length cd,.slice aS D.spans.length cS,.slice am D.muts.length cm,.int .i64 D.phase,.int .i64 D.next,.slice ag D.grey.length cg]) D hD.out.1.fit.base (fun w' hg=>hrd'.out [w.heap.size,B] w' (fun q hq=>by simp only [List.mem_cons,List.not_mem_nil,or_false] at hq;rcases hq with rfl | rfl;exact hR.out;exact hBl.out) (c23.out.trans ((c.mono (by simp)).trans (Chg.of_grown hg (bs:=[w.heap.size,B]) (by simp))))))
 refine T6 (fun w'=>w'.cell? ⟨w2.heap.size,0,none⟩=some (.int .i64 D.base)∧w'.cell? ⟨w2.heap.size,1,none⟩=some (.int .i64 D.pages)∧w'.cell? ⟨w2.heap.size,2,none⟩=some (.slice aw D.words.length cw)∧w'.cell? ⟨w2.heap.size,3,none⟩=some (.slice ad D.dirty.length cd)∧w'.cell? ⟨w2.heap.size,4,none⟩=some (.slice aS D.spans.length cS)∧w'.cell? ⟨w2.heap.size,5,none⟩=some (.slice am D.muts.length cm)∧w'.cell? ⟨w2.heap.size,6,none⟩=some (.int .i64 D.phase)∧w'.cell? ⟨w2.heap.size,7,none⟩=some (.int .i64 D.next)∧w'.cell? ⟨w2.heap.size,8,none⟩=some (.slice ag D.grey.length cg)) (fun j=>j == 4) (by kernel_rfl) ?_
 intro wd hwd
 have cRd:=zaa (show Chg [w.heap.size] W3 wd from by rw [hwd];exact (Chg.of_below (below_drewN (Below.refl W3.heap.size W3) 1) [w.heap.size]))
 have cRB:=zaa (show Chg [w.heap.size,B] W3 wd from by rw [hwd];exact (Chg.of_below (below_drewN (Below.refl W3.heap.size W3) 1) [w.heap.size,B]))
 have vRd:=zaa (show wd.heap[w2.heap.size]?=some _ from by rw [hwd];exact v3.out)
 have rRd:=zaa (show wd.heap[w.heap.size]?=some _ from by rw [hwd];exact r3.out)
 clear hwd
 have h0:(fun w'=>w'.cell? ⟨w2.heap.size,0,none⟩=some (.int .i64 D.base)∧w'.cell? ⟨w2.heap.size,1,none⟩=some (.int .i64 D.pages)∧w'.cell? ⟨w2.heap.size,2,none⟩=some (.slice aw D.words.length cw)∧w'.cell? ⟨w2.heap.size,3,none⟩=some (.slice ad D.dirty.length cd)∧w'.cell? ⟨w2.heap.size,4,none⟩=some (.slice aS D.spans.length cS)∧w'.cell? ⟨w2.heap.size,5,none⟩=some (.slice am D.muts.length cm)∧w'.cell? ⟨w2.heap.size,6,none⟩=some (.int .i64 D.phase)∧w'.cell? ⟨w2.heap.size,7,none⟩=some (.int .i64 D.next)∧w'.cell? ⟨w2.heap.size,8,none⟩=some (.slice ag D.grey.length cg)) wd:=⟨Z0 vRd.out 0 _ rfl,Z0 vRd.out 1 _ rfl,Z0 vRd.out 2 _ rfl,Z0 vRd.out 3 _ rfl,Z0 vRd.out 4 _ rfl,Z0 vRd.out 5 _ rfl,Z0 vRd.out 6 _ rfl,Z0 vRd.out 7 _ rfl,Z0 vRd.out 8 _ rfl⟩
 obtain ⟨n0,z0,n1,z1,n2,z2,n3,z3,n4,z4,n5,z5,n6,z6,n7,z7,n8,z8⟩:=zfv rRd.out
 refine X2 (i:=0) (v:=?vq11) rfl (by kernel_rfl) (by kernel_rfl) (by kernel_rfl) (by kernel_rfl) (fun j hj=>by simp at hj;subst hj;kernel_rfl) (fun _ _ _ h=>h) (Or.inl ⟨by rfl,?hq11⟩) (by exact h0) ?rq11
 case hq11=>(intro w hSw;(try dsimp only at hSw);obtain ⟨t0,t1,t2,t3,t4,t5,t6,t7,t8⟩:=hSw;go_simp;try with_reducible rfl)
 try simp only [Act.put,zab,zac,zad]
 refine Z9 (i:=1) (v:=?vq12) rfl (by kernel_rfl) (by kernel_rfl) (by kernel_rfl) rfl (fun _ _ _ h=>h) (Or.inl ⟨by rfl,?hq12⟩) (fun _=>h0) ?rq12
 case hq12=>(intro w _;go_simp;try with_reducible rfl)
 try simp only [Act.put,zab,zac,zad]
 refine X2 (i:=2) (v:=?vq13) rfl (by kernel_rfl) (by kernel_rfl) (by kernel_rfl) (by kernel_rfl) (fun j hj=>by simp at hj;subst hj;kernel_rfl) (fun _ _ _ h=>h) (Or.inl ⟨by rfl,?hq13⟩) (by exact h0) ?rq13
 case hq13=>(intro w hSw;(try dsimp only at hSw);obtain ⟨t0,t1,t2,t3,t4,t5,t6,t7,t8⟩:=hSw;go_simp;try with_reducible rfl)
 try simp only [Act.put,zab,zac,zad]
 refine V6 (rs:=[3]) (by kernel_rfl) (by simp) ?_
 intro i hi
 simp only [List.mem_cons,List.not_mem_nil,or_false] at hi
 subst hi
 refine X8 (i:=3) rfl (fun K hK=>?_)
 go_simp
 go_wp2_with (go_at_call 32;refine (hcall.out _ cRd.out).mono ?_;rintro e w4 ⟨y,rfl,yI,gg4,a4⟩;have yb:=zaa (show I64 y from yI);have g4:=zaa gg4;have r4:=R9 gg4 rRd.out (by have:=hs.out;have:=hB.out;omega);have v4:=R9 gg4 vRd.out (by have:=hBl.out;have:=hV.out;omega);have n0:=Z0 r4 0 (.int .i64 0) rfl;have z0:=Z3 r4 0;have n1:=Z0 r4 1 (.int .i64 0) rfl;have z1:=Z3 r4 1;have n2:=Z0 r4 2 (.slice none 0 0) rfl;have z2:=Z3 r4 2;have n3:=Z0 r4 3 (.slice none 0 0) rfl;have z3:=Z3 r4 3;have n4:=Z0 r4 4 (.slice none 0 0) rfl;have z4:=Z3 r4 4;have n5:=Z0 r4 5 (.slice none 0 0) rfl;have z5:=Z3 r4 5;have n6:=Z0 r4 6 (.int .i64 0) rfl;have z6:=Z3 r4 6;have n7:=Z0 r4 7 (.int .i64 0) rfl;have z7:=Z3 r4 7;have n8:=Z0 r4 8 (.slice none 0 0) rfl;have z8:=Z3 r4 8;have hS4:(fun w'=>w'.cell? ⟨w2.heap.size,0,none⟩=some (.int .i64 D.base)∧w'.cell? ⟨w2.heap.size,1,none⟩=some (.int .i64 D.pages)∧w'.cell? ⟨w2.heap.size,2,none⟩=some (.slice aw D.words.length cw)∧w'.cell? ⟨w2.heap.size,3,none⟩=some (.slice ad D.dirty.length cd)∧w'.cell? ⟨w2.heap.size,4,none⟩=some (.slice aS D.spans.length cS)∧w'.cell? ⟨w2.heap.size,5,none⟩=some (.slice am D.muts.length cm)∧w'.cell? ⟨w2.heap.size,6,none⟩=some (.int .i64 D.phase)∧w'.cell? ⟨w2.heap.size,7,none⟩=some (.int .i64 D.next)∧w'.cell? ⟨w2.heap.size,8,none⟩=some (.slice ag D.grey.length cg)) w4:=⟨Z0 v4 0 _ rfl,Z0 v4 1 _ rfl,Z0 v4 2 _ rfl,Z0 v4 3 _ rfl,Z0 v4 4 _ rfl,Z0 v4 5 _ rfl,Z0 v4 6 _ rfl,Z0 v4 7 _ rfl,Z0 v4 8 _ rfl⟩;clear r4 v4;clear gg4 a4 yI)
 refine hK.out _ _ (fun _=>hS4) ?_
 clear hK K
 try simp only [Act.put,zab,zac,zad]
 refine V6 (rs:=[4]) (by kernel_rfl) (by simp) ?_
 intro i hi
 simp only [List.mem_cons,List.not_mem_nil,or_false] at hi
 subst hi
 refine X8 (i:=4) rfl (fun K hK=>?_)
 go_simp
 refine hK.out _ _ (fun h=>Bool.noConfusion ((h 4 (by kernel_rfl)).symm.trans (show _=true by kernel_rfl))) ?_
 clear hK K
 try simp only [Act.put,zab,zac,zad]
 refine V6 (rs:=[5]) (by kernel_rfl) (by simp) ?_
 intro i hi
 simp only [List.mem_cons,List.not_mem_nil,or_false] at hi
 subst hi
 refine X8 (i:=5) rfl (fun K hK=>?_)
 go_simp
 refine hK.out _ _ (fun h=>Bool.noConfusion ((h 4 (by kernel_rfl)).symm.trans (show _=true by kernel_rfl))) ?_
 clear hK K
 try simp only [Act.put,zab,zac,zad]
 refine P3 (by kernel_rfl) ?_ _
 go_wp2_with fail
 refine bodyPost_ret (v:=.tuple #[.agg #[.int .i64 D.base,.int .i64 D.pages,.slice aw D.words.length cw,.slice ad D.dirty.length cd,.slice aS D.spans.length cS,.slice am D.muts.length cm,.int .i64 D.phase,.int .i64 D.next,.slice ag D.grey.length cg],.int .i64 y]) (by simp [results,Tryz.results68,go_sem,n0,n1,n2,n3,n4,n5,n6,n7,n8,z0,z1,z2,z3,z4,z5,z6,z7,z8]) rfl ?_
 exact ⟨_,D,_,⟨hD.out.1,hD.out.2.1,hD.out.2.2,fun bs w9 hbs hc=>hrd'.out (w.heap.size :: B :: bs) w9 (fun q hq=>by rcases List.mem_cons.1 hq with rfl | hq;exact hR.out;rcases List.mem_cons.1 hq with rfl | hq;exact hBl.out;exact Nat.lt_trans (hbs q hq) hR.out) (((c23.out.trans ((cRB.out.trans (Chg.of_grown g4.out (bs:=[w.heap.size,B]) (by simp))).put9 (b:=w.heap.size) (by simp) _ _ _ _ _ _ _ _ _)).mono (fun x hx=>by simp only [List.mem_cons,List.not_mem_nil,or_false] at hx ⊢;rcases hx with h | h <;> simp [h])).trans (hc.mono (fun x hx=>List.mem_cons_of_mem _ (List.mem_cons_of_mem _ hx))))⟩,yb.out,rfl,Chg.below bb3.out ((cRB.out.trans (Chg.of_grown g4.out (bs:=[w.heap.size,B]) (by simp))).put9 (b:=w.heap.size) (by simp) _ _ _ _ _ _ _ _ _) bb3.out.size (fun q hq=>by simp only [List.mem_cons,List.not_mem_nil,or_false] at hq;have:=hs.out;have:=hB.out;omega)⟩
theorem zpv (a:Option Addr) (len cap:Nat) (w:World) (hb:zlj w a len) (ha:0<len→∀ x,a=some x→x.block<w.heap.size) :
  Calls Tryz.prog 27 #[.slice a len cap] w fun e w'=>∃ v D x,zzu w' v D∧I64 x∧e=.returned (.tuple #[v,.int .i64 x])∧Below w.heap.size w w':=by
 have hs:=zaa (show w.heap.size<(w.alloc (.cells #[.int .i64 0,.int .i64 0,.slice none 0 0,.slice none 0 0,.slice none 0 0,.slice none 0 0,.int .i64 0,.int .i64 0,.slice none 0 0] 30)).heap.size by simp)
 have bW:=zaa (Z5 w (.cells #[.int .i64 0,.int .i64 0,.slice none 0 0,.slice none 0 0,.slice none 0 0,.slice none 0 0,.int .i64 0,.int .i64 0,.slice none 0 0] 30))
 have r0:=zaa (Y6 w (.cells #[.int .i64 0,.int .i64 0,.slice none 0 0,.slice none 0 0,.slice none 0 0,.slice none 0 0,.int .i64 0,.int .i64 0,.slice none 0 0] 30))
 have hd:=zaa (zrg a len cap (w.alloc (.cells #[.int .i64 0,.int .i64 0,.slice none 0 0,.slice none 0 0,.slice none 0 0,.slice none 0 0,.int .i64 0,.int .i64 0,.slice none 0 0] 30)) (hb.below ha (Z5 w (.cells #[.int .i64 0,.int .i64 0,.slice none 0 0,.slice none 0 0,.slice none 0 0,.slice none 0 0,.int .i64 0,.int .i64 0,.slice none 0 0] 30))) (fun h x e=>Nat.lt_of_lt_of_le (ha h x e) (Z5 w (.cells #[.int .i64 0,.int .i64 0,.slice none 0 0,.slice none 0 0,.slice none 0 0,.slice none 0 0,.int .i64 0,.int .i64 0,.slice none 0 0] 30)).size))
 clear hb ha
 go_enter Tryz.func27,Tryz.ntmps27
 go_upto_region 1 with fail
 generalize w.alloc (.cells #[.int .i64 0,.int .i64 0,.slice none 0 0,.slice none 0 0,.slice none 0 0,.slice none 0 0,.int .i64 0,.int .i64 0,.slice none 0 0] 30)=W at *
 go_wp2_with fail
 refine hd.out.mono ?_
 rintro e w1 ⟨v,D,x,⟨hbD,hcw,hcg,hrd⟩,hx,rfl,b1⟩
 have r2:=zaa (Z6 b1 r0.out)
 have bb:=zaa (Z4 bW.out b1)
 obtain ⟨aw,ad,aS,am,ag,cw,cd,cS,cm,cg,rfl⟩:=(hrd [] w1 (fun _ h=>absurd h (by simp)) (Chg.refl _ _)).written
 unfold zlw at *
 have hrd':=zaa hrd
 have hD:=zaa (show zgo D∧CapW (.agg #[.int .i64 D.base,.int .i64 D.pages,.slice aw D.words.length cw,.slice ad D.dirty.length cd,.slice aS D.spans.length cS,.slice am D.muts.length cm,.int .i64 D.phase,.int .i64 D.next,.slice ag D.grey.length cg])∧CapG (.agg #[.int .i64 D.base,.int .i64 D.pages,.slice aw D.words.length cw,.slice ad D.dirty.length cd,.slice aS D.spans.length cS,.slice am D.muts.length cm,.int .i64 D.phase,.int .i64 D.next,.slice ag D.grey.length cg])∧I64 x from ⟨hbD,hcw,hcg,hx⟩)
 clear hbD hcw hcg hrd b1 hx
 obtain ⟨n0,z0,n1,z1,n2,z2,n3,z3,n4,z4,n5,z5,n6,z6,n7,z7,n8,z8⟩:=zfv r2.out
 go_wp2_with fail
 refine bodyPost_ret (v:=.tuple #[.agg #[.int .i64 D.base,.int .i64 D.pages,.slice aw D.words.length cw,.slice ad D.dirty.length cd,.slice aS D.spans.length cS,.slice am D.muts.length cm,.int .i64 D.phase,.int .i64 D.next,.slice ag D.grey.length cg],.int .i64 x]) (by simp [results,Tryz.results27,go_sem,n0,n1,n2,n3,n4,n5,n6,n7,n8,z0,z1,z2,z3,z4,z5,z6,z7,z8]) rfl ?_
 exact ⟨_,D,x,⟨hD.out.1,hD.out.2.1,hD.out.2.2.1,hrd'.out [w.heap.size] _ (fun q hq=>by rw [List.mem_singleton.1 hq];exact hs.out) ((Chg.refl [w.heap.size] _).put9 (b:=w.heap.size) (by simp) _ _ _ _ _ _ _ _ _)⟩,hD.out.2.2.2,rfl,Chg.below bb.out ((Chg.refl [w.heap.size] _).put9 (b:=w.heap.size) (by simp) _ _ _ _ _ _ _ _ _) bb.out.size (fun q hq=>by rw [List.mem_singleton.1 hq];exact Nat.le_refl _)⟩
end Go.Proofs.YtilkidaihbhfpaaGreat

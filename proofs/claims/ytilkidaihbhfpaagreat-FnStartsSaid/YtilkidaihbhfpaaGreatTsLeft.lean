import Derived.Test.YtilkidaihbhfpaaGreatTsA
import Derived.Test.YtilkidaihbhfpaaGreatTsQ
import Derived.Test.YtilkidaihbhfpaaGreatTsOnes

set_option maxRecDepth 100000
set_option maxHeartbeats 16000000
namespace Go.Proofs.YtilkidaihbhfpaaGreat
open Go.RowKit
set_option linter.unusedVariables false
theorem zvs (m:Int) (j:Nat):E8 m j≤j:=by
 induction j with
 | zero=>exact Nat.le_refl _
 | succ j ih =>
  show E8 m j+(if m / 2 ^ j % 2=1 then 1 else 0)≤j+1
  split <;> omega
theorem zqx {m:Int} {n k:Nat} (h0:0≤m) (h:m<2 ^ n) (hk:n≤k):E8 m k=E8 m n:=by
 induction k with
 | zero=>rw [show n=0 by omega]
 | succ k ih =>
  by_cases e:n=k+1
  ·rw [e]
  ·have hnk:n≤k:=by omega
   have h2:m / 2 ^ k=0:=by
    refine Int.ediv_eq_zero_of_lt h0 (Int.lt_of_lt_of_le h ?_)
    have:=Nat.pow_le_pow_right (show 0<2 by omega) hnk
    have e1:((2:Int) ^ n)=((2 ^ n:Nat):Int):=by simp
    have e2:((2:Int) ^ k)=((2 ^ k:Nat):Int):=by simp
    rw [e1,e2]
    omega
   show E8 m k+(if m / 2 ^ k % 2=1 then 1 else 0)=_
   rw [h2,if_neg (by decide),ih hnk]
   rfl
def zij (s:Y3):Nat→Nat
 | 0=>0
 | j+1=>zij s j+if 0<s.lens[j]?.getD 0∧¬ s.mark / 2 ^ j % 2=1 then 1 else 0
theorem zww (s:Y3) (j:Nat):zij s j≤j:=by
 induction j with
 | zero=>exact Nat.le_refl _
 | succ j ih =>
  show zij s j+(if 0<s.lens[j]?.getD 0∧¬ s.mark / 2 ^ j % 2=1 then 1 else 0)≤j+1
  split <;> omega
theorem zul {s:Y3} (hb:∀ i,i<s.lens.length→bitI s.mark i→0<s.lens[i]?.getD 0):∀ j,j≤s.lens.length→zij s j+E8 s.mark j=J2 s j:=by
 intro j
 induction j with
 | zero=>intro _;rw [zlx];rfl
 | succ j ih =>
  intro hj
  have h1:=ih (by omega)
  rw [zly s j (by omega)]
  have h2:=hb j (by omega)
  show zij s j+(if 0<s.lens[j]?.getD 0∧¬ s.mark / 2 ^ j % 2=1 then 1 else 0)+(E8 s.mark j+if s.mark / 2 ^ j % 2=1 then 1 else 0)=_
  by_cases hm:s.mark / 2 ^ j % 2=1
  ·have hl:=h2 hm
   rw [if_neg (fun hh=>hh.2 hm),if_pos hm,if_pos hl]
   omega
  ·by_cases hl:0<s.lens[j]?.getD 0
   ·rw [if_pos ⟨hl,hm⟩,if_neg hm,if_pos hl]
    omega
   ·rw [if_neg (fun hh=>hl hh.1),if_neg hm,if_neg hl]
    omega
def zfu (D:WD):Nat→Nat
 | 0=>0
 | k+1=>zfu D k+(match D.spans[k]? with | some s=>zij s s.lens.length | none=>0)
def unsK (D:WD):Nat→Nat
 | 0=>0
 | k+1=>unsK D k+(match D.spans[k]? with | some s=>if s.swept=true then 0 else 1 | none=>0)
theorem znc {D:WD} {k:Nat} {s:Y3} (hs:D.spans[k]?=some s):zfu D (k+1)=zfu D k+zij s s.lens.length:=by
 show zfu D k+(match D.spans[k]? with | some s=>zij s s.lens.length | none=>0)=_
 rw [hs]
theorem znf {D:WD} {k:Nat} {s:Y3} (hs:D.spans[k]?=some s):unsK D (k+1)=unsK D k+if s.swept=true then 0 else 1:=by
 show unsK D k+(match D.spans[k]? with | some s=>if s.swept=true then 0 else 1 | none=>0)=_
 rw [hs]
theorem zwz (D:WD) (k:Nat) (hk:k≤D.spans.length):unsK D k≤k:=by
 induction k with
 | zero=>exact Nat.le_refl _
 | succ k ih =>
  obtain ⟨s,hs⟩:∃ s,D.spans[k]?=some s:=⟨_,List.getElem?_eq_getElem (by omega)⟩
  rw [znf hs]
  have:=ih (by omega)
  split <;> omega
theorem zzy {D:WD} (h:∀ s,s ∈ D.spans→s.swept=false) (k:Nat) (hk:k≤D.spans.length):unsK D k=k:=by
 induction k with
 | zero=>rfl
 | succ k ih =>
  obtain ⟨s,hs⟩:∃ s,D.spans[k]?=some s:=⟨_,List.getElem?_eq_getElem (by omega)⟩
  rw [znf hs,ih (by omega),if_neg (by rw [h s (List.mem_of_getElem? hs)];decide)]
theorem zqg {D:WD} (hl:∀ s,s ∈ D.spans→s.lens.length≤16) (k:Nat) (hk:k≤D.spans.length):zfu D k≤16*k:=by
 induction k with
 | zero=>exact Nat.le_refl _
 | succ k ih =>
  obtain ⟨s,hs⟩:∃ s,D.spans[k]?=some s:=⟨_,List.getElem?_eq_getElem (by omega)⟩
  rw [znc hs]
  have:=ih (by omega)
  have:=zww s s.lens.length
  have:=hl s (List.mem_of_getElem? hs)
  omega
theorem Z8.lens16 {D:WD} (hF:Z8 D):∀ s,s ∈ D.spans→s.lens.length≤16:=fun s hs=>by
 obtain ⟨k,hk⟩:=List.mem_iff_getElem?.1 hs
 have:=(hF.span k s hk).lens
 have:=(E7 s.cls).2
 omega
theorem Z8.white {D:WD} (hF:Z8 D) {k:Nat} {s:Y3} (hs:D.spans[k]?=some s):0≤s.mark∧s.mark<65536∧zij s s.lens.length+E8 s.mark 16=J2 s s.lens.length:=by
 have A:=hF.span k s hs
 have h16:=hF.lens16 s (List.mem_of_getElem? hs)
 have h1:=A.mk1
 have h0:=A.mk0
 have e1:((2:Int) ^ s.lens.length)=((2 ^ s.lens.length:Nat):Int):=by simp
 have h2:=Nat.pow_le_pow_right (show 0<2 by omega) h16
 refine ⟨h0,by omega,?_⟩
 rw [zqx h0 h1 h16]
 refine zul (fun i hi hb=>?_) _ (Nat.le_refl _)
 rcases Int.lt_or_le 0 (s.lens[i]?.getD 0) with h | h
 ·exact h
 ·have:=(A.slot i hi).l0
  exact absurd hb ((A.slot i hi).bit (by omega))
def zjq (D:WD):Int :=
 if D.phase=0 then 0 else if D.phase=4 then 1+(unsK D D.spans.length:Int) else if D.phase=3 then 2+(D.spans.length:Int)
 else if D.phase=2 then 3+(D.spans.length:Int)+(zfu D D.spans.length:Int)+(D.grey.length:Int)
 else 4+(D.spans.length:Int)+(zfu D D.spans.length:Int)+(D.grey.length:Int)+(D.muts.length:Int)-D.next
def ziw (D:WD) (e:Ending):Prop:=∃ r:Int,e=.returned (.int .i64 r)∧((U0 D∧r=zjq D)∨(¬ U0 D∧r=0))
theorem ziw.unique {D:WD} {e e2:Ending} (h1:ziw D e) (h2:ziw D e2):e=e2:=by
 obtain ⟨a,rfl,h1⟩:=h1
 obtain ⟨b,rfl,h2⟩:=h2
 rcases h1 with ⟨h,rfl⟩ | ⟨h,rfl⟩ <;> rcases h2 with ⟨h',rfl⟩ | ⟨h',rfl⟩
 ·rfl
 ·exact absurd h h'
 ·exact absurd h' h
 ·rfl
theorem leftN_0 {D:WD} (h:D.phase=0):zjq D=0:=by unfold zjq;rw [if_pos h]
theorem leftN_4 {D:WD} (h:D.phase=4):zjq D=1+(unsK D D.spans.length:Int):=by unfold zjq;rw [if_neg (by omega),if_pos h]
theorem leftN_3 {D:WD} (h:D.phase=3):zjq D=2+(D.spans.length:Int):=by unfold zjq;rw [if_neg (by omega),if_neg (by omega),if_pos h]
theorem leftN_2 {D:WD} (h:D.phase=2):zjq D=3+(D.spans.length:Int)+(zfu D D.spans.length:Int)+(D.grey.length:Int):=by unfold zjq;rw [if_neg (by omega),if_neg (by omega),if_neg (by omega),if_pos h]
theorem leftN_1 {D:WD} (h:D.phase=1):zjq D=4+(D.spans.length:Int)+(zfu D D.spans.length:Int)+(D.grey.length:Int)+(D.muts.length:Int)-D.next:=by unfold zjq;rw [if_neg (by omega),if_neg (by omega),if_neg (by omega),if_neg (by omega)]
theorem U0.greyLen {D:WD} (h:U0 D):D.grey.length≤384 :=
 zge (n:=384) (lo:=D.base) h.2.1.1.2.1 fun a ha=>zgd h.1 ((h.2.1.1.2.2 a ha).elim fun k hk=>hk.elim fun j hj=>⟨k,j,hj.1⟩)
theorem U0.uns {D:WD} (h:U0 D) (hp:D.phase≠4):unsK D D.spans.length=D.spans.length :=
 zzy (fun s hs=>by
  cases e:s.swept
  ·rfl
  ·exact absurd ((h.2.1.2.2 s hs).1 e) hp) _ (Nat.le_refl _)
end Go.Proofs.YtilkidaihbhfpaaGreat

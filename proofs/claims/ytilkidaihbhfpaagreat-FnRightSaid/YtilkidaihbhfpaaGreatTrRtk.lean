import Derived.Test.YtilkidaihbhfpaaGreatTrRR

set_option maxRecDepth 100000
set_option maxHeartbeats 16000000
namespace Go.Proofs.YtilkidaihbhfpaaGreat
open Go.RowKit
set_option linter.unusedVariables false
theorem led_lv {D:WD} (hR:U8 D) {fr:List Int} (hf:∀ a,a ∈ fr→a=0∨Lv D a) {a:Int} (h:Led D (fun _ _=>True) fr a):Lv D a:=by
 have A:=V8.1 hR
 induction h with
 | start h1 h2=>exact (hf _ h1).resolve_left (zhz hR.1 h2)
 | step _ h2 h3 ih=>exact (A.ptrs _ _ ih (zwn.1 h2)).resolve_left (zhz hR.1 h3)
theorem led_mk {D:WD} (hR:U8 D) (hp:D.phase=3) {fr:List Int} (hf:∀ a,a ∈ fr→∃ r,r ∈ D.muts∧a ∈ r) {a:Int} (h:Led D (fun _ _=>True) fr a):Mk D a:=by
 have A:=V8.1 hR
 have h0:D.phase≠0:=by omega
 have h4:D.phase≠4:=by omega
 have hg:=A.noGrey (by omega) (by omega)
 have mk:∀ {b:Int},Kp D b→T7 D b→Mk D b:=fun hk ho=>by
  rcases hk with e | h | h
  ·exact absurd e (zhz hR.1 ho)
  ·exact absurd h (Com.none hg)
  ·exact h
 induction h with
 | start h1 h2 =>
  obtain ⟨r,hr,ha⟩:=hf _ h1
  obtain ⟨m,hm⟩:=List.mem_iff_getElem?.1 hr
  exact mk (A.seen h0 h4 m r hm (.inr (.inr hp)) _ ha) h2
 | step _ h2 h3 ih=>exact mk (A.kept h0 h4 _ _ ih (zwn.1 h2)) h3
end Go.Proofs.YtilkidaihbhfpaaGreat

/-
  No cell of these rows narrows 'for every input' (looked for: loops, veiled, ifaces, maps, wideKeys, modest, calm, conditions, laid).
  DERIVED. THE GIVEN ROWS OF THIS SEAT. 7 by the template 'for every input the law returns true; each argument reads behind the call as it read before'; 0 by the template 'total and deterministic' (their statements: YtdhiablpobnhcaaGreatTotals.lean).
  GIVEN WITH THE SEED: the statements are not yours to turn. If you find one false, say at which input.
  Laid BY PROGRAM, IN A SANDBOX (cutbox-rows.mjs): the forced cells as the released guide's own fill.sh prints them over the translation 1ceb4da2999ad2f8… (all of the seat's roots in one cut). By AI agents, Wed Nov 11 2026. No macro, syntax, notation, axiom, sorry.
-/
import Derived.Test.YtdhiablpobnhcaaGreatChecked
import GoSem.Claim
import GoSem.ClaimJoined
import GoSem.ClaimMapViews
import Derived.JoinedTies
import Derived.KernelRfl
namespace Go.Proofs.YtdhiablpobnhcaaGreat
/- THE CELL 'sum', in the pinned program and in every row, IS THE sha256 OF THE DUMP (.gsa) THAT YtdhiablpobnhcaaGreatProg.lean LOADS. Nothing in Lean hashes anything: it is a label: what it is worth is what the hold of that sum in a sandbox is worth. -/
noncomputable def Tryz.pinned : Pinned := { name := "ytdhiablpobnhcaagreat", sum := "1ceb4da2999ad2f8fd45e10f40268c4417396e6304008af0d5cb5055af8a80e4", checked := Tryz.checked }
namespace Rows
def none {H : Type} : Left H := { results := [], args := [] }

/-- 'laws.FnReaches': WHATEVER THE INPUT: true; the input reads as it did. -/
def fnReachesSpec : ChangeSpec := { name := "fnReaches", fn := fun _ => fun
  | [d] => { results := [.lit (.bool true)], args := [d] }
  | _ => none }
def fnReachesRow : OpenClaim := { program := "ytdhiablpobnhcaagreat", sum := "1ceb4da2999ad2f8fd45e10f40268c4417396e6304008af0d5cb5055af8a80e4", func := "loop.example/g00690/laws.FnReaches", spec := "fnReaches", unfollowed := true, recurses := true, apart := false }
def FnReachesSaid : Prop := fnReachesRow.holds Tryz.pinned (OpenSpec.ofChange fnReachesSpec)

/-- ITS FALSE NEIGHBOUR: 'it returns false'. Refute it at one input. -/
def fnReachesWrong : ChangeSpec := { name := "fnReaches", fn := fun _ => fun
  | [d] => { results := [.lit (.bool false)], args := [d] }
  | _ => none }
def FnReachesWrongFalsely : Prop := fnReachesRow.holds Tryz.pinned (OpenSpec.ofChange fnReachesWrong)

/-- 'laws.FnSeen': WHATEVER THE INPUT: true; the input reads as it did. -/
def fnSeenSpec : ChangeSpec := { name := "fnSeen", fn := fun _ => fun
  | [d] => { results := [.lit (.bool true)], args := [d] }
  | _ => none }
def fnSeenRow : OpenClaim := { program := "ytdhiablpobnhcaagreat", sum := "1ceb4da2999ad2f8fd45e10f40268c4417396e6304008af0d5cb5055af8a80e4", func := "loop.example/g00690/laws.FnSeen", spec := "fnSeen", unfollowed := true, recurses := true, apart := false }
def FnSeenSaid : Prop := fnSeenRow.holds Tryz.pinned (OpenSpec.ofChange fnSeenSpec)

/-- ITS FALSE NEIGHBOUR: 'it returns false'. Refute it at one input. -/
def fnSeenWrong : ChangeSpec := { name := "fnSeen", fn := fun _ => fun
  | [d] => { results := [.lit (.bool false)], args := [d] }
  | _ => none }
def FnSeenWrongFalsely : Prop := fnSeenRow.holds Tryz.pinned (OpenSpec.ofChange fnSeenWrong)

/-- 'laws.FnStarts': WHATEVER THE INPUT: true; the input reads as it did. -/
def fnStartsSpec : ChangeSpec := { name := "fnStarts", fn := fun _ => fun
  | [d] => { results := [.lit (.bool true)], args := [d] }
  | _ => none }
def fnStartsRow : OpenClaim := { program := "ytdhiablpobnhcaagreat", sum := "1ceb4da2999ad2f8fd45e10f40268c4417396e6304008af0d5cb5055af8a80e4", func := "loop.example/g00690/laws.FnStarts", spec := "fnStarts", unfollowed := true, recurses := true, apart := false }
def FnStartsSaid : Prop := fnStartsRow.holds Tryz.pinned (OpenSpec.ofChange fnStartsSpec)

/-- ITS FALSE NEIGHBOUR: 'it returns false'. Refute it at one input. -/
def fnStartsWrong : ChangeSpec := { name := "fnStarts", fn := fun _ => fun
  | [d] => { results := [.lit (.bool false)], args := [d] }
  | _ => none }
def FnStartsWrongFalsely : Prop := fnStartsRow.holds Tryz.pinned (OpenSpec.ofChange fnStartsWrong)

/-- 'laws.FnExactShade': WHATEVER THE INPUT: true; the input reads as it did. -/
def fnExactShadeSpec : ChangeSpec := { name := "fnExactShade", fn := fun _ => fun
  | [d1, d2] => { results := [.lit (.bool true)], args := [d1, d2] }
  | _ => none }
def fnExactShadeRow : OpenClaim := { program := "ytdhiablpobnhcaagreat", sum := "1ceb4da2999ad2f8fd45e10f40268c4417396e6304008af0d5cb5055af8a80e4", func := "loop.example/g00690/laws.FnExactShade", spec := "fnExactShade", unfollowed := true, recurses := true, apart := false }
def FnExactShadeSaid : Prop := fnExactShadeRow.holds Tryz.pinned (OpenSpec.ofChange fnExactShadeSpec)

/-- ITS FALSE NEIGHBOUR: 'it returns false'. Refute it at one input. -/
def fnExactShadeWrong : ChangeSpec := { name := "fnExactShade", fn := fun _ => fun
  | [d1, d2] => { results := [.lit (.bool false)], args := [d1, d2] }
  | _ => none }
def FnExactShadeWrongFalsely : Prop := fnExactShadeRow.holds Tryz.pinned (OpenSpec.ofChange fnExactShadeWrong)

/-- 'laws.FnExactGcStart': WHATEVER THE INPUT: true; the input reads as it did. -/
def fnExactGcStartSpec : ChangeSpec := { name := "fnExactGcStart", fn := fun _ => fun
  | [d] => { results := [.lit (.bool true)], args := [d] }
  | _ => none }
def fnExactGcStartRow : OpenClaim := { program := "ytdhiablpobnhcaagreat", sum := "1ceb4da2999ad2f8fd45e10f40268c4417396e6304008af0d5cb5055af8a80e4", func := "loop.example/g00690/laws.FnExactGcStart", spec := "fnExactGcStart", unfollowed := true, recurses := true, apart := false }
def FnExactGcStartSaid : Prop := fnExactGcStartRow.holds Tryz.pinned (OpenSpec.ofChange fnExactGcStartSpec)

/-- ITS FALSE NEIGHBOUR: 'it returns false'. Refute it at one input. -/
def fnExactGcStartWrong : ChangeSpec := { name := "fnExactGcStart", fn := fun _ => fun
  | [d] => { results := [.lit (.bool false)], args := [d] }
  | _ => none }
def FnExactGcStartWrongFalsely : Prop := fnExactGcStartRow.holds Tryz.pinned (OpenSpec.ofChange fnExactGcStartWrong)

/-- 'laws.FnExactGcStep': WHATEVER THE INPUT: true; the input reads as it did. -/
def fnExactGcStepSpec : ChangeSpec := { name := "fnExactGcStep", fn := fun _ => fun
  | [d] => { results := [.lit (.bool true)], args := [d] }
  | _ => none }
def fnExactGcStepRow : OpenClaim := { program := "ytdhiablpobnhcaagreat", sum := "1ceb4da2999ad2f8fd45e10f40268c4417396e6304008af0d5cb5055af8a80e4", func := "loop.example/g00690/laws.FnExactGcStep", spec := "fnExactGcStep", unfollowed := true, recurses := true, apart := false }
def FnExactGcStepSaid : Prop := fnExactGcStepRow.holds Tryz.pinned (OpenSpec.ofChange fnExactGcStepSpec)

/-- ITS FALSE NEIGHBOUR: 'it returns false'. Refute it at one input. -/
def fnExactGcStepWrong : ChangeSpec := { name := "fnExactGcStep", fn := fun _ => fun
  | [d] => { results := [.lit (.bool false)], args := [d] }
  | _ => none }
def FnExactGcStepWrongFalsely : Prop := fnExactGcStepRow.holds Tryz.pinned (OpenSpec.ofChange fnExactGcStepWrong)

/-- 'laws.FnExactGcRun': WHATEVER THE INPUT: true; the input reads as it did. -/
def fnExactGcRunSpec : ChangeSpec := { name := "fnExactGcRun", fn := fun _ => fun
  | [d1, d2] => { results := [.lit (.bool true)], args := [d1, d2] }
  | _ => none }
def fnExactGcRunRow : OpenClaim := { program := "ytdhiablpobnhcaagreat", sum := "1ceb4da2999ad2f8fd45e10f40268c4417396e6304008af0d5cb5055af8a80e4", func := "loop.example/g00690/laws.FnExactGcRun", spec := "fnExactGcRun", unfollowed := true, recurses := true, apart := false }
def FnExactGcRunSaid : Prop := fnExactGcRunRow.holds Tryz.pinned (OpenSpec.ofChange fnExactGcRunSpec)

/-- ITS FALSE NEIGHBOUR: 'it returns false'. Refute it at one input. -/
def fnExactGcRunWrong : ChangeSpec := { name := "fnExactGcRun", fn := fun _ => fun
  | [d1, d2] => { results := [.lit (.bool false)], args := [d1, d2] }
  | _ => none }
def FnExactGcRunWrongFalsely : Prop := fnExactGcRunRow.holds Tryz.pinned (OpenSpec.ofChange fnExactGcRunWrong)

/- THE SECOND FORM. 'bulk': how many values and letters a reading holds, each counted each time it is reached (what is shared counts as often as it is met; a slice's spare places count too). A statement '..UptoSaid' is the law's where the arguments, and the package variables that the reading takes, are together of bulk at most 1048576: NARROWER than '..Said'. Prove '..Said' where nothing that the law and all that it calls make is longer than what came in: it says more and counts as full. Else prove '..UptoSaid'. A law counts once. -/
mutual
def uptoBulk {H : Type} : DataW H → Nat
  | .lit (.string bytes) => bytes.length + 1
  | .lit _ => 1
  | .nil => 1
  | .ptr d => uptoBulk d + 1
  | .slice elems spare => uptoBulkAll elems + uptoBulkAll spare + 1
  | .agg parts => uptoBulkAll parts + 1
  | .iface _ d => uptoBulk d + 1
  | .map entries => uptoBulkEntries entries + 1
  | .held _ => 1
def uptoBulkAll {H : Type} : List (DataW H) → Nat
  | [] => 0
  | d :: r => uptoBulk d + uptoBulkAll r
def uptoBulkEntries {H : Type} : List (Lit × DataW H) → Nat
  | [] => 0
  | x :: r => uptoBulkEntry x + uptoBulkEntries r
def uptoBulkEntry {H : Type} : Lit × DataW H → Nat
  | (.string bytes, d) => bytes.length + uptoBulk d + 1
  | (_, d) => uptoBulk d + 1
 end
def uptoSmall : (H : Type) → List (DataW H) → Bool := fun _ ds => decide (uptoBulkAll ds ≤ 1048576)
def OpenSpec.upto (s : _root_.Go.ChangeSpec) : _root_.Go.OpenSpec := { _root_.Go.OpenSpec.ofChange s with cond := some uptoSmall }

/-- 'laws.FnReaches', WHERE WHAT IT READS IS OF BULK AT MOST 1048576: true; the input reads as it did. -/
def fnReachesUptoRow : OpenClaim := { program := "ytdhiablpobnhcaagreat", sum := "1ceb4da2999ad2f8fd45e10f40268c4417396e6304008af0d5cb5055af8a80e4", func := "loop.example/g00690/laws.FnReaches", spec := "fnReaches", unfollowed := true, recurses := true, apart := false, narrowed := true }
def FnReachesUptoSaid : Prop := fnReachesUptoRow.holds Tryz.pinned (OpenSpec.upto fnReachesSpec)

/-- 'laws.FnSeen', WHERE WHAT IT READS IS OF BULK AT MOST 1048576: true; the input reads as it did. -/
def fnSeenUptoRow : OpenClaim := { program := "ytdhiablpobnhcaagreat", sum := "1ceb4da2999ad2f8fd45e10f40268c4417396e6304008af0d5cb5055af8a80e4", func := "loop.example/g00690/laws.FnSeen", spec := "fnSeen", unfollowed := true, recurses := true, apart := false, narrowed := true }
def FnSeenUptoSaid : Prop := fnSeenUptoRow.holds Tryz.pinned (OpenSpec.upto fnSeenSpec)

/-- 'laws.FnStarts', WHERE WHAT IT READS IS OF BULK AT MOST 1048576: true; the input reads as it did. -/
def fnStartsUptoRow : OpenClaim := { program := "ytdhiablpobnhcaagreat", sum := "1ceb4da2999ad2f8fd45e10f40268c4417396e6304008af0d5cb5055af8a80e4", func := "loop.example/g00690/laws.FnStarts", spec := "fnStarts", unfollowed := true, recurses := true, apart := false, narrowed := true }
def FnStartsUptoSaid : Prop := fnStartsUptoRow.holds Tryz.pinned (OpenSpec.upto fnStartsSpec)

/-- 'laws.FnExactShade', WHERE WHAT IT READS IS OF BULK AT MOST 1048576: true; the input reads as it did. -/
def fnExactShadeUptoRow : OpenClaim := { program := "ytdhiablpobnhcaagreat", sum := "1ceb4da2999ad2f8fd45e10f40268c4417396e6304008af0d5cb5055af8a80e4", func := "loop.example/g00690/laws.FnExactShade", spec := "fnExactShade", unfollowed := true, recurses := true, apart := false, narrowed := true }
def FnExactShadeUptoSaid : Prop := fnExactShadeUptoRow.holds Tryz.pinned (OpenSpec.upto fnExactShadeSpec)

/-- 'laws.FnExactGcStart', WHERE WHAT IT READS IS OF BULK AT MOST 1048576: true; the input reads as it did. -/
def fnExactGcStartUptoRow : OpenClaim := { program := "ytdhiablpobnhcaagreat", sum := "1ceb4da2999ad2f8fd45e10f40268c4417396e6304008af0d5cb5055af8a80e4", func := "loop.example/g00690/laws.FnExactGcStart", spec := "fnExactGcStart", unfollowed := true, recurses := true, apart := false, narrowed := true }
def FnExactGcStartUptoSaid : Prop := fnExactGcStartUptoRow.holds Tryz.pinned (OpenSpec.upto fnExactGcStartSpec)

/-- 'laws.FnExactGcStep', WHERE WHAT IT READS IS OF BULK AT MOST 1048576: true; the input reads as it did. -/
def fnExactGcStepUptoRow : OpenClaim := { program := "ytdhiablpobnhcaagreat", sum := "1ceb4da2999ad2f8fd45e10f40268c4417396e6304008af0d5cb5055af8a80e4", func := "loop.example/g00690/laws.FnExactGcStep", spec := "fnExactGcStep", unfollowed := true, recurses := true, apart := false, narrowed := true }
def FnExactGcStepUptoSaid : Prop := fnExactGcStepUptoRow.holds Tryz.pinned (OpenSpec.upto fnExactGcStepSpec)

/-- 'laws.FnExactGcRun', WHERE WHAT IT READS IS OF BULK AT MOST 1048576: true; the input reads as it did. -/
def fnExactGcRunUptoRow : OpenClaim := { program := "ytdhiablpobnhcaagreat", sum := "1ceb4da2999ad2f8fd45e10f40268c4417396e6304008af0d5cb5055af8a80e4", func := "loop.example/g00690/laws.FnExactGcRun", spec := "fnExactGcRun", unfollowed := true, recurses := true, apart := false, narrowed := true }
def FnExactGcRunUptoSaid : Prop := fnExactGcRunUptoRow.holds Tryz.pinned (OpenSpec.upto fnExactGcRunSpec)

end Rows
end Go.Proofs.YtdhiablpobnhcaaGreat

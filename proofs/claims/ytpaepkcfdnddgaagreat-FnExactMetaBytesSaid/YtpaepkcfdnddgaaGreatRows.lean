/-
  No cell of these rows narrows 'for every input' (looked for: loops, veiled, ifaces, maps, wideKeys, modest, calm, conditions, laid).
  DERIVED. THE GIVEN ROWS OF THIS SEAT. 4 by the template 'for every input the law returns true; each argument reads behind the call as it read before'; 0 by the template 'total and deterministic' (their statements: YtpaepkcfdnddgaaGreatTotals.lean).
  GIVEN WITH THE SEED: the statements are not yours to turn. If you find one false, say at which input.
  Laid BY PROGRAM, IN A SANDBOX (cutbox-rows.mjs): the forced cells as the released guide's own fill.sh prints them over the translation 105b42e48cb15011… (all of the seat's roots in one cut). By AI agents, Wed Nov 11 2026. No macro, syntax, notation, axiom, sorry.
-/
import Derived.Test.YtpaepkcfdnddgaaGreatChecked
import GoSem.Claim
import GoSem.ClaimJoined
import GoSem.ClaimMapViews
import Derived.JoinedTies
import Derived.KernelRfl
namespace Go.Proofs.YtpaepkcfdnddgaaGreat
/- THE CELL 'sum', in the pinned program and in every row, IS THE sha256 OF THE DUMP (.gsa) THAT YtpaepkcfdnddgaaGreatProg.lean LOADS. Nothing in Lean hashes anything: it is a label: what it is worth is what the hold of that sum in a sandbox is worth. -/
noncomputable def Tryz.pinned : Pinned := { name := "ytpaepkcfdnddgaagreat", sum := "105b42e48cb150113f00b2f19d25ead58442102c2ca1ae1bfdcf3fadd4b5fd20", checked := Tryz.checked }
namespace Rows
def none {H : Type} : Left H := { results := [], args := [] }

/-- 'laws.FnExactMetaBytes': WHATEVER THE INPUT: true; the input reads as it did. -/
def fnExactMetaBytesSpec : ChangeSpec := { name := "fnExactMetaBytes", fn := fun _ => fun
  | [d] => { results := [.lit (.bool true)], args := [d] }
  | _ => none }
def fnExactMetaBytesRow : OpenClaim := { program := "ytpaepkcfdnddgaagreat", sum := "105b42e48cb150113f00b2f19d25ead58442102c2ca1ae1bfdcf3fadd4b5fd20", func := "loop.example/g00690/laws.FnExactMetaBytes", spec := "fnExactMetaBytes", inPlace := ["internal/abi.NoEscape"], unfollowed := true, recurses := true, apart := false }
def FnExactMetaBytesSaid : Prop := fnExactMetaBytesRow.holds Tryz.pinned (OpenSpec.ofChange fnExactMetaBytesSpec)

/-- ITS FALSE NEIGHBOUR: 'it returns false'. Refute it at one input. -/
def fnExactMetaBytesWrong : ChangeSpec := { name := "fnExactMetaBytes", fn := fun _ => fun
  | [d] => { results := [.lit (.bool false)], args := [d] }
  | _ => none }
def FnExactMetaBytesWrongFalsely : Prop := fnExactMetaBytesRow.holds Tryz.pinned (OpenSpec.ofChange fnExactMetaBytesWrong)

/-- 'laws.FnExactWordBytes': WHATEVER THE INPUT: true; the input reads as it did. -/
def fnExactWordBytesSpec : ChangeSpec := { name := "fnExactWordBytes", fn := fun _ => fun
  | [d1, d2] => { results := [.lit (.bool true)], args := [d1, d2] }
  | _ => none }
def fnExactWordBytesRow : OpenClaim := { program := "ytpaepkcfdnddgaagreat", sum := "105b42e48cb150113f00b2f19d25ead58442102c2ca1ae1bfdcf3fadd4b5fd20", func := "loop.example/g00690/laws.FnExactWordBytes", spec := "fnExactWordBytes", inPlace := ["internal/abi.NoEscape"], unfollowed := true, recurses := true, apart := false }
def FnExactWordBytesSaid : Prop := fnExactWordBytesRow.holds Tryz.pinned (OpenSpec.ofChange fnExactWordBytesSpec)

/-- ITS FALSE NEIGHBOUR: 'it returns false'. Refute it at one input. -/
def fnExactWordBytesWrong : ChangeSpec := { name := "fnExactWordBytes", fn := fun _ => fun
  | [d1, d2] => { results := [.lit (.bool false)], args := [d1, d2] }
  | _ => none }
def FnExactWordBytesWrongFalsely : Prop := fnExactWordBytesRow.holds Tryz.pinned (OpenSpec.ofChange fnExactWordBytesWrong)

/-- 'laws.FnExactEncode': WHATEVER THE INPUT: true; the input reads as it did. -/
def fnExactEncodeSpec : ChangeSpec := { name := "fnExactEncode", fn := fun _ => fun
  | [d] => { results := [.lit (.bool true)], args := [d] }
  | _ => none }
def fnExactEncodeRow : OpenClaim := { program := "ytpaepkcfdnddgaagreat", sum := "105b42e48cb150113f00b2f19d25ead58442102c2ca1ae1bfdcf3fadd4b5fd20", func := "loop.example/g00690/laws.FnExactEncode", spec := "fnExactEncode", inPlace := ["internal/abi.NoEscape"], unfollowed := true, recurses := true, apart := false }
def FnExactEncodeSaid : Prop := fnExactEncodeRow.holds Tryz.pinned (OpenSpec.ofChange fnExactEncodeSpec)

/-- ITS FALSE NEIGHBOUR: 'it returns false'. Refute it at one input. -/
def fnExactEncodeWrong : ChangeSpec := { name := "fnExactEncode", fn := fun _ => fun
  | [d] => { results := [.lit (.bool false)], args := [d] }
  | _ => none }
def FnExactEncodeWrongFalsely : Prop := fnExactEncodeRow.holds Tryz.pinned (OpenSpec.ofChange fnExactEncodeWrong)

/-- 'laws.FnExactMove': WHATEVER THE INPUT: true; the input reads as it did. -/
def fnExactMoveSpec : ChangeSpec := { name := "fnExactMove", fn := fun _ => fun
  | [d1, d2, d3] => { results := [.lit (.bool true)], args := [d1, d2, d3] }
  | _ => none }
def fnExactMoveRow : OpenClaim := { program := "ytpaepkcfdnddgaagreat", sum := "105b42e48cb150113f00b2f19d25ead58442102c2ca1ae1bfdcf3fadd4b5fd20", func := "loop.example/g00690/laws.FnExactMove", spec := "fnExactMove", unfollowed := true, recurses := true, apart := false }
def FnExactMoveSaid : Prop := fnExactMoveRow.holds Tryz.pinned (OpenSpec.ofChange fnExactMoveSpec)

/-- ITS FALSE NEIGHBOUR: 'it returns false'. Refute it at one input. -/
def fnExactMoveWrong : ChangeSpec := { name := "fnExactMove", fn := fun _ => fun
  | [d1, d2, d3] => { results := [.lit (.bool false)], args := [d1, d2, d3] }
  | _ => none }
def FnExactMoveWrongFalsely : Prop := fnExactMoveRow.holds Tryz.pinned (OpenSpec.ofChange fnExactMoveWrong)

/- THE SECOND FORM. 'bulk': how many values and letters a reading holds, each counted each time it is reached (what is shared counts as often as it is met; a slice's spare places count too). A statement '..UptoSaid' is the law's where the arguments, and the package variables that the reading takes, are together of bulk at most 1048576: NARROWER than '..Said'. Prove '..Said' where nothing that the law and all that it calls make is longer than what came in: it says more and counts as full. Else prove '..UptoSaid'. A law counts once. -/
mutual
def uptoBulk {H : Type} : DataW H → Nat
  | .lit (.string bytes) => bytes.length + 1
  | .lit _ => 1
  | .nil => 1
  | .ptr d => uptoBulk d + 1
  | .slice elems spare => uptoBulkAll elems + uptoBulkAll spare + 1
  | .agg parts => uptoBulkAll parts + 1
  | .iface _ d => uptoBulk d + 1
  | .map entries => uptoBulkEntries entries + 1
  | .held _ => 1
def uptoBulkAll {H : Type} : List (DataW H) → Nat
  | [] => 0
  | d :: r => uptoBulk d + uptoBulkAll r
def uptoBulkEntries {H : Type} : List (Lit × DataW H) → Nat
  | [] => 0
  | x :: r => uptoBulkEntry x + uptoBulkEntries r
def uptoBulkEntry {H : Type} : Lit × DataW H → Nat
  | (.string bytes, d) => bytes.length + uptoBulk d + 1
  | (_, d) => uptoBulk d + 1
 end
def uptoSmall : (H : Type) → List (DataW H) → Bool := fun _ ds => decide (uptoBulkAll ds ≤ 1048576)
def OpenSpec.upto (s : _root_.Go.ChangeSpec) : _root_.Go.OpenSpec := { _root_.Go.OpenSpec.ofChange s with cond := some uptoSmall }

/-- 'laws.FnExactMetaBytes', WHERE WHAT IT READS IS OF BULK AT MOST 1048576: true; the input reads as it did. -/
def fnExactMetaBytesUptoRow : OpenClaim := { program := "ytpaepkcfdnddgaagreat", sum := "105b42e48cb150113f00b2f19d25ead58442102c2ca1ae1bfdcf3fadd4b5fd20", func := "loop.example/g00690/laws.FnExactMetaBytes", spec := "fnExactMetaBytes", inPlace := ["internal/abi.NoEscape"], unfollowed := true, recurses := true, apart := false, narrowed := true }
def FnExactMetaBytesUptoSaid : Prop := fnExactMetaBytesUptoRow.holds Tryz.pinned (OpenSpec.upto fnExactMetaBytesSpec)

/-- 'laws.FnExactWordBytes', WHERE WHAT IT READS IS OF BULK AT MOST 1048576: true; the input reads as it did. -/
def fnExactWordBytesUptoRow : OpenClaim := { program := "ytpaepkcfdnddgaagreat", sum := "105b42e48cb150113f00b2f19d25ead58442102c2ca1ae1bfdcf3fadd4b5fd20", func := "loop.example/g00690/laws.FnExactWordBytes", spec := "fnExactWordBytes", inPlace := ["internal/abi.NoEscape"], unfollowed := true, recurses := true, apart := false, narrowed := true }
def FnExactWordBytesUptoSaid : Prop := fnExactWordBytesUptoRow.holds Tryz.pinned (OpenSpec.upto fnExactWordBytesSpec)

/-- 'laws.FnExactEncode', WHERE WHAT IT READS IS OF BULK AT MOST 1048576: true; the input reads as it did. -/
def fnExactEncodeUptoRow : OpenClaim := { program := "ytpaepkcfdnddgaagreat", sum := "105b42e48cb150113f00b2f19d25ead58442102c2ca1ae1bfdcf3fadd4b5fd20", func := "loop.example/g00690/laws.FnExactEncode", spec := "fnExactEncode", inPlace := ["internal/abi.NoEscape"], unfollowed := true, recurses := true, apart := false, narrowed := true }
def FnExactEncodeUptoSaid : Prop := fnExactEncodeUptoRow.holds Tryz.pinned (OpenSpec.upto fnExactEncodeSpec)

/-- 'laws.FnExactMove', WHERE WHAT IT READS IS OF BULK AT MOST 1048576: true; the input reads as it did. -/
def fnExactMoveUptoRow : OpenClaim := { program := "ytpaepkcfdnddgaagreat", sum := "105b42e48cb150113f00b2f19d25ead58442102c2ca1ae1bfdcf3fadd4b5fd20", func := "loop.example/g00690/laws.FnExactMove", spec := "fnExactMove", unfollowed := true, recurses := true, apart := false, narrowed := true }
def FnExactMoveUptoSaid : Prop := fnExactMoveUptoRow.holds Tryz.pinned (OpenSpec.upto fnExactMoveSpec)

end Rows
end Go.Proofs.YtpaepkcfdnddgaaGreat

/-
  No cell of these rows narrows 'for every input' (looked for: loops, veiled, ifaces, maps, wideKeys, modest, calm, conditions, laid).
  DERIVED. THE GIVEN ROWS OF THIS SEAT. 11 by the template 'for every input the law returns true; each argument reads behind the call as it read before'; 0 by the template 'total and deterministic' (their statements: YtedhallhdhlhhaaTotals.lean).
  GIVEN WITH THE SEED: the statements are not yours to turn. If you find one false, say at which input.
  Laid BY PROGRAM, IN A SANDBOX (cutbox-rows.mjs): the forced cells as the released guide's own fill.sh prints them over the translation 1b51a72df59880b5… (all of the seat's roots in one cut). By AI agents, Wed Nov 11 2026. No macro, syntax, notation, axiom, sorry.
-/
import Derived.Test.YtedhallhdhlhhaaChecked
import GoSem.Claim
import GoSem.ClaimJoined
import GoSem.ClaimMapViews
import Derived.JoinedTies
import Derived.KernelRfl
namespace Go.Proofs.Ytedhallhdhlhhaa
/- THE CELL 'sum', in the pinned program and in every row, IS THE sha256 OF THE DUMP (.gsa) THAT YtedhallhdhlhhaaProg.lean LOADS. Nothing in Lean hashes anything: it is a label: what it is worth is what the hold of that sum in a sandbox is worth. -/
noncomputable def Try.pinned : Pinned := { name := "ytedhallhdhlhhaa", sum := "1b51a72df59880b52415a2a1ff48539d92eb8e90049de6cd087123b03ad62bb8", checked := Try.checked }
namespace Rows
def none {H : Type} : Left H := { results := [], args := [] }

/-- 'laws.FnInts': WHATEVER THE INPUT: true; the input reads as it did. -/
def fnIntsSpec : ChangeSpec := { name := "fnInts", fn := fun _ => fun
  | [d] => { results := [.lit (.bool true)], args := [d] }
  | _ => none }
def fnIntsRow : OpenClaim := { program := "ytedhallhdhlhhaa", sum := "1b51a72df59880b52415a2a1ff48539d92eb8e90049de6cd087123b03ad62bb8", func := "loop.example/g00690/laws.FnInts", spec := "fnInts", unfollowed := true, recurses := true, apart := false }
def FnIntsSaid : Prop := fnIntsRow.holds Try.pinned (OpenSpec.ofChange fnIntsSpec)

/-- ITS FALSE NEIGHBOUR: 'it returns false'. Refute it at one input. -/
def fnIntsWrong : ChangeSpec := { name := "fnInts", fn := fun _ => fun
  | [d] => { results := [.lit (.bool false)], args := [d] }
  | _ => none }
def FnIntsWrongFalsely : Prop := fnIntsRow.holds Try.pinned (OpenSpec.ofChange fnIntsWrong)

/-- 'laws.FnSections': WHATEVER THE INPUT: true; the input reads as it did. -/
def fnSectionsSpec : ChangeSpec := { name := "fnSections", fn := fun _ => fun
  | [d] => { results := [.lit (.bool true)], args := [d] }
  | _ => none }
def fnSectionsRow : OpenClaim := { program := "ytedhallhdhlhhaa", sum := "1b51a72df59880b52415a2a1ff48539d92eb8e90049de6cd087123b03ad62bb8", func := "loop.example/g00690/laws.FnSections", spec := "fnSections", unfollowed := true, recurses := true, apart := false }
def FnSectionsSaid : Prop := fnSectionsRow.holds Try.pinned (OpenSpec.ofChange fnSectionsSpec)

/-- ITS FALSE NEIGHBOUR: 'it returns false'. Refute it at one input. -/
def fnSectionsWrong : ChangeSpec := { name := "fnSections", fn := fun _ => fun
  | [d] => { results := [.lit (.bool false)], args := [d] }
  | _ => none }
def FnSectionsWrongFalsely : Prop := fnSectionsRow.holds Try.pinned (OpenSpec.ofChange fnSectionsWrong)

/-- 'laws.FnBursts': WHATEVER THE INPUT: true; the input reads as it did. -/
def fnBurstsSpec : ChangeSpec := { name := "fnBursts", fn := fun _ => fun
  | [d] => { results := [.lit (.bool true)], args := [d] }
  | _ => none }
def fnBurstsRow : OpenClaim := { program := "ytedhallhdhlhhaa", sum := "1b51a72df59880b52415a2a1ff48539d92eb8e90049de6cd087123b03ad62bb8", func := "loop.example/g00690/laws.FnBursts", spec := "fnBursts", unfollowed := true, recurses := true, apart := false }
def FnBurstsSaid : Prop := fnBurstsRow.holds Try.pinned (OpenSpec.ofChange fnBurstsSpec)

/-- ITS FALSE NEIGHBOUR: 'it returns false'. Refute it at one input. -/
def fnBurstsWrong : ChangeSpec := { name := "fnBursts", fn := fun _ => fun
  | [d] => { results := [.lit (.bool false)], args := [d] }
  | _ => none }
def FnBurstsWrongFalsely : Prop := fnBurstsRow.holds Try.pinned (OpenSpec.ofChange fnBurstsWrong)

/-- 'laws.FnWords32': WHATEVER THE INPUT: true; the input reads as it did. -/
def fnWords32Spec : ChangeSpec := { name := "fnWords32", fn := fun _ => fun
  | [d] => { results := [.lit (.bool true)], args := [d] }
  | _ => none }
def fnWords32Row : OpenClaim := { program := "ytedhallhdhlhhaa", sum := "1b51a72df59880b52415a2a1ff48539d92eb8e90049de6cd087123b03ad62bb8", func := "loop.example/g00690/laws.FnWords32", spec := "fnWords32", unfollowed := true, recurses := true, apart := false }
def FnWords32Said : Prop := fnWords32Row.holds Try.pinned (OpenSpec.ofChange fnWords32Spec)

/-- ITS FALSE NEIGHBOUR: 'it returns false'. Refute it at one input. -/
def fnWords32Wrong : ChangeSpec := { name := "fnWords32", fn := fun _ => fun
  | [d] => { results := [.lit (.bool false)], args := [d] }
  | _ => none }
def FnWords32WrongFalsely : Prop := fnWords32Row.holds Try.pinned (OpenSpec.ofChange fnWords32Wrong)

/-- 'laws.FnExactPutInt': WHATEVER THE INPUT: true; the input reads as it did. -/
def fnExactPutIntSpec : ChangeSpec := { name := "fnExactPutInt", fn := fun _ => fun
  | [d] => { results := [.lit (.bool true)], args := [d] }
  | _ => none }
def fnExactPutIntRow : OpenClaim := { program := "ytedhallhdhlhhaa", sum := "1b51a72df59880b52415a2a1ff48539d92eb8e90049de6cd087123b03ad62bb8", func := "loop.example/g00690/laws.FnExactPutInt", spec := "fnExactPutInt", apart := false }
def FnExactPutIntSaid : Prop := fnExactPutIntRow.holds Try.pinned (OpenSpec.ofChange fnExactPutIntSpec)

/-- ITS FALSE NEIGHBOUR: 'it returns false'. Refute it at one input. -/
def fnExactPutIntWrong : ChangeSpec := { name := "fnExactPutInt", fn := fun _ => fun
  | [d] => { results := [.lit (.bool false)], args := [d] }
  | _ => none }
def FnExactPutIntWrongFalsely : Prop := fnExactPutIntRow.holds Try.pinned (OpenSpec.ofChange fnExactPutIntWrong)

/-- 'laws.FnExactGetInt': WHATEVER THE INPUT: true; the input reads as it did. -/
def fnExactGetIntSpec : ChangeSpec := { name := "fnExactGetInt", fn := fun _ => fun
  | [d1, d2] => { results := [.lit (.bool true)], args := [d1, d2] }
  | _ => none }
def fnExactGetIntRow : OpenClaim := { program := "ytedhallhdhlhhaa", sum := "1b51a72df59880b52415a2a1ff48539d92eb8e90049de6cd087123b03ad62bb8", func := "loop.example/g00690/laws.FnExactGetInt", spec := "fnExactGetInt", unfollowed := true, recurses := true, apart := false }
def FnExactGetIntSaid : Prop := fnExactGetIntRow.holds Try.pinned (OpenSpec.ofChange fnExactGetIntSpec)

/-- ITS FALSE NEIGHBOUR: 'it returns false'. Refute it at one input. -/
def fnExactGetIntWrong : ChangeSpec := { name := "fnExactGetInt", fn := fun _ => fun
  | [d1, d2] => { results := [.lit (.bool false)], args := [d1, d2] }
  | _ => none }
def FnExactGetIntWrongFalsely : Prop := fnExactGetIntRow.holds Try.pinned (OpenSpec.ofChange fnExactGetIntWrong)

/-- 'laws.FnExactCrc': WHATEVER THE INPUT: true; the input reads as it did. -/
def fnExactCrcSpec : ChangeSpec := { name := "fnExactCrc", fn := fun _ => fun
  | [d] => { results := [.lit (.bool true)], args := [d] }
  | _ => none }
def fnExactCrcRow : OpenClaim := { program := "ytedhallhdhlhhaa", sum := "1b51a72df59880b52415a2a1ff48539d92eb8e90049de6cd087123b03ad62bb8", func := "loop.example/g00690/laws.FnExactCrc", spec := "fnExactCrc", apart := false }
def FnExactCrcSaid : Prop := fnExactCrcRow.holds Try.pinned (OpenSpec.ofChange fnExactCrcSpec)

/-- ITS FALSE NEIGHBOUR: 'it returns false'. Refute it at one input. -/
def fnExactCrcWrong : ChangeSpec := { name := "fnExactCrc", fn := fun _ => fun
  | [d] => { results := [.lit (.bool false)], args := [d] }
  | _ => none }
def FnExactCrcWrongFalsely : Prop := fnExactCrcRow.holds Try.pinned (OpenSpec.ofChange fnExactCrcWrong)

/-- 'laws.FnExactPutWord': WHATEVER THE INPUT: true; the input reads as it did. -/
def fnExactPutWordSpec : ChangeSpec := { name := "fnExactPutWord", fn := fun _ => fun
  | [d] => { results := [.lit (.bool true)], args := [d] }
  | _ => none }
def fnExactPutWordRow : OpenClaim := { program := "ytedhallhdhlhhaa", sum := "1b51a72df59880b52415a2a1ff48539d92eb8e90049de6cd087123b03ad62bb8", func := "loop.example/g00690/laws.FnExactPutWord", spec := "fnExactPutWord", apart := false }
def FnExactPutWordSaid : Prop := fnExactPutWordRow.holds Try.pinned (OpenSpec.ofChange fnExactPutWordSpec)

/-- ITS FALSE NEIGHBOUR: 'it returns false'. Refute it at one input. -/
def fnExactPutWordWrong : ChangeSpec := { name := "fnExactPutWord", fn := fun _ => fun
  | [d] => { results := [.lit (.bool false)], args := [d] }
  | _ => none }
def FnExactPutWordWrongFalsely : Prop := fnExactPutWordRow.holds Try.pinned (OpenSpec.ofChange fnExactPutWordWrong)

/-- 'laws.FnExactGetWord': WHATEVER THE INPUT: true; the input reads as it did. -/
def fnExactGetWordSpec : ChangeSpec := { name := "fnExactGetWord", fn := fun _ => fun
  | [d1, d2] => { results := [.lit (.bool true)], args := [d1, d2] }
  | _ => none }
def fnExactGetWordRow : OpenClaim := { program := "ytedhallhdhlhhaa", sum := "1b51a72df59880b52415a2a1ff48539d92eb8e90049de6cd087123b03ad62bb8", func := "loop.example/g00690/laws.FnExactGetWord", spec := "fnExactGetWord", unfollowed := true, recurses := true, apart := false }
def FnExactGetWordSaid : Prop := fnExactGetWordRow.holds Try.pinned (OpenSpec.ofChange fnExactGetWordSpec)

/-- ITS FALSE NEIGHBOUR: 'it returns false'. Refute it at one input. -/
def fnExactGetWordWrong : ChangeSpec := { name := "fnExactGetWord", fn := fun _ => fun
  | [d1, d2] => { results := [.lit (.bool false)], args := [d1, d2] }
  | _ => none }
def FnExactGetWordWrongFalsely : Prop := fnExactGetWordRow.holds Try.pinned (OpenSpec.ofChange fnExactGetWordWrong)

/-- 'laws.FnExactSection': WHATEVER THE INPUT: true; the input reads as it did. -/
def fnExactSectionSpec : ChangeSpec := { name := "fnExactSection", fn := fun _ => fun
  | [d1, d2] => { results := [.lit (.bool true)], args := [d1, d2] }
  | _ => none }
def fnExactSectionRow : OpenClaim := { program := "ytedhallhdhlhhaa", sum := "1b51a72df59880b52415a2a1ff48539d92eb8e90049de6cd087123b03ad62bb8", func := "loop.example/g00690/laws.FnExactSection", spec := "fnExactSection", apart := false }
def FnExactSectionSaid : Prop := fnExactSectionRow.holds Try.pinned (OpenSpec.ofChange fnExactSectionSpec)

/-- ITS FALSE NEIGHBOUR: 'it returns false'. Refute it at one input. -/
def fnExactSectionWrong : ChangeSpec := { name := "fnExactSection", fn := fun _ => fun
  | [d1, d2] => { results := [.lit (.bool false)], args := [d1, d2] }
  | _ => none }
def FnExactSectionWrongFalsely : Prop := fnExactSectionRow.holds Try.pinned (OpenSpec.ofChange fnExactSectionWrong)

/-- 'laws.FnExactGetSection': WHATEVER THE INPUT: true; the input reads as it did. -/
def fnExactGetSectionSpec : ChangeSpec := { name := "fnExactGetSection", fn := fun _ => fun
  | [d1, d2] => { results := [.lit (.bool true)], args := [d1, d2] }
  | _ => none }
def fnExactGetSectionRow : OpenClaim := { program := "ytedhallhdhlhhaa", sum := "1b51a72df59880b52415a2a1ff48539d92eb8e90049de6cd087123b03ad62bb8", func := "loop.example/g00690/laws.FnExactGetSection", spec := "fnExactGetSection", unfollowed := true, recurses := true, apart := false }
def FnExactGetSectionSaid : Prop := fnExactGetSectionRow.holds Try.pinned (OpenSpec.ofChange fnExactGetSectionSpec)

/-- ITS FALSE NEIGHBOUR: 'it returns false'. Refute it at one input. -/
def fnExactGetSectionWrong : ChangeSpec := { name := "fnExactGetSection", fn := fun _ => fun
  | [d1, d2] => { results := [.lit (.bool false)], args := [d1, d2] }
  | _ => none }
def FnExactGetSectionWrongFalsely : Prop := fnExactGetSectionRow.holds Try.pinned (OpenSpec.ofChange fnExactGetSectionWrong)

/- THE SECOND FORM. 'bulk': how many values and letters a reading holds, each counted each time it is reached (what is shared counts as often as it is met; a slice's spare places count too). A statement '..UptoSaid' is the law's where the arguments, and the package variables that the reading takes, are together of bulk at most 1048576: NARROWER than '..Said'. Prove '..Said' where nothing that the law and all that it calls make is longer than what came in: it says more and counts as full. Else prove '..UptoSaid'. A law counts once. -/
mutual
def uptoBulk {H : Type} : DataW H → Nat
  | .lit (.string bytes) => bytes.length + 1
  | .lit _ => 1
  | .nil => 1
  | .ptr d => uptoBulk d + 1
  | .slice elems spare => uptoBulkAll elems + uptoBulkAll spare + 1
  | .agg parts => uptoBulkAll parts + 1
  | .iface _ d => uptoBulk d + 1
  | .map entries => uptoBulkEntries entries + 1
  | .held _ => 1
def uptoBulkAll {H : Type} : List (DataW H) → Nat
  | [] => 0
  | d :: r => uptoBulk d + uptoBulkAll r
def uptoBulkEntries {H : Type} : List (Lit × DataW H) → Nat
  | [] => 0
  | x :: r => uptoBulkEntry x + uptoBulkEntries r
def uptoBulkEntry {H : Type} : Lit × DataW H → Nat
  | (.string bytes, d) => bytes.length + uptoBulk d + 1
  | (_, d) => uptoBulk d + 1
 end
def uptoSmall : (H : Type) → List (DataW H) → Bool := fun _ ds => decide (uptoBulkAll ds ≤ 1048576)
def OpenSpec.upto (s : _root_.Go.ChangeSpec) : _root_.Go.OpenSpec := { _root_.Go.OpenSpec.ofChange s with cond := some uptoSmall }

/-- 'laws.FnInts', WHERE WHAT IT READS IS OF BULK AT MOST 1048576: true; the input reads as it did. -/
def fnIntsUptoRow : OpenClaim := { program := "ytedhallhdhlhhaa", sum := "1b51a72df59880b52415a2a1ff48539d92eb8e90049de6cd087123b03ad62bb8", func := "loop.example/g00690/laws.FnInts", spec := "fnInts", unfollowed := true, recurses := true, apart := false, narrowed := true }
def FnIntsUptoSaid : Prop := fnIntsUptoRow.holds Try.pinned (OpenSpec.upto fnIntsSpec)

/-- 'laws.FnSections', WHERE WHAT IT READS IS OF BULK AT MOST 1048576: true; the input reads as it did. -/
def fnSectionsUptoRow : OpenClaim := { program := "ytedhallhdhlhhaa", sum := "1b51a72df59880b52415a2a1ff48539d92eb8e90049de6cd087123b03ad62bb8", func := "loop.example/g00690/laws.FnSections", spec := "fnSections", unfollowed := true, recurses := true, apart := false, narrowed := true }
def FnSectionsUptoSaid : Prop := fnSectionsUptoRow.holds Try.pinned (OpenSpec.upto fnSectionsSpec)

/-- 'laws.FnBursts', WHERE WHAT IT READS IS OF BULK AT MOST 1048576: true; the input reads as it did. -/
def fnBurstsUptoRow : OpenClaim := { program := "ytedhallhdhlhhaa", sum := "1b51a72df59880b52415a2a1ff48539d92eb8e90049de6cd087123b03ad62bb8", func := "loop.example/g00690/laws.FnBursts", spec := "fnBursts", unfollowed := true, recurses := true, apart := false, narrowed := true }
def FnBurstsUptoSaid : Prop := fnBurstsUptoRow.holds Try.pinned (OpenSpec.upto fnBurstsSpec)

/-- 'laws.FnWords32', WHERE WHAT IT READS IS OF BULK AT MOST 1048576: true; the input reads as it did. -/
def fnWords32UptoRow : OpenClaim := { program := "ytedhallhdhlhhaa", sum := "1b51a72df59880b52415a2a1ff48539d92eb8e90049de6cd087123b03ad62bb8", func := "loop.example/g00690/laws.FnWords32", spec := "fnWords32", unfollowed := true, recurses := true, apart := false, narrowed := true }
def FnWords32UptoSaid : Prop := fnWords32UptoRow.holds Try.pinned (OpenSpec.upto fnWords32Spec)

/-- 'laws.FnExactPutInt', WHERE WHAT IT READS IS OF BULK AT MOST 1048576: true; the input reads as it did. -/
def fnExactPutIntUptoRow : OpenClaim := { program := "ytedhallhdhlhhaa", sum := "1b51a72df59880b52415a2a1ff48539d92eb8e90049de6cd087123b03ad62bb8", func := "loop.example/g00690/laws.FnExactPutInt", spec := "fnExactPutInt", apart := false, narrowed := true }
def FnExactPutIntUptoSaid : Prop := fnExactPutIntUptoRow.holds Try.pinned (OpenSpec.upto fnExactPutIntSpec)

/-- 'laws.FnExactGetInt', WHERE WHAT IT READS IS OF BULK AT MOST 1048576: true; the input reads as it did. -/
def fnExactGetIntUptoRow : OpenClaim := { program := "ytedhallhdhlhhaa", sum := "1b51a72df59880b52415a2a1ff48539d92eb8e90049de6cd087123b03ad62bb8", func := "loop.example/g00690/laws.FnExactGetInt", spec := "fnExactGetInt", unfollowed := true, recurses := true, apart := false, narrowed := true }
def FnExactGetIntUptoSaid : Prop := fnExactGetIntUptoRow.holds Try.pinned (OpenSpec.upto fnExactGetIntSpec)

/-- 'laws.FnExactCrc', WHERE WHAT IT READS IS OF BULK AT MOST 1048576: true; the input reads as it did. -/
def fnExactCrcUptoRow : OpenClaim := { program := "ytedhallhdhlhhaa", sum := "1b51a72df59880b52415a2a1ff48539d92eb8e90049de6cd087123b03ad62bb8", func := "loop.example/g00690/laws.FnExactCrc", spec := "fnExactCrc", apart := false, narrowed := true }
def FnExactCrcUptoSaid : Prop := fnExactCrcUptoRow.holds Try.pinned (OpenSpec.upto fnExactCrcSpec)

/-- 'laws.FnExactPutWord', WHERE WHAT IT READS IS OF BULK AT MOST 1048576: true; the input reads as it did. -/
def fnExactPutWordUptoRow : OpenClaim := { program := "ytedhallhdhlhhaa", sum := "1b51a72df59880b52415a2a1ff48539d92eb8e90049de6cd087123b03ad62bb8", func := "loop.example/g00690/laws.FnExactPutWord", spec := "fnExactPutWord", apart := false, narrowed := true }
def FnExactPutWordUptoSaid : Prop := fnExactPutWordUptoRow.holds Try.pinned (OpenSpec.upto fnExactPutWordSpec)

/-- 'laws.FnExactGetWord', WHERE WHAT IT READS IS OF BULK AT MOST 1048576: true; the input reads as it did. -/
def fnExactGetWordUptoRow : OpenClaim := { program := "ytedhallhdhlhhaa", sum := "1b51a72df59880b52415a2a1ff48539d92eb8e90049de6cd087123b03ad62bb8", func := "loop.example/g00690/laws.FnExactGetWord", spec := "fnExactGetWord", unfollowed := true, recurses := true, apart := false, narrowed := true }
def FnExactGetWordUptoSaid : Prop := fnExactGetWordUptoRow.holds Try.pinned (OpenSpec.upto fnExactGetWordSpec)

/-- 'laws.FnExactSection', WHERE WHAT IT READS IS OF BULK AT MOST 1048576: true; the input reads as it did. -/
def fnExactSectionUptoRow : OpenClaim := { program := "ytedhallhdhlhhaa", sum := "1b51a72df59880b52415a2a1ff48539d92eb8e90049de6cd087123b03ad62bb8", func := "loop.example/g00690/laws.FnExactSection", spec := "fnExactSection", apart := false, narrowed := true }
def FnExactSectionUptoSaid : Prop := fnExactSectionUptoRow.holds Try.pinned (OpenSpec.upto fnExactSectionSpec)

/-- 'laws.FnExactGetSection', WHERE WHAT IT READS IS OF BULK AT MOST 1048576: true; the input reads as it did. -/
def fnExactGetSectionUptoRow : OpenClaim := { program := "ytedhallhdhlhhaa", sum := "1b51a72df59880b52415a2a1ff48539d92eb8e90049de6cd087123b03ad62bb8", func := "loop.example/g00690/laws.FnExactGetSection", spec := "fnExactGetSection", unfollowed := true, recurses := true, apart := false, narrowed := true }
def FnExactGetSectionUptoSaid : Prop := fnExactGetSectionUptoRow.holds Try.pinned (OpenSpec.upto fnExactGetSectionSpec)

end Rows
end Go.Proofs.Ytedhallhdhlhhaa

/-
  No cell of these rows narrows 'for every input' (looked for: loops, veiled, ifaces, maps, wideKeys, modest, calm, conditions, laid).
  DERIVED. THE GIVEN ROWS OF THIS SEAT. 7 by the template 'for every input the law returns true; each argument reads behind the call as it read before'; 0 by the template 'total and deterministic' (their statements: YtmgoonahpndfoaaTotals.lean).
  GIVEN WITH THE SEED: the statements are not yours to turn. If you find one false, say at which input.
  Laid BY PROGRAM, IN A SANDBOX (cutbox-rows.mjs): the forced cells as the released guide's own fill.sh prints them over the translation 990f850fe3623593… (all of the seat's roots in one cut). By AI agents, Wed Nov 11 2026. No macro, syntax, notation, axiom, sorry.
-/
import Derived.Test.YtmgoonahpndfoaaChecked
import GoSem.Claim
import GoSem.ClaimJoined
import GoSem.ClaimMapViews
import Derived.JoinedTies
import Derived.KernelRfl
namespace Go.Proofs.Ytmgoonahpndfoaa
/- THE CELL 'sum', in the pinned program and in every row, IS THE sha256 OF THE DUMP (.gsa) THAT YtmgoonahpndfoaaProg.lean LOADS. Nothing in Lean hashes anything: it is a label: what it is worth is what the hold of that sum in a sandbox is worth. -/
noncomputable def Try.pinned : Pinned := { name := "ytmgoonahpndfoaa", sum := "990f850fe36235935e11add6a0f4b4a75423a05b560d00e391b39c81466429c3", checked := Try.checked }
namespace Rows
def none {H : Type} : Left H := { results := [], args := [] }

/-- 'shunterlaw05.ObjectsMakes': WHATEVER THE INPUT: true; the input reads as it did. -/
def objectsMakesSpec : ChangeSpec := { name := "objectsMakes", fn := fun _ => fun
  | [d1, d2, d3] => { results := [.lit (.bool true)], args := [d1, d2, d3] }
  | _ => none }
def objectsMakesRow : OpenClaim := { program := "ytmgoonahpndfoaa", sum := "990f850fe36235935e11add6a0f4b4a75423a05b560d00e391b39c81466429c3", func := "shunter/shunterlaw05.ObjectsMakes", spec := "objectsMakes", unfollowed := true, recurses := true, apart := false }
def ObjectsMakesSaid : Prop := objectsMakesRow.holds Try.pinned (OpenSpec.ofChange objectsMakesSpec)

/-- ITS FALSE NEIGHBOUR: 'it returns false'. Refute it at one input. -/
def objectsMakesWrong : ChangeSpec := { name := "objectsMakes", fn := fun _ => fun
  | [d1, d2, d3] => { results := [.lit (.bool false)], args := [d1, d2, d3] }
  | _ => none }
def ObjectsMakesWrongFalsely : Prop := objectsMakesRow.holds Try.pinned (OpenSpec.ofChange objectsMakesWrong)

/-- 'shunterlaw05.ObjectsReads': WHATEVER THE INPUT: true; the input reads as it did. -/
def objectsReadsSpec : ChangeSpec := { name := "objectsReads", fn := fun _ => fun
  | [d1, d2, d3] => { results := [.lit (.bool true)], args := [d1, d2, d3] }
  | _ => none }
def objectsReadsRow : OpenClaim := { program := "ytmgoonahpndfoaa", sum := "990f850fe36235935e11add6a0f4b4a75423a05b560d00e391b39c81466429c3", func := "shunter/shunterlaw05.ObjectsReads", spec := "objectsReads", unfollowed := true, recurses := true, apart := false }
def ObjectsReadsSaid : Prop := objectsReadsRow.holds Try.pinned (OpenSpec.ofChange objectsReadsSpec)

/-- ITS FALSE NEIGHBOUR: 'it returns false'. Refute it at one input. -/
def objectsReadsWrong : ChangeSpec := { name := "objectsReads", fn := fun _ => fun
  | [d1, d2, d3] => { results := [.lit (.bool false)], args := [d1, d2, d3] }
  | _ => none }
def ObjectsReadsWrongFalsely : Prop := objectsReadsRow.holds Try.pinned (OpenSpec.ofChange objectsReadsWrong)

/-- 'shunterlaw05.ObjectsSets': WHATEVER THE INPUT: true; the input reads as it did. -/
def objectsSetsSpec : ChangeSpec := { name := "objectsSets", fn := fun _ => fun
  | [d1, d2] => { results := [.lit (.bool true)], args := [d1, d2] }
  | _ => none }
def objectsSetsRow : OpenClaim := { program := "ytmgoonahpndfoaa", sum := "990f850fe36235935e11add6a0f4b4a75423a05b560d00e391b39c81466429c3", func := "shunter/shunterlaw05.ObjectsSets", spec := "objectsSets", unfollowed := true, recurses := true, apart := false }
def ObjectsSetsSaid : Prop := objectsSetsRow.holds Try.pinned (OpenSpec.ofChange objectsSetsSpec)

/-- ITS FALSE NEIGHBOUR: 'it returns false'. Refute it at one input. -/
def objectsSetsWrong : ChangeSpec := { name := "objectsSets", fn := fun _ => fun
  | [d1, d2] => { results := [.lit (.bool false)], args := [d1, d2] }
  | _ => none }
def ObjectsSetsWrongFalsely : Prop := objectsSetsRow.holds Try.pinned (OpenSpec.ofChange objectsSetsWrong)

/-- 'shunterlaw05.ObjectsFields': WHATEVER THE INPUT: true; the input reads as it did. -/
def objectsFieldsSpec : ChangeSpec := { name := "objectsFields", fn := fun _ => fun
  | [d1, d2, d3] => { results := [.lit (.bool true)], args := [d1, d2, d3] }
  | _ => none }
def objectsFieldsRow : OpenClaim := { program := "ytmgoonahpndfoaa", sum := "990f850fe36235935e11add6a0f4b4a75423a05b560d00e391b39c81466429c3", func := "shunter/shunterlaw05.ObjectsFields", spec := "objectsFields", unfollowed := true, recurses := true, apart := false }
def ObjectsFieldsSaid : Prop := objectsFieldsRow.holds Try.pinned (OpenSpec.ofChange objectsFieldsSpec)

/-- ITS FALSE NEIGHBOUR: 'it returns false'. Refute it at one input. -/
def objectsFieldsWrong : ChangeSpec := { name := "objectsFields", fn := fun _ => fun
  | [d1, d2, d3] => { results := [.lit (.bool false)], args := [d1, d2, d3] }
  | _ => none }
def ObjectsFieldsWrongFalsely : Prop := objectsFieldsRow.holds Try.pinned (OpenSpec.ofChange objectsFieldsWrong)

/-- 'shunterlaw05.ObjectsWhole': WHATEVER THE INPUT: true; the input reads as it did. -/
def objectsWholeSpec : ChangeSpec := { name := "objectsWhole", fn := fun _ => fun
  | [d1, d2, d3] => { results := [.lit (.bool true)], args := [d1, d2, d3] }
  | _ => none }
def objectsWholeRow : OpenClaim := { program := "ytmgoonahpndfoaa", sum := "990f850fe36235935e11add6a0f4b4a75423a05b560d00e391b39c81466429c3", func := "shunter/shunterlaw05.ObjectsWhole", spec := "objectsWhole", unfollowed := true, recurses := true, apart := false }
def ObjectsWholeSaid : Prop := objectsWholeRow.holds Try.pinned (OpenSpec.ofChange objectsWholeSpec)

/-- ITS FALSE NEIGHBOUR: 'it returns false'. Refute it at one input. -/
def objectsWholeWrong : ChangeSpec := { name := "objectsWhole", fn := fun _ => fun
  | [d1, d2, d3] => { results := [.lit (.bool false)], args := [d1, d2, d3] }
  | _ => none }
def ObjectsWholeWrongFalsely : Prop := objectsWholeRow.holds Try.pinned (OpenSpec.ofChange objectsWholeWrong)

/-- 'shunterlaw05.ObjectsAlike': WHATEVER THE INPUT: true; the input reads as it did. -/
def objectsAlikeSpec : ChangeSpec := { name := "objectsAlike", fn := fun _ => fun
  | [d1, d2, d3] => { results := [.lit (.bool true)], args := [d1, d2, d3] }
  | _ => none }
def objectsAlikeRow : OpenClaim := { program := "ytmgoonahpndfoaa", sum := "990f850fe36235935e11add6a0f4b4a75423a05b560d00e391b39c81466429c3", func := "shunter/shunterlaw05.ObjectsAlike", spec := "objectsAlike", unfollowed := true, recurses := true, apart := false }
def ObjectsAlikeSaid : Prop := objectsAlikeRow.holds Try.pinned (OpenSpec.ofChange objectsAlikeSpec)

/-- ITS FALSE NEIGHBOUR: 'it returns false'. Refute it at one input. -/
def objectsAlikeWrong : ChangeSpec := { name := "objectsAlike", fn := fun _ => fun
  | [d1, d2, d3] => { results := [.lit (.bool false)], args := [d1, d2, d3] }
  | _ => none }
def ObjectsAlikeWrongFalsely : Prop := objectsAlikeRow.holds Try.pinned (OpenSpec.ofChange objectsAlikeWrong)

/-- 'shunterlaw05.ObjectsKnown': WHATEVER THE INPUT: true; the input reads as it did. -/
def objectsKnownSpec : ChangeSpec := { name := "objectsKnown", fn := fun _ => fun
  | [] => { results := [.lit (.bool true)], args := [] }
  | _ => none }
def objectsKnownRow : OpenClaim := { program := "ytmgoonahpndfoaa", sum := "990f850fe36235935e11add6a0f4b4a75423a05b560d00e391b39c81466429c3", func := "shunter/shunterlaw05.ObjectsKnown", spec := "objectsKnown", unfollowed := true, recurses := true, apart := false }
def ObjectsKnownSaid : Prop := objectsKnownRow.holds Try.pinned (OpenSpec.ofChange objectsKnownSpec)

/-- ITS FALSE NEIGHBOUR: 'it returns false'. Refute it at one input. -/
def objectsKnownWrong : ChangeSpec := { name := "objectsKnown", fn := fun _ => fun
  | [] => { results := [.lit (.bool false)], args := [] }
  | _ => none }
def ObjectsKnownWrongFalsely : Prop := objectsKnownRow.holds Try.pinned (OpenSpec.ofChange objectsKnownWrong)

/- THE SECOND FORM. 'bulk': how many values and letters a reading holds, each counted each time it is reached (what is shared counts as often as it is met; a slice's spare places count too). A statement '..UptoSaid' is the law's where the arguments, and the package variables that the reading takes, are together of bulk at most 1048576: NARROWER than '..Said'. Prove '..Said' where nothing that the law and all that it calls make is longer than what came in: it says more and counts as full. Else prove '..UptoSaid'. A law counts once. -/
mutual
def uptoBulk {H : Type} : DataW H → Nat
  | .lit (.string bytes) => bytes.length + 1
  | .lit _ => 1
  | .nil => 1
  | .ptr d => uptoBulk d + 1
  | .slice elems spare => uptoBulkAll elems + uptoBulkAll spare + 1
  | .agg parts => uptoBulkAll parts + 1
  | .iface _ d => uptoBulk d + 1
  | .map entries => uptoBulkEntries entries + 1
  | .held _ => 1
def uptoBulkAll {H : Type} : List (DataW H) → Nat
  | [] => 0
  | d :: r => uptoBulk d + uptoBulkAll r
def uptoBulkEntries {H : Type} : List (Lit × DataW H) → Nat
  | [] => 0
  | x :: r => uptoBulkEntry x + uptoBulkEntries r
def uptoBulkEntry {H : Type} : Lit × DataW H → Nat
  | (.string bytes, d) => bytes.length + uptoBulk d + 1
  | (_, d) => uptoBulk d + 1
 end
def uptoSmall : (H : Type) → List (DataW H) → Bool := fun _ ds => decide (uptoBulkAll ds ≤ 1048576)
def OpenSpec.upto (s : _root_.Go.ChangeSpec) : _root_.Go.OpenSpec := { _root_.Go.OpenSpec.ofChange s with cond := some uptoSmall }

/-- 'shunterlaw05.ObjectsMakes', WHERE WHAT IT READS IS OF BULK AT MOST 1048576: true; the input reads as it did. -/
def objectsMakesUptoRow : OpenClaim := { program := "ytmgoonahpndfoaa", sum := "990f850fe36235935e11add6a0f4b4a75423a05b560d00e391b39c81466429c3", func := "shunter/shunterlaw05.ObjectsMakes", spec := "objectsMakes", unfollowed := true, recurses := true, apart := false, narrowed := true }
def ObjectsMakesUptoSaid : Prop := objectsMakesUptoRow.holds Try.pinned (OpenSpec.upto objectsMakesSpec)

/-- 'shunterlaw05.ObjectsReads', WHERE WHAT IT READS IS OF BULK AT MOST 1048576: true; the input reads as it did. -/
def objectsReadsUptoRow : OpenClaim := { program := "ytmgoonahpndfoaa", sum := "990f850fe36235935e11add6a0f4b4a75423a05b560d00e391b39c81466429c3", func := "shunter/shunterlaw05.ObjectsReads", spec := "objectsReads", unfollowed := true, recurses := true, apart := false, narrowed := true }
def ObjectsReadsUptoSaid : Prop := objectsReadsUptoRow.holds Try.pinned (OpenSpec.upto objectsReadsSpec)

/-- 'shunterlaw05.ObjectsSets', WHERE WHAT IT READS IS OF BULK AT MOST 1048576: true; the input reads as it did. -/
def objectsSetsUptoRow : OpenClaim := { program := "ytmgoonahpndfoaa", sum := "990f850fe36235935e11add6a0f4b4a75423a05b560d00e391b39c81466429c3", func := "shunter/shunterlaw05.ObjectsSets", spec := "objectsSets", unfollowed := true, recurses := true, apart := false, narrowed := true }
def ObjectsSetsUptoSaid : Prop := objectsSetsUptoRow.holds Try.pinned (OpenSpec.upto objectsSetsSpec)

/-- 'shunterlaw05.ObjectsFields', WHERE WHAT IT READS IS OF BULK AT MOST 1048576: true; the input reads as it did. -/
def objectsFieldsUptoRow : OpenClaim := { program := "ytmgoonahpndfoaa", sum := "990f850fe36235935e11add6a0f4b4a75423a05b560d00e391b39c81466429c3", func := "shunter/shunterlaw05.ObjectsFields", spec := "objectsFields", unfollowed := true, recurses := true, apart := false, narrowed := true }
def ObjectsFieldsUptoSaid : Prop := objectsFieldsUptoRow.holds Try.pinned (OpenSpec.upto objectsFieldsSpec)

/-- 'shunterlaw05.ObjectsWhole', WHERE WHAT IT READS IS OF BULK AT MOST 1048576: true; the input reads as it did. -/
def objectsWholeUptoRow : OpenClaim := { program := "ytmgoonahpndfoaa", sum := "990f850fe36235935e11add6a0f4b4a75423a05b560d00e391b39c81466429c3", func := "shunter/shunterlaw05.ObjectsWhole", spec := "objectsWhole", unfollowed := true, recurses := true, apart := false, narrowed := true }
def ObjectsWholeUptoSaid : Prop := objectsWholeUptoRow.holds Try.pinned (OpenSpec.upto objectsWholeSpec)

/-- 'shunterlaw05.ObjectsAlike', WHERE WHAT IT READS IS OF BULK AT MOST 1048576: true; the input reads as it did. -/
def objectsAlikeUptoRow : OpenClaim := { program := "ytmgoonahpndfoaa", sum := "990f850fe36235935e11add6a0f4b4a75423a05b560d00e391b39c81466429c3", func := "shunter/shunterlaw05.ObjectsAlike", spec := "objectsAlike", unfollowed := true, recurses := true, apart := false, narrowed := true }
def ObjectsAlikeUptoSaid : Prop := objectsAlikeUptoRow.holds Try.pinned (OpenSpec.upto objectsAlikeSpec)

/-- 'shunterlaw05.ObjectsKnown', WHERE WHAT IT READS IS OF BULK AT MOST 1048576: true; the input reads as it did. -/
def objectsKnownUptoRow : OpenClaim := { program := "ytmgoonahpndfoaa", sum := "990f850fe36235935e11add6a0f4b4a75423a05b560d00e391b39c81466429c3", func := "shunter/shunterlaw05.ObjectsKnown", spec := "objectsKnown", unfollowed := true, recurses := true, apart := false, narrowed := true }
def ObjectsKnownUptoSaid : Prop := objectsKnownUptoRow.holds Try.pinned (OpenSpec.upto objectsKnownSpec)

end Rows
end Go.Proofs.Ytmgoonahpndfoaa

/-
  No cell of these rows narrows 'for every input' (looked for: loops, veiled, ifaces, maps, wideKeys, modest, calm, conditions, laid).
  DERIVED. THE GIVEN ROWS OF THIS SEAT. 7 by the template 'for every input the law returns true; each argument reads behind the call as it read before'; 0 by the template 'total and deterministic' (their statements: YtekhkgcdgkfflaaTotals.lean).
  GIVEN WITH THE SEED: the statements are not yours to turn. If you find one false, say at which input.
  Laid BY PROGRAM, IN A SANDBOX (cutbox-rows.mjs): the forced cells as the released guide's own fill.sh prints them over the translation 9da0e18b8c7aa230… (all of the seat's roots in one cut). By AI agents, Wed Nov 11 2026. No macro, syntax, notation, axiom, sorry.
-/
import Derived.Test.YtekhkgcdgkfflaaChecked
import GoSem.Claim
import GoSem.ClaimJoined
import GoSem.ClaimMapViews
import Derived.JoinedTies
import Derived.KernelRfl
namespace Go.Proofs.Ytekhkgcdgkfflaa
/- THE CELL 'sum', in the pinned program and in every row, IS THE sha256 OF THE DUMP (.gsa) THAT YtekhkgcdgkfflaaProg.lean LOADS. Nothing in Lean hashes anything: it is a label: what it is worth is what the hold of that sum in a sandbox is worth. -/
noncomputable def Try.pinned : Pinned := { name := "ytekhkgcdgkfflaa", sum := "9da0e18b8c7aa2302b623cebdc2f744d56701af329ecdea98b8c6932202ba4a5", checked := Try.checked }
namespace Rows
def none {H : Type} : Left H := { results := [], args := [] }

/-- 'shunterlaw04.HeaderShapes': WHATEVER THE INPUT: true; the input reads as it did. -/
def headerShapesSpec : ChangeSpec := { name := "headerShapes", fn := fun _ => fun
  | [d] => { results := [.lit (.bool true)], args := [d] }
  | _ => none }
def headerShapesRow : OpenClaim := { program := "ytekhkgcdgkfflaa", sum := "9da0e18b8c7aa2302b623cebdc2f744d56701af329ecdea98b8c6932202ba4a5", func := "shunter/shunterlaw04.HeaderShapes", spec := "headerShapes", unfollowed := true, recurses := true, apart := false }
def HeaderShapesSaid : Prop := headerShapesRow.holds Try.pinned (OpenSpec.ofChange headerShapesSpec)

/-- ITS FALSE NEIGHBOUR: 'it returns false'. Refute it at one input. -/
def headerShapesWrong : ChangeSpec := { name := "headerShapes", fn := fun _ => fun
  | [d] => { results := [.lit (.bool false)], args := [d] }
  | _ => none }
def HeaderShapesWrongFalsely : Prop := headerShapesRow.holds Try.pinned (OpenSpec.ofChange headerShapesWrong)

/-- 'shunterlaw04.HeaderWords': WHATEVER THE INPUT: true; the input reads as it did. -/
def headerWordsSpec : ChangeSpec := { name := "headerWords", fn := fun _ => fun
  | [d] => { results := [.lit (.bool true)], args := [d] }
  | _ => none }
def headerWordsRow : OpenClaim := { program := "ytekhkgcdgkfflaa", sum := "9da0e18b8c7aa2302b623cebdc2f744d56701af329ecdea98b8c6932202ba4a5", func := "shunter/shunterlaw04.HeaderWords", spec := "headerWords", unfollowed := true, recurses := true, apart := false }
def HeaderWordsSaid : Prop := headerWordsRow.holds Try.pinned (OpenSpec.ofChange headerWordsSpec)

/-- ITS FALSE NEIGHBOUR: 'it returns false'. Refute it at one input. -/
def headerWordsWrong : ChangeSpec := { name := "headerWords", fn := fun _ => fun
  | [d] => { results := [.lit (.bool false)], args := [d] }
  | _ => none }
def HeaderWordsWrongFalsely : Prop := headerWordsRow.holds Try.pinned (OpenSpec.ofChange headerWordsWrong)

/-- 'shunterlaw04.HeaderMarks': WHATEVER THE INPUT: true; the input reads as it did. -/
def headerMarksSpec : ChangeSpec := { name := "headerMarks", fn := fun _ => fun
  | [d1, d2] => { results := [.lit (.bool true)], args := [d1, d2] }
  | _ => none }
def headerMarksRow : OpenClaim := { program := "ytekhkgcdgkfflaa", sum := "9da0e18b8c7aa2302b623cebdc2f744d56701af329ecdea98b8c6932202ba4a5", func := "shunter/shunterlaw04.HeaderMarks", spec := "headerMarks", unfollowed := true, recurses := true, apart := false }
def HeaderMarksSaid : Prop := headerMarksRow.holds Try.pinned (OpenSpec.ofChange headerMarksSpec)

/-- ITS FALSE NEIGHBOUR: 'it returns false'. Refute it at one input. -/
def headerMarksWrong : ChangeSpec := { name := "headerMarks", fn := fun _ => fun
  | [d1, d2] => { results := [.lit (.bool false)], args := [d1, d2] }
  | _ => none }
def HeaderMarksWrongFalsely : Prop := headerMarksRow.holds Try.pinned (OpenSpec.ofChange headerMarksWrong)

/-- 'shunterlaw04.HeaderBack': WHATEVER THE INPUT: true; the input reads as it did. -/
def headerBackSpec : ChangeSpec := { name := "headerBack", fn := fun _ => fun
  | [d1, d2, d3] => { results := [.lit (.bool true)], args := [d1, d2, d3] }
  | _ => none }
def headerBackRow : OpenClaim := { program := "ytekhkgcdgkfflaa", sum := "9da0e18b8c7aa2302b623cebdc2f744d56701af329ecdea98b8c6932202ba4a5", func := "shunter/shunterlaw04.HeaderBack", spec := "headerBack", unfollowed := true, recurses := true, apart := false }
def HeaderBackSaid : Prop := headerBackRow.holds Try.pinned (OpenSpec.ofChange headerBackSpec)

/-- ITS FALSE NEIGHBOUR: 'it returns false'. Refute it at one input. -/
def headerBackWrong : ChangeSpec := { name := "headerBack", fn := fun _ => fun
  | [d1, d2, d3] => { results := [.lit (.bool false)], args := [d1, d2, d3] }
  | _ => none }
def HeaderBackWrongFalsely : Prop := headerBackRow.holds Try.pinned (OpenSpec.ofChange headerBackWrong)

/-- 'shunterlaw04.HeaderApart': WHATEVER THE INPUT: true; the input reads as it did. -/
def headerApartSpec : ChangeSpec := { name := "headerApart", fn := fun _ => fun
  | [d1, d2, d3] => { results := [.lit (.bool true)], args := [d1, d2, d3] }
  | _ => none }
def headerApartRow : OpenClaim := { program := "ytekhkgcdgkfflaa", sum := "9da0e18b8c7aa2302b623cebdc2f744d56701af329ecdea98b8c6932202ba4a5", func := "shunter/shunterlaw04.HeaderApart", spec := "headerApart", unfollowed := true, recurses := true, apart := false }
def HeaderApartSaid : Prop := headerApartRow.holds Try.pinned (OpenSpec.ofChange headerApartSpec)

/-- ITS FALSE NEIGHBOUR: 'it returns false'. Refute it at one input. -/
def headerApartWrong : ChangeSpec := { name := "headerApart", fn := fun _ => fun
  | [d1, d2, d3] => { results := [.lit (.bool false)], args := [d1, d2, d3] }
  | _ => none }
def HeaderApartWrongFalsely : Prop := headerApartRow.holds Try.pinned (OpenSpec.ofChange headerApartWrong)

/-- 'shunterlaw04.HeaderSizes': WHATEVER THE INPUT: true; the input reads as it did. -/
def headerSizesSpec : ChangeSpec := { name := "headerSizes", fn := fun _ => fun
  | [d1, d2] => { results := [.lit (.bool true)], args := [d1, d2] }
  | _ => none }
def headerSizesRow : OpenClaim := { program := "ytekhkgcdgkfflaa", sum := "9da0e18b8c7aa2302b623cebdc2f744d56701af329ecdea98b8c6932202ba4a5", func := "shunter/shunterlaw04.HeaderSizes", spec := "headerSizes", unfollowed := true, recurses := true, apart := false }
def HeaderSizesSaid : Prop := headerSizesRow.holds Try.pinned (OpenSpec.ofChange headerSizesSpec)

/-- ITS FALSE NEIGHBOUR: 'it returns false'. Refute it at one input. -/
def headerSizesWrong : ChangeSpec := { name := "headerSizes", fn := fun _ => fun
  | [d1, d2] => { results := [.lit (.bool false)], args := [d1, d2] }
  | _ => none }
def HeaderSizesWrongFalsely : Prop := headerSizesRow.holds Try.pinned (OpenSpec.ofChange headerSizesWrong)

/-- 'shunterlaw04.HeaderKnown': WHATEVER THE INPUT: true; the input reads as it did. -/
def headerKnownSpec : ChangeSpec := { name := "headerKnown", fn := fun _ => fun
  | [] => { results := [.lit (.bool true)], args := [] }
  | _ => none }
def headerKnownRow : OpenClaim := { program := "ytekhkgcdgkfflaa", sum := "9da0e18b8c7aa2302b623cebdc2f744d56701af329ecdea98b8c6932202ba4a5", func := "shunter/shunterlaw04.HeaderKnown", spec := "headerKnown", unfollowed := true, recurses := true, apart := false }
def HeaderKnownSaid : Prop := headerKnownRow.holds Try.pinned (OpenSpec.ofChange headerKnownSpec)

/-- ITS FALSE NEIGHBOUR: 'it returns false'. Refute it at one input. -/
def headerKnownWrong : ChangeSpec := { name := "headerKnown", fn := fun _ => fun
  | [] => { results := [.lit (.bool false)], args := [] }
  | _ => none }
def HeaderKnownWrongFalsely : Prop := headerKnownRow.holds Try.pinned (OpenSpec.ofChange headerKnownWrong)

/- THE SECOND FORM. 'bulk': how many values and letters a reading holds, each counted each time it is reached (what is shared counts as often as it is met; a slice's spare places count too). A statement '..UptoSaid' is the law's where the arguments, and the package variables that the reading takes, are together of bulk at most 1048576: NARROWER than '..Said'. Prove '..Said' where nothing that the law and all that it calls make is longer than what came in: it says more and counts as full. Else prove '..UptoSaid'. A law counts once. -/
mutual
def uptoBulk {H : Type} : DataW H → Nat
  | .lit (.string bytes) => bytes.length + 1
  | .lit _ => 1
  | .nil => 1
  | .ptr d => uptoBulk d + 1
  | .slice elems spare => uptoBulkAll elems + uptoBulkAll spare + 1
  | .agg parts => uptoBulkAll parts + 1
  | .iface _ d => uptoBulk d + 1
  | .map entries => uptoBulkEntries entries + 1
  | .held _ => 1
def uptoBulkAll {H : Type} : List (DataW H) → Nat
  | [] => 0
  | d :: r => uptoBulk d + uptoBulkAll r
def uptoBulkEntries {H : Type} : List (Lit × DataW H) → Nat
  | [] => 0
  | x :: r => uptoBulkEntry x + uptoBulkEntries r
def uptoBulkEntry {H : Type} : Lit × DataW H → Nat
  | (.string bytes, d) => bytes.length + uptoBulk d + 1
  | (_, d) => uptoBulk d + 1
 end
def uptoSmall : (H : Type) → List (DataW H) → Bool := fun _ ds => decide (uptoBulkAll ds ≤ 1048576)
def OpenSpec.upto (s : _root_.Go.ChangeSpec) : _root_.Go.OpenSpec := { _root_.Go.OpenSpec.ofChange s with cond := some uptoSmall }

/-- 'shunterlaw04.HeaderShapes', WHERE WHAT IT READS IS OF BULK AT MOST 1048576: true; the input reads as it did. -/
def headerShapesUptoRow : OpenClaim := { program := "ytekhkgcdgkfflaa", sum := "9da0e18b8c7aa2302b623cebdc2f744d56701af329ecdea98b8c6932202ba4a5", func := "shunter/shunterlaw04.HeaderShapes", spec := "headerShapes", unfollowed := true, recurses := true, apart := false, narrowed := true }
def HeaderShapesUptoSaid : Prop := headerShapesUptoRow.holds Try.pinned (OpenSpec.upto headerShapesSpec)

/-- 'shunterlaw04.HeaderWords', WHERE WHAT IT READS IS OF BULK AT MOST 1048576: true; the input reads as it did. -/
def headerWordsUptoRow : OpenClaim := { program := "ytekhkgcdgkfflaa", sum := "9da0e18b8c7aa2302b623cebdc2f744d56701af329ecdea98b8c6932202ba4a5", func := "shunter/shunterlaw04.HeaderWords", spec := "headerWords", unfollowed := true, recurses := true, apart := false, narrowed := true }
def HeaderWordsUptoSaid : Prop := headerWordsUptoRow.holds Try.pinned (OpenSpec.upto headerWordsSpec)

/-- 'shunterlaw04.HeaderMarks', WHERE WHAT IT READS IS OF BULK AT MOST 1048576: true; the input reads as it did. -/
def headerMarksUptoRow : OpenClaim := { program := "ytekhkgcdgkfflaa", sum := "9da0e18b8c7aa2302b623cebdc2f744d56701af329ecdea98b8c6932202ba4a5", func := "shunter/shunterlaw04.HeaderMarks", spec := "headerMarks", unfollowed := true, recurses := true, apart := false, narrowed := true }
def HeaderMarksUptoSaid : Prop := headerMarksUptoRow.holds Try.pinned (OpenSpec.upto headerMarksSpec)

/-- 'shunterlaw04.HeaderBack', WHERE WHAT IT READS IS OF BULK AT MOST 1048576: true; the input reads as it did. -/
def headerBackUptoRow : OpenClaim := { program := "ytekhkgcdgkfflaa", sum := "9da0e18b8c7aa2302b623cebdc2f744d56701af329ecdea98b8c6932202ba4a5", func := "shunter/shunterlaw04.HeaderBack", spec := "headerBack", unfollowed := true, recurses := true, apart := false, narrowed := true }
def HeaderBackUptoSaid : Prop := headerBackUptoRow.holds Try.pinned (OpenSpec.upto headerBackSpec)

/-- 'shunterlaw04.HeaderApart', WHERE WHAT IT READS IS OF BULK AT MOST 1048576: true; the input reads as it did. -/
def headerApartUptoRow : OpenClaim := { program := "ytekhkgcdgkfflaa", sum := "9da0e18b8c7aa2302b623cebdc2f744d56701af329ecdea98b8c6932202ba4a5", func := "shunter/shunterlaw04.HeaderApart", spec := "headerApart", unfollowed := true, recurses := true, apart := false, narrowed := true }
def HeaderApartUptoSaid : Prop := headerApartUptoRow.holds Try.pinned (OpenSpec.upto headerApartSpec)

/-- 'shunterlaw04.HeaderSizes', WHERE WHAT IT READS IS OF BULK AT MOST 1048576: true; the input reads as it did. -/
def headerSizesUptoRow : OpenClaim := { program := "ytekhkgcdgkfflaa", sum := "9da0e18b8c7aa2302b623cebdc2f744d56701af329ecdea98b8c6932202ba4a5", func := "shunter/shunterlaw04.HeaderSizes", spec := "headerSizes", unfollowed := true, recurses := true, apart := false, narrowed := true }
def HeaderSizesUptoSaid : Prop := headerSizesUptoRow.holds Try.pinned (OpenSpec.upto headerSizesSpec)

/-- 'shunterlaw04.HeaderKnown', WHERE WHAT IT READS IS OF BULK AT MOST 1048576: true; the input reads as it did. -/
def headerKnownUptoRow : OpenClaim := { program := "ytekhkgcdgkfflaa", sum := "9da0e18b8c7aa2302b623cebdc2f744d56701af329ecdea98b8c6932202ba4a5", func := "shunter/shunterlaw04.HeaderKnown", spec := "headerKnown", unfollowed := true, recurses := true, apart := false, narrowed := true }
def HeaderKnownUptoSaid : Prop := headerKnownUptoRow.holds Try.pinned (OpenSpec.upto headerKnownSpec)

end Rows
end Go.Proofs.Ytekhkgcdgkfflaa

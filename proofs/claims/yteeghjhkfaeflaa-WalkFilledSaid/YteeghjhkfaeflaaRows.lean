/-
  No cell of these rows narrows 'for every input' (looked for: loops, veiled, ifaces, maps, wideKeys, modest, calm, conditions, laid).
  DERIVED. THE GIVEN ROWS OF THIS SEAT. 8 by the template 'for every input the law returns true; each argument reads behind the call as it read before'; 0 by the template 'total and deterministic' (their statements: YteeghjhkfaeflaaTotals.lean).
  GIVEN WITH THE SEED: the statements are not yours to turn. If you find one false, say at which input.
  Laid BY PROGRAM, IN A SANDBOX (cutbox-rows.mjs): the forced cells as the released guide's own fill.sh prints them over the translation b1b76a49dccafb87… (all of the seat's roots in one cut). By AI agents, Wed Nov 11 2026. No macro, syntax, notation, axiom, sorry.
-/
import Derived.Test.YteeghjhkfaeflaaChecked
import GoSem.Claim
import GoSem.ClaimJoined
import GoSem.ClaimMapViews
import Derived.JoinedTies
import Derived.KernelRfl
namespace Go.Proofs.Yteeghjhkfaeflaa
/- THE CELL 'sum', in the pinned program and in every row, IS THE sha256 OF THE DUMP (.gsa) THAT YteeghjhkfaeflaaProg.lean LOADS. Nothing in Lean hashes anything: it is a label: what it is worth is what the hold of that sum in a sandbox is worth. -/
noncomputable def Try.pinned : Pinned := { name := "yteeghjhkfaeflaa", sum := "b1b76a49dccafb87892b22adda31354e1c494a10ce9e2f31db233b01e24e5b01", checked := Try.checked }
namespace Rows
def none {H : Type} : Left H := { results := [], args := [] }

/-- 'shunterlaw06.WalkObjects': WHATEVER THE INPUT: true; the input reads as it did. -/
def walkObjectsSpec : ChangeSpec := { name := "walkObjects", fn := fun _ => fun
  | [d1, d2, d3] => { results := [.lit (.bool true)], args := [d1, d2, d3] }
  | _ => none }
def walkObjectsRow : OpenClaim := { program := "yteeghjhkfaeflaa", sum := "b1b76a49dccafb87892b22adda31354e1c494a10ce9e2f31db233b01e24e5b01", func := "shunter/shunterlaw06.WalkObjects", spec := "walkObjects", unfollowed := true, recurses := true, apart := false }
def WalkObjectsSaid : Prop := walkObjectsRow.holds Try.pinned (OpenSpec.ofChange walkObjectsSpec)

/-- ITS FALSE NEIGHBOUR: 'it returns false'. Refute it at one input. -/
def walkObjectsWrong : ChangeSpec := { name := "walkObjects", fn := fun _ => fun
  | [d1, d2, d3] => { results := [.lit (.bool false)], args := [d1, d2, d3] }
  | _ => none }
def WalkObjectsWrongFalsely : Prop := walkObjectsRow.holds Try.pinned (OpenSpec.ofChange walkObjectsWrong)

/-- 'shunterlaw06.WalkRefs': WHATEVER THE INPUT: true; the input reads as it did. -/
def walkRefsSpec : ChangeSpec := { name := "walkRefs", fn := fun _ => fun
  | [d1, d2, d3] => { results := [.lit (.bool true)], args := [d1, d2, d3] }
  | _ => none }
def walkRefsRow : OpenClaim := { program := "yteeghjhkfaeflaa", sum := "b1b76a49dccafb87892b22adda31354e1c494a10ce9e2f31db233b01e24e5b01", func := "shunter/shunterlaw06.WalkRefs", spec := "walkRefs", unfollowed := true, recurses := true, apart := false }
def WalkRefsSaid : Prop := walkRefsRow.holds Try.pinned (OpenSpec.ofChange walkRefsSpec)

/-- ITS FALSE NEIGHBOUR: 'it returns false'. Refute it at one input. -/
def walkRefsWrong : ChangeSpec := { name := "walkRefs", fn := fun _ => fun
  | [d1, d2, d3] => { results := [.lit (.bool false)], args := [d1, d2, d3] }
  | _ => none }
def WalkRefsWrongFalsely : Prop := walkRefsRow.holds Try.pinned (OpenSpec.ofChange walkRefsWrong)

/-- 'shunterlaw06.WalkFills': WHATEVER THE INPUT: true; the input reads as it did. -/
def walkFillsSpec : ChangeSpec := { name := "walkFills", fn := fun _ => fun
  | [d1, d2, d3] => { results := [.lit (.bool true)], args := [d1, d2, d3] }
  | _ => none }
def walkFillsRow : OpenClaim := { program := "yteeghjhkfaeflaa", sum := "b1b76a49dccafb87892b22adda31354e1c494a10ce9e2f31db233b01e24e5b01", func := "shunter/shunterlaw06.WalkFills", spec := "walkFills", unfollowed := true, recurses := true, apart := false }
def WalkFillsSaid : Prop := walkFillsRow.holds Try.pinned (OpenSpec.ofChange walkFillsSpec)

/-- ITS FALSE NEIGHBOUR: 'it returns false'. Refute it at one input. -/
def walkFillsWrong : ChangeSpec := { name := "walkFills", fn := fun _ => fun
  | [d1, d2, d3] => { results := [.lit (.bool false)], args := [d1, d2, d3] }
  | _ => none }
def WalkFillsWrongFalsely : Prop := walkFillsRow.holds Try.pinned (OpenSpec.ofChange walkFillsWrong)

/-- 'shunterlaw06.WalkCovers': WHATEVER THE INPUT: true; the input reads as it did. -/
def walkCoversSpec : ChangeSpec := { name := "walkCovers", fn := fun _ => fun
  | [d1, d2] => { results := [.lit (.bool true)], args := [d1, d2] }
  | _ => none }
def walkCoversRow : OpenClaim := { program := "yteeghjhkfaeflaa", sum := "b1b76a49dccafb87892b22adda31354e1c494a10ce9e2f31db233b01e24e5b01", func := "shunter/shunterlaw06.WalkCovers", spec := "walkCovers", unfollowed := true, recurses := true, apart := false }
def WalkCoversSaid : Prop := walkCoversRow.holds Try.pinned (OpenSpec.ofChange walkCoversSpec)

/-- ITS FALSE NEIGHBOUR: 'it returns false'. Refute it at one input. -/
def walkCoversWrong : ChangeSpec := { name := "walkCovers", fn := fun _ => fun
  | [d1, d2] => { results := [.lit (.bool false)], args := [d1, d2] }
  | _ => none }
def WalkCoversWrongFalsely : Prop := walkCoversRow.holds Try.pinned (OpenSpec.ofChange walkCoversWrong)

/-- 'shunterlaw06.WalkParts': WHATEVER THE INPUT: true; the input reads as it did. -/
def walkPartsSpec : ChangeSpec := { name := "walkParts", fn := fun _ => fun
  | [d1, d2, d3] => { results := [.lit (.bool true)], args := [d1, d2, d3] }
  | _ => none }
def walkPartsRow : OpenClaim := { program := "yteeghjhkfaeflaa", sum := "b1b76a49dccafb87892b22adda31354e1c494a10ce9e2f31db233b01e24e5b01", func := "shunter/shunterlaw06.WalkParts", spec := "walkParts", unfollowed := true, recurses := true, apart := false }
def WalkPartsSaid : Prop := walkPartsRow.holds Try.pinned (OpenSpec.ofChange walkPartsSpec)

/-- ITS FALSE NEIGHBOUR: 'it returns false'. Refute it at one input. -/
def walkPartsWrong : ChangeSpec := { name := "walkParts", fn := fun _ => fun
  | [d1, d2, d3] => { results := [.lit (.bool false)], args := [d1, d2, d3] }
  | _ => none }
def WalkPartsWrongFalsely : Prop := walkPartsRow.holds Try.pinned (OpenSpec.ofChange walkPartsWrong)

/-- 'shunterlaw06.WalkTargets': WHATEVER THE INPUT: true; the input reads as it did. -/
def walkTargetsSpec : ChangeSpec := { name := "walkTargets", fn := fun _ => fun
  | [d1, d2, d3] => { results := [.lit (.bool true)], args := [d1, d2, d3] }
  | _ => none }
def walkTargetsRow : OpenClaim := { program := "yteeghjhkfaeflaa", sum := "b1b76a49dccafb87892b22adda31354e1c494a10ce9e2f31db233b01e24e5b01", func := "shunter/shunterlaw06.WalkTargets", spec := "walkTargets", unfollowed := true, recurses := true, apart := false }
def WalkTargetsSaid : Prop := walkTargetsRow.holds Try.pinned (OpenSpec.ofChange walkTargetsSpec)

/-- ITS FALSE NEIGHBOUR: 'it returns false'. Refute it at one input. -/
def walkTargetsWrong : ChangeSpec := { name := "walkTargets", fn := fun _ => fun
  | [d1, d2, d3] => { results := [.lit (.bool false)], args := [d1, d2, d3] }
  | _ => none }
def WalkTargetsWrongFalsely : Prop := walkTargetsRow.holds Try.pinned (OpenSpec.ofChange walkTargetsWrong)

/-- 'shunterlaw06.WalkFilled': WHATEVER THE INPUT: true; the input reads as it did. -/
def walkFilledSpec : ChangeSpec := { name := "walkFilled", fn := fun _ => fun
  | [d1, d2, d3] => { results := [.lit (.bool true)], args := [d1, d2, d3] }
  | _ => none }
def walkFilledRow : OpenClaim := { program := "yteeghjhkfaeflaa", sum := "b1b76a49dccafb87892b22adda31354e1c494a10ce9e2f31db233b01e24e5b01", func := "shunter/shunterlaw06.WalkFilled", spec := "walkFilled", unfollowed := true, recurses := true, apart := false }
def WalkFilledSaid : Prop := walkFilledRow.holds Try.pinned (OpenSpec.ofChange walkFilledSpec)

/-- ITS FALSE NEIGHBOUR: 'it returns false'. Refute it at one input. -/
def walkFilledWrong : ChangeSpec := { name := "walkFilled", fn := fun _ => fun
  | [d1, d2, d3] => { results := [.lit (.bool false)], args := [d1, d2, d3] }
  | _ => none }
def WalkFilledWrongFalsely : Prop := walkFilledRow.holds Try.pinned (OpenSpec.ofChange walkFilledWrong)

/-- 'shunterlaw06.WalkKnown': WHATEVER THE INPUT: true; the input reads as it did. -/
def walkKnownSpec : ChangeSpec := { name := "walkKnown", fn := fun _ => fun
  | [] => { results := [.lit (.bool true)], args := [] }
  | _ => none }
def walkKnownRow : OpenClaim := { program := "yteeghjhkfaeflaa", sum := "b1b76a49dccafb87892b22adda31354e1c494a10ce9e2f31db233b01e24e5b01", func := "shunter/shunterlaw06.WalkKnown", spec := "walkKnown", unfollowed := true, recurses := true, apart := false }
def WalkKnownSaid : Prop := walkKnownRow.holds Try.pinned (OpenSpec.ofChange walkKnownSpec)

/-- ITS FALSE NEIGHBOUR: 'it returns false'. Refute it at one input. -/
def walkKnownWrong : ChangeSpec := { name := "walkKnown", fn := fun _ => fun
  | [] => { results := [.lit (.bool false)], args := [] }
  | _ => none }
def WalkKnownWrongFalsely : Prop := walkKnownRow.holds Try.pinned (OpenSpec.ofChange walkKnownWrong)

/- THE SECOND FORM. 'bulk': how many values and letters a reading holds, each counted each time it is reached (what is shared counts as often as it is met; a slice's spare places count too). A statement '..UptoSaid' is the law's where the arguments, and the package variables that the reading takes, are together of bulk at most 1048576: NARROWER than '..Said'. Prove '..Said' where nothing that the law and all that it calls make is longer than what came in: it says more and counts as full. Else prove '..UptoSaid'. A law counts once. -/
mutual
def uptoBulk {H : Type} : DataW H → Nat
  | .lit (.string bytes) => bytes.length + 1
  | .lit _ => 1
  | .nil => 1
  | .ptr d => uptoBulk d + 1
  | .slice elems spare => uptoBulkAll elems + uptoBulkAll spare + 1
  | .agg parts => uptoBulkAll parts + 1
  | .iface _ d => uptoBulk d + 1
  | .map entries => uptoBulkEntries entries + 1
  | .held _ => 1
def uptoBulkAll {H : Type} : List (DataW H) → Nat
  | [] => 0
  | d :: r => uptoBulk d + uptoBulkAll r
def uptoBulkEntries {H : Type} : List (Lit × DataW H) → Nat
  | [] => 0
  | x :: r => uptoBulkEntry x + uptoBulkEntries r
def uptoBulkEntry {H : Type} : Lit × DataW H → Nat
  | (.string bytes, d) => bytes.length + uptoBulk d + 1
  | (_, d) => uptoBulk d + 1
 end
def uptoSmall : (H : Type) → List (DataW H) → Bool := fun _ ds => decide (uptoBulkAll ds ≤ 1048576)
def OpenSpec.upto (s : _root_.Go.ChangeSpec) : _root_.Go.OpenSpec := { _root_.Go.OpenSpec.ofChange s with cond := some uptoSmall }

/-- 'shunterlaw06.WalkObjects', WHERE WHAT IT READS IS OF BULK AT MOST 1048576: true; the input reads as it did. -/
def walkObjectsUptoRow : OpenClaim := { program := "yteeghjhkfaeflaa", sum := "b1b76a49dccafb87892b22adda31354e1c494a10ce9e2f31db233b01e24e5b01", func := "shunter/shunterlaw06.WalkObjects", spec := "walkObjects", unfollowed := true, recurses := true, apart := false, narrowed := true }
def WalkObjectsUptoSaid : Prop := walkObjectsUptoRow.holds Try.pinned (OpenSpec.upto walkObjectsSpec)

/-- 'shunterlaw06.WalkRefs', WHERE WHAT IT READS IS OF BULK AT MOST 1048576: true; the input reads as it did. -/
def walkRefsUptoRow : OpenClaim := { program := "yteeghjhkfaeflaa", sum := "b1b76a49dccafb87892b22adda31354e1c494a10ce9e2f31db233b01e24e5b01", func := "shunter/shunterlaw06.WalkRefs", spec := "walkRefs", unfollowed := true, recurses := true, apart := false, narrowed := true }
def WalkRefsUptoSaid : Prop := walkRefsUptoRow.holds Try.pinned (OpenSpec.upto walkRefsSpec)

/-- 'shunterlaw06.WalkFills', WHERE WHAT IT READS IS OF BULK AT MOST 1048576: true; the input reads as it did. -/
def walkFillsUptoRow : OpenClaim := { program := "yteeghjhkfaeflaa", sum := "b1b76a49dccafb87892b22adda31354e1c494a10ce9e2f31db233b01e24e5b01", func := "shunter/shunterlaw06.WalkFills", spec := "walkFills", unfollowed := true, recurses := true, apart := false, narrowed := true }
def WalkFillsUptoSaid : Prop := walkFillsUptoRow.holds Try.pinned (OpenSpec.upto walkFillsSpec)

/-- 'shunterlaw06.WalkCovers', WHERE WHAT IT READS IS OF BULK AT MOST 1048576: true; the input reads as it did. -/
def walkCoversUptoRow : OpenClaim := { program := "yteeghjhkfaeflaa", sum := "b1b76a49dccafb87892b22adda31354e1c494a10ce9e2f31db233b01e24e5b01", func := "shunter/shunterlaw06.WalkCovers", spec := "walkCovers", unfollowed := true, recurses := true, apart := false, narrowed := true }
def WalkCoversUptoSaid : Prop := walkCoversUptoRow.holds Try.pinned (OpenSpec.upto walkCoversSpec)

/-- 'shunterlaw06.WalkParts', WHERE WHAT IT READS IS OF BULK AT MOST 1048576: true; the input reads as it did. -/
def walkPartsUptoRow : OpenClaim := { program := "yteeghjhkfaeflaa", sum := "b1b76a49dccafb87892b22adda31354e1c494a10ce9e2f31db233b01e24e5b01", func := "shunter/shunterlaw06.WalkParts", spec := "walkParts", unfollowed := true, recurses := true, apart := false, narrowed := true }
def WalkPartsUptoSaid : Prop := walkPartsUptoRow.holds Try.pinned (OpenSpec.upto walkPartsSpec)

/-- 'shunterlaw06.WalkTargets', WHERE WHAT IT READS IS OF BULK AT MOST 1048576: true; the input reads as it did. -/
def walkTargetsUptoRow : OpenClaim := { program := "yteeghjhkfaeflaa", sum := "b1b76a49dccafb87892b22adda31354e1c494a10ce9e2f31db233b01e24e5b01", func := "shunter/shunterlaw06.WalkTargets", spec := "walkTargets", unfollowed := true, recurses := true, apart := false, narrowed := true }
def WalkTargetsUptoSaid : Prop := walkTargetsUptoRow.holds Try.pinned (OpenSpec.upto walkTargetsSpec)

/-- 'shunterlaw06.WalkFilled', WHERE WHAT IT READS IS OF BULK AT MOST 1048576: true; the input reads as it did. -/
def walkFilledUptoRow : OpenClaim := { program := "yteeghjhkfaeflaa", sum := "b1b76a49dccafb87892b22adda31354e1c494a10ce9e2f31db233b01e24e5b01", func := "shunter/shunterlaw06.WalkFilled", spec := "walkFilled", unfollowed := true, recurses := true, apart := false, narrowed := true }
def WalkFilledUptoSaid : Prop := walkFilledUptoRow.holds Try.pinned (OpenSpec.upto walkFilledSpec)

/-- 'shunterlaw06.WalkKnown', WHERE WHAT IT READS IS OF BULK AT MOST 1048576: true; the input reads as it did. -/
def walkKnownUptoRow : OpenClaim := { program := "yteeghjhkfaeflaa", sum := "b1b76a49dccafb87892b22adda31354e1c494a10ce9e2f31db233b01e24e5b01", func := "shunter/shunterlaw06.WalkKnown", spec := "walkKnown", unfollowed := true, recurses := true, apart := false, narrowed := true }
def WalkKnownUptoSaid : Prop := walkKnownUptoRow.holds Try.pinned (OpenSpec.upto walkKnownSpec)

end Rows
end Go.Proofs.Yteeghjhkfaeflaa

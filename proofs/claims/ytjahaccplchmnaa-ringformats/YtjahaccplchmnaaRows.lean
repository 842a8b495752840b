/-
  No cell of these rows narrows 'for every input' (looked for: loops, veiled, ifaces, maps, wideKeys, modest, calm, conditions, laid).
  DERIVED. THE GIVEN ROWS OF THIS SEAT. 13 by the template 'for every input the law returns true; each argument reads behind the call as it read before'; 0 by the template 'total and deterministic' (their statements: YtjahaccplchmnaaTotals.lean).
  GIVEN WITH THE SEED: the statements are not yours to turn. If you find one false, say at which input.
  Laid BY PROGRAM, IN A SANDBOX (cutbox-rows.mjs): the forced cells as the released guide's own fill.sh prints them over the translation 4b4f664a2a694536… (all of the seat's roots in one cut). By AI agents, Wed Nov 11 2026. No macro, syntax, notation, axiom, sorry.
-/
import Derived.Test.YtjahaccplchmnaaChecked
import GoSem.Claim
import GoSem.ClaimJoined
import GoSem.ClaimMapViews
import Derived.JoinedTies
import Derived.KernelRfl
namespace Go.Proofs.Ytjahaccplchmnaa
/- THE CELL 'sum', in the pinned program and in every row, IS THE sha256 OF THE DUMP (.gsa) THAT YtjahaccplchmnaaProg.lean LOADS. Nothing in Lean hashes anything: it is a label: what it is worth is what the hold of that sum in a sandbox is worth. -/
noncomputable def Try.pinned : Pinned := { name := "ytjahaccplchmnaa", sum := "4b4f664a2a69453641f78cb787f7fdb923222f8406b433fd963a08a04fa91d23", checked := Try.checked }
namespace Rows
def none {H : Type} : Left H := { results := [], args := [] }

/-- 'icehouselaw.RingFormats': WHATEVER THE INPUT: true; the input reads as it did. -/
def ringFormatsSpec : ChangeSpec := { name := "ringFormats", fn := fun _ => fun
  | [d1, d2] => { results := [.lit (.bool true)], args := [d1, d2] }
  | _ => none }
def ringFormatsRow : OpenClaim := { program := "ytjahaccplchmnaa", sum := "4b4f664a2a69453641f78cb787f7fdb923222f8406b433fd963a08a04fa91d23", func := "icehouse/icehouselaw.RingFormats", spec := "ringFormats", unfollowed := true, recurses := true, apart := false }
def RingFormatsSaid : Prop := ringFormatsRow.holds Try.pinned (OpenSpec.ofChange ringFormatsSpec)

/-- ITS FALSE NEIGHBOUR: 'it returns false'. Refute it at one input. -/
def ringFormatsWrong : ChangeSpec := { name := "ringFormats", fn := fun _ => fun
  | [d1, d2] => { results := [.lit (.bool false)], args := [d1, d2] }
  | _ => none }
def RingFormatsWrongFalsely : Prop := ringFormatsRow.holds Try.pinned (OpenSpec.ofChange ringFormatsWrong)

/-- 'icehouselaw.RingCommits': WHATEVER THE INPUT: true; the input reads as it did. -/
def ringCommitsSpec : ChangeSpec := { name := "ringCommits", fn := fun _ => fun
  | [d1, d2, d3, d4] => { results := [.lit (.bool true)], args := [d1, d2, d3, d4] }
  | _ => none }
def ringCommitsRow : OpenClaim := { program := "ytjahaccplchmnaa", sum := "4b4f664a2a69453641f78cb787f7fdb923222f8406b433fd963a08a04fa91d23", func := "icehouse/icehouselaw.RingCommits", spec := "ringCommits", unfollowed := true, recurses := true, apart := false }
def RingCommitsSaid : Prop := ringCommitsRow.holds Try.pinned (OpenSpec.ofChange ringCommitsSpec)

/-- ITS FALSE NEIGHBOUR: 'it returns false'. Refute it at one input. -/
def ringCommitsWrong : ChangeSpec := { name := "ringCommits", fn := fun _ => fun
  | [d1, d2, d3, d4] => { results := [.lit (.bool false)], args := [d1, d2, d3, d4] }
  | _ => none }
def RingCommitsWrongFalsely : Prop := ringCommitsRow.holds Try.pinned (OpenSpec.ofChange ringCommitsWrong)

/-- 'icehouselaw.RingSaves': WHATEVER THE INPUT: true; the input reads as it did. -/
def ringSavesSpec : ChangeSpec := { name := "ringSaves", fn := fun _ => fun
  | [d1, d2, d3, d4] => { results := [.lit (.bool true)], args := [d1, d2, d3, d4] }
  | _ => none }
def ringSavesRow : OpenClaim := { program := "ytjahaccplchmnaa", sum := "4b4f664a2a69453641f78cb787f7fdb923222f8406b433fd963a08a04fa91d23", func := "icehouse/icehouselaw.RingSaves", spec := "ringSaves", unfollowed := true, recurses := true, apart := false }
def RingSavesSaid : Prop := ringSavesRow.holds Try.pinned (OpenSpec.ofChange ringSavesSpec)

/-- ITS FALSE NEIGHBOUR: 'it returns false'. Refute it at one input. -/
def ringSavesWrong : ChangeSpec := { name := "ringSaves", fn := fun _ => fun
  | [d1, d2, d3, d4] => { results := [.lit (.bool false)], args := [d1, d2, d3, d4] }
  | _ => none }
def RingSavesWrongFalsely : Prop := ringSavesRow.holds Try.pinned (OpenSpec.ofChange ringSavesWrong)

/-- 'icehouselaw.RingOpens': WHATEVER THE INPUT: true; the input reads as it did. -/
def ringOpensSpec : ChangeSpec := { name := "ringOpens", fn := fun _ => fun
  | [d1, d2] => { results := [.lit (.bool true)], args := [d1, d2] }
  | _ => none }
def ringOpensRow : OpenClaim := { program := "ytjahaccplchmnaa", sum := "4b4f664a2a69453641f78cb787f7fdb923222f8406b433fd963a08a04fa91d23", func := "icehouse/icehouselaw.RingOpens", spec := "ringOpens", unfollowed := true, recurses := true, apart := false }
def RingOpensSaid : Prop := ringOpensRow.holds Try.pinned (OpenSpec.ofChange ringOpensSpec)

/-- ITS FALSE NEIGHBOUR: 'it returns false'. Refute it at one input. -/
def ringOpensWrong : ChangeSpec := { name := "ringOpens", fn := fun _ => fun
  | [d1, d2] => { results := [.lit (.bool false)], args := [d1, d2] }
  | _ => none }
def RingOpensWrongFalsely : Prop := ringOpensRow.holds Try.pinned (OpenSpec.ofChange ringOpensWrong)

/-- 'icehousekeep.FormatEmpty': WHATEVER THE INPUT: true; the input reads as it did. -/
def formatEmptySpec : ChangeSpec := { name := "formatEmpty", fn := fun _ => fun
  | [d1, d2, d3, d4] => { results := [.lit (.bool true)], args := [d1, d2, d3, d4] }
  | _ => none }
def formatEmptyRow : OpenClaim := { program := "ytjahaccplchmnaa", sum := "4b4f664a2a69453641f78cb787f7fdb923222f8406b433fd963a08a04fa91d23", func := "icehouse/icehousekeep.FormatEmpty", spec := "formatEmpty", unfollowed := true, recurses := true, apart := false }
def FormatEmptySaid : Prop := formatEmptyRow.holds Try.pinned (OpenSpec.ofChange formatEmptySpec)

/-- ITS FALSE NEIGHBOUR: 'it returns false'. Refute it at one input. -/
def formatEmptyWrong : ChangeSpec := { name := "formatEmpty", fn := fun _ => fun
  | [d1, d2, d3, d4] => { results := [.lit (.bool false)], args := [d1, d2, d3, d4] }
  | _ => none }
def FormatEmptyWrongFalsely : Prop := formatEmptyRow.holds Try.pinned (OpenSpec.ofChange formatEmptyWrong)

/-- 'icehousekeep.CommitFound': WHATEVER THE INPUT: true; the input reads as it did. -/
def commitFoundSpec : ChangeSpec := { name := "commitFound", fn := fun _ => fun
  | [d1, d2, d3] => { results := [.lit (.bool true)], args := [d1, d2, d3] }
  | _ => none }
def commitFoundRow : OpenClaim := { program := "ytjahaccplchmnaa", sum := "4b4f664a2a69453641f78cb787f7fdb923222f8406b433fd963a08a04fa91d23", func := "icehouse/icehousekeep.CommitFound", spec := "commitFound", unfollowed := true, recurses := true, apart := false }
def CommitFoundSaid : Prop := commitFoundRow.holds Try.pinned (OpenSpec.ofChange commitFoundSpec)

/-- ITS FALSE NEIGHBOUR: 'it returns false'. Refute it at one input. -/
def commitFoundWrong : ChangeSpec := { name := "commitFound", fn := fun _ => fun
  | [d1, d2, d3] => { results := [.lit (.bool false)], args := [d1, d2, d3] }
  | _ => none }
def CommitFoundWrongFalsely : Prop := commitFoundRow.holds Try.pinned (OpenSpec.ofChange commitFoundWrong)

/-- 'icehousekeep.CommitDies': WHATEVER THE INPUT: true; the input reads as it did. -/
def commitDiesSpec : ChangeSpec := { name := "commitDies", fn := fun _ => fun
  | [d1, d2, d3, d4, d5] => { results := [.lit (.bool true)], args := [d1, d2, d3, d4, d5] }
  | _ => none }
def commitDiesRow : OpenClaim := { program := "ytjahaccplchmnaa", sum := "4b4f664a2a69453641f78cb787f7fdb923222f8406b433fd963a08a04fa91d23", func := "icehouse/icehousekeep.CommitDies", spec := "commitDies", unfollowed := true, recurses := true, apart := false }
def CommitDiesSaid : Prop := commitDiesRow.holds Try.pinned (OpenSpec.ofChange commitDiesSpec)

/-- ITS FALSE NEIGHBOUR: 'it returns false'. Refute it at one input. -/
def commitDiesWrong : ChangeSpec := { name := "commitDies", fn := fun _ => fun
  | [d1, d2, d3, d4, d5] => { results := [.lit (.bool false)], args := [d1, d2, d3, d4, d5] }
  | _ => none }
def CommitDiesWrongFalsely : Prop := commitDiesRow.holds Try.pinned (OpenSpec.ofChange commitDiesWrong)

/-- 'icehousekeep.CommitAgain': WHATEVER THE INPUT: true; the input reads as it did. -/
def commitAgainSpec : ChangeSpec := { name := "commitAgain", fn := fun _ => fun
  | [d1, d2, d3, d4, d5, d6] => { results := [.lit (.bool true)], args := [d1, d2, d3, d4, d5, d6] }
  | _ => none }
def commitAgainRow : OpenClaim := { program := "ytjahaccplchmnaa", sum := "4b4f664a2a69453641f78cb787f7fdb923222f8406b433fd963a08a04fa91d23", func := "icehouse/icehousekeep.CommitAgain", spec := "commitAgain", unfollowed := true, recurses := true, apart := false }
def CommitAgainSaid : Prop := commitAgainRow.holds Try.pinned (OpenSpec.ofChange commitAgainSpec)

/-- ITS FALSE NEIGHBOUR: 'it returns false'. Refute it at one input. -/
def commitAgainWrong : ChangeSpec := { name := "commitAgain", fn := fun _ => fun
  | [d1, d2, d3, d4, d5, d6] => { results := [.lit (.bool false)], args := [d1, d2, d3, d4, d5, d6] }
  | _ => none }
def CommitAgainWrongFalsely : Prop := commitAgainRow.holds Try.pinned (OpenSpec.ofChange commitAgainWrong)

/-- 'icehousekeep.SaveFound': WHATEVER THE INPUT: true; the input reads as it did. -/
def saveFoundSpec : ChangeSpec := { name := "saveFound", fn := fun _ => fun
  | [d1, d2, d3, d4, d5] => { results := [.lit (.bool true)], args := [d1, d2, d3, d4, d5] }
  | _ => none }
def saveFoundRow : OpenClaim := { program := "ytjahaccplchmnaa", sum := "4b4f664a2a69453641f78cb787f7fdb923222f8406b433fd963a08a04fa91d23", func := "icehouse/icehousekeep.SaveFound", spec := "saveFound", unfollowed := true, recurses := true, apart := false }
def SaveFoundSaid : Prop := saveFoundRow.holds Try.pinned (OpenSpec.ofChange saveFoundSpec)

/-- ITS FALSE NEIGHBOUR: 'it returns false'. Refute it at one input. -/
def saveFoundWrong : ChangeSpec := { name := "saveFound", fn := fun _ => fun
  | [d1, d2, d3, d4, d5] => { results := [.lit (.bool false)], args := [d1, d2, d3, d4, d5] }
  | _ => none }
def SaveFoundWrongFalsely : Prop := saveFoundRow.holds Try.pinned (OpenSpec.ofChange saveFoundWrong)

/-- 'icehousekeep.SaveDies': WHATEVER THE INPUT: true; the input reads as it did. -/
def saveDiesSpec : ChangeSpec := { name := "saveDies", fn := fun _ => fun
  | [d1, d2, d3, d4, d5] => { results := [.lit (.bool true)], args := [d1, d2, d3, d4, d5] }
  | _ => none }
def saveDiesRow : OpenClaim := { program := "ytjahaccplchmnaa", sum := "4b4f664a2a69453641f78cb787f7fdb923222f8406b433fd963a08a04fa91d23", func := "icehouse/icehousekeep.SaveDies", spec := "saveDies", unfollowed := true, recurses := true, apart := false }
def SaveDiesSaid : Prop := saveDiesRow.holds Try.pinned (OpenSpec.ofChange saveDiesSpec)

/-- ITS FALSE NEIGHBOUR: 'it returns false'. Refute it at one input. -/
def saveDiesWrong : ChangeSpec := { name := "saveDies", fn := fun _ => fun
  | [d1, d2, d3, d4, d5] => { results := [.lit (.bool false)], args := [d1, d2, d3, d4, d5] }
  | _ => none }
def SaveDiesWrongFalsely : Prop := saveDiesRow.holds Try.pinned (OpenSpec.ofChange saveDiesWrong)

/-- 'icehousekeep.RingRound': WHATEVER THE INPUT: true; the input reads as it did. -/
def ringRoundSpec : ChangeSpec := { name := "ringRound", fn := fun _ => fun
  | [d1, d2] => { results := [.lit (.bool true)], args := [d1, d2] }
  | _ => none }
def ringRoundRow : OpenClaim := { program := "ytjahaccplchmnaa", sum := "4b4f664a2a69453641f78cb787f7fdb923222f8406b433fd963a08a04fa91d23", func := "icehouse/icehousekeep.RingRound", spec := "ringRound", unfollowed := true, recurses := true, apart := false }
def RingRoundSaid : Prop := ringRoundRow.holds Try.pinned (OpenSpec.ofChange ringRoundSpec)

/-- ITS FALSE NEIGHBOUR: 'it returns false'. Refute it at one input. -/
def ringRoundWrong : ChangeSpec := { name := "ringRound", fn := fun _ => fun
  | [d1, d2] => { results := [.lit (.bool false)], args := [d1, d2] }
  | _ => none }
def RingRoundWrongFalsely : Prop := ringRoundRow.holds Try.pinned (OpenSpec.ofChange ringRoundWrong)

/-- 'icehousekeep.RingFull': WHATEVER THE INPUT: true; the input reads as it did. -/
def ringFullSpec : ChangeSpec := { name := "ringFull", fn := fun _ => fun
  | [d1, d2] => { results := [.lit (.bool true)], args := [d1, d2] }
  | _ => none }
def ringFullRow : OpenClaim := { program := "ytjahaccplchmnaa", sum := "4b4f664a2a69453641f78cb787f7fdb923222f8406b433fd963a08a04fa91d23", func := "icehouse/icehousekeep.RingFull", spec := "ringFull", unfollowed := true, recurses := true, apart := false }
def RingFullSaid : Prop := ringFullRow.holds Try.pinned (OpenSpec.ofChange ringFullSpec)

/-- ITS FALSE NEIGHBOUR: 'it returns false'. Refute it at one input. -/
def ringFullWrong : ChangeSpec := { name := "ringFull", fn := fun _ => fun
  | [d1, d2] => { results := [.lit (.bool false)], args := [d1, d2] }
  | _ => none }
def RingFullWrongFalsely : Prop := ringFullRow.holds Try.pinned (OpenSpec.ofChange ringFullWrong)

/-- 'icehousekeep.OpenOften': WHATEVER THE INPUT: true; the input reads as it did. -/
def openOftenSpec : ChangeSpec := { name := "openOften", fn := fun _ => fun
  | [d1, d2, d3] => { results := [.lit (.bool true)], args := [d1, d2, d3] }
  | _ => none }
def openOftenRow : OpenClaim := { program := "ytjahaccplchmnaa", sum := "4b4f664a2a69453641f78cb787f7fdb923222f8406b433fd963a08a04fa91d23", func := "icehouse/icehousekeep.OpenOften", spec := "openOften", unfollowed := true, recurses := true, apart := false }
def OpenOftenSaid : Prop := openOftenRow.holds Try.pinned (OpenSpec.ofChange openOftenSpec)

/-- ITS FALSE NEIGHBOUR: 'it returns false'. Refute it at one input. -/
def openOftenWrong : ChangeSpec := { name := "openOften", fn := fun _ => fun
  | [d1, d2, d3] => { results := [.lit (.bool false)], args := [d1, d2, d3] }
  | _ => none }
def OpenOftenWrongFalsely : Prop := openOftenRow.holds Try.pinned (OpenSpec.ofChange openOftenWrong)

/- THE SECOND FORM. 'bulk': how many values and letters a reading holds, each counted each time it is reached (what is shared counts as often as it is met; a slice's spare places count too). A statement '..UptoSaid' is the law's where the arguments, and the package variables that the reading takes, are together of bulk at most 1048576: NARROWER than '..Said'. Prove '..Said' where nothing that the law and all that it calls make is longer than what came in: it says more and counts as full. Else prove '..UptoSaid'. A law counts once. -/
mutual
def uptoBulk {H : Type} : DataW H → Nat
  | .lit (.string bytes) => bytes.length + 1
  | .lit _ => 1
  | .nil => 1
  | .ptr d => uptoBulk d + 1
  | .slice elems spare => uptoBulkAll elems + uptoBulkAll spare + 1
  | .agg parts => uptoBulkAll parts + 1
  | .iface _ d => uptoBulk d + 1
  | .map entries => uptoBulkEntries entries + 1
  | .held _ => 1
def uptoBulkAll {H : Type} : List (DataW H) → Nat
  | [] => 0
  | d :: r => uptoBulk d + uptoBulkAll r
def uptoBulkEntries {H : Type} : List (Lit × DataW H) → Nat
  | [] => 0
  | x :: r => uptoBulkEntry x + uptoBulkEntries r
def uptoBulkEntry {H : Type} : Lit × DataW H → Nat
  | (.string bytes, d) => bytes.length + uptoBulk d + 1
  | (_, d) => uptoBulk d + 1
 end
def uptoSmall : (H : Type) → List (DataW H) → Bool := fun _ ds => decide (uptoBulkAll ds ≤ 1048576)
def OpenSpec.upto (s : _root_.Go.ChangeSpec) : _root_.Go.OpenSpec := { _root_.Go.OpenSpec.ofChange s with cond := some uptoSmall }

/-- 'icehouselaw.RingFormats', WHERE WHAT IT READS IS OF BULK AT MOST 1048576: true; the input reads as it did. -/
def ringFormatsUptoRow : OpenClaim := { program := "ytjahaccplchmnaa", sum := "4b4f664a2a69453641f78cb787f7fdb923222f8406b433fd963a08a04fa91d23", func := "icehouse/icehouselaw.RingFormats", spec := "ringFormats", unfollowed := true, recurses := true, apart := false, narrowed := true }
def RingFormatsUptoSaid : Prop := ringFormatsUptoRow.holds Try.pinned (OpenSpec.upto ringFormatsSpec)

/-- 'icehouselaw.RingCommits', WHERE WHAT IT READS IS OF BULK AT MOST 1048576: true; the input reads as it did. -/
def ringCommitsUptoRow : OpenClaim := { program := "ytjahaccplchmnaa", sum := "4b4f664a2a69453641f78cb787f7fdb923222f8406b433fd963a08a04fa91d23", func := "icehouse/icehouselaw.RingCommits", spec := "ringCommits", unfollowed := true, recurses := true, apart := false, narrowed := true }
def RingCommitsUptoSaid : Prop := ringCommitsUptoRow.holds Try.pinned (OpenSpec.upto ringCommitsSpec)

/-- 'icehouselaw.RingSaves', WHERE WHAT IT READS IS OF BULK AT MOST 1048576: true; the input reads as it did. -/
def ringSavesUptoRow : OpenClaim := { program := "ytjahaccplchmnaa", sum := "4b4f664a2a69453641f78cb787f7fdb923222f8406b433fd963a08a04fa91d23", func := "icehouse/icehouselaw.RingSaves", spec := "ringSaves", unfollowed := true, recurses := true, apart := false, narrowed := true }
def RingSavesUptoSaid : Prop := ringSavesUptoRow.holds Try.pinned (OpenSpec.upto ringSavesSpec)

/-- 'icehouselaw.RingOpens', WHERE WHAT IT READS IS OF BULK AT MOST 1048576: true; the input reads as it did. -/
def ringOpensUptoRow : OpenClaim := { program := "ytjahaccplchmnaa", sum := "4b4f664a2a69453641f78cb787f7fdb923222f8406b433fd963a08a04fa91d23", func := "icehouse/icehouselaw.RingOpens", spec := "ringOpens", unfollowed := true, recurses := true, apart := false, narrowed := true }
def RingOpensUptoSaid : Prop := ringOpensUptoRow.holds Try.pinned (OpenSpec.upto ringOpensSpec)

/-- 'icehousekeep.FormatEmpty', WHERE WHAT IT READS IS OF BULK AT MOST 1048576: true; the input reads as it did. -/
def formatEmptyUptoRow : OpenClaim := { program := "ytjahaccplchmnaa", sum := "4b4f664a2a69453641f78cb787f7fdb923222f8406b433fd963a08a04fa91d23", func := "icehouse/icehousekeep.FormatEmpty", spec := "formatEmpty", unfollowed := true, recurses := true, apart := false, narrowed := true }
def FormatEmptyUptoSaid : Prop := formatEmptyUptoRow.holds Try.pinned (OpenSpec.upto formatEmptySpec)

/-- 'icehousekeep.CommitFound', WHERE WHAT IT READS IS OF BULK AT MOST 1048576: true; the input reads as it did. -/
def commitFoundUptoRow : OpenClaim := { program := "ytjahaccplchmnaa", sum := "4b4f664a2a69453641f78cb787f7fdb923222f8406b433fd963a08a04fa91d23", func := "icehouse/icehousekeep.CommitFound", spec := "commitFound", unfollowed := true, recurses := true, apart := false, narrowed := true }
def CommitFoundUptoSaid : Prop := commitFoundUptoRow.holds Try.pinned (OpenSpec.upto commitFoundSpec)

/-- 'icehousekeep.CommitDies', WHERE WHAT IT READS IS OF BULK AT MOST 1048576: true; the input reads as it did. -/
def commitDiesUptoRow : OpenClaim := { program := "ytjahaccplchmnaa", sum := "4b4f664a2a69453641f78cb787f7fdb923222f8406b433fd963a08a04fa91d23", func := "icehouse/icehousekeep.CommitDies", spec := "commitDies", unfollowed := true, recurses := true, apart := false, narrowed := true }
def CommitDiesUptoSaid : Prop := commitDiesUptoRow.holds Try.pinned (OpenSpec.upto commitDiesSpec)

/-- 'icehousekeep.CommitAgain', WHERE WHAT IT READS IS OF BULK AT MOST 1048576: true; the input reads as it did. -/
def commitAgainUptoRow : OpenClaim := { program := "ytjahaccplchmnaa", sum := "4b4f664a2a69453641f78cb787f7fdb923222f8406b433fd963a08a04fa91d23", func := "icehouse/icehousekeep.CommitAgain", spec := "commitAgain", unfollowed := true, recurses := true, apart := false, narrowed := true }
def CommitAgainUptoSaid : Prop := commitAgainUptoRow.holds Try.pinned (OpenSpec.upto commitAgainSpec)

/-- 'icehousekeep.SaveFound', WHERE WHAT IT READS IS OF BULK AT MOST 1048576: true; the input reads as it did. -/
def saveFoundUptoRow : OpenClaim := { program := "ytjahaccplchmnaa", sum := "4b4f664a2a69453641f78cb787f7fdb923222f8406b433fd963a08a04fa91d23", func := "icehouse/icehousekeep.SaveFound", spec := "saveFound", unfollowed := true, recurses := true, apart := false, narrowed := true }
def SaveFoundUptoSaid : Prop := saveFoundUptoRow.holds Try.pinned (OpenSpec.upto saveFoundSpec)

/-- 'icehousekeep.SaveDies', WHERE WHAT IT READS IS OF BULK AT MOST 1048576: true; the input reads as it did. -/
def saveDiesUptoRow : OpenClaim := { program := "ytjahaccplchmnaa", sum := "4b4f664a2a69453641f78cb787f7fdb923222f8406b433fd963a08a04fa91d23", func := "icehouse/icehousekeep.SaveDies", spec := "saveDies", unfollowed := true, recurses := true, apart := false, narrowed := true }
def SaveDiesUptoSaid : Prop := saveDiesUptoRow.holds Try.pinned (OpenSpec.upto saveDiesSpec)

/-- 'icehousekeep.RingRound', WHERE WHAT IT READS IS OF BULK AT MOST 1048576: true; the input reads as it did. -/
def ringRoundUptoRow : OpenClaim := { program := "ytjahaccplchmnaa", sum := "4b4f664a2a69453641f78cb787f7fdb923222f8406b433fd963a08a04fa91d23", func := "icehouse/icehousekeep.RingRound", spec := "ringRound", unfollowed := true, recurses := true, apart := false, narrowed := true }
def RingRoundUptoSaid : Prop := ringRoundUptoRow.holds Try.pinned (OpenSpec.upto ringRoundSpec)

/-- 'icehousekeep.RingFull', WHERE WHAT IT READS IS OF BULK AT MOST 1048576: true; the input reads as it did. -/
def ringFullUptoRow : OpenClaim := { program := "ytjahaccplchmnaa", sum := "4b4f664a2a69453641f78cb787f7fdb923222f8406b433fd963a08a04fa91d23", func := "icehouse/icehousekeep.RingFull", spec := "ringFull", unfollowed := true, recurses := true, apart := false, narrowed := true }
def RingFullUptoSaid : Prop := ringFullUptoRow.holds Try.pinned (OpenSpec.upto ringFullSpec)

/-- 'icehousekeep.OpenOften', WHERE WHAT IT READS IS OF BULK AT MOST 1048576: true; the input reads as it did. -/
def openOftenUptoRow : OpenClaim := { program := "ytjahaccplchmnaa", sum := "4b4f664a2a69453641f78cb787f7fdb923222f8406b433fd963a08a04fa91d23", func := "icehouse/icehousekeep.OpenOften", spec := "openOften", unfollowed := true, recurses := true, apart := false, narrowed := true }
def OpenOftenUptoSaid : Prop := openOftenUptoRow.holds Try.pinned (OpenSpec.upto openOftenSpec)

end Rows
end Go.Proofs.Ytjahaccplchmnaa

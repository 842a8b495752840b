/-
  No cell of these rows narrows 'for every input' (looked for: loops, veiled, ifaces, maps, wideKeys, modest, calm, conditions, laid).
  DERIVED. THE GIVEN ROWS OF THIS SEAT. 19 by the template 'for every input the law returns true; each argument reads behind the call as it read before'; 0 by the template 'total and deterministic' (their statements: YtkcakecmhoamaaaTotals.lean).
  GIVEN WITH THE SEED: the statements are not yours to turn. If you find one false, say at which input.
  Laid BY PROGRAM, IN A SANDBOX (cutbox-rows.mjs): the forced cells as the released guide's own fill.sh prints them over the translation 2d15d7e48c884b0e… (all of the seat's roots in one cut). By AI agents, Wed Nov 11 2026. No macro, syntax, notation, axiom, sorry.
-/
import Derived.Test.YtkcakecmhoamaaaChecked
import GoSem.Claim
import GoSem.ClaimJoined
import GoSem.ClaimMapViews
import Derived.JoinedTies
import Derived.KernelRfl
namespace Go.Proofs.Ytkcakecmhoamaaa
/- THE CELL 'sum', in the pinned program and in every row, IS THE sha256 OF THE DUMP (.gsa) THAT YtkcakecmhoamaaaProg.lean LOADS. Nothing in Lean hashes anything: it is a label: what it is worth is what the hold of that sum in a sandbox is worth. -/
noncomputable def Try.pinned : Pinned := { name := "ytkcakecmhoamaaa", sum := "2d15d7e48c884b0e1334a1ebcdb80626069d57143dea834e6d5624a52aa2bc75", checked := Try.checked }
namespace Rows
def none {H : Type} : Left H := { results := [], args := [] }

/-- 'icehouselaw.DevGeometry': WHATEVER THE INPUT: true; the input reads as it did. -/
def devGeometrySpec : ChangeSpec := { name := "devGeometry", fn := fun _ => fun
  | [d] => { results := [.lit (.bool true)], args := [d] }
  | _ => none }
def devGeometryRow : OpenClaim := { program := "ytkcakecmhoamaaa", sum := "2d15d7e48c884b0e1334a1ebcdb80626069d57143dea834e6d5624a52aa2bc75", func := "icehouse/icehouselaw.DevGeometry", spec := "devGeometry", apart := false }
def DevGeometrySaid : Prop := devGeometryRow.holds Try.pinned (OpenSpec.ofChange devGeometrySpec)

/-- ITS FALSE NEIGHBOUR: 'it returns false'. Refute it at one input. -/
def devGeometryWrong : ChangeSpec := { name := "devGeometry", fn := fun _ => fun
  | [d] => { results := [.lit (.bool false)], args := [d] }
  | _ => none }
def DevGeometryWrongFalsely : Prop := devGeometryRow.holds Try.pinned (OpenSpec.ofChange devGeometryWrong)

/-- 'icehouselaw.DevNew': WHATEVER THE INPUT: true; the input reads as it did. -/
def devNewSpec : ChangeSpec := { name := "devNew", fn := fun _ => fun
  | [d] => { results := [.lit (.bool true)], args := [d] }
  | _ => none }
def devNewRow : OpenClaim := { program := "ytkcakecmhoamaaa", sum := "2d15d7e48c884b0e1334a1ebcdb80626069d57143dea834e6d5624a52aa2bc75", func := "icehouse/icehouselaw.DevNew", spec := "devNew", apart := false }
def DevNewSaid : Prop := devNewRow.holds Try.pinned (OpenSpec.ofChange devNewSpec)

/-- ITS FALSE NEIGHBOUR: 'it returns false'. Refute it at one input. -/
def devNewWrong : ChangeSpec := { name := "devNew", fn := fun _ => fun
  | [d] => { results := [.lit (.bool false)], args := [d] }
  | _ => none }
def DevNewWrongFalsely : Prop := devNewRow.holds Try.pinned (OpenSpec.ofChange devNewWrong)

/-- 'icehouselaw.DevChecks': WHATEVER THE INPUT: true; the input reads as it did. -/
def devChecksSpec : ChangeSpec := { name := "devChecks", fn := fun _ => fun
  | [d1, d2] => { results := [.lit (.bool true)], args := [d1, d2] }
  | _ => none }
def devChecksRow : OpenClaim := { program := "ytkcakecmhoamaaa", sum := "2d15d7e48c884b0e1334a1ebcdb80626069d57143dea834e6d5624a52aa2bc75", func := "icehouse/icehouselaw.DevChecks", spec := "devChecks", unfollowed := true, recurses := true, apart := false }
def DevChecksSaid : Prop := devChecksRow.holds Try.pinned (OpenSpec.ofChange devChecksSpec)

/-- ITS FALSE NEIGHBOUR: 'it returns false'. Refute it at one input. -/
def devChecksWrong : ChangeSpec := { name := "devChecks", fn := fun _ => fun
  | [d1, d2] => { results := [.lit (.bool false)], args := [d1, d2] }
  | _ => none }
def DevChecksWrongFalsely : Prop := devChecksRow.holds Try.pinned (OpenSpec.ofChange devChecksWrong)

/-- 'icehouselaw.DevPuts': WHATEVER THE INPUT: true; the input reads as it did. -/
def devPutsSpec : ChangeSpec := { name := "devPuts", fn := fun _ => fun
  | [d1, d2, d3, d4] => { results := [.lit (.bool true)], args := [d1, d2, d3, d4] }
  | _ => none }
def devPutsRow : OpenClaim := { program := "ytkcakecmhoamaaa", sum := "2d15d7e48c884b0e1334a1ebcdb80626069d57143dea834e6d5624a52aa2bc75", func := "icehouse/icehouselaw.DevPuts", spec := "devPuts", unfollowed := true, recurses := true, apart := false }
def DevPutsSaid : Prop := devPutsRow.holds Try.pinned (OpenSpec.ofChange devPutsSpec)

/-- ITS FALSE NEIGHBOUR: 'it returns false'. Refute it at one input. -/
def devPutsWrong : ChangeSpec := { name := "devPuts", fn := fun _ => fun
  | [d1, d2, d3, d4] => { results := [.lit (.bool false)], args := [d1, d2, d3, d4] }
  | _ => none }
def DevPutsWrongFalsely : Prop := devPutsRow.holds Try.pinned (OpenSpec.ofChange devPutsWrong)

/-- 'icehouselaw.DevGets': WHATEVER THE INPUT: true; the input reads as it did. -/
def devGetsSpec : ChangeSpec := { name := "devGets", fn := fun _ => fun
  | [d1, d2, d3] => { results := [.lit (.bool true)], args := [d1, d2, d3] }
  | _ => none }
def devGetsRow : OpenClaim := { program := "ytkcakecmhoamaaa", sum := "2d15d7e48c884b0e1334a1ebcdb80626069d57143dea834e6d5624a52aa2bc75", func := "icehouse/icehouselaw.DevGets", spec := "devGets", unfollowed := true, recurses := true, apart := false }
def DevGetsSaid : Prop := devGetsRow.holds Try.pinned (OpenSpec.ofChange devGetsSpec)

/-- ITS FALSE NEIGHBOUR: 'it returns false'. Refute it at one input. -/
def devGetsWrong : ChangeSpec := { name := "devGets", fn := fun _ => fun
  | [d1, d2, d3] => { results := [.lit (.bool false)], args := [d1, d2, d3] }
  | _ => none }
def DevGetsWrongFalsely : Prop := devGetsRow.holds Try.pinned (OpenSpec.ofChange devGetsWrong)

/-- 'icehouselaw.DevFlushes': WHATEVER THE INPUT: true; the input reads as it did. -/
def devFlushesSpec : ChangeSpec := { name := "devFlushes", fn := fun _ => fun
  | [d1, d2] => { results := [.lit (.bool true)], args := [d1, d2] }
  | _ => none }
def devFlushesRow : OpenClaim := { program := "ytkcakecmhoamaaa", sum := "2d15d7e48c884b0e1334a1ebcdb80626069d57143dea834e6d5624a52aa2bc75", func := "icehouse/icehouselaw.DevFlushes", spec := "devFlushes", unfollowed := true, recurses := true, apart := false }
def DevFlushesSaid : Prop := devFlushesRow.holds Try.pinned (OpenSpec.ofChange devFlushesSpec)

/-- ITS FALSE NEIGHBOUR: 'it returns false'. Refute it at one input. -/
def devFlushesWrong : ChangeSpec := { name := "devFlushes", fn := fun _ => fun
  | [d1, d2] => { results := [.lit (.bool false)], args := [d1, d2] }
  | _ => none }
def DevFlushesWrongFalsely : Prop := devFlushesRow.holds Try.pinned (OpenSpec.ofChange devFlushesWrong)

/-- 'icehouselaw.DevAppends': WHATEVER THE INPUT: true; the input reads as it did. -/
def devAppendsSpec : ChangeSpec := { name := "devAppends", fn := fun _ => fun
  | [d1, d2, d3, d4] => { results := [.lit (.bool true)], args := [d1, d2, d3, d4] }
  | _ => none }
def devAppendsRow : OpenClaim := { program := "ytkcakecmhoamaaa", sum := "2d15d7e48c884b0e1334a1ebcdb80626069d57143dea834e6d5624a52aa2bc75", func := "icehouse/icehouselaw.DevAppends", spec := "devAppends", unfollowed := true, recurses := true, apart := false }
def DevAppendsSaid : Prop := devAppendsRow.holds Try.pinned (OpenSpec.ofChange devAppendsSpec)

/-- ITS FALSE NEIGHBOUR: 'it returns false'. Refute it at one input. -/
def devAppendsWrong : ChangeSpec := { name := "devAppends", fn := fun _ => fun
  | [d1, d2, d3, d4] => { results := [.lit (.bool false)], args := [d1, d2, d3, d4] }
  | _ => none }
def DevAppendsWrongFalsely : Prop := devAppendsRow.holds Try.pinned (OpenSpec.ofChange devAppendsWrong)

/-- 'icehouselaw.DevMarks': WHATEVER THE INPUT: true; the input reads as it did. -/
def devMarksSpec : ChangeSpec := { name := "devMarks", fn := fun _ => fun
  | [d1, d2] => { results := [.lit (.bool true)], args := [d1, d2] }
  | _ => none }
def devMarksRow : OpenClaim := { program := "ytkcakecmhoamaaa", sum := "2d15d7e48c884b0e1334a1ebcdb80626069d57143dea834e6d5624a52aa2bc75", func := "icehouse/icehouselaw.DevMarks", spec := "devMarks", unfollowed := true, recurses := true, apart := false }
def DevMarksSaid : Prop := devMarksRow.holds Try.pinned (OpenSpec.ofChange devMarksSpec)

/-- ITS FALSE NEIGHBOUR: 'it returns false'. Refute it at one input. -/
def devMarksWrong : ChangeSpec := { name := "devMarks", fn := fun _ => fun
  | [d1, d2] => { results := [.lit (.bool false)], args := [d1, d2] }
  | _ => none }
def DevMarksWrongFalsely : Prop := devMarksRow.holds Try.pinned (OpenSpec.ofChange devMarksWrong)

/-- 'icehouselaw.DevFetches': WHATEVER THE INPUT: true; the input reads as it did. -/
def devFetchesSpec : ChangeSpec := { name := "devFetches", fn := fun _ => fun
  | [d1, d2, d3, d4, d5] => { results := [.lit (.bool true)], args := [d1, d2, d3, d4, d5] }
  | _ => none }
def devFetchesRow : OpenClaim := { program := "ytkcakecmhoamaaa", sum := "2d15d7e48c884b0e1334a1ebcdb80626069d57143dea834e6d5624a52aa2bc75", func := "icehouse/icehouselaw.DevFetches", spec := "devFetches", unfollowed := true, recurses := true, apart := false }
def DevFetchesSaid : Prop := devFetchesRow.holds Try.pinned (OpenSpec.ofChange devFetchesSpec)

/-- ITS FALSE NEIGHBOUR: 'it returns false'. Refute it at one input. -/
def devFetchesWrong : ChangeSpec := { name := "devFetches", fn := fun _ => fun
  | [d1, d2, d3, d4, d5] => { results := [.lit (.bool false)], args := [d1, d2, d3, d4, d5] }
  | _ => none }
def DevFetchesWrongFalsely : Prop := devFetchesRow.holds Try.pinned (OpenSpec.ofChange devFetchesWrong)

/-- 'icehouselaw.DevTakes': WHATEVER THE INPUT: true; the input reads as it did. -/
def devTakesSpec : ChangeSpec := { name := "devTakes", fn := fun _ => fun
  | [d1, d2, d3] => { results := [.lit (.bool true)], args := [d1, d2, d3] }
  | _ => none }
def devTakesRow : OpenClaim := { program := "ytkcakecmhoamaaa", sum := "2d15d7e48c884b0e1334a1ebcdb80626069d57143dea834e6d5624a52aa2bc75", func := "icehouse/icehouselaw.DevTakes", spec := "devTakes", unfollowed := true, recurses := true, apart := false }
def DevTakesSaid : Prop := devTakesRow.holds Try.pinned (OpenSpec.ofChange devTakesSpec)

/-- ITS FALSE NEIGHBOUR: 'it returns false'. Refute it at one input. -/
def devTakesWrong : ChangeSpec := { name := "devTakes", fn := fun _ => fun
  | [d1, d2, d3] => { results := [.lit (.bool false)], args := [d1, d2, d3] }
  | _ => none }
def DevTakesWrongFalsely : Prop := devTakesRow.holds Try.pinned (OpenSpec.ofChange devTakesWrong)

/-- 'icehouselaw.DevCrashes': WHATEVER THE INPUT: true; the input reads as it did. -/
def devCrashesSpec : ChangeSpec := { name := "devCrashes", fn := fun _ => fun
  | [d1, d2, d3, d4] => { results := [.lit (.bool true)], args := [d1, d2, d3, d4] }
  | _ => none }
def devCrashesRow : OpenClaim := { program := "ytkcakecmhoamaaa", sum := "2d15d7e48c884b0e1334a1ebcdb80626069d57143dea834e6d5624a52aa2bc75", func := "icehouse/icehouselaw.DevCrashes", spec := "devCrashes", unfollowed := true, recurses := true, apart := false }
def DevCrashesSaid : Prop := devCrashesRow.holds Try.pinned (OpenSpec.ofChange devCrashesSpec)

/-- ITS FALSE NEIGHBOUR: 'it returns false'. Refute it at one input. -/
def devCrashesWrong : ChangeSpec := { name := "devCrashes", fn := fun _ => fun
  | [d1, d2, d3, d4] => { results := [.lit (.bool false)], args := [d1, d2, d3, d4] }
  | _ => none }
def DevCrashesWrongFalsely : Prop := devCrashesRow.holds Try.pinned (OpenSpec.ofChange devCrashesWrong)

/-- 'icehouselaw.DevArms': WHATEVER THE INPUT: true; the input reads as it did. -/
def devArmsSpec : ChangeSpec := { name := "devArms", fn := fun _ => fun
  | [d1, d2, d3] => { results := [.lit (.bool true)], args := [d1, d2, d3] }
  | _ => none }
def devArmsRow : OpenClaim := { program := "ytkcakecmhoamaaa", sum := "2d15d7e48c884b0e1334a1ebcdb80626069d57143dea834e6d5624a52aa2bc75", func := "icehouse/icehouselaw.DevArms", spec := "devArms", unfollowed := true, recurses := true, apart := false }
def DevArmsSaid : Prop := devArmsRow.holds Try.pinned (OpenSpec.ofChange devArmsSpec)

/-- ITS FALSE NEIGHBOUR: 'it returns false'. Refute it at one input. -/
def devArmsWrong : ChangeSpec := { name := "devArms", fn := fun _ => fun
  | [d1, d2, d3] => { results := [.lit (.bool false)], args := [d1, d2, d3] }
  | _ => none }
def DevArmsWrongFalsely : Prop := devArmsRow.holds Try.pinned (OpenSpec.ofChange devArmsWrong)

/-- 'icehousekeep.DevGood': WHATEVER THE INPUT: true; the input reads as it did. -/
def devGoodSpec : ChangeSpec := { name := "devGood", fn := fun _ => fun
  | [d] => { results := [.lit (.bool true)], args := [d] }
  | _ => none }
def devGoodRow : OpenClaim := { program := "ytkcakecmhoamaaa", sum := "2d15d7e48c884b0e1334a1ebcdb80626069d57143dea834e6d5624a52aa2bc75", func := "icehouse/icehousekeep.DevGood", spec := "devGood", unfollowed := true, recurses := true, apart := false }
def DevGoodSaid : Prop := devGoodRow.holds Try.pinned (OpenSpec.ofChange devGoodSpec)

/-- ITS FALSE NEIGHBOUR: 'it returns false'. Refute it at one input. -/
def devGoodWrong : ChangeSpec := { name := "devGood", fn := fun _ => fun
  | [d] => { results := [.lit (.bool false)], args := [d] }
  | _ => none }
def DevGoodWrongFalsely : Prop := devGoodRow.holds Try.pinned (OpenSpec.ofChange devGoodWrong)

/-- 'icehousekeep.PutGet': WHATEVER THE INPUT: true; the input reads as it did. -/
def putGetSpec : ChangeSpec := { name := "putGet", fn := fun _ => fun
  | [d1, d2, d3, d4] => { results := [.lit (.bool true)], args := [d1, d2, d3, d4] }
  | _ => none }
def putGetRow : OpenClaim := { program := "ytkcakecmhoamaaa", sum := "2d15d7e48c884b0e1334a1ebcdb80626069d57143dea834e6d5624a52aa2bc75", func := "icehouse/icehousekeep.PutGet", spec := "putGet", unfollowed := true, recurses := true, apart := false }
def PutGetSaid : Prop := putGetRow.holds Try.pinned (OpenSpec.ofChange putGetSpec)

/-- ITS FALSE NEIGHBOUR: 'it returns false'. Refute it at one input. -/
def putGetWrong : ChangeSpec := { name := "putGet", fn := fun _ => fun
  | [d1, d2, d3, d4] => { results := [.lit (.bool false)], args := [d1, d2, d3, d4] }
  | _ => none }
def PutGetWrongFalsely : Prop := putGetRow.holds Try.pinned (OpenSpec.ofChange putGetWrong)

/-- 'icehousekeep.FlushSafe': WHATEVER THE INPUT: true; the input reads as it did. -/
def flushSafeSpec : ChangeSpec := { name := "flushSafe", fn := fun _ => fun
  | [d1, d2, d3, d4] => { results := [.lit (.bool true)], args := [d1, d2, d3, d4] }
  | _ => none }
def flushSafeRow : OpenClaim := { program := "ytkcakecmhoamaaa", sum := "2d15d7e48c884b0e1334a1ebcdb80626069d57143dea834e6d5624a52aa2bc75", func := "icehouse/icehousekeep.FlushSafe", spec := "flushSafe", unfollowed := true, recurses := true, apart := false }
def FlushSafeSaid : Prop := flushSafeRow.holds Try.pinned (OpenSpec.ofChange flushSafeSpec)

/-- ITS FALSE NEIGHBOUR: 'it returns false'. Refute it at one input. -/
def flushSafeWrong : ChangeSpec := { name := "flushSafe", fn := fun _ => fun
  | [d1, d2, d3, d4] => { results := [.lit (.bool false)], args := [d1, d2, d3, d4] }
  | _ => none }
def FlushSafeWrongFalsely : Prop := flushSafeRow.holds Try.pinned (OpenSpec.ofChange flushSafeWrong)

/-- 'icehousekeep.CrashEither': WHATEVER THE INPUT: true; the input reads as it did. -/
def crashEitherSpec : ChangeSpec := { name := "crashEither", fn := fun _ => fun
  | [d1, d2, d3] => { results := [.lit (.bool true)], args := [d1, d2, d3] }
  | _ => none }
def crashEitherRow : OpenClaim := { program := "ytkcakecmhoamaaa", sum := "2d15d7e48c884b0e1334a1ebcdb80626069d57143dea834e6d5624a52aa2bc75", func := "icehouse/icehousekeep.CrashEither", spec := "crashEither", unfollowed := true, recurses := true, apart := false }
def CrashEitherSaid : Prop := crashEitherRow.holds Try.pinned (OpenSpec.ofChange crashEitherSpec)

/-- ITS FALSE NEIGHBOUR: 'it returns false'. Refute it at one input. -/
def crashEitherWrong : ChangeSpec := { name := "crashEither", fn := fun _ => fun
  | [d1, d2, d3] => { results := [.lit (.bool false)], args := [d1, d2, d3] }
  | _ => none }
def CrashEitherWrongFalsely : Prop := crashEitherRow.holds Try.pinned (OpenSpec.ofChange crashEitherWrong)

/-- 'icehousekeep.TapeTail': WHATEVER THE INPUT: true; the input reads as it did. -/
def tapeTailSpec : ChangeSpec := { name := "tapeTail", fn := fun _ => fun
  | [d1, d2, d3] => { results := [.lit (.bool true)], args := [d1, d2, d3] }
  | _ => none }
def tapeTailRow : OpenClaim := { program := "ytkcakecmhoamaaa", sum := "2d15d7e48c884b0e1334a1ebcdb80626069d57143dea834e6d5624a52aa2bc75", func := "icehouse/icehousekeep.TapeTail", spec := "tapeTail", unfollowed := true, recurses := true, apart := false }
def TapeTailSaid : Prop := tapeTailRow.holds Try.pinned (OpenSpec.ofChange tapeTailSpec)

/-- ITS FALSE NEIGHBOUR: 'it returns false'. Refute it at one input. -/
def tapeTailWrong : ChangeSpec := { name := "tapeTail", fn := fun _ => fun
  | [d1, d2, d3] => { results := [.lit (.bool false)], args := [d1, d2, d3] }
  | _ => none }
def TapeTailWrongFalsely : Prop := tapeTailRow.holds Try.pinned (OpenSpec.ofChange tapeTailWrong)

/-- 'icehousekeep.TakeGone': WHATEVER THE INPUT: true; the input reads as it did. -/
def takeGoneSpec : ChangeSpec := { name := "takeGone", fn := fun _ => fun
  | [d1, d2] => { results := [.lit (.bool true)], args := [d1, d2] }
  | _ => none }
def takeGoneRow : OpenClaim := { program := "ytkcakecmhoamaaa", sum := "2d15d7e48c884b0e1334a1ebcdb80626069d57143dea834e6d5624a52aa2bc75", func := "icehouse/icehousekeep.TakeGone", spec := "takeGone", unfollowed := true, recurses := true, apart := false }
def TakeGoneSaid : Prop := takeGoneRow.holds Try.pinned (OpenSpec.ofChange takeGoneSpec)

/-- ITS FALSE NEIGHBOUR: 'it returns false'. Refute it at one input. -/
def takeGoneWrong : ChangeSpec := { name := "takeGone", fn := fun _ => fun
  | [d1, d2] => { results := [.lit (.bool false)], args := [d1, d2] }
  | _ => none }
def TakeGoneWrongFalsely : Prop := takeGoneRow.holds Try.pinned (OpenSpec.ofChange takeGoneWrong)

/-- 'icehousekeep.FuelCounts': WHATEVER THE INPUT: true; the input reads as it did. -/
def fuelCountsSpec : ChangeSpec := { name := "fuelCounts", fn := fun _ => fun
  | [d1, d2] => { results := [.lit (.bool true)], args := [d1, d2] }
  | _ => none }
def fuelCountsRow : OpenClaim := { program := "ytkcakecmhoamaaa", sum := "2d15d7e48c884b0e1334a1ebcdb80626069d57143dea834e6d5624a52aa2bc75", func := "icehouse/icehousekeep.FuelCounts", spec := "fuelCounts", unfollowed := true, recurses := true, apart := false }
def FuelCountsSaid : Prop := fuelCountsRow.holds Try.pinned (OpenSpec.ofChange fuelCountsSpec)

/-- ITS FALSE NEIGHBOUR: 'it returns false'. Refute it at one input. -/
def fuelCountsWrong : ChangeSpec := { name := "fuelCounts", fn := fun _ => fun
  | [d1, d2] => { results := [.lit (.bool false)], args := [d1, d2] }
  | _ => none }
def FuelCountsWrongFalsely : Prop := fuelCountsRow.holds Try.pinned (OpenSpec.ofChange fuelCountsWrong)

/- THE SECOND FORM. 'bulk': how many values and letters a reading holds, each counted each time it is reached (what is shared counts as often as it is met; a slice's spare places count too). A statement '..UptoSaid' is the law's where the arguments, and the package variables that the reading takes, are together of bulk at most 1048576: NARROWER than '..Said'. Prove '..Said' where nothing that the law and all that it calls make is longer than what came in: it says more and counts as full. Else prove '..UptoSaid'. A law counts once. -/
mutual
def uptoBulk {H : Type} : DataW H → Nat
  | .lit (.string bytes) => bytes.length + 1
  | .lit _ => 1
  | .nil => 1
  | .ptr d => uptoBulk d + 1
  | .slice elems spare => uptoBulkAll elems + uptoBulkAll spare + 1
  | .agg parts => uptoBulkAll parts + 1
  | .iface _ d => uptoBulk d + 1
  | .map entries => uptoBulkEntries entries + 1
  | .held _ => 1
def uptoBulkAll {H : Type} : List (DataW H) → Nat
  | [] => 0
  | d :: r => uptoBulk d + uptoBulkAll r
def uptoBulkEntries {H : Type} : List (Lit × DataW H) → Nat
  | [] => 0
  | x :: r => uptoBulkEntry x + uptoBulkEntries r
def uptoBulkEntry {H : Type} : Lit × DataW H → Nat
  | (.string bytes, d) => bytes.length + uptoBulk d + 1
  | (_, d) => uptoBulk d + 1
 end
def uptoSmall : (H : Type) → List (DataW H) → Bool := fun _ ds => decide (uptoBulkAll ds ≤ 1048576)
def OpenSpec.upto (s : _root_.Go.ChangeSpec) : _root_.Go.OpenSpec := { _root_.Go.OpenSpec.ofChange s with cond := some uptoSmall }

/-- 'icehouselaw.DevGeometry', WHERE WHAT IT READS IS OF BULK AT MOST 1048576: true; the input reads as it did. -/
def devGeometryUptoRow : OpenClaim := { program := "ytkcakecmhoamaaa", sum := "2d15d7e48c884b0e1334a1ebcdb80626069d57143dea834e6d5624a52aa2bc75", func := "icehouse/icehouselaw.DevGeometry", spec := "devGeometry", apart := false, narrowed := true }
def DevGeometryUptoSaid : Prop := devGeometryUptoRow.holds Try.pinned (OpenSpec.upto devGeometrySpec)

/-- 'icehouselaw.DevNew', WHERE WHAT IT READS IS OF BULK AT MOST 1048576: true; the input reads as it did. -/
def devNewUptoRow : OpenClaim := { program := "ytkcakecmhoamaaa", sum := "2d15d7e48c884b0e1334a1ebcdb80626069d57143dea834e6d5624a52aa2bc75", func := "icehouse/icehouselaw.DevNew", spec := "devNew", apart := false, narrowed := true }
def DevNewUptoSaid : Prop := devNewUptoRow.holds Try.pinned (OpenSpec.upto devNewSpec)

/-- 'icehouselaw.DevChecks', WHERE WHAT IT READS IS OF BULK AT MOST 1048576: true; the input reads as it did. -/
def devChecksUptoRow : OpenClaim := { program := "ytkcakecmhoamaaa", sum := "2d15d7e48c884b0e1334a1ebcdb80626069d57143dea834e6d5624a52aa2bc75", func := "icehouse/icehouselaw.DevChecks", spec := "devChecks", unfollowed := true, recurses := true, apart := false, narrowed := true }
def DevChecksUptoSaid : Prop := devChecksUptoRow.holds Try.pinned (OpenSpec.upto devChecksSpec)

/-- 'icehouselaw.DevPuts', WHERE WHAT IT READS IS OF BULK AT MOST 1048576: true; the input reads as it did. -/
def devPutsUptoRow : OpenClaim := { program := "ytkcakecmhoamaaa", sum := "2d15d7e48c884b0e1334a1ebcdb80626069d57143dea834e6d5624a52aa2bc75", func := "icehouse/icehouselaw.DevPuts", spec := "devPuts", unfollowed := true, recurses := true, apart := false, narrowed := true }
def DevPutsUptoSaid : Prop := devPutsUptoRow.holds Try.pinned (OpenSpec.upto devPutsSpec)

/-- 'icehouselaw.DevGets', WHERE WHAT IT READS IS OF BULK AT MOST 1048576: true; the input reads as it did. -/
def devGetsUptoRow : OpenClaim := { program := "ytkcakecmhoamaaa", sum := "2d15d7e48c884b0e1334a1ebcdb80626069d57143dea834e6d5624a52aa2bc75", func := "icehouse/icehouselaw.DevGets", spec := "devGets", unfollowed := true, recurses := true, apart := false, narrowed := true }
def DevGetsUptoSaid : Prop := devGetsUptoRow.holds Try.pinned (OpenSpec.upto devGetsSpec)

/-- 'icehouselaw.DevFlushes', WHERE WHAT IT READS IS OF BULK AT MOST 1048576: true; the input reads as it did. -/
def devFlushesUptoRow : OpenClaim := { program := "ytkcakecmhoamaaa", sum := "2d15d7e48c884b0e1334a1ebcdb80626069d57143dea834e6d5624a52aa2bc75", func := "icehouse/icehouselaw.DevFlushes", spec := "devFlushes", unfollowed := true, recurses := true, apart := false, narrowed := true }
def DevFlushesUptoSaid : Prop := devFlushesUptoRow.holds Try.pinned (OpenSpec.upto devFlushesSpec)

/-- 'icehouselaw.DevAppends', WHERE WHAT IT READS IS OF BULK AT MOST 1048576: true; the input reads as it did. -/
def devAppendsUptoRow : OpenClaim := { program := "ytkcakecmhoamaaa", sum := "2d15d7e48c884b0e1334a1ebcdb80626069d57143dea834e6d5624a52aa2bc75", func := "icehouse/icehouselaw.DevAppends", spec := "devAppends", unfollowed := true, recurses := true, apart := false, narrowed := true }
def DevAppendsUptoSaid : Prop := devAppendsUptoRow.holds Try.pinned (OpenSpec.upto devAppendsSpec)

/-- 'icehouselaw.DevMarks', WHERE WHAT IT READS IS OF BULK AT MOST 1048576: true; the input reads as it did. -/
def devMarksUptoRow : OpenClaim := { program := "ytkcakecmhoamaaa", sum := "2d15d7e48c884b0e1334a1ebcdb80626069d57143dea834e6d5624a52aa2bc75", func := "icehouse/icehouselaw.DevMarks", spec := "devMarks", unfollowed := true, recurses := true, apart := false, narrowed := true }
def DevMarksUptoSaid : Prop := devMarksUptoRow.holds Try.pinned (OpenSpec.upto devMarksSpec)

/-- 'icehouselaw.DevFetches', WHERE WHAT IT READS IS OF BULK AT MOST 1048576: true; the input reads as it did. -/
def devFetchesUptoRow : OpenClaim := { program := "ytkcakecmhoamaaa", sum := "2d15d7e48c884b0e1334a1ebcdb80626069d57143dea834e6d5624a52aa2bc75", func := "icehouse/icehouselaw.DevFetches", spec := "devFetches", unfollowed := true, recurses := true, apart := false, narrowed := true }
def DevFetchesUptoSaid : Prop := devFetchesUptoRow.holds Try.pinned (OpenSpec.upto devFetchesSpec)

/-- 'icehouselaw.DevTakes', WHERE WHAT IT READS IS OF BULK AT MOST 1048576: true; the input reads as it did. -/
def devTakesUptoRow : OpenClaim := { program := "ytkcakecmhoamaaa", sum := "2d15d7e48c884b0e1334a1ebcdb80626069d57143dea834e6d5624a52aa2bc75", func := "icehouse/icehouselaw.DevTakes", spec := "devTakes", unfollowed := true, recurses := true, apart := false, narrowed := true }
def DevTakesUptoSaid : Prop := devTakesUptoRow.holds Try.pinned (OpenSpec.upto devTakesSpec)

/-- 'icehouselaw.DevCrashes', WHERE WHAT IT READS IS OF BULK AT MOST 1048576: true; the input reads as it did. -/
def devCrashesUptoRow : OpenClaim := { program := "ytkcakecmhoamaaa", sum := "2d15d7e48c884b0e1334a1ebcdb80626069d57143dea834e6d5624a52aa2bc75", func := "icehouse/icehouselaw.DevCrashes", spec := "devCrashes", unfollowed := true, recurses := true, apart := false, narrowed := true }
def DevCrashesUptoSaid : Prop := devCrashesUptoRow.holds Try.pinned (OpenSpec.upto devCrashesSpec)

/-- 'icehouselaw.DevArms', WHERE WHAT IT READS IS OF BULK AT MOST 1048576: true; the input reads as it did. -/
def devArmsUptoRow : OpenClaim := { program := "ytkcakecmhoamaaa", sum := "2d15d7e48c884b0e1334a1ebcdb80626069d57143dea834e6d5624a52aa2bc75", func := "icehouse/icehouselaw.DevArms", spec := "devArms", unfollowed := true, recurses := true, apart := false, narrowed := true }
def DevArmsUptoSaid : Prop := devArmsUptoRow.holds Try.pinned (OpenSpec.upto devArmsSpec)

/-- 'icehousekeep.DevGood', WHERE WHAT IT READS IS OF BULK AT MOST 1048576: true; the input reads as it did. -/
def devGoodUptoRow : OpenClaim := { program := "ytkcakecmhoamaaa", sum := "2d15d7e48c884b0e1334a1ebcdb80626069d57143dea834e6d5624a52aa2bc75", func := "icehouse/icehousekeep.DevGood", spec := "devGood", unfollowed := true, recurses := true, apart := false, narrowed := true }
def DevGoodUptoSaid : Prop := devGoodUptoRow.holds Try.pinned (OpenSpec.upto devGoodSpec)

/-- 'icehousekeep.PutGet', WHERE WHAT IT READS IS OF BULK AT MOST 1048576: true; the input reads as it did. -/
def putGetUptoRow : OpenClaim := { program := "ytkcakecmhoamaaa", sum := "2d15d7e48c884b0e1334a1ebcdb80626069d57143dea834e6d5624a52aa2bc75", func := "icehouse/icehousekeep.PutGet", spec := "putGet", unfollowed := true, recurses := true, apart := false, narrowed := true }
def PutGetUptoSaid : Prop := putGetUptoRow.holds Try.pinned (OpenSpec.upto putGetSpec)

/-- 'icehousekeep.FlushSafe', WHERE WHAT IT READS IS OF BULK AT MOST 1048576: true; the input reads as it did. -/
def flushSafeUptoRow : OpenClaim := { program := "ytkcakecmhoamaaa", sum := "2d15d7e48c884b0e1334a1ebcdb80626069d57143dea834e6d5624a52aa2bc75", func := "icehouse/icehousekeep.FlushSafe", spec := "flushSafe", unfollowed := true, recurses := true, apart := false, narrowed := true }
def FlushSafeUptoSaid : Prop := flushSafeUptoRow.holds Try.pinned (OpenSpec.upto flushSafeSpec)

/-- 'icehousekeep.CrashEither', WHERE WHAT IT READS IS OF BULK AT MOST 1048576: true; the input reads as it did. -/
def crashEitherUptoRow : OpenClaim := { program := "ytkcakecmhoamaaa", sum := "2d15d7e48c884b0e1334a1ebcdb80626069d57143dea834e6d5624a52aa2bc75", func := "icehouse/icehousekeep.CrashEither", spec := "crashEither", unfollowed := true, recurses := true, apart := false, narrowed := true }
def CrashEitherUptoSaid : Prop := crashEitherUptoRow.holds Try.pinned (OpenSpec.upto crashEitherSpec)

/-- 'icehousekeep.TapeTail', WHERE WHAT IT READS IS OF BULK AT MOST 1048576: true; the input reads as it did. -/
def tapeTailUptoRow : OpenClaim := { program := "ytkcakecmhoamaaa", sum := "2d15d7e48c884b0e1334a1ebcdb80626069d57143dea834e6d5624a52aa2bc75", func := "icehouse/icehousekeep.TapeTail", spec := "tapeTail", unfollowed := true, recurses := true, apart := false, narrowed := true }
def TapeTailUptoSaid : Prop := tapeTailUptoRow.holds Try.pinned (OpenSpec.upto tapeTailSpec)

/-- 'icehousekeep.TakeGone', WHERE WHAT IT READS IS OF BULK AT MOST 1048576: true; the input reads as it did. -/
def takeGoneUptoRow : OpenClaim := { program := "ytkcakecmhoamaaa", sum := "2d15d7e48c884b0e1334a1ebcdb80626069d57143dea834e6d5624a52aa2bc75", func := "icehouse/icehousekeep.TakeGone", spec := "takeGone", unfollowed := true, recurses := true, apart := false, narrowed := true }
def TakeGoneUptoSaid : Prop := takeGoneUptoRow.holds Try.pinned (OpenSpec.upto takeGoneSpec)

/-- 'icehousekeep.FuelCounts', WHERE WHAT IT READS IS OF BULK AT MOST 1048576: true; the input reads as it did. -/
def fuelCountsUptoRow : OpenClaim := { program := "ytkcakecmhoamaaa", sum := "2d15d7e48c884b0e1334a1ebcdb80626069d57143dea834e6d5624a52aa2bc75", func := "icehouse/icehousekeep.FuelCounts", spec := "fuelCounts", unfollowed := true, recurses := true, apart := false, narrowed := true }
def FuelCountsUptoSaid : Prop := fuelCountsUptoRow.holds Try.pinned (OpenSpec.upto fuelCountsSpec)

end Rows
end Go.Proofs.Ytkcakecmhoamaaa

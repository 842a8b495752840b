/-
  No cell of these rows narrows 'for every input' (looked for: loops, veiled, ifaces, maps, wideKeys, modest, calm, conditions, laid).
  DERIVED. THE GIVEN ROWS OF THIS SEAT. 6 by the template 'for every input the law returns true; each argument reads behind the call as it read before'; 0 by the template 'total and deterministic' (their statements: YtdalkkjojflakaaTotals.lean).
  GIVEN WITH THE SEED: the statements are not yours to turn. If you find one false, say at which input.
  Laid BY PROGRAM, IN A SANDBOX (cutbox-rows.mjs): the forced cells as the released guide's own fill.sh prints them over the translation ba2d870b1cc24487… (all of the seat's roots in one cut). By AI agents, Wed Nov 11 2026. No macro, syntax, notation, axiom, sorry.
-/
import Derived.Test.YtdalkkjojflakaaChecked
import GoSem.Claim
import GoSem.ClaimJoined
import GoSem.ClaimMapViews
import Derived.JoinedTies
import Derived.KernelRfl
namespace Go.Proofs.Ytdalkkjojflakaa
/- THE CELL 'sum', in the pinned program and in every row, IS THE sha256 OF THE DUMP (.gsa) THAT YtdalkkjojflakaaProg.lean LOADS. Nothing in Lean hashes anything: it is a label: what it is worth is what the hold of that sum in a sandbox is worth. -/
noncomputable def Try.pinned : Pinned := { name := "ytdalkkjojflakaa", sum := "ba2d870b1cc244875b41b2c18225de5506bf52c5c0426b79b1daed227e774cba", checked := Try.checked }
namespace Rows
def none {H : Type} : Left H := { results := [], args := [] }

/-- 'icehouselaw.HotPacks': WHATEVER THE INPUT: true; the input reads as it did. -/
def hotPacksSpec : ChangeSpec := { name := "hotPacks", fn := fun _ => fun
  | [d1, d2, d3] => { results := [.lit (.bool true)], args := [d1, d2, d3] }
  | _ => none }
def hotPacksRow : OpenClaim := { program := "ytdalkkjojflakaa", sum := "ba2d870b1cc244875b41b2c18225de5506bf52c5c0426b79b1daed227e774cba", func := "icehouse/icehouselaw.HotPacks", spec := "hotPacks", plainKeys := false, apart := false }
def HotPacksSaid : Prop := hotPacksRow.holds Try.pinned (OpenSpec.ofChange hotPacksSpec)

/-- ITS FALSE NEIGHBOUR: 'it returns false'. Refute it at one input. -/
def hotPacksWrong : ChangeSpec := { name := "hotPacks", fn := fun _ => fun
  | [d1, d2, d3] => { results := [.lit (.bool false)], args := [d1, d2, d3] }
  | _ => none }
def HotPacksWrongFalsely : Prop := hotPacksRow.holds Try.pinned (OpenSpec.ofChange hotPacksWrong)

/-- 'icehouselaw.HotFetches': WHATEVER THE INPUT: true; the input reads as it did. -/
def hotFetchesSpec : ChangeSpec := { name := "hotFetches", fn := fun _ => fun
  | [d1, d2, d3, d4] => { results := [.lit (.bool true)], args := [d1, d2, d3, d4] }
  | _ => none }
def hotFetchesRow : OpenClaim := { program := "ytdalkkjojflakaa", sum := "ba2d870b1cc244875b41b2c18225de5506bf52c5c0426b79b1daed227e774cba", func := "icehouse/icehouselaw.HotFetches", spec := "hotFetches", unfollowed := true, recurses := true, plainKeys := false, apart := false }
def HotFetchesSaid : Prop := hotFetchesRow.holds Try.pinned (OpenSpec.ofChange hotFetchesSpec)

/-- ITS FALSE NEIGHBOUR: 'it returns false'. Refute it at one input. -/
def hotFetchesWrong : ChangeSpec := { name := "hotFetches", fn := fun _ => fun
  | [d1, d2, d3, d4] => { results := [.lit (.bool false)], args := [d1, d2, d3, d4] }
  | _ => none }
def HotFetchesWrongFalsely : Prop := hotFetchesRow.holds Try.pinned (OpenSpec.ofChange hotFetchesWrong)

/-- 'icehousekeep.PackFetch': WHATEVER THE INPUT: true; the input reads as it did. -/
def packFetchSpec : ChangeSpec := { name := "packFetch", fn := fun _ => fun
  | [d1, d2] => { results := [.lit (.bool true)], args := [d1, d2] }
  | _ => none }
def packFetchRow : OpenClaim := { program := "ytdalkkjojflakaa", sum := "ba2d870b1cc244875b41b2c18225de5506bf52c5c0426b79b1daed227e774cba", func := "icehouse/icehousekeep.PackFetch", spec := "packFetch", unfollowed := true, recurses := true, plainKeys := false, apart := false }
def PackFetchSaid : Prop := packFetchRow.holds Try.pinned (OpenSpec.ofChange packFetchSpec)

/-- ITS FALSE NEIGHBOUR: 'it returns false'. Refute it at one input. -/
def packFetchWrong : ChangeSpec := { name := "packFetch", fn := fun _ => fun
  | [d1, d2] => { results := [.lit (.bool false)], args := [d1, d2] }
  | _ => none }
def PackFetchWrongFalsely : Prop := packFetchRow.holds Try.pinned (OpenSpec.ofChange packFetchWrong)

/-- 'icehousekeep.PackBad': WHATEVER THE INPUT: true; the input reads as it did. -/
def packBadSpec : ChangeSpec := { name := "packBad", fn := fun _ => fun
  | [d] => { results := [.lit (.bool true)], args := [d] }
  | _ => none }
def packBadRow : OpenClaim := { program := "ytdalkkjojflakaa", sum := "ba2d870b1cc244875b41b2c18225de5506bf52c5c0426b79b1daed227e774cba", func := "icehouse/icehousekeep.PackBad", spec := "packBad", plainKeys := false, apart := false }
def PackBadSaid : Prop := packBadRow.holds Try.pinned (OpenSpec.ofChange packBadSpec)

/-- ITS FALSE NEIGHBOUR: 'it returns false'. Refute it at one input. -/
def packBadWrong : ChangeSpec := { name := "packBad", fn := fun _ => fun
  | [d] => { results := [.lit (.bool false)], args := [d] }
  | _ => none }
def PackBadWrongFalsely : Prop := packBadRow.holds Try.pinned (OpenSpec.ofChange packBadWrong)

/-- 'icehouselaw.TierLive': WHATEVER THE INPUT: true; the input reads as it did. -/
def tierLiveSpec : ChangeSpec := { name := "tierLive", fn := fun _ => fun
  | [d] => { results := [.lit (.bool true)], args := [d] }
  | _ => none }
def tierLiveRow : OpenClaim := { program := "ytdalkkjojflakaa", sum := "ba2d870b1cc244875b41b2c18225de5506bf52c5c0426b79b1daed227e774cba", func := "icehouse/icehouselaw.TierLive", spec := "tierLive", unfollowed := true, recurses := true, plainKeys := false, apart := false }
def TierLiveSaid : Prop := tierLiveRow.holds Try.pinned (OpenSpec.ofChange tierLiveSpec)

/-- ITS FALSE NEIGHBOUR: 'it returns false'. Refute it at one input. -/
def tierLiveWrong : ChangeSpec := { name := "tierLive", fn := fun _ => fun
  | [d] => { results := [.lit (.bool false)], args := [d] }
  | _ => none }
def TierLiveWrongFalsely : Prop := tierLiveRow.holds Try.pinned (OpenSpec.ofChange tierLiveWrong)

/-- 'icehouselaw.TierHalf': WHATEVER THE INPUT: true; the input reads as it did. -/
def tierHalfSpec : ChangeSpec := { name := "tierHalf", fn := fun _ => fun
  | [d1, d2] => { results := [.lit (.bool true)], args := [d1, d2] }
  | _ => none }
def tierHalfRow : OpenClaim := { program := "ytdalkkjojflakaa", sum := "ba2d870b1cc244875b41b2c18225de5506bf52c5c0426b79b1daed227e774cba", func := "icehouse/icehouselaw.TierHalf", spec := "tierHalf", unfollowed := true, recurses := true, plainKeys := false, apart := false }
def TierHalfSaid : Prop := tierHalfRow.holds Try.pinned (OpenSpec.ofChange tierHalfSpec)

/-- ITS FALSE NEIGHBOUR: 'it returns false'. Refute it at one input. -/
def tierHalfWrong : ChangeSpec := { name := "tierHalf", fn := fun _ => fun
  | [d1, d2] => { results := [.lit (.bool false)], args := [d1, d2] }
  | _ => none }
def TierHalfWrongFalsely : Prop := tierHalfRow.holds Try.pinned (OpenSpec.ofChange tierHalfWrong)

/- THE SECOND FORM. 'bulk': how many values and letters a reading holds, each counted each time it is reached (what is shared counts as often as it is met; a slice's spare places count too). A statement '..UptoSaid' is the law's where the arguments, and the package variables that the reading takes, are together of bulk at most 1048576: NARROWER than '..Said'. Prove '..Said' where nothing that the law and all that it calls make is longer than what came in: it says more and counts as full. Else prove '..UptoSaid'. A law counts once. -/
mutual
def uptoBulk {H : Type} : DataW H → Nat
  | .lit (.string bytes) => bytes.length + 1
  | .lit _ => 1
  | .nil => 1
  | .ptr d => uptoBulk d + 1
  | .slice elems spare => uptoBulkAll elems + uptoBulkAll spare + 1
  | .agg parts => uptoBulkAll parts + 1
  | .iface _ d => uptoBulk d + 1
  | .map entries => uptoBulkEntries entries + 1
  | .held _ => 1
def uptoBulkAll {H : Type} : List (DataW H) → Nat
  | [] => 0
  | d :: r => uptoBulk d + uptoBulkAll r
def uptoBulkEntries {H : Type} : List (Lit × DataW H) → Nat
  | [] => 0
  | x :: r => uptoBulkEntry x + uptoBulkEntries r
def uptoBulkEntry {H : Type} : Lit × DataW H → Nat
  | (.string bytes, d) => bytes.length + uptoBulk d + 1
  | (_, d) => uptoBulk d + 1
 end
def uptoSmall : (H : Type) → List (DataW H) → Bool := fun _ ds => decide (uptoBulkAll ds ≤ 1048576)
def OpenSpec.upto (s : _root_.Go.ChangeSpec) : _root_.Go.OpenSpec := { _root_.Go.OpenSpec.ofChange s with cond := some uptoSmall }

/-- 'icehouselaw.HotPacks', WHERE WHAT IT READS IS OF BULK AT MOST 1048576: true; the input reads as it did. -/
def hotPacksUptoRow : OpenClaim := { program := "ytdalkkjojflakaa", sum := "ba2d870b1cc244875b41b2c18225de5506bf52c5c0426b79b1daed227e774cba", func := "icehouse/icehouselaw.HotPacks", spec := "hotPacks", plainKeys := false, apart := false, narrowed := true }
def HotPacksUptoSaid : Prop := hotPacksUptoRow.holds Try.pinned (OpenSpec.upto hotPacksSpec)

/-- 'icehouselaw.HotFetches', WHERE WHAT IT READS IS OF BULK AT MOST 1048576: true; the input reads as it did. -/
def hotFetchesUptoRow : OpenClaim := { program := "ytdalkkjojflakaa", sum := "ba2d870b1cc244875b41b2c18225de5506bf52c5c0426b79b1daed227e774cba", func := "icehouse/icehouselaw.HotFetches", spec := "hotFetches", unfollowed := true, recurses := true, plainKeys := false, apart := false, narrowed := true }
def HotFetchesUptoSaid : Prop := hotFetchesUptoRow.holds Try.pinned (OpenSpec.upto hotFetchesSpec)

/-- 'icehousekeep.PackFetch', WHERE WHAT IT READS IS OF BULK AT MOST 1048576: true; the input reads as it did. -/
def packFetchUptoRow : OpenClaim := { program := "ytdalkkjojflakaa", sum := "ba2d870b1cc244875b41b2c18225de5506bf52c5c0426b79b1daed227e774cba", func := "icehouse/icehousekeep.PackFetch", spec := "packFetch", unfollowed := true, recurses := true, plainKeys := false, apart := false, narrowed := true }
def PackFetchUptoSaid : Prop := packFetchUptoRow.holds Try.pinned (OpenSpec.upto packFetchSpec)

/-- 'icehousekeep.PackBad', WHERE WHAT IT READS IS OF BULK AT MOST 1048576: true; the input reads as it did. -/
def packBadUptoRow : OpenClaim := { program := "ytdalkkjojflakaa", sum := "ba2d870b1cc244875b41b2c18225de5506bf52c5c0426b79b1daed227e774cba", func := "icehouse/icehousekeep.PackBad", spec := "packBad", plainKeys := false, apart := false, narrowed := true }
def PackBadUptoSaid : Prop := packBadUptoRow.holds Try.pinned (OpenSpec.upto packBadSpec)

/-- 'icehouselaw.TierLive', WHERE WHAT IT READS IS OF BULK AT MOST 1048576: true; the input reads as it did. -/
def tierLiveUptoRow : OpenClaim := { program := "ytdalkkjojflakaa", sum := "ba2d870b1cc244875b41b2c18225de5506bf52c5c0426b79b1daed227e774cba", func := "icehouse/icehouselaw.TierLive", spec := "tierLive", unfollowed := true, recurses := true, plainKeys := false, apart := false, narrowed := true }
def TierLiveUptoSaid : Prop := tierLiveUptoRow.holds Try.pinned (OpenSpec.upto tierLiveSpec)

/-- 'icehouselaw.TierHalf', WHERE WHAT IT READS IS OF BULK AT MOST 1048576: true; the input reads as it did. -/
def tierHalfUptoRow : OpenClaim := { program := "ytdalkkjojflakaa", sum := "ba2d870b1cc244875b41b2c18225de5506bf52c5c0426b79b1daed227e774cba", func := "icehouse/icehouselaw.TierHalf", spec := "tierHalf", unfollowed := true, recurses := true, plainKeys := false, apart := false, narrowed := true }
def TierHalfUptoSaid : Prop := tierHalfUptoRow.holds Try.pinned (OpenSpec.upto tierHalfSpec)

end Rows
end Go.Proofs.Ytdalkkjojflakaa

/-
  No cell of these rows narrows 'for every input' (looked for: loops, veiled, ifaces, maps, wideKeys, modest, calm, conditions, laid).
  DERIVED. THE GIVEN ROWS OF THIS SEAT. 5 by the template 'for every input the law returns true; each argument reads behind the call as it read before'; 0 by the template 'total and deterministic' (their statements: YtjaedigjmgfakaaTotals.lean).
  GIVEN WITH THE SEED: the statements are not yours to turn. If you find one false, say at which input.
  Laid BY PROGRAM, IN A SANDBOX (cutbox-rows.mjs): the forced cells as the released guide's own fill.sh prints them over the translation c50c0251fe2e2de8… (all of the seat's roots in one cut). By AI agents, Wed Nov 11 2026. No macro, syntax, notation, axiom, sorry.
-/
import Derived.Test.YtjaedigjmgfakaaChecked
import GoSem.Claim
import GoSem.ClaimJoined
import GoSem.ClaimMapViews
import Derived.JoinedTies
import Derived.KernelRfl
namespace Go.Proofs.Ytjaedigjmgfakaa
/- THE CELL 'sum', in the pinned program and in every row, IS THE sha256 OF THE DUMP (.gsa) THAT YtjaedigjmgfakaaProg.lean LOADS. Nothing in Lean hashes anything: it is a label: what it is worth is what the hold of that sum in a sandbox is worth. -/
noncomputable def Try.pinned : Pinned := { name := "ytjaedigjmgfakaa", sum := "c50c0251fe2e2de80d114255e732b7bda72cc6d952f556f26a386018dec549f5", checked := Try.checked }
namespace Rows
def none {H : Type} : Left H := { results := [], args := [] }

/-- 'icehousekeep.WriteRead': WHATEVER THE INPUT: true; the input reads as it did. -/
def writeReadSpec : ChangeSpec := { name := "writeRead", fn := fun _ => fun
  | [d1, d2, d3, d4, d5] => { results := [.lit (.bool true)], args := [d1, d2, d3, d4, d5] }
  | _ => none }
def writeReadRow : OpenClaim := { program := "ytjaedigjmgfakaa", sum := "c50c0251fe2e2de80d114255e732b7bda72cc6d952f556f26a386018dec549f5", func := "icehouse/icehousekeep.WriteRead", spec := "writeRead", unfollowed := true, recurses := true, apart := false }
def WriteReadSaid : Prop := writeReadRow.holds Try.pinned (OpenSpec.ofChange writeReadSpec)

/-- ITS FALSE NEIGHBOUR: 'it returns false'. Refute it at one input. -/
def writeReadWrong : ChangeSpec := { name := "writeRead", fn := fun _ => fun
  | [d1, d2, d3, d4, d5] => { results := [.lit (.bool false)], args := [d1, d2, d3, d4, d5] }
  | _ => none }
def WriteReadWrongFalsely : Prop := writeReadRow.holds Try.pinned (OpenSpec.ofChange writeReadWrong)

/-- 'icehousekeep.WriteApart': WHATEVER THE INPUT: true; the input reads as it did. -/
def writeApartSpec : ChangeSpec := { name := "writeApart", fn := fun _ => fun
  | [d1, d2, d3, d4, d5] => { results := [.lit (.bool true)], args := [d1, d2, d3, d4, d5] }
  | _ => none }
def writeApartRow : OpenClaim := { program := "ytjaedigjmgfakaa", sum := "c50c0251fe2e2de80d114255e732b7bda72cc6d952f556f26a386018dec549f5", func := "icehouse/icehousekeep.WriteApart", spec := "writeApart", unfollowed := true, recurses := true, apart := false }
def WriteApartSaid : Prop := writeApartRow.holds Try.pinned (OpenSpec.ofChange writeApartSpec)

/-- ITS FALSE NEIGHBOUR: 'it returns false'. Refute it at one input. -/
def writeApartWrong : ChangeSpec := { name := "writeApart", fn := fun _ => fun
  | [d1, d2, d3, d4, d5] => { results := [.lit (.bool false)], args := [d1, d2, d3, d4, d5] }
  | _ => none }
def WriteApartWrongFalsely : Prop := writeApartRow.holds Try.pinned (OpenSpec.ofChange writeApartWrong)

/-- 'icehousekeep.WriteDies': WHATEVER THE INPUT: true; the input reads as it did. -/
def writeDiesSpec : ChangeSpec := { name := "writeDies", fn := fun _ => fun
  | [d1, d2, d3, d4, d5] => { results := [.lit (.bool true)], args := [d1, d2, d3, d4, d5] }
  | _ => none }
def writeDiesRow : OpenClaim := { program := "ytjaedigjmgfakaa", sum := "c50c0251fe2e2de80d114255e732b7bda72cc6d952f556f26a386018dec549f5", func := "icehouse/icehousekeep.WriteDies", spec := "writeDies", unfollowed := true, recurses := true, apart := false }
def WriteDiesSaid : Prop := writeDiesRow.holds Try.pinned (OpenSpec.ofChange writeDiesSpec)

/-- ITS FALSE NEIGHBOUR: 'it returns false'. Refute it at one input. -/
def writeDiesWrong : ChangeSpec := { name := "writeDies", fn := fun _ => fun
  | [d1, d2, d3, d4, d5] => { results := [.lit (.bool false)], args := [d1, d2, d3, d4, d5] }
  | _ => none }
def WriteDiesWrongFalsely : Prop := writeDiesRow.holds Try.pinned (OpenSpec.ofChange writeDiesWrong)

/-- 'icehousekeep.HotBad': WHATEVER THE INPUT: true; the input reads as it did. -/
def hotBadSpec : ChangeSpec := { name := "hotBad", fn := fun _ => fun
  | [d1, d2] => { results := [.lit (.bool true)], args := [d1, d2] }
  | _ => none }
def hotBadRow : OpenClaim := { program := "ytjaedigjmgfakaa", sum := "c50c0251fe2e2de80d114255e732b7bda72cc6d952f556f26a386018dec549f5", func := "icehouse/icehousekeep.HotBad", spec := "hotBad", unfollowed := true, recurses := true, apart := false }
def HotBadSaid : Prop := hotBadRow.holds Try.pinned (OpenSpec.ofChange hotBadSpec)

/-- ITS FALSE NEIGHBOUR: 'it returns false'. Refute it at one input. -/
def hotBadWrong : ChangeSpec := { name := "hotBad", fn := fun _ => fun
  | [d1, d2] => { results := [.lit (.bool false)], args := [d1, d2] }
  | _ => none }
def HotBadWrongFalsely : Prop := hotBadRow.holds Try.pinned (OpenSpec.ofChange hotBadWrong)

/-- 'icehousekeep.PackFetch': WHATEVER THE INPUT: true; the input reads as it did. -/
def packFetchSpec : ChangeSpec := { name := "packFetch", fn := fun _ => fun
  | [d1, d2] => { results := [.lit (.bool true)], args := [d1, d2] }
  | _ => none }
def packFetchRow : OpenClaim := { program := "ytjaedigjmgfakaa", sum := "c50c0251fe2e2de80d114255e732b7bda72cc6d952f556f26a386018dec549f5", func := "icehouse/icehousekeep.PackFetch", spec := "packFetch", unfollowed := true, recurses := true, apart := false }
def PackFetchSaid : Prop := packFetchRow.holds Try.pinned (OpenSpec.ofChange packFetchSpec)

/-- ITS FALSE NEIGHBOUR: 'it returns false'. Refute it at one input. -/
def packFetchWrong : ChangeSpec := { name := "packFetch", fn := fun _ => fun
  | [d1, d2] => { results := [.lit (.bool false)], args := [d1, d2] }
  | _ => none }
def PackFetchWrongFalsely : Prop := packFetchRow.holds Try.pinned (OpenSpec.ofChange packFetchWrong)

/- THE SECOND FORM. 'bulk': how many values and letters a reading holds, each counted each time it is reached (what is shared counts as often as it is met; a slice's spare places count too). A statement '..UptoSaid' is the law's where the arguments, and the package variables that the reading takes, are together of bulk at most 1048576: NARROWER than '..Said'. Prove '..Said' where nothing that the law and all that it calls make is longer than what came in: it says more and counts as full. Else prove '..UptoSaid'. A law counts once. -/
mutual
def uptoBulk {H : Type} : DataW H → Nat
  | .lit (.string bytes) => bytes.length + 1
  | .lit _ => 1
  | .nil => 1
  | .ptr d => uptoBulk d + 1
  | .slice elems spare => uptoBulkAll elems + uptoBulkAll spare + 1
  | .agg parts => uptoBulkAll parts + 1
  | .iface _ d => uptoBulk d + 1
  | .map entries => uptoBulkEntries entries + 1
  | .held _ => 1
def uptoBulkAll {H : Type} : List (DataW H) → Nat
  | [] => 0
  | d :: r => uptoBulk d + uptoBulkAll r
def uptoBulkEntries {H : Type} : List (Lit × DataW H) → Nat
  | [] => 0
  | x :: r => uptoBulkEntry x + uptoBulkEntries r
def uptoBulkEntry {H : Type} : Lit × DataW H → Nat
  | (.string bytes, d) => bytes.length + uptoBulk d + 1
  | (_, d) => uptoBulk d + 1
 end
def uptoSmall : (H : Type) → List (DataW H) → Bool := fun _ ds => decide (uptoBulkAll ds ≤ 1048576)
def OpenSpec.upto (s : _root_.Go.ChangeSpec) : _root_.Go.OpenSpec := { _root_.Go.OpenSpec.ofChange s with cond := some uptoSmall }

/-- 'icehousekeep.WriteRead', WHERE WHAT IT READS IS OF BULK AT MOST 1048576: true; the input reads as it did. -/
def writeReadUptoRow : OpenClaim := { program := "ytjaedigjmgfakaa", sum := "c50c0251fe2e2de80d114255e732b7bda72cc6d952f556f26a386018dec549f5", func := "icehouse/icehousekeep.WriteRead", spec := "writeRead", unfollowed := true, recurses := true, apart := false, narrowed := true }
def WriteReadUptoSaid : Prop := writeReadUptoRow.holds Try.pinned (OpenSpec.upto writeReadSpec)

/-- 'icehousekeep.WriteApart', WHERE WHAT IT READS IS OF BULK AT MOST 1048576: true; the input reads as it did. -/
def writeApartUptoRow : OpenClaim := { program := "ytjaedigjmgfakaa", sum := "c50c0251fe2e2de80d114255e732b7bda72cc6d952f556f26a386018dec549f5", func := "icehouse/icehousekeep.WriteApart", spec := "writeApart", unfollowed := true, recurses := true, apart := false, narrowed := true }
def WriteApartUptoSaid : Prop := writeApartUptoRow.holds Try.pinned (OpenSpec.upto writeApartSpec)

/-- 'icehousekeep.WriteDies', WHERE WHAT IT READS IS OF BULK AT MOST 1048576: true; the input reads as it did. -/
def writeDiesUptoRow : OpenClaim := { program := "ytjaedigjmgfakaa", sum := "c50c0251fe2e2de80d114255e732b7bda72cc6d952f556f26a386018dec549f5", func := "icehouse/icehousekeep.WriteDies", spec := "writeDies", unfollowed := true, recurses := true, apart := false, narrowed := true }
def WriteDiesUptoSaid : Prop := writeDiesUptoRow.holds Try.pinned (OpenSpec.upto writeDiesSpec)

/-- 'icehousekeep.HotBad', WHERE WHAT IT READS IS OF BULK AT MOST 1048576: true; the input reads as it did. -/
def hotBadUptoRow : OpenClaim := { program := "ytjaedigjmgfakaa", sum := "c50c0251fe2e2de80d114255e732b7bda72cc6d952f556f26a386018dec549f5", func := "icehouse/icehousekeep.HotBad", spec := "hotBad", unfollowed := true, recurses := true, apart := false, narrowed := true }
def HotBadUptoSaid : Prop := hotBadUptoRow.holds Try.pinned (OpenSpec.upto hotBadSpec)

/-- 'icehousekeep.PackFetch', WHERE WHAT IT READS IS OF BULK AT MOST 1048576: true; the input reads as it did. -/
def packFetchUptoRow : OpenClaim := { program := "ytjaedigjmgfakaa", sum := "c50c0251fe2e2de80d114255e732b7bda72cc6d952f556f26a386018dec549f5", func := "icehouse/icehousekeep.PackFetch", spec := "packFetch", unfollowed := true, recurses := true, apart := false, narrowed := true }
def PackFetchUptoSaid : Prop := packFetchUptoRow.holds Try.pinned (OpenSpec.upto packFetchSpec)

end Rows
end Go.Proofs.Ytjaedigjmgfakaa

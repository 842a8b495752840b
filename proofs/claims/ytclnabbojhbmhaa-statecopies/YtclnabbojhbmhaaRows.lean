/-
  No cell of these rows narrows 'for every input' (looked for: loops, veiled, ifaces, maps, wideKeys, modest, calm, conditions, laid).
  DERIVED. THE GIVEN ROWS OF THIS SEAT. 7 by the template 'for every input the law returns true; each argument reads behind the call as it read before'; 0 by the template 'total and deterministic' (their statements: YtclnabbojhbmhaaTotals.lean).
  GIVEN WITH THE SEED: the statements are not yours to turn. If you find one false, say at which input.
  Laid BY PROGRAM, IN A SANDBOX (cutbox-rows.mjs): the forced cells as the released guide's own fill.sh prints them over the translation 9ea6e1f708ca0d66… (all of the seat's roots in one cut). By AI agents, Wed Nov 11 2026. No macro, syntax, notation, axiom, sorry.
-/
import Derived.Test.YtclnabbojhbmhaaChecked
import GoSem.Claim
import GoSem.ClaimJoined
import GoSem.ClaimMapViews
import Derived.JoinedTies
import Derived.KernelRfl
namespace Go.Proofs.Ytclnabbojhbmhaa
/- THE CELL 'sum', in the pinned program and in every row, IS THE sha256 OF THE DUMP (.gsa) THAT YtclnabbojhbmhaaProg.lean LOADS. Nothing in Lean hashes anything: it is a label: what it is worth is what the hold of that sum in a sandbox is worth. -/
noncomputable def Try.pinned : Pinned := { name := "ytclnabbojhbmhaa", sum := "9ea6e1f708ca0d66db2057548498e087e308f74c4b9e19204b58d261e0a96fd2", checked := Try.checked }
namespace Rows
def none {H : Type} : Left H := { results := [], args := [] }

/-- 'icehouselaw.StateNames': WHATEVER THE INPUT: true; the input reads as it did. -/
def stateNamesSpec : ChangeSpec := { name := "stateNames", fn := fun _ => fun
  | [d] => { results := [.lit (.bool true)], args := [d] }
  | _ => none }
def stateNamesRow : OpenClaim := { program := "ytclnabbojhbmhaa", sum := "9ea6e1f708ca0d66db2057548498e087e308f74c4b9e19204b58d261e0a96fd2", func := "icehouse/icehouselaw.StateNames", spec := "stateNames", plainKeys := false, apart := false }
def StateNamesSaid : Prop := stateNamesRow.holds Try.pinned (OpenSpec.ofChange stateNamesSpec)

/-- ITS FALSE NEIGHBOUR: 'it returns false'. Refute it at one input. -/
def stateNamesWrong : ChangeSpec := { name := "stateNames", fn := fun _ => fun
  | [d] => { results := [.lit (.bool false)], args := [d] }
  | _ => none }
def StateNamesWrongFalsely : Prop := stateNamesRow.holds Try.pinned (OpenSpec.ofChange stateNamesWrong)

/-- 'icehouselaw.StateKeys': WHATEVER THE INPUT: true; the input reads as it did. -/
def stateKeysSpec : ChangeSpec := { name := "stateKeys", fn := fun _ => fun
  | [d] => { results := [.lit (.bool true)], args := [d] }
  | _ => none }
def stateKeysRow : OpenClaim := { program := "ytclnabbojhbmhaa", sum := "9ea6e1f708ca0d66db2057548498e087e308f74c4b9e19204b58d261e0a96fd2", func := "icehouse/icehouselaw.StateKeys", spec := "stateKeys", plainKeys := false, apart := false }
def StateKeysSaid : Prop := stateKeysRow.holds Try.pinned (OpenSpec.ofChange stateKeysSpec)

/-- ITS FALSE NEIGHBOUR: 'it returns false'. Refute it at one input. -/
def stateKeysWrong : ChangeSpec := { name := "stateKeys", fn := fun _ => fun
  | [d] => { results := [.lit (.bool false)], args := [d] }
  | _ => none }
def StateKeysWrongFalsely : Prop := stateKeysRow.holds Try.pinned (OpenSpec.ofChange stateKeysWrong)

/-- 'icehouselaw.StateRules': WHATEVER THE INPUT: true; the input reads as it did. -/
def stateRulesSpec : ChangeSpec := { name := "stateRules", fn := fun _ => fun
  | [d] => { results := [.lit (.bool true)], args := [d] }
  | _ => none }
def stateRulesRow : OpenClaim := { program := "ytclnabbojhbmhaa", sum := "9ea6e1f708ca0d66db2057548498e087e308f74c4b9e19204b58d261e0a96fd2", func := "icehouse/icehouselaw.StateRules", spec := "stateRules", plainKeys := false, apart := false }
def StateRulesSaid : Prop := stateRulesRow.holds Try.pinned (OpenSpec.ofChange stateRulesSpec)

/-- ITS FALSE NEIGHBOUR: 'it returns false'. Refute it at one input. -/
def stateRulesWrong : ChangeSpec := { name := "stateRules", fn := fun _ => fun
  | [d] => { results := [.lit (.bool false)], args := [d] }
  | _ => none }
def StateRulesWrongFalsely : Prop := stateRulesRow.holds Try.pinned (OpenSpec.ofChange stateRulesWrong)

/-- 'icehouselaw.StateChecks': WHATEVER THE INPUT: true; the input reads as it did. -/
def stateChecksSpec : ChangeSpec := { name := "stateChecks", fn := fun _ => fun
  | [d] => { results := [.lit (.bool true)], args := [d] }
  | _ => none }
def stateChecksRow : OpenClaim := { program := "ytclnabbojhbmhaa", sum := "9ea6e1f708ca0d66db2057548498e087e308f74c4b9e19204b58d261e0a96fd2", func := "icehouse/icehouselaw.StateChecks", spec := "stateChecks", unfollowed := true, recurses := true, plainKeys := false, apart := false }
def StateChecksSaid : Prop := stateChecksRow.holds Try.pinned (OpenSpec.ofChange stateChecksSpec)

/-- ITS FALSE NEIGHBOUR: 'it returns false'. Refute it at one input. -/
def stateChecksWrong : ChangeSpec := { name := "stateChecks", fn := fun _ => fun
  | [d] => { results := [.lit (.bool false)], args := [d] }
  | _ => none }
def StateChecksWrongFalsely : Prop := stateChecksRow.holds Try.pinned (OpenSpec.ofChange stateChecksWrong)

/-- 'icehouselaw.StateCopies': WHATEVER THE INPUT: true; the input reads as it did. -/
def stateCopiesSpec : ChangeSpec := { name := "stateCopies", fn := fun _ => fun
  | [d] => { results := [.lit (.bool true)], args := [d] }
  | _ => none }
def stateCopiesRow : OpenClaim := { program := "ytclnabbojhbmhaa", sum := "9ea6e1f708ca0d66db2057548498e087e308f74c4b9e19204b58d261e0a96fd2", func := "icehouse/icehouselaw.StateCopies", spec := "stateCopies", unfollowed := true, recurses := true, plainKeys := false, apart := false }
def StateCopiesSaid : Prop := stateCopiesRow.holds Try.pinned (OpenSpec.ofChange stateCopiesSpec)

/-- ITS FALSE NEIGHBOUR: 'it returns false'. Refute it at one input. -/
def stateCopiesWrong : ChangeSpec := { name := "stateCopies", fn := fun _ => fun
  | [d] => { results := [.lit (.bool false)], args := [d] }
  | _ => none }
def StateCopiesWrongFalsely : Prop := stateCopiesRow.holds Try.pinned (OpenSpec.ofChange stateCopiesWrong)

/-- 'icehouselaw.StateFree': WHATEVER THE INPUT: true; the input reads as it did. -/
def stateFreeSpec : ChangeSpec := { name := "stateFree", fn := fun _ => fun
  | [d1, d2] => { results := [.lit (.bool true)], args := [d1, d2] }
  | _ => none }
def stateFreeRow : OpenClaim := { program := "ytclnabbojhbmhaa", sum := "9ea6e1f708ca0d66db2057548498e087e308f74c4b9e19204b58d261e0a96fd2", func := "icehouse/icehouselaw.StateFree", spec := "stateFree", unfollowed := true, recurses := true, plainKeys := false, apart := false }
def StateFreeSaid : Prop := stateFreeRow.holds Try.pinned (OpenSpec.ofChange stateFreeSpec)

/-- ITS FALSE NEIGHBOUR: 'it returns false'. Refute it at one input. -/
def stateFreeWrong : ChangeSpec := { name := "stateFree", fn := fun _ => fun
  | [d1, d2] => { results := [.lit (.bool false)], args := [d1, d2] }
  | _ => none }
def StateFreeWrongFalsely : Prop := stateFreeRow.holds Try.pinned (OpenSpec.ofChange stateFreeWrong)

/-- 'icehouselaw.StateLatest': WHATEVER THE INPUT: true; the input reads as it did. -/
def stateLatestSpec : ChangeSpec := { name := "stateLatest", fn := fun _ => fun
  | [d1, d2, d3] => { results := [.lit (.bool true)], args := [d1, d2, d3] }
  | _ => none }
def stateLatestRow : OpenClaim := { program := "ytclnabbojhbmhaa", sum := "9ea6e1f708ca0d66db2057548498e087e308f74c4b9e19204b58d261e0a96fd2", func := "icehouse/icehouselaw.StateLatest", spec := "stateLatest", unfollowed := true, recurses := true, plainKeys := false, apart := false }
def StateLatestSaid : Prop := stateLatestRow.holds Try.pinned (OpenSpec.ofChange stateLatestSpec)

/-- ITS FALSE NEIGHBOUR: 'it returns false'. Refute it at one input. -/
def stateLatestWrong : ChangeSpec := { name := "stateLatest", fn := fun _ => fun
  | [d1, d2, d3] => { results := [.lit (.bool false)], args := [d1, d2, d3] }
  | _ => none }
def StateLatestWrongFalsely : Prop := stateLatestRow.holds Try.pinned (OpenSpec.ofChange stateLatestWrong)

/- THE SECOND FORM. 'bulk': how many values and letters a reading holds, each counted each time it is reached (what is shared counts as often as it is met; a slice's spare places count too). A statement '..UptoSaid' is the law's where the arguments, and the package variables that the reading takes, are together of bulk at most 1048576: NARROWER than '..Said'. Prove '..Said' where nothing that the law and all that it calls make is longer than what came in: it says more and counts as full. Else prove '..UptoSaid'. A law counts once. -/
mutual
def uptoBulk {H : Type} : DataW H → Nat
  | .lit (.string bytes) => bytes.length + 1
  | .lit _ => 1
  | .nil => 1
  | .ptr d => uptoBulk d + 1
  | .slice elems spare => uptoBulkAll elems + uptoBulkAll spare + 1
  | .agg parts => uptoBulkAll parts + 1
  | .iface _ d => uptoBulk d + 1
  | .map entries => uptoBulkEntries entries + 1
  | .held _ => 1
def uptoBulkAll {H : Type} : List (DataW H) → Nat
  | [] => 0
  | d :: r => uptoBulk d + uptoBulkAll r
def uptoBulkEntries {H : Type} : List (Lit × DataW H) → Nat
  | [] => 0
  | x :: r => uptoBulkEntry x + uptoBulkEntries r
def uptoBulkEntry {H : Type} : Lit × DataW H → Nat
  | (.string bytes, d) => bytes.length + uptoBulk d + 1
  | (_, d) => uptoBulk d + 1
 end
def uptoSmall : (H : Type) → List (DataW H) → Bool := fun _ ds => decide (uptoBulkAll ds ≤ 1048576)
def OpenSpec.upto (s : _root_.Go.ChangeSpec) : _root_.Go.OpenSpec := { _root_.Go.OpenSpec.ofChange s with cond := some uptoSmall }

/-- 'icehouselaw.StateNames', WHERE WHAT IT READS IS OF BULK AT MOST 1048576: true; the input reads as it did. -/
def stateNamesUptoRow : OpenClaim := { program := "ytclnabbojhbmhaa", sum := "9ea6e1f708ca0d66db2057548498e087e308f74c4b9e19204b58d261e0a96fd2", func := "icehouse/icehouselaw.StateNames", spec := "stateNames", plainKeys := false, apart := false, narrowed := true }
def StateNamesUptoSaid : Prop := stateNamesUptoRow.holds Try.pinned (OpenSpec.upto stateNamesSpec)

/-- 'icehouselaw.StateKeys', WHERE WHAT IT READS IS OF BULK AT MOST 1048576: true; the input reads as it did. -/
def stateKeysUptoRow : OpenClaim := { program := "ytclnabbojhbmhaa", sum := "9ea6e1f708ca0d66db2057548498e087e308f74c4b9e19204b58d261e0a96fd2", func := "icehouse/icehouselaw.StateKeys", spec := "stateKeys", plainKeys := false, apart := false, narrowed := true }
def StateKeysUptoSaid : Prop := stateKeysUptoRow.holds Try.pinned (OpenSpec.upto stateKeysSpec)

/-- 'icehouselaw.StateRules', WHERE WHAT IT READS IS OF BULK AT MOST 1048576: true; the input reads as it did. -/
def stateRulesUptoRow : OpenClaim := { program := "ytclnabbojhbmhaa", sum := "9ea6e1f708ca0d66db2057548498e087e308f74c4b9e19204b58d261e0a96fd2", func := "icehouse/icehouselaw.StateRules", spec := "stateRules", plainKeys := false, apart := false, narrowed := true }
def StateRulesUptoSaid : Prop := stateRulesUptoRow.holds Try.pinned (OpenSpec.upto stateRulesSpec)

/-- 'icehouselaw.StateChecks', WHERE WHAT IT READS IS OF BULK AT MOST 1048576: true; the input reads as it did. -/
def stateChecksUptoRow : OpenClaim := { program := "ytclnabbojhbmhaa", sum := "9ea6e1f708ca0d66db2057548498e087e308f74c4b9e19204b58d261e0a96fd2", func := "icehouse/icehouselaw.StateChecks", spec := "stateChecks", unfollowed := true, recurses := true, plainKeys := false, apart := false, narrowed := true }
def StateChecksUptoSaid : Prop := stateChecksUptoRow.holds Try.pinned (OpenSpec.upto stateChecksSpec)

/-- 'icehouselaw.StateCopies', WHERE WHAT IT READS IS OF BULK AT MOST 1048576: true; the input reads as it did. -/
def stateCopiesUptoRow : OpenClaim := { program := "ytclnabbojhbmhaa", sum := "9ea6e1f708ca0d66db2057548498e087e308f74c4b9e19204b58d261e0a96fd2", func := "icehouse/icehouselaw.StateCopies", spec := "stateCopies", unfollowed := true, recurses := true, plainKeys := false, apart := false, narrowed := true }
def StateCopiesUptoSaid : Prop := stateCopiesUptoRow.holds Try.pinned (OpenSpec.upto stateCopiesSpec)

/-- 'icehouselaw.StateFree', WHERE WHAT IT READS IS OF BULK AT MOST 1048576: true; the input reads as it did. -/
def stateFreeUptoRow : OpenClaim := { program := "ytclnabbojhbmhaa", sum := "9ea6e1f708ca0d66db2057548498e087e308f74c4b9e19204b58d261e0a96fd2", func := "icehouse/icehouselaw.StateFree", spec := "stateFree", unfollowed := true, recurses := true, plainKeys := false, apart := false, narrowed := true }
def StateFreeUptoSaid : Prop := stateFreeUptoRow.holds Try.pinned (OpenSpec.upto stateFreeSpec)

/-- 'icehouselaw.StateLatest', WHERE WHAT IT READS IS OF BULK AT MOST 1048576: true; the input reads as it did. -/
def stateLatestUptoRow : OpenClaim := { program := "ytclnabbojhbmhaa", sum := "9ea6e1f708ca0d66db2057548498e087e308f74c4b9e19204b58d261e0a96fd2", func := "icehouse/icehouselaw.StateLatest", spec := "stateLatest", unfollowed := true, recurses := true, plainKeys := false, apart := false, narrowed := true }
def StateLatestUptoSaid : Prop := stateLatestUptoRow.holds Try.pinned (OpenSpec.upto stateLatestSpec)

end Rows
end Go.Proofs.Ytclnabbojhbmhaa

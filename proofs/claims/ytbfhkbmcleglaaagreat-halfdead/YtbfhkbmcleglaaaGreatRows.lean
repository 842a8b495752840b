/-
  No cell of these rows narrows 'for every input' (looked for: loops, veiled, ifaces, maps, wideKeys, modest, calm, conditions, laid).
  DERIVED. THE GIVEN ROWS OF THIS SEAT. 19 by the template 'for every input the law returns true; each argument reads behind the call as it read before'; 0 by the template 'total and deterministic' (their statements: YtbfhkbmcleglaaaGreatTotals.lean).
  GIVEN WITH THE SEED: the statements are not yours to turn. If you find one false, say at which input.
  Laid BY PROGRAM, IN A SANDBOX (cutbox-rows.mjs): the forced cells as the released guide's own fill.sh prints them over the translation b597da000a7a778d… (all of the seat's roots in one cut). By AI agents, Wed Nov 11 2026. No macro, syntax, notation, axiom, sorry.
-/
import Derived.Test.YtbfhkbmcleglaaaGreatChecked
import GoSem.Claim
import GoSem.ClaimJoined
import GoSem.ClaimMapViews
import Derived.JoinedTies
import Derived.KernelRfl
namespace Go.Proofs.YtbfhkbmcleglaaaGreat
/- THE CELL 'sum', in the pinned program and in every row, IS THE sha256 OF THE DUMP (.gsa) THAT YtbfhkbmcleglaaaGreatProg.lean LOADS. Nothing in Lean hashes anything: it is a label: what it is worth is what the hold of that sum in a sandbox is worth. -/
noncomputable def Tryz.pinned : Pinned := { name := "ytbfhkbmcleglaaagreat", sum := "b597da000a7a778d18aabb318943a8e919fb12f9b664e914c91e853f37b7fbe6", checked := Tryz.checked }
namespace Rows
def none {H : Type} : Left H := { results := [], args := [] }

/-- 'icehousekeep.StateGood': WHATEVER THE INPUT: true; the input reads as it did. -/
def stateGoodSpec : ChangeSpec := { name := "stateGood", fn := fun _ => fun
  | [d] => { results := [.lit (.bool true)], args := [d] }
  | _ => none }
def stateGoodRow : OpenClaim := { program := "ytbfhkbmcleglaaagreat", sum := "b597da000a7a778d18aabb318943a8e919fb12f9b664e914c91e853f37b7fbe6", func := "icehouse/icehousekeep.StateGood", spec := "stateGood", inPlace := ["slices.overlaps[icehouse/api.Bucket]", "slices.overlaps[icehouse/api.Part]", "slices.overlaps[int]"], unfollowed := true, recurses := true, plainKeys := false, apart := false }
def StateGoodSaid : Prop := stateGoodRow.holds Tryz.pinned (OpenSpec.ofChange stateGoodSpec)

/-- ITS FALSE NEIGHBOUR: 'it returns false'. Refute it at one input. -/
def stateGoodWrong : ChangeSpec := { name := "stateGood", fn := fun _ => fun
  | [d] => { results := [.lit (.bool false)], args := [d] }
  | _ => none }
def StateGoodWrongFalsely : Prop := stateGoodRow.holds Tryz.pinned (OpenSpec.ofChange stateGoodWrong)

/-- 'icehousekeep.NextRises': WHATEVER THE INPUT: true; the input reads as it did. -/
def nextRisesSpec : ChangeSpec := { name := "nextRises", fn := fun _ => fun
  | [d1, d2] => { results := [.lit (.bool true)], args := [d1, d2] }
  | _ => none }
def nextRisesRow : OpenClaim := { program := "ytbfhkbmcleglaaagreat", sum := "b597da000a7a778d18aabb318943a8e919fb12f9b664e914c91e853f37b7fbe6", func := "icehouse/icehousekeep.NextRises", spec := "nextRises", inPlace := ["slices.overlaps[icehouse/api.Bucket]", "slices.overlaps[icehouse/api.Part]", "slices.overlaps[int]"], unfollowed := true, recurses := true, plainKeys := false, apart := false }
def NextRisesSaid : Prop := nextRisesRow.holds Tryz.pinned (OpenSpec.ofChange nextRisesSpec)

/-- ITS FALSE NEIGHBOUR: 'it returns false'. Refute it at one input. -/
def nextRisesWrong : ChangeSpec := { name := "nextRises", fn := fun _ => fun
  | [d1, d2] => { results := [.lit (.bool false)], args := [d1, d2] }
  | _ => none }
def NextRisesWrongFalsely : Prop := nextRisesRow.holds Tryz.pinned (OpenSpec.ofChange nextRisesWrong)

/-- 'icehousekeep.NullOne': WHATEVER THE INPUT: true; the input reads as it did. -/
def nullOneSpec : ChangeSpec := { name := "nullOne", fn := fun _ => fun
  | [d1, d2, d3, d4] => { results := [.lit (.bool true)], args := [d1, d2, d3, d4] }
  | _ => none }
def nullOneRow : OpenClaim := { program := "ytbfhkbmcleglaaagreat", sum := "b597da000a7a778d18aabb318943a8e919fb12f9b664e914c91e853f37b7fbe6", func := "icehouse/icehousekeep.NullOne", spec := "nullOne", inPlace := ["slices.overlaps[icehouse/api.Bucket]", "slices.overlaps[icehouse/api.Part]", "slices.overlaps[int]"], unfollowed := true, recurses := true, plainKeys := false, apart := false }
def NullOneSaid : Prop := nullOneRow.holds Tryz.pinned (OpenSpec.ofChange nullOneSpec)

/-- ITS FALSE NEIGHBOUR: 'it returns false'. Refute it at one input. -/
def nullOneWrong : ChangeSpec := { name := "nullOne", fn := fun _ => fun
  | [d1, d2, d3, d4] => { results := [.lit (.bool false)], args := [d1, d2, d3, d4] }
  | _ => none }
def NullOneWrongFalsely : Prop := nullOneRow.holds Tryz.pinned (OpenSpec.ofChange nullOneWrong)

/-- 'icehousekeep.DropForgets': WHATEVER THE INPUT: true; the input reads as it did. -/
def dropForgetsSpec : ChangeSpec := { name := "dropForgets", fn := fun _ => fun
  | [d1, d2] => { results := [.lit (.bool true)], args := [d1, d2] }
  | _ => none }
def dropForgetsRow : OpenClaim := { program := "ytbfhkbmcleglaaagreat", sum := "b597da000a7a778d18aabb318943a8e919fb12f9b664e914c91e853f37b7fbe6", func := "icehouse/icehousekeep.DropForgets", spec := "dropForgets", inPlace := ["slices.overlaps[icehouse/api.Bucket]", "slices.overlaps[icehouse/api.Part]", "slices.overlaps[int]"], unfollowed := true, recurses := true, plainKeys := false, apart := false }
def DropForgetsSaid : Prop := dropForgetsRow.holds Tryz.pinned (OpenSpec.ofChange dropForgetsSpec)

/-- ITS FALSE NEIGHBOUR: 'it returns false'. Refute it at one input. -/
def dropForgetsWrong : ChangeSpec := { name := "dropForgets", fn := fun _ => fun
  | [d1, d2] => { results := [.lit (.bool false)], args := [d1, d2] }
  | _ => none }
def DropForgetsWrongFalsely : Prop := dropForgetsRow.holds Tryz.pinned (OpenSpec.ofChange dropForgetsWrong)

/-- 'icehousekeep.FreeApart': WHATEVER THE INPUT: true; the input reads as it did. -/
def freeApartSpec : ChangeSpec := { name := "freeApart", fn := fun _ => fun
  | [d1, d2] => { results := [.lit (.bool true)], args := [d1, d2] }
  | _ => none }
def freeApartRow : OpenClaim := { program := "ytbfhkbmcleglaaagreat", sum := "b597da000a7a778d18aabb318943a8e919fb12f9b664e914c91e853f37b7fbe6", func := "icehouse/icehousekeep.FreeApart", spec := "freeApart", inPlace := ["slices.overlaps[icehouse/api.Bucket]", "slices.overlaps[icehouse/api.Part]", "slices.overlaps[int]"], unfollowed := true, recurses := true, plainKeys := false, apart := false }
def FreeApartSaid : Prop := freeApartRow.holds Tryz.pinned (OpenSpec.ofChange freeApartSpec)

/-- ITS FALSE NEIGHBOUR: 'it returns false'. Refute it at one input. -/
def freeApartWrong : ChangeSpec := { name := "freeApart", fn := fun _ => fun
  | [d1, d2] => { results := [.lit (.bool false)], args := [d1, d2] }
  | _ => none }
def FreeApartWrongFalsely : Prop := freeApartRow.holds Tryz.pinned (OpenSpec.ofChange freeApartWrong)

/-- 'icehousekeep.AskCold': WHATEVER THE INPUT: true; the input reads as it did. -/
def askColdSpec : ChangeSpec := { name := "askCold", fn := fun _ => fun
  | [d1, d2] => { results := [.lit (.bool true)], args := [d1, d2] }
  | _ => none }
def askColdRow : OpenClaim := { program := "ytbfhkbmcleglaaagreat", sum := "b597da000a7a778d18aabb318943a8e919fb12f9b664e914c91e853f37b7fbe6", func := "icehouse/icehousekeep.AskCold", spec := "askCold", inPlace := ["slices.overlaps[icehouse/api.Bucket]", "slices.overlaps[icehouse/api.Part]", "slices.overlaps[int]"], unfollowed := true, recurses := true, plainKeys := false, apart := false }
def AskColdSaid : Prop := askColdRow.holds Tryz.pinned (OpenSpec.ofChange askColdSpec)

/-- ITS FALSE NEIGHBOUR: 'it returns false'. Refute it at one input. -/
def askColdWrong : ChangeSpec := { name := "askCold", fn := fun _ => fun
  | [d1, d2] => { results := [.lit (.bool false)], args := [d1, d2] }
  | _ => none }
def AskColdWrongFalsely : Prop := askColdRow.holds Tryz.pinned (OpenSpec.ofChange askColdWrong)

/-- 'icehousekeep.TiersRound': WHATEVER THE INPUT: true; the input reads as it did. -/
def tiersRoundSpec : ChangeSpec := { name := "tiersRound", fn := fun _ => fun
  | [d1, d2, d3, d4, d5] => { results := [.lit (.bool true)], args := [d1, d2, d3, d4, d5] }
  | _ => none }
def tiersRoundRow : OpenClaim := { program := "ytbfhkbmcleglaaagreat", sum := "b597da000a7a778d18aabb318943a8e919fb12f9b664e914c91e853f37b7fbe6", func := "icehouse/icehousekeep.TiersRound", spec := "tiersRound", inPlace := ["slices.overlaps[icehouse/api.Bucket]", "slices.overlaps[icehouse/api.Part]", "slices.overlaps[int]"], unfollowed := true, recurses := true, plainKeys := false, apart := false }
def TiersRoundSaid : Prop := tiersRoundRow.holds Tryz.pinned (OpenSpec.ofChange tiersRoundSpec)

/-- ITS FALSE NEIGHBOUR: 'it returns false'. Refute it at one input. -/
def tiersRoundWrong : ChangeSpec := { name := "tiersRound", fn := fun _ => fun
  | [d1, d2, d3, d4, d5] => { results := [.lit (.bool false)], args := [d1, d2, d3, d4, d5] }
  | _ => none }
def TiersRoundWrongFalsely : Prop := tiersRoundRow.holds Tryz.pinned (OpenSpec.ofChange tiersRoundWrong)

/-- 'icehousekeep.GoneEmpty': WHATEVER THE INPUT: true; the input reads as it did. -/
def goneEmptySpec : ChangeSpec := { name := "goneEmpty", fn := fun _ => fun
  | [d1, d2] => { results := [.lit (.bool true)], args := [d1, d2] }
  | _ => none }
def goneEmptyRow : OpenClaim := { program := "ytbfhkbmcleglaaagreat", sum := "b597da000a7a778d18aabb318943a8e919fb12f9b664e914c91e853f37b7fbe6", func := "icehouse/icehousekeep.GoneEmpty", spec := "goneEmpty", inPlace := ["slices.overlaps[icehouse/api.Bucket]", "slices.overlaps[icehouse/api.Part]", "slices.overlaps[int]"], unfollowed := true, recurses := true, plainKeys := false, apart := false }
def GoneEmptySaid : Prop := goneEmptyRow.holds Tryz.pinned (OpenSpec.ofChange goneEmptySpec)

/-- ITS FALSE NEIGHBOUR: 'it returns false'. Refute it at one input. -/
def goneEmptyWrong : ChangeSpec := { name := "goneEmpty", fn := fun _ => fun
  | [d1, d2] => { results := [.lit (.bool false)], args := [d1, d2] }
  | _ => none }
def GoneEmptyWrongFalsely : Prop := goneEmptyRow.holds Tryz.pinned (OpenSpec.ofChange goneEmptyWrong)

/-- 'icehousekeep.ModeOn': WHATEVER THE INPUT: true; the input reads as it did. -/
def modeOnSpec : ChangeSpec := { name := "modeOn", fn := fun _ => fun
  | [d1, d2] => { results := [.lit (.bool true)], args := [d1, d2] }
  | _ => none }
def modeOnRow : OpenClaim := { program := "ytbfhkbmcleglaaagreat", sum := "b597da000a7a778d18aabb318943a8e919fb12f9b664e914c91e853f37b7fbe6", func := "icehouse/icehousekeep.ModeOn", spec := "modeOn", inPlace := ["slices.overlaps[icehouse/api.Bucket]", "slices.overlaps[icehouse/api.Part]", "slices.overlaps[int]"], unfollowed := true, recurses := true, plainKeys := false, apart := false }
def ModeOnSaid : Prop := modeOnRow.holds Tryz.pinned (OpenSpec.ofChange modeOnSpec)

/-- ITS FALSE NEIGHBOUR: 'it returns false'. Refute it at one input. -/
def modeOnWrong : ChangeSpec := { name := "modeOn", fn := fun _ => fun
  | [d1, d2] => { results := [.lit (.bool false)], args := [d1, d2] }
  | _ => none }
def ModeOnWrongFalsely : Prop := modeOnRow.holds Tryz.pinned (OpenSpec.ofChange modeOnWrong)

/-- 'icehousekeep.KeysOrder': WHATEVER THE INPUT: true; the input reads as it did. -/
def keysOrderSpec : ChangeSpec := { name := "keysOrder", fn := fun _ => fun
  | [d1, d2, d3] => { results := [.lit (.bool true)], args := [d1, d2, d3] }
  | _ => none }
def keysOrderRow : OpenClaim := { program := "ytbfhkbmcleglaaagreat", sum := "b597da000a7a778d18aabb318943a8e919fb12f9b664e914c91e853f37b7fbe6", func := "icehouse/icehousekeep.KeysOrder", spec := "keysOrder", inPlace := ["slices.overlaps[icehouse/api.Bucket]", "slices.overlaps[icehouse/api.Part]", "slices.overlaps[int]", "internal/bytealg.IndexByteString", "internal/bytealg.IndexString"], unfollowed := true, recurses := true, named := ["internal/bytealg.MaxLen"], plainKeys := false, apart := false }
def KeysOrderSaid : Prop := keysOrderRow.holds Tryz.pinned (OpenSpec.ofChange keysOrderSpec)

/-- ITS FALSE NEIGHBOUR: 'it returns false'. Refute it at one input. -/
def keysOrderWrong : ChangeSpec := { name := "keysOrder", fn := fun _ => fun
  | [d1, d2, d3] => { results := [.lit (.bool false)], args := [d1, d2, d3] }
  | _ => none }
def KeysOrderWrongFalsely : Prop := keysOrderRow.holds Tryz.pinned (OpenSpec.ofChange keysOrderWrong)

/-- 'icehousekeep.KeysPages': WHATEVER THE INPUT: true; the input reads as it did. -/
def keysPagesSpec : ChangeSpec := { name := "keysPages", fn := fun _ => fun
  | [d1, d2, d3, d4] => { results := [.lit (.bool true)], args := [d1, d2, d3, d4] }
  | _ => none }
def keysPagesRow : OpenClaim := { program := "ytbfhkbmcleglaaagreat", sum := "b597da000a7a778d18aabb318943a8e919fb12f9b664e914c91e853f37b7fbe6", func := "icehouse/icehousekeep.KeysPages", spec := "keysPages", inPlace := ["internal/bytealg.IndexByteString", "internal/bytealg.IndexString", "slices.overlaps[icehouse/api.Bucket]", "slices.overlaps[icehouse/api.Part]", "slices.overlaps[int]"], unfollowed := true, recurses := true, named := ["internal/bytealg.MaxLen"], plainKeys := false, apart := false }
def KeysPagesSaid : Prop := keysPagesRow.holds Tryz.pinned (OpenSpec.ofChange keysPagesSpec)

/-- ITS FALSE NEIGHBOUR: 'it returns false'. Refute it at one input. -/
def keysPagesWrong : ChangeSpec := { name := "keysPages", fn := fun _ => fun
  | [d1, d2, d3, d4] => { results := [.lit (.bool false)], args := [d1, d2, d3, d4] }
  | _ => none }
def KeysPagesWrongFalsely : Prop := keysPagesRow.holds Tryz.pinned (OpenSpec.ofChange keysPagesWrong)

/-- 'icehousekeep.KeysCommon': WHATEVER THE INPUT: true; the input reads as it did. -/
def keysCommonSpec : ChangeSpec := { name := "keysCommon", fn := fun _ => fun
  | [d1, d2] => { results := [.lit (.bool true)], args := [d1, d2] }
  | _ => none }
def keysCommonRow : OpenClaim := { program := "ytbfhkbmcleglaaagreat", sum := "b597da000a7a778d18aabb318943a8e919fb12f9b664e914c91e853f37b7fbe6", func := "icehouse/icehousekeep.KeysCommon", spec := "keysCommon", inPlace := ["slices.overlaps[icehouse/api.Bucket]", "slices.overlaps[icehouse/api.Part]", "slices.overlaps[int]", "internal/bytealg.IndexByteString", "internal/bytealg.IndexString"], unfollowed := true, recurses := true, named := ["internal/bytealg.MaxLen"], plainKeys := false, apart := false }
def KeysCommonSaid : Prop := keysCommonRow.holds Tryz.pinned (OpenSpec.ofChange keysCommonSpec)

/-- ITS FALSE NEIGHBOUR: 'it returns false'. Refute it at one input. -/
def keysCommonWrong : ChangeSpec := { name := "keysCommon", fn := fun _ => fun
  | [d1, d2] => { results := [.lit (.bool false)], args := [d1, d2] }
  | _ => none }
def KeysCommonWrongFalsely : Prop := keysCommonRow.holds Tryz.pinned (OpenSpec.ofChange keysCommonWrong)

/-- 'icehousekeep.VersionsAll': WHATEVER THE INPUT: true; the input reads as it did. -/
def versionsAllSpec : ChangeSpec := { name := "versionsAll", fn := fun _ => fun
  | [d1, d2] => { results := [.lit (.bool true)], args := [d1, d2] }
  | _ => none }
def versionsAllRow : OpenClaim := { program := "ytbfhkbmcleglaaagreat", sum := "b597da000a7a778d18aabb318943a8e919fb12f9b664e914c91e853f37b7fbe6", func := "icehouse/icehousekeep.VersionsAll", spec := "versionsAll", inPlace := ["internal/bytealg.IndexByteString", "internal/bytealg.IndexString", "slices.overlaps[icehouse/api.Bucket]", "slices.overlaps[icehouse/api.Part]", "slices.overlaps[int]"], unfollowed := true, recurses := true, named := ["internal/bytealg.MaxLen"], plainKeys := false, apart := false }
def VersionsAllSaid : Prop := versionsAllRow.holds Tryz.pinned (OpenSpec.ofChange versionsAllSpec)

/-- ITS FALSE NEIGHBOUR: 'it returns false'. Refute it at one input. -/
def versionsAllWrong : ChangeSpec := { name := "versionsAll", fn := fun _ => fun
  | [d1, d2] => { results := [.lit (.bool false)], args := [d1, d2] }
  | _ => none }
def VersionsAllWrongFalsely : Prop := versionsAllRow.holds Tryz.pinned (OpenSpec.ofChange versionsAllWrong)

/-- 'icehousekeep.FreezeOld': WHATEVER THE INPUT: true; the input reads as it did. -/
def freezeOldSpec : ChangeSpec := { name := "freezeOld", fn := fun _ => fun
  | [d] => { results := [.lit (.bool true)], args := [d] }
  | _ => none }
def freezeOldRow : OpenClaim := { program := "ytbfhkbmcleglaaagreat", sum := "b597da000a7a778d18aabb318943a8e919fb12f9b664e914c91e853f37b7fbe6", func := "icehouse/icehousekeep.FreezeOld", spec := "freezeOld", inPlace := ["slices.overlaps[icehouse/api.Bucket]", "slices.overlaps[icehouse/api.Part]", "slices.overlaps[int]"], unfollowed := true, recurses := true, plainKeys := false, apart := false }
def FreezeOldSaid : Prop := freezeOldRow.holds Tryz.pinned (OpenSpec.ofChange freezeOldSpec)

/-- ITS FALSE NEIGHBOUR: 'it returns false'. Refute it at one input. -/
def freezeOldWrong : ChangeSpec := { name := "freezeOld", fn := fun _ => fun
  | [d] => { results := [.lit (.bool false)], args := [d] }
  | _ => none }
def FreezeOldWrongFalsely : Prop := freezeOldRow.holds Tryz.pinned (OpenSpec.ofChange freezeOldWrong)

/-- 'icehousekeep.ChillOver': WHATEVER THE INPUT: true; the input reads as it did. -/
def chillOverSpec : ChangeSpec := { name := "chillOver", fn := fun _ => fun
  | [d1, d2] => { results := [.lit (.bool true)], args := [d1, d2] }
  | _ => none }
def chillOverRow : OpenClaim := { program := "ytbfhkbmcleglaaagreat", sum := "b597da000a7a778d18aabb318943a8e919fb12f9b664e914c91e853f37b7fbe6", func := "icehouse/icehousekeep.ChillOver", spec := "chillOver", inPlace := ["slices.overlaps[icehouse/api.Bucket]", "slices.overlaps[icehouse/api.Part]", "slices.overlaps[int]"], unfollowed := true, recurses := true, plainKeys := false, apart := false }
def ChillOverSaid : Prop := chillOverRow.holds Tryz.pinned (OpenSpec.ofChange chillOverSpec)

/-- ITS FALSE NEIGHBOUR: 'it returns false'. Refute it at one input. -/
def chillOverWrong : ChangeSpec := { name := "chillOver", fn := fun _ => fun
  | [d1, d2] => { results := [.lit (.bool false)], args := [d1, d2] }
  | _ => none }
def ChillOverWrongFalsely : Prop := chillOverRow.holds Tryz.pinned (OpenSpec.ofChange chillOverWrong)

/-- 'icehousekeep.NextClass': WHATEVER THE INPUT: true; the input reads as it did. -/
def nextClassSpec : ChangeSpec := { name := "nextClass", fn := fun _ => fun
  | [d] => { results := [.lit (.bool true)], args := [d] }
  | _ => none }
def nextClassRow : OpenClaim := { program := "ytbfhkbmcleglaaagreat", sum := "b597da000a7a778d18aabb318943a8e919fb12f9b664e914c91e853f37b7fbe6", func := "icehouse/icehousekeep.NextClass", spec := "nextClass", inPlace := ["slices.overlaps[icehouse/api.Bucket]", "slices.overlaps[icehouse/api.Part]", "slices.overlaps[int]"], unfollowed := true, recurses := true, plainKeys := false, apart := false }
def NextClassSaid : Prop := nextClassRow.holds Tryz.pinned (OpenSpec.ofChange nextClassSpec)

/-- ITS FALSE NEIGHBOUR: 'it returns false'. Refute it at one input. -/
def nextClassWrong : ChangeSpec := { name := "nextClass", fn := fun _ => fun
  | [d] => { results := [.lit (.bool false)], args := [d] }
  | _ => none }
def NextClassWrongFalsely : Prop := nextClassRow.holds Tryz.pinned (OpenSpec.ofChange nextClassWrong)

/-- 'icehousekeep.LiveSum': WHATEVER THE INPUT: true; the input reads as it did. -/
def liveSumSpec : ChangeSpec := { name := "liveSum", fn := fun _ => fun
  | [d] => { results := [.lit (.bool true)], args := [d] }
  | _ => none }
def liveSumRow : OpenClaim := { program := "ytbfhkbmcleglaaagreat", sum := "b597da000a7a778d18aabb318943a8e919fb12f9b664e914c91e853f37b7fbe6", func := "icehouse/icehousekeep.LiveSum", spec := "liveSum", inPlace := ["slices.overlaps[icehouse/api.Bucket]", "slices.overlaps[icehouse/api.Part]", "slices.overlaps[int]"], unfollowed := true, recurses := true, plainKeys := false, apart := false }
def LiveSumSaid : Prop := liveSumRow.holds Tryz.pinned (OpenSpec.ofChange liveSumSpec)

/-- ITS FALSE NEIGHBOUR: 'it returns false'. Refute it at one input. -/
def liveSumWrong : ChangeSpec := { name := "liveSum", fn := fun _ => fun
  | [d] => { results := [.lit (.bool false)], args := [d] }
  | _ => none }
def LiveSumWrongFalsely : Prop := liveSumRow.holds Tryz.pinned (OpenSpec.ofChange liveSumWrong)

/-- 'icehousekeep.HalfDead': WHATEVER THE INPUT: true; the input reads as it did. -/
def halfDeadSpec : ChangeSpec := { name := "halfDead", fn := fun _ => fun
  | [d1, d2] => { results := [.lit (.bool true)], args := [d1, d2] }
  | _ => none }
def halfDeadRow : OpenClaim := { program := "ytbfhkbmcleglaaagreat", sum := "b597da000a7a778d18aabb318943a8e919fb12f9b664e914c91e853f37b7fbe6", func := "icehouse/icehousekeep.HalfDead", spec := "halfDead", inPlace := ["slices.overlaps[icehouse/api.Bucket]", "slices.overlaps[icehouse/api.Part]", "slices.overlaps[int]"], unfollowed := true, recurses := true, plainKeys := false, apart := false }
def HalfDeadSaid : Prop := halfDeadRow.holds Tryz.pinned (OpenSpec.ofChange halfDeadSpec)

/-- ITS FALSE NEIGHBOUR: 'it returns false'. Refute it at one input. -/
def halfDeadWrong : ChangeSpec := { name := "halfDead", fn := fun _ => fun
  | [d1, d2] => { results := [.lit (.bool false)], args := [d1, d2] }
  | _ => none }
def HalfDeadWrongFalsely : Prop := halfDeadRow.holds Tryz.pinned (OpenSpec.ofChange halfDeadWrong)

/-- 'icehousekeep.PlaceRoom': WHATEVER THE INPUT: true; the input reads as it did. -/
def placeRoomSpec : ChangeSpec := { name := "placeRoom", fn := fun _ => fun
  | [d1, d2, d3, d4, d5] => { results := [.lit (.bool true)], args := [d1, d2, d3, d4, d5] }
  | _ => none }
def placeRoomRow : OpenClaim := { program := "ytbfhkbmcleglaaagreat", sum := "b597da000a7a778d18aabb318943a8e919fb12f9b664e914c91e853f37b7fbe6", func := "icehouse/icehousekeep.PlaceRoom", spec := "placeRoom", inPlace := ["slices.overlaps[icehouse/api.Bucket]", "slices.overlaps[icehouse/api.Part]", "slices.overlaps[int]"], unfollowed := true, recurses := true, plainKeys := false, apart := false }
def PlaceRoomSaid : Prop := placeRoomRow.holds Tryz.pinned (OpenSpec.ofChange placeRoomSpec)

/-- ITS FALSE NEIGHBOUR: 'it returns false'. Refute it at one input. -/
def placeRoomWrong : ChangeSpec := { name := "placeRoom", fn := fun _ => fun
  | [d1, d2, d3, d4, d5] => { results := [.lit (.bool false)], args := [d1, d2, d3, d4, d5] }
  | _ => none }
def PlaceRoomWrongFalsely : Prop := placeRoomRow.holds Tryz.pinned (OpenSpec.ofChange placeRoomWrong)

/- THE SECOND FORM. 'bulk': how many values and letters a reading holds, each counted each time it is reached (what is shared counts as often as it is met; a slice's spare places count too). A statement '..UptoSaid' is the law's where the arguments, and the package variables that the reading takes, are together of bulk at most 1048576: NARROWER than '..Said'. Prove '..Said' where nothing that the law and all that it calls make is longer than what came in: it says more and counts as full. Else prove '..UptoSaid'. A law counts once. -/
mutual
def uptoBulk {H : Type} : DataW H → Nat
  | .lit (.string bytes) => bytes.length + 1
  | .lit _ => 1
  | .nil => 1
  | .ptr d => uptoBulk d + 1
  | .slice elems spare => uptoBulkAll elems + uptoBulkAll spare + 1
  | .agg parts => uptoBulkAll parts + 1
  | .iface _ d => uptoBulk d + 1
  | .map entries => uptoBulkEntries entries + 1
  | .held _ => 1
def uptoBulkAll {H : Type} : List (DataW H) → Nat
  | [] => 0
  | d :: r => uptoBulk d + uptoBulkAll r
def uptoBulkEntries {H : Type} : List (Lit × DataW H) → Nat
  | [] => 0
  | x :: r => uptoBulkEntry x + uptoBulkEntries r
def uptoBulkEntry {H : Type} : Lit × DataW H → Nat
  | (.string bytes, d) => bytes.length + uptoBulk d + 1
  | (_, d) => uptoBulk d + 1
 end
def uptoSmall : (H : Type) → List (DataW H) → Bool := fun _ ds => decide (uptoBulkAll ds ≤ 1048576)
def OpenSpec.upto (s : _root_.Go.ChangeSpec) : _root_.Go.OpenSpec := { _root_.Go.OpenSpec.ofChange s with cond := some uptoSmall }

/-- 'icehousekeep.StateGood', WHERE WHAT IT READS IS OF BULK AT MOST 1048576: true; the input reads as it did. -/
def stateGoodUptoRow : OpenClaim := { program := "ytbfhkbmcleglaaagreat", sum := "b597da000a7a778d18aabb318943a8e919fb12f9b664e914c91e853f37b7fbe6", func := "icehouse/icehousekeep.StateGood", spec := "stateGood", inPlace := ["slices.overlaps[icehouse/api.Bucket]", "slices.overlaps[icehouse/api.Part]", "slices.overlaps[int]"], unfollowed := true, recurses := true, plainKeys := false, apart := false, narrowed := true }
def StateGoodUptoSaid : Prop := stateGoodUptoRow.holds Tryz.pinned (OpenSpec.upto stateGoodSpec)

/-- 'icehousekeep.NextRises', WHERE WHAT IT READS IS OF BULK AT MOST 1048576: true; the input reads as it did. -/
def nextRisesUptoRow : OpenClaim := { program := "ytbfhkbmcleglaaagreat", sum := "b597da000a7a778d18aabb318943a8e919fb12f9b664e914c91e853f37b7fbe6", func := "icehouse/icehousekeep.NextRises", spec := "nextRises", inPlace := ["slices.overlaps[icehouse/api.Bucket]", "slices.overlaps[icehouse/api.Part]", "slices.overlaps[int]"], unfollowed := true, recurses := true, plainKeys := false, apart := false, narrowed := true }
def NextRisesUptoSaid : Prop := nextRisesUptoRow.holds Tryz.pinned (OpenSpec.upto nextRisesSpec)

/-- 'icehousekeep.NullOne', WHERE WHAT IT READS IS OF BULK AT MOST 1048576: true; the input reads as it did. -/
def nullOneUptoRow : OpenClaim := { program := "ytbfhkbmcleglaaagreat", sum := "b597da000a7a778d18aabb318943a8e919fb12f9b664e914c91e853f37b7fbe6", func := "icehouse/icehousekeep.NullOne", spec := "nullOne", inPlace := ["slices.overlaps[icehouse/api.Bucket]", "slices.overlaps[icehouse/api.Part]", "slices.overlaps[int]"], unfollowed := true, recurses := true, plainKeys := false, apart := false, narrowed := true }
def NullOneUptoSaid : Prop := nullOneUptoRow.holds Tryz.pinned (OpenSpec.upto nullOneSpec)

/-- 'icehousekeep.DropForgets', WHERE WHAT IT READS IS OF BULK AT MOST 1048576: true; the input reads as it did. -/
def dropForgetsUptoRow : OpenClaim := { program := "ytbfhkbmcleglaaagreat", sum := "b597da000a7a778d18aabb318943a8e919fb12f9b664e914c91e853f37b7fbe6", func := "icehouse/icehousekeep.DropForgets", spec := "dropForgets", inPlace := ["slices.overlaps[icehouse/api.Bucket]", "slices.overlaps[icehouse/api.Part]", "slices.overlaps[int]"], unfollowed := true, recurses := true, plainKeys := false, apart := false, narrowed := true }
def DropForgetsUptoSaid : Prop := dropForgetsUptoRow.holds Tryz.pinned (OpenSpec.upto dropForgetsSpec)

/-- 'icehousekeep.FreeApart', WHERE WHAT IT READS IS OF BULK AT MOST 1048576: true; the input reads as it did. -/
def freeApartUptoRow : OpenClaim := { program := "ytbfhkbmcleglaaagreat", sum := "b597da000a7a778d18aabb318943a8e919fb12f9b664e914c91e853f37b7fbe6", func := "icehouse/icehousekeep.FreeApart", spec := "freeApart", inPlace := ["slices.overlaps[icehouse/api.Bucket]", "slices.overlaps[icehouse/api.Part]", "slices.overlaps[int]"], unfollowed := true, recurses := true, plainKeys := false, apart := false, narrowed := true }
def FreeApartUptoSaid : Prop := freeApartUptoRow.holds Tryz.pinned (OpenSpec.upto freeApartSpec)

/-- 'icehousekeep.AskCold', WHERE WHAT IT READS IS OF BULK AT MOST 1048576: true; the input reads as it did. -/
def askColdUptoRow : OpenClaim := { program := "ytbfhkbmcleglaaagreat", sum := "b597da000a7a778d18aabb318943a8e919fb12f9b664e914c91e853f37b7fbe6", func := "icehouse/icehousekeep.AskCold", spec := "askCold", inPlace := ["slices.overlaps[icehouse/api.Bucket]", "slices.overlaps[icehouse/api.Part]", "slices.overlaps[int]"], unfollowed := true, recurses := true, plainKeys := false, apart := false, narrowed := true }
def AskColdUptoSaid : Prop := askColdUptoRow.holds Tryz.pinned (OpenSpec.upto askColdSpec)

/-- 'icehousekeep.TiersRound', WHERE WHAT IT READS IS OF BULK AT MOST 1048576: true; the input reads as it did. -/
def tiersRoundUptoRow : OpenClaim := { program := "ytbfhkbmcleglaaagreat", sum := "b597da000a7a778d18aabb318943a8e919fb12f9b664e914c91e853f37b7fbe6", func := "icehouse/icehousekeep.TiersRound", spec := "tiersRound", inPlace := ["slices.overlaps[icehouse/api.Bucket]", "slices.overlaps[icehouse/api.Part]", "slices.overlaps[int]"], unfollowed := true, recurses := true, plainKeys := false, apart := false, narrowed := true }
def TiersRoundUptoSaid : Prop := tiersRoundUptoRow.holds Tryz.pinned (OpenSpec.upto tiersRoundSpec)

/-- 'icehousekeep.GoneEmpty', WHERE WHAT IT READS IS OF BULK AT MOST 1048576: true; the input reads as it did. -/
def goneEmptyUptoRow : OpenClaim := { program := "ytbfhkbmcleglaaagreat", sum := "b597da000a7a778d18aabb318943a8e919fb12f9b664e914c91e853f37b7fbe6", func := "icehouse/icehousekeep.GoneEmpty", spec := "goneEmpty", inPlace := ["slices.overlaps[icehouse/api.Bucket]", "slices.overlaps[icehouse/api.Part]", "slices.overlaps[int]"], unfollowed := true, recurses := true, plainKeys := false, apart := false, narrowed := true }
def GoneEmptyUptoSaid : Prop := goneEmptyUptoRow.holds Tryz.pinned (OpenSpec.upto goneEmptySpec)

/-- 'icehousekeep.ModeOn', WHERE WHAT IT READS IS OF BULK AT MOST 1048576: true; the input reads as it did. -/
def modeOnUptoRow : OpenClaim := { program := "ytbfhkbmcleglaaagreat", sum := "b597da000a7a778d18aabb318943a8e919fb12f9b664e914c91e853f37b7fbe6", func := "icehouse/icehousekeep.ModeOn", spec := "modeOn", inPlace := ["slices.overlaps[icehouse/api.Bucket]", "slices.overlaps[icehouse/api.Part]", "slices.overlaps[int]"], unfollowed := true, recurses := true, plainKeys := false, apart := false, narrowed := true }
def ModeOnUptoSaid : Prop := modeOnUptoRow.holds Tryz.pinned (OpenSpec.upto modeOnSpec)

/-- 'icehousekeep.KeysOrder', WHERE WHAT IT READS IS OF BULK AT MOST 1048576: true; the input reads as it did. -/
def keysOrderUptoRow : OpenClaim := { program := "ytbfhkbmcleglaaagreat", sum := "b597da000a7a778d18aabb318943a8e919fb12f9b664e914c91e853f37b7fbe6", func := "icehouse/icehousekeep.KeysOrder", spec := "keysOrder", inPlace := ["slices.overlaps[icehouse/api.Bucket]", "slices.overlaps[icehouse/api.Part]", "slices.overlaps[int]", "internal/bytealg.IndexByteString", "internal/bytealg.IndexString"], unfollowed := true, recurses := true, named := ["internal/bytealg.MaxLen"], plainKeys := false, apart := false, narrowed := true }
def KeysOrderUptoSaid : Prop := keysOrderUptoRow.holds Tryz.pinned (OpenSpec.upto keysOrderSpec)

/-- 'icehousekeep.KeysPages', WHERE WHAT IT READS IS OF BULK AT MOST 1048576: true; the input reads as it did. -/
def keysPagesUptoRow : OpenClaim := { program := "ytbfhkbmcleglaaagreat", sum := "b597da000a7a778d18aabb318943a8e919fb12f9b664e914c91e853f37b7fbe6", func := "icehouse/icehousekeep.KeysPages", spec := "keysPages", inPlace := ["internal/bytealg.IndexByteString", "internal/bytealg.IndexString", "slices.overlaps[icehouse/api.Bucket]", "slices.overlaps[icehouse/api.Part]", "slices.overlaps[int]"], unfollowed := true, recurses := true, named := ["internal/bytealg.MaxLen"], plainKeys := false, apart := false, narrowed := true }
def KeysPagesUptoSaid : Prop := keysPagesUptoRow.holds Tryz.pinned (OpenSpec.upto keysPagesSpec)

/-- 'icehousekeep.KeysCommon', WHERE WHAT IT READS IS OF BULK AT MOST 1048576: true; the input reads as it did. -/
def keysCommonUptoRow : OpenClaim := { program := "ytbfhkbmcleglaaagreat", sum := "b597da000a7a778d18aabb318943a8e919fb12f9b664e914c91e853f37b7fbe6", func := "icehouse/icehousekeep.KeysCommon", spec := "keysCommon", inPlace := ["slices.overlaps[icehouse/api.Bucket]", "slices.overlaps[icehouse/api.Part]", "slices.overlaps[int]", "internal/bytealg.IndexByteString", "internal/bytealg.IndexString"], unfollowed := true, recurses := true, named := ["internal/bytealg.MaxLen"], plainKeys := false, apart := false, narrowed := true }
def KeysCommonUptoSaid : Prop := keysCommonUptoRow.holds Tryz.pinned (OpenSpec.upto keysCommonSpec)

/-- 'icehousekeep.VersionsAll', WHERE WHAT IT READS IS OF BULK AT MOST 1048576: true; the input reads as it did. -/
def versionsAllUptoRow : OpenClaim := { program := "ytbfhkbmcleglaaagreat", sum := "b597da000a7a778d18aabb318943a8e919fb12f9b664e914c91e853f37b7fbe6", func := "icehouse/icehousekeep.VersionsAll", spec := "versionsAll", inPlace := ["internal/bytealg.IndexByteString", "internal/bytealg.IndexString", "slices.overlaps[icehouse/api.Bucket]", "slices.overlaps[icehouse/api.Part]", "slices.overlaps[int]"], unfollowed := true, recurses := true, named := ["internal/bytealg.MaxLen"], plainKeys := false, apart := false, narrowed := true }
def VersionsAllUptoSaid : Prop := versionsAllUptoRow.holds Tryz.pinned (OpenSpec.upto versionsAllSpec)

/-- 'icehousekeep.FreezeOld', WHERE WHAT IT READS IS OF BULK AT MOST 1048576: true; the input reads as it did. -/
def freezeOldUptoRow : OpenClaim := { program := "ytbfhkbmcleglaaagreat", sum := "b597da000a7a778d18aabb318943a8e919fb12f9b664e914c91e853f37b7fbe6", func := "icehouse/icehousekeep.FreezeOld", spec := "freezeOld", inPlace := ["slices.overlaps[icehouse/api.Bucket]", "slices.overlaps[icehouse/api.Part]", "slices.overlaps[int]"], unfollowed := true, recurses := true, plainKeys := false, apart := false, narrowed := true }
def FreezeOldUptoSaid : Prop := freezeOldUptoRow.holds Tryz.pinned (OpenSpec.upto freezeOldSpec)

/-- 'icehousekeep.ChillOver', WHERE WHAT IT READS IS OF BULK AT MOST 1048576: true; the input reads as it did. -/
def chillOverUptoRow : OpenClaim := { program := "ytbfhkbmcleglaaagreat", sum := "b597da000a7a778d18aabb318943a8e919fb12f9b664e914c91e853f37b7fbe6", func := "icehouse/icehousekeep.ChillOver", spec := "chillOver", inPlace := ["slices.overlaps[icehouse/api.Bucket]", "slices.overlaps[icehouse/api.Part]", "slices.overlaps[int]"], unfollowed := true, recurses := true, plainKeys := false, apart := false, narrowed := true }
def ChillOverUptoSaid : Prop := chillOverUptoRow.holds Tryz.pinned (OpenSpec.upto chillOverSpec)

/-- 'icehousekeep.NextClass', WHERE WHAT IT READS IS OF BULK AT MOST 1048576: true; the input reads as it did. -/
def nextClassUptoRow : OpenClaim := { program := "ytbfhkbmcleglaaagreat", sum := "b597da000a7a778d18aabb318943a8e919fb12f9b664e914c91e853f37b7fbe6", func := "icehouse/icehousekeep.NextClass", spec := "nextClass", inPlace := ["slices.overlaps[icehouse/api.Bucket]", "slices.overlaps[icehouse/api.Part]", "slices.overlaps[int]"], unfollowed := true, recurses := true, plainKeys := false, apart := false, narrowed := true }
def NextClassUptoSaid : Prop := nextClassUptoRow.holds Tryz.pinned (OpenSpec.upto nextClassSpec)

/-- 'icehousekeep.LiveSum', WHERE WHAT IT READS IS OF BULK AT MOST 1048576: true; the input reads as it did. -/
def liveSumUptoRow : OpenClaim := { program := "ytbfhkbmcleglaaagreat", sum := "b597da000a7a778d18aabb318943a8e919fb12f9b664e914c91e853f37b7fbe6", func := "icehouse/icehousekeep.LiveSum", spec := "liveSum", inPlace := ["slices.overlaps[icehouse/api.Bucket]", "slices.overlaps[icehouse/api.Part]", "slices.overlaps[int]"], unfollowed := true, recurses := true, plainKeys := false, apart := false, narrowed := true }
def LiveSumUptoSaid : Prop := liveSumUptoRow.holds Tryz.pinned (OpenSpec.upto liveSumSpec)

/-- 'icehousekeep.HalfDead', WHERE WHAT IT READS IS OF BULK AT MOST 1048576: true; the input reads as it did. -/
def halfDeadUptoRow : OpenClaim := { program := "ytbfhkbmcleglaaagreat", sum := "b597da000a7a778d18aabb318943a8e919fb12f9b664e914c91e853f37b7fbe6", func := "icehouse/icehousekeep.HalfDead", spec := "halfDead", inPlace := ["slices.overlaps[icehouse/api.Bucket]", "slices.overlaps[icehouse/api.Part]", "slices.overlaps[int]"], unfollowed := true, recurses := true, plainKeys := false, apart := false, narrowed := true }
def HalfDeadUptoSaid : Prop := halfDeadUptoRow.holds Tryz.pinned (OpenSpec.upto halfDeadSpec)

/-- 'icehousekeep.PlaceRoom', WHERE WHAT IT READS IS OF BULK AT MOST 1048576: true; the input reads as it did. -/
def placeRoomUptoRow : OpenClaim := { program := "ytbfhkbmcleglaaagreat", sum := "b597da000a7a778d18aabb318943a8e919fb12f9b664e914c91e853f37b7fbe6", func := "icehouse/icehousekeep.PlaceRoom", spec := "placeRoom", inPlace := ["slices.overlaps[icehouse/api.Bucket]", "slices.overlaps[icehouse/api.Part]", "slices.overlaps[int]"], unfollowed := true, recurses := true, plainKeys := false, apart := false, narrowed := true }
def PlaceRoomUptoSaid : Prop := placeRoomUptoRow.holds Tryz.pinned (OpenSpec.upto placeRoomSpec)

end Rows
end Go.Proofs.YtbfhkbmcleglaaaGreat

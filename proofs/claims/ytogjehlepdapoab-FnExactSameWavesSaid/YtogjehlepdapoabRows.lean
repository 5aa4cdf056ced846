/-
  No cell of these rows narrows 'for every input' (looked for: loops, veiled, ifaces, maps, wideKeys, modest, calm, conditions, laid).
  DERIVED. THE GIVEN ROWS OF THIS SEAT. 12 by the template 'for every input the law returns true; each argument reads behind the call as it read before'; 0 by the template 'total and deterministic' (their statements: YtogjehlepdapoabTotals.lean).
  GIVEN WITH THE SEED: the statements are not yours to turn. If you find one false, say at which input.
  Laid BY PROGRAM, IN A SANDBOX (cutbox-rows.mjs): the forced cells as the released guide's own fill.sh prints them over the translation 3c25c9b40e190fb1… (all of the seat's roots in one cut). By AI agents, Wed Nov 11 2026. No macro, syntax, notation, axiom, sorry.
-/
import Derived.Test.YtogjehlepdapoabChecked
import GoSem.Claim
import GoSem.ClaimJoined
import GoSem.ClaimMapViews
import Derived.JoinedTies
import Derived.KernelRfl
namespace Go.Proofs.Ytogjehlepdapoab
/- THE CELL 'sum', in the pinned program and in every row, IS THE sha256 OF THE DUMP (.gsa) THAT YtogjehlepdapoabProg.lean LOADS. Nothing in Lean hashes anything: it is a label: what it is worth is what the hold of that sum in a sandbox is worth. -/
noncomputable def Try.pinned : Pinned := { name := "ytogjehlepdapoab", sum := "3c25c9b40e190fb179b167ce7c807c902e6ae8c0f67f895e12f845426ea6ffa2", checked := Try.checked }
namespace Rows
def none {H : Type} : Left H := { results := [], args := [] }

/-- 'laws.FnExactPinchTube': WHATEVER THE INPUT: true; the input reads as it did. -/
def fnExactPinchTubeSpec : ChangeSpec := { name := "fnExactPinchTube", fn := fun _ => fun
  | [d1, d2, d3] => { results := [.lit (.bool true)], args := [d1, d2, d3] }
  | _ => none }
def fnExactPinchTubeRow : OpenClaim := { program := "ytogjehlepdapoab", sum := "3c25c9b40e190fb179b167ce7c807c902e6ae8c0f67f895e12f845426ea6ffa2", func := "loop.example/g01279/laws.FnExactPinchTube", spec := "fnExactPinchTube", inPlace := ["math.sqrt", "math.Float64bits", "math.Float64frombits"], apart := false }
def FnExactPinchTubeSaid : Prop := fnExactPinchTubeRow.holds Try.pinned (OpenSpec.ofChange fnExactPinchTubeSpec)

/-- ITS FALSE NEIGHBOUR: 'it returns false'. Refute it at one input. -/
def fnExactPinchTubeWrong : ChangeSpec := { name := "fnExactPinchTube", fn := fun _ => fun
  | [d1, d2, d3] => { results := [.lit (.bool false)], args := [d1, d2, d3] }
  | _ => none }
def FnExactPinchTubeWrongFalsely : Prop := fnExactPinchTubeRow.holds Try.pinned (OpenSpec.ofChange fnExactPinchTubeWrong)

/-- 'laws.FnExactVolumeOf': WHATEVER THE INPUT: true; the input reads as it did. -/
def fnExactVolumeOfSpec : ChangeSpec := { name := "fnExactVolumeOf", fn := fun _ => fun
  | [d] => { results := [.lit (.bool true)], args := [d] }
  | _ => none }
def fnExactVolumeOfRow : OpenClaim := { program := "ytogjehlepdapoab", sum := "3c25c9b40e190fb179b167ce7c807c902e6ae8c0f67f895e12f845426ea6ffa2", func := "loop.example/g01279/laws.FnExactVolumeOf", spec := "fnExactVolumeOf", inPlace := ["math.Float64bits", "math.Float64frombits"], apart := false }
def FnExactVolumeOfSaid : Prop := fnExactVolumeOfRow.holds Try.pinned (OpenSpec.ofChange fnExactVolumeOfSpec)

/-- ITS FALSE NEIGHBOUR: 'it returns false'. Refute it at one input. -/
def fnExactVolumeOfWrong : ChangeSpec := { name := "fnExactVolumeOf", fn := fun _ => fun
  | [d] => { results := [.lit (.bool false)], args := [d] }
  | _ => none }
def FnExactVolumeOfWrongFalsely : Prop := fnExactVolumeOfRow.holds Try.pinned (OpenSpec.ofChange fnExactVolumeOfWrong)

/-- 'laws.FnExactNarrowestOf': WHATEVER THE INPUT: true; the input reads as it did. -/
def fnExactNarrowestOfSpec : ChangeSpec := { name := "fnExactNarrowestOf", fn := fun _ => fun
  | [d] => { results := [.lit (.bool true)], args := [d] }
  | _ => none }
def fnExactNarrowestOfRow : OpenClaim := { program := "ytogjehlepdapoab", sum := "3c25c9b40e190fb179b167ce7c807c902e6ae8c0f67f895e12f845426ea6ffa2", func := "loop.example/g01279/laws.FnExactNarrowestOf", spec := "fnExactNarrowestOf", inPlace := ["math.Float64bits", "math.Float64frombits"], apart := false }
def FnExactNarrowestOfSaid : Prop := fnExactNarrowestOfRow.holds Try.pinned (OpenSpec.ofChange fnExactNarrowestOfSpec)

/-- ITS FALSE NEIGHBOUR: 'it returns false'. Refute it at one input. -/
def fnExactNarrowestOfWrong : ChangeSpec := { name := "fnExactNarrowestOf", fn := fun _ => fun
  | [d] => { results := [.lit (.bool false)], args := [d] }
  | _ => none }
def FnExactNarrowestOfWrongFalsely : Prop := fnExactNarrowestOfRow.holds Try.pinned (OpenSpec.ofChange fnExactNarrowestOfWrong)

/-- 'laws.FnExactReflectionsOf': WHATEVER THE INPUT: true; the input reads as it did. -/
def fnExactReflectionsOfSpec : ChangeSpec := { name := "fnExactReflectionsOf", fn := fun _ => fun
  | [d] => { results := [.lit (.bool true)], args := [d] }
  | _ => none }
def fnExactReflectionsOfRow : OpenClaim := { program := "ytogjehlepdapoab", sum := "3c25c9b40e190fb179b167ce7c807c902e6ae8c0f67f895e12f845426ea6ffa2", func := "loop.example/g01279/laws.FnExactReflectionsOf", spec := "fnExactReflectionsOf", inPlace := ["math.Float64bits", "math.Float64frombits"], apart := false }
def FnExactReflectionsOfSaid : Prop := fnExactReflectionsOfRow.holds Try.pinned (OpenSpec.ofChange fnExactReflectionsOfSpec)

/-- ITS FALSE NEIGHBOUR: 'it returns false'. Refute it at one input. -/
def fnExactReflectionsOfWrong : ChangeSpec := { name := "fnExactReflectionsOf", fn := fun _ => fun
  | [d] => { results := [.lit (.bool false)], args := [d] }
  | _ => none }
def FnExactReflectionsOfWrongFalsely : Prop := fnExactReflectionsOfRow.holds Try.pinned (OpenSpec.ofChange fnExactReflectionsOfWrong)

/-- 'laws.FnExactAreasFrom': WHATEVER THE INPUT: true; the input reads as it did. -/
def fnExactAreasFromSpec : ChangeSpec := { name := "fnExactAreasFrom", fn := fun _ => fun
  | [d1, d2] => { results := [.lit (.bool true)], args := [d1, d2] }
  | _ => none }
def fnExactAreasFromRow : OpenClaim := { program := "ytogjehlepdapoab", sum := "3c25c9b40e190fb179b167ce7c807c902e6ae8c0f67f895e12f845426ea6ffa2", func := "loop.example/g01279/laws.FnExactAreasFrom", spec := "fnExactAreasFrom", inPlace := ["math.Float64bits", "math.Float64frombits"], apart := false }
def FnExactAreasFromSaid : Prop := fnExactAreasFromRow.holds Try.pinned (OpenSpec.ofChange fnExactAreasFromSpec)

/-- ITS FALSE NEIGHBOUR: 'it returns false'. Refute it at one input. -/
def fnExactAreasFromWrong : ChangeSpec := { name := "fnExactAreasFrom", fn := fun _ => fun
  | [d1, d2] => { results := [.lit (.bool false)], args := [d1, d2] }
  | _ => none }
def FnExactAreasFromWrongFalsely : Prop := fnExactAreasFromRow.holds Try.pinned (OpenSpec.ofChange fnExactAreasFromWrong)

/-- 'laws.FnExactStillWaves': WHATEVER THE INPUT: true; the input reads as it did. -/
def fnExactStillWavesSpec : ChangeSpec := { name := "fnExactStillWaves", fn := fun _ => fun
  | [d] => { results := [.lit (.bool true)], args := [d] }
  | _ => none }
def fnExactStillWavesRow : OpenClaim := { program := "ytogjehlepdapoab", sum := "3c25c9b40e190fb179b167ce7c807c902e6ae8c0f67f895e12f845426ea6ffa2", func := "loop.example/g01279/laws.FnExactStillWaves", spec := "fnExactStillWaves", inPlace := ["math.Float64bits", "math.Float64frombits"], apart := false }
def FnExactStillWavesSaid : Prop := fnExactStillWavesRow.holds Try.pinned (OpenSpec.ofChange fnExactStillWavesSpec)

/-- ITS FALSE NEIGHBOUR: 'it returns false'. Refute it at one input. -/
def fnExactStillWavesWrong : ChangeSpec := { name := "fnExactStillWaves", fn := fun _ => fun
  | [d] => { results := [.lit (.bool false)], args := [d] }
  | _ => none }
def FnExactStillWavesWrongFalsely : Prop := fnExactStillWavesRow.holds Try.pinned (OpenSpec.ofChange fnExactStillWavesWrong)

/-- 'laws.FnExactAreWaves': WHATEVER THE INPUT: true; the input reads as it did. -/
def fnExactAreWavesSpec : ChangeSpec := { name := "fnExactAreWaves", fn := fun _ => fun
  | [d1, d2] => { results := [.lit (.bool true)], args := [d1, d2] }
  | _ => none }
def fnExactAreWavesRow : OpenClaim := { program := "ytogjehlepdapoab", sum := "3c25c9b40e190fb179b167ce7c807c902e6ae8c0f67f895e12f845426ea6ffa2", func := "loop.example/g01279/laws.FnExactAreWaves", spec := "fnExactAreWaves", inPlace := ["math.Float64bits", "math.Float64frombits"], apart := false }
def FnExactAreWavesSaid : Prop := fnExactAreWavesRow.holds Try.pinned (OpenSpec.ofChange fnExactAreWavesSpec)

/-- ITS FALSE NEIGHBOUR: 'it returns false'. Refute it at one input. -/
def fnExactAreWavesWrong : ChangeSpec := { name := "fnExactAreWaves", fn := fun _ => fun
  | [d1, d2] => { results := [.lit (.bool false)], args := [d1, d2] }
  | _ => none }
def FnExactAreWavesWrongFalsely : Prop := fnExactAreWavesRow.holds Try.pinned (OpenSpec.ofChange fnExactAreWavesWrong)

/-- 'laws.FnExactSameWaves': WHATEVER THE INPUT: true; the input reads as it did. -/
def fnExactSameWavesSpec : ChangeSpec := { name := "fnExactSameWaves", fn := fun _ => fun
  | [d1, d2] => { results := [.lit (.bool true)], args := [d1, d2] }
  | _ => none }
def fnExactSameWavesRow : OpenClaim := { program := "ytogjehlepdapoab", sum := "3c25c9b40e190fb179b167ce7c807c902e6ae8c0f67f895e12f845426ea6ffa2", func := "loop.example/g01279/laws.FnExactSameWaves", spec := "fnExactSameWaves", inPlace := ["math.Float32bits"], unfollowed := true, recurses := true, apart := false }
def FnExactSameWavesSaid : Prop := fnExactSameWavesRow.holds Try.pinned (OpenSpec.ofChange fnExactSameWavesSpec)

/-- ITS FALSE NEIGHBOUR: 'it returns false'. Refute it at one input. -/
def fnExactSameWavesWrong : ChangeSpec := { name := "fnExactSameWaves", fn := fun _ => fun
  | [d1, d2] => { results := [.lit (.bool false)], args := [d1, d2] }
  | _ => none }
def FnExactSameWavesWrongFalsely : Prop := fnExactSameWavesRow.holds Try.pinned (OpenSpec.ofChange fnExactSameWavesWrong)

/-- 'laws.FnExactAddWaves': WHATEVER THE INPUT: true; the input reads as it did. -/
def fnExactAddWavesSpec : ChangeSpec := { name := "fnExactAddWaves", fn := fun _ => fun
  | [d1, d2, d3] => { results := [.lit (.bool true)], args := [d1, d2, d3] }
  | _ => none }
def fnExactAddWavesRow : OpenClaim := { program := "ytogjehlepdapoab", sum := "3c25c9b40e190fb179b167ce7c807c902e6ae8c0f67f895e12f845426ea6ffa2", func := "loop.example/g01279/laws.FnExactAddWaves", spec := "fnExactAddWaves", inPlace := ["math.Float64bits", "math.Float64frombits"], apart := false }
def FnExactAddWavesSaid : Prop := fnExactAddWavesRow.holds Try.pinned (OpenSpec.ofChange fnExactAddWavesSpec)

/-- ITS FALSE NEIGHBOUR: 'it returns false'. Refute it at one input. -/
def fnExactAddWavesWrong : ChangeSpec := { name := "fnExactAddWaves", fn := fun _ => fun
  | [d1, d2, d3] => { results := [.lit (.bool false)], args := [d1, d2, d3] }
  | _ => none }
def FnExactAddWavesWrongFalsely : Prop := fnExactAddWavesRow.holds Try.pinned (OpenSpec.ofChange fnExactAddWavesWrong)

/-- 'laws.FnExactStepWaves': WHATEVER THE INPUT: true; the input reads as it did. -/
def fnExactStepWavesSpec : ChangeSpec := { name := "fnExactStepWaves", fn := fun _ => fun
  | [d1, d2, d3] => { results := [.lit (.bool true)], args := [d1, d2, d3] }
  | _ => none }
def fnExactStepWavesRow : OpenClaim := { program := "ytogjehlepdapoab", sum := "3c25c9b40e190fb179b167ce7c807c902e6ae8c0f67f895e12f845426ea6ffa2", func := "loop.example/g01279/laws.FnExactStepWaves", spec := "fnExactStepWaves", inPlace := ["math.Float64bits", "math.Float64frombits"], unfollowed := true, recurses := true, apart := false }
def FnExactStepWavesSaid : Prop := fnExactStepWavesRow.holds Try.pinned (OpenSpec.ofChange fnExactStepWavesSpec)

/-- ITS FALSE NEIGHBOUR: 'it returns false'. Refute it at one input. -/
def fnExactStepWavesWrong : ChangeSpec := { name := "fnExactStepWaves", fn := fun _ => fun
  | [d1, d2, d3] => { results := [.lit (.bool false)], args := [d1, d2, d3] }
  | _ => none }
def FnExactStepWavesWrongFalsely : Prop := fnExactStepWavesRow.holds Try.pinned (OpenSpec.ofChange fnExactStepWavesWrong)

/-- 'laws.FnExactRunWaves': WHATEVER THE INPUT: true; the input reads as it did. -/
def fnExactRunWavesSpec : ChangeSpec := { name := "fnExactRunWaves", fn := fun _ => fun
  | [d1, d2, d3] => { results := [.lit (.bool true)], args := [d1, d2, d3] }
  | _ => none }
def fnExactRunWavesRow : OpenClaim := { program := "ytogjehlepdapoab", sum := "3c25c9b40e190fb179b167ce7c807c902e6ae8c0f67f895e12f845426ea6ffa2", func := "loop.example/g01279/laws.FnExactRunWaves", spec := "fnExactRunWaves", inPlace := ["math.Float64bits", "math.Float64frombits"], unfollowed := true, recurses := true, apart := false }
def FnExactRunWavesSaid : Prop := fnExactRunWavesRow.holds Try.pinned (OpenSpec.ofChange fnExactRunWavesSpec)

/-- ITS FALSE NEIGHBOUR: 'it returns false'. Refute it at one input. -/
def fnExactRunWavesWrong : ChangeSpec := { name := "fnExactRunWaves", fn := fun _ => fun
  | [d1, d2, d3] => { results := [.lit (.bool false)], args := [d1, d2, d3] }
  | _ => none }
def FnExactRunWavesWrongFalsely : Prop := fnExactRunWavesRow.holds Try.pinned (OpenSpec.ofChange fnExactRunWavesWrong)

/-- 'laws.FnExactEnergyOfWaves': WHATEVER THE INPUT: true; the input reads as it did. -/
def fnExactEnergyOfWavesSpec : ChangeSpec := { name := "fnExactEnergyOfWaves", fn := fun _ => fun
  | [d1, d2] => { results := [.lit (.bool true)], args := [d1, d2] }
  | _ => none }
def fnExactEnergyOfWavesRow : OpenClaim := { program := "ytogjehlepdapoab", sum := "3c25c9b40e190fb179b167ce7c807c902e6ae8c0f67f895e12f845426ea6ffa2", func := "loop.example/g01279/laws.FnExactEnergyOfWaves", spec := "fnExactEnergyOfWaves", inPlace := ["math.Float64bits", "math.Float64frombits"], apart := false }
def FnExactEnergyOfWavesSaid : Prop := fnExactEnergyOfWavesRow.holds Try.pinned (OpenSpec.ofChange fnExactEnergyOfWavesSpec)

/-- ITS FALSE NEIGHBOUR: 'it returns false'. Refute it at one input. -/
def fnExactEnergyOfWavesWrong : ChangeSpec := { name := "fnExactEnergyOfWaves", fn := fun _ => fun
  | [d1, d2] => { results := [.lit (.bool false)], args := [d1, d2] }
  | _ => none }
def FnExactEnergyOfWavesWrongFalsely : Prop := fnExactEnergyOfWavesRow.holds Try.pinned (OpenSpec.ofChange fnExactEnergyOfWavesWrong)

/- THE SECOND FORM. 'bulk': how many values and letters a reading holds, each counted each time it is reached (what is shared counts as often as it is met; a slice's spare places count too). A statement '..UptoSaid' is the law's where the arguments, and the package variables that the reading takes, are together of bulk at most 1048576: NARROWER than '..Said'. Prove '..Said' where nothing that the law and all that it calls make is longer than what came in: it says more and counts as full. Else prove '..UptoSaid'. A law counts once. -/
mutual
def uptoBulk {H : Type} : DataW H → Nat
  | .lit (.string bytes) => bytes.length + 1
  | .lit _ => 1
  | .nil => 1
  | .ptr d => uptoBulk d + 1
  | .slice elems spare => uptoBulkAll elems + uptoBulkAll spare + 1
  | .agg parts => uptoBulkAll parts + 1
  | .iface _ d => uptoBulk d + 1
  | .map entries => uptoBulkEntries entries + 1
  | .held _ => 1
def uptoBulkAll {H : Type} : List (DataW H) → Nat
  | [] => 0
  | d :: r => uptoBulk d + uptoBulkAll r
def uptoBulkEntries {H : Type} : List (Lit × DataW H) → Nat
  | [] => 0
  | x :: r => uptoBulkEntry x + uptoBulkEntries r
def uptoBulkEntry {H : Type} : Lit × DataW H → Nat
  | (.string bytes, d) => bytes.length + uptoBulk d + 1
  | (_, d) => uptoBulk d + 1
 end
def uptoSmall : (H : Type) → List (DataW H) → Bool := fun _ ds => decide (uptoBulkAll ds ≤ 1048576)
def OpenSpec.upto (s : _root_.Go.ChangeSpec) : _root_.Go.OpenSpec := { _root_.Go.OpenSpec.ofChange s with cond := some uptoSmall }

/-- 'laws.FnExactPinchTube', WHERE WHAT IT READS IS OF BULK AT MOST 1048576: true; the input reads as it did. -/
def fnExactPinchTubeUptoRow : OpenClaim := { program := "ytogjehlepdapoab", sum := "3c25c9b40e190fb179b167ce7c807c902e6ae8c0f67f895e12f845426ea6ffa2", func := "loop.example/g01279/laws.FnExactPinchTube", spec := "fnExactPinchTube", inPlace := ["math.sqrt", "math.Float64bits", "math.Float64frombits"], apart := false, narrowed := true }
def FnExactPinchTubeUptoSaid : Prop := fnExactPinchTubeUptoRow.holds Try.pinned (OpenSpec.upto fnExactPinchTubeSpec)

/-- 'laws.FnExactVolumeOf', WHERE WHAT IT READS IS OF BULK AT MOST 1048576: true; the input reads as it did. -/
def fnExactVolumeOfUptoRow : OpenClaim := { program := "ytogjehlepdapoab", sum := "3c25c9b40e190fb179b167ce7c807c902e6ae8c0f67f895e12f845426ea6ffa2", func := "loop.example/g01279/laws.FnExactVolumeOf", spec := "fnExactVolumeOf", inPlace := ["math.Float64bits", "math.Float64frombits"], apart := false, narrowed := true }
def FnExactVolumeOfUptoSaid : Prop := fnExactVolumeOfUptoRow.holds Try.pinned (OpenSpec.upto fnExactVolumeOfSpec)

/-- 'laws.FnExactNarrowestOf', WHERE WHAT IT READS IS OF BULK AT MOST 1048576: true; the input reads as it did. -/
def fnExactNarrowestOfUptoRow : OpenClaim := { program := "ytogjehlepdapoab", sum := "3c25c9b40e190fb179b167ce7c807c902e6ae8c0f67f895e12f845426ea6ffa2", func := "loop.example/g01279/laws.FnExactNarrowestOf", spec := "fnExactNarrowestOf", inPlace := ["math.Float64bits", "math.Float64frombits"], apart := false, narrowed := true }
def FnExactNarrowestOfUptoSaid : Prop := fnExactNarrowestOfUptoRow.holds Try.pinned (OpenSpec.upto fnExactNarrowestOfSpec)

/-- 'laws.FnExactReflectionsOf', WHERE WHAT IT READS IS OF BULK AT MOST 1048576: true; the input reads as it did. -/
def fnExactReflectionsOfUptoRow : OpenClaim := { program := "ytogjehlepdapoab", sum := "3c25c9b40e190fb179b167ce7c807c902e6ae8c0f67f895e12f845426ea6ffa2", func := "loop.example/g01279/laws.FnExactReflectionsOf", spec := "fnExactReflectionsOf", inPlace := ["math.Float64bits", "math.Float64frombits"], apart := false, narrowed := true }
def FnExactReflectionsOfUptoSaid : Prop := fnExactReflectionsOfUptoRow.holds Try.pinned (OpenSpec.upto fnExactReflectionsOfSpec)

/-- 'laws.FnExactAreasFrom', WHERE WHAT IT READS IS OF BULK AT MOST 1048576: true; the input reads as it did. -/
def fnExactAreasFromUptoRow : OpenClaim := { program := "ytogjehlepdapoab", sum := "3c25c9b40e190fb179b167ce7c807c902e6ae8c0f67f895e12f845426ea6ffa2", func := "loop.example/g01279/laws.FnExactAreasFrom", spec := "fnExactAreasFrom", inPlace := ["math.Float64bits", "math.Float64frombits"], apart := false, narrowed := true }
def FnExactAreasFromUptoSaid : Prop := fnExactAreasFromUptoRow.holds Try.pinned (OpenSpec.upto fnExactAreasFromSpec)

/-- 'laws.FnExactStillWaves', WHERE WHAT IT READS IS OF BULK AT MOST 1048576: true; the input reads as it did. -/
def fnExactStillWavesUptoRow : OpenClaim := { program := "ytogjehlepdapoab", sum := "3c25c9b40e190fb179b167ce7c807c902e6ae8c0f67f895e12f845426ea6ffa2", func := "loop.example/g01279/laws.FnExactStillWaves", spec := "fnExactStillWaves", inPlace := ["math.Float64bits", "math.Float64frombits"], apart := false, narrowed := true }
def FnExactStillWavesUptoSaid : Prop := fnExactStillWavesUptoRow.holds Try.pinned (OpenSpec.upto fnExactStillWavesSpec)

/-- 'laws.FnExactAreWaves', WHERE WHAT IT READS IS OF BULK AT MOST 1048576: true; the input reads as it did. -/
def fnExactAreWavesUptoRow : OpenClaim := { program := "ytogjehlepdapoab", sum := "3c25c9b40e190fb179b167ce7c807c902e6ae8c0f67f895e12f845426ea6ffa2", func := "loop.example/g01279/laws.FnExactAreWaves", spec := "fnExactAreWaves", inPlace := ["math.Float64bits", "math.Float64frombits"], apart := false, narrowed := true }
def FnExactAreWavesUptoSaid : Prop := fnExactAreWavesUptoRow.holds Try.pinned (OpenSpec.upto fnExactAreWavesSpec)

/-- 'laws.FnExactSameWaves', WHERE WHAT IT READS IS OF BULK AT MOST 1048576: true; the input reads as it did. -/
def fnExactSameWavesUptoRow : OpenClaim := { program := "ytogjehlepdapoab", sum := "3c25c9b40e190fb179b167ce7c807c902e6ae8c0f67f895e12f845426ea6ffa2", func := "loop.example/g01279/laws.FnExactSameWaves", spec := "fnExactSameWaves", inPlace := ["math.Float32bits"], unfollowed := true, recurses := true, apart := false, narrowed := true }
def FnExactSameWavesUptoSaid : Prop := fnExactSameWavesUptoRow.holds Try.pinned (OpenSpec.upto fnExactSameWavesSpec)

/-- 'laws.FnExactAddWaves', WHERE WHAT IT READS IS OF BULK AT MOST 1048576: true; the input reads as it did. -/
def fnExactAddWavesUptoRow : OpenClaim := { program := "ytogjehlepdapoab", sum := "3c25c9b40e190fb179b167ce7c807c902e6ae8c0f67f895e12f845426ea6ffa2", func := "loop.example/g01279/laws.FnExactAddWaves", spec := "fnExactAddWaves", inPlace := ["math.Float64bits", "math.Float64frombits"], apart := false, narrowed := true }
def FnExactAddWavesUptoSaid : Prop := fnExactAddWavesUptoRow.holds Try.pinned (OpenSpec.upto fnExactAddWavesSpec)

/-- 'laws.FnExactStepWaves', WHERE WHAT IT READS IS OF BULK AT MOST 1048576: true; the input reads as it did. -/
def fnExactStepWavesUptoRow : OpenClaim := { program := "ytogjehlepdapoab", sum := "3c25c9b40e190fb179b167ce7c807c902e6ae8c0f67f895e12f845426ea6ffa2", func := "loop.example/g01279/laws.FnExactStepWaves", spec := "fnExactStepWaves", inPlace := ["math.Float64bits", "math.Float64frombits"], unfollowed := true, recurses := true, apart := false, narrowed := true }
def FnExactStepWavesUptoSaid : Prop := fnExactStepWavesUptoRow.holds Try.pinned (OpenSpec.upto fnExactStepWavesSpec)

/-- 'laws.FnExactRunWaves', WHERE WHAT IT READS IS OF BULK AT MOST 1048576: true; the input reads as it did. -/
def fnExactRunWavesUptoRow : OpenClaim := { program := "ytogjehlepdapoab", sum := "3c25c9b40e190fb179b167ce7c807c902e6ae8c0f67f895e12f845426ea6ffa2", func := "loop.example/g01279/laws.FnExactRunWaves", spec := "fnExactRunWaves", inPlace := ["math.Float64bits", "math.Float64frombits"], unfollowed := true, recurses := true, apart := false, narrowed := true }
def FnExactRunWavesUptoSaid : Prop := fnExactRunWavesUptoRow.holds Try.pinned (OpenSpec.upto fnExactRunWavesSpec)

/-- 'laws.FnExactEnergyOfWaves', WHERE WHAT IT READS IS OF BULK AT MOST 1048576: true; the input reads as it did. -/
def fnExactEnergyOfWavesUptoRow : OpenClaim := { program := "ytogjehlepdapoab", sum := "3c25c9b40e190fb179b167ce7c807c902e6ae8c0f67f895e12f845426ea6ffa2", func := "loop.example/g01279/laws.FnExactEnergyOfWaves", spec := "fnExactEnergyOfWaves", inPlace := ["math.Float64bits", "math.Float64frombits"], apart := false, narrowed := true }
def FnExactEnergyOfWavesUptoSaid : Prop := fnExactEnergyOfWavesUptoRow.holds Try.pinned (OpenSpec.upto fnExactEnergyOfWavesSpec)

end Rows
end Go.Proofs.Ytogjehlepdapoab

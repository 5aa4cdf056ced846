/-
  No cell of these rows narrows 'for every input' (looked for: loops, veiled, ifaces, maps, wideKeys, modest, calm, conditions, laid).
  DERIVED. THE GIVEN ROWS OF THIS SEAT. 12 by the template 'for every input the law returns true; each argument reads behind the call as it read before'; 0 by the template 'total and deterministic' (their statements: YthinjgiakaflpaaTotals.lean).
  GIVEN WITH THE SEED: the statements are not yours to turn. If you find one false, say at which input.
  Laid BY PROGRAM, IN A SANDBOX (cutbox-rows.mjs): the forced cells as the released guide's own fill.sh prints them over the translation 895743a8e0ea3dec… (all of the seat's roots in one cut). By AI agents, Wed Nov 11 2026. No macro, syntax, notation, axiom, sorry.
-/
import Derived.Test.YthinjgiakaflpaaChecked
import GoSem.Claim
import GoSem.ClaimJoined
import GoSem.ClaimMapViews
import Derived.JoinedTies
import Derived.KernelRfl
namespace Go.Proofs.Ythinjgiakaflpaa
/- THE CELL 'sum', in the pinned program and in every row, IS THE sha256 OF THE DUMP (.gsa) THAT YthinjgiakaflpaaProg.lean LOADS. Nothing in Lean hashes anything: it is a label: what it is worth is what the hold of that sum in a sandbox is worth. -/
noncomputable def Try.pinned : Pinned := { name := "ythinjgiakaflpaa", sum := "895743a8e0ea3deca1b3a8166d58774827cb3606ac69e7f2dfd5a284f628ae1e", checked := Try.checked }
namespace Rows
def none {H : Type} : Left H := { results := [], args := [] }

/-- 'laws.FnExactRampAt': WHATEVER THE INPUT: true; the input reads as it did. -/
def fnExactRampAtSpec : ChangeSpec := { name := "fnExactRampAt", fn := fun _ => fun
  | [d] => { results := [.lit (.bool true)], args := [d] }
  | _ => none }
def fnExactRampAtRow : OpenClaim := { program := "ythinjgiakaflpaa", sum := "895743a8e0ea3deca1b3a8166d58774827cb3606ac69e7f2dfd5a284f628ae1e", func := "loop.example/g01279/laws.FnExactRampAt", spec := "fnExactRampAt", inPlace := ["math.Float64bits", "math.Float64frombits"], apart := false }
def FnExactRampAtSaid : Prop := fnExactRampAtRow.holds Try.pinned (OpenSpec.ofChange fnExactRampAtSpec)

/-- ITS FALSE NEIGHBOUR: 'it returns false'. Refute it at one input. -/
def fnExactRampAtWrong : ChangeSpec := { name := "fnExactRampAt", fn := fun _ => fun
  | [d] => { results := [.lit (.bool false)], args := [d] }
  | _ => none }
def FnExactRampAtWrongFalsely : Prop := fnExactRampAtRow.holds Try.pinned (OpenSpec.ofChange fnExactRampAtWrong)

/-- 'laws.FnExactBumpAt': WHATEVER THE INPUT: true; the input reads as it did. -/
def fnExactBumpAtSpec : ChangeSpec := { name := "fnExactBumpAt", fn := fun _ => fun
  | [d1, d2] => { results := [.lit (.bool true)], args := [d1, d2] }
  | _ => none }
def fnExactBumpAtRow : OpenClaim := { program := "ythinjgiakaflpaa", sum := "895743a8e0ea3deca1b3a8166d58774827cb3606ac69e7f2dfd5a284f628ae1e", func := "loop.example/g01279/laws.FnExactBumpAt", spec := "fnExactBumpAt", inPlace := ["math.Float64bits", "math.Float64frombits"], apart := false }
def FnExactBumpAtSaid : Prop := fnExactBumpAtRow.holds Try.pinned (OpenSpec.ofChange fnExactBumpAtSpec)

/-- ITS FALSE NEIGHBOUR: 'it returns false'. Refute it at one input. -/
def fnExactBumpAtWrong : ChangeSpec := { name := "fnExactBumpAt", fn := fun _ => fun
  | [d1, d2] => { results := [.lit (.bool false)], args := [d1, d2] }
  | _ => none }
def FnExactBumpAtWrongFalsely : Prop := fnExactBumpAtRow.holds Try.pinned (OpenSpec.ofChange fnExactBumpAtWrong)

/-- 'laws.FnExactValidSound': WHATEVER THE INPUT: true; the input reads as it did. -/
def fnExactValidSoundSpec : ChangeSpec := { name := "fnExactValidSound", fn := fun _ => fun
  | [d] => { results := [.lit (.bool true)], args := [d] }
  | _ => none }
def fnExactValidSoundRow : OpenClaim := { program := "ythinjgiakaflpaa", sum := "895743a8e0ea3deca1b3a8166d58774827cb3606ac69e7f2dfd5a284f628ae1e", func := "loop.example/g01279/laws.FnExactValidSound", spec := "fnExactValidSound", inPlace := ["math.Float64bits", "math.Float64frombits"], apart := false }
def FnExactValidSoundSaid : Prop := fnExactValidSoundRow.holds Try.pinned (OpenSpec.ofChange fnExactValidSoundSpec)

/-- ITS FALSE NEIGHBOUR: 'it returns false'. Refute it at one input. -/
def fnExactValidSoundWrong : ChangeSpec := { name := "fnExactValidSound", fn := fun _ => fun
  | [d] => { results := [.lit (.bool false)], args := [d] }
  | _ => none }
def FnExactValidSoundWrongFalsely : Prop := fnExactValidSoundRow.holds Try.pinned (OpenSpec.ofChange fnExactValidSoundWrong)

/-- 'laws.FnExactValidFrame': WHATEVER THE INPUT: true; the input reads as it did. -/
def fnExactValidFrameSpec : ChangeSpec := { name := "fnExactValidFrame", fn := fun _ => fun
  | [d] => { results := [.lit (.bool true)], args := [d] }
  | _ => none }
def fnExactValidFrameRow : OpenClaim := { program := "ythinjgiakaflpaa", sum := "895743a8e0ea3deca1b3a8166d58774827cb3606ac69e7f2dfd5a284f628ae1e", func := "loop.example/g01279/laws.FnExactValidFrame", spec := "fnExactValidFrame", inPlace := ["math.Float64bits", "math.Float64frombits"], apart := false }
def FnExactValidFrameSaid : Prop := fnExactValidFrameRow.holds Try.pinned (OpenSpec.ofChange fnExactValidFrameSpec)

/-- ITS FALSE NEIGHBOUR: 'it returns false'. Refute it at one input. -/
def fnExactValidFrameWrong : ChangeSpec := { name := "fnExactValidFrame", fn := fun _ => fun
  | [d] => { results := [.lit (.bool false)], args := [d] }
  | _ => none }
def FnExactValidFrameWrongFalsely : Prop := fnExactValidFrameRow.holds Try.pinned (OpenSpec.ofChange fnExactValidFrameWrong)

/-- 'laws.FnExactSameFrame': WHATEVER THE INPUT: true; the input reads as it did. -/
def fnExactSameFrameSpec : ChangeSpec := { name := "fnExactSameFrame", fn := fun _ => fun
  | [d1, d2] => { results := [.lit (.bool true)], args := [d1, d2] }
  | _ => none }
def fnExactSameFrameRow : OpenClaim := { program := "ythinjgiakaflpaa", sum := "895743a8e0ea3deca1b3a8166d58774827cb3606ac69e7f2dfd5a284f628ae1e", func := "loop.example/g01279/laws.FnExactSameFrame", spec := "fnExactSameFrame", inPlace := ["math.Float32bits"], unfollowed := true, recurses := true, apart := false }
def FnExactSameFrameSaid : Prop := fnExactSameFrameRow.holds Try.pinned (OpenSpec.ofChange fnExactSameFrameSpec)

/-- ITS FALSE NEIGHBOUR: 'it returns false'. Refute it at one input. -/
def fnExactSameFrameWrong : ChangeSpec := { name := "fnExactSameFrame", fn := fun _ => fun
  | [d1, d2] => { results := [.lit (.bool false)], args := [d1, d2] }
  | _ => none }
def FnExactSameFrameWrongFalsely : Prop := fnExactSameFrameRow.holds Try.pinned (OpenSpec.ofChange fnExactSameFrameWrong)

/-- 'laws.FnExactFrameOf': WHATEVER THE INPUT: true; the input reads as it did. -/
def fnExactFrameOfSpec : ChangeSpec := { name := "fnExactFrameOf", fn := fun _ => fun
  | [d1, d2] => { results := [.lit (.bool true)], args := [d1, d2] }
  | _ => none }
def fnExactFrameOfRow : OpenClaim := { program := "ythinjgiakaflpaa", sum := "895743a8e0ea3deca1b3a8166d58774827cb3606ac69e7f2dfd5a284f628ae1e", func := "loop.example/g01279/laws.FnExactFrameOf", spec := "fnExactFrameOf", inPlace := ["math.Float64bits", "math.Float64frombits"], apart := false }
def FnExactFrameOfSaid : Prop := fnExactFrameOfRow.holds Try.pinned (OpenSpec.ofChange fnExactFrameOfSpec)

/-- ITS FALSE NEIGHBOUR: 'it returns false'. Refute it at one input. -/
def fnExactFrameOfWrong : ChangeSpec := { name := "fnExactFrameOf", fn := fun _ => fun
  | [d1, d2] => { results := [.lit (.bool false)], args := [d1, d2] }
  | _ => none }
def FnExactFrameOfWrongFalsely : Prop := fnExactFrameOfRow.holds Try.pinned (OpenSpec.ofChange fnExactFrameOfWrong)

/-- 'laws.FnExactMixFrames': WHATEVER THE INPUT: true; the input reads as it did. -/
def fnExactMixFramesSpec : ChangeSpec := { name := "fnExactMixFrames", fn := fun _ => fun
  | [d1, d2, d3] => { results := [.lit (.bool true)], args := [d1, d2, d3] }
  | _ => none }
def fnExactMixFramesRow : OpenClaim := { program := "ythinjgiakaflpaa", sum := "895743a8e0ea3deca1b3a8166d58774827cb3606ac69e7f2dfd5a284f628ae1e", func := "loop.example/g01279/laws.FnExactMixFrames", spec := "fnExactMixFrames", inPlace := ["math.Float64bits", "math.Float64frombits"], apart := false }
def FnExactMixFramesSaid : Prop := fnExactMixFramesRow.holds Try.pinned (OpenSpec.ofChange fnExactMixFramesSpec)

/-- ITS FALSE NEIGHBOUR: 'it returns false'. Refute it at one input. -/
def fnExactMixFramesWrong : ChangeSpec := { name := "fnExactMixFrames", fn := fun _ => fun
  | [d1, d2, d3] => { results := [.lit (.bool false)], args := [d1, d2, d3] }
  | _ => none }
def FnExactMixFramesWrongFalsely : Prop := fnExactMixFramesRow.holds Try.pinned (OpenSpec.ofChange fnExactMixFramesWrong)

/-- 'laws.FnExactTubeOfFrame': WHATEVER THE INPUT: true; the input reads as it did. -/
def fnExactTubeOfFrameSpec : ChangeSpec := { name := "fnExactTubeOfFrame", fn := fun _ => fun
  | [d] => { results := [.lit (.bool true)], args := [d] }
  | _ => none }
def fnExactTubeOfFrameRow : OpenClaim := { program := "ythinjgiakaflpaa", sum := "895743a8e0ea3deca1b3a8166d58774827cb3606ac69e7f2dfd5a284f628ae1e", func := "loop.example/g01279/laws.FnExactTubeOfFrame", spec := "fnExactTubeOfFrame", inPlace := ["math.Float64bits", "math.Float64frombits"], apart := false }
def FnExactTubeOfFrameSaid : Prop := fnExactTubeOfFrameRow.holds Try.pinned (OpenSpec.ofChange fnExactTubeOfFrameSpec)

/-- ITS FALSE NEIGHBOUR: 'it returns false'. Refute it at one input. -/
def fnExactTubeOfFrameWrong : ChangeSpec := { name := "fnExactTubeOfFrame", fn := fun _ => fun
  | [d] => { results := [.lit (.bool false)], args := [d] }
  | _ => none }
def FnExactTubeOfFrameWrongFalsely : Prop := fnExactTubeOfFrameRow.holds Try.pinned (OpenSpec.ofChange fnExactTubeOfFrameWrong)

/-- 'laws.FnExactValidTune': WHATEVER THE INPUT: true; the input reads as it did. -/
def fnExactValidTuneSpec : ChangeSpec := { name := "fnExactValidTune", fn := fun _ => fun
  | [d] => { results := [.lit (.bool true)], args := [d] }
  | _ => none }
def fnExactValidTuneRow : OpenClaim := { program := "ythinjgiakaflpaa", sum := "895743a8e0ea3deca1b3a8166d58774827cb3606ac69e7f2dfd5a284f628ae1e", func := "loop.example/g01279/laws.FnExactValidTune", spec := "fnExactValidTune", inPlace := ["math.Float64bits", "math.Float64frombits"], apart := false }
def FnExactValidTuneSaid : Prop := fnExactValidTuneRow.holds Try.pinned (OpenSpec.ofChange fnExactValidTuneSpec)

/-- ITS FALSE NEIGHBOUR: 'it returns false'. Refute it at one input. -/
def fnExactValidTuneWrong : ChangeSpec := { name := "fnExactValidTune", fn := fun _ => fun
  | [d] => { results := [.lit (.bool false)], args := [d] }
  | _ => none }
def FnExactValidTuneWrongFalsely : Prop := fnExactValidTuneRow.holds Try.pinned (OpenSpec.ofChange fnExactValidTuneWrong)

/-- 'laws.FnExactMoveTune': WHATEVER THE INPUT: true; the input reads as it did. -/
def fnExactMoveTuneSpec : ChangeSpec := { name := "fnExactMoveTune", fn := fun _ => fun
  | [d1, d2] => { results := [.lit (.bool true)], args := [d1, d2] }
  | _ => none }
def fnExactMoveTuneRow : OpenClaim := { program := "ythinjgiakaflpaa", sum := "895743a8e0ea3deca1b3a8166d58774827cb3606ac69e7f2dfd5a284f628ae1e", func := "loop.example/g01279/laws.FnExactMoveTune", spec := "fnExactMoveTune", inPlace := ["math.Float64bits", "math.Float64frombits"], apart := false }
def FnExactMoveTuneSaid : Prop := fnExactMoveTuneRow.holds Try.pinned (OpenSpec.ofChange fnExactMoveTuneSpec)

/-- ITS FALSE NEIGHBOUR: 'it returns false'. Refute it at one input. -/
def fnExactMoveTuneWrong : ChangeSpec := { name := "fnExactMoveTune", fn := fun _ => fun
  | [d1, d2] => { results := [.lit (.bool false)], args := [d1, d2] }
  | _ => none }
def FnExactMoveTuneWrongFalsely : Prop := fnExactMoveTuneRow.holds Try.pinned (OpenSpec.ofChange fnExactMoveTuneWrong)

/-- 'laws.FnExactPitchAt': WHATEVER THE INPUT: true; the input reads as it did. -/
def fnExactPitchAtSpec : ChangeSpec := { name := "fnExactPitchAt", fn := fun _ => fun
  | [d1, d2, d3] => { results := [.lit (.bool true)], args := [d1, d2, d3] }
  | _ => none }
def fnExactPitchAtRow : OpenClaim := { program := "ythinjgiakaflpaa", sum := "895743a8e0ea3deca1b3a8166d58774827cb3606ac69e7f2dfd5a284f628ae1e", func := "loop.example/g01279/laws.FnExactPitchAt", spec := "fnExactPitchAt", inPlace := ["math.Float64bits", "math.Float64frombits"], apart := false }
def FnExactPitchAtSaid : Prop := fnExactPitchAtRow.holds Try.pinned (OpenSpec.ofChange fnExactPitchAtSpec)

/-- ITS FALSE NEIGHBOUR: 'it returns false'. Refute it at one input. -/
def fnExactPitchAtWrong : ChangeSpec := { name := "fnExactPitchAt", fn := fun _ => fun
  | [d1, d2, d3] => { results := [.lit (.bool false)], args := [d1, d2, d3] }
  | _ => none }
def FnExactPitchAtWrongFalsely : Prop := fnExactPitchAtRow.holds Try.pinned (OpenSpec.ofChange fnExactPitchAtWrong)

/-- 'laws.FnExactPitchesOf': WHATEVER THE INPUT: true; the input reads as it did. -/
def fnExactPitchesOfSpec : ChangeSpec := { name := "fnExactPitchesOf", fn := fun _ => fun
  | [d1, d2, d3] => { results := [.lit (.bool true)], args := [d1, d2, d3] }
  | _ => none }
def fnExactPitchesOfRow : OpenClaim := { program := "ythinjgiakaflpaa", sum := "895743a8e0ea3deca1b3a8166d58774827cb3606ac69e7f2dfd5a284f628ae1e", func := "loop.example/g01279/laws.FnExactPitchesOf", spec := "fnExactPitchesOf", inPlace := ["math.Float64bits", "math.Float64frombits"], apart := false }
def FnExactPitchesOfSaid : Prop := fnExactPitchesOfRow.holds Try.pinned (OpenSpec.ofChange fnExactPitchesOfSpec)

/-- ITS FALSE NEIGHBOUR: 'it returns false'. Refute it at one input. -/
def fnExactPitchesOfWrong : ChangeSpec := { name := "fnExactPitchesOf", fn := fun _ => fun
  | [d1, d2, d3] => { results := [.lit (.bool false)], args := [d1, d2, d3] }
  | _ => none }
def FnExactPitchesOfWrongFalsely : Prop := fnExactPitchesOfRow.holds Try.pinned (OpenSpec.ofChange fnExactPitchesOfWrong)

/- THE SECOND FORM. 'bulk': how many values and letters a reading holds, each counted each time it is reached (what is shared counts as often as it is met; a slice's spare places count too). A statement '..UptoSaid' is the law's where the arguments, and the package variables that the reading takes, are together of bulk at most 1048576: NARROWER than '..Said'. Prove '..Said' where nothing that the law and all that it calls make is longer than what came in: it says more and counts as full. Else prove '..UptoSaid'. A law counts once. -/
mutual
def uptoBulk {H : Type} : DataW H → Nat
  | .lit (.string bytes) => bytes.length + 1
  | .lit _ => 1
  | .nil => 1
  | .ptr d => uptoBulk d + 1
  | .slice elems spare => uptoBulkAll elems + uptoBulkAll spare + 1
  | .agg parts => uptoBulkAll parts + 1
  | .iface _ d => uptoBulk d + 1
  | .map entries => uptoBulkEntries entries + 1
  | .held _ => 1
def uptoBulkAll {H : Type} : List (DataW H) → Nat
  | [] => 0
  | d :: r => uptoBulk d + uptoBulkAll r
def uptoBulkEntries {H : Type} : List (Lit × DataW H) → Nat
  | [] => 0
  | x :: r => uptoBulkEntry x + uptoBulkEntries r
def uptoBulkEntry {H : Type} : Lit × DataW H → Nat
  | (.string bytes, d) => bytes.length + uptoBulk d + 1
  | (_, d) => uptoBulk d + 1
 end
def uptoSmall : (H : Type) → List (DataW H) → Bool := fun _ ds => decide (uptoBulkAll ds ≤ 1048576)
def OpenSpec.upto (s : _root_.Go.ChangeSpec) : _root_.Go.OpenSpec := { _root_.Go.OpenSpec.ofChange s with cond := some uptoSmall }

/-- 'laws.FnExactRampAt', WHERE WHAT IT READS IS OF BULK AT MOST 1048576: true; the input reads as it did. -/
def fnExactRampAtUptoRow : OpenClaim := { program := "ythinjgiakaflpaa", sum := "895743a8e0ea3deca1b3a8166d58774827cb3606ac69e7f2dfd5a284f628ae1e", func := "loop.example/g01279/laws.FnExactRampAt", spec := "fnExactRampAt", inPlace := ["math.Float64bits", "math.Float64frombits"], apart := false, narrowed := true }
def FnExactRampAtUptoSaid : Prop := fnExactRampAtUptoRow.holds Try.pinned (OpenSpec.upto fnExactRampAtSpec)

/-- 'laws.FnExactBumpAt', WHERE WHAT IT READS IS OF BULK AT MOST 1048576: true; the input reads as it did. -/
def fnExactBumpAtUptoRow : OpenClaim := { program := "ythinjgiakaflpaa", sum := "895743a8e0ea3deca1b3a8166d58774827cb3606ac69e7f2dfd5a284f628ae1e", func := "loop.example/g01279/laws.FnExactBumpAt", spec := "fnExactBumpAt", inPlace := ["math.Float64bits", "math.Float64frombits"], apart := false, narrowed := true }
def FnExactBumpAtUptoSaid : Prop := fnExactBumpAtUptoRow.holds Try.pinned (OpenSpec.upto fnExactBumpAtSpec)

/-- 'laws.FnExactValidSound', WHERE WHAT IT READS IS OF BULK AT MOST 1048576: true; the input reads as it did. -/
def fnExactValidSoundUptoRow : OpenClaim := { program := "ythinjgiakaflpaa", sum := "895743a8e0ea3deca1b3a8166d58774827cb3606ac69e7f2dfd5a284f628ae1e", func := "loop.example/g01279/laws.FnExactValidSound", spec := "fnExactValidSound", inPlace := ["math.Float64bits", "math.Float64frombits"], apart := false, narrowed := true }
def FnExactValidSoundUptoSaid : Prop := fnExactValidSoundUptoRow.holds Try.pinned (OpenSpec.upto fnExactValidSoundSpec)

/-- 'laws.FnExactValidFrame', WHERE WHAT IT READS IS OF BULK AT MOST 1048576: true; the input reads as it did. -/
def fnExactValidFrameUptoRow : OpenClaim := { program := "ythinjgiakaflpaa", sum := "895743a8e0ea3deca1b3a8166d58774827cb3606ac69e7f2dfd5a284f628ae1e", func := "loop.example/g01279/laws.FnExactValidFrame", spec := "fnExactValidFrame", inPlace := ["math.Float64bits", "math.Float64frombits"], apart := false, narrowed := true }
def FnExactValidFrameUptoSaid : Prop := fnExactValidFrameUptoRow.holds Try.pinned (OpenSpec.upto fnExactValidFrameSpec)

/-- 'laws.FnExactSameFrame', WHERE WHAT IT READS IS OF BULK AT MOST 1048576: true; the input reads as it did. -/
def fnExactSameFrameUptoRow : OpenClaim := { program := "ythinjgiakaflpaa", sum := "895743a8e0ea3deca1b3a8166d58774827cb3606ac69e7f2dfd5a284f628ae1e", func := "loop.example/g01279/laws.FnExactSameFrame", spec := "fnExactSameFrame", inPlace := ["math.Float32bits"], unfollowed := true, recurses := true, apart := false, narrowed := true }
def FnExactSameFrameUptoSaid : Prop := fnExactSameFrameUptoRow.holds Try.pinned (OpenSpec.upto fnExactSameFrameSpec)

/-- 'laws.FnExactFrameOf', WHERE WHAT IT READS IS OF BULK AT MOST 1048576: true; the input reads as it did. -/
def fnExactFrameOfUptoRow : OpenClaim := { program := "ythinjgiakaflpaa", sum := "895743a8e0ea3deca1b3a8166d58774827cb3606ac69e7f2dfd5a284f628ae1e", func := "loop.example/g01279/laws.FnExactFrameOf", spec := "fnExactFrameOf", inPlace := ["math.Float64bits", "math.Float64frombits"], apart := false, narrowed := true }
def FnExactFrameOfUptoSaid : Prop := fnExactFrameOfUptoRow.holds Try.pinned (OpenSpec.upto fnExactFrameOfSpec)

/-- 'laws.FnExactMixFrames', WHERE WHAT IT READS IS OF BULK AT MOST 1048576: true; the input reads as it did. -/
def fnExactMixFramesUptoRow : OpenClaim := { program := "ythinjgiakaflpaa", sum := "895743a8e0ea3deca1b3a8166d58774827cb3606ac69e7f2dfd5a284f628ae1e", func := "loop.example/g01279/laws.FnExactMixFrames", spec := "fnExactMixFrames", inPlace := ["math.Float64bits", "math.Float64frombits"], apart := false, narrowed := true }
def FnExactMixFramesUptoSaid : Prop := fnExactMixFramesUptoRow.holds Try.pinned (OpenSpec.upto fnExactMixFramesSpec)

/-- 'laws.FnExactTubeOfFrame', WHERE WHAT IT READS IS OF BULK AT MOST 1048576: true; the input reads as it did. -/
def fnExactTubeOfFrameUptoRow : OpenClaim := { program := "ythinjgiakaflpaa", sum := "895743a8e0ea3deca1b3a8166d58774827cb3606ac69e7f2dfd5a284f628ae1e", func := "loop.example/g01279/laws.FnExactTubeOfFrame", spec := "fnExactTubeOfFrame", inPlace := ["math.Float64bits", "math.Float64frombits"], apart := false, narrowed := true }
def FnExactTubeOfFrameUptoSaid : Prop := fnExactTubeOfFrameUptoRow.holds Try.pinned (OpenSpec.upto fnExactTubeOfFrameSpec)

/-- 'laws.FnExactValidTune', WHERE WHAT IT READS IS OF BULK AT MOST 1048576: true; the input reads as it did. -/
def fnExactValidTuneUptoRow : OpenClaim := { program := "ythinjgiakaflpaa", sum := "895743a8e0ea3deca1b3a8166d58774827cb3606ac69e7f2dfd5a284f628ae1e", func := "loop.example/g01279/laws.FnExactValidTune", spec := "fnExactValidTune", inPlace := ["math.Float64bits", "math.Float64frombits"], apart := false, narrowed := true }
def FnExactValidTuneUptoSaid : Prop := fnExactValidTuneUptoRow.holds Try.pinned (OpenSpec.upto fnExactValidTuneSpec)

/-- 'laws.FnExactMoveTune', WHERE WHAT IT READS IS OF BULK AT MOST 1048576: true; the input reads as it did. -/
def fnExactMoveTuneUptoRow : OpenClaim := { program := "ythinjgiakaflpaa", sum := "895743a8e0ea3deca1b3a8166d58774827cb3606ac69e7f2dfd5a284f628ae1e", func := "loop.example/g01279/laws.FnExactMoveTune", spec := "fnExactMoveTune", inPlace := ["math.Float64bits", "math.Float64frombits"], apart := false, narrowed := true }
def FnExactMoveTuneUptoSaid : Prop := fnExactMoveTuneUptoRow.holds Try.pinned (OpenSpec.upto fnExactMoveTuneSpec)

/-- 'laws.FnExactPitchAt', WHERE WHAT IT READS IS OF BULK AT MOST 1048576: true; the input reads as it did. -/
def fnExactPitchAtUptoRow : OpenClaim := { program := "ythinjgiakaflpaa", sum := "895743a8e0ea3deca1b3a8166d58774827cb3606ac69e7f2dfd5a284f628ae1e", func := "loop.example/g01279/laws.FnExactPitchAt", spec := "fnExactPitchAt", inPlace := ["math.Float64bits", "math.Float64frombits"], apart := false, narrowed := true }
def FnExactPitchAtUptoSaid : Prop := fnExactPitchAtUptoRow.holds Try.pinned (OpenSpec.upto fnExactPitchAtSpec)

/-- 'laws.FnExactPitchesOf', WHERE WHAT IT READS IS OF BULK AT MOST 1048576: true; the input reads as it did. -/
def fnExactPitchesOfUptoRow : OpenClaim := { program := "ythinjgiakaflpaa", sum := "895743a8e0ea3deca1b3a8166d58774827cb3606ac69e7f2dfd5a284f628ae1e", func := "loop.example/g01279/laws.FnExactPitchesOf", spec := "fnExactPitchesOf", inPlace := ["math.Float64bits", "math.Float64frombits"], apart := false, narrowed := true }
def FnExactPitchesOfUptoSaid : Prop := fnExactPitchesOfUptoRow.holds Try.pinned (OpenSpec.upto fnExactPitchesOfSpec)

end Rows
end Go.Proofs.Ythinjgiakaflpaa

/-
  No cell of these rows narrows 'for every input' (looked for: loops, veiled, ifaces, maps, wideKeys, modest, calm, conditions, laid).
  DERIVED. THE GIVEN ROWS OF THIS SEAT. 12 by the template 'for every input the law returns true; each argument reads behind the call as it read before'; 0 by the template 'total and deterministic' (their statements: YtofhemganefhcaaTotals.lean).
  GIVEN WITH THE SEED: the statements are not yours to turn. If you find one false, say at which input.
  Laid BY PROGRAM, IN A SANDBOX (cutbox-rows.mjs): the forced cells as the released guide's own fill.sh prints them over the translation e64dc8e66531f23f… (all of the seat's roots in one cut). By AI agents, Wed Nov 11 2026. No macro, syntax, notation, axiom, sorry.
-/
import Derived.Test.YtofhemganefhcaaChecked
import GoSem.Claim
import GoSem.ClaimJoined
import GoSem.ClaimMapViews
import Derived.JoinedTies
import Derived.KernelRfl
namespace Go.Proofs.Ytofhemganefhcaa
/- THE CELL 'sum', in the pinned program and in every row, IS THE sha256 OF THE DUMP (.gsa) THAT YtofhemganefhcaaProg.lean LOADS. Nothing in Lean hashes anything: it is a label: what it is worth is what the hold of that sum in a sandbox is worth. -/
noncomputable def Try.pinned : Pinned := { name := "ytofhemganefhcaa", sum := "e64dc8e66531f23f7ed13f5511d0b637dad14651a9be6c5f3912f326708b62d1", checked := Try.checked }
namespace Rows
def none {H : Type} : Left H := { results := [], args := [] }

/-- 'laws.FnExactValidPredictor': WHATEVER THE INPUT: true; the input reads as it did. -/
def fnExactValidPredictorSpec : ChangeSpec := { name := "fnExactValidPredictor", fn := fun _ => fun
  | [d] => { results := [.lit (.bool true)], args := [d] }
  | _ => none }
def fnExactValidPredictorRow : OpenClaim := { program := "ytofhemganefhcaa", sum := "e64dc8e66531f23f7ed13f5511d0b637dad14651a9be6c5f3912f326708b62d1", func := "loop.example/g01279/laws.FnExactValidPredictor", spec := "fnExactValidPredictor", inPlace := ["math.Float64bits", "math.Float64frombits"], apart := false }
def FnExactValidPredictorSaid : Prop := fnExactValidPredictorRow.holds Try.pinned (OpenSpec.ofChange fnExactValidPredictorSpec)

/-- ITS FALSE NEIGHBOUR: 'it returns false'. Refute it at one input. -/
def fnExactValidPredictorWrong : ChangeSpec := { name := "fnExactValidPredictor", fn := fun _ => fun
  | [d] => { results := [.lit (.bool false)], args := [d] }
  | _ => none }
def FnExactValidPredictorWrongFalsely : Prop := fnExactValidPredictorRow.holds Try.pinned (OpenSpec.ofChange fnExactValidPredictorWrong)

/-- 'laws.FnExactSamePredictor': WHATEVER THE INPUT: true; the input reads as it did. -/
def fnExactSamePredictorSpec : ChangeSpec := { name := "fnExactSamePredictor", fn := fun _ => fun
  | [d1, d2] => { results := [.lit (.bool true)], args := [d1, d2] }
  | _ => none }
def fnExactSamePredictorRow : OpenClaim := { program := "ytofhemganefhcaa", sum := "e64dc8e66531f23f7ed13f5511d0b637dad14651a9be6c5f3912f326708b62d1", func := "loop.example/g01279/laws.FnExactSamePredictor", spec := "fnExactSamePredictor", inPlace := ["math.Float32bits"], apart := false }
def FnExactSamePredictorSaid : Prop := fnExactSamePredictorRow.holds Try.pinned (OpenSpec.ofChange fnExactSamePredictorSpec)

/-- ITS FALSE NEIGHBOUR: 'it returns false'. Refute it at one input. -/
def fnExactSamePredictorWrong : ChangeSpec := { name := "fnExactSamePredictor", fn := fun _ => fun
  | [d1, d2] => { results := [.lit (.bool false)], args := [d1, d2] }
  | _ => none }
def FnExactSamePredictorWrongFalsely : Prop := fnExactSamePredictorRow.holds Try.pinned (OpenSpec.ofChange fnExactSamePredictorWrong)

/-- 'laws.FnExactEnergyOfSound': WHATEVER THE INPUT: true; the input reads as it did. -/
def fnExactEnergyOfSoundSpec : ChangeSpec := { name := "fnExactEnergyOfSound", fn := fun _ => fun
  | [d] => { results := [.lit (.bool true)], args := [d] }
  | _ => none }
def fnExactEnergyOfSoundRow : OpenClaim := { program := "ytofhemganefhcaa", sum := "e64dc8e66531f23f7ed13f5511d0b637dad14651a9be6c5f3912f326708b62d1", func := "loop.example/g01279/laws.FnExactEnergyOfSound", spec := "fnExactEnergyOfSound", inPlace := ["math.Float64bits", "math.Float64frombits"], apart := false }
def FnExactEnergyOfSoundSaid : Prop := fnExactEnergyOfSoundRow.holds Try.pinned (OpenSpec.ofChange fnExactEnergyOfSoundSpec)

/-- ITS FALSE NEIGHBOUR: 'it returns false'. Refute it at one input. -/
def fnExactEnergyOfSoundWrong : ChangeSpec := { name := "fnExactEnergyOfSound", fn := fun _ => fun
  | [d] => { results := [.lit (.bool false)], args := [d] }
  | _ => none }
def FnExactEnergyOfSoundWrongFalsely : Prop := fnExactEnergyOfSoundRow.holds Try.pinned (OpenSpec.ofChange fnExactEnergyOfSoundWrong)

/-- 'laws.FnExactReachOfSound': WHATEVER THE INPUT: true; the input reads as it did. -/
def fnExactReachOfSoundSpec : ChangeSpec := { name := "fnExactReachOfSound", fn := fun _ => fun
  | [d] => { results := [.lit (.bool true)], args := [d] }
  | _ => none }
def fnExactReachOfSoundRow : OpenClaim := { program := "ytofhemganefhcaa", sum := "e64dc8e66531f23f7ed13f5511d0b637dad14651a9be6c5f3912f326708b62d1", func := "loop.example/g01279/laws.FnExactReachOfSound", spec := "fnExactReachOfSound", inPlace := ["math.Float64bits", "math.Float64frombits"], apart := false }
def FnExactReachOfSoundSaid : Prop := fnExactReachOfSoundRow.holds Try.pinned (OpenSpec.ofChange fnExactReachOfSoundSpec)

/-- ITS FALSE NEIGHBOUR: 'it returns false'. Refute it at one input. -/
def fnExactReachOfSoundWrong : ChangeSpec := { name := "fnExactReachOfSound", fn := fun _ => fun
  | [d] => { results := [.lit (.bool false)], args := [d] }
  | _ => none }
def FnExactReachOfSoundWrongFalsely : Prop := fnExactReachOfSoundRow.holds Try.pinned (OpenSpec.ofChange fnExactReachOfSoundWrong)

/-- 'laws.FnExactAddSounds': WHATEVER THE INPUT: true; the input reads as it did. -/
def fnExactAddSoundsSpec : ChangeSpec := { name := "fnExactAddSounds", fn := fun _ => fun
  | [d1, d2] => { results := [.lit (.bool true)], args := [d1, d2] }
  | _ => none }
def fnExactAddSoundsRow : OpenClaim := { program := "ytofhemganefhcaa", sum := "e64dc8e66531f23f7ed13f5511d0b637dad14651a9be6c5f3912f326708b62d1", func := "loop.example/g01279/laws.FnExactAddSounds", spec := "fnExactAddSounds", inPlace := ["math.Float64bits", "math.Float64frombits"], unfollowed := true, recurses := true, apart := false }
def FnExactAddSoundsSaid : Prop := fnExactAddSoundsRow.holds Try.pinned (OpenSpec.ofChange fnExactAddSoundsSpec)

/-- ITS FALSE NEIGHBOUR: 'it returns false'. Refute it at one input. -/
def fnExactAddSoundsWrong : ChangeSpec := { name := "fnExactAddSounds", fn := fun _ => fun
  | [d1, d2] => { results := [.lit (.bool false)], args := [d1, d2] }
  | _ => none }
def FnExactAddSoundsWrongFalsely : Prop := fnExactAddSoundsRow.holds Try.pinned (OpenSpec.ofChange fnExactAddSoundsWrong)

/-- 'laws.FnExactScaleSound': WHATEVER THE INPUT: true; the input reads as it did. -/
def fnExactScaleSoundSpec : ChangeSpec := { name := "fnExactScaleSound", fn := fun _ => fun
  | [d1, d2] => { results := [.lit (.bool true)], args := [d1, d2] }
  | _ => none }
def fnExactScaleSoundRow : OpenClaim := { program := "ytofhemganefhcaa", sum := "e64dc8e66531f23f7ed13f5511d0b637dad14651a9be6c5f3912f326708b62d1", func := "loop.example/g01279/laws.FnExactScaleSound", spec := "fnExactScaleSound", inPlace := ["math.Float64bits", "math.Float64frombits"], apart := false }
def FnExactScaleSoundSaid : Prop := fnExactScaleSoundRow.holds Try.pinned (OpenSpec.ofChange fnExactScaleSoundSpec)

/-- ITS FALSE NEIGHBOUR: 'it returns false'. Refute it at one input. -/
def fnExactScaleSoundWrong : ChangeSpec := { name := "fnExactScaleSound", fn := fun _ => fun
  | [d1, d2] => { results := [.lit (.bool false)], args := [d1, d2] }
  | _ => none }
def FnExactScaleSoundWrongFalsely : Prop := fnExactScaleSoundRow.holds Try.pinned (OpenSpec.ofChange fnExactScaleSoundWrong)

/-- 'laws.FnExactFadeEnds': WHATEVER THE INPUT: true; the input reads as it did. -/
def fnExactFadeEndsSpec : ChangeSpec := { name := "fnExactFadeEnds", fn := fun _ => fun
  | [d1, d2, d3] => { results := [.lit (.bool true)], args := [d1, d2, d3] }
  | _ => none }
def fnExactFadeEndsRow : OpenClaim := { program := "ytofhemganefhcaa", sum := "e64dc8e66531f23f7ed13f5511d0b637dad14651a9be6c5f3912f326708b62d1", func := "loop.example/g01279/laws.FnExactFadeEnds", spec := "fnExactFadeEnds", inPlace := ["math.Float64bits", "math.Float64frombits"], unfollowed := true, recurses := true, apart := false }
def FnExactFadeEndsSaid : Prop := fnExactFadeEndsRow.holds Try.pinned (OpenSpec.ofChange fnExactFadeEndsSpec)

/-- ITS FALSE NEIGHBOUR: 'it returns false'. Refute it at one input. -/
def fnExactFadeEndsWrong : ChangeSpec := { name := "fnExactFadeEnds", fn := fun _ => fun
  | [d1, d2, d3] => { results := [.lit (.bool false)], args := [d1, d2, d3] }
  | _ => none }
def FnExactFadeEndsWrongFalsely : Prop := fnExactFadeEndsRow.holds Try.pinned (OpenSpec.ofChange fnExactFadeEndsWrong)

/-- 'laws.FnExactJoinSounds': WHATEVER THE INPUT: true; the input reads as it did. -/
def fnExactJoinSoundsSpec : ChangeSpec := { name := "fnExactJoinSounds", fn := fun _ => fun
  | [d1, d2, d3] => { results := [.lit (.bool true)], args := [d1, d2, d3] }
  | _ => none }
def fnExactJoinSoundsRow : OpenClaim := { program := "ytofhemganefhcaa", sum := "e64dc8e66531f23f7ed13f5511d0b637dad14651a9be6c5f3912f326708b62d1", func := "loop.example/g01279/laws.FnExactJoinSounds", spec := "fnExactJoinSounds", inPlace := ["math.Float64bits", "math.Float64frombits"], apart := false }
def FnExactJoinSoundsSaid : Prop := fnExactJoinSoundsRow.holds Try.pinned (OpenSpec.ofChange fnExactJoinSoundsSpec)

/-- ITS FALSE NEIGHBOUR: 'it returns false'. Refute it at one input. -/
def fnExactJoinSoundsWrong : ChangeSpec := { name := "fnExactJoinSounds", fn := fun _ => fun
  | [d1, d2, d3] => { results := [.lit (.bool false)], args := [d1, d2, d3] }
  | _ => none }
def FnExactJoinSoundsWrongFalsely : Prop := fnExactJoinSoundsRow.holds Try.pinned (OpenSpec.ofChange fnExactJoinSoundsWrong)

/-- 'laws.FnExactDampPredictor': WHATEVER THE INPUT: true; the input reads as it did. -/
def fnExactDampPredictorSpec : ChangeSpec := { name := "fnExactDampPredictor", fn := fun _ => fun
  | [d1, d2] => { results := [.lit (.bool true)], args := [d1, d2] }
  | _ => none }
def fnExactDampPredictorRow : OpenClaim := { program := "ytofhemganefhcaa", sum := "e64dc8e66531f23f7ed13f5511d0b637dad14651a9be6c5f3912f326708b62d1", func := "loop.example/g01279/laws.FnExactDampPredictor", spec := "fnExactDampPredictor", inPlace := ["math.Float64bits", "math.Float64frombits"], apart := false }
def FnExactDampPredictorSaid : Prop := fnExactDampPredictorRow.holds Try.pinned (OpenSpec.ofChange fnExactDampPredictorSpec)

/-- ITS FALSE NEIGHBOUR: 'it returns false'. Refute it at one input. -/
def fnExactDampPredictorWrong : ChangeSpec := { name := "fnExactDampPredictor", fn := fun _ => fun
  | [d1, d2] => { results := [.lit (.bool false)], args := [d1, d2] }
  | _ => none }
def FnExactDampPredictorWrongFalsely : Prop := fnExactDampPredictorRow.holds Try.pinned (OpenSpec.ofChange fnExactDampPredictorWrong)

/-- 'laws.FnExactMixLadders': WHATEVER THE INPUT: true; the input reads as it did. -/
def fnExactMixLaddersSpec : ChangeSpec := { name := "fnExactMixLadders", fn := fun _ => fun
  | [d1, d2, d3] => { results := [.lit (.bool true)], args := [d1, d2, d3] }
  | _ => none }
def fnExactMixLaddersRow : OpenClaim := { program := "ytofhemganefhcaa", sum := "e64dc8e66531f23f7ed13f5511d0b637dad14651a9be6c5f3912f326708b62d1", func := "loop.example/g01279/laws.FnExactMixLadders", spec := "fnExactMixLadders", apart := false }
def FnExactMixLaddersSaid : Prop := fnExactMixLaddersRow.holds Try.pinned (OpenSpec.ofChange fnExactMixLaddersSpec)

/-- ITS FALSE NEIGHBOUR: 'it returns false'. Refute it at one input. -/
def fnExactMixLaddersWrong : ChangeSpec := { name := "fnExactMixLadders", fn := fun _ => fun
  | [d1, d2, d3] => { results := [.lit (.bool false)], args := [d1, d2, d3] }
  | _ => none }
def FnExactMixLaddersWrongFalsely : Prop := fnExactMixLaddersRow.holds Try.pinned (OpenSpec.ofChange fnExactMixLaddersWrong)

/-- 'laws.FnExactStepUp': WHATEVER THE INPUT: true; the input reads as it did. -/
def fnExactStepUpSpec : ChangeSpec := { name := "fnExactStepUp", fn := fun _ => fun
  | [d1, d2] => { results := [.lit (.bool true)], args := [d1, d2] }
  | _ => none }
def fnExactStepUpRow : OpenClaim := { program := "ytofhemganefhcaa", sum := "e64dc8e66531f23f7ed13f5511d0b637dad14651a9be6c5f3912f326708b62d1", func := "loop.example/g01279/laws.FnExactStepUp", spec := "fnExactStepUp", inPlace := ["math.Float64bits", "math.Float64frombits"], apart := false }
def FnExactStepUpSaid : Prop := fnExactStepUpRow.holds Try.pinned (OpenSpec.ofChange fnExactStepUpSpec)

/-- ITS FALSE NEIGHBOUR: 'it returns false'. Refute it at one input. -/
def fnExactStepUpWrong : ChangeSpec := { name := "fnExactStepUp", fn := fun _ => fun
  | [d1, d2] => { results := [.lit (.bool false)], args := [d1, d2] }
  | _ => none }
def FnExactStepUpWrongFalsely : Prop := fnExactStepUpRow.holds Try.pinned (OpenSpec.ofChange fnExactStepUpWrong)

/-- 'laws.FnExactStepDown': WHATEVER THE INPUT: true; the input reads as it did. -/
def fnExactStepDownSpec : ChangeSpec := { name := "fnExactStepDown", fn := fun _ => fun
  | [d] => { results := [.lit (.bool true)], args := [d] }
  | _ => none }
def fnExactStepDownRow : OpenClaim := { program := "ytofhemganefhcaa", sum := "e64dc8e66531f23f7ed13f5511d0b637dad14651a9be6c5f3912f326708b62d1", func := "loop.example/g01279/laws.FnExactStepDown", spec := "fnExactStepDown", inPlace := ["math.Float64bits", "math.Float64frombits"], apart := false }
def FnExactStepDownSaid : Prop := fnExactStepDownRow.holds Try.pinned (OpenSpec.ofChange fnExactStepDownSpec)

/-- ITS FALSE NEIGHBOUR: 'it returns false'. Refute it at one input. -/
def fnExactStepDownWrong : ChangeSpec := { name := "fnExactStepDown", fn := fun _ => fun
  | [d] => { results := [.lit (.bool false)], args := [d] }
  | _ => none }
def FnExactStepDownWrongFalsely : Prop := fnExactStepDownRow.holds Try.pinned (OpenSpec.ofChange fnExactStepDownWrong)

/- THE SECOND FORM. 'bulk': how many values and letters a reading holds, each counted each time it is reached (what is shared counts as often as it is met; a slice's spare places count too). A statement '..UptoSaid' is the law's where the arguments, and the package variables that the reading takes, are together of bulk at most 1048576: NARROWER than '..Said'. Prove '..Said' where nothing that the law and all that it calls make is longer than what came in: it says more and counts as full. Else prove '..UptoSaid'. A law counts once. -/
mutual
def uptoBulk {H : Type} : DataW H → Nat
  | .lit (.string bytes) => bytes.length + 1
  | .lit _ => 1
  | .nil => 1
  | .ptr d => uptoBulk d + 1
  | .slice elems spare => uptoBulkAll elems + uptoBulkAll spare + 1
  | .agg parts => uptoBulkAll parts + 1
  | .iface _ d => uptoBulk d + 1
  | .map entries => uptoBulkEntries entries + 1
  | .held _ => 1
def uptoBulkAll {H : Type} : List (DataW H) → Nat
  | [] => 0
  | d :: r => uptoBulk d + uptoBulkAll r
def uptoBulkEntries {H : Type} : List (Lit × DataW H) → Nat
  | [] => 0
  | x :: r => uptoBulkEntry x + uptoBulkEntries r
def uptoBulkEntry {H : Type} : Lit × DataW H → Nat
  | (.string bytes, d) => bytes.length + uptoBulk d + 1
  | (_, d) => uptoBulk d + 1
 end
def uptoSmall : (H : Type) → List (DataW H) → Bool := fun _ ds => decide (uptoBulkAll ds ≤ 1048576)
def OpenSpec.upto (s : _root_.Go.ChangeSpec) : _root_.Go.OpenSpec := { _root_.Go.OpenSpec.ofChange s with cond := some uptoSmall }

/-- 'laws.FnExactValidPredictor', WHERE WHAT IT READS IS OF BULK AT MOST 1048576: true; the input reads as it did. -/
def fnExactValidPredictorUptoRow : OpenClaim := { program := "ytofhemganefhcaa", sum := "e64dc8e66531f23f7ed13f5511d0b637dad14651a9be6c5f3912f326708b62d1", func := "loop.example/g01279/laws.FnExactValidPredictor", spec := "fnExactValidPredictor", inPlace := ["math.Float64bits", "math.Float64frombits"], apart := false, narrowed := true }
def FnExactValidPredictorUptoSaid : Prop := fnExactValidPredictorUptoRow.holds Try.pinned (OpenSpec.upto fnExactValidPredictorSpec)

/-- 'laws.FnExactSamePredictor', WHERE WHAT IT READS IS OF BULK AT MOST 1048576: true; the input reads as it did. -/
def fnExactSamePredictorUptoRow : OpenClaim := { program := "ytofhemganefhcaa", sum := "e64dc8e66531f23f7ed13f5511d0b637dad14651a9be6c5f3912f326708b62d1", func := "loop.example/g01279/laws.FnExactSamePredictor", spec := "fnExactSamePredictor", inPlace := ["math.Float32bits"], apart := false, narrowed := true }
def FnExactSamePredictorUptoSaid : Prop := fnExactSamePredictorUptoRow.holds Try.pinned (OpenSpec.upto fnExactSamePredictorSpec)

/-- 'laws.FnExactEnergyOfSound', WHERE WHAT IT READS IS OF BULK AT MOST 1048576: true; the input reads as it did. -/
def fnExactEnergyOfSoundUptoRow : OpenClaim := { program := "ytofhemganefhcaa", sum := "e64dc8e66531f23f7ed13f5511d0b637dad14651a9be6c5f3912f326708b62d1", func := "loop.example/g01279/laws.FnExactEnergyOfSound", spec := "fnExactEnergyOfSound", inPlace := ["math.Float64bits", "math.Float64frombits"], apart := false, narrowed := true }
def FnExactEnergyOfSoundUptoSaid : Prop := fnExactEnergyOfSoundUptoRow.holds Try.pinned (OpenSpec.upto fnExactEnergyOfSoundSpec)

/-- 'laws.FnExactReachOfSound', WHERE WHAT IT READS IS OF BULK AT MOST 1048576: true; the input reads as it did. -/
def fnExactReachOfSoundUptoRow : OpenClaim := { program := "ytofhemganefhcaa", sum := "e64dc8e66531f23f7ed13f5511d0b637dad14651a9be6c5f3912f326708b62d1", func := "loop.example/g01279/laws.FnExactReachOfSound", spec := "fnExactReachOfSound", inPlace := ["math.Float64bits", "math.Float64frombits"], apart := false, narrowed := true }
def FnExactReachOfSoundUptoSaid : Prop := fnExactReachOfSoundUptoRow.holds Try.pinned (OpenSpec.upto fnExactReachOfSoundSpec)

/-- 'laws.FnExactAddSounds', WHERE WHAT IT READS IS OF BULK AT MOST 1048576: true; the input reads as it did. -/
def fnExactAddSoundsUptoRow : OpenClaim := { program := "ytofhemganefhcaa", sum := "e64dc8e66531f23f7ed13f5511d0b637dad14651a9be6c5f3912f326708b62d1", func := "loop.example/g01279/laws.FnExactAddSounds", spec := "fnExactAddSounds", inPlace := ["math.Float64bits", "math.Float64frombits"], unfollowed := true, recurses := true, apart := false, narrowed := true }
def FnExactAddSoundsUptoSaid : Prop := fnExactAddSoundsUptoRow.holds Try.pinned (OpenSpec.upto fnExactAddSoundsSpec)

/-- 'laws.FnExactScaleSound', WHERE WHAT IT READS IS OF BULK AT MOST 1048576: true; the input reads as it did. -/
def fnExactScaleSoundUptoRow : OpenClaim := { program := "ytofhemganefhcaa", sum := "e64dc8e66531f23f7ed13f5511d0b637dad14651a9be6c5f3912f326708b62d1", func := "loop.example/g01279/laws.FnExactScaleSound", spec := "fnExactScaleSound", inPlace := ["math.Float64bits", "math.Float64frombits"], apart := false, narrowed := true }
def FnExactScaleSoundUptoSaid : Prop := fnExactScaleSoundUptoRow.holds Try.pinned (OpenSpec.upto fnExactScaleSoundSpec)

/-- 'laws.FnExactFadeEnds', WHERE WHAT IT READS IS OF BULK AT MOST 1048576: true; the input reads as it did. -/
def fnExactFadeEndsUptoRow : OpenClaim := { program := "ytofhemganefhcaa", sum := "e64dc8e66531f23f7ed13f5511d0b637dad14651a9be6c5f3912f326708b62d1", func := "loop.example/g01279/laws.FnExactFadeEnds", spec := "fnExactFadeEnds", inPlace := ["math.Float64bits", "math.Float64frombits"], unfollowed := true, recurses := true, apart := false, narrowed := true }
def FnExactFadeEndsUptoSaid : Prop := fnExactFadeEndsUptoRow.holds Try.pinned (OpenSpec.upto fnExactFadeEndsSpec)

/-- 'laws.FnExactJoinSounds', WHERE WHAT IT READS IS OF BULK AT MOST 1048576: true; the input reads as it did. -/
def fnExactJoinSoundsUptoRow : OpenClaim := { program := "ytofhemganefhcaa", sum := "e64dc8e66531f23f7ed13f5511d0b637dad14651a9be6c5f3912f326708b62d1", func := "loop.example/g01279/laws.FnExactJoinSounds", spec := "fnExactJoinSounds", inPlace := ["math.Float64bits", "math.Float64frombits"], apart := false, narrowed := true }
def FnExactJoinSoundsUptoSaid : Prop := fnExactJoinSoundsUptoRow.holds Try.pinned (OpenSpec.upto fnExactJoinSoundsSpec)

/-- 'laws.FnExactDampPredictor', WHERE WHAT IT READS IS OF BULK AT MOST 1048576: true; the input reads as it did. -/
def fnExactDampPredictorUptoRow : OpenClaim := { program := "ytofhemganefhcaa", sum := "e64dc8e66531f23f7ed13f5511d0b637dad14651a9be6c5f3912f326708b62d1", func := "loop.example/g01279/laws.FnExactDampPredictor", spec := "fnExactDampPredictor", inPlace := ["math.Float64bits", "math.Float64frombits"], apart := false, narrowed := true }
def FnExactDampPredictorUptoSaid : Prop := fnExactDampPredictorUptoRow.holds Try.pinned (OpenSpec.upto fnExactDampPredictorSpec)

/-- 'laws.FnExactMixLadders', WHERE WHAT IT READS IS OF BULK AT MOST 1048576: true; the input reads as it did. -/
def fnExactMixLaddersUptoRow : OpenClaim := { program := "ytofhemganefhcaa", sum := "e64dc8e66531f23f7ed13f5511d0b637dad14651a9be6c5f3912f326708b62d1", func := "loop.example/g01279/laws.FnExactMixLadders", spec := "fnExactMixLadders", apart := false, narrowed := true }
def FnExactMixLaddersUptoSaid : Prop := fnExactMixLaddersUptoRow.holds Try.pinned (OpenSpec.upto fnExactMixLaddersSpec)

/-- 'laws.FnExactStepUp', WHERE WHAT IT READS IS OF BULK AT MOST 1048576: true; the input reads as it did. -/
def fnExactStepUpUptoRow : OpenClaim := { program := "ytofhemganefhcaa", sum := "e64dc8e66531f23f7ed13f5511d0b637dad14651a9be6c5f3912f326708b62d1", func := "loop.example/g01279/laws.FnExactStepUp", spec := "fnExactStepUp", inPlace := ["math.Float64bits", "math.Float64frombits"], apart := false, narrowed := true }
def FnExactStepUpUptoSaid : Prop := fnExactStepUpUptoRow.holds Try.pinned (OpenSpec.upto fnExactStepUpSpec)

/-- 'laws.FnExactStepDown', WHERE WHAT IT READS IS OF BULK AT MOST 1048576: true; the input reads as it did. -/
def fnExactStepDownUptoRow : OpenClaim := { program := "ytofhemganefhcaa", sum := "e64dc8e66531f23f7ed13f5511d0b637dad14651a9be6c5f3912f326708b62d1", func := "loop.example/g01279/laws.FnExactStepDown", spec := "fnExactStepDown", inPlace := ["math.Float64bits", "math.Float64frombits"], apart := false, narrowed := true }
def FnExactStepDownUptoSaid : Prop := fnExactStepDownUptoRow.holds Try.pinned (OpenSpec.upto fnExactStepDownSpec)

end Rows
end Go.Proofs.Ytofhemganefhcaa

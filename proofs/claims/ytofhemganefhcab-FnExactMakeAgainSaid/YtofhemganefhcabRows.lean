/-
  No cell of these rows narrows 'for every input' (looked for: loops, veiled, ifaces, maps, wideKeys, modest, calm, conditions, laid).
  DERIVED. THE GIVEN ROWS OF THIS SEAT. 12 by the template 'for every input the law returns true; each argument reads behind the call as it read before'; 0 by the template 'total and deterministic' (their statements: YtofhemganefhcabTotals.lean).
  GIVEN WITH THE SEED: the statements are not yours to turn. If you find one false, say at which input.
  Laid BY PROGRAM, IN A SANDBOX (cutbox-rows.mjs): the forced cells as the released guide's own fill.sh prints them over the translation 83d0eb2c4ec354e5… (all of the seat's roots in one cut). By AI agents, Wed Nov 11 2026. No macro, syntax, notation, axiom, sorry.
-/
import Derived.Test.YtofhemganefhcabChecked
import GoSem.Claim
import GoSem.ClaimJoined
import GoSem.ClaimMapViews
import Derived.JoinedTies
import Derived.KernelRfl
namespace Go.Proofs.Ytofhemganefhcab
/- THE CELL 'sum', in the pinned program and in every row, IS THE sha256 OF THE DUMP (.gsa) THAT YtofhemganefhcabProg.lean LOADS. Nothing in Lean hashes anything: it is a label: what it is worth is what the hold of that sum in a sandbox is worth. -/
noncomputable def Try.pinned : Pinned := { name := "ytofhemganefhcab", sum := "83d0eb2c4ec354e54da54f0be1a61b160a39e1695b1e172578357a701c90aff0", checked := Try.checked }
namespace Rows
def none {H : Type} : Left H := { results := [], args := [] }

/-- 'laws.FnExactAreasOfPredictor': WHATEVER THE INPUT: true; the input reads as it did. -/
def fnExactAreasOfPredictorSpec : ChangeSpec := { name := "fnExactAreasOfPredictor", fn := fun _ => fun
  | [d1, d2] => { results := [.lit (.bool true)], args := [d1, d2] }
  | _ => none }
def fnExactAreasOfPredictorRow : OpenClaim := { program := "ytofhemganefhcab", sum := "83d0eb2c4ec354e54da54f0be1a61b160a39e1695b1e172578357a701c90aff0", func := "loop.example/g01279/laws.FnExactAreasOfPredictor", spec := "fnExactAreasOfPredictor", inPlace := ["math.Float64bits", "math.Float64frombits"], apart := false }
def FnExactAreasOfPredictorSaid : Prop := fnExactAreasOfPredictorRow.holds Try.pinned (OpenSpec.ofChange fnExactAreasOfPredictorSpec)

/-- ITS FALSE NEIGHBOUR: 'it returns false'. Refute it at one input. -/
def fnExactAreasOfPredictorWrong : ChangeSpec := { name := "fnExactAreasOfPredictor", fn := fun _ => fun
  | [d1, d2] => { results := [.lit (.bool false)], args := [d1, d2] }
  | _ => none }
def FnExactAreasOfPredictorWrongFalsely : Prop := fnExactAreasOfPredictorRow.holds Try.pinned (OpenSpec.ofChange fnExactAreasOfPredictorWrong)

/-- 'laws.FnExactPredictAt': WHATEVER THE INPUT: true; the input reads as it did. -/
def fnExactPredictAtSpec : ChangeSpec := { name := "fnExactPredictAt", fn := fun _ => fun
  | [d1, d2, d3] => { results := [.lit (.bool true)], args := [d1, d2, d3] }
  | _ => none }
def fnExactPredictAtRow : OpenClaim := { program := "ytofhemganefhcab", sum := "83d0eb2c4ec354e54da54f0be1a61b160a39e1695b1e172578357a701c90aff0", func := "loop.example/g01279/laws.FnExactPredictAt", spec := "fnExactPredictAt", inPlace := ["math.Float64bits", "math.Float64frombits"], apart := false }
def FnExactPredictAtSaid : Prop := fnExactPredictAtRow.holds Try.pinned (OpenSpec.ofChange fnExactPredictAtSpec)

/-- ITS FALSE NEIGHBOUR: 'it returns false'. Refute it at one input. -/
def fnExactPredictAtWrong : ChangeSpec := { name := "fnExactPredictAt", fn := fun _ => fun
  | [d1, d2, d3] => { results := [.lit (.bool false)], args := [d1, d2, d3] }
  | _ => none }
def FnExactPredictAtWrongFalsely : Prop := fnExactPredictAtRow.holds Try.pinned (OpenSpec.ofChange fnExactPredictAtWrong)

/-- 'laws.FnExactResidueOf': WHATEVER THE INPUT: true; the input reads as it did. -/
def fnExactResidueOfSpec : ChangeSpec := { name := "fnExactResidueOf", fn := fun _ => fun
  | [d1, d2] => { results := [.lit (.bool true)], args := [d1, d2] }
  | _ => none }
def fnExactResidueOfRow : OpenClaim := { program := "ytofhemganefhcab", sum := "83d0eb2c4ec354e54da54f0be1a61b160a39e1695b1e172578357a701c90aff0", func := "loop.example/g01279/laws.FnExactResidueOf", spec := "fnExactResidueOf", inPlace := ["math.Float64bits", "math.Float64frombits"], unfollowed := true, recurses := true, apart := false }
def FnExactResidueOfSaid : Prop := fnExactResidueOfRow.holds Try.pinned (OpenSpec.ofChange fnExactResidueOfSpec)

/-- ITS FALSE NEIGHBOUR: 'it returns false'. Refute it at one input. -/
def fnExactResidueOfWrong : ChangeSpec := { name := "fnExactResidueOf", fn := fun _ => fun
  | [d1, d2] => { results := [.lit (.bool false)], args := [d1, d2] }
  | _ => none }
def FnExactResidueOfWrongFalsely : Prop := fnExactResidueOfRow.holds Try.pinned (OpenSpec.ofChange fnExactResidueOfWrong)

/-- 'laws.FnExactMakeAgain': WHATEVER THE INPUT: true; the input reads as it did. -/
def fnExactMakeAgainSpec : ChangeSpec := { name := "fnExactMakeAgain", fn := fun _ => fun
  | [d1, d2] => { results := [.lit (.bool true)], args := [d1, d2] }
  | _ => none }
def fnExactMakeAgainRow : OpenClaim := { program := "ytofhemganefhcab", sum := "83d0eb2c4ec354e54da54f0be1a61b160a39e1695b1e172578357a701c90aff0", func := "loop.example/g01279/laws.FnExactMakeAgain", spec := "fnExactMakeAgain", inPlace := ["math.Float64bits", "math.Float64frombits"], apart := false }
def FnExactMakeAgainSaid : Prop := fnExactMakeAgainRow.holds Try.pinned (OpenSpec.ofChange fnExactMakeAgainSpec)

/-- ITS FALSE NEIGHBOUR: 'it returns false'. Refute it at one input. -/
def fnExactMakeAgainWrong : ChangeSpec := { name := "fnExactMakeAgain", fn := fun _ => fun
  | [d1, d2] => { results := [.lit (.bool false)], args := [d1, d2] }
  | _ => none }
def FnExactMakeAgainWrongFalsely : Prop := fnExactMakeAgainRow.holds Try.pinned (OpenSpec.ofChange fnExactMakeAgainWrong)

/-- 'laws.FnExactDrivePredictor': WHATEVER THE INPUT: true; the input reads as it did. -/
def fnExactDrivePredictorSpec : ChangeSpec := { name := "fnExactDrivePredictor", fn := fun _ => fun
  | [d1, d2] => { results := [.lit (.bool true)], args := [d1, d2] }
  | _ => none }
def fnExactDrivePredictorRow : OpenClaim := { program := "ytofhemganefhcab", sum := "83d0eb2c4ec354e54da54f0be1a61b160a39e1695b1e172578357a701c90aff0", func := "loop.example/g01279/laws.FnExactDrivePredictor", spec := "fnExactDrivePredictor", inPlace := ["math.Float64bits", "math.Float64frombits"], apart := false }
def FnExactDrivePredictorSaid : Prop := fnExactDrivePredictorRow.holds Try.pinned (OpenSpec.ofChange fnExactDrivePredictorSpec)

/-- ITS FALSE NEIGHBOUR: 'it returns false'. Refute it at one input. -/
def fnExactDrivePredictorWrong : ChangeSpec := { name := "fnExactDrivePredictor", fn := fun _ => fun
  | [d1, d2] => { results := [.lit (.bool false)], args := [d1, d2] }
  | _ => none }
def FnExactDrivePredictorWrongFalsely : Prop := fnExactDrivePredictorRow.holds Try.pinned (OpenSpec.ofChange fnExactDrivePredictorWrong)

/-- 'laws.FnExactLadderResidue': WHATEVER THE INPUT: true; the input reads as it did. -/
def fnExactLadderResidueSpec : ChangeSpec := { name := "fnExactLadderResidue", fn := fun _ => fun
  | [d1, d2] => { results := [.lit (.bool true)], args := [d1, d2] }
  | _ => none }
def fnExactLadderResidueRow : OpenClaim := { program := "ytofhemganefhcab", sum := "83d0eb2c4ec354e54da54f0be1a61b160a39e1695b1e172578357a701c90aff0", func := "loop.example/g01279/laws.FnExactLadderResidue", spec := "fnExactLadderResidue", inPlace := ["math.Float64bits", "math.Float64frombits"], unfollowed := true, recurses := true, apart := false }
def FnExactLadderResidueSaid : Prop := fnExactLadderResidueRow.holds Try.pinned (OpenSpec.ofChange fnExactLadderResidueSpec)

/-- ITS FALSE NEIGHBOUR: 'it returns false'. Refute it at one input. -/
def fnExactLadderResidueWrong : ChangeSpec := { name := "fnExactLadderResidue", fn := fun _ => fun
  | [d1, d2] => { results := [.lit (.bool false)], args := [d1, d2] }
  | _ => none }
def FnExactLadderResidueWrongFalsely : Prop := fnExactLadderResidueRow.holds Try.pinned (OpenSpec.ofChange fnExactLadderResidueWrong)

/-- 'laws.FnExactPredictionGain': WHATEVER THE INPUT: true; the input reads as it did. -/
def fnExactPredictionGainSpec : ChangeSpec := { name := "fnExactPredictionGain", fn := fun _ => fun
  | [d1, d2] => { results := [.lit (.bool true)], args := [d1, d2] }
  | _ => none }
def fnExactPredictionGainRow : OpenClaim := { program := "ytofhemganefhcab", sum := "83d0eb2c4ec354e54da54f0be1a61b160a39e1695b1e172578357a701c90aff0", func := "loop.example/g01279/laws.FnExactPredictionGain", spec := "fnExactPredictionGain", inPlace := ["math.Float64bits", "math.Float64frombits"], unfollowed := true, recurses := true, apart := false }
def FnExactPredictionGainSaid : Prop := fnExactPredictionGainRow.holds Try.pinned (OpenSpec.ofChange fnExactPredictionGainSpec)

/-- ITS FALSE NEIGHBOUR: 'it returns false'. Refute it at one input. -/
def fnExactPredictionGainWrong : ChangeSpec := { name := "fnExactPredictionGain", fn := fun _ => fun
  | [d1, d2] => { results := [.lit (.bool false)], args := [d1, d2] }
  | _ => none }
def FnExactPredictionGainWrongFalsely : Prop := fnExactPredictionGainRow.holds Try.pinned (OpenSpec.ofChange fnExactPredictionGainWrong)

/-- 'laws.FnExactLagsOf': WHATEVER THE INPUT: true; the input reads as it did. -/
def fnExactLagsOfSpec : ChangeSpec := { name := "fnExactLagsOf", fn := fun _ => fun
  | [d1, d2] => { results := [.lit (.bool true)], args := [d1, d2] }
  | _ => none }
def fnExactLagsOfRow : OpenClaim := { program := "ytofhemganefhcab", sum := "83d0eb2c4ec354e54da54f0be1a61b160a39e1695b1e172578357a701c90aff0", func := "loop.example/g01279/laws.FnExactLagsOf", spec := "fnExactLagsOf", inPlace := ["math.Float64bits", "math.Float64frombits"], unfollowed := true, recurses := true, apart := false }
def FnExactLagsOfSaid : Prop := fnExactLagsOfRow.holds Try.pinned (OpenSpec.ofChange fnExactLagsOfSpec)

/-- ITS FALSE NEIGHBOUR: 'it returns false'. Refute it at one input. -/
def fnExactLagsOfWrong : ChangeSpec := { name := "fnExactLagsOf", fn := fun _ => fun
  | [d1, d2] => { results := [.lit (.bool false)], args := [d1, d2] }
  | _ => none }
def FnExactLagsOfWrongFalsely : Prop := fnExactLagsOfRow.holds Try.pinned (OpenSpec.ofChange fnExactLagsOfWrong)

/-- 'laws.FnExactLadderOf': WHATEVER THE INPUT: true; the input reads as it did. -/
def fnExactLadderOfSpec : ChangeSpec := { name := "fnExactLadderOf", fn := fun _ => fun
  | [d] => { results := [.lit (.bool true)], args := [d] }
  | _ => none }
def fnExactLadderOfRow : OpenClaim := { program := "ytofhemganefhcab", sum := "83d0eb2c4ec354e54da54f0be1a61b160a39e1695b1e172578357a701c90aff0", func := "loop.example/g01279/laws.FnExactLadderOf", spec := "fnExactLadderOf", inPlace := ["math.Float64bits", "math.Float64frombits"], apart := false }
def FnExactLadderOfSaid : Prop := fnExactLadderOfRow.holds Try.pinned (OpenSpec.ofChange fnExactLadderOfSpec)

/-- ITS FALSE NEIGHBOUR: 'it returns false'. Refute it at one input. -/
def fnExactLadderOfWrong : ChangeSpec := { name := "fnExactLadderOf", fn := fun _ => fun
  | [d] => { results := [.lit (.bool false)], args := [d] }
  | _ => none }
def FnExactLadderOfWrongFalsely : Prop := fnExactLadderOfRow.holds Try.pinned (OpenSpec.ofChange fnExactLadderOfWrong)

/-- 'laws.FnExactPredictorOf': WHATEVER THE INPUT: true; the input reads as it did. -/
def fnExactPredictorOfSpec : ChangeSpec := { name := "fnExactPredictorOf", fn := fun _ => fun
  | [d] => { results := [.lit (.bool true)], args := [d] }
  | _ => none }
def fnExactPredictorOfRow : OpenClaim := { program := "ytofhemganefhcab", sum := "83d0eb2c4ec354e54da54f0be1a61b160a39e1695b1e172578357a701c90aff0", func := "loop.example/g01279/laws.FnExactPredictorOf", spec := "fnExactPredictorOf", inPlace := ["math.sqrt", "math.Float64bits", "math.Float64frombits"], apart := false }
def FnExactPredictorOfSaid : Prop := fnExactPredictorOfRow.holds Try.pinned (OpenSpec.ofChange fnExactPredictorOfSpec)

/-- ITS FALSE NEIGHBOUR: 'it returns false'. Refute it at one input. -/
def fnExactPredictorOfWrong : ChangeSpec := { name := "fnExactPredictorOf", fn := fun _ => fun
  | [d] => { results := [.lit (.bool false)], args := [d] }
  | _ => none }
def FnExactPredictorOfWrongFalsely : Prop := fnExactPredictorOfRow.holds Try.pinned (OpenSpec.ofChange fnExactPredictorOfWrong)

/-- 'laws.FnExactPredictorResponse': WHATEVER THE INPUT: true; the input reads as it did. -/
def fnExactPredictorResponseSpec : ChangeSpec := { name := "fnExactPredictorResponse", fn := fun _ => fun
  | [d1, d2] => { results := [.lit (.bool true)], args := [d1, d2] }
  | _ => none }
def fnExactPredictorResponseRow : OpenClaim := { program := "ytofhemganefhcab", sum := "83d0eb2c4ec354e54da54f0be1a61b160a39e1695b1e172578357a701c90aff0", func := "loop.example/g01279/laws.FnExactPredictorResponse", spec := "fnExactPredictorResponse", inPlace := ["math.Float32frombits", "math.Float64frombits", "math.Float64bits"], apart := false }
def FnExactPredictorResponseSaid : Prop := fnExactPredictorResponseRow.holds Try.pinned (OpenSpec.ofChange fnExactPredictorResponseSpec)

/-- ITS FALSE NEIGHBOUR: 'it returns false'. Refute it at one input. -/
def fnExactPredictorResponseWrong : ChangeSpec := { name := "fnExactPredictorResponse", fn := fun _ => fun
  | [d1, d2] => { results := [.lit (.bool false)], args := [d1, d2] }
  | _ => none }
def FnExactPredictorResponseWrongFalsely : Prop := fnExactPredictorResponseRow.holds Try.pinned (OpenSpec.ofChange fnExactPredictorResponseWrong)

/-- 'laws.FnLadders': WHATEVER THE INPUT: true; the input reads as it did. -/
def fnLaddersSpec : ChangeSpec := { name := "fnLadders", fn := fun _ => fun
  | [d1, d2] => { results := [.lit (.bool true)], args := [d1, d2] }
  | _ => none }
def fnLaddersRow : OpenClaim := { program := "ytofhemganefhcab", sum := "83d0eb2c4ec354e54da54f0be1a61b160a39e1695b1e172578357a701c90aff0", func := "loop.example/g01279/laws.FnLadders", spec := "fnLadders", inPlace := ["math.Float64bits", "math.Float64frombits", "math.sqrt"], unfollowed := true, recurses := true, apart := false }
def FnLaddersSaid : Prop := fnLaddersRow.holds Try.pinned (OpenSpec.ofChange fnLaddersSpec)

/-- ITS FALSE NEIGHBOUR: 'it returns false'. Refute it at one input. -/
def fnLaddersWrong : ChangeSpec := { name := "fnLadders", fn := fun _ => fun
  | [d1, d2] => { results := [.lit (.bool false)], args := [d1, d2] }
  | _ => none }
def FnLaddersWrongFalsely : Prop := fnLaddersRow.holds Try.pinned (OpenSpec.ofChange fnLaddersWrong)

/- THE SECOND FORM. 'bulk': how many values and letters a reading holds, each counted each time it is reached (what is shared counts as often as it is met; a slice's spare places count too). A statement '..UptoSaid' is the law's where the arguments, and the package variables that the reading takes, are together of bulk at most 1048576: NARROWER than '..Said'. Prove '..Said' where nothing that the law and all that it calls make is longer than what came in: it says more and counts as full. Else prove '..UptoSaid'. A law counts once. -/
mutual
def uptoBulk {H : Type} : DataW H → Nat
  | .lit (.string bytes) => bytes.length + 1
  | .lit _ => 1
  | .nil => 1
  | .ptr d => uptoBulk d + 1
  | .slice elems spare => uptoBulkAll elems + uptoBulkAll spare + 1
  | .agg parts => uptoBulkAll parts + 1
  | .iface _ d => uptoBulk d + 1
  | .map entries => uptoBulkEntries entries + 1
  | .held _ => 1
def uptoBulkAll {H : Type} : List (DataW H) → Nat
  | [] => 0
  | d :: r => uptoBulk d + uptoBulkAll r
def uptoBulkEntries {H : Type} : List (Lit × DataW H) → Nat
  | [] => 0
  | x :: r => uptoBulkEntry x + uptoBulkEntries r
def uptoBulkEntry {H : Type} : Lit × DataW H → Nat
  | (.string bytes, d) => bytes.length + uptoBulk d + 1
  | (_, d) => uptoBulk d + 1
 end
def uptoSmall : (H : Type) → List (DataW H) → Bool := fun _ ds => decide (uptoBulkAll ds ≤ 1048576)
def OpenSpec.upto (s : _root_.Go.ChangeSpec) : _root_.Go.OpenSpec := { _root_.Go.OpenSpec.ofChange s with cond := some uptoSmall }

/-- 'laws.FnExactAreasOfPredictor', WHERE WHAT IT READS IS OF BULK AT MOST 1048576: true; the input reads as it did. -/
def fnExactAreasOfPredictorUptoRow : OpenClaim := { program := "ytofhemganefhcab", sum := "83d0eb2c4ec354e54da54f0be1a61b160a39e1695b1e172578357a701c90aff0", func := "loop.example/g01279/laws.FnExactAreasOfPredictor", spec := "fnExactAreasOfPredictor", inPlace := ["math.Float64bits", "math.Float64frombits"], apart := false, narrowed := true }
def FnExactAreasOfPredictorUptoSaid : Prop := fnExactAreasOfPredictorUptoRow.holds Try.pinned (OpenSpec.upto fnExactAreasOfPredictorSpec)

/-- 'laws.FnExactPredictAt', WHERE WHAT IT READS IS OF BULK AT MOST 1048576: true; the input reads as it did. -/
def fnExactPredictAtUptoRow : OpenClaim := { program := "ytofhemganefhcab", sum := "83d0eb2c4ec354e54da54f0be1a61b160a39e1695b1e172578357a701c90aff0", func := "loop.example/g01279/laws.FnExactPredictAt", spec := "fnExactPredictAt", inPlace := ["math.Float64bits", "math.Float64frombits"], apart := false, narrowed := true }
def FnExactPredictAtUptoSaid : Prop := fnExactPredictAtUptoRow.holds Try.pinned (OpenSpec.upto fnExactPredictAtSpec)

/-- 'laws.FnExactResidueOf', WHERE WHAT IT READS IS OF BULK AT MOST 1048576: true; the input reads as it did. -/
def fnExactResidueOfUptoRow : OpenClaim := { program := "ytofhemganefhcab", sum := "83d0eb2c4ec354e54da54f0be1a61b160a39e1695b1e172578357a701c90aff0", func := "loop.example/g01279/laws.FnExactResidueOf", spec := "fnExactResidueOf", inPlace := ["math.Float64bits", "math.Float64frombits"], unfollowed := true, recurses := true, apart := false, narrowed := true }
def FnExactResidueOfUptoSaid : Prop := fnExactResidueOfUptoRow.holds Try.pinned (OpenSpec.upto fnExactResidueOfSpec)

/-- 'laws.FnExactMakeAgain', WHERE WHAT IT READS IS OF BULK AT MOST 1048576: true; the input reads as it did. -/
def fnExactMakeAgainUptoRow : OpenClaim := { program := "ytofhemganefhcab", sum := "83d0eb2c4ec354e54da54f0be1a61b160a39e1695b1e172578357a701c90aff0", func := "loop.example/g01279/laws.FnExactMakeAgain", spec := "fnExactMakeAgain", inPlace := ["math.Float64bits", "math.Float64frombits"], apart := false, narrowed := true }
def FnExactMakeAgainUptoSaid : Prop := fnExactMakeAgainUptoRow.holds Try.pinned (OpenSpec.upto fnExactMakeAgainSpec)

/-- 'laws.FnExactDrivePredictor', WHERE WHAT IT READS IS OF BULK AT MOST 1048576: true; the input reads as it did. -/
def fnExactDrivePredictorUptoRow : OpenClaim := { program := "ytofhemganefhcab", sum := "83d0eb2c4ec354e54da54f0be1a61b160a39e1695b1e172578357a701c90aff0", func := "loop.example/g01279/laws.FnExactDrivePredictor", spec := "fnExactDrivePredictor", inPlace := ["math.Float64bits", "math.Float64frombits"], apart := false, narrowed := true }
def FnExactDrivePredictorUptoSaid : Prop := fnExactDrivePredictorUptoRow.holds Try.pinned (OpenSpec.upto fnExactDrivePredictorSpec)

/-- 'laws.FnExactLadderResidue', WHERE WHAT IT READS IS OF BULK AT MOST 1048576: true; the input reads as it did. -/
def fnExactLadderResidueUptoRow : OpenClaim := { program := "ytofhemganefhcab", sum := "83d0eb2c4ec354e54da54f0be1a61b160a39e1695b1e172578357a701c90aff0", func := "loop.example/g01279/laws.FnExactLadderResidue", spec := "fnExactLadderResidue", inPlace := ["math.Float64bits", "math.Float64frombits"], unfollowed := true, recurses := true, apart := false, narrowed := true }
def FnExactLadderResidueUptoSaid : Prop := fnExactLadderResidueUptoRow.holds Try.pinned (OpenSpec.upto fnExactLadderResidueSpec)

/-- 'laws.FnExactPredictionGain', WHERE WHAT IT READS IS OF BULK AT MOST 1048576: true; the input reads as it did. -/
def fnExactPredictionGainUptoRow : OpenClaim := { program := "ytofhemganefhcab", sum := "83d0eb2c4ec354e54da54f0be1a61b160a39e1695b1e172578357a701c90aff0", func := "loop.example/g01279/laws.FnExactPredictionGain", spec := "fnExactPredictionGain", inPlace := ["math.Float64bits", "math.Float64frombits"], unfollowed := true, recurses := true, apart := false, narrowed := true }
def FnExactPredictionGainUptoSaid : Prop := fnExactPredictionGainUptoRow.holds Try.pinned (OpenSpec.upto fnExactPredictionGainSpec)

/-- 'laws.FnExactLagsOf', WHERE WHAT IT READS IS OF BULK AT MOST 1048576: true; the input reads as it did. -/
def fnExactLagsOfUptoRow : OpenClaim := { program := "ytofhemganefhcab", sum := "83d0eb2c4ec354e54da54f0be1a61b160a39e1695b1e172578357a701c90aff0", func := "loop.example/g01279/laws.FnExactLagsOf", spec := "fnExactLagsOf", inPlace := ["math.Float64bits", "math.Float64frombits"], unfollowed := true, recurses := true, apart := false, narrowed := true }
def FnExactLagsOfUptoSaid : Prop := fnExactLagsOfUptoRow.holds Try.pinned (OpenSpec.upto fnExactLagsOfSpec)

/-- 'laws.FnExactLadderOf', WHERE WHAT IT READS IS OF BULK AT MOST 1048576: true; the input reads as it did. -/
def fnExactLadderOfUptoRow : OpenClaim := { program := "ytofhemganefhcab", sum := "83d0eb2c4ec354e54da54f0be1a61b160a39e1695b1e172578357a701c90aff0", func := "loop.example/g01279/laws.FnExactLadderOf", spec := "fnExactLadderOf", inPlace := ["math.Float64bits", "math.Float64frombits"], apart := false, narrowed := true }
def FnExactLadderOfUptoSaid : Prop := fnExactLadderOfUptoRow.holds Try.pinned (OpenSpec.upto fnExactLadderOfSpec)

/-- 'laws.FnExactPredictorOf', WHERE WHAT IT READS IS OF BULK AT MOST 1048576: true; the input reads as it did. -/
def fnExactPredictorOfUptoRow : OpenClaim := { program := "ytofhemganefhcab", sum := "83d0eb2c4ec354e54da54f0be1a61b160a39e1695b1e172578357a701c90aff0", func := "loop.example/g01279/laws.FnExactPredictorOf", spec := "fnExactPredictorOf", inPlace := ["math.sqrt", "math.Float64bits", "math.Float64frombits"], apart := false, narrowed := true }
def FnExactPredictorOfUptoSaid : Prop := fnExactPredictorOfUptoRow.holds Try.pinned (OpenSpec.upto fnExactPredictorOfSpec)

/-- 'laws.FnExactPredictorResponse', WHERE WHAT IT READS IS OF BULK AT MOST 1048576: true; the input reads as it did. -/
def fnExactPredictorResponseUptoRow : OpenClaim := { program := "ytofhemganefhcab", sum := "83d0eb2c4ec354e54da54f0be1a61b160a39e1695b1e172578357a701c90aff0", func := "loop.example/g01279/laws.FnExactPredictorResponse", spec := "fnExactPredictorResponse", inPlace := ["math.Float32frombits", "math.Float64frombits", "math.Float64bits"], apart := false, narrowed := true }
def FnExactPredictorResponseUptoSaid : Prop := fnExactPredictorResponseUptoRow.holds Try.pinned (OpenSpec.upto fnExactPredictorResponseSpec)

/-- 'laws.FnLadders', WHERE WHAT IT READS IS OF BULK AT MOST 1048576: true; the input reads as it did. -/
def fnLaddersUptoRow : OpenClaim := { program := "ytofhemganefhcab", sum := "83d0eb2c4ec354e54da54f0be1a61b160a39e1695b1e172578357a701c90aff0", func := "loop.example/g01279/laws.FnLadders", spec := "fnLadders", inPlace := ["math.Float64bits", "math.Float64frombits", "math.sqrt"], unfollowed := true, recurses := true, apart := false, narrowed := true }
def FnLaddersUptoSaid : Prop := fnLaddersUptoRow.holds Try.pinned (OpenSpec.upto fnLaddersSpec)

end Rows
end Go.Proofs.Ytofhemganefhcab

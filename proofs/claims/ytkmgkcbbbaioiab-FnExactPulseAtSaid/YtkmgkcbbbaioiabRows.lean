/-
  No cell of these rows narrows 'for every input' (looked for: loops, veiled, ifaces, maps, wideKeys, modest, calm, conditions, laid).
  DERIVED. THE GIVEN ROWS OF THIS SEAT. 12 by the template 'for every input the law returns true; each argument reads behind the call as it read before'; 0 by the template 'total and deterministic' (their statements: YtkmgkcbbbaioiabTotals.lean).
  GIVEN WITH THE SEED: the statements are not yours to turn. If you find one false, say at which input.
  Laid BY PROGRAM, IN A SANDBOX (cutbox-rows.mjs): the forced cells as the released guide's own fill.sh prints them over the translation 81d4dddb1eebb6ad… (all of the seat's roots in one cut). By AI agents, Wed Nov 11 2026. No macro, syntax, notation, axiom, sorry.
-/
import Derived.Test.YtkmgkcbbbaioiabChecked
import GoSem.Claim
import GoSem.ClaimJoined
import GoSem.ClaimMapViews
import Derived.JoinedTies
import Derived.KernelRfl
namespace Go.Proofs.Ytkmgkcbbbaioiab
/- THE CELL 'sum', in the pinned program and in every row, IS THE sha256 OF THE DUMP (.gsa) THAT YtkmgkcbbbaioiabProg.lean LOADS. Nothing in Lean hashes anything: it is a label: what it is worth is what the hold of that sum in a sandbox is worth. -/
noncomputable def Try.pinned : Pinned := { name := "ytkmgkcbbbaioiab", sum := "81d4dddb1eebb6ad6ba00d058f3daba424506a0f034b01c9028a382d4766b16c", checked := Try.checked }
namespace Rows
def none {H : Type} : Left H := { results := [], args := [] }

/-- 'laws.FnExactValidEnvelope': WHATEVER THE INPUT: true; the input reads as it did. -/
def fnExactValidEnvelopeSpec : ChangeSpec := { name := "fnExactValidEnvelope", fn := fun _ => fun
  | [d] => { results := [.lit (.bool true)], args := [d] }
  | _ => none }
def fnExactValidEnvelopeRow : OpenClaim := { program := "ytkmgkcbbbaioiab", sum := "81d4dddb1eebb6ad6ba00d058f3daba424506a0f034b01c9028a382d4766b16c", func := "loop.example/g01279/laws.FnExactValidEnvelope", spec := "fnExactValidEnvelope", inPlace := ["math.Float64bits", "math.Float64frombits"], apart := false }
def FnExactValidEnvelopeSaid : Prop := fnExactValidEnvelopeRow.holds Try.pinned (OpenSpec.ofChange fnExactValidEnvelopeSpec)

/-- ITS FALSE NEIGHBOUR: 'it returns false'. Refute it at one input. -/
def fnExactValidEnvelopeWrong : ChangeSpec := { name := "fnExactValidEnvelope", fn := fun _ => fun
  | [d] => { results := [.lit (.bool false)], args := [d] }
  | _ => none }
def FnExactValidEnvelopeWrongFalsely : Prop := fnExactValidEnvelopeRow.holds Try.pinned (OpenSpec.ofChange fnExactValidEnvelopeWrong)

/-- 'laws.FnExactSameEnvelope': WHATEVER THE INPUT: true; the input reads as it did. -/
def fnExactSameEnvelopeSpec : ChangeSpec := { name := "fnExactSameEnvelope", fn := fun _ => fun
  | [d1, d2] => { results := [.lit (.bool true)], args := [d1, d2] }
  | _ => none }
def fnExactSameEnvelopeRow : OpenClaim := { program := "ytkmgkcbbbaioiab", sum := "81d4dddb1eebb6ad6ba00d058f3daba424506a0f034b01c9028a382d4766b16c", func := "loop.example/g01279/laws.FnExactSameEnvelope", spec := "fnExactSameEnvelope", inPlace := ["math.Float32bits"], unfollowed := true, recurses := true, apart := false }
def FnExactSameEnvelopeSaid : Prop := fnExactSameEnvelopeRow.holds Try.pinned (OpenSpec.ofChange fnExactSameEnvelopeSpec)

/-- ITS FALSE NEIGHBOUR: 'it returns false'. Refute it at one input. -/
def fnExactSameEnvelopeWrong : ChangeSpec := { name := "fnExactSameEnvelope", fn := fun _ => fun
  | [d1, d2] => { results := [.lit (.bool false)], args := [d1, d2] }
  | _ => none }
def FnExactSameEnvelopeWrongFalsely : Prop := fnExactSameEnvelopeRow.holds Try.pinned (OpenSpec.ofChange fnExactSameEnvelopeWrong)

/-- 'laws.FnExactEnvelopeAt': WHATEVER THE INPUT: true; the input reads as it did. -/
def fnExactEnvelopeAtSpec : ChangeSpec := { name := "fnExactEnvelopeAt", fn := fun _ => fun
  | [d1, d2] => { results := [.lit (.bool true)], args := [d1, d2] }
  | _ => none }
def fnExactEnvelopeAtRow : OpenClaim := { program := "ytkmgkcbbbaioiab", sum := "81d4dddb1eebb6ad6ba00d058f3daba424506a0f034b01c9028a382d4766b16c", func := "loop.example/g01279/laws.FnExactEnvelopeAt", spec := "fnExactEnvelopeAt", inPlace := ["math.Float64bits", "math.Float64frombits"], apart := false }
def FnExactEnvelopeAtSaid : Prop := fnExactEnvelopeAtRow.holds Try.pinned (OpenSpec.ofChange fnExactEnvelopeAtSpec)

/-- ITS FALSE NEIGHBOUR: 'it returns false'. Refute it at one input. -/
def fnExactEnvelopeAtWrong : ChangeSpec := { name := "fnExactEnvelopeAt", fn := fun _ => fun
  | [d1, d2] => { results := [.lit (.bool false)], args := [d1, d2] }
  | _ => none }
def FnExactEnvelopeAtWrongFalsely : Prop := fnExactEnvelopeAtRow.holds Try.pinned (OpenSpec.ofChange fnExactEnvelopeAtWrong)

/-- 'laws.FnExactShapeBy': WHATEVER THE INPUT: true; the input reads as it did. -/
def fnExactShapeBySpec : ChangeSpec := { name := "fnExactShapeBy", fn := fun _ => fun
  | [d1, d2] => { results := [.lit (.bool true)], args := [d1, d2] }
  | _ => none }
def fnExactShapeByRow : OpenClaim := { program := "ytkmgkcbbbaioiab", sum := "81d4dddb1eebb6ad6ba00d058f3daba424506a0f034b01c9028a382d4766b16c", func := "loop.example/g01279/laws.FnExactShapeBy", spec := "fnExactShapeBy", inPlace := ["math.Float64bits", "math.Float64frombits"], unfollowed := true, recurses := true, apart := false }
def FnExactShapeBySaid : Prop := fnExactShapeByRow.holds Try.pinned (OpenSpec.ofChange fnExactShapeBySpec)

/-- ITS FALSE NEIGHBOUR: 'it returns false'. Refute it at one input. -/
def fnExactShapeByWrong : ChangeSpec := { name := "fnExactShapeBy", fn := fun _ => fun
  | [d1, d2] => { results := [.lit (.bool false)], args := [d1, d2] }
  | _ => none }
def FnExactShapeByWrongFalsely : Prop := fnExactShapeByRow.holds Try.pinned (OpenSpec.ofChange fnExactShapeByWrong)

/-- 'laws.FnExactTrembleOf': WHATEVER THE INPUT: true; the input reads as it did. -/
def fnExactTrembleOfSpec : ChangeSpec := { name := "fnExactTrembleOf", fn := fun _ => fun
  | [d1, d2, d3, d4] => { results := [.lit (.bool true)], args := [d1, d2, d3, d4] }
  | _ => none }
def fnExactTrembleOfRow : OpenClaim := { program := "ytkmgkcbbbaioiab", sum := "81d4dddb1eebb6ad6ba00d058f3daba424506a0f034b01c9028a382d4766b16c", func := "loop.example/g01279/laws.FnExactTrembleOf", spec := "fnExactTrembleOf", inPlace := ["math.Float64frombits", "math.Float64bits", "math.Float32frombits"], unfollowed := true, recurses := true, apart := false }
def FnExactTrembleOfSaid : Prop := fnExactTrembleOfRow.holds Try.pinned (OpenSpec.ofChange fnExactTrembleOfSpec)

/-- ITS FALSE NEIGHBOUR: 'it returns false'. Refute it at one input. -/
def fnExactTrembleOfWrong : ChangeSpec := { name := "fnExactTrembleOf", fn := fun _ => fun
  | [d1, d2, d3, d4] => { results := [.lit (.bool false)], args := [d1, d2, d3, d4] }
  | _ => none }
def FnExactTrembleOfWrongFalsely : Prop := fnExactTrembleOfRow.holds Try.pinned (OpenSpec.ofChange fnExactTrembleOfWrong)

/-- 'laws.FnExactGlideOf': WHATEVER THE INPUT: true; the input reads as it did. -/
def fnExactGlideOfSpec : ChangeSpec := { name := "fnExactGlideOf", fn := fun _ => fun
  | [d1, d2, d3] => { results := [.lit (.bool true)], args := [d1, d2, d3] }
  | _ => none }
def fnExactGlideOfRow : OpenClaim := { program := "ytkmgkcbbbaioiab", sum := "81d4dddb1eebb6ad6ba00d058f3daba424506a0f034b01c9028a382d4766b16c", func := "loop.example/g01279/laws.FnExactGlideOf", spec := "fnExactGlideOf", inPlace := ["math.Float64frombits", "math.Float64bits", "math.Float32frombits"], unfollowed := true, recurses := true, apart := false }
def FnExactGlideOfSaid : Prop := fnExactGlideOfRow.holds Try.pinned (OpenSpec.ofChange fnExactGlideOfSpec)

/-- ITS FALSE NEIGHBOUR: 'it returns false'. Refute it at one input. -/
def fnExactGlideOfWrong : ChangeSpec := { name := "fnExactGlideOf", fn := fun _ => fun
  | [d1, d2, d3] => { results := [.lit (.bool false)], args := [d1, d2, d3] }
  | _ => none }
def FnExactGlideOfWrongFalsely : Prop := fnExactGlideOfRow.holds Try.pinned (OpenSpec.ofChange fnExactGlideOfWrong)

/-- 'laws.FnExactNoteRate': WHATEVER THE INPUT: true; the input reads as it did. -/
def fnExactNoteRateSpec : ChangeSpec := { name := "fnExactNoteRate", fn := fun _ => fun
  | [d] => { results := [.lit (.bool true)], args := [d] }
  | _ => none }
def fnExactNoteRateRow : OpenClaim := { program := "ytkmgkcbbbaioiab", sum := "81d4dddb1eebb6ad6ba00d058f3daba424506a0f034b01c9028a382d4766b16c", func := "loop.example/g01279/laws.FnExactNoteRate", spec := "fnExactNoteRate", inPlace := ["math.Float64frombits", "math.Float32frombits"], apart := false }
def FnExactNoteRateSaid : Prop := fnExactNoteRateRow.holds Try.pinned (OpenSpec.ofChange fnExactNoteRateSpec)

/-- ITS FALSE NEIGHBOUR: 'it returns false'. Refute it at one input. -/
def fnExactNoteRateWrong : ChangeSpec := { name := "fnExactNoteRate", fn := fun _ => fun
  | [d] => { results := [.lit (.bool false)], args := [d] }
  | _ => none }
def FnExactNoteRateWrongFalsely : Prop := fnExactNoteRateRow.holds Try.pinned (OpenSpec.ofChange fnExactNoteRateWrong)

/-- 'laws.FnExactPulseAt': WHATEVER THE INPUT: true; the input reads as it did. -/
def fnExactPulseAtSpec : ChangeSpec := { name := "fnExactPulseAt", fn := fun _ => fun
  | [d1, d2] => { results := [.lit (.bool true)], args := [d1, d2] }
  | _ => none }
def fnExactPulseAtRow : OpenClaim := { program := "ytkmgkcbbbaioiab", sum := "81d4dddb1eebb6ad6ba00d058f3daba424506a0f034b01c9028a382d4766b16c", func := "loop.example/g01279/laws.FnExactPulseAt", spec := "fnExactPulseAt", inPlace := ["math.Float64frombits", "math.Float64bits", "math.Float32frombits"], apart := false }
def FnExactPulseAtSaid : Prop := fnExactPulseAtRow.holds Try.pinned (OpenSpec.ofChange fnExactPulseAtSpec)

/-- ITS FALSE NEIGHBOUR: 'it returns false'. Refute it at one input. -/
def fnExactPulseAtWrong : ChangeSpec := { name := "fnExactPulseAt", fn := fun _ => fun
  | [d1, d2] => { results := [.lit (.bool false)], args := [d1, d2] }
  | _ => none }
def FnExactPulseAtWrongFalsely : Prop := fnExactPulseAtRow.holds Try.pinned (OpenSpec.ofChange fnExactPulseAtWrong)

/-- 'laws.FnExactFlowOfThroat': WHATEVER THE INPUT: true; the input reads as it did. -/
def fnExactFlowOfThroatSpec : ChangeSpec := { name := "fnExactFlowOfThroat", fn := fun _ => fun
  | [d1, d2] => { results := [.lit (.bool true)], args := [d1, d2] }
  | _ => none }
def fnExactFlowOfThroatRow : OpenClaim := { program := "ytkmgkcbbbaioiab", sum := "81d4dddb1eebb6ad6ba00d058f3daba424506a0f034b01c9028a382d4766b16c", func := "loop.example/g01279/laws.FnExactFlowOfThroat", spec := "fnExactFlowOfThroat", inPlace := ["math.archFloor", "math.Float64bits", "math.Float64frombits", "math.archTrunc", "math.Float32frombits"], unfollowed := true, recurses := true, apart := false }
def FnExactFlowOfThroatSaid : Prop := fnExactFlowOfThroatRow.holds Try.pinned (OpenSpec.ofChange fnExactFlowOfThroatSpec)

/-- ITS FALSE NEIGHBOUR: 'it returns false'. Refute it at one input. -/
def fnExactFlowOfThroatWrong : ChangeSpec := { name := "fnExactFlowOfThroat", fn := fun _ => fun
  | [d1, d2] => { results := [.lit (.bool false)], args := [d1, d2] }
  | _ => none }
def FnExactFlowOfThroatWrongFalsely : Prop := fnExactFlowOfThroatRow.holds Try.pinned (OpenSpec.ofChange fnExactFlowOfThroatWrong)

/-- 'laws.FnExactMeanFlow': WHATEVER THE INPUT: true; the input reads as it did. -/
def fnExactMeanFlowSpec : ChangeSpec := { name := "fnExactMeanFlow", fn := fun _ => fun
  | [d1, d2] => { results := [.lit (.bool true)], args := [d1, d2] }
  | _ => none }
def fnExactMeanFlowRow : OpenClaim := { program := "ytkmgkcbbbaioiab", sum := "81d4dddb1eebb6ad6ba00d058f3daba424506a0f034b01c9028a382d4766b16c", func := "loop.example/g01279/laws.FnExactMeanFlow", spec := "fnExactMeanFlow", inPlace := ["math.Float64frombits", "math.Float64bits", "math.Float32frombits"], apart := false }
def FnExactMeanFlowSaid : Prop := fnExactMeanFlowRow.holds Try.pinned (OpenSpec.ofChange fnExactMeanFlowSpec)

/-- ITS FALSE NEIGHBOUR: 'it returns false'. Refute it at one input. -/
def fnExactMeanFlowWrong : ChangeSpec := { name := "fnExactMeanFlow", fn := fun _ => fun
  | [d1, d2] => { results := [.lit (.bool false)], args := [d1, d2] }
  | _ => none }
def FnExactMeanFlowWrongFalsely : Prop := fnExactMeanFlowRow.holds Try.pinned (OpenSpec.ofChange fnExactMeanFlowWrong)

/-- 'laws.FnExactStepVoice': WHATEVER THE INPUT: true; the input reads as it did. -/
def fnExactStepVoiceSpec : ChangeSpec := { name := "fnExactStepVoice", fn := fun _ => fun
  | [d1, d2] => { results := [.lit (.bool true)], args := [d1, d2] }
  | _ => none }
def fnExactStepVoiceRow : OpenClaim := { program := "ytkmgkcbbbaioiab", sum := "81d4dddb1eebb6ad6ba00d058f3daba424506a0f034b01c9028a382d4766b16c", func := "loop.example/g01279/laws.FnExactStepVoice", spec := "fnExactStepVoice", inPlace := ["math.Float64frombits", "math.Float64bits", "math.Float32frombits"], unfollowed := true, recurses := true, apart := false }
def FnExactStepVoiceSaid : Prop := fnExactStepVoiceRow.holds Try.pinned (OpenSpec.ofChange fnExactStepVoiceSpec)

/-- ITS FALSE NEIGHBOUR: 'it returns false'. Refute it at one input. -/
def fnExactStepVoiceWrong : ChangeSpec := { name := "fnExactStepVoice", fn := fun _ => fun
  | [d1, d2] => { results := [.lit (.bool false)], args := [d1, d2] }
  | _ => none }
def FnExactStepVoiceWrongFalsely : Prop := fnExactStepVoiceRow.holds Try.pinned (OpenSpec.ofChange fnExactStepVoiceWrong)

/-- 'laws.FnExactRunVoice': WHATEVER THE INPUT: true; the input reads as it did. -/
def fnExactRunVoiceSpec : ChangeSpec := { name := "fnExactRunVoice", fn := fun _ => fun
  | [d1, d2, d3] => { results := [.lit (.bool true)], args := [d1, d2, d3] }
  | _ => none }
def fnExactRunVoiceRow : OpenClaim := { program := "ytkmgkcbbbaioiab", sum := "81d4dddb1eebb6ad6ba00d058f3daba424506a0f034b01c9028a382d4766b16c", func := "loop.example/g01279/laws.FnExactRunVoice", spec := "fnExactRunVoice", inPlace := ["math.Float64frombits", "math.Float64bits", "math.Float32frombits"], unfollowed := true, recurses := true, apart := false }
def FnExactRunVoiceSaid : Prop := fnExactRunVoiceRow.holds Try.pinned (OpenSpec.ofChange fnExactRunVoiceSpec)

/-- ITS FALSE NEIGHBOUR: 'it returns false'. Refute it at one input. -/
def fnExactRunVoiceWrong : ChangeSpec := { name := "fnExactRunVoice", fn := fun _ => fun
  | [d1, d2, d3] => { results := [.lit (.bool false)], args := [d1, d2, d3] }
  | _ => none }
def FnExactRunVoiceWrongFalsely : Prop := fnExactRunVoiceRow.holds Try.pinned (OpenSpec.ofChange fnExactRunVoiceWrong)

/- THE SECOND FORM. 'bulk': how many values and letters a reading holds, each counted each time it is reached (what is shared counts as often as it is met; a slice's spare places count too). A statement '..UptoSaid' is the law's where the arguments, and the package variables that the reading takes, are together of bulk at most 1048576: NARROWER than '..Said'. Prove '..Said' where nothing that the law and all that it calls make is longer than what came in: it says more and counts as full. Else prove '..UptoSaid'. A law counts once. -/
mutual
def uptoBulk {H : Type} : DataW H → Nat
  | .lit (.string bytes) => bytes.length + 1
  | .lit _ => 1
  | .nil => 1
  | .ptr d => uptoBulk d + 1
  | .slice elems spare => uptoBulkAll elems + uptoBulkAll spare + 1
  | .agg parts => uptoBulkAll parts + 1
  | .iface _ d => uptoBulk d + 1
  | .map entries => uptoBulkEntries entries + 1
  | .held _ => 1
def uptoBulkAll {H : Type} : List (DataW H) → Nat
  | [] => 0
  | d :: r => uptoBulk d + uptoBulkAll r
def uptoBulkEntries {H : Type} : List (Lit × DataW H) → Nat
  | [] => 0
  | x :: r => uptoBulkEntry x + uptoBulkEntries r
def uptoBulkEntry {H : Type} : Lit × DataW H → Nat
  | (.string bytes, d) => bytes.length + uptoBulk d + 1
  | (_, d) => uptoBulk d + 1
 end
def uptoSmall : (H : Type) → List (DataW H) → Bool := fun _ ds => decide (uptoBulkAll ds ≤ 1048576)
def OpenSpec.upto (s : _root_.Go.ChangeSpec) : _root_.Go.OpenSpec := { _root_.Go.OpenSpec.ofChange s with cond := some uptoSmall }

/-- 'laws.FnExactValidEnvelope', WHERE WHAT IT READS IS OF BULK AT MOST 1048576: true; the input reads as it did. -/
def fnExactValidEnvelopeUptoRow : OpenClaim := { program := "ytkmgkcbbbaioiab", sum := "81d4dddb1eebb6ad6ba00d058f3daba424506a0f034b01c9028a382d4766b16c", func := "loop.example/g01279/laws.FnExactValidEnvelope", spec := "fnExactValidEnvelope", inPlace := ["math.Float64bits", "math.Float64frombits"], apart := false, narrowed := true }
def FnExactValidEnvelopeUptoSaid : Prop := fnExactValidEnvelopeUptoRow.holds Try.pinned (OpenSpec.upto fnExactValidEnvelopeSpec)

/-- 'laws.FnExactSameEnvelope', WHERE WHAT IT READS IS OF BULK AT MOST 1048576: true; the input reads as it did. -/
def fnExactSameEnvelopeUptoRow : OpenClaim := { program := "ytkmgkcbbbaioiab", sum := "81d4dddb1eebb6ad6ba00d058f3daba424506a0f034b01c9028a382d4766b16c", func := "loop.example/g01279/laws.FnExactSameEnvelope", spec := "fnExactSameEnvelope", inPlace := ["math.Float32bits"], unfollowed := true, recurses := true, apart := false, narrowed := true }
def FnExactSameEnvelopeUptoSaid : Prop := fnExactSameEnvelopeUptoRow.holds Try.pinned (OpenSpec.upto fnExactSameEnvelopeSpec)

/-- 'laws.FnExactEnvelopeAt', WHERE WHAT IT READS IS OF BULK AT MOST 1048576: true; the input reads as it did. -/
def fnExactEnvelopeAtUptoRow : OpenClaim := { program := "ytkmgkcbbbaioiab", sum := "81d4dddb1eebb6ad6ba00d058f3daba424506a0f034b01c9028a382d4766b16c", func := "loop.example/g01279/laws.FnExactEnvelopeAt", spec := "fnExactEnvelopeAt", inPlace := ["math.Float64bits", "math.Float64frombits"], apart := false, narrowed := true }
def FnExactEnvelopeAtUptoSaid : Prop := fnExactEnvelopeAtUptoRow.holds Try.pinned (OpenSpec.upto fnExactEnvelopeAtSpec)

/-- 'laws.FnExactShapeBy', WHERE WHAT IT READS IS OF BULK AT MOST 1048576: true; the input reads as it did. -/
def fnExactShapeByUptoRow : OpenClaim := { program := "ytkmgkcbbbaioiab", sum := "81d4dddb1eebb6ad6ba00d058f3daba424506a0f034b01c9028a382d4766b16c", func := "loop.example/g01279/laws.FnExactShapeBy", spec := "fnExactShapeBy", inPlace := ["math.Float64bits", "math.Float64frombits"], unfollowed := true, recurses := true, apart := false, narrowed := true }
def FnExactShapeByUptoSaid : Prop := fnExactShapeByUptoRow.holds Try.pinned (OpenSpec.upto fnExactShapeBySpec)

/-- 'laws.FnExactTrembleOf', WHERE WHAT IT READS IS OF BULK AT MOST 1048576: true; the input reads as it did. -/
def fnExactTrembleOfUptoRow : OpenClaim := { program := "ytkmgkcbbbaioiab", sum := "81d4dddb1eebb6ad6ba00d058f3daba424506a0f034b01c9028a382d4766b16c", func := "loop.example/g01279/laws.FnExactTrembleOf", spec := "fnExactTrembleOf", inPlace := ["math.Float64frombits", "math.Float64bits", "math.Float32frombits"], unfollowed := true, recurses := true, apart := false, narrowed := true }
def FnExactTrembleOfUptoSaid : Prop := fnExactTrembleOfUptoRow.holds Try.pinned (OpenSpec.upto fnExactTrembleOfSpec)

/-- 'laws.FnExactGlideOf', WHERE WHAT IT READS IS OF BULK AT MOST 1048576: true; the input reads as it did. -/
def fnExactGlideOfUptoRow : OpenClaim := { program := "ytkmgkcbbbaioiab", sum := "81d4dddb1eebb6ad6ba00d058f3daba424506a0f034b01c9028a382d4766b16c", func := "loop.example/g01279/laws.FnExactGlideOf", spec := "fnExactGlideOf", inPlace := ["math.Float64frombits", "math.Float64bits", "math.Float32frombits"], unfollowed := true, recurses := true, apart := false, narrowed := true }
def FnExactGlideOfUptoSaid : Prop := fnExactGlideOfUptoRow.holds Try.pinned (OpenSpec.upto fnExactGlideOfSpec)

/-- 'laws.FnExactNoteRate', WHERE WHAT IT READS IS OF BULK AT MOST 1048576: true; the input reads as it did. -/
def fnExactNoteRateUptoRow : OpenClaim := { program := "ytkmgkcbbbaioiab", sum := "81d4dddb1eebb6ad6ba00d058f3daba424506a0f034b01c9028a382d4766b16c", func := "loop.example/g01279/laws.FnExactNoteRate", spec := "fnExactNoteRate", inPlace := ["math.Float64frombits", "math.Float32frombits"], apart := false, narrowed := true }
def FnExactNoteRateUptoSaid : Prop := fnExactNoteRateUptoRow.holds Try.pinned (OpenSpec.upto fnExactNoteRateSpec)

/-- 'laws.FnExactPulseAt', WHERE WHAT IT READS IS OF BULK AT MOST 1048576: true; the input reads as it did. -/
def fnExactPulseAtUptoRow : OpenClaim := { program := "ytkmgkcbbbaioiab", sum := "81d4dddb1eebb6ad6ba00d058f3daba424506a0f034b01c9028a382d4766b16c", func := "loop.example/g01279/laws.FnExactPulseAt", spec := "fnExactPulseAt", inPlace := ["math.Float64frombits", "math.Float64bits", "math.Float32frombits"], apart := false, narrowed := true }
def FnExactPulseAtUptoSaid : Prop := fnExactPulseAtUptoRow.holds Try.pinned (OpenSpec.upto fnExactPulseAtSpec)

/-- 'laws.FnExactFlowOfThroat', WHERE WHAT IT READS IS OF BULK AT MOST 1048576: true; the input reads as it did. -/
def fnExactFlowOfThroatUptoRow : OpenClaim := { program := "ytkmgkcbbbaioiab", sum := "81d4dddb1eebb6ad6ba00d058f3daba424506a0f034b01c9028a382d4766b16c", func := "loop.example/g01279/laws.FnExactFlowOfThroat", spec := "fnExactFlowOfThroat", inPlace := ["math.archFloor", "math.Float64bits", "math.Float64frombits", "math.archTrunc", "math.Float32frombits"], unfollowed := true, recurses := true, apart := false, narrowed := true }
def FnExactFlowOfThroatUptoSaid : Prop := fnExactFlowOfThroatUptoRow.holds Try.pinned (OpenSpec.upto fnExactFlowOfThroatSpec)

/-- 'laws.FnExactMeanFlow', WHERE WHAT IT READS IS OF BULK AT MOST 1048576: true; the input reads as it did. -/
def fnExactMeanFlowUptoRow : OpenClaim := { program := "ytkmgkcbbbaioiab", sum := "81d4dddb1eebb6ad6ba00d058f3daba424506a0f034b01c9028a382d4766b16c", func := "loop.example/g01279/laws.FnExactMeanFlow", spec := "fnExactMeanFlow", inPlace := ["math.Float64frombits", "math.Float64bits", "math.Float32frombits"], apart := false, narrowed := true }
def FnExactMeanFlowUptoSaid : Prop := fnExactMeanFlowUptoRow.holds Try.pinned (OpenSpec.upto fnExactMeanFlowSpec)

/-- 'laws.FnExactStepVoice', WHERE WHAT IT READS IS OF BULK AT MOST 1048576: true; the input reads as it did. -/
def fnExactStepVoiceUptoRow : OpenClaim := { program := "ytkmgkcbbbaioiab", sum := "81d4dddb1eebb6ad6ba00d058f3daba424506a0f034b01c9028a382d4766b16c", func := "loop.example/g01279/laws.FnExactStepVoice", spec := "fnExactStepVoice", inPlace := ["math.Float64frombits", "math.Float64bits", "math.Float32frombits"], unfollowed := true, recurses := true, apart := false, narrowed := true }
def FnExactStepVoiceUptoSaid : Prop := fnExactStepVoiceUptoRow.holds Try.pinned (OpenSpec.upto fnExactStepVoiceSpec)

/-- 'laws.FnExactRunVoice', WHERE WHAT IT READS IS OF BULK AT MOST 1048576: true; the input reads as it did. -/
def fnExactRunVoiceUptoRow : OpenClaim := { program := "ytkmgkcbbbaioiab", sum := "81d4dddb1eebb6ad6ba00d058f3daba424506a0f034b01c9028a382d4766b16c", func := "loop.example/g01279/laws.FnExactRunVoice", spec := "fnExactRunVoice", inPlace := ["math.Float64frombits", "math.Float64bits", "math.Float32frombits"], unfollowed := true, recurses := true, apart := false, narrowed := true }
def FnExactRunVoiceUptoSaid : Prop := fnExactRunVoiceUptoRow.holds Try.pinned (OpenSpec.upto fnExactRunVoiceSpec)

end Rows
end Go.Proofs.Ytkmgkcbbbaioiab

/-
  No cell of these rows narrows 'for every input' (looked for: loops, veiled, ifaces, maps, wideKeys, modest, calm, conditions, laid).
  DERIVED. THE GIVEN ROWS OF THIS SEAT. 12 by the template 'for every input the law returns true; each argument reads behind the call as it read before'; 0 by the template 'total and deterministic' (their statements: YtpmjiabllmomjaaTotals.lean).
  GIVEN WITH THE SEED: the statements are not yours to turn. If you find one false, say at which input.
  Laid BY PROGRAM, IN A SANDBOX (cutbox-rows.mjs): the forced cells as the released guide's own fill.sh prints them over the translation 8ac8c2f4c0e6440e… (all of the seat's roots in one cut). By AI agents, Wed Nov 11 2026. No macro, syntax, notation, axiom, sorry.
-/
import Derived.Test.YtpmjiabllmomjaaChecked
import GoSem.Claim
import GoSem.ClaimJoined
import GoSem.ClaimMapViews
import Derived.JoinedTies
import Derived.KernelRfl
namespace Go.Proofs.Ytpmjiabllmomjaa
/- THE CELL 'sum', in the pinned program and in every row, IS THE sha256 OF THE DUMP (.gsa) THAT YtpmjiabllmomjaaProg.lean LOADS. Nothing in Lean hashes anything: it is a label: what it is worth is what the hold of that sum in a sandbox is worth. -/
noncomputable def Try.pinned : Pinned := { name := "ytpmjiabllmomjaa", sum := "8ac8c2f4c0e6440ec28e588b7748175869a386f0b3e440304eb8edfdf35a538c", checked := Try.checked }
namespace Rows
def none {H : Type} : Left H := { results := [], args := [] }

/-- 'laws.FnExactWindowOf': WHATEVER THE INPUT: true; the input reads as it did. -/
def fnExactWindowOfSpec : ChangeSpec := { name := "fnExactWindowOf", fn := fun _ => fun
  | [d1, d2] => { results := [.lit (.bool true)], args := [d1, d2] }
  | _ => none }
def fnExactWindowOfRow : OpenClaim := { program := "ytpmjiabllmomjaa", sum := "8ac8c2f4c0e6440ec28e588b7748175869a386f0b3e440304eb8edfdf35a538c", func := "loop.example/g01279/laws.FnExactWindowOf", spec := "fnExactWindowOf", inPlace := ["math.Float64frombits", "math.Float64bits", "math.Float32frombits"], unfollowed := true, recurses := true, apart := false }
def FnExactWindowOfSaid : Prop := fnExactWindowOfRow.holds Try.pinned (OpenSpec.ofChange fnExactWindowOfSpec)

/-- ITS FALSE NEIGHBOUR: 'it returns false'. Refute it at one input. -/
def fnExactWindowOfWrong : ChangeSpec := { name := "fnExactWindowOf", fn := fun _ => fun
  | [d1, d2] => { results := [.lit (.bool false)], args := [d1, d2] }
  | _ => none }
def FnExactWindowOfWrongFalsely : Prop := fnExactWindowOfRow.holds Try.pinned (OpenSpec.ofChange fnExactWindowOfWrong)

/-- 'laws.FnExactWindowSound': WHATEVER THE INPUT: true; the input reads as it did. -/
def fnExactWindowSoundSpec : ChangeSpec := { name := "fnExactWindowSound", fn := fun _ => fun
  | [d1, d2] => { results := [.lit (.bool true)], args := [d1, d2] }
  | _ => none }
def fnExactWindowSoundRow : OpenClaim := { program := "ytpmjiabllmomjaa", sum := "8ac8c2f4c0e6440ec28e588b7748175869a386f0b3e440304eb8edfdf35a538c", func := "loop.example/g01279/laws.FnExactWindowSound", spec := "fnExactWindowSound", inPlace := ["math.Float64bits", "math.Float64frombits"], unfollowed := true, recurses := true, apart := false }
def FnExactWindowSoundSaid : Prop := fnExactWindowSoundRow.holds Try.pinned (OpenSpec.ofChange fnExactWindowSoundSpec)

/-- ITS FALSE NEIGHBOUR: 'it returns false'. Refute it at one input. -/
def fnExactWindowSoundWrong : ChangeSpec := { name := "fnExactWindowSound", fn := fun _ => fun
  | [d1, d2] => { results := [.lit (.bool false)], args := [d1, d2] }
  | _ => none }
def FnExactWindowSoundWrongFalsely : Prop := fnExactWindowSoundRow.holds Try.pinned (OpenSpec.ofChange fnExactWindowSoundWrong)

/-- 'laws.FnExactCrossingsOf': WHATEVER THE INPUT: true; the input reads as it did. -/
def fnExactCrossingsOfSpec : ChangeSpec := { name := "fnExactCrossingsOf", fn := fun _ => fun
  | [d] => { results := [.lit (.bool true)], args := [d] }
  | _ => none }
def fnExactCrossingsOfRow : OpenClaim := { program := "ytpmjiabllmomjaa", sum := "8ac8c2f4c0e6440ec28e588b7748175869a386f0b3e440304eb8edfdf35a538c", func := "loop.example/g01279/laws.FnExactCrossingsOf", spec := "fnExactCrossingsOf", inPlace := ["math.Float64bits", "math.Float64frombits"], apart := false }
def FnExactCrossingsOfSaid : Prop := fnExactCrossingsOfRow.holds Try.pinned (OpenSpec.ofChange fnExactCrossingsOfSpec)

/-- ITS FALSE NEIGHBOUR: 'it returns false'. Refute it at one input. -/
def fnExactCrossingsOfWrong : ChangeSpec := { name := "fnExactCrossingsOf", fn := fun _ => fun
  | [d] => { results := [.lit (.bool false)], args := [d] }
  | _ => none }
def FnExactCrossingsOfWrongFalsely : Prop := fnExactCrossingsOfRow.holds Try.pinned (OpenSpec.ofChange fnExactCrossingsOfWrong)

/-- 'laws.FnExactRoughSound': WHATEVER THE INPUT: true; the input reads as it did. -/
def fnExactRoughSoundSpec : ChangeSpec := { name := "fnExactRoughSound", fn := fun _ => fun
  | [d1, d2] => { results := [.lit (.bool true)], args := [d1, d2] }
  | _ => none }
def fnExactRoughSoundRow : OpenClaim := { program := "ytpmjiabllmomjaa", sum := "8ac8c2f4c0e6440ec28e588b7748175869a386f0b3e440304eb8edfdf35a538c", func := "loop.example/g01279/laws.FnExactRoughSound", spec := "fnExactRoughSound", inPlace := ["math.Float64bits", "math.Float64frombits"], apart := false }
def FnExactRoughSoundSaid : Prop := fnExactRoughSoundRow.holds Try.pinned (OpenSpec.ofChange fnExactRoughSoundSpec)

/-- ITS FALSE NEIGHBOUR: 'it returns false'. Refute it at one input. -/
def fnExactRoughSoundWrong : ChangeSpec := { name := "fnExactRoughSound", fn := fun _ => fun
  | [d1, d2] => { results := [.lit (.bool false)], args := [d1, d2] }
  | _ => none }
def FnExactRoughSoundWrongFalsely : Prop := fnExactRoughSoundRow.holds Try.pinned (OpenSpec.ofChange fnExactRoughSoundWrong)

/-- 'laws.FnExactSmoothSound': WHATEVER THE INPUT: true; the input reads as it did. -/
def fnExactSmoothSoundSpec : ChangeSpec := { name := "fnExactSmoothSound", fn := fun _ => fun
  | [d1, d2] => { results := [.lit (.bool true)], args := [d1, d2] }
  | _ => none }
def fnExactSmoothSoundRow : OpenClaim := { program := "ytpmjiabllmomjaa", sum := "8ac8c2f4c0e6440ec28e588b7748175869a386f0b3e440304eb8edfdf35a538c", func := "loop.example/g01279/laws.FnExactSmoothSound", spec := "fnExactSmoothSound", inPlace := ["math.Float64bits", "math.Float64frombits"], apart := false }
def FnExactSmoothSoundSaid : Prop := fnExactSmoothSoundRow.holds Try.pinned (OpenSpec.ofChange fnExactSmoothSoundSpec)

/-- ITS FALSE NEIGHBOUR: 'it returns false'. Refute it at one input. -/
def fnExactSmoothSoundWrong : ChangeSpec := { name := "fnExactSmoothSound", fn := fun _ => fun
  | [d1, d2] => { results := [.lit (.bool false)], args := [d1, d2] }
  | _ => none }
def FnExactSmoothSoundWrongFalsely : Prop := fnExactSmoothSoundRow.holds Try.pinned (OpenSpec.ofChange fnExactSmoothSoundWrong)

/-- 'laws.FnExactThinSound': WHATEVER THE INPUT: true; the input reads as it did. -/
def fnExactThinSoundSpec : ChangeSpec := { name := "fnExactThinSound", fn := fun _ => fun
  | [d1, d2] => { results := [.lit (.bool true)], args := [d1, d2] }
  | _ => none }
def fnExactThinSoundRow : OpenClaim := { program := "ytpmjiabllmomjaa", sum := "8ac8c2f4c0e6440ec28e588b7748175869a386f0b3e440304eb8edfdf35a538c", func := "loop.example/g01279/laws.FnExactThinSound", spec := "fnExactThinSound", inPlace := ["math.Float64bits", "math.Float64frombits"], unfollowed := true, recurses := true, apart := false }
def FnExactThinSoundSaid : Prop := fnExactThinSoundRow.holds Try.pinned (OpenSpec.ofChange fnExactThinSoundSpec)

/-- ITS FALSE NEIGHBOUR: 'it returns false'. Refute it at one input. -/
def fnExactThinSoundWrong : ChangeSpec := { name := "fnExactThinSound", fn := fun _ => fun
  | [d1, d2] => { results := [.lit (.bool false)], args := [d1, d2] }
  | _ => none }
def FnExactThinSoundWrongFalsely : Prop := fnExactThinSoundRow.holds Try.pinned (OpenSpec.ofChange fnExactThinSoundWrong)

/-- 'laws.FnExactCentreOfPowers': WHATEVER THE INPUT: true; the input reads as it did. -/
def fnExactCentreOfPowersSpec : ChangeSpec := { name := "fnExactCentreOfPowers", fn := fun _ => fun
  | [d] => { results := [.lit (.bool true)], args := [d] }
  | _ => none }
def fnExactCentreOfPowersRow : OpenClaim := { program := "ytpmjiabllmomjaa", sum := "8ac8c2f4c0e6440ec28e588b7748175869a386f0b3e440304eb8edfdf35a538c", func := "loop.example/g01279/laws.FnExactCentreOfPowers", spec := "fnExactCentreOfPowers", inPlace := ["math.Float64bits", "math.Float64frombits"], unfollowed := true, recurses := true, apart := false }
def FnExactCentreOfPowersSaid : Prop := fnExactCentreOfPowersRow.holds Try.pinned (OpenSpec.ofChange fnExactCentreOfPowersSpec)

/-- ITS FALSE NEIGHBOUR: 'it returns false'. Refute it at one input. -/
def fnExactCentreOfPowersWrong : ChangeSpec := { name := "fnExactCentreOfPowers", fn := fun _ => fun
  | [d] => { results := [.lit (.bool false)], args := [d] }
  | _ => none }
def FnExactCentreOfPowersWrongFalsely : Prop := fnExactCentreOfPowersRow.holds Try.pinned (OpenSpec.ofChange fnExactCentreOfPowersWrong)

/-- 'laws.FnExactBandsOf': WHATEVER THE INPUT: true; the input reads as it did. -/
def fnExactBandsOfSpec : ChangeSpec := { name := "fnExactBandsOf", fn := fun _ => fun
  | [d1, d2] => { results := [.lit (.bool true)], args := [d1, d2] }
  | _ => none }
def fnExactBandsOfRow : OpenClaim := { program := "ytpmjiabllmomjaa", sum := "8ac8c2f4c0e6440ec28e588b7748175869a386f0b3e440304eb8edfdf35a538c", func := "loop.example/g01279/laws.FnExactBandsOf", spec := "fnExactBandsOf", inPlace := ["math.Float64bits", "math.Float64frombits"], unfollowed := true, recurses := true, apart := false }
def FnExactBandsOfSaid : Prop := fnExactBandsOfRow.holds Try.pinned (OpenSpec.ofChange fnExactBandsOfSpec)

/-- ITS FALSE NEIGHBOUR: 'it returns false'. Refute it at one input. -/
def fnExactBandsOfWrong : ChangeSpec := { name := "fnExactBandsOf", fn := fun _ => fun
  | [d1, d2] => { results := [.lit (.bool false)], args := [d1, d2] }
  | _ => none }
def FnExactBandsOfWrongFalsely : Prop := fnExactBandsOfRow.holds Try.pinned (OpenSpec.ofChange fnExactBandsOfWrong)

/-- 'laws.FnExactSelfSums': WHATEVER THE INPUT: true; the input reads as it did. -/
def fnExactSelfSumsSpec : ChangeSpec := { name := "fnExactSelfSums", fn := fun _ => fun
  | [d1, d2] => { results := [.lit (.bool true)], args := [d1, d2] }
  | _ => none }
def fnExactSelfSumsRow : OpenClaim := { program := "ytpmjiabllmomjaa", sum := "8ac8c2f4c0e6440ec28e588b7748175869a386f0b3e440304eb8edfdf35a538c", func := "loop.example/g01279/laws.FnExactSelfSums", spec := "fnExactSelfSums", inPlace := ["math.Float64bits", "math.Float64frombits"], unfollowed := true, recurses := true, apart := false }
def FnExactSelfSumsSaid : Prop := fnExactSelfSumsRow.holds Try.pinned (OpenSpec.ofChange fnExactSelfSumsSpec)

/-- ITS FALSE NEIGHBOUR: 'it returns false'. Refute it at one input. -/
def fnExactSelfSumsWrong : ChangeSpec := { name := "fnExactSelfSums", fn := fun _ => fun
  | [d1, d2] => { results := [.lit (.bool false)], args := [d1, d2] }
  | _ => none }
def FnExactSelfSumsWrongFalsely : Prop := fnExactSelfSumsRow.holds Try.pinned (OpenSpec.ofChange fnExactSelfSumsWrong)

/-- 'laws.FnExactPeriodOfSound': WHATEVER THE INPUT: true; the input reads as it did. -/
def fnExactPeriodOfSoundSpec : ChangeSpec := { name := "fnExactPeriodOfSound", fn := fun _ => fun
  | [d1, d2, d3] => { results := [.lit (.bool true)], args := [d1, d2, d3] }
  | _ => none }
def fnExactPeriodOfSoundRow : OpenClaim := { program := "ytpmjiabllmomjaa", sum := "8ac8c2f4c0e6440ec28e588b7748175869a386f0b3e440304eb8edfdf35a538c", func := "loop.example/g01279/laws.FnExactPeriodOfSound", spec := "fnExactPeriodOfSound", inPlace := ["math.Float64bits", "math.Float64frombits"], unfollowed := true, recurses := true, apart := false }
def FnExactPeriodOfSoundSaid : Prop := fnExactPeriodOfSoundRow.holds Try.pinned (OpenSpec.ofChange fnExactPeriodOfSoundSpec)

/-- ITS FALSE NEIGHBOUR: 'it returns false'. Refute it at one input. -/
def fnExactPeriodOfSoundWrong : ChangeSpec := { name := "fnExactPeriodOfSound", fn := fun _ => fun
  | [d1, d2, d3] => { results := [.lit (.bool false)], args := [d1, d2, d3] }
  | _ => none }
def FnExactPeriodOfSoundWrongFalsely : Prop := fnExactPeriodOfSoundRow.holds Try.pinned (OpenSpec.ofChange fnExactPeriodOfSoundWrong)

/-- 'laws.FnExactIsVoiced': WHATEVER THE INPUT: true; the input reads as it did. -/
def fnExactIsVoicedSpec : ChangeSpec := { name := "fnExactIsVoiced", fn := fun _ => fun
  | [d1, d2, d3, d4] => { results := [.lit (.bool true)], args := [d1, d2, d3, d4] }
  | _ => none }
def fnExactIsVoicedRow : OpenClaim := { program := "ytpmjiabllmomjaa", sum := "8ac8c2f4c0e6440ec28e588b7748175869a386f0b3e440304eb8edfdf35a538c", func := "loop.example/g01279/laws.FnExactIsVoiced", spec := "fnExactIsVoiced", inPlace := ["math.Float64bits", "math.Float64frombits"], unfollowed := true, recurses := true, apart := false }
def FnExactIsVoicedSaid : Prop := fnExactIsVoicedRow.holds Try.pinned (OpenSpec.ofChange fnExactIsVoicedSpec)

/-- ITS FALSE NEIGHBOUR: 'it returns false'. Refute it at one input. -/
def fnExactIsVoicedWrong : ChangeSpec := { name := "fnExactIsVoiced", fn := fun _ => fun
  | [d1, d2, d3, d4] => { results := [.lit (.bool false)], args := [d1, d2, d3, d4] }
  | _ => none }
def FnExactIsVoicedWrongFalsely : Prop := fnExactIsVoicedRow.holds Try.pinned (OpenSpec.ofChange fnExactIsVoicedWrong)

/-- 'laws.FnExactStretchSound': WHATEVER THE INPUT: true; the input reads as it did. -/
def fnExactStretchSoundSpec : ChangeSpec := { name := "fnExactStretchSound", fn := fun _ => fun
  | [d1, d2] => { results := [.lit (.bool true)], args := [d1, d2] }
  | _ => none }
def fnExactStretchSoundRow : OpenClaim := { program := "ytpmjiabllmomjaa", sum := "8ac8c2f4c0e6440ec28e588b7748175869a386f0b3e440304eb8edfdf35a538c", func := "loop.example/g01279/laws.FnExactStretchSound", spec := "fnExactStretchSound", inPlace := ["math.Float64bits", "math.Float64frombits"], unfollowed := true, recurses := true, apart := false }
def FnExactStretchSoundSaid : Prop := fnExactStretchSoundRow.holds Try.pinned (OpenSpec.ofChange fnExactStretchSoundSpec)

/-- ITS FALSE NEIGHBOUR: 'it returns false'. Refute it at one input. -/
def fnExactStretchSoundWrong : ChangeSpec := { name := "fnExactStretchSound", fn := fun _ => fun
  | [d1, d2] => { results := [.lit (.bool false)], args := [d1, d2] }
  | _ => none }
def FnExactStretchSoundWrongFalsely : Prop := fnExactStretchSoundRow.holds Try.pinned (OpenSpec.ofChange fnExactStretchSoundWrong)

/- THE SECOND FORM. 'bulk': how many values and letters a reading holds, each counted each time it is reached (what is shared counts as often as it is met; a slice's spare places count too). A statement '..UptoSaid' is the law's where the arguments, and the package variables that the reading takes, are together of bulk at most 1048576: NARROWER than '..Said'. Prove '..Said' where nothing that the law and all that it calls make is longer than what came in: it says more and counts as full. Else prove '..UptoSaid'. A law counts once. -/
mutual
def uptoBulk {H : Type} : DataW H → Nat
  | .lit (.string bytes) => bytes.length + 1
  | .lit _ => 1
  | .nil => 1
  | .ptr d => uptoBulk d + 1
  | .slice elems spare => uptoBulkAll elems + uptoBulkAll spare + 1
  | .agg parts => uptoBulkAll parts + 1
  | .iface _ d => uptoBulk d + 1
  | .map entries => uptoBulkEntries entries + 1
  | .held _ => 1
def uptoBulkAll {H : Type} : List (DataW H) → Nat
  | [] => 0
  | d :: r => uptoBulk d + uptoBulkAll r
def uptoBulkEntries {H : Type} : List (Lit × DataW H) → Nat
  | [] => 0
  | x :: r => uptoBulkEntry x + uptoBulkEntries r
def uptoBulkEntry {H : Type} : Lit × DataW H → Nat
  | (.string bytes, d) => bytes.length + uptoBulk d + 1
  | (_, d) => uptoBulk d + 1
 end
def uptoSmall : (H : Type) → List (DataW H) → Bool := fun _ ds => decide (uptoBulkAll ds ≤ 1048576)
def OpenSpec.upto (s : _root_.Go.ChangeSpec) : _root_.Go.OpenSpec := { _root_.Go.OpenSpec.ofChange s with cond := some uptoSmall }

/-- 'laws.FnExactWindowOf', WHERE WHAT IT READS IS OF BULK AT MOST 1048576: true; the input reads as it did. -/
def fnExactWindowOfUptoRow : OpenClaim := { program := "ytpmjiabllmomjaa", sum := "8ac8c2f4c0e6440ec28e588b7748175869a386f0b3e440304eb8edfdf35a538c", func := "loop.example/g01279/laws.FnExactWindowOf", spec := "fnExactWindowOf", inPlace := ["math.Float64frombits", "math.Float64bits", "math.Float32frombits"], unfollowed := true, recurses := true, apart := false, narrowed := true }
def FnExactWindowOfUptoSaid : Prop := fnExactWindowOfUptoRow.holds Try.pinned (OpenSpec.upto fnExactWindowOfSpec)

/-- 'laws.FnExactWindowSound', WHERE WHAT IT READS IS OF BULK AT MOST 1048576: true; the input reads as it did. -/
def fnExactWindowSoundUptoRow : OpenClaim := { program := "ytpmjiabllmomjaa", sum := "8ac8c2f4c0e6440ec28e588b7748175869a386f0b3e440304eb8edfdf35a538c", func := "loop.example/g01279/laws.FnExactWindowSound", spec := "fnExactWindowSound", inPlace := ["math.Float64bits", "math.Float64frombits"], unfollowed := true, recurses := true, apart := false, narrowed := true }
def FnExactWindowSoundUptoSaid : Prop := fnExactWindowSoundUptoRow.holds Try.pinned (OpenSpec.upto fnExactWindowSoundSpec)

/-- 'laws.FnExactCrossingsOf', WHERE WHAT IT READS IS OF BULK AT MOST 1048576: true; the input reads as it did. -/
def fnExactCrossingsOfUptoRow : OpenClaim := { program := "ytpmjiabllmomjaa", sum := "8ac8c2f4c0e6440ec28e588b7748175869a386f0b3e440304eb8edfdf35a538c", func := "loop.example/g01279/laws.FnExactCrossingsOf", spec := "fnExactCrossingsOf", inPlace := ["math.Float64bits", "math.Float64frombits"], apart := false, narrowed := true }
def FnExactCrossingsOfUptoSaid : Prop := fnExactCrossingsOfUptoRow.holds Try.pinned (OpenSpec.upto fnExactCrossingsOfSpec)

/-- 'laws.FnExactRoughSound', WHERE WHAT IT READS IS OF BULK AT MOST 1048576: true; the input reads as it did. -/
def fnExactRoughSoundUptoRow : OpenClaim := { program := "ytpmjiabllmomjaa", sum := "8ac8c2f4c0e6440ec28e588b7748175869a386f0b3e440304eb8edfdf35a538c", func := "loop.example/g01279/laws.FnExactRoughSound", spec := "fnExactRoughSound", inPlace := ["math.Float64bits", "math.Float64frombits"], apart := false, narrowed := true }
def FnExactRoughSoundUptoSaid : Prop := fnExactRoughSoundUptoRow.holds Try.pinned (OpenSpec.upto fnExactRoughSoundSpec)

/-- 'laws.FnExactSmoothSound', WHERE WHAT IT READS IS OF BULK AT MOST 1048576: true; the input reads as it did. -/
def fnExactSmoothSoundUptoRow : OpenClaim := { program := "ytpmjiabllmomjaa", sum := "8ac8c2f4c0e6440ec28e588b7748175869a386f0b3e440304eb8edfdf35a538c", func := "loop.example/g01279/laws.FnExactSmoothSound", spec := "fnExactSmoothSound", inPlace := ["math.Float64bits", "math.Float64frombits"], apart := false, narrowed := true }
def FnExactSmoothSoundUptoSaid : Prop := fnExactSmoothSoundUptoRow.holds Try.pinned (OpenSpec.upto fnExactSmoothSoundSpec)

/-- 'laws.FnExactThinSound', WHERE WHAT IT READS IS OF BULK AT MOST 1048576: true; the input reads as it did. -/
def fnExactThinSoundUptoRow : OpenClaim := { program := "ytpmjiabllmomjaa", sum := "8ac8c2f4c0e6440ec28e588b7748175869a386f0b3e440304eb8edfdf35a538c", func := "loop.example/g01279/laws.FnExactThinSound", spec := "fnExactThinSound", inPlace := ["math.Float64bits", "math.Float64frombits"], unfollowed := true, recurses := true, apart := false, narrowed := true }
def FnExactThinSoundUptoSaid : Prop := fnExactThinSoundUptoRow.holds Try.pinned (OpenSpec.upto fnExactThinSoundSpec)

/-- 'laws.FnExactCentreOfPowers', WHERE WHAT IT READS IS OF BULK AT MOST 1048576: true; the input reads as it did. -/
def fnExactCentreOfPowersUptoRow : OpenClaim := { program := "ytpmjiabllmomjaa", sum := "8ac8c2f4c0e6440ec28e588b7748175869a386f0b3e440304eb8edfdf35a538c", func := "loop.example/g01279/laws.FnExactCentreOfPowers", spec := "fnExactCentreOfPowers", inPlace := ["math.Float64bits", "math.Float64frombits"], unfollowed := true, recurses := true, apart := false, narrowed := true }
def FnExactCentreOfPowersUptoSaid : Prop := fnExactCentreOfPowersUptoRow.holds Try.pinned (OpenSpec.upto fnExactCentreOfPowersSpec)

/-- 'laws.FnExactBandsOf', WHERE WHAT IT READS IS OF BULK AT MOST 1048576: true; the input reads as it did. -/
def fnExactBandsOfUptoRow : OpenClaim := { program := "ytpmjiabllmomjaa", sum := "8ac8c2f4c0e6440ec28e588b7748175869a386f0b3e440304eb8edfdf35a538c", func := "loop.example/g01279/laws.FnExactBandsOf", spec := "fnExactBandsOf", inPlace := ["math.Float64bits", "math.Float64frombits"], unfollowed := true, recurses := true, apart := false, narrowed := true }
def FnExactBandsOfUptoSaid : Prop := fnExactBandsOfUptoRow.holds Try.pinned (OpenSpec.upto fnExactBandsOfSpec)

/-- 'laws.FnExactSelfSums', WHERE WHAT IT READS IS OF BULK AT MOST 1048576: true; the input reads as it did. -/
def fnExactSelfSumsUptoRow : OpenClaim := { program := "ytpmjiabllmomjaa", sum := "8ac8c2f4c0e6440ec28e588b7748175869a386f0b3e440304eb8edfdf35a538c", func := "loop.example/g01279/laws.FnExactSelfSums", spec := "fnExactSelfSums", inPlace := ["math.Float64bits", "math.Float64frombits"], unfollowed := true, recurses := true, apart := false, narrowed := true }
def FnExactSelfSumsUptoSaid : Prop := fnExactSelfSumsUptoRow.holds Try.pinned (OpenSpec.upto fnExactSelfSumsSpec)

/-- 'laws.FnExactPeriodOfSound', WHERE WHAT IT READS IS OF BULK AT MOST 1048576: true; the input reads as it did. -/
def fnExactPeriodOfSoundUptoRow : OpenClaim := { program := "ytpmjiabllmomjaa", sum := "8ac8c2f4c0e6440ec28e588b7748175869a386f0b3e440304eb8edfdf35a538c", func := "loop.example/g01279/laws.FnExactPeriodOfSound", spec := "fnExactPeriodOfSound", inPlace := ["math.Float64bits", "math.Float64frombits"], unfollowed := true, recurses := true, apart := false, narrowed := true }
def FnExactPeriodOfSoundUptoSaid : Prop := fnExactPeriodOfSoundUptoRow.holds Try.pinned (OpenSpec.upto fnExactPeriodOfSoundSpec)

/-- 'laws.FnExactIsVoiced', WHERE WHAT IT READS IS OF BULK AT MOST 1048576: true; the input reads as it did. -/
def fnExactIsVoicedUptoRow : OpenClaim := { program := "ytpmjiabllmomjaa", sum := "8ac8c2f4c0e6440ec28e588b7748175869a386f0b3e440304eb8edfdf35a538c", func := "loop.example/g01279/laws.FnExactIsVoiced", spec := "fnExactIsVoiced", inPlace := ["math.Float64bits", "math.Float64frombits"], unfollowed := true, recurses := true, apart := false, narrowed := true }
def FnExactIsVoicedUptoSaid : Prop := fnExactIsVoicedUptoRow.holds Try.pinned (OpenSpec.upto fnExactIsVoicedSpec)

/-- 'laws.FnExactStretchSound', WHERE WHAT IT READS IS OF BULK AT MOST 1048576: true; the input reads as it did. -/
def fnExactStretchSoundUptoRow : OpenClaim := { program := "ytpmjiabllmomjaa", sum := "8ac8c2f4c0e6440ec28e588b7748175869a386f0b3e440304eb8edfdf35a538c", func := "loop.example/g01279/laws.FnExactStretchSound", spec := "fnExactStretchSound", inPlace := ["math.Float64bits", "math.Float64frombits"], unfollowed := true, recurses := true, apart := false, narrowed := true }
def FnExactStretchSoundUptoSaid : Prop := fnExactStretchSoundUptoRow.holds Try.pinned (OpenSpec.upto fnExactStretchSoundSpec)

end Rows
end Go.Proofs.Ytpmjiabllmomjaa

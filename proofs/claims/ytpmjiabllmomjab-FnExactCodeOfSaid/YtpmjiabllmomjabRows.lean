/-
  No cell of these rows narrows 'for every input' (looked for: loops, veiled, ifaces, maps, wideKeys, modest, calm, conditions, laid).
  DERIVED. THE GIVEN ROWS OF THIS SEAT. 10 by the template 'for every input the law returns true; each argument reads behind the call as it read before'; 0 by the template 'total and deterministic' (their statements: YtpmjiabllmomjabTotals.lean).
  GIVEN WITH THE SEED: the statements are not yours to turn. If you find one false, say at which input.
  Laid BY PROGRAM, IN A SANDBOX (cutbox-rows.mjs): the forced cells as the released guide's own fill.sh prints them over the translation 860e61b5fdfee196… (all of the seat's roots in one cut). By AI agents, Wed Nov 11 2026. No macro, syntax, notation, axiom, sorry.
-/
import Derived.Test.YtpmjiabllmomjabChecked
import GoSem.Claim
import GoSem.ClaimJoined
import GoSem.ClaimMapViews
import Derived.JoinedTies
import Derived.KernelRfl
namespace Go.Proofs.Ytpmjiabllmomjab
/- THE CELL 'sum', in the pinned program and in every row, IS THE sha256 OF THE DUMP (.gsa) THAT YtpmjiabllmomjabProg.lean LOADS. Nothing in Lean hashes anything: it is a label: what it is worth is what the hold of that sum in a sandbox is worth. -/
noncomputable def Try.pinned : Pinned := { name := "ytpmjiabllmomjab", sum := "860e61b5fdfee196a24b5e051446a77f9cd2b93c1961f79b732c92a9e800fe48", checked := Try.checked }
namespace Rows
def none {H : Type} : Left H := { results := [], args := [] }

/-- 'laws.FnExactCodeOf': WHATEVER THE INPUT: true; the input reads as it did. -/
def fnExactCodeOfSpec : ChangeSpec := { name := "fnExactCodeOf", fn := fun _ => fun
  | [d] => { results := [.lit (.bool true)], args := [d] }
  | _ => none }
def fnExactCodeOfRow : OpenClaim := { program := "ytpmjiabllmomjab", sum := "860e61b5fdfee196a24b5e051446a77f9cd2b93c1961f79b732c92a9e800fe48", func := "loop.example/g01279/laws.FnExactCodeOf", spec := "fnExactCodeOf", inPlace := ["math.Float64frombits", "math.Float64bits", "math.RoundToEven", "math.Float32frombits"], apart := false }
def FnExactCodeOfSaid : Prop := fnExactCodeOfRow.holds Try.pinned (OpenSpec.ofChange fnExactCodeOfSpec)

/-- ITS FALSE NEIGHBOUR: 'it returns false'. Refute it at one input. -/
def fnExactCodeOfWrong : ChangeSpec := { name := "fnExactCodeOf", fn := fun _ => fun
  | [d] => { results := [.lit (.bool false)], args := [d] }
  | _ => none }
def FnExactCodeOfWrongFalsely : Prop := fnExactCodeOfRow.holds Try.pinned (OpenSpec.ofChange fnExactCodeOfWrong)

/-- 'laws.FnExactFromCode': WHATEVER THE INPUT: true; the input reads as it did. -/
def fnExactFromCodeSpec : ChangeSpec := { name := "fnExactFromCode", fn := fun _ => fun
  | [d] => { results := [.lit (.bool true)], args := [d] }
  | _ => none }
def fnExactFromCodeRow : OpenClaim := { program := "ytpmjiabllmomjab", sum := "860e61b5fdfee196a24b5e051446a77f9cd2b93c1961f79b732c92a9e800fe48", func := "loop.example/g01279/laws.FnExactFromCode", spec := "fnExactFromCode", inPlace := ["math.Float64frombits", "math.Float32frombits"], apart := false }
def FnExactFromCodeSaid : Prop := fnExactFromCodeRow.holds Try.pinned (OpenSpec.ofChange fnExactFromCodeSpec)

/-- ITS FALSE NEIGHBOUR: 'it returns false'. Refute it at one input. -/
def fnExactFromCodeWrong : ChangeSpec := { name := "fnExactFromCode", fn := fun _ => fun
  | [d] => { results := [.lit (.bool false)], args := [d] }
  | _ => none }
def FnExactFromCodeWrongFalsely : Prop := fnExactFromCodeRow.holds Try.pinned (OpenSpec.ofChange fnExactFromCodeWrong)

/-- 'laws.FnExactCodeSound': WHATEVER THE INPUT: true; the input reads as it did. -/
def fnExactCodeSoundSpec : ChangeSpec := { name := "fnExactCodeSound", fn := fun _ => fun
  | [d] => { results := [.lit (.bool true)], args := [d] }
  | _ => none }
def fnExactCodeSoundRow : OpenClaim := { program := "ytpmjiabllmomjab", sum := "860e61b5fdfee196a24b5e051446a77f9cd2b93c1961f79b732c92a9e800fe48", func := "loop.example/g01279/laws.FnExactCodeSound", spec := "fnExactCodeSound", inPlace := ["math.Float64frombits", "math.Float64bits", "math.RoundToEven", "math.Float32frombits"], apart := false }
def FnExactCodeSoundSaid : Prop := fnExactCodeSoundRow.holds Try.pinned (OpenSpec.ofChange fnExactCodeSoundSpec)

/-- ITS FALSE NEIGHBOUR: 'it returns false'. Refute it at one input. -/
def fnExactCodeSoundWrong : ChangeSpec := { name := "fnExactCodeSound", fn := fun _ => fun
  | [d] => { results := [.lit (.bool false)], args := [d] }
  | _ => none }
def FnExactCodeSoundWrongFalsely : Prop := fnExactCodeSoundRow.holds Try.pinned (OpenSpec.ofChange fnExactCodeSoundWrong)

/-- 'laws.FnExactFromCodes': WHATEVER THE INPUT: true; the input reads as it did. -/
def fnExactFromCodesSpec : ChangeSpec := { name := "fnExactFromCodes", fn := fun _ => fun
  | [d] => { results := [.lit (.bool true)], args := [d] }
  | _ => none }
def fnExactFromCodesRow : OpenClaim := { program := "ytpmjiabllmomjab", sum := "860e61b5fdfee196a24b5e051446a77f9cd2b93c1961f79b732c92a9e800fe48", func := "loop.example/g01279/laws.FnExactFromCodes", spec := "fnExactFromCodes", inPlace := ["math.Float64frombits", "math.Float32frombits", "math.Float64bits"], unfollowed := true, recurses := true, leaving := true, apart := false }
def FnExactFromCodesSaid : Prop := fnExactFromCodesRow.holds Try.pinned (OpenSpec.ofChange fnExactFromCodesSpec)

/-- ITS FALSE NEIGHBOUR: 'it returns false'. Refute it at one input. -/
def fnExactFromCodesWrong : ChangeSpec := { name := "fnExactFromCodes", fn := fun _ => fun
  | [d] => { results := [.lit (.bool false)], args := [d] }
  | _ => none }
def FnExactFromCodesWrongFalsely : Prop := fnExactFromCodesRow.holds Try.pinned (OpenSpec.ofChange fnExactFromCodesWrong)

/-- 'laws.FnExactWorstCoded': WHATEVER THE INPUT: true; the input reads as it did. -/
def fnExactWorstCodedSpec : ChangeSpec := { name := "fnExactWorstCoded", fn := fun _ => fun
  | [d] => { results := [.lit (.bool true)], args := [d] }
  | _ => none }
def fnExactWorstCodedRow : OpenClaim := { program := "ytpmjiabllmomjab", sum := "860e61b5fdfee196a24b5e051446a77f9cd2b93c1961f79b732c92a9e800fe48", func := "loop.example/g01279/laws.FnExactWorstCoded", spec := "fnExactWorstCoded", inPlace := ["math.Float64frombits", "math.Float64bits", "math.RoundToEven", "math.Float32frombits"], unfollowed := true, recurses := true, leaving := true, apart := false }
def FnExactWorstCodedSaid : Prop := fnExactWorstCodedRow.holds Try.pinned (OpenSpec.ofChange fnExactWorstCodedSpec)

/-- ITS FALSE NEIGHBOUR: 'it returns false'. Refute it at one input. -/
def fnExactWorstCodedWrong : ChangeSpec := { name := "fnExactWorstCoded", fn := fun _ => fun
  | [d] => { results := [.lit (.bool false)], args := [d] }
  | _ => none }
def FnExactWorstCodedWrongFalsely : Prop := fnExactWorstCodedRow.holds Try.pinned (OpenSpec.ofChange fnExactWorstCodedWrong)

/-- 'laws.FnExactJoinFrames': WHATEVER THE INPUT: true; the input reads as it did. -/
def fnExactJoinFramesSpec : ChangeSpec := { name := "fnExactJoinFrames", fn := fun _ => fun
  | [d1, d2] => { results := [.lit (.bool true)], args := [d1, d2] }
  | _ => none }
def fnExactJoinFramesRow : OpenClaim := { program := "ytpmjiabllmomjab", sum := "860e61b5fdfee196a24b5e051446a77f9cd2b93c1961f79b732c92a9e800fe48", func := "loop.example/g01279/laws.FnExactJoinFrames", spec := "fnExactJoinFrames", inPlace := ["math.Float64bits", "math.Float64frombits"], apart := false }
def FnExactJoinFramesSaid : Prop := fnExactJoinFramesRow.holds Try.pinned (OpenSpec.ofChange fnExactJoinFramesSpec)

/-- ITS FALSE NEIGHBOUR: 'it returns false'. Refute it at one input. -/
def fnExactJoinFramesWrong : ChangeSpec := { name := "fnExactJoinFrames", fn := fun _ => fun
  | [d1, d2] => { results := [.lit (.bool false)], args := [d1, d2] }
  | _ => none }
def FnExactJoinFramesWrongFalsely : Prop := fnExactJoinFramesRow.holds Try.pinned (OpenSpec.ofChange fnExactJoinFramesWrong)

/-- 'laws.FnExactFramesOf': WHATEVER THE INPUT: true; the input reads as it did. -/
def fnExactFramesOfSpec : ChangeSpec := { name := "fnExactFramesOf", fn := fun _ => fun
  | [d1, d2, d3] => { results := [.lit (.bool true)], args := [d1, d2, d3] }
  | _ => none }
def fnExactFramesOfRow : OpenClaim := { program := "ytpmjiabllmomjab", sum := "860e61b5fdfee196a24b5e051446a77f9cd2b93c1961f79b732c92a9e800fe48", func := "loop.example/g01279/laws.FnExactFramesOf", spec := "fnExactFramesOf", inPlace := ["math.Float64bits", "math.Float64frombits"], unfollowed := true, recurses := true, leaving := true, apart := false }
def FnExactFramesOfSaid : Prop := fnExactFramesOfRow.holds Try.pinned (OpenSpec.ofChange fnExactFramesOfSpec)

/-- ITS FALSE NEIGHBOUR: 'it returns false'. Refute it at one input. -/
def fnExactFramesOfWrong : ChangeSpec := { name := "fnExactFramesOf", fn := fun _ => fun
  | [d1, d2, d3] => { results := [.lit (.bool false)], args := [d1, d2, d3] }
  | _ => none }
def FnExactFramesOfWrongFalsely : Prop := fnExactFramesOfRow.holds Try.pinned (OpenSpec.ofChange fnExactFramesOfWrong)

/-- 'laws.FnExactLoudFrames': WHATEVER THE INPUT: true; the input reads as it did. -/
def fnExactLoudFramesSpec : ChangeSpec := { name := "fnExactLoudFrames", fn := fun _ => fun
  | [d1, d2, d3] => { results := [.lit (.bool true)], args := [d1, d2, d3] }
  | _ => none }
def fnExactLoudFramesRow : OpenClaim := { program := "ytpmjiabllmomjab", sum := "860e61b5fdfee196a24b5e051446a77f9cd2b93c1961f79b732c92a9e800fe48", func := "loop.example/g01279/laws.FnExactLoudFrames", spec := "fnExactLoudFrames", inPlace := ["math.sqrt", "math.Float64bits", "math.Float64frombits"], unfollowed := true, recurses := true, leaving := true, apart := false }
def FnExactLoudFramesSaid : Prop := fnExactLoudFramesRow.holds Try.pinned (OpenSpec.ofChange fnExactLoudFramesSpec)

/-- ITS FALSE NEIGHBOUR: 'it returns false'. Refute it at one input. -/
def fnExactLoudFramesWrong : ChangeSpec := { name := "fnExactLoudFrames", fn := fun _ => fun
  | [d1, d2, d3] => { results := [.lit (.bool false)], args := [d1, d2, d3] }
  | _ => none }
def FnExactLoudFramesWrongFalsely : Prop := fnExactLoudFramesRow.holds Try.pinned (OpenSpec.ofChange fnExactLoudFramesWrong)

/-- 'laws.FnExactSpectrumOf': WHATEVER THE INPUT: true; the input reads as it did. -/
def fnExactSpectrumOfSpec : ChangeSpec := { name := "fnExactSpectrumOf", fn := fun _ => fun
  | [d1, d2] => { results := [.lit (.bool true)], args := [d1, d2] }
  | _ => none }
def fnExactSpectrumOfRow : OpenClaim := { program := "ytpmjiabllmomjab", sum := "860e61b5fdfee196a24b5e051446a77f9cd2b93c1961f79b732c92a9e800fe48", func := "loop.example/g01279/laws.FnExactSpectrumOf", spec := "fnExactSpectrumOf", inPlace := ["math.Float32frombits", "math.Float64frombits", "math.Float64bits"], unfollowed := true, recurses := true, leaving := true, apart := false }
def FnExactSpectrumOfSaid : Prop := fnExactSpectrumOfRow.holds Try.pinned (OpenSpec.ofChange fnExactSpectrumOfSpec)

/-- ITS FALSE NEIGHBOUR: 'it returns false'. Refute it at one input. -/
def fnExactSpectrumOfWrong : ChangeSpec := { name := "fnExactSpectrumOf", fn := fun _ => fun
  | [d1, d2] => { results := [.lit (.bool false)], args := [d1, d2] }
  | _ => none }
def FnExactSpectrumOfWrongFalsely : Prop := fnExactSpectrumOfRow.holds Try.pinned (OpenSpec.ofChange fnExactSpectrumOfWrong)

/-- 'laws.FnWindows': WHATEVER THE INPUT: true; the input reads as it did. -/
def fnWindowsSpec : ChangeSpec := { name := "fnWindows", fn := fun _ => fun
  | [d1, d2] => { results := [.lit (.bool true)], args := [d1, d2] }
  | _ => none }
def fnWindowsRow : OpenClaim := { program := "ytpmjiabllmomjab", sum := "860e61b5fdfee196a24b5e051446a77f9cd2b93c1961f79b732c92a9e800fe48", func := "loop.example/g01279/laws.FnWindows", spec := "fnWindows", inPlace := ["math.Float64bits", "math.Float64frombits", "math.Float32frombits"], unfollowed := true, recurses := true, leaving := true, apart := false }
def FnWindowsSaid : Prop := fnWindowsRow.holds Try.pinned (OpenSpec.ofChange fnWindowsSpec)

/-- ITS FALSE NEIGHBOUR: 'it returns false'. Refute it at one input. -/
def fnWindowsWrong : ChangeSpec := { name := "fnWindows", fn := fun _ => fun
  | [d1, d2] => { results := [.lit (.bool false)], args := [d1, d2] }
  | _ => none }
def FnWindowsWrongFalsely : Prop := fnWindowsRow.holds Try.pinned (OpenSpec.ofChange fnWindowsWrong)

/- THE SECOND FORM. 'bulk': how many values and letters a reading holds, each counted each time it is reached (what is shared counts as often as it is met; a slice's spare places count too). A statement '..UptoSaid' is the law's where the arguments, and the package variables that the reading takes, are together of bulk at most 1048576: NARROWER than '..Said'. Prove '..Said' where nothing that the law and all that it calls make is longer than what came in: it says more and counts as full. Else prove '..UptoSaid'. A law counts once. -/
mutual
def uptoBulk {H : Type} : DataW H → Nat
  | .lit (.string bytes) => bytes.length + 1
  | .lit _ => 1
  | .nil => 1
  | .ptr d => uptoBulk d + 1
  | .slice elems spare => uptoBulkAll elems + uptoBulkAll spare + 1
  | .agg parts => uptoBulkAll parts + 1
  | .iface _ d => uptoBulk d + 1
  | .map entries => uptoBulkEntries entries + 1
  | .held _ => 1
def uptoBulkAll {H : Type} : List (DataW H) → Nat
  | [] => 0
  | d :: r => uptoBulk d + uptoBulkAll r
def uptoBulkEntries {H : Type} : List (Lit × DataW H) → Nat
  | [] => 0
  | x :: r => uptoBulkEntry x + uptoBulkEntries r
def uptoBulkEntry {H : Type} : Lit × DataW H → Nat
  | (.string bytes, d) => bytes.length + uptoBulk d + 1
  | (_, d) => uptoBulk d + 1
 end
def uptoSmall : (H : Type) → List (DataW H) → Bool := fun _ ds => decide (uptoBulkAll ds ≤ 1048576)
def OpenSpec.upto (s : _root_.Go.ChangeSpec) : _root_.Go.OpenSpec := { _root_.Go.OpenSpec.ofChange s with cond := some uptoSmall }

/-- 'laws.FnExactCodeOf', WHERE WHAT IT READS IS OF BULK AT MOST 1048576: true; the input reads as it did. -/
def fnExactCodeOfUptoRow : OpenClaim := { program := "ytpmjiabllmomjab", sum := "860e61b5fdfee196a24b5e051446a77f9cd2b93c1961f79b732c92a9e800fe48", func := "loop.example/g01279/laws.FnExactCodeOf", spec := "fnExactCodeOf", inPlace := ["math.Float64frombits", "math.Float64bits", "math.RoundToEven", "math.Float32frombits"], apart := false, narrowed := true }
def FnExactCodeOfUptoSaid : Prop := fnExactCodeOfUptoRow.holds Try.pinned (OpenSpec.upto fnExactCodeOfSpec)

/-- 'laws.FnExactFromCode', WHERE WHAT IT READS IS OF BULK AT MOST 1048576: true; the input reads as it did. -/
def fnExactFromCodeUptoRow : OpenClaim := { program := "ytpmjiabllmomjab", sum := "860e61b5fdfee196a24b5e051446a77f9cd2b93c1961f79b732c92a9e800fe48", func := "loop.example/g01279/laws.FnExactFromCode", spec := "fnExactFromCode", inPlace := ["math.Float64frombits", "math.Float32frombits"], apart := false, narrowed := true }
def FnExactFromCodeUptoSaid : Prop := fnExactFromCodeUptoRow.holds Try.pinned (OpenSpec.upto fnExactFromCodeSpec)

/-- 'laws.FnExactCodeSound', WHERE WHAT IT READS IS OF BULK AT MOST 1048576: true; the input reads as it did. -/
def fnExactCodeSoundUptoRow : OpenClaim := { program := "ytpmjiabllmomjab", sum := "860e61b5fdfee196a24b5e051446a77f9cd2b93c1961f79b732c92a9e800fe48", func := "loop.example/g01279/laws.FnExactCodeSound", spec := "fnExactCodeSound", inPlace := ["math.Float64frombits", "math.Float64bits", "math.RoundToEven", "math.Float32frombits"], apart := false, narrowed := true }
def FnExactCodeSoundUptoSaid : Prop := fnExactCodeSoundUptoRow.holds Try.pinned (OpenSpec.upto fnExactCodeSoundSpec)

/-- 'laws.FnExactFromCodes', WHERE WHAT IT READS IS OF BULK AT MOST 1048576: true; the input reads as it did. -/
def fnExactFromCodesUptoRow : OpenClaim := { program := "ytpmjiabllmomjab", sum := "860e61b5fdfee196a24b5e051446a77f9cd2b93c1961f79b732c92a9e800fe48", func := "loop.example/g01279/laws.FnExactFromCodes", spec := "fnExactFromCodes", inPlace := ["math.Float64frombits", "math.Float32frombits", "math.Float64bits"], unfollowed := true, recurses := true, leaving := true, apart := false, narrowed := true }
def FnExactFromCodesUptoSaid : Prop := fnExactFromCodesUptoRow.holds Try.pinned (OpenSpec.upto fnExactFromCodesSpec)

/-- 'laws.FnExactWorstCoded', WHERE WHAT IT READS IS OF BULK AT MOST 1048576: true; the input reads as it did. -/
def fnExactWorstCodedUptoRow : OpenClaim := { program := "ytpmjiabllmomjab", sum := "860e61b5fdfee196a24b5e051446a77f9cd2b93c1961f79b732c92a9e800fe48", func := "loop.example/g01279/laws.FnExactWorstCoded", spec := "fnExactWorstCoded", inPlace := ["math.Float64frombits", "math.Float64bits", "math.RoundToEven", "math.Float32frombits"], unfollowed := true, recurses := true, leaving := true, apart := false, narrowed := true }
def FnExactWorstCodedUptoSaid : Prop := fnExactWorstCodedUptoRow.holds Try.pinned (OpenSpec.upto fnExactWorstCodedSpec)

/-- 'laws.FnExactJoinFrames', WHERE WHAT IT READS IS OF BULK AT MOST 1048576: true; the input reads as it did. -/
def fnExactJoinFramesUptoRow : OpenClaim := { program := "ytpmjiabllmomjab", sum := "860e61b5fdfee196a24b5e051446a77f9cd2b93c1961f79b732c92a9e800fe48", func := "loop.example/g01279/laws.FnExactJoinFrames", spec := "fnExactJoinFrames", inPlace := ["math.Float64bits", "math.Float64frombits"], apart := false, narrowed := true }
def FnExactJoinFramesUptoSaid : Prop := fnExactJoinFramesUptoRow.holds Try.pinned (OpenSpec.upto fnExactJoinFramesSpec)

/-- 'laws.FnExactFramesOf', WHERE WHAT IT READS IS OF BULK AT MOST 1048576: true; the input reads as it did. -/
def fnExactFramesOfUptoRow : OpenClaim := { program := "ytpmjiabllmomjab", sum := "860e61b5fdfee196a24b5e051446a77f9cd2b93c1961f79b732c92a9e800fe48", func := "loop.example/g01279/laws.FnExactFramesOf", spec := "fnExactFramesOf", inPlace := ["math.Float64bits", "math.Float64frombits"], unfollowed := true, recurses := true, leaving := true, apart := false, narrowed := true }
def FnExactFramesOfUptoSaid : Prop := fnExactFramesOfUptoRow.holds Try.pinned (OpenSpec.upto fnExactFramesOfSpec)

/-- 'laws.FnExactLoudFrames', WHERE WHAT IT READS IS OF BULK AT MOST 1048576: true; the input reads as it did. -/
def fnExactLoudFramesUptoRow : OpenClaim := { program := "ytpmjiabllmomjab", sum := "860e61b5fdfee196a24b5e051446a77f9cd2b93c1961f79b732c92a9e800fe48", func := "loop.example/g01279/laws.FnExactLoudFrames", spec := "fnExactLoudFrames", inPlace := ["math.sqrt", "math.Float64bits", "math.Float64frombits"], unfollowed := true, recurses := true, leaving := true, apart := false, narrowed := true }
def FnExactLoudFramesUptoSaid : Prop := fnExactLoudFramesUptoRow.holds Try.pinned (OpenSpec.upto fnExactLoudFramesSpec)

/-- 'laws.FnExactSpectrumOf', WHERE WHAT IT READS IS OF BULK AT MOST 1048576: true; the input reads as it did. -/
def fnExactSpectrumOfUptoRow : OpenClaim := { program := "ytpmjiabllmomjab", sum := "860e61b5fdfee196a24b5e051446a77f9cd2b93c1961f79b732c92a9e800fe48", func := "loop.example/g01279/laws.FnExactSpectrumOf", spec := "fnExactSpectrumOf", inPlace := ["math.Float32frombits", "math.Float64frombits", "math.Float64bits"], unfollowed := true, recurses := true, leaving := true, apart := false, narrowed := true }
def FnExactSpectrumOfUptoSaid : Prop := fnExactSpectrumOfUptoRow.holds Try.pinned (OpenSpec.upto fnExactSpectrumOfSpec)

/-- 'laws.FnWindows', WHERE WHAT IT READS IS OF BULK AT MOST 1048576: true; the input reads as it did. -/
def fnWindowsUptoRow : OpenClaim := { program := "ytpmjiabllmomjab", sum := "860e61b5fdfee196a24b5e051446a77f9cd2b93c1961f79b732c92a9e800fe48", func := "loop.example/g01279/laws.FnWindows", spec := "fnWindows", inPlace := ["math.Float64bits", "math.Float64frombits", "math.Float32frombits"], unfollowed := true, recurses := true, leaving := true, apart := false, narrowed := true }
def FnWindowsUptoSaid : Prop := fnWindowsUptoRow.holds Try.pinned (OpenSpec.upto fnWindowsSpec)

end Rows
end Go.Proofs.Ytpmjiabllmomjab

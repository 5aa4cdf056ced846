/-
  No cell of these rows narrows 'for every input' (looked for: loops, veiled, ifaces, maps, wideKeys, modest, calm, conditions, laid).
  DERIVED. THE GIVEN ROWS OF THIS SEAT. 12 by the template 'for every input the law returns true; each argument reads behind the call as it read before'; 0 by the template 'total and deterministic' (their statements: YtkmgkcbbbaioiaaTotals.lean).
  GIVEN WITH THE SEED: the statements are not yours to turn. If you find one false, say at which input.
  Laid BY PROGRAM, IN A SANDBOX (cutbox-rows.mjs): the forced cells as the released guide's own fill.sh prints them over the translation 7e0b4c82cf4e15e7… (all of the seat's roots in one cut). By AI agents, Wed Nov 11 2026. No macro, syntax, notation, axiom, sorry.
-/
import Derived.Test.YtkmgkcbbbaioiaaChecked
import GoSem.Claim
import GoSem.ClaimJoined
import GoSem.ClaimMapViews
import Derived.JoinedTies
import Derived.KernelRfl
namespace Go.Proofs.Ytkmgkcbbbaioiaa
/- THE CELL 'sum', in the pinned program and in every row, IS THE sha256 OF THE DUMP (.gsa) THAT YtkmgkcbbbaioiaaProg.lean LOADS. Nothing in Lean hashes anything: it is a label: what it is worth is what the hold of that sum in a sandbox is worth. -/
noncomputable def Try.pinned : Pinned := { name := "ytkmgkcbbbaioiaa", sum := "7e0b4c82cf4e15e7e61d64d4bbb2d205148eaf1e02a8bc72293c3c33aabfb0cd", checked := Try.checked }
namespace Rows
def none {H : Type} : Left H := { results := [], args := [] }

/-- 'laws.FnExactValidThroat': WHATEVER THE INPUT: true; the input reads as it did. -/
def fnExactValidThroatSpec : ChangeSpec := { name := "fnExactValidThroat", fn := fun _ => fun
  | [d] => { results := [.lit (.bool true)], args := [d] }
  | _ => none }
def fnExactValidThroatRow : OpenClaim := { program := "ytkmgkcbbbaioiaa", sum := "7e0b4c82cf4e15e7e61d64d4bbb2d205148eaf1e02a8bc72293c3c33aabfb0cd", func := "loop.example/g01279/laws.FnExactValidThroat", spec := "fnExactValidThroat", inPlace := ["math.Float64bits", "math.Float64frombits"], apart := false }
def FnExactValidThroatSaid : Prop := fnExactValidThroatRow.holds Try.pinned (OpenSpec.ofChange fnExactValidThroatSpec)

/-- ITS FALSE NEIGHBOUR: 'it returns false'. Refute it at one input. -/
def fnExactValidThroatWrong : ChangeSpec := { name := "fnExactValidThroat", fn := fun _ => fun
  | [d] => { results := [.lit (.bool false)], args := [d] }
  | _ => none }
def FnExactValidThroatWrongFalsely : Prop := fnExactValidThroatRow.holds Try.pinned (OpenSpec.ofChange fnExactValidThroatWrong)

/-- 'laws.FnExactSameThroat': WHATEVER THE INPUT: true; the input reads as it did. -/
def fnExactSameThroatSpec : ChangeSpec := { name := "fnExactSameThroat", fn := fun _ => fun
  | [d1, d2] => { results := [.lit (.bool true)], args := [d1, d2] }
  | _ => none }
def fnExactSameThroatRow : OpenClaim := { program := "ytkmgkcbbbaioiaa", sum := "7e0b4c82cf4e15e7e61d64d4bbb2d205148eaf1e02a8bc72293c3c33aabfb0cd", func := "loop.example/g01279/laws.FnExactSameThroat", spec := "fnExactSameThroat", inPlace := ["math.Float32bits"], apart := false }
def FnExactSameThroatSaid : Prop := fnExactSameThroatRow.holds Try.pinned (OpenSpec.ofChange fnExactSameThroatSpec)

/-- ITS FALSE NEIGHBOUR: 'it returns false'. Refute it at one input. -/
def fnExactSameThroatWrong : ChangeSpec := { name := "fnExactSameThroat", fn := fun _ => fun
  | [d1, d2] => { results := [.lit (.bool false)], args := [d1, d2] }
  | _ => none }
def FnExactSameThroatWrongFalsely : Prop := fnExactSameThroatRow.holds Try.pinned (OpenSpec.ofChange fnExactSameThroatWrong)

/-- 'laws.FnExactNewVoice': WHATEVER THE INPUT: true; the input reads as it did. -/
def fnExactNewVoiceSpec : ChangeSpec := { name := "fnExactNewVoice", fn := fun _ => fun
  | [d1, d2] => { results := [.lit (.bool true)], args := [d1, d2] }
  | _ => none }
def fnExactNewVoiceRow : OpenClaim := { program := "ytkmgkcbbbaioiaa", sum := "7e0b4c82cf4e15e7e61d64d4bbb2d205148eaf1e02a8bc72293c3c33aabfb0cd", func := "loop.example/g01279/laws.FnExactNewVoice", spec := "fnExactNewVoice", inPlace := ["math.Float64bits", "math.Float64frombits"], apart := false }
def FnExactNewVoiceSaid : Prop := fnExactNewVoiceRow.holds Try.pinned (OpenSpec.ofChange fnExactNewVoiceSpec)

/-- ITS FALSE NEIGHBOUR: 'it returns false'. Refute it at one input. -/
def fnExactNewVoiceWrong : ChangeSpec := { name := "fnExactNewVoice", fn := fun _ => fun
  | [d1, d2] => { results := [.lit (.bool false)], args := [d1, d2] }
  | _ => none }
def FnExactNewVoiceWrongFalsely : Prop := fnExactNewVoiceRow.holds Try.pinned (OpenSpec.ofChange fnExactNewVoiceWrong)

/-- 'laws.FnExactValidVoice': WHATEVER THE INPUT: true; the input reads as it did. -/
def fnExactValidVoiceSpec : ChangeSpec := { name := "fnExactValidVoice", fn := fun _ => fun
  | [d] => { results := [.lit (.bool true)], args := [d] }
  | _ => none }
def fnExactValidVoiceRow : OpenClaim := { program := "ytkmgkcbbbaioiaa", sum := "7e0b4c82cf4e15e7e61d64d4bbb2d205148eaf1e02a8bc72293c3c33aabfb0cd", func := "loop.example/g01279/laws.FnExactValidVoice", spec := "fnExactValidVoice", inPlace := ["math.Float64bits", "math.Float64frombits"], apart := false }
def FnExactValidVoiceSaid : Prop := fnExactValidVoiceRow.holds Try.pinned (OpenSpec.ofChange fnExactValidVoiceSpec)

/-- ITS FALSE NEIGHBOUR: 'it returns false'. Refute it at one input. -/
def fnExactValidVoiceWrong : ChangeSpec := { name := "fnExactValidVoice", fn := fun _ => fun
  | [d] => { results := [.lit (.bool false)], args := [d] }
  | _ => none }
def FnExactValidVoiceWrongFalsely : Prop := fnExactValidVoiceRow.holds Try.pinned (OpenSpec.ofChange fnExactValidVoiceWrong)

/-- 'laws.FnExactSameVoice': WHATEVER THE INPUT: true; the input reads as it did. -/
def fnExactSameVoiceSpec : ChangeSpec := { name := "fnExactSameVoice", fn := fun _ => fun
  | [d1, d2] => { results := [.lit (.bool true)], args := [d1, d2] }
  | _ => none }
def fnExactSameVoiceRow : OpenClaim := { program := "ytkmgkcbbbaioiaa", sum := "7e0b4c82cf4e15e7e61d64d4bbb2d205148eaf1e02a8bc72293c3c33aabfb0cd", func := "loop.example/g01279/laws.FnExactSameVoice", spec := "fnExactSameVoice", inPlace := ["math.Float32bits"], apart := false }
def FnExactSameVoiceSaid : Prop := fnExactSameVoiceRow.holds Try.pinned (OpenSpec.ofChange fnExactSameVoiceSpec)

/-- ITS FALSE NEIGHBOUR: 'it returns false'. Refute it at one input. -/
def fnExactSameVoiceWrong : ChangeSpec := { name := "fnExactSameVoice", fn := fun _ => fun
  | [d1, d2] => { results := [.lit (.bool false)], args := [d1, d2] }
  | _ => none }
def FnExactSameVoiceWrongFalsely : Prop := fnExactSameVoiceRow.holds Try.pinned (OpenSpec.ofChange fnExactSameVoiceWrong)

/-- 'laws.FnExactIsSound': WHATEVER THE INPUT: true; the input reads as it did. -/
def fnExactIsSoundSpec : ChangeSpec := { name := "fnExactIsSound", fn := fun _ => fun
  | [d] => { results := [.lit (.bool true)], args := [d] }
  | _ => none }
def fnExactIsSoundRow : OpenClaim := { program := "ytkmgkcbbbaioiaa", sum := "7e0b4c82cf4e15e7e61d64d4bbb2d205148eaf1e02a8bc72293c3c33aabfb0cd", func := "loop.example/g01279/laws.FnExactIsSound", spec := "fnExactIsSound", inPlace := ["math.Float64bits", "math.Float64frombits"], apart := false }
def FnExactIsSoundSaid : Prop := fnExactIsSoundRow.holds Try.pinned (OpenSpec.ofChange fnExactIsSoundSpec)

/-- ITS FALSE NEIGHBOUR: 'it returns false'. Refute it at one input. -/
def fnExactIsSoundWrong : ChangeSpec := { name := "fnExactIsSound", fn := fun _ => fun
  | [d] => { results := [.lit (.bool false)], args := [d] }
  | _ => none }
def FnExactIsSoundWrongFalsely : Prop := fnExactIsSoundRow.holds Try.pinned (OpenSpec.ofChange fnExactIsSoundWrong)

/-- 'laws.FnExactMixSounds': WHATEVER THE INPUT: true; the input reads as it did. -/
def fnExactMixSoundsSpec : ChangeSpec := { name := "fnExactMixSounds", fn := fun _ => fun
  | [d1, d2, d3, d4] => { results := [.lit (.bool true)], args := [d1, d2, d3, d4] }
  | _ => none }
def fnExactMixSoundsRow : OpenClaim := { program := "ytkmgkcbbbaioiaa", sum := "7e0b4c82cf4e15e7e61d64d4bbb2d205148eaf1e02a8bc72293c3c33aabfb0cd", func := "loop.example/g01279/laws.FnExactMixSounds", spec := "fnExactMixSounds", inPlace := ["math.Float64bits", "math.Float64frombits"], unfollowed := true, recurses := true, apart := false }
def FnExactMixSoundsSaid : Prop := fnExactMixSoundsRow.holds Try.pinned (OpenSpec.ofChange fnExactMixSoundsSpec)

/-- ITS FALSE NEIGHBOUR: 'it returns false'. Refute it at one input. -/
def fnExactMixSoundsWrong : ChangeSpec := { name := "fnExactMixSounds", fn := fun _ => fun
  | [d1, d2, d3, d4] => { results := [.lit (.bool false)], args := [d1, d2, d3, d4] }
  | _ => none }
def FnExactMixSoundsWrongFalsely : Prop := fnExactMixSoundsRow.holds Try.pinned (OpenSpec.ofChange fnExactMixSoundsWrong)

/-- 'laws.FnExactPeakOfSound': WHATEVER THE INPUT: true; the input reads as it did. -/
def fnExactPeakOfSoundSpec : ChangeSpec := { name := "fnExactPeakOfSound", fn := fun _ => fun
  | [d] => { results := [.lit (.bool true)], args := [d] }
  | _ => none }
def fnExactPeakOfSoundRow : OpenClaim := { program := "ytkmgkcbbbaioiaa", sum := "7e0b4c82cf4e15e7e61d64d4bbb2d205148eaf1e02a8bc72293c3c33aabfb0cd", func := "loop.example/g01279/laws.FnExactPeakOfSound", spec := "fnExactPeakOfSound", inPlace := ["math.Float64bits", "math.Float64frombits"], apart := false }
def FnExactPeakOfSoundSaid : Prop := fnExactPeakOfSoundRow.holds Try.pinned (OpenSpec.ofChange fnExactPeakOfSoundSpec)

/-- ITS FALSE NEIGHBOUR: 'it returns false'. Refute it at one input. -/
def fnExactPeakOfSoundWrong : ChangeSpec := { name := "fnExactPeakOfSound", fn := fun _ => fun
  | [d] => { results := [.lit (.bool false)], args := [d] }
  | _ => none }
def FnExactPeakOfSoundWrongFalsely : Prop := fnExactPeakOfSoundRow.holds Try.pinned (OpenSpec.ofChange fnExactPeakOfSoundWrong)

/-- 'laws.FnExactLoudOf': WHATEVER THE INPUT: true; the input reads as it did. -/
def fnExactLoudOfSpec : ChangeSpec := { name := "fnExactLoudOf", fn := fun _ => fun
  | [d] => { results := [.lit (.bool true)], args := [d] }
  | _ => none }
def fnExactLoudOfRow : OpenClaim := { program := "ytkmgkcbbbaioiaa", sum := "7e0b4c82cf4e15e7e61d64d4bbb2d205148eaf1e02a8bc72293c3c33aabfb0cd", func := "loop.example/g01279/laws.FnExactLoudOf", spec := "fnExactLoudOf", inPlace := ["math.sqrt", "math.Float64bits", "math.Float64frombits"], apart := false }
def FnExactLoudOfSaid : Prop := fnExactLoudOfRow.holds Try.pinned (OpenSpec.ofChange fnExactLoudOfSpec)

/-- ITS FALSE NEIGHBOUR: 'it returns false'. Refute it at one input. -/
def fnExactLoudOfWrong : ChangeSpec := { name := "fnExactLoudOf", fn := fun _ => fun
  | [d] => { results := [.lit (.bool false)], args := [d] }
  | _ => none }
def FnExactLoudOfWrongFalsely : Prop := fnExactLoudOfRow.holds Try.pinned (OpenSpec.ofChange fnExactLoudOfWrong)

/-- 'laws.FnExactScaleToPeak': WHATEVER THE INPUT: true; the input reads as it did. -/
def fnExactScaleToPeakSpec : ChangeSpec := { name := "fnExactScaleToPeak", fn := fun _ => fun
  | [d1, d2] => { results := [.lit (.bool true)], args := [d1, d2] }
  | _ => none }
def fnExactScaleToPeakRow : OpenClaim := { program := "ytkmgkcbbbaioiaa", sum := "7e0b4c82cf4e15e7e61d64d4bbb2d205148eaf1e02a8bc72293c3c33aabfb0cd", func := "loop.example/g01279/laws.FnExactScaleToPeak", spec := "fnExactScaleToPeak", inPlace := ["math.Float64bits", "math.Float64frombits"], apart := false }
def FnExactScaleToPeakSaid : Prop := fnExactScaleToPeakRow.holds Try.pinned (OpenSpec.ofChange fnExactScaleToPeakSpec)

/-- ITS FALSE NEIGHBOUR: 'it returns false'. Refute it at one input. -/
def fnExactScaleToPeakWrong : ChangeSpec := { name := "fnExactScaleToPeak", fn := fun _ => fun
  | [d1, d2] => { results := [.lit (.bool false)], args := [d1, d2] }
  | _ => none }
def FnExactScaleToPeakWrongFalsely : Prop := fnExactScaleToPeakRow.holds Try.pinned (OpenSpec.ofChange fnExactScaleToPeakWrong)

/-- 'laws.FnExactSoftenSound': WHATEVER THE INPUT: true; the input reads as it did. -/
def fnExactSoftenSoundSpec : ChangeSpec := { name := "fnExactSoftenSound", fn := fun _ => fun
  | [d1, d2, d3] => { results := [.lit (.bool true)], args := [d1, d2, d3] }
  | _ => none }
def fnExactSoftenSoundRow : OpenClaim := { program := "ytkmgkcbbbaioiaa", sum := "7e0b4c82cf4e15e7e61d64d4bbb2d205148eaf1e02a8bc72293c3c33aabfb0cd", func := "loop.example/g01279/laws.FnExactSoftenSound", spec := "fnExactSoftenSound", inPlace := ["math.Float64bits", "math.Float64frombits"], unfollowed := true, recurses := true, apart := false }
def FnExactSoftenSoundSaid : Prop := fnExactSoftenSoundRow.holds Try.pinned (OpenSpec.ofChange fnExactSoftenSoundSpec)

/-- ITS FALSE NEIGHBOUR: 'it returns false'. Refute it at one input. -/
def fnExactSoftenSoundWrong : ChangeSpec := { name := "fnExactSoftenSound", fn := fun _ => fun
  | [d1, d2, d3] => { results := [.lit (.bool false)], args := [d1, d2, d3] }
  | _ => none }
def FnExactSoftenSoundWrongFalsely : Prop := fnExactSoftenSoundRow.holds Try.pinned (OpenSpec.ofChange fnExactSoftenSoundWrong)

/-- 'laws.FnExactEchoSound': WHATEVER THE INPUT: true; the input reads as it did. -/
def fnExactEchoSoundSpec : ChangeSpec := { name := "fnExactEchoSound", fn := fun _ => fun
  | [d1, d2, d3] => { results := [.lit (.bool true)], args := [d1, d2, d3] }
  | _ => none }
def fnExactEchoSoundRow : OpenClaim := { program := "ytkmgkcbbbaioiaa", sum := "7e0b4c82cf4e15e7e61d64d4bbb2d205148eaf1e02a8bc72293c3c33aabfb0cd", func := "loop.example/g01279/laws.FnExactEchoSound", spec := "fnExactEchoSound", inPlace := ["math.Float64bits", "math.Float64frombits"], apart := false }
def FnExactEchoSoundSaid : Prop := fnExactEchoSoundRow.holds Try.pinned (OpenSpec.ofChange fnExactEchoSoundSpec)

/-- ITS FALSE NEIGHBOUR: 'it returns false'. Refute it at one input. -/
def fnExactEchoSoundWrong : ChangeSpec := { name := "fnExactEchoSound", fn := fun _ => fun
  | [d1, d2, d3] => { results := [.lit (.bool false)], args := [d1, d2, d3] }
  | _ => none }
def FnExactEchoSoundWrongFalsely : Prop := fnExactEchoSoundRow.holds Try.pinned (OpenSpec.ofChange fnExactEchoSoundWrong)

/- THE SECOND FORM. 'bulk': how many values and letters a reading holds, each counted each time it is reached (what is shared counts as often as it is met; a slice's spare places count too). A statement '..UptoSaid' is the law's where the arguments, and the package variables that the reading takes, are together of bulk at most 1048576: NARROWER than '..Said'. Prove '..Said' where nothing that the law and all that it calls make is longer than what came in: it says more and counts as full. Else prove '..UptoSaid'. A law counts once. -/
mutual
def uptoBulk {H : Type} : DataW H → Nat
  | .lit (.string bytes) => bytes.length + 1
  | .lit _ => 1
  | .nil => 1
  | .ptr d => uptoBulk d + 1
  | .slice elems spare => uptoBulkAll elems + uptoBulkAll spare + 1
  | .agg parts => uptoBulkAll parts + 1
  | .iface _ d => uptoBulk d + 1
  | .map entries => uptoBulkEntries entries + 1
  | .held _ => 1
def uptoBulkAll {H : Type} : List (DataW H) → Nat
  | [] => 0
  | d :: r => uptoBulk d + uptoBulkAll r
def uptoBulkEntries {H : Type} : List (Lit × DataW H) → Nat
  | [] => 0
  | x :: r => uptoBulkEntry x + uptoBulkEntries r
def uptoBulkEntry {H : Type} : Lit × DataW H → Nat
  | (.string bytes, d) => bytes.length + uptoBulk d + 1
  | (_, d) => uptoBulk d + 1
 end
def uptoSmall : (H : Type) → List (DataW H) → Bool := fun _ ds => decide (uptoBulkAll ds ≤ 1048576)
def OpenSpec.upto (s : _root_.Go.ChangeSpec) : _root_.Go.OpenSpec := { _root_.Go.OpenSpec.ofChange s with cond := some uptoSmall }

/-- 'laws.FnExactValidThroat', WHERE WHAT IT READS IS OF BULK AT MOST 1048576: true; the input reads as it did. -/
def fnExactValidThroatUptoRow : OpenClaim := { program := "ytkmgkcbbbaioiaa", sum := "7e0b4c82cf4e15e7e61d64d4bbb2d205148eaf1e02a8bc72293c3c33aabfb0cd", func := "loop.example/g01279/laws.FnExactValidThroat", spec := "fnExactValidThroat", inPlace := ["math.Float64bits", "math.Float64frombits"], apart := false, narrowed := true }
def FnExactValidThroatUptoSaid : Prop := fnExactValidThroatUptoRow.holds Try.pinned (OpenSpec.upto fnExactValidThroatSpec)

/-- 'laws.FnExactSameThroat', WHERE WHAT IT READS IS OF BULK AT MOST 1048576: true; the input reads as it did. -/
def fnExactSameThroatUptoRow : OpenClaim := { program := "ytkmgkcbbbaioiaa", sum := "7e0b4c82cf4e15e7e61d64d4bbb2d205148eaf1e02a8bc72293c3c33aabfb0cd", func := "loop.example/g01279/laws.FnExactSameThroat", spec := "fnExactSameThroat", inPlace := ["math.Float32bits"], apart := false, narrowed := true }
def FnExactSameThroatUptoSaid : Prop := fnExactSameThroatUptoRow.holds Try.pinned (OpenSpec.upto fnExactSameThroatSpec)

/-- 'laws.FnExactNewVoice', WHERE WHAT IT READS IS OF BULK AT MOST 1048576: true; the input reads as it did. -/
def fnExactNewVoiceUptoRow : OpenClaim := { program := "ytkmgkcbbbaioiaa", sum := "7e0b4c82cf4e15e7e61d64d4bbb2d205148eaf1e02a8bc72293c3c33aabfb0cd", func := "loop.example/g01279/laws.FnExactNewVoice", spec := "fnExactNewVoice", inPlace := ["math.Float64bits", "math.Float64frombits"], apart := false, narrowed := true }
def FnExactNewVoiceUptoSaid : Prop := fnExactNewVoiceUptoRow.holds Try.pinned (OpenSpec.upto fnExactNewVoiceSpec)

/-- 'laws.FnExactValidVoice', WHERE WHAT IT READS IS OF BULK AT MOST 1048576: true; the input reads as it did. -/
def fnExactValidVoiceUptoRow : OpenClaim := { program := "ytkmgkcbbbaioiaa", sum := "7e0b4c82cf4e15e7e61d64d4bbb2d205148eaf1e02a8bc72293c3c33aabfb0cd", func := "loop.example/g01279/laws.FnExactValidVoice", spec := "fnExactValidVoice", inPlace := ["math.Float64bits", "math.Float64frombits"], apart := false, narrowed := true }
def FnExactValidVoiceUptoSaid : Prop := fnExactValidVoiceUptoRow.holds Try.pinned (OpenSpec.upto fnExactValidVoiceSpec)

/-- 'laws.FnExactSameVoice', WHERE WHAT IT READS IS OF BULK AT MOST 1048576: true; the input reads as it did. -/
def fnExactSameVoiceUptoRow : OpenClaim := { program := "ytkmgkcbbbaioiaa", sum := "7e0b4c82cf4e15e7e61d64d4bbb2d205148eaf1e02a8bc72293c3c33aabfb0cd", func := "loop.example/g01279/laws.FnExactSameVoice", spec := "fnExactSameVoice", inPlace := ["math.Float32bits"], apart := false, narrowed := true }
def FnExactSameVoiceUptoSaid : Prop := fnExactSameVoiceUptoRow.holds Try.pinned (OpenSpec.upto fnExactSameVoiceSpec)

/-- 'laws.FnExactIsSound', WHERE WHAT IT READS IS OF BULK AT MOST 1048576: true; the input reads as it did. -/
def fnExactIsSoundUptoRow : OpenClaim := { program := "ytkmgkcbbbaioiaa", sum := "7e0b4c82cf4e15e7e61d64d4bbb2d205148eaf1e02a8bc72293c3c33aabfb0cd", func := "loop.example/g01279/laws.FnExactIsSound", spec := "fnExactIsSound", inPlace := ["math.Float64bits", "math.Float64frombits"], apart := false, narrowed := true }
def FnExactIsSoundUptoSaid : Prop := fnExactIsSoundUptoRow.holds Try.pinned (OpenSpec.upto fnExactIsSoundSpec)

/-- 'laws.FnExactMixSounds', WHERE WHAT IT READS IS OF BULK AT MOST 1048576: true; the input reads as it did. -/
def fnExactMixSoundsUptoRow : OpenClaim := { program := "ytkmgkcbbbaioiaa", sum := "7e0b4c82cf4e15e7e61d64d4bbb2d205148eaf1e02a8bc72293c3c33aabfb0cd", func := "loop.example/g01279/laws.FnExactMixSounds", spec := "fnExactMixSounds", inPlace := ["math.Float64bits", "math.Float64frombits"], unfollowed := true, recurses := true, apart := false, narrowed := true }
def FnExactMixSoundsUptoSaid : Prop := fnExactMixSoundsUptoRow.holds Try.pinned (OpenSpec.upto fnExactMixSoundsSpec)

/-- 'laws.FnExactPeakOfSound', WHERE WHAT IT READS IS OF BULK AT MOST 1048576: true; the input reads as it did. -/
def fnExactPeakOfSoundUptoRow : OpenClaim := { program := "ytkmgkcbbbaioiaa", sum := "7e0b4c82cf4e15e7e61d64d4bbb2d205148eaf1e02a8bc72293c3c33aabfb0cd", func := "loop.example/g01279/laws.FnExactPeakOfSound", spec := "fnExactPeakOfSound", inPlace := ["math.Float64bits", "math.Float64frombits"], apart := false, narrowed := true }
def FnExactPeakOfSoundUptoSaid : Prop := fnExactPeakOfSoundUptoRow.holds Try.pinned (OpenSpec.upto fnExactPeakOfSoundSpec)

/-- 'laws.FnExactLoudOf', WHERE WHAT IT READS IS OF BULK AT MOST 1048576: true; the input reads as it did. -/
def fnExactLoudOfUptoRow : OpenClaim := { program := "ytkmgkcbbbaioiaa", sum := "7e0b4c82cf4e15e7e61d64d4bbb2d205148eaf1e02a8bc72293c3c33aabfb0cd", func := "loop.example/g01279/laws.FnExactLoudOf", spec := "fnExactLoudOf", inPlace := ["math.sqrt", "math.Float64bits", "math.Float64frombits"], apart := false, narrowed := true }
def FnExactLoudOfUptoSaid : Prop := fnExactLoudOfUptoRow.holds Try.pinned (OpenSpec.upto fnExactLoudOfSpec)

/-- 'laws.FnExactScaleToPeak', WHERE WHAT IT READS IS OF BULK AT MOST 1048576: true; the input reads as it did. -/
def fnExactScaleToPeakUptoRow : OpenClaim := { program := "ytkmgkcbbbaioiaa", sum := "7e0b4c82cf4e15e7e61d64d4bbb2d205148eaf1e02a8bc72293c3c33aabfb0cd", func := "loop.example/g01279/laws.FnExactScaleToPeak", spec := "fnExactScaleToPeak", inPlace := ["math.Float64bits", "math.Float64frombits"], apart := false, narrowed := true }
def FnExactScaleToPeakUptoSaid : Prop := fnExactScaleToPeakUptoRow.holds Try.pinned (OpenSpec.upto fnExactScaleToPeakSpec)

/-- 'laws.FnExactSoftenSound', WHERE WHAT IT READS IS OF BULK AT MOST 1048576: true; the input reads as it did. -/
def fnExactSoftenSoundUptoRow : OpenClaim := { program := "ytkmgkcbbbaioiaa", sum := "7e0b4c82cf4e15e7e61d64d4bbb2d205148eaf1e02a8bc72293c3c33aabfb0cd", func := "loop.example/g01279/laws.FnExactSoftenSound", spec := "fnExactSoftenSound", inPlace := ["math.Float64bits", "math.Float64frombits"], unfollowed := true, recurses := true, apart := false, narrowed := true }
def FnExactSoftenSoundUptoSaid : Prop := fnExactSoftenSoundUptoRow.holds Try.pinned (OpenSpec.upto fnExactSoftenSoundSpec)

/-- 'laws.FnExactEchoSound', WHERE WHAT IT READS IS OF BULK AT MOST 1048576: true; the input reads as it did. -/
def fnExactEchoSoundUptoRow : OpenClaim := { program := "ytkmgkcbbbaioiaa", sum := "7e0b4c82cf4e15e7e61d64d4bbb2d205148eaf1e02a8bc72293c3c33aabfb0cd", func := "loop.example/g01279/laws.FnExactEchoSound", spec := "fnExactEchoSound", inPlace := ["math.Float64bits", "math.Float64frombits"], apart := false, narrowed := true }
def FnExactEchoSoundUptoSaid : Prop := fnExactEchoSoundUptoRow.holds Try.pinned (OpenSpec.upto fnExactEchoSoundSpec)

end Rows
end Go.Proofs.Ytkmgkcbbbaioiaa

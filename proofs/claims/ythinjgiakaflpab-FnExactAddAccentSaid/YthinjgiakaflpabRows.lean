/-
  No cell of these rows narrows 'for every input' (looked for: loops, veiled, ifaces, maps, wideKeys, modest, calm, conditions, laid).
  DERIVED. THE GIVEN ROWS OF THIS SEAT. 12 by the template 'for every input the law returns true; each argument reads behind the call as it read before'; 0 by the template 'total and deterministic' (their statements: YthinjgiakaflpabTotals.lean).
  GIVEN WITH THE SEED: the statements are not yours to turn. If you find one false, say at which input.
  Laid BY PROGRAM, IN A SANDBOX (cutbox-rows.mjs): the forced cells as the released guide's own fill.sh prints them over the translation a80c52c5202083e6… (all of the seat's roots in one cut). By AI agents, Wed Nov 11 2026. No macro, syntax, notation, axiom, sorry.
-/
import Derived.Test.YthinjgiakaflpabChecked
import GoSem.Claim
import GoSem.ClaimJoined
import GoSem.ClaimMapViews
import Derived.JoinedTies
import Derived.KernelRfl
namespace Go.Proofs.Ythinjgiakaflpab
/- THE CELL 'sum', in the pinned program and in every row, IS THE sha256 OF THE DUMP (.gsa) THAT YthinjgiakaflpabProg.lean LOADS. Nothing in Lean hashes anything: it is a label: what it is worth is what the hold of that sum in a sandbox is worth. -/
noncomputable def Try.pinned : Pinned := { name := "ythinjgiakaflpab", sum := "a80c52c5202083e6b29f9e8ad963ffe83f278c139ab86d0c741f740a8a9482ea", checked := Try.checked }
namespace Rows
def none {H : Type} : Left H := { results := [], args := [] }

/-- 'laws.FnExactAddAccent': WHATEVER THE INPUT: true; the input reads as it did. -/
def fnExactAddAccentSpec : ChangeSpec := { name := "fnExactAddAccent", fn := fun _ => fun
  | [d1, d2] => { results := [.lit (.bool true)], args := [d1, d2] }
  | _ => none }
def fnExactAddAccentRow : OpenClaim := { program := "ythinjgiakaflpab", sum := "a80c52c5202083e6b29f9e8ad963ffe83f278c139ab86d0c741f740a8a9482ea", func := "loop.example/g01279/laws.FnExactAddAccent", spec := "fnExactAddAccent", inPlace := ["math.Float64bits", "math.Float64frombits"], apart := false }
def FnExactAddAccentSaid : Prop := fnExactAddAccentRow.holds Try.pinned (OpenSpec.ofChange fnExactAddAccentSpec)

/-- ITS FALSE NEIGHBOUR: 'it returns false'. Refute it at one input. -/
def fnExactAddAccentWrong : ChangeSpec := { name := "fnExactAddAccent", fn := fun _ => fun
  | [d1, d2] => { results := [.lit (.bool false)], args := [d1, d2] }
  | _ => none }
def FnExactAddAccentWrongFalsely : Prop := fnExactAddAccentRow.holds Try.pinned (OpenSpec.ofChange fnExactAddAccentWrong)

/-- 'laws.FnExactSameTune': WHATEVER THE INPUT: true; the input reads as it did. -/
def fnExactSameTuneSpec : ChangeSpec := { name := "fnExactSameTune", fn := fun _ => fun
  | [d1, d2] => { results := [.lit (.bool true)], args := [d1, d2] }
  | _ => none }
def fnExactSameTuneRow : OpenClaim := { program := "ythinjgiakaflpab", sum := "a80c52c5202083e6b29f9e8ad963ffe83f278c139ab86d0c741f740a8a9482ea", func := "loop.example/g01279/laws.FnExactSameTune", spec := "fnExactSameTune", inPlace := ["math.Float32bits"], unfollowed := true, recurses := true, apart := false }
def FnExactSameTuneSaid : Prop := fnExactSameTuneRow.holds Try.pinned (OpenSpec.ofChange fnExactSameTuneSpec)

/-- ITS FALSE NEIGHBOUR: 'it returns false'. Refute it at one input. -/
def fnExactSameTuneWrong : ChangeSpec := { name := "fnExactSameTune", fn := fun _ => fun
  | [d1, d2] => { results := [.lit (.bool false)], args := [d1, d2] }
  | _ => none }
def FnExactSameTuneWrongFalsely : Prop := fnExactSameTuneRow.holds Try.pinned (OpenSpec.ofChange fnExactSameTuneWrong)

/-- 'laws.FnExactSwaysOf': WHATEVER THE INPUT: true; the input reads as it did. -/
def fnExactSwaysOfSpec : ChangeSpec := { name := "fnExactSwaysOf", fn := fun _ => fun
  | [d] => { results := [.lit (.bool true)], args := [d] }
  | _ => none }
def fnExactSwaysOfRow : OpenClaim := { program := "ythinjgiakaflpab", sum := "a80c52c5202083e6b29f9e8ad963ffe83f278c139ab86d0c741f740a8a9482ea", func := "loop.example/g01279/laws.FnExactSwaysOf", spec := "fnExactSwaysOf", inPlace := ["math.Float64bits", "math.Float64frombits"], apart := false }
def FnExactSwaysOfSaid : Prop := fnExactSwaysOfRow.holds Try.pinned (OpenSpec.ofChange fnExactSwaysOfSpec)

/-- ITS FALSE NEIGHBOUR: 'it returns false'. Refute it at one input. -/
def fnExactSwaysOfWrong : ChangeSpec := { name := "fnExactSwaysOf", fn := fun _ => fun
  | [d] => { results := [.lit (.bool false)], args := [d] }
  | _ => none }
def FnExactSwaysOfWrongFalsely : Prop := fnExactSwaysOfRow.holds Try.pinned (OpenSpec.ofChange fnExactSwaysOfWrong)

/-- 'laws.FnExactAreSounds': WHATEVER THE INPUT: true; the input reads as it did. -/
def fnExactAreSoundsSpec : ChangeSpec := { name := "fnExactAreSounds", fn := fun _ => fun
  | [d] => { results := [.lit (.bool true)], args := [d] }
  | _ => none }
def fnExactAreSoundsRow : OpenClaim := { program := "ythinjgiakaflpab", sum := "a80c52c5202083e6b29f9e8ad963ffe83f278c139ab86d0c741f740a8a9482ea", func := "loop.example/g01279/laws.FnExactAreSounds", spec := "fnExactAreSounds", inPlace := ["math.Float64bits", "math.Float64frombits"], apart := false }
def FnExactAreSoundsSaid : Prop := fnExactAreSoundsRow.holds Try.pinned (OpenSpec.ofChange fnExactAreSoundsSpec)

/-- ITS FALSE NEIGHBOUR: 'it returns false'. Refute it at one input. -/
def fnExactAreSoundsWrong : ChangeSpec := { name := "fnExactAreSounds", fn := fun _ => fun
  | [d] => { results := [.lit (.bool false)], args := [d] }
  | _ => none }
def FnExactAreSoundsWrongFalsely : Prop := fnExactAreSoundsRow.holds Try.pinned (OpenSpec.ofChange fnExactAreSoundsWrong)

/-- 'laws.FnExactSameSounds': WHATEVER THE INPUT: true; the input reads as it did. -/
def fnExactSameSoundsSpec : ChangeSpec := { name := "fnExactSameSounds", fn := fun _ => fun
  | [d1, d2] => { results := [.lit (.bool true)], args := [d1, d2] }
  | _ => none }
def fnExactSameSoundsRow : OpenClaim := { program := "ythinjgiakaflpab", sum := "a80c52c5202083e6b29f9e8ad963ffe83f278c139ab86d0c741f740a8a9482ea", func := "loop.example/g01279/laws.FnExactSameSounds", spec := "fnExactSameSounds", inPlace := ["math.Float32bits"], unfollowed := true, recurses := true, apart := false }
def FnExactSameSoundsSaid : Prop := fnExactSameSoundsRow.holds Try.pinned (OpenSpec.ofChange fnExactSameSoundsSpec)

/-- ITS FALSE NEIGHBOUR: 'it returns false'. Refute it at one input. -/
def fnExactSameSoundsWrong : ChangeSpec := { name := "fnExactSameSounds", fn := fun _ => fun
  | [d1, d2] => { results := [.lit (.bool false)], args := [d1, d2] }
  | _ => none }
def FnExactSameSoundsWrongFalsely : Prop := fnExactSameSoundsRow.holds Try.pinned (OpenSpec.ofChange fnExactSameSoundsWrong)

/-- 'laws.FnExactFindSound': WHATEVER THE INPUT: true; the input reads as it did. -/
def fnExactFindSoundSpec : ChangeSpec := { name := "fnExactFindSound", fn := fun _ => fun
  | [d1, d2] => { results := [.lit (.bool true)], args := [d1, d2] }
  | _ => none }
def fnExactFindSoundRow : OpenClaim := { program := "ythinjgiakaflpab", sum := "a80c52c5202083e6b29f9e8ad963ffe83f278c139ab86d0c741f740a8a9482ea", func := "loop.example/g01279/laws.FnExactFindSound", spec := "fnExactFindSound", inPlace := ["math.Float64bits", "math.Float64frombits"], apart := false }
def FnExactFindSoundSaid : Prop := fnExactFindSoundRow.holds Try.pinned (OpenSpec.ofChange fnExactFindSoundSpec)

/-- ITS FALSE NEIGHBOUR: 'it returns false'. Refute it at one input. -/
def fnExactFindSoundWrong : ChangeSpec := { name := "fnExactFindSound", fn := fun _ => fun
  | [d1, d2] => { results := [.lit (.bool false)], args := [d1, d2] }
  | _ => none }
def FnExactFindSoundWrongFalsely : Prop := fnExactFindSoundRow.holds Try.pinned (OpenSpec.ofChange fnExactFindSoundWrong)

/-- 'laws.FnExactStretchSounds': WHATEVER THE INPUT: true; the input reads as it did. -/
def fnExactStretchSoundsSpec : ChangeSpec := { name := "fnExactStretchSounds", fn := fun _ => fun
  | [d1, d2] => { results := [.lit (.bool true)], args := [d1, d2] }
  | _ => none }
def fnExactStretchSoundsRow : OpenClaim := { program := "ythinjgiakaflpab", sum := "a80c52c5202083e6b29f9e8ad963ffe83f278c139ab86d0c741f740a8a9482ea", func := "loop.example/g01279/laws.FnExactStretchSounds", spec := "fnExactStretchSounds", inPlace := ["math.Float64bits", "math.Float64frombits"], apart := false }
def FnExactStretchSoundsSaid : Prop := fnExactStretchSoundsRow.holds Try.pinned (OpenSpec.ofChange fnExactStretchSoundsSpec)

/-- ITS FALSE NEIGHBOUR: 'it returns false'. Refute it at one input. -/
def fnExactStretchSoundsWrong : ChangeSpec := { name := "fnExactStretchSounds", fn := fun _ => fun
  | [d1, d2] => { results := [.lit (.bool false)], args := [d1, d2] }
  | _ => none }
def FnExactStretchSoundsWrongFalsely : Prop := fnExactStretchSoundsRow.holds Try.pinned (OpenSpec.ofChange fnExactStretchSoundsWrong)

/-- 'laws.FnExactLengthsOf': WHATEVER THE INPUT: true; the input reads as it did. -/
def fnExactLengthsOfSpec : ChangeSpec := { name := "fnExactLengthsOf", fn := fun _ => fun
  | [d1, d2, d3] => { results := [.lit (.bool true)], args := [d1, d2, d3] }
  | _ => none }
def fnExactLengthsOfRow : OpenClaim := { program := "ythinjgiakaflpab", sum := "a80c52c5202083e6b29f9e8ad963ffe83f278c139ab86d0c741f740a8a9482ea", func := "loop.example/g01279/laws.FnExactLengthsOf", spec := "fnExactLengthsOf", inPlace := ["math.Float64bits", "math.Float64frombits"], apart := false }
def FnExactLengthsOfSaid : Prop := fnExactLengthsOfRow.holds Try.pinned (OpenSpec.ofChange fnExactLengthsOfSpec)

/-- ITS FALSE NEIGHBOUR: 'it returns false'. Refute it at one input. -/
def fnExactLengthsOfWrong : ChangeSpec := { name := "fnExactLengthsOf", fn := fun _ => fun
  | [d1, d2, d3] => { results := [.lit (.bool false)], args := [d1, d2, d3] }
  | _ => none }
def FnExactLengthsOfWrongFalsely : Prop := fnExactLengthsOfRow.holds Try.pinned (OpenSpec.ofChange fnExactLengthsOfWrong)

/-- 'laws.FnExactDropSound': WHATEVER THE INPUT: true; the input reads as it did. -/
def fnExactDropSoundSpec : ChangeSpec := { name := "fnExactDropSound", fn := fun _ => fun
  | [d1, d2] => { results := [.lit (.bool true)], args := [d1, d2] }
  | _ => none }
def fnExactDropSoundRow : OpenClaim := { program := "ythinjgiakaflpab", sum := "a80c52c5202083e6b29f9e8ad963ffe83f278c139ab86d0c741f740a8a9482ea", func := "loop.example/g01279/laws.FnExactDropSound", spec := "fnExactDropSound", inPlace := ["math.Float64bits", "math.Float64frombits"], unfollowed := true, recurses := true, apart := false }
def FnExactDropSoundSaid : Prop := fnExactDropSoundRow.holds Try.pinned (OpenSpec.ofChange fnExactDropSoundSpec)

/-- ITS FALSE NEIGHBOUR: 'it returns false'. Refute it at one input. -/
def fnExactDropSoundWrong : ChangeSpec := { name := "fnExactDropSound", fn := fun _ => fun
  | [d1, d2] => { results := [.lit (.bool false)], args := [d1, d2] }
  | _ => none }
def FnExactDropSoundWrongFalsely : Prop := fnExactDropSoundRow.holds Try.pinned (OpenSpec.ofChange fnExactDropSoundWrong)

/-- 'laws.FnExactAddSound': WHATEVER THE INPUT: true; the input reads as it did. -/
def fnExactAddSoundSpec : ChangeSpec := { name := "fnExactAddSound", fn := fun _ => fun
  | [d1, d2] => { results := [.lit (.bool true)], args := [d1, d2] }
  | _ => none }
def fnExactAddSoundRow : OpenClaim := { program := "ythinjgiakaflpab", sum := "a80c52c5202083e6b29f9e8ad963ffe83f278c139ab86d0c741f740a8a9482ea", func := "loop.example/g01279/laws.FnExactAddSound", spec := "fnExactAddSound", inPlace := ["math.Float64bits", "math.Float64frombits"], unfollowed := true, recurses := true, apart := false }
def FnExactAddSoundSaid : Prop := fnExactAddSoundRow.holds Try.pinned (OpenSpec.ofChange fnExactAddSoundSpec)

/-- ITS FALSE NEIGHBOUR: 'it returns false'. Refute it at one input. -/
def fnExactAddSoundWrong : ChangeSpec := { name := "fnExactAddSound", fn := fun _ => fun
  | [d1, d2] => { results := [.lit (.bool false)], args := [d1, d2] }
  | _ => none }
def FnExactAddSoundWrongFalsely : Prop := fnExactAddSoundRow.holds Try.pinned (OpenSpec.ofChange fnExactAddSoundWrong)

/-- 'laws.FnExactFrameAt': WHATEVER THE INPUT: true; the input reads as it did. -/
def fnExactFrameAtSpec : ChangeSpec := { name := "fnExactFrameAt", fn := fun _ => fun
  | [d1, d2, d3, d4] => { results := [.lit (.bool true)], args := [d1, d2, d3, d4] }
  | _ => none }
def fnExactFrameAtRow : OpenClaim := { program := "ythinjgiakaflpab", sum := "a80c52c5202083e6b29f9e8ad963ffe83f278c139ab86d0c741f740a8a9482ea", func := "loop.example/g01279/laws.FnExactFrameAt", spec := "fnExactFrameAt", inPlace := ["math.Float64bits", "math.Float64frombits"], apart := false }
def FnExactFrameAtSaid : Prop := fnExactFrameAtRow.holds Try.pinned (OpenSpec.ofChange fnExactFrameAtSpec)

/-- ITS FALSE NEIGHBOUR: 'it returns false'. Refute it at one input. -/
def fnExactFrameAtWrong : ChangeSpec := { name := "fnExactFrameAt", fn := fun _ => fun
  | [d1, d2, d3, d4] => { results := [.lit (.bool false)], args := [d1, d2, d3, d4] }
  | _ => none }
def FnExactFrameAtWrongFalsely : Prop := fnExactFrameAtRow.holds Try.pinned (OpenSpec.ofChange fnExactFrameAtWrong)

/-- 'laws.FnExactSpeakFrames': WHATEVER THE INPUT: true; the input reads as it did. -/
def fnExactSpeakFramesSpec : ChangeSpec := { name := "fnExactSpeakFrames", fn := fun _ => fun
  | [d1, d2, d3, d4, d5] => { results := [.lit (.bool true)], args := [d1, d2, d3, d4, d5] }
  | _ => none }
def fnExactSpeakFramesRow : OpenClaim := { program := "ythinjgiakaflpab", sum := "a80c52c5202083e6b29f9e8ad963ffe83f278c139ab86d0c741f740a8a9482ea", func := "loop.example/g01279/laws.FnExactSpeakFrames", spec := "fnExactSpeakFrames", inPlace := ["math.Float64bits", "math.Float64frombits"], apart := false }
def FnExactSpeakFramesSaid : Prop := fnExactSpeakFramesRow.holds Try.pinned (OpenSpec.ofChange fnExactSpeakFramesSpec)

/-- ITS FALSE NEIGHBOUR: 'it returns false'. Refute it at one input. -/
def fnExactSpeakFramesWrong : ChangeSpec := { name := "fnExactSpeakFrames", fn := fun _ => fun
  | [d1, d2, d3, d4, d5] => { results := [.lit (.bool false)], args := [d1, d2, d3, d4, d5] }
  | _ => none }
def FnExactSpeakFramesWrongFalsely : Prop := fnExactSpeakFramesRow.holds Try.pinned (OpenSpec.ofChange fnExactSpeakFramesWrong)

/- THE SECOND FORM. 'bulk': how many values and letters a reading holds, each counted each time it is reached (what is shared counts as often as it is met; a slice's spare places count too). A statement '..UptoSaid' is the law's where the arguments, and the package variables that the reading takes, are together of bulk at most 1048576: NARROWER than '..Said'. Prove '..Said' where nothing that the law and all that it calls make is longer than what came in: it says more and counts as full. Else prove '..UptoSaid'. A law counts once. -/
mutual
def uptoBulk {H : Type} : DataW H → Nat
  | .lit (.string bytes) => bytes.length + 1
  | .lit _ => 1
  | .nil => 1
  | .ptr d => uptoBulk d + 1
  | .slice elems spare => uptoBulkAll elems + uptoBulkAll spare + 1
  | .agg parts => uptoBulkAll parts + 1
  | .iface _ d => uptoBulk d + 1
  | .map entries => uptoBulkEntries entries + 1
  | .held _ => 1
def uptoBulkAll {H : Type} : List (DataW H) → Nat
  | [] => 0
  | d :: r => uptoBulk d + uptoBulkAll r
def uptoBulkEntries {H : Type} : List (Lit × DataW H) → Nat
  | [] => 0
  | x :: r => uptoBulkEntry x + uptoBulkEntries r
def uptoBulkEntry {H : Type} : Lit × DataW H → Nat
  | (.string bytes, d) => bytes.length + uptoBulk d + 1
  | (_, d) => uptoBulk d + 1
 end
def uptoSmall : (H : Type) → List (DataW H) → Bool := fun _ ds => decide (uptoBulkAll ds ≤ 1048576)
def OpenSpec.upto (s : _root_.Go.ChangeSpec) : _root_.Go.OpenSpec := { _root_.Go.OpenSpec.ofChange s with cond := some uptoSmall }

/-- 'laws.FnExactAddAccent', WHERE WHAT IT READS IS OF BULK AT MOST 1048576: true; the input reads as it did. -/
def fnExactAddAccentUptoRow : OpenClaim := { program := "ythinjgiakaflpab", sum := "a80c52c5202083e6b29f9e8ad963ffe83f278c139ab86d0c741f740a8a9482ea", func := "loop.example/g01279/laws.FnExactAddAccent", spec := "fnExactAddAccent", inPlace := ["math.Float64bits", "math.Float64frombits"], apart := false, narrowed := true }
def FnExactAddAccentUptoSaid : Prop := fnExactAddAccentUptoRow.holds Try.pinned (OpenSpec.upto fnExactAddAccentSpec)

/-- 'laws.FnExactSameTune', WHERE WHAT IT READS IS OF BULK AT MOST 1048576: true; the input reads as it did. -/
def fnExactSameTuneUptoRow : OpenClaim := { program := "ythinjgiakaflpab", sum := "a80c52c5202083e6b29f9e8ad963ffe83f278c139ab86d0c741f740a8a9482ea", func := "loop.example/g01279/laws.FnExactSameTune", spec := "fnExactSameTune", inPlace := ["math.Float32bits"], unfollowed := true, recurses := true, apart := false, narrowed := true }
def FnExactSameTuneUptoSaid : Prop := fnExactSameTuneUptoRow.holds Try.pinned (OpenSpec.upto fnExactSameTuneSpec)

/-- 'laws.FnExactSwaysOf', WHERE WHAT IT READS IS OF BULK AT MOST 1048576: true; the input reads as it did. -/
def fnExactSwaysOfUptoRow : OpenClaim := { program := "ythinjgiakaflpab", sum := "a80c52c5202083e6b29f9e8ad963ffe83f278c139ab86d0c741f740a8a9482ea", func := "loop.example/g01279/laws.FnExactSwaysOf", spec := "fnExactSwaysOf", inPlace := ["math.Float64bits", "math.Float64frombits"], apart := false, narrowed := true }
def FnExactSwaysOfUptoSaid : Prop := fnExactSwaysOfUptoRow.holds Try.pinned (OpenSpec.upto fnExactSwaysOfSpec)

/-- 'laws.FnExactAreSounds', WHERE WHAT IT READS IS OF BULK AT MOST 1048576: true; the input reads as it did. -/
def fnExactAreSoundsUptoRow : OpenClaim := { program := "ythinjgiakaflpab", sum := "a80c52c5202083e6b29f9e8ad963ffe83f278c139ab86d0c741f740a8a9482ea", func := "loop.example/g01279/laws.FnExactAreSounds", spec := "fnExactAreSounds", inPlace := ["math.Float64bits", "math.Float64frombits"], apart := false, narrowed := true }
def FnExactAreSoundsUptoSaid : Prop := fnExactAreSoundsUptoRow.holds Try.pinned (OpenSpec.upto fnExactAreSoundsSpec)

/-- 'laws.FnExactSameSounds', WHERE WHAT IT READS IS OF BULK AT MOST 1048576: true; the input reads as it did. -/
def fnExactSameSoundsUptoRow : OpenClaim := { program := "ythinjgiakaflpab", sum := "a80c52c5202083e6b29f9e8ad963ffe83f278c139ab86d0c741f740a8a9482ea", func := "loop.example/g01279/laws.FnExactSameSounds", spec := "fnExactSameSounds", inPlace := ["math.Float32bits"], unfollowed := true, recurses := true, apart := false, narrowed := true }
def FnExactSameSoundsUptoSaid : Prop := fnExactSameSoundsUptoRow.holds Try.pinned (OpenSpec.upto fnExactSameSoundsSpec)

/-- 'laws.FnExactFindSound', WHERE WHAT IT READS IS OF BULK AT MOST 1048576: true; the input reads as it did. -/
def fnExactFindSoundUptoRow : OpenClaim := { program := "ythinjgiakaflpab", sum := "a80c52c5202083e6b29f9e8ad963ffe83f278c139ab86d0c741f740a8a9482ea", func := "loop.example/g01279/laws.FnExactFindSound", spec := "fnExactFindSound", inPlace := ["math.Float64bits", "math.Float64frombits"], apart := false, narrowed := true }
def FnExactFindSoundUptoSaid : Prop := fnExactFindSoundUptoRow.holds Try.pinned (OpenSpec.upto fnExactFindSoundSpec)

/-- 'laws.FnExactStretchSounds', WHERE WHAT IT READS IS OF BULK AT MOST 1048576: true; the input reads as it did. -/
def fnExactStretchSoundsUptoRow : OpenClaim := { program := "ythinjgiakaflpab", sum := "a80c52c5202083e6b29f9e8ad963ffe83f278c139ab86d0c741f740a8a9482ea", func := "loop.example/g01279/laws.FnExactStretchSounds", spec := "fnExactStretchSounds", inPlace := ["math.Float64bits", "math.Float64frombits"], apart := false, narrowed := true }
def FnExactStretchSoundsUptoSaid : Prop := fnExactStretchSoundsUptoRow.holds Try.pinned (OpenSpec.upto fnExactStretchSoundsSpec)

/-- 'laws.FnExactLengthsOf', WHERE WHAT IT READS IS OF BULK AT MOST 1048576: true; the input reads as it did. -/
def fnExactLengthsOfUptoRow : OpenClaim := { program := "ythinjgiakaflpab", sum := "a80c52c5202083e6b29f9e8ad963ffe83f278c139ab86d0c741f740a8a9482ea", func := "loop.example/g01279/laws.FnExactLengthsOf", spec := "fnExactLengthsOf", inPlace := ["math.Float64bits", "math.Float64frombits"], apart := false, narrowed := true }
def FnExactLengthsOfUptoSaid : Prop := fnExactLengthsOfUptoRow.holds Try.pinned (OpenSpec.upto fnExactLengthsOfSpec)

/-- 'laws.FnExactDropSound', WHERE WHAT IT READS IS OF BULK AT MOST 1048576: true; the input reads as it did. -/
def fnExactDropSoundUptoRow : OpenClaim := { program := "ythinjgiakaflpab", sum := "a80c52c5202083e6b29f9e8ad963ffe83f278c139ab86d0c741f740a8a9482ea", func := "loop.example/g01279/laws.FnExactDropSound", spec := "fnExactDropSound", inPlace := ["math.Float64bits", "math.Float64frombits"], unfollowed := true, recurses := true, apart := false, narrowed := true }
def FnExactDropSoundUptoSaid : Prop := fnExactDropSoundUptoRow.holds Try.pinned (OpenSpec.upto fnExactDropSoundSpec)

/-- 'laws.FnExactAddSound', WHERE WHAT IT READS IS OF BULK AT MOST 1048576: true; the input reads as it did. -/
def fnExactAddSoundUptoRow : OpenClaim := { program := "ythinjgiakaflpab", sum := "a80c52c5202083e6b29f9e8ad963ffe83f278c139ab86d0c741f740a8a9482ea", func := "loop.example/g01279/laws.FnExactAddSound", spec := "fnExactAddSound", inPlace := ["math.Float64bits", "math.Float64frombits"], unfollowed := true, recurses := true, apart := false, narrowed := true }
def FnExactAddSoundUptoSaid : Prop := fnExactAddSoundUptoRow.holds Try.pinned (OpenSpec.upto fnExactAddSoundSpec)

/-- 'laws.FnExactFrameAt', WHERE WHAT IT READS IS OF BULK AT MOST 1048576: true; the input reads as it did. -/
def fnExactFrameAtUptoRow : OpenClaim := { program := "ythinjgiakaflpab", sum := "a80c52c5202083e6b29f9e8ad963ffe83f278c139ab86d0c741f740a8a9482ea", func := "loop.example/g01279/laws.FnExactFrameAt", spec := "fnExactFrameAt", inPlace := ["math.Float64bits", "math.Float64frombits"], apart := false, narrowed := true }
def FnExactFrameAtUptoSaid : Prop := fnExactFrameAtUptoRow.holds Try.pinned (OpenSpec.upto fnExactFrameAtSpec)

/-- 'laws.FnExactSpeakFrames', WHERE WHAT IT READS IS OF BULK AT MOST 1048576: true; the input reads as it did. -/
def fnExactSpeakFramesUptoRow : OpenClaim := { program := "ythinjgiakaflpab", sum := "a80c52c5202083e6b29f9e8ad963ffe83f278c139ab86d0c741f740a8a9482ea", func := "loop.example/g01279/laws.FnExactSpeakFrames", spec := "fnExactSpeakFrames", inPlace := ["math.Float64bits", "math.Float64frombits"], apart := false, narrowed := true }
def FnExactSpeakFramesUptoSaid : Prop := fnExactSpeakFramesUptoRow.holds Try.pinned (OpenSpec.upto fnExactSpeakFramesSpec)

end Rows
end Go.Proofs.Ythinjgiakaflpab

/-
  No cell of these rows narrows 'for every input' (looked for: loops, veiled, ifaces, maps, wideKeys, modest, calm, conditions, laid).
  DERIVED. THE GIVEN ROWS OF THIS SEAT. 12 by the template 'for every input the law returns true; each argument reads behind the call as it read before'; 0 by the template 'total and deterministic' (their statements: YtogjehlepdapoaaTotals.lean).
  GIVEN WITH THE SEED: the statements are not yours to turn. If you find one false, say at which input.
  Laid BY PROGRAM, IN A SANDBOX (cutbox-rows.mjs): the forced cells as the released guide's own fill.sh prints them over the translation 5bd709ba70af0816… (all of the seat's roots in one cut). By AI agents, Wed Nov 11 2026. No macro, syntax, notation, axiom, sorry.
-/
import Derived.Test.YtogjehlepdapoaaChecked
import GoSem.Claim
import GoSem.ClaimJoined
import GoSem.ClaimMapViews
import Derived.JoinedTies
import Derived.KernelRfl
namespace Go.Proofs.Ytogjehlepdapoaa
/- THE CELL 'sum', in the pinned program and in every row, IS THE sha256 OF THE DUMP (.gsa) THAT YtogjehlepdapoaaProg.lean LOADS. Nothing in Lean hashes anything: it is a label: what it is worth is what the hold of that sum in a sandbox is worth. -/
noncomputable def Try.pinned : Pinned := { name := "ytogjehlepdapoaa", sum := "5bd709ba70af0816792c61a71af81d72d62d5acf18ef8976f8a4edb076a29b45", checked := Try.checked }
namespace Rows
def none {H : Type} : Left H := { results := [], args := [] }

/-- 'laws.FnTubes': WHATEVER THE INPUT: true; the input reads as it did. -/
def fnTubesSpec : ChangeSpec := { name := "fnTubes", fn := fun _ => fun
  | [d1, d2] => { results := [.lit (.bool true)], args := [d1, d2] }
  | _ => none }
def fnTubesRow : OpenClaim := { program := "ytogjehlepdapoaa", sum := "5bd709ba70af0816792c61a71af81d72d62d5acf18ef8976f8a4edb076a29b45", func := "loop.example/g01279/laws.FnTubes", spec := "fnTubes", inPlace := ["math.Float64bits", "math.Float64frombits", "math.Float32bits", "math.sqrt"], unfollowed := true, recurses := true, apart := false }
def FnTubesSaid : Prop := fnTubesRow.holds Try.pinned (OpenSpec.ofChange fnTubesSpec)

/-- ITS FALSE NEIGHBOUR: 'it returns false'. Refute it at one input. -/
def fnTubesWrong : ChangeSpec := { name := "fnTubes", fn := fun _ => fun
  | [d1, d2] => { results := [.lit (.bool false)], args := [d1, d2] }
  | _ => none }
def FnTubesWrongFalsely : Prop := fnTubesRow.holds Try.pinned (OpenSpec.ofChange fnTubesWrong)

/-- 'laws.FnWaves': WHATEVER THE INPUT: true; the input reads as it did. -/
def fnWavesSpec : ChangeSpec := { name := "fnWaves", fn := fun _ => fun
  | [d1, d2] => { results := [.lit (.bool true)], args := [d1, d2] }
  | _ => none }
def fnWavesRow : OpenClaim := { program := "ytogjehlepdapoaa", sum := "5bd709ba70af0816792c61a71af81d72d62d5acf18ef8976f8a4edb076a29b45", func := "loop.example/g01279/laws.FnWaves", spec := "fnWaves", inPlace := ["math.Float64bits", "math.Float64frombits", "math.Float32bits"], unfollowed := true, recurses := true, apart := false }
def FnWavesSaid : Prop := fnWavesRow.holds Try.pinned (OpenSpec.ofChange fnWavesSpec)

/-- ITS FALSE NEIGHBOUR: 'it returns false'. Refute it at one input. -/
def fnWavesWrong : ChangeSpec := { name := "fnWaves", fn := fun _ => fun
  | [d1, d2] => { results := [.lit (.bool false)], args := [d1, d2] }
  | _ => none }
def FnWavesWrongFalsely : Prop := fnWavesRow.holds Try.pinned (OpenSpec.ofChange fnWavesWrong)

/-- 'laws.FnResponses': WHATEVER THE INPUT: true; the input reads as it did. -/
def fnResponsesSpec : ChangeSpec := { name := "fnResponses", fn := fun _ => fun
  | [d1, d2] => { results := [.lit (.bool true)], args := [d1, d2] }
  | _ => none }
def fnResponsesRow : OpenClaim := { program := "ytogjehlepdapoaa", sum := "5bd709ba70af0816792c61a71af81d72d62d5acf18ef8976f8a4edb076a29b45", func := "loop.example/g01279/laws.FnResponses", spec := "fnResponses", inPlace := ["math.Float64bits", "math.Float64frombits", "math.Float32frombits", "math.sqrt"], unfollowed := true, recurses := true, apart := false }
def FnResponsesSaid : Prop := fnResponsesRow.holds Try.pinned (OpenSpec.ofChange fnResponsesSpec)

/-- ITS FALSE NEIGHBOUR: 'it returns false'. Refute it at one input. -/
def fnResponsesWrong : ChangeSpec := { name := "fnResponses", fn := fun _ => fun
  | [d1, d2] => { results := [.lit (.bool false)], args := [d1, d2] }
  | _ => none }
def FnResponsesWrongFalsely : Prop := fnResponsesRow.holds Try.pinned (OpenSpec.ofChange fnResponsesWrong)

/-- 'laws.FnExactValidTube': WHATEVER THE INPUT: true; the input reads as it did. -/
def fnExactValidTubeSpec : ChangeSpec := { name := "fnExactValidTube", fn := fun _ => fun
  | [d] => { results := [.lit (.bool true)], args := [d] }
  | _ => none }
def fnExactValidTubeRow : OpenClaim := { program := "ytogjehlepdapoaa", sum := "5bd709ba70af0816792c61a71af81d72d62d5acf18ef8976f8a4edb076a29b45", func := "loop.example/g01279/laws.FnExactValidTube", spec := "fnExactValidTube", inPlace := ["math.Float64bits", "math.Float64frombits"], apart := false }
def FnExactValidTubeSaid : Prop := fnExactValidTubeRow.holds Try.pinned (OpenSpec.ofChange fnExactValidTubeSpec)

/-- ITS FALSE NEIGHBOUR: 'it returns false'. Refute it at one input. -/
def fnExactValidTubeWrong : ChangeSpec := { name := "fnExactValidTube", fn := fun _ => fun
  | [d] => { results := [.lit (.bool false)], args := [d] }
  | _ => none }
def FnExactValidTubeWrongFalsely : Prop := fnExactValidTubeRow.holds Try.pinned (OpenSpec.ofChange fnExactValidTubeWrong)

/-- 'laws.FnExactSameTube': WHATEVER THE INPUT: true; the input reads as it did. -/
def fnExactSameTubeSpec : ChangeSpec := { name := "fnExactSameTube", fn := fun _ => fun
  | [d1, d2] => { results := [.lit (.bool true)], args := [d1, d2] }
  | _ => none }
def fnExactSameTubeRow : OpenClaim := { program := "ytogjehlepdapoaa", sum := "5bd709ba70af0816792c61a71af81d72d62d5acf18ef8976f8a4edb076a29b45", func := "loop.example/g01279/laws.FnExactSameTube", spec := "fnExactSameTube", inPlace := ["math.Float32bits"], unfollowed := true, recurses := true, apart := false }
def FnExactSameTubeSaid : Prop := fnExactSameTubeRow.holds Try.pinned (OpenSpec.ofChange fnExactSameTubeSpec)

/-- ITS FALSE NEIGHBOUR: 'it returns false'. Refute it at one input. -/
def fnExactSameTubeWrong : ChangeSpec := { name := "fnExactSameTube", fn := fun _ => fun
  | [d1, d2] => { results := [.lit (.bool false)], args := [d1, d2] }
  | _ => none }
def FnExactSameTubeWrongFalsely : Prop := fnExactSameTubeRow.holds Try.pinned (OpenSpec.ofChange fnExactSameTubeWrong)

/-- 'laws.FnExactEvenTube': WHATEVER THE INPUT: true; the input reads as it did. -/
def fnExactEvenTubeSpec : ChangeSpec := { name := "fnExactEvenTube", fn := fun _ => fun
  | [d1, d2] => { results := [.lit (.bool true)], args := [d1, d2] }
  | _ => none }
def fnExactEvenTubeRow : OpenClaim := { program := "ytogjehlepdapoaa", sum := "5bd709ba70af0816792c61a71af81d72d62d5acf18ef8976f8a4edb076a29b45", func := "loop.example/g01279/laws.FnExactEvenTube", spec := "fnExactEvenTube", inPlace := ["math.Float64bits", "math.Float64frombits"], apart := false }
def FnExactEvenTubeSaid : Prop := fnExactEvenTubeRow.holds Try.pinned (OpenSpec.ofChange fnExactEvenTubeSpec)

/-- ITS FALSE NEIGHBOUR: 'it returns false'. Refute it at one input. -/
def fnExactEvenTubeWrong : ChangeSpec := { name := "fnExactEvenTube", fn := fun _ => fun
  | [d1, d2] => { results := [.lit (.bool false)], args := [d1, d2] }
  | _ => none }
def FnExactEvenTubeWrongFalsely : Prop := fnExactEvenTubeRow.holds Try.pinned (OpenSpec.ofChange fnExactEvenTubeWrong)

/-- 'laws.FnExactHornTube': WHATEVER THE INPUT: true; the input reads as it did. -/
def fnExactHornTubeSpec : ChangeSpec := { name := "fnExactHornTube", fn := fun _ => fun
  | [d1, d2, d3] => { results := [.lit (.bool true)], args := [d1, d2, d3] }
  | _ => none }
def fnExactHornTubeRow : OpenClaim := { program := "ytogjehlepdapoaa", sum := "5bd709ba70af0816792c61a71af81d72d62d5acf18ef8976f8a4edb076a29b45", func := "loop.example/g01279/laws.FnExactHornTube", spec := "fnExactHornTube", inPlace := ["math.Float64bits", "math.Float64frombits"], apart := false }
def FnExactHornTubeSaid : Prop := fnExactHornTubeRow.holds Try.pinned (OpenSpec.ofChange fnExactHornTubeSpec)

/-- ITS FALSE NEIGHBOUR: 'it returns false'. Refute it at one input. -/
def fnExactHornTubeWrong : ChangeSpec := { name := "fnExactHornTube", fn := fun _ => fun
  | [d1, d2, d3] => { results := [.lit (.bool false)], args := [d1, d2, d3] }
  | _ => none }
def FnExactHornTubeWrongFalsely : Prop := fnExactHornTubeRow.holds Try.pinned (OpenSpec.ofChange fnExactHornTubeWrong)

/-- 'laws.FnExactSetEnds': WHATEVER THE INPUT: true; the input reads as it did. -/
def fnExactSetEndsSpec : ChangeSpec := { name := "fnExactSetEnds", fn := fun _ => fun
  | [d1, d2, d3, d4] => { results := [.lit (.bool true)], args := [d1, d2, d3, d4] }
  | _ => none }
def fnExactSetEndsRow : OpenClaim := { program := "ytogjehlepdapoaa", sum := "5bd709ba70af0816792c61a71af81d72d62d5acf18ef8976f8a4edb076a29b45", func := "loop.example/g01279/laws.FnExactSetEnds", spec := "fnExactSetEnds", inPlace := ["math.Float64bits", "math.Float64frombits"], apart := false }
def FnExactSetEndsSaid : Prop := fnExactSetEndsRow.holds Try.pinned (OpenSpec.ofChange fnExactSetEndsSpec)

/-- ITS FALSE NEIGHBOUR: 'it returns false'. Refute it at one input. -/
def fnExactSetEndsWrong : ChangeSpec := { name := "fnExactSetEnds", fn := fun _ => fun
  | [d1, d2, d3, d4] => { results := [.lit (.bool false)], args := [d1, d2, d3, d4] }
  | _ => none }
def FnExactSetEndsWrongFalsely : Prop := fnExactSetEndsRow.holds Try.pinned (OpenSpec.ofChange fnExactSetEndsWrong)

/-- 'laws.FnExactMixTubes': WHATEVER THE INPUT: true; the input reads as it did. -/
def fnExactMixTubesSpec : ChangeSpec := { name := "fnExactMixTubes", fn := fun _ => fun
  | [d1, d2, d3] => { results := [.lit (.bool true)], args := [d1, d2, d3] }
  | _ => none }
def fnExactMixTubesRow : OpenClaim := { program := "ytogjehlepdapoaa", sum := "5bd709ba70af0816792c61a71af81d72d62d5acf18ef8976f8a4edb076a29b45", func := "loop.example/g01279/laws.FnExactMixTubes", spec := "fnExactMixTubes", inPlace := ["math.Float64bits", "math.Float64frombits"], apart := false }
def FnExactMixTubesSaid : Prop := fnExactMixTubesRow.holds Try.pinned (OpenSpec.ofChange fnExactMixTubesSpec)

/-- ITS FALSE NEIGHBOUR: 'it returns false'. Refute it at one input. -/
def fnExactMixTubesWrong : ChangeSpec := { name := "fnExactMixTubes", fn := fun _ => fun
  | [d1, d2, d3] => { results := [.lit (.bool false)], args := [d1, d2, d3] }
  | _ => none }
def FnExactMixTubesWrongFalsely : Prop := fnExactMixTubesRow.holds Try.pinned (OpenSpec.ofChange fnExactMixTubesWrong)

/-- 'laws.FnExactScaleTube': WHATEVER THE INPUT: true; the input reads as it did. -/
def fnExactScaleTubeSpec : ChangeSpec := { name := "fnExactScaleTube", fn := fun _ => fun
  | [d1, d2] => { results := [.lit (.bool true)], args := [d1, d2] }
  | _ => none }
def fnExactScaleTubeRow : OpenClaim := { program := "ytogjehlepdapoaa", sum := "5bd709ba70af0816792c61a71af81d72d62d5acf18ef8976f8a4edb076a29b45", func := "loop.example/g01279/laws.FnExactScaleTube", spec := "fnExactScaleTube", inPlace := ["math.Float64bits", "math.Float64frombits"], apart := false }
def FnExactScaleTubeSaid : Prop := fnExactScaleTubeRow.holds Try.pinned (OpenSpec.ofChange fnExactScaleTubeSpec)

/-- ITS FALSE NEIGHBOUR: 'it returns false'. Refute it at one input. -/
def fnExactScaleTubeWrong : ChangeSpec := { name := "fnExactScaleTube", fn := fun _ => fun
  | [d1, d2] => { results := [.lit (.bool false)], args := [d1, d2] }
  | _ => none }
def FnExactScaleTubeWrongFalsely : Prop := fnExactScaleTubeRow.holds Try.pinned (OpenSpec.ofChange fnExactScaleTubeWrong)

/-- 'laws.FnExactBackTube': WHATEVER THE INPUT: true; the input reads as it did. -/
def fnExactBackTubeSpec : ChangeSpec := { name := "fnExactBackTube", fn := fun _ => fun
  | [d] => { results := [.lit (.bool true)], args := [d] }
  | _ => none }
def fnExactBackTubeRow : OpenClaim := { program := "ytogjehlepdapoaa", sum := "5bd709ba70af0816792c61a71af81d72d62d5acf18ef8976f8a4edb076a29b45", func := "loop.example/g01279/laws.FnExactBackTube", spec := "fnExactBackTube", inPlace := ["math.Float64bits", "math.Float64frombits"], apart := false }
def FnExactBackTubeSaid : Prop := fnExactBackTubeRow.holds Try.pinned (OpenSpec.ofChange fnExactBackTubeSpec)

/-- ITS FALSE NEIGHBOUR: 'it returns false'. Refute it at one input. -/
def fnExactBackTubeWrong : ChangeSpec := { name := "fnExactBackTube", fn := fun _ => fun
  | [d] => { results := [.lit (.bool false)], args := [d] }
  | _ => none }
def FnExactBackTubeWrongFalsely : Prop := fnExactBackTubeRow.holds Try.pinned (OpenSpec.ofChange fnExactBackTubeWrong)

/-- 'laws.FnExactJoinTubes': WHATEVER THE INPUT: true; the input reads as it did. -/
def fnExactJoinTubesSpec : ChangeSpec := { name := "fnExactJoinTubes", fn := fun _ => fun
  | [d1, d2] => { results := [.lit (.bool true)], args := [d1, d2] }
  | _ => none }
def fnExactJoinTubesRow : OpenClaim := { program := "ytogjehlepdapoaa", sum := "5bd709ba70af0816792c61a71af81d72d62d5acf18ef8976f8a4edb076a29b45", func := "loop.example/g01279/laws.FnExactJoinTubes", spec := "fnExactJoinTubes", inPlace := ["math.Float64bits", "math.Float64frombits"], apart := false }
def FnExactJoinTubesSaid : Prop := fnExactJoinTubesRow.holds Try.pinned (OpenSpec.ofChange fnExactJoinTubesSpec)

/-- ITS FALSE NEIGHBOUR: 'it returns false'. Refute it at one input. -/
def fnExactJoinTubesWrong : ChangeSpec := { name := "fnExactJoinTubes", fn := fun _ => fun
  | [d1, d2] => { results := [.lit (.bool false)], args := [d1, d2] }
  | _ => none }
def FnExactJoinTubesWrongFalsely : Prop := fnExactJoinTubesRow.holds Try.pinned (OpenSpec.ofChange fnExactJoinTubesWrong)

/- THE SECOND FORM. 'bulk': how many values and letters a reading holds, each counted each time it is reached (what is shared counts as often as it is met; a slice's spare places count too). A statement '..UptoSaid' is the law's where the arguments, and the package variables that the reading takes, are together of bulk at most 1048576: NARROWER than '..Said'. Prove '..Said' where nothing that the law and all that it calls make is longer than what came in: it says more and counts as full. Else prove '..UptoSaid'. A law counts once. -/
mutual
def uptoBulk {H : Type} : DataW H → Nat
  | .lit (.string bytes) => bytes.length + 1
  | .lit _ => 1
  | .nil => 1
  | .ptr d => uptoBulk d + 1
  | .slice elems spare => uptoBulkAll elems + uptoBulkAll spare + 1
  | .agg parts => uptoBulkAll parts + 1
  | .iface _ d => uptoBulk d + 1
  | .map entries => uptoBulkEntries entries + 1
  | .held _ => 1
def uptoBulkAll {H : Type} : List (DataW H) → Nat
  | [] => 0
  | d :: r => uptoBulk d + uptoBulkAll r
def uptoBulkEntries {H : Type} : List (Lit × DataW H) → Nat
  | [] => 0
  | x :: r => uptoBulkEntry x + uptoBulkEntries r
def uptoBulkEntry {H : Type} : Lit × DataW H → Nat
  | (.string bytes, d) => bytes.length + uptoBulk d + 1
  | (_, d) => uptoBulk d + 1
 end
def uptoSmall : (H : Type) → List (DataW H) → Bool := fun _ ds => decide (uptoBulkAll ds ≤ 1048576)
def OpenSpec.upto (s : _root_.Go.ChangeSpec) : _root_.Go.OpenSpec := { _root_.Go.OpenSpec.ofChange s with cond := some uptoSmall }

/-- 'laws.FnTubes', WHERE WHAT IT READS IS OF BULK AT MOST 1048576: true; the input reads as it did. -/
def fnTubesUptoRow : OpenClaim := { program := "ytogjehlepdapoaa", sum := "5bd709ba70af0816792c61a71af81d72d62d5acf18ef8976f8a4edb076a29b45", func := "loop.example/g01279/laws.FnTubes", spec := "fnTubes", inPlace := ["math.Float64bits", "math.Float64frombits", "math.Float32bits", "math.sqrt"], unfollowed := true, recurses := true, apart := false, narrowed := true }
def FnTubesUptoSaid : Prop := fnTubesUptoRow.holds Try.pinned (OpenSpec.upto fnTubesSpec)

/-- 'laws.FnWaves', WHERE WHAT IT READS IS OF BULK AT MOST 1048576: true; the input reads as it did. -/
def fnWavesUptoRow : OpenClaim := { program := "ytogjehlepdapoaa", sum := "5bd709ba70af0816792c61a71af81d72d62d5acf18ef8976f8a4edb076a29b45", func := "loop.example/g01279/laws.FnWaves", spec := "fnWaves", inPlace := ["math.Float64bits", "math.Float64frombits", "math.Float32bits"], unfollowed := true, recurses := true, apart := false, narrowed := true }
def FnWavesUptoSaid : Prop := fnWavesUptoRow.holds Try.pinned (OpenSpec.upto fnWavesSpec)

/-- 'laws.FnResponses', WHERE WHAT IT READS IS OF BULK AT MOST 1048576: true; the input reads as it did. -/
def fnResponsesUptoRow : OpenClaim := { program := "ytogjehlepdapoaa", sum := "5bd709ba70af0816792c61a71af81d72d62d5acf18ef8976f8a4edb076a29b45", func := "loop.example/g01279/laws.FnResponses", spec := "fnResponses", inPlace := ["math.Float64bits", "math.Float64frombits", "math.Float32frombits", "math.sqrt"], unfollowed := true, recurses := true, apart := false, narrowed := true }
def FnResponsesUptoSaid : Prop := fnResponsesUptoRow.holds Try.pinned (OpenSpec.upto fnResponsesSpec)

/-- 'laws.FnExactValidTube', WHERE WHAT IT READS IS OF BULK AT MOST 1048576: true; the input reads as it did. -/
def fnExactValidTubeUptoRow : OpenClaim := { program := "ytogjehlepdapoaa", sum := "5bd709ba70af0816792c61a71af81d72d62d5acf18ef8976f8a4edb076a29b45", func := "loop.example/g01279/laws.FnExactValidTube", spec := "fnExactValidTube", inPlace := ["math.Float64bits", "math.Float64frombits"], apart := false, narrowed := true }
def FnExactValidTubeUptoSaid : Prop := fnExactValidTubeUptoRow.holds Try.pinned (OpenSpec.upto fnExactValidTubeSpec)

/-- 'laws.FnExactSameTube', WHERE WHAT IT READS IS OF BULK AT MOST 1048576: true; the input reads as it did. -/
def fnExactSameTubeUptoRow : OpenClaim := { program := "ytogjehlepdapoaa", sum := "5bd709ba70af0816792c61a71af81d72d62d5acf18ef8976f8a4edb076a29b45", func := "loop.example/g01279/laws.FnExactSameTube", spec := "fnExactSameTube", inPlace := ["math.Float32bits"], unfollowed := true, recurses := true, apart := false, narrowed := true }
def FnExactSameTubeUptoSaid : Prop := fnExactSameTubeUptoRow.holds Try.pinned (OpenSpec.upto fnExactSameTubeSpec)

/-- 'laws.FnExactEvenTube', WHERE WHAT IT READS IS OF BULK AT MOST 1048576: true; the input reads as it did. -/
def fnExactEvenTubeUptoRow : OpenClaim := { program := "ytogjehlepdapoaa", sum := "5bd709ba70af0816792c61a71af81d72d62d5acf18ef8976f8a4edb076a29b45", func := "loop.example/g01279/laws.FnExactEvenTube", spec := "fnExactEvenTube", inPlace := ["math.Float64bits", "math.Float64frombits"], apart := false, narrowed := true }
def FnExactEvenTubeUptoSaid : Prop := fnExactEvenTubeUptoRow.holds Try.pinned (OpenSpec.upto fnExactEvenTubeSpec)

/-- 'laws.FnExactHornTube', WHERE WHAT IT READS IS OF BULK AT MOST 1048576: true; the input reads as it did. -/
def fnExactHornTubeUptoRow : OpenClaim := { program := "ytogjehlepdapoaa", sum := "5bd709ba70af0816792c61a71af81d72d62d5acf18ef8976f8a4edb076a29b45", func := "loop.example/g01279/laws.FnExactHornTube", spec := "fnExactHornTube", inPlace := ["math.Float64bits", "math.Float64frombits"], apart := false, narrowed := true }
def FnExactHornTubeUptoSaid : Prop := fnExactHornTubeUptoRow.holds Try.pinned (OpenSpec.upto fnExactHornTubeSpec)

/-- 'laws.FnExactSetEnds', WHERE WHAT IT READS IS OF BULK AT MOST 1048576: true; the input reads as it did. -/
def fnExactSetEndsUptoRow : OpenClaim := { program := "ytogjehlepdapoaa", sum := "5bd709ba70af0816792c61a71af81d72d62d5acf18ef8976f8a4edb076a29b45", func := "loop.example/g01279/laws.FnExactSetEnds", spec := "fnExactSetEnds", inPlace := ["math.Float64bits", "math.Float64frombits"], apart := false, narrowed := true }
def FnExactSetEndsUptoSaid : Prop := fnExactSetEndsUptoRow.holds Try.pinned (OpenSpec.upto fnExactSetEndsSpec)

/-- 'laws.FnExactMixTubes', WHERE WHAT IT READS IS OF BULK AT MOST 1048576: true; the input reads as it did. -/
def fnExactMixTubesUptoRow : OpenClaim := { program := "ytogjehlepdapoaa", sum := "5bd709ba70af0816792c61a71af81d72d62d5acf18ef8976f8a4edb076a29b45", func := "loop.example/g01279/laws.FnExactMixTubes", spec := "fnExactMixTubes", inPlace := ["math.Float64bits", "math.Float64frombits"], apart := false, narrowed := true }
def FnExactMixTubesUptoSaid : Prop := fnExactMixTubesUptoRow.holds Try.pinned (OpenSpec.upto fnExactMixTubesSpec)

/-- 'laws.FnExactScaleTube', WHERE WHAT IT READS IS OF BULK AT MOST 1048576: true; the input reads as it did. -/
def fnExactScaleTubeUptoRow : OpenClaim := { program := "ytogjehlepdapoaa", sum := "5bd709ba70af0816792c61a71af81d72d62d5acf18ef8976f8a4edb076a29b45", func := "loop.example/g01279/laws.FnExactScaleTube", spec := "fnExactScaleTube", inPlace := ["math.Float64bits", "math.Float64frombits"], apart := false, narrowed := true }
def FnExactScaleTubeUptoSaid : Prop := fnExactScaleTubeUptoRow.holds Try.pinned (OpenSpec.upto fnExactScaleTubeSpec)

/-- 'laws.FnExactBackTube', WHERE WHAT IT READS IS OF BULK AT MOST 1048576: true; the input reads as it did. -/
def fnExactBackTubeUptoRow : OpenClaim := { program := "ytogjehlepdapoaa", sum := "5bd709ba70af0816792c61a71af81d72d62d5acf18ef8976f8a4edb076a29b45", func := "loop.example/g01279/laws.FnExactBackTube", spec := "fnExactBackTube", inPlace := ["math.Float64bits", "math.Float64frombits"], apart := false, narrowed := true }
def FnExactBackTubeUptoSaid : Prop := fnExactBackTubeUptoRow.holds Try.pinned (OpenSpec.upto fnExactBackTubeSpec)

/-- 'laws.FnExactJoinTubes', WHERE WHAT IT READS IS OF BULK AT MOST 1048576: true; the input reads as it did. -/
def fnExactJoinTubesUptoRow : OpenClaim := { program := "ytogjehlepdapoaa", sum := "5bd709ba70af0816792c61a71af81d72d62d5acf18ef8976f8a4edb076a29b45", func := "loop.example/g01279/laws.FnExactJoinTubes", spec := "fnExactJoinTubes", inPlace := ["math.Float64bits", "math.Float64frombits"], apart := false, narrowed := true }
def FnExactJoinTubesUptoSaid : Prop := fnExactJoinTubesUptoRow.holds Try.pinned (OpenSpec.upto fnExactJoinTubesSpec)

end Rows
end Go.Proofs.Ytogjehlepdapoaa

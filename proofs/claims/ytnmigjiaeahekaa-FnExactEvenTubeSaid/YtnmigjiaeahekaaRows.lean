/-
  No cell of these rows narrows 'for every input' (looked for: loops, veiled, ifaces, maps, wideKeys, modest, calm, conditions, laid).
  DERIVED. THE GIVEN ROWS OF THIS SEAT. 12 by the template 'for every input the law returns true; each argument reads behind the call as it read before'; 0 by the template 'total and deterministic' (their statements: YtnmigjiaeahekaaTotals.lean).
  GIVEN WITH THE SEED: the statements are not yours to turn. If you find one false, say at which input.
  Laid BY PROGRAM, IN A SANDBOX (cutbox-rows.mjs): the forced cells as the released guide's own fill.sh prints them over the translation 455f4fb3b644db4c… (all of the seat's roots in one cut). By AI agents, Wed Nov 11 2026. No macro, syntax, notation, axiom, sorry.
-/
import Derived.Test.YtnmigjiaeahekaaChecked
import GoSem.Claim
import GoSem.ClaimJoined
import GoSem.ClaimMapViews
import Derived.JoinedTies
import Derived.KernelRfl
namespace Go.Proofs.Ytnmigjiaeahekaa
/- THE CELL 'sum', in the pinned program and in every row, IS THE sha256 OF THE DUMP (.gsa) THAT YtnmigjiaeahekaaProg.lean LOADS. Nothing in Lean hashes anything: it is a label: what it is worth is what the hold of that sum in a sandbox is worth. -/
noncomputable def Try.pinned : Pinned := { name := "ytnmigjiaeahekaa", sum := "455f4fb3b644db4c750afde1386d0f808921bccc9773b282f673f108f2f8f882", checked := Try.checked }
namespace Rows
def none {H : Type} : Left H := { results := [], args := [] }

/-- 'laws.FnExactJoinTubes': WHATEVER THE INPUT: true; the input reads as it did. -/
def fnExactJoinTubesSpec : ChangeSpec := { name := "fnExactJoinTubes", fn := fun _ => fun
  | [d1, d2] => { results := [.lit (.bool true)], args := [d1, d2] }
  | _ => none }
def fnExactJoinTubesRow : OpenClaim := { program := "ytnmigjiaeahekaa", sum := "455f4fb3b644db4c750afde1386d0f808921bccc9773b282f673f108f2f8f882", func := "loop.example/g01279/laws.FnExactJoinTubes", spec := "fnExactJoinTubes", inPlace := ["math.Float64bits", "math.Float64frombits"], apart := false }
def FnExactJoinTubesSaid : Prop := fnExactJoinTubesRow.holds Try.pinned (OpenSpec.ofChange fnExactJoinTubesSpec)

/-- ITS FALSE NEIGHBOUR: 'it returns false'. Refute it at one input. -/
def fnExactJoinTubesWrong : ChangeSpec := { name := "fnExactJoinTubes", fn := fun _ => fun
  | [d1, d2] => { results := [.lit (.bool false)], args := [d1, d2] }
  | _ => none }
def FnExactJoinTubesWrongFalsely : Prop := fnExactJoinTubesRow.holds Try.pinned (OpenSpec.ofChange fnExactJoinTubesWrong)

/-- 'laws.FnExactBackTube': WHATEVER THE INPUT: true; the input reads as it did. -/
def fnExactBackTubeSpec : ChangeSpec := { name := "fnExactBackTube", fn := fun _ => fun
  | [d] => { results := [.lit (.bool true)], args := [d] }
  | _ => none }
def fnExactBackTubeRow : OpenClaim := { program := "ytnmigjiaeahekaa", sum := "455f4fb3b644db4c750afde1386d0f808921bccc9773b282f673f108f2f8f882", func := "loop.example/g01279/laws.FnExactBackTube", spec := "fnExactBackTube", inPlace := ["math.Float64bits", "math.Float64frombits"], apart := false }
def FnExactBackTubeSaid : Prop := fnExactBackTubeRow.holds Try.pinned (OpenSpec.ofChange fnExactBackTubeSpec)

/-- ITS FALSE NEIGHBOUR: 'it returns false'. Refute it at one input. -/
def fnExactBackTubeWrong : ChangeSpec := { name := "fnExactBackTube", fn := fun _ => fun
  | [d] => { results := [.lit (.bool false)], args := [d] }
  | _ => none }
def FnExactBackTubeWrongFalsely : Prop := fnExactBackTubeRow.holds Try.pinned (OpenSpec.ofChange fnExactBackTubeWrong)

/-- 'laws.FnExactEvenTube': WHATEVER THE INPUT: true; the input reads as it did. -/
def fnExactEvenTubeSpec : ChangeSpec := { name := "fnExactEvenTube", fn := fun _ => fun
  | [d1, d2] => { results := [.lit (.bool true)], args := [d1, d2] }
  | _ => none }
def fnExactEvenTubeRow : OpenClaim := { program := "ytnmigjiaeahekaa", sum := "455f4fb3b644db4c750afde1386d0f808921bccc9773b282f673f108f2f8f882", func := "loop.example/g01279/laws.FnExactEvenTube", spec := "fnExactEvenTube", inPlace := ["math.Float64bits", "math.Float64frombits"], apart := false }
def FnExactEvenTubeSaid : Prop := fnExactEvenTubeRow.holds Try.pinned (OpenSpec.ofChange fnExactEvenTubeSpec)

/-- ITS FALSE NEIGHBOUR: 'it returns false'. Refute it at one input. -/
def fnExactEvenTubeWrong : ChangeSpec := { name := "fnExactEvenTube", fn := fun _ => fun
  | [d1, d2] => { results := [.lit (.bool false)], args := [d1, d2] }
  | _ => none }
def FnExactEvenTubeWrongFalsely : Prop := fnExactEvenTubeRow.holds Try.pinned (OpenSpec.ofChange fnExactEvenTubeWrong)

/-- 'laws.FnExactMixTubes': WHATEVER THE INPUT: true; the input reads as it did. -/
def fnExactMixTubesSpec : ChangeSpec := { name := "fnExactMixTubes", fn := fun _ => fun
  | [d1, d2, d3] => { results := [.lit (.bool true)], args := [d1, d2, d3] }
  | _ => none }
def fnExactMixTubesRow : OpenClaim := { program := "ytnmigjiaeahekaa", sum := "455f4fb3b644db4c750afde1386d0f808921bccc9773b282f673f108f2f8f882", func := "loop.example/g01279/laws.FnExactMixTubes", spec := "fnExactMixTubes", inPlace := ["math.Float64bits", "math.Float64frombits"], apart := false }
def FnExactMixTubesSaid : Prop := fnExactMixTubesRow.holds Try.pinned (OpenSpec.ofChange fnExactMixTubesSpec)

/-- ITS FALSE NEIGHBOUR: 'it returns false'. Refute it at one input. -/
def fnExactMixTubesWrong : ChangeSpec := { name := "fnExactMixTubes", fn := fun _ => fun
  | [d1, d2, d3] => { results := [.lit (.bool false)], args := [d1, d2, d3] }
  | _ => none }
def FnExactMixTubesWrongFalsely : Prop := fnExactMixTubesRow.holds Try.pinned (OpenSpec.ofChange fnExactMixTubesWrong)

/-- 'laws.FnExactAddWaves': WHATEVER THE INPUT: true; the input reads as it did. -/
def fnExactAddWavesSpec : ChangeSpec := { name := "fnExactAddWaves", fn := fun _ => fun
  | [d1, d2, d3] => { results := [.lit (.bool true)], args := [d1, d2, d3] }
  | _ => none }
def fnExactAddWavesRow : OpenClaim := { program := "ytnmigjiaeahekaa", sum := "455f4fb3b644db4c750afde1386d0f808921bccc9773b282f673f108f2f8f882", func := "loop.example/g01279/laws.FnExactAddWaves", spec := "fnExactAddWaves", inPlace := ["math.Float64bits", "math.Float64frombits"], apart := false }
def FnExactAddWavesSaid : Prop := fnExactAddWavesRow.holds Try.pinned (OpenSpec.ofChange fnExactAddWavesSpec)

/-- ITS FALSE NEIGHBOUR: 'it returns false'. Refute it at one input. -/
def fnExactAddWavesWrong : ChangeSpec := { name := "fnExactAddWaves", fn := fun _ => fun
  | [d1, d2, d3] => { results := [.lit (.bool false)], args := [d1, d2, d3] }
  | _ => none }
def FnExactAddWavesWrongFalsely : Prop := fnExactAddWavesRow.holds Try.pinned (OpenSpec.ofChange fnExactAddWavesWrong)

/-- 'laws.FnExactReflectionsOf': WHATEVER THE INPUT: true; the input reads as it did. -/
def fnExactReflectionsOfSpec : ChangeSpec := { name := "fnExactReflectionsOf", fn := fun _ => fun
  | [d] => { results := [.lit (.bool true)], args := [d] }
  | _ => none }
def fnExactReflectionsOfRow : OpenClaim := { program := "ytnmigjiaeahekaa", sum := "455f4fb3b644db4c750afde1386d0f808921bccc9773b282f673f108f2f8f882", func := "loop.example/g01279/laws.FnExactReflectionsOf", spec := "fnExactReflectionsOf", inPlace := ["math.Float64bits", "math.Float64frombits"], apart := false }
def FnExactReflectionsOfSaid : Prop := fnExactReflectionsOfRow.holds Try.pinned (OpenSpec.ofChange fnExactReflectionsOfSpec)

/-- ITS FALSE NEIGHBOUR: 'it returns false'. Refute it at one input. -/
def fnExactReflectionsOfWrong : ChangeSpec := { name := "fnExactReflectionsOf", fn := fun _ => fun
  | [d] => { results := [.lit (.bool false)], args := [d] }
  | _ => none }
def FnExactReflectionsOfWrongFalsely : Prop := fnExactReflectionsOfRow.holds Try.pinned (OpenSpec.ofChange fnExactReflectionsOfWrong)

/-- 'laws.FnExactStepWaves': WHATEVER THE INPUT: true; the input reads as it did. -/
def fnExactStepWavesSpec : ChangeSpec := { name := "fnExactStepWaves", fn := fun _ => fun
  | [d1, d2, d3] => { results := [.lit (.bool true)], args := [d1, d2, d3] }
  | _ => none }
def fnExactStepWavesRow : OpenClaim := { program := "ytnmigjiaeahekaa", sum := "455f4fb3b644db4c750afde1386d0f808921bccc9773b282f673f108f2f8f882", func := "loop.example/g01279/laws.FnExactStepWaves", spec := "fnExactStepWaves", inPlace := ["math.Float64bits", "math.Float64frombits"], unfollowed := true, recurses := true, apart := false }
def FnExactStepWavesSaid : Prop := fnExactStepWavesRow.holds Try.pinned (OpenSpec.ofChange fnExactStepWavesSpec)

/-- ITS FALSE NEIGHBOUR: 'it returns false'. Refute it at one input. -/
def fnExactStepWavesWrong : ChangeSpec := { name := "fnExactStepWaves", fn := fun _ => fun
  | [d1, d2, d3] => { results := [.lit (.bool false)], args := [d1, d2, d3] }
  | _ => none }
def FnExactStepWavesWrongFalsely : Prop := fnExactStepWavesRow.holds Try.pinned (OpenSpec.ofChange fnExactStepWavesWrong)

/-- 'laws.FnExactRunWaves': WHATEVER THE INPUT: true; the input reads as it did. -/
def fnExactRunWavesSpec : ChangeSpec := { name := "fnExactRunWaves", fn := fun _ => fun
  | [d1, d2, d3] => { results := [.lit (.bool true)], args := [d1, d2, d3] }
  | _ => none }
def fnExactRunWavesRow : OpenClaim := { program := "ytnmigjiaeahekaa", sum := "455f4fb3b644db4c750afde1386d0f808921bccc9773b282f673f108f2f8f882", func := "loop.example/g01279/laws.FnExactRunWaves", spec := "fnExactRunWaves", inPlace := ["math.Float64bits", "math.Float64frombits"], unfollowed := true, recurses := true, apart := false }
def FnExactRunWavesSaid : Prop := fnExactRunWavesRow.holds Try.pinned (OpenSpec.ofChange fnExactRunWavesSpec)

/-- ITS FALSE NEIGHBOUR: 'it returns false'. Refute it at one input. -/
def fnExactRunWavesWrong : ChangeSpec := { name := "fnExactRunWaves", fn := fun _ => fun
  | [d1, d2, d3] => { results := [.lit (.bool false)], args := [d1, d2, d3] }
  | _ => none }
def FnExactRunWavesWrongFalsely : Prop := fnExactRunWavesRow.holds Try.pinned (OpenSpec.ofChange fnExactRunWavesWrong)

/-- 'laws.FnExactResponseOf': WHATEVER THE INPUT: true; the input reads as it did. -/
def fnExactResponseOfSpec : ChangeSpec := { name := "fnExactResponseOf", fn := fun _ => fun
  | [d1, d2] => { results := [.lit (.bool true)], args := [d1, d2] }
  | _ => none }
def fnExactResponseOfRow : OpenClaim := { program := "ytnmigjiaeahekaa", sum := "455f4fb3b644db4c750afde1386d0f808921bccc9773b282f673f108f2f8f882", func := "loop.example/g01279/laws.FnExactResponseOf", spec := "fnExactResponseOf", inPlace := ["math.Float32frombits", "math.Float64frombits", "math.Float64bits"], apart := false }
def FnExactResponseOfSaid : Prop := fnExactResponseOfRow.holds Try.pinned (OpenSpec.ofChange fnExactResponseOfSpec)

/-- ITS FALSE NEIGHBOUR: 'it returns false'. Refute it at one input. -/
def fnExactResponseOfWrong : ChangeSpec := { name := "fnExactResponseOf", fn := fun _ => fun
  | [d1, d2] => { results := [.lit (.bool false)], args := [d1, d2] }
  | _ => none }
def FnExactResponseOfWrongFalsely : Prop := fnExactResponseOfRow.holds Try.pinned (OpenSpec.ofChange fnExactResponseOfWrong)

/-- 'laws.FnExactResponsesOf': WHATEVER THE INPUT: true; the input reads as it did. -/
def fnExactResponsesOfSpec : ChangeSpec := { name := "fnExactResponsesOf", fn := fun _ => fun
  | [d1, d2] => { results := [.lit (.bool true)], args := [d1, d2] }
  | _ => none }
def fnExactResponsesOfRow : OpenClaim := { program := "ytnmigjiaeahekaa", sum := "455f4fb3b644db4c750afde1386d0f808921bccc9773b282f673f108f2f8f882", func := "loop.example/g01279/laws.FnExactResponsesOf", spec := "fnExactResponsesOf", inPlace := ["math.Float32frombits", "math.Float64frombits", "math.sqrt", "math.Float64bits"], apart := false }
def FnExactResponsesOfSaid : Prop := fnExactResponsesOfRow.holds Try.pinned (OpenSpec.ofChange fnExactResponsesOfSpec)

/-- ITS FALSE NEIGHBOUR: 'it returns false'. Refute it at one input. -/
def fnExactResponsesOfWrong : ChangeSpec := { name := "fnExactResponsesOf", fn := fun _ => fun
  | [d1, d2] => { results := [.lit (.bool false)], args := [d1, d2] }
  | _ => none }
def FnExactResponsesOfWrongFalsely : Prop := fnExactResponsesOfRow.holds Try.pinned (OpenSpec.ofChange fnExactResponsesOfWrong)

/-- 'laws.FnExactPeaksOf': WHATEVER THE INPUT: true; the input reads as it did. -/
def fnExactPeaksOfSpec : ChangeSpec := { name := "fnExactPeaksOf", fn := fun _ => fun
  | [d] => { results := [.lit (.bool true)], args := [d] }
  | _ => none }
def fnExactPeaksOfRow : OpenClaim := { program := "ytnmigjiaeahekaa", sum := "455f4fb3b644db4c750afde1386d0f808921bccc9773b282f673f108f2f8f882", func := "loop.example/g01279/laws.FnExactPeaksOf", spec := "fnExactPeaksOf", inPlace := ["math.Float64bits", "math.Float64frombits"], apart := false }
def FnExactPeaksOfSaid : Prop := fnExactPeaksOfRow.holds Try.pinned (OpenSpec.ofChange fnExactPeaksOfSpec)

/-- ITS FALSE NEIGHBOUR: 'it returns false'. Refute it at one input. -/
def fnExactPeaksOfWrong : ChangeSpec := { name := "fnExactPeaksOf", fn := fun _ => fun
  | [d] => { results := [.lit (.bool false)], args := [d] }
  | _ => none }
def FnExactPeaksOfWrongFalsely : Prop := fnExactPeaksOfRow.holds Try.pinned (OpenSpec.ofChange fnExactPeaksOfWrong)

/-- 'laws.FnExactFormantsOf': WHATEVER THE INPUT: true; the input reads as it did. -/
def fnExactFormantsOfSpec : ChangeSpec := { name := "fnExactFormantsOf", fn := fun _ => fun
  | [d1, d2, d3] => { results := [.lit (.bool true)], args := [d1, d2, d3] }
  | _ => none }
def fnExactFormantsOfRow : OpenClaim := { program := "ytnmigjiaeahekaa", sum := "455f4fb3b644db4c750afde1386d0f808921bccc9773b282f673f108f2f8f882", func := "loop.example/g01279/laws.FnExactFormantsOf", spec := "fnExactFormantsOf", inPlace := ["math.Float32frombits", "math.Float64frombits", "math.sqrt", "math.Float64bits"], apart := false }
def FnExactFormantsOfSaid : Prop := fnExactFormantsOfRow.holds Try.pinned (OpenSpec.ofChange fnExactFormantsOfSpec)

/-- ITS FALSE NEIGHBOUR: 'it returns false'. Refute it at one input. -/
def fnExactFormantsOfWrong : ChangeSpec := { name := "fnExactFormantsOf", fn := fun _ => fun
  | [d1, d2, d3] => { results := [.lit (.bool false)], args := [d1, d2, d3] }
  | _ => none }
def FnExactFormantsOfWrongFalsely : Prop := fnExactFormantsOfRow.holds Try.pinned (OpenSpec.ofChange fnExactFormantsOfWrong)

/- THE SECOND FORM. 'bulk': how many values and letters a reading holds, each counted each time it is reached (what is shared counts as often as it is met; a slice's spare places count too). A statement '..UptoSaid' is the law's where the arguments, and the package variables that the reading takes, are together of bulk at most 1048576: NARROWER than '..Said'. Prove '..Said' where nothing that the law and all that it calls make is longer than what came in: it says more and counts as full. Else prove '..UptoSaid'. A law counts once. -/
mutual
def uptoBulk {H : Type} : DataW H → Nat
  | .lit (.string bytes) => bytes.length + 1
  | .lit _ => 1
  | .nil => 1
  | .ptr d => uptoBulk d + 1
  | .slice elems spare => uptoBulkAll elems + uptoBulkAll spare + 1
  | .agg parts => uptoBulkAll parts + 1
  | .iface _ d => uptoBulk d + 1
  | .map entries => uptoBulkEntries entries + 1
  | .held _ => 1
def uptoBulkAll {H : Type} : List (DataW H) → Nat
  | [] => 0
  | d :: r => uptoBulk d + uptoBulkAll r
def uptoBulkEntries {H : Type} : List (Lit × DataW H) → Nat
  | [] => 0
  | x :: r => uptoBulkEntry x + uptoBulkEntries r
def uptoBulkEntry {H : Type} : Lit × DataW H → Nat
  | (.string bytes, d) => bytes.length + uptoBulk d + 1
  | (_, d) => uptoBulk d + 1
 end
def uptoSmall : (H : Type) → List (DataW H) → Bool := fun _ ds => decide (uptoBulkAll ds ≤ 1048576)
def OpenSpec.upto (s : _root_.Go.ChangeSpec) : _root_.Go.OpenSpec := { _root_.Go.OpenSpec.ofChange s with cond := some uptoSmall }

/-- 'laws.FnExactJoinTubes', WHERE WHAT IT READS IS OF BULK AT MOST 1048576: true; the input reads as it did. -/
def fnExactJoinTubesUptoRow : OpenClaim := { program := "ytnmigjiaeahekaa", sum := "455f4fb3b644db4c750afde1386d0f808921bccc9773b282f673f108f2f8f882", func := "loop.example/g01279/laws.FnExactJoinTubes", spec := "fnExactJoinTubes", inPlace := ["math.Float64bits", "math.Float64frombits"], apart := false, narrowed := true }
def FnExactJoinTubesUptoSaid : Prop := fnExactJoinTubesUptoRow.holds Try.pinned (OpenSpec.upto fnExactJoinTubesSpec)

/-- 'laws.FnExactBackTube', WHERE WHAT IT READS IS OF BULK AT MOST 1048576: true; the input reads as it did. -/
def fnExactBackTubeUptoRow : OpenClaim := { program := "ytnmigjiaeahekaa", sum := "455f4fb3b644db4c750afde1386d0f808921bccc9773b282f673f108f2f8f882", func := "loop.example/g01279/laws.FnExactBackTube", spec := "fnExactBackTube", inPlace := ["math.Float64bits", "math.Float64frombits"], apart := false, narrowed := true }
def FnExactBackTubeUptoSaid : Prop := fnExactBackTubeUptoRow.holds Try.pinned (OpenSpec.upto fnExactBackTubeSpec)

/-- 'laws.FnExactEvenTube', WHERE WHAT IT READS IS OF BULK AT MOST 1048576: true; the input reads as it did. -/
def fnExactEvenTubeUptoRow : OpenClaim := { program := "ytnmigjiaeahekaa", sum := "455f4fb3b644db4c750afde1386d0f808921bccc9773b282f673f108f2f8f882", func := "loop.example/g01279/laws.FnExactEvenTube", spec := "fnExactEvenTube", inPlace := ["math.Float64bits", "math.Float64frombits"], apart := false, narrowed := true }
def FnExactEvenTubeUptoSaid : Prop := fnExactEvenTubeUptoRow.holds Try.pinned (OpenSpec.upto fnExactEvenTubeSpec)

/-- 'laws.FnExactMixTubes', WHERE WHAT IT READS IS OF BULK AT MOST 1048576: true; the input reads as it did. -/
def fnExactMixTubesUptoRow : OpenClaim := { program := "ytnmigjiaeahekaa", sum := "455f4fb3b644db4c750afde1386d0f808921bccc9773b282f673f108f2f8f882", func := "loop.example/g01279/laws.FnExactMixTubes", spec := "fnExactMixTubes", inPlace := ["math.Float64bits", "math.Float64frombits"], apart := false, narrowed := true }
def FnExactMixTubesUptoSaid : Prop := fnExactMixTubesUptoRow.holds Try.pinned (OpenSpec.upto fnExactMixTubesSpec)

/-- 'laws.FnExactAddWaves', WHERE WHAT IT READS IS OF BULK AT MOST 1048576: true; the input reads as it did. -/
def fnExactAddWavesUptoRow : OpenClaim := { program := "ytnmigjiaeahekaa", sum := "455f4fb3b644db4c750afde1386d0f808921bccc9773b282f673f108f2f8f882", func := "loop.example/g01279/laws.FnExactAddWaves", spec := "fnExactAddWaves", inPlace := ["math.Float64bits", "math.Float64frombits"], apart := false, narrowed := true }
def FnExactAddWavesUptoSaid : Prop := fnExactAddWavesUptoRow.holds Try.pinned (OpenSpec.upto fnExactAddWavesSpec)

/-- 'laws.FnExactReflectionsOf', WHERE WHAT IT READS IS OF BULK AT MOST 1048576: true; the input reads as it did. -/
def fnExactReflectionsOfUptoRow : OpenClaim := { program := "ytnmigjiaeahekaa", sum := "455f4fb3b644db4c750afde1386d0f808921bccc9773b282f673f108f2f8f882", func := "loop.example/g01279/laws.FnExactReflectionsOf", spec := "fnExactReflectionsOf", inPlace := ["math.Float64bits", "math.Float64frombits"], apart := false, narrowed := true }
def FnExactReflectionsOfUptoSaid : Prop := fnExactReflectionsOfUptoRow.holds Try.pinned (OpenSpec.upto fnExactReflectionsOfSpec)

/-- 'laws.FnExactStepWaves', WHERE WHAT IT READS IS OF BULK AT MOST 1048576: true; the input reads as it did. -/
def fnExactStepWavesUptoRow : OpenClaim := { program := "ytnmigjiaeahekaa", sum := "455f4fb3b644db4c750afde1386d0f808921bccc9773b282f673f108f2f8f882", func := "loop.example/g01279/laws.FnExactStepWaves", spec := "fnExactStepWaves", inPlace := ["math.Float64bits", "math.Float64frombits"], unfollowed := true, recurses := true, apart := false, narrowed := true }
def FnExactStepWavesUptoSaid : Prop := fnExactStepWavesUptoRow.holds Try.pinned (OpenSpec.upto fnExactStepWavesSpec)

/-- 'laws.FnExactRunWaves', WHERE WHAT IT READS IS OF BULK AT MOST 1048576: true; the input reads as it did. -/
def fnExactRunWavesUptoRow : OpenClaim := { program := "ytnmigjiaeahekaa", sum := "455f4fb3b644db4c750afde1386d0f808921bccc9773b282f673f108f2f8f882", func := "loop.example/g01279/laws.FnExactRunWaves", spec := "fnExactRunWaves", inPlace := ["math.Float64bits", "math.Float64frombits"], unfollowed := true, recurses := true, apart := false, narrowed := true }
def FnExactRunWavesUptoSaid : Prop := fnExactRunWavesUptoRow.holds Try.pinned (OpenSpec.upto fnExactRunWavesSpec)

/-- 'laws.FnExactResponseOf', WHERE WHAT IT READS IS OF BULK AT MOST 1048576: true; the input reads as it did. -/
def fnExactResponseOfUptoRow : OpenClaim := { program := "ytnmigjiaeahekaa", sum := "455f4fb3b644db4c750afde1386d0f808921bccc9773b282f673f108f2f8f882", func := "loop.example/g01279/laws.FnExactResponseOf", spec := "fnExactResponseOf", inPlace := ["math.Float32frombits", "math.Float64frombits", "math.Float64bits"], apart := false, narrowed := true }
def FnExactResponseOfUptoSaid : Prop := fnExactResponseOfUptoRow.holds Try.pinned (OpenSpec.upto fnExactResponseOfSpec)

/-- 'laws.FnExactResponsesOf', WHERE WHAT IT READS IS OF BULK AT MOST 1048576: true; the input reads as it did. -/
def fnExactResponsesOfUptoRow : OpenClaim := { program := "ytnmigjiaeahekaa", sum := "455f4fb3b644db4c750afde1386d0f808921bccc9773b282f673f108f2f8f882", func := "loop.example/g01279/laws.FnExactResponsesOf", spec := "fnExactResponsesOf", inPlace := ["math.Float32frombits", "math.Float64frombits", "math.sqrt", "math.Float64bits"], apart := false, narrowed := true }
def FnExactResponsesOfUptoSaid : Prop := fnExactResponsesOfUptoRow.holds Try.pinned (OpenSpec.upto fnExactResponsesOfSpec)

/-- 'laws.FnExactPeaksOf', WHERE WHAT IT READS IS OF BULK AT MOST 1048576: true; the input reads as it did. -/
def fnExactPeaksOfUptoRow : OpenClaim := { program := "ytnmigjiaeahekaa", sum := "455f4fb3b644db4c750afde1386d0f808921bccc9773b282f673f108f2f8f882", func := "loop.example/g01279/laws.FnExactPeaksOf", spec := "fnExactPeaksOf", inPlace := ["math.Float64bits", "math.Float64frombits"], apart := false, narrowed := true }
def FnExactPeaksOfUptoSaid : Prop := fnExactPeaksOfUptoRow.holds Try.pinned (OpenSpec.upto fnExactPeaksOfSpec)

/-- 'laws.FnExactFormantsOf', WHERE WHAT IT READS IS OF BULK AT MOST 1048576: true; the input reads as it did. -/
def fnExactFormantsOfUptoRow : OpenClaim := { program := "ytnmigjiaeahekaa", sum := "455f4fb3b644db4c750afde1386d0f808921bccc9773b282f673f108f2f8f882", func := "loop.example/g01279/laws.FnExactFormantsOf", spec := "fnExactFormantsOf", inPlace := ["math.Float32frombits", "math.Float64frombits", "math.sqrt", "math.Float64bits"], apart := false, narrowed := true }
def FnExactFormantsOfUptoSaid : Prop := fnExactFormantsOfUptoRow.holds Try.pinned (OpenSpec.upto fnExactFormantsOfSpec)

end Rows
end Go.Proofs.Ytnmigjiaeahekaa

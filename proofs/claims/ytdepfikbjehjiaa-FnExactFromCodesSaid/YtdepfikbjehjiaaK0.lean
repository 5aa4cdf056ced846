/- The words of the numbers of codes, computed. -/
import Derived.Test.YtdepfikbjehjiaaExp
import Derived.Test.YtdepfikbjehjiaaPowC
namespace Go.Proofs.Ytdepfikbjehjiaa
open Go.RowKit Flt
set_option linter.unusedVariables false

/-- the words of the numbers of the codes from 128 on -/
def fromW : List Nat := [0, 959939974, 968596974, 974118944, 977546581, 981127192, 983167374, 985121049, 987161917, 989293869, 990688354, 991851604, 993066769, 994336164, 995662216, 997047447, 998369427, 999125245, 999914795, 1000739583, 1001601183, 1002501234, 1003441457, 1004423640, 1005449658, 1006521468, 1007137036, 1007721844, 1008332751, 1008970923, 1009637576, 1010333981, 1011061471, 1011821425, 1012615297, 1013444598, 1014310914, 1015118730, 1015591412, 1016085192, 1016601008, 1017139846, 1017702732, 1018290739, 1018904992, 1019546655, 1020216959, 1020917177, 1021648645, 1022412758, 1023210974, 1023727495, 1024163023, 1024617987, 1025093260, 1025589741, 1026108381, 1026650167, 1027216133, 1027807358, 1028424970, 1029070146, 1029744116, 1030448165, 1031183641, 1031875360, 1032276652, 1032695854, 1033133765, 1033591220, 1034069090, 1034568289, 1035089769, 1035634521, 1036203585, 1036798046, 1037419038, 1038067744, 1038745403, 1039453305, 1040190097, 1040576346, 1040979834, 1041401331, 1041841641, 1042301600, 1042782086, 1043284016, 1043808350, 1044356083, 1044928261, 1045525976, 1046150370, 1046802623, 1047483994, 1048195767, 1048757658, 1049146019, 1049551717, 1049975518, 1050418237, 1050880711, 1051363829, 1051868503, 1052395708, 1052946441, 1053521747, 1054122736, 1054750547, 1055406370, 1056091470, 1056807139, 1057259682, 1057650169, 1058058087, 1058484208, 1058929350, 1059394354, 1059880117, 1060387554, 1060917643, 1061471390, 1062049845, 1062654123, 1063285362, 1063944782, 1064633624, 1065353216]
def fromX (n : Nat) : Option Nat := fop .mul .f32 (some 1085370904) (fop .quo .f32 (some (floatOfInt .f32 (n : Int))) (some 1123942400))
def fromQ (E : Option Nat) : Option Nat := fop .quo .f32 (fop .sub .f32 E (some 1065353216)) (some 1132396544)
def fromOk (n : Nat) : Bool := (fromX n).isSome && !fcmp .gtr (ford .f32 (fromX n) (some 1128792064)) && !fcmp .lss (ford .f32 (fromX n) (some 3276275712)) &&
  !fcmp .gtr (ford .f64 (fwide (fromX n)) (some 4641240890982006784)) && !fcmp .lss (ford .f64 (fwide (fromX n)) (some 13864612927836782592)) && !fcmp .neq (ford .f64 (fwide (fromX n)) (fwide (fromX n))) &&
  fitsB (expC (fwide (fromX n))) && (fromQ (fnar (expC (fwide (fromX n)))) == some (fromW.getD n 0))
set_option maxRecDepth 1000000 in
theorem from_all : ((List.range 128).all fun (k : Nat) => fromOk k) = true := by kernel_rfl
structure FromFacts (n : Nat) : Prop where
  s : (fromX n).isSome = true
  g : fcmp .gtr (ford .f32 (fromX n) (some 1128792064)) = false
  l : fcmp .lss (ford .f32 (fromX n) (some 3276275712)) = false
  g2 : fcmp .gtr (ford .f64 (fwide (fromX n)) (some 4641240890982006784)) = false
  l2 : fcmp .lss (ford .f64 (fwide (fromX n)) (some 13864612927836782592)) = false
  n2 : fcmp .neq (ford .f64 (fwide (fromX n)) (fwide (fromX n))) = false
  f : fits (expC (fwide (fromX n)))
  r : fromQ (fnar (expC (fwide (fromX n)))) = some (fromW.getD n 0)
theorem from_facts {n : Nat} (h : n < 128) : FromFacts n := by
  have := List.all_eq_true.1 from_all n (List.mem_range.2 h)
  simp only [fromOk, Bool.and_eq_true, Bool.not_eq_true', beq_iff_eq] at this
  obtain ⟨⟨⟨⟨⟨⟨⟨h1, h2⟩, h3⟩, h4⟩, h5⟩, h6⟩, h7⟩, h8⟩ := this
  exact ⟨h1, h2, h3, h4, h5, h6, fits_of_B h7, h8⟩
/-- the number of a code -/
def fromV (c : Int) : Nat := if c < 128 then Op.negFloat .f32 (fromW.getD (min (128 - c) 127).toNat 0) else fromW.getD (min (c - 128) 127).toNat 0

end Go.Proofs.Ytdepfikbjehjiaa

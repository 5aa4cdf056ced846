/- Powers and logarithms at eighths, computed. -/
import Derived.Test.YtdepfikbjehjiaaExp
import Derived.Test.YtdepfikbjehjiaaLogC
import Derived.KernelRfl
namespace Go.Proofs.Ytdepfikbjehjiaa
open Go.RowKit Flt Ieee

/-- an eighth of an integer -/
def xw (n : Int) : Option Nat := fop .quo .f32 (some (floatOfInt .f32 n)) (some 1090519040)
def fitsB (x : Option Nat) : Bool := match x with | none => true | some b => !(FloatKind.f32.format.read (nar b)).isInfinity
theorem fits_of_B {x : Option Nat} (h : fitsB x = true) : fits x := by
  intro b hb
  subst hb
  right
  simpa [fitsB] using h
def stopsB (X : Option Nat) (N M : Nat) : Bool := ((List.range N).all fun k => fcmp .geq (ford .f64 (itC halC k X) (some 4609434218613702656))) && !fcmp .geq (ford .f64 (itC halC N X) (some 4609434218613702656)) &&
  ((List.range M).all fun k => fcmp .lss (ford .f64 (itC dblC k (itC halC N X)) (some 4604930618986332160))) && !fcmp .lss (ford .f64 (itC dblC M (itC halC N X)) (some 4604930618986332160))
theorem stops_of_B {X : Option Nat} {N M : Nat} (h : stopsB X N M = true) : stops X N M := by
  simp only [stopsB, Bool.and_eq_true, List.all_eq_true, List.mem_range, Bool.not_eq_true'] at h
  exact ⟨h.1.1.1, h.1.1.2, h.1.2, h.2⟩

/-- the words of e to the eighths from -8 to 8 -/
def pw : List Nat := [967827720, 969362444, 971101513, 973072137, 974191837, 975457003, 976890623, 978515128, 980355933, 981954487, 983136307, 984475485, 985992972, 987712511, 989661003, 990862339, 992113296, 993530815, 995137075, 996957207, 998632019, 999800566, 1001124704, 1002625149, 1004325375, 1006251984, 1007534039, 1008770946, 1010172546, 1011760767, 1013560457, 1015310670, 1016466094, 1017775360, 1019258954, 1020940085, 1022845057, 1024206924, 1025429940, 1026815799, 1028386182, 1030165660, 1031990428, 1033132876, 1034427438, 1035894369, 1037556620, 1039440198, 1040880981, 1042090262, 1043460556, 1045013303, 1046772796, 1048671281, 1049800898, 1051080921, 1052531378, 1054174960, 1056037383, 1057556197, 1058751896, 1060106801, 1061642109, 1063381841, 1065353216, 1066470146, 1067735794, 1069169961, 1070795084, 1072636591, 1074232558, 1075414828, 1076754516, 1078272582, 1079992775, 1081942010, 1083140607, 1084392041, 1085810101, 1087416973, 1089237798, 1090910051, 1092079044, 1093403686, 1094904703, 1096605577, 1098532920, 1099812267, 1101049646, 1102451780, 1104040606, 1105840981, 1107588665, 1108744529, 1110054295, 1111538453, 1113220225, 1115125923, 1116485113, 1117708595, 1119094981, 1120665963, 1122446119, 1124268386, 1125411269, 1126706325, 1128173815, 1129836699, 1131720994, 1133159130, 1134368872, 1135739688, 1137293027, 1139053190, 1140949202, 1142079249, 1143359761, 1144810770, 1146454979, 1148318112, 1149834307, 1151030462, 1152385883, 1153921776, 1155662171, 1157631101, 1158748457, 1160014587, 1161449300]
def pwAt (n : Int) : Option Nat := some (pw.getD (n + 64).toNat 0)
/-- how often the loops go, and the logarithm's word, from -4 to 4 -/
def lw : List (Nat × Nat × Nat) := [(0, (6, 3229614080)), (0, (6, 3229089792)), (0, (5, 3228565504)), (0, (5, 3228041216)), (0, (5, 3227516928)), (0, (5, 3226992640)), (0, (5, 3226468352)), (0, (5, 3225944064)), (0, (4, 3225419776)), (0, (4, 3224895488)), (0, (4, 3224371200)), (0, (4, 3223846912)), (0, (4, 3223322624)), (0, (4, 3222798336)), (0, (3, 3222274048)), (0, (3, 3221749760)), (0, (3, 3221225472)), (0, (3, 3220176896)), (0, (3, 3219128320)), (0, (2, 3218079744)), (0, (2, 3217031168)), (0, (2, 3215982592)), (0, (2, 3214934016)), (0, (2, 3213885440)), (0, (2, 3212836864)), (0, (1, 3210739712)), (0, (1, 3208642560)), (0, (1, 3206545407)), (0, (1, 3204448256)), (0, (1, 3200253951)), (0, (0, 3196059648)), (0, (0, 3187671041)), (0, (0, 0)), (0, (0, 1040187389)), (0, (0, 1048576000)), (0, (0, 1052770305)), (1, (0, 1056964607)), (1, (0, 1059061760)), (1, (0, 1061158913)), (1, (0, 1063256064)), (1, (0, 1065353215)), (2, (0, 1066401792)), (2, (0, 1067450368)), (2, (0, 1068498944)), (2, (0, 1069547520)), (2, (0, 1070596096)), (2, (0, 1071644672)), (3, (0, 1072693248)), (3, (0, 1073741824)), (3, (0, 1074266112)), (3, (0, 1074790400)), (3, (0, 1075314688)), (4, (0, 1075838976)), (4, (0, 1076363264)), (4, (0, 1076887552)), (4, (0, 1077411840)), (4, (0, 1077936128)), (4, (0, 1078460416)), (5, (0, 1078984704)), (5, (0, 1079508992)), (5, (0, 1080033280)), (5, (0, 1080557568)), (5, (0, 1081081856)), (6, (0, 1081606144)), (6, (0, 1082130432))]
def lwAt (n : Int) : Nat × Nat × Nat := lw.getD (n + 32).toNat (0, 0, 0)

/-- all that is asked where e is raised to 'n' eighths -/
def expB (X : Option Nat) (r : Option Nat) : Bool := X.isSome && !fcmp .gtr (ford .f32 X (some 1128792064)) && !fcmp .lss (ford .f32 X (some 3276275712)) && fitsB (expC (fwide X)) && (fnar (expC (fwide X)) == r)
def logB (A : Option Nat) (N M : Nat) (r : Option Nat) : Bool := A.isSome && !fcmp .lss (ford .f32 A (some 0)) && !fcmp .eql (ford .f32 A (some 0)) && fin32 A && decide (N ≤ 200) && decide (M ≤ 200) && stopsB (fwide A) N M && fitsB (logC (fwide A) N M) && (fnar (logC (fwide A) N M) == r)
def fgap (A B : Option Nat) : Option Nat := if fcmp .lss (ford .f64 A B) then fop .sub .f64 B A else fop .sub .f64 A B
def oneB (n : Int) : Bool := fcmp .lss (ford .f64 (fgap (fwide (some (lwAt n).2.2)) (fwide (xw n))) (some 4562254508917369340)) && fcmp .gtr (ford .f32 (pwAt n) (some 0))
def pairB (n m : Int) : Bool := (fop .add .f32 (xw n) (xw m) == xw (n + m)) &&
  fcmp .lss (ford .f64 (fgap (fop .mul .f64 (fwide (pwAt n)) (fwide (pwAt m))) (fwide (pwAt (n + m)))) (fop .mul .f64 (some 4562254508917369340) (fwide (pwAt (n + m)))))

set_option maxRecDepth 1000000
theorem exp_all : ((List.range 129).all fun (k : Nat) => expB (xw ((k : Int) - 64)) (pwAt ((k : Int) - 64))) = true := by kernel_rfl
theorem log_all : ((List.range 65).all fun (k : Nat) => logB (pwAt ((k : Int) - 32)) (lwAt ((k : Int) - 32)).1 (lwAt ((k : Int) - 32)).2.1 (some (lwAt ((k : Int) - 32)).2.2)) = true := by kernel_rfl
theorem one_all : ((List.range 65).all fun (k : Nat) => oneB ((k : Int) - 32)) = true := by kernel_rfl
theorem end_exp : expB (some 0) (some 1065353216) = true := by kernel_rfl
theorem end_log : logB (some 1065353216) (lwAt 0).1 (lwAt 0).2.1 (some 0) = true := by kernel_rfl
end Go.Proofs.Ytdepfikbjehjiaa

/- The pairs of eighths, computed. -/
import Derived.Test.YtlgamkbonpjchacPowC
namespace Go.Proofs.Ytlgamkbonpjchac
open Go.RowKit Flt Ieee
set_option maxRecDepth 1000000
theorem pair_0 : (((List.range 5).drop 0).all fun (i : Nat) => (List.range 65).all fun (j : Nat) => pairB ((i : Int) - 32) ((j : Int) - 32)) = true := by kernel_rfl
theorem pair_1 : (((List.range 10).drop 5).all fun (i : Nat) => (List.range 65).all fun (j : Nat) => pairB ((i : Int) - 32) ((j : Int) - 32)) = true := by kernel_rfl
theorem pair_2 : (((List.range 15).drop 10).all fun (i : Nat) => (List.range 65).all fun (j : Nat) => pairB ((i : Int) - 32) ((j : Int) - 32)) = true := by kernel_rfl
theorem pair_3 : (((List.range 20).drop 15).all fun (i : Nat) => (List.range 65).all fun (j : Nat) => pairB ((i : Int) - 32) ((j : Int) - 32)) = true := by kernel_rfl
theorem pair_4 : (((List.range 25).drop 20).all fun (i : Nat) => (List.range 65).all fun (j : Nat) => pairB ((i : Int) - 32) ((j : Int) - 32)) = true := by kernel_rfl
theorem pair_5 : (((List.range 30).drop 25).all fun (i : Nat) => (List.range 65).all fun (j : Nat) => pairB ((i : Int) - 32) ((j : Int) - 32)) = true := by kernel_rfl
theorem pair_6 : (((List.range 35).drop 30).all fun (i : Nat) => (List.range 65).all fun (j : Nat) => pairB ((i : Int) - 32) ((j : Int) - 32)) = true := by kernel_rfl
theorem pair_7 : (((List.range 40).drop 35).all fun (i : Nat) => (List.range 65).all fun (j : Nat) => pairB ((i : Int) - 32) ((j : Int) - 32)) = true := by kernel_rfl
theorem pair_8 : (((List.range 45).drop 40).all fun (i : Nat) => (List.range 65).all fun (j : Nat) => pairB ((i : Int) - 32) ((j : Int) - 32)) = true := by kernel_rfl
theorem pair_9 : (((List.range 50).drop 45).all fun (i : Nat) => (List.range 65).all fun (j : Nat) => pairB ((i : Int) - 32) ((j : Int) - 32)) = true := by kernel_rfl
theorem pair_10 : (((List.range 55).drop 50).all fun (i : Nat) => (List.range 65).all fun (j : Nat) => pairB ((i : Int) - 32) ((j : Int) - 32)) = true := by kernel_rfl
theorem pair_11 : (((List.range 60).drop 55).all fun (i : Nat) => (List.range 65).all fun (j : Nat) => pairB ((i : Int) - 32) ((j : Int) - 32)) = true := by kernel_rfl
theorem pair_12 : (((List.range 65).drop 60).all fun (i : Nat) => (List.range 65).all fun (j : Nat) => pairB ((i : Int) - 32) ((j : Int) - 32)) = true := by kernel_rfl
end Go.Proofs.Ytlgamkbonpjchac

/- Tubes that open. -/
import Derived.Test.YthinjgiakaflpabT8
namespace Go.Proofs.Ythinjgiakaflpab
open Go.RowKit Flt
set_option linter.unusedVariables false

def betC (f t s : Option Nat) : Option Nat := fop .add .f32 f (fop .mul .f32 (fop .sub .f32 t f) s)
def shC (k N : Nat) : Option Nat := fop .quo .f32 (some (floatOfInt .f32 (k : Int))) (some (floatOfInt .f32 ((N : Int) - 1)))
def hornC (f t : Option Nat) (N k : Nat) : List (Option Nat) := (List.range k).map fun i => betC f t (shC i N)
theorem horn_snoc (f t : Option Nat) (N k : Nat) : hornC f t N (k + 1) = hornC f t N k ++ [betC f t (shC k N)] := by simp [hornC, List.range_succ]
def plainT (cs : List (Option Nat)) : TR := giveT cs (cls .f32 1065353216) (cls .f32 1061158912) (cls .f32 3210739712)
def hornT (N : Int) (f t : Option Nat) : TR := if 2 ≤ N ∧ N ≤ 16 then plainT (hornC f t N.toNat N.toNat) else zeroT
theorem horn_len (N : Int) (f t : Option Nat) : (hornT N f t).cs.length ≤ 16 := by
  unfold hornT
  split
  · exact give_len _ _ _ _
  · exact Nat.zero_le _
theorem sh_zero (N : Nat) (h1 : 2 ≤ N) (h2 : N ≤ 16) : shC 0 N = some 0 := by
  have : N = 2 ∨ N = 3 ∨ N = 4 ∨ N = 5 ∨ N = 6 ∨ N = 7 ∨ N = 8 ∨ N = 9 ∨ N = 10 ∨ N = 11 ∨ N = 12 ∨ N = 13 ∨ N = 14 ∨ N = 15 ∨ N = 16 := by omega
  rcases this with rfl | rfl | rfl | rfl | rfl | rfl | rfl | rfl | rfl | rfl | rfl | rfl | rfl | rfl | rfl
  all_goals decide +kernel
/-- an infinity, or no number -/
def wild (x : Option Nat) : Prop := x = none ∨ ∃ b s, x = some b ∧ FloatKind.f32.format.read b = .infinity s
theorem wild_of {x : Option Nat} (h : fin32 x = false) : wild x := by
  cases x with
  | none => exact .inl rfl
  | some b =>
    right
    simp only [fin32, Bool.not_eq_false'] at h
    cases hd : FloatKind.f32.format.read b with
    | infinity s => exact ⟨b, s, rfl, hd⟩
    | number s m e => rw [hd] at h; simp [Ieee.Datum.isInfinity] at h
    | nan s t => rw [hd] at h; simp [Ieee.Datum.isInfinity] at h
theorem read_inf (s : Bool) : FloatKind.f32.format.read (FloatKind.f32.format.write (.infinity s)) = .infinity s := by cases s <;> decide
theorem wild_sum {x y : Nat} {d : Ieee.Datum} (hy : (∃ s, FloatKind.f32.format.read x = .infinity s) ∨ (∃ s, d = .infinity s)) : wild (((FloatKind.f32.format.read x).sum d).map FloatKind.f32.format.write) := by
  rcases hy with ⟨s, h⟩ | ⟨s, rfl⟩
  · rw [h]
    cases d with
    | number t m e => exact .inr ⟨_, s, rfl, read_inf s⟩
    | infinity t =>
      cases s <;> cases t
      · exact .inr ⟨_, false, rfl, read_inf false⟩
      · exact .inl rfl
      · exact .inl rfl
      · exact .inr ⟨_, true, rfl, read_inf true⟩
    | nan t q => exact .inl rfl
  · cases hx : FloatKind.f32.format.read x with
    | number t m e => exact .inr ⟨_, s, rfl, read_inf s⟩
    | infinity t =>
      cases s <;> cases t
      · exact .inr ⟨_, false, rfl, read_inf false⟩
      · exact .inl rfl
      · exact .inl rfl
      · exact .inr ⟨_, true, rfl, read_inf true⟩
    | nan t q => exact .inl rfl
theorem wild_sub {x y : Option Nat} (h : wild x ∨ wild y) : wild (fop .sub .f32 x y) := by
  cases x with
  | none => exact .inl rfl
  | some a =>
    cases y with
    | none => exact .inl rfl
    | some b =>
      show wild (floatBits .sub .f32 a b)
      have e : floatBits .sub .f32 a b = ((FloatKind.f32.format.read a).sum (FloatKind.f32.format.read b).opposite).map FloatKind.f32.format.write := rfl
      rw [e]
      refine wild_sum (y := b) ?_
      rcases h with h | h
      · rcases h with h | ⟨c, s, hc, hr⟩
        · cases h
        · cases hc; exact .inl ⟨s, hr⟩
      · rcases h with h | ⟨c, s, hc, hr⟩
        · cases h
        · cases hc; right; rw [hr]; exact ⟨!s, rfl⟩
theorem wild_zero {x : Option Nat} (h : wild x) : fop .mul .f32 x (some 0) = none := by
  rcases h with rfl | ⟨b, s, rfl, hr⟩
  · rfl
  · show floatBits .mul .f32 b 0 = none
    have e : floatBits .mul .f32 b 0 = ((FloatKind.f32.format.read b).product (FloatKind.f32.format.read 0)).map FloatKind.f32.format.write := rfl
    have e0 : FloatKind.f32.format.read 0 = .number false 0 (-149) := by decide
    rw [e, hr, e0]; cases s <;> rfl
theorem fop_none_right (op : BinOp) (k : FloatKind) (x : Option Nat) : fop op k x none = none := by cases x <;> rfl
theorem horn_wild {N : Int} {f t : Option Nat} (h1 : 2 ≤ N) (h2 : N ≤ 16) (h : fin32 f = false ∨ fin32 t = false) : hornT N f t = zeroT := by
  unfold hornT
  rw [if_pos ⟨h1, h2⟩]
  unfold plainT giveT
  rw [if_neg]
  have hw : wild (fop .sub .f32 t f) := wild_sub (by rcases h with h | h; exact .inr (wild_of h); exact .inl (wild_of h))
  have hb : betC f t (shC 0 N.toNat) = none := by
    unfold betC
    rw [sh_zero _ (by omega) (by omega), wild_zero hw, fop_none_right]
  have hm : none ∈ hornC f t N.toNat N.toNat := by
    unfold hornC
    rw [List.mem_map]
    exact ⟨0, by rw [List.mem_range]; omega, hb⟩
  have ha : areasC (hornC f t N.toNat N.toNat) = false := by
    unfold areasC
    have : (hornC f t N.toNat N.toNat).all areaC = false := by
      rw [List.all_eq_false]
      exact ⟨none, hm, by decide⟩
    rw [this]; simp
  unfold tubeC
  rw [ha]; simp
theorem own_snoc10 {w : World} {B k : Nat} {v : Value} {ys : List Nat} {r : Nat} (h : w.ownsRow B 22 1 v (k + 1) (ys.map (Value.float .f32) ++ [.float .f32 r])) : Own w B (k + 1) v (ys ++ [r]) := by
  unfold Own; simpa using h
theorem between_any (a b s : Nat) (S : Option Nat) (hS : Is .f32 s S) (w : World) : Calls Try.prog 154 #[.float .f32 a, .float .f32 b, .float .f32 s] w fun e w' => ∃ r, e = .returned (.float .f32 r) ∧ Is .f32 r (betC (cls .f32 a) (cls .f32 b) S) ∧ ∃ m, w' = w.drewN m := by
  go_enter Try.func154, Try.ntmps154
  go_wp2_with (refine wpList_fa rfl rfl rfl rfl rfl (by first | assumption | exact is_const (by decide) | exact is_int _ | exact is_self _ _) (by first | assumption | exact is_const (by decide) | exact is_int _ | exact is_self _ _) ?_; intro r m hr hrw)
  go_ret
  exact ⟨_, rfl, hr, _, rfl⟩

end Go.Proofs.Ythinjgiakaflpab
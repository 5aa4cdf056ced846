/- The logarithm of both packages. -/
import Derived.Test.YtlgamkbonpjchacLog
import Derived.Test.YtlgamkbonpjchacNum2
import Derived.Test.YtlgamkbonpjchacSineT
import Derived.Test.YtlgamkbonpjchacIs
namespace Go.Proofs.Ytlgamkbonpjchac
open Go.RowKit Flt

theorem mathInf_neg (w : World) : Calls Try.prog 63 #[.int .i64 (-1)] w fun e w' => e = .returned (.float .f64 18442240474082181120) ∧ w = w' := by
  go_enter Try.func63, Try.ntmps63
  go_wp2
  go_ret
  exact ⟨rfl, rfl⟩
theorem isInf_up (b : Nat) (X : Option Nat) (hX : Is .f64 b X) (w : World) : Calls Try.prog 74 #[.float .f64 b, .int .i64 1] w fun e w' => e = .returned (.bool (fcmp .gtr (ford .f64 X (some 9218868437227405311)))) ∧ w = w' := by
  go_enter Try.func74, Try.ntmps74
  go_wp2_with (refine wpList_fcmp rfl rfl rfl rfl rfl hX (is_const (by decide)) ?_)
  go_ret
  exact ⟨rfl, rfl⟩

theorem inf_word (b : Nat) (hb : b < 4294967296) (s : Bool) (h : FloatKind.f32.format.read b = .infinity s) : b = 2139095040 ∨ b = 4286578688 := by
  have hS : FloatKind.f32.format.signWeight = 2147483648 := by decide
  have hI : FloatKind.f32.format.infRung = 2139095040 := by decide
  unfold Ieee.Format.read at h
  dsimp only at h
  rw [hS, hI] at h
  split at h
  · cases h
  · split at h
    · cases h
    · split at h
      · rename_i h3
        have h3 : b % 2147483648 = 2139095040 := by simpa using h3
        omega
      · cases h

theorem pos_rg {c : Option Nat} (hf : fin32 c = true) (hx : ∀ b, c = some b → nanW .f32 b = false) (hL : fcmp .lss (ford .f64 (fwide c) (some 0)) = false) (hE : fcmp .eql (ford .f64 (fwide c) (some 0)) = false) : rg (fwide c) (-149) 200 := by
  cases c with
  | none => cases hf
  | some b =>
    rcases wide_read b (hx b rfl) with ⟨s, h1, _⟩ | ⟨s, m, e, m', e', h1, h2, hm2, he, he2, he3, hv⟩
    · simp only [fin32, h1] at hf; cases hf
    · have hm0 : m' ≠ 0 := by
        rintro rfl
        have := zero_of (wide b) s e' h2 he3
        change fcmp .eql (ford .f64 (some (wide b)) (some 0)) = false at hE
        rw [this] at hE; cases hE
      have hs : s = false := by
        cases s with
        | false => rfl
        | true =>
          exfalso
          have e1 : ford .f64 (some (wide b)) (some 0) = some .lt := by
            show FloatKind.f64.format.order (wide b) 0 = _
            have h0 : FloatKind.f64.format.read 0 = .number false 0 (-1074) := by decide
            unfold Ieee.Format.order
            rw [h2, h0, order_num true false m' 0 e' (-1074) (-1074) he3 (by omega)]
            have hp : 0 < m' * 2 ^ (e' - -1074).toNat := Nat.mul_pos (Nat.pos_of_ne_zero hm0) (Nat.two_pow_pos _)
            have es : Ieee.signed true m' (e' - -1074).toNat = -((m' * 2 ^ (e' - -1074).toNat : Nat) : Int) := by unfold Ieee.signed; rw [Nat.shiftLeft_eq]; rfl
            have ez : Ieee.signed false 0 (-1074 - -1074 : Int).toNat = 0 := by unfold Ieee.signed; simp
            rw [es, ez]
            generalize m' * 2 ^ (e' - -1074).toNat = A at hp
            rw [compare_lt (by omega)]
          change fcmp .lss (ford .f64 (some (wide b)) (some 0)) = false at hL
          rw [e1] at hL; cases hL
      subst hs
      obtain ⟨B, hB⟩ := base_ex
      have hv2 := hv B (by omega)
      have es : ∀ a u, Ieee.signed false a u = ((a * 2 ^ u : Nat) : Int) := fun a u => by unfold Ieee.signed; rw [Nat.shiftLeft_eq]; rfl
      rw [es, es] at hv2
      have hv3 : m' * 2 ^ (e' - B).toNat = m * 2 ^ (e - B).toNat := by exact_mod_cast hv2
      have hmm : m ≠ 0 := by
        rintro rfl
        rw [Nat.zero_mul] at hv3
        have : 0 < m' * 2 ^ (e' - B).toNat := Nat.mul_pos (Nat.pos_of_ne_zero hm0) (Nat.two_pow_pos _)
        omega
      refine ⟨wide b, m', e', rfl, h2, he3, ge_iff (B := B) (by omega) (by omega) ?_, le_of (B := B) (by omega) (by omega) ?_⟩
      · rw [hv3]
        refine Nat.le_trans (Nat.pow_le_pow_right (by omega) (show (-149 - B).toNat ≤ (e - B).toNat by omega)) ?_
        exact Nat.le_mul_of_pos_left _ (Nat.pos_of_ne_zero hmm)
      · rw [hv3]
        refine Nat.le_trans (Nat.mul_le_mul_right _ (Nat.le_of_lt hm2)) ?_
        rw [← Nat.pow_add]
        exact Nat.pow_le_pow_right (by omega) (by omega)

theorem self_eq {X : Option Nat} (h : isNum X) : fcmp .neq (ford .f64 X X) = false := by
  obtain ⟨b, s, m, i, rfl, h2, h3⟩ := h
  have e1 : ford .f64 (some b) (some b) = some .eq := by
    show FloatKind.f64.format.order b b = _
    unfold Ieee.Format.order
    rw [h2, order_num s s m m i i (-1074) h3 h3, compare_eq rfl]
  rw [e1]; rfl
theorem rg_max {X : Option Nat} {f : Int} (h : rg X f 200) : fcmp .gtr (ford .f64 X (some 9218868437227405311)) = false := by
  obtain ⟨b, m, i, rfl, h2, h3, _, h5⟩ := h
  have hm : FloatKind.f64.format.read 9218868437227405311 = .number false (2 ^ 53 - 1) 971 := by decide
  rw [gtr_val b _ m _ i _ h2 h3 hm (by omega)]
  apply decide_eq_false
  have h6 := leP_scale h5 (show (-1074 : Int) ≤ i by omega) (show (-1074 : Int) ≤ 200 by omega)
  have h7 : 2 ^ (200 - -1074 : Int).toNat ≤ (2 ^ 53 - 1) * 2 ^ (971 - -1074 : Int).toNat := by
    refine Nat.le_trans (Nat.pow_le_pow_right (by omega) (show (200 - -1074 : Int).toNat ≤ (971 - -1074 : Int).toNat by omega)) ?_
    exact Nat.le_mul_of_pos_left _ (by decide)
  exact Nat.not_lt_of_le (Nat.le_trans h6 h7)

end Go.Proofs.Ytlgamkbonpjchac

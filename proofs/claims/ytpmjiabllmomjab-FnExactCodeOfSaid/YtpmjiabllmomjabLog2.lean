/- The logarithm of both packages. -/
import Derived.Test.YtpmjiabllmomjabLog
import Derived.Test.YtpmjiabllmomjabNum2
import Derived.Test.YtpmjiabllmomjabSineT
import Derived.Test.YtpmjiabllmomjabIs
namespace Go.Proofs.Ytpmjiabllmomjab
open Go.RowKit Flt

theorem mathNaN_any (w : World) : Calls Try.prog 150 #[] w fun e w' => e = .returned (.float .f64 9221120237041090561) ∧ w = w' := by
  go_enter Try.func150, Try.ntmps150
  go_wp2
  go_ret
  exact ⟨rfl, rfl⟩
theorem mathInf_neg (w : World) : Calls Try.prog 120 #[.int .i64 (-1)] w fun e w' => e = .returned (.float .f64 18442240474082181120) ∧ w = w' := by
  go_enter Try.func120, Try.ntmps120
  go_wp2
  go_ret
  exact ⟨rfl, rfl⟩
theorem isInf_up (b : Nat) (X : Option Nat) (hX : Is .f64 b X) (w : World) : Calls Try.prog 141 #[.float .f64 b, .int .i64 1] w fun e w' => e = .returned (.bool (fcmp .gtr (ford .f64 X (some 9218868437227405311)))) ∧ w = w' := by
  go_enter Try.func141, Try.ntmps141
  go_wp2_with (refine wpList_fcmp rfl rfl rfl rfl rfl hX (is_const (by decide)) ?_)
  go_ret
  exact ⟨rfl, rfl⟩

theorem inf_word (b : Nat) (hb : b < 4294967296) (s : Bool) (h : FloatKind.f32.format.read b = .infinity s) : b = 2139095040 ∨ b = 4286578688 := by
  have hS : FloatKind.f32.format.signWeight = 2147483648 := by decide
  have hI : FloatKind.f32.format.infRung = 2139095040 := by decide
  unfold Ieee.Format.read at h
  dsimp only at h
  rw [hS, hI] at h
  split at h
  · cases h
  · split at h
    · cases h
    · split at h
      · rename_i h3
        have h3 : b % 2147483648 = 2139095040 := by simpa using h3
        omega
      · cases h

theorem pos_rg {c : Option Nat} (hf : fin32 c = true) (hx : ∀ b, c = some b → nanW .f32 b = false) (hL : fcmp .lss (ford .f64 (fwide c) (some 0)) = false) (hE : fcmp .eql (ford .f64 (fwide c) (some 0)) = false) : rg (fwide c) (-149) 200 := by
  cases c with
  | none => cases hf
  | some b =>
    rcases wide_read b (hx b rfl) with ⟨s, h1, _⟩ | ⟨s, m, e, m', e', h1, h2, hm2, he, he2, he3, hv⟩
    · simp only [fin32, h1] at hf; cases hf
    · have hm0 : m' ≠ 0 := by
        rintro rfl
        have := zero_of (wide b) s e' h2 he3
        change fcmp .eql (ford .f64 (some (wide b)) (some 0)) = false at hE
        rw [this] at hE; cases hE
      have hs : s = false := by
        cases s with
        | false => rfl
        | true =>
          exfalso
          have e1 : ford .f64 (some (wide b)) (some 0) = some .lt := by
            show FloatKind.f64.format.order (wide b) 0 = _
            have h0 : FloatKind.f64.format.read 0 = .number false 0 (-1074) := by decide
            unfold Ieee.Format.order
            rw [h2, h0, order_num true false m' 0 e' (-1074) (-1074) he3 (by omega)]
            have hp : 0 < m' * 2 ^ (e' - -1074).toNat := Nat.mul_pos (Nat.pos_of_ne_zero hm0) (Nat.two_pow_pos _)
            have es : Ieee.signed true m' (e' - -1074).toNat = -((m' * 2 ^ (e' - -1074).toNat : Nat) : Int) := by unfold Ieee.signed; rw [Nat.shiftLeft_eq]; rfl
            have ez : Ieee.signed false 0 (-1074 - -1074 : Int).toNat = 0 := by unfold Ieee.signed; simp
            rw [es, ez]
            generalize m' * 2 ^ (e' - -1074).toNat = A at hp
            rw [compare_lt (by omega)]
          change fcmp .lss (ford .f64 (some (wide b)) (some 0)) = false at hL
          rw [e1] at hL; cases hL
      subst hs
      obtain ⟨B, hB⟩ := base_ex
      have hv2 := hv B (by omega)
      have es : ∀ a u, Ieee.signed false a u = ((a * 2 ^ u : Nat) : Int) := fun a u => by unfold Ieee.signed; rw [Nat.shiftLeft_eq]; rfl
      rw [es, es] at hv2
      have hv3 : m' * 2 ^ (e' - B).toNat = m * 2 ^ (e - B).toNat := by exact_mod_cast hv2
      have hmm : m ≠ 0 := by
        rintro rfl
        rw [Nat.zero_mul] at hv3
        have : 0 < m' * 2 ^ (e' - B).toNat := Nat.mul_pos (Nat.pos_of_ne_zero hm0) (Nat.two_pow_pos _)
        omega
      refine ⟨wide b, m', e', rfl, h2, he3, ge_iff (B := B) (by omega) (by omega) ?_, le_of (B := B) (by omega) (by omega) ?_⟩
      · rw [hv3]
        refine Nat.le_trans (Nat.pow_le_pow_right (by omega) (show (-149 - B).toNat ≤ (e - B).toNat by omega)) ?_
        exact Nat.le_mul_of_pos_left _ (Nat.pos_of_ne_zero hmm)
      · rw [hv3]
        refine Nat.le_trans (Nat.mul_le_mul_right _ (Nat.le_of_lt hm2)) ?_
        rw [← Nat.pow_add]
        exact Nat.pow_le_pow_right (by omega) (by omega)

theorem self_eq {X : Option Nat} (h : isNum X) : fcmp .neq (ford .f64 X X) = false := by
  obtain ⟨b, s, m, i, rfl, h2, h3⟩ := h
  have e1 : ford .f64 (some b) (some b) = some .eq := by
    show FloatKind.f64.format.order b b = _
    unfold Ieee.Format.order
    rw [h2, order_num s s m m i i (-1074) h3 h3, compare_eq rfl]
  rw [e1]; rfl
theorem rg_max {X : Option Nat} {f : Int} (h : rg X f 200) : fcmp .gtr (ford .f64 X (some 9218868437227405311)) = false := by
  obtain ⟨b, m, i, rfl, h2, h3, _, h5⟩ := h
  have hm : FloatKind.f64.format.read 9218868437227405311 = .number false (2 ^ 53 - 1) 971 := by decide
  rw [gtr_val b _ m _ i _ h2 h3 hm (by omega)]
  apply decide_eq_false
  have h6 := leP_scale h5 (show (-1074 : Int) ≤ i by omega) (show (-1074 : Int) ≤ 200 by omega)
  have h7 : 2 ^ (200 - -1074 : Int).toNat ≤ (2 ^ 53 - 1) * 2 ^ (971 - -1074 : Int).toNat := by
    refine Nat.le_trans (Nat.pow_le_pow_right (by omega) (show (200 - -1074 : Int).toNat ≤ (971 - -1074 : Int).toNat by omega)) ?_
    exact Nat.le_mul_of_pos_left _ (by decide)
  exact Nat.not_lt_of_le (Nat.le_trans h6 h7)

theorem l01LogWide_nan (b : Nat) (X : Option Nat) (hX : Is .f64 b X) (h : fcmp .neq (ford .f64 X X) = true ∨ fcmp .lss (ford .f64 X (some 0)) = true) (w : World) :
    Calls Try.prog 139 #[.float .f64 b] w fun e w' => e = .returned (.float .f64 9221120237041090561) ∧ w = w' := by
  cases hN : fcmp .neq (ford .f64 X X) with
  | true =>
    go_enter Try.func139, Try.ntmps139
    go_wp2_with (first | (go_at_call 150; refine (mathNaN_any _).mono ?_; rintro e w' ⟨rfl, rfl⟩) | (refine wpList_fcmp rfl rfl rfl rfl rfl (by first | assumption | exact is_const (by decide)) (by first | assumption | exact is_const (by decide)) ?_; try simp only [hN]))
    go_ret
    exact ⟨rfl, rfl⟩
  | false =>
    have hL : fcmp .lss (ford .f64 X (some 0)) = true := by rw [hN] at h; simpa using h
    clear h
    go_enter Try.func139, Try.ntmps139
    go_wp2_with (first | (go_at_call 150; refine (mathNaN_any _).mono ?_; rintro e w' ⟨rfl, rfl⟩) | (refine wpList_fcmp rfl rfl rfl rfl rfl (by first | assumption | exact is_const (by decide)) (by first | assumption | exact is_const (by decide)) ?_; try simp only [hN, hL]))
    go_ret
    exact ⟨rfl, rfl⟩
theorem l01LogWide_zero (b : Nat) (X : Option Nat) (hX : Is .f64 b X) (hN : fcmp .neq (ford .f64 X X) = false) (hL : fcmp .lss (ford .f64 X (some 0)) = false) (hE : fcmp .eql (ford .f64 X (some 0)) = true) (w : World) :
    Calls Try.prog 139 #[.float .f64 b] w fun e w' => e = .returned (.float .f64 18442240474082181120) ∧ w = w' := by
  go_enter Try.func139, Try.ntmps139
  go_wp2_with (first | (go_at_call 120; refine (mathInf_neg _).mono ?_; rintro e w' ⟨rfl, rfl⟩) | (refine wpList_fcmp rfl rfl rfl rfl rfl (by first | assumption | exact is_const (by decide)) (by first | assumption | exact is_const (by decide)) ?_; try simp only [hN, hL, hE]))
  go_ret
  exact ⟨rfl, rfl⟩
theorem l01LogWide_inf (b : Nat) (X : Option Nat) (hX : Is .f64 b X) (hN : fcmp .neq (ford .f64 X X) = false) (hL : fcmp .lss (ford .f64 X (some 0)) = false) (hE : fcmp .eql (ford .f64 X (some 0)) = false) (hG : fcmp .gtr (ford .f64 X (some 9218868437227405311)) = true) (w : World) :
    Calls Try.prog 139 #[.float .f64 b] w fun e w' => e = .returned (.float .f64 b) ∧ w = w' := by
  go_enter Try.func139, Try.ntmps139
  go_wp2_with (first | (go_at_call 141; refine (isInf_up _ _ (by assumption) _).mono ?_; rintro e w' ⟨rfl, rfl⟩) | (refine wpList_fcmp rfl rfl rfl rfl rfl (by first | assumption | exact is_const (by decide)) (by first | assumption | exact is_const (by decide)) ?_; try simp only [hN, hL, hE]))
  go_ret
  exact ⟨rfl, rfl⟩
set_option maxRecDepth 100000 in
set_option maxHeartbeats 1000000 in
theorem l01LogWide_any (b : Nat) (X : Option Nat) (N M : Nat) (hX : Is .f64 b X) (hst : Hid (stops X N M)) (hN : N ≤ 200) (hM : M ≤ 200) (hN0 : fcmp .neq (ford .f64 X X) = false) (hL0 : fcmp .lss (ford .f64 X (some 0)) = false) (hE0 : fcmp .eql (ford .f64 X (some 0)) = false) (hG0 : fcmp .gtr (ford .f64 X (some 9218868437227405311)) = false) (w : World) :
    Calls Try.prog 139 #[.float .f64 b] w fun e w' => ∃ r, e = .returned (.float .f64 r) ∧ Is .f64 r (logC X N M) ∧ ∃ m, w' = w.drewN m := by
  go_enter Try.func139, Try.ntmps139
  go_wp2_with (first | (go_at_call 141; refine (isInf_up _ _ (by assumption) _).mono ?_; rintro e w' ⟨rfl, rfl⟩) | (refine wpList_fa rfl rfl rfl rfl rfl (by first | assumption | exact is_int _ | exact is_const (by decide)) (by first | assumption | exact is_const (by decide) | exact is_int _) ?_; intro r n hr hrw) | (refine wpList_fcmp rfl rfl rfl rfl rfl (by first | assumption | exact is_const (by decide)) (by first | assumption | exact is_const (by decide)) ?_; try simp only [hN0, hL0, hE0]))
  go_loopw [0, 3] (fun x i wr => ∃ k r : Nat, k ≤ N ∧ i = .int .i64 k ∧ x = .float .f64 r ∧ Is .f64 r (itC halC k X) ∧ Hid (∃ m, wr = w.drewN m)) (fun _ i _ => N - (intOf i).toNat)
  case atStart => exact ⟨0, b, Nat.zero_le _, rfl, rfl, hX, 0, rfl⟩
  case round =>
    obtain ⟨k, s, hk, rfl, rfl, hs, hw⟩ := hrel
    by_cases hlt : k < N
    · have hgo := hst.out.1 k hlt
      go_wp2_with (first | (refine wpList_fa rfl rfl rfl rfl rfl (by first | assumption | exact is_int _ | exact is_const (by decide)) (by first | assumption | exact is_const (by decide) | exact is_int _) ?_; intro r n hr hrw) | (refine wpList_fcmp rfl rfl rfl rfl rfl (by first | assumption | exact is_const (by decide)) (by first | assumption | exact is_const (by decide)) ?_; try simp only [hgo]))
      go_roundw
      case rel => exact ⟨k + 1, r, by omega, by go_num, rfl, by assumption, by obtain ⟨m, hm⟩ := hw.out; exact ⟨m + n, by rw [hm, World.drewN_drewN]⟩⟩
      case measure => simp [intOf]; omega
    · have hkn : k = N := by omega
      subst hkn
      have hgo := hst.out.2.1
      go_wp2_with (first | (refine wpList_fa rfl rfl rfl rfl rfl (by first | assumption | exact is_int _ | exact is_const (by decide)) (by first | assumption | exact is_const (by decide) | exact is_int _) ?_; intro r n hr hrw) | (refine wpList_fcmp rfl rfl rfl rfl rfl (by first | assumption | exact is_const (by decide)) (by first | assumption | exact is_const (by decide)) ?_; try simp only [hgo]))
      simp only [Act.put, List.setIfInBounds_toArray, List.set_cons_succ, List.set_cons_zero]
      go_loopw [0, 3] (fun x i wr => ∃ l r : Nat, l ≤ M ∧ i = .int .i64 ((k : Int) - l) ∧ x = .float .f64 r ∧ Is .f64 r (itC dblC l (itC halC k X)) ∧ Hid (∃ m, wr = w.drewN m)) (fun _ i _ => (M + (intOf i) - k).toNat)
      case atStart => exact ⟨0, s, Nat.zero_le _, by go_num, rfl, hs, hw.out⟩
      case round =>
        obtain ⟨l, t, hl, rfl, rfl, ht, hw2⟩ := hrel
        by_cases hlt2 : l < M
        · have hgo2 := hst.out.2.2.1 l hlt2
          go_wp2_with (first | (refine wpList_fa rfl rfl rfl rfl rfl (by first | assumption | exact is_int _ | exact is_const (by decide)) (by first | assumption | exact is_const (by decide) | exact is_int _) ?_; intro r n hr hrw) | (refine wpList_fcmp rfl rfl rfl rfl rfl (by first | assumption | exact is_const (by decide)) (by first | assumption | exact is_const (by decide)) ?_; try simp only [hgo2]))
          go_roundw
          case rel => exact ⟨l + 1, r, by omega, by go_num, rfl, by assumption, by obtain ⟨m, hm⟩ := hw2.out; exact ⟨m + n, by rw [hm, World.drewN_drewN]⟩⟩
          case measure => simp [intOf]; omega
        · have hlm : l = M := by omega
          subst hlm
          have hgo2 := hst.out.2.2.2
          have H : Hid (logC X k l = logTail (itC dblC l (itC halC k X)) ((k : Int) - l)) := rfl
          obtain ⟨m0, hw2⟩ := hw2.out
          subst hw2
          generalize itC dblC l (itC halC k X) = Z at ht hgo2 H
          go_wp2_with (first | (refine wpList_fa rfl rfl rfl rfl rfl (by first | assumption | exact is_int _ | exact is_const (by decide)) (by first | assumption | exact is_const (by decide) | exact is_int _) ?_; intro r n hr hrw) | (refine wpList_fcmp rfl rfl rfl rfl rfl (by first | assumption | exact is_const (by decide)) (by first | assumption | exact is_const (by decide)) ?_; try simp only [hgo2]))
          refine wp_loop_rounds 14 ?_
          repeat (rw [rounds_succ]; go_wp2_with (first | (refine wpList_fa rfl rfl rfl rfl rfl (by first | assumption | exact is_int _ | exact is_const (by decide)) (by first | assumption | exact is_const (by decide) | exact is_int _) ?_; intro r n hr hrw) | (refine wpList_fcmp rfl rfl rfl rfl rfl (by first | assumption | exact is_const (by decide)) (by first | assumption | exact is_const (by decide)) ?_; try simp only [hgo2])))
          go_ret
          exact ⟨_, rfl, by rw [H.out]; assumption, _, rfl⟩
end Go.Proofs.Ytpmjiabllmomjab

/- The number of a code. -/
import Derived.Test.YtdepfikbjehjiaaK0
import Derived.Test.YtdepfikbjehjiaaNum2
import Derived.Test.YtdepfikbjehjiaaRoot
import Derived.Test.YtdepfikbjehjiaaMinT
import Derived.Handy
namespace Go.Proofs.Ytdepfikbjehjiaa
open Go.RowKit Flt
set_option linter.unusedVariables false

theorem l00Min_is (a b R : Int) (h : min a b = R) (w : World) : Calls Try.prog 14 #[.int .i64 a, .int .i64 b] w fun e w' => e = .returned (.int .i64 R) ∧ w = w' := by
  by_cases h1 : a < b
  · obtain rfl : R = a := by omega
    clear h
    go_enter Try.func14, Try.ntmps14
    go_wp2
    go_ret
    exact ⟨rfl, rfl⟩
  · obtain rfl : R = b := by omega
    clear h
    go_enter Try.func14, Try.ntmps14
    go_wp2
    go_ret
    exact ⟨rfl, rfl⟩
set_option maxRecDepth 100000 in
set_option maxHeartbeats 1000000 in
theorem l01ExpWide_mid (b : Nat) (X : Option Nat) (hX : Is .f64 b X) (hN : fcmp .neq (ford .f64 X X) = false) (hG : fcmp .gtr (ford .f64 X (some 4641240890982006784)) = false) (hL : fcmp .lss (ford .f64 X (some 13864612927836782592)) = false) (w : World) :
    Calls Try.prog 19 #[.float .f64 b] w fun e w' => ∃ r, e = .returned (.float .f64 r) ∧ Is .f64 r (expC X) ∧ ∃ m, w' = w.drewN m := by
  have H : Hid (expC X = sqC (sqC (sqC (sqC (sqC (sqC (sqC (sqC (expSum (fop .quo .f64 X (some 4643211215818981376))))))))))) := rfl
  go_enter Try.func19, Try.ntmps19
  go_wp2_with (first | (refine wpList_fa rfl rfl rfl rfl rfl (by first | assumption | exact is_const (by decide)) (by first | assumption | exact is_const (by decide) | exact is_int _) ?_; intro r n hr hrw) | (refine wpList_fcmp rfl rfl rfl rfl rfl (by first | assumption | exact is_const (by decide)) (by first | assumption | exact is_const (by decide)) ?_; try simp only [hN, hG, hL]))
  refine wp_loop_rounds 13 ?_
  repeat (rw [rounds_succ]; go_wp2_with (refine wpList_fa rfl rfl rfl rfl rfl (by first | assumption | exact is_const (by decide)) (by first | assumption | exact is_const (by decide) | exact is_int _) ?_; intro r n hr hrw))
  refine wp_loop_rounds 9 ?_
  repeat (rw [rounds_succ]; go_wp2_with (refine wpList_fa rfl rfl rfl rfl rfl (by first | assumption | exact is_const (by decide)) (by first | assumption | exact is_const (by decide) | exact is_int _) ?_; intro r n hr hrw))
  go_ret
  exact ⟨_, rfl, by assumption, _, rfl⟩
theorem l01Exp_mid (a : Nat) (X : Option Nat) (hX : Is .f32 a X) (hN : fcmp .neq (ford .f64 (fwide X) (fwide X)) = false) (hG : fcmp .gtr (ford .f64 (fwide X) (some 4641240890982006784)) = false) (hL : fcmp .lss (ford .f64 (fwide X) (some 13864612927836782592)) = false) (hf : fits (expC (fwide X))) (w : World) :
    Calls Try.prog 15 #[.float .f32 a] w fun e w' => ∃ r, e = .returned (.float .f32 r) ∧ Is .f32 r (fnar (expC (fwide X))) ∧ ∃ m, w' = w.drewN m := by
  have HF := hid hf
  clear hf
  go_enter Try.func15, Try.ntmps15
  go_wp2_with (first | (refine wpList_fw rfl rfl Try.underlying28 Try.underlying34 rfl (by assumption) ?_; intro r n hr hrw) | (go_at_call 19; refine (l01ExpWide_mid _ _ (by assumption) hN hG hL _).mono ?_; rintro e w' ⟨r2, rfl, hr2, m2, rfl⟩) | (go_at_call 18; refine (narrow_any _ _ (by assumption) HF _).mono ?_; rintro e w' ⟨r3, rfl, hr3, m3, rfl⟩))
  go_ret
  exact ⟨_, rfl, hr3, _, rfl⟩

theorem exp_is (a : Nat) (X : Option Nat) (hX : Is .f32 a X) (hs : X.isSome = true) (g : fcmp .gtr (ford .f32 X (some 1128792064)) = false) (l : fcmp .lss (ford .f32 X (some 3276275712)) = false) (f : fits (expC (fwide X))) (w : World) :
    Calls Try.prog 17 #[.float .f32 a] w fun e w' => ∃ r, e = .returned (.float .f32 r) ∧ Is .f32 r (fnar (expC (fwide X))) ∧ ∃ m, w' = w.drewN m := by
  have e := Is.out hX
  have := exp_mid a (by rw [e]; cases X <;> simp_all) (by rw [e]; exact g) (by rw [e]; exact l) (by rw [e]; exact f) w
  rw [e] at this
  exact this

set_option maxRecDepth 100000 in
set_option maxHeartbeats 2000000 in
theorem fromCode_yes (c : Int) (h0 : 0 ≤ c) (h1 : c ≤ 255) (w : World) : Calls Try.prog 12 #[.int .i64 c] w fun e w' => e = .returned (.tuple #[.float .f32 (fromV c), .bool true]) ∧ ∃ m, w' = w.drewN m := by
  by_cases hc : c < 128
  · skip
    obtain ⟨n0, hn0⟩ : ∃ n0 : Nat, 128 - c = (n0 : Int) := ⟨(128 - c).toNat, by omega⟩
    obtain ⟨n, hn⟩ : ∃ n : Nat, n = min n0 127 := ⟨_, rfl⟩
    have hn2 : n < 128 := by omega
    have hmin : min (n0 : Int) 127 = (n : Int) := by omega
    have HV := hid (show fromV c = Op.negFloat .f32 (fromW.getD n 0) from by unfold fromV; rw [if_pos hc, hn0, hmin]; rfl)
    have HFA := hid (from_facts hn2)
    obtain ⟨d, hd⟩ : ∃ d, c - 128 = d := ⟨_, rfl⟩
    have hneg : d < 0 := by omega
    have hn1 : -d = (n0 : Int) := by omega

    clear hn0
    try clear hn
    go_enter Try.func12, Try.ntmps12
    go_wp2_with (first | (refine wpList_fa (op := .quo) rfl rfl rfl rfl rfl (is_int (n : Int)) (is_const (by decide)) ?_; intro r1 m1 hr1 hrw1) | (refine wpList_fa (op := .mul) rfl rfl rfl rfl rfl (is_const (by decide)) hr1 ?_; intro r2 m2 hr2 hrw2) | (go_at_call 17; refine (exp_is _ (fromX n) (show Is .f32 _ (fromX n) from hr2) HFA.out.s HFA.out.g HFA.out.l HFA.out.f _).mono ?_; rintro e w' ⟨r3, rfl, hr3, m3, rfl⟩) | (refine wpList_fa (op := .sub) rfl rfl rfl rfl rfl hr3 (is_const (by decide)) ?_; intro r4 m4 hr4 hrw4) | (refine wpList_fa (op := .quo) rfl rfl rfl rfl rfl hr4 (is_const (by decide)) ?_; intro r5 m5 hr5 hrw5) | (refine wpList_imin rfl rfl rfl rfl ?_))
    have e5 : cls .f32 r5 = some (fromW.getD n 0) := by rw [← HFA.out.r]; exact Is.out hr5
    have e6 := cls_word e5
    subst e6
    go_returns
    exact ⟨by rw [HV.out]; rfl, _, rfl⟩
  · skip
    obtain ⟨n, hn0⟩ : ∃ n : Nat, c - 128 = (n : Int) := ⟨(c - 128).toNat, by omega⟩
    have hn2 : n < 128 := by omega
    have hmin : min (n : Int) 127 = (n : Int) := by omega
    have HV := hid (show fromV c = fromW.getD n 0 from by unfold fromV; rw [if_neg hc, hn0, hmin]; rfl)
    have HFA := hid (from_facts hn2)
    have hd : c - 128 = (n : Int) := hn0
    have hneg : ¬ (n : Int) < 0 := by omega

    clear hn0
    try clear hn
    go_enter Try.func12, Try.ntmps12
    go_wp2_with (first | (refine wpList_fa (op := .quo) rfl rfl rfl rfl rfl (is_int (n : Int)) (is_const (by decide)) ?_; intro r1 m1 hr1 hrw1) | (refine wpList_fa (op := .mul) rfl rfl rfl rfl rfl (is_const (by decide)) hr1 ?_; intro r2 m2 hr2 hrw2) | (go_at_call 17; refine (exp_is _ (fromX n) (show Is .f32 _ (fromX n) from hr2) HFA.out.s HFA.out.g HFA.out.l HFA.out.f _).mono ?_; rintro e w' ⟨r3, rfl, hr3, m3, rfl⟩) | (refine wpList_fa (op := .sub) rfl rfl rfl rfl rfl hr3 (is_const (by decide)) ?_; intro r4 m4 hr4 hrw4) | (refine wpList_fa (op := .quo) rfl rfl rfl rfl rfl hr4 (is_const (by decide)) ?_; intro r5 m5 hr5 hrw5) | (refine wpList_imin rfl rfl rfl rfl ?_))
    have e5 : cls .f32 r5 = some (fromW.getD n 0) := by rw [← HFA.out.r]; exact Is.out hr5
    have e6 := cls_word e5
    subst e6
    go_returns
    exact ⟨by rw [HV.out]; rfl, _, rfl⟩

set_option maxRecDepth 100000 in
set_option maxHeartbeats 2000000 in
theorem l05From_any (c : Int) (h0 : 0 ≤ c) (h1 : c ≤ 255) (w : World) : Calls Try.prog 9 #[.int .i64 c] w fun e w' => e = .returned (.float .f32 (fromV c)) ∧ ∃ m, w' = w.drewN m := by
  by_cases hc : c < 128
  · skip
    obtain ⟨n0, hn0⟩ : ∃ n0 : Nat, 128 - c = (n0 : Int) := ⟨(128 - c).toNat, by omega⟩
    obtain ⟨n, hn⟩ : ∃ n : Nat, n = min n0 127 := ⟨_, rfl⟩
    have hn2 : n < 128 := by omega
    have hmin : min (n0 : Int) 127 = (n : Int) := by omega
    have HV := hid (show fromV c = Op.negFloat .f32 (fromW.getD n 0) from by unfold fromV; rw [if_pos hc, hn0, hmin]; rfl)
    have HFA := hid (from_facts hn2)
    obtain ⟨d, hd⟩ : ∃ d, c - 128 = d := ⟨_, rfl⟩
    have hneg : d < 0 := by omega
    have hn1 : -d = (n0 : Int) := by omega

    clear hn0
    try clear hn
    go_enter Try.func9, Try.ntmps9
    go_wp2_with (first | (refine wpList_fa (op := .quo) rfl rfl rfl rfl rfl (is_int (n : Int)) (is_const (by decide)) ?_; intro r1 m1 hr1 hrw1) | (refine wpList_fa (op := .mul) rfl rfl rfl rfl rfl (is_const (by decide)) hr1 ?_; intro r2 m2 hr2 hrw2) | (go_at_call 15; refine (l01Exp_mid _ (fromX n) (show Is .f32 _ (fromX n) from hr2) HFA.out.n2 HFA.out.g2 HFA.out.l2 HFA.out.f _).mono ?_; rintro e w' ⟨r3, rfl, hr3, m3, rfl⟩) | (refine wpList_fa (op := .sub) rfl rfl rfl rfl rfl hr3 (is_const (by decide)) ?_; intro r4 m4 hr4 hrw4) | (refine wpList_fa (op := .quo) rfl rfl rfl rfl rfl hr4 (is_const (by decide)) ?_; intro r5 m5 hr5 hrw5) | (go_at_call 14; refine (l00Min_is (n0 : Int) 127 (n : Int) hmin _).mono ?_; rintro e w' ⟨rfl, rfl⟩))
    have e5 : cls .f32 r5 = some (fromW.getD n 0) := by rw [← HFA.out.r]; exact Is.out hr5
    have e6 := cls_word e5
    subst e6
    go_ret
    exact ⟨by rw [HV.out]; rfl, _, rfl⟩
  · skip
    obtain ⟨n, hn0⟩ : ∃ n : Nat, c - 128 = (n : Int) := ⟨(c - 128).toNat, by omega⟩
    have hn2 : n < 128 := by omega
    have hmin : min (n : Int) 127 = (n : Int) := by omega
    have HV := hid (show fromV c = fromW.getD n 0 from by unfold fromV; rw [if_neg hc, hn0, hmin]; rfl)
    have HFA := hid (from_facts hn2)
    have hd : c - 128 = (n : Int) := hn0
    have hneg : ¬ (n : Int) < 0 := by omega

    clear hn0
    try clear hn
    go_enter Try.func9, Try.ntmps9
    go_wp2_with (first | (refine wpList_fa (op := .quo) rfl rfl rfl rfl rfl (is_int (n : Int)) (is_const (by decide)) ?_; intro r1 m1 hr1 hrw1) | (refine wpList_fa (op := .mul) rfl rfl rfl rfl rfl (is_const (by decide)) hr1 ?_; intro r2 m2 hr2 hrw2) | (go_at_call 15; refine (l01Exp_mid _ (fromX n) (show Is .f32 _ (fromX n) from hr2) HFA.out.n2 HFA.out.g2 HFA.out.l2 HFA.out.f _).mono ?_; rintro e w' ⟨r3, rfl, hr3, m3, rfl⟩) | (refine wpList_fa (op := .sub) rfl rfl rfl rfl rfl hr3 (is_const (by decide)) ?_; intro r4 m4 hr4 hrw4) | (refine wpList_fa (op := .quo) rfl rfl rfl rfl rfl hr4 (is_const (by decide)) ?_; intro r5 m5 hr5 hrw5) | (go_at_call 14; refine (l00Min_is (n : Int) 127 (n : Int) hmin _).mono ?_; rintro e w' ⟨rfl, rfl⟩))
    have e5 : cls .f32 r5 = some (fromW.getD n 0) := by rw [← HFA.out.r]; exact Is.out hr5
    have e6 := cls_word e5
    subst e6
    go_ret
    exact ⟨by rw [HV.out]; rfl, _, rfl⟩

theorem fromCode_no (c : Int) (h : ¬ (0 ≤ c ∧ c ≤ 255)) (w : World) : Calls Try.prog 12 #[.int .i64 c] w fun e w' => e = .returned (.tuple #[.float .f32 0, .bool false]) ∧ w = w' := by
  by_cases h0 : c < 0
  · go_enter Try.func12, Try.ntmps12
    go_wp2
    go_returns
    exact ⟨rfl, rfl⟩
  · have h1 : 255 < c := by omega
    go_enter Try.func12, Try.ntmps12
    go_wp2
    go_returns
    exact ⟨rfl, rfl⟩
end Go.Proofs.Ytdepfikbjehjiaa

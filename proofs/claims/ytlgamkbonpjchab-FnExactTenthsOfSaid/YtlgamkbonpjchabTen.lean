/- The tenths of decibels: the walks and the law. -/
import Derived.Test.YtlgamkbonpjchabTenC
import Derived.Test.YtlgamkbonpjchabLog2
namespace Go.Proofs.Ytlgamkbonpjchab
open Go.RowKit Flt

theorem floor_any (b : Nat) (hX : nanW .f64 b = false) (w : World) : Calls Try.prog 43 #[.float .f64 b] w fun e w' => e = .returned (.float .f64 (floorW b)) ∧ w = w' := by
  go_enter Try.func43, Try.ntmps43
  go_wp2_with (refine wpList_ffloor (f := 62) (fn := Try.f62) rfl rfl Try.func62 (by kernel_rfl) (by kernel_rfl) (by kernel_rfl) (by kernel_rfl) rfl hX ?_)
  go_ret
  exact ⟨rfl, rfl⟩
theorem floor_is (b : Nat) (Y : Option Nat) (y : Nat) (hY : Is .f64 b Y) (h : Y = some y) (hn : nanW .f64 y = false) (w : World) : Calls Try.prog 43 #[.float .f64 b] w fun e w' => e = .returned (.float .f64 (floorW y)) ∧ w = w' := by
  subst h
  have e := cls_word hY.out
  subst e
  exact floor_any _ hn w
theorem ten_no (a : Nat) (h : fin32 (cls .f32 a) = false ∨ fcmp .leq (ford .f32 (cls .f32 a) (some 0)) = true) (w : World) : Calls Try.prog 20 #[.float .f32 a] w fun e w' => e = .returned (.tuple #[.int .i64 0, .bool false]) ∧ ∃ m, w' = w.drewN m := by
  have h0 : Is .f32 a (cls .f32 a) := rfl
  cases hI : fin32 (cls .f32 a) with
  | false =>
    go_enter Try.func20, Try.ntmps20
    go_wp2_with (first | (go_at_call 41; refine (isFinite_any _ _).mono ?_; rintro e w' ⟨rfl, n, rfl⟩) | (refine wpList_fcmp rfl rfl rfl rfl rfl (by first | assumption | exact is_const (by decide)) (by first | assumption | exact is_const (by decide)) ?_; try simp only [hI]))
    go_ret2
    exact ⟨rfl, _, rfl⟩
  | true =>
    have hL : fcmp .leq (ford .f32 (cls .f32 a) (some 0)) = true := by rw [hI] at h; simpa using h
    clear h
    go_enter Try.func20, Try.ntmps20
    go_wp2_with (first | (go_at_call 41; refine (isFinite_any _ _).mono ?_; rintro e w' ⟨rfl, n, rfl⟩) | (refine wpList_fcmp rfl rfl rfl rfl rfl (by first | assumption | exact is_const (by decide)) (by first | assumption | exact is_const (by decide)) ?_; try simp only [hL]))
    go_ret2
    exact ⟨rfl, _, rfl⟩
theorem ten_yes (a N M y : Nat) (n0 : Int) (hN : N ≤ 200) (hM : M ≤ 200) (HST : Hid (stops (fwide (cls .f32 a)) N M)) (HY : Hid (tenC (logC (fwide (cls .f32 a)) N M) = some y)) (HNY : nanW .f64 y = false) (hc : ∀ w, (convert 26 2 (.float .f64 (floorW y))).run Try.prog w = .ok (.int .i64 n0) w) (hI : fin32 (cls .f32 a) = true) (hL : fcmp .leq (ford .f32 (cls .f32 a) (some 0)) = false) (w : World) :
    Calls Try.prog 20 #[.float .f32 a] w fun e w' => e = .returned (.tuple #[.int .i64 n0, .bool true]) ∧ ∃ m, w' = w.drewN m := by
  have h0 : Is .f32 a (cls .f32 a) := rfl
  unfold tenC at HY
  go_enter Try.func20, Try.ntmps20
  go_wp2_with (first | (go_at_call 41; refine (isFinite_any _ _).mono ?_; rintro e w' ⟨rfl, n, rfl⟩) | (refine wpList_fw rfl rfl Try.underlying22 Try.underlying26 rfl (by assumption) ?_; intro r n hr hrw) | (go_at_call 42; refine (wideLog_any _ _ N M (by assumption) HST hN hM _).mono ?_; rintro e w' ⟨r2, rfl, hr2, m2, rfl⟩) | (go_at_call 43; refine (floor_is _ _ y (by assumption) HY.out HNY _).mono ?_; rintro e w' ⟨rfl, rfl⟩) | (refine wpList_fa rfl rfl rfl rfl rfl (by first | assumption | exact is_int _ | exact is_const (by decide)) (by first | assumption | exact is_const (by decide) | exact is_int _) ?_; intro r n hr hrw) | (refine wpList_fcmp rfl rfl rfl rfl rfl (by first | assumption | exact is_const (by decide)) (by first | assumption | exact is_const (by decide)) ?_; try simp only [hL]))
  go_ret2
  exact ⟨rfl, _, rfl⟩
theorem sTen_no (a : Nat) (h : fin32 (cls .f32 a) = false ∨ fcmp .leq (ford .f32 (cls .f32 a) (some 0)) = true) (w : World) : Calls Try.prog 19 #[.float .f32 a] w fun e w' => e = .returned (.tuple #[.int .i64 0, .bool false]) ∧ ∃ m, w' = w.drewN m := by
  have h0 : Is .f32 a (cls .f32 a) := rfl
  cases hI : fin32 (cls .f32 a) with
  | false =>
    go_enter Try.func19, Try.ntmps19
    go_wp2_with (first | (go_at_call 39; refine (l01Finite_any _ _).mono ?_; rintro e w' ⟨rfl, n, rfl⟩) | (refine wpList_fcmp rfl rfl rfl rfl rfl (by first | assumption | exact is_const (by decide)) (by first | assumption | exact is_const (by decide)) ?_; try simp only [hI]))
    go_ret2
    exact ⟨rfl, _, rfl⟩
  | true =>
    have hL : fcmp .leq (ford .f32 (cls .f32 a) (some 0)) = true := by rw [hI] at h; simpa using h
    clear h
    go_enter Try.func19, Try.ntmps19
    go_wp2_with (first | (go_at_call 39; refine (l01Finite_any _ _).mono ?_; rintro e w' ⟨rfl, n, rfl⟩) | (refine wpList_fcmp rfl rfl rfl rfl rfl (by first | assumption | exact is_const (by decide)) (by first | assumption | exact is_const (by decide)) ?_; try simp only [hL]))
    go_ret2
    exact ⟨rfl, _, rfl⟩
theorem l01Tenths_any (a N M y : Nat) (n0 : Int) (hN : N ≤ 200) (hM : M ≤ 200) (HST : Hid (stops (fwide (cls .f32 a)) N M)) (HY : Hid (tenC (logC (fwide (cls .f32 a)) N M) = some y)) (HNY : nanW .f64 y = false) (hc : ∀ w, (convert 26 2 (.float .f64 (floorW y))).run Try.prog w = .ok (.int .i64 n0) w) (HS0 : fcmp .neq (ford .f64 (fwide (cls .f32 a)) (fwide (cls .f32 a))) = false) (HL0 : fcmp .lss (ford .f64 (fwide (cls .f32 a)) (some 0)) = false) (HE0 : fcmp .eql (ford .f64 (fwide (cls .f32 a)) (some 0)) = false) (HG0 : fcmp .gtr (ford .f64 (fwide (cls .f32 a)) (some 9218868437227405311)) = false) (w : World) :
    Calls Try.prog 40 #[.float .f32 a] w fun e w' => e = .returned (.int .i64 n0) ∧ ∃ m, w' = w.drewN m := by
  have h0 : Is .f32 a (cls .f32 a) := rfl
  unfold tenC at HY
  go_enter Try.func40, Try.ntmps40
  go_wp2_with (first | (refine wpList_fw rfl rfl Try.underlying22 Try.underlying26 rfl (by assumption) ?_; intro r n hr hrw) | (go_at_call 61; refine (l01LogWide_any _ _ N M (by assumption) HST hN hM HS0 HL0 HE0 HG0 _).mono ?_; rintro e w' ⟨r2, rfl, hr2, m2, rfl⟩) | (go_at_call 43; refine (floor_is _ _ y (by assumption) HY.out HNY _).mono ?_; rintro e w' ⟨rfl, rfl⟩) | (refine wpList_fa rfl rfl rfl rfl rfl (by first | assumption | exact is_int _ | exact is_const (by decide)) (by first | assumption | exact is_const (by decide) | exact is_int _) ?_; intro r n hr hrw))
  go_ret
  exact ⟨rfl, _, rfl⟩
theorem sTen_yes (a : Nat) (n0 : Int) (HT : ∀ w, Calls Try.prog 40 #[.float .f32 a] w fun e w' => e = .returned (.int .i64 n0) ∧ ∃ m, w' = w.drewN m) (hI : fin32 (cls .f32 a) = true) (hL : fcmp .leq (ford .f32 (cls .f32 a) (some 0)) = false) (w : World) :
    Calls Try.prog 19 #[.float .f32 a] w fun e w' => e = .returned (.tuple #[.int .i64 n0, .bool true]) ∧ ∃ m, w' = w.drewN m := by
  have h0 : Is .f32 a (cls .f32 a) := rfl
  go_enter Try.func19, Try.ntmps19
  go_wp2_with (first | (go_at_call 39; refine (l01Finite_any _ _).mono ?_; rintro e w' ⟨rfl, n, rfl⟩) | (go_at_call 40; refine (HT _).mono ?_; rintro e w' ⟨rfl, m2, rfl⟩) | (refine wpList_fcmp rfl rfl rfl rfl rfl (by first | assumption | exact is_const (by decide)) (by first | assumption | exact is_const (by decide)) ?_; try simp only [hL]))
  go_ret2
  exact ⟨rfl, _, rfl⟩
theorem leq_not {c : Option Ordering} (h : fcmp .leq c = false) : fcmp .lss c = false ∧ fcmp .eql c = false := by
  cases c with
  | none => exact ⟨rfl, rfl⟩
  | some o => cases o <;> first | exact ⟨rfl, rfl⟩ | cases h
theorem ten_both (a : Nat) : ∃ n ok, (∀ w, Calls Try.prog 20 #[.float .f32 a] w fun e w' => e = .returned (.tuple #[.int .i64 n, .bool ok]) ∧ ∃ m, w' = w.drewN m) ∧
    (∀ w, Calls Try.prog 19 #[.float .f32 a] w fun e w' => e = .returned (.tuple #[.int .i64 n, .bool ok]) ∧ ∃ m, w' = w.drewN m) := by
  have ef := ford_wide0 (cls .f32 a) (cls_ok .f32 a)
  cases hI : fin32 (cls .f32 a) with
  | false => exact ⟨0, false, ten_no a (.inl hI), sTen_no a (.inl hI)⟩
  | true =>
    cases hL : fcmp .leq (ford .f32 (cls .f32 a) (some 0)) with
    | true => exact ⟨0, false, ten_no a (.inr hL), sTen_no a (.inr hL)⟩
    | false =>
      obtain ⟨g1, g2⟩ := leq_not hL
      have hrg := pos_rg hI (cls_ok .f32 a) (by rw [ef]; exact g1) (by rw [ef]; exact g2)
      obtain ⟨N, M, h1, h2, h3, h4⟩ := stops_ex _ hrg
      have hmag : magC (tenC (logC (fwide (cls .f32 a)) N M)) 22 := mag_ten (mag_logTail h4 _ (by omega))
      obtain ⟨y, hy⟩ : ∃ y, tenC (logC (fwide (cls .f32 a)) N M) = some y := by
        obtain ⟨y, _, _, _, e, _⟩ := hmag
        exact ⟨y, e⟩
      rw [hy] at hmag
      obtain ⟨n, hn⟩ := floor_int hmag
      have hc : ∀ w, (convert 26 2 (.float .f64 (floorW y))).run Try.prog w = .ok (.int .i64 n) w := fun w => run_convert_float_int w 26 2 .f64 .i64 _ n (by rw [Try.underlying26]; rfl) Try.underlying2 hn
      have hny := mag_num64 hmag
      refine ⟨n, true, ten_yes a N M y n h1 (by omega) h3 hy hny hc hI hL, sTen_yes a n (l01Tenths_any a N M y n h1 (by omega) h3 hy hny hc (self_eq (isNum_wide hI (cls_ok .f32 a))) (by rw [ef]; exact g1) (by rw [ef]; exact g2) (rg_max hrg)) hI hL⟩
theorem FnExactTenthsOf_walk (a0 : Nat) (w : World) (_w0 : (Lit.float .f32 a0).wf = true) :
    Calls Try.prog 6 #[.float .f32 a0] w fun e w' => e = .returned (.bool true) ∧ Below w.heap.size w w' := by
  obtain ⟨n0, ok, HI, HS⟩ := ten_both a0
  go_enter Try.func6, Try.ntmps6
  go_wp2_with (first | (go_at_call 19; refine (HS _).mono ?_; rintro e w' ⟨rfl, m1, rfl⟩) | (go_at_call 20; refine (HI _).mono ?_; rintro e w' ⟨rfl, m2, rfl⟩))
  go_ret
  exact ⟨rfl, below_drewN0 (Below.refl _ _) _⟩
end Go.Proofs.Ytlgamkbonpjchab

/- Powers and logarithms: the law's own functions. -/
import Derived.Test.YtlgamkbonpjchacPowC
import Derived.Test.YtlgamkbonpjchacPowP
import Derived.Test.YtlgamkbonpjchacLog3
import Derived.Test.YtlgamkbonpjchacRow
namespace Go.Proofs.Ytlgamkbonpjchac
open Go.RowKit Flt

theorem long_no (a : Option Addr) (n c : Nat) (b : Option Addr) (m d : Nat) (hn : n ≤ 1048576) (hm : m ≤ 1048576) (w : World) : Calls Try.prog 16 #[.slice a n c, .slice b m d] w fun e w' => e = .returned (.bool false) ∧ w = w' := by
  go_enter Try.func16, Try.ntmps16
  go_wp2
  go_ret
  exact ⟨ret_bool (by simp <;> omega), rfl⟩
theorem long_yes (a : Option Addr) (n c : Nat) (b : Option Addr) (m d : Nat) (h : 1048576 < n ∨ 1048576 < m) (w : World) : Calls Try.prog 16 #[.slice a n c, .slice b m d] w fun e w' => e = .returned (.bool true) ∧ w = w' := by
  by_cases h1 : 1048576 < n
  · clear h
    go_enter Try.func16, Try.ntmps16
    go_wp2
    go_ret
    exact ⟨rfl, rfl⟩
  · have h2 : 1048576 < m := by omega
    clear h
    go_enter Try.func16, Try.ntmps16
    go_wp2
    go_ret
    exact ⟨ret_bool (by simp <;> omega), rfl⟩
def bAt (n : Nat) (zs : List Int) : Int := if n = 0 then 11 else zs.getD 0 0 % 65
theorem byte_first {w : World} {a : Option Addr} {n c : Nat} {zs : List Int} (h : IsRow .u8 w a n c zs) (hn : n ≠ 0) : 0 ≤ zs.getD 0 0 ∧ zs.getD 0 0 < 256 := by
  rcases h with ⟨_, h, _⟩ | ⟨x, rfl, h1, h2, h3, h4, h5⟩
  · exact absurd h hn
  · have hm : zs.getD 0 0 ∈ zs := by
      cases zs with
      | nil => simp at h3; omega
      | cons z t => simp
    have hw := h5 _ hm
    have e1 : IntKind.u8.min = 0 := by decide
    have e2 : IntKind.u8.max = 255 := by decide
    generalize zs.getD 0 0 = z at hw
    simp [Lit.wf] at hw
    omega
theorem row_drew {k : IntKind} {w : World} {a : Option Addr} {l c : Nat} {zs : List Int} (n : Nat) (h : IsRow k w a l c zs) : IsRow k (w.drewN n) a l c zs := h
theorem bAt_rng {w : World} {a : Option Addr} {n c : Nat} {zs : List Int} (h : IsRow .u8 w a n c zs) : 0 ≤ bAt n zs ∧ bAt n zs < 65 := by
  unfold bAt
  split
  · omega
  · rename_i hn
    have := byte_first h hn
    omega
theorem at_is (a : Option Addr) (n c : Nat) (zs : List Int) (p : Int) (w : World) (h : IsRow .u8 w a n c zs) (hp : bAt n zs = p) : Calls Try.prog 17 #[.slice a n c, .int .i64 0, .int .i64 65] w fun e w' => e = .returned (.int .i64 p) ∧ w = w' := by
  by_cases hn : n = 0
  · subst hn
    have hp11 : p = 11 := by rw [← hp]; rfl
    subst hp11
    clear hp h
    go_enter Try.func17, Try.ntmps17
    go_wp2
    go_ret
    exact ⟨rfl, rfl⟩
  · obtain ⟨hz0, hz1⟩ := byte_first h hn
    have hpz : p = zs.getD 0 0 % 65 := by rw [← hp]; unfold bAt; rw [if_neg hn]
    rcases h with ⟨rfl, rfl, rfl, rfl⟩ | ⟨x, rfl, h1, h2, h3, h4, h5⟩
    · exact absurd rfl hn
    · obtain ⟨b, off, sp⟩ := x
      have hc := h4 0 (by omega)
      have hsp : sp = none := by
        cases sp with
        | none => rfl
        | some s =>
          simp only [World.cell?, Addr.add] at hc
          split at hc <;> simp at hc
      subst hsp
      rw [addr_add, Nat.add_zero] at hc
      clear h4 h5 hp
      generalize zs.getD 0 0 = z at hc hz0 hz1 hpz
      subst hpz
      go_enter Try.func17, Try.ntmps17
      go_wp2
      go_ret
      exact ⟨rfl, rfl⟩
theorem gap_is (a b : Nat) (A B : Option Nat) (hA : Is .f64 a A) (hB : Is .f64 b B) (w : World) : Calls Try.prog 29 #[.float .f64 a, .float .f64 b] w fun e w' => ∃ r, e = .returned (.float .f64 r) ∧ Is .f64 r (fgap A B) ∧ ∃ m, w' = w.drewN m := by
  cases h : fcmp .lss (ford .f64 A B) with
  | true =>
    have H : Hid (fgap A B = fop .sub .f64 B A) := by show fgap A B = _; unfold fgap; rw [h]; rfl
    go_enter Try.func29, Try.ntmps29
    go_wp2_with (first | (refine wpList_fa rfl rfl rfl rfl rfl (by first | assumption | exact is_const (by decide)) (by first | assumption | exact is_const (by decide) | exact is_int _) ?_; intro r n hr hrw) | (refine wpList_fcmp rfl rfl rfl rfl rfl (by first | assumption | exact is_const (by decide)) (by first | assumption | exact is_const (by decide)) ?_; try simp only [h]))
    go_ret
    exact ⟨_, rfl, by rw [H.out]; assumption, _, rfl⟩
  | false =>
    have H : Hid (fgap A B = fop .sub .f64 A B) := by show fgap A B = _; unfold fgap; rw [h]; rfl
    go_enter Try.func29, Try.ntmps29
    go_wp2_with (first | (refine wpList_fa rfl rfl rfl rfl rfl (by first | assumption | exact is_const (by decide)) (by first | assumption | exact is_const (by decide) | exact is_int _) ?_; intro r n hr hrw) | (refine wpList_fcmp rfl rfl rfl rfl rfl (by first | assumption | exact is_const (by decide)) (by first | assumption | exact is_const (by decide)) ?_; try simp only [h]))
    go_ret
    exact ⟨_, rfl, by rw [H.out]; assumption, _, rfl⟩
theorem exp_is (a : Nat) (X R : Option Nat) (hX : Is .f32 a X) (h : expB X R = true) (w : World) : Calls Try.prog 35 #[.float .f32 a] w fun e w' => ∃ r, e = .returned (.float .f32 r) ∧ Is .f32 r R ∧ ∃ m, w' = w.drewN m := by
  have e := hX.out
  subst e
  simp only [expB, Bool.and_eq_true, Bool.not_eq_true', beq_iff_eq] at h
  obtain ⟨⟨⟨⟨h1, h2⟩, h3⟩, h4⟩, h5⟩ := h
  rw [← h5]
  exact exp_mid a (by cases hc : cls .f32 a with | none => rw [hc] at h1; cases h1 | some _ => rfl) h2 h3 (fits_of_B h4) w
theorem log_is (a N M : Nat) (A R : Option Nat) (hA : Is .f32 a A) (h : logB A N M R = true) (w : World) : Calls Try.prog 36 #[.float .f32 a] w fun e w' => ∃ r, e = .returned (.float .f32 r) ∧ Is .f32 r R ∧ ∃ m, w' = w.drewN m := by
  have e := hA.out
  subst e
  simp only [logB, Bool.and_eq_true, Bool.not_eq_true', beq_iff_eq, decide_eq_true_eq] at h
  obtain ⟨⟨⟨⟨⟨⟨⟨⟨h1, h2⟩, h3⟩, h4⟩, h5⟩, h6⟩, h7⟩, h8⟩, h9⟩ := h
  rw [← h9]
  exact log_pos a N M h5 h6 (stops_of_B h7) (fits_of_B h8) (by cases hc : cls .f32 a with | none => rw [hc] at h1; cases h1 | some _ => rfl) h2 h3 h4 w
theorem pair_all : ((List.range 65).all fun (i : Nat) => (List.range 65).all fun (j : Nat) => pairB ((i : Int) - 32) ((j : Int) - 32)) = true := by
  have e : List.range 65 = (List.range 5).drop 0 ++ (List.range 10).drop 5 ++ (List.range 15).drop 10 ++ (List.range 20).drop 15 ++ (List.range 25).drop 20 ++ (List.range 30).drop 25 ++ (List.range 35).drop 30 ++ (List.range 40).drop 35 ++ (List.range 45).drop 40 ++ (List.range 50).drop 45 ++ (List.range 55).drop 50 ++ (List.range 60).drop 55 ++ (List.range 65).drop 60 := by decide
  have h : ∀ F : Nat → Bool, ((List.range 65).all F) = (((List.range 5).drop 0).all F && ((List.range 10).drop 5).all F && ((List.range 15).drop 10).all F && ((List.range 20).drop 15).all F && ((List.range 25).drop 20).all F && ((List.range 30).drop 25).all F && ((List.range 35).drop 30).all F && ((List.range 40).drop 35).all F && ((List.range 45).drop 40).all F && ((List.range 50).drop 45).all F && ((List.range 55).drop 50).all F && ((List.range 60).drop 55).all F && ((List.range 65).drop 60).all F) := fun F => by
    have e2 := congrArg (fun l => l.all F) e
    simp only [List.all_append] at e2
    exact e2
  rw [h, pair_0, pair_1, pair_2, pair_3, pair_4, pair_5, pair_6, pair_7, pair_8, pair_9, pair_10, pair_11, pair_12]
  rfl
theorem exp_at (n : Int) (h0 : -64 ≤ n) (h1 : n ≤ 64) : expB (xw n) (pwAt n) = true := by
  have h := List.all_eq_true.1 exp_all (n + 64).toNat (List.mem_range.2 (by omega))
  have e : (((n + 64).toNat : Nat) : Int) - 64 = n := by omega
  simpa only [e] using h
theorem log_at (n : Int) (h0 : -32 ≤ n) (h1 : n ≤ 32) : logB (pwAt n) (lwAt n).1 (lwAt n).2.1 (some (lwAt n).2.2) = true := by
  have h := List.all_eq_true.1 log_all (n + 32).toNat (List.mem_range.2 (by omega))
  have e : (((n + 32).toNat : Nat) : Int) - 32 = n := by omega
  simpa only [e] using h
theorem one_at (n : Int) (h0 : -32 ≤ n) (h1 : n ≤ 32) : fcmp .lss (ford .f64 (fgap (fwide (some (lwAt n).2.2)) (fwide (xw n))) (some 4562254508917369340)) = true ∧ fcmp .gtr (ford .f32 (pwAt n) (some 0)) = true := by
  have h := List.all_eq_true.1 one_all (n + 32).toNat (List.mem_range.2 (by omega))
  have e : (((n + 32).toNat : Nat) : Int) - 32 = n := by omega
  simp only [e, oneB, Bool.and_eq_true] at h
  exact h
theorem pair_at (n m : Int) (h0 : -32 ≤ n) (h1 : n ≤ 32) (g0 : -32 ≤ m) (g1 : m ≤ 32) : expB (fop .add .f32 (xw n) (xw m)) (pwAt (n + m)) = true ∧
    fcmp .lss (ford .f64 (fgap (fop .mul .f64 (fwide (pwAt n)) (fwide (pwAt m))) (fwide (pwAt (n + m)))) (fop .mul .f64 (some 4562254508917369340) (fwide (pwAt (n + m))))) = true := by
  have h := List.all_eq_true.1 (List.all_eq_true.1 pair_all (n + 32).toNat (List.mem_range.2 (by omega))) (m + 32).toNat (List.mem_range.2 (by omega))
  have e : (((n + 32).toNat : Nat) : Int) - 32 = n := by omega
  have e2 : (((m + 32).toNat : Nat) : Int) - 32 = m := by omega
  simp only [e, e2, pairB, Bool.and_eq_true, beq_iff_eq] at h
  exact ⟨by rw [h.1]; exact exp_at _ (by omega) (by omega), h.2⟩
set_option maxRecDepth 100000 in
set_option maxHeartbeats 1000000 in
theorem FnPowers_walk (a0 : Option Addr) (len0 cap0 : Nat) (z0 : List Int) (a1 : Option Addr) (len1 cap1 : Nat) (z1 : List Int) (w : World) (w0 : IsRow .u8 w a0 len0 cap0 z0) (w1 : IsRow .u8 w a1 len1 cap1 z1) :
    Calls Try.prog 7 #[.slice a0 len0 cap0, .slice a1 len1 cap1] w fun e w' => e = .returned (.bool true) ∧ Below w.heap.size w w' := by
  have HW0 := (show Hid _ from w0)
  have HW1 := (show Hid _ from w1)
  obtain ⟨p, HP⟩ : ∃ p, Hid (bAt len0 z0 = p) := ⟨_, rfl⟩
  obtain ⟨q, HQ⟩ : ∃ q, Hid (bAt len1 z1 = q) := ⟨_, rfl⟩
  have hp := bAt_rng w0
  have hq := bAt_rng w1
  rw [HP.out] at hp
  rw [HQ.out] at hq
  obtain ⟨hp0, hp1⟩ := hp
  obtain ⟨hq0, hq1⟩ := hq
  clear w0 w1
  by_cases hbig : 1048576 < len0 ∨ 1048576 < len1
  · have HB : Hid _ := hbig
    clear hbig
    go_enter Try.func7, Try.ntmps7
    go_wp2_with (go_at_call 16; refine (long_yes _ _ _ _ _ _ HB.out _).mono ?_; rintro e w' ⟨rfl, rfl⟩)
    go_ret
    exact ⟨rfl, Below.refl _ _⟩
  · have HL0 : Hid (len0 ≤ 1048576) := by show len0 ≤ 1048576; omega
    have HL1 : Hid (len1 ≤ 1048576) := by show len1 ≤ 1048576; omega
    clear hbig
    have HE1 := (show Hid _ from exp_at (p - 32) (by omega) (by omega))
    have HE2 := (show Hid _ from exp_at (q - 32) (by omega) (by omega))
    have HLg := (show Hid _ from log_at (p - 32) (by omega) (by omega))
    obtain ⟨h3, HB2⟩ := pair_at (p - 32) (q - 32) (by omega) (by omega) (by omega) (by omega)
    have HE3 := (show Hid _ from h3)
    obtain ⟨HB1, HB3⟩ := one_at (p - 32) (by omega) (by omega)
    have HB4 : fcmp .eql (ford .f32 (some 1065353216) (some 1065353216)) = true := by decide
    have HB5 : fcmp .eql (ford .f32 (some 0) (some 0)) = true := by decide
    clear h3
    simp only [xw] at HB1 HE1 HE2 HE3
    obtain ⟨XP, HXP⟩ : ∃ X, fop .quo .f32 (some (floatOfInt .f32 (p - 32))) (some 1090519040) = X := ⟨_, rfl⟩
    obtain ⟨XQ, HXQ⟩ : ∃ X, fop .quo .f32 (some (floatOfInt .f32 (q - 32))) (some 1090519040) = X := ⟨_, rfl⟩
    simp only [HXP, HXQ] at HB1 HE1 HE2 HE3
    obtain ⟨XS, HXS⟩ : ∃ X, fop .add .f32 XP XQ = X := ⟨_, rfl⟩
    simp only [HXS] at HE3
    generalize pwAt (p - 32 + (q - 32)) = PC at HB2 HE3
    generalize pwAt (p - 32) = PA at HB1 HB2 HB3 HE1 HLg
    generalize pwAt (q - 32) = PB at HB2 HE2
    generalize lwAt (p - 32) = LA at HB1 HLg
    go_enter Try.func7, Try.ntmps7
    go_wp2_with fail
    refine (long_no _ _ _ _ _ _ HL0.out HL1.out _).mono ?_
    rintro e w' ⟨rfl, rfl⟩
    go_wp2_with (first | (refine wpList_fw rfl rfl Try.underlying23 Try.underlying28 rfl (by assumption) ?_; intro r n hr hrw) | (refine wpList_fa rfl rfl rfl rfl rfl (by first | assumption | exact is_int _ | exact is_const (by decide)) (by first | assumption | exact is_const (by decide) | exact is_int _) ?_; intro r n hr hrw; first | rw [HXP] at hr | rw [HXQ] at hr | rw [HXS] at hr | skip) | (refine wpList_fcmp rfl rfl rfl rfl rfl (by first | assumption | exact is_const (by decide)) (by first | assumption | exact is_const (by decide)) ?_; first | rw [HB1] | rw [HB2] | rw [HB3] | rw [HB4] | rw [HB5]))
    refine (at_is _ _ _ z0 p _ HW0.out HP.out).mono ?_
    rintro e w' ⟨rfl, rfl⟩
    go_wp2_with (first | (refine wpList_fw rfl rfl Try.underlying23 Try.underlying28 rfl (by assumption) ?_; intro r n hr hrw) | (refine wpList_fa rfl rfl rfl rfl rfl (by first | assumption | exact is_int _ | exact is_const (by decide)) (by first | assumption | exact is_const (by decide) | exact is_int _) ?_; intro r n hr hrw; first | rw [HXP] at hr | rw [HXQ] at hr | rw [HXS] at hr | skip) | (refine wpList_fcmp rfl rfl rfl rfl rfl (by first | assumption | exact is_const (by decide)) (by first | assumption | exact is_const (by decide)) ?_; first | rw [HB1] | rw [HB2] | rw [HB3] | rw [HB4] | rw [HB5]))
    refine (at_is _ _ _ z1 q _ (row_drew _ HW1.out) HQ.out).mono ?_
    rintro e w' ⟨rfl, rfl⟩
    go_wp2_with (first | (refine wpList_fw rfl rfl Try.underlying23 Try.underlying28 rfl (by assumption) ?_; intro r n hr hrw) | (refine wpList_fa rfl rfl rfl rfl rfl (by first | assumption | exact is_int _ | exact is_const (by decide)) (by first | assumption | exact is_const (by decide) | exact is_int _) ?_; intro r n hr hrw; first | rw [HXP] at hr | rw [HXQ] at hr | rw [HXS] at hr | skip) | (refine wpList_fcmp rfl rfl rfl rfl rfl (by first | assumption | exact is_const (by decide)) (by first | assumption | exact is_const (by decide)) ?_; first | rw [HB1] | rw [HB2] | rw [HB3] | rw [HB4] | rw [HB5]))
    refine (exp_is _ XP PA (by assumption) HE1.out _).mono ?_
    rintro e w' ⟨r1, rfl, hr1, n1, rfl⟩
    go_wp2_with (first | (refine wpList_fw rfl rfl Try.underlying23 Try.underlying28 rfl (by assumption) ?_; intro r n hr hrw) | (refine wpList_fa rfl rfl rfl rfl rfl (by first | assumption | exact is_int _ | exact is_const (by decide)) (by first | assumption | exact is_const (by decide) | exact is_int _) ?_; intro r n hr hrw; first | rw [HXP] at hr | rw [HXQ] at hr | rw [HXS] at hr | skip) | (refine wpList_fcmp rfl rfl rfl rfl rfl (by first | assumption | exact is_const (by decide)) (by first | assumption | exact is_const (by decide)) ?_; first | rw [HB1] | rw [HB2] | rw [HB3] | rw [HB4] | rw [HB5]))
    refine (exp_is _ XQ PB (by assumption) HE2.out _).mono ?_
    rintro e w' ⟨r2, rfl, hr2, n2, rfl⟩
    go_wp2_with (first | (refine wpList_fw rfl rfl Try.underlying23 Try.underlying28 rfl (by assumption) ?_; intro r n hr hrw) | (refine wpList_fa rfl rfl rfl rfl rfl (by first | assumption | exact is_int _ | exact is_const (by decide)) (by first | assumption | exact is_const (by decide) | exact is_int _) ?_; intro r n hr hrw; first | rw [HXP] at hr | rw [HXQ] at hr | rw [HXS] at hr | skip) | (refine wpList_fcmp rfl rfl rfl rfl rfl (by first | assumption | exact is_const (by decide)) (by first | assumption | exact is_const (by decide)) ?_; first | rw [HB1] | rw [HB2] | rw [HB3] | rw [HB4] | rw [HB5]))
    refine (exp_is _ XS PC (by assumption) HE3.out _).mono ?_
    rintro e w' ⟨r3, rfl, hr3, n3, rfl⟩
    go_wp2_with (first | (refine wpList_fw rfl rfl Try.underlying23 Try.underlying28 rfl (by assumption) ?_; intro r n hr hrw) | (refine wpList_fa rfl rfl rfl rfl rfl (by first | assumption | exact is_int _ | exact is_const (by decide)) (by first | assumption | exact is_const (by decide) | exact is_int _) ?_; intro r n hr hrw; first | rw [HXP] at hr | rw [HXQ] at hr | rw [HXS] at hr | skip) | (refine wpList_fcmp rfl rfl rfl rfl rfl (by first | assumption | exact is_const (by decide)) (by first | assumption | exact is_const (by decide)) ?_; first | rw [HB1] | rw [HB2] | rw [HB3] | rw [HB4] | rw [HB5]))
    refine (log_is _ _ _ PA _ hr1 HLg.out _).mono ?_
    rintro e w' ⟨r4, rfl, hr4, n4, rfl⟩
    go_wp2_with (first | (refine wpList_fw rfl rfl Try.underlying23 Try.underlying28 rfl (by assumption) ?_; intro r n hr hrw) | (refine wpList_fa rfl rfl rfl rfl rfl (by first | assumption | exact is_int _ | exact is_const (by decide)) (by first | assumption | exact is_const (by decide) | exact is_int _) ?_; intro r n hr hrw; first | rw [HXP] at hr | rw [HXQ] at hr | rw [HXS] at hr | skip) | (refine wpList_fcmp rfl rfl rfl rfl rfl (by first | assumption | exact is_const (by decide)) (by first | assumption | exact is_const (by decide)) ?_; first | rw [HB1] | rw [HB2] | rw [HB3] | rw [HB4] | rw [HB5]))
    refine (gap_is _ _ _ _ (by assumption) (by assumption) _).mono ?_
    rintro e w' ⟨r5, rfl, hr5, n5, rfl⟩
    go_wp2_with (first | (refine wpList_fw rfl rfl Try.underlying23 Try.underlying28 rfl (by assumption) ?_; intro r n hr hrw) | (refine wpList_fa rfl rfl rfl rfl rfl (by first | assumption | exact is_int _ | exact is_const (by decide)) (by first | assumption | exact is_const (by decide) | exact is_int _) ?_; intro r n hr hrw; first | rw [HXP] at hr | rw [HXQ] at hr | rw [HXS] at hr | skip) | (refine wpList_fcmp rfl rfl rfl rfl rfl (by first | assumption | exact is_const (by decide)) (by first | assumption | exact is_const (by decide)) ?_; first | rw [HB1] | rw [HB2] | rw [HB3] | rw [HB4] | rw [HB5]))
    refine (gap_is _ _ _ _ (by assumption) (by assumption) _).mono ?_
    rintro e w' ⟨r6, rfl, hr6, n6, rfl⟩
    go_wp2_with (first | (refine wpList_fw rfl rfl Try.underlying23 Try.underlying28 rfl (by assumption) ?_; intro r n hr hrw) | (refine wpList_fa rfl rfl rfl rfl rfl (by first | assumption | exact is_int _ | exact is_const (by decide)) (by first | assumption | exact is_const (by decide) | exact is_int _) ?_; intro r n hr hrw; first | rw [HXP] at hr | rw [HXQ] at hr | rw [HXS] at hr | skip) | (refine wpList_fcmp rfl rfl rfl rfl rfl (by first | assumption | exact is_const (by decide)) (by first | assumption | exact is_const (by decide)) ?_; first | rw [HB1] | rw [HB2] | rw [HB3] | rw [HB4] | rw [HB5]))
    refine (exp_is _ _ _ (is_const (by decide)) end_exp _).mono ?_
    rintro e w' ⟨r7, rfl, hr7, n7, rfl⟩
    go_wp2_with (first | (refine wpList_fw rfl rfl Try.underlying23 Try.underlying28 rfl (by assumption) ?_; intro r n hr hrw) | (refine wpList_fa rfl rfl rfl rfl rfl (by first | assumption | exact is_int _ | exact is_const (by decide)) (by first | assumption | exact is_const (by decide) | exact is_int _) ?_; intro r n hr hrw; first | rw [HXP] at hr | rw [HXQ] at hr | rw [HXS] at hr | skip) | (refine wpList_fcmp rfl rfl rfl rfl rfl (by first | assumption | exact is_const (by decide)) (by first | assumption | exact is_const (by decide)) ?_; first | rw [HB1] | rw [HB2] | rw [HB3] | rw [HB4] | rw [HB5]))
    refine (log_is _ _ _ _ _ (is_const (by decide)) end_log _).mono ?_
    rintro e w' ⟨r8, rfl, hr8, n8, rfl⟩
    go_wp2_with (first | (refine wpList_fw rfl rfl Try.underlying23 Try.underlying28 rfl (by assumption) ?_; intro r n hr hrw) | (refine wpList_fa rfl rfl rfl rfl rfl (by first | assumption | exact is_int _ | exact is_const (by decide)) (by first | assumption | exact is_const (by decide) | exact is_int _) ?_; intro r n hr hrw; first | rw [HXP] at hr | rw [HXQ] at hr | rw [HXS] at hr | skip) | (refine wpList_fcmp rfl rfl rfl rfl rfl (by first | assumption | exact is_const (by decide)) (by first | assumption | exact is_const (by decide)) ?_; first | rw [HB1] | rw [HB2] | rw [HB3] | rw [HB4] | rw [HB5]))
    go_ret
    exact ⟨rfl, below_drewN0 (Below.refl _ _) _⟩
end Go.Proofs.Ytlgamkbonpjchac

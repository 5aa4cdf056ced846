/- The numbers of a window. -/
import Derived.Test.YtpmjiabllmomjaaP5
import Derived.Test.YtpmjiabllmomjaaShare
namespace Go.Proofs.Ytpmjiabllmomjaa
open Go.RowKit Flt
set_option linter.unusedVariables false


open Ieee
theorem mag32_sub {x y : Option Nat} {e f : Int} (hx : mag32 x e) (hy : mag32 y f) (h0 : -149 ≤ max e f + 1) (h1 : max e f + 1 ≤ 126) : mag32 (fop .sub .f32 x y) (max e f + 1) := by
  obtain ⟨b, s, m, i, rfl, h2, _, h4⟩ := hx
  obtain ⟨c, t, n, j, rfl, g2, _, g4⟩ := hy
  obtain ⟨r, k, p, hs, hl⟩ := sum_le (s := s) (t := !t) h4 g4
  have e1 : fop .sub .f32 (some b) (some c) = some (FloatKind.f32.format.nearest r k p) := by
    simp only [fop, Option.bind_some, floatBits, Format.sub, h2, g2, Datum.opposite, hs]; rfl
  rw [e1]
  exact near_mag32 r k p _ hl h0 h1
def intOk2 (a : Nat) : Bool := match FloatKind.f32.format.read (floatOfInt .f32 (a : Int)) with
  | .number false m i => decide (-149 ≤ i) && (m * 2 ^ (i + 149).toNat == a * 2 ^ 149)
  | _ => false
theorem ints_ok2 : ((List.range 512).all intOk2) = true := by kernel_rfl
theorem int_le2 {a : Nat} (h : a < 512) : ∃ m i, FloatKind.f32.format.read (floatOfInt .f32 (a : Int)) = .number false m i ∧ -149 ≤ i ∧ leP m i 9 ∧ (a ≠ 0 → geP m i 0) ∧ (a = 0 → m = 0) := by
  obtain ⟨m, i, hr, h2, h4⟩ : ∃ m i, FloatKind.f32.format.read (floatOfInt .f32 (a : Int)) = .number false m i ∧ -149 ≤ i ∧ m * 2 ^ (i + 149).toNat = a * 2 ^ 149 := by
    have h1 := List.all_eq_true.1 ints_ok2 a (List.mem_range.2 h)
    unfold intOk2 at h1
    generalize 2 ^ 149 = P at h1 ⊢
    split at h1
    · rename_i m i hr
      simp only [Bool.and_eq_true, decide_eq_true_eq, beq_iff_eq] at h1
      exact ⟨m, i, hr, h1.1, h1.2⟩
    · cases h1
  refine ⟨m, i, hr, h2, ?_, fun h0 => ?_, fun h0 => ?_⟩
  · by_cases hm : m = 0
    · exact .inl hm
    · right
      have g1 : m * 2 ^ (i + 149).toNat ≤ 2 ^ 158 := by
        rw [h4]
        have : (2 : Nat) ^ 158 = 2 ^ 9 * 2 ^ 149 := by rw [← Nat.pow_add]
        rw [this]
        exact Nat.mul_le_mul_right _ (by omega)
      have g2 : 2 ^ (i + 149).toNat ≤ 2 ^ 158 := Nat.le_trans (Nat.le_mul_of_pos_left _ (Nat.pos_of_ne_zero hm)) g1
      have g3 : (i + 149).toNat ≤ 158 := (Nat.pow_le_pow_iff_right (by omega)).1 g2
      refine ⟨by omega, ?_⟩
      have e4 : 158 = (9 - i).toNat + (i + 149).toNat := by omega
      rw [e4, Nat.pow_add] at g1
      exact Nat.le_of_mul_le_mul_right g1 (Nat.two_pow_pos _)
  · have hm : m ≠ 0 := by rintro rfl; rw [Nat.zero_mul] at h4; have := Nat.two_pow_pos 149; have := Nat.mul_ne_zero h0 (Nat.ne_of_gt this); omega
    refine ⟨hm, ?_⟩
    by_cases hi : 0 ≤ i
    · have : (0 - i).toNat = 0 := by omega
      rw [this, Nat.pow_zero]; omega
    · have g1 : 2 ^ 149 ≤ m * 2 ^ (i + 149).toNat := by rw [h4]; exact Nat.le_mul_of_pos_left _ (by omega)
      have e4 : 149 = (0 - i).toNat + (i + 149).toNat := by omega
      rw [e4, Nat.pow_add] at g1
      exact Nat.le_of_mul_le_mul_right (by simpa using g1) (Nat.two_pow_pos (i + 149).toNat)
  · rw [h0, Nat.zero_mul] at h4
    rcases Nat.mul_eq_zero.1 h4 with h | h
    · exact h
    · exact absurd h (Nat.ne_of_gt (Nat.two_pow_pos _))
theorem int_quo {a n : Nat} (ha : a < 512) (h0 : 1 ≤ n) (hn : n < 512) : mag32 (fop .quo .f32 (some (floatOfInt .f32 (a : Int))) (some (floatOfInt .f32 (n : Int)))) 9 := by
  obtain ⟨m1, i1, r1, _, a2, _⟩ := int_le2 ha
  obtain ⟨m2, i2, r2, _, _, b3, _⟩ := int_le2 hn
  obtain ⟨r, kk, p, hs, hl⟩ := quot_le (s := false) (t := false) a2 (b3 (by omega)) (FloatKind.f32.format.fractionBits + 2)
  have hq : fop .quo .f32 (some (floatOfInt .f32 (a : Int))) (some (floatOfInt .f32 (n : Int))) = some (FloatKind.f32.format.nearest r kk p) := by
    simp only [fop, Option.bind_some, floatBits, Format.div, r1, r2, hs, Option.map_some]; rfl
  rw [hq]
  exact near_mag32 r kk p _ hl (by omega) (by omega)
theorem part_quo {a n : Nat} (ha : a < n) (hn : n < 258) : mag32 (fop .quo .f32 (some (floatOfInt .f32 (a : Int))) (some (floatOfInt .f32 (n : Int)))) 0 := by
  by_cases h0 : a = 0
  · obtain ⟨m1, i1, r1, _, _, _, a2⟩ := int_le2 (a := a) (by omega)
    obtain ⟨m2, i2, r2, _, _, b3, _⟩ := int_le2 (a := n) (by omega)
    obtain ⟨r, kk, p, hs, hl⟩ := quot_le (s := false) (t := false) (m := m1) (i := i1) (e := 0) (.inl (a2 h0)) (b3 (by omega)) (FloatKind.f32.format.fractionBits + 2)
    have hq : fop .quo .f32 (some (floatOfInt .f32 (a : Int))) (some (floatOfInt .f32 (n : Int))) = some (FloatKind.f32.format.nearest r kk p) := by
      simp only [fop, Option.bind_some, floatBits, Format.div, r1, r2, hs, Option.map_some]; rfl
    rw [hq]
    exact near_mag32 r kk p _ hl (by omega) (by omega)
  · obtain ⟨q, m, j, hq, hr, hl, hj⟩ := share_le h0 hn (by omega)
    rw [hq]
    exact ⟨q, false, m, j, rfl, hr, hj, hl⟩
noncomputable def winX (n k : Nat) : Option Nat := fop .add .f32 (fop .quo .f32 (some (floatOfInt .f32 (k : Int))) (some (floatOfInt .f32 (n : Int)))) (some 1048576000)
theorem winX_mag {n k : Nat} (hk : k < n) (hn : n < 258) : mag32 (winX n k) 1 := mag32_add (part_quo hk hn) mag32_quarter (by omega) (by omega)
noncomputable def hillQ (n k : Nat) : Option Nat := fop .quo .f32 (some (floatOfInt .f32 ((2 * k + 1 : Nat) : Int))) (some (floatOfInt .f32 (n : Int)))
noncomputable def hillS (n k : Nat) : Option Nat := fop .sub .f32 (some 1073741824) (hillQ n k)
/-- the lesser one of two numbers -/
def minV (q s : Nat) : Nat := match FloatKind.f32.format.order q s with
  | some .lt => q
  | some .gt => s
  | _ => if (FloatKind.f32.decode q).neg then q else s
theorem minV_one (q s : Nat) : minV q s = q ∨ minV q s = s := by
  unfold minV
  split
  · exact .inl rfl
  · exact .inr rfl
  · split
    · exact .inl rfl
    · exact .inr rfl
noncomputable def hillC (n k : Nat) : Option Nat := some (minV ((hillQ n k).getD 0) ((hillS n k).getD 0))
theorem mag_word {x : Option Nat} {e : Int} (h : mag32 x e) : ∃ b, x = some b ∧ nanW .f32 b = false ∧ (∃ s m i, FloatKind.f32.format.read b = .number s m i ∧ -149 ≤ i) := by
  obtain ⟨b, s, m, i, rfl, h2, h3, _⟩ := h
  exact ⟨b, rfl, by rw [← read_nan, h2]; rfl, s, m, i, h2, h3⟩
theorem hill_pre {n k : Nat} (hk : k < n) (hn : n < 257) : ∃ q s, hillQ n k = some q ∧ nanW .f32 q = false ∧ hillS n k = some s ∧ nanW .f32 s = false ∧ (FloatKind.f32.format.order q s).isSome = true ∧ hillC n k = some (minV q s) ∧ nanW .f32 (minV q s) = false ∧ fin32 (hillC n k) = true := by
  have h1 : mag32 (hillQ n k) 9 := int_quo (by omega) (by omega) (by omega)
  have h2 : mag32 (hillS n k) 10 := mag32_sub (mag32_num 1073741824 false (2 ^ 23) (-22) 1 (by decide) (by omega) (by decide)) h1 (by omega) (by omega)
  have f1 := mag32_fin h1
  have f2 := mag32_fin h2
  obtain ⟨q, hq, nq, s1, m1, i1, r1, j1⟩ := mag_word h1
  obtain ⟨s, hs, ns, s2, m2, i2, r2, j2⟩ := mag_word h2
  have hC : hillC n k = some (minV q s) := by unfold hillC; rw [hq, hs]; rfl
  refine ⟨q, s, hq, nq, hs, ns, ?_, hC, ?_, ?_⟩
  · unfold Format.order; rw [r1, r2]; rfl
  · rcases minV_one q s with h | h <;> rw [h] <;> assumption
  · rw [hC]
    rcases minV_one q s with h | h
    · rw [h, ← hq]; exact f1
    · rw [h, ← hs]; exact f2
/-- a number of a window -/
noncomputable def winK (kind : Int) (n k : Nat) : Option Nat :=
  if kind = 1 then hillC n k
  else if kind = 2 then fop .mul .f32 (some 1056964608) (fop .sub .f32 (some 1065353216) (sineF (winX n k)))
  else if kind = 3 then fop .sub .f32 (some 1057635697) (fop .mul .f32 (some 1055622431) (sineF (winX n k)))
  else some 1065353216
theorem winK_fin {kind : Int} {n k : Nat} (hk : k < n) (hn : n < 257) : fin32 (winK kind n k) = true := by
  have hS := sineF_mag (winX_mag hk (by omega))
  unfold winK
  split
  · obtain ⟨_, _, _, _, _, _, _, _, _, h⟩ := hill_pre hk hn
    exact h
  · split
    · exact half_fin hS
    · split
      · have m46 : mag32 (some 1055622431) (-1) := mag32_num _ false 15435039 (-25) (-1) (by decide) (by omega) (by decide)
        have m54 : mag32 (some 1057635697) 0 := mag32_num _ false 9059697 (-24) 0 (by decide) (by omega) (by decide)
        exact mag32_fin (mag32_sub m54 (mag32_mul m46 hS (by omega) (by omega)) (by omega) (by omega))
      · decide
theorem winR_all (kind : Int) {n : Nat} (hn : n < 257) : soundR (winK kind n) n = (listK (winK kind n) n, true) := by
  unfold soundR finR2
  rw [if_pos]
  unfold finsC listK
  rw [List.all_eq_true]
  intro x hx
  obtain ⟨k, hk, rfl⟩ := List.mem_map.1 hx
  exact winK_fin (List.mem_range.1 hk) hn
noncomputable def windowR (kind : Int) (n : Int) : List (Option Nat) × Bool := if decide (0 ≤ kind) && (decide (kind ≤ 3) && (decide (1 ≤ n) && decide (n ≤ 256))) then (listK (winK kind n.toNat) n.toNat, true) else ([], false)
theorem window_len (kind n : Int) : (windowR kind n).1.length ≤ 256 := by
  unfold windowR
  split
  · rename_i h
    simp only [Bool.and_eq_true, decide_eq_true_eq] at h
    rw [listK_len]; omega
  · exact Nat.zero_le _
section
variable {P : Program} {w : World} {ops : Array Oper} {rest : List Oper} {o : Oper} {a : Act} {Q : Exit → Act → World → Prop}
theorem wpList_fminV {x y : Operand} {t1 t2 : TypeId} (ho : o.op = .call { callee := .builtin .min, args := #[x, y], argTypes := #[t1, t2] }) (hw : Region.wanted o (yielded ops a.tmps) = true) {q s : Nat} (hx : a.eval x = .float .f32 q) (hy : a.eval y = .float .f32 s) (hn : (FloatKind.f32.format.order q s).isSome = true)
    (h : wpList P ops Q rest (a.put o.dst (.float .f32 (minV q s))) w) : wpList P ops Q (o :: rest) a w := by
  refine wpList_wanted hw fun K hK' => ?_
  have hrun : ∀ ts ty, (Builtin.min_ ts ty #[.float .f32 q, .float .f32 s]).run P w = .ok (.float .f32 (minV q s)) w := by
    intro ts ty
    unfold minV
    cases ho : FloatKind.f32.format.order q s with
    | none => rw [ho] at hn; cases hn
    | some r => cases r <;> simp [Builtin.min_, Builtin.min2, ho]
  unfold Oper.wp
  have hk := hK' _ _ h
  simp [execOp, ho, resolve, invoke, builtin, hx, hy, hrun, Result.andThen]
  exact hk
end



theorem ListIs.base9 {w : World} {B B' : Nat} {R : List (Option Nat)} {v : Value} (h : ListIs w B R v) (e : B' ≤ B) : ListIs w B' R v := by
  obtain ⟨a, c, zs, h1, h2, h3⟩ := h
  exact ⟨a, c, zs, h1, Own.base h2 e, h3⟩
theorem wrap_sm {x : Int} (h0 : -9223372036854775808 ≤ x) (h1 : x < 9223372036854775808) : IntKind.i64.wrap x = x := by
  have hb : IntKind.i64.bits = 64 := rfl
  have hs : IntKind.i64.signed = true := rfl
  have e1 : (2 : Int) ^ 64 = 18446744073709551616 := by decide
  have e2 : (2 : Int) ^ (64 - 1) = 9223372036854775808 := by decide
  unfold IntKind.wrap
  simp only [hb, hs, e1, e2, Bool.true_and, decide_eq_true_eq]
  split <;> omega
theorem win_0 (n k : Nat) : cls .f32 1065353216 = winK 0 n k := by
  unfold winK; rw [if_neg (by decide), if_neg (by decide), if_neg (by decide)]; decide
theorem win_2 (n k : Nat) {r : Nat} (h : Is .f32 r (fop .mul .f32 (some 1056964608) (fop .sub .f32 (some 1065353216) (sineF (fop .add .f32 (fop .quo .f32 (some (floatOfInt .f32 (k : Int))) (some (floatOfInt .f32 (n : Int)))) (some 1048576000)))))) : cls .f32 r = winK 2 n k := by
  unfold winK; rw [if_neg (by decide), if_pos rfl]; exact Is.out h
theorem win_3 (n k : Nat) {r : Nat} (h : Is .f32 r (fop .sub .f32 (some 1057635697) (fop .mul .f32 (some 1055622431) (sineF (fop .add .f32 (fop .quo .f32 (some (floatOfInt .f32 (k : Int))) (some (floatOfInt .f32 (n : Int)))) (some 1048576000)))))) : cls .f32 r = winK 3 n k := by
  unfold winK; rw [if_neg (by decide), if_neg (by decide), if_pos rfl]; exact Is.out h

theorem icw_yes (n : Int) (h : 1 ≤ n ∧ n ≤ 256) (w : World) : Calls Try.prog 49 #[.int .i64 n] w fun e w' => e = .returned (.bool true) ∧ w = w' := by
  obtain ⟨h1, h2⟩ := h
  go_enter Try.func49, Try.ntmps49
  go_wp2
  go_ret
  exact ⟨by first | rfl | (simp; done) | (simp; omega), rfl⟩
theorem icw_no (n : Int) (h : ¬ (1 ≤ n ∧ n ≤ 256)) (w : World) : Calls Try.prog 49 #[.int .i64 n] w fun e w' => e = .returned (.bool false) ∧ w = w' := by
  by_cases h1 : 1 ≤ n
  · have h2 : ¬ n ≤ 256 := by omega
    go_enter Try.func49, Try.ntmps49
    go_wp2
    go_ret
    exact ⟨by first | rfl | (simp; done) | (simp; omega), rfl⟩
  · go_enter Try.func49, Try.ntmps49
    go_wp2
    go_ret
    exact ⟨by first | rfl | (simp; done) | (simp; omega), rfl⟩

set_option maxHeartbeats 4000000 in
set_option maxRecDepth 100000 in
theorem windowAt_0 (n k : Nat) (w : World) (hk : k < n) (hn : n < 257) : Calls Try.prog 52 #[.int .i64 0, .int .i64 (n : Int), .int .i64 (k : Int)] w fun e w' => ∃ r, e = .returned (.float .f32 r) ∧ cls .f32 r = winK 0 n k ∧ ∃ m, w' = w.drewN m := by


  go_enter Try.func52, Try.ntmps52
  go_wp2_with (first | (refine wpList_fa rfl rfl rfl rfl rfl (by first | assumption | exact is_const (by decide) | exact is_int _ | exact is_self _ _) (by first | assumption | exact is_const (by decide) | exact is_int _ | exact is_self _ _) ?_; intro r m hr hrw) | (go_at_call 80; refine (sine_is _ _ (by assumption) _).mono ?_; rintro e w' ⟨r, rfl, hr, m, rfl⟩))
  go_ret
  exact ⟨_, rfl, win_0 n k, _, rfl⟩
set_option maxHeartbeats 4000000 in
set_option maxRecDepth 100000 in
theorem windowAt_1 (n k : Nat) (w : World) (hk : k < n) (hn : n < 257) : Calls Try.prog 52 #[.int .i64 1, .int .i64 (n : Int), .int .i64 (k : Int)] w fun e w' => ∃ r, e = .returned (.float .f32 r) ∧ cls .f32 r = winK 1 n k ∧ ∃ m, w' = w.drewN m := by
  obtain ⟨k2, hk2⟩ : ∃ k2, 2 * k = k2 := ⟨_, rfl⟩
  obtain ⟨k3, hk3⟩ : ∃ k3, k2 + 1 = k3 := ⟨_, rfl⟩
  have hk2i : (2 : Int) * (k : Int) = (k2 : Int) := by omega
  have hk3i : (k2 : Int) + 1 = (k3 : Int) := by omega
  have W1 : IntKind.i64.wrap (k2 : Int) = (k2 : Int) := wrap_sm (by omega) (by omega)
  have W2 : IntKind.i64.wrap (k3 : Int) = (k3 : Int) := wrap_sm (by omega) (by omega)
  obtain ⟨q, s, hq, nq, hs0, ns, hord, hC, nm, _⟩ := hill_pre hk hn
  unfold hillS at hs0
  rw [hq] at hs0
  unfold hillQ at hq
  rw [hk2, hk3] at hq
  have HE1 := hid (fun (r1 : Nat) (h : Is .f32 r1 (fop .quo .f32 (some (floatOfInt .f32 (k3 : Int))) (some (floatOfInt .f32 (n : Int))))) => (cls_word ((Is.out h).trans hq) : q = r1))
  have hqs : Is .f32 q (some q) := cls_num nq
  have HE2 := hid (fun (r1 : Nat) (h : Is .f32 r1 (fop .sub .f32 (some 1073741824) (some q))) => (cls_word ((Is.out h).trans hs0) : s = r1))
  have HRES := hid (show cls .f32 (minV q s) = winK 1 n k from by unfold winK; rw [if_pos rfl, hC]; exact cls_num nm)
  clear hq hs0 nq ns hC nm
  go_enter Try.func52, Try.ntmps52
  go_wp2_with (first | (refine wpList_fa (op := .quo) rfl rfl rfl rfl rfl (is_int (k3 : Int)) (is_int (n : Int)) ?_; intro r1 m1 hr1 hrw1; obtain rfl := HE1.out _ hr1) | (refine wpList_fa (op := .sub) rfl rfl rfl rfl rfl (is_const (by decide)) hqs ?_; intro r2 m2 hr2 hrw2; obtain rfl := HE2.out _ hr2) | (refine wpList_fminV rfl rfl rfl rfl hord ?_) | (refine wpList_fa rfl rfl rfl rfl rfl (by first | assumption | exact is_const (by decide) | exact is_int _ | exact is_self _ _) (by first | assumption | exact is_const (by decide) | exact is_int _ | exact is_self _ _) ?_; intro r m hr hrw) | (go_at_call 80; refine (sine_is _ _ (by assumption) _).mono ?_; rintro e w' ⟨r, rfl, hr, m, rfl⟩))
  go_ret
  exact ⟨_, rfl, HRES.out, _, rfl⟩
set_option maxHeartbeats 4000000 in
set_option maxRecDepth 100000 in
theorem windowAt_2 (n k : Nat) (w : World) (hk : k < n) (hn : n < 257) : Calls Try.prog 52 #[.int .i64 2, .int .i64 (n : Int), .int .i64 (k : Int)] w fun e w' => ∃ r, e = .returned (.float .f32 r) ∧ cls .f32 r = winK 2 n k ∧ ∃ m, w' = w.drewN m := by


  go_enter Try.func52, Try.ntmps52
  go_wp2_with (first | (refine wpList_fa rfl rfl rfl rfl rfl (by first | assumption | exact is_const (by decide) | exact is_int _ | exact is_self _ _) (by first | assumption | exact is_const (by decide) | exact is_int _ | exact is_self _ _) ?_; intro r m hr hrw) | (go_at_call 80; refine (sine_is _ _ (by assumption) _).mono ?_; rintro e w' ⟨r, rfl, hr, m, rfl⟩))
  go_ret
  exact ⟨_, rfl, win_2 n k (by assumption), _, rfl⟩
set_option maxHeartbeats 4000000 in
set_option maxRecDepth 100000 in
theorem windowAt_3 (n k : Nat) (w : World) (hk : k < n) (hn : n < 257) : Calls Try.prog 52 #[.int .i64 3, .int .i64 (n : Int), .int .i64 (k : Int)] w fun e w' => ∃ r, e = .returned (.float .f32 r) ∧ cls .f32 r = winK 3 n k ∧ ∃ m, w' = w.drewN m := by


  go_enter Try.func52, Try.ntmps52
  go_wp2_with (first | (refine wpList_fa rfl rfl rfl rfl rfl (by first | assumption | exact is_const (by decide) | exact is_int _ | exact is_self _ _) (by first | assumption | exact is_const (by decide) | exact is_int _ | exact is_self _ _) ?_; intro r m hr hrw) | (go_at_call 80; refine (sine_is _ _ (by assumption) _).mono ?_; rintro e w' ⟨r, rfl, hr, m, rfl⟩))
  go_ret
  exact ⟨_, rfl, win_3 n k (by assumption), _, rfl⟩
theorem windowAt_any (kind : Int) (n k : Nat) (w : World) (h0 : 0 ≤ kind) (h3 : kind ≤ 3) (hk : k < n) (hn : n < 257) : Calls Try.prog 52 #[.int .i64 kind, .int .i64 (n : Int), .int .i64 (k : Int)] w fun e w' => ∃ r, e = .returned (.float .f32 r) ∧ cls .f32 r = winK kind n k ∧ ∃ m, w' = w.drewN m := by
  have h4 : kind = 0 ∨ kind = 1 ∨ kind = 2 ∨ kind = 3 := by omega
  rcases h4 with rfl | rfl | rfl | rfl
  · exact windowAt_0 n k w hk hn
  · exact windowAt_1 n k w hk hn
  · exact windowAt_2 n k w hk hn
  · exact windowAt_3 n k w hk hn

set_option maxHeartbeats 4000000 in
set_option maxRecDepth 100000 in
theorem window_clo (kind : Int) (n k b1 b2 : Nat) (w : World) (h0 : 0 ≤ kind) (h3 : kind ≤ 3) (hk : k < n) (hn : n < 257) (h1 : Box w b1 #[.int .i64 kind]) (h2 : Box w b2 #[.int .i64 (n : Int)]) :
    Calls Try.prog 51 #[.int .i64 (k : Int), .pointer (some ⟨b1, 0, none⟩), .pointer (some ⟨b2, 0, none⟩)] w fun e w' => ∃ r, e = .returned (.float .f32 r) ∧ cls .f32 r = winK kind n k ∧ Ext w w' := by
  obtain ⟨d1, l1⟩ := Box.cells1 h1
  obtain ⟨d2, l2⟩ := Box.cells1 h2
  have H := hid (And.intro (And.intro h0 h3) (And.intro hk hn))
  clear h1 h2 h0 h3 hk hn
  go_enter Try.func51, Try.ntmps51
  go_wp2_with fail
  refine (windowAt_any kind n k _ H.out.1.1 H.out.1.2 H.out.2.1 H.out.2.2).mono ?_
  rintro e w' ⟨r, rfl, hr, m, rfl⟩
  go_wp2_with fail
  go_ret
  exact ⟨_, rfl, hr, by (repeat with_reducible (first | exact Ext.refl _ | exact ext_alloc _ _ | refine Ext.drewN ?_ _ | refine Ext.drew1 ?_ | refine Ext.set ?_ (by dsimp only; omega) _ | refine Ext.alloc ?_ _))⟩

set_option maxHeartbeats 4000000 in
set_option maxRecDepth 100000 in
theorem window_any (kind d : Int) (R : List (Option Nat)) (O : Bool) (w : World) (hR : windowR kind d = (R, O)) :
    Calls Try.prog 16 #[.int .i64 kind, .int .i64 d] w fun e w' => ∃ v, e = .returned (.tuple #[v, .bool O]) ∧ ListIs w' w.heap.size R v ∧ Ext w w' := by
  have HR := hid hR
  clear hR
  by_cases hk0 : kind < 0
  · have e : O = false ∧ R = [] := by have := HR.out; unfold windowR at this; rw [if_neg (by simp; omega)] at this; simpa [eq_comm, and_comm] using this
    obtain ⟨rfl, rfl⟩ := e
    go_enter Try.func16, Try.ntmps16
    go_wp2_with fail
    go_returns
    refine ⟨_, rfl, nil_is _ _, ?_⟩
    (repeat with_reducible (first | exact Ext.refl _ | exact ext_alloc _ _ | refine Ext.drewN ?_ _ | refine Ext.drew1 ?_ | refine Ext.set ?_ (by dsimp only; omega) _ | refine Ext.alloc ?_ _))
  by_cases hk3 : 3 < kind
  · have e : O = false ∧ R = [] := by have := HR.out; unfold windowR at this; rw [if_neg (by simp; omega)] at this; simpa [eq_comm, and_comm] using this
    obtain ⟨rfl, rfl⟩ := e
    go_enter Try.func16, Try.ntmps16
    go_wp2_with fail
    go_returns
    refine ⟨_, rfl, nil_is _ _, ?_⟩
    (repeat with_reducible (first | exact Ext.refl _ | exact ext_alloc _ _ | refine Ext.drewN ?_ _ | refine Ext.drew1 ?_ | refine Ext.set ?_ (by dsimp only; omega) _ | refine Ext.alloc ?_ _))
  have hk : 0 ≤ kind ∧ kind ≤ 3 := by omega
  by_cases hm : ¬ (1 ≤ d ∧ d ≤ 256)
  · have e : O = false ∧ R = [] := by have := HR.out; unfold windowR at this; rw [if_neg (by simp; omega)] at this; simpa [eq_comm, and_comm] using this
    obtain ⟨rfl, rfl⟩ := e
    go_enter Try.func16, Try.ntmps16
    go_wp2_with (first | (go_at_call 49; with_reducible refine (icw_no d hm _).mono ?_; rintro e w' ⟨rfl, rfl⟩))
    go_returns
    refine ⟨_, rfl, nil_is _ _, ?_⟩
    (repeat with_reducible (first | exact Ext.refl _ | exact ext_alloc _ _ | refine Ext.drewN ?_ _ | refine Ext.drew1 ?_ | refine Ext.set ?_ (by dsimp only; omega) _ | refine Ext.alloc ?_ _))
  replace hm := Decidable.not_not.1 hm
  obtain ⟨n, rfl⟩ : ∃ q : Nat, d = (q : Int) := ⟨d.toNat, by omega⟩
  have e : O = true ∧ R = listK (winK kind n) n := by have := HR.out; unfold windowR at this; rw [if_pos (by simp; omega)] at this; simpa [eq_comm, and_comm] using this
  obtain ⟨rfl, rfl⟩ := e
  have HD := hid (show 1 ≤ n ∧ n < 257 by omega)
  have HK := hid hk
  clear HR
  go_enter Try.func16, Try.ntmps16
  go_wp2_with (first | (go_at_call 49; with_reducible refine (icw_yes (n : Int) hm _).mono ?_; rintro e w' ⟨rfl, rfl⟩))
  obtain ⟨w0, hw0⟩ : ∃ u, u = (w.alloc (.cells #[.int .i64 kind] 2)).alloc (.cells #[.int .i64 (n : Int)] 2) := ⟨_, rfl⟩
  rw [← hw0]
  have EX := hid (show Ext w w0 from by rw [hw0]; (repeat with_reducible (first | exact Ext.refl _ | exact ext_alloc _ _ | refine Ext.drewN ?_ _ | refine Ext.drew1 ?_ | refine Ext.set ?_ (by dsimp only; omega) _ | refine Ext.alloc ?_ _)))
  have B0 : Hid (Box w0 w.heap.size #[.int .i64 kind]) := by rw [hw0]; exact hid (Box.alloc (box_new (w := w) #[.int .i64 kind] 2) _)
  have B1 : Hid (Box w0 (w.heap.size + 1) #[.int .i64 (n : Int)]) := by rw [hw0]; exact hid (Box.cast' (box_new (w := w.alloc (.cells #[.int .i64 kind] 2)) #[.int .i64 (n : Int)] 2) (by simp))
  clear hw0
  refine (soundOf_any n 51 #[.pointer (some ⟨w.heap.size, 0, none⟩), .pointer (some ⟨w.heap.size + 1, 0, none⟩)] (winK kind n) _ true w0 (by have := HD.out; omega) (fun _ _ => by simp [go_sem]) (fun k hkn wr e => window_clo kind n k _ _ wr HK.out.1 HK.out.2 hkn HD.out.2 (Box.ext B0.out e) (Box.ext B1.out e)) (winR_all kind HD.out.2)).mono ?_
  rintro e w1 ⟨v, rfl, hv, E1⟩
  have HL2 := hid hv
  have EY := hid (Ext.trans EX.out E1)
  have HZ := hid (show w.heap.size ≤ w0.heap.size from Ext.size EX.out)
  clear hv E1
  go_wp2_with fail
  go_returns
  exact ⟨_, rfl, ListIs.base9 HL2.out HZ.out, EY.out⟩



set_option maxHeartbeats 4000000 in
set_option maxRecDepth 100000 in
theorem l05Window_0 (n : Nat) (w : World) (hn : n < 257) : Calls Try.prog 48 #[.int .i64 0, .int .i64 (n : Int)] w fun e w' => ∃ v, e = .returned v ∧ ListIs w' w.heap.size (listK (winK 0 n) n) v ∧ Ext w w' := by
  obtain ⟨i0, hif, hz0, hz1, hz2⟩ := info_parts infoF
  have HI := hid (And.intro hif (And.intro hz0 (And.intro hz1 hz2)))
  clear hif hz0 hz1 hz2
  have HD := hid hn
  go_enter Try.func48, Try.ntmps48
  go_wp2_with fail
  go_loopw [5, 6] (fun v i wr => ∃ (k : Nat) (ys : List Nat), k ≤ n ∧ i = .int .i64 k ∧ Hid (Own wr w.heap.size k v ys) ∧ Hid (ys.map (cls .f32) = listK (winK 0 n) k) ∧ Hid (Ext w wr)) (fun _ i _ => n - (intOf i).toNat)
  case atStart => exact ⟨0, [], Nat.zero_le _, rfl, hid (own_fresh (cs := #[]) (zs := []) (hid rfl) rfl (by simp) (by simp) (Nat.zero_le _)), rfl, hid (by (repeat with_reducible (first | exact Ext.refl _ | exact ext_alloc _ _ | refine Ext.drewN ?_ _ | refine Ext.drew1 ?_ | refine Ext.set ?_ (by dsimp only; omega) _ | refine Ext.alloc ?_ _)))⟩
  case round =>
    obtain ⟨k, ys, hkk, rfl, ho, hyy, he⟩ := hrel
    by_cases hk : k < n
    · have hki : (k : Int) < (n : Int) := by omega
      obtain ⟨k2, hk2⟩ : ∃ k2, 2 * k = k2 := ⟨_, rfl⟩
      obtain ⟨k3, hk3⟩ : ∃ k3, k2 + 1 = k3 := ⟨_, rfl⟩
      have hk2i : (2 : Int) * (k : Int) = (k2 : Int) := by omega
      have hk3i : (k2 : Int) + 1 = (k3 : Int) := by omega
      have W1 : IntKind.i64.wrap (k2 : Int) = (k2 : Int) := wrap_sm (by omega) (by omega)
      have W2 : IntKind.i64.wrap (k3 : Int) = (k3 : Int) := wrap_sm (by omega) (by omega)

      have hs := hid (listK_succ (winK 0 n) k)
      have HSZ := hid (Ext.size he.out)
      go_wp2_with (first | (refine wpList_fa rfl rfl rfl rfl rfl (by first | assumption | exact is_const (by decide) | exact is_int _ | exact is_self _ _) (by first | assumption | exact is_const (by decide) | exact is_int _ | exact is_self _ _) ?_; intro r m hr hrw) | (go_at_call 79; refine (l01Sine_is _ _ (by assumption) _).mono ?_; rintro e w' ⟨r, rfl, hr, m, rfl⟩) | (at_builtin; refine wpList_append_lies _ rfl _ _ 22 rfl w.heap.size 33 i0 (.float .f32 0) 1 4 Try.underlying22 HI.out.1 HI.out.2.1 HI.out.2.2.1 HI.out.2.2.2 rfl (by decide) _ _ _ rfl (Own.ext ho.out (by (repeat with_reducible (first | exact Ext.refl _ | exact ext_alloc _ _ | refine Ext.drewN ?_ _ | refine Ext.drew1 ?_ | refine Ext.set ?_ (by dsimp only; omega) _ | refine Ext.alloc ?_ _)))) ⟨wr.heap.size, 0, none⟩ 1 1 [.float .f32 1065353216] rfl rfl (World.news_of_block (heap_alloc_new _ _)) (by intro u hu; simp at hu; subst hu; rfl) (by omega) (by have h9 := HD.out; unfold maxLen; omega) (by have h9 := HD.out; omega) (by have h8 := HSZ.out; simp; omega) _ rfl ?_; intro g cap w1 hown hgrow hat hlt2))
      have h1 := hid (own_snoc hown)
      have h2 := hid (show Ext w w1 from But.below hgrow (Ext.trans he.out (by (repeat with_reducible (first | exact Ext.refl _ | exact ext_alloc _ _ | refine Ext.drewN ?_ _ | refine Ext.drew1 ?_ | refine Ext.set ?_ (by dsimp only; omega) _ | refine Ext.alloc ?_ _)))) (fun k2 hk2 => (Own.block ho.out k2 hk2).1))
      have h3 := hid (show (ys ++ [_]).map (cls .f32) = listK (winK 0 n) (k + 1) from by rw [List.map_append, hyy.out, hs.out]; exact congrArg (fun u => listK (winK 0 n) k ++ [u]) (win_0 n k))
      clear hown hgrow hat hlt2
      go_wp2
      go_roundw
      case rel => exact ⟨k + 1, ys ++ [_], by omega, by go_num, h1, h3, h2⟩
      case measure => simp [intOf]; omega
    · have hkn : k = n := by omega
      subst hkn
      have hk1 : ¬ ((k : Int) < (k : Int)) := by omega
      have hli := hid (list_is ho.out hyy.out)
      go_wp2_with fail
      go_ret
      exact ⟨_, rfl, hli.out, he.out⟩
set_option maxHeartbeats 4000000 in
set_option maxRecDepth 100000 in
theorem l05Window_1 (n : Nat) (w : World) (hn : n < 257) : Calls Try.prog 48 #[.int .i64 1, .int .i64 (n : Int)] w fun e w' => ∃ v, e = .returned v ∧ ListIs w' w.heap.size (listK (winK 1 n) n) v ∧ Ext w w' := by
  obtain ⟨i0, hif, hz0, hz1, hz2⟩ := info_parts infoF
  have HI := hid (And.intro hif (And.intro hz0 (And.intro hz1 hz2)))
  clear hif hz0 hz1 hz2
  have HD := hid hn
  go_enter Try.func48, Try.ntmps48
  go_wp2_with fail
  go_loopw [5, 6] (fun v i wr => ∃ (k : Nat) (ys : List Nat), k ≤ n ∧ i = .int .i64 k ∧ Hid (Own wr w.heap.size k v ys) ∧ Hid (ys.map (cls .f32) = listK (winK 1 n) k) ∧ Hid (Ext w wr)) (fun _ i _ => n - (intOf i).toNat)
  case atStart => exact ⟨0, [], Nat.zero_le _, rfl, hid (own_fresh (cs := #[]) (zs := []) (hid rfl) rfl (by simp) (by simp) (Nat.zero_le _)), rfl, hid (by (repeat with_reducible (first | exact Ext.refl _ | exact ext_alloc _ _ | refine Ext.drewN ?_ _ | refine Ext.drew1 ?_ | refine Ext.set ?_ (by dsimp only; omega) _ | refine Ext.alloc ?_ _)))⟩
  case round =>
    obtain ⟨k, ys, hkk, rfl, ho, hyy, he⟩ := hrel
    by_cases hk : k < n
    · have hki : (k : Int) < (n : Int) := by omega
      obtain ⟨k2, hk2⟩ : ∃ k2, 2 * k = k2 := ⟨_, rfl⟩
      obtain ⟨k3, hk3⟩ : ∃ k3, k2 + 1 = k3 := ⟨_, rfl⟩
      have hk2i : (2 : Int) * (k : Int) = (k2 : Int) := by omega
      have hk3i : (k2 : Int) + 1 = (k3 : Int) := by omega
      have W1 : IntKind.i64.wrap (k2 : Int) = (k2 : Int) := wrap_sm (by omega) (by omega)
      have W2 : IntKind.i64.wrap (k3 : Int) = (k3 : Int) := wrap_sm (by omega) (by omega)
      obtain ⟨q, s, hq, nq, hs0, ns, hord, hC, nm, _⟩ := hill_pre hk hn
      unfold hillS at hs0
      rw [hq] at hs0
      unfold hillQ at hq
      rw [hk2, hk3] at hq
      have HE1 := hid (fun (r1 : Nat) (h : Is .f32 r1 (fop .quo .f32 (some (floatOfInt .f32 (k3 : Int))) (some (floatOfInt .f32 (n : Int))))) => (cls_word ((Is.out h).trans hq) : q = r1))
      have hqs : Is .f32 q (some q) := cls_num nq
      have HE2 := hid (fun (r1 : Nat) (h : Is .f32 r1 (fop .sub .f32 (some 1073741824) (some q))) => (cls_word ((Is.out h).trans hs0) : s = r1))
      have HRES := hid (show cls .f32 (minV q s) = winK 1 n k from by unfold winK; rw [if_pos rfl, hC]; exact cls_num nm)
      clear hq hs0 nq ns hC nm
      have hs := hid (listK_succ (winK 1 n) k)
      have HSZ := hid (Ext.size he.out)
      go_wp2_with (first | (refine wpList_fa (op := .quo) rfl rfl rfl rfl rfl (is_int (k3 : Int)) (is_int (n : Int)) ?_; intro r1 m1 hr1 hrw1; obtain rfl := HE1.out _ hr1) | (refine wpList_fa (op := .sub) rfl rfl rfl rfl rfl (is_const (by decide)) hqs ?_; intro r2 m2 hr2 hrw2; obtain rfl := HE2.out _ hr2) | (refine wpList_fminV rfl rfl rfl rfl hord ?_) | (refine wpList_fa rfl rfl rfl rfl rfl (by first | assumption | exact is_const (by decide) | exact is_int _ | exact is_self _ _) (by first | assumption | exact is_const (by decide) | exact is_int _ | exact is_self _ _) ?_; intro r m hr hrw) | (go_at_call 79; refine (l01Sine_is _ _ (by assumption) _).mono ?_; rintro e w' ⟨r, rfl, hr, m, rfl⟩) | (at_builtin; refine wpList_append_lies _ rfl _ _ 22 rfl w.heap.size 33 i0 (.float .f32 0) 1 4 Try.underlying22 HI.out.1 HI.out.2.1 HI.out.2.2.1 HI.out.2.2.2 rfl (by decide) _ _ _ rfl (Own.ext ho.out (by (repeat with_reducible (first | exact Ext.refl _ | exact ext_alloc _ _ | refine Ext.drewN ?_ _ | refine Ext.drew1 ?_ | refine Ext.set ?_ (by dsimp only; omega) _ | refine Ext.alloc ?_ _)))) ⟨wr.heap.size, 0, none⟩ 1 1 [.float .f32 (minV q s)] rfl rfl (World.news_of_block (heap_alloc_new _ _)) (by intro u hu; simp at hu; subst hu; rfl) (by omega) (by have h9 := HD.out; unfold maxLen; omega) (by have h9 := HD.out; omega) (by have h8 := HSZ.out; simp; omega) _ rfl ?_; intro g cap w1 hown hgrow hat hlt2))
      have h1 := hid (own_snoc hown)
      have h2 := hid (show Ext w w1 from But.below hgrow (Ext.trans he.out (by (repeat with_reducible (first | exact Ext.refl _ | exact ext_alloc _ _ | refine Ext.drewN ?_ _ | refine Ext.drew1 ?_ | refine Ext.set ?_ (by dsimp only; omega) _ | refine Ext.alloc ?_ _)))) (fun k2 hk2 => (Own.block ho.out k2 hk2).1))
      have h3 := hid (show (ys ++ [_]).map (cls .f32) = listK (winK 1 n) (k + 1) from by rw [List.map_append, hyy.out, hs.out]; exact congrArg (fun u => listK (winK 1 n) k ++ [u]) (HRES.out))
      clear hown hgrow hat hlt2
      go_wp2
      go_roundw
      case rel => exact ⟨k + 1, ys ++ [_], by omega, by go_num, h1, h3, h2⟩
      case measure => simp [intOf]; omega
    · have hkn : k = n := by omega
      subst hkn
      have hk1 : ¬ ((k : Int) < (k : Int)) := by omega
      have hli := hid (list_is ho.out hyy.out)
      go_wp2_with fail
      go_ret
      exact ⟨_, rfl, hli.out, he.out⟩
set_option maxHeartbeats 4000000 in
set_option maxRecDepth 100000 in
theorem l05Window_2 (n : Nat) (w : World) (hn : n < 257) : Calls Try.prog 48 #[.int .i64 2, .int .i64 (n : Int)] w fun e w' => ∃ v, e = .returned v ∧ ListIs w' w.heap.size (listK (winK 2 n) n) v ∧ Ext w w' := by
  obtain ⟨i0, hif, hz0, hz1, hz2⟩ := info_parts infoF
  have HI := hid (And.intro hif (And.intro hz0 (And.intro hz1 hz2)))
  clear hif hz0 hz1 hz2
  have HD := hid hn
  go_enter Try.func48, Try.ntmps48
  go_wp2_with fail
  go_loopw [5, 6] (fun v i wr => ∃ (k : Nat) (ys : List Nat), k ≤ n ∧ i = .int .i64 k ∧ Hid (Own wr w.heap.size k v ys) ∧ Hid (ys.map (cls .f32) = listK (winK 2 n) k) ∧ Hid (Ext w wr)) (fun _ i _ => n - (intOf i).toNat)
  case atStart => exact ⟨0, [], Nat.zero_le _, rfl, hid (own_fresh (cs := #[]) (zs := []) (hid rfl) rfl (by simp) (by simp) (Nat.zero_le _)), rfl, hid (by (repeat with_reducible (first | exact Ext.refl _ | exact ext_alloc _ _ | refine Ext.drewN ?_ _ | refine Ext.drew1 ?_ | refine Ext.set ?_ (by dsimp only; omega) _ | refine Ext.alloc ?_ _)))⟩
  case round =>
    obtain ⟨k, ys, hkk, rfl, ho, hyy, he⟩ := hrel
    by_cases hk : k < n
    · have hki : (k : Int) < (n : Int) := by omega
      obtain ⟨k2, hk2⟩ : ∃ k2, 2 * k = k2 := ⟨_, rfl⟩
      obtain ⟨k3, hk3⟩ : ∃ k3, k2 + 1 = k3 := ⟨_, rfl⟩
      have hk2i : (2 : Int) * (k : Int) = (k2 : Int) := by omega
      have hk3i : (k2 : Int) + 1 = (k3 : Int) := by omega
      have W1 : IntKind.i64.wrap (k2 : Int) = (k2 : Int) := wrap_sm (by omega) (by omega)
      have W2 : IntKind.i64.wrap (k3 : Int) = (k3 : Int) := wrap_sm (by omega) (by omega)

      have hs := hid (listK_succ (winK 2 n) k)
      have HSZ := hid (Ext.size he.out)
      go_wp2_with (first | (refine wpList_fa rfl rfl rfl rfl rfl (by first | assumption | exact is_const (by decide) | exact is_int _ | exact is_self _ _) (by first | assumption | exact is_const (by decide) | exact is_int _ | exact is_self _ _) ?_; intro r m hr hrw) | (go_at_call 79; refine (l01Sine_is _ _ (by assumption) _).mono ?_; rintro e w' ⟨r, rfl, hr, m, rfl⟩) | (at_builtin; refine wpList_append_lies _ rfl _ _ 22 rfl w.heap.size 33 i0 (.float .f32 0) 1 4 Try.underlying22 HI.out.1 HI.out.2.1 HI.out.2.2.1 HI.out.2.2.2 rfl (by decide) _ _ _ rfl (Own.ext ho.out (by (repeat with_reducible (first | exact Ext.refl _ | exact ext_alloc _ _ | refine Ext.drewN ?_ _ | refine Ext.drew1 ?_ | refine Ext.set ?_ (by dsimp only; omega) _ | refine Ext.alloc ?_ _)))) ⟨wr.heap.size, 0, none⟩ 1 1 [.float .f32 r] rfl rfl (World.news_of_block (heap_alloc_new _ _)) (by intro u hu; simp at hu; subst hu; rfl) (by omega) (by have h9 := HD.out; unfold maxLen; omega) (by have h9 := HD.out; omega) (by have h8 := HSZ.out; simp; omega) _ rfl ?_; intro g cap w1 hown hgrow hat hlt2))
      have h1 := hid (own_snoc hown)
      have h2 := hid (show Ext w w1 from But.below hgrow (Ext.trans he.out (by (repeat with_reducible (first | exact Ext.refl _ | exact ext_alloc _ _ | refine Ext.drewN ?_ _ | refine Ext.drew1 ?_ | refine Ext.set ?_ (by dsimp only; omega) _ | refine Ext.alloc ?_ _)))) (fun k2 hk2 => (Own.block ho.out k2 hk2).1))
      have h3 := hid (show (ys ++ [_]).map (cls .f32) = listK (winK 2 n) (k + 1) from by rw [List.map_append, hyy.out, hs.out]; exact congrArg (fun u => listK (winK 2 n) k ++ [u]) (win_2 n k (by assumption)))
      clear hown hgrow hat hlt2
      go_wp2
      go_roundw
      case rel => exact ⟨k + 1, ys ++ [_], by omega, by go_num, h1, h3, h2⟩
      case measure => simp [intOf]; omega
    · have hkn : k = n := by omega
      subst hkn
      have hk1 : ¬ ((k : Int) < (k : Int)) := by omega
      have hli := hid (list_is ho.out hyy.out)
      go_wp2_with fail
      go_ret
      exact ⟨_, rfl, hli.out, he.out⟩
set_option maxHeartbeats 4000000 in
set_option maxRecDepth 100000 in
theorem l05Window_3 (n : Nat) (w : World) (hn : n < 257) : Calls Try.prog 48 #[.int .i64 3, .int .i64 (n : Int)] w fun e w' => ∃ v, e = .returned v ∧ ListIs w' w.heap.size (listK (winK 3 n) n) v ∧ Ext w w' := by
  obtain ⟨i0, hif, hz0, hz1, hz2⟩ := info_parts infoF
  have HI := hid (And.intro hif (And.intro hz0 (And.intro hz1 hz2)))
  clear hif hz0 hz1 hz2
  have HD := hid hn
  go_enter Try.func48, Try.ntmps48
  go_wp2_with fail
  go_loopw [5, 6] (fun v i wr => ∃ (k : Nat) (ys : List Nat), k ≤ n ∧ i = .int .i64 k ∧ Hid (Own wr w.heap.size k v ys) ∧ Hid (ys.map (cls .f32) = listK (winK 3 n) k) ∧ Hid (Ext w wr)) (fun _ i _ => n - (intOf i).toNat)
  case atStart => exact ⟨0, [], Nat.zero_le _, rfl, hid (own_fresh (cs := #[]) (zs := []) (hid rfl) rfl (by simp) (by simp) (Nat.zero_le _)), rfl, hid (by (repeat with_reducible (first | exact Ext.refl _ | exact ext_alloc _ _ | refine Ext.drewN ?_ _ | refine Ext.drew1 ?_ | refine Ext.set ?_ (by dsimp only; omega) _ | refine Ext.alloc ?_ _)))⟩
  case round =>
    obtain ⟨k, ys, hkk, rfl, ho, hyy, he⟩ := hrel
    by_cases hk : k < n
    · have hki : (k : Int) < (n : Int) := by omega
      obtain ⟨k2, hk2⟩ : ∃ k2, 2 * k = k2 := ⟨_, rfl⟩
      obtain ⟨k3, hk3⟩ : ∃ k3, k2 + 1 = k3 := ⟨_, rfl⟩
      have hk2i : (2 : Int) * (k : Int) = (k2 : Int) := by omega
      have hk3i : (k2 : Int) + 1 = (k3 : Int) := by omega
      have W1 : IntKind.i64.wrap (k2 : Int) = (k2 : Int) := wrap_sm (by omega) (by omega)
      have W2 : IntKind.i64.wrap (k3 : Int) = (k3 : Int) := wrap_sm (by omega) (by omega)

      have hs := hid (listK_succ (winK 3 n) k)
      have HSZ := hid (Ext.size he.out)
      go_wp2_with (first | (refine wpList_fa rfl rfl rfl rfl rfl (by first | assumption | exact is_const (by decide) | exact is_int _ | exact is_self _ _) (by first | assumption | exact is_const (by decide) | exact is_int _ | exact is_self _ _) ?_; intro r m hr hrw) | (go_at_call 79; refine (l01Sine_is _ _ (by assumption) _).mono ?_; rintro e w' ⟨r, rfl, hr, m, rfl⟩) | (at_builtin; refine wpList_append_lies _ rfl _ _ 22 rfl w.heap.size 33 i0 (.float .f32 0) 1 4 Try.underlying22 HI.out.1 HI.out.2.1 HI.out.2.2.1 HI.out.2.2.2 rfl (by decide) _ _ _ rfl (Own.ext ho.out (by (repeat with_reducible (first | exact Ext.refl _ | exact ext_alloc _ _ | refine Ext.drewN ?_ _ | refine Ext.drew1 ?_ | refine Ext.set ?_ (by dsimp only; omega) _ | refine Ext.alloc ?_ _)))) ⟨wr.heap.size, 0, none⟩ 1 1 [.float .f32 r] rfl rfl (World.news_of_block (heap_alloc_new _ _)) (by intro u hu; simp at hu; subst hu; rfl) (by omega) (by have h9 := HD.out; unfold maxLen; omega) (by have h9 := HD.out; omega) (by have h8 := HSZ.out; simp; omega) _ rfl ?_; intro g cap w1 hown hgrow hat hlt2))
      have h1 := hid (own_snoc hown)
      have h2 := hid (show Ext w w1 from But.below hgrow (Ext.trans he.out (by (repeat with_reducible (first | exact Ext.refl _ | exact ext_alloc _ _ | refine Ext.drewN ?_ _ | refine Ext.drew1 ?_ | refine Ext.set ?_ (by dsimp only; omega) _ | refine Ext.alloc ?_ _)))) (fun k2 hk2 => (Own.block ho.out k2 hk2).1))
      have h3 := hid (show (ys ++ [_]).map (cls .f32) = listK (winK 3 n) (k + 1) from by rw [List.map_append, hyy.out, hs.out]; exact congrArg (fun u => listK (winK 3 n) k ++ [u]) (win_3 n k (by assumption)))
      clear hown hgrow hat hlt2
      go_wp2
      go_roundw
      case rel => exact ⟨k + 1, ys ++ [_], by omega, by go_num, h1, h3, h2⟩
      case measure => simp [intOf]; omega
    · have hkn : k = n := by omega
      subst hkn
      have hk1 : ¬ ((k : Int) < (k : Int)) := by omega
      have hli := hid (list_is ho.out hyy.out)
      go_wp2_with fail
      go_ret
      exact ⟨_, rfl, hli.out, he.out⟩
theorem l05Window_any (kind : Int) (n : Nat) (w : World) (h0 : 0 ≤ kind) (h3 : kind ≤ 3) (hn : n < 257) : Calls Try.prog 48 #[.int .i64 kind, .int .i64 (n : Int)] w fun e w' => ∃ v, e = .returned v ∧ ListIs w' w.heap.size (listK (winK kind n) n) v ∧ Ext w w' := by
  have h4 : kind = 0 ∨ kind = 1 ∨ kind = 2 ∨ kind = 3 := by omega
  rcases h4 with rfl | rfl | rfl | rfl
  · exact l05Window_0 n w hn
  · exact l05Window_1 n w hn
  · exact l05Window_2 n w hn
  · exact l05Window_3 n w hn

set_option maxHeartbeats 4000000 in
set_option maxRecDepth 100000 in
theorem sWindow_any (kind d : Int) (R : List (Option Nat)) (O : Bool) (w : World) (hR : windowR kind d = (R, O)) :
    Calls Try.prog 15 #[.int .i64 kind, .int .i64 d] w fun e w' => ∃ v, e = .returned (.tuple #[v, .bool O]) ∧ ListIs w' w.heap.size R v ∧ Ext w w' := by
  have HR := hid hR
  clear hR
  by_cases hk : ¬ (0 ≤ kind ∧ kind ≤ 3)
  · have e : O = false ∧ R = [] := by have := HR.out; unfold windowR at this; rw [if_neg (by simp; omega)] at this; simpa [eq_comm, and_comm] using this
    obtain ⟨rfl, rfl⟩ := e
    go_enter Try.func15, Try.ntmps15
    go_wp2_with (first | (go_at_call 47; with_reducible refine (l00In_no kind 0 3 hk _).mono ?_; rintro e w' ⟨rfl, rfl⟩))
    go_returns
    refine ⟨_, rfl, nil_is _ _, ?_⟩
    (repeat with_reducible (first | exact Ext.refl _ | exact ext_alloc _ _ | refine Ext.drewN ?_ _ | refine Ext.drew1 ?_ | refine Ext.set ?_ (by dsimp only; omega) _ | refine Ext.alloc ?_ _))
  replace hk := Decidable.not_not.1 hk
  by_cases hm : ¬ (1 ≤ d ∧ d ≤ 256)
  · have e : O = false ∧ R = [] := by have := HR.out; unfold windowR at this; rw [if_neg (by simp; omega)] at this; simpa [eq_comm, and_comm] using this
    obtain ⟨rfl, rfl⟩ := e
    go_enter Try.func15, Try.ntmps15
    go_wp2_with (first | (go_at_call 47; with_reducible refine (l00In_yes kind 0 3 hk.1 hk.2 _).mono ?_; rintro e w' ⟨rfl, rfl⟩) | (go_at_call 47; with_reducible refine (l00In_no d 1 256 hm _).mono ?_; rintro e w' ⟨rfl, rfl⟩))
    go_returns
    refine ⟨_, rfl, nil_is _ _, ?_⟩
    (repeat with_reducible (first | exact Ext.refl _ | exact ext_alloc _ _ | refine Ext.drewN ?_ _ | refine Ext.drew1 ?_ | refine Ext.set ?_ (by dsimp only; omega) _ | refine Ext.alloc ?_ _))
  replace hm := Decidable.not_not.1 hm
  obtain ⟨n, rfl⟩ : ∃ q : Nat, d = (q : Int) := ⟨d.toNat, by omega⟩
  have e : O = true ∧ R = listK (winK kind n) n := by have := HR.out; unfold windowR at this; rw [if_pos (by simp; omega)] at this; simpa [eq_comm, and_comm] using this
  obtain ⟨rfl, rfl⟩ := e
  have HD := hid (show 1 ≤ n ∧ n < 257 by omega)
  have HK := hid hk
  clear HR
  go_enter Try.func15, Try.ntmps15
  go_wp2_with (first | (go_at_call 47; with_reducible refine (l00In_yes kind 0 3 hk.1 hk.2 _).mono ?_; rintro e w' ⟨rfl, rfl⟩) | (go_at_call 47; with_reducible refine (l00In_yes (n : Int) 1 256 hm.1 hm.2 _).mono ?_; rintro e w' ⟨rfl, rfl⟩))
  refine (l05Window_any kind n _ hk.1 hk.2 HD.out.2).mono ?_
  rintro e w1 ⟨v, rfl, hv, E1⟩
  have HL2 := hid hv
  have EY := hid E1
  clear hv E1
  go_wp2_with fail
  go_returns
  exact ⟨_, rfl, HL2.out, EY.out⟩

end Go.Proofs.Ytpmjiabllmomjaa

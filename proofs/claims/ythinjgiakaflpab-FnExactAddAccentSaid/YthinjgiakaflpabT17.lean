/- Waves that are the same. -/
import Derived.Test.YthinjgiakaflpabT8
import Derived.Deep.RegionHeld3
import Derived.BigQuiet
import Derived.Test.YthinjgiakaflpabNum
namespace Go.Proofs.Ythinjgiakaflpab
open Go.RowKit Flt
set_option linter.unusedVariables false

def eqW (x y : Nat) : Bool := bitsC (cls .f32 x) == bitsC (cls .f32 y)
def sameB (xs ys : List Nat) : Bool := decide (xs.length = ys.length) && (List.range xs.length).all fun q => eqW (xs.getD q 0) (ys.getD q 0)
theorem same_bad {xs ys : List Nat} {q : Nat} (hq : q < xs.length) (h : eqW (xs.getD q 0) (ys.getD q 0) = false) : sameB xs ys = false := by
  unfold sameB
  have : ((List.range xs.length).all fun q => eqW (xs.getD q 0) (ys.getD q 0)) = false := by
    rw [List.all_eq_false]
    exact ⟨q, List.mem_range.2 hq, by rw [h]; decide⟩
  rw [this]; simp
theorem same_good {xs ys : List Nat} (hl : xs.length = ys.length) (h : ∀ q, q < xs.length → eqW (xs.getD q 0) (ys.getD q 0) = true) : sameB xs ys = true := by
  unfold sameB
  have : ((List.range xs.length).all fun q => eqW (xs.getD q 0) (ys.getD q 0)) = true := by
    rw [List.all_eq_true]
    intro q hq
    exact h q (List.mem_range.1 hq)
  rw [this]; simp [hl]
theorem same_len {xs ys : List Nat} (h : xs.length ≠ ys.length) : sameB xs ys = false := by unfold sameB; simp [h]
def Words (n : Nat) (xs : List Nat) : Prop := ∀ q, q < n → xs.getD q 0 < 4294967296
theorem row_words {w : World} {a : Option Addr} {l c : Nat} {zs : List Nat} (h : IsRowF .f32 w a l c zs) : Words l (zs.take l) := by
  intro q hq
  rcases h with ⟨_, rfl, _⟩ | ⟨x, _, h1, h2, h3, _, h4⟩
  · omega
  · have hz : q < zs.length := by omega
    rw [getD_take _ _ _ hq]
    have hm : zs.getD q 0 ∈ zs := by simp [List.getD, hz]
    exact wf32 (h4 _ hm)
theorem two_cells {w : World} {a1 a2 : Option Addr} {n : Nat} {xs ys : List Nat} (h1 : Holds .f32 w a1 n xs) (h2 : Holds .f32 w a2 n ys) : ∀ k, k < n → ∃ b off b' off', a1 = some ⟨b, off, none⟩ ∧ a2 = some ⟨b', off', none⟩ ∧ w.cell? ⟨b, off + k, none⟩ = some (.float .f32 (xs.getD k 0)) ∧ w.cell? ⟨b', off' + k, none⟩ = some (.float .f32 (ys.getD k 0)) := by
  intro k hk
  rcases h1.2 with h0 | ⟨b, off, rfl, hb, hc⟩
  · omega
  · rcases h2.2 with h0 | ⟨b', off', rfl, hb', hc'⟩
    · omega
    · exact ⟨b, off, b', off', rfl, rfl, hc k hk, hc' k hk⟩

set_option maxRecDepth 100000 in
theorem l01SameAll_any (a1 a2 : Option Addr) (n m c1 c2 : Nat) (xs ys : List Nat) (w : World) (h1 : Holds .f32 w a1 n xs) (h2 : Holds .f32 w a2 m ys) (hn : n ≤ 1048576) (hm : m ≤ 1048576) (k1 : Words n xs) (k2 : Words m ys) :
    Calls Try.prog 166 #[.slice a1 n c1, .slice a2 m c2] w fun e w' => e = .returned (.bool (sameB xs ys)) ∧ ∃ m, w' = w.drewN m := by
  have HL1 := hid h1.1
  have HL2 := hid h2.1
  by_cases hnm : n = m
  case neg =>
    have HS := hid (same_len (show xs.length ≠ ys.length from by have e1 := HL1.out; have e2 := HL2.out; omega))
    have hnI : ¬ ((n : Int) = (m : Int)) := by omega
    clear h1 h2
    go_enter Try.func166, Try.ntmps166
    go_wp2
    go_ret
    exact ⟨by rw [HS.out]; rfl, 0, rfl⟩
  subst hnm
  have HC := hid (two_cells h1 h2)
  have HK1 := hid k1
  have HK2 := hid k2
  clear h1 h2 k1 k2
  go_enter Try.func166, Try.ntmps166
  go_wp2_with fail
  go_loopw [5] (fun i wr => ∃ k : Nat, k ≤ n ∧ i = .int .i64 k ∧ Hid (∀ q, q < k → eqW (xs.getD q 0) (ys.getD q 0) = true) ∧ Hid (∃ m, wr = w.drewN m)) (fun i _ => n - (intOf i).toNat)
  case atStart => exact ⟨0, Nat.zero_le _, rfl, hid (fun q hq => by omega), 0, rfl⟩
  case round =>
    obtain ⟨k, hk, rfl, hr, hw⟩ := hrel
    by_cases hlt : k < n
    · obtain ⟨b, off, b', off', rfl, rfl, e1, e2⟩ := HC.out k hlt
      have g1 : wr.cell? ⟨b, off + k, none⟩ = some (.float .f32 (xs.getD k 0)) := by obtain ⟨m, hm⟩ := hw.out; rw [hm]; exact e1
      have g2 : wr.cell? ⟨b', off' + k, none⟩ = some (.float .f32 (ys.getD k 0)) := by obtain ⟨m, hm⟩ := hw.out; rw [hm]; exact e2
      clear e1 e2
      have hx := hid (HK1.out k hlt)
      have hy := hid (HK2.out k hlt)
      have hi0 : (0 : Int) ≤ (k : Int) := by omega
      have hi1 : (k : Int) < (n : Int) := by omega
      cases ha : eqW (xs.getD k 0) (ys.getD k 0)
      · have HB := hid (same_bad (by rw [HL1.out]; exact hlt) ha)
        generalize xs.getD k 0 = x at g1 ha hx
        generalize ys.getD k 0 = y at g2 ha hy
        unfold eqW at ha
        go_wp2_with fail
        go_region_held3 (fun w' => w'.cell? ⟨b, off + k, none⟩ = some (.float .f32 x) ∧ w'.cell? ⟨b', off' + k, none⟩ = some (.float .f32 y)) (exact ⟨g1, g2⟩) (first | (go_at_call 84; refine (l01Same_any _ _ hx.out hy.out _).mono ?_; rintro e w' ⟨rfl, rfl⟩; simp only [ha]))
        go_wp2
        go_ret
        exact ⟨by rw [HB.out]; rfl, by obtain ⟨m2, hm⟩ := hw.out; rw [hm]; first | exact ⟨_, rfl⟩ | exact ⟨_, by rw [World.drewN_drewN]⟩ | exact ⟨m2 + 1, rfl⟩⟩
      · have HG := hid (upto_succ (P := fun q => eqW (xs.getD q 0) (ys.getD q 0) = true) hr.out ha)
        generalize xs.getD k 0 = x at g1 ha hx
        generalize ys.getD k 0 = y at g2 ha hy
        unfold eqW at ha
        go_wp2_with fail
        go_region_held3 (fun w' => w'.cell? ⟨b, off + k, none⟩ = some (.float .f32 x) ∧ w'.cell? ⟨b', off' + k, none⟩ = some (.float .f32 y)) (exact ⟨g1, g2⟩) (first | (go_at_call 84; refine (l01Same_any _ _ hx.out hy.out _).mono ?_; rintro e w' ⟨rfl, rfl⟩; simp only [ha]))
        go_wp2
        go_roundw
        case rel => exact ⟨k + 1, by omega, by go_num, HG, by obtain ⟨m2, hm⟩ := hw.out; rw [hm]; first | exact ⟨_, rfl⟩ | exact ⟨_, by rw [World.drewN_drewN]⟩ | exact ⟨m2 + 1, rfl⟩⟩
        case measure => simp [intOf]; omega
    · have hkn : k = n := by omega
      subst hkn
      have HG := hid (same_good (by rw [HL1.out, HL2.out]) (fun j hj => hr.out j (by rw [HL1.out] at hj; exact hj)))
      go_wp2
      go_ret
      exact ⟨by rw [HG.out]; rfl, hw.out⟩

set_option maxRecDepth 100000 in
theorem equalFunc_any (a1 a2 : Option Addr) (n m c1 c2 : Nat) (xs ys : List Nat) (w : World) (h1 : Holds .f32 w a1 n xs) (h2 : Holds .f32 w a2 m ys) (hn : n ≤ 1048576) (hm : m ≤ 1048576) (k1 : Words n xs) (k2 : Words m ys) :
    Calls Try.prog 167 #[.slice a1 n c1, .slice a2 m c2, .func (.func 85) #[] #[]] w fun e w' => e = .returned (.bool (sameB xs ys)) ∧ ∃ m, w' = w.drewN m := by
  have HL1 := hid h1.1
  have HL2 := hid h2.1
  by_cases hnm : n = m
  case neg =>
    have HS := hid (same_len (show xs.length ≠ ys.length from by have e1 := HL1.out; have e2 := HL2.out; omega))
    have hnI : ¬ ((n : Int) = (m : Int)) := by omega
    clear h1 h2
    go_enter Try.func167, Try.ntmps167
    go_wp2
    go_ret
    exact ⟨by rw [HS.out]; rfl, 0, rfl⟩
  subst hnm
  have HC := hid (two_cells h1 h2)
  have HK1 := hid k1
  have HK2 := hid k2
  clear h1 h2 k1 k2
  go_enter Try.func167, Try.ntmps167
  go_wp2_with fail
  go_loopw [17] (fun i wr => ∃ k : Nat, k ≤ n ∧ i = .int .i64 k ∧ Hid (∀ q, q < k → eqW (xs.getD q 0) (ys.getD q 0) = true) ∧ Hid (∃ m, wr = w.drewN m)) (fun i _ => n - (intOf i).toNat)
  case atStart => exact ⟨0, Nat.zero_le _, rfl, hid (fun q hq => by omega), 0, rfl⟩
  case round =>
    obtain ⟨k, hk, rfl, hr, hw⟩ := hrel
    by_cases hlt : k < n
    · obtain ⟨b, off, b', off', rfl, rfl, e1, e2⟩ := HC.out k hlt
      have g1 : wr.cell? ⟨b, off + k, none⟩ = some (.float .f32 (xs.getD k 0)) := by obtain ⟨m, hm⟩ := hw.out; rw [hm]; exact e1
      have g2 : wr.cell? ⟨b', off' + k, none⟩ = some (.float .f32 (ys.getD k 0)) := by obtain ⟨m, hm⟩ := hw.out; rw [hm]; exact e2
      clear e1 e2
      have hx := hid (HK1.out k hlt)
      have hy := hid (HK2.out k hlt)
      have hi0 : (0 : Int) ≤ (k : Int) := by omega
      have hi1 : (k : Int) < (n : Int) := by omega
      cases ha : eqW (xs.getD k 0) (ys.getD k 0)
      · have HB := hid (same_bad (by rw [HL1.out]; exact hlt) ha)
        generalize xs.getD k 0 = x at g1 ha hx
        generalize ys.getD k 0 = y at g2 ha hy
        unfold eqW at ha
        go_wp2_with fail
        refine (same_any _ _ hx.out hy.out _).mono ?_
        rintro e w5 ⟨rfl, m5, rfl⟩
        simp only [ha]
        go_wp2
        go_ret
        exact ⟨by rw [HB.out]; rfl, by obtain ⟨m2, hm⟩ := hw.out; rw [hm]; first | exact ⟨_, rfl⟩ | exact ⟨_, by rw [World.drewN_drewN]⟩ | exact ⟨m2 + 1, rfl⟩⟩
      · have HG := hid (upto_succ (P := fun q => eqW (xs.getD q 0) (ys.getD q 0) = true) hr.out ha)
        generalize xs.getD k 0 = x at g1 ha hx
        generalize ys.getD k 0 = y at g2 ha hy
        unfold eqW at ha
        go_wp2_with fail
        refine (same_any _ _ hx.out hy.out _).mono ?_
        rintro e w5 ⟨rfl, m5, rfl⟩
        simp only [ha]
        go_wp2
        go_roundw
        case rel => exact ⟨k + 1, by omega, by go_num, HG, by obtain ⟨m2, hm⟩ := hw.out; rw [hm]; first | exact ⟨_, rfl⟩ | exact ⟨_, by rw [World.drewN_drewN]⟩ | exact ⟨m2 + 1, rfl⟩⟩
        case measure => simp [intOf]; omega
    · have hkn : k = n := by omega
      subst hkn
      have HG := hid (same_good (by rw [HL1.out, HL2.out]) (fun j hj => hr.out j (by rw [HL1.out] at hj; exact hj)))
      go_wp2
      go_ret
      exact ⟨by rw [HG.out]; rfl, hw.out⟩

theorem same_eq (x y : Nat) (hx : x < 4294967296) (hy : y < 4294967296) (w : World) : Calls Try.prog 85 #[.float .f32 x, .float .f32 y] w fun e w' => e = .returned (.bool (eqW x y)) ∧ ∃ m, w' = w.drewN m := same_any x y hx hy w
theorem l01Same_eq (x y : Nat) (hx : x < 4294967296) (hy : y < 4294967296) (w : World) : Calls Try.prog 84 #[.float .f32 x, .float .f32 y] w fun e w' => e = .returned (.bool (eqW x y)) ∧ w = w' := l01Same_any x y hx hy w
theorem sameNumbers_any (a1 a2 : Option Addr) (n m c1 c2 : Nat) (xs ys : List Nat) (w : World) (h1 : Holds .f32 w a1 n xs) (h2 : Holds .f32 w a2 m ys) (hn : n ≤ 1048576) (hm : m ≤ 1048576) (k1 : Words n xs) (k2 : Words m ys) :
    Calls Try.prog 144 #[.slice a1 n c1, .slice a2 m c2] w fun e w' => e = .returned (.bool (sameB xs ys)) ∧ ∃ m, w' = w.drewN m := by
  have H1 := hid h1
  have H2 := hid h2
  have K1 := hid k1
  have K2 := hid k2
  clear h1 h2 k1 k2
  go_enter Try.func144, Try.ntmps144
  go_wp2_with fail
  refine (equalFunc_any _ _ _ _ _ _ xs ys _ H1.out H2.out hn hm K1.out K2.out).mono ?_
  rintro e w1 ⟨rfl, m1, rfl⟩
  go_wp2
  go_ret
  exact ⟨rfl, _, rfl⟩

end Go.Proofs.Ythinjgiakaflpab

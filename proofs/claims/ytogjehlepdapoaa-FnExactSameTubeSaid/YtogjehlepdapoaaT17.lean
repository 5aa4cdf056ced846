/- Waves that are the same. -/
import Derived.Test.YtogjehlepdapoaaT8
import Derived.Deep.RegionHeld3
import Derived.BigQuiet
import Derived.Test.YtogjehlepdapoaaNum
namespace Go.Proofs.Ytogjehlepdapoaa
open Go.RowKit Flt
set_option linter.unusedVariables false

def eqW (x y : Nat) : Bool := bitsC (cls .f32 x) == bitsC (cls .f32 y)
def sameB (xs ys : List Nat) : Bool := decide (xs.length = ys.length) && (List.range xs.length).all fun q => eqW (xs.getD q 0) (ys.getD q 0)
theorem same_bad {xs ys : List Nat} {q : Nat} (hq : q < xs.length) (h : eqW (xs.getD q 0) (ys.getD q 0) = false) : sameB xs ys = false := by
  unfold sameB
  have : ((List.range xs.length).all fun q => eqW (xs.getD q 0) (ys.getD q 0)) = false := by
    rw [List.all_eq_false]
    exact ⟨q, List.mem_range.2 hq, by rw [h]; decide⟩
  rw [this]; simp
theorem same_good {xs ys : List Nat} (hl : xs.length = ys.length) (h : ∀ q, q < xs.length → eqW (xs.getD q 0) (ys.getD q 0) = true) : sameB xs ys = true := by
  unfold sameB
  have : ((List.range xs.length).all fun q => eqW (xs.getD q 0) (ys.getD q 0)) = true := by
    rw [List.all_eq_true]
    intro q hq
    exact h q (List.mem_range.1 hq)
  rw [this]; simp [hl]
theorem same_len {xs ys : List Nat} (h : xs.length ≠ ys.length) : sameB xs ys = false := by unfold sameB; simp [h]
def Words (n : Nat) (xs : List Nat) : Prop := ∀ q, q < n → xs.getD q 0 < 4294967296
theorem row_words {w : World} {a : Option Addr} {l c : Nat} {zs : List Nat} (h : IsRowF .f32 w a l c zs) : Words l (zs.take l) := by
  intro q hq
  rcases h with ⟨_, rfl, _⟩ | ⟨x, _, h1, h2, h3, _, h4⟩
  · omega
  · have hz : q < zs.length := by omega
    rw [getD_take _ _ _ hq]
    have hm : zs.getD q 0 ∈ zs := by simp [List.getD, hz]
    exact wf32 (h4 _ hm)
theorem two_cells {w : World} {a1 a2 : Option Addr} {n : Nat} {xs ys : List Nat} (h1 : Holds .f32 w a1 n xs) (h2 : Holds .f32 w a2 n ys) : ∀ k, k < n → ∃ b off b' off', a1 = some ⟨b, off, none⟩ ∧ a2 = some ⟨b', off', none⟩ ∧ w.cell? ⟨b, off + k, none⟩ = some (.float .f32 (xs.getD k 0)) ∧ w.cell? ⟨b', off' + k, none⟩ = some (.float .f32 (ys.getD k 0)) := by
  intro k hk
  rcases h1.2 with h0 | ⟨b, off, rfl, hb, hc⟩
  · omega
  · rcases h2.2 with h0 | ⟨b', off', rfl, hb', hc'⟩
    · omega
    · exact ⟨b, off, b', off', rfl, rfl, hc k hk, hc' k hk⟩

set_option maxRecDepth 100000 in
theorem l01SameAll_any (a1 a2 : Option Addr) (n m c1 c2 : Nat) (xs ys : List Nat) (w : World) (h1 : Holds .f32 w a1 n xs) (h2 : Holds .f32 w a2 m ys) (hn : n ≤ 1048576) (hm : m ≤ 1048576) (k1 : Words n xs) (k2 : Words m ys) :
    Calls Try.prog 131 #[.slice a1 n c1, .slice a2 m c2] w fun e w' => e = .returned (.bool (sameB xs ys)) ∧ ∃ m, w' = w.drewN m := by
  have HL1 := hid h1.1
  have HL2 := hid h2.1
  by_cases hnm : n = m
  case neg =>
    have HS := hid (same_len (show xs.length ≠ ys.length from by have e1 := HL1.out; have e2 := HL2.out; omega))
    have hnI : ¬ ((n : Int) = (m : Int)) := by omega
    clear h1 h2
    go_enter Try.func131, Try.ntmps131
    go_wp2
    go_ret
    exact ⟨by rw [HS.out]; rfl, 0, rfl⟩
  subst hnm
  have HC := hid (two_cells h1 h2)
  have HK1 := hid k1
  have HK2 := hid k2
  clear h1 h2 k1 k2
  go_enter Try.func131, Try.ntmps131
  go_wp2_with fail
  go_loopw [5] (fun i wr => ∃ k : Nat, k ≤ n ∧ i = .int .i64 k ∧ Hid (∀ q, q < k → eqW (xs.getD q 0) (ys.getD q 0) = true) ∧ Hid (∃ m, wr = w.drewN m)) (fun i _ => n - (intOf i).toNat)
  case atStart => exact ⟨0, Nat.zero_le _, rfl, hid (fun q hq => by omega), 0, rfl⟩
  case round =>
    obtain ⟨k, hk, rfl, hr, hw⟩ := hrel
    by_cases hlt : k < n
    · obtain ⟨b, off, b', off', rfl, rfl, e1, e2⟩ := HC.out k hlt
      have g1 : wr.cell? ⟨b, off + k, none⟩ = some (.float .f32 (xs.getD k 0)) := by obtain ⟨m, hm⟩ := hw.out; rw [hm]; exact e1
      have g2 : wr.cell? ⟨b', off' + k, none⟩ = some (.float .f32 (ys.getD k 0)) := by obtain ⟨m, hm⟩ := hw.out; rw [hm]; exact e2
      clear e1 e2
      have hx := hid (HK1.out k hlt)
      have hy := hid (HK2.out k hlt)
      have hi0 : (0 : Int) ≤ (k : Int) := by omega
      have hi1 : (k : Int) < (n : Int) := by omega
      cases ha : eqW (xs.getD k 0) (ys.getD k 0)
      · have HB := hid (same_bad (by rw [HL1.out]; exact hlt) ha)
        generalize xs.getD k 0 = x at g1 ha hx
        generalize ys.getD k 0 = y at g2 ha hy
        unfold eqW at ha
        go_wp2_with fail
        go_region_held3 (fun w' => w'.cell? ⟨b, off + k, none⟩ = some (.float .f32 x) ∧ w'.cell? ⟨b', off' + k, none⟩ = some (.float .f32 y)) (exact ⟨g1, g2⟩) (first | (go_at_call 132; refine (l01Same_any _ _ hx.out hy.out _).mono ?_; rintro e w' ⟨rfl, rfl⟩; simp only [ha]))
        go_wp2
        go_ret
        exact ⟨by rw [HB.out]; rfl, by obtain ⟨m2, hm⟩ := hw.out; rw [hm]; first | exact ⟨_, rfl⟩ | exact ⟨_, by rw [World.drewN_drewN]⟩ | exact ⟨m2 + 1, rfl⟩⟩
      · have HG := hid (upto_succ (P := fun q => eqW (xs.getD q 0) (ys.getD q 0) = true) hr.out ha)
        generalize xs.getD k 0 = x at g1 ha hx
        generalize ys.getD k 0 = y at g2 ha hy
        unfold eqW at ha
        go_wp2_with fail
        go_region_held3 (fun w' => w'.cell? ⟨b, off + k, none⟩ = some (.float .f32 x) ∧ w'.cell? ⟨b', off' + k, none⟩ = some (.float .f32 y)) (exact ⟨g1, g2⟩) (first | (go_at_call 132; refine (l01Same_any _ _ hx.out hy.out _).mono ?_; rintro e w' ⟨rfl, rfl⟩; simp only [ha]))
        go_wp2
        go_roundw
        case rel => exact ⟨k + 1, by omega, by go_num, HG, by obtain ⟨m2, hm⟩ := hw.out; rw [hm]; first | exact ⟨_, rfl⟩ | exact ⟨_, by rw [World.drewN_drewN]⟩ | exact ⟨m2 + 1, rfl⟩⟩
        case measure => simp [intOf]; omega
    · have hkn : k = n := by omega
      subst hkn
      have HG := hid (same_good (by rw [HL1.out, HL2.out]) (fun j hj => hr.out j (by rw [HL1.out] at hj; exact hj)))
      go_wp2
      go_ret
      exact ⟨by rw [HG.out]; rfl, hw.out⟩

set_option maxRecDepth 100000 in
theorem equalFunc_any (a1 a2 : Option Addr) (n m c1 c2 : Nat) (xs ys : List Nat) (w : World) (h1 : Holds .f32 w a1 n xs) (h2 : Holds .f32 w a2 m ys) (hn : n ≤ 1048576) (hm : m ≤ 1048576) (k1 : Words n xs) (k2 : Words m ys) :
    Calls Try.prog 118 #[.slice a1 n c1, .slice a2 m c2, .func (.func 74) #[] #[]] w fun e w' => e = .returned (.bool (sameB xs ys)) ∧ ∃ m, w' = w.drewN m := by
  have HL1 := hid h1.1
  have HL2 := hid h2.1
  by_cases hnm : n = m
  case neg =>
    have HS := hid (same_len (show xs.length ≠ ys.length from by have e1 := HL1.out; have e2 := HL2.out; omega))
    have hnI : ¬ ((n : Int) = (m : Int)) := by omega
    clear h1 h2
    go_enter Try.func118, Try.ntmps118
    go_wp2
    go_ret
    exact ⟨by rw [HS.out]; rfl, 0, rfl⟩
  subst hnm
  have HC := hid (two_cells h1 h2)
  have HK1 := hid k1
  have HK2 := hid k2
  clear h1 h2 k1 k2
  go_enter Try.func118, Try.ntmps118
  go_wp2_with fail
  go_loopw [17] (fun i wr => ∃ k : Nat, k ≤ n ∧ i = .int .i64 k ∧ Hid (∀ q, q < k → eqW (xs.getD q 0) (ys.getD q 0) = true) ∧ Hid (∃ m, wr = w.drewN m)) (fun i _ => n - (intOf i).toNat)
  case atStart => exact ⟨0, Nat.zero_le _, rfl, hid (fun q hq => by omega), 0, rfl⟩
  case round =>
    obtain ⟨k, hk, rfl, hr, hw⟩ := hrel
    by_cases hlt : k < n
    · obtain ⟨b, off, b', off', rfl, rfl, e1, e2⟩ := HC.out k hlt
      have g1 : wr.cell? ⟨b, off + k, none⟩ = some (.float .f32 (xs.getD k 0)) := by obtain ⟨m, hm⟩ := hw.out; rw [hm]; exact e1
      have g2 : wr.cell? ⟨b', off' + k, none⟩ = some (.float .f32 (ys.getD k 0)) := by obtain ⟨m, hm⟩ := hw.out; rw [hm]; exact e2
      clear e1 e2
      have hx := hid (HK1.out k hlt)
      have hy := hid (HK2.out k hlt)
      have hi0 : (0 : Int) ≤ (k : Int) := by omega
      have hi1 : (k : Int) < (n : Int) := by omega
      cases ha : eqW (xs.getD k 0) (ys.getD k 0)
      · have HB := hid (same_bad (by rw [HL1.out]; exact hlt) ha)
        generalize xs.getD k 0 = x at g1 ha hx
        generalize ys.getD k 0 = y at g2 ha hy
        unfold eqW at ha
        go_wp2_with fail
        refine (same_any _ _ hx.out hy.out _).mono ?_
        rintro e w5 ⟨rfl, m5, rfl⟩
        simp only [ha]
        go_wp2
        go_ret
        exact ⟨by rw [HB.out]; rfl, by obtain ⟨m2, hm⟩ := hw.out; rw [hm]; first | exact ⟨_, rfl⟩ | exact ⟨_, by rw [World.drewN_drewN]⟩ | exact ⟨m2 + 1, rfl⟩⟩
      · have HG := hid (upto_succ (P := fun q => eqW (xs.getD q 0) (ys.getD q 0) = true) hr.out ha)
        generalize xs.getD k 0 = x at g1 ha hx
        generalize ys.getD k 0 = y at g2 ha hy
        unfold eqW at ha
        go_wp2_with fail
        refine (same_any _ _ hx.out hy.out _).mono ?_
        rintro e w5 ⟨rfl, m5, rfl⟩
        simp only [ha]
        go_wp2
        go_roundw
        case rel => exact ⟨k + 1, by omega, by go_num, HG, by obtain ⟨m2, hm⟩ := hw.out; rw [hm]; first | exact ⟨_, rfl⟩ | exact ⟨_, by rw [World.drewN_drewN]⟩ | exact ⟨m2 + 1, rfl⟩⟩
        case measure => simp [intOf]; omega
    · have hkn : k = n := by omega
      subst hkn
      have HG := hid (same_good (by rw [HL1.out, HL2.out]) (fun j hj => hr.out j (by rw [HL1.out] at hj; exact hj)))
      go_wp2
      go_ret
      exact ⟨by rw [HG.out]; rfl, hw.out⟩

theorem same_eq (x y : Nat) (hx : x < 4294967296) (hy : y < 4294967296) (w : World) : Calls Try.prog 74 #[.float .f32 x, .float .f32 y] w fun e w' => e = .returned (.bool (eqW x y)) ∧ ∃ m, w' = w.drewN m := same_any x y hx hy w
theorem l01Same_eq (x y : Nat) (hx : x < 4294967296) (hy : y < 4294967296) (w : World) : Calls Try.prog 132 #[.float .f32 x, .float .f32 y] w fun e w' => e = .returned (.bool (eqW x y)) ∧ w = w' := l01Same_any x y hx hy w
theorem sameNumbers_any (a1 a2 : Option Addr) (n m c1 c2 : Nat) (xs ys : List Nat) (w : World) (h1 : Holds .f32 w a1 n xs) (h2 : Holds .f32 w a2 m ys) (hn : n ≤ 1048576) (hm : m ≤ 1048576) (k1 : Words n xs) (k2 : Words m ys) :
    Calls Try.prog 73 #[.slice a1 n c1, .slice a2 m c2] w fun e w' => e = .returned (.bool (sameB xs ys)) ∧ ∃ m, w' = w.drewN m := by
  have H1 := hid h1
  have H2 := hid h2
  have K1 := hid k1
  have K2 := hid k2
  clear h1 h2 k1 k2
  go_enter Try.func73, Try.ntmps73
  go_wp2_with fail
  refine (equalFunc_any _ _ _ _ _ _ xs ys _ H1.out H2.out hn hm K1.out K2.out).mono ?_
  rintro e w1 ⟨rfl, m1, rfl⟩
  go_wp2
  go_ret
  exact ⟨rfl, _, rfl⟩

set_option maxHeartbeats 2000000 in
theorem sameWaves_any (a1 a2 b1 b2 : Option Addr) (n m n2 m2 c1 c2 d1 d2 : Nat) (r1 l1 r2 l2 : List Nat) (V : Bool) (w : World) (h1 : Holds .f32 w a1 n r1) (h2 : Holds .f32 w a2 m l1) (g1 : Holds .f32 w b1 n2 r2) (g2 : Holds .f32 w b2 m2 l2) (hn : n ≤ 1048576) (hm : m ≤ 1048576) (hn2 : n2 ≤ 1048576) (hm2 : m2 ≤ 1048576) (k1 : Words n r1) (k2 : Words m l1) (q1 : Words n2 r2) (q2 : Words m2 l2) (hV : (sameB r1 r2 && sameB l1 l2) = V) :
    Calls Try.prog 36 #[.agg #[.slice a1 n c1, .slice a2 m c2], .agg #[.slice b1 n2 d1, .slice b2 m2 d2]] w fun e w' => e = .returned (.bool V) ∧ Ext w w' := by
  have H1 := hid h1
  have H2 := hid h2
  have G1 := hid g1
  have G2 := hid g2
  have K1 := hid k1
  have K2 := hid k2
  have Q1 := hid q1
  have Q2 := hid q2
  have HN := hid hn
  have HM := hid hm
  have HN2 := hid hn2
  have HM2 := hid hm2
  clear h1 h2 g1 g2 k1 k2 q1 q2 hn hm hn2 hm2
  cases hA : sameB r1 r2
  · have e : V = false := by rw [← hV, hA]; rfl
    subst e
    clear hV
    go_enter Try.func36, Try.ntmps36
    go_wp2_with fail
    refine (sameNumbers_any _ _ _ _ _ _ r1 r2 _ (Holds.alloc (Holds.alloc H1.out _) _) (Holds.alloc (Holds.alloc G1.out _) _) HN.out HN2.out K1.out Q1.out).mono ?_
    rintro e w1 ⟨rfl, m1, rfl⟩
    simp only [hA]
    go_wp2_with fail
    go_ret
    refine ⟨rfl, ?_⟩
    (repeat with_reducible (first | exact Ext.refl _ | exact ext_alloc _ _ | refine Ext.drewN ?_ _ | refine Ext.drew1 ?_ | refine Ext.set ?_ (by dsimp only; omega) _ | refine Ext.alloc ?_ _))
  · have e : V = sameB l1 l2 := by rw [← hV, hA]; rfl
    subst e
    clear hV
    go_enter Try.func36, Try.ntmps36
    go_wp2_with fail
    refine (sameNumbers_any _ _ _ _ _ _ r1 r2 _ (Holds.alloc (Holds.alloc H1.out _) _) (Holds.alloc (Holds.alloc G1.out _) _) HN.out HN2.out K1.out Q1.out).mono ?_
    rintro e w1 ⟨rfl, m1, rfl⟩
    simp only [hA]
    go_wp2_with fail
    refine (sameNumbers_any _ _ _ _ _ _ l1 l2 _ (Holds.drew (Holds.alloc (Holds.alloc H2.out _) _) _) (Holds.drew (Holds.alloc (Holds.alloc G2.out _) _) _) HM.out HM2.out K2.out Q2.out).mono ?_
    rintro e2 w2 ⟨rfl, m2, rfl⟩
    go_wp2
    go_ret
    refine ⟨rfl, ?_⟩
    (repeat with_reducible (first | exact Ext.refl _ | exact ext_alloc _ _ | refine Ext.drewN ?_ _ | refine Ext.drew1 ?_ | refine Ext.set ?_ (by dsimp only; omega) _ | refine Ext.alloc ?_ _))

set_option maxHeartbeats 2000000 in
theorem sameTube_any (a1 a2 : Option Addr) (n m c1 c2 l1 t1 p1 l2 t2 p2 : Nat) (xs ys : List Nat) (V : Bool) (w : World) (h1 : Holds .f32 w a1 n xs) (h2 : Holds .f32 w a2 m ys) (hn : n ≤ 1048576) (hm : m ≤ 1048576) (k1 : Words n xs) (k2 : Words m ys) (fl1 : l1 < 4294967296) (ft1 : t1 < 4294967296) (fp1 : p1 < 4294967296) (fl2 : l2 < 4294967296) (ft2 : t2 < 4294967296) (fp2 : p2 < 4294967296) (hV : (sameB xs ys && (eqW l1 l2 && (eqW t1 t2 && eqW p1 p2))) = V) :
    Calls Try.prog 21 #[.agg #[.slice a1 n c1, .float .f32 l1, .float .f32 t1, .float .f32 p1], .agg #[.slice a2 m c2, .float .f32 l2, .float .f32 t2, .float .f32 p2]] w fun e w' => e = .returned (.bool V) ∧ Ext w w' := by
  have H1 := hid h1
  have H2 := hid h2
  have K1 := hid k1
  have K2 := hid k2
  have HN := hid hn
  have HM := hid hm
  have FL := hid (And.intro fl1 fl2)
  have FT := hid (And.intro ft1 ft2)
  have FP := hid (And.intro fp1 fp2)
  clear h1 h2 k1 k2 hn hm fl1 ft1 fp1 fl2 ft2 fp2
  cases hA : sameB xs ys
  ·
    have e : V = false := by rw [← hV, hA]; rfl
    subst e
    clear hV
    go_enter Try.func21, Try.ntmps21
    go_wp2_with fail
    refine (sameNumbers_any _ _ _ _ _ _ xs ys _ (Holds.alloc (Holds.alloc H1.out _) _) (Holds.alloc (Holds.alloc H2.out _) _) HN.out HM.out K1.out K2.out).mono ?_
    rintro e w1 ⟨rfl, m1, rfl⟩
    simp only [hA]
    go_wp2_with fail
    go_ret
    refine ⟨rfl, ?_⟩
    (repeat with_reducible (first | exact Ext.refl _ | exact ext_alloc _ _ | refine Ext.drewN ?_ _ | refine Ext.drew1 ?_ | refine Ext.set ?_ (by dsimp only; omega) _ | refine Ext.alloc ?_ _))
  cases hB : eqW l1 l2
  ·
    have e : V = false := by rw [← hV, hA, hB]; rfl
    subst e
    clear hV
    go_enter Try.func21, Try.ntmps21
    go_wp2_with fail
    refine (sameNumbers_any _ _ _ _ _ _ xs ys _ (Holds.alloc (Holds.alloc H1.out _) _) (Holds.alloc (Holds.alloc H2.out _) _) HN.out HM.out K1.out K2.out).mono ?_
    rintro e w1 ⟨rfl, m1, rfl⟩
    simp only [hA]
    go_wp2_with fail
    refine (same_eq _ _ FL.out.1 FL.out.2 _).mono ?_
    rintro e0 w2 ⟨rfl, m2, rfl⟩
    simp only [hB]
    go_wp2_with fail
    go_ret
    refine ⟨rfl, ?_⟩
    (repeat with_reducible (first | exact Ext.refl _ | exact ext_alloc _ _ | refine Ext.drewN ?_ _ | refine Ext.drew1 ?_ | refine Ext.set ?_ (by dsimp only; omega) _ | refine Ext.alloc ?_ _))
  cases hC : eqW t1 t2
  ·
    have e : V = false := by rw [← hV, hA, hB, hC]; rfl
    subst e
    clear hV
    go_enter Try.func21, Try.ntmps21
    go_wp2_with fail
    refine (sameNumbers_any _ _ _ _ _ _ xs ys _ (Holds.alloc (Holds.alloc H1.out _) _) (Holds.alloc (Holds.alloc H2.out _) _) HN.out HM.out K1.out K2.out).mono ?_
    rintro e w1 ⟨rfl, m1, rfl⟩
    simp only [hA]
    go_wp2_with fail
    refine (same_eq _ _ FL.out.1 FL.out.2 _).mono ?_
    rintro e0 w2 ⟨rfl, m2, rfl⟩
    simp only [hB]
    go_wp2_with fail
    refine (same_eq _ _ FT.out.1 FT.out.2 _).mono ?_
    rintro e1 w3 ⟨rfl, m3, rfl⟩
    simp only [hC]
    go_wp2_with fail
    go_ret
    refine ⟨rfl, ?_⟩
    (repeat with_reducible (first | exact Ext.refl _ | exact ext_alloc _ _ | refine Ext.drewN ?_ _ | refine Ext.drew1 ?_ | refine Ext.set ?_ (by dsimp only; omega) _ | refine Ext.alloc ?_ _))
  cases hD : eqW p1 p2
  ·
    have e : V = false := by rw [← hV, hA, hB, hC, hD]; rfl
    subst e
    clear hV
    go_enter Try.func21, Try.ntmps21
    go_wp2_with fail
    refine (sameNumbers_any _ _ _ _ _ _ xs ys _ (Holds.alloc (Holds.alloc H1.out _) _) (Holds.alloc (Holds.alloc H2.out _) _) HN.out HM.out K1.out K2.out).mono ?_
    rintro e w1 ⟨rfl, m1, rfl⟩
    simp only [hA]
    go_wp2_with fail
    refine (same_eq _ _ FL.out.1 FL.out.2 _).mono ?_
    rintro e0 w2 ⟨rfl, m2, rfl⟩
    simp only [hB]
    go_wp2_with fail
    refine (same_eq _ _ FT.out.1 FT.out.2 _).mono ?_
    rintro e1 w3 ⟨rfl, m3, rfl⟩
    simp only [hC]
    go_wp2_with fail
    refine (same_eq _ _ FP.out.1 FP.out.2 _).mono ?_
    rintro e2 w4 ⟨rfl, m4, rfl⟩
    simp only [hD]
    go_wp2_with fail
    go_ret
    refine ⟨rfl, ?_⟩
    (repeat with_reducible (first | exact Ext.refl _ | exact ext_alloc _ _ | refine Ext.drewN ?_ _ | refine Ext.drew1 ?_ | refine Ext.set ?_ (by dsimp only; omega) _ | refine Ext.alloc ?_ _))
  ·
    have e : V = true := by rw [← hV, hA, hB, hC, hD]; rfl
    subst e
    clear hV
    go_enter Try.func21, Try.ntmps21
    go_wp2_with fail
    refine (sameNumbers_any _ _ _ _ _ _ xs ys _ (Holds.alloc (Holds.alloc H1.out _) _) (Holds.alloc (Holds.alloc H2.out _) _) HN.out HM.out K1.out K2.out).mono ?_
    rintro e w1 ⟨rfl, m1, rfl⟩
    simp only [hA]
    go_wp2_with fail
    refine (same_eq _ _ FL.out.1 FL.out.2 _).mono ?_
    rintro e0 w2 ⟨rfl, m2, rfl⟩
    simp only [hB]
    go_wp2_with fail
    refine (same_eq _ _ FT.out.1 FT.out.2 _).mono ?_
    rintro e1 w3 ⟨rfl, m3, rfl⟩
    simp only [hC]
    go_wp2_with fail
    refine (same_eq _ _ FP.out.1 FP.out.2 _).mono ?_
    rintro e2 w4 ⟨rfl, m4, rfl⟩
    simp only [hD]
    go_wp2_with fail
    go_ret
    refine ⟨rfl, ?_⟩
    (repeat with_reducible (first | exact Ext.refl _ | exact ext_alloc _ _ | refine Ext.drewN ?_ _ | refine Ext.drew1 ?_ | refine Ext.set ?_ (by dsimp only; omega) _ | refine Ext.alloc ?_ _))

set_option maxRecDepth 100000 in
set_option maxHeartbeats 2000000 in
theorem l02Same_any (x y : Nat) (a1 a2 : Option Addr) (n m c1 c2 l1 t1 p1 l2 t2 p2 : Nat) (xs ys : List Nat) (V : Bool) (w : World) (B1 : Box w x #[.slice a1 n c1, .float .f32 l1, .float .f32 t1, .float .f32 p1]) (B2 : Box w y #[.slice a2 m c2, .float .f32 l2, .float .f32 t2, .float .f32 p2]) (h1 : Holds .f32 w a1 n xs) (h2 : Holds .f32 w a2 m ys) (hn : n ≤ 1048576) (hm : m ≤ 1048576) (k1 : Words n xs) (k2 : Words m ys) (fl1 : l1 < 4294967296) (ft1 : t1 < 4294967296) (fp1 : p1 < 4294967296) (fl2 : l2 < 4294967296) (ft2 : t2 < 4294967296) (fp2 : p2 < 4294967296) (hV : (sameB xs ys && (eqW l1 l2 && (eqW t1 t2 && eqW p1 p2))) = V) :
    Calls Try.prog 106 #[.pointer (some ⟨x, 0, none⟩), .pointer (some ⟨y, 0, none⟩)] w fun e w' => e = .returned (.bool V) ∧ ∃ m, w' = w.drewN m := by
  have H1 := hid h1
  have H2 := hid h2
  have K1 := hid k1
  have K2 := hid k2
  have HN := hid hn
  have HM := hid hm
  have FL := hid (And.intro fl1 fl2)
  have FT := hid (And.intro ft1 ft2)
  have FP := hid (And.intro fp1 fp2)
  clear h1 h2 k1 k2 hn hm fl1 ft1 fp1 fl2 ft2 fp2
  obtain ⟨A0, A1, A2, A3, Al⟩ := Box.cells4 B1
  obtain ⟨B0, B1, B2, B3, Bl⟩ := Box.cells4 B2
  cases hA : sameB xs ys
  ·
    have e : V = false := by rw [← hV, hA]; rfl
    subst e
    clear hV
    go_enter Try.func106, Try.ntmps106
    go_wp2_with fail
    go_quiet (first | (go_at_call 131; refine Calls.quiet_of (v := .bool false) ?_; with_reducible refine (l01SameAll_any _ _ _ _ _ _ xs ys _ (Holds.drew H1.out _) (Holds.drew H2.out _) HN.out HM.out K1.out K2.out).mono ?_; rintro e wA ⟨rfl, mA, rfl⟩; exact ⟨by rw [hA], mA, rfl⟩))
    go_wp2
    go_ret
    exact ⟨rfl, _, rfl⟩
  cases hB : eqW l1 l2
  ·
    have e : V = false := by rw [← hV, hA, hB]; rfl
    subst e
    clear hV
    go_enter Try.func106, Try.ntmps106
    go_wp2_with fail
    go_quiet (first | (go_at_call 131; refine Calls.quiet_of (v := .bool true) ?_; with_reducible refine (l01SameAll_any _ _ _ _ _ _ xs ys _ (Holds.drew H1.out _) (Holds.drew H2.out _) HN.out HM.out K1.out K2.out).mono ?_; rintro e wA ⟨rfl, mA, rfl⟩; exact ⟨by rw [hA], mA, rfl⟩) | (go_at_call 132; refine Calls.quiet_of_same (v := .bool false) ?_; with_reducible refine (l01Same_eq l1 l2 FL.out.1 FL.out.2 _).mono ?_; rintro e wB ⟨rfl, rfl⟩; exact ⟨by rw [hB], rfl⟩))
    go_wp2
    go_ret
    exact ⟨rfl, _, rfl⟩
  cases hC : eqW t1 t2
  ·
    have e : V = false := by rw [← hV, hA, hB, hC]; rfl
    subst e
    clear hV
    go_enter Try.func106, Try.ntmps106
    go_wp2_with fail
    go_quiet (first | (go_at_call 131; refine Calls.quiet_of (v := .bool true) ?_; with_reducible refine (l01SameAll_any _ _ _ _ _ _ xs ys _ (Holds.drew H1.out _) (Holds.drew H2.out _) HN.out HM.out K1.out K2.out).mono ?_; rintro e wA ⟨rfl, mA, rfl⟩; exact ⟨by rw [hA], mA, rfl⟩) | (go_at_call 132; refine Calls.quiet_of_same (v := .bool true) ?_; with_reducible refine (l01Same_eq l1 l2 FL.out.1 FL.out.2 _).mono ?_; rintro e wB ⟨rfl, rfl⟩; exact ⟨by rw [hB], rfl⟩) | (go_at_call 132; refine Calls.quiet_of_same (v := .bool false) ?_; with_reducible refine (l01Same_eq t1 t2 FT.out.1 FT.out.2 _).mono ?_; rintro e wB ⟨rfl, rfl⟩; exact ⟨by rw [hC], rfl⟩))
    go_wp2
    go_ret
    exact ⟨rfl, _, rfl⟩
  cases hD : eqW p1 p2
  ·
    have e : V = false := by rw [← hV, hA, hB, hC, hD]; rfl
    subst e
    clear hV
    go_enter Try.func106, Try.ntmps106
    go_wp2_with fail
    go_quiet (first | (go_at_call 131; refine Calls.quiet_of (v := .bool true) ?_; with_reducible refine (l01SameAll_any _ _ _ _ _ _ xs ys _ (Holds.drew H1.out _) (Holds.drew H2.out _) HN.out HM.out K1.out K2.out).mono ?_; rintro e wA ⟨rfl, mA, rfl⟩; exact ⟨by rw [hA], mA, rfl⟩) | (go_at_call 132; refine Calls.quiet_of_same (v := .bool true) ?_; with_reducible refine (l01Same_eq l1 l2 FL.out.1 FL.out.2 _).mono ?_; rintro e wB ⟨rfl, rfl⟩; exact ⟨by rw [hB], rfl⟩) | (go_at_call 132; refine Calls.quiet_of_same (v := .bool true) ?_; with_reducible refine (l01Same_eq t1 t2 FT.out.1 FT.out.2 _).mono ?_; rintro e wB ⟨rfl, rfl⟩; exact ⟨by rw [hC], rfl⟩) | (go_at_call 132; refine Calls.quiet_of_same (v := .bool false) ?_; with_reducible refine (l01Same_eq p1 p2 FP.out.1 FP.out.2 _).mono ?_; rintro e wB ⟨rfl, rfl⟩; exact ⟨by rw [hD], rfl⟩))
    go_wp2
    go_ret
    exact ⟨rfl, _, rfl⟩
  ·
    have e : V = true := by rw [← hV, hA, hB, hC, hD]; rfl
    subst e
    clear hV
    go_enter Try.func106, Try.ntmps106
    go_wp2_with fail
    go_quiet (first | (go_at_call 131; refine Calls.quiet_of (v := .bool true) ?_; with_reducible refine (l01SameAll_any _ _ _ _ _ _ xs ys _ (Holds.drew H1.out _) (Holds.drew H2.out _) HN.out HM.out K1.out K2.out).mono ?_; rintro e wA ⟨rfl, mA, rfl⟩; exact ⟨by rw [hA], mA, rfl⟩) | (go_at_call 132; refine Calls.quiet_of_same (v := .bool true) ?_; with_reducible refine (l01Same_eq l1 l2 FL.out.1 FL.out.2 _).mono ?_; rintro e wB ⟨rfl, rfl⟩; exact ⟨by rw [hB], rfl⟩) | (go_at_call 132; refine Calls.quiet_of_same (v := .bool true) ?_; with_reducible refine (l01Same_eq t1 t2 FT.out.1 FT.out.2 _).mono ?_; rintro e wB ⟨rfl, rfl⟩; exact ⟨by rw [hC], rfl⟩) | (go_at_call 132; refine Calls.quiet_of_same (v := .bool true) ?_; with_reducible refine (l01Same_eq p1 p2 FP.out.1 FP.out.2 _).mono ?_; rintro e wB ⟨rfl, rfl⟩; exact ⟨by rw [hD], rfl⟩))
    go_wp2
    go_ret
    exact ⟨rfl, _, rfl⟩

theorem sSameTube_any (a1 a2 : Option Addr) (n m c1 c2 l1 t1 p1 l2 t2 p2 : Nat) (xs ys : List Nat) (V : Bool) (w : World) (h1 : Holds .f32 w a1 n xs) (h2 : Holds .f32 w a2 m ys) (hn : n ≤ 1048576) (hm : m ≤ 1048576) (k1 : Words n xs) (k2 : Words m ys) (fl1 : l1 < 4294967296) (ft1 : t1 < 4294967296) (fp1 : p1 < 4294967296) (fl2 : l2 < 4294967296) (ft2 : t2 < 4294967296) (fp2 : p2 < 4294967296) (hV : (sameB xs ys && (eqW l1 l2 && (eqW t1 t2 && eqW p1 p2))) = V) :
    Calls Try.prog 54 #[.agg #[.slice a1 n c1, .float .f32 l1, .float .f32 t1, .float .f32 p1], .agg #[.slice a2 m c2, .float .f32 l2, .float .f32 t2, .float .f32 p2]] w fun e w' => e = .returned (.bool V) ∧ Ext w w' := by
  have H1 := hid h1
  have H2 := hid h2
  have K1 := hid k1
  have K2 := hid k2
  have HN := hid hn
  have HM := hid hm
  have FL := hid (And.intro fl1 fl2)
  have FT := hid (And.intro ft1 ft2)
  have FP := hid (And.intro fp1 fp2)
  clear h1 h2 k1 k2 hn hm fl1 ft1 fp1 fl2 ft2 fp2
  have HV := hid hV
  clear hV
  go_enter Try.func54, Try.ntmps54
  go_wp2_with fail
  refine (l02Same_any _ _ _ _ _ _ _ _ _ _ _ _ _ _ xs ys V _ (Box.alloc (box_new _ _) _) (Box.cast (box_new _ _) (by simp)) (Holds.alloc (Holds.alloc H1.out _) _) (Holds.alloc (Holds.alloc H2.out _) _) HN.out HM.out K1.out K2.out FL.out.1 FT.out.1 FP.out.1 FL.out.2 FT.out.2 FP.out.2 HV.out).mono ?_
  rintro e w1 ⟨rfl, m1, rfl⟩
  go_wp2
  go_ret
  refine ⟨rfl, ?_⟩
  (repeat with_reducible (first | exact Ext.refl _ | exact ext_alloc _ _ | refine Ext.drewN ?_ _ | refine Ext.drew1 ?_ | refine Ext.set ?_ (by dsimp only; omega) _ | refine Ext.alloc ?_ _))

end Go.Proofs.Ytogjehlepdapoaa

/- Waves of a tube. -/
import Derived.Test.YtnmigjiaeahekaaT13
namespace Go.Proofs.Ytnmigjiaeahekaa
open Go.RowKit Flt
set_option linter.unusedVariables false

def wavesB (cs : List (Option Nat)) (l t p : Option Nat) (rs ls : List (Option Nat)) : Bool := tubeC cs l t p && (decide (rs.length = cs.length) && (decide (ls.length = cs.length) && (finsC rs && finsC ls)))

theorem areFinite_any (a : Option Addr) (n c : Nat) (zs : List Nat) (w : World) (h : Holds .f32 w a n zs) (hn : n ≤ 1048576) :
    Calls Try.prog 85 #[.slice a n c] w fun e w' => e = .returned (.bool (finsC (zs.map (cls .f32)))) ∧ ∃ m, w' = w.drewN m := by
  obtain ⟨hl, hc⟩ := h
  have HL := hid hl
  have HC : Hid (∀ k, k < n → ∃ b off, a = some ⟨b, off, none⟩ ∧ w.cell? ⟨b, off + k, none⟩ = some (.float .f32 (zs.getD k 0))) := by
    intro k hk
    rcases hc with h0 | ⟨b, off, rfl, hb, hc⟩
    · omega
    · exact ⟨b, off, rfl, hc k hk⟩
  clear hc hl
  go_enter Try.func85, Try.ntmps85
  go_wp2
  go_loopw [7] (fun i wr => ∃ k : Nat, k ≤ n ∧ i = .int .i64 k ∧ Hid (∀ q, q < k → fin32 (cls .f32 (zs.getD q 0)) = true) ∧ Hid (∃ m, wr = w.drewN m)) (fun i _ => n - (intOf i).toNat)
  case atStart => exact ⟨0, Nat.zero_le _, rfl, hid (fun q hq => by omega), 0, rfl⟩
  case round =>
    obtain ⟨k, hk, rfl, hr, hw⟩ := hrel
    by_cases hlt : k < n
    · obtain ⟨b, off, rfl, e0⟩ := HC.out k hlt
      have e1 : wr.cell? ⟨b, off + k, none⟩ = some (.float .f32 (zs.getD k 0)) := by obtain ⟨m, hm⟩ := hw.out; rw [hm]; exact e0
      clear e0
      have hi0 : (0 : Int) ≤ (k : Int) := by omega
      have hi1 : (k : Int) < (n : Int) := by omega
      cases ha : fin32 (cls .f32 (zs.getD k 0))
      · have HB := hid (show finsC (zs.map (cls .f32)) = false from all_bad (by rw [HL.out]; exact hlt) ha)
        generalize zs.getD k 0 = x at e1 ha
        go_wp2_with (go_at_call 89; refine (isFinite_any _ _).mono ?_; rintro e w' ⟨rfl, m, rfl⟩; simp only [ha])
        go_ret
        exact ⟨by rw [HB.out]; rfl, by obtain ⟨m2, hm⟩ := hw.out; exact ⟨m2 + m, by rw [hm, World.drewN_drewN]⟩⟩
      · have HG := hid (upto_succ (P := fun q => fin32 (cls .f32 (zs.getD q 0)) = true) hr.out ha)
        generalize zs.getD k 0 = x at e1 ha
        go_wp2_with (go_at_call 89; refine (isFinite_any _ _).mono ?_; rintro e w' ⟨rfl, m, rfl⟩; simp only [ha])
        go_roundw
        case rel => exact ⟨k + 1, by omega, by go_num, HG, by obtain ⟨m2, hm⟩ := hw.out; exact ⟨m2 + m, by rw [hm, World.drewN_drewN]⟩⟩
        case measure => simp [intOf]; omega
    · have hkn : k = n := by omega
      subst hkn
      have HG := hid (show finsC (zs.map (cls .f32)) = true from all_good (fun j hj => hr.out j (by rw [HL.out] at hj; exact hj)))
      go_wp2
      go_ret
      exact ⟨by rw [HG.out]; rfl, hw.out⟩

theorem l02Finite_any (a : Option Addr) (n c : Nat) (zs : List Nat) (w : World) (h : Holds .f32 w a n zs) (hn : n ≤ 1048576) :
    Calls Try.prog 84 #[.slice a n c] w fun e w' => e = .returned (.bool (finsC (zs.map (cls .f32)))) ∧ ∃ m, w' = w.drewN m := by
  obtain ⟨hl, hc⟩ := h
  have HL := hid hl
  have HC : Hid (∀ k, k < n → ∃ b off, a = some ⟨b, off, none⟩ ∧ w.cell? ⟨b, off + k, none⟩ = some (.float .f32 (zs.getD k 0))) := by
    intro k hk
    rcases hc with h0 | ⟨b, off, rfl, hb, hc⟩
    · omega
    · exact ⟨b, off, rfl, hc k hk⟩
  clear hc hl
  go_enter Try.func84, Try.ntmps84
  go_wp2
  go_loopw [3] (fun i wr => ∃ k : Nat, k ≤ n ∧ i = .int .i64 k ∧ Hid (∀ q, q < k → fin32 (cls .f32 (zs.getD q 0)) = true) ∧ Hid (∃ m, wr = w.drewN m)) (fun i _ => n - (intOf i).toNat)
  case atStart => exact ⟨0, Nat.zero_le _, rfl, hid (fun q hq => by omega), 0, rfl⟩
  case round =>
    obtain ⟨k, hk, rfl, hr, hw⟩ := hrel
    by_cases hlt : k < n
    · obtain ⟨b, off, rfl, e0⟩ := HC.out k hlt
      have e1 : wr.cell? ⟨b, off + k, none⟩ = some (.float .f32 (zs.getD k 0)) := by obtain ⟨m, hm⟩ := hw.out; rw [hm]; exact e0
      clear e0
      have hi0 : (0 : Int) ≤ (k : Int) := by omega
      have hi1 : (k : Int) < (n : Int) := by omega
      cases ha : fin32 (cls .f32 (zs.getD k 0))
      · have HB := hid (show finsC (zs.map (cls .f32)) = false from all_bad (by rw [HL.out]; exact hlt) ha)
        generalize zs.getD k 0 = x at e1 ha
        go_wp2_with (go_at_call 81; refine (l01Finite_any _ _).mono ?_; rintro e w' ⟨rfl, m, rfl⟩; simp only [ha])
        go_ret
        exact ⟨by rw [HB.out]; rfl, by obtain ⟨m2, hm⟩ := hw.out; exact ⟨m2 + m, by rw [hm, World.drewN_drewN]⟩⟩
      · have HG := hid (upto_succ (P := fun q => fin32 (cls .f32 (zs.getD q 0)) = true) hr.out ha)
        generalize zs.getD k 0 = x at e1 ha
        go_wp2_with (go_at_call 81; refine (l01Finite_any _ _).mono ?_; rintro e w' ⟨rfl, m, rfl⟩; simp only [ha])
        go_roundw
        case rel => exact ⟨k + 1, by omega, by go_num, HG, by obtain ⟨m2, hm⟩ := hw.out; exact ⟨m2 + m, by rw [hm, World.drewN_drewN]⟩⟩
        case measure => simp [intOf]; omega
    · have hkn : k = n := by omega
      subst hkn
      have HG := hid (show finsC (zs.map (cls .f32)) = true from all_good (fun j hj => hr.out j (by rw [HL.out] at hj; exact hj)))
      go_wp2
      go_ret
      exact ⟨by rw [HG.out]; rfl, hw.out⟩

set_option maxHeartbeats 2000000 in
theorem areWaves_any (a b1 b2 : Option Addr) (n c l t p n1 d1 n2 d2 : Nat) (zs rs ls : List Nat) (V : Bool) (w : World) (h : Holds .f32 w a n zs) (k1 : Holds .f32 w b1 n1 rs) (k2 : Holds .f32 w b2 n2 ls) (hn : n ≤ 1048576) (hn1 : n1 ≤ 1048576) (hn2 : n2 ≤ 1048576) (hR : wavesB (zs.map (cls .f32)) (cls .f32 l) (cls .f32 t) (cls .f32 p) (rs.map (cls .f32)) (ls.map (cls .f32)) = V) :
    Calls Try.prog 76 #[.agg #[.slice a n c, .float .f32 l, .float .f32 t, .float .f32 p], .agg #[.slice b1 n1 d1, .slice b2 n2 d2]] w fun e w' => e = .returned (.bool V) ∧ Ext w w' := by
  have HH := hid h
  have H1 := hid k1
  have H2 := hid k2
  have HN := hid hn
  have HN1 := hid hn1
  have HN2 := hid hn2
  have HL := hid h.1
  have HR1 := hid k1.1
  have HR2 := hid k2.1
  clear h k1 k2
  cases hV : tubeC (zs.map (cls .f32)) (cls .f32 l) (cls .f32 t) (cls .f32 p)
  · have e : V = false := by rw [← hR]; unfold wavesB; rw [hV]; rfl
    subst e
    clear hR
    go_enter Try.func76, Try.ntmps76
    go_wp2_with fail
    refine (validTube_any _ _ _ _ _ _ zs _ (Holds.alloc (Holds.alloc HH.out _) _) HN.out).mono ?_
    rintro e w1 ⟨rfl, m, rfl⟩
    simp only [hV]
    go_wp2_with fail
    go_ret
    refine ⟨rfl, ?_⟩
    (repeat with_reducible (first | exact Ext.refl _ | exact ext_alloc _ _ | refine Ext.drewN ?_ _ | refine Ext.drew1 ?_ | refine Ext.set ?_ (by dsimp only; omega) _ | refine Ext.alloc ?_ _))
  by_cases h1 : n1 = n
  case neg =>
    have e : V = false := by rw [← hR]; unfold wavesB; rw [show decide ((rs.map (cls .f32)).length = (zs.map (cls .f32)).length) = false from by have e1 := HR1.out; have e2 := HL.out; simp; omega]; simp
    subst e
    clear hR
    go_enter Try.func76, Try.ntmps76
    go_wp2_with fail
    refine (validTube_any _ _ _ _ _ _ zs _ (Holds.alloc (Holds.alloc HH.out _) _) HN.out).mono ?_
    rintro e w1 ⟨rfl, m, rfl⟩
    simp only [hV]
    go_wp2_with fail
    go_ret
    refine ⟨rfl, ?_⟩
    (repeat with_reducible (first | exact Ext.refl _ | exact ext_alloc _ _ | refine Ext.drewN ?_ _ | refine Ext.drew1 ?_ | refine Ext.set ?_ (by dsimp only; omega) _ | refine Ext.alloc ?_ _))
  subst h1
  by_cases h2 : n2 = n1
  case neg =>
    have e : V = false := by rw [← hR]; unfold wavesB; rw [show decide ((ls.map (cls .f32)).length = (zs.map (cls .f32)).length) = false from by have e1 := HR2.out; have e2 := HL.out; simp; omega]; simp
    subst e
    clear hR
    go_enter Try.func76, Try.ntmps76
    go_wp2_with fail
    refine (validTube_any _ _ _ _ _ _ zs _ (Holds.alloc (Holds.alloc HH.out _) _) HN.out).mono ?_
    rintro e w1 ⟨rfl, m, rfl⟩
    simp only [hV]
    go_wp2_with fail
    go_ret
    refine ⟨rfl, ?_⟩
    (repeat with_reducible (first | exact Ext.refl _ | exact ext_alloc _ _ | refine Ext.drewN ?_ _ | refine Ext.drew1 ?_ | refine Ext.set ?_ (by dsimp only; omega) _ | refine Ext.alloc ?_ _))
  subst h2
  have hle : wavesB (zs.map (cls .f32)) (cls .f32 l) (cls .f32 t) (cls .f32 p) (rs.map (cls .f32)) (ls.map (cls .f32)) = (finsC (rs.map (cls .f32)) && finsC (ls.map (cls .f32))) := by
    unfold wavesB
    rw [hV, show decide ((rs.map (cls .f32)).length = (zs.map (cls .f32)).length) = true from by have e1 := HR1.out; have e2 := HL.out; simp; omega, show decide ((ls.map (cls .f32)).length = (zs.map (cls .f32)).length) = true from by have e1 := HR2.out; have e2 := HL.out; simp; omega]
    rfl
  rw [hle] at hR
  clear hle
  cases hF : finsC (rs.map (cls .f32))
  · rw [hF] at hR
    have e : V = false := by rw [← hR]; rfl
    subst e
    clear hR
    go_enter Try.func76, Try.ntmps76
    go_wp2_with fail
    refine (validTube_any _ _ _ _ _ _ zs _ (Holds.alloc (Holds.alloc HH.out _) _) HN.out).mono ?_
    rintro e w1 ⟨rfl, m, rfl⟩
    simp only [hV]
    go_wp2_with fail
    refine (areFinite_any _ _ _ rs _ (Holds.drew (Holds.alloc (Holds.alloc (Holds.alloc H1.out _) _) _) _) HN1.out).mono ?_
    rintro e2 w2 ⟨rfl, m2, rfl⟩
    simp only [hF]
    go_wp2_with fail
    go_ret
    refine ⟨rfl, ?_⟩
    (repeat with_reducible (first | exact Ext.refl _ | exact ext_alloc _ _ | refine Ext.drewN ?_ _ | refine Ext.drew1 ?_ | refine Ext.set ?_ (by dsimp only; omega) _ | refine Ext.alloc ?_ _))
  cases hG : finsC (ls.map (cls .f32))
  · rw [hF, hG] at hR
    have e : V = false := by rw [← hR]; rfl
    subst e
    clear hR
    go_enter Try.func76, Try.ntmps76
    go_wp2_with fail
    refine (validTube_any _ _ _ _ _ _ zs _ (Holds.alloc (Holds.alloc HH.out _) _) HN.out).mono ?_
    rintro e w1 ⟨rfl, m, rfl⟩
    simp only [hV]
    go_wp2_with fail
    refine (areFinite_any _ _ _ rs _ (Holds.drew (Holds.alloc (Holds.alloc (Holds.alloc H1.out _) _) _) _) HN1.out).mono ?_
    rintro e2 w2 ⟨rfl, m2, rfl⟩
    simp only [hF]
    go_wp2_with fail
    refine (areFinite_any _ _ _ ls _ (Holds.drew (Holds.alloc (Holds.alloc (Holds.alloc H2.out _) _) _) _) HN2.out).mono ?_
    rintro e3 w3 ⟨rfl, m3, rfl⟩
    simp only [hG]
    go_wp2_with fail
    go_ret
    refine ⟨rfl, ?_⟩
    (repeat with_reducible (first | exact Ext.refl _ | exact ext_alloc _ _ | refine Ext.drewN ?_ _ | refine Ext.drew1 ?_ | refine Ext.set ?_ (by dsimp only; omega) _ | refine Ext.alloc ?_ _))
  rw [hF, hG] at hR
  have e : V = true := by rw [← hR]; rfl
  subst e
  clear hR
  go_enter Try.func76, Try.ntmps76
  go_wp2_with fail
  refine (validTube_any _ _ _ _ _ _ zs _ (Holds.alloc (Holds.alloc HH.out _) _) HN.out).mono ?_
  rintro e w1 ⟨rfl, m, rfl⟩
  simp only [hV]
  go_wp2_with fail
  refine (areFinite_any _ _ _ rs _ (Holds.drew (Holds.alloc (Holds.alloc (Holds.alloc H1.out _) _) _) _) HN1.out).mono ?_
  rintro e2 w2 ⟨rfl, m2, rfl⟩
  simp only [hF]
  go_wp2_with fail
  refine (areFinite_any _ _ _ ls _ (Holds.drew (Holds.alloc (Holds.alloc (Holds.alloc H2.out _) _) _) _) HN2.out).mono ?_
  rintro e3 w3 ⟨rfl, m3, rfl⟩
  simp only [hG]
  go_wp2_with fail
  go_ret
  refine ⟨rfl, ?_⟩
  (repeat with_reducible (first | exact Ext.refl _ | exact ext_alloc _ _ | refine Ext.drewN ?_ _ | refine Ext.drew1 ?_ | refine Ext.set ?_ (by dsimp only; omega) _ | refine Ext.alloc ?_ _))

set_option maxRecDepth 100000 in
set_option maxHeartbeats 2000000 in
theorem l02Waves_any (x y : Nat) (a b1 b2 : Option Addr) (n c l t p n1 d1 n2 d2 : Nat) (zs rs ls : List Nat) (V : Bool) (w : World) (hx : Box w x #[.slice a n c, .float .f32 l, .float .f32 t, .float .f32 p]) (hy : Box w y #[.slice b1 n1 d1, .slice b2 n2 d2]) (h : Holds .f32 w a n zs) (k1 : Holds .f32 w b1 n1 rs) (k2 : Holds .f32 w b2 n2 ls) (hn : n ≤ 1048576) (hn1 : n1 ≤ 1048576) (hn2 : n2 ≤ 1048576) (hR : wavesB (zs.map (cls .f32)) (cls .f32 l) (cls .f32 t) (cls .f32 p) (rs.map (cls .f32)) (ls.map (cls .f32)) = V) :
    Calls Try.prog 74 #[.pointer (some ⟨x, 0, none⟩), .pointer (some ⟨y, 0, none⟩)] w fun e w' => e = .returned (.bool V) ∧ ∃ m, w' = w.drewN m := by
  have HH := hid h
  have H1 := hid k1
  have H2 := hid k2
  have HN := hid hn
  have HN1 := hid hn1
  have HN2 := hid hn2
  have HL := hid h.1
  have HR1 := hid k1.1
  have HR2 := hid k2.1
  clear h k1 k2
  have BT := hid hx
  obtain ⟨c0, c1, c2, c3, hlt⟩ := hx.cells4
  obtain ⟨g0, g1, glt⟩ := hy.cells2
  clear hx hy
  cases hV : tubeC (zs.map (cls .f32)) (cls .f32 l) (cls .f32 t) (cls .f32 p)
  · have e : V = false := by rw [← hR]; unfold wavesB; rw [hV]; rfl
    subst e
    clear hR
    go_enter Try.func74, Try.ntmps74
    go_wp2_with fail
    refine (l02Is_any _ _ _ _ _ _ _ zs _ BT.out HH.out HN.out).mono ?_
    rintro e w1 ⟨rfl, m, rfl⟩
    simp only [hV]
    go_wp2_with fail
    go_ret
    exact ⟨rfl, _, rfl⟩
  by_cases h1 : n1 = n
  case neg =>
    have e : V = false := by rw [← hR]; unfold wavesB; rw [show decide ((rs.map (cls .f32)).length = (zs.map (cls .f32)).length) = false from by have e1 := HR1.out; have e2 := HL.out; simp; omega]; simp
    subst e
    clear hR
    go_enter Try.func74, Try.ntmps74
    go_wp2_with fail
    refine (l02Is_any _ _ _ _ _ _ _ zs _ BT.out HH.out HN.out).mono ?_
    rintro e w1 ⟨rfl, m, rfl⟩
    simp only [hV]
    go_wp2_with fail
    go_ret
    exact ⟨rfl, _, rfl⟩
  subst h1
  by_cases h2 : n2 = n1
  case neg =>
    have e : V = false := by rw [← hR]; unfold wavesB; rw [show decide ((ls.map (cls .f32)).length = (zs.map (cls .f32)).length) = false from by have e1 := HR2.out; have e2 := HL.out; simp; omega]; simp
    subst e
    clear hR
    go_enter Try.func74, Try.ntmps74
    go_wp2_with fail
    refine (l02Is_any _ _ _ _ _ _ _ zs _ BT.out HH.out HN.out).mono ?_
    rintro e w1 ⟨rfl, m, rfl⟩
    simp only [hV]
    go_wp2_with fail
    go_ret
    exact ⟨rfl, _, rfl⟩
  subst h2
  have hle : wavesB (zs.map (cls .f32)) (cls .f32 l) (cls .f32 t) (cls .f32 p) (rs.map (cls .f32)) (ls.map (cls .f32)) = (finsC (rs.map (cls .f32)) && finsC (ls.map (cls .f32))) := by
    unfold wavesB
    rw [hV, show decide ((rs.map (cls .f32)).length = (zs.map (cls .f32)).length) = true from by have e1 := HR1.out; have e2 := HL.out; simp; omega, show decide ((ls.map (cls .f32)).length = (zs.map (cls .f32)).length) = true from by have e1 := HR2.out; have e2 := HL.out; simp; omega]
    rfl
  rw [hle] at hR
  clear hle
  cases hF : finsC (rs.map (cls .f32))
  · rw [hF] at hR
    have e : V = false := by rw [← hR]; rfl
    subst e
    clear hR
    go_enter Try.func74, Try.ntmps74
    go_wp2_with fail
    refine (l02Is_any _ _ _ _ _ _ _ zs _ BT.out HH.out HN.out).mono ?_
    rintro e w1 ⟨rfl, m, rfl⟩
    simp only [hV]
    go_wp2_with fail
    refine (l02Finite_any _ _ _ rs _ (Holds.drew H1.out _) HN1.out).mono ?_
    rintro e2 w2 ⟨rfl, m2, rfl⟩
    simp only [hF]
    go_wp2_with fail
    go_ret
    exact ⟨rfl, _, rfl⟩
  cases hG : finsC (ls.map (cls .f32))
  · rw [hF, hG] at hR
    have e : V = false := by rw [← hR]; rfl
    subst e
    clear hR
    go_enter Try.func74, Try.ntmps74
    go_wp2_with fail
    refine (l02Is_any _ _ _ _ _ _ _ zs _ BT.out HH.out HN.out).mono ?_
    rintro e w1 ⟨rfl, m, rfl⟩
    simp only [hV]
    go_wp2_with fail
    refine (l02Finite_any _ _ _ rs _ (Holds.drew H1.out _) HN1.out).mono ?_
    rintro e2 w2 ⟨rfl, m2, rfl⟩
    simp only [hF]
    go_wp2_with fail
    refine (l02Finite_any _ _ _ ls _ (Holds.drew H2.out _) HN2.out).mono ?_
    rintro e3 w3 ⟨rfl, m3, rfl⟩
    simp only [hG]
    go_wp2_with fail
    go_ret
    exact ⟨rfl, _, rfl⟩
  rw [hF, hG] at hR
  have e : V = true := by rw [← hR]; rfl
  subst e
  clear hR
  go_enter Try.func74, Try.ntmps74
  go_wp2_with fail
  refine (l02Is_any _ _ _ _ _ _ _ zs _ BT.out HH.out HN.out).mono ?_
  rintro e w1 ⟨rfl, m, rfl⟩
  simp only [hV]
  go_wp2_with fail
  refine (l02Finite_any _ _ _ rs _ (Holds.drew H1.out _) HN1.out).mono ?_
  rintro e2 w2 ⟨rfl, m2, rfl⟩
  simp only [hF]
  go_wp2_with fail
  refine (l02Finite_any _ _ _ ls _ (Holds.drew H2.out _) HN2.out).mono ?_
  rintro e3 w3 ⟨rfl, m3, rfl⟩
  simp only [hG]
  go_wp2_with fail
  go_ret
  exact ⟨rfl, _, rfl⟩

theorem szWaves_yes (a b : Option Addr) (n c m d : Nat) (k : Int) (h : (n : Int) + (m : Int) ≤ k) (hk : k ≤ 1048576) (w : World) :
    Calls Try.prog 28 #[.agg #[.slice a n c, .slice b m d], .int .i64 k] w fun e w' => e = .returned (.int .i64 (k - n - m)) ∧ Ext w w' := by
  have h0 : ¬ k - n < 0 := by omega
  have h1 : ¬ k - n - m < 0 := by omega
  go_enter Try.func28, Try.ntmps28
  go_wp2_with (go_at_call 58; refine (szF_yes _ _ _ _ (by omega) (by omega) _).mono ?_; rintro e w' ⟨rfl, rfl⟩)
  go_ret
  exact ⟨rfl, ext_alloc _ _⟩
theorem szWaves_no1 (a b : Option Addr) (n c m d : Nat) (k : Int) (hn : n ≤ maxLen) (h : k < (n : Int)) (hk : 0 ≤ k) (w : World) :
    Calls Try.prog 28 #[.agg #[.slice a n c, .slice b m d], .int .i64 k] w fun e w' => e = .returned (.int .i64 (-1)) ∧ Ext w w' := by
  go_enter Try.func28, Try.ntmps28
  go_wp2_with (go_at_call 58; refine (szF_no _ _ _ _ hn h hk _).mono ?_; rintro e w' ⟨rfl, rfl⟩)
  go_ret
  exact ⟨rfl, ext_alloc _ _⟩
theorem szWaves_no2 (a b : Option Addr) (n c m d : Nat) (k : Int) (hm : m ≤ maxLen) (h : (n : Int) ≤ k) (h2 : k - n < (m : Int)) (hk : k ≤ 1048576) (w : World) :
    Calls Try.prog 28 #[.agg #[.slice a n c, .slice b m d], .int .i64 k] w fun e w' => e = .returned (.int .i64 (-1)) ∧ Ext w w' := by
  have h0 : ¬ k - n < 0 := by omega
  go_enter Try.func28, Try.ntmps28
  go_wp2_with fail
  refine (szF_yes _ _ _ _ h hk _).mono ?_
  rintro e w1 ⟨rfl, rfl⟩
  go_wp2_with fail
  refine (szF_no _ _ _ _ hm h2 (by omega) _).mono ?_
  rintro e w2 ⟨rfl, rfl⟩
  go_wp2
  go_ret
  exact ⟨rfl, ext_alloc _ _⟩
theorem toWaves_any (a b : Option Addr) (n c m d : Nat) (xs ys : List Nat) (w : World) (h1 : IsRowF .f32 w a n c xs) (h2 : IsRowF .f32 w b m d ys) (hn : n ≤ 1048576) (hm : m ≤ 1048576) :
    Calls Try.prog 30 #[.agg #[.slice a n c, .slice b m d]] w fun e w' => ∃ x y, e = .returned (.agg #[.slice (some ⟨x, 0, none⟩) n n, .slice (some ⟨y, 0, none⟩) m m]) ∧ Own w' w.heap.size n (.slice (some ⟨x, 0, none⟩) n n) (xs.take n) ∧ Own w' w.heap.size m (.slice (some ⟨y, 0, none⟩) m m) (ys.take m) ∧ (∀ k, (Value.slice (some ⟨x, 0, none⟩) n n).ownBlock = some k → (Value.slice (some ⟨y, 0, none⟩) m m).ownBlock ≠ some k) ∧ Ext w w' := by
  have HX := hid h1
  have HY := hid h2
  have HXl := hid (holds_row h1).1
  have HYl := hid (holds_row h2).1
  clear h1 h2
  go_enter Try.func30, Try.ntmps30
  go_wp2_with fail
  refine (toFloat32S_any _ _ _ xs _ (IsRowF.ext HX.out (((ext_alloc _ _).alloc _).alloc _)) hn).mono ?_
  rintro e w1 ⟨cs1, rfl, hc1, rfl⟩
  go_wp2_with fail
  refine (toFloat32S_any _ _ _ ys _ (IsRowF.ext HY.out (by (repeat with_reducible (first | exact Ext.refl _ | exact ext_alloc _ _ | refine Ext.drewN ?_ _ | refine Ext.drew1 ?_ | refine Ext.set ?_ (by dsimp only; omega) _ | refine Ext.alloc ?_ _)))) hm).mono ?_
  rintro e w2 ⟨cs2, rfl, hc2, rfl⟩
  go_wp2_with fail
  go_returns
  refine ⟨_, _, rfl, Own.alloc (own_fresh hc1 HXl.out (by simp) (by simp; omega) (by unfold maxLen; omega)) _, own_fresh hc2 HYl.out (by simp) (by simp; omega) (by unfold maxLen; omega), ?_, ?_⟩
  · intro k hk hk2
    simp [Value.ownBlock] at hk hk2
    omega
  · (repeat with_reducible (first | exact Ext.refl _ | exact ext_alloc _ _ | refine Ext.drewN ?_ _ | refine Ext.drew1 ?_ | refine Ext.set ?_ (by dsimp only; omega) _ | refine Ext.alloc ?_ _))
end Go.Proofs.Ytnmigjiaeahekaa

/- The law on waves of a tube. -/
import Derived.Test.YtogjehlepdapoabT15
import Derived.Deep.RegionHeld3
namespace Go.Proofs.Ytogjehlepdapoab
open Go.RowKit Flt
set_option linter.unusedVariables false

theorem cells42 {w : World} {b c : Nat} {v0 v1 v2 v3 u0 u1 : Value} (h : Box w b #[v0, v1, v2, v3]) (k : Box w c #[u0, u1]) :
    (w.cell? ⟨b, 0, none⟩ = some v0 ∧ w.cell? ⟨b, 1, none⟩ = some v1 ∧ w.cell? ⟨b, 2, none⟩ = some v2 ∧ w.cell? ⟨b, 3, none⟩ = some v3) ∧ w.cell? ⟨c, 0, none⟩ = some u0 ∧ w.cell? ⟨c, 1, none⟩ = some u1 := ⟨⟨h.cell 0, h.cell 1, h.cell 2, h.cell 3⟩, k.cell 0, k.cell 1⟩
theorem cells22 {w : World} {b c : Nat} {v0 v1 u0 u1 : Value} (h : Box w b #[v0, v1]) (k : Box w c #[u0, u1]) :
    (w.cell? ⟨b, 0, none⟩ = some v0 ∧ w.cell? ⟨b, 1, none⟩ = some v1) ∧ w.cell? ⟨c, 0, none⟩ = some u0 ∧ w.cell? ⟨c, 1, none⟩ = some u1 := ⟨⟨h.cell 0, h.cell 1⟩, k.cell 0, k.cell 1⟩
set_option maxHeartbeats 4000000 in
set_option maxRecDepth 100000 in
theorem FnExactAreWaves_walk (a0 : Option Addr) (n0 c0 : Nat) (z0 : List Nat) (l0 t0 p0 : Nat) (u : Option Addr) (n1 d1 : Nat) (r1 : List Nat) (v : Option Addr) (n2 d2 : Nat) (r2 : List Nat) (w : World) (w0 : IsRowF .f32 w a0 n0 c0 z0) (wl : (Lit.float .f32 l0).wf = true) (wt : (Lit.float .f32 t0).wf = true) (wp : (Lit.float .f32 p0).wf = true) (k1 : IsRowF .f32 w u n1 d1 r1) (k2 : IsRowF .f32 w v n2 d2 r2) :
    Calls Try.prog 9 #[.agg #[.slice a0 n0 c0, .float .f32 l0, .float .f32 t0, .float .f32 p0], .agg #[.slice u n1 d1, .slice v n2 d2]] w fun e w' => e = .returned (.bool true) ∧ Below w.heap.size w w' := by
  have hmx : n0 ≤ maxLen := row_max w0
  have hmx1 : n1 ≤ maxLen := row_max k1
  have hmx2 : n2 ≤ maxLen := row_max k2
  by_cases hbig : 1048576 < n0
  · go_enter Try.func9, Try.ntmps9
    go_wp2_with fail
    refine (szTube_no _ _ _ _ _ _ _ hmx (by omega) (by omega) _).mono ?_
    rintro e w1 ⟨rfl, E1⟩
    have EX := hid (Ext.trans (Ext.alloc (ext_alloc _ _) _) E1)
    clear E1
    go_wp2
    go_ret
    exact ⟨rfl, EX.out⟩
  have hn : n0 ≤ 1048576 := by omega
  have hk : (n0 : Int) ≤ 1048576 := by omega
  have hk2 : ¬ ((1048576 : Int) - (n0 : Int) < 0) := by omega
  by_cases hb1 : (1048576 : Int) - n0 < n1
  · clear wl wt wp
    go_enter Try.func9, Try.ntmps9
    go_wp2_with fail
    refine (szTube_yes _ _ _ _ _ _ _ hk (by omega) _).mono ?_
    rintro e w1 ⟨rfl, E0⟩
    have EX := hid (Ext.trans (Ext.alloc (ext_alloc _ _) _) E0)
    have A := hid (Box.ext (Box.alloc (box_new (w := w) #[.slice a0 n0 c0, .float .f32 l0, .float .f32 t0, .float .f32 p0] 25) (.cells #[.slice u n1 d1, .slice v n2 d2] 54)) E0)
    have B := hid (Box.cast (b' := w.heap.size + 1) (Box.ext (box_new (w := w.alloc (.cells #[.slice a0 n0 c0, .float .f32 l0, .float .f32 t0, .float .f32 p0] 25)) #[.slice u n1 d1, .slice v n2 d2] 54) E0) (by simp))
    have Z1 := hid (show w.heap.size + 1 + 1 ≤ w1.heap.size from by have := Ext.size E0; simpa using this)
    clear E0
    obtain ⟨A0, A1, A2, A3, Al⟩ := Box.cells4 A.out
    obtain ⟨B0, B1, Bl⟩ := Box.cells2 B.out
    go_wp2_with fail
    refine (szWaves_no1 _ _ _ _ _ _ _ hmx1 hb1 (by omega) _).mono ?_
    rintro e w2 ⟨rfl, E2⟩
    replace EX := hid (Ext.trans EX.out E2)
    clear E2 A0 A1 A2 A3 Al B0 B1 Bl
    go_wp2
    go_ret
    exact ⟨rfl, EX.out⟩
  by_cases hb2 : (1048576 : Int) - n0 - n1 < n2
  · clear wl wt wp
    go_enter Try.func9, Try.ntmps9
    go_wp2_with fail
    refine (szTube_yes _ _ _ _ _ _ _ hk (by omega) _).mono ?_
    rintro e w1 ⟨rfl, E0⟩
    have EX := hid (Ext.trans (Ext.alloc (ext_alloc _ _) _) E0)
    have A := hid (Box.ext (Box.alloc (box_new (w := w) #[.slice a0 n0 c0, .float .f32 l0, .float .f32 t0, .float .f32 p0] 25) (.cells #[.slice u n1 d1, .slice v n2 d2] 54)) E0)
    have B := hid (Box.cast (b' := w.heap.size + 1) (Box.ext (box_new (w := w.alloc (.cells #[.slice a0 n0 c0, .float .f32 l0, .float .f32 t0, .float .f32 p0] 25)) #[.slice u n1 d1, .slice v n2 d2] 54) E0) (by simp))
    have Z1 := hid (show w.heap.size + 1 + 1 ≤ w1.heap.size from by have := Ext.size E0; simpa using this)
    clear E0
    obtain ⟨A0, A1, A2, A3, Al⟩ := Box.cells4 A.out
    obtain ⟨B0, B1, Bl⟩ := Box.cells2 B.out
    go_wp2_with fail
    refine (szWaves_no2 _ _ _ _ _ _ _ hmx2 (by omega) hb2 (by omega) _).mono ?_
    rintro e w2 ⟨rfl, E2⟩
    replace EX := hid (Ext.trans EX.out E2)
    clear E2 A0 A1 A2 A3 Al B0 B1 Bl
    go_wp2
    go_ret
    exact ⟨rfl, EX.out⟩
  have hn1 : n1 ≤ 1048576 := by omega
  have hn2 : n2 ≤ 1048576 := by omega
  have hk4 : ¬ ((1048576 : Int) - (n0 : Int) - (n1 : Int) - (n2 : Int) < 0) := by omega
  have AR := hid w0
  have BR1 := hid k1
  have BR2 := hid k2
  obtain ⟨V, hV⟩ : ∃ V, wavesB ((z0.take n0).map (cls .f32)) (cls .f32 l0) (cls .f32 t0) (cls .f32 p0) ((r1.take n1).map (cls .f32)) ((r2.take n2).map (cls .f32)) = V := ⟨_, rfl⟩
  have HV := hid hV
  clear w0 k1 k2 hmx hmx1 hmx2 hbig hb1 hb2 wl wt wp hV
  go_enter Try.func9, Try.ntmps9
  go_wp2_with fail
  refine (szTube_yes _ _ _ _ _ _ _ hk (by omega) _).mono ?_
  rintro e w1 ⟨rfl, E0⟩
  have EX := hid (Ext.trans (Ext.alloc (ext_alloc _ _) _) E0)
  have A := hid (Box.ext (Box.alloc (box_new (w := w) #[.slice a0 n0 c0, .float .f32 l0, .float .f32 t0, .float .f32 p0] 25) (.cells #[.slice u n1 d1, .slice v n2 d2] 54)) E0)
  have B := hid (Box.cast (b' := w.heap.size + 1) (Box.ext (box_new (w := w.alloc (.cells #[.slice a0 n0 c0, .float .f32 l0, .float .f32 t0, .float .f32 p0] 25)) #[.slice u n1 d1, .slice v n2 d2] 54) E0) (by simp))
  have Z1 := hid (show w.heap.size + 1 + 1 ≤ w1.heap.size from by have := Ext.size E0; simpa using this)
  clear E0
  obtain ⟨A0, A1, A2, A3, Al⟩ := Box.cells4 A.out
  obtain ⟨B0, B1, Bl⟩ := Box.cells2 B.out
  go_wp2_with fail
  refine (szWaves_yes _ _ _ _ _ _ _ (by omega) (by omega) _).mono ?_
  rintro e w2 ⟨rfl, E2⟩
  replace A := hid (Box.ext A.out E2)
  replace B := hid (Box.ext B.out E2)
  replace EX := hid (Ext.trans EX.out E2)
  have Z2 := hid (show w1.heap.size ≤ w2.heap.size from Ext.size E2)
  clear E2 A0 A1 A2 A3 Al B0 B1 Bl
  obtain ⟨A0, A1, A2, A3, Al⟩ := Box.cells4 A.out
  obtain ⟨B0, B1, Bl⟩ := Box.cells2 B.out
  go_wp2_with fail
  go_region_held3 (fun w' => (w'.cell? ⟨w.heap.size, 0, none⟩ = some (.slice a0 n0 c0) ∧ w'.cell? ⟨w.heap.size, 1, none⟩ = some (.float .f32 l0) ∧ w'.cell? ⟨w.heap.size, 2, none⟩ = some (.float .f32 t0) ∧ w'.cell? ⟨w.heap.size, 3, none⟩ = some (.float .f32 p0)) ∧ w'.cell? ⟨w.heap.size + 1, 0, none⟩ = some (.slice u n1 d1) ∧ w'.cell? ⟨w.heap.size + 1, 1, none⟩ = some (.slice v n2 d2))
    (first | exact cells42 A.out B.out | exact cells42 (Box.ext A.out (Ext.trans (ext_drew _) EA)) (Box.ext B.out (Ext.trans (ext_drew _) EA)) | exact cells42 (Box.ext A.out (Ext.trans (ext_drew _) EB)) (Box.ext B.out (Ext.trans (ext_drew _) EB)) | exact cells42 (Box.ext A.out (Ext.trans (ext_drew _) (Ext.trans EA EB))) (Box.ext B.out (Ext.trans (ext_drew _) (Ext.trans EA EB))) | exact cells42 (Box.ext A.out (Ext.trans (ext_drew _) (Ext.trans EB EA))) (Box.ext B.out (Ext.trans (ext_drew _) (Ext.trans EB EA))) | exact cells42 (Box.ext A.out (Ext.trans (ext_drew _) (Ext.trans EA (Ext.trans EB EC)))) (Box.ext B.out (Ext.trans (ext_drew _) (Ext.trans EA (Ext.trans EB EC)))) | exact cells42 (Box.ext A.out (Ext.trans (ext_drew _) (Ext.trans EB (Ext.trans EA EC)))) (Box.ext B.out (Ext.trans (ext_drew _) (Ext.trans EB (Ext.trans EA EC)))))
    (first | (go_at_call 17; refine (toTube_any _ _ _ _ _ _ z0 _ (by first | (have hq := IsRowF.ext AR.out EX.out; exact hq) | exact IsRowF.ext AR.out (Ext.trans EX.out (Ext.trans (ext_drew _) EA)) | exact IsRowF.ext AR.out (Ext.trans EX.out (Ext.trans (ext_drew _) EB))) hn).mono ?_; rintro e wA ⟨ba, rfl, YT, EA⟩) | (go_at_call 42; refine (toWaves_any _ _ _ _ _ _ r1 r2 _ (by first | (have hq := IsRowF.ext BR1.out EX.out; exact hq) | exact IsRowF.ext BR1.out (Ext.trans EX.out (Ext.trans (ext_drew _) EA)) | exact IsRowF.ext BR1.out (Ext.trans EX.out (Ext.trans (ext_drew _) EB))) (by first | (have hq := IsRowF.ext BR2.out EX.out; exact hq) | exact IsRowF.ext BR2.out (Ext.trans EX.out (Ext.trans (ext_drew _) EA)) | exact IsRowF.ext BR2.out (Ext.trans EX.out (Ext.trans (ext_drew _) EB))) hn1 hn2).mono ?_; rintro e wB ⟨bb, bc, rfl, YR, YL, _, EB⟩) | (go_at_call 41; refine (sAreWaves_any _ _ _ _ _ _ _ _ _ _ _ _ (z0.take n0) (r1.take n1) (r2.take n2) V _ (by first | exact own_hold YT | exact own_hold (Own.ext YT EB)) (by first | exact own_hold YR | exact own_hold (Own.ext YR EA)) (by first | exact own_hold YL | exact own_hold (Own.ext YL EA)) hn hn1 hn2 HV.out).mono ?_; rintro e wC ⟨rfl, EC⟩))
  have EK : Ext w2 wC := by first | exact Ext.trans (ext_drew _) (Ext.trans EA (Ext.trans EB EC)) | exact Ext.trans (ext_drew _) (Ext.trans EB (Ext.trans EA EC))
  clear A0 A1 A2 A3 Al B0 B1 Bl EA EB EC YT YR YL
  replace A := hid (Box.ext A.out EK)
  replace B := hid (Box.ext B.out EK)
  replace EX := hid (Ext.trans EX.out EK)
  have Z3 := hid (show w2.heap.size ≤ wC.heap.size from Ext.size EK)
  clear EK
  obtain ⟨A0, A1, A2, A3, Al⟩ := Box.cells4 A.out
  obtain ⟨B0, B1, Bl⟩ := Box.cells2 B.out
  go_wp2_with fail
  refine (toTube_any _ _ _ _ _ _ z0 _ (IsRowF.ext AR.out EX.out) hn).mono ?_
  rintro e w4 ⟨xb, rfl, XF, E0⟩
  have XO := hid XF
  replace A := hid (Box.ext A.out E0)
  replace B := hid (Box.ext B.out E0)
  replace EX := hid (Ext.trans EX.out E0)
  clear A0 A1 A2 A3 Al B0 B1 Bl E0 XF
  obtain ⟨A0, A1, A2, A3, Al⟩ := Box.cells4 A.out
  obtain ⟨B0, B1, Bl⟩ := Box.cells2 B.out
  go_wp2_with fail
  refine (toWaves_any _ _ _ _ _ _ r1 r2 _ (IsRowF.ext BR1.out (Ext.trans EX.out (ext_alloc _ _))) (IsRowF.ext BR2.out (Ext.trans EX.out (ext_alloc _ _))) hn1 hn2).mono ?_
  rintro e w5 ⟨rb, lb, rfl, RF, LF, _, E0⟩
  have XB := hid (Box.ext (box_new (w := w4) #[.slice (some ⟨xb, 0, none⟩) n0 n0, .float .f32 l0, .float .f32 t0, .float .f32 p0] 27) E0)
  have RO := hid RF
  have LO := hid LF
  have EK := Ext.trans (ext_alloc _ _) E0
  replace XO := hid (Own.ext XO.out EK)
  replace A := hid (Box.ext A.out EK)
  replace B := hid (Box.ext B.out EK)
  replace EX := hid (Ext.trans EX.out EK)
  clear A0 A1 A2 A3 Al B0 B1 Bl E0 EK RF LF
  obtain ⟨A0, A1, A2, A3, Al⟩ := Box.cells4 A.out
  obtain ⟨B0, B1, Bl⟩ := Box.cells2 B.out
  obtain ⟨X0, X1, X2, X3, Xl⟩ := Box.cells4 XB.out
  go_wp2_with fail
  refine (areWaves_any _ _ _ _ _ _ _ _ _ _ _ _ (z0.take n0) (r1.take n1) (r2.take n2) V _ (Holds.alloc (own_hold XO.out) _) (Holds.alloc (own_hold RO.out) _) (Holds.alloc (own_hold LO.out) _) hn hn1 hn2 HV.out).mono ?_
  rintro e w6 ⟨rfl, E0⟩
  have WB := hid (Box.ext (box_new (w := w5) #[.slice (some ⟨rb, 0, none⟩) n1 n1, .slice (some ⟨lb, 0, none⟩) n2 n2] 49) E0)
  have EK := Ext.trans (ext_alloc _ _) E0
  replace XO := hid (Own.ext XO.out EK)
  replace RO := hid (Own.ext RO.out EK)
  replace LO := hid (Own.ext LO.out EK)
  replace A := hid (Box.ext A.out EK)
  replace B := hid (Box.ext B.out EK)
  replace XB := hid (Box.ext XB.out EK)
  replace EX := hid (Ext.trans EX.out EK)
  clear A0 A1 A2 A3 Al B0 B1 Bl X0 X1 X2 X3 Xl E0 EK
  obtain ⟨A0, A1, A2, A3, Al⟩ := Box.cells4 A.out
  obtain ⟨B0, B1, Bl⟩ := Box.cells2 B.out
  obtain ⟨X0, X1, X2, X3, Xl⟩ := Box.cells4 XB.out
  obtain ⟨W0, W1, Wl⟩ := Box.cells2 WB.out
  go_wp2_with fail
  go_region_held3 (fun w' => (w'.cell? ⟨w.heap.size, 0, none⟩ = some (.slice a0 n0 c0) ∧ w'.cell? ⟨w.heap.size, 1, none⟩ = some (.float .f32 l0) ∧ w'.cell? ⟨w.heap.size, 2, none⟩ = some (.float .f32 t0) ∧ w'.cell? ⟨w.heap.size, 3, none⟩ = some (.float .f32 p0)) ∧ w'.cell? ⟨w4.heap.size, 0, none⟩ = some (.slice (some ⟨xb, 0, none⟩) n0 n0) ∧ w'.cell? ⟨w4.heap.size, 1, none⟩ = some (.float .f32 l0) ∧ w'.cell? ⟨w4.heap.size, 2, none⟩ = some (.float .f32 t0) ∧ w'.cell? ⟨w4.heap.size, 3, none⟩ = some (.float .f32 p0))
    (first | exact cells44 A.out XB.out | exact cells44 (Box.ext A.out E6) (Box.ext XB.out E6) | exact cells44 (Box.ext (Box.ext A.out E6) E7) (Box.ext (Box.ext XB.out E6) E7))
    (first | (go_at_call 17; refine (toTube_any _ _ _ _ _ _ z0 _ (by have hq := IsRowF.ext AR.out EX.out; exact hq) hn).mono ?_; rintro e wD ⟨b3, rfl, YO, E60⟩; have E6 : Ext w6 wD := (by first | exact Ext.trans (Ext.drew1 (Ext.drewN (Ext.refl _) _)) E60 | exact Ext.trans (Ext.drew1 (Ext.refl _)) E60); clear E60) | (go_at_call 19; refine (eqTube_yes _ _ _ _ _ _ _ _ _ _ _ _ _ _ (own_hold (Own.ext XO.out E6)) (own_hold YO) hn rfl rfl rfl rfl).mono ?_; rintro e w7 ⟨rfl, E7⟩))
  have EK := Ext.trans E6 E7
  replace RO := hid (Own.ext RO.out EK)
  replace LO := hid (Own.ext LO.out EK)
  replace A := hid (Box.ext A.out EK)
  replace B := hid (Box.ext B.out EK)
  replace WB := hid (Box.ext WB.out EK)
  replace EX := hid (Ext.trans EX.out EK)
  clear A0 A1 A2 A3 Al B0 B1 Bl X0 X1 X2 X3 Xl W0 W1 Wl E6 E7 EK YO XB XO
  obtain ⟨B0, B1, Bl⟩ := Box.cells2 B.out
  obtain ⟨W0, W1, Wl⟩ := Box.cells2 WB.out
  go_wp2_with fail
  go_region_held3 (fun w' => (w'.cell? ⟨w.heap.size + 1, 0, none⟩ = some (.slice u n1 d1) ∧ w'.cell? ⟨w.heap.size + 1, 1, none⟩ = some (.slice v n2 d2)) ∧ w'.cell? ⟨w5.heap.size, 0, none⟩ = some (.slice (some ⟨rb, 0, none⟩) n1 n1) ∧ w'.cell? ⟨w5.heap.size, 1, none⟩ = some (.slice (some ⟨lb, 0, none⟩) n2 n2))
    (first | exact cells22 B.out WB.out | exact cells22 (Box.ext B.out E6) (Box.ext WB.out E6) | exact cells22 (Box.ext (Box.ext B.out E6) E7) (Box.ext (Box.ext WB.out E6) E7))
    (first | (go_at_call 42; refine (toWaves_any _ _ _ _ _ _ r1 r2 _ (by have hq := IsRowF.ext BR1.out EX.out; exact hq) (by have hq := IsRowF.ext BR2.out EX.out; exact hq) hn1 hn2).mono ?_; rintro e wD ⟨b3, b4, rfl, YR, YL, _, E60⟩; have E6 : Ext w7 wD := (by first | exact Ext.trans (Ext.drew1 (Ext.drewN (Ext.refl _) _)) E60 | exact Ext.trans (Ext.drew1 (Ext.refl _)) E60); clear E60) | (go_at_call 37; refine (eqWaves_yes _ _ _ _ _ _ _ _ _ _ _ _ _ _ _ (own_hold (Own.ext RO.out E6)) (own_hold (Own.ext LO.out E6)) (own_hold YR) (own_hold YL) hn1 hn2 rfl rfl).mono ?_; rintro e w8 ⟨rfl, E7⟩))
  have EK := Ext.trans E6 E7
  replace EX := hid (Ext.trans EX.out EK)
  clear B0 B1 Bl W0 W1 Wl E6 E7 EK YR YL
  go_wp2
  go_ret
  exact ⟨rfl, EX.out⟩
end Go.Proofs.Ytogjehlepdapoab

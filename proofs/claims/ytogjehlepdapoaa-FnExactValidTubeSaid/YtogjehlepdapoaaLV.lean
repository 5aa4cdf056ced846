/- The law on valid tubes. -/
import Derived.Test.YtogjehlepdapoaaT3
import Derived.Deep.RegionHeld3
namespace Go.Proofs.Ytogjehlepdapoaa
open Go.RowKit Flt
set_option linter.unusedVariables false

set_option maxHeartbeats 1000000 in
theorem FnExactValidTube_walk (a0 : Option Addr) (n0 c0 : Nat) (z0 : List Nat) (l0 t0 p0 : Nat) (w : World) (w0 : IsRowF .f32 w a0 n0 c0 z0) (wl : (Lit.float .f32 l0).wf = true) (wt : (Lit.float .f32 t0).wf = true) (wp : (Lit.float .f32 p0).wf = true) :
    Calls Try.prog 6 #[.agg #[.slice a0 n0 c0, .float .f32 l0, .float .f32 t0, .float .f32 p0]] w fun e w' => e = .returned (.bool true) ∧ Below w.heap.size w w' := by
  clear wl wt wp
  have hmx : n0 ≤ maxLen := row_max w0
  by_cases hbig : 1048576 < n0
  · go_enter Try.func6, Try.ntmps6
    go_wp2_with fail
    refine (szTube_no _ _ _ _ _ _ _ hmx (by omega) (by omega) _).mono ?_
    rintro e w1 ⟨rfl, E1⟩
    have EX := hid (Ext.trans (ext_alloc _ _) E1)
    clear E1
    go_wp2
    go_ret
    exact ⟨rfl, EX.out⟩
  · have hn : n0 ≤ 1048576 := by omega
    have hk : (n0 : Int) ≤ 1048576 := by omega
    have hk2 : ¬ ((1048576 : Int) - (n0 : Int) < 0) := by omega
    have AR := hid w0
    obtain ⟨V, hV⟩ : ∃ V, tubeC ((z0.take n0).map (cls .f32)) (cls .f32 l0) (cls .f32 t0) (cls .f32 p0) = V := ⟨_, rfl⟩
    have HV := hid hV
    clear w0 hmx hbig hV
    go_enter Try.func6, Try.ntmps6
    go_wp2_with fail
    refine (szTube_yes _ _ _ _ _ _ _ hk (by omega) _).mono ?_
    rintro e w1 ⟨rfl, E1⟩
    have EX := hid (Ext.trans (ext_alloc _ _) E1)
    have AB := hid (Box.ext (box_new _ _) E1)
    have AR1 := hid (IsRowF.ext AR.out EX.out)
    clear E1
    obtain ⟨d0, d1, d2, d3, dl⟩ := Box.cells4 AB.out
    go_wp2_with fail
    refine (toTube_any _ _ _ _ _ _ z0 _ AR1.out hn).mono ?_
    rintro e w2 ⟨b1, rfl, XO, E2⟩
    have X1 := hid XO
    have AB := hid (Box.ext AB.out E2)
    have EX := hid (Ext.trans EX.out E2)
    clear XO E2 d0 d1 d2 d3 dl
    obtain ⟨d0, d1, d2, d3, dl⟩ := Box.cells4 AB.out
    go_wp2_with fail
    refine (sValidTube_any _ _ _ _ _ _ (z0.take n0) _ (own_hold X1.out) hn).mono ?_
    rintro e w3 ⟨rfl, m3, rfl⟩
    rw [HV.out]
    go_wp2_with fail
    refine (toTube_any _ _ _ _ _ _ z0 _ (IsRowF.ext AR.out (Ext.trans EX.out (Ext.drewN (ext_alloc _ _) _))) hn).mono ?_
    rintro e w4 ⟨b2, rfl, XO, E4⟩
    have X2 := hid XO
    have E5 := Ext.trans (Ext.drewN (ext_alloc _ _) _) E4
    have AB := hid (Box.ext AB.out E5)
    have EX := hid (Ext.trans EX.out E5)
    clear XO E4 E5 d0 d1 d2 d3 dl X1
    obtain ⟨d0, d1, d2, d3, dl⟩ := Box.cells4 AB.out
    go_wp2_with fail
    refine (validTube_any _ _ _ _ _ _ (z0.take n0) _ (Holds.alloc (own_hold X2.out) _) hn).mono ?_
    rintro e w5 ⟨rfl, m5, rfl⟩
    rw [HV.out]
    have XB := hid (Box.alloc (box_new (w := w4) #[.slice (some ⟨b2, 0, none⟩) n0 n0, .float .f32 l0, .float .f32 t0, .float .f32 p0] 27) (.cells #[.slice (some ⟨b2, 0, none⟩) n0 n0, .float .f32 l0, .float .f32 t0, .float .f32 p0] 27))
    go_wp2_with fail
    have AR2 := hid (IsRowF.ext AR.out (Ext.trans EX.out (Ext.drewN (Ext.alloc (ext_alloc w4 (.cells #[.slice (some ⟨b2, 0, none⟩) n0 n0, .float .f32 l0, .float .f32 t0, .float .f32 p0] 27)) (.cells #[.slice (some ⟨b2, 0, none⟩) n0 n0, .float .f32 l0, .float .f32 t0, .float .f32 p0] 27)) m5)))
    have EX2 := hid (Ext.trans EX.out (Ext.drewN (Ext.alloc (ext_alloc w4 (.cells #[.slice (some ⟨b2, 0, none⟩) n0 n0, .float .f32 l0, .float .f32 t0, .float .f32 p0] 27)) (.cells #[.slice (some ⟨b2, 0, none⟩) n0 n0, .float .f32 l0, .float .f32 t0, .float .f32 p0] 27)) m5))
    have AB2 := Box.drewN (Box.alloc (Box.alloc AB.out (.cells #[.slice (some ⟨b2, 0, none⟩) n0 n0, .float .f32 l0, .float .f32 t0, .float .f32 p0] 27)) (.cells #[.slice (some ⟨b2, 0, none⟩) n0 n0, .float .f32 l0, .float .f32 t0, .float .f32 p0] 27)) m5
    have XB2 := Box.drewN XB.out m5
    have XO2 := hid (Own.drewN (Own.alloc (Own.alloc X2.out (.cells #[.slice (some ⟨b2, 0, none⟩) n0 n0, .float .f32 l0, .float .f32 t0, .float .f32 p0] 27)) (.cells #[.slice (some ⟨b2, 0, none⟩) n0 n0, .float .f32 l0, .float .f32 t0, .float .f32 p0] 27)) m5)
    clear AR EX AB XB X2 d0 d1 d2 d3 dl
    obtain ⟨W5, hW5⟩ : ∃ W5, ((w4.alloc (.cells #[.slice (some ⟨b2, 0, none⟩) n0 n0, .float .f32 l0, .float .f32 t0, .float .f32 p0] 27)).alloc (.cells #[.slice (some ⟨b2, 0, none⟩) n0 n0, .float .f32 l0, .float .f32 t0, .float .f32 p0] 27)).drewN m5 = W5 := ⟨_, rfl⟩
    rw [hW5] at AR2 EX2 AB2 XB2 XO2 ⊢
    clear hW5
    have SL : Below w.heap.size w W5 := EX2.out
    go_region_held3 (fun w' => (w'.cell? ⟨w.heap.size, 0, none⟩ = some (.slice a0 n0 c0) ∧ w'.cell? ⟨w.heap.size, 1, none⟩ = some (.float .f32 l0) ∧ w'.cell? ⟨w.heap.size, 2, none⟩ = some (.float .f32 t0) ∧ w'.cell? ⟨w.heap.size, 3, none⟩ = some (.float .f32 p0)) ∧ w'.cell? ⟨w4.heap.size, 0, none⟩ = some (.slice (some ⟨b2, 0, none⟩) n0 n0) ∧ w'.cell? ⟨w4.heap.size, 1, none⟩ = some (.float .f32 l0) ∧ w'.cell? ⟨w4.heap.size, 2, none⟩ = some (.float .f32 t0) ∧ w'.cell? ⟨w4.heap.size, 3, none⟩ = some (.float .f32 p0))
      (first | exact cells44 AB2 XB2 | exact cells44 (Box.ext AB2 E6) (Box.ext XB2 E6) | exact cells44 (Box.ext (Box.ext AB2 E6) E7) (Box.ext (Box.ext XB2 E6) E7))
      (first | (go_at_call 51; refine (toTube_any _ _ _ _ _ _ z0 _ (by exact AR2.out) hn).mono ?_; rintro e w6 ⟨b3, rfl, YO, E60⟩; have E6 := Ext.trans (ext_drew W5) E60; clear E60) | (go_at_call 53; refine (eqTube_yes _ _ _ _ _ _ _ _ _ _ _ _ _ _ (own_hold (Own.ext XO2.out E6)) (own_hold YO) hn rfl rfl rfl rfl).mono ?_; rintro e w7 ⟨rfl, E7⟩))
    have EXX := hid (Ext.trans EX2.out (Ext.trans E6 E7))
    clear E6 E7 YO SL
    go_wp2
    go_ret
    exact ⟨rfl, EXX.out⟩
end Go.Proofs.Ytogjehlepdapoaa

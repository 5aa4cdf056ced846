/- The volume of a tube. -/
import Derived.Test.YtogjehlepdapoabT4
import Derived.Test.YtogjehlepdapoabSum
namespace Go.Proofs.Ytogjehlepdapoab
open Go.RowKit Flt

def finR (x : Option Nat) : Option Nat := if fin32 x then x else some 0
def volR (zs : List Nat) (l t p : Option Nat) : Option Nat × Bool := if tubeC (zs.map (cls .f32)) l t p then (finR (sumF zs), fin32 (sumF zs)) else (some 0, false)
theorem cls0 : Is .f32 0 (some 0) := is_const (by decide)
theorem finiteOnly_any (b : Nat) (X : Option Nat) (hX : Is .f32 b X) (w : World) : Calls Try.prog 68 #[.float .f32 b] w fun e w' => ∃ r, e = .returned (.tuple #[.float .f32 r, .bool (fin32 X)]) ∧ Is .f32 r (finR X) ∧ ∃ m, w' = w.drewN m := by
  have HX := hid hX.out
  cases hf : fin32 X
  · have HF := hid (show finR X = some 0 from by unfold finR; rw [hf]; rfl)
    clear hX
    go_enter Try.func68, Try.ntmps68
    go_wp2_with (go_at_call 92; refine (isFinite_any _ _).mono ?_; rintro e w' ⟨rfl, m, rfl⟩; simp only [HX.out, hf])
    go_ret2
    exact ⟨_, rfl, by rw [HF.out]; exact cls0, _, rfl⟩
  · have HF := hid (show finR X = X from by unfold finR; rw [hf]; rfl)
    clear hX
    go_enter Try.func68, Try.ntmps68
    go_wp2_with (go_at_call 92; refine (isFinite_any _ _).mono ?_; rintro e w' ⟨rfl, m, rfl⟩; simp only [HX.out, hf])
    go_ret2
    exact ⟨_, rfl, by rw [HF.out]; exact HX.out, _, rfl⟩
theorem l02Number_any (b : Nat) (X : Option Nat) (hX : Is .f32 b X) (w : World) : Calls Try.prog 66 #[.float .f32 b] w fun e w' => ∃ r, e = .returned (.tuple #[.float .f32 r, .bool (fin32 X)]) ∧ Is .f32 r (finR X) ∧ ∃ m, w' = w.drewN m := by
  have HX := hid hX.out
  cases hf : fin32 X
  · have HF := hid (show finR X = some 0 from by unfold finR; rw [hf]; rfl)
    clear hX
    go_enter Try.func66, Try.ntmps66
    go_wp2_with (go_at_call 80; refine (l01Finite_any _ _).mono ?_; rintro e w' ⟨rfl, m, rfl⟩; simp only [HX.out, hf])
    go_ret2
    exact ⟨_, rfl, by rw [HF.out]; exact cls0, _, rfl⟩
  · have HF := hid (show finR X = X from by unfold finR; rw [hf]; rfl)
    clear hX
    go_enter Try.func66, Try.ntmps66
    go_wp2_with (go_at_call 80; refine (l01Finite_any _ _).mono ?_; rintro e w' ⟨rfl, m, rfl⟩; simp only [HX.out, hf])
    go_ret2
    exact ⟨_, rfl, by rw [HF.out]; exact HX.out, _, rfl⟩
theorem volume_any (a : Option Addr) (n c l t p : Nat) (zs : List Nat) (R : Option Nat) (O : Bool) (w : World) (h : Holds .f32 w a n zs) (hn : n ≤ 1048576) (hR : volR zs (cls .f32 l) (cls .f32 t) (cls .f32 p) = (R, O)) :
    Calls Try.prog 23 #[.agg #[.slice a n c, .float .f32 l, .float .f32 t, .float .f32 p]] w fun e w' => ∃ r, e = .returned (.tuple #[.float .f32 r, .bool O]) ∧ Is .f32 r R ∧ Ext w w' := by
  have HH := hid h
  have HN := hid hn
  have HL := hid h.1
  cases hV : tubeC (zs.map (cls .f32)) (cls .f32 l) (cls .f32 t) (cls .f32 p)
  · have e := hR
    unfold volR at e
    rw [hV] at e
    simp only [Bool.false_eq_true, if_false, Prod.mk.injEq] at e
    obtain ⟨rfl, rfl⟩ := e
    clear h hn hR
    go_enter Try.func23, Try.ntmps23
    go_wp2_with fail
    refine (validTube_any _ _ _ _ _ _ zs _ (Holds.alloc HH.out _) HN.out).mono ?_
    rintro e w1 ⟨rfl, m, rfl⟩
    simp only [hV]
    go_wp2_with fail
    go_ret2
    exact ⟨_, rfl, cls0, by (repeat with_reducible (first | exact Ext.refl _ | exact ext_alloc _ _ | refine Ext.drewN ?_ _ | refine Ext.drew1 ?_ | refine Ext.set ?_ (by dsimp only; omega) _ | refine Ext.alloc ?_ _))⟩
  · have e := hR
    unfold volR at e
    rw [hV] at e
    simp only [if_true, Prod.mk.injEq] at e
    obtain ⟨rfl, rfl⟩ := e
    have H16 := hid (tube_len hV).2
    clear h hn hR
    go_enter Try.func23, Try.ntmps23
    go_wp2_with fail
    refine (validTube_any _ _ _ _ _ _ zs _ (Holds.alloc HH.out _) HN.out).mono ?_
    rintro e w1 ⟨rfl, m, rfl⟩
    simp only [hV]
    go_wp2_with fail
    refine (sum_yes _ _ _ zs _ (Holds.drew (Holds.alloc (Holds.alloc HH.out _) _) _) (by have h1 := H16.out; have h2 := HL.out; simp at h1; omega)).mono ?_
    rintro e w2 ⟨r, rfl, hr, m2, rfl⟩
    go_wp2_with fail
    refine (finiteOnly_any _ (sumF zs) hr.out _).mono ?_
    rintro e w3 ⟨r2, rfl, hr2, m3, rfl⟩
    go_wp2_with fail
    go_ret2
    exact ⟨_, rfl, hr2, by (repeat with_reducible (first | exact Ext.refl _ | exact ext_alloc _ _ | refine Ext.drewN ?_ _ | refine Ext.drew1 ?_ | refine Ext.set ?_ (by dsimp only; omega) _ | refine Ext.alloc ?_ _))⟩
set_option maxHeartbeats 1000000 in
theorem sVolume_any (a : Option Addr) (n c l t p : Nat) (zs : List Nat) (R : Option Nat) (O : Bool) (w : World) (h : Holds .f32 w a n zs) (hn : n ≤ 1048576) (hR : volR zs (cls .f32 l) (cls .f32 t) (cls .f32 p) = (R, O)) :
    Calls Try.prog 22 #[.agg #[.slice a n c, .float .f32 l, .float .f32 t, .float .f32 p]] w fun e w' => ∃ r, e = .returned (.tuple #[.float .f32 r, .bool O]) ∧ Is .f32 r R ∧ Ext w w' := by
  have HH := hid h
  have HN := hid hn
  have HL := hid h.1
  cases hV : tubeC (zs.map (cls .f32)) (cls .f32 l) (cls .f32 t) (cls .f32 p)
  · have e := hR
    unfold volR at e
    rw [hV] at e
    simp only [Bool.false_eq_true, if_false, Prod.mk.injEq] at e
    obtain ⟨rfl, rfl⟩ := e
    clear h hn hR
    go_enter Try.func22, Try.ntmps22
    go_wp2_with fail
    refine (l02Is_any _ _ _ _ _ _ _ zs _ (box_new _ _) (Holds.alloc HH.out _) HN.out).mono ?_
    rintro e w1 ⟨rfl, m, rfl⟩
    simp only [hV]
    go_wp2_with fail
    go_ret2
    exact ⟨_, rfl, cls0, by (repeat with_reducible (first | exact Ext.refl _ | exact ext_alloc _ _ | refine Ext.drewN ?_ _ | refine Ext.drew1 ?_ | refine Ext.set ?_ (by dsimp only; omega) _ | refine Ext.alloc ?_ _))⟩
  · have e := hR
    unfold volR at e
    rw [hV] at e
    simp only [if_true, Prod.mk.injEq] at e
    obtain ⟨rfl, rfl⟩ := e
    have H16 := hid (tube_len hV)
    obtain ⟨_, hc0⟩ := h
    rcases hc0 with h0 | ⟨b, off, rfl, hb, hc⟩
    · exfalso
      have h1 := H16.out.1
      have h2 := HL.out
      simp at h1; omega
    have HC := hid hc
    have HB := hid hb
    clear hn hR hc hb
    go_enter Try.func22, Try.ntmps22
    go_wp2_with fail
    refine (l02Is_any _ _ _ _ _ _ _ zs _ (box_new _ _) (Holds.alloc HH.out _) HN.out).mono ?_
    rintro e w1 ⟨rfl, m, rfl⟩
    simp only [hV]
    go_wp2_with fail
    go_loopw [4, 5] (fun s i wr => ∃ k r : Nat, k ≤ n ∧ i = .int .i64 k ∧ s = .float .f32 r ∧ Is .f32 r (sumF (zs.take k)) ∧ Hid (∃ m, wr = (w.alloc (.cells #[.slice (some ⟨b, off, none⟩) n c, .float .f32 l, .float .f32 t, .float .f32 p] 27)).drewN m)) (fun _ i _ => n - (intOf i).toNat)
    case atStart => exact ⟨0, 0, Nat.zero_le _, rfl, rfl, cls0, _, rfl⟩
    case round =>
      obtain ⟨k, r, hk, rfl, rfl, hr, hw⟩ := hrel
      have hn2 : n ≤ 1048576 := HN.out
      have HR := hid hr.out
      clear hr
      have hbx : Box wr w.heap.size #[.slice (some ⟨b, off, none⟩) n c, .float .f32 l, .float .f32 t, .float .f32 p] := by obtain ⟨m, hm⟩ := hw.out; rw [hm]; exact box_new _ _
      obtain ⟨d0, d1, d2, d3, dl⟩ := Box.cells4 hbx
      clear hbx
      by_cases hlt : k < n
      · have e1 : wr.cell? ⟨b, off + k, none⟩ = some (.float .f32 (zs.getD k 0)) := by obtain ⟨m, hm⟩ := hw.out; rw [hm]; exact (Below.cell (ext_alloc w _) (p := ⟨b, off + k, none⟩) HB.out).trans (HC.out k hlt)
        have hs := hid (take_snoc_getD zs k (by rw [HL.out]; exact hlt))
        generalize zs.getD k 0 = x at e1 hs
        go_wp2_with (refine wpList_farith rfl rfl rfl rfl rfl ?_; intro r2 m2 hr2 hrw2)
        go_roundw
        case rel => exact ⟨k + 1, r2, by omega, by go_num, rfl, by show _ = _; rw [hs.out, sumF_snoc, hr2.out, HR.out], by obtain ⟨m, hm⟩ := hw.out; exact ⟨m + m2, by rw [hm, World.drewN_drewN]⟩⟩
        case measure => simp [intOf]; omega
      · have hkn : k = n := by omega
        subst hkn
        have e2 := hid (show zs.take k = zs from List.take_of_length_le (by rw [HL.out]; exact Nat.le_refl _))
        go_wp2_with fail
        refine (l02Number_any _ (sumF zs) (by show _ = _; rw [HR.out, e2.out]) _).mono ?_
        rintro e w3 ⟨r2, rfl, hr2, m3, rfl⟩
        go_wp2_with fail
        go_ret2
        exact ⟨_, rfl, hr2, by obtain ⟨m, hm⟩ := hw.out; rw [hm]; (repeat with_reducible (first | exact Ext.refl _ | exact ext_alloc _ _ | refine Ext.drewN ?_ _ | refine Ext.drew1 ?_ | refine Ext.set ?_ (by dsimp only; omega) _ | refine Ext.alloc ?_ _))⟩
end Go.Proofs.Ytogjehlepdapoab

/- How loud a sound is. -/
import Derived.Test.YtkmgkcbbbaioiaaV9
import Derived.Test.YtkmgkcbbbaioiaaDot
import Derived.Test.YtkmgkcbbbaioiaaRoot
namespace Go.Proofs.Ytkmgkcbbbaioiaa
open Go.RowKit Flt
set_option linter.unusedVariables false

def loudX (zs : List Nat) : Option Nat := fnar (fsqrt (fwide (fop .quo .f32 (dotF zs zs zs.length) (some (floatOfInt .f32 (zs.length : Int))))))
def loudR (zs : List Nat) : Option Nat × Bool := if soundB (zs.map (cls .f32)) && decide (zs.length ≠ 0) then (finR (loudX zs), fin32 (loudX zs)) else (some 0, false)
set_option maxHeartbeats 2000000 in
set_option maxRecDepth 100000 in
theorem loud_any (a : Option Addr) (n c : Nat) (zs : List Nat) (R : Option Nat) (O : Bool) (w : World) (h : Holds .f32 w a n zs) (hn : n ≤ 1048576) (hR : loudR zs = (R, O)) :
    Calls Try.prog 40 #[.slice a n c] w fun e w' => ∃ r, e = .returned (.tuple #[.float .f32 r, .bool O]) ∧ Is .f32 r R ∧ Ext w w' := by
  have H1 := hid h
  have HN := hid hn
  have HL := hid h.1
  have HR := hid hR
  clear h hn hR
  cases hA : soundB (zs.map (cls .f32))
  · have e : O = false ∧ R = some 0 := by have := HR.out; unfold loudR at this; rw [hA] at this; simpa [eq_comm, and_comm] using this
    obtain ⟨rfl, rfl⟩ := e
    go_enter Try.func40, Try.ntmps40
    go_wp2_with (go_at_call 30; refine (isSound_drew a n c zs _ _ H1.out HN.out hA).mono ?_; rintro e w' ⟨rfl, m1, rfl⟩)
    go_returns
    refine ⟨_, rfl, cls0, ?_⟩
    (repeat with_reducible (first | exact Ext.refl _ | exact ext_alloc _ _ | refine Ext.drewN ?_ _ | refine Ext.drew1 ?_ | refine Ext.set ?_ (by dsimp only; omega) _ | refine Ext.alloc ?_ _))
  by_cases h0 : n = 0
  · have e : O = false ∧ R = some 0 := by have := HR.out; unfold loudR at this; rw [hA, HL.out] at this; simpa [h0, eq_comm, and_comm] using this
    obtain ⟨rfl, rfl⟩ := e
    subst h0
    go_enter Try.func40, Try.ntmps40
    go_wp2_with (go_at_call 30; refine (isSound_drew a 0 c zs _ _ H1.out HN.out hA).mono ?_; rintro e w' ⟨rfl, m1, rfl⟩)
    go_returns
    refine ⟨_, rfl, cls0, ?_⟩
    (repeat with_reducible (first | exact Ext.refl _ | exact ext_alloc _ _ | refine Ext.drewN ?_ _ | refine Ext.drew1 ?_ | refine Ext.set ?_ (by dsimp only; omega) _ | refine Ext.alloc ?_ _))
  have hl : n ≤ 256 := by have := sound_len hA; have := HL.out; simp at *; omega
  obtain ⟨X, hX⟩ : ∃ X, loudX zs = X := ⟨_, rfl⟩
  have e : O = fin32 X ∧ R = finR X := by have := HR.out; unfold loudR at this; rw [hA, HL.out, hX] at this; simpa [h0, eq_comm, and_comm] using this
  obtain ⟨rfl, rfl⟩ := e
  have HX : Hid (fnar (fsqrt (fwide (fop .quo .f32 (dotF zs zs n) (some (floatOfInt .f32 (n : Int)))))) = X) := by have := hX; unfold loudX at this; rw [HL.out] at this; exact this
  have hne : ((n : Int) == 0) = false := by simp; omega
  clear hX HR h0
  go_enter Try.func40, Try.ntmps40
  go_wp2_with (first
    | (go_at_call 30; refine (isSound_drew a n c zs _ _ H1.out HN.out hA).mono ?_; rintro e w' ⟨rfl, m1, rfl⟩)
    | (go_at_call 66; refine (dot_yes a a n c c zs zs _ (Holds.ext H1.out (by (repeat with_reducible (first | exact Ext.refl _ | exact ext_alloc _ _ | refine Ext.drewN ?_ _ | refine Ext.drew1 ?_ | refine Ext.set ?_ (by dsimp only; omega) _ | refine Ext.alloc ?_ _)))) (Holds.ext H1.out (by (repeat with_reducible (first | exact Ext.refl _ | exact ext_alloc _ _ | refine Ext.drewN ?_ _ | refine Ext.drew1 ?_ | refine Ext.set ?_ (by dsimp only; omega) _ | refine Ext.alloc ?_ _)))) hl).mono ?_; rintro e w' ⟨r, rfl, hr, m2, rfl⟩)
    | (refine wpList_fa rfl rfl rfl rfl rfl (show Is .f32 _ (dotF zs zs n) from hr.out) (is_int _) ?_; intro r2 m3 hr2 hrw2)
    | (go_at_call 68; refine (root_any _ _).mono ?_; rintro e w' ⟨r3, rfl, hr3, m4, rfl⟩; rw [hr2.out, HX.out] at hr3)
    | (go_at_call 67; refine (finiteOnly_any _ X hr3 _).mono ?_; rintro e w' ⟨r4, rfl, hr4, m5, rfl⟩))
  go_returns
  refine ⟨_, rfl, hr4, ?_⟩
  (repeat with_reducible (first | exact Ext.refl _ | exact ext_alloc _ _ | refine Ext.drewN ?_ _ | refine Ext.drew1 ?_ | refine Ext.set ?_ (by dsimp only; omega) _ | refine Ext.alloc ?_ _))
set_option maxHeartbeats 2000000 in
set_option maxRecDepth 100000 in
theorem sLoud_any (a : Option Addr) (n c : Nat) (zs : List Nat) (R : Option Nat) (O : Bool) (w : World) (h : Holds .f32 w a n zs) (hn : n ≤ 1048576) (hR : loudR zs = (R, O)) :
    Calls Try.prog 39 #[.slice a n c] w fun e w' => ∃ r, e = .returned (.tuple #[.float .f32 r, .bool O]) ∧ Is .f32 r R ∧ Ext w w' := by
  have H1 := hid h
  have HN := hid hn
  have HL := hid h.1
  have HR := hid hR
  clear h hn hR
  cases hA : soundB (zs.map (cls .f32))
  · have e : O = false ∧ R = some 0 := by have := HR.out; unfold loudR at this; rw [hA] at this; simpa [eq_comm, and_comm] using this
    obtain ⟨rfl, rfl⟩ := e
    go_enter Try.func39, Try.ntmps39
    go_wp2_with (go_at_call 56; refine (l03Sound_drew a n c zs _ _ H1.out HN.out hA).mono ?_; rintro e w' ⟨rfl, m1, rfl⟩)
    go_returns
    refine ⟨_, rfl, cls0, ?_⟩
    (repeat with_reducible (first | exact Ext.refl _ | exact ext_alloc _ _ | refine Ext.drewN ?_ _ | refine Ext.drew1 ?_ | refine Ext.set ?_ (by dsimp only; omega) _ | refine Ext.alloc ?_ _))
  by_cases h0 : n = 0
  · have e : O = false ∧ R = some 0 := by have := HR.out; unfold loudR at this; rw [hA, HL.out] at this; simpa [h0, eq_comm, and_comm] using this
    obtain ⟨rfl, rfl⟩ := e
    subst h0
    go_enter Try.func39, Try.ntmps39
    go_wp2_with (go_at_call 56; refine (l03Sound_drew a 0 c zs _ _ H1.out HN.out hA).mono ?_; rintro e w' ⟨rfl, m1, rfl⟩)
    go_returns
    refine ⟨_, rfl, cls0, ?_⟩
    (repeat with_reducible (first | exact Ext.refl _ | exact ext_alloc _ _ | refine Ext.drewN ?_ _ | refine Ext.drew1 ?_ | refine Ext.set ?_ (by dsimp only; omega) _ | refine Ext.alloc ?_ _))
  have hl : n ≤ 256 := by have := sound_len hA; have := HL.out; simp at *; omega
  obtain ⟨X, hX⟩ : ∃ X, loudX zs = X := ⟨_, rfl⟩
  have e : O = fin32 X ∧ R = finR X := by have := HR.out; unfold loudR at this; rw [hA, HL.out, hX] at this; simpa [h0, eq_comm, and_comm] using this
  obtain ⟨rfl, rfl⟩ := e
  have HX : Hid (fnar (fsqrt (fwide (fop .quo .f32 (dotF zs zs n) (some (floatOfInt .f32 (n : Int)))))) = X) := by have := hX; unfold loudX at this; rw [HL.out] at this; exact this
  have hne : ((n : Int) == 0) = false := by simp; omega
  clear hX HR h0
  go_enter Try.func39, Try.ntmps39
  go_wp2_with (go_at_call 56; refine (l03Sound_drew a n c zs _ _ H1.out HN.out hA).mono ?_; rintro e w' ⟨rfl, m1, rfl⟩)
  go_loopw [4, 16] (fun s i wr => ∃ k r : Nat, k ≤ n ∧ i = .int .i64 k ∧ s = .float .f32 r ∧ Hid (Is .f32 r (dotF zs zs k)) ∧ Hid (∃ m, wr = w.drewN m)) (fun _ i _ => n - (intOf i).toNat)
  case atStart => exact ⟨0, 0, Nat.zero_le _, rfl, rfl, hid (is_const (by decide)), m1, rfl⟩
  case round =>
    obtain ⟨k, r0, hk, rfl, rfl, hr0, hw⟩ := hrel
    by_cases hlt : k < n
    · have E0 : Ext w wr := by obtain ⟨q, hq⟩ := hw.out; rw [hq]; exact Ext.drewN (Ext.refl _) _
      obtain ⟨b, off, rfl, e1⟩ := cell_at H1.out E0 k hlt
      have hs : Hid (dotF zs zs (k + 1) = fop .add .f32 (dotF zs zs k) (fop .mul .f32 (cls .f32 (zs.getD k 0)) (cls .f32 (zs.getD k 0)))) := rfl
      generalize zs.getD k 0 = x at e1 hs
      have i0 : (0 : Int) ≤ (k : Int) := by omega
      have i1 : (k : Int) < (n : Int) := by omega
      have HR0 : Is .f32 r0 (dotF zs zs k) := hr0.out
      clear E0
      go_wp2
      refine wp_region_many (by kernel_rfl) (by kernel_rfl) (by kernel_rfl) ?_
      repeat (with_reducible refine wpM_cons ?_; first
        | (refine wpM_fa rfl rfl rfl rfl rfl (by first | assumption | exact is_self _ _) (by first | assumption | exact is_self _ _) ?_; intro r hr hrw; simp only [Act.put, List.setIfInBounds_toArray, List.set_cons_succ, List.set_cons_zero])
        | (refine wpM_quiet rfl (fun K hK => ?_); go_simp; refine hK _ ?_; clear hK K))
      with_reducible refine wpM_nil ?_
      intro _ hw'
      obtain ⟨nq, hw''⟩ := hw'
      subst hw''
      go_wp2
      go_roundw
      case rel => exact ⟨k + 1, r, by omega, by go_num, rfl, by rw [hs.out]; exact hid hr, by obtain ⟨m, hm⟩ := hw.out; exact ⟨m + nq, by rw [hm, World.drewN_drewN]⟩⟩
      case measure => simp [intOf]; omega
    · have hkn : k = n := by omega
      subst hkn
      have HR0 : Is .f32 r0 (dotF zs zs k) := hr0.out
      go_wp2_with (first
        | (refine wpList_fa rfl rfl rfl rfl rfl HR0 (is_int _) ?_; intro r2 m3 hr2 hrw2)
        | (go_at_call 65; refine (l01Sqrt_any _ _).mono ?_; rintro e w' ⟨r3, rfl, hr3, m4, rfl⟩; rw [hr2.out, HX.out] at hr3)
        | (go_at_call 64; refine (l02Number_any _ X hr3 _).mono ?_; rintro e w' ⟨r4, rfl, hr4, m5, rfl⟩))
      go_returns
      refine ⟨_, rfl, hr4, ?_⟩
      obtain ⟨m, hm⟩ := hw.out
      rw [hm]
      (repeat with_reducible (first | exact Ext.refl _ | exact ext_alloc _ _ | refine Ext.drewN ?_ _ | refine Ext.drew1 ?_ | refine Ext.set ?_ (by dsimp only; omega) _ | refine Ext.alloc ?_ _))
end Go.Proofs.Ytkmgkcbbbaioiaa

/- Sums over lists, number by number. -/
import Derived.Test.YtpmjiabllmomjaaV17
import Derived.Test.YtpmjiabllmomjaaFinOp
namespace Go.Proofs.Ytpmjiabllmomjaa
open Go.RowKit Flt
set_option linter.unusedVariables false

/-- a sum, number by number -/
def sumK (C : Nat → Option Nat) : Nat → Option Nat
  | 0 => some 0
  | k + 1 => fop .add .f32 (sumK C k) (C k)
theorem sumK_congr {C D : Nat → Option Nat} : ∀ {n : Nat}, (∀ k, k < n → C k = D k) → sumK C n = sumK D n
  | 0, _ => rfl
  | n + 1, h => by unfold sumK; rw [sumK_congr (fun k hk => h k (by omega)), h n (Nat.lt_succ_self _)]
/-- a number, or an infinity, and a finite one make no not-a-number -/
theorem add_some {X Y : Option Nat} (hX : ∃ b, X = some b ∧ nanW .f32 b = false) (hY : fin32 Y = true) (hN : ∀ b, Y = some b → nanW .f32 b = false) : ∃ b, fop .add .f32 X Y = some b ∧ nanW .f32 b = false := by
  obtain ⟨x, rfl, hx⟩ := hX
  cases Y with
  | none => simp [fin32] at hY
  | some y =>
    have hy : (FloatKind.f32.format.read y).isInfinity = false := by simpa [fin32] using hY
    have hyn := hN y rfl
    rw [← read_nan] at hx hyn
    have key : ∃ d, (FloatKind.f32.format.read x).sum (FloatKind.f32.format.read y) = some d := by
      generalize FloatKind.f32.format.read x = p at hx
      generalize FloatKind.f32.format.read y = q at hy hyn
      cases q with
      | nan s t => simp [Ieee.Datum.isNaN] at hyn
      | infinity s => simp [Ieee.Datum.isInfinity] at hy
      | number s m e =>
        cases p with
        | nan s t => simp [Ieee.Datum.isNaN] at hx
        | infinity s => exact ⟨_, rfl⟩
        | number s m e => exact ⟨_, rfl⟩
    obtain ⟨d, hd⟩ := key
    have hb : floatBits .add .f32 x y = some (FloatKind.f32.format.write d) := by
      simp only [floatBits, Ieee.Format.add, hd]; rfl
    exact ⟨_, hb, floatBits_num hb⟩
theorem sumK_some {C : Nat → Option Nat} (hC : ∀ k b, C k = some b → nanW .f32 b = false) : ∀ {n : Nat}, (∀ k, k < n → fin32 (C k) = true) → ∃ b, sumK C n = some b ∧ nanW .f32 b = false
  | 0, _ => ⟨0, rfl, by decide⟩
  | n + 1, h => add_some (sumK_some hC fun k hk => h k (by omega)) (h n (Nat.lt_succ_self _)) (hC n)

theorem isCount_yes (n : Int) (h : 1 ≤ n ∧ n ≤ 256) (w : World) : Calls Try.prog 49 #[.int .i64 n] w fun e w' => e = .returned (.bool true) ∧ w = w' := by
  obtain ⟨h1, h2⟩ := h
  go_enter Try.func49, Try.ntmps49
  go_wp2
  go_ret
  exact ⟨by first | rfl | (simp; done) | (simp; omega), rfl⟩
theorem isCount_no (n : Int) (h : ¬ (1 ≤ n ∧ n ≤ 256)) (w : World) : Calls Try.prog 49 #[.int .i64 n] w fun e w' => e = .returned (.bool false) ∧ w = w' := by
  by_cases h1 : 1 ≤ n
  · have h2 : ¬ n ≤ 256 := by omega
    go_enter Try.func49, Try.ntmps49
    go_wp2
    go_ret
    exact ⟨by first | rfl | (simp; done) | (simp; omega), rfl⟩
  · go_enter Try.func49, Try.ntmps49
    go_wp2
    go_ret
    exact ⟨by first | rfl | (simp; done) | (simp; omega), rfl⟩

set_option maxHeartbeats 4000000 in
set_option maxRecDepth 100000 in
theorem sumOver_any (a : Option Addr) (n c : Nat) (fid : FuncId) (caps : Array Value) (zs : List Nat) (C : Nat → Option Nat) (w : World) (h : Holds .f32 w a n zs) (hn : n ≤ 1048576)
    (he : ∀ args w, (callFunc fid args).run Try.prog w = .ok (.enter fid args) w)
    (hf : ∀ k, k < n → ∀ wr, Calls Try.prog fid (#[.int .i64 (k : Int), .float .f32 (zs.getD k 0)] ++ caps) wr fun e w' => ∃ r, e = .returned (.float .f32 r) ∧ cls .f32 r = C k ∧ ∃ q, w' = wr.drewN q) :
    Calls Try.prog 62 #[.slice a n c, .func (.func fid) #[] caps] w fun e w' => ∃ r, e = .returned (.float .f32 r) ∧ Is .f32 r (sumK C n) ∧ ∃ q, w' = w.drewN q := by
  have H1 := hid h
  have HN := hid hn
  have HF := hid hf
  clear h hn hf
  go_enter Try.func62, Try.ntmps62
  go_wp2_with fail
  go_loopw [5, 11] (fun s i wr => ∃ (k r : Nat), k ≤ n ∧ i = .int .i64 k ∧ s = .float .f32 r ∧ Is .f32 r (sumK C k) ∧ Hid (∃ q, wr = w.drewN q)) (fun _ i _ => n - (intOf i).toNat)
  case atStart => exact ⟨0, _, Nat.zero_le _, rfl, rfl, show cls .f32 (floatOfInt .f32 0) = some 0 from by decide, hid ⟨0, rfl⟩⟩
  case round =>
    obtain ⟨k, r0, hk, rfl, rfl, hr0, hw⟩ := hrel
    have hn2 : n ≤ 1048576 := HN.out
    by_cases hlt : k < n
    · have E0 : Ext w wr := by obtain ⟨q, hq⟩ := hw.out; rw [hq]; exact Ext.drewN (Ext.refl _) _
      obtain ⟨b, off, rfl, e1⟩ := cell_at H1.out E0 k hlt
      have hs : Hid (sumK C (k + 1) = fop .add .f32 (sumK C k) (C k)) := rfl
      have HC := HF.out k hlt
      generalize zs.getD k 0 = x at e1 HC
      generalize C k = Ck at hs HC
      have hi0 : (0 : Int) ≤ (k : Int) := by omega
      have hi1 : (k : Int) < (n : Int) := by omega
      clear E0
      go_wp2_with fail
      refine (HC _).mono ?_
      rintro e w1 ⟨r1, rfl, hr1, q1, rfl⟩
      go_wp2_with (refine wpList_fa rfl rfl rfl rfl rfl hr0 (show Is .f32 r1 Ck from hr1) ?_; intro r2 m2 hr2 hrw2)
      go_roundw
      case rel => exact ⟨k + 1, r2, by omega, by go_num, rfl, by rw [hs.out]; exact hr2, by obtain ⟨q, hq⟩ := hw.out; exact hid ⟨q + (q1 + m2), by rw [hq]; simp only [World.drewN_drewN]⟩⟩
      case measure => simp [intOf]; omega
    · have hkn : k = n := by omega
      subst hkn
      go_wp2_with fail
      go_ret
      exact ⟨_, rfl, hr0, hw.out⟩
theorem itself_any (k : Int) (x : Nat) (w : World) : Calls Try.prog 63 #[.int .i64 k, .float .f32 x] w fun e w' => e = .returned (.float .f32 x) ∧ w = w' := by
  go_enter Try.func63, Try.ntmps63
  go_wp2
  go_ret
  exact ⟨rfl, rfl⟩
theorem sumAll_any (a : Option Addr) (n c : Nat) (zs : List Nat) (w : World) (h : Holds .f32 w a n zs) (hn : n ≤ 1048576) :
    Calls Try.prog 62 #[.slice a n c, .func (.func 63) #[] #[]] w fun e w' => ∃ r, e = .returned (.float .f32 r) ∧ Is .f32 r (sumK (fun k => cls .f32 (zs.getD k 0)) n) ∧ ∃ q, w' = w.drewN q :=
  sumOver_any a n c 63 #[] zs _ w h hn (fun _ _ => by simp [go_sem]) fun k hk wr => by
    refine (itself_any _ _ _).mono ?_
    rintro e w' ⟨rfl, rfl⟩
    exact ⟨_, rfl, rfl, 0, rfl⟩

end Go.Proofs.Ytpmjiabllmomjaa

/- Where a sound is loudest. -/
import Derived.Test.YtpmjiabllmomjabV9
import Derived.Test.YtpmjiabllmomjabAbs
import Derived.Test.YtpmjiabllmomjabT17
import Derived.BigQuiet
namespace Go.Proofs.Ytpmjiabllmomjab
open Go.RowKit Flt
set_option linter.unusedVariables false

def sizeW (zs : List Nat) (k : Nat) : Nat := zs.getD k 0 % 2147483648
/-- the first place of the greatest size among the first k -/
def bestP (zs : List Nat) : Nat → Nat
  | 0 => 0
  | k + 1 => if (FloatKind.f32.format.order (sizeW zs k) (sizeW zs (bestP zs k)) == some .gt) = true then k else bestP zs k
theorem bestP_lt (zs : List Nat) : ∀ k, bestP zs k < k ∨ bestP zs k = 0
  | 0 => .inr rfl
  | k + 1 => by
    unfold bestP
    split
    · exact .inl (Nat.lt_succ_self _)
    · rcases bestP_lt zs k with h | h
      · exact .inl (by omega)
      · exact .inr h
structure PR where
  i : Nat
  x : Option Nat
  ok : Bool
def peakR (zs : List Nat) : PR := if soundB (zs.map (cls .f32)) && decide (zs.length ≠ 0) then ⟨bestP zs zs.length, some (sizeW zs (bestP zs zs.length)), true⟩ else ⟨0, some 0, false⟩
theorem fins_at {zs : List Nat} (h : soundB (zs.map (cls .f32)) = true) (k : Nat) (hk : k < zs.length) : fin32 (cls .f32 (zs.getD k 0)) = true := by
  unfold soundB finsC at h
  simp only [Bool.and_eq_true] at h
  refine List.all_eq_true.1 h.2 _ ?_
  simp only [List.mem_map]
  exact ⟨zs.getD k 0, by simp [List.getD, hk], rfl⟩
theorem peak_first {x : Nat} (hf : fin32 (cls .f32 x) = true) : (FloatKind.f32.format.order (x % 2147483648) 3212836864 == some .gt) = true := by
  obtain ⟨_, s, m, e, hr, h1, h2, h3⟩ := fin_read hf
  have e1 : FloatKind.f32.format.read 3212836864 = .number true 8388608 (-23) := by decide
  have e2 : FloatKind.f32.format.read (x % 2147483648) = .number false m e := by rw [read_abs32, hr]; rfl
  have ho : FloatKind.f32.format.order (x % 2147483648) 3212836864 = some (compare (Ieee.signed false m (e - -149).toNat) (Ieee.signed true 8388608 (-23 - -149 : Int).toNat)) := by
    unfold Ieee.Format.order; rw [e2, e1]; exact order_num false true m 8388608 e (-23) (-149) h2 (by omega)
  have hp : Ieee.signed true 8388608 (-23 - -149 : Int).toNat < Ieee.signed false m (e - -149).toNat := by
    have g1 : Ieee.signed true 8388608 (-23 - -149 : Int).toNat < 0 := by decide
    have g2 : (0 : Int) ≤ Ieee.signed false m (e - -149).toNat := by unfold Ieee.signed; simp only [Bool.false_eq_true, if_false]; exact Int.natCast_nonneg _
    exact Int.lt_of_lt_of_le g1 g2
  rw [ho, compare_gt hp]
  rfl
theorem l03Size_any (b : Nat) (hb : b < 4294967296) (hf : fin32 (cls .f32 b) = true) (w : World) : Calls Try.prog 67 #[.float .f32 b] w fun e w' => e = .returned (.float .f32 (b % 2147483648)) ∧ ∃ m, w' = w.drewN m := by
  cases hle : fcmp .leq (ford .f32 (cls .f32 b) (some 0))
  · have HE := hid (pos_abs b hb hf hle)
    go_enter Try.func67, Try.ntmps67
    go_wp2_with (refine wpList_fcmp rfl rfl rfl rfl rfl (is_self _ _) (is_const (by decide)) ?_; rw [hle])
    go_ret
    exact ⟨by rw [HE.out]; rfl, 0, rfl⟩
  · have HE := hid (neg_abs b hf hle)
    go_enter Try.func67, Try.ntmps67
    go_wp2_with (first
      | (refine wpList_fcmp rfl rfl rfl rfl rfl (is_self _ _) (is_const (by decide)) ?_; rw [hle])
      | (refine wpList_fa rfl rfl rfl rfl rfl (is_const (by decide)) (is_self _ _) ?_; intro r n hr hrw))
    have e := cls_word (hr.out.trans HE.out)
    subst e
    go_ret
    exact ⟨rfl, _, rfl⟩
theorem l03Size_is (b A : Nat) (hb : b < 4294967296) (hf : fin32 (cls .f32 b) = true) (hA : b % 2147483648 = A) (w : World) : Calls Try.prog 67 #[.float .f32 b] w fun e w' => e = .returned (.float .f32 A) ∧ ∃ m, w' = w.drewN m := by
  subst hA; exact l03Size_any b hb hf w
set_option maxHeartbeats 2000000 in
set_option maxRecDepth 100000 in
theorem peak_any (a : Option Addr) (n c : Nat) (zs : List Nat) (R : PR) (w : World) (h : Holds .f32 w a n zs) (hn : n ≤ 1048576) (hw0 : Words n zs) (hR : peakR zs = R) :
    Calls Try.prog 69 #[.slice a n c] w fun e w' => ∃ r, e = .returned (.tuple #[.int .i64 (R.i : Int), .float .f32 r, .bool R.ok]) ∧ Is .f32 r R.x ∧ Ext w w' := by
  have H1 := hid h
  have HN := hid hn
  have HL := hid h.1
  cases hA : soundB (zs.map (cls .f32))
  · have e : R = ⟨0, some 0, false⟩ := by rw [← hR]; unfold peakR; rw [hA]; rfl
    subst e
    clear h hn hR hw0
    go_enter Try.func69, Try.ntmps69
    go_wp2_with (go_at_call 64; refine (isSound_drew a n c zs _ _ H1.out HN.out hA).mono ?_; rintro e w' ⟨rfl, m1, rfl⟩)
    go_returns
    refine ⟨_, rfl, cls0, ?_⟩
    (repeat with_reducible (first | exact Ext.refl _ | exact ext_alloc _ _ | refine Ext.drewN ?_ _ | refine Ext.drew1 ?_ | refine Ext.set ?_ (by dsimp only; omega) _ | refine Ext.alloc ?_ _))
  by_cases h0 : n = 0
  · have e : R = ⟨0, some 0, false⟩ := by rw [← hR]; unfold peakR; rw [hA, HL.out, h0]; rfl
    subst e
    subst h0
    clear h hn hR hw0
    go_enter Try.func69, Try.ntmps69
    go_wp2_with (go_at_call 64; refine (isSound_drew a 0 c zs _ _ H1.out HN.out hA).mono ?_; rintro e w' ⟨rfl, m1, rfl⟩)
    go_returns
    refine ⟨_, rfl, cls0, ?_⟩
    (repeat with_reducible (first | exact Ext.refl _ | exact ext_alloc _ _ | refine Ext.drewN ?_ _ | refine Ext.drew1 ?_ | refine Ext.set ?_ (by dsimp only; omega) _ | refine Ext.alloc ?_ _))
  have hne : ((n : Int) == 0) = false := by simp; omega
  have e : R = ⟨bestP zs n, some (sizeW zs (bestP zs n)), true⟩ := by rw [← hR]; unfold peakR; rw [hA, HL.out, decide_eq_true h0]; rfl
  subst e
  have HF := hid (fun k (hk : k < n) => fins_at hA k (by rw [HL.out]; exact hk))
  have HC := hid (show cls .f32 (sizeW zs (bestP zs n)) = some (sizeW zs (bestP zs n)) from abs_num _ (fins_at hA _ (by rw [HL.out]; rcases bestP_lt zs n with g | g <;> omega)))
  clear h hn hR hw0
  go_enter Try.func69, Try.ntmps69
  go_wp2_with (go_at_call 64; refine (isSound_drew a n c zs _ _ H1.out HN.out hA).mono ?_; rintro e w' ⟨rfl, m1, rfl⟩)
  go_loopw [5, 6, 20] (fun p q i wr => ∃ k : Nat, k ≤ n ∧ i = .int .i64 k ∧ p = .int .i64 ((bestP zs k : Nat) : Int) ∧ q = .float .f32 (if k = 0 then 3212836864 else sizeW zs (bestP zs k)) ∧ Hid (∃ m, wr = w.drewN m)) (fun _ _ i _ => n - (intOf i).toNat)
  case atStart => exact ⟨0, Nat.zero_le _, rfl, rfl, rfl, m1, rfl⟩
  case round =>
    obtain ⟨k, hk, rfl, rfl, rfl, hw⟩ := hrel
    have hn2 : n ≤ 1048576 := HN.out
    by_cases hlt : k < n
    · have E0 : Ext w wr := by obtain ⟨q, hq⟩ := hw.out; rw [hq]; exact Ext.drewN (Ext.refl _) _
      obtain ⟨b, off, rfl, e1⟩ := cell_at H1.out E0 k hlt
      have hs : Hid (bestP zs (k + 1) = if (FloatKind.f32.format.order (sizeW zs k) (sizeW zs (bestP zs k)) == some .gt) = true then k else bestP zs k) := rfl
      have HF1 := hid (HF.out k hlt)
      have HA1 := hid (abs_num _ HF1.out)
      have HS1 : Hid (zs.getD k 0 % 2147483648 = sizeW zs k) := rfl
      obtain ⟨P, hP⟩ : ∃ P, (if k = 0 then 3212836864 else sizeW zs (bestP zs k)) = P := ⟨_, rfl⟩
      have HCM : Hid ((FloatKind.f32.format.order (sizeW zs k) P == some .gt) = if k = 0 then true else (FloatKind.f32.format.order (sizeW zs k) (sizeW zs (bestP zs k)) == some .gt)) := by
        show _ = _
        rw [← hP]
        by_cases hk0 : k = 0
        · rw [if_pos hk0, if_pos hk0]
          exact peak_first HF1.out
        · rw [if_neg hk0, if_neg hk0]
      have HPP := hid hP
      have hi0 : (0 : Int) ≤ (k : Int) := by omega
      have hi1 : (k : Int) < (n : Int) := by omega
      clear E0
      simp only [hP]
      clear hP
      generalize zs.getD k 0 = x at e1 HF1 HA1 HS1
      obtain ⟨A, hAA⟩ : ∃ A, sizeW zs k = A := ⟨_, rfl⟩
      have HSA := hid (HS1.out.trans hAA)
      rw [hAA] at HCM
      have HAA := hid hAA
      clear hAA HS1
      have HN1 := hid (abs_nar x HF1.out)
      have HFT := hid (abs_fits x HF1.out)
      have HCX := hid (fin_read HF1.out).1
      cases hcm : (FloatKind.f32.format.order A P == some .gt)
      · have HQ := HCM.out
        rw [hcm] at HQ
        have hk0 : k ≠ 0 := by rintro rfl; simp at HQ
        have hs2 := hid (show bestP zs (k + 1) = bestP zs k from by rw [hs.out, HAA.out]; rw [if_neg hk0] at HQ; rw [← HQ]; rfl)
        have hp2 := hid (show P = sizeW zs (bestP zs k) from by rw [← HPP.out, if_neg hk0])
        clear HQ
        go_wp2_with (first
          | (refine wpList_fw rfl rfl Try.underlying22 Try.underlying29 rfl (is_self _ _) ?_; intro r mm hr hrw; rw [HCX.out] at hr; have hr2 := cls_word hr.out; subst hr2)
          | (go_at_call 57; refine (abs_any _ hrw _).mono ?_; rintro e w' ⟨rfl, rfl⟩)
          | (refine wpList_fn rfl rfl Try.underlying29 Try.underlying22 rfl (show Is .f64 _ (some (absW (wide x))) from cls_num HN1.out.2) HFT.out ?_; intro r3 m3 hr3 hrw3; have hr4 := cls_word (hr3.out.trans (show fnar (some (absW (wide x))) = some A from by simp only [fnar, Option.map_some, HN1.out.1, HSA.out])); subst hr4))
        go_roundw
        case rel => exact ⟨k + 1, by omega, by go_num, by rw [hs2.out], by rw [hs2.out, if_neg (Nat.succ_ne_zero k), hp2.out], by obtain ⟨m2, hm2⟩ := hw.out; exact ⟨m2 + (mm + m3), by rw [hm2, World.drewN_drewN]⟩⟩
        case measure => simp [intOf]; omega
      · have HQ := HCM.out
        rw [hcm] at HQ
        have hs2 := hid (show bestP zs (k + 1) = k from by
          rw [hs.out, HAA.out]
          by_cases hk0 : k = 0
          · subst hk0; simp [bestP]
          · rw [if_neg hk0] at HQ; rw [← HQ]; rfl)
        clear HQ
        go_wp2_with (first
          | (refine wpList_fw rfl rfl Try.underlying22 Try.underlying29 rfl (is_self _ _) ?_; intro r mm hr hrw; rw [HCX.out] at hr; have hr2 := cls_word hr.out; subst hr2)
          | (go_at_call 57; refine (abs_any _ hrw _).mono ?_; rintro e w' ⟨rfl, rfl⟩)
          | (refine wpList_fn rfl rfl Try.underlying29 Try.underlying22 rfl (show Is .f64 _ (some (absW (wide x))) from cls_num HN1.out.2) HFT.out ?_; intro r3 m3 hr3 hrw3; have hr4 := cls_word (hr3.out.trans (show fnar (some (absW (wide x))) = some A from by simp only [fnar, Option.map_some, HN1.out.1, HSA.out])); subst hr4))
        go_roundw
        case rel => exact ⟨k + 1, by omega, by go_num, by rw [hs2.out], by rw [hs2.out, if_neg (Nat.succ_ne_zero k), HAA.out], by obtain ⟨m2, hm2⟩ := hw.out; exact ⟨m2 + (mm + m3), by rw [hm2, World.drewN_drewN]⟩⟩
        case measure => simp [intOf]; omega
    · have hkn : k = n := by omega
      subst hkn
      simp only [h0, if_false]
      go_wp2
      go_returns
      refine ⟨_, rfl, HC.out, ?_⟩
      obtain ⟨m2, hm2⟩ := hw.out
      rw [hm2]
      (repeat with_reducible (first | exact Ext.refl _ | exact ext_alloc _ _ | refine Ext.drewN ?_ _ | refine Ext.drew1 ?_ | refine Ext.set ?_ (by dsimp only; omega) _ | refine Ext.alloc ?_ _))
end Go.Proofs.Ytpmjiabllmomjab

/- Valid envelopes. -/
import Derived.Test.YtkmgkcbbbaioiabI1
import Derived.Test.YtkmgkcbbbaioiabV5
import Derived.BigQuiet
namespace Go.Proofs.Ytkmgkcbbbaioiab
open Go.RowKit Flt
set_option linter.unusedVariables false

/-- the time with an index may stand behind those before it -/
def timeB (ts : List Int) (i : Nat) : Bool := decide ((if i = 0 then -1 else ts.getD (i - 1) 0) < ts.getD i 0) && decide (ts.getD i 0 ≤ 1000000)
def timesB (ts : List Int) : Bool := decide (1 ≤ ts.length) && (decide (ts.length ≤ 16) && (List.range ts.length).all (timeB ts))
def envC (ts : List Int) (cs : List (Option Nat)) : Bool := timesB ts && (decide (cs.length = ts.length) && finsC cs)
theorem times_bad {ts : List Int} {i : Nat} (hi : i < ts.length) (h : timeB ts i = false) : timesB ts = false := by
  have : (List.range ts.length).all (timeB ts) = false := by
    rw [List.all_eq_false]
    exact ⟨i, List.mem_range.2 hi, by rw [h]; decide⟩
  unfold timesB; rw [this]; simp
theorem times_good {ts : List Int} (h1 : 1 ≤ ts.length) (h2 : ts.length ≤ 16) (h : ∀ i, i < ts.length → timeB ts i = true) : timesB ts = true := by
  have : (List.range ts.length).all (timeB ts) = true := List.all_eq_true.2 fun i hi => h i (List.mem_range.1 hi)
  unfold timesB; rw [this]; simp [h1, h2]
theorem times_len {ts : List Int} (h : timesB ts = true) : 1 ≤ ts.length ∧ ts.length ≤ 16 ∧ ∀ i, i < ts.length → timeB ts i = true := by
  unfold timesB at h
  simp only [Bool.and_eq_true, decide_eq_true_eq] at h
  exact ⟨h.1, h.2.1, fun i hi => List.all_eq_true.1 h.2.2 i (List.mem_range.2 hi)⟩
theorem time_low {ts : List Int} : ∀ {k : Nat}, (∀ q, q < k → timeB ts q = true) → -1 ≤ (if k = 0 then (-1 : Int) else ts.getD (k - 1) 0)
  | 0, _ => by simp
  | k + 1, h => by
    have h1 := time_low (ts := ts) (k := k) (fun q hq => h q (by omega))
    have h2 := h k (by omega)
    unfold timeB at h2
    simp only [Bool.and_eq_true, decide_eq_true_eq] at h2
    simp only [Nat.add_one_ne_zero, if_false, Nat.add_sub_cancel]
    omega
set_option maxHeartbeats 1000000 in
theorem areTimes_any (a : Option Addr) (n c : Nat) (ts : List Int) (w : World) (h : HoldsI w a n ts) (hn : n ≤ 1048576) :
    Calls Try.prog 55 #[.slice a n c] w fun e w' => e = .returned (.bool (timesB ts)) ∧ w = w' := by
  have hl := h.1
  by_cases h1 : n < 1
  · have HZ := hid (show timesB ts = false from by unfold timesB; simp; omega)
    clear h hl
    go_enter Try.func55, Try.ntmps55
    go_wp2
    go_ret
    exact ⟨by rw [HZ.out]; exact ret_bool (by first | (simp; done) | (simp; omega)), rfl⟩
  by_cases h2 : 16 < n
  · have HZ := hid (show timesB ts = false from by unfold timesB; simp; omega)
    clear h hl
    go_enter Try.func55, Try.ntmps55
    go_wp2
    go_ret
    exact ⟨by rw [HZ.out]; exact ret_bool (by first | (simp; done) | (simp; omega)), rfl⟩
  have HH := hid h
  have HL := hid hl
  clear h hl
  go_enter Try.func55, Try.ntmps55
  go_wp2
  go_loop [3, 16] (fun b i => ∃ k : Nat, k ≤ n ∧ i = .int .i64 k ∧ b = .int .i64 (if k = 0 then -1 else ts.getD (k - 1) 0) ∧ Hid (∀ q, q < k → timeB ts q = true)) (fun _ i => n - (intOf i).toNat)
  case atStart => exact ⟨0, Nat.zero_le _, rfl, rfl, hid (fun q hq => by omega)⟩
  case round =>
    obtain ⟨k, hk, rfl, rfl, hr⟩ := hrel
    by_cases hlt : k < n
    · obtain ⟨b, off, rfl, e1⟩ := cellI_at HH.out (Ext.refl _) k hlt
      have HT : Hid (timeB ts k = (decide ((if k = 0 then -1 else ts.getD (k - 1) 0) < ts.getD k 0) && decide (ts.getD k 0 ≤ 1000000))) := rfl
      have HN : Hid ((if k + 1 = 0 then (-1 : Int) else ts.getD (k + 1 - 1) 0) = ts.getD k 0) := by show _ = _; simp
      generalize ts.getD k 0 = t at e1 HT HN
      generalize (if k = 0 then (-1 : Int) else ts.getD (k - 1) 0) = p at HT
      have hi0 : (0 : Int) ≤ (k : Int) := by omega
      have hi1 : (k : Int) < (n : Int) := by omega
      by_cases g1 : t ≤ p
      · have HB := hid (times_bad (by rw [HL.out]; exact hlt) (show timeB ts k = false from by rw [HT.out]; simp; omega))
        go_wp2
        go_ret
        exact ⟨by rw [HB.out]; rfl, rfl⟩
      by_cases g2 : 1000000 < t
      · have HB := hid (times_bad (by rw [HL.out]; exact hlt) (show timeB ts k = false from by rw [HT.out]; simp; omega))
        go_wp2
        go_ret
        exact ⟨by rw [HB.out]; rfl, rfl⟩
      have HG := hid (upto_succ (P := fun q => timeB ts q = true) hr.out (by rw [HT.out]; simp; omega))
      go_wp2
      go_round
      case rel => exact ⟨k + 1, by omega, by go_num, by rw [HN.out], HG⟩
      case measure => simp [intOf]; omega
    · have hkn : k = n := by omega
      subst hkn
      have HG := hid (times_good (by rw [HL.out]; omega) (by rw [HL.out]; omega) (fun j hj => hr.out j (by rw [HL.out] at hj; exact hj)))
      go_wp2
      go_ret
      exact ⟨by rw [HG.out]; rfl, rfl⟩
set_option maxRecDepth 100000 in
theorem validEnv_any (a b : Option Addr) (n c m d : Nat) (ts : List Int) (zs : List Nat) (V : Bool) (w : World) (h1 : HoldsI w a n ts) (h2 : Holds .f32 w b m zs) (hn : n ≤ 1048576) (hm : m ≤ 1048576) (hV : envC ts (zs.map (cls .f32)) = V) :
    Calls Try.prog 18 #[.agg #[.slice a n c, .slice b m d]] w fun e w' => e = .returned (.bool V) ∧ ∃ q, w' = (w.alloc (.cells #[.slice a n c, .slice b m d] 28)).drewN q := by
  have H1 := hid h1
  have H2 := hid h2
  have HN := hid hn
  have HM := hid hm
  have L1 := h1.1
  have L2 := h2.1
  subst hV
  have HV : Hid (envC ts (zs.map (cls .f32)) = (timesB ts && (decide (m = n) && finsC (zs.map (cls .f32))))) := by show _ = _; unfold envC; simp [L1, L2]
  clear h1 h2 hn hm L1 L2
  cases hT : timesB ts
  · go_enter Try.func18, Try.ntmps18
    go_wp2_with (go_at_call 55; refine (areTimes_any _ _ _ ts _ (HoldsI.ext H1.out (ext_alloc _ _)) HN.out).mono ?_; rintro e w' ⟨rfl, rfl⟩; rw [hT])
    go_ret
    exact ⟨by rw [HV.out, hT]; rfl, 0, rfl⟩
  by_cases he : m = n
  · subst he
    cases hF : finsC (zs.map (cls .f32))
    all_goals
      go_enter Try.func18, Try.ntmps18
      go_wp2_with (first | (go_at_call 55; refine (areTimes_any _ _ _ ts _ (HoldsI.ext H1.out (ext_alloc _ _)) HN.out).mono ?_; rintro e w' ⟨rfl, rfl⟩; rw [hT]) | (go_at_call 56; refine (areFinite_drew _ _ _ zs _ _ (Holds.alloc H2.out _) HM.out hF).mono ?_; rintro e w' ⟨rfl, q, rfl⟩))
      go_ret
      exact ⟨by rw [HV.out, hT, hF]; exact ret_bool (by simp), _, rfl⟩
  · have he2 : ¬ ((m : Int) = (n : Int)) := by omega
    have HE := hid (decide_eq_false he)
    clear he
    go_enter Try.func18, Try.ntmps18
    go_wp2_with (go_at_call 55; refine (areTimes_any _ _ _ ts _ (HoldsI.ext H1.out (ext_alloc _ _)) HN.out).mono ?_; rintro e w' ⟨rfl, rfl⟩; rw [hT])
    go_ret
    exact ⟨by rw [HV.out, hT, HE.out]; rfl, 0, rfl⟩
end Go.Proofs.Ytkmgkcbbbaioiab

/- Valid envelopes: the specification; copies and sizes. -/
import Derived.Test.YtkmgkcbbbaioiabE1
import Derived.Test.YtkmgkcbbbaioiabV1
namespace Go.Proofs.Ytkmgkcbbbaioiab
open Go.RowKit Flt
set_option linter.unusedVariables false

set_option maxHeartbeats 2000000 in
set_option maxRecDepth 100000 in
theorem l03Env_any (x : Nat) (a b : Option Addr) (n c m d : Nat) (ts : List Int) (zs : List Nat) (V : Bool) (w : World) (hb : Box w x #[.slice a n c, .slice b m d]) (h1 : HoldsI w a n ts) (h2 : Holds .f32 w b m zs) (hn : n ≤ 1048576) (hm : m ≤ 1048576) (hV : envC ts (zs.map (cls .f32)) = V) :
    Calls Try.prog 53 #[.pointer (some ⟨x, 0, none⟩)] w fun e w' => e = .returned (.bool V) ∧ ∃ q, w' = w.drewN q := by
  obtain ⟨x0, x1, xl⟩ := Box.cells2 hb
  have H1 := hid h1
  have H2 := hid h2
  have HN := hid hn
  have HM := hid hm
  have L1 := h1.1
  have L2 := h2.1
  have HL := hid L1
  subst hV
  have HV : Hid (envC ts (zs.map (cls .f32)) = (timesB ts && (decide (m = n) && finsC (zs.map (cls .f32))))) := by show _ = _; unfold envC; simp [L1, L2]
  by_cases g1 : n < 1
  · have HZ := hid (show timesB ts = false from by unfold timesB; simp; omega)
    clear h1 h2 hb L1 L2
    go_enter Try.func53, Try.ntmps53
    go_wp2
    go_ret
    exact ⟨by rw [HV.out, HZ.out]; exact ret_bool (by first | (simp; done) | (simp; omega)), 0, rfl⟩
  by_cases g2 : 16 < n
  · have HZ := hid (show timesB ts = false from by unfold timesB; simp; omega)
    clear h1 h2 hb L1 L2
    go_enter Try.func53, Try.ntmps53
    go_wp2
    go_ret
    exact ⟨by rw [HV.out, HZ.out]; exact ret_bool (by first | (simp; done) | (simp; omega)), 0, rfl⟩
  by_cases g3 : m = n
  rotate_left
  · have HZ := hid (show (timesB ts && (decide (m = n) && finsC (zs.map (cls .f32)))) = false from by simp [g3])
    have g4 : ¬ ((m : Int) = (n : Int)) := by omega
    clear h1 h2 hb L1 L2
    go_enter Try.func53, Try.ntmps53
    go_wp2
    go_ret
    exact ⟨by rw [HV.out, HZ.out]; exact ret_bool (by first | (simp; done) | (simp; omega)), 0, rfl⟩
  subst g3
  cases hF : finsC (zs.map (cls .f32))
  · have HZ := hid (show (timesB ts && (decide (m = m) && finsC (zs.map (cls .f32)))) = false from by simp [hF])
    clear h1 h2 hb L1 L2
    go_enter Try.func53, Try.ntmps53
    go_wp2_with (go_at_call 95; refine (l03Finite_drew _ _ _ zs _ _ H2.out HM.out hF).mono ?_; rintro e w' ⟨rfl, q, rfl⟩)
    go_ret
    exact ⟨by rw [HV.out, HZ.out]; rfl, _, rfl⟩
  have HF := hid hF
  clear h1 h2 hb L1 L2
  go_enter Try.func53, Try.ntmps53
  go_wp2_with (go_at_call 95; refine (l03Finite_drew _ _ _ zs _ _ H2.out HM.out hF).mono ?_; rintro e w' ⟨rfl, q, rfl⟩)
  go_loopw [38] (fun i wr => ∃ k : Nat, k ≤ m ∧ i = .int .i64 k ∧ Hid (∀ q, q < k → timeB ts q = true) ∧ Hid (∃ q, wr = w.drewN q)) (fun i _ => m - (intOf i).toNat)
  case atStart => exact ⟨0, Nat.zero_le _, rfl, hid (fun q hq => by omega), q, rfl⟩
  case round =>
    obtain ⟨k, hk, rfl, hr, hw⟩ := hrel
    have E0 : Ext w wr := by obtain ⟨q, hq⟩ := hw.out; rw [hq]; exact Ext.drewN (Ext.refl _) _
    have y0 : wr.cell? ⟨x, 0, none⟩ = some (.slice a m c) := by obtain ⟨q, hq⟩ := hw.out; rw [hq]; exact x0
    by_cases hlt : k < m
    · have hi0 : (0 : Int) ≤ (k : Int) := by omega
      have hi1 : (k : Int) < (m : Int) := by omega
      have HT : Hid (timeB ts k = (decide ((if k = 0 then -1 else ts.getD (k - 1) 0) < ts.getD k 0) && decide (ts.getD k 0 ≤ 1000000))) := rfl
      have HLW := hid (time_low hr.out)
      obtain ⟨b1, off, rfl, e1⟩ := cellI_at H1.out E0 k hlt
      by_cases hk0 : k = 0
      · subst hk0
        simp only [if_true] at HT
        simp only [Nat.add_zero] at e1
        generalize ts.getD 0 0 = t at e1 HT
        clear E0 x0 x1
        by_cases g1 : 0 ≤ t ∧ t ≤ 1000000
        · have HG := hid (upto_succ (P := fun q => timeB ts q = true) hr.out (by rw [HT.out]; simp; omega))
          go_wp2
          go_quiet (first | (go_at_call 72; refine Calls.quiet_of_same (v := .bool true) ?_; refine (l00In_yes _ _ _ g1.1 g1.2 _).mono ?_; rintro e wB ⟨rfl, rfl⟩; exact ⟨rfl, rfl⟩))
          go_wp2
          go_roundw
          case rel => exact ⟨1, by omega, by go_num, HG, by obtain ⟨m2, hm2⟩ := hw.out; exact ⟨m2 + nq, by rw [hm2, World.drewN_drewN]⟩⟩
          case measure => simp [intOf]; omega
        · have HB := hid (times_bad (by rw [HL.out]; exact hlt) (show timeB ts 0 = false from by rw [HT.out]; simp; omega))
          go_wp2
          go_quiet (first | (go_at_call 72; refine Calls.quiet_of_same (v := .bool false) ?_; refine (l00In_no _ _ _ g1 _).mono ?_; rintro e wB ⟨rfl, rfl⟩; exact ⟨rfl, rfl⟩))
          go_wp2
          go_ret
          exact ⟨by rw [HV.out, HB.out]; rfl, by obtain ⟨m2, hm2⟩ := hw.out; exact ⟨m2 + nq, by rw [hm2, World.drewN_drewN]⟩⟩
      · obtain ⟨j, hj⟩ : ∃ j, k = j + 1 := ⟨k - 1, by omega⟩
        obtain ⟨b2, off2, ha, e2⟩ := cellI_at H1.out E0 j (by omega)
        obtain ⟨rfl, rfl⟩ : b2 = b1 ∧ off2 = off := by simpa [eq_comm] using ha
        have hj2 : k - 1 = j := by omega
        simp only [hk0, if_false, hj2] at HT HLW
        generalize ts.getD k 0 = t at e1 HT
        generalize ts.getD j 0 = p at e2 HT HLW
        have hpos : (0 : Int) < (k : Int) := by omega
        have hposN : 0 < k := by omega
        have hposD : decide ((0 : Int) < (k : Int)) = true := by simp; omega
        have hposG : decide (0 < k) = true := by simp; omega
        have hj1 : (k : Int) - 1 = (j : Int) := by omega
        have hj3 : (j : Int) < (m : Int) := by omega
        have hj4 : (0 : Int) ≤ (j : Int) := by omega
        clear E0 x0 x1 ha hj hj2 hk0
        by_cases g1 : 0 ≤ t ∧ t ≤ 1000000
        · by_cases g2 : t ≤ p
          · have HB := hid (times_bad (by rw [HL.out]; exact hlt) (show timeB ts k = false from by rw [HT.out]; simp; omega))
            go_wp2
            go_quiet (first | (go_at_call 72; refine Calls.quiet_of_same (v := .bool true) ?_; refine (l00In_yes _ _ _ g1.1 g1.2 _).mono ?_; rintro e wB ⟨rfl, rfl⟩; exact ⟨rfl, rfl⟩))
            go_wp2
            go_ret
            exact ⟨by rw [HV.out, HB.out]; rfl, by obtain ⟨m2, hm2⟩ := hw.out; exact ⟨m2 + nq, by rw [hm2, World.drewN_drewN]⟩⟩
          · have HG := hid (upto_succ (P := fun q => timeB ts q = true) hr.out (by rw [HT.out]; simp; omega))
            go_wp2
            go_quiet (first | (go_at_call 72; refine Calls.quiet_of_same (v := .bool true) ?_; refine (l00In_yes _ _ _ g1.1 g1.2 _).mono ?_; rintro e wB ⟨rfl, rfl⟩; exact ⟨rfl, rfl⟩))
            go_wp2
            go_roundw
            case rel => exact ⟨k + 1, by omega, by go_num, HG, by obtain ⟨m2, hm2⟩ := hw.out; exact ⟨m2 + nq, by rw [hm2, World.drewN_drewN]⟩⟩
            case measure => simp [intOf]; omega
        · have HB := hid (times_bad (by rw [HL.out]; exact hlt) (show timeB ts k = false from by rw [HT.out]; have := HLW.out; simp; omega))
          go_wp2
          go_quiet (first | (go_at_call 72; refine Calls.quiet_of_same (v := .bool false) ?_; refine (l00In_no _ _ _ g1 _).mono ?_; rintro e wB ⟨rfl, rfl⟩; exact ⟨rfl, rfl⟩))
          go_wp2
          go_ret
          exact ⟨by rw [HV.out, HB.out]; rfl, by obtain ⟨m2, hm2⟩ := hw.out; exact ⟨m2 + nq, by rw [hm2, World.drewN_drewN]⟩⟩
    · have hkn : k = m := by omega
      subst hkn
      have HG := hid (times_good (ts := ts) (by rw [HL.out]; omega) (by rw [HL.out]; omega) (fun j hj => hr.out j (by rw [HL.out] at hj; exact hj)))
      go_wp2
      go_ret
      exact ⟨by rw [HV.out, HG.out, HF.out]; exact ret_bool (by simp), hw.out⟩
theorem szEnvelope_yes (a b : Option Addr) (n c m d : Nat) (k : Int) (h : (n : Int) + (m : Int) ≤ k) (hk : k ≤ 1048576) (w : World) :
    Calls Try.prog 15 #[.agg #[.slice a n c, .slice b m d], .int .i64 k] w fun e w' => e = .returned (.int .i64 (k - n - m)) ∧ Ext w w' := by
  have h0 : ¬ k - (n : Int) < 0 := by omega
  have h1 : ¬ k - (n : Int) - (m : Int) < 0 := by omega
  go_enter Try.func15, Try.ntmps15
  go_wp2_with (first | (go_at_call 51; refine (szI_yes _ _ _ _ (by omega) (by omega) _).mono ?_; rintro e w' ⟨rfl, rfl⟩) | (go_at_call 52; refine (szF_yes _ _ _ _ (by omega) (by omega) _).mono ?_; rintro e w' ⟨rfl, rfl⟩))
  go_ret
  exact ⟨rfl, ext_alloc _ _⟩
theorem szEnvelope_no1 (a b : Option Addr) (n c m d : Nat) (k : Int) (hn : n ≤ maxLen) (h : k < (n : Int)) (hk : 0 ≤ k) (w : World) :
    Calls Try.prog 15 #[.agg #[.slice a n c, .slice b m d], .int .i64 k] w fun e w' => e = .returned (.int .i64 (-1)) ∧ Ext w w' := by
  go_enter Try.func15, Try.ntmps15
  go_wp2_with (go_at_call 51; refine (szI_no _ _ _ _ hn h hk _).mono ?_; rintro e w' ⟨rfl, rfl⟩)
  go_ret
  exact ⟨rfl, ext_alloc _ _⟩
theorem szEnvelope_no2 (a b : Option Addr) (n c m d : Nat) (k : Int) (hm : m ≤ maxLen) (h : (n : Int) ≤ k) (hk : k ≤ 1048576) (h2 : k - n < (m : Int)) (w : World) :
    Calls Try.prog 15 #[.agg #[.slice a n c, .slice b m d], .int .i64 k] w fun e w' => e = .returned (.int .i64 (-1)) ∧ Ext w w' := by
  have h0 : ¬ k - (n : Int) < 0 := by omega
  go_enter Try.func15, Try.ntmps15
  go_wp2_with (first | (go_at_call 51; refine (szI_yes _ _ _ _ h hk _).mono ?_; rintro e w' ⟨rfl, rfl⟩) | (go_at_call 52; refine (szF_no _ _ _ _ hm h2 (by omega) _).mono ?_; rintro e w' ⟨rfl, rfl⟩))
  go_ret
  exact ⟨rfl, ext_alloc _ _⟩
theorem infoEnv : (Try.prog.info? 28).map (·.size) = some 2 := by kernel_rfl
set_option maxHeartbeats 1000000 in
theorem toEnvelope_any (a b : Option Addr) (n c m d : Nat) (ts : List Int) (zs : List Nat) (w : World) (h1 : IsRow .i64 w a n c ts) (h2 : IsRowF .f32 w b m d zs) (hn : n ≤ 1048576) (hm : m ≤ 1048576) :
    Calls Try.prog 17 #[.agg #[.slice a n c, .slice b m d]] w fun e w' => ∃ p q, e = .returned (.agg #[.slice (some ⟨p, 0, none⟩) n n, .slice (some ⟨q, 0, none⟩) m m]) ∧ OwnI w' w.heap.size n (.slice (some ⟨p, 0, none⟩) n n) (ts.take n) ∧ Own w' w.heap.size m (.slice (some ⟨q, 0, none⟩) m m) (zs.take m) ∧ p ≠ q ∧ Ext w w' := by
  have H1 := hid h1
  have H2 := hid h2
  have HN := hid hn
  have HM := hid hm
  clear h1 h2 hn hm
  go_enter Try.func17, Try.ntmps17
  go_wp2_with fail
  refine (toInts_any _ _ _ ts _ (IsRow.ext' H1.out (by (repeat with_reducible (first | exact Ext.refl _ | exact ext_alloc _ _ | refine Ext.drewN ?_ _ | refine Ext.drew1 ?_ | refine Ext.set ?_ (by dsimp only; omega) _ | refine Ext.alloc ?_ _)))) HN.out).mono ?_
  rintro e w1 ⟨p, rfl, O1, E1⟩
  have P1 := hid (OwnI.base O1 (B' := w.heap.size + 3) (by simp))
  have EX := hid (Ext.trans (show Ext w _ from (by (repeat with_reducible (first | exact Ext.refl _ | exact ext_alloc _ _ | refine Ext.drewN ?_ _ | refine Ext.drew1 ?_ | refine Ext.set ?_ (by dsimp only; omega) _ | refine Ext.alloc ?_ _)))) E1)
  have A1 := hid (Box.ext (Box.alloc (Box.alloc (box_new (w := w) #[.slice a n c, .slice b m d] 25) _) _) E1)
  have R1 := hid (Box.cast' (b' := w.heap.size + 2) (Box.ext (box_new (w := (w.alloc (.cells #[.slice a n c, .slice b m d] 25)).alloc (.cells #[.slice none 0 0, .slice none 0 0] 28)) #[.slice none 0 0, .slice none 0 0] 28) E1) (by simp))
  have T1 := hid (Box.cast' (b' := w.heap.size + 1) (Box.ext (Box.alloc (box_new (w := w.alloc (.cells #[.slice a n c, .slice b m d] 25)) #[.slice none 0 0, .slice none 0 0] 28) _) E1) (by simp))
  have Z1 := hid (show w.heap.size + 3 ≤ w1.heap.size from by have := Ext.size E1; simpa using this)
  have PB := hid (OwnI.block P1.out p rfl)
  clear O1 E1
  obtain ⟨x0, x1, xl⟩ := Box.cells2 A1.out
  obtain ⟨r0, r1, rf0, rf1, rl⟩ := Box.all2 R1.out
  go_wp2_with fail
  have ES := hid (show Ext w (w1.setCell ⟨w.heap.size + 2, 0, none⟩ (.slice (some ⟨p, 0, none⟩) n n)) from Ext.set EX.out (by show w.heap.size ≤ w.heap.size + 2; omega) _)
  refine (toList_any _ _ _ zs _ (IsRowF.ext H2.out ES.out) HM.out).mono ?_
  rintro e w2 ⟨q, rfl, O2, E2⟩
  have P2 := hid (Own.base O2 (B' := w1.heap.size) (by simp))
  have EY := hid (Ext.trans ES.out E2)
  have P3 := hid (OwnI.ext (OwnI.heap (w' := w1.setCell ⟨w.heap.size + 2, 0, none⟩ (.slice (some ⟨p, 0, none⟩) n n)) P1.out (fun k hk => heap_setCell_other w1 ⟨w.heap.size + 2, 0, none⟩ k _ (by have := (OwnI.block P1.out k hk).1; show k ≠ w.heap.size + 2; omega))) E2)
  have R2 := hid (Box.ext (Box.eqv (box_set (j := 0) R1.out (.slice (some ⟨p, 0, none⟩) n n)) rfl : Box _ (w.heap.size + 2) #[.slice (some ⟨p, 0, none⟩) n n, .slice none 0 0]) E2)
  have T2 := hid (Box.ext (Box.far (j := 0) T1.out (by omega) (.slice (some ⟨p, 0, none⟩) n n) : Box (w1.setCell ⟨w.heap.size + 2, 0, none⟩ (.slice (some ⟨p, 0, none⟩) n n)) (w.heap.size + 1) _) E2)
  have QB := hid (Own.block P2.out q rfl)
  have Z2 := hid (show w1.heap.size ≤ w2.heap.size from by have := Ext.size E2; simpa using this)
  clear O2 E2 x0 x1 xl r0 r1 rf0 rf1 rl
  obtain ⟨r0, r1, rf0, rf1, rl⟩ := Box.all2 R2.out
  obtain ⟨t0, t1, tf0, tf1, tl⟩ := Box.all2 T2.out
  go_wp2_with fail
  have HP := hid (show w.heap.size + 3 ≤ p from (PB.out).1)
  have HQ := hid (show w1.heap.size ≤ q from (QB.out).1)
  clear r0 r1 rf0 rf1 rl t0 t1 tf0 tf1 tl
  refine bodyPost_ret (ret_cell1 Try.results17 rfl (box_set2 (Box.far (j := 1) T2.out (by omega) _) _ _) Try.underlying28 infoEnv) rfl ?_
  have np : ∀ k, (Value.slice (some ⟨p, 0, none⟩) n n).ownBlock = some k → k = p := fun k hk => by simp [Value.ownBlock] at hk; omega
  have nq : ∀ k, (Value.slice (some ⟨q, 0, none⟩) m m).ownBlock = some k → k = q := fun k hk => by simp [Value.ownBlock] at hk; omega
  have hp := HP.out
  have hq := HQ.out
  have hz := Z1.out
  have hpb := (PB.out).2
  refine ⟨p, q, rfl, ?_, ?_, by omega, ?_⟩
  · exact OwnI.base (OwnI.heap P3.out (fun k hk => by have e := np k hk; subst e; rw [heap_setCell_other _ _ _ _ (by show k ≠ w.heap.size + 1; omega), heap_setCell_other _ _ _ _ (by show k ≠ w.heap.size + 1; omega), heap_setCell_other _ _ _ _ (by show k ≠ w.heap.size + 1 + 1; omega)])) (by omega)
  · have hn1 : (Value.slice (some ⟨q, 0, none⟩) m m).ownBlock ≠ some (w.heap.size + 1) := fun hk => by have := nq _ hk; omega
    have hn2 : (Value.slice (some ⟨q, 0, none⟩) m m).ownBlock ≠ some (w.heap.size + 1 + 1) := fun hk => by have := nq _ hk; omega
    exact Own.base (Own.far (Own.far (Own.far P2.out hn2 _) hn1 _) hn1 _) (by omega)
  · exact Ext.set (Ext.set (Ext.set EY.out (by show w.heap.size ≤ w.heap.size + 1 + 1; omega) _) (by show w.heap.size ≤ w.heap.size + 1; omega) _) (by show w.heap.size ≤ w.heap.size + 1; omega) _
end Go.Proofs.Ytkmgkcbbbaioiab

/- Means of some numbers each. -/
import Derived.Test.YtpmjiabllmomjaaM1
import Derived.Test.YtpmjiabllmomjaaM6
import Derived.Test.YtpmjiabllmomjaaShare
namespace Go.Proofs.Ytpmjiabllmomjaa
open Go.RowKit Flt
set_option linter.unusedVariables false

/-- the sum of some numbers behind the first ones -/
def sumAt (zs : List Nat) (p m : Nat) : Option Nat := sumK (fun j => cls .f32 (zs.getD (p + j) 0)) m
theorem hold_part {w : World} {b off n p m : Nat} {zs : List Nat} (h : Holds .f32 w (some ⟨b, off, none⟩) n zs) (hp : p + m ≤ n) : Holds .f32 w (some ⟨b, off + p, none⟩) m ((zs.drop p).take m) := by
  obtain ⟨hl, hc⟩ := h
  refine ⟨by simp [hl]; omega, ?_⟩
  by_cases h0 : m = 0
  · exact .inl h0
  · right
    rcases hc with hc | ⟨b2, off2, e, hb, hc⟩
    · omega
    · cases e
      refine ⟨b, off + p, rfl, hb, fun i hi => ?_⟩
      have := hc (p + i) (by omega)
      rw [← Nat.add_assoc] at this
      rw [this]
      simp [List.getD, hi, List.getElem?_drop]
theorem sumAt_part (zs : List Nat) (p m : Nat) : sumK (fun j => cls .f32 (((zs.drop p).take m).getD j 0)) m = sumAt zs p m := by
  unfold sumAt
  refine sumK_congr fun k hk => ?_
  simp [List.getD, hk, List.getElem?_drop]
theorem sumAt_some {zs : List Nat} {n p m : Nat} (hF : ∀ k, k < n → fin32 (cls .f32 (zs.getD k 0)) = true) (hp : p + m ≤ n) : ∃ s, sumAt zs p m = some s ∧ nanW .f32 s = false :=
  sumK_some (fun k b h => cls_ok .f32 _ b h) (fun k hk => hF (p + k) (by omega))
theorem wrap_small {x : Int} (h0 : -9223372036854775808 ≤ x) (h1 : x < 9223372036854775808) : IntKind.i64.wrap x = x := by
  have hb : IntKind.i64.bits = 64 := rfl
  have hs : IntKind.i64.signed = true := rfl
  have e1 : (2 : Int) ^ 64 = 18446744073709551616 := by decide
  have e2 : (2 : Int) ^ (64 - 1) = 9223372036854775808 := by decide
  unfold IntKind.wrap
  simp only [hb, hs, e1, e2, Bool.true_and, decide_eq_true_eq]
  split <;> omega
theorem quo_some {s : Nat} (hs : nanW .f32 s = false) {d : Nat} (h0 : d ≠ 0) (h1 : d < 258) : ∃ q, floatBits .quo .f32 s (floatOfInt .f32 (d : Int)) = some q ∧ nanW .f32 q = false := by
  obtain ⟨m2, j, r2, _, _, _, k4⟩ := int_read (a := d) h1
  have n2 : m2 ≠ 0 := by rintro rfl; rw [Nat.zero_mul] at k4; have := Nat.two_pow_pos 149; have := Nat.mul_ne_zero h0 (Nat.ne_of_gt this); omega
  have key : ∃ x, (FloatKind.f32.format.read s).quotient (FloatKind.f32.format.fractionBits + 2) (FloatKind.f32.format.read (floatOfInt .f32 (d : Int))) = some x := by
    rw [r2]
    rw [← read_nan] at hs
    generalize FloatKind.f32.format.read s = p at hs
    cases p with
    | nan s t => simp [Ieee.Datum.isNaN] at hs
    | infinity s => exact ⟨_, rfl⟩
    | number s m e => simp only [Ieee.Datum.quotient]; rw [if_neg n2]; exact ⟨_, rfl⟩
  obtain ⟨x, hx⟩ := key
  have hb : floatBits .quo .f32 s (floatOfInt .f32 (d : Int)) = some (FloatKind.f32.format.write x) := by
    simp only [floatBits, Ieee.Format.div, hx]; rfl
  exact ⟨_, hb, floatBits_num hb⟩
def thinC (zs : List Nat) (d k : Nat) : Option Nat := fop .quo .f32 (sumAt zs (k * d) d) (some (floatOfInt .f32 (d : Int)))
def thinR (zs : List Nat) (d : Int) : List (Option Nat) × Bool := if soundB (zs.map (cls .f32)) && (decide (1 ≤ d) && decide (d ≤ 256)) then soundR (thinC zs d.toNat) (zs.length / d.toNat) else ([], false)
theorem thin_len (zs : List Nat) (d : Int) : (thinR zs d).1.length ≤ 256 := by
  unfold thinR
  split
  · rename_i h
    simp only [Bool.and_eq_true] at h
    have h1 := sound_len h.1
    have h2 := soundR_len (thinC zs d.toNat) (zs.length / d.toNat)
    have h3 := Nat.div_le_self zs.length d.toNat
    simp at h1
    omega
  · exact Nat.zero_le _

set_option maxHeartbeats 4000000 in
set_option maxRecDepth 100000 in
theorem thin_clo (k b1 b2 n c d : Nat) (a : Option Addr) (zs : List Nat) (w : World) (hk : (k + 1) * d ≤ n) (h0 : d ≠ 0) (hkb : k ≤ 1048576) (hd : d ≤ 256) (hn : n ≤ 1048576) (hcap : n ≤ c) (h1 : Box w b1 #[.slice a n c]) (h2 : Box w b2 #[.int .i64 (d : Int)]) (g1 : Holds .f32 w a n zs) (hF : ∀ k, k < n → fin32 (cls .f32 (zs.getD k 0)) = true) :
    Calls Try.prog 61 #[.int .i64 (k : Int), .pointer (some ⟨b1, 0, none⟩), .pointer (some ⟨b2, 0, none⟩)] w fun e w' => ∃ r, e = .returned (.float .f32 r) ∧ cls .f32 r = fop .quo .f32 (sumAt zs (k * d) d) (some (floatOfInt .f32 (d : Int))) ∧ Ext w w' := by
  obtain ⟨d1, l1⟩ := Box.cells1 h1
  obtain ⟨d2, l2⟩ := Box.cells1 h2
  have hpd : k * d + d = (k + 1) * d := by rw [Nat.add_mul, Nat.one_mul]
  have hP1 : ((k : Int)) * (d : Int) = ((k * d : Nat) : Int) := by simp
  obtain ⟨e2, he2⟩ : ∃ e2, e2 = k * d + d := ⟨_, rfl⟩
  obtain ⟨k1, hk1⟩ : ∃ k1, k1 = k + 1 := ⟨_, rfl⟩
  have hK1 : (k : Int) + 1 = (k1 : Int) := by omega
  have hP2 : (k1 : Int) * (d : Int) = (e2 : Int) := by rw [he2, hpd, hk1]; simp
  have hpn : k * d + d ≤ n := by omega
  generalize k * d = p at *
  obtain ⟨s, hs, hsn⟩ := sumAt_some hF hpn
  obtain ⟨q, hq, hqn⟩ := quo_some hsn h0 (by omega)
  rcases g1.2 with hz | ⟨b, off, rfl, hb, hc⟩
  · omega
  have SN : ∀ u, Ext w u → Calls Try.prog 62 #[.slice (some ⟨b, off + p, none⟩) (e2 - p) (c - p), .func (.func 63) #[] #[]] u fun e w' => e = .returned (.float .f32 s) ∧ ∃ q, w' = u.drewN q := fun u hu => by
    rw [show e2 - p = d by omega]
    refine (sumAll_any _ d (c - p) ((zs.drop p).take d) u (hold_part (Holds.ext g1 hu) hpn) (by omega)).mono ?_
    rintro e w' ⟨r, rfl, hr, q, rfl⟩
    rw [sumAt_part, hs] at hr
    exact ⟨by rw [cls_word (Is.out hr)], q, rfl⟩
  have W1 : IntKind.i64.wrap (p : Int) = (p : Int) := wrap_small (by omega) (by omega)
  have W2 : IntKind.i64.wrap (k1 : Int) = (k1 : Int) := wrap_small (by omega) (by omega)
  have W3 : IntKind.i64.wrap (e2 : Int) = (e2 : Int) := wrap_small (by omega) (by omega)
  have Q1 : ∀ w : World, (binOp .quo 33 (.float .f32 s) (.float .f32 (floatOfInt .f32 (d : Int)))).run Try.prog w = .ok (.float .f32 q) w := fun w => run_float_arith w .quo 33 .f32 _ _ _ hq
  have hi0 : (0 : Int) ≤ (p : Int) := by omega
  have hi1 : (p : Int) ≤ (e2 : Int) := by omega
  have hi2 : (e2 : Int) ≤ (c : Int) := by omega
  have hi3 : ¬ c = p := by omega
  have HSN := hid SN
  have HRES := hid (show cls .f32 q = fop .quo .f32 (sumAt zs p d) (some (floatOfInt .f32 (d : Int))) from by rw [hs, cls_num hqn]; exact hq.symm)
  clear SN h1 h2 g1 hF hb hc hq hs hk1 he2 hpd hk hpn
  go_enter Try.func61, Try.ntmps61
  go_wp2_with fail
  go_quiet (first | (go_at_call 62; refine Calls.quiet_of (v := .float .f32 s) ?_; with_reducible exact HSN.out _ (by (repeat with_reducible (first | exact Ext.refl _ | exact ext_alloc _ _ | refine Ext.drewN ?_ _ | refine Ext.drew1 ?_ | refine Ext.set ?_ (by dsimp only; omega) _ | refine Ext.alloc ?_ _)))))
  go_wp2
  go_ret
  exact ⟨_, rfl, HRES.out, by (repeat with_reducible (first | exact Ext.refl _ | exact ext_alloc _ _ | refine Ext.drewN ?_ _ | refine Ext.drew1 ?_ | refine Ext.set ?_ (by dsimp only; omega) _ | refine Ext.alloc ?_ _))⟩

set_option maxHeartbeats 4000000 in
set_option maxRecDepth 100000 in
theorem thin_any (a : Option Addr) (n c : Nat) (d : Int) (zs : List Nat) (R : List (Option Nat)) (O : Bool) (w : World) (h : Holds .f32 w a n zs) (hn : n ≤ 1048576) (hcap : n ≤ c) (hR : thinR zs d = (R, O)) :
    Calls Try.prog 30 #[.slice a n c, .int .i64 d] w fun e w' => ∃ v, e = .returned (.tuple #[v, .bool O]) ∧ ListIs w' w.heap.size R v ∧ Ext w w' := by
  have H1 := hid h
  have HN := hid hn
  have HL := hid h.1
  have HR := hid hR
  clear h hn hR
  cases hA : soundB (zs.map (cls .f32))
  · have e : O = false ∧ R = [] := by have := HR.out; unfold thinR at this; rw [hA] at this; simpa [eq_comm, and_comm] using this
    obtain ⟨rfl, rfl⟩ := e
    go_enter Try.func30, Try.ntmps30
    go_wp2_with (first | (go_at_call 55; with_reducible refine (isSound_drew a n c zs _ _ (Holds.ext H1.out (by (repeat with_reducible (first | exact Ext.refl _ | exact ext_alloc _ _ | refine Ext.drewN ?_ _ | refine Ext.drew1 ?_ | refine Ext.set ?_ (by dsimp only; omega) _ | refine Ext.alloc ?_ _)))) HN.out hA).mono ?_; rintro e w' ⟨rfl, m1, rfl⟩))
    go_returns
    refine ⟨_, rfl, nil_is _ _, ?_⟩
    (repeat with_reducible (first | exact Ext.refl _ | exact ext_alloc _ _ | refine Ext.drewN ?_ _ | refine Ext.drew1 ?_ | refine Ext.set ?_ (by dsimp only; omega) _ | refine Ext.alloc ?_ _))
  by_cases hm : ¬ (1 ≤ d ∧ d ≤ 256)
  · have e : O = false ∧ R = [] := by have := HR.out; unfold thinR at this; rw [if_neg (by rw [hA]; simp; omega)] at this; simpa [eq_comm, and_comm] using this
    obtain ⟨rfl, rfl⟩ := e
    go_enter Try.func30, Try.ntmps30
    go_wp2_with (first | (go_at_call 55; with_reducible refine (isSound_drew a n c zs _ _ (Holds.ext H1.out (by (repeat with_reducible (first | exact Ext.refl _ | exact ext_alloc _ _ | refine Ext.drewN ?_ _ | refine Ext.drew1 ?_ | refine Ext.set ?_ (by dsimp only; omega) _ | refine Ext.alloc ?_ _)))) HN.out hA).mono ?_; rintro e w' ⟨rfl, m1, rfl⟩) | (go_at_call 49; with_reducible refine (isCount_no d hm _).mono ?_; rintro e w' ⟨rfl, rfl⟩))
    go_returns
    refine ⟨_, rfl, nil_is _ _, ?_⟩
    (repeat with_reducible (first | exact Ext.refl _ | exact ext_alloc _ _ | refine Ext.drewN ?_ _ | refine Ext.drew1 ?_ | refine Ext.set ?_ (by dsimp only; omega) _ | refine Ext.alloc ?_ _))
  replace hm := Decidable.not_not.1 hm
  have HS := hid (show soundR (thinC zs d.toNat) (n / d.toNat) = (R, O) from by have := HR.out; unfold thinR at this; rw [if_pos (by rw [hA]; simp; omega), HL.out] at this; exact this)
  obtain ⟨d, rfl⟩ : ∃ q : Nat, d = (q : Int) := ⟨d.toNat, by omega⟩
  have HS2 := hid (show soundR (thinC zs d) (n / d) = (R, O) from HS.out)
  have HD := hid (show 1 ≤ d ∧ d ≤ 256 by omega)
  have HF := hid (fun k (hk : k < n) => sound_fin hA k (by rw [HL.out]; exact hk))
  have hnd : n / d ≤ n := Nat.div_le_self n d
  have HND := hid (show n / d ≤ 1048576 by have := HN.out; omega)
  have HMD := hid (show ∀ k, k < n / d ↔ (k + 1) * d ≤ n from fun k => by rw [← Nat.le_div_iff_mul_le (by omega : 0 < d)]; exact Iff.rfl)
  clear HR HS
  have HCAP := hid hcap
  have hdiv : (n : Int).tdiv (d : Int) = ((n / d : Nat) : Int) := by rfl
  have hd0 : ¬ ((d : Int) = 0) := by omega
  generalize n / d = m at *
  have W1 : IntKind.i64.wrap (m : Int) = (m : Int) := wrap_small (by omega) (by have := HND.out; omega)
  clear hcap hnd
  go_enter Try.func30, Try.ntmps30
  go_wp2_with (first | (go_at_call 55; with_reducible refine (isSound_drew a n c zs _ _ (Holds.ext H1.out (by (repeat with_reducible (first | exact Ext.refl _ | exact ext_alloc _ _ | refine Ext.drewN ?_ _ | refine Ext.drew1 ?_ | refine Ext.set ?_ (by dsimp only; omega) _ | refine Ext.alloc ?_ _)))) HN.out hA).mono ?_; rintro e w' ⟨rfl, m1, rfl⟩) | (go_at_call 49; with_reducible refine (isCount_yes (d : Int) hm _).mono ?_; rintro e w' ⟨rfl, rfl⟩))
  obtain ⟨w0, hw0⟩ : ∃ u, u = ((w.alloc (.cells #[.slice a n c] 22)).alloc (.cells #[.int .i64 (d : Int)] 2)).drewN m1 := ⟨_, rfl⟩
  rw [← hw0]
  have EX := hid (show Ext w w0 from by rw [hw0]; (repeat with_reducible (first | exact Ext.refl _ | exact ext_alloc _ _ | refine Ext.drewN ?_ _ | refine Ext.drew1 ?_ | refine Ext.set ?_ (by dsimp only; omega) _ | refine Ext.alloc ?_ _)))
  have B0 : Hid (Box w0 w.heap.size #[.slice a n c]) := by rw [hw0]; exact hid (Box.drewN (Box.alloc (box_new (w := w) #[.slice a n c] 22) _) _)
  have B1 : Hid (Box w0 (w.heap.size + 1) #[.int .i64 (d : Int)]) := by rw [hw0]; exact hid (Box.drewN (Box.cast' (box_new (w := w.alloc (.cells #[.slice a n c] 22)) #[.int .i64 (d : Int)] 2) (by simp)) _)
  clear hw0
  refine (soundOf_any m 61 #[.pointer (some ⟨w.heap.size, 0, none⟩), .pointer (some ⟨w.heap.size + 1, 0, none⟩)] (thinC zs d) R O w0 HND.out (fun _ _ => by simp [go_sem]) (fun k hk wr e => thin_clo k _ _ n c d a zs wr ((HMD.out k).1 hk) (by have := HD.out; omega) (by have := HND.out; omega) HD.out.2 HN.out HCAP.out (Box.ext B0.out e) (Box.ext B1.out e) (Holds.ext H1.out (Ext.trans EX.out e)) HF.out) HS2.out).mono ?_
  rintro e w1 ⟨v, rfl, hv, E1⟩
  have HL2 := hid hv
  have EY := hid (Ext.trans EX.out E1)
  have HZ := hid (show w.heap.size ≤ w0.heap.size from Ext.size EX.out)
  clear hv E1
  go_wp2_with fail
  go_returns
  exact ⟨_, rfl, ListIs.base HL2.out HZ.out, EY.out⟩

set_option maxHeartbeats 4000000 in
set_option maxRecDepth 100000 in
theorem sThin_any (a : Option Addr) (n c : Nat) (d : Int) (zs : List Nat) (R : List (Option Nat)) (O : Bool) (w : World) (h : Holds .f32 w a n zs) (hn : n ≤ 1048576) (hR : thinR zs d = (R, O)) :
    Calls Try.prog 29 #[.slice a n c, .int .i64 d] w fun e w' => ∃ v, e = .returned (.tuple #[v, .bool O]) ∧ ListIs w' w.heap.size R v ∧ Ext w w' := by
  have H1 := hid h
  have HN := hid hn
  have HL := hid h.1
  have HR := hid hR
  clear h hn hR
  cases hA : soundB (zs.map (cls .f32))
  · have e : O = false ∧ R = [] := by have := HR.out; unfold thinR at this; rw [hA] at this; simpa [eq_comm, and_comm] using this
    obtain ⟨rfl, rfl⟩ := e
    go_enter Try.func29, Try.ntmps29
    go_wp2_with (first | (go_at_call 53; with_reducible refine (l03Sound_drew a n c zs _ _ (Holds.ext H1.out (by (repeat with_reducible (first | exact Ext.refl _ | exact ext_alloc _ _ | refine Ext.drewN ?_ _ | refine Ext.drew1 ?_ | refine Ext.set ?_ (by dsimp only; omega) _ | refine Ext.alloc ?_ _)))) HN.out hA).mono ?_; rintro e w' ⟨rfl, m1, rfl⟩))
    go_returns
    refine ⟨_, rfl, nil_is _ _, ?_⟩
    (repeat with_reducible (first | exact Ext.refl _ | exact ext_alloc _ _ | refine Ext.drewN ?_ _ | refine Ext.drew1 ?_ | refine Ext.set ?_ (by dsimp only; omega) _ | refine Ext.alloc ?_ _))
  by_cases hm : ¬ (1 ≤ d ∧ d ≤ 256)
  · have e : O = false ∧ R = [] := by have := HR.out; unfold thinR at this; rw [if_neg (by rw [hA]; simp; omega)] at this; simpa [eq_comm, and_comm] using this
    obtain ⟨rfl, rfl⟩ := e
    go_enter Try.func29, Try.ntmps29
    go_wp2_with (first | (go_at_call 53; with_reducible refine (l03Sound_drew a n c zs _ _ (Holds.ext H1.out (by (repeat with_reducible (first | exact Ext.refl _ | exact ext_alloc _ _ | refine Ext.drewN ?_ _ | refine Ext.drew1 ?_ | refine Ext.set ?_ (by dsimp only; omega) _ | refine Ext.alloc ?_ _)))) HN.out hA).mono ?_; rintro e w' ⟨rfl, m1, rfl⟩) | (go_at_call 47; with_reducible refine (l00In_no d 1 256 hm _).mono ?_; rintro e w' ⟨rfl, rfl⟩))
    go_returns
    refine ⟨_, rfl, nil_is _ _, ?_⟩
    (repeat with_reducible (first | exact Ext.refl _ | exact ext_alloc _ _ | refine Ext.drewN ?_ _ | refine Ext.drew1 ?_ | refine Ext.set ?_ (by dsimp only; omega) _ | refine Ext.alloc ?_ _))
  replace hm := Decidable.not_not.1 hm
  have HS := hid (show soundR (thinC zs d.toNat) (n / d.toNat) = (R, O) from by have := HR.out; unfold thinR at this; rw [if_pos (by rw [hA]; simp; omega), HL.out] at this; exact this)
  obtain ⟨d, rfl⟩ : ∃ q : Nat, d = (q : Int) := ⟨d.toNat, by omega⟩
  have HS2 := hid (show soundR (thinC zs d) (n / d) = (R, O) from HS.out)
  have HD := hid (show 1 ≤ d ∧ d ≤ 256 by omega)
  have HF := hid (fun k (hk : k < n) => sound_fin hA k (by rw [HL.out]; exact hk))
  have hnd : n / d ≤ n := Nat.div_le_self n d
  have HND := hid (show n / d ≤ 1048576 by have := HN.out; omega)
  have HMD := hid (show ∀ k, k < n / d ↔ (k + 1) * d ≤ n from fun k => by rw [← Nat.le_div_iff_mul_le (by omega : 0 < d)]; exact Iff.rfl)
  clear HR HS
  generalize n / d = m at *
  clear hnd
  obtain ⟨i0, hif, hz0, hz1, hz2⟩ := info_parts infoF
  have HI := hid (And.intro hif (And.intro hz0 (And.intro hz1 hz2)))
  clear hif hz0 hz1 hz2
  go_enter Try.func29, Try.ntmps29
  go_wp2_with (first | (go_at_call 53; with_reducible refine (l03Sound_drew a n c zs _ _ (Holds.ext H1.out (by (repeat with_reducible (first | exact Ext.refl _ | exact ext_alloc _ _ | refine Ext.drewN ?_ _ | refine Ext.drew1 ?_ | refine Ext.set ?_ (by dsimp only; omega) _ | refine Ext.alloc ?_ _)))) HN.out hA).mono ?_; rintro e w' ⟨rfl, m1, rfl⟩) | (go_at_call 47; with_reducible refine (l00In_yes (d : Int) 1 256 hm.1 hm.2 _).mono ?_; rintro e w' ⟨rfl, rfl⟩))
  go_loopw [6, 7] (fun v i wr => ∃ (t p : Nat) (ys : List Nat), t ≤ m ∧ p = t * d ∧ i = .int .i64 p ∧ Hid (Own wr w.heap.size t v ys) ∧ Hid (ys.map (cls .f32) = listK (thinC zs d) t) ∧ Hid (Ext w wr)) (fun _ i _ => n + 1 - (intOf i).toNat)
  case atStart => exact ⟨0, 0, [], Nat.zero_le _, by simp, rfl, hid (own_fresh (cs := #[]) (zs := []) (hid rfl) rfl (by simp) (by simp) (Nat.zero_le _)), rfl, hid (by (repeat with_reducible (first | exact Ext.refl _ | exact ext_alloc _ _ | refine Ext.drewN ?_ _ | refine Ext.drew1 ?_ | refine Ext.set ?_ (by dsimp only; omega) _ | refine Ext.alloc ?_ _)))⟩
  case round =>
    obtain ⟨t, p, ys, ht, hp, rfl, ho, hyy, he⟩ := hrel
    have hn2 : n ≤ 1048576 := HN.out
    have hd2 : 1 ≤ d ∧ d ≤ 256 := HD.out
    have hm2 : m ≤ 1048576 := HND.out
    have hmd := HMD.out t
    have hs := hid (listK_succ (thinC zs d) t)
    have HCC : Hid (thinC zs d t = fop .quo .f32 (sumAt zs p d) (some (floatOfInt .f32 (d : Int)))) := by rw [hp]; exact hid rfl
    have hpd : (t + 1) * d = p + d := by rw [hp, Nat.add_mul, Nat.one_mul]
    have hpn : p ≤ n := by
      by_cases h0 : t = 0
      · subst h0; omega
      · have h1 := (HMD.out (t - 1)).1 (by omega)
        rw [show t - 1 + 1 = t by omega, ← hp] at h1
        exact h1
    rw [hpd] at hmd
    have HPD := hid hpd
    clear hp hpd
    by_cases hlt : p + d ≤ n
    · have htm : t < m := hmd.2 hlt
      have hi0 : (p : Int) + (d : Int) ≤ (n : Int) := by omega
      have HSZ := hid (Ext.size he.out)
      rename World => wo
      go_wp2_with fail
      go_loopw [8, 9] (fun s i wi => ∃ (j r : Nat), j ≤ d ∧ i = .int .i64 j ∧ s = .float .f32 r ∧ Is .f32 r (sumAt zs p j) ∧ Hid (∃ q, wi = wo.drewN q)) (fun _ i _ => d - (intOf i).toNat)
      case atStart => exact ⟨0, 0, Nat.zero_le _, rfl, rfl, cls0, hid ⟨0, rfl⟩⟩
      case round =>
        obtain ⟨j, r0, hj, rfl, rfl, hr0, hw⟩ := hrel
        by_cases hlt2 : j < d
        · have E0 : Ext w wr := by obtain ⟨q, hq⟩ := hw.out; rw [hq]; exact Ext.drewN he.out _
          obtain ⟨b, off, rfl, e1⟩ := cell_at H1.out E0 (p + j) (by omega)
          have hd : Hid (sumAt zs p (j + 1) = fop .add .f32 (sumAt zs p j) (cls .f32 (zs.getD (p + j) 0))) := rfl
          generalize sumAt zs p j = D at hr0 hd
          generalize zs.getD (p + j) 0 = x at e1 hd
          have hj1 : (j : Int) < (d : Int) := by omega
          have hj2 : (p : Int) + (j : Int) = ((p + j : Nat) : Int) := by omega
          have hj3 : (0 : Int) ≤ ((p + j : Nat) : Int) := by omega
          have hj4 : ((p + j : Nat) : Int) < (n : Int) := by omega
          generalize hP : p + j = P at *
          clear E0
          go_wp2_with (first | (refine wpList_fa rfl rfl rfl rfl rfl (by first | assumption | exact is_const (by decide) | exact is_int _ | exact is_self _ _) (by first | assumption | exact is_const (by decide) | exact is_int _ | exact is_self _ _) ?_; intro r m9 hr hrw))
          go_roundw
          case rel => exact ⟨j + 1, _, by omega, by go_num, rfl, by rw [hd.out]; assumption, by obtain ⟨q, hq⟩ := hw.out; exact hid ⟨q + m9, by rw [hq, World.drewN_drewN]⟩⟩
          case measure => simp [intOf]; omega
        · have hjd : j = d := by omega
          have hj1 : ¬ ((j : Int) < (d : Int)) := by omega
          subst hjd
          obtain ⟨q, hq⟩ := hw.out
          subst hq
          go_wp2_with (first | (refine wpList_fa rfl rfl rfl rfl rfl hr0 (is_int _) ?_; intro r2 m9 hr2 hrw2) | (at_builtin; refine wpList_append_lies _ rfl _ _ 22 rfl w.heap.size 33 i0 (.float .f32 0) 1 4 Try.underlying22 HI.out.1 HI.out.2.1 HI.out.2.2.1 HI.out.2.2.2 rfl (by decide) _ _ _ rfl (Own.ext ho.out (by (repeat with_reducible (first | exact Ext.refl _ | exact ext_alloc _ _ | refine Ext.drewN ?_ _ | refine Ext.drew1 ?_ | refine Ext.set ?_ (by dsimp only; omega) _ | refine Ext.alloc ?_ _)))) ⟨wo.heap.size, 0, none⟩ 1 1 [.float .f32 r2] rfl rfl (World.news_of_block (heap_alloc_new _ _)) (by intro u hu; simp at hu; subst hu; rfl) (by omega) (by have h9 := HND.out; unfold maxLen; omega) (by have h9 := HND.out; omega) (by have h8 := HSZ.out; simp; omega) _ rfl ?_; intro g cap w1 hown hgrow hat hlt2))
          have h1 := hid (own_snoc hown)
          have h2 := hid (show Ext w w1 from But.below hgrow (Ext.trans he.out (by (repeat with_reducible (first | exact Ext.refl _ | exact ext_alloc _ _ | refine Ext.drewN ?_ _ | refine Ext.drew1 ?_ | refine Ext.set ?_ (by dsimp only; omega) _ | refine Ext.alloc ?_ _)))) (fun k2 hk2 => (Own.block ho.out k2 hk2).1))
          have h3 := hid (show (ys ++ [r2]).map (cls .f32) = listK (thinC zs j) (t + 1) from by rw [List.map_append, hyy.out, hs.out, HCC.out, ← Is.out hr2]; rfl)
          clear hown hgrow hat hlt2
          go_wp2
          go_roundw
          case rel => exact ⟨t + 1, p + j, ys ++ [r2], by omega, HPD.out.symm, by go_num, h1, h3, h2⟩
          case measure => simp [intOf]; omega
    · have htm : ¬ t < m := fun h => hlt (hmd.1 h)
      have hi0 : ¬ ((p : Int) + (d : Int) ≤ (n : Int)) := by omega
      have hkn : t = m := by omega
      subst hkn
      go_wp2_with fail
      refine (l03List_is _ _ w.heap.size ys R O _ ho.out HND.out (by rw [hyy.out]; exact HS2.out)).mono ?_
      rintro e w1 ⟨u, rfl, hu, E1⟩
      have hu1 := hid hu
      have hx1 := hid (Ext.trans he.out E1)
      clear hu E1
      go_wp2
      go_ret2
      exact ⟨_, rfl, hu1.out, hx1.out⟩

end Go.Proofs.Ytpmjiabllmomjaa

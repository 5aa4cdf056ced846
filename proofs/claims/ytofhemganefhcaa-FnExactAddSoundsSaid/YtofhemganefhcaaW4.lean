/- Sums of sounds. -/
import Derived.Test.YtofhemganefhcaaW1
import Derived.Test.YtofhemganefhcaaT8
import Derived.Test.YtofhemganefhcaaV12
import Derived.Test.YtofhemganefhcaaV14
namespace Go.Proofs.Ytofhemganefhcaa
open Go.RowKit Flt
set_option linter.unusedVariables false

def atW (zs : List Nat) (k : Nat) : Nat := if k < zs.length then zs.getD k 0 else 0
def addsC (us vs : List Nat) (k : Nat) : Option Nat := fop .add .f32 (cls .f32 (atW us k)) (cls .f32 (atW vs k))
def addsR (us vs : List Nat) : List (Option Nat) × Bool := if soundB (us.map (cls .f32)) && soundB (vs.map (cls .f32)) then soundR (addsC us vs) (max us.length vs.length) else ([], false)
theorem adds_len (us vs : List Nat) : (addsR us vs).1.length ≤ 256 := by
  unfold addsR
  split
  · rename_i h
    simp only [Bool.and_eq_true] at h
    have h1 := sound_len h.1
    have h2 := sound_len h.2
    have := soundR_len (addsC us vs) (max us.length vs.length)
    simp at h1 h2
    omega
  · exact Nat.zero_le _
theorem atW_fin {zs : List Nat} (h : soundB (zs.map (cls .f32)) = true) (k : Nat) : fin32 (cls .f32 (atW zs k)) = true := by
  unfold atW
  split
  · rename_i hk; exact fins_at h k hk
  · decide
theorem add_bits {x y : Nat} (hx : fin32 (cls .f32 x) = true) (hy : fin32 (cls .f32 y) = true) : ∃ r, floatBits .add .f32 x y = some r ∧ cls .f32 r = fop .add .f32 (cls .f32 x) (cls .f32 y) := by
  obtain ⟨e1, s, m, i, hr, _⟩ := fin_read hx
  obtain ⟨e2, t, n, j, h2, _⟩ := fin_read hy
  obtain ⟨d, hd, hnan⟩ : ∃ d, (Ieee.Datum.number s m i).sum (Ieee.Datum.number t n j) = some d ∧ d.isNaN = false := ⟨_, rfl, rfl⟩
  have hb : floatBits .add .f32 x y = some (FloatKind.f32.format.write d) := by
    simp only [floatBits, Ieee.Format.add, hr, h2, hd]; rfl
  refine ⟨_, hb, ?_⟩
  rw [e1, e2]
  show _ = floatBits .add .f32 x y
  rw [hb]
  exact cls_num (write_num .f32 d hnan)
theorem atW_any (a : Option Addr) (n c k : Nat) (zs : List Nat) (w : World) (h : Holds .f32 w a n zs) (hn : n ≤ 1048576) (hk : k ≤ 1048576) :
    Calls Try.prog 68 #[.slice a n c, .int .i64 (k : Int)] w fun e w' => e = .returned (.float .f32 (atW zs k)) ∧ ∃ m, w' = w.drewN m := by
  have HL := hid h.1
  by_cases hlt : k < n
  · obtain ⟨b, off, rfl, e1⟩ := cell_at h (Ext.refl _) k hlt
    have HE := hid (show atW zs k = zs.getD k 0 from by unfold atW; rw [HL.out, if_pos hlt])
    generalize zs.getD k 0 = q at e1 HE
    have hi0 : (0 : Int) ≤ (k : Int) := by omega
    have hi1 : (k : Int) < (n : Int) := by omega
    have hi2 : ¬ ((n : Int) ≤ (k : Int)) := by omega
    clear h
    go_enter Try.func68, Try.ntmps68
    go_wp2
    go_ret
    exact ⟨by rw [HE.out]; rfl, 0, rfl⟩
  · have HE := hid (show atW zs k = 0 from by unfold atW; rw [HL.out, if_neg hlt])
    have hi2 : (n : Int) ≤ (k : Int) := by omega
    clear h
    go_enter Try.func68, Try.ntmps68
    go_wp2
    go_ret
    exact ⟨by rw [HE.out]; rfl, 0, rfl⟩
theorem atW_is (a : Option Addr) (n c k q : Nat) (zs : List Nat) (w : World) (h : Holds .f32 w a n zs) (hn : n ≤ 1048576) (hk : k ≤ 1048576) (hq : atW zs k = q) :
    Calls Try.prog 68 #[.slice a n c, .int .i64 (k : Int)] w fun e w' => e = .returned (.float .f32 q) ∧ ∃ m, w' = w.drewN m := by
  subst hq; exact atW_any a n c k zs w h hn hk
set_option maxHeartbeats 1000000 in
set_option maxRecDepth 100000 in
theorem adds_clo (k b1 b2 n m c1 c2 : Nat) (a1 a2 : Option Addr) (us vs : List Nat) (w : World) (hk : k ≤ 1048576) (hn : n ≤ 1048576) (hm : m ≤ 1048576) (h1 : Box w b1 #[.slice a1 n c1]) (h2 : Box w b2 #[.slice a2 m c2])
    (hu : Holds .f32 w a1 n us) (hv : Holds .f32 w a2 m vs) (sA : soundB (us.map (cls .f32)) = true) (sB : soundB (vs.map (cls .f32)) = true) :
    Calls Try.prog 67 #[.int .i64 (k : Int), .pointer (some ⟨b1, 0, none⟩), .pointer (some ⟨b2, 0, none⟩)] w fun e w' => ∃ r, e = .returned (.float .f32 r) ∧ cls .f32 r = addsC us vs k ∧ Ext w w' := by
  obtain ⟨c1', l1⟩ := Box.cells1 h1
  obtain ⟨c2', l2⟩ := Box.cells1 h2
  obtain ⟨r, hr1, hr2⟩ := add_bits (atW_fin sA k) (atW_fin sB k)
  obtain ⟨x, hx⟩ : ∃ x, atW us k = x := ⟨_, rfl⟩
  obtain ⟨y, hy⟩ : ∃ y, atW vs k = y := ⟨_, rfl⟩
  have HR := hid (show cls .f32 r = addsC us vs k from hr2)
  rw [hx, hy] at hr1
  have ca : ∀ w : World, (binOp .add 23 (.float .f32 x) (.float .f32 y)).run Try.prog w = .ok (.float .f32 r) w := fun w => run_float_arith w .add 23 .f32 _ _ _ hr1
  have HX := hid hx
  have HY := hid hy
  have HU := hid hu
  have HV := hid hv
  clear h1 h2 hu hv hr1 hr2 hx hy
  go_enter Try.func67, Try.ntmps67
  go_wp2
  go_quiet (first | (go_at_call 68; refine Calls.quiet_of (v := .float .f32 x) ?_; with_reducible exact atW_is a1 n c1 k x us _ (Holds.ext HU.out (by (repeat with_reducible (first | exact Ext.refl _ | exact ext_alloc _ _ | refine Ext.drewN ?_ _ | refine Ext.drew1 ?_ | refine Ext.set ?_ (by dsimp only; omega) _ | refine Ext.alloc ?_ _)))) hn hk HX.out) | (go_at_call 68; refine Calls.quiet_of (v := .float .f32 y) ?_; with_reducible exact atW_is a2 m c2 k y vs _ (Holds.ext HV.out (by (repeat with_reducible (first | exact Ext.refl _ | exact ext_alloc _ _ | refine Ext.drewN ?_ _ | refine Ext.drew1 ?_ | refine Ext.set ?_ (by dsimp only; omega) _ | refine Ext.alloc ?_ _)))) hm hk HY.out))
  go_wp2
  go_ret
  refine ⟨_, rfl, HR.out, ?_⟩
  (repeat with_reducible (first | exact Ext.refl _ | exact ext_alloc _ _ | refine Ext.drewN ?_ _ | refine Ext.drew1 ?_ | refine Ext.set ?_ (by dsimp only; omega) _ | refine Ext.alloc ?_ _))

set_option maxHeartbeats 4000000 in
set_option maxRecDepth 100000 in
theorem adds_any (a1 a2 : Option Addr) (n m c1 c2 : Nat) (us vs : List Nat) (R : List (Option Nat)) (O : Bool) (w : World) (h1 : Holds .f32 w a1 n us) (h2 : Holds .f32 w a2 m vs) (hn : n ≤ 1048576) (hm : m ≤ 1048576) (hR : addsR us vs = (R, O)) :
    Calls Try.prog 30 #[.slice a1 n c1, .slice a2 m c2] w fun e w' => ∃ v, e = .returned (.tuple #[v, .bool O]) ∧ ListIs w' w.heap.size R v ∧ Ext w w' := by
  have H1 := hid h1
  have H2 := hid h2
  have HN := hid hn
  have HM := hid hm
  have HR := hid hR
  clear h1 h2 hn hm hR
  cases hA : soundB (us.map (cls .f32))
  · have e : O = false ∧ R = [] := by have := HR.out; unfold addsR at this; rw [hA] at this; simpa [eq_comm, and_comm] using this
    obtain ⟨rfl, rfl⟩ := e
    go_enter Try.func30, Try.ntmps30
    go_wp2_with (first | (go_at_call 60; with_reducible refine (isSound_drew a1 n c1 us _ _ (Holds.ext H1.out (by (repeat with_reducible (first | exact Ext.refl _ | exact ext_alloc _ _ | refine Ext.drewN ?_ _ | refine Ext.drew1 ?_ | refine Ext.set ?_ (by dsimp only; omega) _ | refine Ext.alloc ?_ _)))) HN.out hA).mono ?_; rintro e w' ⟨rfl, m1, rfl⟩))
    go_returns
    refine ⟨_, rfl, nil_is _ _, ?_⟩
    (repeat with_reducible (first | exact Ext.refl _ | exact ext_alloc _ _ | refine Ext.drewN ?_ _ | refine Ext.drew1 ?_ | refine Ext.set ?_ (by dsimp only; omega) _ | refine Ext.alloc ?_ _))
  cases hB : soundB (vs.map (cls .f32))
  · have e : O = false ∧ R = [] := by have := HR.out; unfold addsR at this; rw [hA, hB] at this; simpa [eq_comm, and_comm] using this
    obtain ⟨rfl, rfl⟩ := e
    go_enter Try.func30, Try.ntmps30
    go_wp2_with (first | (go_at_call 60; with_reducible refine (isSound_drew a1 n c1 us _ _ (Holds.ext H1.out (by (repeat with_reducible (first | exact Ext.refl _ | exact ext_alloc _ _ | refine Ext.drewN ?_ _ | refine Ext.drew1 ?_ | refine Ext.set ?_ (by dsimp only; omega) _ | refine Ext.alloc ?_ _)))) HN.out hA).mono ?_; rintro e w' ⟨rfl, m1, rfl⟩) | (go_at_call 60; with_reducible refine (isSound_drew a2 m c2 vs _ _ (Holds.ext H2.out (by (repeat with_reducible (first | exact Ext.refl _ | exact ext_alloc _ _ | refine Ext.drewN ?_ _ | refine Ext.drew1 ?_ | refine Ext.set ?_ (by dsimp only; omega) _ | refine Ext.alloc ?_ _)))) HM.out hB).mono ?_; rintro e w' ⟨rfl, m2, rfl⟩))
    go_returns
    refine ⟨_, rfl, nil_is _ _, ?_⟩
    (repeat with_reducible (first | exact Ext.refl _ | exact ext_alloc _ _ | refine Ext.drewN ?_ _ | refine Ext.drew1 ?_ | refine Ext.set ?_ (by dsimp only; omega) _ | refine Ext.alloc ?_ _))
  have HS := hid (show soundR (addsC us vs) (max n m) = (R, O) from by have := HR.out; unfold addsR at this; rw [hA, hB, H1.out.1, H2.out.1] at this; simpa using this)
  have HK := hid (show max n m ≤ 1048576 from by have := HN.out; have := HM.out; omega)
  clear HR
  by_cases hnm : n < m
  · skip
    have HT := hid (show max n m = m by omega)
    have HS2 := hid (show soundR (addsC us vs) m = (R, O) from by have := HS.out; rwa [HT.out] at this)
    go_enter Try.func30, Try.ntmps30
    go_wp2_with (first | (go_at_call 60; with_reducible refine (isSound_drew a1 n c1 us _ _ (Holds.ext H1.out (by (repeat with_reducible (first | exact Ext.refl _ | exact ext_alloc _ _ | refine Ext.drewN ?_ _ | refine Ext.drew1 ?_ | refine Ext.set ?_ (by dsimp only; omega) _ | refine Ext.alloc ?_ _)))) HN.out hA).mono ?_; rintro e w' ⟨rfl, m1, rfl⟩) | (go_at_call 60; with_reducible refine (isSound_drew a2 m c2 vs _ _ (Holds.ext H2.out (by (repeat with_reducible (first | exact Ext.refl _ | exact ext_alloc _ _ | refine Ext.drewN ?_ _ | refine Ext.drew1 ?_ | refine Ext.set ?_ (by dsimp only; omega) _ | refine Ext.alloc ?_ _)))) HM.out hB).mono ?_; rintro e w' ⟨rfl, m2, rfl⟩))
    try simp only [World.drewN_drewN]
    obtain ⟨w0, hw0⟩ : ∃ u, u = ((w.alloc (.cells #[.slice a1 n c1] 22)).alloc (.cells #[.slice a2 m c2] 22)).drewN (m1 + m2) := ⟨_, rfl⟩
    rw [← hw0]
    have EX := hid (show Ext w w0 from by rw [hw0]; (repeat with_reducible (first | exact Ext.refl _ | exact ext_alloc _ _ | refine Ext.drewN ?_ _ | refine Ext.drew1 ?_ | refine Ext.set ?_ (by dsimp only; omega) _ | refine Ext.alloc ?_ _)))
    have B0 : Hid (Box w0 w.heap.size #[.slice a1 n c1]) := by rw [hw0]; exact hid (Box.drewN (Box.alloc (box_new (w := w) #[.slice a1 n c1] 22) _) _)
    have B1 : Hid (Box w0 (w.heap.size + 1) #[.slice a2 m c2]) := by rw [hw0]; exact hid (Box.drewN (Box.cast' (box_new (w := (w.alloc (.cells #[.slice a1 n c1] 22))) #[.slice a2 m c2] 22) (by simp)) _)
    clear hw0
    refine (soundOf_any m 67 #[.pointer (some ⟨w.heap.size, 0, none⟩), .pointer (some ⟨w.heap.size + 1, 0, none⟩)] (addsC us vs) R O w0 (by have := HN.out; have := HM.out; omega) (fun _ _ => by simp [go_sem]) (fun k hk wr e => adds_clo k _ _ n m c1 c2 a1 a2 us vs wr (by have := HN.out; have := HM.out; omega) HN.out HM.out (Box.ext B0.out e) (Box.ext B1.out e) (Holds.ext H1.out (Ext.trans EX.out e)) (Holds.ext H2.out (Ext.trans EX.out e)) hA hB) HS2.out).mono ?_
    rintro e w1 ⟨v, rfl, hv, E1⟩
    have HL2 := hid hv
    have EY := hid (Ext.trans EX.out E1)
    have HZ := hid (show w.heap.size ≤ w0.heap.size from Ext.size EX.out)
    clear hv E1
    go_wp2_with fail
    go_returns
    exact ⟨_, rfl, ListIs.base HL2.out HZ.out, EY.out⟩
  · skip
    have HT := hid (show max n m = n by omega)
    have HS2 := hid (show soundR (addsC us vs) n = (R, O) from by have := HS.out; rwa [HT.out] at this)
    go_enter Try.func30, Try.ntmps30
    go_wp2_with (first | (go_at_call 60; with_reducible refine (isSound_drew a1 n c1 us _ _ (Holds.ext H1.out (by (repeat with_reducible (first | exact Ext.refl _ | exact ext_alloc _ _ | refine Ext.drewN ?_ _ | refine Ext.drew1 ?_ | refine Ext.set ?_ (by dsimp only; omega) _ | refine Ext.alloc ?_ _)))) HN.out hA).mono ?_; rintro e w' ⟨rfl, m1, rfl⟩) | (go_at_call 60; with_reducible refine (isSound_drew a2 m c2 vs _ _ (Holds.ext H2.out (by (repeat with_reducible (first | exact Ext.refl _ | exact ext_alloc _ _ | refine Ext.drewN ?_ _ | refine Ext.drew1 ?_ | refine Ext.set ?_ (by dsimp only; omega) _ | refine Ext.alloc ?_ _)))) HM.out hB).mono ?_; rintro e w' ⟨rfl, m2, rfl⟩))
    try simp only [World.drewN_drewN]
    obtain ⟨w0, hw0⟩ : ∃ u, u = ((w.alloc (.cells #[.slice a1 n c1] 22)).alloc (.cells #[.slice a2 m c2] 22)).drewN (m1 + m2) := ⟨_, rfl⟩
    rw [← hw0]
    have EX := hid (show Ext w w0 from by rw [hw0]; (repeat with_reducible (first | exact Ext.refl _ | exact ext_alloc _ _ | refine Ext.drewN ?_ _ | refine Ext.drew1 ?_ | refine Ext.set ?_ (by dsimp only; omega) _ | refine Ext.alloc ?_ _)))
    have B0 : Hid (Box w0 w.heap.size #[.slice a1 n c1]) := by rw [hw0]; exact hid (Box.drewN (Box.alloc (box_new (w := w) #[.slice a1 n c1] 22) _) _)
    have B1 : Hid (Box w0 (w.heap.size + 1) #[.slice a2 m c2]) := by rw [hw0]; exact hid (Box.drewN (Box.cast' (box_new (w := (w.alloc (.cells #[.slice a1 n c1] 22))) #[.slice a2 m c2] 22) (by simp)) _)
    clear hw0
    refine (soundOf_any n 67 #[.pointer (some ⟨w.heap.size, 0, none⟩), .pointer (some ⟨w.heap.size + 1, 0, none⟩)] (addsC us vs) R O w0 (by have := HN.out; have := HM.out; omega) (fun _ _ => by simp [go_sem]) (fun k hk wr e => adds_clo k _ _ n m c1 c2 a1 a2 us vs wr (by have := HN.out; have := HM.out; omega) HN.out HM.out (Box.ext B0.out e) (Box.ext B1.out e) (Holds.ext H1.out (Ext.trans EX.out e)) (Holds.ext H2.out (Ext.trans EX.out e)) hA hB) HS2.out).mono ?_
    rintro e w1 ⟨v, rfl, hv, E1⟩
    have HL2 := hid hv
    have EY := hid (Ext.trans EX.out E1)
    have HZ := hid (show w.heap.size ≤ w0.heap.size from Ext.size EX.out)
    clear hv E1
    go_wp2_with fail
    go_returns
    exact ⟨_, rfl, ListIs.base HL2.out HZ.out, EY.out⟩

set_option maxHeartbeats 4000000 in
set_option maxRecDepth 100000 in
theorem sAdds_any (a1 a2 : Option Addr) (n m c1 c2 : Nat) (us vs : List Nat) (R : List (Option Nat)) (O : Bool) (w : World) (h1 : Holds .f32 w a1 n us) (h2 : Holds .f32 w a2 m vs) (hn : n ≤ 1048576) (hm : m ≤ 1048576) (hR : addsR us vs = (R, O)) :
    Calls Try.prog 29 #[.slice a1 n c1, .slice a2 m c2] w fun e w' => ∃ v, e = .returned (.tuple #[v, .bool O]) ∧ ListIs w' w.heap.size R v ∧ Ext w w' := by
  have H1 := hid h1
  have H2 := hid h2
  have HN := hid hn
  have HM := hid hm
  have HR := hid hR
  clear h1 h2 hn hm hR
  cases hA : soundB (us.map (cls .f32))
  · have e : O = false ∧ R = [] := by have := HR.out; unfold addsR at this; rw [hA] at this; simpa [eq_comm, and_comm] using this
    obtain ⟨rfl, rfl⟩ := e
    go_enter Try.func29, Try.ntmps29
    go_wp2_with (first | (go_at_call 57; with_reducible refine (l04Sound_drew a1 n c1 us _ _ (Holds.ext H1.out (by (repeat with_reducible (first | exact Ext.refl _ | exact ext_alloc _ _ | refine Ext.drewN ?_ _ | refine Ext.drew1 ?_ | refine Ext.set ?_ (by dsimp only; omega) _ | refine Ext.alloc ?_ _)))) HN.out hA).mono ?_; rintro e w' ⟨rfl, m1, rfl⟩))
    go_returns
    refine ⟨_, rfl, nil_is _ _, ?_⟩
    (repeat with_reducible (first | exact Ext.refl _ | exact ext_alloc _ _ | refine Ext.drewN ?_ _ | refine Ext.drew1 ?_ | refine Ext.set ?_ (by dsimp only; omega) _ | refine Ext.alloc ?_ _))
  cases hB : soundB (vs.map (cls .f32))
  · have e : O = false ∧ R = [] := by have := HR.out; unfold addsR at this; rw [hA, hB] at this; simpa [eq_comm, and_comm] using this
    obtain ⟨rfl, rfl⟩ := e
    go_enter Try.func29, Try.ntmps29
    go_wp2_with (first | (go_at_call 57; with_reducible refine (l04Sound_drew a1 n c1 us _ _ (Holds.ext H1.out (by (repeat with_reducible (first | exact Ext.refl _ | exact ext_alloc _ _ | refine Ext.drewN ?_ _ | refine Ext.drew1 ?_ | refine Ext.set ?_ (by dsimp only; omega) _ | refine Ext.alloc ?_ _)))) HN.out hA).mono ?_; rintro e w' ⟨rfl, m1, rfl⟩) | (go_at_call 57; with_reducible refine (l04Sound_drew a2 m c2 vs _ _ (Holds.ext H2.out (by (repeat with_reducible (first | exact Ext.refl _ | exact ext_alloc _ _ | refine Ext.drewN ?_ _ | refine Ext.drew1 ?_ | refine Ext.set ?_ (by dsimp only; omega) _ | refine Ext.alloc ?_ _)))) HM.out hB).mono ?_; rintro e w' ⟨rfl, m2, rfl⟩))
    go_returns
    refine ⟨_, rfl, nil_is _ _, ?_⟩
    (repeat with_reducible (first | exact Ext.refl _ | exact ext_alloc _ _ | refine Ext.drewN ?_ _ | refine Ext.drew1 ?_ | refine Ext.set ?_ (by dsimp only; omega) _ | refine Ext.alloc ?_ _))
  have HS := hid (show soundR (addsC us vs) (max n m) = (R, O) from by have := HR.out; unfold addsR at this; rw [hA, hB, H1.out.1, H2.out.1] at this; simpa using this)
  have HK := hid (show max n m ≤ 1048576 from by have := HN.out; have := HM.out; omega)
  clear HR
  obtain ⟨i0, hif, hz0, hz1, hz2⟩ := info_parts infoF
  have HI := hid (And.intro hif (And.intro hz0 (And.intro hz1 hz2)))
  clear hif hz0 hz1 hz2
  go_enter Try.func29, Try.ntmps29
  go_wp2_with (first | (go_at_call 57; with_reducible refine (l04Sound_drew a1 n c1 us _ _ (Holds.ext H1.out (by (repeat with_reducible (first | exact Ext.refl _ | exact ext_alloc _ _ | refine Ext.drewN ?_ _ | refine Ext.drew1 ?_ | refine Ext.set ?_ (by dsimp only; omega) _ | refine Ext.alloc ?_ _)))) HN.out hA).mono ?_; rintro e w' ⟨rfl, m1, rfl⟩) | (go_at_call 57; with_reducible refine (l04Sound_drew a2 m c2 vs _ _ (Holds.ext H2.out (by (repeat with_reducible (first | exact Ext.refl _ | exact ext_alloc _ _ | refine Ext.drewN ?_ _ | refine Ext.drew1 ?_ | refine Ext.set ?_ (by dsimp only; omega) _ | refine Ext.alloc ?_ _)))) HM.out hB).mono ?_; rintro e w' ⟨rfl, m2, rfl⟩))
  go_loopw [6, 7] (fun v i wr => ∃ (k : Nat) (ys : List Nat), k ≤ max n m ∧ i = .int .i64 k ∧ Hid (Own wr w.heap.size k v ys) ∧ Hid (ys.map (cls .f32) = listK (addsC us vs) k) ∧ Hid (Ext w wr)) (fun _ i _ => max n m - (intOf i).toNat)
  case atStart => exact ⟨0, [], Nat.zero_le _, rfl, hid (own_fresh (cs := #[]) (zs := []) (hid rfl) rfl (by simp) (by simp) (Nat.zero_le _)), rfl, hid (by (repeat with_reducible (first | exact Ext.refl _ | exact ext_alloc _ _ | refine Ext.drewN ?_ _ | refine Ext.drew1 ?_ | refine Ext.set ?_ (by dsimp only; omega) _ | refine Ext.alloc ?_ _)))⟩
  case round =>
    obtain ⟨k, ys, hk, rfl, ho, hyy, he⟩ := hrel
    have hn2 : n ≤ 1048576 := HN.out
    have hm2 : m ≤ 1048576 := HM.out
    have hs := hid (listK_succ (addsC us vs) k)
    by_cases hlt : k < max n m
    · have hi0 : (0 : Int) ≤ (k : Int) := by omega
      by_cases hc : k < n ∧ k < m
      · have hp : ((k : Int) < (n : Int)) := by omega
        have hq : ((k : Int) < (m : Int)) := by omega
        obtain ⟨b, off, rfl, e1⟩ := cell_at H1.out he.out k (by omega)
        obtain ⟨b', off', rfl, e2⟩ := cell_at H2.out he.out k (by omega)
        have X1 : Hid (atW us k = us.getD k 0) := by show _ = _; unfold atW; rw [H1.out.1, if_pos (by omega)]
        have X2 : Hid (atW vs k = vs.getD k 0) := by show _ = _; unfold atW; rw [H2.out.1, if_pos (by omega)]
        generalize us.getD k 0 = x at e1 X1
        generalize vs.getD k 0 = y at e2 X2
        have HCC : Hid (addsC us vs k = fop .add .f32 (cls .f32 x) (cls .f32 y)) := by show _ = _; unfold addsC; rw [X1.out, X2.out]
        have HSZ := hid (Ext.size he.out)
        clear X1 X2
        go_wp2_with (first | (refine wpList_fa rfl rfl rfl rfl rfl (is_self .f32 _) (is_self .f32 _) ?_; intro r m9 hr hrw) | (at_builtin; refine wpList_append_lies _ rfl _ _ 22 rfl w.heap.size 23 i0 (.float .f32 0) 1 4 Try.underlying22 HI.out.1 HI.out.2.1 HI.out.2.2.1 HI.out.2.2.2 rfl (by decide) _ _ _ rfl (Own.ext ho.out (by (repeat with_reducible (first | exact Ext.refl _ | exact ext_alloc _ _ | refine Ext.drewN ?_ _ | refine Ext.drew1 ?_ | refine Ext.set ?_ (by dsimp only; omega) _ | refine Ext.alloc ?_ _)))) ⟨wr.heap.size, 0, none⟩ 1 1 [.float .f32 r] rfl rfl (World.news_of_block (heap_alloc_new _ _)) (by intro u hu; simp at hu; subst hu; rfl) (by omega) (by have h9 := HK.out; unfold maxLen; omega) (by have h9 := HK.out; omega) (by have h8 := HSZ.out; simp; omega) _ rfl ?_; intro g cap w1 hown hgrow hat hlt2))
        have h1 := hid (own_snoc hown)
        have h2 := hid (show Ext w w1 from But.below hgrow (Ext.trans he.out (by (repeat with_reducible (first | exact Ext.refl _ | exact ext_alloc _ _ | refine Ext.drewN ?_ _ | refine Ext.drew1 ?_ | refine Ext.set ?_ (by dsimp only; omega) _ | refine Ext.alloc ?_ _)))) (fun k2 hk2 => (Own.block ho.out k2 hk2).1))
        have h3 := hid (show (ys ++ [r]).map (cls .f32) = listK (addsC us vs) (k + 1) from by rw [List.map_append, hyy.out, hs.out, HCC.out, ← Is.out hr]; rfl)
        clear hown hgrow hat hlt2
        go_wp2
        go_roundw
        case rel => exact ⟨k + 1, ys ++ [r], by omega, by go_num, h1, h3, h2⟩
        case measure => simp [intOf]; omega
      by_cases hc : k < n
      · have hp : ((k : Int) < (n : Int)) := by omega
        have hq : ¬ ((k : Int) < (m : Int)) := by omega
        obtain ⟨b, off, rfl, e1⟩ := cell_at H1.out he.out k (by omega)
        have X1 : Hid (atW us k = us.getD k 0) := by show _ = _; unfold atW; rw [H1.out.1, if_pos (by omega)]
        have X2 : Hid (atW vs k = 0) := by show _ = _; unfold atW; rw [H2.out.1, if_neg (by omega)]
        generalize us.getD k 0 = x at e1 X1
        have HCC : Hid (addsC us vs k = fop .add .f32 (cls .f32 x) (cls .f32 0)) := by show _ = _; unfold addsC; rw [X1.out, X2.out]
        have HSZ := hid (Ext.size he.out)
        clear X1 X2
        go_wp2_with (first | (refine wpList_fa rfl rfl rfl rfl rfl (is_self .f32 _) (is_self .f32 _) ?_; intro r m9 hr hrw) | (at_builtin; refine wpList_append_lies _ rfl _ _ 22 rfl w.heap.size 23 i0 (.float .f32 0) 1 4 Try.underlying22 HI.out.1 HI.out.2.1 HI.out.2.2.1 HI.out.2.2.2 rfl (by decide) _ _ _ rfl (Own.ext ho.out (by (repeat with_reducible (first | exact Ext.refl _ | exact ext_alloc _ _ | refine Ext.drewN ?_ _ | refine Ext.drew1 ?_ | refine Ext.set ?_ (by dsimp only; omega) _ | refine Ext.alloc ?_ _)))) ⟨wr.heap.size, 0, none⟩ 1 1 [.float .f32 r] rfl rfl (World.news_of_block (heap_alloc_new _ _)) (by intro u hu; simp at hu; subst hu; rfl) (by omega) (by have h9 := HK.out; unfold maxLen; omega) (by have h9 := HK.out; omega) (by have h8 := HSZ.out; simp; omega) _ rfl ?_; intro g cap w1 hown hgrow hat hlt2))
        have h1 := hid (own_snoc hown)
        have h2 := hid (show Ext w w1 from But.below hgrow (Ext.trans he.out (by (repeat with_reducible (first | exact Ext.refl _ | exact ext_alloc _ _ | refine Ext.drewN ?_ _ | refine Ext.drew1 ?_ | refine Ext.set ?_ (by dsimp only; omega) _ | refine Ext.alloc ?_ _)))) (fun k2 hk2 => (Own.block ho.out k2 hk2).1))
        have h3 := hid (show (ys ++ [r]).map (cls .f32) = listK (addsC us vs) (k + 1) from by rw [List.map_append, hyy.out, hs.out, HCC.out, ← Is.out hr]; rfl)
        clear hown hgrow hat hlt2
        go_wp2
        go_roundw
        case rel => exact ⟨k + 1, ys ++ [r], by omega, by go_num, h1, h3, h2⟩
        case measure => simp [intOf]; omega
      have hp : ¬ ((k : Int) < (n : Int)) := by omega
      have hq : ((k : Int) < (m : Int)) := by omega
      obtain ⟨b', off', rfl, e2⟩ := cell_at H2.out he.out k (by omega)
      have X1 : Hid (atW us k = 0) := by show _ = _; unfold atW; rw [H1.out.1, if_neg (by omega)]
      have X2 : Hid (atW vs k = vs.getD k 0) := by show _ = _; unfold atW; rw [H2.out.1, if_pos (by omega)]
      generalize vs.getD k 0 = y at e2 X2
      have HCC : Hid (addsC us vs k = fop .add .f32 (cls .f32 0) (cls .f32 y)) := by show _ = _; unfold addsC; rw [X1.out, X2.out]
      have HSZ := hid (Ext.size he.out)
      clear X1 X2
      go_wp2_with (first | (refine wpList_fa rfl rfl rfl rfl rfl (is_self .f32 _) (is_self .f32 _) ?_; intro r m9 hr hrw) | (at_builtin; refine wpList_append_lies _ rfl _ _ 22 rfl w.heap.size 23 i0 (.float .f32 0) 1 4 Try.underlying22 HI.out.1 HI.out.2.1 HI.out.2.2.1 HI.out.2.2.2 rfl (by decide) _ _ _ rfl (Own.ext ho.out (by (repeat with_reducible (first | exact Ext.refl _ | exact ext_alloc _ _ | refine Ext.drewN ?_ _ | refine Ext.drew1 ?_ | refine Ext.set ?_ (by dsimp only; omega) _ | refine Ext.alloc ?_ _)))) ⟨wr.heap.size, 0, none⟩ 1 1 [.float .f32 r] rfl rfl (World.news_of_block (heap_alloc_new _ _)) (by intro u hu; simp at hu; subst hu; rfl) (by omega) (by have h9 := HK.out; unfold maxLen; omega) (by have h9 := HK.out; omega) (by have h8 := HSZ.out; simp; omega) _ rfl ?_; intro g cap w1 hown hgrow hat hlt2))
      have h1 := hid (own_snoc hown)
      have h2 := hid (show Ext w w1 from But.below hgrow (Ext.trans he.out (by (repeat with_reducible (first | exact Ext.refl _ | exact ext_alloc _ _ | refine Ext.drewN ?_ _ | refine Ext.drew1 ?_ | refine Ext.set ?_ (by dsimp only; omega) _ | refine Ext.alloc ?_ _)))) (fun k2 hk2 => (Own.block ho.out k2 hk2).1))
      have h3 := hid (show (ys ++ [r]).map (cls .f32) = listK (addsC us vs) (k + 1) from by rw [List.map_append, hyy.out, hs.out, HCC.out, ← Is.out hr]; rfl)
      clear hown hgrow hat hlt2
      go_wp2
      go_roundw
      case rel => exact ⟨k + 1, ys ++ [r], by omega, by go_num, h1, h3, h2⟩
      case measure => simp [intOf]; omega

    · have hkn : k = max n m := by omega
      have hp : ¬ ((k : Int) < (n : Int)) := by omega
      have hq : ¬ ((k : Int) < (m : Int)) := by omega
      go_wp2_with fail
      refine (l02List_is _ _ w.heap.size ys R O _ ho.out (by omega) (by rw [hyy.out, hkn]; exact HS.out)).mono ?_
      rintro e w1 ⟨u, rfl, hu, E1⟩
      have hu1 := hid hu
      have hx1 := hid (Ext.trans he.out E1)
      clear hu E1
      go_wp2
      go_ret2
      exact ⟨_, rfl, hu1.out, hx1.out⟩

end Go.Proofs.Ytofhemganefhcaa

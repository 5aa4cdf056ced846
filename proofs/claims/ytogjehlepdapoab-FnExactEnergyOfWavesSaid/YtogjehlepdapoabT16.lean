/- The energy of waves. -/
import Derived.Test.YtogjehlepdapoabT15
import Derived.Test.YtogjehlepdapoabT5
namespace Go.Proofs.Ytogjehlepdapoab
open Go.RowKit Flt
set_option linter.unusedVariables false

def sqC (x y : Option Nat) : Option Nat := fop .add .f32 (fop .mul .f32 x x) (fop .mul .f32 y y)
def energyC (zs rs ls : List Nat) : Nat → Option Nat
  | 0 => some 0
  | k + 1 => fop .add .f32 (energyC zs rs ls k) (fop .mul .f32 (cls .f32 (zs.getD k 0)) (sqC (cls .f32 (rs.getD k 0)) (cls .f32 (ls.getD k 0))))
def energyR (zs rs ls : List Nat) (l t p : Option Nat) : Option Nat × Bool := if wavesB (zs.map (cls .f32)) l t p (rs.map (cls .f32)) (ls.map (cls .f32)) then (finR (energyC zs rs ls zs.length), fin32 (energyC zs rs ls zs.length)) else (some 0, false)
theorem waves_lens {zs rs ls : List Nat} {l t p : Option Nat} (h : wavesB (zs.map (cls .f32)) l t p (rs.map (cls .f32)) (ls.map (cls .f32)) = true) : rs.length = zs.length ∧ ls.length = zs.length := by
  unfold wavesB at h
  simp at h
  exact ⟨h.2.1, h.2.2.1⟩

set_option maxHeartbeats 2000000 in
set_option maxRecDepth 100000 in
theorem energy_any (a b1 b2 : Option Addr) (n c l t p n1 d1 n2 d2 : Nat) (zs rs ls : List Nat) (R : Option Nat) (O : Bool) (w : World) (h : Holds .f32 w a n zs) (k1 : Holds .f32 w b1 n1 rs) (k2 : Holds .f32 w b2 n2 ls) (hn : n ≤ 1048576) (hn1 : n1 ≤ 1048576) (hn2 : n2 ≤ 1048576) (hR : energyR zs rs ls (cls .f32 l) (cls .f32 t) (cls .f32 p) = (R, O)) :
    Calls Try.prog 53 #[.agg #[.slice a n c, .float .f32 l, .float .f32 t, .float .f32 p], .agg #[.slice b1 n1 d1, .slice b2 n2 d2]] w fun e w' => ∃ r, e = .returned (.tuple #[.float .f32 r, .bool O]) ∧ Is .f32 r R ∧ Ext w w' := by
  have HH := hid h
  have H1 := hid k1
  have H2 := hid k2
  have HN := hid hn
  have HN1 := hid hn1
  have HN2 := hid hn2
  have HL := hid h.1
  have HR1 := hid k1.1
  have HR2 := hid k2.1
  clear h k1 k2
  cases hW : wavesB (zs.map (cls .f32)) (cls .f32 l) (cls .f32 t) (cls .f32 p) (rs.map (cls .f32)) (ls.map (cls .f32))
  · have e := hR
    unfold energyR at e
    rw [hW] at e
    simp only [Bool.false_eq_true, if_false, Prod.mk.injEq] at e
    obtain ⟨rfl, rfl⟩ := e
    clear hR
    go_enter Try.func53, Try.ntmps53
    go_wp2_with fail
    refine (areWaves_any _ _ _ _ _ _ _ _ _ _ _ _ zs rs ls false _ (Holds.alloc (Holds.alloc HH.out _) _) (Holds.alloc (Holds.alloc H1.out _) _) (Holds.alloc (Holds.alloc H2.out _) _) HN.out HN1.out HN2.out hW).mono ?_
    rintro e w1 ⟨rfl, E1⟩
    have E1 := hid E1
    go_wp2_with fail
    go_ret2
    exact ⟨_, rfl, cls0, Ext.trans (by (repeat with_reducible (first | exact Ext.refl _ | exact ext_alloc _ _ | refine Ext.drewN ?_ _ | refine Ext.drew1 ?_ | refine Ext.set ?_ (by dsimp only; omega) _ | refine Ext.alloc ?_ _))) E1.out⟩
  · have e := hR
    unfold energyR at e
    rw [hW] at e
    simp only [if_true, Prod.mk.injEq] at e
    obtain ⟨rfl, rfl⟩ := e
    obtain ⟨q1, q2⟩ := waves_lens hW
    obtain rfl : n1 = n := by have e1 := HR1.out; have e2 := HL.out; omega
    obtain rfl : n2 = n1 := by have e1 := HR2.out; have e2 := HL.out; omega
    clear hR q1 q2
    have HZ := hid (show zs.length = n2 from HL.out)
    have hcell : ∀ wr, Ext w wr → ∀ k, k < n2 → ∃ x1 o1 x2 o2 x3 o3, a = some ⟨x1, o1, none⟩ ∧ b1 = some ⟨x2, o2, none⟩ ∧ b2 = some ⟨x3, o3, none⟩ ∧ wr.cell? ⟨x1, o1 + k, none⟩ = some (.float .f32 (zs.getD k 0)) ∧ wr.cell? ⟨x2, o2 + k, none⟩ = some (.float .f32 (rs.getD k 0)) ∧ wr.cell? ⟨x3, o3 + k, none⟩ = some (.float .f32 (ls.getD k 0)) := by
      intro wr e k hk
      have key : ∀ (aa : Option Addr) (xs : List Nat), Holds .f32 w aa n2 xs → ∃ b off, aa = some ⟨b, off, none⟩ ∧ wr.cell? ⟨b, off + k, none⟩ = some (.float .f32 (xs.getD k 0)) := by
        intro aa xs h
        rcases h.2 with h0 | ⟨b, off, rfl, hb, hc⟩
        · omega
        · exact ⟨b, off, rfl, (Below.cell e (p := ⟨b, off + k, none⟩) hb).trans (hc k hk)⟩
      obtain ⟨x1, o1, rfl, e1⟩ := key _ _ HH.out
      obtain ⟨x2, o2, rfl, e2⟩ := key _ _ H1.out
      obtain ⟨x3, o3, rfl, e3⟩ := key _ _ H2.out
      exact ⟨x1, o1, x2, o2, x3, o3, rfl, rfl, rfl, e1, e2, e3⟩
    have HC := hid hcell
    clear hcell
    go_enter Try.func53, Try.ntmps53
    go_wp2_with fail
    refine (areWaves_any _ _ _ _ _ _ _ _ _ _ _ _ zs rs ls true _ (Holds.alloc (Holds.alloc HH.out _) _) (Holds.alloc (Holds.alloc H1.out _) _) (Holds.alloc (Holds.alloc H2.out _) _) HN.out HN1.out HN2.out hW).mono ?_
    rintro e w1 ⟨rfl, E1⟩
    have E1 := hid E1
    have EW : Hid (Ext w w1) := hid (Ext.trans (by (repeat with_reducible (first | exact Ext.refl _ | exact ext_alloc _ _ | refine Ext.drewN ?_ _ | refine Ext.drew1 ?_ | refine Ext.set ?_ (by dsimp only; omega) _ | refine Ext.alloc ?_ _))) E1.out)
    have BA : Hid (Box w1 w.heap.size #[.slice a n2 c, .float .f32 l, .float .f32 t, .float .f32 p]) := hid (Box.ext (Box.alloc (box_new _ _) _) E1.out)
    have BB : Hid (Box w1 (w.heap.size + 1) #[.slice b1 n2 d1, .slice b2 n2 d2]) := hid (Box.cast (Box.ext (box_new _ _) E1.out) (by simp))
    obtain ⟨A0, A1, A2, A3, Al⟩ := Box.cells4 BA.out
    obtain ⟨B0, B1, Bl⟩ := Box.cells2 BB.out
    go_wp2_with fail
    clear A0 A1 A2 A3 Al B0 B1 Bl
    go_loopw [6, 17] (fun s i wr => ∃ k r0 : Nat, k ≤ n2 ∧ i = .int .i64 k ∧ s = .float .f32 r0 ∧ Hid (cls .f32 r0 = energyC zs rs ls k) ∧ Hid (∃ m, wr = w1.drewN m)) (fun _ i _ => n2 - (intOf i).toNat)
    case atStart => exact ⟨0, 0, Nat.zero_le _, rfl, rfl, hid cls0, 0, rfl⟩
    case round =>
      obtain ⟨k, r0, hk, rfl, rfl, hr0, hw⟩ := hrel
      have hn2 : n2 ≤ 1048576 := HN.out
      have ew : Hid (Ext w wr) := by obtain ⟨m, hm⟩ := hw.out; rw [hm]; exact Ext.drewN EW.out m
      have hA : Box wr w.heap.size #[.slice a n2 c, .float .f32 l, .float .f32 t, .float .f32 p] := by obtain ⟨m, hm⟩ := hw.out; rw [hm]; exact Box.drewN BA.out m
      have hB : Box wr (w.heap.size + 1) #[.slice b1 n2 d1, .slice b2 n2 d2] := by obtain ⟨m, hm⟩ := hw.out; rw [hm]; exact Box.drewN BB.out m
      obtain ⟨A0, A1, A2, A3, Al⟩ := Box.cells4 hA
      obtain ⟨B0, B1, Bl⟩ := Box.cells2 hB
      clear hA hB
      by_cases hlt : k < n2
      · obtain ⟨x1, o1, x2, o2, x3, o3, rfl, rfl, rfl, e1, e2, e3⟩ := HC.out _ ew.out k hlt
        have hen := hid (show energyC zs rs ls (k + 1) = fop .add .f32 (energyC zs rs ls k) (fop .mul .f32 (cls .f32 (zs.getD k 0)) (sqC (cls .f32 (rs.getD k 0)) (cls .f32 (ls.getD k 0)))) from rfl)
        generalize zs.getD k 0 = z at e1 hen
        generalize rs.getD k 0 = x at e2 hen
        generalize ls.getD k 0 = y at e3 hen
        have hi0 : (0 : Int) ≤ (k : Int) := by omega
        have hi1 : (k : Int) < (n2 : Int) := by omega
        go_wp2_with fail
        refine wp_region_many (by kernel_rfl) (by kernel_rfl) (by kernel_rfl) ?_
        repeat (first | (refine wpM_mult0 rfl rfl ?_; refine mult_farith rfl rfl rfl rfl ?_; intro r hr hrw) | (refine wpM_quiet rfl (fun K hK => ?_); go_simp; refine hK _ ?_; clear hK K))
        refine wpM_nil ?_
        rename_i ra ha hwa rb hb hwb
        intro w3 hw3
        obtain ⟨nq, hw3⟩ := hw3
        subst hw3
        have hsq := hid (show cls .f32 r = sqC (cls .f32 x) (cls .f32 y) from by unfold sqC; rw [hr.out, ha.out, hb.out])
        clear hr ha hb
        go_wp2_with (refine wpList_farith rfl rfl rfl rfl rfl ?_; intro s ms hs hsw)
        rename_i s1 ms1 hs1 hsw1
        go_roundw
        case rel => exact ⟨k + 1, s, by omega, by go_num, rfl, hid (by rw [hen.out, ← hr0.out, ← hsq.out, ← hs1.out]; exact hs.out), by obtain ⟨m, hm⟩ := hw.out; rw [hm]; exact ⟨_, by rw [World.drewN_drewN]⟩⟩
        case measure => simp [intOf]; omega
      · have hkn : k = n2 := by omega
        subst hkn
        go_wp2_with fail
        refine (finiteOnly_any _ (energyC zs rs ls k) hr0.out _).mono ?_
        rintro e w3 ⟨r2, rfl, hr2, m3, rfl⟩
        have HF := hid hr2
        clear hr2
        go_wp2_with fail
        go_ret2
        rw [HZ.out]
        exact ⟨_, rfl, HF.out, Ext.drewN ew.out _⟩

set_option maxHeartbeats 2000000 in
set_option maxRecDepth 100000 in
theorem sEnergy_any (a b1 b2 : Option Addr) (n c l t p n1 d1 n2 d2 : Nat) (zs rs ls : List Nat) (R : Option Nat) (O : Bool) (w : World) (h : Holds .f32 w a n zs) (k1 : Holds .f32 w b1 n1 rs) (k2 : Holds .f32 w b2 n2 ls) (hn : n ≤ 1048576) (hn1 : n1 ≤ 1048576) (hn2 : n2 ≤ 1048576) (hR : energyR zs rs ls (cls .f32 l) (cls .f32 t) (cls .f32 p) = (R, O)) :
    Calls Try.prog 52 #[.agg #[.slice a n c, .float .f32 l, .float .f32 t, .float .f32 p], .agg #[.slice b1 n1 d1, .slice b2 n2 d2]] w fun e w' => ∃ r, e = .returned (.tuple #[.float .f32 r, .bool O]) ∧ Is .f32 r R ∧ Ext w w' := by
  have HH := hid h
  have H1 := hid k1
  have H2 := hid k2
  have HN := hid hn
  have HN1 := hid hn1
  have HN2 := hid hn2
  have HL := hid h.1
  have HR1 := hid k1.1
  have HR2 := hid k2.1
  clear h k1 k2
  cases hW : wavesB (zs.map (cls .f32)) (cls .f32 l) (cls .f32 t) (cls .f32 p) (rs.map (cls .f32)) (ls.map (cls .f32))
  · have e := hR
    unfold energyR at e
    rw [hW] at e
    simp only [Bool.false_eq_true, if_false, Prod.mk.injEq] at e
    obtain ⟨rfl, rfl⟩ := e
    clear hR
    go_enter Try.func52, Try.ntmps52
    go_wp2_with fail
    refine (l02Waves_any _ _ _ _ _ _ _ _ _ _ _ _ _ _ zs rs ls false _ (Box.alloc (box_new _ _) _) (Box.cast (box_new _ _) (by simp)) (Holds.alloc (Holds.alloc HH.out _) _) (Holds.alloc (Holds.alloc H1.out _) _) (Holds.alloc (Holds.alloc H2.out _) _) HN.out HN1.out HN2.out hW).mono ?_
    rintro e w1 ⟨rfl, m0, rfl⟩
    go_wp2_with fail
    go_ret2
    exact ⟨_, rfl, cls0, by (repeat with_reducible (first | exact Ext.refl _ | exact ext_alloc _ _ | refine Ext.drewN ?_ _ | refine Ext.drew1 ?_ | refine Ext.set ?_ (by dsimp only; omega) _ | refine Ext.alloc ?_ _))⟩
  · have e := hR
    unfold energyR at e
    rw [hW] at e
    simp only [if_true, Prod.mk.injEq] at e
    obtain ⟨rfl, rfl⟩ := e
    obtain ⟨q1, q2⟩ := waves_lens hW
    obtain rfl : n1 = n := by have e1 := HR1.out; have e2 := HL.out; omega
    obtain rfl : n2 = n1 := by have e1 := HR2.out; have e2 := HL.out; omega
    clear hR q1 q2
    have HZ := hid (show zs.length = n2 from HL.out)
    have hcell : ∀ wr, Ext w wr → ∀ k, k < n2 → ∃ x1 o1 x2 o2 x3 o3, a = some ⟨x1, o1, none⟩ ∧ b1 = some ⟨x2, o2, none⟩ ∧ b2 = some ⟨x3, o3, none⟩ ∧ wr.cell? ⟨x1, o1 + k, none⟩ = some (.float .f32 (zs.getD k 0)) ∧ wr.cell? ⟨x2, o2 + k, none⟩ = some (.float .f32 (rs.getD k 0)) ∧ wr.cell? ⟨x3, o3 + k, none⟩ = some (.float .f32 (ls.getD k 0)) := by
      intro wr e k hk
      have key : ∀ (aa : Option Addr) (xs : List Nat), Holds .f32 w aa n2 xs → ∃ b off, aa = some ⟨b, off, none⟩ ∧ wr.cell? ⟨b, off + k, none⟩ = some (.float .f32 (xs.getD k 0)) := by
        intro aa xs h
        rcases h.2 with h0 | ⟨b, off, rfl, hb, hc⟩
        · omega
        · exact ⟨b, off, rfl, (Below.cell e (p := ⟨b, off + k, none⟩) hb).trans (hc k hk)⟩
      obtain ⟨x1, o1, rfl, e1⟩ := key _ _ HH.out
      obtain ⟨x2, o2, rfl, e2⟩ := key _ _ H1.out
      obtain ⟨x3, o3, rfl, e3⟩ := key _ _ H2.out
      exact ⟨x1, o1, x2, o2, x3, o3, rfl, rfl, rfl, e1, e2, e3⟩
    have HC := hid hcell
    clear hcell
    go_enter Try.func52, Try.ntmps52
    go_wp2_with fail
    refine (l02Waves_any _ _ _ _ _ _ _ _ _ _ _ _ _ _ zs rs ls true _ (Box.alloc (box_new _ _) _) (Box.cast (box_new _ _) (by simp)) (Holds.alloc (Holds.alloc HH.out _) _) (Holds.alloc (Holds.alloc H1.out _) _) (Holds.alloc (Holds.alloc H2.out _) _) HN.out HN1.out HN2.out hW).mono ?_
    rintro e w1 ⟨rfl, m0, rfl⟩
    have EW : Hid (Ext w (((w.alloc (.cells #[.slice a n2 c, .float .f32 l, .float .f32 t, .float .f32 p] 27)).alloc (.cells #[.slice b1 n2 d1, .slice b2 n2 d2] 49)).drewN m0)) := by unfold Hid; (repeat with_reducible (first | exact Ext.refl _ | exact ext_alloc _ _ | refine Ext.drewN ?_ _ | refine Ext.drew1 ?_ | refine Ext.set ?_ (by dsimp only; omega) _ | refine Ext.alloc ?_ _))
    have BA : Hid (Box (((w.alloc (.cells #[.slice a n2 c, .float .f32 l, .float .f32 t, .float .f32 p] 27)).alloc (.cells #[.slice b1 n2 d1, .slice b2 n2 d2] 49)).drewN m0) w.heap.size #[.slice a n2 c, .float .f32 l, .float .f32 t, .float .f32 p]) := hid (Box.drewN (Box.alloc (box_new _ _) _) _)
    have BB : Hid (Box (((w.alloc (.cells #[.slice a n2 c, .float .f32 l, .float .f32 t, .float .f32 p] 27)).alloc (.cells #[.slice b1 n2 d1, .slice b2 n2 d2] 49)).drewN m0) (w.heap.size + 1) #[.slice b1 n2 d1, .slice b2 n2 d2]) := hid (Box.drewN (Box.cast (box_new _ _) (by simp)) _)
    skip
    skip
    go_wp2_with fail
    skip
    go_loopw [6, 7] (fun s i wr => ∃ k r0 : Nat, k ≤ n2 ∧ i = .int .i64 k ∧ s = .float .f32 r0 ∧ Hid (cls .f32 r0 = energyC zs rs ls k) ∧ Hid (∃ m, wr = (((w.alloc (.cells #[.slice a n2 c, .float .f32 l, .float .f32 t, .float .f32 p] 27)).alloc (.cells #[.slice b1 n2 d1, .slice b2 n2 d2] 49)).drewN m0).drewN m)) (fun _ i _ => n2 - (intOf i).toNat)
    case atStart => exact ⟨0, 0, Nat.zero_le _, rfl, rfl, hid cls0, 0, rfl⟩
    case round =>
      obtain ⟨k, r0, hk, rfl, rfl, hr0, hw⟩ := hrel
      have hn2 : n2 ≤ 1048576 := HN.out
      have ew : Hid (Ext w wr) := by obtain ⟨m, hm⟩ := hw.out; rw [hm]; exact Ext.drewN EW.out m
      have hA : Box wr w.heap.size #[.slice a n2 c, .float .f32 l, .float .f32 t, .float .f32 p] := by obtain ⟨m, hm⟩ := hw.out; rw [hm]; exact Box.drewN BA.out m
      have hB : Box wr (w.heap.size + 1) #[.slice b1 n2 d1, .slice b2 n2 d2] := by obtain ⟨m, hm⟩ := hw.out; rw [hm]; exact Box.drewN BB.out m
      obtain ⟨A0, A1, A2, A3, Al⟩ := Box.cells4 hA
      obtain ⟨B0, B1, Bl⟩ := Box.cells2 hB
      clear hA hB
      by_cases hlt : k < n2
      · obtain ⟨x1, o1, x2, o2, x3, o3, rfl, rfl, rfl, e1, e2, e3⟩ := HC.out _ ew.out k hlt
        have hen := hid (show energyC zs rs ls (k + 1) = fop .add .f32 (energyC zs rs ls k) (fop .mul .f32 (cls .f32 (zs.getD k 0)) (sqC (cls .f32 (rs.getD k 0)) (cls .f32 (ls.getD k 0)))) from rfl)
        generalize zs.getD k 0 = z at e1 hen
        generalize rs.getD k 0 = x at e2 hen
        generalize ls.getD k 0 = y at e3 hen
        have hi0 : (0 : Int) ≤ (k : Int) := by omega
        have hi1 : (k : Int) < (n2 : Int) := by omega
        go_wp2_with fail
        refine wp_region_many (by kernel_rfl) (by kernel_rfl) (by kernel_rfl) ?_
        repeat (first | (refine wpM_mult0 rfl rfl ?_; refine mult_farith rfl rfl rfl rfl ?_; intro r hr hrw) | (refine wpM_quiet rfl (fun K hK => ?_); go_simp; refine hK _ ?_; clear hK K))
        refine wpM_nil ?_
        rename_i ra ha hwa rb hb hwb
        intro w3 hw3
        obtain ⟨nq, hw3⟩ := hw3
        subst hw3
        have hsq := hid (show cls .f32 r = sqC (cls .f32 x) (cls .f32 y) from by unfold sqC; rw [hr.out, ha.out, hb.out])
        clear hr ha hb
        go_wp2_with (refine wpList_farith rfl rfl rfl rfl rfl ?_; intro s ms hs hsw)
        rename_i s1 ms1 hs1 hsw1
        go_roundw
        case rel => exact ⟨k + 1, s, by omega, by go_num, rfl, hid (by rw [hen.out, ← hr0.out, ← hsq.out, ← hs1.out]; exact hs.out), by obtain ⟨m, hm⟩ := hw.out; rw [hm]; exact ⟨_, by rw [World.drewN_drewN]⟩⟩
        case measure => simp [intOf]; omega
      · have hkn : k = n2 := by omega
        subst hkn
        go_wp2_with fail
        refine (l02Number_any _ (energyC zs rs ls k) hr0.out _).mono ?_
        rintro e w3 ⟨r2, rfl, hr2, m3, rfl⟩
        have HF := hid hr2
        clear hr2
        go_wp2_with fail
        go_ret2
        rw [HZ.out]
        exact ⟨_, rfl, HF.out, Ext.drewN ew.out _⟩

end Go.Proofs.Ytogjehlepdapoab

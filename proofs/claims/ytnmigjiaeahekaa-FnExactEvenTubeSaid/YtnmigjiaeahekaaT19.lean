/- Joined tubes. -/
import Derived.Test.YtnmigjiaeahekaaT8
import Derived.Deep.RegionLawGrows
namespace Go.Proofs.Ytnmigjiaeahekaa
open Go.RowKit Flt
set_option linter.unusedVariables false

theorem Holds.some_of {w : World} {a : Option Addr} {n : Nat} {zs : List Nat} (h : Holds .f32 w a n zs) (h1 : 1 ≤ n) : ∃ b off, a = some ⟨b, off, none⟩ ∧ b < w.heap.size ∧ zs.length = n ∧ ∀ i, i < n → w.cell? ⟨b, off + i, none⟩ = some (.float .f32 (zs.getD i 0)) := by
  obtain ⟨hl, h0 | ⟨b, off, rfl, hb, hc⟩⟩ := h
  · omega
  · exact ⟨b, off, rfl, hb, hl, hc⟩
theorem own_join {w : World} {B k m : Nat} {v : Value} {xs ys : List Nat} (h : w.ownsRow B 23 1 v (k + m) (xs.map (Value.float .f32) ++ ys.map (Value.float .f32))) : Own w B (k + m) v (xs ++ ys) := by
  unfold Own; simpa using h
theorem validTube_ext (a : Option Addr) (n c l t p : Nat) (zs : List Nat) (V : Bool) (w : World) (h : Holds .f32 w a n zs) (hn : n ≤ 1048576) (hV : tubeC (zs.map (cls .f32)) (cls .f32 l) (cls .f32 t) (cls .f32 p) = V) :
    Calls Try.prog 62 #[.agg #[.slice a n c, .float .f32 l, .float .f32 t, .float .f32 p]] w fun e w' => e = .returned (.bool V) ∧ Ext w w' := by
  refine (validTube_any _ _ _ _ _ _ _ _ h hn).mono ?_
  rintro e w' ⟨rfl, m, rfl⟩
  rw [hV]
  refine ⟨rfl, ?_⟩
  (repeat with_reducible (first | exact Ext.refl _ | exact ext_alloc _ _ | refine Ext.drewN ?_ _ | refine Ext.drew1 ?_ | refine Ext.set ?_ (by dsimp only; omega) _ | refine Ext.alloc ?_ _))
theorem l02Is_ext (b : Nat) (a : Option Addr) (n c l t p : Nat) (zs : List Nat) (V : Bool) (w : World) (hb : Box w b #[.slice a n c, .float .f32 l, .float .f32 t, .float .f32 p]) (h : Holds .f32 w a n zs) (hn : n ≤ 1048576) (hV : tubeC (zs.map (cls .f32)) (cls .f32 l) (cls .f32 t) (cls .f32 p) = V) :
    Calls Try.prog 59 #[.pointer (some ⟨b, 0, none⟩)] w fun e w' => e = .returned (.bool V) ∧ Ext w w' := by
  refine (l02Is_any _ _ _ _ _ _ _ _ _ hb h hn).mono ?_
  rintro e w' ⟨rfl, m, rfl⟩
  rw [hV]
  refine ⟨rfl, ?_⟩
  (repeat with_reducible (first | exact Ext.refl _ | exact ext_alloc _ _ | refine Ext.drewN ?_ _ | refine Ext.drew1 ?_ | refine Ext.set ?_ (by dsimp only; omega) _ | refine Ext.alloc ?_ _))
theorem cells44' {w : World} {b c : Nat} {v0 v1 v2 v3 u0 u1 u2 u3 : Value} (h : Box w b #[v0, v1, v2, v3]) (k : Box w c #[u0, u1, u2, u3]) :
    (w.cell? ⟨b, 0, none⟩ = some v0 ∧ w.cell? ⟨b, 1, none⟩ = some v1 ∧ w.cell? ⟨b, 2, none⟩ = some v2 ∧ w.cell? ⟨b, 3, none⟩ = some v3) ∧ w.cell? ⟨c, 0, none⟩ = some u0 ∧ w.cell? ⟨c, 1, none⟩ = some u1 ∧ w.cell? ⟨c, 2, none⟩ = some u2 ∧ w.cell? ⟨c, 3, none⟩ = some u3 := cells44 h k
def joinT (xs : List (Option Nat)) (l1 t1 p1 : Option Nat) (ys : List (Option Nat)) (l2 t2 p2 : Option Nat) : TR := if tubeC xs l1 t1 p1 && tubeC ys l2 t2 p2 then giveT (xs ++ ys) l1 t1 p2 else zeroT
theorem join_len (xs : List (Option Nat)) (l1 t1 p1 : Option Nat) (ys : List (Option Nat)) (l2 t2 p2 : Option Nat) : (joinT xs l1 t1 p1 ys l2 t2 p2).cs.length ≤ 16 := by
  unfold joinT
  split
  · exact give_len _ _ _ _
  · exact Nat.zero_le _
set_option maxHeartbeats 2000000 in
set_option maxRecDepth 100000 in
theorem join_any (a1 a2 : Option Addr) (n m c1 c2 l1 t1 p1 l2 t2 p2 : Nat) (xs ys : List Nat) (R : TR) (w : World) (h1 : Holds .f32 w a1 n xs) (h2 : Holds .f32 w a2 m ys) (hn : n ≤ 1048576) (hm : m ≤ 1048576) (hcap : n ≤ c1) (hR : joinT (xs.map (cls .f32)) (cls .f32 l1) (cls .f32 t1) (cls .f32 p1) (ys.map (cls .f32)) (cls .f32 l2) (cls .f32 t2) (cls .f32 p2) = R) :
    Calls Try.prog 18 #[.agg #[.slice a1 n c1, .float .f32 l1, .float .f32 t1, .float .f32 p1], .agg #[.slice a2 m c2, .float .f32 l2, .float .f32 t2, .float .f32 p2]] w fun e w' => ∃ v, e = .returned (.tuple #[v, .bool R.ok]) ∧ TubeIs w' w.heap.size R v ∧ Ext w w' := by
  have HH1 := hid h1
  have HH2 := hid h2
  have HN := hid hn
  have HM := hid hm
  have HCAP := hid hcap
  clear hcap
  cases hV1 : tubeC (xs.map (cls .f32)) (cls .f32 l1) (cls .f32 t1) (cls .f32 p1)
  · have e : R = zeroT := by rw [← hR]; unfold joinT; simp [hV1]
    subst e
    clear h1 h2 hn hm hR
    go_enter Try.func18, Try.ntmps18
    go_wp2_with fail
    refine (validTube_any _ _ _ _ _ _ xs _ (Holds.ext HH1.out (by (repeat with_reducible (first | exact Ext.refl _ | exact ext_alloc _ _ | refine Ext.drewN ?_ _ | refine Ext.drew1 ?_ | refine Ext.set ?_ (by dsimp only; omega) _ | refine Ext.alloc ?_ _)))) HN.out).mono ?_
    rintro e w1 ⟨rfl, m1, rfl⟩
    simp only [hV1]
    go_wp2_with fail
    go_returns
    refine ⟨_, rfl, zero_is _ _, ?_⟩
    (repeat with_reducible (first | exact Ext.refl _ | exact ext_alloc _ _ | refine Ext.drewN ?_ _ | refine Ext.drew1 ?_ | refine Ext.set ?_ (by dsimp only; omega) _ | refine Ext.alloc ?_ _))
  cases hV2 : tubeC (ys.map (cls .f32)) (cls .f32 l2) (cls .f32 t2) (cls .f32 p2)
  · have e : R = zeroT := by rw [← hR]; unfold joinT; simp [hV2]
    subst e
    clear h1 h2 hn hm hR
    go_enter Try.func18, Try.ntmps18
    go_wp2_with fail
    refine (validTube_any _ _ _ _ _ _ xs _ (Holds.ext HH1.out (by (repeat with_reducible (first | exact Ext.refl _ | exact ext_alloc _ _ | refine Ext.drewN ?_ _ | refine Ext.drew1 ?_ | refine Ext.set ?_ (by dsimp only; omega) _ | refine Ext.alloc ?_ _)))) HN.out).mono ?_
    rintro e w1 ⟨rfl, m1, rfl⟩
    simp only [hV1]
    go_wp2_with fail
    refine (validTube_any _ _ _ _ _ _ ys _ (Holds.ext HH2.out (by (repeat with_reducible (first | exact Ext.refl _ | exact ext_alloc _ _ | refine Ext.drewN ?_ _ | refine Ext.drew1 ?_ | refine Ext.set ?_ (by dsimp only; omega) _ | refine Ext.alloc ?_ _)))) HM.out).mono ?_
    rintro e w1 ⟨rfl, m2, rfl⟩
    simp only [hV2]
    go_wp2_with fail
    go_returns
    refine ⟨_, rfl, zero_is _ _, ?_⟩
    (repeat with_reducible (first | exact Ext.refl _ | exact ext_alloc _ _ | refine Ext.drewN ?_ _ | refine Ext.drew1 ?_ | refine Ext.set ?_ (by dsimp only; omega) _ | refine Ext.alloc ?_ _))
  have HE := hid (show giveT ((xs ++ ys).map (cls .f32)) (cls .f32 l1) (cls .f32 t1) (cls .f32 p2) = R from by rw [← hR]; unfold joinT; simp [hV1, hV2])
  have L1 := hid (tube_len hV1)
  have L2 := hid (tube_len hV2)
  have K1 : 1 ≤ n := by
    have g := L1.out.1
    have g2 := h1.1
    simp at g; omega
  have K2 : 1 ≤ m := by
    have g := L2.out.1
    have g2 := h2.1
    simp at g; omega
  have HK1 := hid K1
  have HK2 := hid K2
  have HL1 := hid h1.1
  have HL2 := hid h2.1
  obtain ⟨bb, off, ea, hb, hl, hc⟩ := Holds.some_of h2 K2
  have HB := hid hb
  have HC := hid hc
  obtain ⟨ba, ofa, ea1, hba, hla, hca⟩ := Holds.some_of h1 K1
  have HBA := hid hba
  have HCA := hid hca
  obtain ⟨i0, hi, hz0, hz1, hz2⟩ := info_parts infoF
  have HI := hid (And.intro hi (And.intro hz0 (And.intro hz1 hz2)))
  subst ea
  subst ea1
  clear h1 h2 hn hm hR K1 K2 hb hl hc hba hla hca hi hz0 hz1 hz2
  go_enter Try.func18, Try.ntmps18
  go_wp2_with fail
  refine (validTube_ext _ _ _ _ _ _ xs true _ (Holds.ext HH1.out (by (repeat with_reducible (first | exact Ext.refl _ | exact ext_alloc _ _ | refine Ext.drewN ?_ _ | refine Ext.drew1 ?_ | refine Ext.set ?_ (by dsimp only; omega) _ | refine Ext.alloc ?_ _)))) HN.out hV1).mono ?_
  rintro e w1 ⟨rfl, E1⟩
  have EX1 := hid (show Ext w w1 from Ext.trans (by (repeat with_reducible (first | exact Ext.refl _ | exact ext_alloc _ _ | refine Ext.drewN ?_ _ | refine Ext.drew1 ?_ | refine Ext.set ?_ (by dsimp only; omega) _ | refine Ext.alloc ?_ _))) E1)
  have BA1 := hid (Box.ext (Box.ext (box_new (w := w) #[.slice (some ⟨ba, ofa, none⟩) n c1, .float .f32 l1, .float .f32 t1, .float .f32 p1] 27) (by (repeat with_reducible (first | exact Ext.refl _ | exact ext_alloc _ _ | refine Ext.drewN ?_ _ | refine Ext.drew1 ?_ | refine Ext.set ?_ (by dsimp only; omega) _ | refine Ext.alloc ?_ _)))) E1)
  have BB1 := hid (Box.cast (b' := w.heap.size + 1) (Box.ext (Box.ext (box_new (w := (w.alloc (.cells #[.slice (some ⟨ba, ofa, none⟩) n c1, .float .f32 l1, .float .f32 t1, .float .f32 p1] 27))) #[.slice (some ⟨bb, off, none⟩) m c2, .float .f32 l2, .float .f32 t2, .float .f32 p2] 27) (by (repeat with_reducible (first | exact Ext.refl _ | exact ext_alloc _ _ | refine Ext.drewN ?_ _ | refine Ext.drew1 ?_ | refine Ext.set ?_ (by dsimp only; omega) _ | refine Ext.alloc ?_ _)))) E1) (by simp))
  have BR1 := hid (Box.cast (b' := w.heap.size + 2) (Box.ext (Box.ext (box_new (w := ((w.alloc (.cells #[.slice (some ⟨ba, ofa, none⟩) n c1, .float .f32 l1, .float .f32 t1, .float .f32 p1] 27)).alloc (.cells #[.slice (some ⟨bb, off, none⟩) m c2, .float .f32 l2, .float .f32 t2, .float .f32 p2] 27))) #[.slice none 0 0, .float .f32 0, .float .f32 0, .float .f32 0] 27) (by (repeat with_reducible (first | exact Ext.refl _ | exact ext_alloc _ _ | refine Ext.drewN ?_ _ | refine Ext.drew1 ?_ | refine Ext.set ?_ (by dsimp only; omega) _ | refine Ext.alloc ?_ _)))) E1) (by simp))
  have SZ1 := hid (show w.heap.size + 3 ≤ w1.heap.size from by have := Ext.size E1; simp at this; omega)
  clear E1
  obtain ⟨y0, y1, y2, y3, yl⟩ := Box.cells4 BB1.out
  go_wp2_with fail
  refine (validTube_ext _ _ _ _ _ _ ys true _ (Holds.ext HH2.out (Ext.trans EX1.out (by (repeat with_reducible (first | exact Ext.refl _ | exact ext_alloc _ _ | refine Ext.drewN ?_ _ | refine Ext.drew1 ?_ | refine Ext.set ?_ (by dsimp only; omega) _ | refine Ext.alloc ?_ _))))) HM.out hV2).mono ?_
  rintro e w2 ⟨rfl, E2⟩
  have BA2 := hid (Box.ext BA1.out E2)
  have BB2 := hid (Box.ext BB1.out E2)
  have BR2 := hid (Box.ext BR1.out E2)
  have EX2 := hid (Ext.trans EX1.out E2)
  have SZ2 : w.heap.size + 3 ≤ w2.heap.size := by have h8 := SZ1.out; have h9 := Ext.size E2; omega
  clear y0 y1 y2 y3 yl BA1 BB1 BR1 SZ1 E2 EX1
  obtain ⟨d0, d1, d2, d3, dl⟩ := Box.cells4 BA2.out
  have hcap : n ≤ c1 := HCAP.out
  go_wp2_with fail
  go_region_held3 (fun w' => (w'.cell? ⟨w.heap.size, 0, none⟩ = some (.slice (some ⟨ba, ofa, none⟩) n c1) ∧ w'.cell? ⟨w.heap.size, 1, none⟩ = some (.float .f32 l1) ∧ w'.cell? ⟨w.heap.size, 2, none⟩ = some (.float .f32 t1) ∧ w'.cell? ⟨w.heap.size, 3, none⟩ = some (.float .f32 p1)) ∧ w'.cell? ⟨w.heap.size + 1, 0, none⟩ = some (.slice (some ⟨bb, off, none⟩) m c2) ∧ w'.cell? ⟨w.heap.size + 1, 1, none⟩ = some (.float .f32 l2) ∧ w'.cell? ⟨w.heap.size + 1, 2, none⟩ = some (.float .f32 t2) ∧ w'.cell? ⟨w.heap.size + 1, 3, none⟩ = some (.float .f32 p2))
    (first | exact cells44 BA2.out BB2.out | exact cells44 (Box.ext BA2.out E3) (Box.ext BB2.out E3) | exact cells44 (Box.ext (Box.ext BA2.out E3) E4) (Box.ext (Box.ext BB2.out E3) E4) | exact cells44 (Box.far (Box.far (Box.far (Box.far (Box.ext (Box.ext BA2.out E3) E4) (by omega) _) (by omega) _) (by omega) _) (by omega) _) (Box.far (Box.far (Box.far (Box.far (Box.ext (Box.ext BB2.out E3) E4) (by omega) _) (by omega) _) (by omega) _) (by omega) _))
    (first | (refine step_append_grows rfl _ _ 22 rfl 23 i0 (.float .f32 0) 1 4 Try.underlying22 HI.out.1 HI.out.2.1 HI.out.2.2.1 HI.out.2.2.2 rfl (by decide) (some ⟨ba, ofa, none⟩) n n (xs.map (Value.float .f32)) rfl (by intro h; cases h) (by have := HL1.out; simp [this]) (by intro b hb; cases hb; exact news_ext (Ext.trans EX2.out (by (repeat with_reducible (first | exact Ext.refl _ | exact ext_alloc _ _ | refine Ext.drewN ?_ _ | refine Ext.drew1 ?_ | refine Ext.set ?_ (by dsimp only; omega) _ | refine Ext.alloc ?_ _)))) HBA.out HL1.out HCA.out) ⟨bb, off, none⟩ m c2 (ys.map (Value.float .f32)) rfl (by have := HL2.out; simp [this]) (news_ext (Ext.trans EX2.out (by (repeat with_reducible (first | exact Ext.refl _ | exact ext_alloc _ _ | refine Ext.drewN ?_ _ | refine Ext.drew1 ?_ | refine Ext.set ?_ (by dsimp only; omega) _ | refine Ext.alloc ?_ _)))) HB.out HL2.out HC.out) (news_one ys) (by have := HK2.out; omega) (by have h8 := HN.out; have h9 := HM.out; unfold maxLen; omega) (by have h8 := HN.out; have h9 := HM.out; omega) ?_; intro v3 w3 hown hgrow; have O3 : Own w3 (w.heap.size + 3) (n + m) v3 (xs ++ ys) := Own.base (own_join hown) (by first | omega | (dsimp only [World.drew]; omega) | (simp; omega)); have E3 : Ext w2 w3 := But.below hgrow (by (repeat with_reducible (first | exact Ext.refl _ | exact ext_alloc _ _ | refine Ext.drewN ?_ _ | refine Ext.drew1 ?_ | refine Ext.set ?_ (by dsimp only; omega) _ | refine Ext.alloc ?_ _))) (fun k hk => by cases hk); obtain ⟨a3, c3, rfl, _⟩ := Own.holds O3) | (go_at_call 63; refine (validOnly_any _ _ _ _ _ _ _ _ _ O3 (by have h8 := HN.out; have h9 := HM.out; have k8 := L1.out; have k9 := L2.out; have j8 := HL1.out; have j9 := HL2.out; simp at k8 k9; omega)).mono ?_; rintro e4 w4 ⟨v, rfl, hT, E4⟩; rw [HE.out] at hT ⊢; obtain ⟨ra, rc, rl, rt, rp, rz, rfl, rO, re⟩ := hT; have HT := hid (show TubeIs w4 (w.heap.size + 3) R (.agg #[.slice ra R.cs.length rc, .float .f32 rl, .float .f32 rt, .float .f32 rp]) from ⟨ra, rc, rl, rt, rp, rz, rfl, rO, re⟩); clear rO re; have HX := hid (Box.ext (Box.ext BR2.out E3) E4); obtain ⟨z0, z1, z2, z3, zf0, zf1, zf2, zf3, zl⟩ := Box.all4 HX.out))
  have EE4 := hid (Ext.trans EX2.out (Ext.trans E3 E4))
  clear z0 z1 z2 z3 zf0 zf1 zf2 zf3 zl d0 d1 d2 d3 dl E3 E4 O3
  go_wp2_with fail
  refine bodyPost_ret (ret_cell2 Try.results18 rfl (box_set4 HX.out _ _ _ _) Try.underlying27 infoT) rfl ?_
  exact ⟨_, rfl, TubeIs.base (TubeIs.far4 HT.out (by omega) _ _ _ _) (by omega), ext_set4 EE4.out (by omega) _ _ _ _⟩

set_option maxHeartbeats 2000000 in
set_option maxRecDepth 100000 in
theorem sJoin_any (a1 a2 : Option Addr) (n m c1 c2 l1 t1 p1 l2 t2 p2 : Nat) (xs ys : List Nat) (R : TR) (w : World) (h1 : Holds .f32 w a1 n xs) (h2 : Holds .f32 w a2 m ys) (hn : n ≤ 1048576) (hm : m ≤ 1048576) (hR : joinT (xs.map (cls .f32)) (cls .f32 l1) (cls .f32 t1) (cls .f32 p1) (ys.map (cls .f32)) (cls .f32 l2) (cls .f32 t2) (cls .f32 p2) = R) :
    Calls Try.prog 16 #[.agg #[.slice a1 n c1, .float .f32 l1, .float .f32 t1, .float .f32 p1], .agg #[.slice a2 m c2, .float .f32 l2, .float .f32 t2, .float .f32 p2]] w fun e w' => ∃ v, e = .returned (.tuple #[v, .bool R.ok]) ∧ TubeIs w' w.heap.size R v ∧ Ext w w' := by
  have HH1 := hid h1
  have HH2 := hid h2
  have HN := hid hn
  have HM := hid hm
  cases hV1 : tubeC (xs.map (cls .f32)) (cls .f32 l1) (cls .f32 t1) (cls .f32 p1)
  · have e : R = zeroT := by rw [← hR]; unfold joinT; simp [hV1]
    subst e
    clear h1 h2 hn hm hR
    go_enter Try.func16, Try.ntmps16
    go_wp2_with fail
    refine (l02Is_any _ _ _ _ _ _ _ xs _ (Box.ext (box_new (w := w) #[.slice a1 n c1, .float .f32 l1, .float .f32 t1, .float .f32 p1] 27) (by (repeat with_reducible (first | exact Ext.refl _ | exact ext_alloc _ _ | refine Ext.drewN ?_ _ | refine Ext.drew1 ?_ | refine Ext.set ?_ (by dsimp only; omega) _ | refine Ext.alloc ?_ _)))) (Holds.ext HH1.out (by (repeat with_reducible (first | exact Ext.refl _ | exact ext_alloc _ _ | refine Ext.drewN ?_ _ | refine Ext.drew1 ?_ | refine Ext.set ?_ (by dsimp only; omega) _ | refine Ext.alloc ?_ _)))) HN.out).mono ?_
    rintro e w1 ⟨rfl, m1, rfl⟩
    simp only [hV1]
    go_wp2_with fail
    go_returns
    refine ⟨_, rfl, zero_is _ _, ?_⟩
    (repeat with_reducible (first | exact Ext.refl _ | exact ext_alloc _ _ | refine Ext.drewN ?_ _ | refine Ext.drew1 ?_ | refine Ext.set ?_ (by dsimp only; omega) _ | refine Ext.alloc ?_ _))
  cases hV2 : tubeC (ys.map (cls .f32)) (cls .f32 l2) (cls .f32 t2) (cls .f32 p2)
  · have e : R = zeroT := by rw [← hR]; unfold joinT; simp [hV2]
    subst e
    clear h1 h2 hn hm hR
    go_enter Try.func16, Try.ntmps16
    go_wp2_with fail
    refine (l02Is_any _ _ _ _ _ _ _ xs _ (Box.ext (box_new (w := w) #[.slice a1 n c1, .float .f32 l1, .float .f32 t1, .float .f32 p1] 27) (by (repeat with_reducible (first | exact Ext.refl _ | exact ext_alloc _ _ | refine Ext.drewN ?_ _ | refine Ext.drew1 ?_ | refine Ext.set ?_ (by dsimp only; omega) _ | refine Ext.alloc ?_ _)))) (Holds.ext HH1.out (by (repeat with_reducible (first | exact Ext.refl _ | exact ext_alloc _ _ | refine Ext.drewN ?_ _ | refine Ext.drew1 ?_ | refine Ext.set ?_ (by dsimp only; omega) _ | refine Ext.alloc ?_ _)))) HN.out).mono ?_
    rintro e w1 ⟨rfl, m1, rfl⟩
    simp only [hV1]
    go_wp2_with fail
    refine (l02Is_any _ _ _ _ _ _ _ ys _ (Box.cast (Box.ext (box_new (w := (w.alloc (.cells #[.slice a1 n c1, .float .f32 l1, .float .f32 t1, .float .f32 p1] 27))) #[.slice a2 m c2, .float .f32 l2, .float .f32 t2, .float .f32 p2] 27) (by (repeat with_reducible (first | exact Ext.refl _ | exact ext_alloc _ _ | refine Ext.drewN ?_ _ | refine Ext.drew1 ?_ | refine Ext.set ?_ (by dsimp only; omega) _ | refine Ext.alloc ?_ _)))) (by simp)) (Holds.ext HH2.out (by (repeat with_reducible (first | exact Ext.refl _ | exact ext_alloc _ _ | refine Ext.drewN ?_ _ | refine Ext.drew1 ?_ | refine Ext.set ?_ (by dsimp only; omega) _ | refine Ext.alloc ?_ _)))) HM.out).mono ?_
    rintro e w1 ⟨rfl, m2, rfl⟩
    simp only [hV2]
    go_wp2_with fail
    go_returns
    refine ⟨_, rfl, zero_is _ _, ?_⟩
    (repeat with_reducible (first | exact Ext.refl _ | exact ext_alloc _ _ | refine Ext.drewN ?_ _ | refine Ext.drew1 ?_ | refine Ext.set ?_ (by dsimp only; omega) _ | refine Ext.alloc ?_ _))
  have HE := hid (show giveT ((xs ++ ys).map (cls .f32)) (cls .f32 l1) (cls .f32 t1) (cls .f32 p2) = R from by rw [← hR]; unfold joinT; simp [hV1, hV2])
  have L1 := hid (tube_len hV1)
  have L2 := hid (tube_len hV2)
  have K1 : 1 ≤ n := by
    have g := L1.out.1
    have g2 := h1.1
    simp at g; omega
  have K2 : 1 ≤ m := by
    have g := L2.out.1
    have g2 := h2.1
    simp at g; omega
  have HK1 := hid K1
  have HK2 := hid K2
  have HL1 := hid h1.1
  have HL2 := hid h2.1
  obtain ⟨bb, off, ea, hb, hl, hc⟩ := Holds.some_of h2 K2
  have HB := hid hb
  have HC := hid hc
  obtain ⟨ba, ofa, ea1, hba, hla, hca⟩ := Holds.some_of h1 K1
  have HBA := hid hba
  have HCA := hid hca
  obtain ⟨i0, hi, hz0, hz1, hz2⟩ := info_parts infoF
  have HI := hid (And.intro hi (And.intro hz0 (And.intro hz1 hz2)))
  subst ea
  subst ea1
  clear h1 h2 hn hm hR K1 K2 hb hl hc hba hla hca hi hz0 hz1 hz2
  go_enter Try.func16, Try.ntmps16
  go_wp2_with fail
  refine (l02Is_any _ _ _ _ _ _ _ xs _ (Box.ext (box_new (w := w) #[.slice (some ⟨ba, ofa, none⟩) n c1, .float .f32 l1, .float .f32 t1, .float .f32 p1] 27) (by (repeat with_reducible (first | exact Ext.refl _ | exact ext_alloc _ _ | refine Ext.drewN ?_ _ | refine Ext.drew1 ?_ | refine Ext.set ?_ (by dsimp only; omega) _ | refine Ext.alloc ?_ _)))) (Holds.ext HH1.out (by (repeat with_reducible (first | exact Ext.refl _ | exact ext_alloc _ _ | refine Ext.drewN ?_ _ | refine Ext.drew1 ?_ | refine Ext.set ?_ (by dsimp only; omega) _ | refine Ext.alloc ?_ _)))) HN.out).mono ?_
  rintro e w1 ⟨rfl, m1, rfl⟩
  simp only [hV1]
  go_wp2_with fail
  refine (l02Is_any _ _ _ _ _ _ _ ys _ (Box.cast (Box.ext (box_new (w := (w.alloc (.cells #[.slice (some ⟨ba, ofa, none⟩) n c1, .float .f32 l1, .float .f32 t1, .float .f32 p1] 27))) #[.slice (some ⟨bb, off, none⟩) m c2, .float .f32 l2, .float .f32 t2, .float .f32 p2] 27) (by (repeat with_reducible (first | exact Ext.refl _ | exact ext_alloc _ _ | refine Ext.drewN ?_ _ | refine Ext.drew1 ?_ | refine Ext.set ?_ (by dsimp only; omega) _ | refine Ext.alloc ?_ _)))) (by simp)) (Holds.ext HH2.out (by (repeat with_reducible (first | exact Ext.refl _ | exact ext_alloc _ _ | refine Ext.drewN ?_ _ | refine Ext.drew1 ?_ | refine Ext.set ?_ (by dsimp only; omega) _ | refine Ext.alloc ?_ _)))) HM.out).mono ?_
  rintro e w1 ⟨rfl, m2, rfl⟩
  simp only [hV2]
  go_wp2_with fail
  refine (l02Own_any _ _ _ _ _ _ _ xs _ (Box.ext (box_new (w := w) #[.slice (some ⟨ba, ofa, none⟩) n c1, .float .f32 l1, .float .f32 t1, .float .f32 p1] 27) (by (repeat with_reducible (first | exact Ext.refl _ | exact ext_alloc _ _ | refine Ext.drewN ?_ _ | refine Ext.drew1 ?_ | refine Ext.set ?_ (by dsimp only; omega) _ | refine Ext.alloc ?_ _)))) (Holds.ext HH1.out (by (repeat with_reducible (first | exact Ext.refl _ | exact ext_alloc _ _ | refine Ext.drewN ?_ _ | refine Ext.drew1 ?_ | refine Ext.set ?_ (by dsimp only; omega) _ | refine Ext.alloc ?_ _)))) HK1.out HN.out).mono ?_
  rintro e2 w2 ⟨b2, c3, rfl, O2, E2⟩
  have EE := hid (show Ext w w2 from Ext.trans (by (repeat with_reducible (first | exact Ext.refl _ | exact ext_alloc _ _ | refine Ext.drewN ?_ _ | refine Ext.drew1 ?_ | refine Ext.set ?_ (by dsimp only; omega) _ | refine Ext.alloc ?_ _))) E2)
  have BB := hid (Box.cast (b' := w.heap.size + 1) (Box.ext (Box.ext (box_new (w := (w.alloc (.cells #[.slice (some ⟨ba, ofa, none⟩) n c1, .float .f32 l1, .float .f32 t1, .float .f32 p1] 27))) #[.slice (some ⟨bb, off, none⟩) m c2, .float .f32 l2, .float .f32 t2, .float .f32 p2] 27) (by (repeat with_reducible (first | exact Ext.refl _ | exact ext_alloc _ _ | refine Ext.drewN ?_ _ | refine Ext.drew1 ?_ | refine Ext.set ?_ (by dsimp only; omega) _ | refine Ext.alloc ?_ _)))) E2) (by simp))
  have BR := hid (Box.cast (b' := w.heap.size + 2) (Box.ext (Box.ext (box_new (w := ((w.alloc (.cells #[.slice (some ⟨ba, ofa, none⟩) n c1, .float .f32 l1, .float .f32 t1, .float .f32 p1] 27)).alloc (.cells #[.slice (some ⟨bb, off, none⟩) m c2, .float .f32 l2, .float .f32 t2, .float .f32 p2] 27))) #[.slice none 0 0, .float .f32 0, .float .f32 0, .float .f32 0] 27) (by (repeat with_reducible (first | exact Ext.refl _ | exact ext_alloc _ _ | refine Ext.drewN ?_ _ | refine Ext.drew1 ?_ | refine Ext.set ?_ (by dsimp only; omega) _ | refine Ext.alloc ?_ _)))) E2) (by simp))
  have HO := hid (Own.base O2 (B' := w.heap.size + 3) (by simp <;> omega))
  have SZ := hid (show w.heap.size + 3 ≤ w2.heap.size from by have := Ext.size E2; simp at this; omega)
  clear O2 E2
  have HIb := hid (Own.block HO.out)
  obtain ⟨y0, y1, y2, y3, yl⟩ := Box.cells4 BB.out
  go_wp2_with
    (at_builtin
     refine wpList_append_lies _ rfl _ _ 22 rfl (w.heap.size + 3) 23 i0 (.float .f32 0) 1 4 Try.underlying22 HI.out.1 HI.out.2.1 HI.out.2.2.1 HI.out.2.2.2 rfl (by decide) (.slice (some ⟨b2, 0, none⟩) n c3) n (xs.map (Value.float .f32)) rfl (Own.alloc HO.out _) ⟨bb, off, none⟩ m c2 (ys.map (Value.float .f32)) rfl (by have := HL2.out; simp [this]) (news_ext (Ext.trans EE.out (by (repeat with_reducible (first | exact Ext.refl _ | exact ext_alloc _ _ | refine Ext.drewN ?_ _ | refine Ext.drew1 ?_ | refine Ext.set ?_ (by dsimp only; omega) _ | refine Ext.alloc ?_ _)))) HB.out HL2.out HC.out) (news_one ys) (by have := HK2.out; omega) (by have h8 := HN.out; have h9 := HM.out; unfold maxLen; simp; omega) (by have h8 := HN.out; have h9 := HM.out; simp; omega) (by have h8 := SZ.out; simp; omega) _ rfl ?_
     intro g cap w3 hown hgrow hat hlt
     have HO3 := hid (own_join hown)
     have hnb : ∀ k : Nat, k = w2.heap.size → (some b2 : Option Nat) ≠ some k := fun k hk hq => by have h8 := (HIb.out b2 rfl).2; simp at hq; omega
     have E3 := hid (show Ext w w3 from But.below hgrow (Ext.trans EE.out (by (repeat with_reducible (first | exact Ext.refl _ | exact ext_alloc _ _ | refine Ext.drewN ?_ _ | refine Ext.drew1 ?_ | refine Ext.set ?_ (by dsimp only; omega) _ | refine Ext.alloc ?_ _)))) (fun k hk => by have h8 := (HIb.out k hk).1; omega))
     have BB3 := hid (But.box hgrow (Box.ext BB.out (by (repeat with_reducible (first | exact Ext.refl _ | exact ext_alloc _ _ | refine Ext.drewN ?_ _ | refine Ext.drew1 ?_ | refine Ext.set ?_ (by dsimp only; omega) _ | refine Ext.alloc ?_ _)))) (fun hk => by have h8 := (HIb.out _ hk).1; omega))
     have BR3 := hid (But.box hgrow (Box.ext BR.out (by (repeat with_reducible (first | exact Ext.refl _ | exact ext_alloc _ _ | refine Ext.drewN ?_ _ | refine Ext.drew1 ?_ | refine Ext.set ?_ (by dsimp only; omega) _ | refine Ext.alloc ?_ _)))) (fun hk => by have h8 := (HIb.out _ hk).1; omega))
     have BD3 := hid (But.box hgrow (box_new (w := w2) #[.slice (some ⟨b2, 0, none⟩) n c3, .float .f32 l1, .float .f32 t1, .float .f32 p1] 27) (hnb _ rfl))
     have SZ3 := hid (show w2.heap.size < w3.heap.size from Box.lt BD3.out)
     have hnx : (Value.slice (some ⟨g, 0, none⟩) (n + m) cap).ownBlock ≠ some w2.heap.size := fun hk => by
       have hk2 : g = w2.heap.size := Option.some.inj hk
       have h8 := (HIb.out b2 rfl).2
       rcases hat with h | h
       · have h3 : b2 = g := Option.some.inj h
         omega
       · simp at h; omega
     have HNX := hid hnx
     clear hown hgrow hat hlt hnx hnb y0 y1 y2 y3 yl
     obtain ⟨y0, y1, y2, y3, yl⟩ := Box.cells4 BB3.out
     obtain ⟨d0, d1, d2, d3, df0, df1, df2, df3, dl⟩ := Box.all4 BD3.out
     have hq1 : w.heap.size + 1 ≠ w2.heap.size := by have := SZ.out; omega
     have hq2 : w2.heap.size ≠ w.heap.size + 1 := by have := SZ.out; omega)
  go_wp2_with fail
  refine (l02Give_any _ _ _ _ _ _ _ (xs ++ ys) _ (Own.far (Own.far HO3.out HNX.out _) HNX.out _) (by have h8 := HN.out; have h9 := HM.out; have k8 := L1.out; have k9 := L2.out; have j8 := HL1.out; have j9 := HL2.out; simp at k8 k9; omega)).mono ?_
  rintro e4 w4 ⟨v, rfl, hT, E4⟩
  rw [HE.out] at hT ⊢
  have EE4 := hid (Ext.trans (Ext.set (Ext.set E3.out (by have := SZ.out; dsimp only; omega) _) (by have := SZ.out; dsimp only; omega) _) E4)
  have HX := hid (Box.ext (Box.far (Box.far BR3.out (by have := SZ.out; omega) _) (by have := SZ.out; omega) _) E4)
  obtain ⟨ra, rc, rl, rt, rp, rz, rfl, rO, re⟩ := hT
  have HT := hid (show TubeIs w4 (w.heap.size + 3) R (.agg #[.slice ra R.cs.length rc, .float .f32 rl, .float .f32 rt, .float .f32 rp]) from ⟨ra, rc, rl, rt, rp, rz, rfl, rO, re⟩)
  clear rO re y0 y1 y2 y3 yl d0 d1 d2 d3 df0 df1 df2 df3 dl
  obtain ⟨y0, y1, y2, y3, yf0, yf1, yf2, yf3, yl⟩ := Box.all4 HX.out
  go_wp2_with fail
  clear y0 y1 y2 y3 yf0 yf1 yf2 yf3 yl
  refine bodyPost_ret (ret_cell2 Try.results16 rfl (box_set4 HX.out _ _ _ _) Try.underlying27 infoT) rfl ?_
  exact ⟨_, rfl, TubeIs.base (TubeIs.far4 HT.out (by omega) _ _ _ _) (by omega), ext_set4 EE4.out (by omega) _ _ _ _⟩

end Go.Proofs.Ytnmigjiaeahekaa

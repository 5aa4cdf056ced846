/- Pinched tubes. -/
import Derived.Test.YtogjehlepdapoabT8
import Derived.Test.YtogjehlepdapoabTail
import Derived.Test.YtogjehlepdapoabRoot
namespace Go.Proofs.Ytogjehlepdapoab
open Go.RowKit Flt
set_option linter.unusedVariables false

def rootC (x : Option Nat) : Option Nat := fnar (fsqrt (fwide x))
/-- what becomes of the area number q -/
def pinchAt (i : Nat) (X c : Option Nat) (q : Nat) : Option Nat := if q = i then fop .mul .f32 c X else if q + 1 = i ∨ q = i + 1 then fop .mul .f32 c (rootC X) else c
def pinchC (i : Nat) (X : Option Nat) (cs : List (Option Nat)) : List (Option Nat) := (List.range cs.length).map fun q => pinchAt i X (cs.getD q none) q
def pinchT (cs : List (Option Nat)) (l t p : Option Nat) (i : Int) (X : Option Nat) : TR := if tubeC cs l t p = true ∧ 0 ≤ i ∧ i < cs.length ∧ areaC X = true then giveT (pinchC i.toNat X cs) l t p else zeroT
theorem pinch_len (cs : List (Option Nat)) (l t p : Option Nat) (i : Int) (X : Option Nat) : (pinchT cs l t p i X).cs.length ≤ 16 := by
  unfold pinchT
  split
  · exact give_len _ _ _ _
  · exact Nat.zero_le _
theorem pinch_of {i n : Nat} {X : Option Nat} {zs ys : List Nat} (h1 : ys.length = n) (h2 : zs.length = n) (h : ∀ q, q < n → cls .f32 (ys.getD q 0) = pinchAt i X (cls .f32 (zs.getD q 0)) q) : ys.map (cls .f32) = pinchC i X (zs.map (cls .f32)) := by
  apply List.ext_getElem?
  intro q
  by_cases hq : q < n
  · have := h q hq
    simp [List.getD, show q < ys.length by omega, show q < zs.length by omega] at this
    simp [pinchC, List.getD, show q < ys.length by omega, show q < zs.length by omega, this]
  · rw [List.getElem?_eq_none (by simp; omega), List.getElem?_eq_none (by simp [pinchC]; omega)]
theorem getD_set11 (ys : List Nat) (k q r : Nat) (hk : k < ys.length) : (ys.set k r).getD q 0 = if q = k then r else ys.getD q 0 := by
  by_cases h : q = k
  · subst h; simp [List.getD, hk]
  · rw [if_neg h]; simp [List.getD, List.getElem?_set_ne (Ne.symm h)]
/-- an area times an infinity is none -/
theorem area_inf {a x : Option Nat} (ha : areaC a = true) (hx : fin32 x = false) : areaC (fop .mul .f32 a x) = false := by
  unfold areaC at ha
  simp only [Bool.and_eq_true] at ha
  obtain ⟨hg, hf⟩ := ha
  cases a with
  | none => simp [fin32] at hf
  | some b =>
    cases x with
    | none => simp [fop, areaC, ford, fcmp]
    | some c =>
      have e : fop .mul .f32 (some b) (some c) = ((FloatKind.f32.format.read b).product (FloatKind.f32.format.read c)).map FloatKind.f32.format.write := rfl
      have hc : ∃ s, FloatKind.f32.format.read c = .infinity s ∨ ∃ q, FloatKind.f32.format.read c = .nan s q := by
        simp only [fin32, Bool.not_eq_false'] at hx
        cases hd : FloatKind.f32.format.read c with
        | infinity s => exact ⟨s, .inl rfl⟩
        | number s m e => rw [hd] at hx; simp [Ieee.Datum.isInfinity] at hx
        | nan s q => exact ⟨s, .inr ⟨q, rfl⟩⟩
      have key : ∀ s, areaC (some (FloatKind.f32.format.write (.infinity s))) = false := by intro s; cases s <;> decide
      rw [e]
      obtain ⟨s, hs | ⟨q, hs⟩⟩ := hc
      · rw [hs]
        cases hb : FloatKind.f32.format.read b with
        | infinity t => simp [fin32, hb, Ieee.Datum.isInfinity] at hf
        | nan t q => cases t <;> simp [Ieee.Datum.product, areaC, ford, fcmp]
        | number t m j =>
          by_cases hm : m = 0
          · subst hm; simp [Ieee.Datum.product, areaC, ford, fcmp]
          · simp only [Ieee.Datum.product, hm, if_false, Option.map_some]
            first | exact key _ | (simp; exact key _)
      · rw [hs]
        cases hb : FloatKind.f32.format.read b <;> simp [Ieee.Datum.product, areaC, ford, fcmp]
theorem pinch_inf {cs : List (Option Nat)} {l t p : Option Nat} {i : Nat} {X : Option Nat} (hv : tubeC cs l t p = true) (hi : i < cs.length) (hx : fin32 X = false) : giveT (pinchC i X cs) l t p = zeroT := by
  have ha : areaC (cs.getD i none) = true := by
    unfold tubeC areasC at hv
    simp only [Bool.and_eq_true, List.all_eq_true] at hv
    refine hv.1.2.2 _ ?_
    simp [List.getD, hi]
  have hm : fop .mul .f32 (cs.getD i none) X ∈ pinchC i X cs := by
    unfold pinchC
    rw [List.mem_map]
    exact ⟨i, by rw [List.mem_range]; exact hi, by simp [pinchAt]⟩
  unfold giveT
  rw [if_neg]
  unfold tubeC areasC
  have : (pinchC i X cs).all areaC = false := by
    rw [List.all_eq_false]
    exact ⟨_, hm, by rw [area_inf ha hx]; decide⟩
  rw [this]; simp

set_option maxHeartbeats 2000000 in
set_option maxRecDepth 100000 in
theorem pinch_any (a : Option Addr) (n c l t p x : Nat) (zs : List Nat) (i : Int) (R : TR) (w : World) (h : Holds .f32 w a n zs) (hn : n ≤ 1048576) (hR : pinchT (zs.map (cls .f32)) (cls .f32 l) (cls .f32 t) (cls .f32 p) i (cls .f32 x) = R) :
    Calls Try.prog 18 #[.agg #[.slice a n c, .float .f32 l, .float .f32 t, .float .f32 p], .int .i64 i, .float .f32 x] w fun e w' => ∃ v, e = .returned (.tuple #[v, .bool R.ok]) ∧ TubeIs w' w.heap.size R v ∧ Ext w w' := by
  have HH := hid h
  have HN := hid hn
  have HL := hid h.1
  have hln : (zs.map (cls .f32)).length = n := by have := h.1; simp; omega
  cases hV : tubeC (zs.map (cls .f32)) (cls .f32 l) (cls .f32 t) (cls .f32 p)
  · have e : R = zeroT := by rw [← hR]; unfold pinchT; rw [if_neg (by rw [hV]; simp)]
    subst e
    clear hR
    clear h hn hln
    go_enter Try.func18, Try.ntmps18
    go_wp2_with (first | (go_at_call 61; refine (validTube_any _ _ _ _ _ _ zs _ (Holds.alloc (Holds.alloc HH.out _) _) HN.out).mono ?_; rintro e w1 ⟨rfl, m, rfl⟩; simp only [hV]))
    go_returns
    refine ⟨_, rfl, zero_is _ _, ?_⟩
    (repeat with_reducible (first | exact Ext.refl _ | exact ext_alloc _ _ | refine Ext.drewN ?_ _ | refine Ext.drew1 ?_ | refine Ext.set ?_ (by dsimp only; omega) _ | refine Ext.alloc ?_ _))
  by_cases hi0 : i < 0
  · have e : R = zeroT := by rw [← hR]; unfold pinchT; rw [if_neg (by omega)]
    subst e
    clear hR
    clear h hn hln
    go_enter Try.func18, Try.ntmps18
    go_wp2_with (first | (go_at_call 61; refine (validTube_any _ _ _ _ _ _ zs _ (Holds.alloc (Holds.alloc HH.out _) _) HN.out).mono ?_; rintro e w1 ⟨rfl, m, rfl⟩; simp only [hV]))
    go_returns
    refine ⟨_, rfl, zero_is _ _, ?_⟩
    (repeat with_reducible (first | exact Ext.refl _ | exact ext_alloc _ _ | refine Ext.drewN ?_ _ | refine Ext.drew1 ?_ | refine Ext.set ?_ (by dsimp only; omega) _ | refine Ext.alloc ?_ _))
  by_cases hi1 : (n : Int) ≤ i
  · have e : R = zeroT := by rw [← hR]; unfold pinchT; rw [if_neg (by rw [hln]; omega)]
    subst e
    clear hR
    clear h hn hln
    go_enter Try.func18, Try.ntmps18
    go_wp2_with (first | (go_at_call 61; refine (validTube_any _ _ _ _ _ _ zs _ (Holds.alloc (Holds.alloc HH.out _) _) HN.out).mono ?_; rintro e w1 ⟨rfl, m, rfl⟩; simp only [hV]))
    go_returns
    refine ⟨_, rfl, zero_is _ _, ?_⟩
    (repeat with_reducible (first | exact Ext.refl _ | exact ext_alloc _ _ | refine Ext.drewN ?_ _ | refine Ext.drew1 ?_ | refine Ext.set ?_ (by dsimp only; omega) _ | refine Ext.alloc ?_ _))
  cases h1 : fcmp .gtr (ford .f32 (cls .f32 x) (some 0))
  · have e : R = zeroT := by rw [← hR]; unfold pinchT; rw [if_neg (by unfold areaC; rw [h1]; simp)]
    subst e
    clear hR
    have h1' : (FloatKind.f32.format.order x 0 == some .gt) = false := by rw [order_cls, show cls .f32 0 = some 0 from rfl]; exact h1
    clear h hn hln
    go_enter Try.func18, Try.ntmps18
    go_wp2_with (first | (go_at_call 61; refine (validTube_any _ _ _ _ _ _ zs _ (Holds.alloc (Holds.alloc HH.out _) _) HN.out).mono ?_; rintro e w1 ⟨rfl, m, rfl⟩; simp only [hV]) | (refine wpList_fcmp rfl rfl rfl rfl rfl (by first | exact is_const (by decide) | exact is_self _ _) (by first | exact is_const (by decide) | exact is_self _ _) ?_; try simp only [h1]))
    go_returns
    refine ⟨_, rfl, zero_is _ _, ?_⟩
    (repeat with_reducible (first | exact Ext.refl _ | exact ext_alloc _ _ | refine Ext.drewN ?_ _ | refine Ext.drew1 ?_ | refine Ext.set ?_ (by dsimp only; omega) _ | refine Ext.alloc ?_ _))
  obtain ⟨k, rfl⟩ : ∃ k : Nat, i = (k : Int) := ⟨i.toNat, by omega⟩
  have hk : k < n := by omega
  have e : giveT (pinchC k (cls .f32 x) (zs.map (cls .f32))) (cls .f32 l) (cls .f32 t) (cls .f32 p) = R := by
    cases hf : fin32 (cls .f32 x)
    · rw [pinch_inf hV (by rw [hln]; exact hk) hf, ← hR]
      unfold pinchT
      rw [if_neg (by unfold areaC; rw [hf]; simp)]
    · rw [← hR]
      unfold pinchT
      rw [if_pos ⟨hV, by omega, by rw [hln]; omega, by unfold areaC; rw [h1, hf]; rfl⟩]
      simp
  have HE := hid e
  have H1 := hid (show 1 ≤ n from by omega)
  have hkI : (k : Int) < (n : Int) := by omega
  have hk0 : (0 : Int) ≤ (k : Int) := by omega
  have hk9 : ¬ (n ≤ k) := by omega
  have hk8 : ¬ ((k : Int) < 0) := by omega
  have h1' : (FloatKind.f32.format.order x 0 == some .gt) = true := by rw [order_cls, show cls .f32 0 = some 0 from rfl]; exact h1
  clear h hR hi0 hi1 hln e
  go_enter Try.func18, Try.ntmps18
  go_wp2_with (first | (go_at_call 61; refine (validTube_any _ _ _ _ _ _ zs _ (Holds.alloc (Holds.alloc HH.out _) _) HN.out).mono ?_; rintro e w1 ⟨rfl, m, rfl⟩; simp only [hV]) | (refine wpList_fcmp rfl rfl rfl rfl rfl (by first | exact is_const (by decide) | exact is_self _ _) (by first | exact is_const (by decide) | exact is_self _ _) ?_; try simp only [h1]))
  refine (clone_any _ _ _ zs _ (Holds.drew (Holds.alloc (Holds.alloc (Holds.alloc HH.out _) _) _) _) H1.out HN.out).mono ?_
  rintro e2 w2 ⟨b2, c2, rfl, O2, E2⟩
  have EE := hid (show Ext w w2 from Ext.trans (by (repeat with_reducible (first | exact Ext.refl _ | exact ext_alloc _ _ | refine Ext.drewN ?_ _ | refine Ext.drew1 ?_ | refine Ext.set ?_ (by dsimp only; omega) _ | refine Ext.alloc ?_ _))) E2)
  have BA := hid (Box.ext (Box.drewN (Box.alloc (Box.alloc (box_new (w := w) #[.slice a n c, .float .f32 l, .float .f32 t, .float .f32 p] 27) (.cells #[.slice none 0 0, .float .f32 0, .float .f32 0, .float .f32 0] 27)) (.cells #[.slice a n c, .float .f32 l, .float .f32 t, .float .f32 p] 27)) m) E2)
  have BR := hid (Box.cast (b' := w.heap.size + 1) (Box.ext (Box.drewN (Box.alloc (box_new (w := w.alloc (.cells #[.slice a n c, .float .f32 l, .float .f32 t, .float .f32 p] 27)) #[.slice none 0 0, .float .f32 0, .float .f32 0, .float .f32 0] 27) (.cells #[.slice a n c, .float .f32 l, .float .f32 t, .float .f32 p] 27)) m) E2) (by simp))
  have HO := hid (Own.base O2 (B' := w.heap.size + 2) (by simp <;> omega))
  have HI := hid (Own.block HO.out)
  clear O2 E2
  have hb2 := (HI.out b2 rfl).1
  have hne1 : w.heap.size ≠ b2 := by omega
  have hne2 : w.heap.size + 1 ≠ b2 := by omega
  have e1 := Own.cellAt HO.out k hk
  have f1 := Own.frozenAt HO.out k
  obtain ⟨d0, d1, d2, d3, dl⟩ := Box.cells4 BA.out
  have HY := hid (Own.len HO.out)
  have HV1 := hid (show ∃ q1, zs.getD k 0 = q1 from ⟨_, rfl⟩)
  obtain ⟨q1, hq1⟩ := HV1.out
  have HQ1 := hid hq1
  rw [hq1] at e1
  clear hq1 HV1
  by_cases hlo : 0 < k
  · obtain ⟨j, rfl⟩ : ∃ j, k = j + 1 := ⟨k - 1, by omega⟩
    have e0 := Own.cellAt HO.out j (by omega)
    have f0 := Own.frozenAt HO.out j
    obtain ⟨q0, hq0⟩ : ∃ q0, zs.getD j 0 = q0 := ⟨_, rfl⟩
    have HQ0 := hid hq0
    rw [hq0] at e0
    clear hq0
    by_cases hhi : (j + 1) + 1 < n
    · have e9 := Own.cellAt HO.out ((j + 1) + 1) hhi
      have f9 := Own.frozenAt HO.out ((j + 1) + 1)
      obtain ⟨q9, hq9⟩ : ∃ q9, zs.getD ((j + 1) + 1) 0 = q9 := ⟨_, rfl⟩
      have HQ9 := hid hq9
      rw [hq9] at e9
      clear hq9
      have hhI : ((j : Int) + 1) + 1 < (n : Int) := by omega
      go_wp2_with (first | (refine wpList_farith (bx := q1) rfl rfl rfl rfl rfl ?_; intro r1 m1 hr1 hrw1) | (refine wpList_farith (bx := q0) rfl rfl rfl rfl rfl ?_; intro r0 m0 hr0 hrw0) | (refine wpList_farith (bx := q9) rfl rfl rfl rfl rfl ?_; intro r9 mm9 hr9 hrw9) | (go_at_call 63; refine (root_any _ _).mono ?_; rintro e9 w9 ⟨rr, rfl, hrr, m9, rfl⟩))
      have HP := hid (show (((zs.set (j + 1) r1).set j r0).set ((j + 1) + 1) r9).map (cls .f32) = pinchC (j + 1) (cls .f32 x) (zs.map (cls .f32)) from pinch_of (n := n) (by first | (simp; exact HL.out) | exact HL.out) HL.out (by
        have hly : zs.length = n := HL.out
        intro q hq
        rw [getD_set11 _ _ _ _ (by first | omega | (simp; omega))]; rw [getD_set11 _ _ _ _ (by first | omega | (simp; omega))]; rw [getD_set11 _ _ _ _ (by first | omega | (simp; omega))]
        by_cases hq0 : q = ((j + 1) + 1)
        · rw [hq0, if_pos rfl]
          unfold pinchAt
          rw [if_neg (by omega), if_pos (by omega), HQ9.out, hr9.out, hrr.out]; rfl
        by_cases hq1 : q = j
        · rw [hq1, if_neg (by omega), if_pos rfl]
          unfold pinchAt
          rw [if_neg (by omega), if_pos (by omega), HQ0.out, hr0.out, hrr.out]; rfl
        by_cases hq2 : q = (j + 1)
        · rw [hq2, if_neg (by omega), if_neg (by omega), if_pos rfl]
          unfold pinchAt
          rw [if_pos rfl, HQ1.out]; exact hr1.out
        rw [if_neg hq0, if_neg hq1, if_neg hq2]
        unfold pinchAt
        rw [if_neg (by omega), if_neg (by omega)]
      ))
      refine (withAreas_any _ _ _ _ _ _ _ _ _ _ (((zs.set (j + 1) r1).set j r0).set ((j + 1) + 1) r9) R _ (Own.stored (Own.drewN (Own.stored (Own.drewN (Own.stored (Own.drewN HO.out _) _ _).1 _) _ _).1 _) _ _).1 HN.out (by rw [HP.out]; exact HE.out)).mono ?_
      rintro e3 w3 ⟨v, rfl, hT, E3⟩
      have HX := hid (Box.ext (Box.far (Box.drewN (Box.far (Box.drewN (Box.far (Box.drewN BR.out _) hne2 _) _) hne2 _) _) hne2 _) E3)
      have EE3 := hid (Ext.trans (Ext.set (Ext.drewN (Ext.set (Ext.drewN (Ext.set (Ext.drewN EE.out _) (by dsimp only; omega) _) _) (by dsimp only; omega) _) _) (by dsimp only; omega) _) E3)
      obtain ⟨ra, rc, rl, rt, rp, rz, rfl, rO, re⟩ := hT
      have HT := hid (show TubeIs w3 (w.heap.size + 2) R (.agg #[.slice ra R.cs.length rc, .float .f32 rl, .float .f32 rt, .float .f32 rp]) from ⟨ra, rc, rl, rt, rp, rz, rfl, rO, re⟩)
      clear rO re E3
      obtain ⟨y0, y1, y2, y3, yf0, yf1, yf2, yf3, yl⟩ := Box.all4 HX.out
      go_wp2_with fail
      clear y0 y1 y2 y3 yf0 yf1 yf2 yf3 yl
      refine bodyPost_ret (ret_cell2 Try.results18 rfl (box_set4 HX.out _ _ _ _) Try.underlying27 infoT) rfl ?_
      exact ⟨_, rfl, TubeIs.base (TubeIs.far4 HT.out (by omega) _ _ _ _) (by omega), ext_set4 EE3.out (by omega) _ _ _ _⟩
    · have hhI : ¬ (((j : Int) + 1) + 1 < (n : Int)) := by omega
      go_wp2_with (first | (refine wpList_farith (bx := q1) rfl rfl rfl rfl rfl ?_; intro r1 m1 hr1 hrw1) | (refine wpList_farith (bx := q0) rfl rfl rfl rfl rfl ?_; intro r0 m0 hr0 hrw0) | (go_at_call 63; refine (root_any _ _).mono ?_; rintro e9 w9 ⟨rr, rfl, hrr, m9, rfl⟩))
      have HP := hid (show ((zs.set (j + 1) r1).set j r0).map (cls .f32) = pinchC (j + 1) (cls .f32 x) (zs.map (cls .f32)) from pinch_of (n := n) (by first | (simp; exact HL.out) | exact HL.out) HL.out (by
        have hly : zs.length = n := HL.out
        intro q hq
        rw [getD_set11 _ _ _ _ (by first | omega | (simp; omega))]; rw [getD_set11 _ _ _ _ (by first | omega | (simp; omega))]
        by_cases hq0 : q = j
        · rw [hq0, if_pos rfl]
          unfold pinchAt
          rw [if_neg (by omega), if_pos (by omega), HQ0.out, hr0.out, hrr.out]; rfl
        by_cases hq1 : q = (j + 1)
        · rw [hq1, if_neg (by omega), if_pos rfl]
          unfold pinchAt
          rw [if_pos rfl, HQ1.out]; exact hr1.out
        rw [if_neg hq0, if_neg hq1]
        unfold pinchAt
        rw [if_neg (by omega), if_neg (by omega)]
      ))
      refine (withAreas_any _ _ _ _ _ _ _ _ _ _ ((zs.set (j + 1) r1).set j r0) R _ (Own.stored (Own.drewN (Own.stored (Own.drewN HO.out _) _ _).1 _) _ _).1 HN.out (by rw [HP.out]; exact HE.out)).mono ?_
      rintro e3 w3 ⟨v, rfl, hT, E3⟩
      have HX := hid (Box.ext (Box.far (Box.drewN (Box.far (Box.drewN BR.out _) hne2 _) _) hne2 _) E3)
      have EE3 := hid (Ext.trans (Ext.set (Ext.drewN (Ext.set (Ext.drewN EE.out _) (by dsimp only; omega) _) _) (by dsimp only; omega) _) E3)
      obtain ⟨ra, rc, rl, rt, rp, rz, rfl, rO, re⟩ := hT
      have HT := hid (show TubeIs w3 (w.heap.size + 2) R (.agg #[.slice ra R.cs.length rc, .float .f32 rl, .float .f32 rt, .float .f32 rp]) from ⟨ra, rc, rl, rt, rp, rz, rfl, rO, re⟩)
      clear rO re E3
      obtain ⟨y0, y1, y2, y3, yf0, yf1, yf2, yf3, yl⟩ := Box.all4 HX.out
      go_wp2_with fail
      clear y0 y1 y2 y3 yf0 yf1 yf2 yf3 yl
      refine bodyPost_ret (ret_cell2 Try.results18 rfl (box_set4 HX.out _ _ _ _) Try.underlying27 infoT) rfl ?_
      exact ⟨_, rfl, TubeIs.base (TubeIs.far4 HT.out (by omega) _ _ _ _) (by omega), ext_set4 EE3.out (by omega) _ _ _ _⟩
  · have hk00 : k = 0 := by omega
    subst hk00
    by_cases hhi : 0 + 1 < n
    · have e9 := Own.cellAt HO.out (0 + 1) hhi
      have f9 := Own.frozenAt HO.out (0 + 1)
      obtain ⟨q9, hq9⟩ : ∃ q9, zs.getD (0 + 1) 0 = q9 := ⟨_, rfl⟩
      have HQ9 := hid hq9
      rw [hq9] at e9
      clear hq9
      have hhI : 0 + 1 < (n : Int) := by omega
      go_wp2_with (first | (refine wpList_farith (bx := q1) rfl rfl rfl rfl rfl ?_; intro r1 m1 hr1 hrw1) | (refine wpList_farith (bx := q9) rfl rfl rfl rfl rfl ?_; intro r9 mm9 hr9 hrw9) | (go_at_call 63; refine (root_any _ _).mono ?_; rintro e9 w9 ⟨rr, rfl, hrr, m9, rfl⟩))
      have HP := hid (show ((zs.set 0 r1).set (0 + 1) r9).map (cls .f32) = pinchC 0 (cls .f32 x) (zs.map (cls .f32)) from pinch_of (n := n) (by first | (simp; exact HL.out) | exact HL.out) HL.out (by
        have hly : zs.length = n := HL.out
        intro q hq
        rw [getD_set11 _ _ _ _ (by first | omega | (simp; omega))]; rw [getD_set11 _ _ _ _ (by first | omega | (simp; omega))]
        by_cases hq0 : q = (0 + 1)
        · rw [hq0, if_pos rfl]
          unfold pinchAt
          rw [if_neg (by omega), if_pos (by omega), HQ9.out, hr9.out, hrr.out]; rfl
        by_cases hq1 : q = 0
        · rw [hq1, if_neg (by omega), if_pos rfl]
          unfold pinchAt
          rw [if_pos rfl, HQ1.out]; exact hr1.out
        rw [if_neg hq0, if_neg hq1]
        unfold pinchAt
        rw [if_neg (by omega), if_neg (by omega)]
      ))
      refine (withAreas_any _ _ _ _ _ _ _ _ _ _ ((zs.set 0 r1).set (0 + 1) r9) R _ (Own.stored (Own.drewN (Own.stored (Own.drewN HO.out _) _ _).1 _) _ _).1 HN.out (by rw [HP.out]; exact HE.out)).mono ?_
      rintro e3 w3 ⟨v, rfl, hT, E3⟩
      have HX := hid (Box.ext (Box.far (Box.drewN (Box.far (Box.drewN BR.out _) hne2 _) _) hne2 _) E3)
      have EE3 := hid (Ext.trans (Ext.set (Ext.drewN (Ext.set (Ext.drewN EE.out _) (by dsimp only; omega) _) _) (by dsimp only; omega) _) E3)
      obtain ⟨ra, rc, rl, rt, rp, rz, rfl, rO, re⟩ := hT
      have HT := hid (show TubeIs w3 (w.heap.size + 2) R (.agg #[.slice ra R.cs.length rc, .float .f32 rl, .float .f32 rt, .float .f32 rp]) from ⟨ra, rc, rl, rt, rp, rz, rfl, rO, re⟩)
      clear rO re E3
      obtain ⟨y0, y1, y2, y3, yf0, yf1, yf2, yf3, yl⟩ := Box.all4 HX.out
      go_wp2_with fail
      clear y0 y1 y2 y3 yf0 yf1 yf2 yf3 yl
      refine bodyPost_ret (ret_cell2 Try.results18 rfl (box_set4 HX.out _ _ _ _) Try.underlying27 infoT) rfl ?_
      exact ⟨_, rfl, TubeIs.base (TubeIs.far4 HT.out (by omega) _ _ _ _) (by omega), ext_set4 EE3.out (by omega) _ _ _ _⟩
    · have hhI : ¬ (0 + 1 < (n : Int)) := by omega
      go_wp2_with (first | (refine wpList_farith (bx := q1) rfl rfl rfl rfl rfl ?_; intro r1 m1 hr1 hrw1) | (go_at_call 63; refine (root_any _ _).mono ?_; rintro e9 w9 ⟨rr, rfl, hrr, m9, rfl⟩))
      have HP := hid (show (zs.set 0 r1).map (cls .f32) = pinchC 0 (cls .f32 x) (zs.map (cls .f32)) from pinch_of (n := n) (by first | (simp; exact HL.out) | exact HL.out) HL.out (by
        have hly : zs.length = n := HL.out
        intro q hq
        rw [getD_set11 _ _ _ _ (by first | omega | (simp; omega))]
        by_cases hq0 : q = 0
        · rw [hq0, if_pos rfl]
          unfold pinchAt
          rw [if_pos rfl, HQ1.out]; exact hr1.out
        rw [if_neg hq0]
        unfold pinchAt
        rw [if_neg (by omega), if_neg (by omega)]
      ))
      refine (withAreas_any _ _ _ _ _ _ _ _ _ _ (zs.set 0 r1) R _ (Own.drewN (Own.stored (Own.drewN HO.out _) _ _).1 _) HN.out (by rw [HP.out]; exact HE.out)).mono ?_
      rintro e3 w3 ⟨v, rfl, hT, E3⟩
      have HX := hid (Box.ext (Box.drewN (Box.far (Box.drewN BR.out _) hne2 _) _) E3)
      have EE3 := hid (Ext.trans (Ext.drewN (Ext.set (Ext.drewN EE.out _) (by dsimp only; omega) _) _) E3)
      obtain ⟨ra, rc, rl, rt, rp, rz, rfl, rO, re⟩ := hT
      have HT := hid (show TubeIs w3 (w.heap.size + 2) R (.agg #[.slice ra R.cs.length rc, .float .f32 rl, .float .f32 rt, .float .f32 rp]) from ⟨ra, rc, rl, rt, rp, rz, rfl, rO, re⟩)
      clear rO re E3
      obtain ⟨y0, y1, y2, y3, yf0, yf1, yf2, yf3, yl⟩ := Box.all4 HX.out
      go_wp2_with fail
      clear y0 y1 y2 y3 yf0 yf1 yf2 yf3 yl
      refine bodyPost_ret (ret_cell2 Try.results18 rfl (box_set4 HX.out _ _ _ _) Try.underlying27 infoT) rfl ?_
      exact ⟨_, rfl, TubeIs.base (TubeIs.far4 HT.out (by omega) _ _ _ _) (by omega), ext_set4 EE3.out (by omega) _ _ _ _⟩

end Go.Proofs.Ytogjehlepdapoab

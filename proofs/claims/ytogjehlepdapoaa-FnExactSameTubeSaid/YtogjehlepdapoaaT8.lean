/- Scaled tubes. -/
import Derived.Test.YtogjehlepdapoaaT7
namespace Go.Proofs.Ytogjehlepdapoaa
open Go.RowKit Flt
set_option linter.unusedVariables false

theorem step_fa {P : Program} {w : World} {ops : Array Oper} {o : Oper} {a : Act} {K : Act → World → Prop} {Q : Exit → Act → World → Prop} {E : Prop} {op : BinOp} {t ty : TypeId} {x y : Operand} (hgd : o.guard = none) (hop : o.op = Op.binOp op t x y ty) (hops : isArith op = true)
    {k : FloatKind} {bx cy : Nat} (hx : a.eval x = .float k bx) (hy : a.eval y = .float k cy)
    (hK : ∀ r n, Hid (cls k r = fop op k (cls k bx) (cls k cy)) → K (a.put o.dst (.float k r)) (w.drewN n)) :
    if Region.wanted o (yielded ops a.tmps) = true then Oper.wp P o a w K Q else E := by
  have hw : Region.wanted o (yielded ops a.tmps) = true := by simp [Region.wanted, hgd]
  rw [if_pos hw]
  have hops := isArith_or hops
  obtain ⟨r, n, hrun, h1, h2⟩ := run_farith (P := P) w op hops t k bx cy
  unfold Oper.wp
  have hk := hK r n (hid h1)
  rcases hops with rfl | rfl | rfl | rfl <;> simp [execOp, hop, hx, hy, hrun, eqGuard] <;> exact hk

def scaleC (X : Option Nat) (cs : List (Option Nat)) : List (Option Nat) := cs.map fun x => fop .mul .f32 x X
def scaleT (cs : List (Option Nat)) (l t p X : Option Nat) : TR := if tubeC cs l t p then giveT (scaleC X cs) l t p else zeroT
theorem scaleC_snoc (X : Option Nat) (zs : List Nat) (k : Nat) (h : k < zs.length) : scaleC X ((zs.take (k + 1)).map (cls .f32)) = scaleC X ((zs.take k).map (cls .f32)) ++ [fop .mul .f32 (cls .f32 (zs.getD k 0)) X] := by
  rw [take_snoc_getD zs k h]; simp [scaleC]
theorem own_snoc {w : World} {B k : Nat} {v : Value} {ys : List Nat} {r : Nat} (h : w.ownsRow B 25 1 v (k + 1) (ys.map (Value.float .f32) ++ [.float .f32 r])) : Own w B (k + 1) v (ys ++ [r]) := by
  unfold Own; simpa using h
set_option maxHeartbeats 1000000 in
theorem scaled_any (a : Option Addr) (n c x : Nat) (zs : List Nat) (w : World) (h : Holds .f32 w a n zs) (hn : n ≤ 1048576) :
    Calls Try.prog 77 #[.slice a n c, .float .f32 x] w fun e w' => ∃ b c' ys, e = .returned (.slice b n c') ∧ Own w' w.heap.size n (.slice b n c') ys ∧ ys.map (cls .f32) = scaleC (cls .f32 x) (zs.map (cls .f32)) ∧ Ext w w' := by
  obtain ⟨i0, hi, hz0, hz1, hz2⟩ := info_parts infoF
  have HI := hid (And.intro hi (And.intro hz0 (And.intro hz1 hz2)))
  have HH := hid h
  have HL := hid h.1
  have HN := hid hn
  have hmk : (Instr.makeSlice 24 (.int .i64 (0 : Int)) (.int .i64 (n : Int))).run Try.prog w = .ok (.slice (some ⟨w.heap.size, 0, none⟩) 0 n) (w.alloc (.cells (madeCells #[.float .f32 0] n) 25)) := by
    have := run_make (P := Try.prog) w 24 25 i0 (.float .f32 0) Try.underlying24 hi hz0 .i64 .i64 (0 : Int) (n : Int) (by omega) (by omega) (by rw [hz2]; omega) (by omega)
    rw [hz1] at this
    simpa [Value.cells] using this
  have HM := hid (size_madeCells #[.float .f32 0] n)
  have HO0 := hid (World.ownsRow_made (e := 25) (size := 1) (base := w.heap.size) w (madeCells #[.float .f32 0] n) n (Nat.le_refl _) (by unfold maxLen; omega) (by rw [HM.out]; omega))
  have hcell : ∀ wr, Ext w wr → ∀ k, k < n → ∃ b off, a = some ⟨b, off, none⟩ ∧ wr.cell? ⟨b, off + k, none⟩ = some (.float .f32 (zs.getD k 0)) := by
    intro wr e k hk
    rcases h.2 with h0 | ⟨b, off, rfl, hb, hc⟩
    · omega
    · exact ⟨b, off, rfl, (Below.cell e (p := ⟨b, off + k, none⟩) hb).trans (hc k hk)⟩
  have HC := hid hcell
  clear hi hz0 hz1 hz2 h hn hcell
  go_enter Try.func77, Try.ntmps77
  go_wp2
  go_loopw [5, 13] (fun v i wr => ∃ (k : Nat) (ys : List Nat), k ≤ n ∧ i = .int .i64 k ∧ Hid (Own wr w.heap.size k v ys) ∧ Hid (ys.map (cls .f32) = scaleC (cls .f32 x) ((zs.take k).map (cls .f32))) ∧ Hid (Ext w wr)) (fun _ i _ => n - (intOf i).toNat)
  case atStart => exact ⟨0, [], Nat.zero_le _, rfl, hid HO0.out, rfl, hid (ext_alloc _ _)⟩
  case round =>
    obtain ⟨k, ys, hk, rfl, ho, hy, he⟩ := hrel
    have hn2 : n ≤ 1048576 := HN.out
    by_cases hlt : k < n
    · obtain ⟨b, off, rfl, e1⟩ := HC.out _ he.out k hlt
      have hs := hid (scaleC_snoc (cls .f32 x) zs k (by rw [HL.out]; exact hlt))
      generalize zs.getD k 0 = q at e1 hs
      clear hmk
      have hi0 : (0 : Int) ≤ (k : Int) := by omega
      have hi1 : (k : Int) < (n : Int) := by omega
      go_wp2_with (first | (refine wpList_farith rfl rfl rfl rfl rfl ?_; intro r2 m2 hr2 hrw2) | (at_builtin; refine wpList_append_lies _ rfl _ _ 24 rfl w.heap.size 25 i0 (.float .f32 0) 1 4 Try.underlying24 HI.out.1 HI.out.2.1 HI.out.2.2.1 HI.out.2.2.2 rfl (by decide) _ _ _ rfl (Own.alloc (Own.drewN ho.out m2) _) ⟨wr.heap.size, 0, none⟩ 1 1 [.float .f32 r2] rfl rfl (World.news_of_block (heap_alloc_new _ _)) (by intro u hu; simp at hu; subst hu; rfl) (by omega) (by have h9 := HN.out; unfold maxLen; omega) (by have h9 := HN.out; omega) (by have h8 := Ext.size he.out; simp; omega) _ rfl ?_; intro g cap w1 hown hgrow hat hlt2))
      have h1 := hid (own_snoc hown)
      have h2 := hid (show Ext w w1 from But.below hgrow (Ext.alloc (Ext.drewN he.out m2) _) (fun k2 hk2 => (Own.block ho.out k2 hk2).1))
      have h3 := hid (show (ys ++ [r2]).map (cls .f32) = scaleC (cls .f32 x) ((zs.take (k + 1)).map (cls .f32)) from by rw [List.map_append, hy.out, hs.out, ← hr2.out]; rfl)
      clear hown hgrow hat hlt2
      go_wp2
      go_roundw
      case rel => exact ⟨k + 1, ys ++ [r2], by omega, by go_num, h1, h3, h2⟩
      case measure => simp [intOf]; omega
    · have hkn : k = n := by omega
      subst hkn
      clear hmk
      go_wp2
      go_ret
      obtain ⟨b, c', e1, _⟩ := Own.holds ho.out
      refine ⟨b, c', ys, by rw [← e1]; rfl, by rw [← e1]; exact ho.out, ?_, he.out⟩
      rw [hy.out, List.take_of_length_le (by rw [HL.out]; exact Nat.le_refl _)]

theorem farith_fun {P : Program} (op : BinOp) (hop : isArith op = true) (t : TypeId) (k : FloatKind) (x y : Nat) : ∃ F G : World → Nat, (∀ w, (binOp op t (.float k x) (.float k y)).run P w = .ok (.float k (F w)) (w.drewN (G w))) ∧ ∀ w, cls k (F w) = fop op k (cls k x) (cls k y) := by
  have h : ∀ w, ∃ r n, (binOp op t (.float k x) (.float k y)).run P w = .ok (.float k r) (w.drewN n) ∧ cls k r = fop op k (cls k x) (cls k y) := fun w => by
    obtain ⟨r, n, h1, h2, _⟩ := run_farith (P := P) w op (isArith_or hop) t k x y
    exact ⟨r, n, h1, h2⟩
  exact ⟨fun w => (h w).choose, fun w => (h w).choose_spec.choose, fun w => (h w).choose_spec.choose_spec.1, fun w => (h w).choose_spec.choose_spec.2⟩
theorem validOnly_yes (a : Option Addr) (n c l t p : Nat) (zs : List Nat) (w : World) (h : Holds .f32 w a n zs) (hn : n ≤ 1048576) (hV : tubeC (zs.map (cls .f32)) (cls .f32 l) (cls .f32 t) (cls .f32 p) = true) :
    Calls Try.prog 78 #[.agg #[.slice a n c, .float .f32 l, .float .f32 t, .float .f32 p]] w fun e w' => e = .returned (.tuple #[.agg #[.slice a n c, .float .f32 l, .float .f32 t, .float .f32 p], .bool true]) ∧ Ext w w' := by
  have HD := hid h
  have HN := hid hn
  clear h hn
  go_enter Try.func78, Try.ntmps78
  go_wp2_with fail
  refine (validTube_any _ _ _ _ _ _ zs _ (Holds.alloc (Holds.alloc HD.out _) _) HN.out).mono ?_
  rintro e w1 ⟨rfl, m, rfl⟩
  simp only [hV]
  go_wp2_with fail
  go_returns
  refine ⟨rfl, ?_⟩
  (repeat with_reducible (first | exact Ext.refl _ | exact ext_alloc _ _ | refine Ext.drewN ?_ _ | refine Ext.drew1 ?_ | refine Ext.set ?_ (by dsimp only; omega) _ | refine Ext.alloc ?_ _))
theorem validOnly_no (a : Option Addr) (n c l t p : Nat) (zs : List Nat) (w : World) (h : Holds .f32 w a n zs) (hn : n ≤ 1048576) (hV : tubeC (zs.map (cls .f32)) (cls .f32 l) (cls .f32 t) (cls .f32 p) = false) :
    Calls Try.prog 78 #[.agg #[.slice a n c, .float .f32 l, .float .f32 t, .float .f32 p]] w fun e w' => e = .returned (.tuple #[.agg #[.slice none 0 0, .float .f32 0, .float .f32 0, .float .f32 0], .bool false]) ∧ Ext w w' := by
  have HD := hid h
  have HN := hid hn
  clear h hn
  go_enter Try.func78, Try.ntmps78
  go_wp2_with fail
  refine (validTube_any _ _ _ _ _ _ zs _ (Holds.alloc (Holds.alloc HD.out _) _) HN.out).mono ?_
  rintro e w1 ⟨rfl, m, rfl⟩
  simp only [hV]
  go_wp2_with fail
  go_returns
  refine ⟨rfl, ?_⟩
  (repeat with_reducible (first | exact Ext.refl _ | exact ext_alloc _ _ | refine Ext.drewN ?_ _ | refine Ext.drew1 ?_ | refine Ext.set ?_ (by dsimp only; omega) _ | refine Ext.alloc ?_ _))
theorem give_ok {cs : List (Option Nat)} {l t p : Option Nat} (h : tubeC cs l t p = true) : (giveT cs l t p).ok = true := by unfold giveT; rw [if_pos h]
theorem give_no {cs : List (Option Nat)} {l t p : Option Nat} (h : tubeC cs l t p = false) : giveT cs l t p = zeroT := by unfold giveT; rw [if_neg (by simp [h])]
set_option maxHeartbeats 1000000 in
theorem withAreas_any (a0 a : Option Addr) (n0 c0 n c l t p B : Nat) (zs : List Nat) (R : TR) (w : World) (h : Own w B n (.slice a n c) zs) (hn : n ≤ 1048576) (hR : giveT (zs.map (cls .f32)) (cls .f32 l) (cls .f32 t) (cls .f32 p) = R) :
    Calls Try.prog 76 #[.agg #[.slice a0 n0 c0, .float .f32 l, .float .f32 t, .float .f32 p], .slice a n c] w fun e w' => ∃ v, e = .returned (.tuple #[v, .bool R.ok]) ∧ TubeIs w' B R v ∧ Ext w w' := by
  have HH := hid h
  have HN := hid hn
  have HR := hid hR
  cases hV : tubeC (zs.map (cls .f32)) (cls .f32 l) (cls .f32 t) (cls .f32 p)
  · have HZ := hid (hR.symm.trans (give_no hV))
    clear h hn hR
    go_enter Try.func76, Try.ntmps76
    go_wp2_with fail
    refine (validOnly_no _ _ _ _ _ _ zs _ (Holds.alloc (Holds.alloc (own_hold HH.out) _) _) HN.out hV).mono ?_
    rintro e w1 ⟨rfl, E1⟩
    have HX := hid (Box.cast (b' := w.heap.size + 1) (Box.ext (box_new (w := w.alloc (.cells #[.slice a n c, .float .f32 l, .float .f32 t, .float .f32 p] 27)) #[.slice none 0 0, .float .f32 0, .float .f32 0, .float .f32 0] 27) E1) (by simp))
    have EE := hid (show Ext w w1 from Ext.trans (by (repeat with_reducible (first | exact Ext.refl _ | exact ext_alloc _ _ | refine Ext.drewN ?_ _ | refine Ext.drew1 ?_ | refine Ext.set ?_ (by dsimp only; omega) _ | refine Ext.alloc ?_ _))) E1)
    clear E1
    obtain ⟨y0, y1, y2, y3, yf0, yf1, yf2, yf3, yl⟩ := Box.all4 HX.out
    go_wp2_with fail
    clear y0 y1 y2 y3 yf0 yf1 yf2 yf3 yl
    refine bodyPost_ret (ret_cell2 Try.results76 rfl (box_set4 HX.out _ _ _ _) Try.underlying27 infoT) rfl ?_
    rw [HZ.out]
    exact ⟨_, rfl, zero_is _ _, ext_set4 EE.out (by simp) _ _ _ _⟩
  · have HK := hid (hR ▸ give_ok hV)
    have HV := hid hV
    clear h hn hR
    go_enter Try.func76, Try.ntmps76
    go_wp2_with fail
    refine (validOnly_yes _ _ _ _ _ _ zs _ (Holds.alloc (Holds.alloc (own_hold HH.out) _) _) HN.out hV).mono ?_
    rintro e w1 ⟨rfl, E1⟩
    have HX := hid (Box.cast (b' := w.heap.size + 1) (Box.ext (box_new (w := w.alloc (.cells #[.slice a n c, .float .f32 l, .float .f32 t, .float .f32 p] 27)) #[.slice none 0 0, .float .f32 0, .float .f32 0, .float .f32 0] 27) E1) (by simp))
    have EE := hid (show Ext w w1 from Ext.trans (by (repeat with_reducible (first | exact Ext.refl _ | exact ext_alloc _ _ | refine Ext.drewN ?_ _ | refine Ext.drew1 ?_ | refine Ext.set ?_ (by dsimp only; omega) _ | refine Ext.alloc ?_ _))) E1)
    clear E1
    obtain ⟨y0, y1, y2, y3, yf0, yf1, yf2, yf3, yl⟩ := Box.all4 HX.out
    go_wp2_with fail
    clear y0 y1 y2 y3 yf0 yf1 yf2 yf3 yl
    refine bodyPost_ret (ret_cell2 Try.results76 rfl (box_set4 HX.out _ _ _ _) Try.underlying27 infoT) rfl ?_
    have hne : (Value.slice a n c).ownBlock ≠ some (w.heap.size + 1) := fun hk => by have := (Own.block HH.out _ hk).2; omega
    refine ⟨.agg #[.slice a n c, .float .f32 l, .float .f32 t, .float .f32 p], by rw [HK.out]; rfl, ?_, ext_set4 EE.out (by simp) _ _ _ _⟩
    rw [← HR.out]
    exact give_yes HV.out (Own.far (Own.far (Own.far (Own.far (Own.ext HH.out EE.out) hne _) hne _) hne _) hne _)

set_option maxHeartbeats 1000000 in
theorem scale_any (a : Option Addr) (n c l t p x : Nat) (zs : List Nat) (R : TR) (w : World) (h : Holds .f32 w a n zs) (hn : n ≤ 1048576) (hR : scaleT (zs.map (cls .f32)) (cls .f32 l) (cls .f32 t) (cls .f32 p) (cls .f32 x) = R) :
    Calls Try.prog 25 #[.agg #[.slice a n c, .float .f32 l, .float .f32 t, .float .f32 p], .float .f32 x] w fun e w' => ∃ v, e = .returned (.tuple #[v, .bool R.ok]) ∧ TubeIs w' w.heap.size R v ∧ Ext w w' := by
  have HH := hid h
  have HN := hid hn
  have HL := hid h.1
  cases hV : tubeC (zs.map (cls .f32)) (cls .f32 l) (cls .f32 t) (cls .f32 p)
  · have e := hR
    unfold scaleT at e
    rw [hV] at e
    simp only [Bool.false_eq_true, if_false] at e
    subst e
    clear h hn hR
    go_enter Try.func25, Try.ntmps25
    go_wp2_with fail
    refine (validTube_any _ _ _ _ _ _ zs _ (Holds.alloc (Holds.alloc HH.out _) _) HN.out).mono ?_
    rintro e w1 ⟨rfl, m, rfl⟩
    simp only [hV]
    go_wp2_with fail
    go_returns
    refine ⟨_, rfl, zero_is _ _, ?_⟩
    (repeat with_reducible (first | exact Ext.refl _ | exact ext_alloc _ _ | refine Ext.drewN ?_ _ | refine Ext.drew1 ?_ | refine Ext.set ?_ (by dsimp only; omega) _ | refine Ext.alloc ?_ _))
  have e := hR
  unfold scaleT at e
  rw [hV] at e
  simp only [if_true] at e
  have H16 := hid (tube_len hV)
  have h1 : 1 ≤ n := by
    have h2 := H16.out.1
    have h3 := HL.out
    simp at h2; omega
  have H1 := hid h1
  clear h hn hR h1
  go_enter Try.func25, Try.ntmps25
  go_wp2_with fail
  refine (validTube_any _ _ _ _ _ _ zs _ (Holds.alloc (Holds.alloc HH.out _) _) HN.out).mono ?_
  rintro e1 w1 ⟨rfl, m, rfl⟩
  simp only [hV]
  have BA := Box.drewN (Box.alloc (Box.alloc (box_new (w := w) #[.slice a n c, .float .f32 l, .float .f32 t, .float .f32 p] 27) (.cells #[.slice none 0 0, .float .f32 0, .float .f32 0, .float .f32 0] 27)) (.cells #[.slice a n c, .float .f32 l, .float .f32 t, .float .f32 p] 27)) m
  have BR := Box.drewN (Box.alloc (box_new (w := w.alloc (.cells #[.slice a n c, .float .f32 l, .float .f32 t, .float .f32 p] 27)) #[.slice none 0 0, .float .f32 0, .float .f32 0, .float .f32 0] 27) (.cells #[.slice a n c, .float .f32 l, .float .f32 t, .float .f32 p] 27)) m
  have HA := Holds.drew (Holds.alloc (Holds.alloc (Holds.alloc HH.out (.cells #[.slice a n c, .float .f32 l, .float .f32 t, .float .f32 p] 27)) (.cells #[.slice none 0 0, .float .f32 0, .float .f32 0, .float .f32 0] 27)) (.cells #[.slice a n c, .float .f32 l, .float .f32 t, .float .f32 p] 27)) m
  have EA : Ext w ((((w.alloc (.cells #[.slice a n c, .float .f32 l, .float .f32 t, .float .f32 p] 27)).alloc (.cells #[.slice none 0 0, .float .f32 0, .float .f32 0, .float .f32 0] 27)).alloc (.cells #[.slice a n c, .float .f32 l, .float .f32 t, .float .f32 p] 27)).drewN m) := by (repeat with_reducible (first | exact Ext.refl _ | exact ext_alloc _ _ | refine Ext.drewN ?_ _ | refine Ext.drew1 ?_ | refine Ext.set ?_ (by dsimp only; omega) _ | refine Ext.alloc ?_ _))
  have SA : w.heap.size + 2 ≤ ((((w.alloc (.cells #[.slice a n c, .float .f32 l, .float .f32 t, .float .f32 p] 27)).alloc (.cells #[.slice none 0 0, .float .f32 0, .float .f32 0, .float .f32 0] 27)).alloc (.cells #[.slice a n c, .float .f32 l, .float .f32 t, .float .f32 p] 27)).drewN m).heap.size := by simp <;> omega
  obtain ⟨W1, hW1⟩ : ∃ W1, (((w.alloc (.cells #[.slice a n c, .float .f32 l, .float .f32 t, .float .f32 p] 27)).alloc (.cells #[.slice none 0 0, .float .f32 0, .float .f32 0, .float .f32 0] 27)).alloc (.cells #[.slice a n c, .float .f32 l, .float .f32 t, .float .f32 p] 27)).drewN m = W1 := ⟨_, rfl⟩
  rw [hW1] at BA BR HA EA SA ⊢
  clear hW1
  replace BR := Box.cast (b' := w.heap.size + 1) BR (by simp)
  have HA2 := hid HA
  have EA2 := hid EA
  clear HA EA
  go_wp2_with fail
  go_region_held3 (fun w' => w'.cell? ⟨w.heap.size, 0, none⟩ = some (.slice a n c) ∧ w'.cell? ⟨w.heap.size, 1, none⟩ = some (.float .f32 l) ∧ w'.cell? ⟨w.heap.size, 2, none⟩ = some (.float .f32 t) ∧ w'.cell? ⟨w.heap.size, 3, none⟩ = some (.float .f32 p))
    (first | exact cellsQ4 BA | exact cellsQ4 (Box.ext BA E2) | exact cellsQ4 (Box.ext (Box.ext BA E2) E3) | exact cellsQ4 (Box.far (Box.far (Box.far (Box.far (Box.ext (Box.ext BA E2) E3) (by omega) _) (by omega) _) (by omega) _) (by omega) _))
    (first | (go_at_call 77; refine (scaled_any _ _ _ x zs _ (by have hq := HA2.out; exact hq) HN.out).mono ?_; rintro e2 w2 ⟨b2, c2, ys, rfl, O2, hy, E20⟩; have E2 : Ext W1 w2 := Ext.trans (ext_drew _) E20; have O3 : Own w2 (w.heap.size + 2) n (.slice b2 n c2) ys := Own.base O2 SA; clear E20 O2) | (go_at_call 76; refine (withAreas_any _ _ _ _ _ _ _ _ _ _ ys R _ O3 HN.out (by rw [hy]; exact e)).mono ?_; rintro e3 w3 ⟨v, rfl, hT, E3⟩; obtain ⟨ra, rc, rl, rt, rp, rz, rfl, rO, re⟩ := hT; have HT := hid (show TubeIs w3 (w.heap.size + 2) R (.agg #[.slice ra R.cs.length rc, .float .f32 rl, .float .f32 rt, .float .f32 rp]) from ⟨ra, rc, rl, rt, rp, rz, rfl, rO, re⟩); clear rO re; have HX := hid (Box.ext (Box.ext BR E2) E3); obtain ⟨y0, y1, y2, y3, yf0, yf1, yf2, yf3, yl⟩ := Box.all4 HX.out))
  have EE := hid (Ext.trans EA2.out (Ext.trans E2 E3))
  clear y0 y1 y2 y3 yf0 yf1 yf2 yf3 yl E2 E3 O3
  go_wp2_with fail
  refine bodyPost_ret (ret_cell2 Try.results25 rfl (box_set4 HX.out _ _ _ _) Try.underlying27 infoT) rfl ?_
  exact ⟨_, rfl, TubeIs.base (TubeIs.far4 HT.out (by omega) _ _ _ _) (by omega), ext_set4 EE.out (by simp) _ _ _ _⟩

end Go.Proofs.Ytogjehlepdapoaa

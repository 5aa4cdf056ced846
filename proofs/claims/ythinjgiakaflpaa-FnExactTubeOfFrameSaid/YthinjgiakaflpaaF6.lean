/- Tubes of frames. -/
import Derived.Test.YthinjgiakaflpaaF3
import Derived.Test.YthinjgiakaflpaaT10
namespace Go.Proofs.Ythinjgiakaflpaa
open Go.RowKit Flt
set_option linter.unusedVariables false


def tubeF (cs : List (Option Nat)) (l t p : Option Nat) : TR := if frameC cs l t p then plainT cs else zeroT
theorem tubeF_len (cs : List (Option Nat)) (l t p : Option Nat) : (tubeF cs l t p).cs.length ≤ 16 := by
  unfold tubeF
  split
  · exact give_len _ _ _ _
  · exact Nat.zero_le _
theorem plain_ok {cs : List (Option Nat)} {l t p : Option Nat} (h : frameC cs l t p = true) : tubeC cs (cls .f32 1065353216) (cls .f32 1061158912) (cls .f32 3210739712) = true := by
  have hA : areasC cs = true := by
    unfold frameC at h
    cases hA : areasC cs
    · rw [hA] at h; cases h
    · rfl
  unfold tubeC
  rw [hA]
  decide
set_option maxHeartbeats 2000000 in
set_option maxRecDepth 100000 in
theorem tubeF_any (a : Option Addr) (n c l t p : Nat) (zs : List Nat) (R : TR) (w : World) (h : Holds .f32 w a n zs) (hn : n ≤ 1048576) (hR : tubeF (zs.map (cls .f32)) (cls .f32 l) (cls .f32 t) (cls .f32 p) = R) :
    Calls Try.prog 41 #[.agg #[.slice a n c, .float .f32 l, .float .f32 t, .float .f32 p]] w fun e w' => ∃ v, e = .returned (.tuple #[v, .bool R.ok]) ∧ TubeIs w' w.heap.size R v ∧ Ext w w' := by
  have HH := hid h
  have HN := hid hn
  have HL := hid h.1
  cases hV : frameC (zs.map (cls .f32)) (cls .f32 l) (cls .f32 t) (cls .f32 p)
  · have e : R = zeroT := by rw [← hR]; unfold tubeF; rw [hV]; rfl
    subst e
    clear h hn hR
    go_enter Try.func41, Try.ntmps41
    go_wp2_with (go_at_call 29; with_reducible refine (validFrame_any a n c l t p zs _ (Holds.ext HH.out (by (repeat with_reducible (first | exact Ext.refl _ | exact ext_alloc _ _ | refine Ext.drewN ?_ _ | refine Ext.drew1 ?_ | refine Ext.set ?_ (by dsimp only; omega) _ | refine Ext.alloc ?_ _)))) HN.out).mono ?_; rintro e w' ⟨rfl, m1, rfl⟩; rw [hV])
    go_returns
    refine ⟨_, rfl, zero_is _ _, ?_⟩
    (repeat with_reducible (first | exact Ext.refl _ | exact ext_alloc _ _ | refine Ext.drewN ?_ _ | refine Ext.drew1 ?_ | refine Ext.set ?_ (by dsimp only; omega) _ | refine Ext.alloc ?_ _))
  have HR := hid (show plainT (zs.map (cls .f32)) = R from by rw [← hR]; unfold tubeF; rw [hV]; rfl)
  have H1 := hid (show 1 ≤ n from by have g := (frame_len hV).1; have g2 := h.1; simp at g; omega)
  clear h hn hR
  go_enter Try.func41, Try.ntmps41
  go_wp2_with fail
  refine (validFrame_ext _ _ _ _ _ _ zs true _ (Holds.ext HH.out (by (repeat with_reducible (first | exact Ext.refl _ | exact ext_alloc _ _ | refine Ext.drewN ?_ _ | refine Ext.drew1 ?_ | refine Ext.set ?_ (by dsimp only; omega) _ | refine Ext.alloc ?_ _)))) HN.out hV).mono ?_
  rintro e w1 ⟨rfl, E1⟩
  have BA := hid (Box.ext (Box.ext (box_new (w := w) #[.slice a n c, .float .f32 l, .float .f32 t, .float .f32 p] 47) (by (repeat with_reducible (first | exact Ext.refl _ | exact ext_alloc _ _ | refine Ext.drewN ?_ _ | refine Ext.drew1 ?_ | refine Ext.set ?_ (by dsimp only; omega) _ | refine Ext.alloc ?_ _)))) E1)
  have BR := hid (Box.cast (b' := w.heap.size + 1) (Box.ext (Box.ext (box_new (w := (w.alloc (.cells #[.slice a n c, .float .f32 l, .float .f32 t, .float .f32 p] 47))) #[.slice none 0 0, .float .f32 0, .float .f32 0, .float .f32 0] 60) (by (repeat with_reducible (first | exact Ext.refl _ | exact ext_alloc _ _ | refine Ext.drewN ?_ _ | refine Ext.drew1 ?_ | refine Ext.set ?_ (by dsimp only; omega) _ | refine Ext.alloc ?_ _)))) E1) (by simp))
  have EX := hid (show Ext w w1 from Ext.trans (by (repeat with_reducible (first | exact Ext.refl _ | exact ext_alloc _ _ | refine Ext.drewN ?_ _ | refine Ext.drew1 ?_ | refine Ext.set ?_ (by dsimp only; omega) _ | refine Ext.alloc ?_ _))) E1)
  have SZ := hid (show w.heap.size + 2 ≤ w1.heap.size from by have := Ext.size E1; simp at this; omega)
  clear E1
  obtain ⟨d0, d1, d2, d3, dl⟩ := Box.cells4 BA.out
  go_wp2_with fail
  refine (newAreas_any a n c zs _ (Holds.ext HH.out (Ext.trans EX.out (by (repeat with_reducible (first | exact Ext.refl _ | exact ext_alloc _ _ | refine Ext.drewN ?_ _ | refine Ext.drew1 ?_ | refine Ext.set ?_ (by dsimp only; omega) _ | refine Ext.alloc ?_ _))))) H1.out HN.out).mono ?_
  rintro e w2 ⟨b, rfl, O2, E2⟩
  have HO := hid (Own.base (B' := w1.heap.size) O2 (by first | exact Nat.le_refl _ | simp))
  have EX2 := hid (Ext.trans EX.out (show Ext w1 w2 from Ext.trans (by (repeat with_reducible (first | exact Ext.refl _ | exact ext_alloc _ _ | refine Ext.drewN ?_ _ | refine Ext.drew1 ?_ | refine Ext.set ?_ (by dsimp only; omega) _ | refine Ext.alloc ?_ _))) E2))
  replace BR := hid (Box.ext (Box.ext BR.out (show Ext w1 _ from by (repeat with_reducible (first | exact Ext.refl _ | exact ext_alloc _ _ | refine Ext.drewN ?_ _ | refine Ext.drew1 ?_ | refine Ext.set ?_ (by dsimp only; omega) _ | refine Ext.alloc ?_ _)))) E2)
  clear O2 E2 d0 d1 d2 d3 dl BA
  go_wp2_with fail
  refine (plainTube_any _ n n w1.heap.size zs R _ (Own.ext HO.out (by (repeat with_reducible (first | exact Ext.refl _ | exact ext_alloc _ _ | refine Ext.drewN ?_ _ | refine Ext.drew1 ?_ | refine Ext.set ?_ (by dsimp only; omega) _ | refine Ext.alloc ?_ _)))) HN.out HR.out).mono ?_
  rintro e w3 ⟨v, rfl, hT, E3⟩
  obtain ⟨ra, rc, rl, rt, rp, rz, rfl, rO, re⟩ := hT
  have HT := hid (show TubeIs w3 w1.heap.size R (.agg #[.slice ra R.cs.length rc, .float .f32 rl, .float .f32 rt, .float .f32 rp]) from ⟨ra, rc, rl, rt, rp, rz, rfl, rO, re⟩)
  have EX3 := hid (Ext.trans EX2.out (show Ext w2 w3 from Ext.trans (by (repeat with_reducible (first | exact Ext.refl _ | exact ext_alloc _ _ | refine Ext.drewN ?_ _ | refine Ext.drew1 ?_ | refine Ext.set ?_ (by dsimp only; omega) _ | refine Ext.alloc ?_ _))) E3))
  have HX := hid (Box.ext (Box.ext BR.out (show Ext w2 _ from by (repeat with_reducible (first | exact Ext.refl _ | exact ext_alloc _ _ | refine Ext.drewN ?_ _ | refine Ext.drew1 ?_ | refine Ext.set ?_ (by dsimp only; omega) _ | refine Ext.alloc ?_ _)))) E3)
  clear rO re E3
  obtain ⟨z0, z1, z2, z3, zf0, zf1, zf2, zf3, zl⟩ := Box.all4 HX.out
  go_wp2_with fail
  clear z0 z1 z2 z3 zf0 zf1 zf2 zf3 zl
  refine bodyPost_ret (ret_cell2 Try.results41 rfl (box_set4 HX.out _ _ _ _) Try.underlying60 infoT) rfl ?_
  have hz := SZ.out
  exact ⟨_, rfl, TubeIs.base (TubeIs.far4 HT.out (by omega) _ _ _ _) (by omega), ext_set4 EX3.out (by omega) _ _ _ _⟩
set_option maxHeartbeats 2000000 in
set_option maxRecDepth 100000 in
theorem sTubeF_any (a : Option Addr) (n c l t p : Nat) (zs : List Nat) (R : TR) (w : World) (h : Holds .f32 w a n zs) (hn : n ≤ 1048576) (hR : tubeF (zs.map (cls .f32)) (cls .f32 l) (cls .f32 t) (cls .f32 p) = R) :
    Calls Try.prog 40 #[.agg #[.slice a n c, .float .f32 l, .float .f32 t, .float .f32 p]] w fun e w' => ∃ v, e = .returned (.tuple #[v, .bool R.ok]) ∧ TubeIs w' w.heap.size R v ∧ Ext w w' := by
  have HH := hid h
  have HN := hid hn
  cases hV : frameC (zs.map (cls .f32)) (cls .f32 l) (cls .f32 t) (cls .f32 p)
  · have e : R = zeroT := by rw [← hR]; unfold tubeF; rw [hV]; rfl
    subst e
    clear h hn hR
    go_enter Try.func40, Try.ntmps40
    go_wp2_with (go_at_call 78; with_reducible refine (l06Frame_any _ a n c l t p zs _ (Box.ext (box_new (w := w) #[.slice a n c, .float .f32 l, .float .f32 t, .float .f32 p] 47) (by (repeat with_reducible (first | exact Ext.refl _ | exact ext_alloc _ _ | refine Ext.drewN ?_ _ | refine Ext.drew1 ?_ | refine Ext.set ?_ (by dsimp only; omega) _ | refine Ext.alloc ?_ _)))) (Holds.ext HH.out (by (repeat with_reducible (first | exact Ext.refl _ | exact ext_alloc _ _ | refine Ext.drewN ?_ _ | refine Ext.drew1 ?_ | refine Ext.set ?_ (by dsimp only; omega) _ | refine Ext.alloc ?_ _)))) HN.out).mono ?_; rintro e w' ⟨rfl, m1, rfl⟩; rw [hV])
    go_returns
    refine ⟨_, rfl, zero_is _ _, ?_⟩
    (repeat with_reducible (first | exact Ext.refl _ | exact ext_alloc _ _ | refine Ext.drewN ?_ _ | refine Ext.drew1 ?_ | refine Ext.set ?_ (by dsimp only; omega) _ | refine Ext.alloc ?_ _))
  have HK := hid (give_ok (plain_ok hV))
  have HV := hid (plain_ok hV)
  have HR := hid (show giveT (zs.map (cls .f32)) (cls .f32 1065353216) (cls .f32 1061158912) (cls .f32 3210739712) = R from by rw [← hR]; unfold tubeF; rw [hV]; rfl)
  have h1 : 1 ≤ n := by have g := (frame_len hV).1; have g2 := h.1; simp at g; omega
  have H1 := hid h1
  obtain ⟨b, off, rfl, hb, hl, hc⟩ := Holds.some_of h h1
  have HB := hid hb
  have HL := hid hl
  have HC := hid hc
  obtain ⟨i0, hi, hz0, hz1, hz2⟩ := info_parts infoF
  have HI := hid (And.intro hi (And.intro hz0 (And.intro hz1 hz2)))
  clear h hn hR h1 hb hl hc hi hz0 hz1 hz2
  go_enter Try.func40, Try.ntmps40
  go_wp2_with fail
  refine (l06Frame_ext _ _ _ _ _ _ _ zs true _ (Box.ext (box_new (w := w) #[.slice (some ⟨b, off, none⟩) n c, .float .f32 l, .float .f32 t, .float .f32 p] 47) (by (repeat with_reducible (first | exact Ext.refl _ | exact ext_alloc _ _ | refine Ext.drewN ?_ _ | refine Ext.drew1 ?_ | refine Ext.set ?_ (by dsimp only; omega) _ | refine Ext.alloc ?_ _)))) (Holds.ext HH.out (by (repeat with_reducible (first | exact Ext.refl _ | exact ext_alloc _ _ | refine Ext.drewN ?_ _ | refine Ext.drew1 ?_ | refine Ext.set ?_ (by dsimp only; omega) _ | refine Ext.alloc ?_ _)))) HN.out hV).mono ?_
  rintro e w1 ⟨rfl, E1⟩
  have BA := hid (Box.ext (Box.ext (box_new (w := w) #[.slice (some ⟨b, off, none⟩) n c, .float .f32 l, .float .f32 t, .float .f32 p] 47) (by (repeat with_reducible (first | exact Ext.refl _ | exact ext_alloc _ _ | refine Ext.drewN ?_ _ | refine Ext.drew1 ?_ | refine Ext.set ?_ (by dsimp only; omega) _ | refine Ext.alloc ?_ _)))) E1)
  have BR := hid (Box.cast (b' := w.heap.size + 1) (Box.ext (Box.ext (box_new (w := (w.alloc (.cells #[.slice (some ⟨b, off, none⟩) n c, .float .f32 l, .float .f32 t, .float .f32 p] 47))) #[.slice none 0 0, .float .f32 0, .float .f32 0, .float .f32 0] 60) (by (repeat with_reducible (first | exact Ext.refl _ | exact ext_alloc _ _ | refine Ext.drewN ?_ _ | refine Ext.drew1 ?_ | refine Ext.set ?_ (by dsimp only; omega) _ | refine Ext.alloc ?_ _)))) E1) (by simp))
  have EX := hid (show Ext w w1 from Ext.trans (by (repeat with_reducible (first | exact Ext.refl _ | exact ext_alloc _ _ | refine Ext.drewN ?_ _ | refine Ext.drew1 ?_ | refine Ext.set ?_ (by dsimp only; omega) _ | refine Ext.alloc ?_ _))) E1)
  have SZ := hid (show w.heap.size + 2 ≤ w1.heap.size from by have := Ext.size E1; simp at this; omega)
  clear E1
  obtain ⟨d0, d1, d2, d3, dl⟩ := Box.cells4 BA.out
  go_wp2_with (at_builtin; refine wpList_append_lies _ rfl _ _ 34 rfl w1.heap.size 22 i0 (.float .f32 0) 1 4 Try.underlying34 HI.out.1 HI.out.2.1 HI.out.2.2.1 HI.out.2.2.2 rfl (by decide) _ _ _ rfl (own_fresh (cs := #[]) (zs := []) (B := w1.heap.size) (hid rfl) rfl rfl (Nat.le_refl _) (Nat.zero_le _)) ⟨b, off, none⟩ n c (zs.map (Value.float .f32)) rfl (by have := HL.out; simp [this]) (news_ext (Ext.trans EX.out (by (repeat with_reducible (first | exact Ext.refl _ | exact ext_alloc _ _ | refine Ext.drewN ?_ _ | refine Ext.drew1 ?_ | refine Ext.set ?_ (by dsimp only; omega) _ | refine Ext.alloc ?_ _)))) HB.out HL.out HC.out) (news_one zs) (by have := H1.out; omega) (by have := HN.out; unfold maxLen; simp; omega) (by have := HN.out; simp; omega) (by simp <;> omega) _ rfl ?_; intro g cap w2 hown hgrow hat hlt)
  have HO := hid (show Own w2 w1.heap.size n (.slice (some ⟨g, 0, none⟩) n cap) zs from by simpa [Own] using hown)
  have E2 : Ext w1 w2 := But.below hgrow (by (repeat with_reducible (first | exact Ext.refl _ | exact ext_alloc _ _ | refine Ext.drewN ?_ _ | refine Ext.drew1 ?_ | refine Ext.set ?_ (by dsimp only; omega) _ | refine Ext.alloc ?_ _))) (fun k hk => by cases hk; simp)
  have EX2 := hid (Ext.trans EX.out E2)
  replace BR := hid (But.box hgrow (Box.ext BR.out (show Ext w1 _ from by (repeat with_reducible (first | exact Ext.refl _ | exact ext_alloc _ _ | refine Ext.drewN ?_ _ | refine Ext.drew1 ?_ | refine Ext.set ?_ (by dsimp only; omega) _ | refine Ext.alloc ?_ _)))) (by show some w1.heap.size ≠ some (w.heap.size + 1); intro h9; have h8 := SZ.out; have h7 := Option.some.inj h9; omega))
  clear hown hgrow hat hlt E2 d0 d1 d2 d3 dl BA
  refine (l02New_any _ _ _ _).mono ?_
  rintro e w3 ⟨rfl, E3⟩
  have EX3 := hid (Ext.trans EX2.out (show Ext w2 w3 from Ext.trans (by (repeat with_reducible (first | exact Ext.refl _ | exact ext_alloc _ _ | refine Ext.drewN ?_ _ | refine Ext.drew1 ?_ | refine Ext.set ?_ (by dsimp only; omega) _ | refine Ext.alloc ?_ _))) E3))
  replace HO := hid (Own.ext HO.out (show Ext w2 w3 from Ext.trans (by (repeat with_reducible (first | exact Ext.refl _ | exact ext_alloc _ _ | refine Ext.drewN ?_ _ | refine Ext.drew1 ?_ | refine Ext.set ?_ (by dsimp only; omega) _ | refine Ext.alloc ?_ _))) E3))
  have HX := hid (Box.ext BR.out (show Ext w2 w3 from Ext.trans (by (repeat with_reducible (first | exact Ext.refl _ | exact ext_alloc _ _ | refine Ext.drewN ?_ _ | refine Ext.drew1 ?_ | refine Ext.set ?_ (by dsimp only; omega) _ | refine Ext.alloc ?_ _))) E3))
  clear E3
  obtain ⟨z0, z1, z2, z3, zf0, zf1, zf2, zf3, zl⟩ := Box.all4 HX.out
  go_wp2_with fail
  clear z0 z1 z2 z3 zf0 zf1 zf2 zf3 zl
  refine bodyPost_ret (ret_cell2 Try.results40 rfl (box_set4 HX.out _ _ _ _) Try.underlying60 infoT) rfl ?_
  have hz := SZ.out
  refine ⟨.agg #[.slice (some ⟨g, 0, none⟩) n cap, .float .f32 1065353216, .float .f32 1061158912, .float .f32 3210739712], by rw [← HR.out, HK.out]; rfl, ?_, ext_set4 EX3.out (by omega) _ _ _ _⟩
  rw [← HR.out]
  exact TubeIs.base (TubeIs.far4 (give_yes HV.out HO.out) (by omega) _ _ _ _) (by omega)

end Go.Proofs.Ythinjgiakaflpaa

/- Frames of sounds. -/
import Derived.Test.YthinjgiakaflpaaD3
import Derived.Test.YthinjgiakaflpaaF3
import Derived.Test.YthinjgiakaflpaaF7
namespace Go.Proofs.Ythinjgiakaflpaa
open Go.RowKit Flt
set_option linter.unusedVariables false


def frameOfR (s : ByteArray) (cs : List (Option Nat)) (lo ra vo no X : Option Nat) : FR := if soundS s cs lo ra vo no then giveF cs X vo no else zeroF
theorem frameOf_len (s : ByteArray) (cs : List (Option Nat)) (lo ra vo no X : Option Nat) : (frameOfR s cs lo ra vo no X).cs.length ≤ 16 := by
  unfold frameOfR
  split
  · exact giveF_len _ _ _ _
  · exact Nat.zero_le _
set_option maxRecDepth 100000 in
set_option maxHeartbeats 4000000 in
theorem l06Of_any (x : Nat) (s : ByteArray) (a : Option Addr) (n c lo ra vo no : Nat) (q : Nat) (zs : List Nat) (w : World) (hbx : Box w x #[.string s, .slice a n c, .float .f32 lo, .float .f32 ra, .float .f32 vo, .float .f32 no]) (h : Holds .f32 w a n zs) (h1 : 1 ≤ n) (hn : n ≤ 1048576) :
    Calls Try.prog 84 #[.pointer (some ⟨x, 0, none⟩), .float .f32 q] w fun e w' => ∃ b c', e = .returned (.agg #[.slice (some ⟨b, 0, none⟩) n c', .float .f32 q, .float .f32 vo, .float .f32 no]) ∧ Own w' w.heap.size n (.slice (some ⟨b, 0, none⟩) n c') zs ∧ Ext w w' := by
  obtain ⟨hl, h0 | ⟨b, off, rfl, hb, hc⟩⟩ := h
  · omega
  obtain ⟨i0, hi, hz0, hz1, hz2⟩ := info_parts infoF
  have HI := hid (And.intro hi (And.intro hz0 (And.intro hz1 hz2)))
  have HB := hid hb
  have HC := hid hc
  have HL := hid hl
  have HN := hid hn
  have H1 := hid h1
  have BX := hid hbx
  clear hi hz0 hz1 hz2 hc hl hb hn h1
  obtain ⟨d0, d1, d2, d3, d4, d5, dl⟩ := Box.cells6 hbx
  clear hbx
  go_enter Try.func84, Try.ntmps84
  go_wp2_with fail
  go_region_held3 (fun w' => (w'.cell? ⟨x, 1, none⟩ = some (.slice (some ⟨b, off, none⟩) n c) ∧ w'.cell? ⟨x, 4, none⟩ = some (.float .f32 vo) ∧ w'.cell? ⟨x, 5, none⟩ = some (.float .f32 no)))
    (first | exact ⟨Box.cell (Box.ext BX.out E1) 1, Box.cell (Box.ext BX.out E1) 4, Box.cell (Box.ext BX.out E1) 5⟩ | exact ⟨Box.cell (box_far4 (Box.ext BX.out E1) (by omega) _ _ _ _) 1, Box.cell (box_far4 (Box.ext BX.out E1) (by omega) _ _ _ _) 4, Box.cell (box_far4 (Box.ext BX.out E1) (by omega) _ _ _ _) 5⟩ | go_keep)
    (first | (refine step_append_lies _ rfl _ _ 34 rfl (w.heap.size + 1) 22 i0 (.float .f32 0) 1 4 Try.underlying34 HI.out.1 HI.out.2.1 HI.out.2.2.1 HI.out.2.2.2 rfl (by decide) _ _ _ rfl (own_fresh (cs := #[]) (zs := []) (B := w.heap.size + 1) (hid rfl) rfl (by simp) (by simp) (Nat.zero_le _)) ⟨b, off, none⟩ n c (zs.map (Value.float .f32)) rfl (by have := HL.out; simp [this]) (news_ext (by (repeat with_reducible (first | exact Ext.refl _ | exact ext_alloc _ _ | refine Ext.drewN ?_ _ | refine Ext.drew1 ?_ | refine Ext.set ?_ (by dsimp only; omega) _ | refine Ext.alloc ?_ _))) HB.out HL.out HC.out) (news_one zs) (by have := H1.out; omega) (by have := HN.out; unfold maxLen; simp; omega) (by have := HN.out; simp; omega) (by simp <;> omega) _ rfl ?_; intro g cap w1 hown hgrow hat hlt; have E1 : Ext w w1 := But.below hgrow (by (repeat with_reducible (first | exact Ext.refl _ | exact ext_alloc _ _ | refine Ext.drewN ?_ _ | refine Ext.drew1 ?_ | refine Ext.set ?_ (by dsimp only; omega) _ | refine Ext.alloc ?_ _))) (fun k hk => by cases hk; simp); obtain ⟨r0, r1, r2, r3, rf0, rf1, rf2, rf3, rl⟩ := Box.all4 (But.box hgrow (Box.alloc (Box.ext (box_new (w := w) #[.slice none 0 0, .float .f32 0, .float .f32 0, .float .f32 0] 47) (ext_drew _)) (.cells #[] 22)) (by show some (w.heap.size + 1) ≠ some w.heap.size; simp))))
  have HO := hid hown
  have HE := hid E1
  have HF := hid (box_set4 (But.box hgrow (Box.alloc (Box.ext (box_new (w := w) #[.slice none 0 0, .float .f32 0, .float .f32 0, .float .f32 0] 47) (ext_drew _)) (.cells #[] 22)) (by show some (w.heap.size + 1) ≠ some w.heap.size; simp)) (.slice (some ⟨g, 0, none⟩) n cap) (.float .f32 q) (.float .f32 vo) (.float .f32 no))
  have HO2 := hid (show Own w1 (w.heap.size + 1) n (.slice (some ⟨g, 0, none⟩) n cap) zs from by simpa [Own] using HO.out)
  clear hown hgrow hat hlt E1 r0 r1 r2 r3 rf0 rf1 rf2 rf3 rl
  go_wp2_with fail
  refine bodyPost_ret (ret_cell1 Try.results84 rfl HF.out Try.underlying47 infoFr) rfl ?_
  exact ⟨g, cap, rfl, Own.base (own_far4 HO2.out (by omega) _ _ _ _) (by omega), ext_set4 HE.out (Nat.le_refl _) _ _ _ _⟩

set_option maxHeartbeats 4000000 in
set_option maxRecDepth 100000 in
theorem frameOf_any (s : ByteArray) (a : Option Addr) (n c lo ra vo no : Nat) (q : Nat) (zs : List Nat) (R : FR) (w : World) (h : Holds .f32 w a n zs) (hn : n ≤ 1048576) (hs : s.size ≤ 1048576) (hR : frameOfR s (zs.map (cls .f32)) (cls .f32 lo) (cls .f32 ra) (cls .f32 vo) (cls .f32 no) (cls .f32 q) = R) :
    Calls Try.prog 34 #[.agg #[.string s, .slice a n c, .float .f32 lo, .float .f32 ra, .float .f32 vo, .float .f32 no], .float .f32 q] w fun e w' => ∃ v, e = .returned (.tuple #[v, .bool R.ok]) ∧ FrameIs w' w.heap.size R v ∧ Ext w w' := by
  have HH := hid h
  have HN := hid hn
  have HS := hid hs
  cases hV : soundS s (zs.map (cls .f32)) (cls .f32 lo) (cls .f32 ra) (cls .f32 vo) (cls .f32 no)
  · have e : R = zeroF := by rw [← hR]; unfold frameOfR; rw [hV]; rfl
    subst e
    clear h hn hs hR
    go_enter Try.func34, Try.ntmps34
    go_wp2_with fail
    refine (validSound_is s a n c lo ra vo no zs false _ (Holds.ext HH.out (by (repeat with_reducible (first | exact Ext.refl _ | exact ext_alloc _ _ | refine Ext.drewN ?_ _ | refine Ext.drew1 ?_ | refine Ext.set ?_ (by dsimp only; omega) _ | refine Ext.alloc ?_ _)))) HN.out HS.out hV).mono ?_
    rintro e w1 ⟨rfl, E1⟩
    have BR := hid (Box.cast (b' := w.heap.size + 1) (Box.ext (box_new (w := (w.alloc (.cells #[.string s, .slice a n c, .float .f32 lo, .float .f32 ra, .float .f32 vo, .float .f32 no] 39))) #[.slice none 0 0, .float .f32 0, .float .f32 0, .float .f32 0] 47) E1) (by simp))
    have EX := hid (show Ext w w1 from Ext.trans (by (repeat with_reducible (first | exact Ext.refl _ | exact ext_alloc _ _ | refine Ext.drewN ?_ _ | refine Ext.drew1 ?_ | refine Ext.set ?_ (by dsimp only; omega) _ | refine Ext.alloc ?_ _))) E1)
    clear E1
    obtain ⟨z0, z1, z2, z3, zf0, zf1, zf2, zf3, zl⟩ := Box.all4 BR.out
    go_wp2_with fail
    clear z0 z1 z2 z3 zf0 zf1 zf2 zf3 zl
    refine bodyPost_ret (ret_cell2 Try.results34 rfl (box_set4 BR.out _ _ _ _) Try.underlying47 infoFr) rfl ?_
    exact ⟨_, rfl, zeroF_is _ _, ext_set4 EX.out (by omega) _ _ _ _⟩
  have HR := hid (show giveF (zs.map (cls .f32)) (cls .f32 q) (cls .f32 vo) (cls .f32 no) = R from by rw [← hR]; unfold frameOfR; rw [hV]; rfl)
  have H1 := hid (show 1 ≤ n from by have g := (sound_len hV).1; have g2 := h.1; simp at g; omega)
  clear h hn hs hR
  go_enter Try.func34, Try.ntmps34
  go_wp2_with fail
  refine (validSound_is s a n c lo ra vo no zs true _ (Holds.ext HH.out (by (repeat with_reducible (first | exact Ext.refl _ | exact ext_alloc _ _ | refine Ext.drewN ?_ _ | refine Ext.drew1 ?_ | refine Ext.set ?_ (by dsimp only; omega) _ | refine Ext.alloc ?_ _)))) HN.out HS.out hV).mono ?_
  rintro e w1 ⟨rfl, E1⟩
  have BA := hid (Box.ext (Box.ext (box_new (w := w) #[.string s, .slice a n c, .float .f32 lo, .float .f32 ra, .float .f32 vo, .float .f32 no] 39) (by (repeat with_reducible (first | exact Ext.refl _ | exact ext_alloc _ _ | refine Ext.drewN ?_ _ | refine Ext.drew1 ?_ | refine Ext.set ?_ (by dsimp only; omega) _ | refine Ext.alloc ?_ _)))) E1)
  have BR := hid (Box.cast (b' := w.heap.size + 1) (Box.ext (box_new (w := (w.alloc (.cells #[.string s, .slice a n c, .float .f32 lo, .float .f32 ra, .float .f32 vo, .float .f32 no] 39))) #[.slice none 0 0, .float .f32 0, .float .f32 0, .float .f32 0] 47) E1) (by simp))
  have EX := hid (show Ext w w1 from Ext.trans (by (repeat with_reducible (first | exact Ext.refl _ | exact ext_alloc _ _ | refine Ext.drewN ?_ _ | refine Ext.drew1 ?_ | refine Ext.set ?_ (by dsimp only; omega) _ | refine Ext.alloc ?_ _))) E1)
  have SZ := hid (show w.heap.size + 2 ≤ w1.heap.size from by have := Ext.size E1; simp at this; omega)
  clear E1
  obtain ⟨d0, d1, d2, d3, d4, d5, dl⟩ := Box.cells6 BA.out
  go_wp2_with fail
  go_region_held3 (fun w' => (w'.cell? ⟨w.heap.size, 1, none⟩ = some (.slice a n c) ∧ w'.cell? ⟨w.heap.size, 4, none⟩ = some (.float .f32 vo) ∧ w'.cell? ⟨w.heap.size, 5, none⟩ = some (.float .f32 no)))
    (first | (refine keep_of (c := w1) (S := fun w' => (w'.cell? ⟨w.heap.size, 1, none⟩ = some (.slice a n c) ∧ w'.cell? ⟨w.heap.size, 4, none⟩ = some (.float .f32 vo) ∧ w'.cell? ⟨w.heap.size, 5, none⟩ = some (.float .f32 no))) (fun u hu => ⟨Box.cell (Box.ext BA.out hu) 1, Box.cell (Box.ext BA.out hu) 4, Box.cell (Box.ext BA.out hu) 5⟩) ?_; (repeat with_reducible (first | exact Ext.refl _ | exact ext_alloc _ _ | refine Ext.trans ?_ E3 | refine Ext.trans ?_ E2 | refine Ext.drewN ?_ _ | refine Ext.drew1 ?_ | refine Ext.alloc ?_ _)); done) | exact ⟨Box.cell (box_far4 (Box.ext BA.out (show Ext w1 w3 from by (repeat with_reducible (first | exact Ext.refl _ | exact ext_alloc _ _ | refine Ext.trans ?_ E3 | refine Ext.trans ?_ E2 | refine Ext.drewN ?_ _ | refine Ext.drew1 ?_ | refine Ext.alloc ?_ _)))) (by omega) _ _ _ _) 1, Box.cell (box_far4 (Box.ext BA.out (show Ext w1 w3 from by (repeat with_reducible (first | exact Ext.refl _ | exact ext_alloc _ _ | refine Ext.trans ?_ E3 | refine Ext.trans ?_ E2 | refine Ext.drewN ?_ _ | refine Ext.drew1 ?_ | refine Ext.alloc ?_ _)))) (by omega) _ _ _ _) 4, Box.cell (box_far4 (Box.ext BA.out (show Ext w1 w3 from by (repeat with_reducible (first | exact Ext.refl _ | exact ext_alloc _ _ | refine Ext.trans ?_ E3 | refine Ext.trans ?_ E2 | refine Ext.drewN ?_ _ | refine Ext.drew1 ?_ | refine Ext.alloc ?_ _)))) (by omega) _ _ _ _) 5⟩)
    (first | (go_at_call 86; with_reducible refine (newAreas_any a n c zs _ (Holds.ext HH.out (Ext.trans EX.out (by (repeat with_reducible (first | exact Ext.refl _ | exact ext_alloc _ _ | refine Ext.drewN ?_ _ | refine Ext.drew1 ?_ | refine Ext.set ?_ (by dsimp only; omega) _ | refine Ext.alloc ?_ _))))) H1.out HN.out).mono ?_; rintro e w2 ⟨b, rfl, O2, E2⟩) | (go_at_call 85; refine (validFrameOnly_any (some ⟨b, 0, none⟩) n n q vo no w1.heap.size zs _ (Own.base (Own.ext O2 (by (repeat with_reducible (first | exact Ext.refl _ | exact ext_alloc _ _ | refine Ext.drewN ?_ _ | refine Ext.drew1 ?_ | refine Ext.set ?_ (by dsimp only; omega) _ | refine Ext.alloc ?_ _)))) (by simp)) HN.out).mono ?_; rintro e3 w3 ⟨v, rfl, hT, E3⟩; rw [HR.out] at hT ⊢; obtain ⟨fa, fc, fl, ft, fp, fz, rfl, fO, fe⟩ := hT; obtain ⟨z0, z1, z2, z3, zf0, zf1, zf2, zf3, zl⟩ := Box.all4 (Box.ext BR.out (show Ext w1 w3 from by (repeat with_reducible (first | exact Ext.refl _ | exact ext_alloc _ _ | refine Ext.trans ?_ E3 | refine Ext.trans ?_ E2 | refine Ext.drewN ?_ _ | refine Ext.drew1 ?_ | refine Ext.alloc ?_ _))))))
  have EX3 := hid (Ext.trans EX.out (show Ext w1 w3 from by (repeat with_reducible (first | exact Ext.refl _ | exact ext_alloc _ _ | refine Ext.trans ?_ E3 | refine Ext.trans ?_ E2 | refine Ext.drewN ?_ _ | refine Ext.drew1 ?_ | refine Ext.alloc ?_ _))))
  have HX := hid (Box.ext BR.out (show Ext w1 w3 from by (repeat with_reducible (first | exact Ext.refl _ | exact ext_alloc _ _ | refine Ext.trans ?_ E3 | refine Ext.trans ?_ E2 | refine Ext.drewN ?_ _ | refine Ext.drew1 ?_ | refine Ext.alloc ?_ _))))
  have HT := hid (show FrameIs w3 w1.heap.size R (.agg #[.slice fa R.cs.length fc, .float .f32 fl, .float .f32 ft, .float .f32 fp]) from ⟨fa, fc, fl, ft, fp, fz, rfl, fO, fe⟩)
  clear fO fe E2 E3 O2
  go_wp2_with fail
  clear z0 z1 z2 z3 zf0 zf1 zf2 zf3 zl
  refine bodyPost_ret (ret_cell2 Try.results34 rfl (box_set4 HX.out _ _ _ _) Try.underlying47 infoFr) rfl ?_
  have hz := SZ.out
  exact ⟨_, rfl, FrameIs.base (FrameIs.far4 HT.out (by omega) _ _ _ _) (by omega), ext_set4 EX3.out (by omega) _ _ _ _⟩

set_option maxHeartbeats 4000000 in
set_option maxRecDepth 100000 in
theorem sFrameOf_any (s : ByteArray) (a : Option Addr) (n c lo ra vo no : Nat) (q : Nat) (zs : List Nat) (R : FR) (w : World) (h : Holds .f32 w a n zs) (hn : n ≤ 1048576) (hs : s.size ≤ 1048576) (hR : frameOfR s (zs.map (cls .f32)) (cls .f32 lo) (cls .f32 ra) (cls .f32 vo) (cls .f32 no) (cls .f32 q) = R) :
    Calls Try.prog 33 #[.agg #[.string s, .slice a n c, .float .f32 lo, .float .f32 ra, .float .f32 vo, .float .f32 no], .float .f32 q] w fun e w' => ∃ v, e = .returned (.tuple #[v, .bool R.ok]) ∧ FrameIs w' w.heap.size R v ∧ Ext w w' := by
  have HH := hid h
  have HN := hid hn
  have HS := hid hs
  cases hV : soundS s (zs.map (cls .f32)) (cls .f32 lo) (cls .f32 ra) (cls .f32 vo) (cls .f32 no)
  · have e : R = zeroF := by rw [← hR]; unfold frameOfR; rw [hV]; rfl
    subst e
    clear h hn hs hR
    go_enter Try.func33, Try.ntmps33
    go_wp2_with (go_at_call 71; with_reducible refine (l06Sound_any _ s a n c lo ra vo no zs _ (Box.ext (box_new (w := w) #[.string s, .slice a n c, .float .f32 lo, .float .f32 ra, .float .f32 vo, .float .f32 no] 39) (by (repeat with_reducible (first | exact Ext.refl _ | exact ext_alloc _ _ | refine Ext.drewN ?_ _ | refine Ext.drew1 ?_ | refine Ext.set ?_ (by dsimp only; omega) _ | refine Ext.alloc ?_ _)))) (Holds.ext HH.out (by (repeat with_reducible (first | exact Ext.refl _ | exact ext_alloc _ _ | refine Ext.drewN ?_ _ | refine Ext.drew1 ?_ | refine Ext.set ?_ (by dsimp only; omega) _ | refine Ext.alloc ?_ _)))) HN.out HS.out).mono ?_; rintro e w' ⟨rfl, m1, rfl⟩; rw [hV])
    go_returns
    refine ⟨_, rfl, zeroF_is _ _, ?_⟩
    (repeat with_reducible (first | exact Ext.refl _ | exact ext_alloc _ _ | refine Ext.drewN ?_ _ | refine Ext.drew1 ?_ | refine Ext.set ?_ (by dsimp only; omega) _ | refine Ext.alloc ?_ _))
  have HR := hid (show giveF (zs.map (cls .f32)) (cls .f32 q) (cls .f32 vo) (cls .f32 no) = R from by rw [← hR]; unfold frameOfR; rw [hV]; rfl)
  have H1 := hid (show 1 ≤ n from by have g := (sound_len hV).1; have g2 := h.1; simp at g; omega)
  clear h hn hs hR
  go_enter Try.func33, Try.ntmps33
  go_wp2_with fail
  refine (l06Sound_any _ s a n c lo ra vo no zs _ (Box.ext (box_new (w := w) #[.string s, .slice a n c, .float .f32 lo, .float .f32 ra, .float .f32 vo, .float .f32 no] 39) (by (repeat with_reducible (first | exact Ext.refl _ | exact ext_alloc _ _ | refine Ext.drewN ?_ _ | refine Ext.drew1 ?_ | refine Ext.set ?_ (by dsimp only; omega) _ | refine Ext.alloc ?_ _)))) (Holds.ext HH.out (by (repeat with_reducible (first | exact Ext.refl _ | exact ext_alloc _ _ | refine Ext.drewN ?_ _ | refine Ext.drew1 ?_ | refine Ext.set ?_ (by dsimp only; omega) _ | refine Ext.alloc ?_ _)))) HN.out HS.out).mono ?_
  rintro e w' ⟨rfl, m1, rfl⟩
  rw [hV]
  obtain ⟨w1, hw1⟩ : ∃ u, u = ((w.alloc (.cells #[.string s, .slice a n c, .float .f32 lo, .float .f32 ra, .float .f32 vo, .float .f32 no] 39)).alloc (.cells #[.slice none 0 0, .float .f32 0, .float .f32 0, .float .f32 0] 47)).drewN m1 := ⟨_, rfl⟩
  rw [← hw1]
  have E1 : Ext ((w.alloc (.cells #[.string s, .slice a n c, .float .f32 lo, .float .f32 ra, .float .f32 vo, .float .f32 no] 39)).alloc (.cells #[.slice none 0 0, .float .f32 0, .float .f32 0, .float .f32 0] 47)) w1 := by rw [hw1]; exact Ext.drewN (Ext.refl _) _
  clear hw1
  have BA := hid (Box.ext (Box.ext (box_new (w := w) #[.string s, .slice a n c, .float .f32 lo, .float .f32 ra, .float .f32 vo, .float .f32 no] 39) (by (repeat with_reducible (first | exact Ext.refl _ | exact ext_alloc _ _ | refine Ext.drewN ?_ _ | refine Ext.drew1 ?_ | refine Ext.set ?_ (by dsimp only; omega) _ | refine Ext.alloc ?_ _)))) E1)
  have BR := hid (Box.cast (b' := w.heap.size + 1) (Box.ext (box_new (w := (w.alloc (.cells #[.string s, .slice a n c, .float .f32 lo, .float .f32 ra, .float .f32 vo, .float .f32 no] 39))) #[.slice none 0 0, .float .f32 0, .float .f32 0, .float .f32 0] 47) E1) (by simp))
  have EX := hid (show Ext w w1 from Ext.trans (by (repeat with_reducible (first | exact Ext.refl _ | exact ext_alloc _ _ | refine Ext.drewN ?_ _ | refine Ext.drew1 ?_ | refine Ext.set ?_ (by dsimp only; omega) _ | refine Ext.alloc ?_ _))) E1)
  have SZ := hid (show w.heap.size + 2 ≤ w1.heap.size from by have := Ext.size E1; simp at this; omega)
  clear E1
  obtain ⟨d0, d1, d2, d3, d4, d5, dl⟩ := Box.cells6 BA.out
  go_wp2_with fail
  refine (l06Of_any _ s a n c lo ra vo no q zs _ BA.out (Holds.ext HH.out EX.out) H1.out HN.out).mono ?_
  rintro e w2 ⟨b, c', rfl, O2, E2⟩
  have HO := hid O2
  have EX2 := hid (Ext.trans EX.out E2)
  replace BR := hid (Box.ext BR.out E2)
  clear O2 E2 d0 d1 d2 d3 d4 d5 dl BA
  go_wp2_with fail
  refine (l06GiveFrame_any _ _ _ _ _ _ _ zs _ HO.out HN.out).mono ?_
  rintro e5 w3 ⟨v, rfl, hT, E5⟩
  rw [HR.out] at hT ⊢
  obtain ⟨fa, fc, fl, ft, fp, fz, rfl, fO, fe⟩ := hT
  have EX3 := hid (Ext.trans EX2.out E5)
  have HX := hid (Box.ext BR.out E5)
  have HT := hid (show FrameIs w3 w1.heap.size R (.agg #[.slice fa R.cs.length fc, .float .f32 fl, .float .f32 ft, .float .f32 fp]) from ⟨fa, fc, fl, ft, fp, fz, rfl, fO, fe⟩)
  clear fO fe E5
  obtain ⟨z0, z1, z2, z3, zf0, zf1, zf2, zf3, zl⟩ := Box.all4 HX.out
  go_wp2_with fail
  clear z0 z1 z2 z3 zf0 zf1 zf2 zf3 zl
  refine bodyPost_ret (ret_cell2 Try.results33 rfl (box_set4 HX.out _ _ _ _) Try.underlying47 infoFr) rfl ?_
  have hz := SZ.out
  exact ⟨_, rfl, FrameIs.base (FrameIs.far4 HT.out (by omega) _ _ _ _) (by omega), ext_set4 EX3.out (by omega) _ _ _ _⟩

end Go.Proofs.Ythinjgiakaflpaa

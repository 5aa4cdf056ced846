/- Valid frames, and frames that are given if they are valid. -/
import Derived.Test.YthinjgiakaflpabT3
import Derived.Test.YthinjgiakaflpabV1
import Derived.Test.YthinjgiakaflpabF1
namespace Go.Proofs.Ythinjgiakaflpab
open Go.RowKit Flt
set_option linter.unusedVariables false


/-- a frame, told by the classes of its numbers -/
def frameC (cs : List (Option Nat)) (l t p : Option Nat) : Bool := areasC cs && (leastC l && (shareC t && shareC p))

theorem isShare_any (b : Nat) (w : World) : Calls Try.prog 142 #[.float .f32 b] w fun e w' => e = .returned (.bool (shareC (cls .f32 b))) ∧ w = w' := by
  unfold shareC
  cases h1 : fcmp .geq (ford .f32 (cls .f32 b) (some 0)) <;> cases h2 : fcmp .leq (ford .f32 (cls .f32 b) (some 1065353216))
  all_goals
    go_enter Try.func142, Try.ntmps142
    go_wp2_with (refine wpList_fcmp rfl rfl rfl rfl rfl (by first | exact is_const (by decide) | exact is_self _ _) (by first | exact is_const (by decide) | exact is_self _ _) ?_; try simp only [h1, h2])
    go_ret
    exact ⟨rfl, rfl⟩
theorem isExtent_any (b : Nat) (w : World) : Calls Try.prog 126 #[.float .f32 b] w fun e w' => e = .returned (.bool (areaC (cls .f32 b))) ∧ ∃ m, w' = w.drewN m := by
  unfold areaC
  cases h1 : fcmp .gtr (ford .f32 (cls .f32 b) (some 0))
  all_goals
    go_enter Try.func126, Try.ntmps126
    go_wp2_with (first | (refine wpList_fcmp rfl rfl rfl rfl rfl (by first | exact is_const (by decide) | exact is_self _ _) (by first | exact is_const (by decide) | exact is_self _ _) ?_; try simp only [h1]) | (go_at_call 104; refine (isFinite_any _ _).mono ?_; rintro e w' ⟨rfl, m, rfl⟩))
    go_ret
  · exact ⟨rfl, 0, rfl⟩
  · exact ⟨rfl, _, rfl⟩
theorem isLeast_any (b : Nat) (w : World) : Calls Try.prog 120 #[.float .f32 b] w fun e w' => e = .returned (.bool (leastC (cls .f32 b))) ∧ ∃ m, w' = w.drewN m := by
  unfold leastC
  cases h1 : fcmp .geq (ford .f32 (cls .f32 b) (some 0))
  all_goals
    go_enter Try.func120, Try.ntmps120
    go_wp2_with (first | (refine wpList_fcmp rfl rfl rfl rfl rfl (by first | exact is_const (by decide) | exact is_self _ _) (by first | exact is_const (by decide) | exact is_self _ _) ?_; try simp only [h1]) | (go_at_call 104; refine (isFinite_any _ _).mono ?_; rintro e w' ⟨rfl, m, rfl⟩))
    go_ret
  · exact ⟨rfl, 0, rfl⟩
  · exact ⟨rfl, _, rfl⟩

set_option maxHeartbeats 2000000 in
set_option maxRecDepth 100000 in
theorem validFrame_any (a : Option Addr) (n c l t p : Nat) (zs : List Nat) (w : World) (h : Holds .f32 w a n zs) (hn : n ≤ 1048576) :
    Calls Try.prog 137 #[.agg #[.slice a n c, .float .f32 l, .float .f32 t, .float .f32 p]] w fun e w' => e = .returned (.bool (frameC (zs.map (cls .f32)) (cls .f32 l) (cls .f32 t) (cls .f32 p))) ∧ ∃ m, w' = (w.alloc (.cells #[.slice a n c, .float .f32 l, .float .f32 t, .float .f32 p] 89)).drewN m := by
  have HH := hid h
  have HN := hid hn
  clear h hn
  unfold frameC
  cases hA : areasC (zs.map (cls .f32))
  · go_enter Try.func137, Try.ntmps137
    go_wp2_with (first | (go_at_call 141; refine (areAreas_any _ _ _ zs _ (Holds.ext HH.out (by (repeat with_reducible (first | exact Ext.refl _ | exact ext_alloc _ _ | refine Ext.drewN ?_ _ | refine Ext.drew1 ?_ | refine Ext.set ?_ (by dsimp only; omega) _ | refine Ext.alloc ?_ _)))) HN.out).mono ?_; rintro e w' ⟨rfl, m, rfl⟩; simp only [hA]))
    go_ret
    exact ⟨rfl, _, rfl⟩
  cases h1 : leastC (cls .f32 l)
  · go_enter Try.func137, Try.ntmps137
    go_wp2_with (first | (go_at_call 141; refine (areAreas_any _ _ _ zs _ (Holds.ext HH.out (by (repeat with_reducible (first | exact Ext.refl _ | exact ext_alloc _ _ | refine Ext.drewN ?_ _ | refine Ext.drew1 ?_ | refine Ext.set ?_ (by dsimp only; omega) _ | refine Ext.alloc ?_ _)))) HN.out).mono ?_; rintro e w' ⟨rfl, m, rfl⟩; simp only [hA]) | (go_at_call 120; refine (isLeast_any l _).mono ?_; rintro e w' ⟨rfl, m2, rfl⟩; simp only [h1]))
    go_ret
    exact ⟨rfl, _, rfl⟩
  cases h3 : shareC (cls .f32 t)
  · go_enter Try.func137, Try.ntmps137
    go_wp2_with (first | (go_at_call 141; refine (areAreas_any _ _ _ zs _ (Holds.ext HH.out (by (repeat with_reducible (first | exact Ext.refl _ | exact ext_alloc _ _ | refine Ext.drewN ?_ _ | refine Ext.drew1 ?_ | refine Ext.set ?_ (by dsimp only; omega) _ | refine Ext.alloc ?_ _)))) HN.out).mono ?_; rintro e w' ⟨rfl, m, rfl⟩; simp only [hA]) | (go_at_call 120; refine (isLeast_any l _).mono ?_; rintro e w' ⟨rfl, m2, rfl⟩; simp only [h1]) | (go_at_call 142; refine (isShare_any t _).mono ?_; rintro e w' ⟨rfl, rfl⟩; simp only [h3]))
    go_ret
    exact ⟨rfl, _, rfl⟩
  cases h4 : shareC (cls .f32 p)
  · go_enter Try.func137, Try.ntmps137
    go_wp2_with (first | (go_at_call 141; refine (areAreas_any _ _ _ zs _ (Holds.ext HH.out (by (repeat with_reducible (first | exact Ext.refl _ | exact ext_alloc _ _ | refine Ext.drewN ?_ _ | refine Ext.drew1 ?_ | refine Ext.set ?_ (by dsimp only; omega) _ | refine Ext.alloc ?_ _)))) HN.out).mono ?_; rintro e w' ⟨rfl, m, rfl⟩; simp only [hA]) | (go_at_call 120; refine (isLeast_any l _).mono ?_; rintro e w' ⟨rfl, m2, rfl⟩; simp only [h1]) | (go_at_call 142; refine (isShare_any t _).mono ?_; rintro e w' ⟨rfl, rfl⟩; simp only [h3]) | (go_at_call 142; refine (isShare_any p _).mono ?_; rintro e w' ⟨rfl, rfl⟩; simp only [h4]))
    go_ret
    exact ⟨rfl, _, rfl⟩
  go_enter Try.func137, Try.ntmps137
  go_wp2_with (first | (go_at_call 141; refine (areAreas_any _ _ _ zs _ (Holds.ext HH.out (by (repeat with_reducible (first | exact Ext.refl _ | exact ext_alloc _ _ | refine Ext.drewN ?_ _ | refine Ext.drew1 ?_ | refine Ext.set ?_ (by dsimp only; omega) _ | refine Ext.alloc ?_ _)))) HN.out).mono ?_; rintro e w' ⟨rfl, m, rfl⟩; simp only [hA]) | (go_at_call 120; refine (isLeast_any l _).mono ?_; rintro e w' ⟨rfl, m2, rfl⟩; simp only [h1]) | (go_at_call 142; refine (isShare_any t _).mono ?_; rintro e w' ⟨rfl, rfl⟩; simp only [h3]) | (go_at_call 142; refine (isShare_any p _).mono ?_; rintro e w' ⟨rfl, rfl⟩; simp only [h4]))
  go_ret
  exact ⟨rfl, _, rfl⟩

set_option maxHeartbeats 2000000 in
set_option maxRecDepth 100000 in
theorem l06Frame_any (b : Nat) (a : Option Addr) (n c l t p : Nat) (zs : List Nat) (w : World) (hb : Box w b #[.slice a n c, .float .f32 l, .float .f32 t, .float .f32 p]) (h : Holds .f32 w a n zs) (hn : n ≤ 1048576) :
    Calls Try.prog 90 #[.pointer (some ⟨b, 0, none⟩)] w fun e w' => e = .returned (.bool (frameC (zs.map (cls .f32)) (cls .f32 l) (cls .f32 t) (cls .f32 p))) ∧ ∃ m, w' = w.drewN m := by
  have HH := hid h
  have HN := hid hn
  clear h hn
  obtain ⟨c0, c1, c2, c3, hlt⟩ := hb.cells4
  clear hb
  unfold frameC
  cases hA : areasC (zs.map (cls .f32))
  · go_enter Try.func90, Try.ntmps90
    go_wp2_with (first | (go_at_call 136; refine (l02Areas_any _ _ _ zs _ (Holds.ext HH.out (by (repeat with_reducible (first | exact Ext.refl _ | exact ext_alloc _ _ | refine Ext.drewN ?_ _ | refine Ext.drew1 ?_ | refine Ext.set ?_ (by dsimp only; omega) _ | refine Ext.alloc ?_ _)))) HN.out).mono ?_; rintro e w' ⟨rfl, m, rfl⟩; simp only [hA]))
    go_ret
    exact ⟨rfl, _, rfl⟩
  cases h1 : leastC (cls .f32 l)
  · go_enter Try.func90, Try.ntmps90
    go_wp2_with (first | (go_at_call 136; refine (l02Areas_any _ _ _ zs _ (Holds.ext HH.out (by (repeat with_reducible (first | exact Ext.refl _ | exact ext_alloc _ _ | refine Ext.drewN ?_ _ | refine Ext.drew1 ?_ | refine Ext.set ?_ (by dsimp only; omega) _ | refine Ext.alloc ?_ _)))) HN.out).mono ?_; rintro e w' ⟨rfl, m, rfl⟩; simp only [hA]) | (go_at_call 116; refine (l02Least_drew l _).mono ?_; rintro e w' ⟨rfl, m2, rfl⟩; simp only [h1]))
    go_ret
    exact ⟨rfl, _, rfl⟩
  cases h3 : shareC (cls .f32 t)
  · go_enter Try.func90, Try.ntmps90
    go_wp2_with (first | (go_at_call 136; refine (l02Areas_any _ _ _ zs _ (Holds.ext HH.out (by (repeat with_reducible (first | exact Ext.refl _ | exact ext_alloc _ _ | refine Ext.drewN ?_ _ | refine Ext.drew1 ?_ | refine Ext.set ?_ (by dsimp only; omega) _ | refine Ext.alloc ?_ _)))) HN.out).mono ?_; rintro e w' ⟨rfl, m, rfl⟩; simp only [hA]) | (go_at_call 116; refine (l02Least_drew l _).mono ?_; rintro e w' ⟨rfl, m2, rfl⟩; simp only [h1]) | (go_at_call 129; refine (l02Share_any t _).mono ?_; rintro e w' ⟨rfl, rfl⟩; simp only [h3]))
    go_ret
    exact ⟨rfl, _, rfl⟩
  cases h4 : shareC (cls .f32 p)
  · go_enter Try.func90, Try.ntmps90
    go_wp2_with (first | (go_at_call 136; refine (l02Areas_any _ _ _ zs _ (Holds.ext HH.out (by (repeat with_reducible (first | exact Ext.refl _ | exact ext_alloc _ _ | refine Ext.drewN ?_ _ | refine Ext.drew1 ?_ | refine Ext.set ?_ (by dsimp only; omega) _ | refine Ext.alloc ?_ _)))) HN.out).mono ?_; rintro e w' ⟨rfl, m, rfl⟩; simp only [hA]) | (go_at_call 116; refine (l02Least_drew l _).mono ?_; rintro e w' ⟨rfl, m2, rfl⟩; simp only [h1]) | (go_at_call 129; refine (l02Share_any t _).mono ?_; rintro e w' ⟨rfl, rfl⟩; simp only [h3]) | (go_at_call 129; refine (l02Share_any p _).mono ?_; rintro e w' ⟨rfl, rfl⟩; simp only [h4]))
    go_ret
    exact ⟨rfl, _, rfl⟩
  go_enter Try.func90, Try.ntmps90
  go_wp2_with (first | (go_at_call 136; refine (l02Areas_any _ _ _ zs _ (Holds.ext HH.out (by (repeat with_reducible (first | exact Ext.refl _ | exact ext_alloc _ _ | refine Ext.drewN ?_ _ | refine Ext.drew1 ?_ | refine Ext.set ?_ (by dsimp only; omega) _ | refine Ext.alloc ?_ _)))) HN.out).mono ?_; rintro e w' ⟨rfl, m, rfl⟩; simp only [hA]) | (go_at_call 116; refine (l02Least_drew l _).mono ?_; rintro e w' ⟨rfl, m2, rfl⟩; simp only [h1]) | (go_at_call 129; refine (l02Share_any t _).mono ?_; rintro e w' ⟨rfl, rfl⟩; simp only [h3]) | (go_at_call 129; refine (l02Share_any p _).mono ?_; rintro e w' ⟨rfl, rfl⟩; simp only [h4]))
  go_ret
  exact ⟨rfl, _, rfl⟩

/-- a frame that comes back, and whether it does, told by classes -/
structure FR where
  ok : Bool
  cs : List (Option Nat)
  l : Option Nat
  t : Option Nat
  p : Option Nat
def zeroF : FR := ⟨false, [], some 0, some 0, some 0⟩
def giveF (cs : List (Option Nat)) (l t p : Option Nat) : FR := if frameC cs l t p then ⟨true, cs, l, t, p⟩ else zeroF
theorem frame_len {cs : List (Option Nat)} {l t p : Option Nat} (h : frameC cs l t p = true) : 1 ≤ cs.length ∧ cs.length ≤ 16 := by
  unfold frameC at h
  cases hA : areasC cs
  · simp [hA] at h
  · exact areas_len hA
theorem giveF_len (cs : List (Option Nat)) (l t p : Option Nat) : (giveF cs l t p).cs.length ≤ 16 := by
  unfold giveF
  split
  · rename_i h; exact (frame_len h).2
  · exact Nat.zero_le _
/-- the value is this frame, its areas of the call's own -/
def FrameIs (w : World) (B : Nat) (R : FR) (v : Value) : Prop :=
  ∃ a c l t p zs, v = .agg #[.slice a R.cs.length c, .float .f32 l, .float .f32 t, .float .f32 p] ∧ Own w B R.cs.length (.slice a R.cs.length c) zs ∧ zs.map (cls .f32) = R.cs ∧ cls .f32 l = R.l ∧ cls .f32 t = R.t ∧ cls .f32 p = R.p
theorem zeroF_is (w : World) (B : Nat) : FrameIs w B zeroF (.agg #[.slice none 0 0, .float .f32 0, .float .f32 0, .float .f32 0]) :=
  ⟨none, 0, 0, 0, 0, [], rfl, own_nil _ _, rfl, rfl, rfl, rfl⟩
theorem FrameIs.ext {w w' : World} {B : Nat} {R : FR} {v : Value} (h : FrameIs w B R v) (e : Ext w w') : FrameIs w' B R v := by
  obtain ⟨a, c, l, t, p, zs, h1, h2, h3⟩ := h
  exact ⟨a, c, l, t, p, zs, h1, Own.ext h2 e, h3⟩
theorem FrameIs.base {w : World} {B B' : Nat} {R : FR} {v : Value} (h : FrameIs w B R v) (e : B' ≤ B) : FrameIs w B' R v := by
  obtain ⟨a, c, l, t, p, zs, h1, h2, h3⟩ := h
  exact ⟨a, c, l, t, p, zs, h1, Own.base h2 e, h3⟩
theorem giveF_yes {w : World} {B n : Nat} {a : Option Addr} {c l t p : Nat} {zs : List Nat} (h : frameC (zs.map (cls .f32)) (cls .f32 l) (cls .f32 t) (cls .f32 p) = true) (ho : Own w B n (.slice a n c) zs) :
    FrameIs w B (giveF (zs.map (cls .f32)) (cls .f32 l) (cls .f32 t) (cls .f32 p)) (.agg #[.slice a n c, .float .f32 l, .float .f32 t, .float .f32 p]) := by
  have hl := Own.len ho
  unfold giveF
  rw [if_pos h]
  have e : (zs.map (cls .f32)).length = n := by simp [hl]
  exact ⟨a, c, l, t, p, zs, by simp only [e], by simp only [e]; exact ho, rfl, rfl, rfl, rfl⟩

theorem validFrameOnly_any (a : Option Addr) (n c l t p B : Nat) (zs : List Nat) (w : World) (h : Own w B n (.slice a n c) zs) (hn : n ≤ 1048576) :
    Calls Try.prog 153 #[.agg #[.slice a n c, .float .f32 l, .float .f32 t, .float .f32 p]] w fun e w' =>
      ∃ v, e = .returned (.tuple #[v, .bool (giveF (zs.map (cls .f32)) (cls .f32 l) (cls .f32 t) (cls .f32 p)).ok]) ∧ FrameIs w' B (giveF (zs.map (cls .f32)) (cls .f32 l) (cls .f32 t) (cls .f32 p)) v ∧ Ext w w' := by
  have HH := hid h
  have HN := hid hn
  have HD : Hid (Holds .f32 w a n zs) := by
    obtain ⟨a', c', h1, h2, _⟩ := Own.holds h
    simp only [Value.slice.injEq] at h1
    obtain ⟨rfl, _, rfl⟩ := h1
    exact h2
  clear h hn
  cases hV : frameC (zs.map (cls .f32)) (cls .f32 l) (cls .f32 t) (cls .f32 p)
  · have HG := hid (show giveF (zs.map (cls .f32)) (cls .f32 l) (cls .f32 t) (cls .f32 p) = zeroF from by unfold giveF; rw [if_neg (by simp [hV])])
    go_enter Try.func153, Try.ntmps153
    go_wp2_with fail
    refine (validFrame_any _ _ _ _ _ _ zs _ (Holds.alloc (Holds.alloc HD.out _) _) HN.out).mono ?_
    rintro e w1 ⟨rfl, m, rfl⟩
    simp only [hV]
    go_wp2_with fail
    go_returns
    rw [HG.out]
    refine ⟨_, rfl, zeroF_is _ _, ?_⟩
    (repeat with_reducible (first | exact Ext.refl _ | exact ext_alloc _ _ | refine Ext.drewN ?_ _ | refine Ext.drew1 ?_ | refine Ext.set ?_ (by dsimp only; omega) _ | refine Ext.alloc ?_ _))
  · have HG := hid (show (giveF (zs.map (cls .f32)) (cls .f32 l) (cls .f32 t) (cls .f32 p)).ok = true from by unfold giveF; rw [if_pos hV])
    have HV := hid hV
    go_enter Try.func153, Try.ntmps153
    go_wp2_with fail
    refine (validFrame_any _ _ _ _ _ _ zs _ (Holds.alloc (Holds.alloc HD.out _) _) HN.out).mono ?_
    rintro e w1 ⟨rfl, m, rfl⟩
    simp only [hV]
    go_wp2_with fail
    go_returns
    rw [HG.out]
    refine ⟨_, rfl, giveF_yes HV.out (Own.ext HH.out ?_), ?_⟩
    all_goals (repeat with_reducible (first | exact Ext.refl _ | exact ext_alloc _ _ | refine Ext.drewN ?_ _ | refine Ext.drew1 ?_ | refine Ext.set ?_ (by dsimp only; omega) _ | refine Ext.alloc ?_ _))
theorem l06GiveFrame_any (a : Option Addr) (n c l t p B : Nat) (zs : List Nat) (w : World) (h : Own w B n (.slice a n c) zs) (hn : n ≤ 1048576) :
    Calls Try.prog 152 #[.agg #[.slice a n c, .float .f32 l, .float .f32 t, .float .f32 p]] w fun e w' =>
      ∃ v, e = .returned (.tuple #[v, .bool (giveF (zs.map (cls .f32)) (cls .f32 l) (cls .f32 t) (cls .f32 p)).ok]) ∧ FrameIs w' B (giveF (zs.map (cls .f32)) (cls .f32 l) (cls .f32 t) (cls .f32 p)) v ∧ Ext w w' := by
  have HH := hid h
  have HN := hid hn
  have HD : Hid (Holds .f32 w a n zs) := by
    obtain ⟨a', c', h1, h2, _⟩ := Own.holds h
    simp only [Value.slice.injEq] at h1
    obtain ⟨rfl, _, rfl⟩ := h1
    exact h2
  clear h hn
  cases hV : frameC (zs.map (cls .f32)) (cls .f32 l) (cls .f32 t) (cls .f32 p)
  · have HG := hid (show giveF (zs.map (cls .f32)) (cls .f32 l) (cls .f32 t) (cls .f32 p) = zeroF from by unfold giveF; rw [if_neg (by simp [hV])])
    go_enter Try.func152, Try.ntmps152
    go_wp2_with fail
    refine (l06Frame_any _ _ _ _ _ _ _ zs _ (Box.alloc (box_new _ _) _) (Holds.alloc (Holds.alloc HD.out _) _) HN.out).mono ?_
    rintro e w1 ⟨rfl, m, rfl⟩
    simp only [hV]
    go_wp2_with fail
    go_returns
    rw [HG.out]
    refine ⟨_, rfl, zeroF_is _ _, ?_⟩
    (repeat with_reducible (first | exact Ext.refl _ | exact ext_alloc _ _ | refine Ext.drewN ?_ _ | refine Ext.drew1 ?_ | refine Ext.set ?_ (by dsimp only; omega) _ | refine Ext.alloc ?_ _))
  · have HG := hid (show (giveF (zs.map (cls .f32)) (cls .f32 l) (cls .f32 t) (cls .f32 p)).ok = true from by unfold giveF; rw [if_pos hV])
    have HV := hid hV
    go_enter Try.func152, Try.ntmps152
    go_wp2_with fail
    refine (l06Frame_any _ _ _ _ _ _ _ zs _ (Box.alloc (box_new _ _) _) (Holds.alloc (Holds.alloc HD.out _) _) HN.out).mono ?_
    rintro e w1 ⟨rfl, m, rfl⟩
    simp only [hV]
    go_wp2_with fail
    go_returns
    rw [HG.out]
    refine ⟨_, rfl, giveF_yes HV.out (Own.ext HH.out ?_), ?_⟩
    all_goals (repeat with_reducible (first | exact Ext.refl _ | exact ext_alloc _ _ | refine Ext.drewN ?_ _ | refine Ext.drew1 ?_ | refine Ext.set ?_ (by dsimp only; omega) _ | refine Ext.alloc ?_ _))

end Go.Proofs.Ythinjgiakaflpab

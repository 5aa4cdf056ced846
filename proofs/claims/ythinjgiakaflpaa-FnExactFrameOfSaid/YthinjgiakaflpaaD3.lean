/- Valid sounds. -/
import Derived.Test.YthinjgiakaflpaaD2
namespace Go.Proofs.Ythinjgiakaflpaa
open Go.RowKit Flt
set_option linter.unusedVariables false


/-- a sound, told by its name and the classes of its numbers -/
def soundS (s : ByteArray) (cs : List (Option Nat)) (lo ra vo no : Option Nat) : Bool := nameS s && (areasC cs && (areaC lo && (leastC ra && (shareC vo && shareC no))))
theorem sound_len {s : ByteArray} {cs : List (Option Nat)} {lo ra vo no : Option Nat} (h : soundS s cs lo ra vo no = true) : 1 ≤ cs.length ∧ cs.length ≤ 16 := by
  unfold soundS at h
  cases hA : areasC cs
  · rw [hA] at h; simp at h
  · exact areas_len hA
set_option maxHeartbeats 4000000 in
set_option maxRecDepth 100000 in
theorem validSound_any (s : ByteArray) (a : Option Addr) (n c lo ra vo no : Nat) (zs : List Nat) (w : World) (h : Holds .f32 w a n zs) (hn : n ≤ 1048576) (hs : s.size ≤ 1048576) :
    Calls Try.prog 24 #[.agg #[.string s, .slice a n c, .float .f32 lo, .float .f32 ra, .float .f32 vo, .float .f32 no]] w fun e w' => e = .returned (.bool (soundS s (zs.map (cls .f32)) (cls .f32 lo) (cls .f32 ra) (cls .f32 vo) (cls .f32 no))) ∧ Ext w w' := by
  have HH := hid h
  have HN := hid hn
  have HS := hid hs
  clear h hn hs
  unfold soundS
  cases h0 : nameS s
  · go_enter Try.func24, Try.ntmps24
    go_wp2_with (first | (go_at_call 73; refine (isSoundName_any s HS.out _).mono ?_; rintro e w1 ⟨rfl, E0⟩; rw [h0]; have E1 : Ext w w1 := Ext.trans (ext_alloc _ _) E0; obtain ⟨d0, d1, d2, d3, d4, d5, dl⟩ := Box.cells6 (Box.ext (box_new (w := w) #[.string s, .slice a n c, .float .f32 lo, .float .f32 ra, .float .f32 vo, .float .f32 no] 39) E0)))
    go_ret
    refine ⟨rfl, ?_⟩
    first | exact Ext.trans E1 (by (repeat with_reducible (first | exact Ext.refl _ | exact ext_alloc _ _ | refine Ext.drewN ?_ _ | refine Ext.drew1 ?_ | refine Ext.set ?_ (by dsimp only; omega) _ | refine Ext.alloc ?_ _)))
  cases h1 : areasC (zs.map (cls .f32))
  · go_enter Try.func24, Try.ntmps24
    go_wp2_with (first | (go_at_call 73; refine (isSoundName_any s HS.out _).mono ?_; rintro e w1 ⟨rfl, E0⟩; rw [h0]; have E1 : Ext w w1 := Ext.trans (ext_alloc _ _) E0; obtain ⟨d0, d1, d2, d3, d4, d5, dl⟩ := Box.cells6 (Box.ext (box_new (w := w) #[.string s, .slice a n c, .float .f32 lo, .float .f32 ra, .float .f32 vo, .float .f32 no] 39) E0)) | (go_at_call 74; refine (areAreas_any _ _ _ zs _ (Holds.ext HH.out (Ext.trans E1 (by (repeat with_reducible (first | exact Ext.refl _ | exact ext_alloc _ _ | refine Ext.drewN ?_ _ | refine Ext.drew1 ?_ | refine Ext.set ?_ (by dsimp only; omega) _ | refine Ext.alloc ?_ _))))) HN.out).mono ?_; rintro e w' ⟨rfl, m, rfl⟩; rw [h1]))
    go_ret
    refine ⟨rfl, ?_⟩
    first | exact Ext.trans E1 (by (repeat with_reducible (first | exact Ext.refl _ | exact ext_alloc _ _ | refine Ext.drewN ?_ _ | refine Ext.drew1 ?_ | refine Ext.set ?_ (by dsimp only; omega) _ | refine Ext.alloc ?_ _)))
  cases h2 : areaC (cls .f32 lo)
  · go_enter Try.func24, Try.ntmps24
    go_wp2_with (first | (go_at_call 73; refine (isSoundName_any s HS.out _).mono ?_; rintro e w1 ⟨rfl, E0⟩; rw [h0]; have E1 : Ext w w1 := Ext.trans (ext_alloc _ _) E0; obtain ⟨d0, d1, d2, d3, d4, d5, dl⟩ := Box.cells6 (Box.ext (box_new (w := w) #[.string s, .slice a n c, .float .f32 lo, .float .f32 ra, .float .f32 vo, .float .f32 no] 39) E0)) | (go_at_call 74; refine (areAreas_any _ _ _ zs _ (Holds.ext HH.out (Ext.trans E1 (by (repeat with_reducible (first | exact Ext.refl _ | exact ext_alloc _ _ | refine Ext.drewN ?_ _ | refine Ext.drew1 ?_ | refine Ext.set ?_ (by dsimp only; omega) _ | refine Ext.alloc ?_ _))))) HN.out).mono ?_; rintro e w' ⟨rfl, m, rfl⟩; rw [h1]) | (go_at_call 75; with_reducible refine (isExtent_any lo _).mono ?_; rintro e w' ⟨rfl, m2, rfl⟩; rw [h2]))
    go_ret
    refine ⟨rfl, ?_⟩
    first | exact Ext.trans E1 (by (repeat with_reducible (first | exact Ext.refl _ | exact ext_alloc _ _ | refine Ext.drewN ?_ _ | refine Ext.drew1 ?_ | refine Ext.set ?_ (by dsimp only; omega) _ | refine Ext.alloc ?_ _)))
  cases h3 : leastC (cls .f32 ra)
  · go_enter Try.func24, Try.ntmps24
    go_wp2_with (first | (go_at_call 73; refine (isSoundName_any s HS.out _).mono ?_; rintro e w1 ⟨rfl, E0⟩; rw [h0]; have E1 : Ext w w1 := Ext.trans (ext_alloc _ _) E0; obtain ⟨d0, d1, d2, d3, d4, d5, dl⟩ := Box.cells6 (Box.ext (box_new (w := w) #[.string s, .slice a n c, .float .f32 lo, .float .f32 ra, .float .f32 vo, .float .f32 no] 39) E0)) | (go_at_call 74; refine (areAreas_any _ _ _ zs _ (Holds.ext HH.out (Ext.trans E1 (by (repeat with_reducible (first | exact Ext.refl _ | exact ext_alloc _ _ | refine Ext.drewN ?_ _ | refine Ext.drew1 ?_ | refine Ext.set ?_ (by dsimp only; omega) _ | refine Ext.alloc ?_ _))))) HN.out).mono ?_; rintro e w' ⟨rfl, m, rfl⟩; rw [h1]) | (go_at_call 75; with_reducible refine (isExtent_any lo _).mono ?_; rintro e w' ⟨rfl, m2, rfl⟩; rw [h2]) | (go_at_call 76; with_reducible refine (isLeast_any ra _).mono ?_; rintro e w' ⟨rfl, m3, rfl⟩; rw [h3]))
    go_ret
    refine ⟨rfl, ?_⟩
    first | exact Ext.trans E1 (by (repeat with_reducible (first | exact Ext.refl _ | exact ext_alloc _ _ | refine Ext.drewN ?_ _ | refine Ext.drew1 ?_ | refine Ext.set ?_ (by dsimp only; omega) _ | refine Ext.alloc ?_ _)))
  cases h4 : shareC (cls .f32 vo)
  · go_enter Try.func24, Try.ntmps24
    go_wp2_with (first | (go_at_call 73; refine (isSoundName_any s HS.out _).mono ?_; rintro e w1 ⟨rfl, E0⟩; rw [h0]; have E1 : Ext w w1 := Ext.trans (ext_alloc _ _) E0; obtain ⟨d0, d1, d2, d3, d4, d5, dl⟩ := Box.cells6 (Box.ext (box_new (w := w) #[.string s, .slice a n c, .float .f32 lo, .float .f32 ra, .float .f32 vo, .float .f32 no] 39) E0)) | (go_at_call 74; refine (areAreas_any _ _ _ zs _ (Holds.ext HH.out (Ext.trans E1 (by (repeat with_reducible (first | exact Ext.refl _ | exact ext_alloc _ _ | refine Ext.drewN ?_ _ | refine Ext.drew1 ?_ | refine Ext.set ?_ (by dsimp only; omega) _ | refine Ext.alloc ?_ _))))) HN.out).mono ?_; rintro e w' ⟨rfl, m, rfl⟩; rw [h1]) | (go_at_call 75; with_reducible refine (isExtent_any lo _).mono ?_; rintro e w' ⟨rfl, m2, rfl⟩; rw [h2]) | (go_at_call 76; with_reducible refine (isLeast_any ra _).mono ?_; rintro e w' ⟨rfl, m3, rfl⟩; rw [h3]) | (go_at_call 77; with_reducible refine (isShare_any vo _).mono ?_; rintro e w' ⟨rfl, rfl⟩; rw [h4]))
    go_ret
    refine ⟨rfl, ?_⟩
    first | exact Ext.trans E1 (by (repeat with_reducible (first | exact Ext.refl _ | exact ext_alloc _ _ | refine Ext.drewN ?_ _ | refine Ext.drew1 ?_ | refine Ext.set ?_ (by dsimp only; omega) _ | refine Ext.alloc ?_ _)))
  cases h5 : shareC (cls .f32 no)
  · go_enter Try.func24, Try.ntmps24
    go_wp2_with (first | (go_at_call 73; refine (isSoundName_any s HS.out _).mono ?_; rintro e w1 ⟨rfl, E0⟩; rw [h0]; have E1 : Ext w w1 := Ext.trans (ext_alloc _ _) E0; obtain ⟨d0, d1, d2, d3, d4, d5, dl⟩ := Box.cells6 (Box.ext (box_new (w := w) #[.string s, .slice a n c, .float .f32 lo, .float .f32 ra, .float .f32 vo, .float .f32 no] 39) E0)) | (go_at_call 74; refine (areAreas_any _ _ _ zs _ (Holds.ext HH.out (Ext.trans E1 (by (repeat with_reducible (first | exact Ext.refl _ | exact ext_alloc _ _ | refine Ext.drewN ?_ _ | refine Ext.drew1 ?_ | refine Ext.set ?_ (by dsimp only; omega) _ | refine Ext.alloc ?_ _))))) HN.out).mono ?_; rintro e w' ⟨rfl, m, rfl⟩; rw [h1]) | (go_at_call 75; with_reducible refine (isExtent_any lo _).mono ?_; rintro e w' ⟨rfl, m2, rfl⟩; rw [h2]) | (go_at_call 76; with_reducible refine (isLeast_any ra _).mono ?_; rintro e w' ⟨rfl, m3, rfl⟩; rw [h3]) | (go_at_call 77; with_reducible refine (isShare_any vo _).mono ?_; rintro e w' ⟨rfl, rfl⟩; rw [h4]) | (go_at_call 77; with_reducible refine (isShare_any no _).mono ?_; rintro e w' ⟨rfl, rfl⟩; rw [h5]))
    go_ret
    refine ⟨rfl, ?_⟩
    first | exact Ext.trans E1 (by (repeat with_reducible (first | exact Ext.refl _ | exact ext_alloc _ _ | refine Ext.drewN ?_ _ | refine Ext.drew1 ?_ | refine Ext.set ?_ (by dsimp only; omega) _ | refine Ext.alloc ?_ _)))
  go_enter Try.func24, Try.ntmps24
  go_wp2_with (first | (go_at_call 73; refine (isSoundName_any s HS.out _).mono ?_; rintro e w1 ⟨rfl, E0⟩; rw [h0]; have E1 : Ext w w1 := Ext.trans (ext_alloc _ _) E0; obtain ⟨d0, d1, d2, d3, d4, d5, dl⟩ := Box.cells6 (Box.ext (box_new (w := w) #[.string s, .slice a n c, .float .f32 lo, .float .f32 ra, .float .f32 vo, .float .f32 no] 39) E0)) | (go_at_call 74; refine (areAreas_any _ _ _ zs _ (Holds.ext HH.out (Ext.trans E1 (by (repeat with_reducible (first | exact Ext.refl _ | exact ext_alloc _ _ | refine Ext.drewN ?_ _ | refine Ext.drew1 ?_ | refine Ext.set ?_ (by dsimp only; omega) _ | refine Ext.alloc ?_ _))))) HN.out).mono ?_; rintro e w' ⟨rfl, m, rfl⟩; rw [h1]) | (go_at_call 75; with_reducible refine (isExtent_any lo _).mono ?_; rintro e w' ⟨rfl, m2, rfl⟩; rw [h2]) | (go_at_call 76; with_reducible refine (isLeast_any ra _).mono ?_; rintro e w' ⟨rfl, m3, rfl⟩; rw [h3]) | (go_at_call 77; with_reducible refine (isShare_any vo _).mono ?_; rintro e w' ⟨rfl, rfl⟩; rw [h4]) | (go_at_call 77; with_reducible refine (isShare_any no _).mono ?_; rintro e w' ⟨rfl, rfl⟩; rw [h5]))
  go_ret
  refine ⟨rfl, ?_⟩
  first | exact Ext.trans E1 (by (repeat with_reducible (first | exact Ext.refl _ | exact ext_alloc _ _ | refine Ext.drewN ?_ _ | refine Ext.drew1 ?_ | refine Ext.set ?_ (by dsimp only; omega) _ | refine Ext.alloc ?_ _)))

set_option maxHeartbeats 4000000 in
set_option maxRecDepth 100000 in
theorem l06Sound_any (x : Nat) (s : ByteArray) (a : Option Addr) (n c lo ra vo no : Nat) (zs : List Nat) (w : World) (hb : Box w x #[.string s, .slice a n c, .float .f32 lo, .float .f32 ra, .float .f32 vo, .float .f32 no]) (h : Holds .f32 w a n zs) (hn : n ≤ 1048576) (hs : s.size ≤ 1048576) :
    Calls Try.prog 71 #[.pointer (some ⟨x, 0, none⟩)] w fun e w' => e = .returned (.bool (soundS s (zs.map (cls .f32)) (cls .f32 lo) (cls .f32 ra) (cls .f32 vo) (cls .f32 no))) ∧ ∃ m, w' = w.drewN m := by
  have HH := hid h
  have HN := hid hn
  have HS := hid hs
  clear h hn hs
  obtain ⟨c0, c1, c2, c3, c4, c5, hlt⟩ := Box.cells6 hb
  clear hb
  unfold soundS
  cases h0 : nameS s
  · go_enter Try.func71, Try.ntmps71
    go_wp2_with (first | (go_at_call 109; refine (l06Name_any s HS.out _).mono ?_; rintro e w' ⟨rfl, rfl⟩; rw [h0]))
    go_ret
    first | exact ⟨rfl, _, rfl⟩ | exact ⟨rfl, 0, rfl⟩
  cases h1 : areasC (zs.map (cls .f32))
  · go_enter Try.func71, Try.ntmps71
    go_wp2_with (first | (go_at_call 109; refine (l06Name_any s HS.out _).mono ?_; rintro e w' ⟨rfl, rfl⟩; rw [h0]) | (go_at_call 110; refine (l02Areas_any _ _ _ zs _ (Holds.ext HH.out (by (repeat with_reducible (first | exact Ext.refl _ | exact ext_alloc _ _ | refine Ext.drewN ?_ _ | refine Ext.drew1 ?_ | refine Ext.set ?_ (by dsimp only; omega) _ | refine Ext.alloc ?_ _)))) HN.out).mono ?_; rintro e w' ⟨rfl, m, rfl⟩; rw [h1]))
    go_ret
    first | exact ⟨rfl, _, rfl⟩ | exact ⟨rfl, 0, rfl⟩
  cases h2 : areaC (cls .f32 lo)
  · go_enter Try.func71, Try.ntmps71
    go_wp2_with (first | (go_at_call 109; refine (l06Name_any s HS.out _).mono ?_; rintro e w' ⟨rfl, rfl⟩; rw [h0]) | (go_at_call 110; refine (l02Areas_any _ _ _ zs _ (Holds.ext HH.out (by (repeat with_reducible (first | exact Ext.refl _ | exact ext_alloc _ _ | refine Ext.drewN ?_ _ | refine Ext.drew1 ?_ | refine Ext.set ?_ (by dsimp only; omega) _ | refine Ext.alloc ?_ _)))) HN.out).mono ?_; rintro e w' ⟨rfl, m, rfl⟩; rw [h1]) | (go_at_call 108; with_reducible refine (l02Above_any lo _).mono ?_; rintro e w' ⟨rfl, m2, rfl⟩; rw [h2]))
    go_ret
    first | exact ⟨rfl, _, rfl⟩ | exact ⟨rfl, 0, rfl⟩
  cases h3 : leastC (cls .f32 ra)
  · go_enter Try.func71, Try.ntmps71
    go_wp2_with (first | (go_at_call 109; refine (l06Name_any s HS.out _).mono ?_; rintro e w' ⟨rfl, rfl⟩; rw [h0]) | (go_at_call 110; refine (l02Areas_any _ _ _ zs _ (Holds.ext HH.out (by (repeat with_reducible (first | exact Ext.refl _ | exact ext_alloc _ _ | refine Ext.drewN ?_ _ | refine Ext.drew1 ?_ | refine Ext.set ?_ (by dsimp only; omega) _ | refine Ext.alloc ?_ _)))) HN.out).mono ?_; rintro e w' ⟨rfl, m, rfl⟩; rw [h1]) | (go_at_call 108; with_reducible refine (l02Above_any lo _).mono ?_; rintro e w' ⟨rfl, m2, rfl⟩; rw [h2]) | (go_at_call 103; with_reducible refine (l02Least_drew ra _).mono ?_; rintro e w' ⟨rfl, m3, rfl⟩; rw [h3]))
    go_ret
    first | exact ⟨rfl, _, rfl⟩ | exact ⟨rfl, 0, rfl⟩
  cases h4 : shareC (cls .f32 vo)
  · go_enter Try.func71, Try.ntmps71
    go_wp2_with (first | (go_at_call 109; refine (l06Name_any s HS.out _).mono ?_; rintro e w' ⟨rfl, rfl⟩; rw [h0]) | (go_at_call 110; refine (l02Areas_any _ _ _ zs _ (Holds.ext HH.out (by (repeat with_reducible (first | exact Ext.refl _ | exact ext_alloc _ _ | refine Ext.drewN ?_ _ | refine Ext.drew1 ?_ | refine Ext.set ?_ (by dsimp only; omega) _ | refine Ext.alloc ?_ _)))) HN.out).mono ?_; rintro e w' ⟨rfl, m, rfl⟩; rw [h1]) | (go_at_call 108; with_reducible refine (l02Above_any lo _).mono ?_; rintro e w' ⟨rfl, m2, rfl⟩; rw [h2]) | (go_at_call 103; with_reducible refine (l02Least_drew ra _).mono ?_; rintro e w' ⟨rfl, m3, rfl⟩; rw [h3]) | (go_at_call 87; with_reducible refine (l02Share_any vo _).mono ?_; rintro e w' ⟨rfl, rfl⟩; rw [h4]))
    go_ret
    first | exact ⟨rfl, _, rfl⟩ | exact ⟨rfl, 0, rfl⟩
  cases h5 : shareC (cls .f32 no)
  · go_enter Try.func71, Try.ntmps71
    go_wp2_with (first | (go_at_call 109; refine (l06Name_any s HS.out _).mono ?_; rintro e w' ⟨rfl, rfl⟩; rw [h0]) | (go_at_call 110; refine (l02Areas_any _ _ _ zs _ (Holds.ext HH.out (by (repeat with_reducible (first | exact Ext.refl _ | exact ext_alloc _ _ | refine Ext.drewN ?_ _ | refine Ext.drew1 ?_ | refine Ext.set ?_ (by dsimp only; omega) _ | refine Ext.alloc ?_ _)))) HN.out).mono ?_; rintro e w' ⟨rfl, m, rfl⟩; rw [h1]) | (go_at_call 108; with_reducible refine (l02Above_any lo _).mono ?_; rintro e w' ⟨rfl, m2, rfl⟩; rw [h2]) | (go_at_call 103; with_reducible refine (l02Least_drew ra _).mono ?_; rintro e w' ⟨rfl, m3, rfl⟩; rw [h3]) | (go_at_call 87; with_reducible refine (l02Share_any vo _).mono ?_; rintro e w' ⟨rfl, rfl⟩; rw [h4]) | (go_at_call 87; with_reducible refine (l02Share_any no _).mono ?_; rintro e w' ⟨rfl, rfl⟩; rw [h5]))
    go_ret
    first | exact ⟨rfl, _, rfl⟩ | exact ⟨rfl, 0, rfl⟩
  go_enter Try.func71, Try.ntmps71
  go_wp2_with (first | (go_at_call 109; refine (l06Name_any s HS.out _).mono ?_; rintro e w' ⟨rfl, rfl⟩; rw [h0]) | (go_at_call 110; refine (l02Areas_any _ _ _ zs _ (Holds.ext HH.out (by (repeat with_reducible (first | exact Ext.refl _ | exact ext_alloc _ _ | refine Ext.drewN ?_ _ | refine Ext.drew1 ?_ | refine Ext.set ?_ (by dsimp only; omega) _ | refine Ext.alloc ?_ _)))) HN.out).mono ?_; rintro e w' ⟨rfl, m, rfl⟩; rw [h1]) | (go_at_call 108; with_reducible refine (l02Above_any lo _).mono ?_; rintro e w' ⟨rfl, m2, rfl⟩; rw [h2]) | (go_at_call 103; with_reducible refine (l02Least_drew ra _).mono ?_; rintro e w' ⟨rfl, m3, rfl⟩; rw [h3]) | (go_at_call 87; with_reducible refine (l02Share_any vo _).mono ?_; rintro e w' ⟨rfl, rfl⟩; rw [h4]) | (go_at_call 87; with_reducible refine (l02Share_any no _).mono ?_; rintro e w' ⟨rfl, rfl⟩; rw [h5]))
  go_ret
  first | exact ⟨rfl, _, rfl⟩ | exact ⟨rfl, 0, rfl⟩

theorem sValidSound_any (s : ByteArray) (a : Option Addr) (n c lo ra vo no : Nat) (zs : List Nat) (w : World) (h : Holds .f32 w a n zs) (hn : n ≤ 1048576) (hs : s.size ≤ 1048576) :
    Calls Try.prog 22 #[.agg #[.string s, .slice a n c, .float .f32 lo, .float .f32 ra, .float .f32 vo, .float .f32 no]] w fun e w' => e = .returned (.bool (soundS s (zs.map (cls .f32)) (cls .f32 lo) (cls .f32 ra) (cls .f32 vo) (cls .f32 no))) ∧ Ext w w' := by
  have HH := hid h
  have HN := hid hn
  have HS := hid hs
  clear h hn hs
  go_enter Try.func22, Try.ntmps22
  go_wp2_with fail
  refine (l06Sound_any _ s a n c lo ra vo no zs _ (box_new _ _) (Holds.alloc HH.out _) HN.out HS.out).mono ?_
  rintro e w' ⟨rfl, m, rfl⟩
  go_wp2
  go_ret
  refine ⟨rfl, ?_⟩
  (repeat with_reducible (first | exact Ext.refl _ | exact ext_alloc _ _ | refine Ext.drewN ?_ _ | refine Ext.drew1 ?_ | refine Ext.set ?_ (by dsimp only; omega) _ | refine Ext.alloc ?_ _))
theorem validSound_is (s : ByteArray) (a : Option Addr) (n c lo ra vo no : Nat) (zs : List Nat) (VV : Bool) (w : World) (h : Holds .f32 w a n zs) (hn : n ≤ 1048576) (hs : s.size ≤ 1048576) (hV : soundS s (zs.map (cls .f32)) (cls .f32 lo) (cls .f32 ra) (cls .f32 vo) (cls .f32 no) = VV) :
    Calls Try.prog 24 #[.agg #[.string s, .slice a n c, .float .f32 lo, .float .f32 ra, .float .f32 vo, .float .f32 no]] w fun e w' => e = .returned (.bool VV) ∧ Ext w w' := by
  rw [← hV]; exact validSound_any s a n c lo ra vo no zs w h hn hs
theorem sValidSound_is (s : ByteArray) (a : Option Addr) (n c lo ra vo no : Nat) (zs : List Nat) (VV : Bool) (w : World) (h : Holds .f32 w a n zs) (hn : n ≤ 1048576) (hs : s.size ≤ 1048576) (hV : soundS s (zs.map (cls .f32)) (cls .f32 lo) (cls .f32 ra) (cls .f32 vo) (cls .f32 no) = VV) :
    Calls Try.prog 22 #[.agg #[.string s, .slice a n c, .float .f32 lo, .float .f32 ra, .float .f32 vo, .float .f32 no]] w fun e w' => e = .returned (.bool VV) ∧ Ext w w' := by
  rw [← hV]; exact sValidSound_any s a n c lo ra vo no zs w h hn hs

end Go.Proofs.Ythinjgiakaflpaa

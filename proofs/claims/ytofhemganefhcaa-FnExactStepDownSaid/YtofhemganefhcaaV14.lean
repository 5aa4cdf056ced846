/- A sound that begins and ends softly: the closure and the program's contract. -/
import Derived.Test.YtofhemganefhcaaV12
import Derived.Test.YtofhemganefhcaaShare
namespace Go.Proofs.Ytofhemganefhcaa
open Go.RowKit Flt
set_option linter.unusedVariables false

def ratioC (a b : Int) : Option Nat := fop .quo .f32 (some (floatOfInt .f32 a)) (some (floatOfInt .f32 b))
def softIn (zs : List Nat) (i k : Nat) : Option Nat := if k < i then fop .mul .f32 (cls .f32 (zs.getD k 0)) (ratioC ((k : Int) + 1) ((i : Int) + 1)) else cls .f32 (zs.getD k 0)
def softC (zs : List Nat) (i o n k : Nat) : Option Nat := if n - k ≤ o then fop .mul .f32 (softIn zs i k) (ratioC ((n : Int) - (k : Int)) ((o : Int) + 1)) else softIn zs i k
def softR (zs : List Nat) (i o : Int) : List (Option Nat) × Bool := if soundB (zs.map (cls .f32)) && (decide (0 ≤ i) && (decide (i ≤ zs.length) && (decide (0 ≤ o) && decide (o ≤ zs.length)))) then soundR (softC zs i.toNat o.toNat zs.length) zs.length else ([], false)
theorem soft_len (zs : List Nat) (i o : Int) : (softR zs i o).1.length ≤ 256 := by
  unfold softR
  split
  · rename_i h
    simp only [Bool.and_eq_true] at h
    have h1 := sound_len h.1
    have := soundR_len (softC zs i.toNat o.toNat zs.length) zs.length
    simp at h1
    omega
  · exact Nat.zero_le _
theorem mul_share {x : Nat} {a b : Nat} (ha : a ≠ 0) (hb : b < 258) (hab : a ≤ b) (hf : fin32 (cls .f32 x) = true) : ∃ r, fop .mul .f32 (cls .f32 x) (ratioC (a : Int) (b : Int)) = cls .f32 r ∧ fin32 (cls .f32 r) = true := by
  obtain ⟨q, n, j, h1, h2, h3, h4⟩ := share_le ha hb hab
  unfold ratioC
  rw [h1]
  exact mul_share_fin hf h2 h3 h4
theorem softIn_word (zs : List Nat) (i k : Nat) (hi : i ≤ 256) (hf : fin32 (cls .f32 (zs.getD k 0)) = true) : ∃ r, softIn zs i k = cls .f32 r ∧ fin32 (cls .f32 r) = true := by
  unfold softIn
  split
  · rename_i h
    exact mul_share (x := zs.getD k 0) (a := k + 1) (b := i + 1) (by omega) (by omega) (by omega) hf
  · exact ⟨_, rfl, hf⟩
theorem softC_word (zs : List Nat) (i o n k : Nat) (hi : i ≤ 256) (ho : o ≤ 256) (hk : k < n) (hf : fin32 (cls .f32 (zs.getD k 0)) = true) : ∃ r, softC zs i o n k = cls .f32 r ∧ fin32 (cls .f32 r) = true := by
  obtain ⟨r, h1, h2⟩ := softIn_word zs i k hi hf
  unfold softC
  rw [h1]
  split
  · rename_i h
    have := mul_share (x := r) (a := n - k) (b := o + 1) (by omega) (by omega) (by omega) h2
    rw [show ((n - k : Nat) : Int) = (n : Int) - (k : Int) from by omega] at this
    exact this
  · exact ⟨_, rfl, h2⟩
theorem soft_all {zs : List Nat} {n i o : Nat} (hn : zs.length = n) (hs : soundB (zs.map (cls .f32)) = true) (hi : i ≤ 256) (ho : o ≤ 256) : soundR (softC zs i o n) n = (listK (softC zs i o n) n, true) := by
  unfold soundR finR2
  rw [if_pos]
  unfold finsC listK
  rw [List.all_eq_true]
  intro X hX
  obtain ⟨k, hk, rfl⟩ := List.mem_map.1 hX
  have hk2 := List.mem_range.1 hk
  obtain ⟨r, h1, h2⟩ := softC_word zs i o n k hi ho hk2 (fins_at hs k (by omega))
  rw [h1]; exact h2
set_option maxHeartbeats 2000000 in
set_option maxRecDepth 100000 in
theorem soft_clo (k b1 b2 b3 b4 n c i o : Nat) (a : Option Addr) (zs : List Nat) (w : World) (hk : k < n) (hn : n ≤ 1048576) (hin : i ≤ n) (hon : o ≤ n) (h1 : Box w b1 #[.slice a n c]) (h2 : Box w b2 #[.int .i64 (i : Int)]) (h3 : Box w b3 #[.int .i64 (n : Int)]) (h4 : Box w b4 #[.int .i64 (o : Int)])
    (hu : Holds .f32 w a n zs) :
    Calls Try.prog 98 #[.int .i64 (k : Int), .pointer (some ⟨b1, 0, none⟩), .pointer (some ⟨b2, 0, none⟩), .pointer (some ⟨b3, 0, none⟩), .pointer (some ⟨b4, 0, none⟩)] w fun e w' => ∃ r, e = .returned (.float .f32 r) ∧ cls .f32 r = softC zs i o n k ∧ Ext w w' := by
  obtain ⟨c1', l1⟩ := Box.cells1 h1
  obtain ⟨c2', l2⟩ := Box.cells1 h2
  obtain ⟨c3', l3⟩ := Box.cells1 h3
  obtain ⟨c4', l4⟩ := Box.cells1 h4
  obtain ⟨p, q, rfl, e1⟩ := cell_at hu (Ext.refl _) k hk
  unfold softC softIn
  generalize zs.getD k 0 = u at e1
  have HU := is_self .f32 u
  have hi0 : (0 : Int) ≤ (k : Int) := by omega
  have hi1 : (k : Int) < (n : Int) := by omega
  clear h1 h2 h3 h4 hu
  by_cases hA : k < i
  · have hA2 : (k : Int) < (i : Int) := by omega
    rw [if_pos hA]
    by_cases hB : n - k ≤ o
    · have hB2 : (n : Int) - (k : Int) ≤ (o : Int) := by omega
      rw [if_pos hB]
      go_enter Try.func98, Try.ntmps98
      go_wp2_with (first
        | (refine wpList_fa rfl rfl rfl rfl rfl (by first | assumption | exact is_const (by decide) | exact is_int _) (by first | assumption | exact is_const (by decide) | exact is_int _) ?_; intro r n' hr hrw))
      go_ret
      refine ⟨_, rfl, Is.out (by assumption), ?_⟩
      (repeat with_reducible (first | exact Ext.refl _ | exact ext_alloc _ _ | refine Ext.drewN ?_ _ | refine Ext.drew1 ?_ | refine Ext.set ?_ (by dsimp only; omega) _ | refine Ext.alloc ?_ _))
    · have hB2 : ¬ ((n : Int) - (k : Int) ≤ (o : Int)) := by omega
      rw [if_neg hB]
      go_enter Try.func98, Try.ntmps98
      go_wp2_with (first
        | (refine wpList_fa rfl rfl rfl rfl rfl (by first | assumption | exact is_const (by decide) | exact is_int _) (by first | assumption | exact is_const (by decide) | exact is_int _) ?_; intro r n' hr hrw))
      go_ret
      refine ⟨_, rfl, Is.out (by assumption), ?_⟩
      (repeat with_reducible (first | exact Ext.refl _ | exact ext_alloc _ _ | refine Ext.drewN ?_ _ | refine Ext.drew1 ?_ | refine Ext.set ?_ (by dsimp only; omega) _ | refine Ext.alloc ?_ _))
  · have hA2 : ¬ ((k : Int) < (i : Int)) := by omega
    rw [if_neg hA]
    by_cases hB : n - k ≤ o
    · have hB2 : (n : Int) - (k : Int) ≤ (o : Int) := by omega
      rw [if_pos hB]
      go_enter Try.func98, Try.ntmps98
      go_wp2_with (first
        | (refine wpList_fa rfl rfl rfl rfl rfl (by first | assumption | exact is_const (by decide) | exact is_int _) (by first | assumption | exact is_const (by decide) | exact is_int _) ?_; intro r n' hr hrw))
      go_ret
      refine ⟨_, rfl, Is.out (by assumption), ?_⟩
      (repeat with_reducible (first | exact Ext.refl _ | exact ext_alloc _ _ | refine Ext.drewN ?_ _ | refine Ext.drew1 ?_ | refine Ext.set ?_ (by dsimp only; omega) _ | refine Ext.alloc ?_ _))
    · have hB2 : ¬ ((n : Int) - (k : Int) ≤ (o : Int)) := by omega
      rw [if_neg hB]
      go_enter Try.func98, Try.ntmps98
      go_wp2_with (first
        | (refine wpList_fa rfl rfl rfl rfl rfl (by first | assumption | exact is_const (by decide) | exact is_int _) (by first | assumption | exact is_const (by decide) | exact is_int _) ?_; intro r n' hr hrw))
      go_ret
      refine ⟨_, rfl, Is.out (by assumption), ?_⟩
      (repeat with_reducible (first | exact Ext.refl _ | exact ext_alloc _ _ | refine Ext.drewN ?_ _ | refine Ext.drew1 ?_ | refine Ext.set ?_ (by dsimp only; omega) _ | refine Ext.alloc ?_ _))
end Go.Proofs.Ytofhemganefhcaa

/- What is left of a sound: the closure. -/
import Derived.Test.YtofhemganefhcabW11
import Derived.Test.YtofhemganefhcabV14
namespace Go.Proofs.Ytofhemganefhcab
open Go.RowKit Flt
set_option linter.unusedVariables false

def resC (us zs : List Nat) (k : Nat) : Option Nat := fop .sub .f32 (cls .f32 (zs.getD k 0)) (predX us zs k)
def resR (us : List Nat) (g : Option Nat) (zs : List Nat) : List (Option Nat) × Bool := if predC (us.map (cls .f32)) g && soundB (zs.map (cls .f32)) then soundR (resC us zs) zs.length else ([], false)
theorem res_len (us : List Nat) (g : Option Nat) (zs : List Nat) : (resR us g zs).1.length ≤ 256 := by
  unfold resR
  split
  · rename_i h
    simp only [Bool.and_eq_true] at h
    have h1 := sound_len h.2
    have := soundR_len (resC us zs) zs.length
    simp at h1
    omega
  · exact Nat.zero_le _
theorem hold_take {w : World} {a : Option Addr} {n k : Nat} {zs : List Nat} (h : Holds .f32 w a n zs) (hk : k ≤ n) : Holds .f32 w a k (zs.take k) := by
  refine ⟨by simp [h.1]; omega, ?_⟩
  by_cases h0 : k = 0
  · exact .inl h0
  · rcases h.2 with h1 | ⟨b, off, rfl, hb, hc⟩
    · omega
    · refine .inr ⟨b, off, rfl, hb, fun i hi => ?_⟩
      rw [hc i (by omega)]
      simp [List.getD, hi]
set_option maxHeartbeats 2000000 in
set_option maxRecDepth 100000 in
theorem res_clo (k b1 b2 n c g m c2 bs os : Nat) (a : Option Addr) (us zs : List Nat) (w : World) (hk : k < m) (hn : n ≤ 1048576) (hm : m ≤ 1048576) (hcap : m ≤ c2) (h1 : Box w b1 #[.slice (some ⟨bs, os, none⟩) m c2]) (h2 : Box w b2 #[.slice a n c, .float .f32 g])
    (hu : Holds .f32 w a n us) (hv : Holds .f32 w (some ⟨bs, os, none⟩) m zs) :
    Calls Try.prog 71 #[.int .i64 (k : Int), .pointer (some ⟨b1, 0, none⟩), .pointer (some ⟨b2, 0, none⟩)] w fun e w' => ∃ r, e = .returned (.float .f32 r) ∧ cls .f32 r = resC us zs k ∧ Ext w w' := by
  obtain ⟨q1, l1⟩ := Box.cells1 h1
  obtain ⟨q2, q3, l2⟩ := Box.cells2 h2
  obtain ⟨p, o, hpo, e1⟩ := cell_at hv (Ext.refl _) k hk
  simp only [Option.some.injEq, Addr.mk.injEq] at hpo
  obtain ⟨rfl, rfl, _⟩ := hpo
  have hbl : bs < w.heap.size := by
    rcases hv.2 with h0 | ⟨b, off, hb, hl, _⟩
    · omega
    · simp only [Option.some.injEq, Addr.mk.injEq] at hb; obtain ⟨rfl, _⟩ := hb; exact hl
  have F1 := grown_cell (p := ⟨b1, 0, none⟩) l1 q1
  have F2 := grown_cell (p := ⟨b2, 0, none⟩) l2 q2
  have F4 := grown_cell (p := ⟨bs, os + k, none⟩) hbl e1
  have HU := hid hu
  have HV := hid hv
  have HC : Hid (resC us zs k = fop .sub .f32 (cls .f32 (zs.getD k 0)) (predX us zs k)) := rfl
  generalize zs.getD k 0 = x at e1 F4 HC
  have hi0 : (0 : Int) ≤ (k : Int) := by omega
  have hi1 : (k : Int) < (m : Int) := by omega
  have hi2 : (k : Int) ≤ (m : Int) := by omega
  have hi3 : (k : Int) ≤ (c2 : Int) := by omega
  have hi4 : k ≤ c2 := by omega
  clear h1 h2 hu hv
  go_enter Try.func71, Try.ntmps71
  go_wp2
  refine wp_region_call_tail 9 (by kernel_rfl) (by kernel_rfl) ?_
  simp only [List.take_succ_cons, List.take_zero, List.drop_succ_cons, List.drop_zero]
  repeat (with_reducible refine wpC_quiet (fun K hK => ?_); go_simp; refine hK _ ?_; clear hK K)
  refine wpC_call (f := 68) (args := #[.slice a n c, .slice (some ⟨bs, os, none⟩) k c2]) ?_ ?_ ?_
  · rfl
  · intro w9; go_simp
  intro w1 E1
  refine (pred_any a (some ⟨bs, os, none⟩) n k c c2 us zs w1 (Holds.ext HU.out E1) (hold_take (Holds.ext HV.out E1) (by omega)) (by rw [HV.out.1]; omega) hn (by omega)).mono ?_
  rintro e w2 ⟨r, rfl, hr, E2⟩
  refine ⟨_, rfl, Ext.trans E1 E2, ?_⟩
  intro w3 E3
  go_wp2_with (first | (refine wpList_fa rfl rfl rfl rfl rfl (is_self .f32 x) hr ?_; intro r2 m2 hr2 hrw2))
  go_ret
  exact ⟨_, rfl, by rw [HC.out]; exact Is.out hr2, Ext.drewN E3 _⟩

end Go.Proofs.Ytofhemganefhcab

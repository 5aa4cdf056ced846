/- Two sounds together. -/
import Derived.Test.YtkmgkcbbbaioiaaV5
import Derived.Test.YtkmgkcbbbaioiaaV1
import Derived.Test.YtkmgkcbbbaioiaaTail2
import Derived.Test.YtkmgkcbbbaioiaaMany
namespace Go.Proofs.Ytkmgkcbbbaioiaa
open Go.RowKit Flt
set_option linter.unusedVariables false

theorem ListIs.base {w : World} {B B' : Nat} {R : List (Option Nat)} {v : Value} (h : ListIs w B R v) (e : B' ≤ B) : ListIs w B' R v := by
  obtain ⟨a, c, zs, h1, h2, h3⟩ := h
  exact ⟨a, c, zs, h1, Own.base h2 e, h3⟩
def mixsC (x y : Option Nat) (us vs : List Nat) (k : Nat) : Option Nat := fop .add .f32 (fop .mul .f32 x (cls .f32 (us.getD k 0))) (fop .mul .f32 y (cls .f32 (vs.getD k 0)))
def mixsR (x y : Option Nat) (us vs : List Nat) : List (Option Nat) × Bool := if soundB (us.map (cls .f32)) && (soundB (vs.map (cls .f32)) && (decide (us.length = vs.length) && (fin32 x && fin32 y))) then soundR (mixsC x y us vs) us.length else ([], false)
theorem sound_len {cs : List (Option Nat)} (h : soundB cs = true) : cs.length ≤ 256 := by
  unfold soundB at h; simp at h; exact h.1
theorem mixs_len (x y : Option Nat) (us vs : List Nat) : (mixsR x y us vs).1.length ≤ 256 := by
  unfold mixsR
  split
  · rename_i h
    simp at h
    have h1 := sound_len h.1
    have := soundR_len (mixsC x y us vs) us.length
    simp at h1
    omega
  · exact Nat.zero_le _
theorem cell_at {w wr : World} {a : Option Addr} {n : Nat} {zs : List Nat} (h : Holds .f32 w a n zs) (e : Ext w wr) (k : Nat) (hk : k < n) : ∃ b off, a = some ⟨b, off, none⟩ ∧ wr.cell? ⟨b, off + k, none⟩ = some (.float .f32 (zs.getD k 0)) := by
  rcases h.2 with h0 | ⟨b, off, rfl, hb, hc⟩
  · omega
  · exact ⟨b, off, rfl, (Below.cell e (p := ⟨b, off + k, none⟩) hb).trans (hc k hk)⟩
set_option maxHeartbeats 1000000 in
set_option maxRecDepth 100000 in
theorem mixs_clo (k b1 b2 b3 b4 x y n c1 c2 : Nat) (a1 a2 : Option Addr) (us vs : List Nat) (w : World) (hk : k < n) (hn : n ≤ 1048576) (h1 : Box w b1 #[.float .f32 x]) (h2 : Box w b2 #[.slice a1 n c1]) (h3 : Box w b3 #[.float .f32 y]) (h4 : Box w b4 #[.slice a2 n c2])
    (hu : Holds .f32 w a1 n us) (hv : Holds .f32 w a2 n vs) :
    Calls Try.prog 61 #[.int .i64 (k : Int), .pointer (some ⟨b1, 0, none⟩), .pointer (some ⟨b2, 0, none⟩), .pointer (some ⟨b3, 0, none⟩), .pointer (some ⟨b4, 0, none⟩)] w fun e w' => ∃ r, e = .returned (.float .f32 r) ∧ cls .f32 r = mixsC (cls .f32 x) (cls .f32 y) us vs k ∧ Ext w w' := by
  obtain ⟨c1', l1⟩ := Box.cells1 h1
  obtain ⟨c2', l2⟩ := Box.cells1 h2
  obtain ⟨c3', l3⟩ := Box.cells1 h3
  obtain ⟨c4', l4⟩ := Box.cells1 h4
  obtain ⟨p, o, rfl, e1⟩ := cell_at hu (Ext.refl _) k hk
  obtain ⟨p2, o2, rfl, e2⟩ := cell_at hv (Ext.refl _) k hk
  unfold mixsC
  generalize us.getD k 0 = u at e1
  generalize vs.getD k 0 = v at e2
  have hi0 : (0 : Int) ≤ (k : Int) := by omega
  have hi1 : (k : Int) < (n : Int) := by omega
  clear h1 h2 h3 h4 hu hv
  go_enter Try.func61, Try.ntmps61
  go_wp2
  refine wp_region_many (by kernel_rfl) (by kernel_rfl) (by kernel_rfl) ?_
  repeat (with_reducible refine wpM_cons ?_; first
    | (refine wpM_fa rfl rfl rfl rfl rfl (by first | assumption | exact is_self _ _) (by first | assumption | exact is_self _ _) ?_; intro r hr hrw)
    | (refine wpM_quiet rfl (fun K hK => ?_); go_simp; refine hK _ ?_; clear hK K))
  with_reducible refine wpM_nil ?_
  intro _ hw'
  obtain ⟨nq, hw''⟩ := hw'
  subst hw''
  go_wp2
  go_ret
  exact ⟨_, rfl, Is.out (by assumption), Ext.drewN (Ext.refl _) _⟩
end Go.Proofs.Ytkmgkcbbbaioiaa

/- Reflections. -/
import Derived.Test.YtofhemganefhcaaT9
import Derived.Test.YtofhemganefhcaaT19
import Derived.Test.YtofhemganefhcaaQuo
import Derived.Test.YtofhemganefhcaaTail2
namespace Go.Proofs.Ytofhemganefhcaa
open Go.RowKit Flt
set_option linter.unusedVariables false

def reflQ (a b : Option Nat) : Option Nat := fop .quo .f32 (fop .sub .f32 a b) (fop .add .f32 a b)
def reflK (xs : List Nat) (k : Nat) : List (Option Nat) := (List.range k).map fun q => reflQ (cls .f32 (xs.getD q 0)) (cls .f32 (xs.getD (q + 1) 0))
theorem refl_snoc (xs : List Nat) (k : Nat) : reflK xs (k + 1) = reflK xs k ++ [reflQ (cls .f32 (xs.getD k 0)) (cls .f32 (xs.getD (k + 1) 0))] := by simp [reflK, List.range_succ]
theorem refl_klen (xs : List Nat) (k : Nat) : (reflK xs k).length = k := by simp [reflK]
def reflR (zs : List Nat) (l t p : Option Nat) : List (Option Nat) × Bool := if tubeC (zs.map (cls .f32)) l t p then (reflK zs (zs.length - 1), true) else ([], false)
theorem refl_len {zs : List Nat} {l t p : Option Nat} : (reflR zs l t p).1.length ≤ 16 := by
  unfold reflR
  split
  · rename_i h
    have := (tube_len h).2
    simp at this
    simp [refl_klen]; omega
  · exact Nat.zero_le _
theorem areas_at {zs : List Nat} {l t p : Option Nat} (h : tubeC (zs.map (cls .f32)) l t p = true) (q : Nat) (hq : q < zs.length) : fcmp .gtr (ford .f32 (cls .f32 (zs.getD q 0)) (some 0)) = true ∧ fin32 (cls .f32 (zs.getD q 0)) = true := by
  unfold tubeC areasC at h
  simp only [Bool.and_eq_true] at h
  have h2 := List.all_eq_true.1 h.1.2.2 (cls .f32 (zs.getD q 0)) (by
    simp only [List.mem_map]
    exact ⟨zs.getD q 0, by simp [List.getD, hq], rfl⟩)
  unfold areaC at h2
  simpa using h2
theorem refl_fins {zs : List Nat} {l t p : Option Nat} (h : tubeC (zs.map (cls .f32)) l t p = true) : finsC (reflK zs (zs.length - 1)) = true := by
  unfold finsC reflK
  rw [List.all_eq_true]
  intro x hx
  rw [List.mem_map] at hx
  obtain ⟨q, hq, rfl⟩ := hx
  have hq' : q < zs.length - 1 := by simpa using hq
  have a := areas_at h q (by omega)
  have b := areas_at h (q + 1) (by omega)
  exact refl_fin _ _ a.1 a.2 b.1 b.2
theorem own_snoc20 {w : World} {B k : Nat} {v : Value} {ys : List Nat} {r : Nat} (h : w.ownsRow B 23 1 v (k + 1) (ys.map (Value.float .f32) ++ [.float .f32 r])) : Own w B (k + 1) v (ys ++ [r]) := by
  unfold Own; simpa using h
theorem l02List_good (a : Option Addr) (n c : Nat) (zs : List Nat) (w : World) (h : Holds .f32 w a n zs) (hn : n ≤ 1048576) (hV : finsC (zs.map (cls .f32)) = true) :
    Calls Try.prog 65 #[.slice a n c] w fun e w' => e = .returned (.tuple #[.slice a n c, .bool true]) ∧ Ext w w' := by
  obtain ⟨hl, hc⟩ := h
  have HL := hid hl
  have HV := hid hV
  have HC : Hid (∀ k, k < n → ∃ b off, a = some ⟨b, off, none⟩ ∧ w.cell? ⟨b, off + k, none⟩ = some (.float .f32 (zs.getD k 0))) := by
    intro k hk
    rcases hc with h0 | ⟨b, off, rfl, hb, hc⟩
    · omega
    · exact ⟨b, off, rfl, hc k hk⟩
  clear hc hl hV
  go_enter Try.func65, Try.ntmps65
  go_wp2
  go_loopw [4] (fun i wr => ∃ k : Nat, k ≤ n ∧ i = .int .i64 k ∧ Hid (∀ q, q < k → fin32 (cls .f32 (zs.getD q 0)) = true) ∧ Hid (∃ m, wr = w.drewN m)) (fun i _ => n - (intOf i).toNat)
  case atStart => exact ⟨0, Nat.zero_le _, rfl, hid (fun q hq => by omega), 0, rfl⟩
  case round =>
    obtain ⟨k, hk, rfl, hr, hw⟩ := hrel
    by_cases hlt : k < n
    · obtain ⟨b, off, rfl, e0⟩ := HC.out k hlt
      have e1 : wr.cell? ⟨b, off + k, none⟩ = some (.float .f32 (zs.getD k 0)) := by obtain ⟨m, hm⟩ := hw.out; rw [hm]; exact e0
      clear e0
      have hi0 : (0 : Int) ≤ (k : Int) := by omega
      have hi1 : (k : Int) < (n : Int) := by omega
      cases ha : fin32 (cls .f32 (zs.getD k 0))
      · exfalso
        have HB := show finsC (zs.map (cls .f32)) = false from all_bad (by rw [HL.out]; exact hlt) ha
        rw [HV.out] at HB
        cases HB
      · have HG := hid (upto_succ (P := fun q => fin32 (cls .f32 (zs.getD q 0)) = true) hr.out ha)
        generalize zs.getD k 0 = x at e1 ha
        go_wp2_with (go_at_call 69; refine (l01Finite_any _ _).mono ?_; rintro e w' ⟨rfl, m, rfl⟩; simp only [ha])
        go_roundw
        case rel => exact ⟨k + 1, by omega, by go_num, HG, by obtain ⟨m2, hm⟩ := hw.out; exact ⟨m2 + m, by rw [hm, World.drewN_drewN]⟩⟩
        case measure => simp [intOf]; omega
    · have hkn : k = n := by omega
      subst hkn
      go_wp2
      go_ret2
      obtain ⟨m2, hm⟩ := hw.out
      refine ⟨rfl, ?_⟩
      rw [hm]
      exact Ext.drewN (Ext.refl _) _
theorem l02List_bad (a : Option Addr) (n c : Nat) (zs : List Nat) (w : World) (h : Holds .f32 w a n zs) (hn : n ≤ 1048576) (hV : finsC (zs.map (cls .f32)) = false) :
    Calls Try.prog 65 #[.slice a n c] w fun e w' => e = .returned (.tuple #[.slice none 0 0, .bool false]) ∧ Ext w w' := by
  obtain ⟨hl, hc⟩ := h
  have HL := hid hl
  have HV := hid hV
  have HC : Hid (∀ k, k < n → ∃ b off, a = some ⟨b, off, none⟩ ∧ w.cell? ⟨b, off + k, none⟩ = some (.float .f32 (zs.getD k 0))) := by
    intro k hk
    rcases hc with h0 | ⟨b, off, rfl, hb, hc⟩
    · omega
    · exact ⟨b, off, rfl, hc k hk⟩
  clear hc hl hV
  go_enter Try.func65, Try.ntmps65
  go_wp2
  go_loopw [4] (fun i wr => ∃ k : Nat, k ≤ n ∧ i = .int .i64 k ∧ Hid (∀ q, q < k → fin32 (cls .f32 (zs.getD q 0)) = true) ∧ Hid (∃ m, wr = w.drewN m)) (fun i _ => n - (intOf i).toNat)
  case atStart => exact ⟨0, Nat.zero_le _, rfl, hid (fun q hq => by omega), 0, rfl⟩
  case round =>
    obtain ⟨k, hk, rfl, hr, hw⟩ := hrel
    by_cases hlt : k < n
    · obtain ⟨b, off, rfl, e0⟩ := HC.out k hlt
      have e1 : wr.cell? ⟨b, off + k, none⟩ = some (.float .f32 (zs.getD k 0)) := by obtain ⟨m, hm⟩ := hw.out; rw [hm]; exact e0
      clear e0
      have hi0 : (0 : Int) ≤ (k : Int) := by omega
      have hi1 : (k : Int) < (n : Int) := by omega
      cases ha : fin32 (cls .f32 (zs.getD k 0))
      · generalize zs.getD k 0 = x at e1 ha
        go_wp2_with (go_at_call 69; refine (l01Finite_any _ _).mono ?_; rintro e w' ⟨rfl, m, rfl⟩; simp only [ha])
        go_ret2
        obtain ⟨m2, hm⟩ := hw.out
        refine ⟨rfl, ?_⟩
        rw [hm]
        exact Ext.drewN (Ext.drewN (Ext.refl _) _) _
      · have HG := hid (upto_succ (P := fun q => fin32 (cls .f32 (zs.getD q 0)) = true) hr.out ha)
        generalize zs.getD k 0 = x at e1 ha
        go_wp2_with (go_at_call 69; refine (l01Finite_any _ _).mono ?_; rintro e w' ⟨rfl, m, rfl⟩; simp only [ha])
        go_roundw
        case rel => exact ⟨k + 1, by omega, by go_num, HG, by obtain ⟨m2, hm⟩ := hw.out; exact ⟨m2 + m, by rw [hm, World.drewN_drewN]⟩⟩
        case measure => simp [intOf]; omega
    · have hkn : k = n := by omega
      subst hkn
      exfalso
      have HG := show finsC (zs.map (cls .f32)) = true from all_good (fun j hj => hr.out j (by rw [HL.out] at hj; exact hj))
      rw [HV.out] at HG
      cases HG
end Go.Proofs.Ytofhemganefhcaa

/- Valid tubes. -/
import Derived.Test.YthinjgiakaflpabT1
namespace Go.Proofs.Ythinjgiakaflpab
open Go.RowKit Flt

/-- an area; an end; a loss; areas; a tube, told by the classes of its numbers -/
def areaC (x : Option Nat) : Bool := fcmp .gtr (ford .f32 x (some 0)) && fin32 x
def endC (x : Option Nat) : Bool := fcmp .geq (ford .f32 x (some 3212836864)) && fcmp .leq (ford .f32 x (some 1065353216))
def lossC (x : Option Nat) : Bool := fcmp .gtr (ford .f32 x (some 0)) && fcmp .leq (ford .f32 x (some 1065353216))
def shareC (x : Option Nat) : Bool := fcmp .geq (ford .f32 x (some 0)) && fcmp .leq (ford .f32 x (some 1065353216))
def areasC (cs : List (Option Nat)) : Bool := decide (1 ≤ cs.length) && (decide (cs.length ≤ 16) && cs.all areaC)
def finsC (cs : List (Option Nat)) : Bool := cs.all fin32
def tubeC (cs : List (Option Nat)) (l t p : Option Nat) : Bool := areasC cs && (lossC l && (endC t && endC p))

theorem upto_succ {P : Nat → Prop} {k : Nat} (h : ∀ q, q < k → P q) (hk : P k) : ∀ q, q < k + 1 → P q := fun q hq => by
  rcases Nat.lt_or_eq_of_le (Nat.le_of_lt_succ hq) with h1 | h1
  · exact h q h1
  · subst h1; exact hk
theorem all_bad {f : Option Nat → Bool} {zs : List Nat} {j : Nat} (hj : j < zs.length) (h : f (cls .f32 (zs.getD j 0)) = false) : (zs.map (cls .f32)).all f = false := by
  rw [List.all_eq_false]
  refine ⟨cls .f32 (zs.getD j 0), ?_, by rw [h]; decide⟩
  rw [List.mem_map]
  refine ⟨zs.getD j 0, ?_, rfl⟩
  simp [List.getD, hj]
theorem all_good {f : Option Nat → Bool} {zs : List Nat} (h : ∀ j, j < zs.length → f (cls .f32 (zs.getD j 0)) = true) : (zs.map (cls .f32)).all f = true := by
  rw [List.all_eq_true]
  intro x hx
  rw [List.mem_map] at hx
  obtain ⟨z, hz, rfl⟩ := hx
  obtain ⟨i, hi, rfl⟩ := List.mem_iff_getElem.1 hz
  have := h i hi
  simpa [List.getD, hi] using this
theorem areas_bad {zs : List Nat} {j : Nat} (hj : j < zs.length) (h : areaC (cls .f32 (zs.getD j 0)) = false) : areasC (zs.map (cls .f32)) = false := by
  unfold areasC; rw [all_bad hj h]; simp
theorem areas_good {zs : List Nat} (h1 : 1 ≤ zs.length) (h2 : zs.length ≤ 16) (h : ∀ j, j < zs.length → areaC (cls .f32 (zs.getD j 0)) = true) : areasC (zs.map (cls .f32)) = true := by
  unfold areasC; rw [all_good h]; simp [h1, h2]
theorem areas_len {cs : List (Option Nat)} (h : areasC cs = true) : 1 ≤ cs.length ∧ cs.length ≤ 16 := by
  unfold areasC at h
  simp at h
  exact ⟨by omega, by omega⟩

theorem isArea_any (b : Nat) (w : World) : Calls Try.prog 165 #[.float .f32 b] w fun e w' => e = .returned (.bool (areaC (cls .f32 b))) ∧ ∃ m, w' = w.drewN m := by
  unfold areaC
  cases h1 : fcmp .gtr (ford .f32 (cls .f32 b) (some 0))
  all_goals
    go_enter Try.func165, Try.ntmps165
    go_wp2_with (first | (refine wpList_fcmp rfl rfl rfl rfl rfl (by first | exact is_const (by decide) | exact is_self _ _) (by first | exact is_const (by decide) | exact is_self _ _) ?_; try simp only [h1]) | (go_at_call 104; refine (isFinite_any _ _).mono ?_; rintro e w' ⟨rfl, m, rfl⟩))
    go_ret
  · exact ⟨rfl, 0, rfl⟩
  · exact ⟨rfl, _, rfl⟩
theorem l02Above_any (b : Nat) (w : World) : Calls Try.prog 117 #[.float .f32 b] w fun e w' => e = .returned (.bool (areaC (cls .f32 b))) ∧ ∃ m, w' = w.drewN m := by
  unfold areaC
  cases h2 : fin32 (cls .f32 b) <;> cases h1 : fcmp .gtr (ford .f32 (cls .f32 b) (some 0))
  all_goals
    go_enter Try.func117, Try.ntmps117
    go_wp2_with (first | (refine wpList_fcmp rfl rfl rfl rfl rfl (by first | exact is_const (by decide) | exact is_self _ _) (by first | exact is_const (by decide) | exact is_self _ _) ?_; try simp only [h1]) | (go_at_call 101; refine (l01Finite_any _ _).mono ?_; rintro e w' ⟨rfl, m, rfl⟩))
    go_ret
    exact ⟨rfl, _, rfl⟩

theorem l02Share_any (b : Nat) (w : World) : Calls Try.prog 129 #[.float .f32 b] w fun e w' => e = .returned (.bool (shareC (cls .f32 b))) ∧ w = w' := by
  unfold shareC
  cases h1 : fcmp .geq (ford .f32 (cls .f32 b) (some 0)) <;> cases h2 : fcmp .leq (ford .f32 (cls .f32 b) (some 1065353216))
  all_goals
    go_enter Try.func129, Try.ntmps129
    go_wp2_with (refine wpList_fcmp rfl rfl rfl rfl rfl (by first | exact is_const (by decide) | exact is_self _ _) (by first | exact is_const (by decide) | exact is_self _ _) ?_; try simp only [h1, h2])
    go_ret
    exact ⟨rfl, rfl⟩

theorem areAreas_any (a : Option Addr) (n c : Nat) (zs : List Nat) (w : World) (h : Holds .f32 w a n zs) (hn : n ≤ 1048576) :
    Calls Try.prog 141 #[.slice a n c] w fun e w' => e = .returned (.bool (areasC (zs.map (cls .f32)))) ∧ ∃ m, w' = w.drewN m := by
  obtain ⟨hl, hc⟩ := h
  by_cases h1 : n < 1
  · have HZ := hid (show areasC (zs.map (cls .f32)) = false from by unfold areasC; simp; omega)
    clear hc hl
    go_enter Try.func141, Try.ntmps141
    go_wp2
    go_ret
    exact ⟨by rw [HZ.out]; exact ret_bool (by first | (simp; done) | (simp; omega)), 0, rfl⟩
  by_cases h2 : 16 < n
  · have HZ := hid (show areasC (zs.map (cls .f32)) = false from by unfold areasC; simp; omega)
    clear hc hl
    go_enter Try.func141, Try.ntmps141
    go_wp2
    go_ret
    exact ⟨by rw [HZ.out]; exact ret_bool (by first | (simp; done) | (simp; omega)), 0, rfl⟩
  rcases hc with h0 | ⟨b, off, rfl, hb, hc⟩
  · omega
  have HC := hid hc
  have HL := hid hl
  clear hc hl
  go_enter Try.func141, Try.ntmps141
  go_wp2
  go_loopw [15] (fun i wr => ∃ k : Nat, k ≤ n ∧ i = .int .i64 k ∧ Hid (∀ q, q < k → areaC (cls .f32 (zs.getD q 0)) = true) ∧ Hid (∃ m, wr = w.drewN m)) (fun i _ => n - (intOf i).toNat)
  case atStart => exact ⟨0, Nat.zero_le _, rfl, hid (fun q hq => by omega), 0, rfl⟩
  case round =>
    obtain ⟨k, hk, rfl, hr, hw⟩ := hrel
    by_cases hlt : k < n
    · have e1 : wr.cell? ⟨b, off + k, none⟩ = some (.float .f32 (zs.getD k 0)) := by obtain ⟨m, hm⟩ := hw.out; rw [hm]; exact HC.out k hlt
      cases ha : areaC (cls .f32 (zs.getD k 0))
      · have HB := hid (areas_bad (by rw [HL.out]; exact hlt) ha)
        generalize zs.getD k 0 = x at e1 ha
        go_wp2_with (go_at_call 165; refine (isArea_any _ _).mono ?_; rintro e w' ⟨rfl, m, rfl⟩; simp only [ha])
        go_ret
        exact ⟨by rw [HB.out]; rfl, by obtain ⟨m2, hm⟩ := hw.out; exact ⟨m2 + m, by rw [hm, World.drewN_drewN]⟩⟩
      · have HG := hid (upto_succ (P := fun q => areaC (cls .f32 (zs.getD q 0)) = true) hr.out ha)
        generalize zs.getD k 0 = x at e1 ha
        go_wp2_with (go_at_call 165; refine (isArea_any _ _).mono ?_; rintro e w' ⟨rfl, m, rfl⟩; simp only [ha])
        go_roundw
        case rel => exact ⟨k + 1, by omega, by go_num, HG, by obtain ⟨m2, hm⟩ := hw.out; exact ⟨m2 + m, by rw [hm, World.drewN_drewN]⟩⟩
        case measure => simp [intOf]; omega
    · have hkn : k = n := by omega
      subst hkn
      have HG := hid (areas_good (by rw [HL.out]; omega) (by rw [HL.out]; omega) (fun j hj => hr.out j (by rw [HL.out] at hj; exact hj)))
      go_wp2
      go_ret
      exact ⟨by rw [HG.out]; exact ret_bool (by simp; try omega), hw.out⟩
theorem l02Areas_any (a : Option Addr) (n c : Nat) (zs : List Nat) (w : World) (h : Holds .f32 w a n zs) (hn : n ≤ 1048576) :
    Calls Try.prog 136 #[.slice a n c] w fun e w' => e = .returned (.bool (areasC (zs.map (cls .f32)))) ∧ ∃ m, w' = w.drewN m := by
  obtain ⟨hl, hc⟩ := h
  by_cases h1 : n < 1
  · have HZ := hid (show areasC (zs.map (cls .f32)) = false from by unfold areasC; simp; omega)
    clear hc hl
    go_enter Try.func136, Try.ntmps136
    go_wp2
    refine wp_loop_rounds 1 ?_
    rw [rounds_succ]
    go_wp2
    go_ret
    exact ⟨by rw [HZ.out]; exact ret_bool (by first | (simp; done) | (simp; omega)), 0, rfl⟩
  by_cases h2 : 16 < n
  · have HZ := hid (show areasC (zs.map (cls .f32)) = false from by unfold areasC; simp; omega)
    clear hc hl
    go_enter Try.func136, Try.ntmps136
    go_wp2
    refine wp_loop_rounds 1 ?_
    rw [rounds_succ]
    go_wp2
    go_ret
    exact ⟨by rw [HZ.out]; exact ret_bool (by first | (simp; done) | (simp; omega)), 0, rfl⟩
  rcases hc with h0 | ⟨b, off, rfl, hb, hc⟩
  · omega
  have HC := hid hc
  have HL := hid hl
  clear hc hl
  go_enter Try.func136, Try.ntmps136
  go_wp2
  go_loopw [3] (fun i wr => ∃ k : Nat, k ≤ n ∧ i = .int .i64 k ∧ Hid (∀ q, q < k → areaC (cls .f32 (zs.getD q 0)) = true) ∧ Hid (∃ m, wr = w.drewN m)) (fun i _ => n - (intOf i).toNat)
  case atStart => exact ⟨0, Nat.zero_le _, rfl, hid (fun q hq => by omega), 0, rfl⟩
  case round =>
    obtain ⟨k, hk, rfl, hr, hw⟩ := hrel
    by_cases hlt : k < n
    · have e1 : wr.cell? ⟨b, off + k, none⟩ = some (.float .f32 (zs.getD k 0)) := by obtain ⟨m, hm⟩ := hw.out; rw [hm]; exact HC.out k hlt
      cases ha : areaC (cls .f32 (zs.getD k 0))
      · have HB := hid (areas_bad (by rw [HL.out]; exact hlt) ha)
        generalize zs.getD k 0 = x at e1 ha
        go_wp2_with (go_at_call 117; refine (l02Above_any _ _).mono ?_; rintro e w' ⟨rfl, m, rfl⟩; simp only [ha])
        go_ret
        exact ⟨by rw [HB.out]; rfl, by obtain ⟨m2, hm⟩ := hw.out; exact ⟨m2 + m, by rw [hm, World.drewN_drewN]⟩⟩
      · have HG := hid (upto_succ (P := fun q => areaC (cls .f32 (zs.getD q 0)) = true) hr.out ha)
        generalize zs.getD k 0 = x at e1 ha
        go_wp2_with (go_at_call 117; refine (l02Above_any _ _).mono ?_; rintro e w' ⟨rfl, m, rfl⟩; simp only [ha])
        go_roundw
        case rel => exact ⟨k + 1, by omega, by go_num, HG, by obtain ⟨m2, hm⟩ := hw.out; exact ⟨m2 + m, by rw [hm, World.drewN_drewN]⟩⟩
        case measure => simp [intOf]; omega
    · have hkn : k = n := by omega
      subst hkn
      have HG := hid (areas_good (by rw [HL.out]; omega) (by rw [HL.out]; omega) (fun j hj => hr.out j (by rw [HL.out] at hj; exact hj)))
      go_wp2
      go_ret
      exact ⟨by rw [HG.out]; exact ret_bool (by simp; try omega), hw.out⟩

end Go.Proofs.Ythinjgiakaflpab

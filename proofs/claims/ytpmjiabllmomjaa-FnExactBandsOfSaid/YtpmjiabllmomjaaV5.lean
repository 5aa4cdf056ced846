/- Sounds: lists whose numbers are finite; lists told number by number. -/
import Derived.Test.YtpmjiabllmomjaaT15
import Derived.Test.YtpmjiabllmomjaaT20
import Derived.Test.YtpmjiabllmomjaaV2
import Derived.Deep.AppendLies
namespace Go.Proofs.Ytpmjiabllmomjaa
open Go.RowKit Flt
set_option linter.unusedVariables false

theorem areFinite_is (a : Option Addr) (n c : Nat) (zs : List Nat) (V : Bool) (w : World) (h : Holds .f32 w a n zs) (hn : n ≤ 1048576) (hV : finsC (zs.map (cls .f32)) = V) :
    Calls Try.prog 82 #[.slice a n c] w fun e w' => e = .returned (.bool V) ∧ Ext w w' := by
  refine (areFinite_any _ _ _ zs _ h hn).mono ?_
  rintro e w' ⟨rfl, m, rfl⟩
  rw [hV]
  exact ⟨rfl, Ext.drewN (Ext.refl _) _⟩
theorem areFinite_drew (a : Option Addr) (n c : Nat) (zs : List Nat) (V : Bool) (w : World) (h : Holds .f32 w a n zs) (hn : n ≤ 1048576) (hV : finsC (zs.map (cls .f32)) = V) :
    Calls Try.prog 82 #[.slice a n c] w fun e w' => e = .returned (.bool V) ∧ ∃ m, w' = w.drewN m := by
  refine (areFinite_any _ _ _ zs _ h hn).mono ?_
  rintro e w' ⟨rfl, m, rfl⟩
  rw [hV]
  exact ⟨rfl, m, rfl⟩
theorem l03Finite_drew (a : Option Addr) (n c : Nat) (zs : List Nat) (V : Bool) (w : World) (h : Holds .f32 w a n zs) (hn : n ≤ 1048576) (hV : finsC (zs.map (cls .f32)) = V) :
    Calls Try.prog 81 #[.slice a n c] w fun e w' => e = .returned (.bool V) ∧ ∃ m, w' = w.drewN m := by
  obtain ⟨hl, hc⟩ := h
  have HL := hid hl
  have HV := hid hV
  have HC : Hid (∀ k, k < n → ∃ b off, a = some ⟨b, off, none⟩ ∧ w.cell? ⟨b, off + k, none⟩ = some (.float .f32 (zs.getD k 0))) := by
    intro k hk
    rcases hc with h0 | ⟨b, off, rfl, hb, hc⟩
    · omega
    · exact ⟨b, off, rfl, hc k hk⟩
  clear hc hl hV
  go_enter Try.func81, Try.ntmps81
  go_wp2
  go_loopw [6] (fun i wr => ∃ k : Nat, k ≤ n ∧ i = .int .i64 k ∧ Hid (∀ q, q < k → fin32 (cls .f32 (zs.getD q 0)) = true) ∧ Hid (∃ m, wr = w.drewN m)) (fun i _ => n - (intOf i).toNat)
  case atStart => exact ⟨0, Nat.zero_le _, rfl, hid (fun q hq => by omega), 0, rfl⟩
  case round =>
    obtain ⟨k, hk, rfl, hr, hw⟩ := hrel
    by_cases hlt : k < n
    · obtain ⟨b, off, rfl, e0⟩ := HC.out k hlt
      have e1 : wr.cell? ⟨b, off + k, none⟩ = some (.float .f32 (zs.getD k 0)) := by obtain ⟨m, hm⟩ := hw.out; rw [hm]; exact e0
      clear e0
      have hi0 : (0 : Int) ≤ (k : Int) := by omega
      have hi1 : (k : Int) < (n : Int) := by omega
      cases ha : fin32 (cls .f32 (zs.getD k 0))
      · have HB := hid (show finsC (zs.map (cls .f32)) = false from all_bad (by rw [HL.out]; exact hlt) ha)
        generalize zs.getD k 0 = x at e1 ha
        go_wp2_with (go_at_call 57; refine (l01Finite_any _ _).mono ?_; rintro e w' ⟨rfl, m, rfl⟩; simp only [ha])
        go_ret
        obtain ⟨m2, hm⟩ := hw.out
        exact ⟨by rw [← HV.out, HB.out]; rfl, m2 + m, by rw [hm, World.drewN_drewN]⟩
      · have HG := hid (upto_succ (P := fun q => fin32 (cls .f32 (zs.getD q 0)) = true) hr.out ha)
        generalize zs.getD k 0 = x at e1 ha
        go_wp2_with (go_at_call 57; refine (l01Finite_any _ _).mono ?_; rintro e w' ⟨rfl, m, rfl⟩; simp only [ha])
        go_roundw
        case rel => exact ⟨k + 1, by omega, by go_num, HG, by obtain ⟨m2, hm⟩ := hw.out; exact ⟨m2 + m, by rw [hm, World.drewN_drewN]⟩⟩
        case measure => simp [intOf]; omega
    · have hkn : k = n := by omega
      subst hkn
      have HG := hid (show finsC (zs.map (cls .f32)) = true from all_good (fun j hj => hr.out j (by rw [HL.out] at hj; exact hj)))
      go_wp2
      go_ret
      obtain ⟨m2, hm⟩ := hw.out
      exact ⟨by rw [← HV.out, HG.out]; rfl, m2, hm⟩
theorem l03Finite_is (a : Option Addr) (n c : Nat) (zs : List Nat) (V : Bool) (w : World) (h : Holds .f32 w a n zs) (hn : n ≤ 1048576) (hV : finsC (zs.map (cls .f32)) = V) :
    Calls Try.prog 81 #[.slice a n c] w fun e w' => e = .returned (.bool V) ∧ Ext w w' := by
  refine (l03Finite_drew _ _ _ zs V _ h hn hV).mono ?_
  rintro e w' ⟨rfl, m, rfl⟩
  exact ⟨rfl, Ext.drewN (Ext.refl _) _⟩
def soundB (cs : List (Option Nat)) : Bool := decide (cs.length ≤ 256) && finsC cs
theorem isSound_drew (a : Option Addr) (n c : Nat) (zs : List Nat) (V : Bool) (w : World) (h : Holds .f32 w a n zs) (hn : n ≤ 1048576) (hV : soundB (zs.map (cls .f32)) = V) :
    Calls Try.prog 55 #[.slice a n c] w fun e w' => e = .returned (.bool V) ∧ ∃ m, w' = w.drewN m := by
  have HH := hid h
  have HN := hid hn
  have hl := h.1
  by_cases h1 : n ≤ 256
  · have e : finsC (zs.map (cls .f32)) = V := by rw [← hV]; simp [soundB, hl, h1]
    have HE := hid e
    clear h hn hl hV e
    go_enter Try.func55, Try.ntmps55
    go_wp2_with fail
    refine (areFinite_drew _ _ _ zs V _ HH.out HN.out HE.out).mono ?_
    rintro e w1 ⟨rfl, m1, rfl⟩
    go_wp2
    go_ret
    exact ⟨rfl, m1, rfl⟩
  · have e : V = false := by rw [← hV]; simp [soundB, hl, h1]
    subst e
    clear h hn hl hV
    go_enter Try.func55, Try.ntmps55
    go_wp2_with fail
    go_ret
    exact ⟨rfl, 0, rfl⟩
theorem isSound_is (a : Option Addr) (n c : Nat) (zs : List Nat) (V : Bool) (w : World) (h : Holds .f32 w a n zs) (hn : n ≤ 1048576) (hV : soundB (zs.map (cls .f32)) = V) :
    Calls Try.prog 55 #[.slice a n c] w fun e w' => e = .returned (.bool V) ∧ Ext w w' := by
  refine (isSound_drew _ _ _ zs V _ h hn hV).mono ?_
  rintro e w' ⟨rfl, m, rfl⟩
  exact ⟨rfl, Ext.drewN (Ext.refl _) _⟩
theorem l03Sound_drew (a : Option Addr) (n c : Nat) (zs : List Nat) (V : Bool) (w : World) (h : Holds .f32 w a n zs) (hn : n ≤ 1048576) (hV : soundB (zs.map (cls .f32)) = V) :
    Calls Try.prog 53 #[.slice a n c] w fun e w' => e = .returned (.bool V) ∧ ∃ m, w' = w.drewN m := by
  have HH := hid h
  have HN := hid hn
  have hl := h.1
  by_cases h1 : n ≤ 256
  · have e : finsC (zs.map (cls .f32)) = V := by rw [← hV]; simp [soundB, hl, h1]
    have HE := hid e
    clear h hn hl hV e
    go_enter Try.func53, Try.ntmps53
    go_wp2_with fail
    refine (l03Finite_drew _ _ _ zs V _ HH.out HN.out HE.out).mono ?_
    rintro e w1 ⟨rfl, m1, rfl⟩
    go_wp2
    go_ret
    exact ⟨rfl, m1, rfl⟩
  · have e : V = false := by rw [← hV]; simp [soundB, hl, h1]
    subst e
    clear h hn hl hV
    go_enter Try.func53, Try.ntmps53
    go_wp2_with fail
    go_ret
    exact ⟨rfl, 0, rfl⟩
theorem l03Sound_is (a : Option Addr) (n c : Nat) (zs : List Nat) (V : Bool) (w : World) (h : Holds .f32 w a n zs) (hn : n ≤ 1048576) (hV : soundB (zs.map (cls .f32)) = V) :
    Calls Try.prog 53 #[.slice a n c] w fun e w' => e = .returned (.bool V) ∧ Ext w w' := by
  refine (l03Sound_drew _ _ _ zs V _ h hn hV).mono ?_
  rintro e w' ⟨rfl, m, rfl⟩
  exact ⟨rfl, Ext.drewN (Ext.refl _) _⟩
/-- a list, if its numbers are finite -/
def finR2 (cs : List (Option Nat)) : List (Option Nat) × Bool := if finsC cs then (cs, true) else ([], false)
theorem finiteList_is (v : Value) (n B : Nat) (zs : List Nat) (R : List (Option Nat)) (O : Bool) (w : World) (h : Own w B n v zs) (hn : n ≤ 1048576) (hR : finR2 (zs.map (cls .f32)) = (R, O)) :
    Calls Try.prog 60 #[v] w fun e w' => ∃ u, e = .returned (.tuple #[u, .bool O]) ∧ ListIs w' B R u ∧ Ext w w' := by
  obtain ⟨a, c, rfl, hh, _⟩ := Own.holds h
  have HO := hid h
  have HH := hid hh
  have HN := hid hn
  cases hV : finsC (zs.map (cls .f32))
  · have e : O = false ∧ R = [] := by unfold finR2 at hR; rw [hV] at hR; simpa [eq_comm, and_comm] using hR
    obtain ⟨rfl, rfl⟩ := e
    have HV := hid hV
    clear h hh hn hR hV
    go_enter Try.func60, Try.ntmps60
    go_wp2_with fail
    refine (areFinite_is _ _ _ zs _ _ HH.out HN.out HV.out).mono ?_
    rintro e w1 ⟨rfl, E1⟩
    go_wp2
    go_ret2
    exact ⟨_, rfl, nil_is _ _, E1⟩
  · have e : O = true ∧ R = zs.map (cls .f32) := by unfold finR2 at hR; rw [hV] at hR; simpa [eq_comm, and_comm] using hR
    obtain ⟨rfl, rfl⟩ := e
    have HV := hid hV
    clear h hh hn hR hV
    go_enter Try.func60, Try.ntmps60
    go_wp2_with fail
    refine (areFinite_is _ _ _ zs _ _ HH.out HN.out HV.out).mono ?_
    rintro e w1 ⟨rfl, E1⟩
    go_wp2
    go_ret2
    exact ⟨_, rfl, list_is (Own.ext HO.out E1) rfl, E1⟩
theorem l03List_is (v : Value) (n B : Nat) (zs : List Nat) (R : List (Option Nat)) (O : Bool) (w : World) (h : Own w B n v zs) (hn : n ≤ 1048576) (hR : finR2 (zs.map (cls .f32)) = (R, O)) :
    Calls Try.prog 54 #[v] w fun e w' => ∃ u, e = .returned (.tuple #[u, .bool O]) ∧ ListIs w' B R u ∧ Ext w w' := by
  obtain ⟨a, c, rfl, hh, _⟩ := Own.holds h
  have HO := hid h
  have HH := hid hh
  have HN := hid hn
  cases hV : finsC (zs.map (cls .f32))
  · have e : O = false ∧ R = [] := by unfold finR2 at hR; rw [hV] at hR; simpa [eq_comm, and_comm] using hR
    obtain ⟨rfl, rfl⟩ := e
    have HV := hid hV
    clear h hh hn hR hV
    go_enter Try.func54, Try.ntmps54
    go_wp2_with fail
    refine (l03Finite_is _ _ _ zs _ _ HH.out HN.out HV.out).mono ?_
    rintro e w1 ⟨rfl, E1⟩
    go_wp2
    go_ret2
    exact ⟨_, rfl, nil_is _ _, E1⟩
  · have e : O = true ∧ R = zs.map (cls .f32) := by unfold finR2 at hR; rw [hV] at hR; simpa [eq_comm, and_comm] using hR
    obtain ⟨rfl, rfl⟩ := e
    have HV := hid hV
    clear h hh hn hR hV
    go_enter Try.func54, Try.ntmps54
    go_wp2_with fail
    refine (l03Finite_is _ _ _ zs _ _ HH.out HN.out HV.out).mono ?_
    rintro e w1 ⟨rfl, E1⟩
    go_wp2
    go_ret2
    exact ⟨_, rfl, list_is (Own.ext HO.out E1) rfl, E1⟩
/-- a list told number by number -/
def listK (C : Nat → Option Nat) (n : Nat) : List (Option Nat) := (List.range n).map C
theorem listK_succ (C : Nat → Option Nat) (n : Nat) : listK C (n + 1) = listK C n ++ [C n] := by simp [listK, List.range_succ]
theorem listK_len (C : Nat → Option Nat) (n : Nat) : (listK C n).length = n := by simp [listK]
def soundR (C : Nat → Option Nat) (n : Nat) : List (Option Nat) × Bool := finR2 (listK C n)
theorem soundR_len (C : Nat → Option Nat) (n : Nat) : (soundR C n).1.length ≤ n := by
  unfold soundR finR2
  split
  · simp [listK_len]
  · exact Nat.zero_le _
set_option maxHeartbeats 1000000 in
theorem soundOf_any (n : Nat) (fid : FuncId) (caps : Array Value) (C : Nat → Option Nat) (R : List (Option Nat)) (O : Bool) (w : World) (hn : n ≤ 1048576)
    (he : ∀ args w, (callFunc fid args).run Try.prog w = .ok (.enter fid args) w)
    (hf : ∀ k, k < n → ∀ wr, Ext w wr → Calls Try.prog fid (#[.int .i64 (k : Int)] ++ caps) wr fun e w' => ∃ r, e = .returned (.float .f32 r) ∧ cls .f32 r = C k ∧ Ext wr w') (hR : soundR C n = (R, O)) :
    Calls Try.prog 50 #[.int .i64 (n : Int), .func (.func fid) #[] caps] w fun e w' => ∃ v, e = .returned (.tuple #[v, .bool O]) ∧ ListIs w' w.heap.size R v ∧ Ext w w' := by
  obtain ⟨i0, hi, hz0, hz1, hz2⟩ := info_parts infoF
  have HI := hid (And.intro hi (And.intro hz0 (And.intro hz1 hz2)))
  have HF := hid hf
  have HN := hid hn
  have HR := hid hR
  have hmk : (Instr.makeSlice 22 (.int .i64 (0 : Int)) (.int .i64 (n : Int))).run Try.prog w = .ok (.slice (some ⟨w.heap.size, 0, none⟩) 0 n) (w.alloc (.cells (madeCells #[.float .f32 0] n) 33)) := by
    have := run_make (P := Try.prog) w 22 33 i0 (.float .f32 0) Try.underlying22 hi hz0 .i64 .i64 (0 : Int) (n : Int) (by omega) (by omega) (by rw [hz2]; omega) (by omega)
    rw [hz1] at this
    simpa [Value.cells] using this
  have HM := hid (size_madeCells #[.float .f32 0] n)
  have HO0 := hid (World.ownsRow_made (e := 33) (size := 1) (base := w.heap.size) w (madeCells #[.float .f32 0] n) n (Nat.le_refl _) (by unfold maxLen; omega) (by rw [HM.out]; omega))
  clear hi hz0 hz1 hz2 hf hR hn
  go_enter Try.func50, Try.ntmps50
  go_wp2
  go_loopw [6, 11] (fun v i wr => ∃ (k : Nat) (ys : List Nat), k ≤ n ∧ i = .int .i64 k ∧ Hid (Own wr w.heap.size k v ys) ∧ Hid (ys.map (cls .f32) = listK C k) ∧ Hid (Ext w wr)) (fun _ i _ => n - (intOf i).toNat)
  case atStart => exact ⟨0, [], Nat.zero_le _, rfl, hid HO0.out, rfl, hid (ext_alloc _ _)⟩
  case round =>
    obtain ⟨k, ys, hk, rfl, ho, hy, hx⟩ := hrel
    have hn2 : n ≤ 1048576 := HN.out
    clear hmk
    by_cases hlt : k < n
    · have hi1 : (k : Int) < (n : Int) := by omega
      go_wp2_with fail
      refine (HF.out k hlt _ hx.out).mono ?_
      rintro e w1 ⟨r, rfl, hr, E1⟩
      have ho1 := hid (Own.ext ho.out E1)
      have hx1 := hid (Ext.trans hx.out E1)
      have hrc := hid hr
      have hsz := hid (show w.heap.size ≤ w1.heap.size from Ext.size hx1.out)
      clear E1 hr
      go_wp2_with (at_builtin; refine wpList_append_lies _ rfl _ _ 22 rfl w.heap.size 33 i0 (.float .f32 0) 1 4 Try.underlying22 HI.out.1 HI.out.2.1 HI.out.2.2.1 HI.out.2.2.2 rfl (by decide) _ _ _ rfl (Own.alloc ho1.out _) ⟨w1.heap.size, 0, none⟩ 1 1 [.float .f32 r] rfl rfl (World.news_of_block (heap_alloc_new _ _)) (by intro u hu; simp at hu; subst hu; rfl) (by omega) (by have h9 := HN.out; unfold maxLen; omega) (by have h9 := HN.out; omega) (by have h8 := hsz.out; simp; omega) _ rfl ?_; intro g cap w2 hown hgrow hat hlt2)
      have h1 := hid (own_snoc hown)
      have h2 := hid (show Ext w w2 from But.below hgrow (Ext.alloc hx1.out _) (fun k2 hk2 => (Own.block ho1.out k2 hk2).1))
      have h3 := hid (show (ys ++ [r]).map (cls .f32) = listK C (k + 1) from by rw [List.map_append, hy.out, listK_succ, ← hrc.out]; rfl)
      clear hown hgrow hat hlt2
      go_wp2
      go_roundw
      case rel => exact ⟨k + 1, ys ++ [r], by omega, by go_num, h1, h3, h2⟩
      case measure => simp [intOf]; omega
    · have hkn : k = n := by omega
      subst hkn
      go_wp2_with fail
      refine (finiteList_is _ _ w.heap.size ys R O _ ho.out HN.out (by rw [hy.out]; exact HR.out)).mono ?_
      rintro e w1 ⟨u, rfl, hu, E1⟩
      have hu1 := hid hu
      have hx1 := hid (Ext.trans hx.out E1)
      clear hu E1
      go_wp2
      go_ret2
      exact ⟨_, rfl, hu1.out, hx1.out⟩
end Go.Proofs.Ytpmjiabllmomjaa

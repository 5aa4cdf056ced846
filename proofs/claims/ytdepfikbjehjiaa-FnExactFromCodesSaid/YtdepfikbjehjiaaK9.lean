/- The sound of codes. -/
import Derived.Test.YtdepfikbjehjiaaK1
import Derived.Test.YtdepfikbjehjiaaV9
namespace Go.Proofs.Ytdepfikbjehjiaa
open Go.RowKit Flt
set_option linter.unusedVariables false

theorem from_fin : ((List.range 256).all fun (k : Nat) => fin32 (cls .f32 (fromV (k : Int)))) = true := by kernel_rfl
def fromsC (s : ByteArray) (k : Nat) : Option Nat := cls .f32 (fromV (((s.data.toList.getD k 0).toNat : Nat) : Int))
theorem fromsC_fin (s : ByteArray) (k : Nat) : fin32 (fromsC s k) = true := List.all_eq_true.1 from_fin _ (List.mem_range.2 (UInt8.toNat_lt _))
theorem froms_all (s : ByteArray) (n : Nat) : soundR (fromsC s) n = (listK (fromsC s) n, true) := by
  unfold soundR finR2
  rw [if_pos]
  unfold finsC listK
  rw [List.all_eq_true]
  intro x hx
  obtain ⟨k, _, rfl⟩ := List.mem_map.1 hx
  exact fromsC_fin s k
theorem byte_get (s : ByteArray) (k : Nat) (h : k < s.size) : s.data.toList.getD k 0 = s[k]'h := by
  have h2 : k < s.data.toList.length := by simpa using h
  have h3 : s.data.toList[k]? = some (s[k]'h) := by rw [List.getElem?_eq_getElem h2]; rfl
  rw [List.getD, h3]
  rfl
def fromsR (s : ByteArray) : List (Option Nat) × Bool := if s.size ≤ 256 then soundR (fromsC s) s.size else ([], false)
theorem froms_len (s : ByteArray) : (fromsR s).1.length ≤ 256 := by
  unfold fromsR
  split
  · have := soundR_len (fromsC s) s.size
    omega
  · exact Nat.zero_le _

set_option maxHeartbeats 4000000 in
set_option maxRecDepth 100000 in
theorem froms_clo (k b1 : Nat) (s : ByteArray) (w : World) (hk : k < s.size) (hs : s.size ≤ 256) (h1 : Box w b1 #[.string s]) :
    Calls Try.prog 11 #[.int .i64 (k : Int), .pointer (some ⟨b1, 0, none⟩)] w fun e w' => ∃ r, e = .returned (.float .f32 r) ∧ cls .f32 r = fromsC s k ∧ Ext w w' := by
  obtain ⟨d1, l1⟩ := Box.cells1 h1
  have HC := hid (show fromsC s k = cls .f32 (fromV ((s[k]).toNat : Int)) from by unfold fromsC; rw [byte_get s k hk])
  have c1 : (s[k].toNat : Int) < 256 := by have := s[k].toNat_lt; omega
  have c0 : 0 ≤ (s[k].toNat : Int) := by omega
  have hi0 : (0 : Int) ≤ (k : Int) := by omega
  have hi1 : (k : Int) < (s.size : Int) := by omega
  clear h1
  go_enter Try.func11, Try.ntmps11
  go_wp2_with (go_at_call 12; refine (fromCode_yes _ c0 (by omega) _).mono ?_; rintro e w' ⟨rfl, m, rfl⟩)
  go_ret
  exact ⟨_, rfl, HC.out.symm, by (repeat with_reducible (first | exact Ext.refl _ | exact ext_alloc _ _ | refine Ext.drewN ?_ _ | refine Ext.drew1 ?_ | refine Ext.set ?_ (by dsimp only; omega) _ | refine Ext.alloc ?_ _))⟩

set_option maxHeartbeats 4000000 in
set_option maxRecDepth 100000 in
theorem froms_any (s : ByteArray) (R : List (Option Nat)) (O : Bool) (w : World) (hs : s.size ≤ 1048576) (hR : fromsR s = (R, O)) :
    Calls Try.prog 5 #[.string s] w fun e w' => ∃ v, e = .returned (.tuple #[v, .bool O]) ∧ ListIs w' w.heap.size R v ∧ Ext w w' := by
  have HR := hid hR
  have HS0 := hid hs
  clear hR
  by_cases hm : 256 < s.size
  · have e : O = false ∧ R = [] := by have := HR.out; unfold fromsR at this; rw [if_neg (by omega)] at this; simpa [eq_comm, and_comm] using this
    obtain ⟨rfl, rfl⟩ := e
    go_enter Try.func5, Try.ntmps5
    go_wp2_with fail
    go_returns
    refine ⟨_, rfl, nil_is _ _, ?_⟩
    (repeat with_reducible (first | exact Ext.refl _ | exact ext_alloc _ _ | refine Ext.drewN ?_ _ | refine Ext.drew1 ?_ | refine Ext.set ?_ (by dsimp only; omega) _ | refine Ext.alloc ?_ _))
  have HS := hid (show soundR (fromsC s) s.size = (R, O) from by have := HR.out; unfold fromsR at this; rw [if_pos (by omega)] at this; exact this)
  have HM := hid (show s.size ≤ 256 by omega)
  clear HR
  go_enter Try.func5, Try.ntmps5
  go_wp2_with fail
  obtain ⟨w0, hw0⟩ : ∃ u, u = (w.alloc (.cells #[.string s] 9)) := ⟨_, rfl⟩
  rw [← hw0]
  have EX := hid (show Ext w w0 from by rw [hw0]; (repeat with_reducible (first | exact Ext.refl _ | exact ext_alloc _ _ | refine Ext.drewN ?_ _ | refine Ext.drew1 ?_ | refine Ext.set ?_ (by dsimp only; omega) _ | refine Ext.alloc ?_ _)))
  have B0 : Hid (Box w0 w.heap.size #[.string s]) := by rw [hw0]; exact hid (box_new (w := w) #[.string s] 9)
  clear hw0
  refine (soundOf_any s.size 11 #[.pointer (some ⟨w.heap.size, 0, none⟩)] (fromsC s) R O w0 (by have := HM.out; omega) (fun _ _ => by simp [go_sem]) (fun k hk wr e => froms_clo k _ s wr hk HM.out (Box.ext B0.out e)) HS.out).mono ?_
  rintro e w1 ⟨v, rfl, hv, E1⟩
  have HL2 := hid hv
  have EY := hid (Ext.trans EX.out E1)
  have HZ := hid (show w.heap.size ≤ w0.heap.size from Ext.size EX.out)
  clear hv E1
  go_wp2_with fail
  go_returns
  exact ⟨_, rfl, ListIs.base HL2.out HZ.out, EY.out⟩

set_option maxHeartbeats 4000000 in
set_option maxRecDepth 100000 in
theorem sFroms_any (s : ByteArray) (R : List (Option Nat)) (O : Bool) (w : World) (hs : s.size ≤ 1048576) (hR : fromsR s = (R, O)) :
    Calls Try.prog 4 #[.string s] w fun e w' => ∃ v, e = .returned (.tuple #[v, .bool O]) ∧ ListIs w' w.heap.size R v ∧ Ext w w' := by
  have HR := hid hR
  have HS0 := hid hs
  clear hR
  by_cases hm : 256 < s.size
  · have e : O = false ∧ R = [] := by have := HR.out; unfold fromsR at this; rw [if_neg (by omega)] at this; simpa [eq_comm, and_comm] using this
    obtain ⟨rfl, rfl⟩ := e
    go_enter Try.func4, Try.ntmps4
    go_wp2_with fail
    go_returns
    refine ⟨_, rfl, nil_is _ _, ?_⟩
    (repeat with_reducible (first | exact Ext.refl _ | exact ext_alloc _ _ | refine Ext.drewN ?_ _ | refine Ext.drew1 ?_ | refine Ext.set ?_ (by dsimp only; omega) _ | refine Ext.alloc ?_ _))
  have e : O = true ∧ R = listK (fromsC s) s.size := by have := HR.out; unfold fromsR at this; rw [if_pos (by omega), froms_all] at this; simpa [eq_comm, and_comm] using this
  obtain ⟨rfl, rfl⟩ := e
  have HM := hid (show s.size ≤ 256 by omega)
  clear HR
  obtain ⟨i0, hif, hz0, hz1, hz2⟩ := info_parts infoF
  have HI := hid (And.intro hif (And.intro hz0 (And.intro hz1 hz2)))
  clear hif hz0 hz1 hz2
  go_enter Try.func4, Try.ntmps4
  go_wp2_with fail
  go_loopw [4, 5] (fun v i wr => ∃ (k : Nat) (ys : List Nat), k ≤ s.size ∧ i = .int .i64 k ∧ Hid (Own wr w.heap.size k v ys) ∧ Hid (ys.map (cls .f32) = listK (fromsC s) k) ∧ Hid (Ext w wr)) (fun _ i _ => s.size - (intOf i).toNat)
  case atStart => exact ⟨0, [], Nat.zero_le _, rfl, hid (own_fresh (cs := #[]) (zs := []) (hid rfl) rfl (by simp) (by simp) (Nat.zero_le _)), rfl, hid (by (repeat with_reducible (first | exact Ext.refl _ | exact ext_alloc _ _ | refine Ext.drewN ?_ _ | refine Ext.drew1 ?_ | refine Ext.set ?_ (by dsimp only; omega) _ | refine Ext.alloc ?_ _)))⟩
  case round =>
    obtain ⟨k, ys, hk, rfl, ho, hyy, he⟩ := hrel
    have hn2 : s.size ≤ 256 := HM.out
    by_cases hlt : k < s.size
    · have hi0 : (0 : Int) ≤ (k : Int) := by omega
      have hi1 : (k : Int) < (s.size : Int) := by omega
      have hss := hid (listK_succ (fromsC s) k)
      have HC := hid (show fromsC s k = cls .f32 (fromV ((s[k]).toNat : Int)) from by unfold fromsC; rw [byte_get s k hlt])
      have c1 : (s[k].toNat : Int) < 256 := by have := s[k].toNat_lt; omega
      have c0 : 0 ≤ (s[k].toNat : Int) := by omega
      have HSZ := hid (Ext.size he.out)
      go_wp2_with (first | (go_at_call 9; refine (l05From_any _ c0 (by omega) _).mono ?_; rintro e w' ⟨rfl, m, rfl⟩) | (at_builtin; refine wpList_append_lies _ rfl _ _ 22 rfl w.heap.size 28 i0 (.float .f32 0) 1 4 Try.underlying22 HI.out.1 HI.out.2.1 HI.out.2.2.1 HI.out.2.2.2 rfl (by decide) _ _ _ rfl (Own.ext ho.out (by (repeat with_reducible (first | exact Ext.refl _ | exact ext_alloc _ _ | refine Ext.drewN ?_ _ | refine Ext.drew1 ?_ | refine Ext.set ?_ (by dsimp only; omega) _ | refine Ext.alloc ?_ _)))) ⟨wr.heap.size, 0, none⟩ 1 1 [.float .f32 (fromV (s[k].toNat : Int))] rfl rfl (World.news_of_block (heap_alloc_new _ _)) (by intro u hu; simp at hu; subst hu; rfl) (by omega) (by have h9 := HM.out; unfold maxLen; omega) (by have h9 := HM.out; omega) (by have h8 := HSZ.out; simp; omega) _ rfl ?_; intro g cap w1 hown hgrow hat hlt2))
      have h1 := hid (own_snoc hown)
      have h2 := hid (show Ext w w1 from But.below hgrow (Ext.trans he.out (by (repeat with_reducible (first | exact Ext.refl _ | exact ext_alloc _ _ | refine Ext.drewN ?_ _ | refine Ext.drew1 ?_ | refine Ext.set ?_ (by dsimp only; omega) _ | refine Ext.alloc ?_ _)))) (fun k2 hk2 => (Own.block ho.out k2 hk2).1))
      have h3 := hid (show (ys ++ [fromV (s[k].toNat : Int)]).map (cls .f32) = listK (fromsC s) (k + 1) from by rw [List.map_append, hyy.out, hss.out, HC.out]; rfl)
      clear hown hgrow hat hlt2
      go_wp2
      go_roundw
      case rel => exact ⟨k + 1, _, by omega, by go_num, h1, h3, h2⟩
      case measure => simp [intOf]; omega
    · have hkn : k = s.size := by omega
      subst hkn
      go_wp2_with fail
      go_returns
      exact ⟨_, rfl, list_is ho.out hyy.out, he.out⟩

end Go.Proofs.Ytdepfikbjehjiaa

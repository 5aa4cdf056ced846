/- A sound whose ends fade. -/
import Derived.Test.YtofhemganefhcaaW1
import Derived.Test.YtofhemganefhcaaV15
import Derived.Test.YtofhemganefhcaaV16
namespace Go.Proofs.Ytofhemganefhcaa
open Go.RowKit Flt
set_option linter.unusedVariables false

theorem fade_any (a : Option Addr) (n c : Nat) (i o : Int) (zs : List Nat) (R : List (Option Nat)) (O : Bool) (w : World) (h : Holds .f32 w a n zs) (hn : n ≤ 1048576) (hR : softR zs i o = (R, O)) :
    Calls Try.prog 36 #[.slice a n c, .int .i64 i, .int .i64 o] w fun e w' => ∃ v, e = .returned (.tuple #[v, .bool O]) ∧ ListIs w' w.heap.size R v ∧ Ext w w' := by
  have H1 := hid h
  clear h
  go_enter Try.func36, Try.ntmps36
  go_wp2_with fail
  refine (soft_any a n c i o zs R O _ H1.out hn hR).mono ?_
  rintro e w1 ⟨v, rfl, hv, E1⟩
  have HV := hid hv
  have HE := hid E1
  clear hv E1
  go_wp2
  go_returns
  exact ⟨_, rfl, HV.out, HE.out⟩

theorem soft_list2 {zs ys : List Nat} {n i o : Nat} (hn : ys.length = n) (h : ∀ j, j < n → cls .f32 (ys.getD j 0) = if n - j ≤ o then softC zs i o n j else softIn zs i j) : ys.map (cls .f32) = listK (softC zs i o n) n := by
  unfold listK
  apply List.ext_getElem
  · simp [hn]
  · intro j h1 h2
    simp at h1
    have := h j (by omega)
    have e : softC zs i o n j = if n - j ≤ o then softC zs i o n j else softIn zs i j := by
      split
      · rfl
      · rename_i hh; unfold softC; rw [if_neg hh]
    rw [← e] at this
    simpa [List.getD, h1] using this
set_option maxHeartbeats 8000000 in
set_option maxRecDepth 100000 in
theorem sFade_any (a : Option Addr) (n c : Nat) (i o : Int) (zs : List Nat) (R : List (Option Nat)) (O : Bool) (w : World) (h : Holds .f32 w a n zs) (hn : n ≤ 1048576) (hR : softR zs i o = (R, O)) :
    Calls Try.prog 35 #[.slice a n c, .int .i64 i, .int .i64 o] w fun e w' => ∃ v, e = .returned (.tuple #[v, .bool O]) ∧ ListIs w' w.heap.size R v ∧ Ext w w' := by
  have H1 := hid h
  have HN := hid hn
  have HL := hid h.1
  have HR := hid hR
  clear h hn hR
  cases hA : soundB (zs.map (cls .f32))
  · have e : O = false ∧ R = [] := by have := HR.out; unfold softR at this; rw [if_neg (by rw [hA]; simp)] at this; simpa [eq_comm, and_comm] using this
    obtain ⟨rfl, rfl⟩ := e
    go_enter Try.func35, Try.ntmps35
    go_wp2_with (first | (go_at_call 57; with_reducible refine (l04Sound_drew _ n c zs _ _ (Holds.ext H1.out (by (repeat with_reducible (first | exact Ext.refl _ | exact ext_alloc _ _ | refine Ext.drewN ?_ _ | refine Ext.drew1 ?_ | refine Ext.set ?_ (by dsimp only; omega) _ | refine Ext.alloc ?_ _)))) HN.out hA).mono ?_; rintro e w' ⟨rfl, m1, rfl⟩))
    go_returns
    refine ⟨_, rfl, nil_is _ _, ?_⟩
    (repeat with_reducible (first | exact Ext.refl _ | exact ext_alloc _ _ | refine Ext.drewN ?_ _ | refine Ext.drew1 ?_ | refine Ext.set ?_ (by dsimp only; omega) _ | refine Ext.alloc ?_ _))
  by_cases hi : ¬ (0 ≤ i ∧ i ≤ n)
  · have e : O = false ∧ R = [] := by have := HR.out; unfold softR at this; rw [if_neg (by rw [hA, HL.out]; simp; omega)] at this; simpa [eq_comm, and_comm] using this
    obtain ⟨rfl, rfl⟩ := e
    go_enter Try.func35, Try.ntmps35
    go_wp2_with (first | (go_at_call 57; with_reducible refine (l04Sound_drew _ n c zs _ _ (Holds.ext H1.out (by (repeat with_reducible (first | exact Ext.refl _ | exact ext_alloc _ _ | refine Ext.drewN ?_ _ | refine Ext.drew1 ?_ | refine Ext.set ?_ (by dsimp only; omega) _ | refine Ext.alloc ?_ _)))) HN.out hA).mono ?_; rintro e w' ⟨rfl, m1, rfl⟩) | (go_at_call 72; with_reducible refine (l00In_no i 0 n hi _).mono ?_; rintro e w' ⟨rfl, rfl⟩))
    go_returns
    refine ⟨_, rfl, nil_is _ _, ?_⟩
    (repeat with_reducible (first | exact Ext.refl _ | exact ext_alloc _ _ | refine Ext.drewN ?_ _ | refine Ext.drew1 ?_ | refine Ext.set ?_ (by dsimp only; omega) _ | refine Ext.alloc ?_ _))
  replace hi := Decidable.not_not.1 hi
  by_cases ho : ¬ (0 ≤ o ∧ o ≤ n)
  · have e : O = false ∧ R = [] := by have := HR.out; unfold softR at this; rw [if_neg (by rw [hA, HL.out]; simp; omega)] at this; simpa [eq_comm, and_comm] using this
    obtain ⟨rfl, rfl⟩ := e
    go_enter Try.func35, Try.ntmps35
    go_wp2_with (first | (go_at_call 57; with_reducible refine (l04Sound_drew _ n c zs _ _ (Holds.ext H1.out (by (repeat with_reducible (first | exact Ext.refl _ | exact ext_alloc _ _ | refine Ext.drewN ?_ _ | refine Ext.drew1 ?_ | refine Ext.set ?_ (by dsimp only; omega) _ | refine Ext.alloc ?_ _)))) HN.out hA).mono ?_; rintro e w' ⟨rfl, m1, rfl⟩) | (go_at_call 72; with_reducible refine (l00In_yes i 0 n hi.1 hi.2 _).mono ?_; rintro e w' ⟨rfl, rfl⟩) | (go_at_call 72; with_reducible refine (l00In_no o 0 n ho _).mono ?_; rintro e w' ⟨rfl, rfl⟩))
    go_returns
    refine ⟨_, rfl, nil_is _ _, ?_⟩
    (repeat with_reducible (first | exact Ext.refl _ | exact ext_alloc _ _ | refine Ext.drewN ?_ _ | refine Ext.drew1 ?_ | refine Ext.set ?_ (by dsimp only; omega) _ | refine Ext.alloc ?_ _))
  replace ho := Decidable.not_not.1 ho
  obtain ⟨i, rfl⟩ : ∃ q : Nat, i = (q : Int) := ⟨i.toNat, by omega⟩
  obtain ⟨o, rfl⟩ : ∃ q : Nat, o = (q : Int) := ⟨o.toNat, by omega⟩
  have hn256 : n ≤ 256 := by have := sound_len hA; simp at this; have := HL.out; omega
  have hin : i ≤ n := by omega
  have hon : o ≤ n := by omega
  have e : R = listK (softC zs i o n) n ∧ O = true := by
    have := HR.out
    unfold softR at this
    rw [if_pos (by rw [hA, HL.out]; simp; omega), HL.out] at this
    rw [show ((i : Int)).toNat = i from rfl, show ((o : Int)).toNat = o from rfl, soft_all HL.out hA (by omega) (by omega)] at this
    simpa [eq_comm] using this
  obtain ⟨rfl, rfl⟩ := e
  obtain ⟨i0, hif, hz0, hz1, hz2⟩ := info_parts infoF
  have HI := hid (And.intro hif (And.intro hz0 (And.intro hz1 hz2)))
  clear hif hz0 hz1 hz2
  have HN2 := hid hn256
  have HII := hid hin
  have HOO := hid hon
  clear HR hn256
  by_cases h0 : n = 0
  · subst h0
    go_enter Try.func35, Try.ntmps35
    go_wp2_with (first | (go_at_call 57; with_reducible refine (l04Sound_drew _ 0 c zs _ _ (Holds.ext H1.out (by (repeat with_reducible (first | exact Ext.refl _ | exact ext_alloc _ _ | refine Ext.drewN ?_ _ | refine Ext.drew1 ?_ | refine Ext.set ?_ (by dsimp only; omega) _ | refine Ext.alloc ?_ _)))) HN.out hA).mono ?_; rintro e w' ⟨rfl, m1, rfl⟩) | (go_at_call 72; with_reducible refine (l00In_yes (i : Int) 0 0 (by omega) (by omega) _).mono ?_; rintro e w' ⟨rfl, rfl⟩) | (go_at_call 72; with_reducible refine (l00In_yes (o : Int) 0 0 (by omega) (by omega) _).mono ?_; rintro e w' ⟨rfl, rfl⟩) | (at_builtin; refine wpList_append_none _ rfl _ _ 22 rfl 23 i0 Try.underlying22 HI.out.1 _ _ rfl _ _ rfl ?_))
    go_loopw [10] (fun v wr => v = .int .i64 (0 : Int) ∧ Hid (Own wr w.heap.size 0 (.slice (some ⟨w.heap.size, 0, none⟩) 0 0) []) ∧ Hid (Ext w wr)) (fun _ _ => 0)
    case atStart => exact ⟨rfl, hid (own_fresh (cs := #[]) (zs := []) (hid rfl) rfl (by simp) (by simp) (Nat.zero_le _)), hid (by (repeat with_reducible (first | exact Ext.refl _ | exact ext_alloc _ _ | refine Ext.drewN ?_ _ | refine Ext.drew1 ?_ | refine Ext.set ?_ (by dsimp only; omega) _ | refine Ext.alloc ?_ _)))⟩
    case round =>
      obtain ⟨rfl, ho2, he⟩ := hrel
      have hi3 : ¬ ((0 : Int) < (i : Int)) := by omega
      go_wp2_with fail
      go_loopw [11] (fun v wr2 => v = .int .i64 (0 : Int) ∧ Hid (Own wr2 w.heap.size 0 (.slice (some ⟨w.heap.size, 0, none⟩) 0 0) []) ∧ Hid (Ext w wr2)) (fun _ _ => 0)
      case atStart => exact ⟨rfl, ho2, he⟩
      case round =>
        obtain ⟨rfl, ho3, he3⟩ := hrel
        have hi4 : ¬ ((0 : Int) < (o : Int)) := by omega
        go_wp2_with fail
        go_ret2
        exact ⟨_, rfl, ⟨_, _, [], rfl, ho3.out, rfl⟩, he3.out⟩
  rcases H1.out.2 with h1 | ⟨b, off, rfl, hb, hc⟩
  · exact absurd h1 h0
  have HB := hid hb
  have HC := hid hc
  have HP := hid (show 0 < n by omega)
  clear hb hc
  go_enter Try.func35, Try.ntmps35
  go_wp2_with (first | (go_at_call 57; with_reducible refine (l04Sound_drew _ n c zs _ _ (Holds.ext H1.out (by (repeat with_reducible (first | exact Ext.refl _ | exact ext_alloc _ _ | refine Ext.drewN ?_ _ | refine Ext.drew1 ?_ | refine Ext.set ?_ (by dsimp only; omega) _ | refine Ext.alloc ?_ _)))) HN.out hA).mono ?_; rintro e w' ⟨rfl, m1, rfl⟩) | (go_at_call 72; with_reducible refine (l00In_yes i 0 n hi.1 hi.2 _).mono ?_; rintro e w' ⟨rfl, rfl⟩) | (go_at_call 72; with_reducible refine (l00In_yes o 0 n ho.1 ho.2 _).mono ?_; rintro e w' ⟨rfl, rfl⟩) | (at_builtin; refine wpList_append_lies _ rfl _ _ 22 rfl w.heap.size 23 i0 (.float .f32 0) 1 4 Try.underlying22 HI.out.1 HI.out.2.1 HI.out.2.2.1 HI.out.2.2.2 rfl (by decide) _ _ _ rfl (own_fresh (cs := #[]) (zs := []) (B := w.heap.size) (hid rfl) rfl (by simp) (by simp) (Nat.zero_le _)) ⟨b, off, none⟩ n c (zs.map (Value.float .f32)) rfl (by have := HL.out; simp [this]) (news_ext (by (repeat with_reducible (first | exact Ext.refl _ | exact ext_alloc _ _ | refine Ext.drewN ?_ _ | refine Ext.drew1 ?_ | refine Ext.set ?_ (by dsimp only; omega) _ | refine Ext.alloc ?_ _))) HB.out HL.out HC.out) (news_one zs) HP.out (by have := HN.out; unfold maxLen; omega) (by have := HN.out; omega) (by simp) _ rfl ?_; intro g cap w1 hown hgrow hat hlt))
  have hOW := hid (show Own w1 w.heap.size n (.slice (some ⟨g, 0, none⟩) n cap) zs from by simpa [Own] using hown)
  have hEX := hid (show Ext w w1 from But.below hgrow (by (repeat with_reducible (first | exact Ext.refl _ | exact ext_alloc _ _ | refine Ext.drewN ?_ _ | refine Ext.drew1 ?_ | refine Ext.set ?_ (by dsimp only; omega) _ | refine Ext.alloc ?_ _))) (fun k hk => by cases hk; simp))
  clear hown hgrow hat hlt
  try simp only [Nat.zero_add]
  have HGE := hid (Own.block hOW.out)
  go_wp2_with fail
  go_loopw [10] (fun v wr => ∃ (k : Nat) (ys : List Nat), k ≤ i ∧ v = .int .i64 k ∧ Hid (Own wr w.heap.size n (.slice (some ⟨g, 0, none⟩) n cap) ys) ∧ Hid (∀ j, j < n → cls .f32 (ys.getD j 0) = if j < k then softIn zs i j else cls .f32 (zs.getD j 0)) ∧ Hid (Ext w wr)) (fun v _ => i - (intOf v).toNat)
  case atStart => exact ⟨0, zs, Nat.zero_le _, rfl, hOW, hid (fun j hj => by simp), hEX⟩
  case round =>
    obtain ⟨k, ys, hk, rfl, ho2, hy, he⟩ := hrel
    have hn2 : n ≤ 1048576 := HN.out
    have hin2 : i ≤ n := HII.out
    have hyl := hid ho2.out.len
    by_cases hlt : k < i
    · have e1 := Own.cellAt ho2.out k (by omega)
      have hf := Own.frozenAt ho2.out k
      have hv := hy.out k (by omega)
      rw [if_neg (Nat.lt_irrefl _)] at hv
      have HST : Hid (∀ r, cls .f32 r = softIn zs i k → ∀ j, j < n → cls .f32 ((ys.set k r).getD j 0) = if j < k + 1 then softIn zs i j else cls .f32 (zs.getD j 0)) := by
        intro r hr j hj
        rw [getD_set16 _ _ _ _ (by rw [hyl.out]; omega)]
        by_cases hjk : j = k
        · subst hjk
          rw [if_pos rfl, if_pos (Nat.lt_succ_self _), hr]
        · rw [if_neg hjk, hy.out j hj]
          by_cases h : j < k
          · rw [if_pos h, if_pos (by omega)]
          · rw [if_neg h, if_neg (by omega)]
      have HCC : Hid (softIn zs i k = fop .mul .f32 (cls .f32 (ys.getD k 0)) (ratioC ((k : Int) + 1) ((i : Int) + 1))) := by
        show _ = _
        unfold softIn; rw [if_pos hlt, hv]
      clear hv
      generalize ys.getD k 0 = q at e1 HCC
      have HQ := is_self .f32 q
      have hi0 : (0 : Int) ≤ (k : Int) := by omega
      have hi1 : (k : Int) < (n : Int) := by omega
      have hi2 : ((k : Int)).toNat = k := rfl
      have hi3 : (k : Int) < (i : Int) := by omega
      have hge : w.heap.size ≤ g := (HGE.out g rfl).1
      go_wp2_with (first | (refine wpList_fa rfl rfl rfl rfl rfl (by first | assumption | exact is_const (by decide) | exact is_int _ | exact is_self _ _) (by first | assumption | exact is_const (by decide) | exact is_int _ | exact is_self _ _) ?_; intro r1 mr1 hr1 hwr1))
      have HF := hid (HST.out r1 (by rw [HCC.out]; exact Is.out hr1))
      go_roundw
      case rel => exact ⟨k + 1, ys.set k r1, by omega, by go_num, hid (by first | exact (Own.stored (Own.drewN ho2.out _) k _).1 | exact (Own.stored (Own.drewN (Own.drewN ho2.out _) _) k _).1), HF, hid (by first | exact Ext.set (Ext.drewN he.out _) (by dsimp only; omega) _ | exact Ext.set (Ext.drewN (Ext.drewN he.out _) _) (by dsimp only; omega) _)⟩
      case measure => simp [intOf]; omega
    · have hki : k = i := by omega
      subst hki
      have hi3 : ¬ ((k : Int) < (k : Int)) := by omega
      have HY2 := hid (show ∀ j, j < n → cls .f32 (ys.getD j 0) = softIn zs k j from fun j hj => by
        rw [hy.out j hj]
        unfold softIn
        split
        · rfl
        · rfl)
      clear hy
      go_wp2_with fail
      go_loopw [11] (fun v wr2 => ∃ (j : Nat) (us : List Nat), j ≤ o ∧ v = .int .i64 j ∧ Hid (Own wr2 w.heap.size n (.slice (some ⟨g, 0, none⟩) n cap) us) ∧ Hid (∀ q, q < n → cls .f32 (us.getD q 0) = if n - q ≤ j then softC zs k o n q else softIn zs k q) ∧ Hid (Ext w wr2)) (fun v _ => o - (intOf v).toNat)
      case atStart => exact ⟨0, ys, Nat.zero_le _, rfl, ho2, hid (fun q hq => by rw [if_neg (by omega)]; exact HY2.out q hq), he⟩
      case round =>
        obtain ⟨j, us, hj, rfl, ho3, hu, he3⟩ := hrel
        have hon2 : o ≤ n := HOO.out
        have hul := hid ho3.out.len
        by_cases hlt2 : j < o
        · have e1 := Own.cellAt ho3.out (n - 1 - j) (by omega)
          have hf := Own.frozenAt ho3.out (n - 1 - j)
          have hv := hu.out (n - 1 - j) (by omega)
          rw [if_neg (by omega)] at hv
          have HST : Hid (∀ r, cls .f32 r = softC zs k o n (n - 1 - j) → ∀ q, q < n → cls .f32 ((us.set (n - 1 - j) r).getD q 0) = if n - q ≤ j + 1 then softC zs k o n q else softIn zs k q) := by
            intro r hr q hq
            rw [getD_set16 _ _ _ _ (by rw [hul.out]; omega)]
            by_cases hjk : q = n - 1 - j
            · rw [if_pos hjk, if_pos (by omega), hr, hjk]
            · rw [if_neg hjk, hu.out q hq]
              by_cases h : n - q ≤ j
              · rw [if_pos h, if_pos (by omega)]
              · rw [if_neg h, if_neg (by omega)]
          have HCC : Hid (softC zs k o n (n - 1 - j) = fop .mul .f32 (cls .f32 (us.getD (n - 1 - j) 0)) (ratioC ((j : Int) + 1) ((o : Int) + 1))) := by
            show _ = _
            unfold softC
            rw [if_pos (by omega), hv, show ((n : Int) - ((n - 1 - j : Nat) : Int)) = (j : Int) + 1 from by omega]
          clear hv
          generalize us.getD (n - 1 - j) 0 = q at e1 HCC
          have HQ := is_self .f32 q
          have hi0 : (0 : Int) ≤ ((n - 1 - j : Nat) : Int) := by omega
          have hi1 : ((n - 1 - j : Nat) : Int) < (n : Int) := by omega
          have hi2 : ((n - 1 - j : Nat) : Int).toNat = n - 1 - j := rfl
          have hi4 : (j : Int) < (o : Int) := by omega
          have hi5 : (n : Int) - 1 - (j : Int) = ((n - 1 - j : Nat) : Int) := by omega
          have hi6 : j + 1 + (n - 1 - j) = n := by omega
          have hge : w.heap.size ≤ g := (HGE.out g rfl).1
          generalize hp : n - 1 - j = p at *
          go_wp2_with (first | (refine wpList_fa rfl rfl rfl rfl rfl (by first | assumption | exact is_const (by decide) | exact is_int _ | exact is_self _ _) (by first | assumption | exact is_const (by decide) | exact is_int _ | exact is_self _ _) ?_; intro r1 mr1 hr1 hwr1))
          have HF := hid (HST.out r1 (by rw [HCC.out]; exact Is.out hr1))
          go_roundw
          case rel => exact ⟨j + 1, us.set p r1, by omega, by go_num, hid (by first | exact (Own.stored (Own.drewN ho3.out _) p _).1 | exact (Own.stored (Own.drewN (Own.drewN ho3.out _) _) p _).1), HF, hid (by first | exact Ext.set (Ext.drewN he3.out _) (by dsimp only; omega) _ | exact Ext.set (Ext.drewN (Ext.drewN he3.out _) _) (by dsimp only; omega) _)⟩
          case measure => simp [intOf]; omega
        · have hjo : j = o := by omega
          subst hjo
          go_wp2_with fail
          go_ret2
          have hll := soft_list2 (zs := zs) (i := k) (o := j) hul.out hu.out
          exact ⟨_, rfl, ⟨some ⟨g, 0, none⟩, cap, us, by simp [listK_len], by simpa [listK_len] using ho3.out, hll⟩, he3.out⟩

end Go.Proofs.Ytofhemganefhcaa

/- Copies of lists of floats, and lists that hold the same. -/
import Derived.Test.YthinjgiakaflpabRows
import Derived.Test.YthinjgiakaflpabRow
import Derived.Test.YthinjgiakaflpabDraw
import Derived.Test.YthinjgiakaflpabNum
import Derived.KernelRfl
namespace Go.Proofs.Ythinjgiakaflpab
open Go.RowKit Flt

theorem cs_step (cs : Array Value) (k : Nat) (l : List Value) (v : Value) (h : cs.toList.take k = l) (hk : k < cs.size) : (cs.setIfInBounds k v).toList.take (k + 1) = l ++ [v] := by
  subst h
  apply List.ext_getElem?
  intro i
  rw [List.getElem?_take]
  by_cases h1 : i < k + 1
  · rw [if_pos h1]
    by_cases h2 : i = k
    · subst h2
      have hl : (List.take i cs.toList).length = i := by simp; omega
      rw [List.getElem?_append_right (by omega), hl]
      simp [hk]
    · have hl : (List.take k cs.toList).length = k := by simp; omega
      rw [List.getElem?_append_left (by omega), List.getElem?_take, if_pos (by omega)]
      rw [Array.toList_setIfInBounds, List.getElem?_set_ne (Ne.symm h2)]
  · rw [if_neg h1]
    symm
    apply List.getElem?_eq_none
    simp; omega

theorem infoF : (Try.prog.info? 22).map (fun i => (i.zero, i.size, i.bytes)) = some (some (.float .f32 0), 1, 4) := by kernel_rfl

theorem toFloat32S_any (a : Option Addr) (len cap : Nat) (zs : List Nat) (w : World) (h : IsRowF .f32 w a len cap zs) (hl : len ≤ 1048576) :
    Calls Try.prog 65 #[.slice a len cap] w fun e w' => ∃ cs : Array Value, e = .returned (.slice (some ⟨w.heap.size, 0, none⟩) len len) ∧ Hid (cs.toList = (zs.take len).map (Value.float .f32)) ∧ w' = w.alloc (.cells cs 22) := by
  obtain ⟨i0, hi, hz0, hz1, hz2⟩ := info_parts infoF
  have hmk : (Instr.makeSlice 43 (.int .i64 (len : Int)) (.int .i64 (len : Int))).run Try.prog w = .ok (.slice (some ⟨w.heap.size, 0, none⟩) len len) (w.alloc (.cells (madeCells #[.float .f32 0] len) 22)) := by
    have := run_make (P := Try.prog) w 43 22 i0 (.float .f32 0) Try.underlying43 hi hz0 .i64 .i64 (len : Int) (len : Int) (by omega) (by omega) (by rw [hz2]; omega) (by omega)
    rw [hz1] at this
    simpa [Value.cells] using this
  have hms := size_madeCells #[.float .f32 0] len
  have HMS := (show Hid _ from hms)
  clear hms hi hz0 hz1 hz2
  rcases row_open h with rfl | ⟨b, off, rfl, hb, hzl, hc⟩
  · clear h hl HMS
    simp only [Int.natCast_zero] at hmk
    go_enter Try.func65, Try.ntmps65
    go_wp2
    refine wp_loop_rounds 1 ?_
    rw [rounds_succ]
    go_wp2
    go_ret
    exact ⟨madeCells #[.float .f32 0] 0, rfl, (by show (_ : List Value) = _; simp [madeCells]), rfl⟩
  · clear h
    have hc' : ∀ (cs : Array Value) i, i < len → (w.alloc (.cells cs 22)).cell? ⟨b, off + i, none⟩ = some (.float .f32 (zs.getD i 0)) := fun cs i hi => by
      rw [World.cell?_alloc_past _ _ _ hb]; exact hc i hi
    have HC := (show Hid _ from hc')
    clear hc hc'
    go_enter Try.func65, Try.ntmps65
    go_wp2
    go_loopw [4] (fun i wr => ∃ (k : Nat) (cs : Array Value), k ≤ len ∧ i = .int .i64 k ∧ wr = w.alloc (.cells cs 22) ∧ cs.size = len ∧ Hid (cs.toList.take k = (zs.take k).map (Value.float .f32))) (fun i _ => len - (intOf i).toNat)
    case atStart => exact ⟨0, _, Nat.zero_le _, rfl, rfl, HMS.out, rfl⟩
    case round =>
      obtain ⟨k, cs, hk, rfl, rfl, hsz, hp⟩ := hrel
      by_cases hlt : k < len
      · have hcell := HC.out cs k hlt
        have hown : cs[k]? = some (cs[k]'(by omega)) := by simp [hsz, hlt]
        go_wp2
        go_roundw
        case rel => exact ⟨k + 1, _, by omega, by go_num, rfl, by simp [hsz], by show _ = _; rw [cs_step cs k _ _ hp.out (by omega), take_snoc_getD zs k (by omega)]; simp⟩
        case measure => simp [intOf]; omega
      · have : k = len := by omega
        subst this
        go_wp2
        go_ret
        refine ⟨cs, rfl, ?_, rfl⟩
        show cs.toList = _
        rw [← hp.out, List.take_of_length_le (by simp [hsz])]
set_option maxRecDepth 100000 in
theorem eqFloat32S_yes (a1 a2 : Option Addr) (n c1 c2 : Nat) (xs ys : List Nat) (w : World) (h1 : Holds .f32 w a1 n xs) (h2 : Holds .f32 w a2 n ys) (hn : n ≤ 1048576) (he : ∀ i, i < n → cls .f32 (xs.getD i 0) = cls .f32 (ys.getD i 0)) :
    Calls Try.prog 29 #[.slice a1 n c1, .slice a2 n c2] w fun e w' => e = .returned (.bool true) ∧ ∃ m, w' = w.drewN m := by
  obtain ⟨_, h1⟩ := h1
  obtain ⟨_, h2⟩ := h2
  rcases h1 with rfl | ⟨b1, o1, rfl, hb1, hc1⟩
  · clear h2 he hn
    go_enter Try.func29, Try.ntmps29
    go_wp2
    refine wp_loop_rounds 1 ?_
    rw [rounds_succ]
    go_wp2
    go_ret
    exact ⟨rfl, 0, rfl⟩
  · rcases h2 with rfl | ⟨b2, o2, rfl, hb2, hc2⟩
    · clear hc1 he hn
      go_enter Try.func29, Try.ntmps29
      go_wp2
      refine wp_loop_rounds 1 ?_
      rw [rounds_succ]
      go_wp2
      go_ret
      exact ⟨rfl, 0, rfl⟩
    · have HE := (show Hid _ from he)
      have HC1 := (show Hid _ from hc1)
      have HC2 := (show Hid _ from hc2)
      clear hc1 hc2 he
      go_enter Try.func29, Try.ntmps29
      go_wp2
      go_loopw [5] (fun i wr => ∃ k : Nat, k ≤ n ∧ i = .int .i64 k ∧ Hid (∃ m, wr = w.drewN m)) (fun i _ => n - (intOf i).toNat)
      case atStart => exact ⟨0, Nat.zero_le _, rfl, 0, rfl⟩
      case round =>
        obtain ⟨k, hk, rfl, hw⟩ := hrel
        by_cases hlt : k < n
        · have e1 : wr.cell? ⟨b1, o1 + k, none⟩ = some (.float .f32 (xs.getD k 0)) := by obtain ⟨m, hm⟩ := hw.out; rw [hm]; exact HC1.out k hlt
          have e2 : wr.cell? ⟨b2, o2 + k, none⟩ = some (.float .f32 (ys.getD k 0)) := by obtain ⟨m, hm⟩ := hw.out; rw [hm]; exact HC2.out k hlt
          have e3 := (show Hid _ from HE.out k hlt)
          generalize xs.getD k 0 = x at e1 e3
          generalize ys.getD k 0 = y at e2 e3
          have i0 : (0 : Int) ≤ (k : Int) := by omega
          have i1 : (k : Int) < (n : Int) := by omega
          go_wp2
          refine wp_region_many (by kernel_rfl) (by kernel_rfl) (by kernel_rfl) ?_
          repeat (first
            | (refine wpM_mult0 rfl rfl ?_
               refine mult_widen rfl Try.underlying22 Try.underlying107 rfl ?_
               intro r hr hrw)
            | (refine wpM_quiet rfl (fun K hK => ?_)
               go_simp
               first
                 | (refine hK _ ?_; clear hK K)
                 | (apply Exists.intro
                    refine ⟨fun _ => ?_, hK _ ?_⟩
                    (go_at_call 80; refine Calls.quiet_of (sameFloat_yes _ _ _ (by assumption) (by rw [e3.out]; assumption) _))
                    clear hK K)))
          refine wpM_nil ?_
          intro _ hw'
          obtain ⟨nq, hw''⟩ := hw'
          subst hw''
          go_wp2
          go_roundw
          case rel => exact ⟨k + 1, by omega, by go_num, by obtain ⟨m, hm⟩ := hw.out; exact ⟨m + nq, by rw [hm, World.drewN_drewN]⟩⟩
          case measure => simp [intOf]; omega
        · go_wp2
          go_ret
          exact ⟨rfl, hw.out⟩
end Go.Proofs.Ythinjgiakaflpab

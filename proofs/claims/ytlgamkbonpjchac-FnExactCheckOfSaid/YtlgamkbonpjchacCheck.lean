/- Check numbers. -/
import Derived.Test.YtlgamkbonpjchacRows
import Derived.Test.YtlgamkbonpjchacRow
import Derived.Test.YtlgamkbonpjchacIn
import Derived.KernelRfl
import Derived.IntWalk
namespace Go.Proofs.Ytlgamkbonpjchac
open Go.RowKit Flt

/-- the check number of the bytes from k on -/
def chkFrom (n : Int) (s : ByteArray) (k : Nat) : Int := (s.data.toList.drop k).foldl (fun n c => (797 * n + (c.toNat : Int) + 101) % 65003) n

theorem chk_step (n : Int) (s : ByteArray) (k : Nat) (h : k < s.size) : chkFrom n s k = chkFrom ((797 * n + ((s[k]'h).toNat : Int) + 101) % 65003) s (k + 1) := by
  unfold chkFrom
  rw [List.drop_eq_getElem_cons (by simpa using h)]
  rfl
theorem chk_end (n : Int) (s : ByteArray) (k : Nat) (h : ¬ k < s.size) : chkFrom n s k = n := by
  unfold chkFrom
  rw [List.drop_of_length_le (by simp; omega)]; rfl

theorem l01Check_any (n : Int) (h0 : 0 ≤ n) (h1 : n < 65003) (s : ByteArray) (hs : s.size ≤ maxLen) (w : World) :
    Calls Try.prog 65 #[.int .i64 n, .string s] w fun e w' => e = .returned (.int .i64 (chkFrom n s 0)) ∧ w = w' := by
  unfold maxLen at hs
  go_enter Try.func65, Try.ntmps65
  go_wp2
  go_loop [0, 5] (fun c i => ∃ (k : Nat) (m : Int), k ≤ s.size ∧ i = .int .i64 k ∧ c = .int .i64 m ∧ 0 ≤ m ∧ m < 65003 ∧ Hid (chkFrom m s k = chkFrom n s 0)) (fun _ i => s.size - (intOf i).toNat)
  case atStart => exact ⟨0, n, Nat.zero_le _, rfl, rfl, h0, h1, rfl⟩
  case round =>
    obtain ⟨k, m, hk, rfl, rfl, m0, m1, hl⟩ := hrel
    by_cases hlt : k < s.size
    · have hstep := (show Hid _ from chk_step m s k hlt)
      have c1 : (s[k].toNat : Int) < 256 := by have := s[k].toNat_lt; omega
      have c0 : 0 ≤ (s[k].toNat : Int) := by omega
      go_wp2
      go_round
      case rel => exact ⟨k + 1, (797 * m + (s[k].toNat : Int) + 101) % 65003, by omega, by go_num, rfl, by omega, by omega, by rw [← hl.out, hstep.out]; rfl⟩
      case measure => simp [intOf]; omega
    · have hend := chk_end m s k hlt
      have HC : Hid (chkFrom n s 0 = m) := by
        show chkFrom n s 0 = m
        rw [← hl.out, hend]
      clear hend
      go_wp2
      go_ret
      exact ⟨ret_int HC.out.symm, rfl⟩
theorem sCheckOf_yes (n : Int) (h0 : 0 ≤ n) (h1 : n < 65003) (s : ByteArray) (hs : s.size ≤ maxLen) (w : World) :
    Calls Try.prog 37 #[.int .i64 n, .string s] w fun e w' => e = .returned (.tuple #[.int .i64 (chkFrom n s 0), .bool true]) ∧ w = w' := by
  go_enter Try.func37, Try.ntmps37
  go_wp2_with (first | (go_at_call 64; refine (l00In_yes _ _ _ h0 (by omega) _).mono ?_; rintro e w' ⟨rfl, rfl⟩) | (go_at_call 65; refine (l01Check_any _ h0 h1 _ hs _).mono ?_; rintro e w' ⟨rfl, rfl⟩))
  go_ret2
  exact ⟨rfl, rfl⟩
theorem sCheckOf_no (n : Int) (h : ¬ (0 ≤ n ∧ n < 65003)) (s : ByteArray) (w : World) :
    Calls Try.prog 37 #[.int .i64 n, .string s] w fun e w' => e = .returned (.tuple #[.int .i64 0, .bool false]) ∧ w = w' := by
  go_enter Try.func37, Try.ntmps37
  go_wp2_with (first | (go_at_call 64; refine (l00In_no _ _ _ (by omega) _).mono ?_; rintro e w' ⟨rfl, rfl⟩))
  go_ret2
  exact ⟨rfl, rfl⟩
theorem checkOf_yes (n : Int) (h0 : 0 ≤ n) (h1 : n < 65003) (s : ByteArray) (hs : s.size ≤ maxLen) (w : World) :
    Calls Try.prog 38 #[.int .i64 n, .string s] w fun e w' => e = .returned (.tuple #[.int .i64 (chkFrom n s 0), .bool true]) ∧ w = w' := by
  unfold maxLen at hs
  go_enter Try.func38, Try.ntmps38
  go_wp2
  go_loop [6, 17] (fun c i => ∃ (k : Nat) (m : Int), k ≤ s.size ∧ i = .int .i64 k ∧ c = .int .i64 m ∧ 0 ≤ m ∧ m < 65003 ∧ Hid (chkFrom m s k = chkFrom n s 0)) (fun _ i => s.size - (intOf i).toNat)
  case atStart => exact ⟨0, n, Nat.zero_le _, rfl, rfl, h0, h1, rfl⟩
  case round =>
    obtain ⟨k, m, hk, rfl, rfl, m0, m1, hl⟩ := hrel
    by_cases hlt : k < s.size
    · have hstep := (show Hid _ from chk_step m s k hlt)
      have c1 : (s[k].toNat : Int) < 256 := by have := s[k].toNat_lt; omega
      have c0 : 0 ≤ (s[k].toNat : Int) := by omega
      go_wp2
      go_round
      case rel => exact ⟨k + 1, (797 * m + (s[k].toNat : Int) + 101) % 65003, by omega, by go_num, rfl, by omega, by omega, by rw [← hl.out, hstep.out]; rfl⟩
      case measure => simp [intOf]; omega
    · have hend := chk_end m s k hlt
      have HC : Hid (chkFrom n s 0 = m) := by
        show chkFrom n s 0 = m
        rw [← hl.out, hend]
      clear hend
      go_wp2
      go_ret2
      exact ⟨by rw [HC.out]; rfl, rfl⟩
theorem checkOf_no (n : Int) (h : ¬ (0 ≤ n ∧ n < 65003)) (s : ByteArray) (w : World) :
    Calls Try.prog 38 #[.int .i64 n, .string s] w fun e w' => e = .returned (.tuple #[.int .i64 0, .bool false]) ∧ w = w' := by
  by_cases h0 : n < 0
  · clear h
    go_enter Try.func38, Try.ntmps38
    go_wp2
    go_ret2
    exact ⟨rfl, rfl⟩
  · have h1 : 65003 ≤ n := by omega
    clear h
    go_enter Try.func38, Try.ntmps38
    go_wp2
    go_ret2
    exact ⟨rfl, rfl⟩
theorem FnExactCheckOf_walk (a0 : Int) (a1 : ByteArray) (w : World) (_w0 : (Lit.int .i64 a0).wf = true) (w1 : a1.size ≤ maxLen) :
    Calls Try.prog 8 #[.int .i64 a0, .string a1] w fun e w' => e = .returned (.bool true) ∧ Below w.heap.size w w' := by
  have hs := w1
  unfold maxLen at hs
  by_cases hbig : 1048576 < a1.size
  · go_enter Try.func8, Try.ntmps8
    go_wp2
    go_ret
    exact ⟨rfl, Below.refl _ _⟩
  · by_cases h : 0 ≤ a0 ∧ a0 < 65003
    · obtain ⟨h0, h1⟩ := h
      go_enter Try.func8, Try.ntmps8
      go_wp2_with (first | (go_at_call 37; refine (sCheckOf_yes _ h0 h1 _ w1 _).mono ?_; rintro e w' ⟨rfl, rfl⟩) | (go_at_call 38; refine (checkOf_yes _ h0 h1 _ w1 _).mono ?_; rintro e w' ⟨rfl, rfl⟩))
      go_ret
      exact ⟨rfl, Below.refl _ _⟩
    · go_enter Try.func8, Try.ntmps8
      go_wp2_with (first | (go_at_call 37; refine (sCheckOf_no _ h _ _).mono ?_; rintro e w' ⟨rfl, rfl⟩) | (go_at_call 38; refine (checkOf_no _ h _ _).mono ?_; rintro e w' ⟨rfl, rfl⟩))
      go_ret
      exact ⟨rfl, Below.refl _ _⟩
end Go.Proofs.Ytlgamkbonpjchac

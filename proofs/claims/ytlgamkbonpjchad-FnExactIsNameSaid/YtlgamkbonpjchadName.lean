/- Names. -/
import Derived.Test.YtlgamkbonpjchadRows
import Derived.Test.YtlgamkbonpjchadRow
import Derived.KernelRfl
import Derived.Laws.RangeAny
namespace Go.Proofs.Ytlgamkbonpjchad
open Go.RowKit Flt

/-- is the byte a letter a to z? -/
def letterB (c : UInt8) : Bool := decide (97 ≤ c.toNat) && decide (c.toNat ≤ 122)
/-- are all bytes from k on letters? -/
def lettersFrom (s : ByteArray) (k : Nat) : Bool := (s.data.toList.drop k).all letterB
def nameB (s : ByteArray) : Bool := lettersFrom s 0 && decide (1 ≤ s.size) && decide (s.size ≤ 8)

theorem letters_step (s : ByteArray) (k : Nat) (h : k < s.size) : lettersFrom s k = (letterB (s[k]'h) && lettersFrom s (k + 1)) := by
  unfold lettersFrom
  rw [List.drop_eq_getElem_cons (by simpa using h)]
  rfl
theorem letters_end (s : ByteArray) (k : Nat) (h : ¬ k < s.size) : lettersFrom s k = true := by
  unfold lettersFrom
  rw [List.drop_of_length_le (by simp; omega)]; rfl

theorem sIsName_any (s : ByteArray) (hs : s.size ≤ maxLen) (w : World) : Calls Try.prog 4 #[.string s] w fun e w' => e = .returned (.bool (nameB s)) ∧ w = w' := by
  unfold maxLen at hs
  go_enter Try.func4, Try.ntmps4
  go_wp2
  go_loop [3] (fun i => ∃ k : Nat, k ≤ s.size ∧ i = .int .i64 k ∧ Hid (lettersFrom s k = lettersFrom s 0)) (fun i => s.size - (intOf i).toNat)
  case atStart => exact ⟨0, Nat.zero_le _, rfl, rfl⟩
  case round =>
    obtain ⟨k, hk, rfl, hl⟩ := hrel
    by_cases hlt : k < s.size
    · have hstep := (show Hid _ from letters_step s k hlt)
      by_cases hc : letterB s[k] = true
      · have c1 : 97 ≤ (s[k].toNat : Int) := by simp [letterB] at hc; omega
        have c2 : (s[k].toNat : Int) ≤ 122 := by simp [letterB] at hc; omega
        have HC := (show Hid _ from hc)
        clear hc
        go_wp2
        go_round
        case rel => exact ⟨k + 1, by omega, by go_num, by rw [← hl.out, hstep.out, HC.out]; rfl⟩
        case measure => simp [intOf]; omega
      · have hc' : letterB s[k] = false := by simpa using hc
        have HC : Hid (nameB s = false) := by
          show nameB s = false
          unfold nameB; rw [← hl.out, hstep.out, hc']; rfl
        have hcc : (s[k].toNat : Int) < 97 ∨ (97 ≤ (s[k].toNat : Int) ∧ 122 < (s[k].toNat : Int)) := by
          simp [letterB] at hc'; omega
        clear hc hc'
        rcases hcc with h1 | ⟨h1, h2⟩
        all_goals
          go_wp2
          go_ret
          exact ⟨by rw [HC.out]; rfl, rfl⟩
    · have hall : Hid (nameB s = (decide (1 ≤ s.size) && decide (s.size ≤ 8))) := by
        show nameB s = _
        unfold nameB; rw [← hl.out, letters_end s k hlt]; rfl
      by_cases h1 : 1 ≤ s.size
      · by_cases h2 : s.size ≤ 8
        all_goals
          go_wp2
          go_ret
          exact ⟨ret_bool (by rw [hall.out]; simp [h1, h2] <;> omega), rfl⟩
      · go_wp2
        go_ret
        exact ⟨ret_bool (by rw [hall.out]; simp [h1]), rfl⟩
theorem decode_letter (s : ByteArray) (k : Nat) (h : k < s.size) (hc : letterB (s[k]'h) = true) : Utf8.decode s k = ((s[k]'h).toNat, 1) := by
  refine decode_ascii s k h ?_
  simp [letterB] at hc; omega
theorem decode_other (s : ByteArray) (k : Nat) (h : k < s.size) (hc : letterB (s[k]'h) = false) : (Utf8.decode s k).1 < 97 ∨ 122 < (Utf8.decode s k).1 := by
  by_cases ha : (s[k]'h).toNat < 128
  · rw [decode_ascii s k h ha]
    simp [letterB] at hc; omega
  · have := (decode_high s k h (by omega)).1
    omega
theorem below_iter (w : World) (s : ByteArray) (p : Nat) : Below w.heap.size w (w.iter s p) :=
  ⟨rfl, rfl, rfl, by show w.heap.size ≤ (w.heap.push _).size; simp, fun k hk => Below.heap_alloc w _ k hk⟩

theorem isName_any (s : ByteArray) (hs : s.size ≤ maxLen) (w : World) : Calls Try.prog 5 #[.string s] w fun e w' => e = .returned (.bool (nameB s)) ∧ Below w.heap.size w w' := by
  unfold maxLen at hs
  by_cases h1 : s.size < 1
  · have H : Hid (nameB s = false) := by
      show nameB s = false
      unfold nameB; simp; omega
    go_enter Try.func5, Try.ntmps5
    go_wp2
    go_ret
    exact ⟨by rw [H.out]; rfl, Below.refl _ _⟩
  by_cases h2 : 8 < s.size
  · have H : Hid (nameB s = false) := by
      show nameB s = false
      unfold nameB; simp; omega
    go_enter Try.func5, Try.ntmps5
    go_wp2
    go_ret
    exact ⟨by rw [H.out]; rfl, Below.refl _ _⟩
  have H : Hid (nameB s = lettersFrom s 0) := by
    show nameB s = _
    have e1 : decide (1 ≤ s.size) = true := by simp; omega
    have e2 : decide (s.size ≤ 8) = true := by simp; omega
    unfold nameB; rw [e1, e2]; simp
  go_enter Try.func5, Try.ntmps5
  go_wp2
  go_loopw [4] (fun _ wr => ∃ k : Nat, k ≤ s.size ∧ wr = w.iter s k ∧ Hid (lettersFrom s k = lettersFrom s 0)) (fun _ wr => s.size - wr.iterPos w.heap.size)
  case atStart => exact ⟨0, Nat.zero_le _, rfl, rfl⟩
  case round =>
    obtain ⟨k, hk, rfl, hl⟩ := hrel
    by_cases hlt : k < s.size
    · have hstep := (show Hid _ from letters_step s k hlt)
      cases hc : letterB s[k] with
      | true =>
        have hd := decode_letter s k hlt hc
        have hnx : ∀ ty, (Instr.next (.pointer (some ⟨w.heap.size, 0, none⟩)) true ty).run Try.prog (w.iter s k) = _ := fun ty => run_next_any w s k ty hlt
        rw [hd] at hnx
        have c1 : 97 ≤ (s[k].toNat : Int) := by simp [letterB] at hc; omega
        have c2 : (s[k].toNat : Int) ≤ 122 := by simp [letterB] at hc; omega
        have HC := (show Hid _ from hc)
        clear hc hd
        go_wp2
        go_roundw
        case rel => exact ⟨k + 1, by omega, rfl, by rw [← hl.out, hstep.out, HC.out]; rfl⟩
        case measure => simp; omega
      | false =>
        have hcc := decode_other s k hlt hc
        have hnx : ∀ ty, (Instr.next (.pointer (some ⟨w.heap.size, 0, none⟩)) true ty).run Try.prog (w.iter s k) = _ := fun ty => run_next_any w s k ty hlt
        have HC : Hid (nameB s = false) := by
          show nameB s = false
          rw [H.out, ← hl.out, hstep.out, hc]; rfl
        clear hc
        rcases hcc with g | g
        · have g' : ((Utf8.decode s k).1 : Int) < 97 := by omega
          go_wp2
          go_ret
          exact ⟨by rw [HC.out]; rfl, below_iter _ _ _⟩
        · have g' : 122 < ((Utf8.decode s k).1 : Int) := by omega
          have g2 : ¬ ((Utf8.decode s k).1 : Int) < 97 := by omega
          go_wp2
          go_ret
          exact ⟨by rw [HC.out]; rfl, below_iter _ _ _⟩
    · have hnx : ∀ ty, (Instr.next (.pointer (some ⟨w.heap.size, 0, none⟩)) true ty).run Try.prog (w.iter s k) = _ := fun ty => run_next_end w s k ty hlt
      have HC : Hid (nameB s = true) := by
        show nameB s = true
        rw [H.out, ← hl.out, letters_end s k hlt]
      go_wp2
      go_ret
      exact ⟨by rw [HC.out]; rfl, below_iter _ _ _⟩
theorem FnExactIsName_walk (a0 : ByteArray) (w : World) (w0 : a0.size ≤ maxLen) :
    Calls Try.prog 3 #[.string a0] w fun e w' => e = .returned (.bool true) ∧ Below w.heap.size w w' := by
  by_cases hbig : 1048576 < a0.size
  · have hs := w0
    unfold maxLen at hs
    go_enter Try.func3, Try.ntmps3
    go_wp2
    go_ret
    exact ⟨rfl, Below.refl _ _⟩
  · have hs := w0
    unfold maxLen at hs
    go_enter Try.func3, Try.ntmps3
    go_wp2_with (first | (go_at_call 4; refine (sIsName_any _ w0 _).mono ?_; rintro e w' ⟨rfl, rfl⟩) | (go_at_call 5; refine (isName_any _ w0 _).mono ?_; rintro e w' ⟨rfl, hb⟩))
    go_ret
    exact ⟨rfl, hb⟩
end Go.Proofs.Ytlgamkbonpjchad

/- Names of sounds. -/
import Derived.Test.YthinjgiakaflpaaD1
import Derived.Laws.RangeAny
namespace Go.Proofs.Ythinjgiakaflpaa
open Go.RowKit Flt
set_option linter.unusedVariables false

/-- is the byte a letter a to z? -/
def letterB (c : UInt8) : Bool := decide (97 ≤ c.toNat) && decide (c.toNat ≤ 122)
/-- are all bytes from k on letters? -/
def lettersFrom (s : ByteArray) (k : Nat) : Bool := (s.data.toList.drop k).all letterB
theorem letters_step (s : ByteArray) (k : Nat) (h : k < s.size) : lettersFrom s k = (letterB (s[k]'h) && lettersFrom s (k + 1)) := by
  unfold lettersFrom
  rw [List.drop_eq_getElem_cons (by simpa using h)]
  rfl
theorem letters_end (s : ByteArray) (k : Nat) (h : ¬ k < s.size) : lettersFrom s k = true := by
  unfold lettersFrom
  rw [List.drop_of_length_le (by simp; omega)]; rfl

theorem decode_letter (s : ByteArray) (k : Nat) (h : k < s.size) (hc : letterB (s[k]'h) = true) : Utf8.decode s k = ((s[k]'h).toNat, 1) := by
  refine decode_ascii s k h ?_
  simp [letterB] at hc; omega
theorem decode_other (s : ByteArray) (k : Nat) (h : k < s.size) (hc : letterB (s[k]'h) = false) : (Utf8.decode s k).1 < 97 ∨ 122 < (Utf8.decode s k).1 := by
  by_cases ha : (s[k]'h).toNat < 128
  · rw [decode_ascii s k h ha]
    simp [letterB] at hc; omega
  · have := (decode_high s k h (by omega)).1
    omega
theorem below_iter (w : World) (s : ByteArray) (p : Nat) : Below w.heap.size w (w.iter s p) :=
  ⟨rfl, rfl, rfl, by show w.heap.size ≤ (w.heap.push _).size; simp, fun k hk => Below.heap_alloc w _ k hk⟩

/-- a name of 1 to 4 letters -/
def nameS (s : ByteArray) : Bool := lettersFrom s 0 && (decide (1 ≤ s.size) && decide (s.size ≤ 4))
theorem nameS_bad {s : ByteArray} (h : lettersFrom s 0 = false) : nameS s = false := by unfold nameS; rw [h]; rfl
theorem nameS_good {s : ByteArray} (h : lettersFrom s 0 = true) : nameS s = (decide (1 ≤ s.size) && decide (s.size ≤ 4)) := by unfold nameS; rw [h]; rfl
theorem name_end1 {n : Nat} (h : 1 ≤ n) : decide ((n : Int) ≤ 4) = (decide (1 ≤ n) && decide (n ≤ 4)) := by
  have e : decide ((n : Int) ≤ 4) = decide (n ≤ 4) := by simp only [decide_eq_decide]; omega
  rw [e, decide_eq_true h]; rfl
theorem name_end0 {n : Nat} (h : ¬ 1 ≤ n) : false = (decide (1 ≤ n) && decide (n ≤ 4)) := by rw [decide_eq_false h]; rfl
set_option maxHeartbeats 2000000 in
theorem l06Name_any (s : ByteArray) (hs : s.size ≤ 1048576) (w : World) : Calls Try.prog 109 #[.string s] w fun e w' => e = .returned (.bool (nameS s)) ∧ w = w' := by
  by_cases hq : ¬ s.size ≤ 4
  · have H : Hid (nameS s = false) := hid (by unfold nameS; simp; omega)
    go_enter Try.func109, Try.ntmps109
    go_wp2
    go_loop [3] (fun i => i = .int .i64 0) (fun i => 0)
    case atStart => rfl
    case round =>
      subst hrel
      have h0 : 0 < s.size := by omega
      have h1 : 1 ≤ s.size := by omega
      have h4 : ¬ s.size ≤ 4 := by omega
      go_wp2
      go_ret
      exact ⟨ret_bool (by rw [H.out]; first | rfl | (simp; done) | (simp; omega)), rfl⟩
  have h4 : s.size ≤ 4 := by omega
  clear hq
  go_enter Try.func109, Try.ntmps109
  go_wp2
  go_loop [3] (fun i => ∃ k : Nat, k ≤ s.size ∧ i = .int .i64 k ∧ Hid (lettersFrom s k = lettersFrom s 0)) (fun i => s.size - (intOf i).toNat)
  case atStart => exact ⟨0, Nat.zero_le _, rfl, rfl⟩
  case round =>
    obtain ⟨k, hk, rfl, hl⟩ := hrel
    by_cases hlt : k < s.size
    · have hstep := (show Hid _ from letters_step s k hlt)
      by_cases hc : letterB s[k] = true
      · have c1 : 97 ≤ (s[k].toNat : Int) := by simp [letterB] at hc; omega
        have c2 : (s[k].toNat : Int) ≤ 122 := by simp [letterB] at hc; omega
        have HC := (show Hid _ from hc)
        clear hc
        go_wp2
        go_round
        case rel => exact ⟨k + 1, by omega, by go_num, by rw [← hl.out, hstep.out, HC.out]; rfl⟩
        case measure => simp [intOf]; omega
      · have hc' : letterB s[k] = false := by simpa using hc
        have HC : Hid (nameS s = false) := hid (nameS_bad (by rw [← hl.out, hstep.out, hc']; rfl))
        have hcc : (s[k].toNat : Int) < 97 ∨ (97 ≤ (s[k].toNat : Int) ∧ 122 < (s[k].toNat : Int)) := by
          simp [letterB] at hc'; omega
        clear hc hc'
        rcases hcc with h1 | ⟨h1, h2⟩
        all_goals
          go_wp2
          go_ret
          exact ⟨by rw [HC.out]; rfl, rfl⟩
    · have hall := hid (nameS_good (show lettersFrom s 0 = true from by rw [← hl.out, letters_end s k hlt]))
      by_cases h1 : 1 ≤ s.size
      all_goals
        go_wp2
        go_ret
        exact ⟨ret_bool (by rw [hall.out]; first | exact name_end1 h1 | exact name_end0 h1 | (simp [h1, h4]; done) | (simp [h1]; done)), rfl⟩
set_option maxHeartbeats 2000000 in
theorem isSoundName_any (s : ByteArray) (hs : s.size ≤ 1048576) (w : World) : Calls Try.prog 73 #[.string s] w fun e w' => e = .returned (.bool (nameS s)) ∧ Ext w w' := by
  go_enter Try.func73, Try.ntmps73
  go_wp2
  go_loopw [4] (fun _ wr => ∃ k : Nat, k ≤ s.size ∧ wr = w.iter s k ∧ Hid (lettersFrom s k = lettersFrom s 0)) (fun _ wr => s.size - wr.iterPos w.heap.size)
  case atStart => exact ⟨0, Nat.zero_le _, rfl, rfl⟩
  case round =>
    obtain ⟨k, hk, rfl, hl⟩ := hrel
    by_cases hlt : k < s.size
    · have hstep := (show Hid _ from letters_step s k hlt)
      cases hc : letterB s[k] with
      | true =>
        have hd := decode_letter s k hlt hc
        have hnx : ∀ ty, (Instr.next (.pointer (some ⟨w.heap.size, 0, none⟩)) true ty).run Try.prog (w.iter s k) = _ := fun ty => run_next_any w s k ty hlt
        rw [hd] at hnx
        have c1 : 97 ≤ (s[k].toNat : Int) := by simp [letterB] at hc; omega
        have c2 : (s[k].toNat : Int) ≤ 122 := by simp [letterB] at hc; omega
        have HC := (show Hid _ from hc)
        clear hc hd
        go_wp2
        go_roundw
        case rel => exact ⟨k + 1, by omega, rfl, by rw [← hl.out, hstep.out, HC.out]; rfl⟩
        case measure => simp; omega
      | false =>
        have hcc := decode_other s k hlt hc
        have hnx : ∀ ty, (Instr.next (.pointer (some ⟨w.heap.size, 0, none⟩)) true ty).run Try.prog (w.iter s k) = _ := fun ty => run_next_any w s k ty hlt
        have HC : Hid (nameS s = false) := hid (nameS_bad (by rw [← hl.out, hstep.out, hc]; rfl))
        clear hc
        rcases hcc with g | g
        · have g' : ((Utf8.decode s k).1 : Int) < 97 := by omega
          go_wp2
          go_ret
          exact ⟨by rw [HC.out]; rfl, below_iter _ _ _⟩
        · have g' : 122 < ((Utf8.decode s k).1 : Int) := by omega
          have g2 : ¬ ((Utf8.decode s k).1 : Int) < 97 := by omega
          go_wp2
          go_ret
          exact ⟨by rw [HC.out]; rfl, below_iter _ _ _⟩
    · have hnx : ∀ ty, (Instr.next (.pointer (some ⟨w.heap.size, 0, none⟩)) true ty).run Try.prog (w.iter s k) = _ := fun ty => run_next_end w s k ty hlt
      have hall := hid (nameS_good (show lettersFrom s 0 = true from by rw [← hl.out, letters_end s k hlt]))
      by_cases h1 : 1 ≤ s.size
      · by_cases h4 : s.size ≤ 4
        all_goals
          go_wp2
          go_ret
          exact ⟨ret_bool (by rw [hall.out]; first | exact name_end1 h1 | exact name_end0 h1 | (simp [h1, h4]; done) | (simp [h1]; done)), below_iter _ _ _⟩
      · go_wp2
        go_ret
        exact ⟨ret_bool (by rw [hall.out]; first | exact name_end0 h1 | (simp [h1]; done)), below_iter _ _ _⟩

end Go.Proofs.Ythinjgiakaflpaa

/- The class of a float word: 'none' for a not-a-number, else the word; the walk's laws on float operations whose not-a-numbers come off the tape. -/
import Derived.WalkKit
import Derived.WalkLawsBesides
import Derived.Laws.FloatArith
import Derived.Deep.Draws
import Derived.Below
namespace Go.Proofs.Ythinjgiakaflpab.Flt
open Ieee Go.RowKit

/-- is the word a not-a-number? -/
def nanW (k : FloatKind) (b : Nat) : Bool := decide (k.format.infRung < b % k.format.signWeight)
/-- the class of a word -/
def cls (k : FloatKind) (b : Nat) : Option Nat := if nanW k b then none else some b
/-- the operations on classes -/
def fop (op : BinOp) (k : FloatKind) (x y : Option Nat) : Option Nat := x.bind fun a => y.bind fun b => floatBits op k a b
/-- comparisons of classes -/
def ford (k : FloatKind) (x y : Option Nat) : Option Ordering := x.bind fun a => y.bind fun b => k.format.order a b

theorem word_mod (f : Format) (s : Bool) (r : Nat) (h : r < f.signWeight) : f.word s r % f.signWeight = r := by
  unfold Format.word
  split
  · rw [Nat.add_mod_left, Nat.mod_eq_of_lt h]
  · exact Nat.mod_eq_of_lt h

theorem binade_le (k : FloatKind) : k.format.binade ≤ k.format.infRung := by cases k <;> decide
theorem infRung_pos (k : FloatKind) : 0 < k.format.infRung := by cases k <;> decide

theorem read_nan (k : FloatKind) (b : Nat) : (k.format.read b).isNaN = nanW k b := by
  unfold Format.read nanW
  have := binade_le k
  dsimp only
  split
  · simp [Datum.isNaN]; omega
  · split
    · simp [Datum.isNaN]; omega
    · split
      · simp [Datum.isNaN]; omega
      · simp [Datum.isNaN]; omega

theorem word_num (k : FloatKind) (s : Bool) (r : Nat) (h : r ≤ k.format.infRung) : nanW k (k.format.word s r) = false := by
  unfold nanW
  rw [word_mod _ _ _ (by have := k.format.infRung_lt; omega)]
  simp; exact h

theorem write_num (k : FloatKind) (d : Datum) (h : d.isNaN = false) : nanW k (k.format.write d) = false := by
  cases d with
  | number s m e =>
    simp only [Format.write, Format.nearest]
    split
    · exact word_num k _ _ (Nat.zero_le _)
    · exact word_num k _ _ (Nat.min_le_right ..)
  | infinity s => exact word_num k _ _ (Nat.le_refl _)
  | nan s t => simp [Datum.isNaN] at h

theorem sum_num {x y d : Datum} (h : x.sum y = some d) : d.isNaN = false := by
  cases x <;> cases y <;> simp [Datum.sum] at h
  all_goals first | (subst h; rfl) | (obtain ⟨_, rfl⟩ := h; rfl) | skip
theorem product_num {x y d : Datum} (h : x.product y = some d) : d.isNaN = false := by
  cases x <;> cases y <;> simp [Datum.product] at h
  all_goals first | (subst h; rfl) | (obtain ⟨_, rfl⟩ := h; rfl) | skip
theorem quotient_num {n : Nat} {x y d : Datum} (h : x.quotient n y = some d) : d.isNaN = false := by
  cases x <;> cases y <;> simp [Datum.quotient] at h
  all_goals first | (subst h; rfl) | (obtain ⟨_, rfl⟩ := h; rfl) | skip
  rename_i s1 m1 e1 s2 m2 e2
  by_cases h2 : m2 = 0
  · rw [if_pos h2] at h
    by_cases h1 : m1 = 0
    · simp [h1] at h
    · simp [h1] at h; subst h; rfl
  · rw [if_neg h2] at h; simp at h; subst h; rfl
theorem root_num {n : Nat} {x d : Datum} (h : x.root n = some d) : d.isNaN = false := by
  cases x with
  | number s m i =>
    simp only [Datum.root] at h
    by_cases h1 : m = 0
    · rw [if_pos h1] at h; cases h; rfl
    · rw [if_neg h1] at h
      cases s
      · simp at h; subst h; rfl
      · simp at h
  | infinity s => cases s <;> simp [Datum.root] at h; subst h; rfl
  | nan s t => simp [Datum.root] at h

theorem map_write_num (k : FloatKind) {d : Option Datum} {r : Nat} (hd : ∀ x, d = some x → x.isNaN = false) (h : d.map k.format.write = some r) : nanW k r = false := by
  cases d with
  | none => cases h
  | some d => cases h; exact write_num k d (hd _ rfl)

/-- what an operation gives is no not-a-number -/
theorem floatBits_num {op : BinOp} {k : FloatKind} {x y r : Nat} (h : floatBits op k x y = some r) : nanW k r = false := by
  unfold floatBits at h
  split at h
  · exact map_write_num k (fun _ => sum_num) h
  · exact map_write_num k (fun _ => sum_num) h
  · exact map_write_num k (fun _ => product_num) h
  · exact map_write_num k (fun _ => quotient_num) h
  · cases h

theorem nan_form {d : Datum} (h : d.isNaN = true) : ∃ s t, d = .nan s t := by
  cases d <;> simp [Datum.isNaN] at h
  exact ⟨_, _, rfl⟩

theorem sum_nan_left (x y : Datum) (h : x.isNaN = true) : x.sum y = none := by
  obtain ⟨s, t, rfl⟩ := nan_form h; cases y <;> rfl
theorem sum_nan_right (x y : Datum) (h : y.isNaN = true) : x.sum y = none := by
  obtain ⟨s, t, rfl⟩ := nan_form h; cases x <;> rfl
theorem product_nan_left (x y : Datum) (h : x.isNaN = true) : x.product y = none := by
  obtain ⟨s, t, rfl⟩ := nan_form h; cases y <;> rfl
theorem product_nan_right (x y : Datum) (h : y.isNaN = true) : x.product y = none := by
  obtain ⟨s, t, rfl⟩ := nan_form h; cases x <;> rfl
theorem quotient_nan_left (n : Nat) (x y : Datum) (h : x.isNaN = true) : x.quotient n y = none := by
  obtain ⟨s, t, rfl⟩ := nan_form h; cases y <;> rfl
theorem quotient_nan_right (n : Nat) (x y : Datum) (h : y.isNaN = true) : x.quotient n y = none := by
  obtain ⟨s, t, rfl⟩ := nan_form h; cases x <;> rfl
theorem order_nan_left (x y : Datum) (h : x.isNaN = true) : x.order y = none := by
  obtain ⟨s, t, rfl⟩ := nan_form h; cases y <;> rfl
theorem order_nan_right (x y : Datum) (h : y.isNaN = true) : x.order y = none := by
  obtain ⟨s, t, rfl⟩ := nan_form h; cases x <;> rfl
theorem opposite_nan (x : Datum) : x.opposite.isNaN = x.isNaN := by cases x <;> rfl

/-- an operation's outcome hangs on the classes alone -/
theorem floatBits_cls (op : BinOp) (k : FloatKind) (x y : Nat) : floatBits op k x y = fop op k (cls k x) (cls k y) := by
  unfold fop cls
  by_cases hx : nanW k x = true
  · have hx' := hx; rw [← read_nan] at hx'
    simp only [hx, if_true, Option.bind_none]
    unfold floatBits
    split
    · simp [Format.add, sum_nan_left _ _ hx']
    · simp [Format.sub, sum_nan_left _ _ hx']
    · simp [Format.mul, product_nan_left _ _ hx']
    · simp [Format.div, quotient_nan_left _ _ _ hx']
    · rfl
  · by_cases hy : nanW k y = true
    · have hy' := hy; rw [← read_nan] at hy'
      simp only [hx, hy, if_true, Option.bind_none]
      unfold floatBits
      split
      · simp [Format.add, sum_nan_right _ _ hy']
      · simp [Format.sub, sum_nan_right _ _ ((opposite_nan _).trans hy')]
      · simp [Format.mul, product_nan_right _ _ hy']
      · simp [Format.div, quotient_nan_right _ _ _ hy']
      · simp
    · simp [hx, hy]

theorem order_cls (k : FloatKind) (x y : Nat) : k.format.order x y = ford k (cls k x) (cls k y) := by
  unfold ford cls Format.order
  by_cases hx : nanW k x = true
  · have hx' := hx; rw [← read_nan] at hx'
    simp [hx, order_nan_left _ _ hx']
  · by_cases hy : nanW k y = true
    · have hy' := hy; rw [← read_nan] at hy'
      simp [hx, hy, order_nan_right _ _ hy']
    · simp [hx, hy]

/-- a not-a-number off the tape is one, and fits -/
theorem tape_nan (k : FloatKind) (x y t : Nat) : nanW k ((Question.nanBits k x y).cut t) = true ∧ (Question.nanBits k x y).cut t < 2 ^ k.format.width := by
  cases k
  · have e1 : FloatKind.f32.format.infRung = 0x7f800000 := by decide
    have e2 : FloatKind.f32.format.signWeight = 2147483648 := by decide
    have e3 : 2 ^ FloatKind.f32.format.width = 4294967296 := by decide
    simp only [nanW, Question.cut, e1, e2, e3, decide_eq_true_eq, show (2:Nat) ^ 31 = 2147483648 from rfl, show (2:Nat) ^ 23 - 1 = 8388607 from rfl]
    rcases Nat.mod_two_eq_zero_or_one t with h | h <;> rw [h] <;> omega
  · have e1 : FloatKind.f64.format.infRung = 0x7ff0000000000000 := by decide
    have e2 : FloatKind.f64.format.signWeight = 9223372036854775808 := by decide
    have e3 : 2 ^ FloatKind.f64.format.width = 18446744073709551616 := by decide
    simp only [nanW, Question.cut, e1, e2, e3, decide_eq_true_eq, show (2:Nat) ^ 63 = 9223372036854775808 from rfl, show (2:Nat) ^ 52 - 1 = 4503599627370495 from rfl]
    rcases Nat.mod_two_eq_zero_or_one t with h | h <;> rw [h] <;> omega
theorem tape_nanConv (k : FloatKind) (x t : Nat) : nanW k ((Question.nanConv k x).cut t) = true ∧ (Question.nanConv k x).cut t < 2 ^ k.format.width := by
  have := tape_nan k x x t
  cases k <;> exact this

theorem cls_num {k : FloatKind} {r : Nat} (h : nanW k r = false) : cls k r = some r := by simp [cls, h]
theorem cls_nan {k : FloatKind} {r : Nat} (h : nanW k r = true) : cls k r = none := by simp [cls, h]

theorem lt_of_wf {k : FloatKind} {r : Nat} (h : (Lit.float k r).wf = true) : r < 2 ^ k.format.width := by
  cases k
  · have e3 : 2 ^ FloatKind.f32.format.width = 4294967296 := by decide
    rw [e3]; simpa [Lit.wf] using h
  · have e3 : 2 ^ FloatKind.f64.format.width = 18446744073709551616 := by decide
    rw [e3]; simpa [Lit.wf] using h

/-- a float operation: it gives some word of the class that the classes tell; at most one draw -/
theorem run_farith {P : Program} (w : World) (op : BinOp) (hop : op = .add ∨ op = .sub ∨ op = .mul ∨ op = .quo) (t : TypeId) (k : FloatKind) (x y : Nat) :
    ∃ r n, (binOp op t (.float k x) (.float k y)).run P w = .ok (.float k r) (w.drewN n) ∧ cls k r = fop op k (cls k x) (cls k y) ∧ r < 2 ^ k.format.width := by
  cases h : floatBits op k x y with
  | some r =>
    refine ⟨r, 0, run_float_arith w op t k x y r h, ?_, ?_⟩
    · rw [← floatBits_cls, h]; exact cls_num (floatBits_num h)
    · exact lt_of_wf (floatBits_wf h)
  | none =>
    refine ⟨(Question.nanBits k x y).cut (w.tape w.drawn (.nanBits k x y)), 1, ?_, ?_, (tape_nan ..).2⟩
    · unfold floatBits at h
      rcases hop with rfl | rfl | rfl | rfl <;> simp only at h <;> simp [binOp, Op.floatArith, h, Question.forced] <;> rfl
    · rw [← floatBits_cls, h]; exact cls_nan (tape_nan ..).1

/-! widening -/
theorem cut_zero (neg : Bool) (n : Nat) : Toward.even.cut neg n 0 = n := by
  simp [Toward.cut, Nat.mod_one]

theorem log2_lt {m n : Nat} (h : m < 2 ^ n) (hm : m ≠ 0) : m.log2 < n := (Nat.log2_lt hm).2 h
theorem le_log2 {m n : Nat} (hm : m ≠ 0) (h : 2 ^ n ≤ m) : n ≤ m.log2 := (Nat.le_log2 hm).2 h

theorem shl_log2 {m k : Nat} (hm : m ≠ 0) (h : m.log2 ≤ k) : 2 ^ k ≤ m <<< (k - m.log2) ∧ m <<< (k - m.log2) < 2 ^ (k + 1) := by
  rw [Nat.shiftLeft_eq]
  have h1 : 2 ^ m.log2 ≤ m := Nat.log2_self_le hm
  have h2 : m < 2 ^ (m.log2 + 1) := Nat.lt_log2_self
  have e : 2 ^ k = 2 ^ m.log2 * 2 ^ (k - m.log2) := by rw [← Nat.pow_add]; congr 1; omega
  have e2 : 2 ^ (k + 1) = 2 ^ (m.log2 + 1) * 2 ^ (k - m.log2) := by rw [← Nat.pow_add]; congr 1; omega
  have hp : 0 < 2 ^ (k - m.log2) := Nat.two_pow_pos _
  constructor
  · rw [e]; exact Nat.mul_le_mul_right _ h1
  · rw [e2]; exact Nat.mul_lt_mul_of_pos_right h2 hp

/-- a number that the wider format has: its word, and what the word stands for -/
theorem wide_word (s : Bool) (m : Nat) (e : Int) (hm : m ≠ 0) (hl : m.log2 ≤ 52) (h1 : -1074 ≤ e + m.log2 - 52) (h2 : e + m.log2 ≤ 1023) :
    FloatKind.f64.format.read (FloatKind.f64.format.nearest s m e) = .number s (m <<< (52 - m.log2)) (e + m.log2 - 52) := by
  have hF : FloatKind.f64.format.leastPlace = -1074 := by decide
  have hB : FloatKind.f64.format.binade = 2 ^ 52 := by decide
  have hI : FloatKind.f64.format.infRung = 2047 * 2 ^ 52 := by decide
  have hS : FloatKind.f64.format.signWeight = 2048 * 2 ^ 52 := by decide
  have hf : (FloatKind.f64.format.fractionBits : Int) = 52 := by decide
  have hlast : max (e + m.log2 - FloatKind.f64.format.fractionBits) FloatKind.f64.format.leastPlace = e + m.log2 - 52 := by rw [hF, hf]; omega
  obtain ⟨hn1, hn2⟩ := shl_log2 hm hl
  generalize hn : m <<< (52 - m.log2) = n at hn1 hn2 ⊢
  have e1 : (e - (e + (m.log2 : Int) - 52)).toNat = 52 - m.log2 := by omega
  have e2 : (e + (m.log2 : Int) - 52 - e).toNat = 0 := by omega
  have e3 : ∃ q : Nat, e + (m.log2 : Int) - 52 - -1074 = q ∧ q ≤ 2045 := ⟨(e + (m.log2 : Int) - 52 - -1074).toNat, by omega, by omega⟩
  obtain ⟨q, hq, hq2⟩ := e3
  have hw : FloatKind.f64.format.nearest s m e = FloatKind.f64.format.word s (q * 2 ^ 52 + n) := by
    unfold Format.nearest
    rw [if_neg hm]
    dsimp only
    rw [hlast, e1, e2, hn, cut_zero, hF, hq, hB, hI]
    congr 1
    rw [Int.toNat_natCast]
    have h3 : q * 2 ^ 52 ≤ 2045 * 2 ^ 52 := Nat.mul_le_mul_right _ hq2
    have h4 : (2 : Nat) ^ (52 + 1) = 2 * 2 ^ 52 := by rw [Nat.pow_succ]
    rw [h4] at hn2
    generalize (2 : Nat) ^ 52 = B at *
    exact Nat.min_eq_left (by omega)
  rw [hw]
  have hlt : q * 2 ^ 52 + n < 2047 * 2 ^ 52 := by
    have : q * 2 ^ 52 ≤ 2045 * 2 ^ 52 := Nat.mul_le_mul_right _ hq2
    omega
  unfold Format.read
  dsimp only
  rw [word_mod _ _ _ (by rw [hS]; omega), hB, hI, hF]
  have hneg : (FloatKind.f64.format.word s (q * 2 ^ 52 + n) / FloatKind.f64.format.signWeight % 2 == 1) = s := by
    unfold Format.word; rw [hS]
    cases s
    · simp only [Bool.false_eq_true, if_false]
      rw [Nat.div_eq_of_lt (by omega)]; rfl
    · simp only [if_true]
      rw [Nat.add_div_left _ (by omega), Nat.div_eq_of_lt (by omega)]; rfl
  rw [hneg]
  have h4 : (2 : Nat) ^ (52 + 1) = 2 * 2 ^ 52 := by rw [Nat.pow_succ]
  rw [h4] at hn2
  have h5 : 0 < (2 : Nat) ^ 52 := Nat.two_pow_pos _
  clear hw hneg hB hI hS h4
  generalize (2 : Nat) ^ 52 = B at *
  have hq1 : ¬ q * B + n < B := by omega
  have d1 : (q * B + n) / B = q + 1 := by
    have : q * B + n = (n - B) + B * (q + 1) := by rw [Nat.mul_add, Nat.mul_comm B q]; omega
    rw [this, Nat.add_mul_div_left _ _ h5, Nat.div_eq_of_lt (by omega), Nat.zero_add]
  have d2 : (q * B + n) % B = n - B := by
    have : q * B + n = (n - B) + B * (q + 1) := by rw [Nat.mul_add, Nat.mul_comm B q]; omega
    rw [this, Nat.add_mul_mod_self_left, Nat.mod_eq_of_lt (by omega)]
  rw [if_neg hq1, if_pos hlt, d1, d2]
  have : B + (n - B) = n := by omega
  rw [this]
  congr 1
  omega

/-- what a word of 32 bits stands for -/
theorem read32 (b : Nat) (hn : nanW .f32 b = false) :
    (∃ s, FloatKind.f32.format.read b = .infinity s) ∨
    ∃ s m e, FloatKind.f32.format.read b = .number s m e ∧ m < 2 ^ 24 ∧ -149 ≤ e ∧ e ≤ 104 := by
  have hF : FloatKind.f32.format.leastPlace = -149 := by decide
  have hB : FloatKind.f32.format.binade = 2 ^ 23 := by decide
  have hI : FloatKind.f32.format.infRung = 255 * 2 ^ 23 := by decide
  have hr := read_nan .f32 b
  rw [hn] at hr
  unfold Format.read at hr ⊢
  dsimp only at hr ⊢
  split
  · rename_i h; right; rw [hB] at h; exact ⟨_, _, _, rfl, by omega, by omega, by omega⟩
  · split
    · rename_i h
      right
      rw [hI] at h
      refine ⟨_, _, _, rfl, ?_, ?_, ?_⟩
      · rw [hB]; omega
      · rw [hB, hF]; omega
      · rw [hB, hF]; omega
    · split
      · left; exact ⟨_, rfl⟩
      · rename_i h1 h2 h3
        rw [if_neg h1, if_neg h2, if_neg h3] at hr
        simp [Datum.isNaN] at hr

/-- the word of 64 bits of a word of 32 -/
def wide (b : Nat) : Nat := FloatKind.f64.encode (FloatKind.f32.decode b)
/-- on classes -/
def fwide (x : Option Nat) : Option Nat := x.map wide

theorem encode_fin (s : Bool) (m : Nat) (e : Int) (h1 : m < 2 ^ 24) (h2 : -149 ≤ e) (h3 : e ≤ 104) :
    (FloatKind.f64.format.read (FloatKind.f64.format.nearest s m e)).isInfinity = false := by
  by_cases hm : m = 0
  · subst hm
    have : FloatKind.f64.format.nearest s 0 e = FloatKind.f64.format.word s 0 := rfl
    rw [this]
    cases s <;> decide
  · have := log2_lt h1 hm
    rw [wide_word s m e hm (by omega) (by omega) (by omega)]
    rfl

theorem run_widen {P : Program} (w : World) (src dst : TypeId) (hs : (P.underlying src).isSome = true) (hd : P.underlying dst = some (.float .f64)) (b : Nat) :
    ∃ r n, (convert src dst (.float .f32 b)).run P w = .ok (.float .f64 r) (w.drewN n) ∧ cls .f64 r = fwide (cls .f32 b) ∧ r < 2 ^ FloatKind.f64.format.width := by
  obtain ⟨u, hs'⟩ := Option.isSome_iff_exists.1 hs
  by_cases hn : nanW .f32 b = true
  · have hr := hn; rw [← read_nan] at hr
    obtain ⟨s, t, hr⟩ := nan_form hr
    have hr' : FloatKind.f32.decode b = .nan s t := hr
    refine ⟨(Question.nanConv .f64 b).cut (w.tape w.drawn (.nanConv .f64 b)), 1, ?_, ?_, (tape_nanConv ..).2⟩
    · cases u <;> simp [convert, run_underlying hs', run_underlying hd, Conv.floatToFloat, hr', Question.forced] <;> rfl
    · rw [cls_nan hn, cls_nan (tape_nanConv ..).1]; rfl
  · have hn' : nanW .f32 b = false := by simpa using hn
    have hw : floatToFloatBits .f32 b .f64 = some (wide b) := by
      rcases read32 b hn' with ⟨s, hr⟩ | ⟨s, m, e, hr, h1, h2, h3⟩
      · have hr' : FloatKind.f32.decode b = .infinity s := hr
        simp [floatToFloatBits, hr', wide]
      · have hr' : FloatKind.f32.decode b = .number s m e := hr
        have := encode_fin s m e h1 h2 h3
        simp [floatToFloatBits, hr', wide]
        exact this
    refine ⟨wide b, 0, run_convert_float_float w src dst .f32 .f64 b _ hs hd hw, ?_, ?_⟩
    · rw [cls_num hn']
      refine (cls_num ?_).trans rfl
      refine write_num .f64 _ ?_
      exact (read_nan .f32 b).trans hn'
    · exact FloatKind.f64.format.write_lt _

/-! values and order -/
theorem signed_add (s : Bool) (m u v : Nat) : signed s m (u + v) = signed s m u * 2 ^ v := by
  have e : m <<< (u + v) = m <<< u * 2 ^ v := by
    rw [Nat.shiftLeft_eq, Nat.shiftLeft_eq, Nat.pow_add, Nat.mul_assoc]
  unfold signed
  rw [e]
  cases s
  · simp [Int.natCast_mul, Int.natCast_pow]
  · simp [Int.natCast_mul, Int.natCast_pow, Int.neg_mul]

theorem signed_shl (s : Bool) (m k u : Nat) : signed s (m <<< k) u = signed s m (k + u) := by
  unfold signed
  rw [← Nat.shiftLeft_add]

theorem compare_scale (a b : Int) (v : Nat) : compare (a * 2 ^ v) (b * 2 ^ v) = compare a b := by
  have hp : (0 : Int) < 2 ^ v := by exact_mod_cast Nat.two_pow_pos v
  have h1 : a * 2 ^ v < b * 2 ^ v ↔ a < b := Int.mul_lt_mul_right hp
  have h2 : a * 2 ^ v = b * 2 ^ v ↔ a = b := by
    constructor
    · intro h; exact Int.eq_of_mul_eq_mul_right (Int.ne_of_gt hp) h
    · rintro rfl; rfl
  simp only [compare, compareOfLessAndEq, h1, h2]

theorem order_num (s t : Bool) (m n : Nat) (i j B : Int) (hi : B ≤ i) (hj : B ≤ j) :
    (Datum.number s m i).order (Datum.number t n j) = some (compare (signed s m (i - B).toNat) (signed t n (j - B).toNat)) := by
  simp only [Datum.order, Option.some.injEq]
  have e1 : (i - B).toNat = (i - min i j).toNat + (min i j - B).toNat := by omega
  have e2 : (j - B).toNat = (j - min i j).toNat + (min i j - B).toNat := by omega
  rw [e1, e2, signed_add, signed_add, compare_scale]

theorem wide_zero (s : Bool) (e : Int) : FloatKind.f64.format.read (FloatKind.f64.format.nearest s 0 e) = .number s 0 (-1074) := by
  have : FloatKind.f64.format.nearest s 0 e = FloatKind.f64.format.word s 0 := rfl
  rw [this]
  cases s <;> decide

theorem wide_inf (s : Bool) : FloatKind.f64.format.read (FloatKind.f64.format.write (.infinity s)) = .infinity s := by
  cases s <;> decide

/-- a word of 32 bits and its word of 64: what they stand for -/
theorem wide_read (b : Nat) (hn : nanW .f32 b = false) :
    (∃ s, FloatKind.f32.format.read b = .infinity s ∧ FloatKind.f64.format.read (wide b) = .infinity s) ∨
    ∃ s m e m' e', FloatKind.f32.format.read b = .number s m e ∧ FloatKind.f64.format.read (wide b) = .number s m' e' ∧ m < 2 ^ 24 ∧ -149 ≤ e ∧ e ≤ 104 ∧ -1074 ≤ e' ∧
      ∀ B : Int, B ≤ -1074 → signed s m' (e' - B).toNat = signed s m (e - B).toNat := by
  rcases read32 b hn with ⟨s, hr⟩ | ⟨s, m, e, hr, h1, h2, h3⟩
  · left
    refine ⟨s, hr, ?_⟩
    have : wide b = FloatKind.f64.format.write (.infinity s) := by simp [wide, FloatKind.decode, FloatKind.encode, hr]
    rw [this]; exact wide_inf s
  · right
    have hw : wide b = FloatKind.f64.format.nearest s m e := by simp only [wide, FloatKind.decode, FloatKind.encode, hr]; rfl
    by_cases hm : m = 0
    · subst hm
      refine ⟨s, 0, e, 0, -1074, hr, by rw [hw]; exact wide_zero s e, h1, h2, h3, by omega, fun B hB => ?_⟩
      unfold signed; simp
    · have hl := log2_lt h1 hm
      refine ⟨s, m, e, m <<< (52 - m.log2), e + m.log2 - 52, hr, by rw [hw]; exact wide_word s m e hm (by omega) (by omega) (by omega), h1, h2, h3, by omega, fun B hB => ?_⟩
      rw [signed_shl]
      congr 1
      omega

/-- order is the same behind widening -/
theorem ford_wide (x y : Option Nat) (hx : ∀ b, x = some b → nanW .f32 b = false) (hy : ∀ b, y = some b → nanW .f32 b = false) : ford .f64 (fwide x) (fwide y) = ford .f32 x y := by
  cases x with
  | none => rfl
  | some b =>
  cases y with
  | none => rfl
  | some c =>
  simp only [ford, fwide, Option.map_some, Option.bind_some, Format.order]
  rcases wide_read b (hx b rfl) with ⟨s, h1, h2⟩ | ⟨s, m, e, m', e', h1, h2, hm, he, he2, he3, hv⟩ <;>
  rcases wide_read c (hy c rfl) with ⟨t, g1, g2⟩ | ⟨t, n, i, n', i', g1, g2, gm, ge, ge2, ge3, gv⟩
  · rw [h1, h2, g1, g2]
  · rw [h1, h2, g1, g2]; rfl
  · rw [h1, h2, g1, g2]; rfl
  · rw [h1, h2, g1, g2, order_num s t m n e i (-1074) (by omega) (by omega), order_num s t m' n' e' i' (-1074) (by omega) (by omega), hv _ (Int.le_refl _), gv _ (Int.le_refl _)]

theorem cls_ok (k : FloatKind) (x : Nat) : ∀ b, cls k x = some b → nanW k b = false := by
  intro b h
  unfold cls at h
  split at h
  · cases h
  · rename_i h1; cases h; simpa using h1

/-! narrowing -/
/-- the word of 32 bits of a word of 64 -/
def nar (b : Nat) : Nat := FloatKind.f32.encode (FloatKind.f64.decode b)
def fnar (x : Option Nat) : Option Nat := x.map nar
/-- a number that the narrower kind has room for -/
def fits (x : Option Nat) : Prop := ∀ b, x = some b → (∃ s, FloatKind.f64.format.read b = .infinity s) ∨ (FloatKind.f32.format.read (nar b)).isInfinity = false

theorem run_narrow {P : Program} (w : World) (src dst : TypeId) (hs : (P.underlying src).isSome = true) (hd : P.underlying dst = some (.float .f32)) (b : Nat) (hf : fits (cls .f64 b)) :
    ∃ r n, (convert src dst (.float .f64 b)).run P w = .ok (.float .f32 r) (w.drewN n) ∧ cls .f32 r = fnar (cls .f64 b) ∧ r < 2 ^ FloatKind.f32.format.width := by
  obtain ⟨u, hs'⟩ := Option.isSome_iff_exists.1 hs
  by_cases hn : nanW .f64 b = true
  · have hr := hn; rw [← read_nan] at hr
    obtain ⟨s, t, hr⟩ := nan_form hr
    have hr' : FloatKind.f64.decode b = .nan s t := hr
    refine ⟨(Question.nanConv .f32 b).cut (w.tape w.drawn (.nanConv .f32 b)), 1, ?_, ?_, (tape_nanConv ..).2⟩
    · cases u <;> simp [convert, run_underlying hs', run_underlying hd, Conv.floatToFloat, hr', Question.forced] <;> rfl
    · rw [cls_nan hn, cls_nan (tape_nanConv ..).1]; rfl
  · have hn' : nanW .f64 b = false := by simpa using hn
    have hw : floatToFloatBits .f64 b .f32 = some (nar b) := by
      have hr := read_nan .f64 b
      rw [hn'] at hr
      cases hd : FloatKind.f64.format.read b with
      | infinity s =>
        have hr' : FloatKind.f64.decode b = .infinity s := hd
        simp [floatToFloatBits, hr', nar]
      | nan s t => rw [hd] at hr; simp [Datum.isNaN] at hr
      | number s m e =>
        have hr' : FloatKind.f64.decode b = .number s m e := hd
        rcases hf b (cls_num hn') with ⟨t, ht⟩ | hi
        · rw [hd] at ht; cases ht
        · have e1 : nar b = FloatKind.f32.encode (.number s m e) := by simp [nar, hr']
          have hi' : (FloatKind.f32.decode (FloatKind.f32.encode (.number s m e))).isInfinity = false := by
            rw [← e1]; exact hi
          simp [floatToFloatBits, hr', nar, hi']
    refine ⟨nar b, 0, run_convert_float_float w src dst .f64 .f32 b _ hs hd hw, ?_, ?_⟩
    · rw [cls_num hn']
      refine (cls_num ?_).trans rfl
      refine write_num .f32 _ ?_
      exact (read_nan .f64 b).trans hn'
    · exact FloatKind.f32.format.write_lt _

/-! the walk's laws -/
/-- is it one of the four operations? -/
def isArith : BinOp → Bool
  | .add | .sub | .mul | .quo => true
  | _ => false
theorem isArith_or {op : BinOp} (h : isArith op = true) : op = .add ∨ op = .sub ∨ op = .mul ∨ op = .quo := by
  cases op <;> simp [isArith] at h <;> simp

section
variable {P : Program} {w : World} {ops : Array Oper} {rest : List Oper} {o : Oper} {a : Act} {Q : Exit → Act → World → Prop}

theorem wpList_wanted (hw : Region.wanted o (yielded ops a.tmps) = true)
    (h : ∀ K : Act → World → Prop, (∀ a w, wpList P ops Q rest a w → K a w) → o.wp P a w K Q) : wpList P ops Q (o :: rest) a w :=
  wpList_step fun K hK => by rw [if_pos hw]; exact h K hK

theorem wpList_farith {op : BinOp} {t ty : TypeId} {x y : Operand} (hop : o.op = Op.binOp op t x y ty) (hops : isArith op = true)
    (hw : Region.wanted o (yielded ops a.tmps) = true) {k : FloatKind} {bx cy : Nat} (hx : a.eval x = .float k bx) (hy : a.eval y = .float k cy)
    (hK : ∀ r n, Hid (cls k r = fop op k (cls k bx) (cls k cy)) → Hid (r < 2 ^ k.format.width) → wpList P ops Q rest (a.put o.dst (.float k r)) (w.drewN n)) :
    wpList P ops Q (o :: rest) a w := by
  refine wpList_wanted hw fun K hK' => ?_
  have hops := isArith_or hops
  obtain ⟨r, n, hrun, h1, h2⟩ := run_farith (P := P) w op hops t k bx cy
  unfold Oper.wp
  have hk := hK' _ _ (hK r n (show Hid _ from h1) (show Hid _ from h2))
  rcases hops with rfl | rfl | rfl | rfl <;> simp [execOp, hop, hx, hy, hrun, eqGuard] <;> exact hk

theorem wpList_widen {src dst : TypeId} {x : Operand} (hop : o.op = Op.convert src dst x) (hw : Region.wanted o (yielded ops a.tmps) = true)
    (hs : P.underlying src = some (.float .f32)) (hd : P.underlying dst = some (.float .f64)) {b : Nat} (hx : a.eval x = .float .f32 b)
    (hK : ∀ r n, Hid (cls .f64 r = fwide (cls .f32 b)) → Hid (r < 2 ^ FloatKind.f64.format.width) → wpList P ops Q rest (a.put o.dst (.float .f64 r)) (w.drewN n)) :
    wpList P ops Q (o :: rest) a w := by
  refine wpList_wanted hw fun K hK' => ?_
  obtain ⟨r, n, hrun, h1, h2⟩ := run_widen (P := P) w src dst (by rw [hs]; rfl) hd b
  unfold Oper.wp
  have hk := hK' _ _ (hK r n (show Hid _ from h1) (show Hid _ from h2))
  simp [execOp, hop, hx, hrun]
  exact hk
end

section
variable {P : Program} {w : World} {ops : Array Oper} {rest : List Oper} {o : Oper} {a : Act} {Q : Exit → Act → World → Prop}
theorem wpList_narrow {src dst : TypeId} {x : Operand} (hop : o.op = Op.convert src dst x) (hw : Region.wanted o (yielded ops a.tmps) = true)
    (hs : P.underlying src = some (.float .f64)) (hd : P.underlying dst = some (.float .f32)) {b : Nat} (hx : a.eval x = .float .f64 b) (hf : fits (cls .f64 b))
    (hK : ∀ r n, Hid (cls .f32 r = fnar (cls .f64 b)) → Hid (r < 2 ^ FloatKind.f32.format.width) → wpList P ops Q rest (a.put o.dst (.float .f32 r)) (w.drewN n)) :
    wpList P ops Q (o :: rest) a w := by
  refine wpList_wanted hw fun K hK' => ?_
  obtain ⟨r, n, hrun, h1, h2⟩ := run_narrow (P := P) w src dst (by rw [hs]; rfl) hd b hf
  unfold Oper.wp
  have hk := hK' _ _ (hK r n (show Hid _ from h1) (show Hid _ from h2))
  simp [execOp, hop, hx, hrun]
  exact hk
end

theorem order_self (k : FloatKind) (b : Nat) : k.format.order b b = if nanW k b then none else some .eq := by
  rw [order_cls]
  unfold ford cls
  by_cases h : nanW k b = true
  · simp [h]
  · have h' := h
    simp only [Bool.not_eq_true] at h'
    simp only [h', Bool.false_eq_true, if_false, Option.bind_some]
    have hr := read_nan k b
    rw [h'] at hr
    unfold Format.order
    cases hd : k.format.read b with
    | number s m i =>
      rw [order_num s s m m i i i (Int.le_refl _) (Int.le_refl _)]
      congr 1
      exact Std.ReflCmp.compare_self
    | infinity s => cases s <;> rfl
    | nan s t => rw [hd] at hr; simp [Datum.isNaN] at hr

theorem grown_drewN {W w : World} (h : Grown W w) (n : Nat) : Grown W (w.drewN n) := h

/-- the bits of a class -/
def bitsC (x : Option Nat) : Int := match x with | none => 2143289344 | some b => b
theorem isNone_wide (x : Option Nat) : (fwide x).isNone = x.isNone := by cases x <;> rfl
theorem wf32 {a : Nat} (h : (Lit.float .f32 a).wf = true) : a < 4294967296 := by simpa [Lit.wf] using h
theorem cls_word {k : FloatKind} {a b : Nat} (h : cls k a = some b) : b = a := by
  unfold cls at h; split at h
  · cases h
  · cases h; rfl

end Go.Proofs.Ythinjgiakaflpab.Flt

/- The first of the greatest numbers. -/
import Derived.Test.YtpmjiabllmomjaaM6
import Derived.Deep.LoopGhost
import Derived.Test.YtpmjiabllmomjaaM7
namespace Go.Proofs.Ytpmjiabllmomjaa
open Go.RowKit Flt
set_option linter.unusedVariables false


def bigN : Nat := 2 ^ 24 * 2 ^ 253
/-- what a 32-bit number is worth, so that order is that of integers -/
def val32 (b : Nat) : Int := match FloatKind.f32.format.read b with
  | .number s m e => Ieee.signed s m (e + 149).toNat
  | .infinity s => if s then -(bigN : Int) else (bigN : Int)
  | .nan .. => 0
theorem signed_big {s : Bool} {m : Nat} {e : Int} (h1 : m < 16777216) (h3 : e ≤ 104) : -(bigN : Int) < Ieee.signed s m (e + 149).toNat ∧ Ieee.signed s m (e + 149).toNat < (bigN : Int) := by
  have hk : m * 2 ^ (e + 149).toNat < bigN := by
    unfold bigN
    have g1 : 2 ^ (e + 149).toNat ≤ 2 ^ 253 := Nat.pow_le_pow_right (by omega) (by omega)
    have g2 : m < 2 ^ 24 := h1
    exact Nat.lt_of_le_of_lt (Nat.mul_le_mul_left _ g1) (Nat.mul_lt_mul_of_pos_right g2 (Nat.two_pow_pos _))
  generalize bigN = B at hk
  unfold Ieee.signed
  rw [Nat.shiftLeft_eq]
  generalize m * 2 ^ (e + 149).toNat = A at hk
  cases s
  · simp only [Bool.false_eq_true, if_false]; omega
  · simp only [if_true]; omega
theorem order_val {a b : Nat} (ha : nanW .f32 a = false) (hb : nanW .f32 b = false) : FloatKind.f32.format.order a b = some (compare (val32 a) (val32 b)) := by
  unfold Ieee.Format.order val32
  rcases read32 a ha with ⟨s, hr⟩ | ⟨s, m, e, hr, h1, h2, h3⟩ <;> rcases read32 b hb with ⟨t, hs⟩ | ⟨t, n, f, hs, g1, g2, g3⟩
  · rw [hr, hs]
    have hB : 0 < bigN := Nat.mul_pos (Nat.two_pow_pos _) (Nat.two_pow_pos _)
    generalize bigN = B at hB
    cases s <;> cases t <;> simp only [Ieee.Datum.order, if_true, Bool.false_eq_true, if_false] <;> congr 1
    · rw [compare_eq rfl]; rfl
    · rw [compare_gt (by omega)]; rfl
    · rw [compare_lt (by omega)]; rfl
    · rw [compare_eq rfl]; rfl
  · rw [hr, hs]
    have hv := signed_big (s := t) g1 g3
    cases s <;> simp only [Ieee.Datum.order, if_true, Bool.false_eq_true, if_false] <;> congr 1
    · rw [compare_gt hv.2]
    · rw [compare_lt hv.1]
  · rw [hr, hs]
    have hv := signed_big (s := s) h1 h3
    cases t <;> simp only [Ieee.Datum.order, if_true, Bool.false_eq_true, if_false] <;> congr 1
    · rw [compare_lt hv.2]
    · rw [compare_gt hv.1]
  · rw [hr, hs]
    have := order_num s t m n e f (-149) h2 g2
    rw [this]
    simp only [Int.sub_neg]
theorem geq_val32 {a b : Nat} (ha : nanW .f32 a = false) (hb : nanW .f32 b = false) : fcmp .geq (ford .f32 (cls .f32 a) (cls .f32 b)) = decide (val32 b ≤ val32 a) := by
  rw [cls_num ha, cls_num hb, show ford .f32 (some a) (some b) = FloatKind.f32.format.order a b from rfl, order_val ha hb]
  rcases Int.lt_trichotomy (val32 a) (val32 b) with h | h | h
  · rw [compare_lt h, decide_eq_false (by omega)]; rfl
  · rw [compare_eq h, decide_eq_true (by omega)]; rfl
  · rw [compare_gt h, decide_eq_true (by omega)]; rfl
theorem gtr_val32 {a b : Nat} (ha : nanW .f32 a = false) (hb : nanW .f32 b = false) : fcmp .gtr (ford .f32 (cls .f32 a) (cls .f32 b)) = decide (val32 b < val32 a) := by
  rw [cls_num ha, cls_num hb, show ford .f32 (some a) (some b) = FloatKind.f32.format.order a b from rfl, order_val ha hb]
  rcases Int.lt_trichotomy (val32 a) (val32 b) with h | h | h
  · rw [compare_lt h, decide_eq_false (by omega)]; rfl
  · rw [compare_eq h, decide_eq_false (by omega)]; rfl
  · rw [compare_gt h, decide_eq_true (by omega)]; rfl
/-- the first place of the greatest number, among the first t + 1 -/
def bestK (ys : List Nat) : Nat → Nat
  | 0 => 0
  | t + 1 => if val32 (ys.getD (bestK ys t) 0) < val32 (ys.getD (t + 1) 0) then t + 1 else bestK ys t
theorem bestK_le (ys : List Nat) : ∀ t, bestK ys t ≤ t
  | 0 => Nat.le_refl _
  | t + 1 => by
    unfold bestK
    have := bestK_le ys t
    split <;> omega
theorem bestK_max (ys : List Nat) : ∀ t i, i ≤ t → val32 (ys.getD i 0) ≤ val32 (ys.getD (bestK ys t) 0)
  | 0, i, h => by have : i = 0 := by omega
                  subst this; exact Int.le_refl _
  | t + 1, i, h => by
    unfold bestK
    have ih := bestK_max ys t
    split
    · rename_i hc
      by_cases hi : i = t + 1
      · subst hi; exact Int.le_refl _
      · have := ih i (by omega); omega
    · rename_i hc
      by_cases hi : i = t + 1
      · subst hi; omega
      · exact ih i (by omega)
def firstK (ys : List Nat) (k : Nat) : Nat := if k = 0 then 0 else bestK ys (k - 1)
theorem firstK_le (ys : List Nat) (k : Nat) : firstK ys k ≤ k := by
  unfold firstK
  split
  · omega
  · have := bestK_le ys (k - 1); omega
theorem first_new {ys : List Nat} {k : Nat} (h : ∀ i, i < k → val32 (ys.getD i 0) < val32 (ys.getD k 0)) : firstK ys (k + 1) = k := by
  unfold firstK
  rw [if_neg (by omega), Nat.add_sub_cancel]
  cases k with
  | zero => rfl
  | succ t =>
    unfold bestK
    rw [if_pos (h _ (by have := bestK_le ys t; omega))]
theorem first_old {ys : List Nat} {k j : Nat} (hj : j < k) (h : val32 (ys.getD k 0) ≤ val32 (ys.getD j 0)) : firstK ys (k + 1) = firstK ys k := by
  unfold firstK
  rw [if_neg (by omega), if_neg (by omega), Nat.add_sub_cancel]
  cases k with
  | zero => omega
  | succ t =>
    rw [Nat.add_sub_cancel]
    conv => lhs; unfold bestK
    have := bestK_max ys t j (by omega)
    rw [if_neg (by omega)]

set_option maxHeartbeats 4000000 in
set_option maxRecDepth 100000 in
theorem firstG_any (a : Option Addr) (n c : Nat) (ys : List Nat) (w : World) (h : Holds .f32 w a n ys) (hn : n ≤ 1048576) (hcap : n ≤ c) (hN : ∀ k, k < n → nanW .f32 (ys.getD k 0) = false) :
    Calls Try.prog 75 #[.slice a n c] w fun e w' => e = .returned (.int .i64 ((firstK ys n : Nat) : Int)) ∧ w = w' := by
  have H1 := hid h
  have HN := hid hn
  have HC := hid hcap
  have HM := hid hN
  have HFL := hid (firstK_le ys)
  clear h hn hcap hN
  go_enter Try.func75, Try.ntmps75
  go_wp2
  go_step3
  go_wp2
  go_step3
  go_wp2
  go_loopg [3, 10] n (fun g f i wr => ∃ k : Nat, k + g = n ∧ i = .int .i64 k ∧ f = .int .i64 ((firstK ys k : Nat) : Int) ∧ Hid (wr = w))
  case atStart => exact ⟨0, by omega, rfl, rfl, hid rfl⟩
  case round =>
    obtain ⟨k, hk, rfl, rfl, hw⟩ := hrel
    have hn2 : n ≤ 1048576 := HN.out
    have hc2 : n ≤ c := HC.out
    have hw1 := hw.out
    subst hw1
    by_cases hlt : k < n
    · obtain ⟨b, off, rfl, e1⟩ := cell_at H1.out (Ext.refl _) k hlt
      have hi0 : (0 : Int) ≤ (k : Int) := by omega
      have hi1 : (k : Int) < (n : Int) := by omega
      have hi2 : (k : Int) ≤ (c : Int) := by omega
      have hnx := HM.out k hlt
      obtain ⟨x, hx⟩ : ∃ x, ys.getD k 0 = x := ⟨_, rfl⟩
      rw [hx] at e1 hnx
      have HX := hid hx
      clear hx
      rename World => wo
      go_wp2
      go_loopg [19] k (fun g i wi => ∃ j : Nat, j + g = k ∧ i = .int .i64 j ∧ Hid (∀ q, q < j → val32 (ys.getD q 0) < val32 x) ∧ Hid (wi = wo))
      case atStart => exact ⟨0, by omega, rfl, hid (fun q hq => by omega), hid rfl⟩
      case round =>
        obtain ⟨j, hj, rfl, hall, hw2⟩ := hrel
        have hw3 := hw2.out
        subst hw3
        by_cases hlt2 : j < k
        · obtain ⟨b2, off2, ha, e2⟩ := cell_at H1.out (Ext.refl _) j (by omega)
          obtain ⟨rfl, rfl⟩ : b = b2 ∧ off = off2 := by simpa [eq_comm] using ha
          have hny := HM.out j (by omega)
          have hcmp := geq_val32 hny hnx
          have hj0 : (0 : Int) ≤ (j : Int) := by omega
          have hj1 : (j : Int) < (k : Int) := by omega
          have hj2 : j < c := by omega
          cases hd : decide (val32 x ≤ val32 (ys.getD j 0))
          · rw [hd] at hcmp
            have HG := hid (upto_succ (P := fun q => val32 (ys.getD q 0) < val32 x) hall.out (by have := of_decide_eq_false hd; omega))
            generalize ys.getD j 0 = y at e2 hcmp
            go_wp2_with (refine wpList_fcmp rfl rfl rfl rfl rfl (is_self .f32 y) (is_self .f32 x) ?_; rw [hcmp])
            go_roundg (k - (j + 1))
            case measure => omega
            case rel => exact ⟨j + 1, by omega, by go_num, HG, hid rfl⟩
          · rw [hd] at hcmp
            have HG := hid (first_old hlt2 (by rw [HX.out]; exact of_decide_eq_true hd))
            generalize ys.getD j 0 = y at e2 hcmp
            go_wp2_with (refine wpList_fcmp rfl rfl rfl rfl rfl (is_self .f32 y) (is_self .f32 x) ?_; rw [hcmp])
            go_roundg (n - (k + 1))
            case measure => omega
            case rel => exact ⟨k + 1, by omega, by go_num, by rw [HG.out], hid rfl⟩
        · have hjk : j = k := by omega
          subst hjk
          have HG := hid (first_new (fun i hi => by rw [HX.out]; exact hall.out i hi))
          go_wp2
          go_roundg (n - (j + 1))
          case measure => omega
          case rel => exact ⟨j + 1, by omega, by go_num, by rw [HG.out], hid rfl⟩
    · have hkn : k = n := by omega
      subst hkn
      go_wp2
      try rw [Exit.noGoto_ret]
      go_ret
      exact ⟨rfl, rfl⟩



theorem self_ok {zs : List Nat} {m : Int} (h : (selfR zs m).2 = true) : soundB (zs.map (cls .f32)) = true ∧ 1 ≤ m ∧ m ≤ 256 ∧ (∀ k, k < m.toNat → fin32 (selfC zs k) = true) ∧ (selfR zs m).1 = listK (selfC zs) m.toNat := by
  unfold selfR at h ⊢
  split at h
  · rename_i hc
    rw [if_pos hc]
    simp only [Bool.and_eq_true, decide_eq_true_eq] at hc
    unfold soundR finR2 at h ⊢
    split at h
    · rename_i hf
      rw [if_pos hf]
      refine ⟨hc.1, hc.2.1, hc.2.2, fun k hk => ?_, rfl⟩
      unfold finsC listK at hf
      exact List.all_eq_true.1 hf _ (List.mem_map.2 ⟨k, List.mem_range.2 hk, rfl⟩)
    · cases h
  · cases h
theorem selfC_num (zs : List Nat) (k b : Nat) (h : selfC zs k = some b) : nanW .f32 b = false := by
  unfold selfC at h
  generalize zs.length - k = t at h
  cases t with
  | zero => cases h; decide
  | succ t => exact num_of_fop b h
/-- a sound with itself later, on the mean -/
def meanK (zs : List Nat) (k : Nat) : Option Nat := fop .quo .f32 (selfC zs k) (some (floatOfInt .f32 ((zs.length : Int) - (k : Int))))
def meanW (zs : List Nat) (k : Nat) : Nat := (meanK zs k).getD 0
theorem meanK_some {zs : List Nat} {k : Nat} (hl : zs.length ≤ 256) (hk : k < zs.length) (hf : fin32 (selfC zs k) = true) : meanK zs k = some (meanW zs k) ∧ nanW .f32 (meanW zs k) = false := by
  unfold meanW
  cases hs : selfC zs k with
  | none => rw [hs] at hf; cases hf
  | some s =>
    obtain ⟨q, hq, hn⟩ := quo_some (s := s) (d := zs.length - k) (selfC_num zs k s hs) (by omega) (by omega)
    have e : ((zs.length - k : Nat) : Int) = (zs.length : Int) - (k : Int) := by omega
    rw [e] at hq
    have : meanK zs k = some q := by unfold meanK; rw [hs]; exact hq
    rw [this]
    exact ⟨rfl, hn⟩
def meansL (zs : List Nat) (l m : Nat) : List Nat := (List.range (m + 1 - l)).map fun j => meanW zs (l + j)
theorem meansL_get {zs : List Nat} {l m j : Nat} (h : j < m + 1 - l) : (meansL zs l m).getD j 0 = meanW zs (l + j) := by
  unfold meansL
  simp [List.getD, h]
def perB (zs : List Nat) (l m : Nat) : Nat := l + firstK (meansL zs l m) (m + 1 - l)
def perX (zs : List Nat) (l m : Nat) : Option Nat := fop .quo .f32 (meanK zs (perB zs l m)) (meanK zs 0)
section
variable {P : Program} {ops : Array Oper} {C : World → Prop}
theorem wpM_callq {Q : Act → Prop} {a : Act} {o : Oper} {rest : List Oper} {f : FuncId} {args : Array Value} {v : Value} (hm : multiOp o = false) (hg : o.guard = none) (ho : ∀ w, (execOp a.eval o).run P w = .ok (.enter f args) w)
    (h : ∀ w', C w' → Calls P f args w' (fun e w'' => e = .returned v ∧ C w'')) (hK : wpM P ops C Q rest (a.put o.dst v)) : wpM P ops C Q (o :: rest) a := by
  refine wpM_quiet hm fun K hK' => ?_
  rw [if_pos (by simp [Region.wanted, hg])]
  refine ⟨v, fun w hw => ?_, hK' _ hK⟩
  unfold Oper.quietAt
  rw [ho]
  exact ⟨rfl, h w hw⟩
end
theorem finiteOnly_word (b : Nat) (X : Option Nat) (hX : Is .f32 b X) (w : World) : Calls Try.prog 68 #[.float .f32 b] w fun e w' => e = .returned (.tuple #[.float .f32 (if fin32 X then b else 0), .bool (fin32 X)]) ∧ ∃ m, w' = w.drewN m := by
  have e := Is.out hX
  cases hf : fin32 X
  · go_enter Try.func68, Try.ntmps68
    go_wp2_with (go_at_call 58; refine (isFinite_any _ _).mono ?_; rintro e w' ⟨rfl, m, rfl⟩; rw [e, hf])
    go_returns
    exact ⟨rfl, _, rfl⟩
  · go_enter Try.func68, Try.ntmps68
    go_wp2_with (go_at_call 58; refine (isFinite_any _ _).mono ?_; rintro e w' ⟨rfl, m, rfl⟩; rw [e, hf])
    go_returns
    exact ⟨rfl, _, rfl⟩
structure PerR where
  i : Int
  x : Option Nat
  ok : Bool
def noPer : PerR := ⟨0, some 0, false⟩
def perR (zs : List Nat) (l m : Int) : PerR :=
  if (decide (1 ≤ l) && (decide (l ≤ m) && decide (m < zs.length))) && (selfR zs (m + 1)).2 then
    (if fin32 (perX zs l.toNat m.toNat) then ⟨(perB zs l.toNat m.toNat : Nat), perX zs l.toNat m.toNat, true⟩ else noPer)
  else noPer
theorem drop_means {zs ys : List Nat} {l m : Nat} (hl : ys.length = m + 1) (hy : ∀ j, j < m + 1 → cls .f32 (ys.getD j 0) = meanK zs j) (hm : ∀ j, j < m + 1 → meanK zs j = some (meanW zs j)) : ys.drop l = meansL zs l m := by
  apply List.ext_getElem
  · simp [meansL, hl]
  · intro j h1 h2
    have hj : j < m + 1 - l := by simpa [meansL] using h2
    have e := hy (l + j) (by omega)
    rw [hm (l + j) (by omega)] at e
    have e2 := cls_word e
    have h3 : l + j < ys.length := by omega
    have h4 : ys.getD (l + j) 0 = ys[l + j] := by simp [List.getD, h3]
    rw [h4] at e2
    simp [meansL, e2]

set_option maxHeartbeats 8000000 in
set_option maxRecDepth 100000 in
theorem per_any (a : Option Addr) (n c : Nat) (l m : Int) (zs : List Nat) (R : PerR) (w : World) (h : Holds .f32 w a n zs) (hn : n ≤ 1048576) (hcap : n ≤ c) (hR : perR zs l m = R) :
    Calls Try.prog 42 #[.slice a n c, .int .i64 l, .int .i64 m] w fun e w' => ∃ r, e = .returned (.tuple #[.int .i64 R.i, .float .f32 r, .bool R.ok]) ∧ Is .f32 r R.x ∧ Ext w w' := by
  have H1 := hid h
  have HN := hid hn
  have HCAP := hid hcap
  have HL := hid h.1
  have HR := hid hR
  clear h hn hR hcap
  by_cases hl : l < 1
  · have e : R = noPer := by have := HR.out; unfold perR at this; rw [if_neg (by simp; omega)] at this; exact this.symm
    subst e
    go_enter Try.func42, Try.ntmps42
    go_wp2_with fail
    go_returns
    refine ⟨_, rfl, cls0, ?_⟩
    (repeat with_reducible (first | exact Ext.refl _ | exact ext_alloc _ _ | refine Ext.drewN ?_ _ | refine Ext.drew1 ?_ | refine Ext.set ?_ (by dsimp only; omega) _ | refine Ext.alloc ?_ _))
  by_cases hml : m < l
  · have e : R = noPer := by have := HR.out; unfold perR at this; rw [if_neg (by simp; omega)] at this; exact this.symm
    subst e
    go_enter Try.func42, Try.ntmps42
    go_wp2_with fail
    go_returns
    refine ⟨_, rfl, cls0, ?_⟩
    (repeat with_reducible (first | exact Ext.refl _ | exact ext_alloc _ _ | refine Ext.drewN ?_ _ | refine Ext.drew1 ?_ | refine Ext.set ?_ (by dsimp only; omega) _ | refine Ext.alloc ?_ _))
  by_cases hmn : (n : Int) ≤ m
  · have e : R = noPer := by have := HR.out; unfold perR at this; rw [if_neg (by rw [HL.out]; simp; omega)] at this; exact this.symm
    subst e
    go_enter Try.func42, Try.ntmps42
    go_wp2_with fail
    go_returns
    refine ⟨_, rfl, cls0, ?_⟩
    (repeat with_reducible (first | exact Ext.refl _ | exact ext_alloc _ _ | refine Ext.drewN ?_ _ | refine Ext.drew1 ?_ | refine Ext.set ?_ (by dsimp only; omega) _ | refine Ext.alloc ?_ _))
  obtain ⟨l, rfl⟩ : ∃ q : Nat, l = (q : Int) := ⟨l.toNat, by omega⟩
  obtain ⟨m, rfl⟩ : ∃ q : Nat, m = (q : Int) := ⟨m.toNat, by omega⟩
  have HB := hid (show 1 ≤ l ∧ l ≤ m ∧ m < n by omega)
  obtain ⟨m1, hm1⟩ : ∃ m1, m + 1 = m1 := ⟨_, rfl⟩
  have hm1i : (m : Int) + 1 = (m1 : Int) := by omega
  have hm1b : (m1 : Int) ≤ 1048576 := by have := HN.out; omega
  cases hO : (selfR zs (m1 : Int)).2
  · have e : R = noPer := by have := HR.out; unfold perR at this; rw [if_neg (by rw [hm1i, hO]; simp)] at this; exact this.symm
    subst e
    have HSR := hid (show selfR zs (m1 : Int) = ((selfR zs (m1 : Int)).1, false) from by rw [← hO])
    clear hm1 HR
    go_enter Try.func42, Try.ntmps42
    go_wp2_with (first | (go_at_call 40; refine (selfS_any a n c (m1 : Int) zs _ _ _ (Holds.ext H1.out (by (repeat with_reducible (first | exact Ext.refl _ | exact ext_alloc _ _ | refine Ext.drewN ?_ _ | refine Ext.drew1 ?_ | refine Ext.set ?_ (by dsimp only; omega) _ | refine Ext.alloc ?_ _)))) HN.out HCAP.out HSR.out).mono ?_; rintro e w1 ⟨v, rfl, hv, E1⟩))
    go_returns
    exact ⟨_, rfl, cls0, Ext.trans (by (repeat with_reducible (first | exact Ext.refl _ | exact ext_alloc _ _ | refine Ext.drewN ?_ _ | refine Ext.drew1 ?_ | refine Ext.set ?_ (by dsimp only; omega) _ | refine Ext.alloc ?_ _))) E1⟩
  obtain ⟨hS, _, h256, hfin, hlist⟩ := self_ok hO
  have HSR := hid (show selfR zs (m1 : Int) = (listK (selfC zs) m1, true) from by
    have e : (selfR zs (m1 : Int)) = ((selfR zs (m1 : Int)).1, (selfR zs (m1 : Int)).2) := rfl
    rw [e, hO, hlist]; rfl)
  have hlen : zs.length ≤ 256 := by have := sound_len hS; simpa using this
  have HMK := hid (fun j (hj : j < m1) => meanK_some (k := j) hlen (by rw [HL.out]; have := HB.out; omega) (hfin j hj))
  have HN2 := hid (show n ≤ 256 by rw [← HL.out]; exact hlen)
  have HR2 : Hid ((if fin32 (perX zs l m) then (⟨(perB zs l m : Nat), perX zs l m, true⟩ : PerR) else noPer) = R) := by
    have := HR.out
    have hb := HB.out
    unfold perR at this
    rw [if_pos (by rw [hm1i, hO, HL.out]; simp; omega)] at this
    exact this
  have HM1 := hid hm1
  clear hS h256 hfin hlist hlen hO HR hm1
  go_enter Try.func42, Try.ntmps42
  go_wp2_with fail
  refine (selfS_any a n c (m1 : Int) zs _ _ _ (Holds.ext H1.out (by (repeat with_reducible (first | exact Ext.refl _ | exact ext_alloc _ _ | refine Ext.drewN ?_ _ | refine Ext.drew1 ?_ | refine Ext.set ?_ (by dsimp only; omega) _ | refine Ext.alloc ?_ _)))) HN.out HCAP.out HSR.out).mono ?_
  rintro e w1 ⟨v, rfl, hv, E1⟩
  obtain ⟨va, vc, ys, hv0, hO, hy⟩ := hv
  rw [listK_len] at hv0 hO
  subst hv0
  obtain ⟨g, hva, hcap2, hcm⟩ : ∃ g, va = some ⟨g, 0, none⟩ ∧ m1 ≤ vc ∧ vc ≤ maxLen := by
    rcases hO.2 with ⟨h1, h2⟩ | ⟨g, cap, cur, h1, _, _, h3, h4, _⟩
    · have := HM1.out; omega
    · cases h1; exact ⟨g, rfl, h3, h4⟩
  subst hva
  have hOW := hid (Own.base hO (B' := w.heap.size) (by first | exact Nat.le_refl _ | (simp; done) | (simp; omega)))
  have hEX := hid (show Ext w w1 from Ext.trans (by (repeat with_reducible (first | exact Ext.refl _ | exact ext_alloc _ _ | refine Ext.drewN ?_ _ | refine Ext.drew1 ?_ | refine Ext.set ?_ (by dsimp only; omega) _ | refine Ext.alloc ?_ _))) E1)
  have HGE := hid (Own.block hOW.out)
  have hy0 := hid (fun j (hj : j < m1) => (show cls .f32 (ys.getD j 0) = selfC zs j from by
    have h1 : (ys.map (cls .f32))[j]? = (listK (selfC zs) m1)[j]? := by rw [hy]
    have hyl : ys.length = m1 := hO.len
    simp [listK, hj, hyl] at h1
    simpa [List.getD, hj, hyl] using h1))
  have HC2 := hid (show m1 ≤ vc ∧ vc ≤ maxLen from ⟨hcap2, hcm⟩)
  clear hO hy E1 hcap2 hcm
  go_wp2_with fail
  go_loopw [40] (fun i wr => ∃ (k : Nat) (us : List Nat), k ≤ m1 ∧ i = .int .i64 k ∧ Hid (Own wr w.heap.size m1 (.slice (some ⟨g, 0, none⟩) m1 vc) us) ∧ Hid (∀ j, j < m1 → cls .f32 (us.getD j 0) = if j < k then meanK zs j else selfC zs j) ∧ Hid (Ext w wr)) (fun i _ => m1 - (intOf i).toNat)
  case atStart => exact ⟨0, ys, Nat.zero_le _, rfl, hOW, hid (fun j hj => by rw [if_neg (Nat.not_lt_zero _)]; exact hy0.out j hj), hEX⟩
  case round =>
    obtain ⟨k, us, hk, rfl, ho2, hu, he⟩ := hrel
    have hnn : n ≤ 256 := HN2.out
    have hb := HB.out
    have hmm := HM1.out
    have hul := hid ho2.out.len
    have hc2 := HC2.out
    by_cases hlt : k < m1
    · have e1 := Own.cellAt ho2.out k hlt
      have hf := Own.frozenAt ho2.out k
      have hge : w.heap.size ≤ g := (HGE.out g rfl).1
      have hv := hu.out k hlt
      rw [if_neg (Nat.lt_irrefl _)] at hv
      have HST := hid (fun r (hr : cls .f32 r = meanK zs k) => (show ∀ j, j < m1 → cls .f32 ((us.set k r).getD j 0) = if j < k + 1 then meanK zs j else selfC zs j from by
        intro j hj
        rw [getD_set16 _ _ _ _ (by rw [hul.out]; exact hlt)]
        by_cases hjk : j = k
        · subst hjk; rw [if_pos rfl, if_pos (Nat.lt_succ_self _), hr]
        · rw [if_neg hjk, hu.out j hj]
          by_cases h : j < k
          · rw [if_pos h, if_pos (by omega)]
          · rw [if_neg h, if_neg (by omega)]))
      have HCC : Hid (meanK zs k = fop .quo .f32 (selfC zs k) (some (floatOfInt .f32 ((n : Int) - (k : Int))))) := by rw [← HL.out]; exact hid rfl
      rw [← hv] at HCC
      generalize us.getD k 0 = u at e1 HCC
      clear hv
      have hi0 : (0 : Int) ≤ (k : Int) := by omega
      have hi1 : (k : Int) < (m1 : Int) := by omega
      have hi2 : (k : Int).toNat = k := rfl
      go_wp2_with (refine wpList_fa (op := .quo) rfl rfl rfl rfl rfl (is_self .f32 u) (is_int _) ?_; intro r m9 hr hrw)
      have HF := hid (HST.out r (by rw [HCC.out]; exact Is.out hr))
      go_roundw
      case rel => exact ⟨k + 1, us.set k r, by omega, by go_num, hid (Own.stored (Own.drewN ho2.out _) k _).1, HF, hid (Ext.set (Ext.drewN he.out _) (by dsimp only; omega) _)⟩
      case measure => simp [intOf]; omega
    · have hkm : k = m1 := by omega
      subst hkm
      have hyy := hid (fun j (hj : j < k) => (show cls .f32 (us.getD j 0) = meanK zs j from by have := hu.out j hj; rwa [if_pos hj] at this))
      have HD := hid (show us.drop l = meansL zs l m from drop_means (by rw [hul.out]; omega) (fun j hj => hyy.out j (by omega)) (fun j hj => (HMK.out j (by omega)).1))
      obtain ⟨F, hF⟩ : ∃ F, firstK (meansL zs l m) (m + 1 - l) = F := ⟨_, rfl⟩
      have hFle : F ≤ m - l := by
        rw [← hF]; unfold firstK; rw [if_neg (by omega)]
        have := bestK_le (meansL zs l m) (m + 1 - l - 1)
        omega
      obtain ⟨P, hP⟩ : ∃ P, l + F = P := ⟨_, rfl⟩
      have HPB := hid (show perB zs l m = P from by unfold perB; rw [hF]; exact hP)
      have HFG := hid (fun (u : World) (hu : Ext wr u) => (show Calls Try.prog 75 #[.slice (some ⟨g, l, none⟩) (k - l) (vc - l)] u fun e w' => e = .returned (.int .i64 (F : Int)) ∧ u = w' from by
        have hh := hold_drop (k := l) (Holds.ext (own_hold ho2.out) hu) (by omega)
        rw [Nat.zero_add, HD.out] at hh
        have := firstG_any (some ⟨g, l, none⟩) (k - l) (vc - l) (meansL zs l m) u hh (by omega) (by omega) (fun j hj => by rw [meansL_get (by omega)]; exact (HMK.out (l + j) (by omega)).2)
        rw [show k - l = m + 1 - l by omega] at this ⊢
        rw [hF] at this
        exact this))
      have e1 := Own.cellAt ho2.out P (by omega)
      have e2 := Own.cellAt ho2.out 0 (by omega)
      have f1 := hyy.out P (by omega)
      have f2 := hyy.out 0 (by omega)
      have HX : Hid (perX zs l m = fop .quo .f32 (meanK zs P) (meanK zs 0)) := by unfold perX; rw [HPB.out]; exact hid rfl
      rw [← f1, ← f2] at HX
      generalize us.getD P 0 = x at e1 HX
      generalize us.getD 0 0 = y at e2 HX
      clear f1 f2 hF
      have hi0 : (0 : Int) ≤ (l : Int) := by omega
      have hi1 : (l : Int) ≤ (k : Int) := by omega
      have hi2 : (l : Int) ≤ (vc : Int) := by omega
      have hi3 : ¬ vc = l := by omega
      have hi4 : (l : Int) + (F : Int) = (P : Int) := by omega
      have hi5 : (P : Int) < (k : Int) := by omega
      have hi6 : (0 : Int) ≤ (P : Int) := by omega
      have hi7 : (0 : Int) < (k : Int) := by omega
      have hi8 : ¬ ((k : Int) < (k : Int)) := by omega
      have hi9 : 0 < k := by omega
      have HMX := hid hmm
      have HBB := hid hb
      clear hmm hb hP hFle
      go_wp2_with (go_at_call 75; refine (HFG.out _ (Ext.refl _)).mono ?_; rintro e w' ⟨rfl, rfl⟩)
      have HPI := hid (show ((perB zs l m : Nat) : Int) = (P : Int) from by rw [HPB.out])
      refine wp_region_many (by kernel_rfl) (by kernel_rfl) (by kernel_rfl) ?_
      repeat (with_reducible refine wpM_cons ?_; first
        | (refine wpM_fa rfl rfl rfl rfl rfl (is_self .f32 x) (is_self .f32 y) ?_; intro r hr hrw; rw [← HX.out] at hr)
        | (refine wpM_callq (f := 68) (args := #[.float .f32 r]) (v := .tuple #[.float .f32 (if fin32 (perX zs l m) then r else 0), .bool (fin32 (perX zs l m))]) rfl rfl ?_ ?_ ?_; (focus (intro w9; go_simp; done)); (focus (rintro w9 ⟨n9, rfl⟩; refine (finiteOnly_word r _ hr _).mono ?_; rintro e w8 ⟨h1, m8, rfl⟩; exact ⟨h1, n9 + m8, World.drewN_drewN _ _ _⟩)); simp only [Act.put, List.setIfInBounds_toArray, List.set_cons_zero, List.set_cons_succ])
        | (refine wpM_quiet rfl (fun K hK => ?_); go_simp; refine hK _ ?_; clear hK K))
      with_reducible refine wpM_nil ?_
      intro w4 hw4
      obtain ⟨nq, hw4⟩ := hw4
      subst hw4
      cases hfx : fin32 (perX zs l m)
      · have e : R = noPer := by have := HR2.out; rw [hfx] at this; exact this.symm
        subst e
        go_wp2_with fail
        go_returns
        exact ⟨_, rfl, cls0, Ext.trans he.out (by (repeat with_reducible (first | exact Ext.refl _ | exact ext_alloc _ _ | refine Ext.drewN ?_ _ | refine Ext.drew1 ?_ | refine Ext.set ?_ (by dsimp only; omega) _ | refine Ext.alloc ?_ _)))⟩
      · have e : R = ⟨(perB zs l m : Nat), perX zs l m, true⟩ := by have := HR2.out; rw [hfx] at this; exact this.symm
        subst e
        go_wp2_with fail
        go_returns
        exact ⟨_, by rw [HPI.out]; rfl, hr, Ext.trans he.out (by (repeat with_reducible (first | exact Ext.refl _ | exact ext_alloc _ _ | refine Ext.drewN ?_ _ | refine Ext.drew1 ?_ | refine Ext.set ?_ (by dsimp only; omega) _ | refine Ext.alloc ?_ _)))⟩



theorem first_succ {ys : List Nat} {t : Nat} (h : t ≠ 0) : firstK ys (t + 1) = if val32 (ys.getD (firstK ys t) 0) < val32 (ys.getD t 0) then t else firstK ys t := by
  unfold firstK
  rw [if_neg (by omega), if_neg h, Nat.add_sub_cancel]
  cases t with
  | zero => exact absurd rfl h
  | succ q =>
    rw [Nat.add_sub_cancel]
    conv => lhs; unfold bestK

set_option maxHeartbeats 8000000 in
set_option maxRecDepth 100000 in
theorem l05Per_any (a : Option Addr) (n c : Nat) (l m : Int) (zs : List Nat) (R : PerR) (w : World) (h : Holds .f32 w a n zs) (hn : n ≤ 1048576) (hR : perR zs l m = R) :
    Calls Try.prog 74 #[.slice a n c, .int .i64 l, .int .i64 m] w fun e w' => ∃ r, e = .returned (.tuple #[.int .i64 R.i, .float .f32 r, .bool R.ok]) ∧ Is .f32 r R.x ∧ Ext w w' := by
  have H1 := hid h
  have HN := hid hn
  have hnb : (n : Int) ≤ 1048576 := by omega
  have HL := hid h.1
  have HR := hid hR
  clear h hn hR
  cases hA : soundB (zs.map (cls .f32))
  · have e : R = noPer := by have := HR.out; unfold perR selfR at this; rw [hA] at this; simpa using this.symm
    subst e
    go_enter Try.func74, Try.ntmps74
    go_wp2_with (first | (go_at_call 53; with_reducible refine (l03Sound_drew a n c zs _ _ (Holds.ext H1.out (by (repeat with_reducible (first | exact Ext.refl _ | exact ext_alloc _ _ | refine Ext.drewN ?_ _ | refine Ext.drew1 ?_ | refine Ext.set ?_ (by dsimp only; omega) _ | refine Ext.alloc ?_ _)))) HN.out hA).mono ?_; rintro e w' ⟨rfl, q1, rfl⟩))
    go_returns
    refine ⟨_, rfl, cls0, ?_⟩
    (repeat with_reducible (first | exact Ext.refl _ | exact ext_alloc _ _ | refine Ext.drewN ?_ _ | refine Ext.drew1 ?_ | refine Ext.set ?_ (by dsimp only; omega) _ | refine Ext.alloc ?_ _))
  by_cases hl : ¬ (1 ≤ l ∧ l ≤ (n : Int) - 1)
  · by_cases hc : 1 ≤ l ∧ (l ≤ m ∧ m < n)
    · omega
    have e : R = noPer := by have := HR.out; unfold perR at this; rw [if_neg (by rw [HL.out]; simp; omega)] at this; exact this.symm
    subst e
    clear hc
    go_enter Try.func74, Try.ntmps74
    go_wp2_with (first | (go_at_call 53; with_reducible refine (l03Sound_drew a n c zs _ _ (Holds.ext H1.out (by (repeat with_reducible (first | exact Ext.refl _ | exact ext_alloc _ _ | refine Ext.drewN ?_ _ | refine Ext.drew1 ?_ | refine Ext.set ?_ (by dsimp only; omega) _ | refine Ext.alloc ?_ _)))) HN.out hA).mono ?_; rintro e w' ⟨rfl, q1, rfl⟩) | (go_at_call 47; with_reducible refine (l00In_no l 1 ((n : Int) - 1) hl _).mono ?_; rintro e w' ⟨rfl, rfl⟩))
    go_returns
    refine ⟨_, rfl, cls0, ?_⟩
    (repeat with_reducible (first | exact Ext.refl _ | exact ext_alloc _ _ | refine Ext.drewN ?_ _ | refine Ext.drew1 ?_ | refine Ext.set ?_ (by dsimp only; omega) _ | refine Ext.alloc ?_ _))
  replace hl := Decidable.not_not.1 hl
  by_cases hm : ¬ (l ≤ m ∧ m ≤ (n : Int) - 1)
  · have e : R = noPer := by have := HR.out; unfold perR at this; rw [if_neg (by rw [HL.out]; simp; omega)] at this; exact this.symm
    subst e
    go_enter Try.func74, Try.ntmps74
    go_wp2_with (first | (go_at_call 53; with_reducible refine (l03Sound_drew a n c zs _ _ (Holds.ext H1.out (by (repeat with_reducible (first | exact Ext.refl _ | exact ext_alloc _ _ | refine Ext.drewN ?_ _ | refine Ext.drew1 ?_ | refine Ext.set ?_ (by dsimp only; omega) _ | refine Ext.alloc ?_ _)))) HN.out hA).mono ?_; rintro e w' ⟨rfl, q1, rfl⟩) | (go_at_call 47; with_reducible refine (l00In_yes l 1 ((n : Int) - 1) hl.1 hl.2 _).mono ?_; rintro e w' ⟨rfl, rfl⟩) | (go_at_call 47; with_reducible refine (l00In_no m l ((n : Int) - 1) hm _).mono ?_; rintro e w' ⟨rfl, rfl⟩))
    go_returns
    refine ⟨_, rfl, cls0, ?_⟩
    (repeat with_reducible (first | exact Ext.refl _ | exact ext_alloc _ _ | refine Ext.drewN ?_ _ | refine Ext.drew1 ?_ | refine Ext.set ?_ (by dsimp only; omega) _ | refine Ext.alloc ?_ _))
  replace hm := Decidable.not_not.1 hm
  obtain ⟨l, rfl⟩ : ∃ q : Nat, l = (q : Int) := ⟨l.toNat, by omega⟩
  obtain ⟨m, rfl⟩ : ∃ q : Nat, m = (q : Int) := ⟨m.toNat, by omega⟩
  have HB := hid (show 1 ≤ l ∧ l ≤ m ∧ m < n by omega)
  have hlen : n ≤ 256 := by have := sound_len hA; have h2 := HL.out; simp at this; omega
  obtain ⟨m1, hm1⟩ : ∃ m1, m + 1 = m1 := ⟨_, rfl⟩
  have hm1i : (m : Int) + 1 = (m1 : Int) := by omega
  have hm1b : (m1 : Int) ≤ 1048576 := by omega
  have HSE := hid (show selfR zs (m1 : Int) = finR2 (listK (selfC zs) m1) from by unfold selfR; rw [if_pos (by rw [hA]; simp; omega)]; rfl)
  have HM1 := hid hm1
  have HN2 := hid hlen
  have HMB := hid (show m1 ≤ 1048576 by omega)
  cases hO : (selfR zs (m1 : Int)).2
  · have e : R = noPer := by have := HR.out; unfold perR at this; rw [if_neg (by rw [hm1i, hO]; simp)] at this; exact this.symm
    subst e
    have HF2 := hid (show finR2 (listK (selfC zs) m1) = ((selfR zs (m1 : Int)).1, false) from by rw [← HSE.out, ← hO])
    clear hm1 HR hlen
    go_enter Try.func74, Try.ntmps74
    go_wp2_with (first | (go_at_call 53; with_reducible refine (l03Sound_drew a n c zs _ _ (Holds.ext H1.out (by (repeat with_reducible (first | exact Ext.refl _ | exact ext_alloc _ _ | refine Ext.drewN ?_ _ | refine Ext.drew1 ?_ | refine Ext.set ?_ (by dsimp only; omega) _ | refine Ext.alloc ?_ _)))) HN.out hA).mono ?_; rintro e w' ⟨rfl, q1, rfl⟩) | (go_at_call 47; with_reducible refine (l00In_yes (l : Int) 1 ((n : Int) - 1) hl.1 hl.2 _).mono ?_; rintro e w' ⟨rfl, rfl⟩) | (go_at_call 47; with_reducible refine (l00In_yes (m : Int) (l : Int) ((n : Int) - 1) hm.1 hm.2 _).mono ?_; rintro e w' ⟨rfl, rfl⟩))
    refine (l05Self_any a n c m1 zs _ (Holds.ext H1.out (by (repeat with_reducible (first | exact Ext.refl _ | exact ext_alloc _ _ | refine Ext.drewN ?_ _ | refine Ext.drew1 ?_ | refine Ext.set ?_ (by dsimp only; omega) _ | refine Ext.alloc ?_ _)))) HN.out HMB.out).mono ?_
    rintro e w1 ⟨v, ys, rfl, O1, hy, E1⟩
    have HO := hid O1
    have HY := hid hy
    have EY := hid (show Ext w w1 from Ext.trans (by (repeat with_reducible (first | exact Ext.refl _ | exact ext_alloc _ _ | refine Ext.drewN ?_ _ | refine Ext.drew1 ?_ | refine Ext.set ?_ (by dsimp only; omega) _ | refine Ext.alloc ?_ _))) E1)
    clear O1 hy E1
    go_wp2_with fail
    refine (l03List_is _ _ _ ys (selfR zs (m1 : Int)).1 false _ HO.out HMB.out (by rw [HY.out]; exact HF2.out)).mono ?_
    rintro e w2 ⟨u, rfl, hu, E2⟩
    have hx1 := hid (Ext.trans EY.out E2)
    clear hu E2
    go_wp2_with fail
    go_returns
    exact ⟨_, rfl, cls0, hx1.out⟩
  obtain ⟨hS, _, h256, hfin, hlist⟩ := self_ok hO
  have HF2 := hid (show finR2 (listK (selfC zs) m1) = (listK (selfC zs) m1, true) from by
    have e : (selfR zs (m1 : Int)) = ((selfR zs (m1 : Int)).1, (selfR zs (m1 : Int)).2) := rfl
    rw [← HSE.out, e, hO, hlist]; try rfl)
  have HMK := hid (fun j (hj : j < m1) => meanK_some (k := j) (by rw [HL.out]; exact hlen) (by rw [HL.out]; omega) (hfin j hj))
  have HR2 : Hid ((if fin32 (perX zs l m) then (⟨(perB zs l m : Nat), perX zs l m, true⟩ : PerR) else noPer) = R) := by
    have := HR.out
    have hb := HB.out
    unfold perR at this
    rw [if_pos (by rw [hm1i, hO, HL.out]; simp; omega)] at this
    exact this
  clear hS h256 hfin hlist hlen hO HR hm1
  go_enter Try.func74, Try.ntmps74
  go_wp2_with (first | (go_at_call 53; with_reducible refine (l03Sound_drew a n c zs _ _ (Holds.ext H1.out (by (repeat with_reducible (first | exact Ext.refl _ | exact ext_alloc _ _ | refine Ext.drewN ?_ _ | refine Ext.drew1 ?_ | refine Ext.set ?_ (by dsimp only; omega) _ | refine Ext.alloc ?_ _)))) HN.out hA).mono ?_; rintro e w' ⟨rfl, q1, rfl⟩) | (go_at_call 47; with_reducible refine (l00In_yes (l : Int) 1 ((n : Int) - 1) hl.1 hl.2 _).mono ?_; rintro e w' ⟨rfl, rfl⟩) | (go_at_call 47; with_reducible refine (l00In_yes (m : Int) (l : Int) ((n : Int) - 1) hm.1 hm.2 _).mono ?_; rintro e w' ⟨rfl, rfl⟩))
  refine (l05Self_any a n c m1 zs _ (Holds.ext H1.out (by (repeat with_reducible (first | exact Ext.refl _ | exact ext_alloc _ _ | refine Ext.drewN ?_ _ | refine Ext.drew1 ?_ | refine Ext.set ?_ (by dsimp only; omega) _ | refine Ext.alloc ?_ _)))) HN.out HMB.out).mono ?_
  rintro e w1 ⟨v, ys, rfl, O1, hy, E1⟩
  have HO := hid O1
  have HY := hid hy
  have EY := hid (show Ext w w1 from Ext.trans (by (repeat with_reducible (first | exact Ext.refl _ | exact ext_alloc _ _ | refine Ext.drewN ?_ _ | refine Ext.drew1 ?_ | refine Ext.set ?_ (by dsimp only; omega) _ | refine Ext.alloc ?_ _))) E1)
  clear O1 hy E1
  go_wp2_with fail
  refine (l03List_is _ _ _ ys (listK (selfC zs) m1) true _ HO.out HMB.out (by rw [HY.out]; exact HF2.out)).mono ?_
  rintro e w2 ⟨u, rfl, hu, E2⟩
  obtain ⟨va, vc, us, hv0, hO, hus⟩ := hu
  rw [listK_len] at hv0 hO
  subst hv0
  have hx1 := hid (Ext.trans EY.out E2)
  have HH := hid (own_hold hO)
  have hy0 := hid (fun j (hj : j < m1) => (show cls .f32 (us.getD j 0) = selfC zs j from by
    have h1 : (us.map (cls .f32))[j]? = (listK (selfC zs) m1)[j]? := by rw [hus]
    have hyl : us.length = m1 := hO.len
    simp [listK, hj, hyl] at h1
    simpa [List.getD, hj, hyl] using h1))
  clear hO hus E2 HO HY EY
  obtain ⟨L, hLL⟩ : ∃ L, meansL zs l m = L := ⟨_, rfl⟩
  have HLG := hid (fun j (hj : j < m + 1 - l) => (show L.getD j 0 = meanW zs (l + j) from by rw [← hLL]; exact meansL_get hj))
  have HLL := hid hLL
  clear hLL
  go_wp2_with fail
  go_loopw [12, 13, 14] (fun b t i wr => ∃ (q tw : Nat), l + q ≤ m1 ∧ i = .int .i64 ((l + q : Nat) : Int) ∧ b = .int .i64 ((l + firstK L q : Nat) : Int) ∧ t = .float .f32 tw ∧ Hid (q ≠ 0 → tw = L.getD (firstK L q) 0) ∧ Hid (Ext w2 wr)) (fun _ _ i _ => m1 - (intOf i).toNat)
  case atStart => exact ⟨0, 0, by have := HM1.out; have := HB.out; omega, rfl, rfl, rfl, hid (fun h => absurd rfl h), hid (by (repeat with_reducible (first | exact Ext.refl _ | exact ext_alloc _ _ | refine Ext.drewN ?_ _ | refine Ext.drew1 ?_ | refine Ext.set ?_ (by dsimp only; omega) _ | refine Ext.alloc ?_ _)))⟩
  case round =>
    obtain ⟨q, tw, hq, rfl, rfl, rfl, htw, he⟩ := hrel
    have hb := HB.out
    have hmm := HM1.out
    have hnn : n ≤ 256 := HN2.out
    obtain ⟨k, hk⟩ : ∃ k, l + q = k := ⟨_, rfl⟩
    obtain ⟨F, hF⟩ : ∃ F, l + firstK L q = F := ⟨_, rfl⟩
    have hfl := firstK_le L q
    have HK := hid hk
    have HFF := hid hF
    rw [hk, hF]
    by_cases hlt : k ≤ m
    · obtain ⟨b, off, hva, e1⟩ := cell_at HH.out he.out k (by omega)
      subst hva
      have hmk := HMK.out k (by omega)
      have hlg := HLG.out q (by omega)
      rw [hk] at hlg
      have HCC : Hid (meanK zs k = fop .quo .f32 (selfC zs k) (some (floatOfInt .f32 ((n : Int) - (k : Int))))) := by rw [← HL.out]; exact hid rfl
      rw [← hy0.out k (by omega)] at HCC
      generalize us.getD k 0 = u at e1 HCC
      have HMKX := hid hmk
      have HLGX := hid hlg
      clear hmk hlg
      have hi0 : (0 : Int) ≤ (k : Int) := by omega
      have hi1 : (k : Int) < (m1 : Int) := by omega
      have hi2 : (k : Int) ≤ (m : Int) := by omega
      by_cases hq0 : q = 0
      · have hkl : (k : Int) = (l : Int) := by omega
        have HF1 := hid (show firstK L (q + 1) = 0 from by subst hq0; rfl)
        have HQ0 := hid hq0
        have hF2 : F = k := by rw [← hF, ← hk, hq0]; rfl
        have HKL := hid hkl
        have HKN := hid (show k = l by omega)
        clear hF hk hkl hfl hmm hq
        have hF3 : k = F := hF2.symm
        subst hF3
        clear hq0
        go_wp2_with (first | (refine wpList_fa (op := .quo) rfl rfl rfl rfl rfl (is_self .f32 u) (is_int _) ?_; intro r m9 hr hrw))
        have hr2 : meanW zs k = r := cls_word (by rw [← HMKX.out.1, HCC.out]; exact Is.out hr)
        go_roundw
        case rel => exact ⟨q + 1, r, by have h1 := HM1.out; have h2 := HK.out; omega, by have h2 := HK.out; rw [show l + (q + 1) = k + 1 by omega]; go_num, by first | (rw [HF1.out, HKN.out]; rfl) | (rw [HF1.out]; rfl), rfl, hid (fun _ => by rw [HF1.out, ← hr2, ← HLGX.out, HQ0.out]), hid (Ext.trans he.out (by (repeat with_reducible (first | exact Ext.refl _ | exact ext_alloc _ _ | refine Ext.drewN ?_ _ | refine Ext.drew1 ?_ | refine Ext.set ?_ (by dsimp only; omega) _ | refine Ext.alloc ?_ _))))⟩
        case measure => have h1 := HM1.out; simp [intOf]; omega
      · have hkl : ((k : Int) == (l : Int)) = false := by simp; omega
        have HTW := hid (htw.out hq0)
        have hnx : nanW .f32 (meanW zs k) = false := HMKX.out.2
        have hnt : nanW .f32 tw = false := by
          have h1 := htw.out hq0
          have h2 := HLG.out (firstK L q) (by omega)
          rw [h1, h2]
          exact (HMK.out _ (by omega)).2
        have hcmp := gtr_val32 hnx hnt
        have HFS := hid (first_succ (ys := L) hq0)
        rw [← HTW.out] at HFS
        have HLK := hid (show L.getD q 0 = meanW zs k from HLGX.out)
        obtain ⟨y, hy⟩ : ∃ y, meanW zs k = y := ⟨_, rfl⟩
        rw [HLK.out] at HFS
        rw [hy] at hcmp HFS HMKX HLK
        have HYY := hid hy
        clear hy hfl hmm hq hnx hnt hk hF
        cases hd : decide (val32 tw < val32 y)
        · rw [hd] at hcmp
          have HFN := hid (show firstK L (q + 1) = firstK L q from by rw [HFS.out, if_neg (of_decide_eq_false hd)])
          clear hd
          go_wp2_with (first | (refine wpList_fa (op := .quo) rfl rfl rfl rfl rfl (is_self .f32 u) (is_int _) ?_; intro r m9 hr hrw; have hr2 : y = r := cls_word (by rw [← HMKX.out.1, HCC.out]; exact Is.out hr); subst hr2) | (refine wpList_fcmp rfl rfl rfl rfl rfl (is_self .f32 y) (is_self .f32 tw) ?_; rw [hcmp]))
          go_roundw
          case rel => exact ⟨q + 1, tw, by have h1 := HM1.out; have h2 := HK.out; omega, by have h2 := HK.out; rw [show l + (q + 1) = k + 1 by omega]; go_num, by rw [HFN.out, HFF.out], rfl, hid (fun _ => by rw [HFN.out]; exact HTW.out), hid (Ext.trans he.out (by (repeat with_reducible (first | exact Ext.refl _ | exact ext_alloc _ _ | refine Ext.drewN ?_ _ | refine Ext.drew1 ?_ | refine Ext.set ?_ (by dsimp only; omega) _ | refine Ext.alloc ?_ _))))⟩
          case measure => have h1 := HM1.out; simp [intOf]; omega
        · rw [hd] at hcmp
          have HFN := hid (show firstK L (q + 1) = q from by rw [HFS.out, if_pos (of_decide_eq_true hd)])
          clear hd
          go_wp2_with (first | (refine wpList_fa (op := .quo) rfl rfl rfl rfl rfl (is_self .f32 u) (is_int _) ?_; intro r m9 hr hrw; have hr2 : y = r := cls_word (by rw [← HMKX.out.1, HCC.out]; exact Is.out hr); subst hr2) | (refine wpList_fcmp rfl rfl rfl rfl rfl (is_self .f32 y) (is_self .f32 tw) ?_; rw [hcmp]))
          go_roundw
          case rel => exact ⟨q + 1, y, by have h1 := HM1.out; have h2 := HK.out; omega, by have h2 := HK.out; rw [show l + (q + 1) = k + 1 by omega]; go_num, by rw [HFN.out, HK.out], rfl, hid (fun _ => by rw [HFN.out, HLK.out]), hid (Ext.trans he.out (by (repeat with_reducible (first | exact Ext.refl _ | exact ext_alloc _ _ | refine Ext.drewN ?_ _ | refine Ext.drew1 ?_ | refine Ext.set ?_ (by dsimp only; omega) _ | refine Ext.alloc ?_ _))))⟩
          case measure => have h1 := HM1.out; simp [intOf]; omega
    · have hkm : k = m1 := by omega
      have hq2 : q = m + 1 - l := by omega
      have HPB := hid (show perB zs l m = F from by unfold perB; rw [HLL.out, ← hq2]; exact hF)
      have hq0 : q ≠ 0 := by omega
      have hnz : meanK zs F = some tw := by
        have h1 := htw.out hq0
        have h2 := HLG.out (firstK L q) (by
          unfold firstK; rw [if_neg hq0]
          have := bestK_le L (q - 1)
          omega)
        rw [hF] at h2
        rw [h1, h2]
        exact (HMK.out F (by
          have h3 : firstK L q ≤ q - 1 := by unfold firstK; rw [if_neg hq0]; exact bestK_le L (q - 1)
          omega)).1
      obtain ⟨b, off, hva, e1⟩ := cell_at HH.out he.out 0 (by omega)
      subst hva
      rw [Nat.add_zero] at e1
      have h0 := hy0.out 0 (by omega)
      have HM0 : Hid (meanK zs 0 = fop .quo .f32 (selfC zs 0) (some (floatOfInt .f32 (n : Int)))) := by
        have e : ((zs.length : Int) - ((0 : Nat) : Int)) = (n : Int) := by rw [HL.out]; omega
        show meanK zs 0 = _
        unfold meanK
        rw [e]
      rw [← h0] at HM0
      generalize us.getD 0 0 = u at e1 HM0
      clear h0
      have HX : Hid (perX zs l m = fop .quo .f32 (meanK zs F) (meanK zs 0)) := by unfold perX; rw [HPB.out]; exact hid rfl
      rw [hnz] at HX
      have HTWC : Is .f32 tw (some tw) := cls_num (by
        have h1 := htw.out hq0
        have h2 := HLG.out (firstK L q) (by
          unfold firstK; rw [if_neg hq0]
          have := bestK_le L (q - 1)
          omega)
        rw [h1, h2]
        exact (HMK.out _ (by
          have h3 : firstK L q ≤ q - 1 := by unfold firstK; rw [if_neg hq0]; exact bestK_le L (q - 1)
          omega)).2)
      have hi0 : (0 : Int) < (m1 : Int) := by omega
      have hi1 : 0 < m1 := by omega
      have hi2 : ¬ ((k : Int) ≤ (m : Int)) := by omega
      have HPI := hid (show ((perB zs l m : Nat) : Int) = (F : Int) from by rw [HPB.out])
      clear hkm hq2 hnz hF hk hfl hmm hq
      cases hfx : fin32 (perX zs l m)
      · have e : R = noPer := by have := HR2.out; rw [hfx] at this; exact this.symm
        subst e
        go_wp2_with (first | (refine wpList_fa (op := .quo) rfl rfl rfl rfl rfl (is_self .f32 u) (is_int _) ?_; intro r m9 hr hrw; rw [← HM0.out] at hr) | (refine wpList_fa (op := .quo) rfl rfl rfl rfl rfl HTWC hr ?_; intro r2 m8 hr2 hrw2; rw [← HX.out] at hr2) | (go_at_call 57; refine (l01Finite_any _ _).mono ?_; rintro e w' ⟨rfl, m7, rfl⟩; rw [Is.out hr2, hfx]))
        go_returns
        exact ⟨_, rfl, cls0, Ext.trans hx1.out (Ext.trans he.out (by (repeat with_reducible (first | exact Ext.refl _ | exact ext_alloc _ _ | refine Ext.drewN ?_ _ | refine Ext.drew1 ?_ | refine Ext.set ?_ (by dsimp only; omega) _ | refine Ext.alloc ?_ _))))⟩
      · have e : R = ⟨(perB zs l m : Nat), perX zs l m, true⟩ := by have := HR2.out; rw [hfx] at this; exact this.symm
        subst e
        go_wp2_with (first | (refine wpList_fa (op := .quo) rfl rfl rfl rfl rfl (is_self .f32 u) (is_int _) ?_; intro r m9 hr hrw; rw [← HM0.out] at hr) | (refine wpList_fa (op := .quo) rfl rfl rfl rfl rfl HTWC hr ?_; intro r2 m8 hr2 hrw2; rw [← HX.out] at hr2) | (go_at_call 57; refine (l01Finite_any _ _).mono ?_; rintro e w' ⟨rfl, m7, rfl⟩; rw [Is.out hr2, hfx]))
        go_returns
        exact ⟨_, by rw [HPI.out]; rfl, hr2, Ext.trans hx1.out (Ext.trans he.out (by (repeat with_reducible (first | exact Ext.refl _ | exact ext_alloc _ _ | refine Ext.drewN ?_ _ | refine Ext.drew1 ?_ | refine Ext.set ?_ (by dsimp only; omega) _ | refine Ext.alloc ?_ _))))⟩



def voicedB (zs : List Nat) (l m : Int) (X : Option Nat) : Bool := (perR zs l m).ok && fcmp .geq (ford .f32 (perR zs l m).x X)

theorem sPer_any (a : Option Addr) (n c : Nat) (l m : Int) (zs : List Nat) (R : PerR) (w : World) (h : Holds .f32 w a n zs) (hn : n ≤ 1048576) (hR : perR zs l m = R) :
    Calls Try.prog 41 #[.slice a n c, .int .i64 l, .int .i64 m] w fun e w' => ∃ r, e = .returned (.tuple #[.int .i64 R.i, .float .f32 r, .bool R.ok]) ∧ Is .f32 r R.x ∧ Ext w w' := by
  have H1 := hid h
  have HN := hid hn
  have HR := hid hR
  clear h hn hR
  go_enter Try.func41, Try.ntmps41
  go_wp2_with (go_at_call 74; refine (l05Per_any a n c l m zs R _ (Holds.ext H1.out (by (repeat with_reducible (first | exact Ext.refl _ | exact ext_alloc _ _ | refine Ext.drewN ?_ _ | refine Ext.drew1 ?_ | refine Ext.set ?_ (by dsimp only; omega) _ | refine Ext.alloc ?_ _)))) HN.out HR.out).mono ?_; rintro e w1 ⟨r, rfl, hr, E1⟩)
  go_returns
  exact ⟨_, rfl, hr, E1⟩

set_option maxHeartbeats 4000000 in
set_option maxRecDepth 100000 in
theorem voiced_any (a : Option Addr) (n c x : Nat) (l m : Int) (zs : List Nat) (V : Bool) (w : World) (h : Holds .f32 w a n zs) (hn : n ≤ 1048576) (hcap : n ≤ c) (hV : voicedB zs l m (cls .f32 x) = V) :
    Calls Try.prog 44 #[.slice a n c, .int .i64 l, .int .i64 m, .float .f32 x] w fun e w' => e = .returned (.bool V) ∧ Ext w w' := by
  have H1 := hid h
  have HN := hid hn
  have HCAP := hid hcap
  have HV := hid hV
  clear h hn hV
  clear hcap
  obtain ⟨R, hR⟩ : ∃ R, perR zs l m = R := ⟨_, rfl⟩
  have HRR := hid hR
  cases hok : R.ok
  · have e : V = false := by rw [← HV.out]; unfold voicedB; rw [hR, hok]; rfl
    subst e
    clear hR
    go_enter Try.func44, Try.ntmps44
    go_wp2_with (go_at_call 42; refine (per_any a n c l m zs _ _ (Holds.ext H1.out (by (repeat with_reducible (first | exact Ext.refl _ | exact ext_alloc _ _ | refine Ext.drewN ?_ _ | refine Ext.drew1 ?_ | refine Ext.set ?_ (by dsimp only; omega) _ | refine Ext.alloc ?_ _)))) HN.out HCAP.out HRR.out).mono ?_; rintro e w1 ⟨r, rfl, hr, E1⟩; rw [hok])
    go_ret
    exact ⟨rfl, E1⟩
  · have e : fcmp .geq (ford .f32 R.x (cls .f32 x)) = V := by rw [← HV.out]; unfold voicedB; rw [hR, hok]; simp
    have HE := hid e
    clear hR e
    go_enter Try.func44, Try.ntmps44
    go_wp2_with (first | (go_at_call 42; refine (per_any a n c l m zs _ _ (Holds.ext H1.out (by (repeat with_reducible (first | exact Ext.refl _ | exact ext_alloc _ _ | refine Ext.drewN ?_ _ | refine Ext.drew1 ?_ | refine Ext.set ?_ (by dsimp only; omega) _ | refine Ext.alloc ?_ _)))) HN.out HCAP.out HRR.out).mono ?_; rintro e w1 ⟨r, rfl, hr, E1⟩; rw [hok]) | (refine wpList_fcmp rfl rfl rfl rfl rfl hr (is_self .f32 x) ?_; rw [HE.out]))
    go_ret
    exact ⟨rfl, E1⟩

set_option maxHeartbeats 4000000 in
set_option maxRecDepth 100000 in
theorem sVoiced_any (a : Option Addr) (n c x : Nat) (l m : Int) (zs : List Nat) (V : Bool) (w : World) (h : Holds .f32 w a n zs) (hn : n ≤ 1048576) (hV : voicedB zs l m (cls .f32 x) = V) :
    Calls Try.prog 43 #[.slice a n c, .int .i64 l, .int .i64 m, .float .f32 x] w fun e w' => e = .returned (.bool V) ∧ Ext w w' := by
  have H1 := hid h
  have HN := hid hn
  skip
  have HV := hid hV
  clear h hn hV
  skip
  obtain ⟨R, hR⟩ : ∃ R, perR zs l m = R := ⟨_, rfl⟩
  have HRR := hid hR
  cases hok : R.ok
  · have e : V = false := by rw [← HV.out]; unfold voicedB; rw [hR, hok]; rfl
    subst e
    clear hR
    go_enter Try.func43, Try.ntmps43
    go_wp2_with (go_at_call 74; refine (l05Per_any a n c l m zs _ _ (Holds.ext H1.out (by (repeat with_reducible (first | exact Ext.refl _ | exact ext_alloc _ _ | refine Ext.drewN ?_ _ | refine Ext.drew1 ?_ | refine Ext.set ?_ (by dsimp only; omega) _ | refine Ext.alloc ?_ _)))) HN.out HRR.out).mono ?_; rintro e w1 ⟨r, rfl, hr, E1⟩; rw [hok])
    go_ret
    exact ⟨rfl, E1⟩
  · have e : fcmp .geq (ford .f32 R.x (cls .f32 x)) = V := by rw [← HV.out]; unfold voicedB; rw [hR, hok]; simp
    have HE := hid e
    clear hR e
    go_enter Try.func43, Try.ntmps43
    go_wp2_with (first | (go_at_call 74; refine (l05Per_any a n c l m zs _ _ (Holds.ext H1.out (by (repeat with_reducible (first | exact Ext.refl _ | exact ext_alloc _ _ | refine Ext.drewN ?_ _ | refine Ext.drew1 ?_ | refine Ext.set ?_ (by dsimp only; omega) _ | refine Ext.alloc ?_ _)))) HN.out HRR.out).mono ?_; rintro e w1 ⟨r, rfl, hr, E1⟩; rw [hok]) | (refine wpList_fcmp rfl rfl rfl rfl rfl hr (is_self .f32 x) ?_; rw [HE.out]))
    go_ret
    exact ⟨rfl, E1⟩

end Go.Proofs.Ytpmjiabllmomjaa

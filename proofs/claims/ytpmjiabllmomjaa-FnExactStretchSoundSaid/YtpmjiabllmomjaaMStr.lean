/- The lesser of two integers. -/
import Derived.Test.YtpmjiabllmomjaaBox
import Derived.Test.YtpmjiabllmomjaaIs
import Derived.Test.YtpmjiabllmomjaaM7
namespace Go.Proofs.Ytpmjiabllmomjaa
open Go.RowKit Flt
set_option linter.unusedVariables false

theorem wpList_imin {ops : Array Oper} {rest : List Oper} {o : Oper} {a : Act} {Q : Exit → Act → World → Prop} {w : World} {x y : Operand} {t1 t2 : TypeId} (ho : o.op = .call { callee := .builtin .min, args := #[x, y], argTypes := #[t1, t2] }) (hw : Region.wanted o (yielded ops a.tmps) = true) {p q : Int} (hx : a.eval x = .int .i64 p) (hy : a.eval y = .int .i64 q)
    (h : wpList Try.prog ops Q rest (a.put o.dst (.int .i64 (min p q))) w) : wpList Try.prog ops Q (o :: rest) a w := by
  refine wpList_wanted hw fun K hK' => ?_
  have hrun : ∀ ts ty, (Builtin.min_ ts ty #[.int .i64 p, .int .i64 q]).run Try.prog w = .ok (.int .i64 (min p q)) w := by
    intro ts ty
    have e : (if q < p then q else p) = min p q := by split <;> omega
    simp [Builtin.min_, Builtin.min2, e]
  unfold Oper.wp
  have hk := hK' _ _ h
  simp [execOp, ho, resolve, invoke, builtin, hx, hy, hrun, Result.andThen]
  exact hk


open Ieee
theorem cut_tz (s : Bool) (n drop : Nat) : Toward.zero.cut s n drop = n / 2 ^ drop := by
  unfold Toward.cut
  dsimp only
  by_cases hd : drop ≤ n.log2 + 2
  · rw [Nat.min_eq_left hd, Nat.one_shiftLeft]; rfl
  · rw [Nat.min_eq_right (by omega), Nat.one_shiftLeft]
    have h1 : n < 2 ^ (n.log2 + 1) := Nat.lt_log2_self
    have h2 : n < 2 ^ (n.log2 + 2) := Nat.lt_of_lt_of_le h1 (Nat.pow_le_pow_right (by omega) (by omega))
    have h3 : n < 2 ^ drop := Nat.lt_of_lt_of_le h1 (Nat.pow_le_pow_right (by omega) (by omega))
    rw [Nat.div_eq_of_lt h2, Nat.div_eq_of_lt h3]; rfl

theorem product_comm (x y : Datum) : x.product y = y.product x := by
  cases x <;> cases y <;> simp [Datum.product, Bool.xor_comm, Nat.mul_comm, Int.add_comm]
theorem mul_comm_c (X Y : Option Nat) : fop .mul .f32 X Y = fop .mul .f32 Y X := by
  cases X <;> cases Y <;> try rfl
  rename_i x y
  show floatBits .mul .f32 x y = floatBits .mul .f32 y x
  simp only [floatBits, Format.mul]
  rw [product_comm]
theorem to_int32 (b m : Nat) (i : Int) (hr : FloatKind.f32.format.read b = .number false m i) (hle : leP m i 22) :
    ∃ j : Nat, floatToIntVal .f32 b .i64 = some (j : Int) ∧ j ≤ 4194304 := by
  obtain ⟨T, hT⟩ : ∃ T, T = m <<< i.toNat / 2 ^ (-i).toNat := ⟨_, rfl⟩
  have hTle : T ≤ 2 ^ 22 := by
    rw [hT]
    apply Nat.div_le_of_le_mul
    rw [Nat.shiftLeft_eq, Nat.mul_comm (2 ^ (-i).toNat), ← Nat.pow_add]
    rcases hle with h | ⟨h1, h2⟩
    · rw [h, Nat.zero_mul]; exact Nat.zero_le _
    · have e1 : 22 + (-i).toNat = (22 - i).toNat + i.toNat := by omega
      rw [e1, Nat.pow_add]
      exact Nat.mul_le_mul_right _ h2
  have h1 : (FloatKind.f32.decode b).toInt .zero = some (signed false T 0) := by
    unfold FloatKind.decode
    rw [hr]
    simp only [Datum.toInt, Datum.integral, cut_tz, ← hT]
  have h2 : signed false T 0 = (T : Int) := by unfold signed; rw [Nat.shiftLeft_zero]; rfl
  have h3 : (2 : Nat) ^ 22 = 4194304 := by decide
  rw [h3] at hTle
  refine ⟨T, ?_, hTle⟩
  unfold floatToIntVal
  rw [h1, h2]
  have h4 : IntKind.i64.min ≤ (T : Int) ∧ (T : Int) ≤ IntKind.i64.max := by
    have e1 : IntKind.i64.min = -9223372036854775808 := by decide
    have e2 : IntKind.i64.max = 9223372036854775807 := by decide
    rw [e1, e2]; omega
  show (if IntKind.i64.min ≤ (T : Int) ∧ (T : Int) ≤ IntKind.i64.max then some (T : Int) else none) = _
  rw [if_pos h4]
theorem int_le {a : Nat} (h : a < 258) : ∃ m i, FloatKind.f32.format.read (floatOfInt .f32 (a : Int)) = .number false m i ∧ -149 ≤ i ∧ leP m i 9 ∧ (a ≠ 0 → geP m i 0) := by
  obtain ⟨m, i, hr, h1, h2, h3, h4⟩ := int_read h
  refine ⟨m, i, hr, h2, ?_, fun h0 => ?_⟩
  · by_cases hm : m = 0
    · exact .inl hm
    · right
      have g1 : m * 2 ^ (i + 149).toNat ≤ 2 ^ 158 := by
        rw [h4]
        have : (2 : Nat) ^ 158 = 2 ^ 9 * 2 ^ 149 := by rw [← Nat.pow_add]
        rw [this]
        exact Nat.mul_le_mul_right _ (by omega)
      have g2 : 2 ^ (i + 149).toNat ≤ 2 ^ 158 := Nat.le_trans (Nat.le_mul_of_pos_left _ (Nat.pos_of_ne_zero hm)) g1
      have g3 : (i + 149).toNat ≤ 158 := (Nat.pow_le_pow_iff_right (by omega)).1 g2
      refine ⟨by omega, ?_⟩
      have e4 : 158 = (9 - i).toNat + (i + 149).toNat := by omega
      rw [e4, Nat.pow_add] at g1
      exact Nat.le_of_mul_le_mul_right g1 (Nat.two_pow_pos _)
  · have hm : m ≠ 0 := by rintro rfl; rw [Nat.zero_mul] at h4; have := Nat.two_pow_pos 149; have := Nat.mul_ne_zero h0 (Nat.ne_of_gt this); omega
    refine ⟨hm, ?_⟩
    by_cases hi : 0 ≤ i
    · have : (0 - i).toNat = 0 := by omega
      rw [this, Nat.pow_zero]; omega
    · have g1 : 2 ^ 149 ≤ m * 2 ^ (i + 149).toNat := by rw [h4]; exact Nat.le_mul_of_pos_left _ (by omega)
      have e4 : 149 = (0 - i).toNat + (i + 149).toNat := by omega
      rw [e4, Nat.pow_add] at g1
      have e5 : (i + 149).toNat = (i + 149).toNat := rfl
      exact Nat.le_of_mul_le_mul_right (by simpa using g1) (Nat.two_pow_pos (i + 149).toNat)
def strP (n count k : Nat) : Option Nat := fop .mul .f32 (fop .quo .f32 (some (floatOfInt .f32 (k : Int))) (some (floatOfInt .f32 ((count : Int) - 1)))) (some (floatOfInt .f32 ((n : Int) - 1)))
def strW (n count k : Nat) : Nat := (strP n count k).getD 0
def strJ (n count k : Nat) : Nat := ((floatToIntVal .f32 (strW n count k) .i64).getD 0).toNat
def strI (n count k : Nat) : Nat := min (strJ n count k) (n - 2)
theorem str_pre {n count k : Nat} (hk : k < count) (hc : 2 ≤ count) (hc2 : count ≤ 256) (hn : 2 ≤ n) (hn2 : n ≤ 256) :
    (∃ q, fop .quo .f32 (some (floatOfInt .f32 (k : Int))) (some (floatOfInt .f32 ((count : Int) - 1))) = some q ∧ nanW .f32 q = false ∧ fop .mul .f32 (some q) (some (floatOfInt .f32 ((n : Int) - 1))) = some (strW n count k)) ∧
    nanW .f32 (strW n count k) = false ∧ floatToIntVal .f32 (strW n count k) .i64 = some ((strJ n count k : Nat) : Int) ∧ strJ n count k ≤ 4194304 ∧
    (∀ i : Nat, i < 256 → ∃ s, floatBits .sub .f32 (strW n count k) (floatOfInt .f32 (i : Int)) = some s ∧ nanW .f32 s = false) := by
  obtain ⟨m1, i1, r1, a1, a2, _⟩ := int_le (a := k) (by omega)
  obtain ⟨m2, i2, r2, b1, _, b3⟩ := int_le (a := count - 1) (by omega)
  obtain ⟨m3, i3, r3, c1, c2, _⟩ := int_le (a := n - 1) (by omega)
  have e2 : ((count - 1 : Nat) : Int) = (count : Int) - 1 := by omega
  have e3 : ((n - 1 : Nat) : Int) = (n : Int) - 1 := by omega
  rw [e2] at r2
  rw [e3] at r3
  have hg := b3 (by omega)
  obtain ⟨r, kk, p, hs, hl⟩ := quot_le (s := false) (t := false) a2 hg (FloatKind.f32.format.fractionBits + 2)
  have hr : r = false := by
    have h9 := hs
    simp only [Datum.quotient] at h9
    rw [if_neg hg.1] at h9
    simp only [Option.some.injEq, Datum.number.injEq] at h9
    exact h9.1.symm
  subst hr
  have hq : fop .quo .f32 (some (floatOfInt .f32 (k : Int))) (some (floatOfInt .f32 ((count : Int) - 1))) = some (FloatKind.f32.format.nearest false kk p) := by
    simp only [fop, Option.bind_some, floatBits, Format.div, r1, r2, hs, Option.map_some]; rfl
  obtain ⟨m4, i4, r4, d2, _⟩ := near32 false kk p (9 - 0) hl (by omega) (by omega)
  have hm : fop .mul .f32 (some (FloatKind.f32.format.nearest false kk p)) (some (floatOfInt .f32 ((n : Int) - 1))) = some (FloatKind.f32.format.nearest (false ^^ false) (m4 * m3) (i4 + i3)) := by
    simp only [fop, Option.bind_some, floatBits, Format.mul, r4, r3]; rfl
  have hl2 := leP_mul d2 c2
  obtain ⟨m5, i5, r5, f2, _⟩ := near32 (false ^^ false) (m4 * m3) (i4 + i3) (9 - 0 + 9) hl2 (by omega) (by omega)
  have hP : strP n count k = some (FloatKind.f32.format.nearest (false ^^ false) (m4 * m3) (i4 + i3)) := by unfold strP; rw [hq, hm]
  have hW : strW n count k = FloatKind.f32.format.nearest (false ^^ false) (m4 * m3) (i4 + i3) := by unfold strW; rw [hP]; rfl
  have hnW : nanW .f32 (strW n count k) = false := by rw [hW, ← read_nan, r5]; rfl
  obtain ⟨j, hj, hj2⟩ := to_int32 (strW n count k) m5 i5 (by rw [hW]; exact r5) (leP_mono f2 (by omega))
  have hJ : strJ n count k = j := by unfold strJ; rw [hj]; rfl
  refine ⟨⟨_, hq, by rw [← read_nan, r4]; rfl, by rw [hm, hW]⟩, hnW, by rw [hJ]; exact hj, by rw [hJ]; exact hj2, fun i hi => ?_⟩
  obtain ⟨m6, i6, r6, _⟩ := int_le (a := i) (by omega)
  obtain ⟨d, hd⟩ : ∃ d, (FloatKind.f32.format.read (strW n count k)).sum (FloatKind.f32.format.read (floatOfInt .f32 (i : Int))).opposite = some d := by rw [hW, r5, r6]; exact ⟨_, rfl⟩
  have hb : floatBits .sub .f32 (strW n count k) (floatOfInt .f32 (i : Int)) = some (FloatKind.f32.format.write d) := by
    simp only [floatBits, Format.sub, hd]; rfl
  exact ⟨_, hb, floatBits_num hb⟩
def strC (zs : List Nat) (count k : Nat) : Option Nat :=
  fop .add .f32 (cls .f32 (zs.getD (strI zs.length count k) 0)) (fop .mul .f32 (fop .sub .f32 (some (strW zs.length count k)) (some (floatOfInt .f32 ((strI zs.length count k : Nat) : Int)))) (fop .sub .f32 (cls .f32 (zs.getD (strI zs.length count k + 1) 0)) (cls .f32 (zs.getD (strI zs.length count k) 0))))
def strR (zs : List Nat) (count : Int) : List (Option Nat) × Bool := if soundB (zs.map (cls .f32)) && (decide (2 ≤ zs.length) && (decide (2 ≤ count) && decide (count ≤ 256))) then soundR (strC zs count.toNat) count.toNat else ([], false)
theorem str_len (zs : List Nat) (count : Int) : (strR zs count).1.length ≤ 256 := by
  unfold strR
  split
  · rename_i h
    simp only [Bool.and_eq_true, decide_eq_true_eq] at h
    have h2 := soundR_len (strC zs count.toNat) count.toNat
    omega
  · exact Nat.zero_le _
section
variable {P : Program} {w : World} {ops : Array Oper} {rest : List Oper} {o : Oper} {a : Act} {Q : Exit → Act → World → Prop}
theorem wpList_conv12 {src dst : TypeId} {x : Operand} (hop : o.op = Op.convert src dst x) (hw : Region.wanted o (yielded ops a.tmps) = true) {v0 v : Value} (hx : a.eval x = v0) (hrun : ∀ w : World, (convert src dst v0).run P w = .ok v w)
    (hK : wpList P ops Q rest (a.put o.dst v) w) : wpList P ops Q (o :: rest) a w := by
  refine wpList_wanted hw fun K hK' => ?_
  have hk := hK' _ _ hK
  unfold Oper.wp
  simp [execOp, hop, hx, hrun]
  exact hk
end



theorem str_eq {zs : List Nat} {n count k I W : Nat} (hn : zs.length = n) (hI : strI n count k = I) (hW : strW n count k = W) :
    strC zs count k = fop .add .f32 (cls .f32 (zs.getD I 0)) (fop .mul .f32 (fop .sub .f32 (some W) (some (floatOfInt .f32 (I : Int)))) (fop .sub .f32 (cls .f32 (zs.getD (I + 1) 0)) (cls .f32 (zs.getD I 0)))) := by
  subst hn; subst hI; subst hW; rfl

theorem betw_any (a b s : Nat) (S : Option Nat) (hS : Is .f32 s S) (w : World) : Calls Try.prog 78 #[.float .f32 a, .float .f32 b, .float .f32 s] w fun e w' => ∃ r, e = .returned (.float .f32 r) ∧ Is .f32 r (fop .add .f32 (cls .f32 a) (fop .mul .f32 (fop .sub .f32 (cls .f32 b) (cls .f32 a)) S)) ∧ ∃ m, w' = w.drewN m := by
  go_enter Try.func78, Try.ntmps78
  go_wp2_with (refine wpList_fa rfl rfl rfl rfl rfl (by first | assumption | exact is_const (by decide) | exact is_int _ | exact is_self _ _) (by first | assumption | exact is_const (by decide) | exact is_int _ | exact is_self _ _) ?_; intro r m hr hrw)
  go_ret
  exact ⟨_, rfl, hr, _, rfl⟩

set_option maxHeartbeats 4000000 in
set_option maxRecDepth 100000 in
theorem str_clo (k n c count b1 b2 b3 : Nat) (L : Int) (a : Option Addr) (zs : List Nat) (w : World) (hk : k < count) (hc2 : 2 ≤ count) (hc3 : count ≤ 256) (hn2 : 2 ≤ n) (hn3 : n ≤ 256) (hL : (n : Int) - 1 = L) (h1 : Box w b1 #[.int .i64 (count : Int)]) (h2 : Box w b2 #[.int .i64 L]) (h3 : Box w b3 #[.slice a n c]) (g1 : Holds .f32 w a n zs) :
    Calls Try.prog 77 #[.int .i64 (k : Int), .pointer (some ⟨b1, 0, none⟩), .pointer (some ⟨b2, 0, none⟩), .pointer (some ⟨b3, 0, none⟩)] w fun e w' => ∃ r, e = .returned (.float .f32 r) ∧ cls .f32 r = strC zs count k ∧ Ext w w' := by
  obtain ⟨d1, l1⟩ := Box.cells1 h1
  obtain ⟨d2, l2⟩ := Box.cells1 h2
  obtain ⟨d3, l3⟩ := Box.cells1 h3
  have hzn : zs.length = n := g1.1
  obtain ⟨⟨q, hq, hqn, hmq⟩, hWn, hJ, hJb, hS⟩ := str_pre (n := n) (count := count) (k := k) hk hc2 hc3 hn2 hn3
  obtain ⟨C1, hC1⟩ : ∃ C1 : Int, (count : Int) - 1 = C1 := ⟨_, rfl⟩
  obtain ⟨L2, hL2⟩ : ∃ L2 : Int, L - 1 = L2 := ⟨_, rfl⟩
  have hIlt : strI n count k + 1 < n := by unfold strI; omega
  have hmin : min ((strJ n count k : Nat) : Int) L2 = ((strI n count k : Nat) : Int) := by unfold strI; omega
  obtain ⟨I, hI⟩ : ∃ I, strI n count k = I := ⟨_, rfl⟩
  obtain ⟨J, hJ0⟩ : ∃ J, strJ n count k = J := ⟨_, rfl⟩
  obtain ⟨W, hW0⟩ : ∃ W, strW n count k = W := ⟨_, rfl⟩
  have HCC := hid (str_eq hzn hI hW0)
  rw [hI] at hIlt hmin
  rw [hJ0] at hmin hJ hJb
  rw [hW0] at hmq hWn hJ hS
  rw [hC1] at hq
  rw [hL] at hmq
  obtain ⟨I1, hI1⟩ : ∃ I1, I + 1 = I1 := ⟨_, rfl⟩
  rw [hI1] at HCC hIlt
  have hI1i : (I : Int) + 1 = (I1 : Int) := by omega
  have HE1 := hid (fun (r1 : Nat) (h : Is .f32 r1 (fop .quo .f32 (some (floatOfInt .f32 (k : Int))) (some (floatOfInt .f32 C1)))) => (cls_word ((Is.out h).trans hq) : q = r1))
  have hqs : Is .f32 q (some q) := cls_num hqn
  have HE2 := hid (fun (r1 : Nat) (h : Is .f32 r1 (fop .mul .f32 (some q) (some (floatOfInt .f32 L)))) => (cls_word ((Is.out h).trans hmq) : W = r1))
  have hWs : Is .f32 W (some W) := cls_num hWn
  have W1 : IntKind.i64.wrap C1 = C1 := wrap_small (by omega) (by omega)
  have W2 : IntKind.i64.wrap L = L := wrap_small (by omega) (by omega)
  have W3 : IntKind.i64.wrap L2 = L2 := wrap_small (by omega) (by omega)
  have W4 : IntKind.i64.wrap (I1 : Int) = (I1 : Int) := wrap_small (by omega) (by omega)
  have hi0 : (0 : Int) ≤ (I : Int) := by omega
  have hi1 : (I : Int) < (n : Int) := by omega
  have hi2 : (0 : Int) ≤ (I1 : Int) := by omega
  have hi3 : (I1 : Int) < (n : Int) := by omega
  obtain ⟨s, hs, hsn⟩ := hS I (by omega)
  rcases g1.2 with hz | ⟨b, off, rfl, hb, hcc⟩
  · omega
  have e1 := hcc I (by omega)
  have e2 := hcc I1 (by omega)
  generalize zs.getD I 0 = x at e1 HCC
  generalize zs.getD I1 0 = y at e2 HCC
  have hss : Is .f32 s (fop .sub .f32 (some W) (some (floatOfInt .f32 (I : Int)))) := by
    show cls .f32 s = _
    rw [cls_num hsn]; exact hs.symm
  have Q1 : ∀ w : World, (binOp .sub 33 (.float .f32 W) (.float .f32 (floatOfInt .f32 (I : Int)))).run Try.prog w = .ok (.float .f32 s) w := fun w => run_float_arith w .sub 33 .f32 _ _ _ hs
  have HCV := hid (fun w : World => run_convert_float_int w 33 3 .f32 .i64 W (J : Int) (by rw [Try.underlying33]; rfl) Try.underlying3 hJ)
  have LB := hid (show b1 < w.heap.size ∧ b2 < w.heap.size ∧ b3 < w.heap.size ∧ b < w.heap.size from ⟨l1, l2, l3, hb⟩)
  clear h1 h2 h3 g1 hb hcc hq hmq hJ hS hs hI hJ0 hW0 l1 l2 l3
  go_enter Try.func77, Try.ntmps77
  go_wp2_with (first | (refine wpList_fa (op := .quo) rfl rfl rfl rfl rfl (is_int (k : Int)) (is_int C1) ?_; intro r1 m1 hr1 hrw1; obtain rfl := HE1.out _ hr1) | (refine wpList_fa (op := .mul) rfl rfl rfl rfl rfl hqs (is_int L) ?_; intro r2 m2 hr2 hrw2; obtain rfl := HE2.out _ hr2) | (refine wpList_conv12 rfl rfl rfl HCV.out ?_) | (refine wpList_imin rfl rfl rfl rfl ?_; rw [hmin]))
  obtain ⟨u, hu⟩ : ∃ u, u = w.drewN (m1 + m2) := ⟨_, rfl⟩
  rw [← hu]
  have EX : Ext w u := by rw [hu]; exact Ext.drewN (Ext.refl w) _
  have lt : ∀ p, p < w.heap.size → p < u.heap.size := fun p hp => Nat.lt_of_lt_of_le hp (Ext.size EX)
  have F1 := grown_cell (w := u) (p := ⟨b1, 0, none⟩) (lt _ LB.out.1) ((Below.cell EX LB.out.1).trans d1)
  have F2 := grown_cell (w := u) (p := ⟨b2, 0, none⟩) (lt _ LB.out.2.1) ((Below.cell EX LB.out.2.1).trans d2)
  have F3 := grown_cell (w := u) (p := ⟨b3, 0, none⟩) (lt _ LB.out.2.2.1) ((Below.cell EX LB.out.2.2.1).trans d3)
  have F4 := grown_cell (w := u) (p := ⟨b, off + I, none⟩) (lt _ LB.out.2.2.2) ((Below.cell EX LB.out.2.2.2).trans e1)
  have F5 := grown_cell (w := u) (p := ⟨b, off + I1, none⟩) (lt _ LB.out.2.2.2) ((Below.cell EX LB.out.2.2.2).trans e2)
  have EX2 := hid EX
  clear hu EX lt d1 d2 d3 e1 e2
  refine wp_region_call_tail 13 (by kernel_rfl) (by kernel_rfl) ?_
  simp only [List.take_succ_cons, List.take_zero, List.drop_succ_cons, List.drop_zero]
  repeat (with_reducible refine wpC_quiet (fun K hK => ?_); go_simp; refine hK _ ?_; clear hK K)
  refine wpC_call (f := 78) (args := #[.float .f32 x, .float .f32 y, .float .f32 s]) ?_ ?_ ?_
  · rfl
  · intro w9; go_simp
  intro w1 E1
  refine (betw_any x y s _ hss w1).mono ?_
  rintro e w2 ⟨r, rfl, hr, m3, rfl⟩
  refine ⟨_, rfl, Ext.drewN E1 _, ?_⟩
  intro w3 E3
  go_wp2_with fail
  go_ret
  exact ⟨_, rfl, by rw [HCC.out, mul_comm_c (fop .sub .f32 (some W) _)]; exact Is.out hr, Ext.trans EX2.out E3⟩



set_option maxHeartbeats 4000000 in
set_option maxRecDepth 100000 in
theorem stretch_any (a : Option Addr) (n c : Nat) (d : Int) (zs : List Nat) (R : List (Option Nat)) (O : Bool) (w : World) (h : Holds .f32 w a n zs) (hn : n ≤ 1048576) (hR : strR zs d = (R, O)) :
    Calls Try.prog 46 #[.slice a n c, .int .i64 d] w fun e w' => ∃ v, e = .returned (.tuple #[v, .bool O]) ∧ ListIs w' w.heap.size R v ∧ Ext w w' := by
  have H1 := hid h
  have HN := hid hn
  have HL := hid h.1
  have HR := hid hR
  clear h hn hR
  cases hA : soundB (zs.map (cls .f32))
  · have e : O = false ∧ R = [] := by have := HR.out; unfold strR at this; rw [hA] at this; simpa [eq_comm, and_comm] using this
    obtain ⟨rfl, rfl⟩ := e
    go_enter Try.func46, Try.ntmps46
    go_wp2_with (first | (go_at_call 55; with_reducible refine (isSound_drew a n c zs _ _ (Holds.ext H1.out (by (repeat with_reducible (first | exact Ext.refl _ | exact ext_alloc _ _ | refine Ext.drewN ?_ _ | refine Ext.drew1 ?_ | refine Ext.set ?_ (by dsimp only; omega) _ | refine Ext.alloc ?_ _)))) HN.out hA).mono ?_; rintro e w' ⟨rfl, m1, rfl⟩))
    go_returns
    refine ⟨_, rfl, nil_is _ _, ?_⟩
    (repeat with_reducible (first | exact Ext.refl _ | exact ext_alloc _ _ | refine Ext.drewN ?_ _ | refine Ext.drew1 ?_ | refine Ext.set ?_ (by dsimp only; omega) _ | refine Ext.alloc ?_ _))
  by_cases hm0 : (n : Int) < 2
  · have e : O = false ∧ R = [] := by have := HR.out; unfold strR at this; rw [if_neg (by rw [hA, HL.out]; simp; omega)] at this; simpa [eq_comm, and_comm] using this
    obtain ⟨rfl, rfl⟩ := e
    go_enter Try.func46, Try.ntmps46
    go_wp2_with (first | (go_at_call 55; with_reducible refine (isSound_drew a n c zs _ _ (Holds.ext H1.out (by (repeat with_reducible (first | exact Ext.refl _ | exact ext_alloc _ _ | refine Ext.drewN ?_ _ | refine Ext.drew1 ?_ | refine Ext.set ?_ (by dsimp only; omega) _ | refine Ext.alloc ?_ _)))) HN.out hA).mono ?_; rintro e w' ⟨rfl, m1, rfl⟩))
    go_returns
    refine ⟨_, rfl, nil_is _ _, ?_⟩
    (repeat with_reducible (first | exact Ext.refl _ | exact ext_alloc _ _ | refine Ext.drewN ?_ _ | refine Ext.drew1 ?_ | refine Ext.set ?_ (by dsimp only; omega) _ | refine Ext.alloc ?_ _))
  by_cases hm1 : d < 2
  · have e : O = false ∧ R = [] := by have := HR.out; unfold strR at this; rw [if_neg (by rw [hA, HL.out]; simp; omega)] at this; simpa [eq_comm, and_comm] using this
    obtain ⟨rfl, rfl⟩ := e
    go_enter Try.func46, Try.ntmps46
    go_wp2_with (first | (go_at_call 55; with_reducible refine (isSound_drew a n c zs _ _ (Holds.ext H1.out (by (repeat with_reducible (first | exact Ext.refl _ | exact ext_alloc _ _ | refine Ext.drewN ?_ _ | refine Ext.drew1 ?_ | refine Ext.set ?_ (by dsimp only; omega) _ | refine Ext.alloc ?_ _)))) HN.out hA).mono ?_; rintro e w' ⟨rfl, m1, rfl⟩))
    go_returns
    refine ⟨_, rfl, nil_is _ _, ?_⟩
    (repeat with_reducible (first | exact Ext.refl _ | exact ext_alloc _ _ | refine Ext.drewN ?_ _ | refine Ext.drew1 ?_ | refine Ext.set ?_ (by dsimp only; omega) _ | refine Ext.alloc ?_ _))
  by_cases hm2 : 256 < d
  · have e : O = false ∧ R = [] := by have := HR.out; unfold strR at this; rw [if_neg (by rw [hA, HL.out]; simp; omega)] at this; simpa [eq_comm, and_comm] using this
    obtain ⟨rfl, rfl⟩ := e
    go_enter Try.func46, Try.ntmps46
    go_wp2_with (first | (go_at_call 55; with_reducible refine (isSound_drew a n c zs _ _ (Holds.ext H1.out (by (repeat with_reducible (first | exact Ext.refl _ | exact ext_alloc _ _ | refine Ext.drewN ?_ _ | refine Ext.drew1 ?_ | refine Ext.set ?_ (by dsimp only; omega) _ | refine Ext.alloc ?_ _)))) HN.out hA).mono ?_; rintro e w' ⟨rfl, m1, rfl⟩))
    go_returns
    refine ⟨_, rfl, nil_is _ _, ?_⟩
    (repeat with_reducible (first | exact Ext.refl _ | exact ext_alloc _ _ | refine Ext.drewN ?_ _ | refine Ext.drew1 ?_ | refine Ext.set ?_ (by dsimp only; omega) _ | refine Ext.alloc ?_ _))
  have hm : 2 ≤ d ∧ d ≤ 256 := by omega
  obtain ⟨count, rfl⟩ : ∃ q : Nat, d = (q : Int) := ⟨d.toNat, by omega⟩
  have HS := hid (show soundR (strC zs count) count = (R, O) from by have := HR.out; unfold strR at this; rw [if_pos (by rw [hA, HL.out]; simp; omega)] at this; exact this)
  have HN2 := hid (show 2 ≤ n ∧ n ≤ 256 from ⟨by omega, by have := sound_len hA; rw [← HL.out]; simpa using this⟩)
  have HD := hid (show 2 ≤ count ∧ count ≤ 256 by omega)
  obtain ⟨L, hL⟩ : ∃ L : Int, (n : Int) - 1 = L := ⟨_, rfl⟩
  have W0 : IntKind.i64.wrap L = L := wrap_small (by omega) (by have := HN.out; omega)
  clear HR
  go_enter Try.func46, Try.ntmps46
  go_wp2_with (first | (go_at_call 55; with_reducible refine (isSound_drew a n c zs _ _ (Holds.ext H1.out (by (repeat with_reducible (first | exact Ext.refl _ | exact ext_alloc _ _ | refine Ext.drewN ?_ _ | refine Ext.drew1 ?_ | refine Ext.set ?_ (by dsimp only; omega) _ | refine Ext.alloc ?_ _)))) HN.out hA).mono ?_; rintro e w' ⟨rfl, m1, rfl⟩))
  obtain ⟨w0, hw0⟩ : ∃ u, u = (((w.alloc (.cells #[.slice a n c] 22)).alloc (.cells #[.int .i64 (count : Int)] 2)).drewN m1).alloc (.cells #[.int .i64 L] 3) := ⟨_, rfl⟩
  rw [← hw0]
  have EX := hid (show Ext w w0 from by rw [hw0]; (repeat with_reducible (first | exact Ext.refl _ | exact ext_alloc _ _ | refine Ext.drewN ?_ _ | refine Ext.drew1 ?_ | refine Ext.set ?_ (by dsimp only; omega) _ | refine Ext.alloc ?_ _)))
  have B0 : Hid (Box w0 w.heap.size #[.slice a n c]) := by rw [hw0]; exact hid (Box.alloc (Box.drewN (Box.alloc (box_new (w := w) #[.slice a n c] 22) _) _) _)
  have B1 : Hid (Box w0 (w.heap.size + 1) #[.int .i64 (count : Int)]) := by rw [hw0]; exact hid (Box.alloc (Box.drewN (Box.cast' (box_new (w := w.alloc (.cells #[.slice a n c] 22)) #[.int .i64 (count : Int)] 2) (by simp)) _) _)
  have B2 : Hid (Box w0 (w.heap.size + 1 + 1) #[.int .i64 L]) := by rw [hw0]; exact hid (Box.cast' (box_new (w := ((w.alloc (.cells #[.slice a n c] 22)).alloc (.cells #[.int .i64 (count : Int)] 2)).drewN m1) #[.int .i64 L] 3) (by simp))
  clear hw0
  refine (soundOf_any count 77 #[.pointer (some ⟨w.heap.size + 1, 0, none⟩), .pointer (some ⟨w.heap.size + 1 + 1, 0, none⟩), .pointer (some ⟨w.heap.size, 0, none⟩)] (strC zs count) R O w0 (by have := HD.out; omega) (fun _ _ => by simp [go_sem]) (fun k hk wr e => str_clo k n c count _ _ _ L a zs wr hk HD.out.1 HD.out.2 HN2.out.1 HN2.out.2 hL (Box.ext B1.out e) (Box.ext B2.out e) (Box.ext B0.out e) (Holds.ext H1.out (Ext.trans EX.out e))) HS.out).mono ?_
  rintro e w1 ⟨v, rfl, hv, E1⟩
  have HL2 := hid hv
  have EY := hid (Ext.trans EX.out E1)
  have HZ := hid (show w.heap.size ≤ w0.heap.size from Ext.size EX.out)
  clear hv E1
  go_wp2_with fail
  go_returns
  exact ⟨_, rfl, ListIs.base HL2.out HZ.out, EY.out⟩



theorem l00M_is (a b R : Int) (h : min a b = R) (w : World) : Calls Try.prog 76 #[.int .i64 a, .int .i64 b] w fun e w' => e = .returned (.int .i64 R) ∧ w = w' := by
  by_cases h1 : a < b
  · obtain rfl : R = a := by omega
    clear h
    go_enter Try.func76, Try.ntmps76
    go_wp2
    go_ret
    exact ⟨rfl, rfl⟩
  · obtain rfl : R = b := by omega
    clear h
    go_enter Try.func76, Try.ntmps76
    go_wp2
    go_ret
    exact ⟨rfl, rfl⟩

set_option maxHeartbeats 4000000 in
set_option maxRecDepth 100000 in
theorem sStretch_any (a : Option Addr) (n c : Nat) (d : Int) (zs : List Nat) (R : List (Option Nat)) (O : Bool) (w : World) (h : Holds .f32 w a n zs) (hn : n ≤ 1048576) (hR : strR zs d = (R, O)) :
    Calls Try.prog 45 #[.slice a n c, .int .i64 d] w fun e w' => ∃ v, e = .returned (.tuple #[v, .bool O]) ∧ ListIs w' w.heap.size R v ∧ Ext w w' := by
  have H1 := hid h
  have HN := hid hn
  have HL := hid h.1
  have HR := hid hR
  clear h hn hR
  cases hA : soundB (zs.map (cls .f32))
  · have e : O = false ∧ R = [] := by have := HR.out; unfold strR at this; rw [hA] at this; simpa [eq_comm, and_comm] using this
    obtain ⟨rfl, rfl⟩ := e
    go_enter Try.func45, Try.ntmps45
    go_wp2_with (first | (go_at_call 53; with_reducible refine (l03Sound_drew a n c zs _ _ (Holds.ext H1.out (by (repeat with_reducible (first | exact Ext.refl _ | exact ext_alloc _ _ | refine Ext.drewN ?_ _ | refine Ext.drew1 ?_ | refine Ext.set ?_ (by dsimp only; omega) _ | refine Ext.alloc ?_ _)))) HN.out hA).mono ?_; rintro e w' ⟨rfl, m1, rfl⟩))
    go_returns
    refine ⟨_, rfl, nil_is _ _, ?_⟩
    (repeat with_reducible (first | exact Ext.refl _ | exact ext_alloc _ _ | refine Ext.drewN ?_ _ | refine Ext.drew1 ?_ | refine Ext.set ?_ (by dsimp only; omega) _ | refine Ext.alloc ?_ _))
  by_cases hm0 : (n : Int) < 2
  · have e : O = false ∧ R = [] := by have := HR.out; unfold strR at this; rw [if_neg (by rw [hA, HL.out]; simp; omega)] at this; simpa [eq_comm, and_comm] using this
    obtain ⟨rfl, rfl⟩ := e
    go_enter Try.func45, Try.ntmps45
    go_wp2_with (first | (go_at_call 53; with_reducible refine (l03Sound_drew a n c zs _ _ (Holds.ext H1.out (by (repeat with_reducible (first | exact Ext.refl _ | exact ext_alloc _ _ | refine Ext.drewN ?_ _ | refine Ext.drew1 ?_ | refine Ext.set ?_ (by dsimp only; omega) _ | refine Ext.alloc ?_ _)))) HN.out hA).mono ?_; rintro e w' ⟨rfl, m1, rfl⟩))
    go_returns
    refine ⟨_, rfl, nil_is _ _, ?_⟩
    (repeat with_reducible (first | exact Ext.refl _ | exact ext_alloc _ _ | refine Ext.drewN ?_ _ | refine Ext.drew1 ?_ | refine Ext.set ?_ (by dsimp only; omega) _ | refine Ext.alloc ?_ _))
  by_cases hm : ¬ (2 ≤ d ∧ d ≤ 256)
  · have e : O = false ∧ R = [] := by have := HR.out; unfold strR at this; rw [if_neg (by rw [hA, HL.out]; simp; omega)] at this; simpa [eq_comm, and_comm] using this
    obtain ⟨rfl, rfl⟩ := e
    go_enter Try.func45, Try.ntmps45
    go_wp2_with (first | (go_at_call 53; with_reducible refine (l03Sound_drew a n c zs _ _ (Holds.ext H1.out (by (repeat with_reducible (first | exact Ext.refl _ | exact ext_alloc _ _ | refine Ext.drewN ?_ _ | refine Ext.drew1 ?_ | refine Ext.set ?_ (by dsimp only; omega) _ | refine Ext.alloc ?_ _)))) HN.out hA).mono ?_; rintro e w' ⟨rfl, m1, rfl⟩) | (go_at_call 47; with_reducible refine (l00In_no d 2 256 hm _).mono ?_; rintro e w' ⟨rfl, rfl⟩))
    go_returns
    refine ⟨_, rfl, nil_is _ _, ?_⟩
    (repeat with_reducible (first | exact Ext.refl _ | exact ext_alloc _ _ | refine Ext.drewN ?_ _ | refine Ext.drew1 ?_ | refine Ext.set ?_ (by dsimp only; omega) _ | refine Ext.alloc ?_ _))
  replace hm := Decidable.not_not.1 hm
  obtain ⟨count, rfl⟩ : ∃ q : Nat, d = (q : Int) := ⟨d.toNat, by omega⟩
  have HS := hid (show soundR (strC zs count) count = (R, O) from by have := HR.out; unfold strR at this; rw [if_pos (by rw [hA, HL.out]; simp; omega)] at this; exact this)
  have HN2 := hid (show 2 ≤ n ∧ n ≤ 256 from ⟨by omega, by have := sound_len hA; rw [← HL.out]; simpa using this⟩)
  have HD := hid (show 2 ≤ count ∧ count ≤ 256 by omega)
  obtain ⟨L, hL⟩ : ∃ L : Int, (n : Int) - 1 = L := ⟨_, rfl⟩
  have W0 : IntKind.i64.wrap L = L := wrap_small (by omega) (by have := HN.out; omega)
  clear HR
  obtain ⟨i0, hif, hz0, hz1, hz2⟩ := info_parts infoF
  have HI := hid (And.intro hif (And.intro hz0 (And.intro hz1 hz2)))
  clear hif hz0 hz1 hz2
  go_enter Try.func45, Try.ntmps45
  go_wp2_with (first | (go_at_call 53; with_reducible refine (l03Sound_drew a n c zs _ _ (Holds.ext H1.out (by (repeat with_reducible (first | exact Ext.refl _ | exact ext_alloc _ _ | refine Ext.drewN ?_ _ | refine Ext.drew1 ?_ | refine Ext.set ?_ (by dsimp only; omega) _ | refine Ext.alloc ?_ _)))) HN.out hA).mono ?_; rintro e w' ⟨rfl, m1, rfl⟩) | (go_at_call 47; with_reducible refine (l00In_yes (count : Int) 2 256 hm.1 hm.2 _).mono ?_; rintro e w' ⟨rfl, rfl⟩))
  go_loopw [7, 8] (fun v i wr => ∃ (k : Nat) (ys : List Nat), k ≤ count ∧ i = .int .i64 k ∧ Hid (Own wr w.heap.size k v ys) ∧ Hid (ys.map (cls .f32) = listK (strC zs count) k) ∧ Hid (Ext w wr)) (fun _ i _ => count - (intOf i).toNat)
  case atStart => exact ⟨0, [], Nat.zero_le _, rfl, hid (own_fresh (cs := #[]) (zs := []) (hid rfl) rfl (by simp) (by simp) (Nat.zero_le _)), rfl, hid (by (repeat with_reducible (first | exact Ext.refl _ | exact ext_alloc _ _ | refine Ext.drewN ?_ _ | refine Ext.drew1 ?_ | refine Ext.set ?_ (by dsimp only; omega) _ | refine Ext.alloc ?_ _)))⟩
  case round =>
    obtain ⟨k, ys, hkk, rfl, ho, hyy, he⟩ := hrel
    have hnn : n ≤ 1048576 := HN.out
    obtain ⟨hn2, hn3⟩ := HN2.out
    obtain ⟨hc2, hc3⟩ := HD.out
    by_cases hk : k < count
    · have hzn : zs.length = n := HL.out
      obtain ⟨⟨q, hq, hqn, hmq⟩, hWn, hJ, hJb, hS⟩ := str_pre (n := n) (count := count) (k := k) hk hc2 hc3 hn2 hn3
      obtain ⟨C1, hC1⟩ : ∃ C1 : Int, (count : Int) - 1 = C1 := ⟨_, rfl⟩
      obtain ⟨L2, hL2⟩ : ∃ L2 : Int, L - 1 = L2 := ⟨_, rfl⟩
      have hIlt : strI n count k + 1 < n := by unfold strI; omega
      have hmin : min ((strJ n count k : Nat) : Int) L2 = ((strI n count k : Nat) : Int) := by unfold strI; omega
      obtain ⟨I, hI⟩ : ∃ I, strI n count k = I := ⟨_, rfl⟩
      obtain ⟨J, hJ0⟩ : ∃ J, strJ n count k = J := ⟨_, rfl⟩
      obtain ⟨W, hW0⟩ : ∃ W, strW n count k = W := ⟨_, rfl⟩
      have HCC := hid (str_eq hzn hI hW0)
      rw [hI] at hIlt hmin
      rw [hJ0] at hmin hJ hJb
      rw [hW0] at hmq hWn hJ hS
      rw [hC1] at hq
      rw [hL] at hmq
      obtain ⟨I1, hI1⟩ : ∃ I1, I + 1 = I1 := ⟨_, rfl⟩
      rw [hI1] at HCC hIlt
      have hI1i : (I : Int) + 1 = (I1 : Int) := by omega
      have HE1 := hid (fun (r1 : Nat) (h : Is .f32 r1 (fop .quo .f32 (some (floatOfInt .f32 (k : Int))) (some (floatOfInt .f32 C1)))) => (cls_word ((Is.out h).trans hq) : q = r1))
      have hqs : Is .f32 q (some q) := cls_num hqn
      have HE2 := hid (fun (r1 : Nat) (h : Is .f32 r1 (fop .mul .f32 (some q) (some (floatOfInt .f32 L)))) => (cls_word ((Is.out h).trans hmq) : W = r1))
      have hWs : Is .f32 W (some W) := cls_num hWn
      have W1 : IntKind.i64.wrap C1 = C1 := wrap_small (by omega) (by omega)
      have W2 : IntKind.i64.wrap L = L := wrap_small (by omega) (by omega)
      have W3 : IntKind.i64.wrap L2 = L2 := wrap_small (by omega) (by omega)
      have W4 : IntKind.i64.wrap (I1 : Int) = (I1 : Int) := wrap_small (by omega) (by omega)
      have hi0 : (0 : Int) ≤ (I : Int) := by omega
      have hi1 : (I : Int) < (n : Int) := by omega
      have hi2 : (0 : Int) ≤ (I1 : Int) := by omega
      have hi3 : (I1 : Int) < (n : Int) := by omega
      have hL3 : (n : Int) - 2 = L2 := by omega
      have hmin2 : min L2 ((J : Nat) : Int) = (I : Int) := by omega
      obtain ⟨b, off, rfl, e1⟩ := cell_at H1.out he.out I (by omega)
      obtain ⟨b', off', hbb, e2⟩ := cell_at H1.out he.out I1 (by omega)
      simp only [Option.some.injEq, Addr.mk.injEq] at hbb
      obtain ⟨rfl, rfl, _⟩ := hbb
      have hs := hid (listK_succ (strC zs count) k)
      generalize zs.getD I 0 = x at e1 HCC
      generalize zs.getD I1 0 = y at e2 HCC
      have HCV := hid (fun w : World => run_convert_float_int w 33 2 .f32 .i64 W (J : Int) (by rw [Try.underlying33]; rfl) Try.underlying2 hJ)
      have HSZ := hid (Ext.size he.out)
      have HMQ := hid hmq
      have HU1 : (Try.prog.underlying 2).isSome = true := by rw [Try.underlying2]; rfl
      clear hq hmq hJ hS hI hJ0 hW0 hmin hzn
      go_wp2_with (first | (refine wpList_fa (op := .quo) rfl rfl rfl rfl rfl (is_int (k : Int)) (is_int C1) ?_; intro r1 m1 hr1 hrw1; obtain rfl := HE1.out _ hr1) | (refine wpList_fa (op := .mul) rfl rfl rfl rfl rfl hqs (is_int L) ?_; intro r2 m2 hr2 hrw2; obtain rfl := HE2.out _ hr2) | (refine wpList_conv12 rfl rfl rfl HCV.out ?_) | (go_at_call 76; refine (l00M_is L2 (J : Int) (I : Int) hmin2 _).mono ?_; rintro e w' ⟨rfl, rfl⟩))
      refine wp_region_move_tail 21 (by kernel_rfl) (by kernel_rfl) (by kernel_rfl) (fun _ _ _ h => h) (Or.inl ⟨by rfl, fun w => by simp [execOp]; rfl⟩) ?_
      simp only [List.take_succ_cons, List.take_zero, List.drop_succ_cons, List.drop_zero]
      repeat (with_reducible refine wpM_cons ?_; first
        | (refine wpM_fa rfl rfl rfl rfl rfl (by first | assumption | exact is_const (by decide) | exact is_int _ | exact is_self _ _) (by first | assumption | exact is_const (by decide) | exact is_int _ | exact is_self _ _) ?_; intro r hr hrw)
        | (refine wpM_mult0 rfl rfl ?_; refine mult_conv rfl HU1 Try.underlying33 rfl ?_; simp only [Act.put, List.setIfInBounds_toArray, List.set_cons_zero, List.set_cons_succ])
        | (refine wpM_mult0 rfl rfl ?_; refine mult_iadd rfl rfl rfl (by omega) (by omega) ?_; rw [hI1i]; simp only [Act.put, List.setIfInBounds_toArray, List.set_cons_zero, List.set_cons_succ])
        | (refine wpM_quiet rfl (fun K hK => ?_); go_simp; refine hK _ ?_; clear hK K))
      with_reducible refine wpM_nil ?_
      intro w3 hw3
      obtain ⟨nq, hw3⟩ := hw3
      subst hw3
      have hR9 := Is.out hr
      rw [HMQ.out] at hR9
      replace hR9 := hid hR9
      go_wp2_with (at_builtin; refine wpList_append_lies _ rfl _ _ 22 rfl w.heap.size 33 i0 (.float .f32 0) 1 4 Try.underlying22 HI.out.1 HI.out.2.1 HI.out.2.2.1 HI.out.2.2.2 rfl (by decide) _ _ _ rfl (Own.ext ho.out (by (repeat with_reducible (first | exact Ext.refl _ | exact ext_alloc _ _ | refine Ext.drewN ?_ _ | refine Ext.drew1 ?_ | refine Ext.set ?_ (by dsimp only; omega) _ | refine Ext.alloc ?_ _)))) ⟨_, 0, none⟩ 1 1 [.float .f32 r] rfl rfl (World.news_of_block (heap_alloc_new _ _)) (by intro u hu; simp at hu; subst hu; rfl) (by omega) (by have h9 := HD.out; unfold maxLen; omega) (by have h9 := HD.out; omega) (by have h8 := HSZ.out; simp; omega) _ rfl ?_; intro g cap w1 hown hgrow hat hlt2)
      have h1 := hid (own_snoc hown)
      have h2 := hid (show Ext w w1 from But.below hgrow (Ext.trans he.out (by (repeat with_reducible (first | exact Ext.refl _ | exact ext_alloc _ _ | refine Ext.drewN ?_ _ | refine Ext.drew1 ?_ | refine Ext.set ?_ (by dsimp only; omega) _ | refine Ext.alloc ?_ _)))) (fun k2 hk2 => (Own.block ho.out k2 hk2).1))
      have h3 := hid (show (ys ++ [r]).map (cls .f32) = listK (strC zs count) (k + 1) from by rw [List.map_append, hyy.out, hs.out, HCC.out]; exact congrArg (fun z => _ ++ [z]) hR9.out)
      clear hown hgrow hat hlt2
      go_wp2
      go_roundw
      case rel => exact ⟨k + 1, ys ++ [r], by omega, by go_num, h1, h3, h2⟩
      case measure => simp [intOf]; omega
    · have hkn : k = count := by omega
      subst hkn
      have hk1 : ¬ ((k : Int) < (k : Int)) := by omega
      go_wp2_with fail
      refine (l03List_is _ _ w.heap.size ys R O _ ho.out (by omega) (by rw [hyy.out]; exact HS.out)).mono ?_
      rintro e w1 ⟨u, rfl, hu, E1⟩
      have hu1 := hid hu
      have hx1 := hid (Ext.trans he.out E1)
      clear hu E1
      go_wp2
      go_ret2
      exact ⟨_, rfl, hu1.out, hx1.out⟩

end Go.Proofs.Ytpmjiabllmomjaa

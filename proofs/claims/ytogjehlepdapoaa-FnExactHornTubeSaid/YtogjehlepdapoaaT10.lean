/- Tubes that open. -/
import Derived.Test.YtogjehlepdapoaaT8
namespace Go.Proofs.Ytogjehlepdapoaa
open Go.RowKit Flt
set_option linter.unusedVariables false

def betC (f t s : Option Nat) : Option Nat := fop .add .f32 f (fop .mul .f32 (fop .sub .f32 t f) s)
def shC (k N : Nat) : Option Nat := fop .quo .f32 (some (floatOfInt .f32 (k : Int))) (some (floatOfInt .f32 ((N : Int) - 1)))
def hornC (f t : Option Nat) (N k : Nat) : List (Option Nat) := (List.range k).map fun i => betC f t (shC i N)
theorem horn_snoc (f t : Option Nat) (N k : Nat) : hornC f t N (k + 1) = hornC f t N k ++ [betC f t (shC k N)] := by simp [hornC, List.range_succ]
def plainT (cs : List (Option Nat)) : TR := giveT cs (cls .f32 1065353216) (cls .f32 1061158912) (cls .f32 3210739712)
def hornT (N : Int) (f t : Option Nat) : TR := if 2 ≤ N ∧ N ≤ 16 then plainT (hornC f t N.toNat N.toNat) else zeroT
theorem horn_len (N : Int) (f t : Option Nat) : (hornT N f t).cs.length ≤ 16 := by
  unfold hornT
  split
  · exact give_len _ _ _ _
  · exact Nat.zero_le _
theorem sh_zero (N : Nat) (h1 : 2 ≤ N) (h2 : N ≤ 16) : shC 0 N = some 0 := by
  have : N = 2 ∨ N = 3 ∨ N = 4 ∨ N = 5 ∨ N = 6 ∨ N = 7 ∨ N = 8 ∨ N = 9 ∨ N = 10 ∨ N = 11 ∨ N = 12 ∨ N = 13 ∨ N = 14 ∨ N = 15 ∨ N = 16 := by omega
  rcases this with rfl | rfl | rfl | rfl | rfl | rfl | rfl | rfl | rfl | rfl | rfl | rfl | rfl | rfl | rfl
  all_goals decide +kernel
/-- an infinity, or no number -/
def wild (x : Option Nat) : Prop := x = none ∨ ∃ b s, x = some b ∧ FloatKind.f32.format.read b = .infinity s
theorem wild_of {x : Option Nat} (h : fin32 x = false) : wild x := by
  cases x with
  | none => exact .inl rfl
  | some b =>
    right
    simp only [fin32, Bool.not_eq_false'] at h
    cases hd : FloatKind.f32.format.read b with
    | infinity s => exact ⟨b, s, rfl, hd⟩
    | number s m e => rw [hd] at h; simp [Ieee.Datum.isInfinity] at h
    | nan s t => rw [hd] at h; simp [Ieee.Datum.isInfinity] at h
theorem read_inf (s : Bool) : FloatKind.f32.format.read (FloatKind.f32.format.write (.infinity s)) = .infinity s := by cases s <;> decide
theorem wild_sum {x y : Nat} {d : Ieee.Datum} (hy : (∃ s, FloatKind.f32.format.read x = .infinity s) ∨ (∃ s, d = .infinity s)) : wild (((FloatKind.f32.format.read x).sum d).map FloatKind.f32.format.write) := by
  rcases hy with ⟨s, h⟩ | ⟨s, rfl⟩
  · rw [h]
    cases d with
    | number t m e => exact .inr ⟨_, s, rfl, read_inf s⟩
    | infinity t =>
      cases s <;> cases t
      · exact .inr ⟨_, false, rfl, read_inf false⟩
      · exact .inl rfl
      · exact .inl rfl
      · exact .inr ⟨_, true, rfl, read_inf true⟩
    | nan t q => exact .inl rfl
  · cases hx : FloatKind.f32.format.read x with
    | number t m e => exact .inr ⟨_, s, rfl, read_inf s⟩
    | infinity t =>
      cases s <;> cases t
      · exact .inr ⟨_, false, rfl, read_inf false⟩
      · exact .inl rfl
      · exact .inl rfl
      · exact .inr ⟨_, true, rfl, read_inf true⟩
    | nan t q => exact .inl rfl
theorem wild_sub {x y : Option Nat} (h : wild x ∨ wild y) : wild (fop .sub .f32 x y) := by
  cases x with
  | none => exact .inl rfl
  | some a =>
    cases y with
    | none => exact .inl rfl
    | some b =>
      show wild (floatBits .sub .f32 a b)
      have e : floatBits .sub .f32 a b = ((FloatKind.f32.format.read a).sum (FloatKind.f32.format.read b).opposite).map FloatKind.f32.format.write := rfl
      rw [e]
      refine wild_sum (y := b) ?_
      rcases h with h | h
      · rcases h with h | ⟨c, s, hc, hr⟩
        · cases h
        · cases hc; exact .inl ⟨s, hr⟩
      · rcases h with h | ⟨c, s, hc, hr⟩
        · cases h
        · cases hc; right; rw [hr]; exact ⟨!s, rfl⟩
theorem wild_zero {x : Option Nat} (h : wild x) : fop .mul .f32 x (some 0) = none := by
  rcases h with rfl | ⟨b, s, rfl, hr⟩
  · rfl
  · show floatBits .mul .f32 b 0 = none
    have e : floatBits .mul .f32 b 0 = ((FloatKind.f32.format.read b).product (FloatKind.f32.format.read 0)).map FloatKind.f32.format.write := rfl
    have e0 : FloatKind.f32.format.read 0 = .number false 0 (-149) := by decide
    rw [e, hr, e0]; cases s <;> rfl
theorem fop_none_right (op : BinOp) (k : FloatKind) (x : Option Nat) : fop op k x none = none := by cases x <;> rfl
theorem horn_wild {N : Int} {f t : Option Nat} (h1 : 2 ≤ N) (h2 : N ≤ 16) (h : fin32 f = false ∨ fin32 t = false) : hornT N f t = zeroT := by
  unfold hornT
  rw [if_pos ⟨h1, h2⟩]
  unfold plainT giveT
  rw [if_neg]
  have hw : wild (fop .sub .f32 t f) := wild_sub (by rcases h with h | h; exact .inr (wild_of h); exact .inl (wild_of h))
  have hb : betC f t (shC 0 N.toNat) = none := by
    unfold betC
    rw [sh_zero _ (by omega) (by omega), wild_zero hw, fop_none_right]
  have hm : none ∈ hornC f t N.toNat N.toNat := by
    unfold hornC
    rw [List.mem_map]
    exact ⟨0, by rw [List.mem_range]; omega, hb⟩
  have ha : areasC (hornC f t N.toNat N.toNat) = false := by
    unfold areasC
    have : (hornC f t N.toNat N.toNat).all areaC = false := by
      rw [List.all_eq_false]
      exact ⟨none, hm, by decide⟩
    rw [this]; simp
  unfold tubeC
  rw [ha]; simp
theorem own_snoc10 {w : World} {B k : Nat} {v : Value} {ys : List Nat} {r : Nat} (h : w.ownsRow B 25 1 v (k + 1) (ys.map (Value.float .f32) ++ [.float .f32 r])) : Own w B (k + 1) v (ys ++ [r]) := by
  unfold Own; simpa using h
theorem between_any (a b s : Nat) (S : Option Nat) (hS : Is .f32 s S) (w : World) : Calls Try.prog 75 #[.float .f32 a, .float .f32 b, .float .f32 s] w fun e w' => ∃ r, e = .returned (.float .f32 r) ∧ Is .f32 r (betC (cls .f32 a) (cls .f32 b) S) ∧ ∃ m, w' = w.drewN m := by
  go_enter Try.func75, Try.ntmps75
  go_wp2_with (refine wpList_fa rfl rfl rfl rfl rfl (by first | assumption | exact is_const (by decide) | exact is_int _ | exact is_self _ _) (by first | assumption | exact is_const (by decide) | exact is_int _ | exact is_self _ _) ?_; intro r m hr hrw)
  go_ret
  exact ⟨_, rfl, hr, _, rfl⟩

set_option maxHeartbeats 1000000 in
theorem plainTube_any (a : Option Addr) (n c B : Nat) (zs : List Nat) (R : TR) (w : World) (h : Own w B n (.slice a n c) zs) (hn : n ≤ 1048576) (hR : plainT (zs.map (cls .f32)) = R) :
    Calls Try.prog 80 #[.slice a n c] w fun e w' => ∃ v, e = .returned (.tuple #[v, .bool R.ok]) ∧ TubeIs w' B R v ∧ Ext w w' := by
  have HH := hid h
  have HN := hid hn
  have HR := hid hR
  unfold plainT at hR
  cases hV : tubeC (zs.map (cls .f32)) (cls .f32 1065353216) (cls .f32 1061158912) (cls .f32 3210739712)
  · have HZ := hid (hR.symm.trans (give_no hV))
    clear h hn hR
    go_enter Try.func80, Try.ntmps80
    go_wp2_with fail
    refine (validOnly_no _ _ _ _ _ _ zs _ (Holds.alloc (own_hold HH.out) _) HN.out hV).mono ?_
    rintro e w1 ⟨rfl, E1⟩
    have HX := hid (Box.ext (box_new (w := w) #[.slice none 0 0, .float .f32 0, .float .f32 0, .float .f32 0] 27) E1)
    have EE := hid (show Ext w w1 from Ext.trans (by (repeat with_reducible (first | exact Ext.refl _ | exact ext_alloc _ _ | refine Ext.drewN ?_ _ | refine Ext.drew1 ?_ | refine Ext.set ?_ (by dsimp only; omega) _ | refine Ext.alloc ?_ _))) E1)
    clear E1
    obtain ⟨y0, y1, y2, y3, yf0, yf1, yf2, yf3, yl⟩ := Box.all4 HX.out
    go_wp2_with fail
    clear y0 y1 y2 y3 yf0 yf1 yf2 yf3 yl
    refine bodyPost_ret (ret_cell2 Try.results80 rfl (box_set4 HX.out _ _ _ _) Try.underlying27 infoT) rfl ?_
    rw [HZ.out]
    exact ⟨_, rfl, zero_is _ _, ext_set4 EE.out (Nat.le_refl _) _ _ _ _⟩
  · have HK := hid (hR ▸ give_ok hV)
    have HV := hid hV
    clear h hn hR
    go_enter Try.func80, Try.ntmps80
    go_wp2_with fail
    refine (validOnly_yes _ _ _ _ _ _ zs _ (Holds.alloc (own_hold HH.out) _) HN.out hV).mono ?_
    rintro e w1 ⟨rfl, E1⟩
    have HX := hid (Box.ext (box_new (w := w) #[.slice none 0 0, .float .f32 0, .float .f32 0, .float .f32 0] 27) E1)
    have EE := hid (show Ext w w1 from Ext.trans (by (repeat with_reducible (first | exact Ext.refl _ | exact ext_alloc _ _ | refine Ext.drewN ?_ _ | refine Ext.drew1 ?_ | refine Ext.set ?_ (by dsimp only; omega) _ | refine Ext.alloc ?_ _))) E1)
    clear E1
    obtain ⟨y0, y1, y2, y3, yf0, yf1, yf2, yf3, yl⟩ := Box.all4 HX.out
    go_wp2_with fail
    clear y0 y1 y2 y3 yf0 yf1 yf2 yf3 yl
    refine bodyPost_ret (ret_cell2 Try.results80 rfl (box_set4 HX.out _ _ _ _) Try.underlying27 infoT) rfl ?_
    have hne : (Value.slice a n c).ownBlock ≠ some w.heap.size := fun hk => by have := (Own.block HH.out _ hk).2; omega
    refine ⟨.agg #[.slice a n c, .float .f32 1065353216, .float .f32 1061158912, .float .f32 3210739712], by rw [HK.out]; rfl, ?_, ext_set4 EE.out (Nat.le_refl _) _ _ _ _⟩
    rw [← HR.out]
    exact give_yes HV.out (Own.far (Own.far (Own.far (Own.far (Own.ext HH.out EE.out) hne _) hne _) hne _) hne _)

set_option maxHeartbeats 1000000 in
set_option maxRecDepth 100000 in
theorem horn_any (N0 : Int) (x y : Nat) (R : TR) (w : World) (hR : hornT N0 (cls .f32 x) (cls .f32 y) = R) :
    Calls Try.prog 29 #[.int .i64 N0, .float .f32 x, .float .f32 y] w fun e w' => ∃ v, e = .returned (.tuple #[v, .bool R.ok]) ∧ TubeIs w' w.heap.size R v ∧ Ext w w' := by
  by_cases h1 : N0 < 2
  · have e : hornT N0 (cls .f32 x) (cls .f32 y) = zeroT := by unfold hornT; rw [if_neg (by omega)]
    rw [e] at hR
    subst hR
    go_enter Try.func29, Try.ntmps29
    go_wp2_with fail
    go_returns
    refine ⟨_, rfl, zero_is _ _, ?_⟩
    (repeat with_reducible (first | exact Ext.refl _ | exact ext_alloc _ _ | refine Ext.drewN ?_ _ | refine Ext.drew1 ?_ | refine Ext.set ?_ (by dsimp only; omega) _ | refine Ext.alloc ?_ _))
  by_cases h2 : 16 < N0
  · have e : hornT N0 (cls .f32 x) (cls .f32 y) = zeroT := by unfold hornT; rw [if_neg (by omega)]
    rw [e] at hR
    subst hR
    clear h1
    go_enter Try.func29, Try.ntmps29
    go_wp2_with fail
    go_returns
    refine ⟨_, rfl, zero_is _ _, ?_⟩
    (repeat with_reducible (first | exact Ext.refl _ | exact ext_alloc _ _ | refine Ext.drewN ?_ _ | refine Ext.drew1 ?_ | refine Ext.set ?_ (by dsimp only; omega) _ | refine Ext.alloc ?_ _))
  obtain ⟨N, rfl⟩ : ∃ N : Nat, N0 = (N : Int) := ⟨N0.toNat, by omega⟩
  have hN2 : 2 ≤ N := by omega
  have hN16 : N ≤ 16 := by omega
  have hZ2 : (2 : Int) ≤ (N : Int) := by omega
  have hZ16 : (N : Int) ≤ 16 := by omega
  have e := hR
  unfold hornT at e
  rw [if_pos (by omega)] at e
  simp only [Int.toNat_natCast] at e
  have HE := hid e
  obtain ⟨i0, hi, hz0, hz1, hz2⟩ := info_parts infoF
  have HI := hid (And.intro hi (And.intro hz0 (And.intro hz1 hz2)))
  have HN := hid hN16
  have hmk : (Instr.makeSlice 24 (.int .i64 (0 : Int)) (.int .i64 (N : Int))).run Try.prog (w.alloc (.cells #[.slice none 0 0, .float .f32 0, .float .f32 0, .float .f32 0] 27)) = .ok (.slice (some ⟨w.heap.size + 1, 0, none⟩) 0 N) ((w.alloc (.cells #[.slice none 0 0, .float .f32 0, .float .f32 0, .float .f32 0] 27)).alloc (.cells (madeCells #[.float .f32 0] N) 25)) := by
    have := run_make (P := Try.prog) (w.alloc (.cells #[.slice none 0 0, .float .f32 0, .float .f32 0, .float .f32 0] 27)) 24 25 i0 (.float .f32 0) Try.underlying24 hi hz0 .i64 .i64 (0 : Int) (N : Int) (by omega) (by omega) (by rw [hz2]; omega) (by omega)
    rw [hz1] at this
    simpa [Value.cells] using this
  have HM := hid (size_madeCells #[.float .f32 0] N)
  have HO0 := hid (World.ownsRow_made (e := 25) (size := 1) (base := w.heap.size + 1) (w.alloc (.cells #[.slice none 0 0, .float .f32 0, .float .f32 0, .float .f32 0] 27)) (madeCells #[.float .f32 0] N) N (by simp) (by unfold maxLen; omega) (by rw [HM.out]; omega))
  clear hi hz0 hz1 hz2 hR e
  go_enter Try.func29, Try.ntmps29
  go_wp2_with fail
  go_loopw [8, 20] (fun v i wr => ∃ (k : Nat) (ys : List Nat), k ≤ N ∧ i = .int .i64 k ∧ Hid (Own wr (w.heap.size + 1) k v ys) ∧ Hid (ys.map (cls .f32) = hornC (cls .f32 x) (cls .f32 y) N k) ∧ Hid (Box wr w.heap.size #[.slice none 0 0, .float .f32 0, .float .f32 0, .float .f32 0]) ∧ Hid (Ext w wr)) (fun _ i _ => N - (intOf i).toNat)
  case atStart => exact ⟨0, [], Nat.zero_le _, rfl, hid (by have hq := HO0.out; simpa [Own] using hq), rfl, hid (Box.alloc (box_new _ _) _), hid (Ext.alloc (ext_alloc _ _) _)⟩
  case round =>
    obtain ⟨k, ys, hk, rfl, ho, hy, hbr, he⟩ := hrel
    by_cases hlt : k < N
    · have hi0 : (0 : Int) ≤ (k : Int) := by omega
      have hi1 : (k : Int) < (N : Int) := by omega
      clear hmk
      go_wp2_with (first | (refine wpList_fa rfl rfl rfl rfl rfl (by first | assumption | exact is_const (by decide) | exact is_int _ | exact is_self _ _) (by first | assumption | exact is_const (by decide) | exact is_int _ | exact is_self _ _) ?_; intro r m hr hrw) | (go_at_call 75; refine (between_any _ _ _ _ (by assumption) _).mono ?_; rintro e w2 ⟨r, rfl, hr, m, rfl⟩) | (at_builtin; refine wpList_append_lies _ rfl _ _ 24 rfl (w.heap.size + 1) 25 i0 (.float .f32 0) 1 4 Try.underlying24 HI.out.1 HI.out.2.1 HI.out.2.2.1 HI.out.2.2.2 rfl (by decide) _ _ _ rfl (Own.alloc (Own.drewN ho.out _) _) ⟨wr.heap.size, 0, none⟩ 1 1 [.float .f32 r] rfl rfl (World.news_of_block (heap_alloc_new _ _)) (by intro u hu; simp at hu; subst hu; rfl) (by omega) (by have h9 := HN.out; unfold maxLen; omega) (by have h9 := HN.out; omega) (by have h8 := Ext.size he.out; have h7 := hbr.out.lt; simp; omega) _ rfl ?_; intro g cap w1 hown hgrow hat hlt2))
      have g1 := hid (own_snoc10 hown)
      have g2 := hid (show Ext w w1 from But.below hgrow (Ext.alloc (Ext.drewN he.out _) _) (fun k2 hk2 => Nat.le_of_succ_le (Own.block ho.out k2 hk2).1))
      have g3 := hid (show (ys ++ [r]).map (cls .f32) = hornC (cls .f32 x) (cls .f32 y) N (k + 1) from by rw [List.map_append, hy.out, horn_snoc]; exact congrArg (fun z => _ ++ [z]) hr)
      have g4 := hid (But.box hgrow (Box.alloc (Box.drewN hbr.out _) _) (fun hk2 => by have := (Own.block ho.out _ hk2).1; omega))
      clear hown hgrow hat hlt2
      go_wp2
      go_roundw
      case rel => first | exact ⟨k + 1, ys ++ [r], by omega, by go_num, g1, g3, g4, g2⟩ | (refine ⟨_, _, _, _, _, _, _, _, _, _, _, _, _, _, _, _, _, _, _, _, _, _, ?_, rfl⟩; exact ⟨k + 1, ys ++ [r], by omega, by go_num, g1, g3, g4, g2⟩)
      case measure => simp [intOf]; omega
    · have hkn : k = N := by omega
      subst hkn
      obtain ⟨va, vc, rfl, hvh, _⟩ := Own.holds ho.out
      have HV := hid hvh
      clear hvh
      clear hmk
      go_wp2_with fail
      refine (plainTube_any _ _ _ _ ys R _ ho.out (by omega) (by rw [hy.out]; exact HE.out)).mono ?_
      rintro e3 w3 ⟨v, rfl, hT, E3⟩
      have EE3 := hid (Ext.trans he.out E3)
      have HX := hid (Box.ext hbr.out E3)
      obtain ⟨ra, rc, rl, rt, rp, rz, rfl, rO, re⟩ := hT
      have HT := hid (show TubeIs w3 (w.heap.size + 1) R (.agg #[.slice ra R.cs.length rc, .float .f32 rl, .float .f32 rt, .float .f32 rp]) from ⟨ra, rc, rl, rt, rp, rz, rfl, rO, re⟩)
      clear rO re
      obtain ⟨y0, y1, y2, y3, yf0, yf1, yf2, yf3, yl⟩ := Box.all4 HX.out
      go_wp2_with fail
      clear y0 y1 y2 y3 yf0 yf1 yf2 yf3 yl
      refine bodyPost_ret (ret_cell2 Try.results29 rfl (box_set4 HX.out _ _ _ _) Try.underlying27 infoT) rfl ?_
      exact ⟨_, rfl, TubeIs.base (TubeIs.far4 HT.out (by omega) _ _ _ _) (by omega), ext_set4 EE3.out (Nat.le_refl _) _ _ _ _⟩

theorem l02New_any (a : Option Addr) (n c : Nat) (w : World) : Calls Try.prog 66 #[.slice a n c] w fun e w' => e = .returned (.agg #[.slice a n c, .float .f32 1065353216, .float .f32 1061158912, .float .f32 3210739712]) ∧ Ext w w' := by
  go_enter Try.func66, Try.ntmps66
  go_wp2
  go_returns
  refine ⟨rfl, ?_⟩
  (repeat with_reducible (first | exact Ext.refl _ | exact ext_alloc _ _ | refine Ext.drewN ?_ _ | refine Ext.drew1 ?_ | refine Ext.set ?_ (by dsimp only; omega) _ | refine Ext.alloc ?_ _))

set_option maxHeartbeats 1000000 in
set_option maxRecDepth 100000 in
theorem sHorn_any (N0 : Int) (x y : Nat) (R : TR) (w : World) (hR : hornT N0 (cls .f32 x) (cls .f32 y) = R) :
    Calls Try.prog 58 #[.int .i64 N0, .float .f32 x, .float .f32 y] w fun e w' => ∃ v, e = .returned (.tuple #[v, .bool R.ok]) ∧ TubeIs w' w.heap.size R v ∧ Ext w w' := by
  by_cases h1 : N0 < 2
  · have e : hornT N0 (cls .f32 x) (cls .f32 y) = zeroT := by unfold hornT; rw [if_neg (by omega)]
    rw [e] at hR
    subst hR
    go_enter Try.func58, Try.ntmps58
    go_wp2_with (go_at_call 107; refine (l00In_no _ _ _ (by omega) _).mono ?_; rintro e w' ⟨rfl, rfl⟩)
    go_returns
    refine ⟨_, rfl, zero_is _ _, ?_⟩
    (repeat with_reducible (first | exact Ext.refl _ | exact ext_alloc _ _ | refine Ext.drewN ?_ _ | refine Ext.drew1 ?_ | refine Ext.set ?_ (by dsimp only; omega) _ | refine Ext.alloc ?_ _))
  by_cases h2 : 16 < N0
  · have e : hornT N0 (cls .f32 x) (cls .f32 y) = zeroT := by unfold hornT; rw [if_neg (by omega)]
    rw [e] at hR
    subst hR
    clear h1
    go_enter Try.func58, Try.ntmps58
    go_wp2_with (go_at_call 107; refine (l00In_no _ _ _ (by omega) _).mono ?_; rintro e w' ⟨rfl, rfl⟩)
    go_returns
    refine ⟨_, rfl, zero_is _ _, ?_⟩
    (repeat with_reducible (first | exact Ext.refl _ | exact ext_alloc _ _ | refine Ext.drewN ?_ _ | refine Ext.drew1 ?_ | refine Ext.set ?_ (by dsimp only; omega) _ | refine Ext.alloc ?_ _))
  cases hfx : fin32 (cls .f32 x)
  · have e : hornT N0 (cls .f32 x) (cls .f32 y) = zeroT := horn_wild (by omega) (by omega) (.inl hfx)
    rw [e] at hR
    subst hR
    go_enter Try.func58, Try.ntmps58
    go_wp2_with (first | (go_at_call 107; refine (l00In_yes _ _ _ (by omega) (by omega) _).mono ?_; rintro e w' ⟨rfl, rfl⟩) | (go_at_call 112; refine (l01Finite_any _ _).mono ?_; rintro e w' ⟨rfl, m, rfl⟩; simp only [hfx]))
    go_returns
    refine ⟨_, rfl, zero_is _ _, ?_⟩
    (repeat with_reducible (first | exact Ext.refl _ | exact ext_alloc _ _ | refine Ext.drewN ?_ _ | refine Ext.drew1 ?_ | refine Ext.set ?_ (by dsimp only; omega) _ | refine Ext.alloc ?_ _))
  cases hfy : fin32 (cls .f32 y)
  · have e : hornT N0 (cls .f32 x) (cls .f32 y) = zeroT := horn_wild (by omega) (by omega) (.inr hfy)
    rw [e] at hR
    subst hR
    go_enter Try.func58, Try.ntmps58
    go_wp2_with (first | (go_at_call 107; refine (l00In_yes _ _ _ (by omega) (by omega) _).mono ?_; rintro e w' ⟨rfl, rfl⟩) | (go_at_call 112; refine (l01Finite_any _ _).mono ?_; rintro e w' ⟨rfl, m, rfl⟩; simp only [hfx, hfy]))
    go_returns
    refine ⟨_, rfl, zero_is _ _, ?_⟩
    (repeat with_reducible (first | exact Ext.refl _ | exact ext_alloc _ _ | refine Ext.drewN ?_ _ | refine Ext.drew1 ?_ | refine Ext.set ?_ (by dsimp only; omega) _ | refine Ext.alloc ?_ _))
  obtain ⟨N, rfl⟩ : ∃ N : Nat, N0 = (N : Int) := ⟨N0.toNat, by omega⟩
  have hN2 : 2 ≤ N := by omega
  have hN16 : N ≤ 16 := by omega
  have hZ2 : (2 : Int) ≤ (N : Int) := by omega
  have hZ16 : (N : Int) ≤ 16 := by omega
  have e := hR
  unfold hornT at e
  rw [if_pos (by omega)] at e
  simp only [Int.toNat_natCast] at e
  have HE := hid e
  obtain ⟨i0, hi, hz0, hz1, hz2⟩ := info_parts infoF
  have HI := hid (And.intro hi (And.intro hz0 (And.intro hz1 hz2)))
  have HN := hid hN16
  clear hi hz0 hz1 hz2 hR e
  go_enter Try.func58, Try.ntmps58
  go_wp2_with (first | (go_at_call 107; refine (l00In_yes _ _ _ (by omega) (by omega) _).mono ?_; rintro e w' ⟨rfl, rfl⟩) | (go_at_call 112; refine (l01Finite_any _ _).mono ?_; rintro e w' ⟨rfl, m, rfl⟩; simp only [hfx, hfy]))
  go_loopw [8, 9] (fun v i wr => ∃ (k : Nat) (ys : List Nat), k ≤ N ∧ i = .int .i64 k ∧ Hid (Own wr (w.heap.size + 1) k v ys) ∧ Hid (ys.map (cls .f32) = hornC (cls .f32 x) (cls .f32 y) N k) ∧ Hid (Box wr w.heap.size #[.slice none 0 0, .float .f32 0, .float .f32 0, .float .f32 0]) ∧ Hid (Ext w wr)) (fun _ i _ => N - (intOf i).toNat)
  case atStart => exact ⟨0, [], Nat.zero_le _, rfl, hid (own_fresh (cs := #[]) (zs := []) (hid rfl) rfl (by simp) (by simp) (Nat.zero_le _)), rfl, hid (Box.alloc (Box.drewN (box_new _ _) _) _), hid (Ext.alloc (Ext.drewN (ext_alloc _ _) _) _)⟩
  case round =>
    obtain ⟨k, ys, hk, rfl, ho, hy, hbr, he⟩ := hrel
    by_cases hlt : k < N
    · have hi0 : (0 : Int) ≤ (k : Int) := by omega
      have hi1 : (k : Int) < (N : Int) := by omega
      go_wp2_with (first | (refine wpList_fa rfl rfl rfl rfl rfl (by first | assumption | exact is_const (by decide) | exact is_int _ | exact is_self _ _) (by first | assumption | exact is_const (by decide) | exact is_int _ | exact is_self _ _) ?_; intro r m hr hrw) | (at_builtin; refine wpList_append_lies _ rfl _ _ 24 rfl (w.heap.size + 1) 25 i0 (.float .f32 0) 1 4 Try.underlying24 HI.out.1 HI.out.2.1 HI.out.2.2.1 HI.out.2.2.2 rfl (by decide) _ _ _ rfl (Own.alloc (Own.drewN ho.out _) _) ⟨wr.heap.size, 0, none⟩ 1 1 [.float .f32 r] rfl rfl (World.news_of_block (heap_alloc_new _ _)) (by intro u hu; simp at hu; subst hu; rfl) (by omega) (by have h9 := HN.out; unfold maxLen; omega) (by have h9 := HN.out; omega) (by have h8 := Ext.size he.out; have h7 := hbr.out.lt; simp; omega) _ rfl ?_; intro g cap w1 hown hgrow hat hlt2))
      have g1 := hid (own_snoc10 hown)
      have g2 := hid (show Ext w w1 from But.below hgrow (Ext.alloc (Ext.drewN he.out _) _) (fun k2 hk2 => Nat.le_of_succ_le (Own.block ho.out k2 hk2).1))
      have g3 := hid (show (ys ++ [r]).map (cls .f32) = hornC (cls .f32 x) (cls .f32 y) N (k + 1) from by rw [List.map_append, hy.out, horn_snoc]; exact congrArg (fun z => _ ++ [z]) hr)
      have g4 := hid (But.box hgrow (Box.alloc (Box.drewN hbr.out _) _) (fun hk2 => by have := (Own.block ho.out _ hk2).1; omega))
      clear hown hgrow hat hlt2
      go_wp2
      go_roundw
      case rel => first | exact ⟨k + 1, ys ++ [r], by omega, by go_num, g1, g3, g4, g2⟩ | (refine ⟨_, _, _, _, _, _, _, _, _, _, _, _, _, _, _, _, _, _, _, _, _, _, ?_, rfl⟩; exact ⟨k + 1, ys ++ [r], by omega, by go_num, g1, g3, g4, g2⟩)
      case measure => simp [intOf]; omega
    · have hkn : k = N := by omega
      subst hkn
      obtain ⟨va, vc, rfl, hvh, _⟩ := Own.holds ho.out
      have HV := hid hvh
      clear hvh
      go_wp2_with fail
      refine (l02New_any _ _ _ _).mono ?_
      rintro e2 w2 ⟨rfl, E2⟩
      have ho2 := hid (Own.ext ho.out E2)
      have hb2 := hid (Box.ext hbr.out E2)
      have he2 := hid (Ext.trans he.out E2)
      clear E2
      go_wp2_with fail
      refine (l02Give_any _ _ _ _ _ _ _ ys _ ho2.out (by omega)).mono ?_
      rintro e3 w3 ⟨v, rfl, hT, E3⟩
      have hpl := hid (show giveT (ys.map (cls .f32)) (cls .f32 1065353216) (cls .f32 1061158912) (cls .f32 3210739712) = R from by rw [hy.out]; exact HE.out)
      rw [hpl.out] at hT ⊢
      have EE3 := hid (Ext.trans he2.out E3)
      have HX := hid (Box.ext hb2.out E3)
      obtain ⟨ra, rc, rl, rt, rp, rz, rfl, rO, re⟩ := hT
      have HT := hid (show TubeIs w3 (w.heap.size + 1) R (.agg #[.slice ra R.cs.length rc, .float .f32 rl, .float .f32 rt, .float .f32 rp]) from ⟨ra, rc, rl, rt, rp, rz, rfl, rO, re⟩)
      clear rO re
      obtain ⟨y0, y1, y2, y3, yf0, yf1, yf2, yf3, yl⟩ := Box.all4 HX.out
      go_wp2_with fail
      clear y0 y1 y2 y3 yf0 yf1 yf2 yf3 yl
      refine bodyPost_ret (ret_cell2 Try.results58 rfl (box_set4 HX.out _ _ _ _) Try.underlying27 infoT) rfl ?_
      exact ⟨_, rfl, TubeIs.base (TubeIs.far4 HT.out (by omega) _ _ _ _) (by omega), ext_set4 EE3.out (Nat.le_refl _) _ _ _ _⟩

end Go.Proofs.Ytogjehlepdapoaa
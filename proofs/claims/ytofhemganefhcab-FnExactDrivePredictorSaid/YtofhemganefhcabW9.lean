/- Predictors: copies, sizes, and what is the same. -/
import Derived.Test.YtofhemganefhcabT1
import Derived.Test.YtofhemganefhcabW8
namespace Go.Proofs.Ytofhemganefhcab
open Go.RowKit Flt
set_option linter.unusedVariables false

theorem szPredictor_yes (a : Option Addr) (n c g : Nat) (k : Int) (hk0 : (n : Int) ≤ k) (hk : k ≤ 1048576) (w : World) :
    Calls Try.prog 15 #[.agg #[.slice a n c, .float .f32 g], .int .i64 k] w fun e w' => e = .returned (.int .i64 (k - n)) ∧ Ext w w' := by
  have h0 : ¬ k - n < 0 := by omega
  go_enter Try.func15, Try.ntmps15
  go_wp2_with (go_at_call 56; refine (szF_yes _ _ _ _ hk0 hk _).mono ?_; rintro e w' ⟨rfl, rfl⟩)
  go_ret
  exact ⟨rfl, ext_alloc _ _⟩
theorem szPredictor_no (a : Option Addr) (n c g : Nat) (k : Int) (hn : n ≤ maxLen) (hk0 : k < (n : Int)) (hk1 : 0 ≤ k) (w : World) :
    Calls Try.prog 15 #[.agg #[.slice a n c, .float .f32 g], .int .i64 k] w fun e w' => e = .returned (.int .i64 (-1)) ∧ Ext w w' := by
  go_enter Try.func15, Try.ntmps15
  go_wp2_with (go_at_call 56; refine (szF_no _ _ _ _ hn hk0 hk1 _).mono ?_; rintro e w' ⟨rfl, rfl⟩)
  go_ret
  exact ⟨rfl, ext_alloc _ _⟩
theorem toPredictor_any (a : Option Addr) (len cap g : Nat) (zs : List Nat) (w : World) (h : IsRowF .f32 w a len cap zs) (hl : len ≤ 1048576) :
    Calls Try.prog 17 #[.agg #[.slice a len cap, .float .f32 g]] w fun e w' => ∃ b, e = .returned (.agg #[.slice (some ⟨b, 0, none⟩) len len, .float .f32 g]) ∧ Own w' w.heap.size len (.slice (some ⟨b, 0, none⟩) len len) (zs.take len) ∧ Ext w w' := by
  have HW := hid h
  have hz := (holds_row h).1
  have HZ := hid hz
  clear h hz
  go_enter Try.func17, Try.ntmps17
  go_wp2_with fail
  refine (toFloat32S_any _ _ _ zs _ (IsRowF.ext HW.out (((ext_alloc _ _).alloc _).alloc _)) hl).mono ?_
  rintro e w1 ⟨cs, rfl, hcs, rfl⟩
  go_wp2_with fail
  go_returns
  exact ⟨_, rfl, own_fresh hcs HZ.out (by simp) (by simp; omega) (by unfold maxLen; omega), (((ext_alloc _ _).alloc _).alloc _).alloc _⟩
theorem eqPredictor_yes (a1 a2 : Option Addr) (n c1 c2 g1 g2 : Nat) (xs ys : List Nat) (w : World) (h1 : Holds .f32 w a1 n xs) (h2 : Holds .f32 w a2 n ys) (hn : n ≤ 1048576)
    (he : xs.map (cls .f32) = ys.map (cls .f32)) (hg : cls .f32 g1 = cls .f32 g2) :
    Calls Try.prog 20 #[.agg #[.slice a1 n c1, .float .f32 g1], .agg #[.slice a2 n c2, .float .f32 g2]] w fun e w' => e = .returned (.bool true) ∧ Ext w w' := by
  have H1 := hid h1
  have H2 := hid h2
  have HE := hid (map_cls_get he)
  have HG := hid hg
  have HN := hid hn
  clear h1 h2 he hg hn
  go_enter Try.func20, Try.ntmps20
  go_wp2_with fail
  refine (eqFloat32S_yes _ _ _ _ _ xs ys _ ((H1.out.alloc _).alloc _) ((H2.out.alloc _).alloc _) HN.out (fun i _ => HE.out i)).mono ?_
  rintro e w' ⟨rfl, m, rfl⟩
  go_wp2_with (first
    | (refine wpList_widen rfl rfl Try.underlying23 Try.underlying40 rfl ?_; intro r m hr hrw)
    | (go_at_call 27; refine (sameFloat_yes _ _ _ (by assumption) (by rw [HG.out]; assumption) _).mono ?_; rintro e w' ⟨rfl, m, rfl⟩))
  go_ret
  exact ⟨rfl, ((ext_alloc _ _).alloc _).drewN _⟩
theorem markPredictor_any (a : Option Addr) (n c k B g : Nat) (zs : List Nat) (w : World) (h : Own w B n (.slice a n c) zs) (hn : n ≤ 1048576) (hk : k ≤ 1099511627776) :
    Calls Try.prog 21 #[.agg #[.slice a n c, .float .f32 g], .int .i64 k] w fun e w' => e = .returned (.int .i64 ((k + n : Nat) : Int)) ∧ Own w' B n (.slice a n c) (marks k n) ∧ But (Value.slice a n c).ownBlock w w' := by
  have HH := hid h
  clear h
  go_enter Try.func21, Try.ntmps21
  go_wp2_with fail
  refine (markF_any _ _ _ _ _ zs _ (HH.out.alloc _) hn hk).mono ?_
  rintro e w' ⟨rfl, ho, hb⟩
  have HO := hid ho
  have HB := hid hb
  clear ho hb
  go_wp2
  go_ret
  exact ⟨rfl, HO.out, ((ext_alloc _ _).but _).trans HB.out⟩
theorem heldPredictor_any (a : Option Addr) (n c k B g : Nat) (w : World) (h : Own w B n (.slice a n c) (marks k n)) (hn : n ≤ 1048576) (hk : k ≤ 1099511627776) :
    Calls Try.prog 44 #[.agg #[.slice a n c, .float .f32 g], .int .i64 k] w fun e w' => e = .returned (.int .i64 ((k + n : Nat) : Int)) ∧ Ext w w' := by
  have HH := hid h
  clear h
  go_enter Try.func44, Try.ntmps44
  go_wp2_with fail
  refine (heldF_any _ _ _ _ _ _ (HH.out.alloc _) hn hk).mono ?_
  rintro e w' ⟨rfl, rfl⟩
  go_wp2
  go_ret
  exact ⟨rfl, ext_alloc _ _⟩

end Go.Proofs.Ytofhemganefhcab

/- Frames: copies, sizes, and what is the same. -/
import Derived.Test.YthinjgiakaflpabT1
import Derived.Test.YthinjgiakaflpabV1
namespace Go.Proofs.Ythinjgiakaflpab
open Go.RowKit Flt
set_option linter.unusedVariables false

theorem szFrame_yes (a : Option Addr) (n c l t p : Nat) (k : Int) (hk0 : (n : Int) ≤ k) (hk : k ≤ 1048576) (w : World) :
    Calls Try.prog 88 #[.agg #[.slice a n c, .float .f32 l, .float .f32 t, .float .f32 p], .int .i64 k] w fun e w' => e = .returned (.int .i64 (k - n)) ∧ Ext w w' := by
  have h0 : ¬ k - n < 0 := by omega
  go_enter Try.func88, Try.ntmps88
  go_wp2_with (go_at_call 115; refine (szF_yes _ _ _ _ hk0 hk _).mono ?_; rintro e w' ⟨rfl, rfl⟩)
  go_ret
  exact ⟨rfl, ext_alloc _ _⟩
theorem szFrame_no (a : Option Addr) (n c l t p : Nat) (k : Int) (hn : n ≤ maxLen) (hk0 : k < (n : Int)) (hk1 : 0 ≤ k) (w : World) :
    Calls Try.prog 88 #[.agg #[.slice a n c, .float .f32 l, .float .f32 t, .float .f32 p], .int .i64 k] w fun e w' => e = .returned (.int .i64 (-1)) ∧ Ext w w' := by
  go_enter Try.func88, Try.ntmps88
  go_wp2_with (go_at_call 115; refine (szF_no _ _ _ _ hn hk0 hk1 _).mono ?_; rintro e w' ⟨rfl, rfl⟩)
  go_ret
  exact ⟨rfl, ext_alloc _ _⟩
theorem toFrame_any (a : Option Addr) (len cap l t p : Nat) (zs : List Nat) (w : World) (h : IsRowF .f32 w a len cap zs) (hl : len ≤ 1048576) :
    Calls Try.prog 92 #[.agg #[.slice a len cap, .float .f32 l, .float .f32 t, .float .f32 p]] w fun e w' => ∃ b, e = .returned (.agg #[.slice (some ⟨b, 0, none⟩) len len, .float .f32 l, .float .f32 t, .float .f32 p]) ∧ Own w' w.heap.size len (.slice (some ⟨b, 0, none⟩) len len) (zs.take len) ∧ Ext w w' := by
  have HW := hid h
  have hz := (holds_row h).1
  have HZ := hid hz
  clear h hz
  go_enter Try.func92, Try.ntmps92
  go_wp2_with fail
  refine (toFloat32S_any _ _ _ zs _ (IsRowF.ext HW.out (((ext_alloc _ _).alloc _).alloc _)) hl).mono ?_
  rintro e w1 ⟨cs, rfl, hcs, rfl⟩
  go_wp2_with fail
  go_returns
  exact ⟨_, rfl, own_fresh hcs HZ.out (by simp) (by simp; omega) (by unfold maxLen; omega), (((ext_alloc _ _).alloc _).alloc _).alloc _⟩
theorem eqFrame_yes (a1 a2 : Option Addr) (n c1 c2 l1 t1 p1 l2 t2 p2 : Nat) (xs ys : List Nat) (w : World) (h1 : Holds .f32 w a1 n xs) (h2 : Holds .f32 w a2 n ys) (hn : n ≤ 1048576)
    (he : xs.map (cls .f32) = ys.map (cls .f32)) (hl : cls .f32 l1 = cls .f32 l2) (ht : cls .f32 t1 = cls .f32 t2) (hp : cls .f32 p1 = cls .f32 p2) :
    Calls Try.prog 67 #[.agg #[.slice a1 n c1, .float .f32 l1, .float .f32 t1, .float .f32 p1], .agg #[.slice a2 n c2, .float .f32 l2, .float .f32 t2, .float .f32 p2]] w fun e w' => e = .returned (.bool true) ∧ Ext w w' := by
  have H1 := hid h1
  have H2 := hid h2
  have HE := hid (map_cls_get he)
  have HL := hid hl
  have HT := hid ht
  have HP := hid hp
  have HN := hid hn
  clear h1 h2 he hl ht hp hn
  go_enter Try.func67, Try.ntmps67
  go_wp2_with fail
  refine (eqFloat32S_yes _ _ _ _ _ xs ys _ ((H1.out.alloc _).alloc _) ((H2.out.alloc _).alloc _) HN.out (fun i _ => HE.out i)).mono ?_
  rintro e w' ⟨rfl, m, rfl⟩
  go_wp2_with (first
    | (refine wpList_widen rfl rfl Try.underlying22 Try.underlying107 rfl ?_; intro r m hr hrw)
    | (go_at_call 80; refine (sameFloat_yes _ _ _ (by assumption) (by first | (rw [HL.out]; assumption) | (rw [HT.out]; assumption) | (rw [HP.out]; assumption)) _).mono ?_; rintro e w' ⟨rfl, m, rfl⟩))
  go_ret
  exact ⟨rfl, ((ext_alloc _ _).alloc _).drewN _⟩
theorem markFrame_any (a : Option Addr) (n c k B l t p : Nat) (zs : List Nat) (w : World) (h : Own w B n (.slice a n c) zs) (hn : n ≤ 1048576) (hk : k ≤ 1099511627776) :
    Calls Try.prog 68 #[.agg #[.slice a n c, .float .f32 l, .float .f32 t, .float .f32 p], .int .i64 k] w fun e w' => e = .returned (.int .i64 ((k + n : Nat) : Int)) ∧ Own w' B n (.slice a n c) (marks k n) ∧ But (Value.slice a n c).ownBlock w w' := by
  have HH := hid h
  clear h
  go_enter Try.func68, Try.ntmps68
  go_wp2_with fail
  refine (markF_any _ _ _ _ _ zs _ (HH.out.alloc _) hn hk).mono ?_
  rintro e w' ⟨rfl, ho, hb⟩
  have HO := hid ho
  have HB := hid hb
  clear ho hb
  go_wp2
  go_ret
  exact ⟨rfl, HO.out, ((ext_alloc _ _).but _).trans HB.out⟩
theorem heldFrame_any (a : Option Addr) (n c k B l t p : Nat) (w : World) (h : Own w B n (.slice a n c) (marks k n)) (hn : n ≤ 1048576) (hk : k ≤ 1099511627776) :
    Calls Try.prog 69 #[.agg #[.slice a n c, .float .f32 l, .float .f32 t, .float .f32 p], .int .i64 k] w fun e w' => e = .returned (.int .i64 ((k + n : Nat) : Int)) ∧ Ext w w' := by
  have HH := hid h
  clear h
  go_enter Try.func69, Try.ntmps69
  go_wp2_with fail
  refine (heldF_any _ _ _ _ _ _ (HH.out.alloc _) hn hk).mono ?_
  rintro e w' ⟨rfl, rfl⟩
  go_wp2
  go_ret
  exact ⟨rfl, ext_alloc _ _⟩

end Go.Proofs.Ythinjgiakaflpab

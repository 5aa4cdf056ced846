/- Helpers of the laws with several parameters. -/
import Derived.Test.YtnmigjiaeahekaaT17
import Derived.Test.YtnmigjiaeahekaaT13
namespace Go.Proofs.Ytnmigjiaeahekaa
open Go.RowKit Flt
set_option linter.unusedVariables false

theorem keep_of {S : World → Prop} {c w' : World} (h : ∀ u, Ext c u → S u) (e : Ext c w') : S w' := h _ e
theorem with_box {w1 w' : World} {vs : Array Value} {t : TypeId} {G : Prop} (e : Ext (w1.alloc (.cells vs t)) w') (k : Box w' w1.heap.size vs → G) : G := k (Box.ext (box_new vs t) e)
theorem own_far4 {w : World} {B n b : Nat} {v : Value} {zs : List Nat} (h : Own w B n v zs) (hb : b < B) (u0 u1 u2 u3 : Value) :
    Own ((((w.setCell ⟨b, 0, none⟩ u0).setCell ⟨b, 1, none⟩ u1).setCell ⟨b, 2, none⟩ u2).setCell ⟨b, 3, none⟩ u3) B n v zs := by
  have hn : v.ownBlock ≠ some b := fun hk => by have := (Own.block h _ hk).1; omega
  exact Own.far (Own.far (Own.far (Own.far h hn _) hn _) hn _) hn _
theorem own_far2 {w : World} {B n b : Nat} {v : Value} {zs : List Nat} (h : Own w B n v zs) (hb : b < B) (u0 u1 : Value) :
    Own ((w.setCell ⟨b, 0, none⟩ u0).setCell ⟨b, 1, none⟩ u1) B n v zs := by
  have hn : v.ownBlock ≠ some b := fun hk => by have := (Own.block h _ hk).1; omega
  exact Own.far (Own.far h hn _) hn _
theorem szL_yes (a : Option Addr) (n c : Nat) (k : Int) (hk0 : (n : Int) ≤ k) (hk : k ≤ 1048576) (w : World) :
    Calls Try.prog 58 #[.slice a n c, .int .i64 k] w fun e w' => e = .returned (.int .i64 (k - n)) ∧ Ext w w' := by
  refine (szF_yes _ _ _ _ hk0 hk _).mono ?_
  rintro e w' ⟨rfl, rfl⟩
  exact ⟨rfl, Ext.refl _⟩
theorem szL_no (a : Option Addr) (n c : Nat) (k : Int) (hn : n ≤ maxLen) (hk0 : k < (n : Int)) (hk1 : 0 ≤ k) (w : World) :
    Calls Try.prog 58 #[.slice a n c, .int .i64 k] w fun e w' => e = .returned (.int .i64 (-1)) ∧ Ext w w' := by
  refine (szF_no _ _ _ _ hn hk0 hk1 _).mono ?_
  rintro e w' ⟨rfl, rfl⟩
  exact ⟨rfl, Ext.refl _⟩
theorem heldL_any (a : Option Addr) (n c k B : Nat) (w : World) (h : Own w B n (.slice a n c) (marks k n)) (hn : n ≤ 1048576) (hk : k ≤ 1099511627776) :
    Calls Try.prog 39 #[.slice a n c, .int .i64 k] w fun e w' => e = .returned (.int .i64 ((k + n : Nat) : Int)) ∧ Ext w w' := by
  refine (heldF_any _ _ _ _ _ _ h hn hk).mono ?_
  rintro e w' ⟨rfl, rfl⟩
  exact ⟨rfl, Ext.refl _⟩
theorem toList_any (a : Option Addr) (len cap : Nat) (zs : List Nat) (w : World) (h : IsRowF .f32 w a len cap zs) (hl : len ≤ 1048576) :
    Calls Try.prog 44 #[.slice a len cap] w fun e w' => ∃ b, e = .returned (.slice (some ⟨b, 0, none⟩) len len) ∧ Own w' w.heap.size len (.slice (some ⟨b, 0, none⟩) len len) (zs.take len) ∧ Ext w w' := by
  have hz := (holds_row h).1
  refine (toFloat32S_any _ _ _ zs _ h hl).mono ?_
  rintro e w' ⟨cs, rfl, hc, rfl⟩
  exact ⟨_, rfl, own_fresh hc hz rfl (Nat.le_refl _) (by unfold maxLen; omega), ext_alloc _ _⟩
theorem eqList_any (a1 a2 : Option Addr) (n c1 c2 : Nat) (xs ys : List Nat) (w : World) (h1 : Holds .f32 w a1 n xs) (h2 : Holds .f32 w a2 n ys) (hn : n ≤ 1048576) (he : xs.map (cls .f32) = ys.map (cls .f32)) :
    Calls Try.prog 37 #[.slice a1 n c1, .slice a2 n c2] w fun e w' => e = .returned (.bool true) ∧ Ext w w' := by
  refine (eqFloat32S_yes _ _ _ _ _ xs ys _ h1 h2 hn (fun i _ => map_cls_get he i)).mono ?_
  rintro e w' ⟨rfl, m, rfl⟩
  exact ⟨rfl, Ext.drewN (Ext.refl _) _⟩
theorem markWavesK_any (k : Nat) (a1 a2 : Option Addr) (n m c1 c2 B : Nat) (x1 x2 : List Nat) (w : World) (h1 : Own w B n (.slice a1 n c1) x1) (h2 : Own w B m (.slice a2 m c2) x2) (hn : n ≤ 1048576) (hm : m ≤ 1048576)
    (ha : ∀ k, (Value.slice a1 n c1).ownBlock = some k → (Value.slice a2 m c2).ownBlock ≠ some k) (hk : k ≤ 1073741824) :
    Calls Try.prog 33 #[.agg #[.slice a1 n c1, .slice a2 m c2], .int .i64 k] w fun e w' => e = .returned (.int .i64 ((k + n + m : Nat) : Int)) ∧ Own w' B n (.slice a1 n c1) (marks k n) ∧ Own w' B m (.slice a2 m c2) (marks (k + n) m) ∧ But2 (Value.slice a1 n c1).ownBlock (Value.slice a2 m c2).ownBlock w w' := by
  have H1 := hid h1
  have H2 := hid h2
  have HN := hid hn
  have HM := hid hm
  have HA := hid ha
  have HB := hid (fun k (hk : (Value.slice a2 m c2).ownBlock = some k) (hk2 : (Value.slice a1 n c1).ownBlock = some k) => ha k hk2 hk)
  have BX := hid (box_new (w := w) #[.slice a1 n c1, .slice a2 m c2] 43)
  have N1 := hid (fun (hk : (Value.slice a1 n c1).ownBlock = some w.heap.size) => by have := (Own.block h1 _ hk).2; omega : ¬ ((Value.slice a1 n c1).ownBlock = some w.heap.size))
  clear h1 h2 hn hm ha
  go_enter Try.func33, Try.ntmps33
  go_wp2_with fail
  refine (markF_any _ n _ k _ x1 _ (Own.alloc H1.out _) HN.out (by omega)).mono ?_
  rintro e w1 ⟨rfl, O1, B1⟩
  have P1 := hid O1
  have Q1 := hid B1
  have R2 := hid (But.own B1 (Own.alloc H2.out (.cells #[.slice a1 n c1, .slice a2 m c2] 43)) (fun k hk => HB.out k hk))
  have BX2 := hid (But.box B1 BX.out N1.out)
  clear O1 B1
  obtain ⟨d0, d1, dl⟩ := Box.cells2 BX2.out
  go_wp2_with fail
  refine (markF_any _ m _ (k + n) _ x2 _ R2.out HM.out (by have := HN.out; omega)).mono ?_
  rintro e w2 ⟨rfl, O2, B2⟩
  have P2 := hid O2
  have Q2 := hid B2
  have P1b := hid (But.own B2 P1.out (fun k hk => HA.out k hk))
  clear O2 B2 d0 d1 dl
  go_wp2
  go_ret
  exact ⟨rfl, P1b.out, P2.out, But.two (But.trans ((ext_alloc _ _).but _) Q1.out) Q2.out⟩
theorem heldWavesK_any (k : Nat) (a1 a2 : Option Addr) (n m c1 c2 B : Nat) (w : World) (h1 : Own w B n (.slice a1 n c1) (marks k n)) (h2 : Own w B m (.slice a2 m c2) (marks (k + n) m)) (hn : n ≤ 1048576) (hm : m ≤ 1048576) (hk : k ≤ 1073741824) :
    Calls Try.prog 34 #[.agg #[.slice a1 n c1, .slice a2 m c2], .int .i64 k] w fun e w' => e = .returned (.int .i64 ((k + n + m : Nat) : Int)) ∧ Ext w w' := by
  have H1 := hid h1
  have H2 := hid h2
  have HN := hid hn
  have HM := hid hm
  have hs1 : ¬ ((k : Int) + (n : Int) < 0) := by omega
  have hs2 : ¬ ((k : Int) + (n : Int) + (m : Int) < 0) := by omega
  clear h1 h2 hn hm
  go_enter Try.func34, Try.ntmps34
  go_wp2_with fail
  refine (heldF_any _ n _ k _ _ (Own.alloc H1.out _) HN.out (by omega)).mono ?_
  rintro e w1 ⟨rfl, rfl⟩
  go_wp2_with fail
  refine (heldF_any _ m _ (k + n) _ _ (Own.alloc H2.out _) HM.out (by have := HN.out; omega)).mono ?_
  rintro e w2 ⟨rfl, rfl⟩
  go_wp2
  go_ret
  exact ⟨rfl, ext_alloc _ _⟩
end Go.Proofs.Ytnmigjiaeahekaa

/- Waves: what is the same, marks, and waves that are nothing. -/
import Derived.Test.YtnmigjiaeahekaaT8
import Derived.Deep.RegionHeld3
namespace Go.Proofs.Ytnmigjiaeahekaa
open Go.RowKit Flt
set_option linter.unusedVariables false

/-- of all that was there, two blocks alone may have turned -/
structure But2 (o p : Option Nat) (w w' : World) : Prop where
  os : w'.os = w.os
  tape : w'.tape = w.tape
  output : w'.output = w.output
  size : w.heap.size ≤ w'.heap.size
  block : ∀ k, k < w.heap.size → some k ≠ o → some k ≠ p → w'.heap[k]? = w.heap[k]?
theorem But.two {o p : Option Nat} {a b c : World} (h : But o a b) (k : But p b c) : But2 o p a c :=
  ⟨k.os.trans h.os, k.tape.trans h.tape, k.output.trans h.output, Nat.le_trans h.size k.size, fun i hi h1 h2 => (k.block i (Nat.lt_of_lt_of_le hi h.size) h2).trans (h.block i hi h1)⟩
theorem But2.box {o p : Option Nat} {w w' : World} (h : But2 o p w w') {b : Nat} {vs : Array Value} (hb : Box w b vs) (h1 : o ≠ some b) (h2 : p ≠ some b) : Box w' b vs := by
  have hl := hb.lt
  obtain ⟨t, hb⟩ := hb
  exact ⟨t, by rw [h.block b hl (Ne.symm h1) (Ne.symm h2)]; exact hb⟩
theorem But2.own {o p : Option Nat} {w w' : World} (h : But2 o p w w') {B n : Nat} {v : Value} {zs : List Nat} (hv : Own w B n v zs) (h1 : ∀ k, v.ownBlock = some k → o ≠ some k) (h2 : ∀ k, v.ownBlock = some k → p ≠ some k) : Own w' B n v zs :=
  hv.heap fun k hk => h.block k (hv.block k hk).2 (Ne.symm (h1 k hk)) (Ne.symm (h2 k hk))
theorem But2.below {o p : Option Nat} {a w w' : World} (h : But2 o p w w') (e : Ext a w) (ho : ∀ k, o = some k → a.heap.size ≤ k) (hp : ∀ k, p = some k → a.heap.size ≤ k) : Ext a w' := by
  refine Below.trans e ⟨h.os, h.tape, h.output, h.size, fun k hk => h.block k (Nat.lt_of_lt_of_le hk e.size) (fun hk2 => ?_) (fun hk2 => ?_)⟩
  · have := ho k hk2.symm; omega
  · have := hp k hk2.symm; omega
/-- waves that come back, told by classes -/
structure WR where
  ok : Bool
  r : List (Option Nat)
  l : List (Option Nat)
def zeroW : WR := ⟨false, [], []⟩
def WavesIs (w : World) (B : Nat) (R : WR) (v : Value) : Prop :=
  ∃ a1 c1 a2 c2 z1 z2, v = .agg #[.slice a1 R.r.length c1, .slice a2 R.l.length c2] ∧ Own w B R.r.length (.slice a1 R.r.length c1) z1 ∧ Own w B R.l.length (.slice a2 R.l.length c2) z2 ∧ z1.map (cls .f32) = R.r ∧ z2.map (cls .f32) = R.l ∧
    ∀ k, (Value.slice a1 R.r.length c1).ownBlock = some k → (Value.slice a2 R.l.length c2).ownBlock ≠ some k
theorem zeroW_is (w : World) (B : Nat) : WavesIs w B zeroW (.agg #[.slice none 0 0, .slice none 0 0]) := ⟨none, 0, none, 0, [], [], rfl, own_nil _ _, own_nil _ _, rfl, rfl, fun k hk => by cases hk⟩
theorem WavesIs.base {w : World} {B B' : Nat} {R : WR} {v : Value} (h : WavesIs w B R v) (e : B' ≤ B) : WavesIs w B' R v := by
  obtain ⟨a1, c1, a2, c2, z1, z2, h1, h2, h3, h4⟩ := h
  exact ⟨a1, c1, a2, c2, z1, z2, h1, Own.base h2 e, Own.base h3 e, h4⟩
theorem WavesIs.far2 {w : World} {B b : Nat} {R : WR} {v : Value} (h : WavesIs w B R v) (hb : b < B) (u0 u1 : Value) : WavesIs ((w.setCell ⟨b, 0, none⟩ u0).setCell ⟨b, 1, none⟩ u1) B R v := by
  obtain ⟨a1, c1, a2, c2, z1, z2, h1, h2, h3, h4⟩ := h
  have n1 : (Value.slice a1 R.r.length c1).ownBlock ≠ some b := fun hk => by have := (Own.block h2 _ hk).1; omega
  have n2 : (Value.slice a2 R.l.length c2).ownBlock ≠ some b := fun hk => by have := (Own.block h3 _ hk).1; omega
  exact ⟨a1, c1, a2, c2, z1, z2, h1, Own.far (Own.far h2 n1 _) n1 _, Own.far (Own.far h3 n2 _) n2 _, h4⟩
theorem box_set2 {w : World} {b : Nat} {v0 v1 : Value} (h : Box w b #[v0, v1]) (u0 u1 : Value) : Box ((w.setCell ⟨b, 0, none⟩ u0).setCell ⟨b, 1, none⟩ u1) b #[u0, u1] := Box.eqv (box_set (j := 1) (box_set (j := 0) h u0) u1) (by rfl)
theorem ext_set2 {a w : World} {b : Nat} (h : Ext a w) (hb : a.heap.size ≤ b) (u0 u1 : Value) : Ext a ((w.setCell ⟨b, 0, none⟩ u0).setCell ⟨b, 1, none⟩ u1) := Ext.set (Ext.set h hb _) hb _
theorem infoW : (Try.prog.info? 43).map (·.size) = some 2 := by kernel_rfl
theorem eqWaves_yes (a1 a2 b1 b2 : Option Addr) (n m c1 c2 d1 d2 : Nat) (x1 x2 y1 y2 : List Nat) (w : World) (h1 : Holds .f32 w a1 n x1) (h2 : Holds .f32 w a2 m x2) (k1 : Holds .f32 w b1 n y1) (k2 : Holds .f32 w b2 m y2) (hn : n ≤ 1048576) (hm : m ≤ 1048576)
    (e1 : x1.map (cls .f32) = y1.map (cls .f32)) (e2 : x2.map (cls .f32) = y2.map (cls .f32)) :
    Calls Try.prog 32 #[.agg #[.slice a1 n c1, .slice a2 m c2], .agg #[.slice b1 n d1, .slice b2 m d2]] w fun e w' => e = .returned (.bool true) ∧ Ext w w' := by
  have H1 := hid h1
  have H2 := hid h2
  have K1 := hid k1
  have K2 := hid k2
  have F1 := hid (map_cls_get e1)
  have F2 := hid (map_cls_get e2)
  have HN := hid hn
  have HM := hid hm
  clear h1 h2 k1 k2 e1 e2 hn hm
  go_enter Try.func32, Try.ntmps32
  go_wp2_with fail
  refine (eqFloat32S_yes _ _ _ _ _ x1 y1 _ (Holds.alloc (Holds.alloc H1.out _) _) (Holds.alloc (Holds.alloc K1.out _) _) HN.out (fun i _ => F1.out i)).mono ?_
  rintro e w1 ⟨rfl, m1, rfl⟩
  go_wp2_with fail
  refine (eqFloat32S_yes _ _ _ _ _ x2 y2 _ (Holds.drew (Holds.alloc (Holds.alloc H2.out _) _) _) (Holds.drew (Holds.alloc (Holds.alloc K2.out _) _) _) HM.out (fun i _ => F2.out i)).mono ?_
  rintro e w2 ⟨rfl, m2, rfl⟩
  go_wp2
  go_ret
  refine ⟨rfl, ?_⟩
  (repeat with_reducible (first | exact Ext.refl _ | exact ext_alloc _ _ | refine Ext.drewN ?_ _ | refine Ext.drew1 ?_ | refine Ext.set ?_ (by dsimp only; omega) _ | refine Ext.alloc ?_ _))
theorem markWaves_any (a1 a2 : Option Addr) (n m c1 c2 B : Nat) (x1 x2 : List Nat) (w : World) (h1 : Own w B n (.slice a1 n c1) x1) (h2 : Own w B m (.slice a2 m c2) x2) (hn : n ≤ 1048576) (hm : m ≤ 1048576)
    (ha : ∀ k, (Value.slice a1 n c1).ownBlock = some k → (Value.slice a2 m c2).ownBlock ≠ some k) :
    Calls Try.prog 33 #[.agg #[.slice a1 n c1, .slice a2 m c2], .int .i64 1] w fun e w' => e = .returned (.int .i64 ((1 + n + m : Nat) : Int)) ∧ Own w' B n (.slice a1 n c1) (marks 1 n) ∧ Own w' B m (.slice a2 m c2) (marks (1 + n) m) ∧ But2 (Value.slice a1 n c1).ownBlock (Value.slice a2 m c2).ownBlock w w' := by
  have H1 := hid h1
  have H2 := hid h2
  have HN := hid hn
  have HM := hid hm
  have HA := hid ha
  have HB := hid (fun k (hk : (Value.slice a2 m c2).ownBlock = some k) (hk2 : (Value.slice a1 n c1).ownBlock = some k) => ha k hk2 hk)
  have BX := hid (box_new (w := w) #[.slice a1 n c1, .slice a2 m c2] 43)
  have N1 := hid (fun (hk : (Value.slice a1 n c1).ownBlock = some w.heap.size) => by have := (Own.block h1 _ hk).2; omega : ¬ ((Value.slice a1 n c1).ownBlock = some w.heap.size))
  clear h1 h2 hn hm ha
  go_enter Try.func33, Try.ntmps33
  go_wp2_with fail
  refine (markF_any _ n _ 1 _ x1 _ (Own.alloc H1.out _) HN.out (by omega)).mono ?_
  rintro e w1 ⟨rfl, O1, B1⟩
  have P1 := hid O1
  have Q1 := hid B1
  have R2 := hid (But.own B1 (Own.alloc H2.out (.cells #[.slice a1 n c1, .slice a2 m c2] 43)) (fun k hk => HB.out k hk))
  have BX2 := hid (But.box B1 BX.out N1.out)
  clear O1 B1
  obtain ⟨d0, d1, dl⟩ := Box.cells2 BX2.out
  go_wp2_with fail
  refine (markF_any _ m _ (1 + n) _ x2 _ R2.out HM.out (by have := HN.out; omega)).mono ?_
  rintro e w2 ⟨rfl, O2, B2⟩
  have P2 := hid O2
  have Q2 := hid B2
  have P1b := hid (But.own B2 P1.out (fun k hk => HA.out k hk))
  clear O2 B2 d0 d1 dl
  go_wp2
  go_ret
  exact ⟨rfl, P1b.out, P2.out, But.two (But.trans ((ext_alloc _ _).but _) Q1.out) Q2.out⟩
theorem heldWaves_any (a1 a2 : Option Addr) (n m c1 c2 B : Nat) (w : World) (h1 : Own w B n (.slice a1 n c1) (marks 1 n)) (h2 : Own w B m (.slice a2 m c2) (marks (1 + n) m)) (hn : n ≤ 1048576) (hm : m ≤ 1048576) :
    Calls Try.prog 34 #[.agg #[.slice a1 n c1, .slice a2 m c2], .int .i64 1] w fun e w' => e = .returned (.int .i64 ((1 + n + m : Nat) : Int)) ∧ Ext w w' := by
  have H1 := hid h1
  have H2 := hid h2
  have HN := hid hn
  have HM := hid hm
  have hs1 : ¬ (1 + (n : Int) < 0) := by omega
  have hs2 : ¬ (1 + (n : Int) + (m : Int) < 0) := by omega
  clear h1 h2 hn hm
  go_enter Try.func34, Try.ntmps34
  go_wp2_with fail
  refine (heldF_any _ n _ 1 _ _ (Own.alloc H1.out _) HN.out (by omega)).mono ?_
  rintro e w1 ⟨rfl, rfl⟩
  go_wp2_with fail
  refine (heldF_any _ m _ (1 + n) _ _ (Own.alloc H2.out _) HM.out (by have := HN.out; omega)).mono ?_
  rintro e w2 ⟨rfl, rfl⟩
  go_wp2
  go_ret
  exact ⟨rfl, ext_alloc _ _⟩
def stillW (cs : List (Option Nat)) (l t p : Option Nat) : WR := if tubeC cs l t p then ⟨true, List.replicate cs.length (some 0), List.replicate cs.length (some 0)⟩ else zeroW
theorem still_len (cs : List (Option Nat)) (l t p : Option Nat) : (stillW cs l t p).r.length ≤ 16 ∧ (stillW cs l t p).l.length ≤ 16 := by
  unfold stillW
  split
  · rename_i h; have := tube_len h; simp; omega
  · exact ⟨Nat.zero_le _, Nat.zero_le _⟩
theorem still_is {w : World} {B n b1 b2 : Nat} {cs : List (Option Nat)} {l t p : Option Nat} (hV : tubeC cs l t p = true) (hn : cs.length = n) (h1 : Own w B n (.slice (some ⟨b1, 0, none⟩) n n) (List.replicate n 0)) (h2 : Own w B n (.slice (some ⟨b2, 0, none⟩) n n) (List.replicate n 0)) (hb : b1 ≠ b2) :
    WavesIs w B (stillW cs l t p) (.agg #[.slice (some ⟨b1, 0, none⟩) n n, .slice (some ⟨b2, 0, none⟩) n n]) := by
  subst hn
  unfold stillW
  rw [if_pos hV]
  have e : (List.replicate cs.length (some 0) : List (Option Nat)).length = cs.length := by simp
  refine ⟨some ⟨b1, 0, none⟩, cs.length, some ⟨b2, 0, none⟩, cs.length, List.replicate cs.length 0, List.replicate cs.length 0, by simp only [e], by simp only [e]; exact h1, by simp only [e]; exact h2, by simp; exact .inr rfl, by simp; exact .inr rfl, ?_⟩
  intro k hk hk2
  simp [Value.ownBlock] at hk hk2
  omega
set_option maxHeartbeats 1000000 in
theorem newWaves_any (n : Nat) (w : World) (hn : n ≤ 1048576) : Calls Try.prog 77 #[.int .i64 (n : Int)] w fun e w' => ∃ b1 b2, e = .returned (.agg #[.slice (some ⟨b1, 0, none⟩) n n, .slice (some ⟨b2, 0, none⟩) n n]) ∧ Own w' (w.heap.size + 1) n (.slice (some ⟨b1, 0, none⟩) n n) (List.replicate n 0) ∧ Own w' (w.heap.size + 1) n (.slice (some ⟨b2, 0, none⟩) n n) (List.replicate n 0) ∧ b1 ≠ b2 ∧ Ext w w' := by
  obtain ⟨i0, hi, hz0, hz1, hz2⟩ := info_parts infoF
  have hmk : ∀ w : World, (Instr.makeSlice 22 (.int .i64 (n : Int)) (.int .i64 (n : Int))).run Try.prog w = .ok (.slice (some ⟨w.heap.size, 0, none⟩) n n) (w.alloc (.cells (madeCells #[.float .f32 0] n) 23)) := by
    intro w
    have := run_make (P := Try.prog) w 22 23 i0 (.float .f32 0) Try.underlying22 hi hz0 .i64 .i64 (n : Int) (n : Int) (by omega) (by omega) (by rw [hz2]; omega) (by omega)
    rw [hz1] at this
    simpa [Value.cells] using this
  clear hi hz0 hz1 hz2
  have HC := hid (show (madeCells #[.float .f32 0] n).toList = (List.replicate n 0).map (Value.float .f32) from by rw [toList_madeCells_one]; simp)
  have HN := hid (show n ≤ maxLen from by unfold maxLen; omega)
  go_enter Try.func77, Try.ntmps77
  go_wp2_with fail
  go_region_held3 (fun w' => True) (trivial) (fail)
  · clear hmk
    go_wp2_with fail
    go_returns
    refine ⟨_, _, rfl, ?_, ?_, ?_, ?_⟩
    · exact Own.alloc (own_fresh HC.out (by simp) (by simp) (by simp <;> omega) HN.out) _
    · exact own_fresh HC.out (by simp) (by simp) (by simp <;> omega) HN.out
    · omega
    · (repeat with_reducible (first | exact Ext.refl _ | exact ext_alloc _ _ | refine Ext.drewN ?_ _ | refine Ext.drew1 ?_ | refine Ext.set ?_ (by dsimp only; omega) _ | refine Ext.alloc ?_ _))
  · clear hmk
    go_wp2_with fail
    go_returns
    refine ⟨_, _, rfl, ?_, ?_, ?_, ?_⟩
    · exact own_fresh HC.out (by simp) (by simp) (by simp <;> omega) HN.out
    · exact Own.alloc (own_fresh HC.out (by simp) (by simp) (by simp <;> omega) HN.out) _
    · omega
    · (repeat with_reducible (first | exact Ext.refl _ | exact ext_alloc _ _ | refine Ext.drewN ?_ _ | refine Ext.drew1 ?_ | refine Ext.set ?_ (by dsimp only; omega) _ | refine Ext.alloc ?_ _))
end Go.Proofs.Ytnmigjiaeahekaa

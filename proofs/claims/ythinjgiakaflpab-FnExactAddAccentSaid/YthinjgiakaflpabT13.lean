/- Waves: what is the same, marks, and waves that are nothing. -/
import Derived.Test.YthinjgiakaflpabT8
import Derived.Deep.RegionHeld3
namespace Go.Proofs.Ythinjgiakaflpab
open Go.RowKit Flt
set_option linter.unusedVariables false

/-- of all that was there, two blocks alone may have turned -/
structure But2 (o p : Option Nat) (w w' : World) : Prop where
  os : w'.os = w.os
  tape : w'.tape = w.tape
  output : w'.output = w.output
  size : w.heap.size ≤ w'.heap.size
  block : ∀ k, k < w.heap.size → some k ≠ o → some k ≠ p → w'.heap[k]? = w.heap[k]?
theorem But.two {o p : Option Nat} {a b c : World} (h : But o a b) (k : But p b c) : But2 o p a c :=
  ⟨k.os.trans h.os, k.tape.trans h.tape, k.output.trans h.output, Nat.le_trans h.size k.size, fun i hi h1 h2 => (k.block i (Nat.lt_of_lt_of_le hi h.size) h2).trans (h.block i hi h1)⟩
theorem But2.box {o p : Option Nat} {w w' : World} (h : But2 o p w w') {b : Nat} {vs : Array Value} (hb : Box w b vs) (h1 : o ≠ some b) (h2 : p ≠ some b) : Box w' b vs := by
  have hl := hb.lt
  obtain ⟨t, hb⟩ := hb
  exact ⟨t, by rw [h.block b hl (Ne.symm h1) (Ne.symm h2)]; exact hb⟩
theorem But2.own {o p : Option Nat} {w w' : World} (h : But2 o p w w') {B n : Nat} {v : Value} {zs : List Nat} (hv : Own w B n v zs) (h1 : ∀ k, v.ownBlock = some k → o ≠ some k) (h2 : ∀ k, v.ownBlock = some k → p ≠ some k) : Own w' B n v zs :=
  hv.heap fun k hk => h.block k (hv.block k hk).2 (Ne.symm (h1 k hk)) (Ne.symm (h2 k hk))
theorem But2.below {o p : Option Nat} {a w w' : World} (h : But2 o p w w') (e : Ext a w) (ho : ∀ k, o = some k → a.heap.size ≤ k) (hp : ∀ k, p = some k → a.heap.size ≤ k) : Ext a w' := by
  refine Below.trans e ⟨h.os, h.tape, h.output, h.size, fun k hk => h.block k (Nat.lt_of_lt_of_le hk e.size) (fun hk2 => ?_) (fun hk2 => ?_)⟩
  · have := ho k hk2.symm; omega
  · have := hp k hk2.symm; omega
/-- waves that come back, told by classes -/
structure WR where
  ok : Bool
  r : List (Option Nat)
  l : List (Option Nat)
def zeroW : WR := ⟨false, [], []⟩
def WavesIs (w : World) (B : Nat) (R : WR) (v : Value) : Prop :=
  ∃ a1 c1 a2 c2 z1 z2, v = .agg #[.slice a1 R.r.length c1, .slice a2 R.l.length c2] ∧ Own w B R.r.length (.slice a1 R.r.length c1) z1 ∧ Own w B R.l.length (.slice a2 R.l.length c2) z2 ∧ z1.map (cls .f32) = R.r ∧ z2.map (cls .f32) = R.l ∧
    ∀ k, (Value.slice a1 R.r.length c1).ownBlock = some k → (Value.slice a2 R.l.length c2).ownBlock ≠ some k
theorem zeroW_is (w : World) (B : Nat) : WavesIs w B zeroW (.agg #[.slice none 0 0, .slice none 0 0]) := ⟨none, 0, none, 0, [], [], rfl, own_nil _ _, own_nil _ _, rfl, rfl, fun k hk => by cases hk⟩
theorem WavesIs.base {w : World} {B B' : Nat} {R : WR} {v : Value} (h : WavesIs w B R v) (e : B' ≤ B) : WavesIs w B' R v := by
  obtain ⟨a1, c1, a2, c2, z1, z2, h1, h2, h3, h4⟩ := h
  exact ⟨a1, c1, a2, c2, z1, z2, h1, Own.base h2 e, Own.base h3 e, h4⟩
theorem WavesIs.far2 {w : World} {B b : Nat} {R : WR} {v : Value} (h : WavesIs w B R v) (hb : b < B) (u0 u1 : Value) : WavesIs ((w.setCell ⟨b, 0, none⟩ u0).setCell ⟨b, 1, none⟩ u1) B R v := by
  obtain ⟨a1, c1, a2, c2, z1, z2, h1, h2, h3, h4⟩ := h
  have n1 : (Value.slice a1 R.r.length c1).ownBlock ≠ some b := fun hk => by have := (Own.block h2 _ hk).1; omega
  have n2 : (Value.slice a2 R.l.length c2).ownBlock ≠ some b := fun hk => by have := (Own.block h3 _ hk).1; omega
  exact ⟨a1, c1, a2, c2, z1, z2, h1, Own.far (Own.far h2 n1 _) n1 _, Own.far (Own.far h3 n2 _) n2 _, h4⟩
theorem box_set2 {w : World} {b : Nat} {v0 v1 : Value} (h : Box w b #[v0, v1]) (u0 u1 : Value) : Box ((w.setCell ⟨b, 0, none⟩ u0).setCell ⟨b, 1, none⟩ u1) b #[u0, u1] := Box.eqv (box_set (j := 1) (box_set (j := 0) h u0) u1) (by rfl)
theorem ext_set2 {a w : World} {b : Nat} (h : Ext a w) (hb : a.heap.size ≤ b) (u0 u1 : Value) : Ext a ((w.setCell ⟨b, 0, none⟩ u0).setCell ⟨b, 1, none⟩ u1) := Ext.set (Ext.set h hb _) hb _
def stillW (cs : List (Option Nat)) (l t p : Option Nat) : WR := if tubeC cs l t p then ⟨true, List.replicate cs.length (some 0), List.replicate cs.length (some 0)⟩ else zeroW
theorem still_len (cs : List (Option Nat)) (l t p : Option Nat) : (stillW cs l t p).r.length ≤ 16 ∧ (stillW cs l t p).l.length ≤ 16 := by
  unfold stillW
  split
  · rename_i h; have := tube_len h; simp; omega
  · exact ⟨Nat.zero_le _, Nat.zero_le _⟩
theorem still_is {w : World} {B n b1 b2 : Nat} {cs : List (Option Nat)} {l t p : Option Nat} (hV : tubeC cs l t p = true) (hn : cs.length = n) (h1 : Own w B n (.slice (some ⟨b1, 0, none⟩) n n) (List.replicate n 0)) (h2 : Own w B n (.slice (some ⟨b2, 0, none⟩) n n) (List.replicate n 0)) (hb : b1 ≠ b2) :
    WavesIs w B (stillW cs l t p) (.agg #[.slice (some ⟨b1, 0, none⟩) n n, .slice (some ⟨b2, 0, none⟩) n n]) := by
  subst hn
  unfold stillW
  rw [if_pos hV]
  have e : (List.replicate cs.length (some 0) : List (Option Nat)).length = cs.length := by simp
  refine ⟨some ⟨b1, 0, none⟩, cs.length, some ⟨b2, 0, none⟩, cs.length, List.replicate cs.length 0, List.replicate cs.length 0, by simp only [e], by simp only [e]; exact h1, by simp only [e]; exact h2, by simp; exact .inr rfl, by simp; exact .inr rfl, ?_⟩
  intro k hk hk2
  simp [Value.ownBlock] at hk hk2
  omega
end Go.Proofs.Ythinjgiakaflpab

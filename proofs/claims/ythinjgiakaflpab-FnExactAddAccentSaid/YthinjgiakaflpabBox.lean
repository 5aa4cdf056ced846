/- Boxes: blocks of a call's own that hold a struct; what is owned; worlds that have grown. -/
import Derived.Test.YthinjgiakaflpabList
import Derived.Test.YthinjgiakaflpabNum2
import Derived.Test.YthinjgiakaflpabIs
import Derived.Deep.AppendLies
import Derived.WalkKit
namespace Go.Proofs.Ythinjgiakaflpab.Flt
open Ieee Go.RowKit

theorem hid {p : Prop} (h : p) : Hid p := h
/-- all that was there is as it was -/
def Ext (w w' : World) : Prop := Below w.heap.size w w'
theorem Ext.refl (w : World) : Ext w w := Below.refl _ _
theorem Ext.trans {a b c : World} (h : Ext a b) (k : Ext b c) : Ext a c := Below.trans h (Below.mono k h.size)
theorem Ext.drewN {a w : World} (h : Ext a w) (m : Nat) : Ext a (w.drewN m) := below_drewN h m
theorem Ext.alloc {a w : World} (h : Ext a w) (o : Obj) : Ext a (w.alloc o) := Below.alloc h h.size o
theorem Ext.set {a w : World} (h : Ext a w) {p : Addr} (hp : a.heap.size ≤ p.block) (u : Value) : Ext a (w.setCell p u) := Below.setCell h hp u
theorem ext_alloc (w : World) (o : Obj) : Ext w (w.alloc o) := (Ext.refl w).alloc o
theorem ext_drew (w : World) : Ext w w.drew := ⟨rfl, rfl, rfl, Nat.le_refl _, fun _ _ => rfl⟩
theorem Ext.drew1 {a w : World} (h : Ext a w) : Ext a w.drew := Ext.trans h (ext_drew w)
theorem Ext.size {a w : World} (h : Ext a w) : a.heap.size ≤ w.heap.size := Below.size h

/-- a block that holds these values -/
def Box (w : World) (b : Nat) (vs : Array Value) : Prop := ∃ t, w.heap[b]? = some (.cells vs t (0, 0))
theorem Box.lt {w : World} {b : Nat} {vs : Array Value} (h : Box w b vs) : b < w.heap.size := by
  obtain ⟨t, h⟩ := h
  exact (Array.getElem?_eq_some_iff.1 h).1
theorem Box.ext {w w' : World} {b : Nat} {vs : Array Value} (h : Box w b vs) (e : Ext w w') : Box w' b vs := by
  have hl := h.lt
  obtain ⟨t, h⟩ := h
  exact ⟨t, by rw [Below.block e b hl]; exact h⟩
theorem Box.drewN {w : World} {b : Nat} {vs : Array Value} (h : Box w b vs) (m : Nat) : Box (w.drewN m) b vs := h
theorem Box.cell {w : World} {b : Nat} {vs : Array Value} (h : Box w b vs) (j : Nat) : w.cell? ⟨b, j, none⟩ = vs[j]? := by
  obtain ⟨t, h⟩ := h
  exact cell_of_row w b j vs t (0, 0) h
theorem Box.frozen {w : World} {b : Nat} {vs : Array Value} (h : Box w b vs) (j : Nat) : w.frozen? ⟨b, j, none⟩ = false := by
  obtain ⟨t, h⟩ := h
  exact frozen_of_row w b j vs t h
theorem Box.cells4 {w : World} {b : Nat} {v0 v1 v2 v3 : Value} (h : Box w b #[v0, v1, v2, v3]) :
    w.cell? ⟨b, 0, none⟩ = some v0 ∧ w.cell? ⟨b, 1, none⟩ = some v1 ∧ w.cell? ⟨b, 2, none⟩ = some v2 ∧ w.cell? ⟨b, 3, none⟩ = some v3 ∧ b < w.heap.size := ⟨h.cell 0, h.cell 1, h.cell 2, h.cell 3, h.lt⟩
theorem Box.cells2 {w : World} {b : Nat} {v0 v1 : Value} (h : Box w b #[v0, v1]) :
    w.cell? ⟨b, 0, none⟩ = some v0 ∧ w.cell? ⟨b, 1, none⟩ = some v1 ∧ b < w.heap.size := ⟨h.cell 0, h.cell 1, h.lt⟩
theorem Box.all4 {w : World} {b : Nat} {v0 v1 v2 v3 : Value} (h : Box w b #[v0, v1, v2, v3]) :
    w.cell? ⟨b, 0, none⟩ = some v0 ∧ w.cell? ⟨b, 1, none⟩ = some v1 ∧ w.cell? ⟨b, 2, none⟩ = some v2 ∧ w.cell? ⟨b, 3, none⟩ = some v3 ∧ w.frozen? ⟨b, 0, none⟩ = false ∧ w.frozen? ⟨b, 1, none⟩ = false ∧ w.frozen? ⟨b, 2, none⟩ = false ∧ w.frozen? ⟨b, 3, none⟩ = false ∧ b < w.heap.size := ⟨h.cell 0, h.cell 1, h.cell 2, h.cell 3, h.frozen 0, h.frozen 1, h.frozen 2, h.frozen 3, h.lt⟩
theorem Box.all2 {w : World} {b : Nat} {v0 v1 : Value} (h : Box w b #[v0, v1]) :
    w.cell? ⟨b, 0, none⟩ = some v0 ∧ w.cell? ⟨b, 1, none⟩ = some v1 ∧ w.frozen? ⟨b, 0, none⟩ = false ∧ w.frozen? ⟨b, 1, none⟩ = false ∧ b < w.heap.size := ⟨h.cell 0, h.cell 1, h.frozen 0, h.frozen 1, h.lt⟩
theorem cellsQ4 {w : World} {b : Nat} {v0 v1 v2 v3 : Value} (h : Box w b #[v0, v1, v2, v3]) :
    w.cell? ⟨b, 0, none⟩ = some v0 ∧ w.cell? ⟨b, 1, none⟩ = some v1 ∧ w.cell? ⟨b, 2, none⟩ = some v2 ∧ w.cell? ⟨b, 3, none⟩ = some v3 := ⟨h.cell 0, h.cell 1, h.cell 2, h.cell 3⟩
theorem cellsQ2 {w : World} {b : Nat} {v0 v1 : Value} (h : Box w b #[v0, v1]) :
    w.cell? ⟨b, 0, none⟩ = some v0 ∧ w.cell? ⟨b, 1, none⟩ = some v1 := ⟨h.cell 0, h.cell 1⟩
theorem cells44 {w : World} {b c : Nat} {v0 v1 v2 v3 u0 u1 u2 u3 : Value} (h : Box w b #[v0, v1, v2, v3]) (k : Box w c #[u0, u1, u2, u3]) :
    (w.cell? ⟨b, 0, none⟩ = some v0 ∧ w.cell? ⟨b, 1, none⟩ = some v1 ∧ w.cell? ⟨b, 2, none⟩ = some v2 ∧ w.cell? ⟨b, 3, none⟩ = some v3) ∧ w.cell? ⟨c, 0, none⟩ = some u0 ∧ w.cell? ⟨c, 1, none⟩ = some u1 ∧ w.cell? ⟨c, 2, none⟩ = some u2 ∧ w.cell? ⟨c, 3, none⟩ = some u3 :=
  ⟨⟨h.cell 0, h.cell 1, h.cell 2, h.cell 3⟩, k.cell 0, k.cell 1, k.cell 2, k.cell 3⟩
theorem box_new {w : World} (vs : Array Value) (t : TypeId) : Box (w.alloc (.cells vs t)) w.heap.size vs := ⟨t, heap_alloc_new w _⟩
theorem box_set {w : World} {b j : Nat} {vs : Array Value} (h : Box w b vs) (u : Value) : Box (w.setCell ⟨b, j, none⟩ u) b (vs.setIfInBounds j u) := by
  obtain ⟨t, h⟩ := h
  exact ⟨t, heap_setCell_same w b j vs t u h⟩
theorem Box.far {w : World} {b b' j : Nat} {vs : Array Value} (h : Box w b vs) (hb : b ≠ b') (u : Value) : Box (w.setCell ⟨b', j, none⟩ u) b vs := by
  obtain ⟨t, h⟩ := h
  exact ⟨t, by rw [heap_setCell_other w ⟨b', j, none⟩ b u hb]; exact h⟩
theorem Box.alloc {w : World} {b : Nat} {vs : Array Value} (h : Box w b vs) (o : Obj) : Box (w.alloc o) b vs := h.ext (ext_alloc w o)

/-- a slice that a call has made itself, from block B on, with these words -/
def Own (w : World) (B n : Nat) (v : Value) (zs : List Nat) : Prop := w.ownsRow B 22 1 v n (zs.map (Value.float .f32))
theorem Own.len {w : World} {B n : Nat} {v : Value} {zs : List Nat} (h : Own w B n v zs) : zs.length = n := by
  have := h.1
  simpa using this
theorem Own.holds {w : World} {B n : Nat} {v : Value} {zs : List Nat} (h : Own w B n v zs) : ∃ a c, v = .slice a n c ∧ Holds .f32 w a n zs ∧ n ≤ c ∧ c ≤ maxLen := by
  have hl := h.len
  rcases h.2 with ⟨rfl, h0⟩ | ⟨g, cap, cur, rfl, hb, hg, hn, hm, hs, ht⟩
  · exact ⟨none, 0, by rw [h0], ⟨hl, .inl h0⟩, by omega, Nat.zero_le _⟩
  · refine ⟨_, _, rfl, ⟨hl, .inr ⟨g, 0, rfl, (Array.getElem?_eq_some_iff.1 hg).1, fun i hi => ?_⟩⟩, hn, hm⟩
    rw [cell_of_row w g (0 + i) cur _ (0, 0) hg, Nat.zero_add]
    have h1 : (cur.toList.take (n * 1))[i]? = some (.float .f32 (zs.getD i 0)) := by
      rw [ht]; simp [List.getD, hl, hi]
    rw [List.getElem?_take, if_pos (by omega)] at h1
    simpa using h1
theorem own_nil (w : World) (B : Nat) : Own w B 0 (.slice none 0 0) [] := World.ownsRow_nil w B _ _
theorem own_new {w : World} {B : Nat} {cs : Array Value} {zs : List Nat} (hc : cs.toList = zs.map (Value.float .f32)) (hB : B ≤ w.heap.size) (hm : zs.length ≤ maxLen) :
    Own (w.alloc (.cells cs 22)) B zs.length (.slice (some ⟨w.heap.size, 0, none⟩) zs.length zs.length) zs := by
  have hs : cs.size = zs.length := by rw [← Array.length_toList, hc]; simp
  have := World.ownsRow_lit (e := 22) (size := 1) w cs zs.length hB hm (by omega)
  unfold Own
  rw [← hc]; exact this
theorem own_fresh {w : World} {B a n : Nat} {cs : Array Value} {zs : List Nat} (hc : Hid (cs.toList = zs.map (Value.float .f32))) (hn : zs.length = n) (ha : a = w.heap.size) (hB : B ≤ w.heap.size) (hm : n ≤ maxLen) :
    Own (w.alloc (.cells cs 22)) B n (.slice (some ⟨a, 0, none⟩) n n) zs := by
  subst ha hn
  exact own_new hc.out hB hm
theorem map_cls_get {k : FloatKind} {xs ys : List Nat} (h : xs.map (cls k) = ys.map (cls k)) (i : Nat) : cls k (xs.getD i 0) = cls k (ys.getD i 0) := by
  have hl : xs.length = ys.length := by simpa using congrArg List.length h
  have h1 := congrArg (fun l : List (Option Nat) => l[i]?) h
  simp only [List.getElem?_map] at h1
  by_cases hi : i < xs.length
  · rw [List.getElem?_eq_getElem hi, List.getElem?_eq_getElem (by omega)] at h1
    simpa [List.getD, hi, show i < ys.length by omega] using h1
  · simp [List.getD, List.getElem?_eq_none (show xs.length ≤ i by omega), List.getElem?_eq_none (show ys.length ≤ i by omega)]
theorem Own.block {w : World} {B n : Nat} {v : Value} {zs : List Nat} (h : Own w B n v zs) : ∀ k, v.ownBlock = some k → B ≤ k ∧ k < w.heap.size := World.ownsRow.lt h
theorem Own.heap {w w' : World} {B n : Nat} {v : Value} {zs : List Nat} (h : Own w B n v zs) (e : ∀ k, v.ownBlock = some k → w'.heap[k]? = w.heap[k]?) : Own w' B n v zs := by
  refine ⟨h.1, ?_⟩
  rcases h.2 with hn | ⟨g, cap, cur, rfl, hb, hg, rest⟩
  · exact .inl hn
  · exact .inr ⟨g, cap, cur, rfl, hb, by rw [e g rfl]; exact hg, rest⟩
theorem Own.ext {w w' : World} {B n : Nat} {v : Value} {zs : List Nat} (h : Own w B n v zs) (e : Ext w w') : Own w' B n v zs := h.heap fun k hk => Below.block e k (h.block k hk).2
theorem Own.drewN {w : World} {B n : Nat} {v : Value} {zs : List Nat} (h : Own w B n v zs) (m : Nat) : Own (w.drewN m) B n v zs := h
theorem Own.alloc {w : World} {B n : Nat} {v : Value} {zs : List Nat} (h : Own w B n v zs) (o : Obj) : Own (w.alloc o) B n v zs := h.ext (ext_alloc w o)
theorem Own.base {w : World} {B B' n : Nat} {v : Value} {zs : List Nat} (h : Own w B n v zs) (hB : B' ≤ B) : Own w B' n v zs := by
  refine ⟨h.1, ?_⟩
  rcases h.2 with hn | ⟨g, cap, cur, rfl, hb, rest⟩
  · exact .inl hn
  · exact .inr ⟨g, cap, cur, rfl, by omega, rest⟩
theorem Own.far {w : World} {B n b j : Nat} {v : Value} {zs : List Nat} (h : Own w B n v zs) (hb : v.ownBlock ≠ some b) (u : Value) : Own (w.setCell ⟨b, j, none⟩ u) B n v zs :=
  h.heap fun k hk => heap_setCell_other w ⟨b, j, none⟩ k u (fun e => hb (by rw [hk]; simp at e; rw [e]))
theorem Holds.ext {w w' : World} {k : FloatKind} {a : Option Addr} {n : Nat} {zs : List Nat} (h : Holds k w a n zs) (e : Ext w w') : Holds k w' a n zs := Holds.below h e
theorem IsRowF.ext {w w' : World} {k : FloatKind} {a : Option Addr} {l c : Nat} {zs : List Nat} (h : IsRowF k w a l c zs) (e : Ext w w') : IsRowF k w' a l c zs := IsRowF.below h e

theorem own_hold {w : World} {B n c : Nat} {a : Option Addr} {zs : List Nat} (h : Own w B n (.slice a n c) zs) : Holds .f32 w a n zs := by
  obtain ⟨a', c', h1, h2, _⟩ := Own.holds h
  simp only [Value.slice.injEq] at h1
  obtain ⟨rfl, _, rfl⟩ := h1
  exact h2
theorem row_max {k : FloatKind} {w : World} {a : Option Addr} {l c : Nat} {zs : List Nat} (h : IsRowF k w a l c zs) : l ≤ maxLen := by
  rcases h with ⟨_, rfl, _⟩ | ⟨x, _, h1, h2, _⟩
  · exact Nat.zero_le _
  · omega
/-- of all that was there, one block alone may have turned (none: none has) -/
def But (o : Option Nat) (w w' : World) : Prop := w.grownBy w' o
theorem But.box {o : Option Nat} {w w' : World} (h : But o w w') {b : Nat} {vs : Array Value} (hb : Box w b vs) (hn : o ≠ some b) : Box w' b vs := by
  have hl := hb.lt
  obtain ⟨t, hb⟩ := hb
  exact ⟨t, by rw [h.block b hl (Ne.symm hn)]; exact hb⟩
theorem But.own {o : Option Nat} {w w' : World} (h : But o w w') {B n : Nat} {v : Value} {zs : List Nat} (hv : Own w B n v zs) (hn : ∀ k, v.ownBlock = some k → o ≠ some k) : Own w' B n v zs :=
  hv.heap fun k hk => h.block k (hv.block k hk).2 (Ne.symm (hn k hk))
theorem But.below {o : Option Nat} {a w w' : World} (h : But o w w') (e : Ext a w) (ho : ∀ k, o = some k → a.heap.size ≤ k) : Ext a w' := by
  refine Below.trans e ⟨h.os, h.tape, h.output, h.size, fun k hk => h.block k (Nat.lt_of_lt_of_le hk e.size) fun hk2 => ?_⟩
  have := ho k hk2.symm
  omega
/-- the numbers that mark what is owned -/
def marks (k n : Nat) : List Nat := (List.range n).map fun i => floatOfInt .f32 ((k + i : Nat) : Int)
theorem marks_len (k n : Nat) : (marks k n).length = n := by simp [marks]
theorem marks_get (k n i : Nat) (h : i < n) : (marks k n).getD i 0 = floatOfInt .f32 ((k + i : Nat) : Int) := by simp [marks, List.getD, h]
theorem marks_succ (k n : Nat) : marks k (n + 1) = marks k n ++ [floatOfInt .f32 ((k + n : Nat) : Int)] := by simp [marks, List.range_succ]
theorem take_set_snoc (ys : List Nat) (j u : Nat) (h : j < ys.length) : (ys.set j u).take (j + 1) = ys.take j ++ [u] := by
  have h1 : (ys.set j u).take j = ys.take j := by
    apply List.ext_getElem?
    intro i
    rw [List.getElem?_take, List.getElem?_take]
    by_cases hi : i < j
    · rw [if_pos hi, if_pos hi, List.getElem?_set_ne (by omega)]
    · rw [if_neg hi, if_neg hi]
  rw [take_snoc_getD _ _ (by simpa using h), h1]
  simp [List.getD, h]
theorem Own.stored {w : World} {B n g c : Nat} {zs : List Nat} (h : Own w B n (.slice (some ⟨g, 0, none⟩) n c) zs) (j u : Nat) :
    Own (w.setCell ⟨g, j, none⟩ (.float .f32 u)) B n (.slice (some ⟨g, 0, none⟩) n c) (zs.set j u) ∧ But (some g) w (w.setCell ⟨g, j, none⟩ (.float .f32 u)) := by
  obtain ⟨h1, h2⟩ := World.ownsRow.stored h j (.float .f32 u)
  refine ⟨?_, h2⟩
  unfold Own
  rw [List.map_set]
  exact h1
theorem But.trans {o : Option Nat} {a b c : World} (h : But o a b) (k : But o b c) : But o a c :=
  ⟨k.os.trans h.os, k.tape.trans h.tape, k.output.trans h.output, Nat.le_trans h.size k.size, fun i hi hn => (k.block i (Nat.lt_of_lt_of_le hi h.size) hn).trans (h.block i hi hn)⟩
theorem But.refl (o : Option Nat) (w : World) : But o w w := ⟨rfl, rfl, rfl, Nat.le_refl _, fun _ _ _ => rfl⟩
theorem Ext.but {w w' : World} (h : Ext w w') (o : Option Nat) : But o w w' := ⟨Below.os h, Below.tape h, Below.output h, h.size, fun k hk _ => Below.block h k hk⟩
theorem But.drewN {o : Option Nat} {a w : World} (h : But o a w) (m : Nat) : But o a (w.drewN m) := ⟨h.os, h.tape, h.output, h.size, h.block⟩
theorem Own.cellAt {w : World} {B n g c : Nat} {zs : List Nat} (h : Own w B n (.slice (some ⟨g, 0, none⟩) n c) zs) (j : Nat) (hj : j < n) : w.cell? ⟨g, j, none⟩ = some (.float .f32 (zs.getD j 0)) := by
  have hl := h.len
  rw [World.ownsRow.cellAt h j (by omega)]
  simp [List.getD, show j < zs.length by omega]
theorem Own.frozenAt {w : World} {B n g c : Nat} {zs : List Nat} (h : Own w B n (.slice (some ⟨g, 0, none⟩) n c) zs) (j : Nat) : w.frozen? ⟨g, j, none⟩ = false := World.ownsRow.frozenAt h j
end Go.Proofs.Ythinjgiakaflpab.Flt

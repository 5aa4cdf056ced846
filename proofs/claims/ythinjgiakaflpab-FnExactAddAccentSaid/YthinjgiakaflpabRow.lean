/- What a walk is told of slices that came in. -/
import Derived.Test.YthinjgiakaflpabFlt
import Derived.ProofKit
import Derived.Deep.Slices
import Derived.ChangeOld
namespace Go.Proofs.Ythinjgiakaflpab.Flt
open Go.ChangeShapes Go.WideShapes Go.ChangeAt Go.RowKit

@[go_sem] theorem run_store_float (P : Program) (w : World) (a : Addr) (m : Mode) (k : FloatKind) (b : Nat) : (store a (.float k b) m).run P w = stored P w a (.float k b) m := run_store P w a _ m rfl
@[go_sem] theorem run_store_complex (P : Program) (w : World) (a : Addr) (m : Mode) (k : FloatKind) (b c : Nat) : (store a (.complex k b c) m).run P w = stored P w a (.complex k b c) m := run_store P w a _ m rfl

theorem ret_bool {a b : Bool} (h : a = b) : Ending.returned (.bool a) = .returned (.bool b) := by rw [h]
theorem ret_int {k : IntKind} {a b : Int} (h : a = b) : Ending.returned (.int k a) = .returned (.int k b) := by rw [h]

/-- a slice of integers: nil, or a row of 'cap' cells with the numbers 'zs' -/
def IsRow (k : IntKind) (w : World) (a : Option Addr) (len cap : Nat) (zs : List Int) : Prop :=
  (a = none ∧ len = 0 ∧ cap = 0 ∧ zs = []) ∨
  ∃ x, a = some x ∧ len ≤ cap ∧ cap ≤ maxLen ∧ zs.length = cap ∧ (∀ i, i < zs.length → w.cell? (x.add i) = some (.int k (zs.getD i 0))) ∧ ∀ n ∈ zs, (Lit.int k n).wf = true

/-- a slice of floats: nil, or a row of 'cap' cells with the words 'zs' -/
def IsRowF (k : FloatKind) (w : World) (a : Option Addr) (len cap : Nat) (zs : List Nat) : Prop :=
  (a = none ∧ len = 0 ∧ cap = 0 ∧ zs = []) ∨
  ∃ x, a = some x ∧ len ≤ cap ∧ cap ≤ maxLen ∧ zs.length = cap ∧ (∀ i, i < zs.length → w.cell? (x.add i) = some (.float k (zs.getD i 0))) ∧ ∀ n ∈ zs, (Lit.float k n).wf = true

section
variable {H : Type} {enc : TypeId × Value → H} {P : Program} {w : World} {base : Nat} {spare : Nat → Bool} {held : Bool}

theorem trod_float_inv {t : TypeId} {k : FloatKind} {v : Value} {x : DataW H × List MemPlace} {fuel : Nat} (ht : P.underlying t = some (.float k)) (h : DataW.trod enc P w base spare held fuel t [v] = some x) :
    ∃ b, v = .float k b ∧ (Lit.float k b).wf = true := by
  cases fuel with
  | zero => simp [DataW.trod] at h
  | succ n =>
    simp only [DataW.trod, ht] at h
    cases v with
    | float k' b =>
      by_cases hw : k' = k ∧ (Lit.float k' b).wf = true
      · obtain ⟨rfl, hw⟩ := hw
        exact ⟨b, rfl, hw⟩
      · exfalso
        simp at h
        obtain ⟨⟨h1, h2⟩, _⟩ := h
        subst h1
        exact hw ⟨rfl, h2⟩
    | _ => simp at h

theorem open_floats {t e : TypeId} {k : FloatKind} {fuel : Nat} {cs : List Value} {x : DataW H × List MemPlace} (ht : P.underlying t = some (.slice e)) (he : P.underlying e = some (.float k)) (hc : P.cellsOf e = 1)
    (h : DataW.trod enc P w 0 (fun _ => true) held fuel t cs = some x) :
    cs = [.slice none 0 0] ∨ ∃ (a : Addr) (len cap : Nat) (zs : List Nat), cs = [.slice (some a) len cap] ∧ len ≤ cap ∧ cap ≤ maxLen ∧ zs.length = cap ∧ (∀ i, i < zs.length → w.cell? (a.add i) = some (.float k (zs.getD i 0))) ∧ ∀ n ∈ zs, (Lit.float k n).wf = true := by
  rcases Deep.open_slice1 ht hc h with ⟨h0, _⟩ | ⟨a, len, cap, m, n, V, D, Pl, rfl, _, hl, hm, hmm, _, hx⟩
  · exact .inl h0
  · right
    simp only [if_true] at hmm
    subst hmm
    obtain ⟨f, hf⟩ := Deep.choose_lt (α := Nat) (n := m) (p := fun i b => V i = .float k b ∧ (Lit.float k b).wf = true) (fun i hi => trod_float_inv he (hx i hi).2)
    refine ⟨a, len, m, (List.range m).map f, rfl, hl, hm, by simp, ?_, ?_⟩
    · intro i hi
      have hi' : i < m := by simpa using hi
      rw [(hx i hi').1, (hf i hi').1]
      simp [List.getD, hi']
    · intro b hb
      simp only [List.mem_map, List.mem_range] at hb
      obtain ⟨i, hi, rfl⟩ := hb
      exact (hf i hi).2
end
/-- the slice value reads as the words zs -/
def Holds (k : FloatKind) (w : World) (a : Option Addr) (n : Nat) (zs : List Nat) : Prop :=
  zs.length = n ∧ (n = 0 ∨ ∃ b off, a = some ⟨b, off, none⟩ ∧ b < w.heap.size ∧ ∀ i, i < n → w.cell? ⟨b, off + i, none⟩ = some (.float k (zs.getD i 0)))

theorem addr_add (b off i : Nat) : (⟨b, off, none⟩ : Addr).add i = ⟨b, off + i, none⟩ := by
  unfold Addr.add
  split
  · rename_i h; simp_all
  · rfl

theorem row_open {k : FloatKind} {w : World} {a : Option Addr} {len cap : Nat} {zs : List Nat} (h : IsRowF k w a len cap zs) :
    len = 0 ∨ ∃ b off, a = some ⟨b, off, none⟩ ∧ b < w.heap.size ∧ len ≤ zs.length ∧ ∀ i, i < len → w.cell? ⟨b, off + i, none⟩ = some (.float k (zs.getD i 0)) := by
  rcases h with ⟨_, h, _⟩ | ⟨x, rfl, hl, hm, hz, hc, _⟩
  · exact .inl h
  · by_cases h0 : len = 0
    · exact .inl h0
    · right
      obtain ⟨b, off, sp⟩ := x
      have h1 := hc 0 (by omega)
      have hsp : sp = none := by
        cases sp with
        | none => rfl
        | some s =>
          simp only [World.cell?, Addr.add] at h1
          split at h1 <;> simp at h1
      subst hsp
      refine ⟨b, off, rfl, ?_, by omega, fun i hi => by have := hc i (by omega); rwa [addr_add] at this⟩
      rw [addr_add] at h1
      simp only [World.cell?] at h1
      rcases Nat.lt_or_ge b w.heap.size with h2 | h2
      · exact h2
      · rw [Array.getElem?_eq_none h2] at h1; cases h1

theorem getD_take (zs : List Nat) (n i : Nat) (h : i < n) : (zs.take n).getD i 0 = zs.getD i 0 := by
  simp [List.getD, h]

theorem holds_row {k : FloatKind} {w : World} {a : Option Addr} {len cap : Nat} {zs : List Nat} (h : IsRowF k w a len cap zs) : Holds k w a len (zs.take len) := by
  have hl : (zs.take len).length = len := by
    rcases h with ⟨_, rfl, _, rfl⟩ | ⟨x, _, hl, _, hz, _, _⟩
    · rfl
    · simp; omega
  refine ⟨hl, ?_⟩
  rcases row_open h with h0 | ⟨b, off, ha, hb, hz, hc⟩
  · exact .inl h0
  · exact .inr ⟨b, off, ha, hb, fun i hi => by rw [hc i hi, getD_take _ _ _ hi]⟩

theorem Holds.alloc {k : FloatKind} {w : World} {a : Option Addr} {n : Nat} {zs : List Nat} (h : Holds k w a n zs) (o : Obj) : Holds k (w.alloc o) a n zs := by
  obtain ⟨h1, h2⟩ := h
  refine ⟨h1, ?_⟩
  rcases h2 with h2 | ⟨b, off, ha, hb, hc⟩
  · exact .inl h2
  · refine .inr ⟨b, off, ha, ?_, fun i hi => by rw [World.cell?_alloc_past _ _ _ hb]; exact hc i hi⟩
    show b < (w.heap.push o).size
    simp; omega
theorem Holds.drew {k : FloatKind} {w : World} {a : Option Addr} {n : Nat} {zs : List Nat} (h : Holds k w a n zs) (m : Nat) : Holds k (w.drewN m) a n zs := h
theorem Holds.below {k : FloatKind} {w w' : World} {a : Option Addr} {n : Nat} {zs : List Nat} (h : Holds k w a n zs) (hb : Below w.heap.size w w') : Holds k w' a n zs := by
  obtain ⟨h1, h2⟩ := h
  refine ⟨h1, ?_⟩
  rcases h2 with h2 | ⟨b, off, ha, hlt, hc⟩
  · exact .inl h2
  · exact .inr ⟨b, off, ha, Nat.lt_of_lt_of_le hlt hb.size, fun i hi => by rw [hb.cell (p := ⟨b, off + i, none⟩) hlt]; exact hc i hi⟩
theorem holds_new {k : FloatKind} {w : World} {zs : List Nat} {cs : Array Value} {e : TypeId} (h : cs.toList = zs.map (Value.float k)) : Holds k (w.alloc (.cells cs e)) (some ⟨w.heap.size, 0, none⟩) zs.length zs := by
  refine ⟨rfl, .inr ⟨_, _, rfl, ?_, fun i hi => ?_⟩⟩
  · show w.heap.size < (w.heap.push _).size; simp
  · rw [Nat.zero_add, World.cell?_alloc_at _ _ _ _ rfl, ← Array.getElem?_toList, h]
    simp [List.getD, hi]

theorem holds_fresh {k : FloatKind} {w : World} {zs : List Nat} {cs : Array Value} {e : TypeId} (h : Hid (cs.toList = zs.map (Value.float k))) {n : Nat} (hn : Hid (zs.length = n)) {a : Nat} (ha : a = w.heap.size) : Holds k (w.alloc (.cells cs e)) (some ⟨a, 0, none⟩) n zs := by
  subst ha
  rw [← hn.out]
  exact holds_new h.out

theorem below_drewN {B : Nat} {w w' : World} (h : Below B w w') (n : Nat) : Below B w (w'.drewN n) := ⟨h.os, h.tape, h.output, h.size, h.block⟩

theorem take_snoc_getD (zs : List Nat) (k : Nat) (h : k < zs.length) : zs.take (k + 1) = zs.take k ++ [zs.getD k 0] := by
  rw [List.take_succ_eq_append_getElem h]
  simp [List.getD, h]

/-- the sum from left to right, by classes -/
def sumF (zs : List Nat) : Option Nat := zs.foldl (fun acc z => fop .add .f32 acc (cls .f32 z)) (cls .f32 0)
theorem sumF_snoc (zs : List Nat) (z : Nat) : sumF (zs ++ [z]) = fop .add .f32 (sumF zs) (cls .f32 z) := by simp [sumF]

/-- the sum of products from left to right, by classes -/
def dotF : List Nat → List Nat → Nat → Option Nat
  | _, _, 0 => cls .f32 0
  | xs, ys, k + 1 => fop .add .f32 (dotF xs ys k) (fop .mul .f32 (cls .f32 (xs.getD k 0)) (cls .f32 (ys.getD k 0)))

theorem Holds.cls_len {k : FloatKind} {w : World} {a : Option Addr} {n : Nat} {zs : List Nat} (h : Holds k w a n zs) : zs.length = n := h.1

theorem cell_lt {w : World} {a : Addr} {v : Value} (h : w.cell? a = some v) : a.block < w.heap.size := by
  unfold World.cell? at h
  rcases Nat.lt_or_ge a.block w.heap.size with h2 | h2
  · exact h2
  · rw [Array.getElem?_eq_none h2] at h; cases h
theorem IsRowF.below {k : FloatKind} {w w' : World} {a : Option Addr} {l c : Nat} {zs : List Nat} (h : IsRowF k w a l c zs) (hb : Below w.heap.size w w') : IsRowF k w' a l c zs := by
  rcases h with h | ⟨x, h1, h2, h3, h4, h5, h6⟩
  · exact .inl h
  · exact .inr ⟨x, h1, h2, h3, h4, fun i hi => by rw [hb.cell (cell_lt (h5 i hi))]; exact h5 i hi, h6⟩
theorem below_alloc (w : World) (o : Obj) : Below w.heap.size w (w.alloc o) := ⟨rfl, rfl, rfl, by show w.heap.size ≤ (w.heap.push _).size; simp, fun k hk => Below.heap_alloc w _ k hk⟩

end Go.Proofs.Ythinjgiakaflpab.Flt

/- Lists of integers: what holds them, what is the call's own, copies, and lists that are equal. -/
import Derived.Test.YtpmjiabllmomjabT18
import Derived.BigQuiet
namespace Go.Proofs.Ytpmjiabllmomjab.Flt
open Ieee Go.RowKit
set_option linter.unusedVariables false
/-- the slice value reads as the integers zs -/
def HoldsI (w : World) (a : Option Addr) (n : Nat) (zs : List Int) : Prop :=
  zs.length = n ∧ (n = 0 ∨ ∃ b off, a = some ⟨b, off, none⟩ ∧ b < w.heap.size ∧ ∀ i, i < n → w.cell? ⟨b, off + i, none⟩ = some (.int .i64 (zs.getD i 0)))
theorem HoldsI.below {w w' : World} {a : Option Addr} {n : Nat} {zs : List Int} (h : HoldsI w a n zs) (hb : Below w.heap.size w w') : HoldsI w' a n zs := by
  obtain ⟨h1, h2⟩ := h
  refine ⟨h1, ?_⟩
  rcases h2 with h2 | ⟨b, off, ha, hlt, hc⟩
  · exact .inl h2
  · exact .inr ⟨b, off, ha, Nat.lt_of_lt_of_le hlt hb.size, fun i hi => by rw [hb.cell (p := ⟨b, off + i, none⟩) hlt]; exact hc i hi⟩
theorem HoldsI.ext {w w' : World} {a : Option Addr} {n : Nat} {zs : List Int} (h : HoldsI w a n zs) (e : Ext w w') : HoldsI w' a n zs := HoldsI.below h e
theorem IsRow.below' {k : IntKind} {w w' : World} {a : Option Addr} {l c : Nat} {zs : List Int} (h : IsRow k w a l c zs) (hb : Below w.heap.size w w') : IsRow k w' a l c zs := by
  rcases h with h | ⟨x, h1, h2, h3, h4, h5, h6⟩
  · exact .inl h
  · exact .inr ⟨x, h1, h2, h3, h4, fun i hi => by rw [hb.cell (cell_lt (h5 i hi))]; exact h5 i hi, h6⟩
theorem IsRow.ext' {k : IntKind} {w w' : World} {a : Option Addr} {l c : Nat} {zs : List Int} (h : IsRow k w a l c zs) (e : Ext w w') : IsRow k w' a l c zs := IsRow.below' h e
theorem rowI_max {k : IntKind} {w : World} {a : Option Addr} {l c : Nat} {zs : List Int} (h : IsRow k w a l c zs) : l ≤ maxLen := by
  rcases h with ⟨_, rfl, _⟩ | ⟨x, _, h1, h2, _⟩
  · exact Nat.zero_le _
  · omega
theorem getDI_take (zs : List Int) (n i : Nat) (h : i < n) : (zs.take n).getD i 0 = zs.getD i 0 := by
  simp [List.getD, h]
theorem rowI_open {k : IntKind} {w : World} {a : Option Addr} {len cap : Nat} {zs : List Int} (h : IsRow k w a len cap zs) :
    len = 0 ∨ ∃ b off, a = some ⟨b, off, none⟩ ∧ b < w.heap.size ∧ len ≤ zs.length ∧ ∀ i, i < len → w.cell? ⟨b, off + i, none⟩ = some (.int k (zs.getD i 0)) := by
  rcases h with ⟨_, h, _⟩ | ⟨x, rfl, hl, hm, hz, hc, _⟩
  · exact .inl h
  · by_cases h0 : len = 0
    · exact .inl h0
    · right
      obtain ⟨b, off, sp⟩ := x
      have h1 := hc 0 (by omega)
      have hsp : sp = none := by
        cases sp with
        | none => rfl
        | some s =>
          simp only [World.cell?, Addr.add] at h1
          split at h1 <;> simp at h1
      subst hsp
      refine ⟨b, off, rfl, ?_, by omega, fun i hi => by have := hc i (by omega); rwa [addr_add] at this⟩
      rw [addr_add] at h1
      exact cell_lt h1
theorem takeI_snoc (zs : List Int) (k : Nat) (h : k < zs.length) : zs.take (k + 1) = zs.take k ++ [zs.getD k 0] := by
  rw [List.take_succ_eq_append_getElem h]
  simp [List.getD, h]
/-- a slice of integers that a call has made itself, from block B on -/
def OwnI (w : World) (B n : Nat) (v : Value) (zs : List Int) : Prop := w.ownsRow B 2 1 v n (zs.map (Value.int .i64))
theorem OwnI.len {w : World} {B n : Nat} {v : Value} {zs : List Int} (h : OwnI w B n v zs) : zs.length = n := by
  have := h.1
  simpa using this
theorem OwnI.holds {w : World} {B n : Nat} {v : Value} {zs : List Int} (h : OwnI w B n v zs) : ∃ a c, v = .slice a n c ∧ HoldsI w a n zs ∧ n ≤ c ∧ c ≤ maxLen := by
  have hl := h.len
  rcases h.2 with ⟨rfl, h0⟩ | ⟨g, cap, cur, rfl, hb, hg, hn, hm, hs, ht⟩
  · exact ⟨none, 0, by rw [h0], ⟨hl, .inl h0⟩, by omega, Nat.zero_le _⟩
  · refine ⟨_, _, rfl, ⟨hl, .inr ⟨g, 0, rfl, (Array.getElem?_eq_some_iff.1 hg).1, fun i hi => ?_⟩⟩, hn, hm⟩
    rw [cell_of_row w g (0 + i) cur _ (0, 0) hg, Nat.zero_add]
    have h1 : (cur.toList.take (n * 1))[i]? = some (.int .i64 (zs.getD i 0)) := by
      rw [ht]; simp [List.getD, hl, hi]
    rw [List.getElem?_take, if_pos (by omega)] at h1
    simpa using h1
theorem ownI_nil (w : World) (B : Nat) : OwnI w B 0 (.slice none 0 0) [] := World.ownsRow_nil w B _ _
theorem ownI_new {w : World} {B : Nat} {cs : Array Value} {zs : List Int} (hc : cs.toList = zs.map (Value.int .i64)) (hB : B ≤ w.heap.size) (hm : zs.length ≤ maxLen) :
    OwnI (w.alloc (.cells cs 2)) B zs.length (.slice (some ⟨w.heap.size, 0, none⟩) zs.length zs.length) zs := by
  have hs : cs.size = zs.length := by rw [← Array.length_toList, hc]; simp
  have := World.ownsRow_lit (e := 2) (size := 1) w cs zs.length hB hm (by omega)
  unfold OwnI
  rw [← hc]; exact this
theorem ownI_fresh {w : World} {B a n : Nat} {cs : Array Value} {zs : List Int} (hc : Hid (cs.toList = zs.map (Value.int .i64))) (hn : zs.length = n) (ha : a = w.heap.size) (hB : B ≤ w.heap.size) (hm : n ≤ maxLen) :
    OwnI (w.alloc (.cells cs 2)) B n (.slice (some ⟨a, 0, none⟩) n n) zs := by
  subst ha hn
  exact ownI_new hc.out hB hm
theorem OwnI.block {w : World} {B n : Nat} {v : Value} {zs : List Int} (h : OwnI w B n v zs) : ∀ k, v.ownBlock = some k → B ≤ k ∧ k < w.heap.size := World.ownsRow.lt h
theorem OwnI.heap {w w' : World} {B n : Nat} {v : Value} {zs : List Int} (h : OwnI w B n v zs) (e : ∀ k, v.ownBlock = some k → w'.heap[k]? = w.heap[k]?) : OwnI w' B n v zs := by
  refine ⟨h.1, ?_⟩
  rcases h.2 with hn | ⟨g, cap, cur, rfl, hb, hg, rest⟩
  · exact .inl hn
  · exact .inr ⟨g, cap, cur, rfl, hb, by rw [e g rfl]; exact hg, rest⟩
theorem OwnI.ext {w w' : World} {B n : Nat} {v : Value} {zs : List Int} (h : OwnI w B n v zs) (e : Ext w w') : OwnI w' B n v zs := h.heap fun k hk => Below.block e k (h.block k hk).2
theorem OwnI.base {w : World} {B B' n : Nat} {v : Value} {zs : List Int} (h : OwnI w B n v zs) (hB : B' ≤ B) : OwnI w B' n v zs := by
  refine ⟨h.1, ?_⟩
  rcases h.2 with hn | ⟨g, cap, cur, rfl, hb, rest⟩
  · exact .inl hn
  · exact .inr ⟨g, cap, cur, rfl, by omega, rest⟩
theorem But.ownI {o : Option Nat} {w w' : World} (h : But o w w') {B n : Nat} {v : Value} {zs : List Int} (hv : OwnI w B n v zs) (hn : ∀ k, v.ownBlock = some k → o ≠ some k) : OwnI w' B n v zs :=
  hv.heap fun k hk => h.block k (hv.block k hk).2 (Ne.symm (hn k hk))
theorem ownI_hold {w : World} {B n c : Nat} {a : Option Addr} {zs : List Int} (h : OwnI w B n (.slice a n c) zs) : HoldsI w a n zs := by
  obtain ⟨a', c', h1, h2, _⟩ := OwnI.holds h
  simp only [Value.slice.injEq] at h1
  obtain ⟨rfl, _, rfl⟩ := h1
  exact h2
theorem cellI_at {w wr : World} {a : Option Addr} {n : Nat} {zs : List Int} (h : HoldsI w a n zs) (e : Ext w wr) (k : Nat) (hk : k < n) : ∃ b off, a = some ⟨b, off, none⟩ ∧ wr.cell? ⟨b, off + k, none⟩ = some (.int .i64 (zs.getD k 0)) := by
  rcases h.2 with h0 | ⟨b, off, rfl, hb, hc⟩
  · omega
  · exact ⟨b, off, rfl, (Below.cell e (p := ⟨b, off + k, none⟩) hb).trans (hc k hk)⟩
end Go.Proofs.Ytpmjiabllmomjab.Flt
namespace Go.Proofs.Ytpmjiabllmomjab
open Go.RowKit Flt
end Go.Proofs.Ytpmjiabllmomjab

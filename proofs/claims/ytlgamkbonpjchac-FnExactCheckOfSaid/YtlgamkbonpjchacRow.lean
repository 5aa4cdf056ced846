/- What a walk is told of slices that came in. -/
import Derived.Test.YtlgamkbonpjchacFlt
import Derived.ProofKit
import Derived.Deep.Slices
import Derived.ChangeOld
namespace Go.Proofs.Ytlgamkbonpjchac.Flt
open Go.ChangeShapes Go.WideShapes Go.ChangeAt Go.RowKit

theorem ret_bool {a b : Bool} (h : a = b) : Ending.returned (.bool a) = .returned (.bool b) := by rw [h]
theorem ret_int {k : IntKind} {a b : Int} (h : a = b) : Ending.returned (.int k a) = .returned (.int k b) := by rw [h]

/-- a slice of integers: nil, or a row of 'cap' cells with the numbers 'zs' -/
def IsRow (k : IntKind) (w : World) (a : Option Addr) (len cap : Nat) (zs : List Int) : Prop :=
  (a = none ∧ len = 0 ∧ cap = 0 ∧ zs = []) ∨
  ∃ x, a = some x ∧ len ≤ cap ∧ cap ≤ maxLen ∧ zs.length = cap ∧ (∀ i, i < zs.length → w.cell? (x.add i) = some (.int k (zs.getD i 0))) ∧ ∀ n ∈ zs, (Lit.int k n).wf = true

/-- a slice of floats: nil, or a row of 'cap' cells with the words 'zs' -/
def IsRowF (k : FloatKind) (w : World) (a : Option Addr) (len cap : Nat) (zs : List Nat) : Prop :=
  (a = none ∧ len = 0 ∧ cap = 0 ∧ zs = []) ∨
  ∃ x, a = some x ∧ len ≤ cap ∧ cap ≤ maxLen ∧ zs.length = cap ∧ (∀ i, i < zs.length → w.cell? (x.add i) = some (.float k (zs.getD i 0))) ∧ ∀ n ∈ zs, (Lit.float k n).wf = true

section
variable {H : Type} {enc : TypeId × Value → H} {P : Program} {w : World} {base : Nat} {spare : Nat → Bool} {held : Bool}

theorem trod_float_inv {t : TypeId} {k : FloatKind} {v : Value} {x : DataW H × List MemPlace} {fuel : Nat} (ht : P.underlying t = some (.float k)) (h : DataW.trod enc P w base spare held fuel t [v] = some x) :
    ∃ b, v = .float k b ∧ (Lit.float k b).wf = true := by
  cases fuel with
  | zero => simp [DataW.trod] at h
  | succ n =>
    simp only [DataW.trod, ht] at h
    cases v with
    | float k' b =>
      by_cases hw : k' = k ∧ (Lit.float k' b).wf = true
      · obtain ⟨rfl, hw⟩ := hw
        exact ⟨b, rfl, hw⟩
      · exfalso
        simp at h
        obtain ⟨⟨h1, h2⟩, _⟩ := h
        subst h1
        exact hw ⟨rfl, h2⟩
    | _ => simp at h

theorem open_floats {t e : TypeId} {k : FloatKind} {fuel : Nat} {cs : List Value} {x : DataW H × List MemPlace} (ht : P.underlying t = some (.slice e)) (he : P.underlying e = some (.float k)) (hc : P.cellsOf e = 1)
    (h : DataW.trod enc P w 0 (fun _ => true) held fuel t cs = some x) :
    cs = [.slice none 0 0] ∨ ∃ (a : Addr) (len cap : Nat) (zs : List Nat), cs = [.slice (some a) len cap] ∧ len ≤ cap ∧ cap ≤ maxLen ∧ zs.length = cap ∧ (∀ i, i < zs.length → w.cell? (a.add i) = some (.float k (zs.getD i 0))) ∧ ∀ n ∈ zs, (Lit.float k n).wf = true := by
  rcases Deep.open_slice1 ht hc h with ⟨h0, _⟩ | ⟨a, len, cap, m, n, V, D, Pl, rfl, _, hl, hm, hmm, _, hx⟩
  · exact .inl h0
  · right
    simp only [if_true] at hmm
    subst hmm
    obtain ⟨f, hf⟩ := Deep.choose_lt (α := Nat) (n := m) (p := fun i b => V i = .float k b ∧ (Lit.float k b).wf = true) (fun i hi => trod_float_inv he (hx i hi).2)
    refine ⟨a, len, m, (List.range m).map f, rfl, hl, hm, by simp, ?_, ?_⟩
    · intro i hi
      have hi' : i < m := by simpa using hi
      rw [(hx i hi').1, (hf i hi').1]
      simp [List.getD, hi']
    · intro b hb
      simp only [List.mem_map, List.mem_range] at hb
      obtain ⟨i, hi, rfl⟩ := hb
      exact (hf i hi).2
end
end Go.Proofs.Ytlgamkbonpjchac.Flt

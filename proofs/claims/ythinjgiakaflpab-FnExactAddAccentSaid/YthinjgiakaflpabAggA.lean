/- Rows of accents, opened. -/
import Derived.Test.YthinjgiakaflpabA2
import Derived.Test.YthinjgiakaflpabAgg
import Derived.Deep.Slices
import Derived.DataReads
import Derived.DataElems
namespace Go.Proofs.Ythinjgiakaflpab
open Go.RowKit Flt Go.ChangeShapes Go.WideShapes Go.ChangeAt Go.Joins
set_option linter.unusedVariables false
section
variable {H : Type} {enc : TypeId × Value → H} {P : Program} {w : World} {held : Bool}
theorem open_accents {t e : TypeId} {f0 f1 f2 : Field} {fuel : Nat} {v : Value} {x : DataW H × List MemPlace} (ht : P.underlying t = some (.slice e)) (he : P.underlying e = some (.struct #[f0, f1, f2]))
    (t0 : P.underlying f0.type = some (.float .f32)) (t1 : P.underlying f1.type = some (.float .f32)) (t2 : P.underlying f2.type = some (.float .f32)) (c0 : P.cellsOf f0.type = 1) (c1 : P.cellsOf f1.type = 1) (c2 : P.cellsOf f2.type = 1)
    (o0 : f0.offset = 0) (o1 : f1.offset = 1) (o2 : f2.offset = 2) (hC : P.cellsOf e = 3) (h : DataW.trod enc P w 0 (fun _ => true) held fuel t [v] = some x) : ∃ a n c zs, v = .slice a n c ∧ IsRowA w a n c zs := by
  rcases Deep.open_slice ht h with ⟨h0, _⟩ | ⟨a, len, cap, m, n, D, Pl, hcs, _, hl, hm, hmm, _, hx⟩
  · simp at h0
    exact ⟨none, 0, 0, [], h0, .inl ⟨rfl, rfl, rfl, rfl⟩⟩
  · simp only [if_true] at hmm
    subst hmm
    simp only [List.cons.injEq, and_true] at hcs
    rw [hC] at hx
    have each : ∀ i, i < m → ∃ q : Nat × Nat × Nat, (w.cell? (a.add (i * 3)) = some (.float .f32 q.1) ∧ w.cell? (a.add (i * 3 + 1)) = some (.float .f32 q.2.1) ∧ w.cell? (a.add (i * 3 + 2)) = some (.float .f32 q.2.2)) ∧ ((Lit.float .f32 q.1).wf = true ∧ (Lit.float .f32 q.2.1).wf = true ∧ (Lit.float .f32 q.2.2).wf = true) := by
      intro i hi
      obtain ⟨cs', h1, h2⟩ := hx i hi
      obtain ⟨_, hlen, hcell⟩ := World.cells?_some h1
      match cs', hlen with
      | [u0, u1, u2], _ =>
        obtain ⟨xs, n', _, _, _, hlen2, hf⟩ := DataW.trod_struct he h2
        match xs, hlen2 with
        | [y0, y1, y2], _ =>
          have k0 : DataW.trod enc P w 0 (fun _ => true) held n' f0.type [u0] = some y0 := by simpa [o0, c0] using hf 0 f0 rfl
          have k1 : DataW.trod enc P w 0 (fun _ => true) held n' f1.type [u1] = some y1 := by simpa [o1, c1] using hf 1 f1 rfl
          have k2 : DataW.trod enc P w 0 (fun _ => true) held n' f2.type [u2] = some y2 := by simpa [o2, c2] using hf 2 f2 rfl
          obtain ⟨b0, rfl, w0⟩ := trod_float_inv t0 k0
          obtain ⟨b1, rfl, w1⟩ := trod_float_inv t1 k1
          obtain ⟨b2, rfl, w2⟩ := trod_float_inv t2 k2
          have g0 := hcell 0 (by omega)
          have g1 := hcell 1 (by omega)
          have g2 := hcell 2 (by omega)
          rw [Addr.add_add] at g0 g1 g2
          exact ⟨(b0, b1, b2), ⟨by simpa using g0, by simpa using g1, by simpa using g2⟩, w0, w1, w2⟩
    obtain ⟨F, hF⟩ := Deep.choose_lt each
    obtain ⟨G, hG⟩ : ∃ G : Nat → Nat, ∀ j, G j = (if j % 3 = 0 then (F (j / 3)).1 else if j % 3 = 1 then (F (j / 3)).2.1 else (F (j / 3)).2.2) := ⟨_, fun _ => rfl⟩
    have key : ∀ j, j < m * 3 → w.cell? (a.add j) = some (.float .f32 (G j)) ∧ (Lit.float .f32 (G j)).wf = true := by
      intro j hj
      obtain ⟨⟨h0, h1, h2⟩, w0, w1, w2⟩ := hF (j / 3) (by omega)
      rw [hG j]
      have h3 : j % 3 = 0 ∨ j % 3 = 1 ∨ j % 3 = 2 := by omega
      rcases h3 with h4 | h4 | h4
      · have e : j / 3 * 3 = j := by omega
        rw [e] at h0
        rw [if_pos h4]
        exact ⟨h0, w0⟩
      · have e : j / 3 * 3 + 1 = j := by omega
        rw [e] at h1
        rw [if_neg (by omega), if_pos h4]
        exact ⟨h1, w1⟩
      · have e : j / 3 * 3 + 2 = j := by omega
        rw [e] at h2
        rw [if_neg (by omega), if_neg (by omega)]
        exact ⟨h2, w2⟩
    refine ⟨some a, len, m, (List.range (m * 3)).map G, hcs, .inr ⟨a, rfl, hl, hm, by simp, ?_, ?_⟩⟩
    · intro j hj
      rw [(key j hj).1]
      simp [List.getD, hj]
    · intro q hq
      simp only [List.mem_map, List.mem_range] at hq
      obtain ⟨j, hj, rfl⟩ := hq
      exact (key j hj).2
end
end Go.Proofs.Ythinjgiakaflpab

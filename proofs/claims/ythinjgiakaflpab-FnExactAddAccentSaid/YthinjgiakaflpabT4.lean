/- Copies of areas, and tubes with other ends. -/
import Derived.Test.YthinjgiakaflpabT3
import Derived.Deep.RegionHeld3
import Derived.OwnWalk
import Derived.Laws.ResultCell
import Derived.Laws.Rows
import Derived.Lib.SliceRun
namespace Go.Proofs.Ythinjgiakaflpab
open Go.RowKit Flt

theorem ret_cell1 {P : Program} {fn : Func} {p : Tmp} {ty : TypeId} {tmps : Array Value} {w : World} {b : Nat} {vs : Array Value} {fs : Array Field} (h : fn.results = #[.cell p ty]) (hp : tmps.getD p undef = .pointer (some ⟨b, 0, none⟩)) (hb : Box w b vs)
    (hu : P.underlying ty = some (.struct fs)) (hi : (P.info? ty).map (·.size) = some vs.size) : (results fn tmps).run P w = .ok (.agg vs) w := by
  obtain ⟨t, hb⟩ := hb
  exact results_cell_row h tmps w b t vs (0, 0) (.struct fs) hp hb hu rfl hi
theorem ret_cell2 {P : Program} {fn : Func} {p u : Tmp} {ty : TypeId} {tmps : Array Value} {w : World} {b : Nat} {vs : Array Value} {fs : Array Field} (h : fn.results = #[.cell p ty, .tmp u]) (hp : tmps.getD p undef = .pointer (some ⟨b, 0, none⟩)) (hb : Box w b vs)
    (hu : P.underlying ty = some (.struct fs)) (hi : (P.info? ty).map (·.size) = some vs.size) : (results fn tmps).run P w = .ok (.tuple #[.agg vs, tmps.getD u undef]) w := by
  obtain ⟨t, hb⟩ := hb
  rw [results_cell_tmp h, hp]
  simp [asAddr, run_loadVar_row w b t ty vs (0, 0) (.struct fs) hb hu rfl hi]
theorem Box.eqv {w : World} {b : Nat} {vs us : Array Value} (h : Box w b vs) (e : vs = us) : Box w b us := e ▸ h
theorem news_of {w : World} {b off n : Nat} {zs : List Nat} (hl : zs.length = n) (hc : ∀ i, i < n → w.cell? ⟨b, off + i, none⟩ = some (.float .f32 (zs.getD i 0))) :
    ∀ j u, (zs.map (Value.float .f32))[j]? = some u → w.cell? ((⟨b, off, none⟩ : Addr).add j) = some u := by
  intro j u hu
  rw [addr_add]
  have hj : j < n := by
    rcases Nat.lt_or_ge j n with h | h
    · exact h
    · rw [List.getElem?_eq_none (by simp; omega)] at hu; cases hu
  rw [hc j hj, ← hu]
  simp [List.getD, show j < zs.length by omega]
theorem news_ext {w w' : World} {b off n : Nat} {zs : List Nat} (e : Ext w w') (hb : b < w.heap.size) (hl : zs.length = n) (hc : ∀ i, i < n → w.cell? ⟨b, off + i, none⟩ = some (.float .f32 (zs.getD i 0))) :
    ∀ j u, (zs.map (Value.float .f32))[j]? = some u → w'.cell? ((⟨b, off, none⟩ : Addr).add j) = some u :=
  news_of hl fun i hi => by rw [Below.cell e (p := ⟨b, off + i, none⟩) hb]; exact hc i hi
theorem news_one (zs : List Nat) : ∀ u ∈ zs.map (Value.float .f32), u.oneCell' = true := by
  intro u hu
  rw [List.mem_map] at hu
  obtain ⟨z, _, rfl⟩ := hu
  rfl

end Go.Proofs.Ythinjgiakaflpab

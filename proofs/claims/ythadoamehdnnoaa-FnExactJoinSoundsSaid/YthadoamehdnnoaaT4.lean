/- Copies of areas, and tubes with other ends. -/
import Derived.Test.YthadoamehdnnoaaT3
import Derived.Deep.RegionHeld3
import Derived.OwnWalk
import Derived.Laws.ResultCell
import Derived.Laws.Rows
import Derived.Lib.SliceRun
namespace Go.Proofs.Ythadoamehdnnoaa
open Go.RowKit Flt

theorem ret_cell1 {P : Program} {fn : Func} {p : Tmp} {ty : TypeId} {tmps : Array Value} {w : World} {b : Nat} {vs : Array Value} {fs : Array Field} (h : fn.results = #[.cell p ty]) (hp : tmps.getD p undef = .pointer (some ⟨b, 0, none⟩)) (hb : Box w b vs)
    (hu : P.underlying ty = some (.struct fs)) (hi : (P.info? ty).map (·.size) = some vs.size) : (results fn tmps).run P w = .ok (.agg vs) w := by
  obtain ⟨t, hb⟩ := hb
  exact results_cell_row h tmps w b t vs (0, 0) (.struct fs) hp hb hu rfl hi
theorem ret_cell2 {P : Program} {fn : Func} {p u : Tmp} {ty : TypeId} {tmps : Array Value} {w : World} {b : Nat} {vs : Array Value} {fs : Array Field} (h : fn.results = #[.cell p ty, .tmp u]) (hp : tmps.getD p undef = .pointer (some ⟨b, 0, none⟩)) (hb : Box w b vs)
    (hu : P.underlying ty = some (.struct fs)) (hi : (P.info? ty).map (·.size) = some vs.size) : (results fn tmps).run P w = .ok (.tuple #[.agg vs, tmps.getD u undef]) w := by
  obtain ⟨t, hb⟩ := hb
  rw [results_cell_tmp h, hp]
  simp [asAddr, run_loadVar_row w b t ty vs (0, 0) (.struct fs) hb hu rfl hi]
theorem Box.eqv {w : World} {b : Nat} {vs us : Array Value} (h : Box w b vs) (e : vs = us) : Box w b us := e ▸ h
theorem news_of {w : World} {b off n : Nat} {zs : List Nat} (hl : zs.length = n) (hc : ∀ i, i < n → w.cell? ⟨b, off + i, none⟩ = some (.float .f32 (zs.getD i 0))) :
    ∀ j u, (zs.map (Value.float .f32))[j]? = some u → w.cell? ((⟨b, off, none⟩ : Addr).add j) = some u := by
  intro j u hu
  rw [addr_add]
  have hj : j < n := by
    rcases Nat.lt_or_ge j n with h | h
    · exact h
    · rw [List.getElem?_eq_none (by simp; omega)] at hu; cases hu
  rw [hc j hj, ← hu]
  simp [List.getD, show j < zs.length by omega]
theorem news_ext {w w' : World} {b off n : Nat} {zs : List Nat} (e : Ext w w') (hb : b < w.heap.size) (hl : zs.length = n) (hc : ∀ i, i < n → w.cell? ⟨b, off + i, none⟩ = some (.float .f32 (zs.getD i 0))) :
    ∀ j u, (zs.map (Value.float .f32))[j]? = some u → w'.cell? ((⟨b, off, none⟩ : Addr).add j) = some u :=
  news_of hl fun i hi => by rw [Below.cell e (p := ⟨b, off + i, none⟩) hb]; exact hc i hi
theorem news_one (zs : List Nat) : ∀ u ∈ zs.map (Value.float .f32), u.oneCell' = true := by
  intro u hu
  rw [List.mem_map] at hu
  obtain ⟨z, _, rfl⟩ := hu
  rfl

set_option maxRecDepth 100000 in
theorem clone_any (a : Option Addr) (n c : Nat) (zs : List Nat) (w : World) (h : Holds .f32 w a n zs) (h1 : 1 ≤ n) (hn : n ≤ 1048576) :
    Calls Try.prog 14 #[.slice a n c] w fun e w' => ∃ b c', e = .returned (.slice (some ⟨b, 0, none⟩) n c') ∧ Own w' w.heap.size n (.slice (some ⟨b, 0, none⟩) n c') zs ∧ Ext w w' := by
  obtain ⟨hl, h0 | ⟨b, off, rfl, hb, hc⟩⟩ := h
  · omega
  obtain ⟨i0, hi, hz0, hz1, hz2⟩ := info_parts infoF
  have HE := hid (own_new (w := w) (B := w.heap.size) (cs := #[]) (zs := []) rfl (Nat.le_refl _) (Nat.zero_le _))
  have HI := hid (And.intro hi (And.intro hz0 (And.intro hz1 hz2)))
  have HC := hid (news_of (w := w.alloc (.cells #[] 32)) hl (fun i hi => by rw [World.cell?_alloc_past _ _ _ hb]; exact hc i hi))
  have HL := hid hl
  have HN := hid hn
  have H1 := hid h1
  have q : ∀ (w : World), (binOp .eql 22 (.slice (some ⟨b, off, none⟩) n c) (.slice none 0 0)).run Try.prog w = .ok (.bool false) w := fun w => Lib.run_eql_slice_nil w _ _ _ n c 0 0 Try.underlying22
  clear hi hz0 hz1 hz2 hc hl hb hn h1
  go_enter Try.func14, Try.ntmps14
  go_wp2_with (at_builtin; refine wpList_append_lies _ rfl _ _ 22 rfl w.heap.size 32 i0 (.float .f32 0) 1 4 Try.underlying22 HI.out.1 HI.out.2.1 HI.out.2.2.1 HI.out.2.2.2 rfl (by decide) _ _ _ rfl HE.out ⟨b, off, none⟩ n c (zs.map (Value.float .f32)) rfl (by have := HL.out; simp [this]) (by exact HC.out) (news_one zs) (by have := H1.out; omega) (by have := HN.out; unfold maxLen; simp; omega) (by have := HN.out; simp; omega) (by simp) _ rfl ?_)
  intro g cap w1 hown hgrow hat hlt
  have HO := hid hown
  have HG := hid hgrow
  have HA := hid hat
  clear hown hgrow hat hlt
  go_wp2
  go_ret
  have HO2 : Own w1 w.heap.size n (.slice (some ⟨g, 0, none⟩) n cap) zs := by simpa [Own] using HO.out
  exact ⟨g, cap, rfl, HO2, But.below HG.out (ext_alloc _ _) (fun k hk => by cases hk; exact Nat.le_refl _)⟩
end Go.Proofs.Ythadoamehdnnoaa

/- Copies of areas, and tubes with other ends. -/
import Derived.Test.YtnmigjiaeahekaaT3
import Derived.Deep.RegionHeld3
import Derived.OwnWalk
import Derived.Laws.ResultCell
import Derived.Laws.Rows
import Derived.Lib.SliceRun
namespace Go.Proofs.Ytnmigjiaeahekaa
open Go.RowKit Flt

theorem infoT : (Try.prog.info? 27).map (·.size) = some 4 := by kernel_rfl
theorem ret_cell1 {P : Program} {fn : Func} {p : Tmp} {ty : TypeId} {tmps : Array Value} {w : World} {b : Nat} {vs : Array Value} {fs : Array Field} (h : fn.results = #[.cell p ty]) (hp : tmps.getD p undef = .pointer (some ⟨b, 0, none⟩)) (hb : Box w b vs)
    (hu : P.underlying ty = some (.struct fs)) (hi : (P.info? ty).map (·.size) = some vs.size) : (results fn tmps).run P w = .ok (.agg vs) w := by
  obtain ⟨t, hb⟩ := hb
  exact results_cell_row h tmps w b t vs (0, 0) (.struct fs) hp hb hu rfl hi
theorem ret_cell2 {P : Program} {fn : Func} {p u : Tmp} {ty : TypeId} {tmps : Array Value} {w : World} {b : Nat} {vs : Array Value} {fs : Array Field} (h : fn.results = #[.cell p ty, .tmp u]) (hp : tmps.getD p undef = .pointer (some ⟨b, 0, none⟩)) (hb : Box w b vs)
    (hu : P.underlying ty = some (.struct fs)) (hi : (P.info? ty).map (·.size) = some vs.size) : (results fn tmps).run P w = .ok (.tuple #[.agg vs, tmps.getD u undef]) w := by
  obtain ⟨t, hb⟩ := hb
  rw [results_cell_tmp h, hp]
  simp [asAddr, run_loadVar_row w b t ty vs (0, 0) (.struct fs) hb hu rfl hi]
theorem Box.eqv {w : World} {b : Nat} {vs us : Array Value} (h : Box w b vs) (e : vs = us) : Box w b us := e ▸ h
theorem news_of {w : World} {b off n : Nat} {zs : List Nat} (hl : zs.length = n) (hc : ∀ i, i < n → w.cell? ⟨b, off + i, none⟩ = some (.float .f32 (zs.getD i 0))) :
    ∀ j u, (zs.map (Value.float .f32))[j]? = some u → w.cell? ((⟨b, off, none⟩ : Addr).add j) = some u := by
  intro j u hu
  rw [addr_add]
  have hj : j < n := by
    rcases Nat.lt_or_ge j n with h | h
    · exact h
    · rw [List.getElem?_eq_none (by simp; omega)] at hu; cases hu
  rw [hc j hj, ← hu]
  simp [List.getD, show j < zs.length by omega]
theorem news_ext {w w' : World} {b off n : Nat} {zs : List Nat} (e : Ext w w') (hb : b < w.heap.size) (hl : zs.length = n) (hc : ∀ i, i < n → w.cell? ⟨b, off + i, none⟩ = some (.float .f32 (zs.getD i 0))) :
    ∀ j u, (zs.map (Value.float .f32))[j]? = some u → w'.cell? ((⟨b, off, none⟩ : Addr).add j) = some u :=
  news_of hl fun i hi => by rw [Below.cell e (p := ⟨b, off + i, none⟩) hb]; exact hc i hi
theorem news_one (zs : List Nat) : ∀ u ∈ zs.map (Value.float .f32), u.oneCell' = true := by
  intro u hu
  rw [List.mem_map] at hu
  obtain ⟨z, _, rfl⟩ := hu
  rfl

set_option maxRecDepth 100000 in
theorem clone_any (a : Option Addr) (n c : Nat) (zs : List Nat) (w : World) (h : Holds .f32 w a n zs) (h1 : 1 ≤ n) (hn : n ≤ 1048576) :
    Calls Try.prog 64 #[.slice a n c] w fun e w' => ∃ b c', e = .returned (.slice (some ⟨b, 0, none⟩) n c') ∧ Own w' w.heap.size n (.slice (some ⟨b, 0, none⟩) n c') zs ∧ Ext w w' := by
  obtain ⟨hl, h0 | ⟨b, off, rfl, hb, hc⟩⟩ := h
  · omega
  obtain ⟨i0, hi, hz0, hz1, hz2⟩ := info_parts infoF
  have HE := hid (own_new (w := w) (B := w.heap.size) (cs := #[]) (zs := []) rfl (Nat.le_refl _) (Nat.zero_le _))
  have HI := hid (And.intro hi (And.intro hz0 (And.intro hz1 hz2)))
  have HC := hid (news_of (w := w.alloc (.cells #[] 23)) hl (fun i hi => by rw [World.cell?_alloc_past _ _ _ hb]; exact hc i hi))
  have HL := hid hl
  have HN := hid hn
  have H1 := hid h1
  have q : ∀ (w : World), (binOp .eql 22 (.slice (some ⟨b, off, none⟩) n c) (.slice none 0 0)).run Try.prog w = .ok (.bool false) w := fun w => Lib.run_eql_slice_nil w _ _ _ n c 0 0 Try.underlying22
  clear hi hz0 hz1 hz2 hc hl hb hn h1
  go_enter Try.func64, Try.ntmps64
  go_wp2_with (at_builtin; refine wpList_append_lies _ rfl _ _ 22 rfl w.heap.size 23 i0 (.float .f32 0) 1 4 Try.underlying22 HI.out.1 HI.out.2.1 HI.out.2.2.1 HI.out.2.2.2 rfl (by decide) _ _ _ rfl HE.out ⟨b, off, none⟩ n c (zs.map (Value.float .f32)) rfl (by have := HL.out; simp [this]) (by exact HC.out) (news_one zs) (by have := H1.out; omega) (by have := HN.out; unfold maxLen; simp; omega) (by have := HN.out; simp; omega) (by simp) _ rfl ?_)
  intro g cap w1 hown hgrow hat hlt
  have HO := hid hown
  have HG := hid hgrow
  have HA := hid hat
  clear hown hgrow hat hlt
  go_wp2
  go_ret
  have HO2 : Own w1 w.heap.size n (.slice (some ⟨g, 0, none⟩) n cap) zs := by simpa [Own] using HO.out
  exact ⟨g, cap, rfl, HO2, But.below HG.out (ext_alloc _ _) (fun k hk => by cases hk; exact Nat.le_refl _)⟩
set_option maxRecDepth 100000 in
set_option maxHeartbeats 1000000 in
theorem l02Own_any (bx : Nat) (a : Option Addr) (n c l t p : Nat) (zs : List Nat) (w : World) (hbx : Box w bx #[.slice a n c, .float .f32 l, .float .f32 t, .float .f32 p]) (h : Holds .f32 w a n zs) (h1 : 1 ≤ n) (hn : n ≤ 1048576) :
    Calls Try.prog 60 #[.pointer (some ⟨bx, 0, none⟩)] w fun e w' => ∃ b c', e = .returned (.agg #[.slice (some ⟨b, 0, none⟩) n c', .float .f32 l, .float .f32 t, .float .f32 p]) ∧ Own w' w.heap.size n (.slice (some ⟨b, 0, none⟩) n c') zs ∧ Ext w w' := by
  obtain ⟨hl, h0 | ⟨b, off, rfl, hb, hc⟩⟩ := h
  · omega
  obtain ⟨i0, hi, hz0, hz1, hz2⟩ := info_parts infoF
  have HI := hid (And.intro hi (And.intro hz0 (And.intro hz1 hz2)))
  have HB := hid hb
  have HC := hid hc
  have HL := hid hl
  have HN := hid hn
  have H1 := hid h1
  have BX := hid hbx
  clear hi hz0 hz1 hz2 hc hl hb hn h1
  obtain ⟨d0, d1, d2, d3, dl⟩ := Box.cells4 hbx
  clear hbx
  go_enter Try.func60, Try.ntmps60
  go_wp2_with fail
  go_region_held3 (fun w' => w'.cell? ⟨bx, 0, none⟩ = some (.slice (some ⟨b, off, none⟩) n c) ∧ w'.cell? ⟨bx, 1, none⟩ = some (.float .f32 l) ∧ w'.cell? ⟨bx, 2, none⟩ = some (.float .f32 t) ∧ w'.cell? ⟨bx, 3, none⟩ = some (.float .f32 p))
    (first | exact cellsQ4 (Box.ext BX.out E1) | exact cellsQ4 (Box.far (Box.far (Box.far (Box.far (Box.ext BX.out E1) (by omega) _) (by omega) _) (by omega) _) (by omega) _) | go_keep)
    (first | (refine step_append_lies _ rfl _ _ 22 rfl (w.heap.size + 1) 23 i0 (.float .f32 0) 1 4 Try.underlying22 HI.out.1 HI.out.2.1 HI.out.2.2.1 HI.out.2.2.2 rfl (by decide) _ _ _ rfl (own_fresh (cs := #[]) (zs := []) (B := w.heap.size + 1) (hid rfl) rfl (by simp) (by simp) (Nat.zero_le _)) ⟨b, off, none⟩ n c (zs.map (Value.float .f32)) rfl (by have := HL.out; simp [this]) (news_ext (by (repeat with_reducible (first | exact Ext.refl _ | exact ext_alloc _ _ | refine Ext.drewN ?_ _ | refine Ext.drew1 ?_ | refine Ext.set ?_ (by dsimp only; omega) _ | refine Ext.alloc ?_ _))) HB.out HL.out HC.out) (news_one zs) (by have := H1.out; omega) (by have := HN.out; unfold maxLen; simp; omega) (by have := HN.out; simp; omega) (by simp <;> omega) _ rfl ?_; intro g cap w1 hown hgrow hat hlt; have E1 : Ext w w1 := But.below hgrow (by (repeat with_reducible (first | exact Ext.refl _ | exact ext_alloc _ _ | refine Ext.drewN ?_ _ | refine Ext.drew1 ?_ | refine Ext.set ?_ (by dsimp only; omega) _ | refine Ext.alloc ?_ _))) (fun k hk => by cases hk; simp); obtain ⟨r0, r1, r2, r3, rf0, rf1, rf2, rf3, rl⟩ := Box.all4 (But.box hgrow (Box.alloc (Box.ext (box_new (w := w) #[.slice none 0 0, .float .f32 0, .float .f32 0, .float .f32 0] 27) (ext_drew _)) (.cells #[] 23)) (by show some (w.heap.size + 1) ≠ some w.heap.size; simp))))
  have HO := hid hown
  have HE := hid E1
  have HX := hid (Box.ext (box_new (w := w) #[.slice none 0 0, .float .f32 0, .float .f32 0, .float .f32 0] 27) (ext_drew _))
  have HG := hid hgrow
  clear hown hgrow hat hlt E1
  have BF := box_set (j := 3) (box_set (j := 2) (box_set (j := 1) (box_set (j := 0) (But.box HG.out (Box.alloc HX.out (.cells #[] 23)) (by show some (w.heap.size + 1) ≠ some w.heap.size; simp)) (.slice (some ⟨g, 0, none⟩) n cap)) (.float .f32 l)) (.float .f32 t)) (.float .f32 p)
  have HF := hid (Box.eqv BF (us := #[.slice (some ⟨g, 0, none⟩) n cap, .float .f32 l, .float .f32 t, .float .f32 p]) (by rfl))
  have HO2 : Own w1 (w.heap.size + 1) n (.slice (some ⟨g, 0, none⟩) n cap) zs := by simpa [Own] using HO.out
  clear BF r0 r1 r2 r3 rf0 rf1 rf2 rf3 rl
  go_wp2_with fail
  refine bodyPost_ret (ret_cell1 Try.results60 rfl HF.out Try.underlying27 infoT) rfl ?_
  have hne : ∀ k, (Value.slice (some ⟨g, 0, none⟩) n cap).ownBlock = some k → w.heap.size + 1 ≤ k ∧ k < w1.heap.size := Own.block HO2
  have hn2 : (Value.slice (some ⟨g, 0, none⟩) n cap).ownBlock ≠ some w.heap.size := fun hk => by have := (hne _ hk).1; omega
  refine ⟨g, cap, rfl, Own.base (Own.far (Own.far (Own.far (Own.far HO2 hn2 _) hn2 _) hn2 _) hn2 _) (Nat.le_succ _), ?_⟩
  exact Ext.set (Ext.set (Ext.set (Ext.set HE.out (Nat.le_refl _) _) (Nat.le_refl _) _) (Nat.le_refl _) _) (Nat.le_refl _) _
end Go.Proofs.Ytnmigjiaeahekaa

/- Scaled tubes. -/
import Derived.Test.YtofhemganefhcaaT7
namespace Go.Proofs.Ytofhemganefhcaa
open Go.RowKit Flt
set_option linter.unusedVariables false

theorem step_fa {P : Program} {w : World} {ops : Array Oper} {o : Oper} {a : Act} {K : Act → World → Prop} {Q : Exit → Act → World → Prop} {E : Prop} {op : BinOp} {t ty : TypeId} {x y : Operand} (hgd : o.guard = none) (hop : o.op = Op.binOp op t x y ty) (hops : isArith op = true)
    {k : FloatKind} {bx cy : Nat} (hx : a.eval x = .float k bx) (hy : a.eval y = .float k cy)
    (hK : ∀ r n, Hid (cls k r = fop op k (cls k bx) (cls k cy)) → K (a.put o.dst (.float k r)) (w.drewN n)) :
    if Region.wanted o (yielded ops a.tmps) = true then Oper.wp P o a w K Q else E := by
  have hw : Region.wanted o (yielded ops a.tmps) = true := by simp [Region.wanted, hgd]
  rw [if_pos hw]
  have hops := isArith_or hops
  obtain ⟨r, n, hrun, h1, h2⟩ := run_farith (P := P) w op hops t k bx cy
  unfold Oper.wp
  have hk := hK r n (hid h1)
  rcases hops with rfl | rfl | rfl | rfl <;> simp [execOp, hop, hx, hy, hrun, eqGuard] <;> exact hk

def scaleC (X : Option Nat) (cs : List (Option Nat)) : List (Option Nat) := cs.map fun x => fop .mul .f32 x X
def scaleT (cs : List (Option Nat)) (l t p X : Option Nat) : TR := if tubeC cs l t p then giveT (scaleC X cs) l t p else zeroT
theorem scaleC_snoc (X : Option Nat) (zs : List Nat) (k : Nat) (h : k < zs.length) : scaleC X ((zs.take (k + 1)).map (cls .f32)) = scaleC X ((zs.take k).map (cls .f32)) ++ [fop .mul .f32 (cls .f32 (zs.getD k 0)) X] := by
  rw [take_snoc_getD zs k h]; simp [scaleC]
theorem own_snoc {w : World} {B k : Nat} {v : Value} {ys : List Nat} {r : Nat} (h : w.ownsRow B 23 1 v (k + 1) (ys.map (Value.float .f32) ++ [.float .f32 r])) : Own w B (k + 1) v (ys ++ [r]) := by
  unfold Own; simpa using h
set_option maxHeartbeats 1000000 in
theorem scaled_any (a : Option Addr) (n c x : Nat) (zs : List Nat) (w : World) (h : Holds .f32 w a n zs) (hn : n ≤ 1048576) :
    Calls Try.prog 71 #[.slice a n c, .float .f32 x] w fun e w' => ∃ b c' ys, e = .returned (.slice b n c') ∧ Own w' w.heap.size n (.slice b n c') ys ∧ ys.map (cls .f32) = scaleC (cls .f32 x) (zs.map (cls .f32)) ∧ Ext w w' := by
  obtain ⟨i0, hi, hz0, hz1, hz2⟩ := info_parts infoF
  have HI := hid (And.intro hi (And.intro hz0 (And.intro hz1 hz2)))
  have HH := hid h
  have HL := hid h.1
  have HN := hid hn
  have hmk : (Instr.makeSlice 22 (.int .i64 (0 : Int)) (.int .i64 (n : Int))).run Try.prog w = .ok (.slice (some ⟨w.heap.size, 0, none⟩) 0 n) (w.alloc (.cells (madeCells #[.float .f32 0] n) 23)) := by
    have := run_make (P := Try.prog) w 22 23 i0 (.float .f32 0) Try.underlying22 hi hz0 .i64 .i64 (0 : Int) (n : Int) (by omega) (by omega) (by rw [hz2]; omega) (by omega)
    rw [hz1] at this
    simpa [Value.cells] using this
  have HM := hid (size_madeCells #[.float .f32 0] n)
  have HO0 := hid (World.ownsRow_made (e := 23) (size := 1) (base := w.heap.size) w (madeCells #[.float .f32 0] n) n (Nat.le_refl _) (by unfold maxLen; omega) (by rw [HM.out]; omega))
  have hcell : ∀ wr, Ext w wr → ∀ k, k < n → ∃ b off, a = some ⟨b, off, none⟩ ∧ wr.cell? ⟨b, off + k, none⟩ = some (.float .f32 (zs.getD k 0)) := by
    intro wr e k hk
    rcases h.2 with h0 | ⟨b, off, rfl, hb, hc⟩
    · omega
    · exact ⟨b, off, rfl, (Below.cell e (p := ⟨b, off + k, none⟩) hb).trans (hc k hk)⟩
  have HC := hid hcell
  clear hi hz0 hz1 hz2 h hn hcell
  go_enter Try.func71, Try.ntmps71
  go_wp2
  go_loopw [5, 13] (fun v i wr => ∃ (k : Nat) (ys : List Nat), k ≤ n ∧ i = .int .i64 k ∧ Hid (Own wr w.heap.size k v ys) ∧ Hid (ys.map (cls .f32) = scaleC (cls .f32 x) ((zs.take k).map (cls .f32))) ∧ Hid (Ext w wr)) (fun _ i _ => n - (intOf i).toNat)
  case atStart => exact ⟨0, [], Nat.zero_le _, rfl, hid HO0.out, rfl, hid (ext_alloc _ _)⟩
  case round =>
    obtain ⟨k, ys, hk, rfl, ho, hy, he⟩ := hrel
    have hn2 : n ≤ 1048576 := HN.out
    by_cases hlt : k < n
    · obtain ⟨b, off, rfl, e1⟩ := HC.out _ he.out k hlt
      have hs := hid (scaleC_snoc (cls .f32 x) zs k (by rw [HL.out]; exact hlt))
      generalize zs.getD k 0 = q at e1 hs
      clear hmk
      have hi0 : (0 : Int) ≤ (k : Int) := by omega
      have hi1 : (k : Int) < (n : Int) := by omega
      go_wp2_with (first | (refine wpList_farith rfl rfl rfl rfl rfl ?_; intro r2 m2 hr2 hrw2) | (at_builtin; refine wpList_append_lies _ rfl _ _ 22 rfl w.heap.size 23 i0 (.float .f32 0) 1 4 Try.underlying22 HI.out.1 HI.out.2.1 HI.out.2.2.1 HI.out.2.2.2 rfl (by decide) _ _ _ rfl (Own.alloc (Own.drewN ho.out m2) _) ⟨wr.heap.size, 0, none⟩ 1 1 [.float .f32 r2] rfl rfl (World.news_of_block (heap_alloc_new _ _)) (by intro u hu; simp at hu; subst hu; rfl) (by omega) (by have h9 := HN.out; unfold maxLen; omega) (by have h9 := HN.out; omega) (by have h8 := Ext.size he.out; simp; omega) _ rfl ?_; intro g cap w1 hown hgrow hat hlt2))
      have h1 := hid (own_snoc hown)
      have h2 := hid (show Ext w w1 from But.below hgrow (Ext.alloc (Ext.drewN he.out m2) _) (fun k2 hk2 => (Own.block ho.out k2 hk2).1))
      have h3 := hid (show (ys ++ [r2]).map (cls .f32) = scaleC (cls .f32 x) ((zs.take (k + 1)).map (cls .f32)) from by rw [List.map_append, hy.out, hs.out, ← hr2.out]; rfl)
      clear hown hgrow hat hlt2
      go_wp2
      go_roundw
      case rel => exact ⟨k + 1, ys ++ [r2], by omega, by go_num, h1, h3, h2⟩
      case measure => simp [intOf]; omega
    · have hkn : k = n := by omega
      subst hkn
      clear hmk
      go_wp2
      go_ret
      obtain ⟨b, c', e1, _⟩ := Own.holds ho.out
      refine ⟨b, c', ys, by rw [← e1]; rfl, by rw [← e1]; exact ho.out, ?_, he.out⟩
      rw [hy.out, List.take_of_length_le (by rw [HL.out]; exact Nat.le_refl _)]

theorem farith_fun {P : Program} (op : BinOp) (hop : isArith op = true) (t : TypeId) (k : FloatKind) (x y : Nat) : ∃ F G : World → Nat, (∀ w, (binOp op t (.float k x) (.float k y)).run P w = .ok (.float k (F w)) (w.drewN (G w))) ∧ ∀ w, cls k (F w) = fop op k (cls k x) (cls k y) := by
  have h : ∀ w, ∃ r n, (binOp op t (.float k x) (.float k y)).run P w = .ok (.float k r) (w.drewN n) ∧ cls k r = fop op k (cls k x) (cls k y) := fun w => by
    obtain ⟨r, n, h1, h2, _⟩ := run_farith (P := P) w op (isArith_or hop) t k x y
    exact ⟨r, n, h1, h2⟩
  exact ⟨fun w => (h w).choose, fun w => (h w).choose_spec.choose, fun w => (h w).choose_spec.choose_spec.1, fun w => (h w).choose_spec.choose_spec.2⟩
end Go.Proofs.Ytofhemganefhcaa

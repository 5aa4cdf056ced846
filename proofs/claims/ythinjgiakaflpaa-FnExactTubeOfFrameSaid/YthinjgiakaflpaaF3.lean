/- Areas in new memory. -/
import Derived.Test.YthinjgiakaflpaaT4
import Derived.Test.YthinjgiakaflpaaT18
import Derived.Test.YthinjgiakaflpaaT19
import Derived.Test.YthinjgiakaflpaaF4
import Derived.Laws.CopyOwn
namespace Go.Proofs.Ythinjgiakaflpaa
open Go.RowKit Flt
set_option linter.unusedVariables false

open Go.Deep

theorem splice_full {xs ys : List Value} (h : ys.length = xs.length) : splice xs 0 ys = ys := by
  unfold splice
  simp [h]
set_option maxHeartbeats 2000000 in
set_option maxRecDepth 100000 in
theorem newAreas_any (a : Option Addr) (n c : Nat) (zs : List Nat) (w : World) (h : Holds .f32 w a n zs) (h1 : 1 ≤ n) (hn : n ≤ 1048576) :
    Calls Try.prog 86 #[.slice a n c] w fun e w' => ∃ b, e = .returned (.slice (some ⟨b, 0, none⟩) n n) ∧ Own w' w.heap.size n (.slice (some ⟨b, 0, none⟩) n n) zs ∧ Ext w w' := by
  obtain ⟨b, off, rfl, hb, hl, hc⟩ := Holds.some_of h h1
  obtain ⟨i0, hi, hz0, hz1, hz2⟩ := info_parts infoF
  have hmk : ∀ wm : World, (Instr.makeSlice 34 (.int .i64 (n : Int)) (.int .i64 (n : Int))).run Try.prog wm = .ok (.slice (some ⟨wm.heap.size, 0, none⟩) n n) (wm.alloc (.cells (Array.replicate n (Value.float .f32 0)) 22)) := by
    intro wm
    have := run_make (P := Try.prog) wm 34 22 i0 (.float .f32 0) Try.underlying34 hi hz0 .i64 .i64 (n : Int) (n : Int) (by omega) (by omega) (by rw [hz2]; omega) (by omega)
    rw [hz1] at this
    have HMC : madeCells #[Value.float .f32 0] n = Array.replicate n (Value.float .f32 0) := by
      have h7 := toList_madeCells_one (Value.float .f32 0) n
      have h8 := congrArg List.toArray h7
      simpa using h8
    have h0 : (Instr.makeSlice 34 (.int .i64 (n : Int)) (.int .i64 (n : Int))).run Try.prog wm = .ok (.slice (some ⟨wm.heap.size, 0, none⟩) n n) (wm.alloc (.cells (madeCells #[.float .f32 0] n) 22)) := by simpa [Value.cells] using this
    rw [HMC] at h0
    exact h0
  have HG := hid (show (w.alloc (.cells (Array.replicate n (Value.float .f32 0)) 22)).heap[w.heap.size]? = some (.cells (List.replicate n (Value.float .f32 0)).toArray 22 (0, 0)) from by rw [heap_alloc_new]; simp)
  have HMIN := hid (show (zs.map (Value.float .f32)).length = Nat.min n n from by show _ = min n n; simp [hl])
  have HFIT := hid (show 0 + (zs.map (Value.float .f32)).length ≤ (List.replicate n (Value.float .f32 0)).length from by simp [hl])
  have HNEWS := hid (show ∀ j v, (zs.map (Value.float .f32))[j]? = some v → (w.alloc (.cells (Array.replicate n (Value.float .f32 0)) 22)).cell? ((⟨b, off, none⟩ : Addr).add j) = some v from news_ext (ext_alloc _ _) hb hl hc)
  have HSZ : Hid ((Try.prog.info? 22).map (·.size) = some 1) := hid (by rw [hi]; simp [hz1])
  have HL := hid hl
  have HN := hid hn
  clear h hb hl hc hi hz0 hz1 hz2 h1 hn
  go_enter Try.func86, Try.ntmps86
  go_wp2_with (refine wpList_copy_splice rfl _ _ 34 34 rfl 22 Try.underlying34 HSZ.out (some ⟨w.heap.size, 0, none⟩) (some ⟨b, off, none⟩) n n n c rfl rfl w.heap.size 0 (List.replicate n (Value.float .f32 0)) 22 HG.out (zs.map (Value.float .f32)) HMIN.out (fun _ => ⟨rfl, ⟨b, off, none⟩, rfl, HNEWS.out⟩) HFIT.out (news_one zs) w.heap.size w (ext_alloc _ _) (Nat.le_refl _) ?_; intro w3 hg3 hb3)
  go_ret
  refine ⟨w.heap.size, rfl, ?_, hb3⟩
  have h4 := hg3.out
  rw [splice_full (by simp [HL.out])] at h4
  unfold Own World.ownsRow
  refine ⟨by simp [HL.out], .inr ⟨w.heap.size, n, (zs.map (Value.float .f32)).toArray, rfl, Nat.le_refl _, h4, Nat.le_refl _, by have := HN.out; unfold maxLen; omega, by simp [HL.out], by show List.take (n * 1) (zs.map (Value.float .f32)) = _; rw [List.take_of_length_le]; simp [HL.out]⟩⟩

end Go.Proofs.Ythinjgiakaflpaa

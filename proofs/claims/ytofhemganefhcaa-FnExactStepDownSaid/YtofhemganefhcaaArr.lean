/- Arrays of sixteen numbers: blocks, loads, stores. -/
import Derived.Test.YtofhemganefhcaaBox
import Derived.Laws.Tables
import Derived.Laws.Rows
namespace Go.Proofs.Ytofhemganefhcaa.Flt
open Go.RowKit
set_option linter.unusedVariables false

/-- a block that holds sixteen numbers -/
def rowA (zs : List Nat) : Array Value := (zs.map (Value.float .f32)).toArray
theorem rowA_size (zs : List Nat) : (rowA zs).size = zs.length := by simp [rowA]
def Arr (w : World) (b : Nat) (zs : List Nat) : Prop := Box w b (rowA zs) ∧ zs.length = 16
theorem Arr.ext {w w' : World} {b : Nat} {zs : List Nat} (h : Arr w b zs) (e : Ext w w') : Arr w' b zs := ⟨Box.ext h.1 e, h.2⟩
theorem Arr.drewN {w : World} {b : Nat} {zs : List Nat} (h : Arr w b zs) (m : Nat) : Arr (w.drewN m) b zs := h
theorem Arr.lt {w : World} {b : Nat} {zs : List Nat} (h : Arr w b zs) : b < w.heap.size := h.1.lt
theorem Arr.cellAt {w : World} {b : Nat} {zs : List Nat} (h : Arr w b zs) (j : Nat) (hj : j < 16) : w.cell? ⟨b, j, none⟩ = some (.float .f32 (zs.getD j 0)) := by
  rw [h.1.cell j]
  have hl := h.2
  simp [rowA, List.getD, show j < zs.length by omega]
theorem Arr.frozenAt {w : World} {b : Nat} {zs : List Nat} (h : Arr w b zs) (j : Nat) : w.frozen? ⟨b, j, none⟩ = false := h.1.frozen j
theorem Arr.stored {w : World} {b : Nat} {zs : List Nat} (h : Arr w b zs) (j u : Nat) : Arr (w.setCell ⟨b, j, none⟩ (.float .f32 u)) b (zs.set j u) := by
  refine ⟨?_, by simp [h.2]⟩
  have := box_set (j := j) h.1 (.float .f32 u)
  have e : (rowA zs).setIfInBounds j (.float .f32 u) = rowA (zs.set j u) := by
    simp [rowA, List.map_set]
  rw [← e]; exact this
theorem Arr.far {w : World} {b b' j : Nat} {zs : List Nat} (h : Arr w b zs) (hb : b ≠ b') (u : Value) : Arr (w.setCell ⟨b', j, none⟩ u) b zs := ⟨Box.far h.1 hb u, h.2⟩
theorem Arr.alloc {w : World} {b : Nat} {zs : List Nat} (h : Arr w b zs) (o : Obj) : Arr (w.alloc o) b zs := ⟨Box.alloc h.1 o, h.2⟩
theorem arr_new {w : World} {zs : List Nat} (t : TypeId) (hl : zs.length = 16) : Arr (w.alloc (.cells (rowA zs) t)) w.heap.size zs := ⟨box_new _ _, hl⟩
theorem arr_cast {w : World} {b b' : Nat} {zs : List Nat} (h : Arr w b zs) (e : b = b') : Arr w b' zs := e ▸ h
def zeros16 : List Nat := List.replicate 16 0
theorem Arr.but {o : Option Nat} {w w' : World} {b : Nat} {zs : List Nat} (h : But o w w') (ha : Arr w b zs) (hn : o ≠ some b) : Arr w' b zs := ⟨But.box h ha.1 hn, ha.2⟩
/-- the numbers that lie there, as a slice's -/
theorem Arr.holds {w : World} {b n : Nat} {zs : List Nat} (h : Arr w b zs) (hn : n ≤ 16) : Holds .f32 w (some ⟨b, 0, none⟩) n (zs.take n) := by
  have hl := h.2
  refine ⟨by simp; omega, .inr ⟨b, 0, rfl, h.lt, fun i hi => ?_⟩⟩
  rw [Nat.zero_add, h.cellAt i (by omega)]
  simp [List.getD, hi]
section
variable {ops : Array Oper} {rest : List Oper} {o : Oper} {a : Act} {Q : Exit → Act → World → Prop} {w : World}
theorem run_loadA {P : Program} {t : TypeId} {b : Nat} {zs : List Nat} {n : Nat} {e : TypeId} (hu : P.underlying t = some (.array n e)) (hi : (P.info? t).map (·.size) = some 16) {w : World} (hA : Arr w b zs) : (loadVar t ⟨b, 0, none⟩).run P w = .ok (.agg (rowA zs)) w := by
  obtain ⟨⟨t', hg⟩, hl⟩ := hA
  exact run_loadVar_row w b t' t (rowA zs) (0, 0) _ hg hu rfl (by rw [hi, rowA_size, hl])
theorem run_storeA {P : Program} {t : TypeId} {b : Nat} {old zs : List Nat} (hi : (P.info? t).map (·.size) = some 16) {w : World} (hA : Arr w b old) (hl : zs.length = 16) : (storeVar t ⟨b, 0, none⟩ (.agg (rowA zs))).run P w = .ok () (w.setRow b (rowA zs)) := by
  obtain ⟨⟨t', hg⟩, hl0⟩ := hA
  refine run_storeVar_row w b t' t (rowA old) (rowA zs) hg (by rw [hi, rowA_size, hl]) (by rw [rowA_size, rowA_size, hl, hl0]) ?_
  simp [rowA, Value.oneCell']
theorem Arr.row {w : World} {b : Nat} {old zs : List Nat} (hA : Arr w b old) (hl : zs.length = 16) : Arr (w.setRow b (rowA zs)) b zs ∧ But (some b) w (w.setRow b (rowA zs)) := by
  obtain ⟨⟨t', hg⟩, hl0⟩ := hA
  refine ⟨⟨⟨t', setRow_heap w b (rowA old) (rowA zs) t' (0, 0) hg⟩, hl⟩, rfl, rfl, rfl, ?_, fun k hk hn => setRow_other w b k _ (fun e => hn (by rw [e]))⟩
  simp [World.setRow]
theorem wpList_loadA {t : TypeId} {x : Operand} {b : Nat} {zs : List Nat} {n : Nat} {e : TypeId} (ho : o.op = .load t x) (hgd : o.guard = none) (hx : a.eval x = .pointer (some ⟨b, 0, none⟩)) (hu : Try.prog.underlying t = some (.array n e)) (hi : (Try.prog.info? t).map (·.size) = some 16) (hA : Arr w b zs)
    (h : wpList Try.prog ops Q rest (a.put o.dst (.agg (rowA zs))) w) : wpList Try.prog ops Q (o :: rest) a w := by
  refine wpList_plain hgd fun K hK' => ?_
  unfold Oper.wp
  have hr : (Instr.loadAt t (.pointer (some ⟨b, 0, none⟩))).run Try.prog w = .ok (.agg (rowA zs)) w := by
    have := run_loadA (P := Try.prog) hu hi hA
    simp [Instr.loadAt, Instr.sureAddr, this]
  simp [execOp, ho, hx, hr, Result.andThen]
  exact hK' _ _ h
theorem wpList_storeA {t : TypeId} {x y : Operand} {b : Nat} {old zs : List Nat} (ho : o.op = .store t x y) (hgd : o.guard = none) (hx : a.eval x = .pointer (some ⟨b, 0, none⟩)) (hy : a.eval y = .agg (rowA zs)) (hi : (Try.prog.info? t).map (·.size) = some 16) (hA : Arr w b old) (hl : zs.length = 16)
    (h : ∀ w', Arr w' b zs → But (some b) w w' → wpList Try.prog ops Q rest (a.put o.dst undef) w') : wpList Try.prog ops Q (o :: rest) a w := by
  refine wpList_plain hgd fun K hK' => ?_
  have hr := Arr.row (zs := zs) hA hl
  unfold Oper.wp
  have hs : (Instr.storeAt t (.pointer (some ⟨b, 0, none⟩)) (.agg (rowA zs))).run Try.prog w = .ok () (w.setRow b (rowA zs)) := by
    have := run_storeA (P := Try.prog) hi hA hl
    simp [Instr.storeAt, Instr.sureAddr, this]
  simp [execOp, ho, hx, hy, hs, Result.andThen]
  exact hK' _ _ (h _ hr.1 hr.2)
theorem ret_arr1 {P : Program} {fn : Func} {p : Tmp} {ty : TypeId} {tmps : Array Value} {w : World} {b n : Nat} {e : TypeId} {zs : List Nat} (h : fn.results = #[.cell p ty]) (hp : tmps.getD p undef = .pointer (some ⟨b, 0, none⟩)) (hA : Arr w b zs)
    (hu : P.underlying ty = some (.array n e)) (hi : (P.info? ty).map (·.size) = some 16) : (results fn tmps).run P w = .ok (.agg (rowA zs)) w := by
  obtain ⟨⟨t', hg⟩, hl⟩ := hA
  exact results_cell_row h tmps w b t' (rowA zs) (0, 0) _ hp hg hu rfl (by rw [hi, rowA_size, hl])
end
end Go.Proofs.Ytofhemganefhcaa.Flt

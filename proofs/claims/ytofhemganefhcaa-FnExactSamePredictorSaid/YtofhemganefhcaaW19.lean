/- The bits of numbers in rows of sixteen. -/
import Derived.Test.YtofhemganefhcaaI1
import Derived.Test.YtofhemganefhcaaV9
import Derived.Test.YtofhemganefhcaaT17
import Derived.Test.YtofhemganefhcaaMany
import Derived.ChangeKeysEq
import Derived.Deep.MidRow
import Derived.Laws.Cover3
namespace Go.Proofs.Ytofhemganefhcaa
open Go.RowKit Flt
set_option linter.unusedVariables false

def bitsI (x : Nat) : Int := bitsC (cls .f32 x)
def rowN (n : Nat) : Nat := (n + 15) / 16 * 16
def rowsI (zs : List Nat) : List Int := zs.map bitsI ++ List.replicate (rowN zs.length - zs.length) 0
theorem rowN_le (n : Nat) : n ≤ rowN n ∧ rowN n ≤ n + 15 := by unfold rowN; omega
theorem rowsI_len (zs : List Nat) : (rowsI zs).length = rowN zs.length := by
  have := rowN_le zs.length
  unfold rowsI; simp; omega
theorem rowsI_get (zs : List Nat) (i : Nat) : (rowsI zs).getD i 0 = if i < zs.length then bitsI (zs.getD i 0) else 0 := by
  unfold rowsI
  by_cases h : i < zs.length
  · simp [List.getD, List.getElem?_append, h]
  · by_cases h2 : i - zs.length < rowN zs.length - zs.length
    · simp [List.getD, List.getElem?_append, h, h2]
    · simp [List.getD, List.getElem?_append, h, h2]
def blk (zs : List Nat) (k : Nat) : List Int := (List.range 16).map fun i => (rowsI zs).getD (k + i) 0
theorem blk_len (zs : List Nat) (k : Nat) : (blk zs k).length = 16 := by simp [blk]
theorem blk_get (zs : List Nat) (k i : Nat) (hi : i < 16) : (blk zs k).getD i 0 = (rowsI zs).getD (k + i) 0 := by simp [blk, List.getD, hi]
def blkEq (xs ys : List Nat) (k : Nat) : Bool := (List.range 16).all fun i => (blk xs k).getD i 0 == (blk ys k).getD i 0
theorem blk_true {xs ys : List Nat} {k : Nat} (hl : xs.length = ys.length) (h : blkEq xs ys k = true) (hp : ∀ q, q < k → q < xs.length → eqW (xs.getD q 0) (ys.getD q 0) = true) : ∀ q, q < k + 16 → q < xs.length → eqW (xs.getD q 0) (ys.getD q 0) = true := by
  intro q hq hn
  by_cases hk : q < k
  · exact hp q hk hn
  · unfold blkEq at h
    rw [List.all_eq_true] at h
    have h1 := h (q - k) (List.mem_range.2 (by omega))
    rw [blk_get _ _ _ (by omega), blk_get _ _ _ (by omega), show k + (q - k) = q by omega, rowsI_get, rowsI_get, if_pos hn, if_pos (by omega)] at h1
    exact h1
theorem blk_false {xs ys : List Nat} {k : Nat} (hl : xs.length = ys.length) (h : blkEq xs ys k = false) : sameB xs ys = false := by
  cases hs : sameB xs ys
  · rfl
  · exfalso
    unfold sameB at hs
    simp only [Bool.and_eq_true, List.all_eq_true, List.mem_range] at hs
    have e : ∀ i, (rowsI xs).getD i 0 = (rowsI ys).getD i 0 := by
      intro i
      rw [rowsI_get, rowsI_get]
      by_cases hi : i < xs.length
      · rw [if_pos hi, if_pos (by omega)]
        have h2 := hs.2 i hi
        unfold eqW at h2
        exact eq_of_beq h2
      · rw [if_neg hi, if_neg (by omega)]
    have h3 : blkEq xs ys k = true := by
      unfold blkEq
      rw [List.all_eq_true]
      intro i hi
      have hi2 := List.mem_range.1 hi
      rw [blk_get _ _ _ hi2, blk_get _ _ _ hi2, e]
      simp
    rw [h] at h3
    cases h3

theorem infoI2 : (Try.prog.info? 2).map (fun i => (i.zero, i.size, i.bytes)) = some (some (.int .i64 0), 1, 8) := by kernel_rfl
def cellsI (xs : List Int) : List Value := xs.map (Value.int .i64)
theorem part_ints (xs : List Int) (i : Nat) (h : i < xs.length) (w : World) : (part 2 (cellsI xs).toArray (i * 1)).run Try.prog w = .ok (.int .i64 (xs.getD i 0)) w :=
  run_part_plain (P := Try.prog) w (by kernel_rfl) (by simp [cellsI, List.getD, h])
theorem run_eqItems_ints (d : Nat) (xs ys : List Int) (w : World) : ∀ is : List Nat, (∀ i, i ∈ is → i < xs.length ∧ i < ys.length) → (Op.eqItems (d + 1) 2 1 (cellsI xs).toArray (cellsI ys).toArray is).run Try.prog w = .ok (is.all fun i => xs.getD i 0 == ys.getD i 0) w
  | [], _ => by simp [Op.eqItems]
  | i :: is, h => by
    have h1 := h i (by simp)
    have IH := run_eqItems_ints d xs ys w is (fun j hj => h j (by simp [hj]))
    simp only [Op.eqItems, Sem.run_bind, part_ints xs i h1.1 w, part_ints ys i h1.2 w, run_equalIn_int (P := Try.prog) w d 2 .i64 .i64 _ _ Try.underlying2, Result.andThen_ok, List.all_cons]
    cases hb : (xs.getD i 0 == ys.getD i 0)
    · simp
    · simpa using IH
theorem run_equal_ints {t : TypeId} (xs ys : List Int) (w : World) (hx : xs.length = 16) (hy : ys.length = 16) (hu : Try.prog.underlying t = some (.array 16 2)) :
    (Op.equal t (.agg (cellsI xs).toArray) (.agg (cellsI ys).toArray)).run Try.prog w = .ok ((List.range 16).all fun i => xs.getD i 0 == ys.getD i 0) w := by
  obtain ⟨i0, hi, hz0, hz1, hz2⟩ := info_parts infoI2
  have hc : Try.prog.cellsOf 2 = 1 := by unfold Program.cellsOf; rw [hi]; exact hz1
  unfold Op.equal
  rw [show Op.maxDepth = 9998 + 1 + 1 from rfl, run_equalIn_array (P := Try.prog) w (9998 + 1) _ _ hu hi, hc]
  exact run_eqItems_ints 9998 xs ys w _ (fun i hi => by have := List.mem_range.1 hi; omega)
section
variable {ops : Array Oper} {rest : List Oper} {o : Oper} {a : Act} {C : World → Prop} {Q : Act → Prop}
theorem wpM_loadM {t : TypeId} {x : Operand} (ho : o.op = .load t x) (hw : Region.wanted o (yielded ops a.tmps) = true) {b off : Nat} (hx : a.eval x = .pointer (some ⟨b, off, none⟩)) (cs : List Value) {n : Nat} {e : TypeId} (hS : ∀ w, C w → w.rangeAt b off cs)
    (hu : Try.prog.underlying t = some (.array n e)) (hi : (Try.prog.info? t).map (·.size) = some cs.length) (hK : wpM Try.prog ops C Q rest (a.put o.dst (.agg cs.toArray))) : wpM Try.prog ops C Q (o :: rest) a := by
  have hm : multiOp o = false := by unfold multiOp; rw [ho]
  refine wpM_quiet hm fun K hK' => ?_
  rw [if_pos hw]
  refine ⟨_, fun w hw' => ?_, hK' _ hK⟩
  have hrun : (execOp a.eval o).run Try.prog w = .ok (.value (.agg cs.toArray)) w := by
    simp [execOp, ho, hx, run_loadAt_mid w b off t cs _ (hS w hw') hu rfl hi]
  unfold Oper.quietAt
  rw [hrun]
  exact ⟨rfl, rfl⟩
theorem wpM_toArr {t : TypeId} {x : Operand} (ho : o.op = .sliceToArrayPointer t x) (hw : Region.wanted o (yielded ops a.tmps) = true) {ad : Option Addr} {len cap : Nat} (hx : a.eval x = .slice ad len cap) {n : Nat} {e : TypeId}
    (hu : Try.prog.underlying t = some (.array n e)) (hn : n ≤ len) (hK : wpM Try.prog ops C Q rest (a.put o.dst (.pointer ad))) : wpM Try.prog ops C Q (o :: rest) a := by
  have hm : multiOp o = false := by unfold multiOp; rw [ho]
  refine wpM_quiet hm fun K hK' => ?_
  rw [if_pos hw]
  refine ⟨_, fun w hw' => ?_, hK' _ hK⟩
  have hrun : (execOp a.eval o).run Try.prog w = .ok (.value (.pointer ad)) w := by
    simp [execOp, ho, hx, run_arrayAt (P := Try.prog) w t e n ad len cap hu hn]
  unfold Oper.quietAt
  rw [hrun]
  exact ⟨rfl, rfl⟩
theorem wpM_neqI {t ty : TypeId} {x y : Operand} (ho : o.op = .binOp .neq t x y ty) (hw : Region.wanted o (yielded ops a.tmps) = true) {xs ys : List Int} (hx : a.eval x = .agg (cellsI xs).toArray) (hy : a.eval y = .agg (cellsI ys).toArray)
    (lx : xs.length = 16) (ly : ys.length = 16) (hu : Try.prog.underlying t = some (.array 16 2)) (hg : Try.prog.eqGuardType Try.prog.depth t = false) (hK : wpM Try.prog ops C Q rest (a.put o.dst (.bool (!((List.range 16).all fun i => xs.getD i 0 == ys.getD i 0))))) : wpM Try.prog ops C Q (o :: rest) a := by
  have hm : multiOp o = false := by unfold multiOp; rw [ho]; rfl
  refine wpM_quiet hm fun K hK' => ?_
  rw [if_pos hw]
  refine ⟨_, fun w hw' => ?_, hK' _ hK⟩
  have hrun : (execOp a.eval o).run Try.prog w = .ok (.value (.bool (!((List.range 16).all fun i => xs.getD i 0 == ys.getD i 0)))) w := by
    simp only [execOp, ho, hx, hy]
    simp [eqGuard, binOp, hg, run_equal_ints xs ys w lx ly hu]
  unfold Oper.quietAt
  rw [hrun]
  exact ⟨rfl, rfl⟩
end
theorem range_blk {w : World} {b L k : Nat} {zs : List Nat} (h : HoldsI w (some ⟨b, 0, none⟩) L (rowsI zs)) (hk : k + 16 ≤ L) : w.rangeAt b k (cellsI (blk zs k)) := by
  intro j v hv
  have hj : j < 16 := by
    have := (List.getElem?_eq_some_iff.1 hv).1
    simpa [cellsI, blk_len] using this
  have e : v = .int .i64 ((rowsI zs).getD (k + j) 0) := by
    have h2 : (cellsI (blk zs k))[j]? = some (.int .i64 ((blk zs k).getD j 0)) := by
      simp [cellsI, List.getD, show j < (blk zs k).length by rw [blk_len]; exact hj]
    rw [h2] at hv
    rw [← blk_get zs k j hj]
    exact (Option.some.inj hv).symm
  rcases h.2 with h0 | ⟨b', off', e1, _, hc⟩
  · omega
  · simp only [Option.some.injEq, Addr.mk.injEq] at e1
    obtain ⟨rfl, rfl, _⟩ := e1
    rw [e, ← hc (k + j) (by omega), Nat.zero_add]
theorem OwnI.stored {w : World} {B n g c : Nat} {zs : List Int} (h : OwnI w B n (.slice (some ⟨g, 0, none⟩) n c) zs) (j : Nat) (u : Int) :
    OwnI (w.setCell ⟨g, j, none⟩ (.int .i64 u)) B n (.slice (some ⟨g, 0, none⟩) n c) (zs.set j u) ∧ But (some g) w (w.setCell ⟨g, j, none⟩ (.int .i64 u)) := by
  obtain ⟨h1, h2⟩ := World.ownsRow.stored h j (.int .i64 u)
  refine ⟨?_, h2⟩
  unfold OwnI
  rw [List.map_set]
  exact h1
theorem OwnI.cellAt {w : World} {B n g c : Nat} {zs : List Int} (h : OwnI w B n (.slice (some ⟨g, 0, none⟩) n c) zs) (j : Nat) (hj : j < n) : w.cell? ⟨g, j, none⟩ = some (.int .i64 (zs.getD j 0)) := by
  have hl := h.len
  rw [World.ownsRow.cellAt h j (by omega)]
  simp [List.getD, show j < zs.length by omega]
theorem OwnI.frozenAt {w : World} {B n g c : Nat} {zs : List Int} (h : OwnI w B n (.slice (some ⟨g, 0, none⟩) n c) zs) (j : Nat) : w.frozen? ⟨g, j, none⟩ = false := World.ownsRow.frozenAt h j
theorem OwnI.drewN {w : World} {B n : Nat} {v : Value} {zs : List Int} (h : OwnI w B n v zs) (m : Nat) : OwnI (w.drewN m) B n v zs := h
/-- the bits of the first k numbers, then zeros -/
def partI (zs : List Nat) (k L : Nat) : List Int := (zs.take k).map bitsI ++ List.replicate (L - k) 0
theorem partI_set (zs : List Nat) (k L : Nat) (hk : k < zs.length) (hL : zs.length ≤ L) : (partI zs k L).set k (bitsI (zs.getD k 0)) = partI zs (k + 1) L := by
  unfold partI
  apply List.ext_getElem
  · simp; omega
  · intro i h1 h2
    simp at h1 h2
    rw [List.getElem_set]
    by_cases hi : k = i
    · subst hi
      rw [if_pos rfl, List.getElem_append_left (by simp; omega)]
      simp [List.getD, hk]
    · rw [if_neg hi]
      by_cases h3 : i < k
      · rw [List.getElem_append_left (by simp; omega), List.getElem_append_left (by simp; omega)]
        simp
      · rw [List.getElem_append_right (by simp; omega), List.getElem_append_right (by simp; omega)]
        simp
theorem partI_full (zs : List Nat) : partI zs zs.length (rowN zs.length) = rowsI zs := by unfold partI rowsI; simp

set_option maxHeartbeats 2000000 in
set_option maxRecDepth 100000 in
theorem bitsInRows_any (a : Option Addr) (n c : Nat) (zs : List Nat) (w : World) (h : Holds .f32 w a n zs) (hn : n ≤ 1048576) (hk : Words n zs) :
    Calls Try.prog 56 #[.slice a n c] w fun e w' => ∃ b, e = .returned (.slice (some ⟨b, 0, none⟩) (rowN n) (rowN n)) ∧ OwnI w' w.heap.size (rowN n) (.slice (some ⟨b, 0, none⟩) (rowN n) (rowN n)) (rowsI zs) ∧ Ext w w' := by
  obtain ⟨L, hL⟩ : ∃ L, L = rowN n := ⟨_, rfl⟩
  have hb := rowN_le n
  rw [← hL] at hb ⊢
  have H1 := hid h
  have HN := hid hn
  have HK := hid hk
  have HZ := hid h.1
  have HLB := hid hb
  have HLR := hid (show rowN zs.length = L from by rw [h.1]; exact hL.symm)
  obtain ⟨i0, hi, hz0, hz1, hz2⟩ := info_parts infoI2
  have hmk : (Instr.makeSlice 63 (.int .i64 (L : Int)) (.int .i64 (L : Int))).run Try.prog w = .ok (.slice (some ⟨w.heap.size, 0, none⟩) L L) (w.alloc (.cells (madeCells #[.int .i64 0] L) 2)) := by
    have := run_make (P := Try.prog) w 63 2 i0 (.int .i64 0) Try.underlying63 hi hz0 .i64 .i64 (L : Int) (L : Int) (by omega) (by omega) (by rw [hz2]; omega) (by omega)
    rw [hz1] at this
    simpa [Value.cells] using this
  have O0 : Hid (OwnI (w.alloc (.cells (madeCells #[.int .i64 0] L) 2)) w.heap.size L (.slice (some ⟨w.heap.size, 0, none⟩) L L) (partI zs 0 L)) := hid (ownI_fresh (hid (by simp [madeCells, partI, Nat.mod_one, List.map_const'])) (by simp [partI]) rfl (Nat.le_refl _) (by unfold maxLen; omega))
  clear h hk hi hz0 hz1 hz2
  have hq1 : (n : Int) + 16 - 1 = ((n + 15 : Nat) : Int) := by omega
  have hq2 : ((n + 15 : Nat) : Int) / 16 = (((n + 15) / 16 : Nat) : Int) := by omega
  have hq3 : (((n + 15) / 16 : Nat) : Int) * 16 = (L : Int) := by rw [hL]; unfold rowN; omega
  have hq4 : (n + 15) / 16 ≤ 1048577 := by omega
  have hq5 : L ≤ 1048591 := by omega
  have hq6 : (((n + 15) / 16 : Nat) : Int) ≤ 1048577 := by omega
  have hq7 : (0 : Int) ≤ (((n + 15) / 16 : Nat) : Int) := by omega
  clear hL hb
  generalize (n + 15) / 16 = p at *
  generalize n + 15 = n15 at *
  go_enter Try.func56, Try.ntmps56
  go_wp2_with fail
  obtain ⟨w0, hw0⟩ : ∃ u, u = w.alloc (.cells (madeCells #[.int .i64 0] L) 2) := ⟨_, rfl⟩
  rw [← hw0] at O0 ⊢
  have E0 := hid (show Ext w w0 from by rw [hw0]; exact ext_alloc _ _)
  clear hw0
  go_loopw [17] (fun i wr => ∃ k : Nat, k ≤ n ∧ i = .int .i64 k ∧ Hid (OwnI wr w.heap.size L (.slice (some ⟨w.heap.size, 0, none⟩) L L) (partI zs k L)) ∧ Hid (Ext w wr)) (fun i _ => n - (intOf i).toNat)
  case atStart => exact ⟨0, Nat.zero_le _, rfl, O0, E0⟩
  case round =>
    obtain ⟨k, hk, rfl, ho, he⟩ := hrel
    have hn2 : n ≤ 1048576 := HN.out
    have hLn : n ≤ L := HLB.out.1
    by_cases hlt : k < n
    · obtain ⟨b, off, rfl, e1⟩ := cell_at H1.out he.out k hlt
      have e2 := OwnI.cellAt ho.out k (by omega)
      have hf := OwnI.frozenAt ho.out k
      have HS := hid (partI_set zs k L (by rw [HZ.out]; exact hlt) (by rw [HZ.out]; exact hLn))
      have hx := hid (HK.out k hlt)
      have HB : Hid (bitsC (cls .f32 (zs.getD k 0)) = bitsI (zs.getD k 0)) := hid rfl
      generalize bitsI (zs.getD k 0) = u at HS HB
      generalize zs.getD k 0 = x at e1 hx HB
      have hi0 : (0 : Int) ≤ (k : Int) := by omega
      have hi1 : (k : Int) < (n : Int) := by omega
      have hi2 : (k : Int) < (L : Int) := by omega
      go_wp2_with (go_at_call 94; refine (bitsOf_any _ hx.out _).mono ?_; rintro e w' ⟨rfl, m, rfl⟩; rw [HB.out])
      go_roundw
      case rel => exact ⟨k + 1, by omega, by go_num, hid (by have h9 := (OwnI.stored (OwnI.drewN ho.out m) k u).1; rw [HS.out] at h9; exact h9), hid (Ext.set (Ext.drewN he.out _) (by dsimp only; omega) _)⟩
      case measure => simp [intOf]; omega
    · have hkn : k = n := by omega
      subst hkn
      go_wp2
      go_ret
      exact ⟨_, rfl, by have h9 := ho.out; rw [← HLR.out, ← HZ.out] at h9; rw [← HLR.out]; rw [partI_full] at h9; exact h9, he.out⟩

set_option maxHeartbeats 2000000 in
set_option maxRecDepth 100000 in
theorem sameRows_any (b1 b2 L c1 c2 : Nat) (xs ys : List Nat) (w : World) (h1 : HoldsI w (some ⟨b1, 0, none⟩) L (rowsI xs)) (h2 : HoldsI w (some ⟨b2, 0, none⟩) L (rowsI ys)) (hl : xs.length = ys.length) (hL : L = rowN xs.length) (hn : L ≤ 1048591) (k1 : L ≤ c1) (k2 : L ≤ c2) :
    Calls Try.prog 55 #[.slice (some ⟨b1, 0, none⟩) L c1, .slice (some ⟨b2, 0, none⟩) L c2] w fun e w' => e = .returned (.bool (sameB xs ys)) ∧ ∃ m, w' = w.drewN m := by
  have H1 := hid h1
  have H2 := hid h2
  have HN := hid hn
  have HL := hid hl
  have HLR := hid hL
  clear h1 h2 hl hL
  go_enter Try.func55, Try.ntmps55
  go_wp2_with fail
  go_loopw [5] (fun i wr => ∃ q : Nat, 16 * q ≤ L ∧ i = .int .i64 ((16 * q : Nat) : Int) ∧ Hid (∀ j, j < 16 * q → j < xs.length → eqW (xs.getD j 0) (ys.getD j 0) = true) ∧ Hid (∃ m, wr = w.drewN m)) (fun i _ => L - (intOf i).toNat)
  case atStart => exact ⟨0, by omega, rfl, hid (fun j hj => by omega), hid ⟨0, rfl⟩⟩
  case round =>
    obtain ⟨q, hq, rfl, hr, hw⟩ := hrel
    by_cases hlt : 16 * q < L
    · have hq2 : 16 * q + 16 ≤ L := by have := HLR.out; unfold rowN at this; omega
      have R1 : Hid (∀ w', (∃ n, w' = wr.drewN n) → w'.rangeAt b1 (16 * q) (cellsI (blk xs (16 * q)))) := hid (by
        rintro w' ⟨n, rfl⟩
        obtain ⟨m, rfl⟩ := hw.out
        exact range_blk H1.out hq2)
      have R2 : Hid (∀ w', (∃ n, w' = wr.drewN n) → w'.rangeAt b2 (16 * q) (cellsI (blk ys (16 * q)))) := hid (by
        rintro w' ⟨n, rfl⟩
        obtain ⟨m, rfl⟩ := hw.out
        exact range_blk H2.out hq2)
      have HT := hid (fun h => blk_true (k := 16 * q) HL.out h hr.out)
      have HF := hid (fun h => blk_false (k := 16 * q) HL.out h)
      have hle : 16 ≤ L - 16 * q := by omega
      generalize hk : 16 * q = k at *
      have hi0 : (0 : Int) ≤ (k : Int) := by omega
      have hi1 : (k : Int) < (L : Int) := by omega
      have hi2 : (k : Int) ≤ (L : Int) := by omega
      have hi3 : (k : Int) ≤ (c1 : Int) := by omega
      have hi4 : (k : Int) ≤ (c2 : Int) := by omega
      have hi5 : ¬ c1 - k = 0 := by omega
      have hi6 : ¬ c2 - k = 0 := by omega
      have hi7 : ¬ c1 = k := by omega
      have hi8 : ¬ c2 = k := by omega
      have lb1 := hid (blk_len xs k)
      have lb2 := hid (blk_len ys k)
      have HE : Hid (blkEq xs ys k = (List.range 16).all fun i => (blk xs k).getD i 0 == (blk ys k).getD i 0) := hid rfl
      generalize blk xs k = B1 at *
      generalize blk ys k = B2 at *
      go_wp2_with fail
      refine wp_region_many (by kernel_rfl) (by kernel_rfl) (by kernel_rfl) ?_
      repeat (with_reducible refine wpM_cons ?_; first
        | (refine wpM_toArr rfl rfl rfl Try.underlying89 hle ?_)
        | (refine wpM_loadM rfl rfl rfl (cellsI B1) R1.out Try.underlying89 (by rw [cellsI, List.length_map, lb1.out]; kernel_rfl) ?_)
        | (refine wpM_loadM rfl rfl rfl (cellsI B2) R2.out Try.underlying89 (by rw [cellsI, List.length_map, lb2.out]; kernel_rfl) ?_)
        | (refine wpM_neqI (xs := B1) (ys := B2) rfl rfl rfl rfl lb1.out lb2.out Try.underlying89 (by kernel_rfl) ?_; rw [← HE.out])
        | (refine wpM_quiet rfl (fun K hK => ?_); go_simp; refine hK _ ?_; clear hK K))
      with_reducible refine wpM_nil ?_
      intro w3 hw3
      obtain ⟨nq, hw3⟩ := hw3
      have HW3 : Hid (∃ m, w3 = w.drewN m) := by
        obtain ⟨m, hm⟩ := hw.out
        exact hid ⟨m + nq, by rw [hw3, hm, World.drewN_drewN]⟩
      clear hw3
      cases hbe : blkEq xs ys k
      · have hs := hid (HF.out hbe)
        clear HT HF R1 R2
        go_wp2_with fail
        go_returns
        exact ⟨by rw [hs.out]; rfl, HW3.out⟩
      · have hs := hid (HT.out hbe)
        clear HT HF R1 R2
        go_wp2_with fail
        go_roundw
        case rel => exact ⟨q + 1, by omega, by rw [show 16 * (q + 1) = k + 16 by omega]; go_num, hid (by rw [show 16 * (q + 1) = k + 16 by omega]; exact hs.out), HW3⟩
        case measure => simp [intOf]; omega
    · have hkn : 16 * q = L := by omega
      have HG := hid (same_good HL.out (fun j hj => hr.out j (by have := HLR.out; have := rowN_le xs.length; omega) hj))
      generalize hk : 16 * q = k at *
      subst hkn
      go_wp2_with fail
      go_returns
      exact ⟨by rw [HG.out]; rfl, hw.out⟩
end Go.Proofs.Ytofhemganefhcaa

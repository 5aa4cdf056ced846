/- Steps without their last rung. -/
import Derived.Test.YtofhemganefhcaaW18
import Derived.Test.YtofhemganefhcaaFinOp
import Derived.Deep.MidRow
import Derived.Deep.RegionHeld3
import Derived.Test.YtofhemganefhcaaW10
import Derived.Laws.CopyOwn
import Derived.Test.YtofhemganefhcaaT13
import Derived.Test.YtofhemganefhcaaTail2
namespace Go.Proofs.Ytofhemganefhcaa
open Go.RowKit Flt
set_option linter.unusedVariables false


/-- the steps ahead of the last rung -/
def downF (cs : List (Option Nat)) (j : Nat) : Option Nat := fop .quo .f32 (fop .add .f32 (cs.getD j none) (fop .mul .f32 (cs.getD (cs.length - 1) none) (cs.getD (cs.length - 1 - 1 - j) none))) (fop .sub .f32 (some 1065353216) (fop .mul .f32 (cs.getD (cs.length - 1) none) (cs.getD (cs.length - 1) none)))
def downC (cs : List (Option Nat)) : List (Option Nat) := listK (downF cs) (cs.length - 1)
section
variable {P : Program} {ops : Array Oper} {Q : Exit → Act → World → Prop} {md : Region.Mode} {S : World → Prop}
theorem takeV {i : Nat} {oi : Oper} {fuel : Nat} {listed : Array Bool} {a : Act} {w : World} (v : Value) (hi : ops[i]? = some oi)
    (hs : Region.noSelect ops = true) (hf : Region.free md ops listed i = true) (hr : (Region.ready md ops listed).contains i = true)
    (hQ : ∀ c a w, Q (.panic c) (a.put oi.dst v) w → Q (.panic c) a w) (hw : Region.wanted oi (yielded ops a.tmps) = true) (hS : S w) (hrun : ∀ u, S u → (execOp a.eval oi).run P u = .ok (.value v) u)
    (h : wpAnyH P md ops Q S fuel (listed.setIfInBounds i true) (a.put oi.dst v) w) : wpAnyH P md ops Q S (fuel + 1) listed a w :=
  wpAnyH_take hi hs hf hr hQ (.inl ⟨hw, hrun⟩) hS h
end
theorem exec_loadA {o : Oper} {a : Act} {w : World} {t : TypeId} {x : Operand} {b : Nat} {zs : List Nat} {n : Nat} {e : TypeId} (ho : o.op = .load t x) (hx : a.eval x = .pointer (some ⟨b, 0, none⟩)) (hu : Try.prog.underlying t = some (.array n e)) (hi : (Try.prog.info? t).map (·.size) = some 16) (hA : Arr w b zs) :
    (execOp a.eval o).run Try.prog w = .ok (.value (.agg (rowA zs))) w := by
  have hr : (Instr.loadAt t (.pointer (some ⟨b, 0, none⟩))).run Try.prog w = .ok (.agg (rowA zs)) w := by
    have := run_loadA (P := Try.prog) hu hi hA
    simp [Instr.loadAt, Instr.sureAddr, this]
  simp [execOp, ho, hx, hr, Result.andThen]
theorem wp_storeA {o : Oper} {a : Act} {w : World} {K : Act → World → Prop} {Q : Exit → Act → World → Prop} {t : TypeId} {x y : Operand} {b : Nat} {old zs : List Nat} (ho : o.op = .store t x y) (hx : a.eval x = .pointer (some ⟨b, 0, none⟩)) (hy : a.eval y = .agg (rowA zs)) (hi : (Try.prog.info? t).map (·.size) = some 16) (hA : Arr w b old) (hl : zs.length = 16)
    (h : ∀ w', Arr w' b zs → But (some b) w w' → K (a.put o.dst undef) w') : Oper.wp Try.prog o a w K Q := by
  have hr := Arr.row (zs := zs) hA hl
  unfold Oper.wp
  have hs : (Instr.storeAt t (.pointer (some ⟨b, 0, none⟩)) (.agg (rowA zs))).run Try.prog w = .ok () (w.setRow b (rowA zs)) := by
    have := run_storeA (P := Try.prog) hi hA hl
    simp [Instr.storeAt, Instr.sureAddr, this]
  simp [execOp, ho, hx, hy, hs, Result.andThen]
  exact h _ hr.1 hr.2
set_option maxHeartbeats 4000000 in
set_option maxRecDepth 100000 in
theorem withoutRung_any (zs : List Nat) (k : Nat) (w : World) (hl : zs.length = 16) (hk : k < 16) :
    Calls Try.prog 89 #[.agg (rowA zs), .int .i64 ((k : Int) + 1)] w fun e w' => ∃ ys, e = .returned (.agg (rowA ys)) ∧ ys.length = 16 ∧ (ys.take k).map (cls .f32) = downC ((zs.take (k + 1)).map (cls .f32)) ∧ (∀ j, k ≤ j → ys.getD j 0 = zs.getD j 0) ∧ Ext w w' := by
  have HL := hid hl
  have HK := hid hk
  obtain ⟨w2, hw2⟩ : ∃ u, u = (w.alloc (.cells (rowA zs) 83)).alloc (.cells #[.float .f32 0, .float .f32 0, .float .f32 0, .float .f32 0, .float .f32 0, .float .f32 0, .float .f32 0, .float .f32 0, .float .f32 0, .float .f32 0, .float .f32 0, .float .f32 0, .float .f32 0, .float .f32 0, .float .f32 0, .float .f32 0] 83) := ⟨_, rfl⟩
  have A3 : Hid (Arr w2 w.heap.size zs) := by rw [hw2]; exact hid (Arr.alloc (arr_new (w := w) 83 hl) _)
  have A6 : Hid (Arr w2 (w.heap.size + 1) zeros16) := by rw [hw2, ← zeros_row]; exact hid (arr_cast (arr_new (w := w.alloc (.cells (rowA zs) 83)) 83 rfl) (by simp))
  have EX := hid (show Ext w w2 from by rw [hw2]; (repeat with_reducible (first | exact Ext.refl _ | exact ext_alloc _ _ | refine Ext.drewN ?_ _ | refine Ext.drew1 ?_ | refine Ext.set ?_ (by dsimp only; omega) _ | refine Ext.alloc ?_ _)))
  have HZ := hid (show w2.heap.size = w.heap.size + 2 from by rw [hw2]; simp)
  go_enter Try.func89, Try.ntmps89
  go_wp2_with fail
  rw [← hw2]
  clear hw2
  have hik : (k : Int) + 1 - 1 = (k : Int) := by omega
  have hk0 : (0 : Int) ≤ (k : Int) := by omega
  have hk1 : (k : Int) < 16 := by omega
  obtain ⟨x, hx⟩ : ∃ x, zs.getD k 0 = x := ⟨_, rfl⟩
  have hxk := hid hx
  clear hx
  refine wp_region_held_drew (S := fun u => Arr u w.heap.size zs) (by kernel_rfl) (by exact A3.out) (fun hS => ?_)
  refine takeV (i := 0) (.agg (rowA zs)) rfl (by kernel_rfl) (by kernel_rfl) (by kernel_rfl) (fun _ _ _ h => h) (by kernel_rfl) hS (fun u hu => ?_) ?_
  · exact exec_loadA rfl rfl Try.underlying83 infoA hu
  refine takeV (i := 1) (.int .i64 ((k : Int) + 1)) rfl (by kernel_rfl) (by kernel_rfl) (by kernel_rfl) (fun _ _ _ h => h) (by kernel_rfl) hS (fun u hu => rfl) ?_
  refine takeV (i := 2) (.int .i64 (k : Int)) rfl (by kernel_rfl) (by kernel_rfl) (by kernel_rfl) (fun _ _ _ h => h) (by kernel_rfl) hS (fun u hu => ?_) ?_
  · go_simp
    rw [IntKind.wrap_i64]; omega
  refine takeV (i := 3) (.pointer (some ⟨w.heap.size, k, none⟩)) rfl (by kernel_rfl) (by kernel_rfl) (by kernel_rfl) (fun _ _ _ h => h) (by kernel_rfl) hS (fun u hu => ?_) ?_
  · go_simp
  refine takeV (i := 4) (.float .f32 x) rfl (by kernel_rfl) (by kernel_rfl) (by kernel_rfl) (fun _ _ _ h => h) (by kernel_rfl) hS (fun u hu => ?_) ?_
  · have hc := hu.cellAt k (by omega)
    rw [hxk.out] at hc
    go_simp
  refine wpAnyH_ready (rs := [5]) (by kernel_rfl) (by simp) (AllReadyH.cons rfl (fun K' hK' => ?_) AllReadyH.nil)
  rw [if_pos (by kernel_rfl)]
  go_simp
  refine hK'.out _ _ (Arr.alloc hS _) (fun hS2 => ?_)
  clear hK' K' hS
  have A7 : Arr (w2.drew.alloc (.cells #[.float .f32 0, .float .f32 0, .float .f32 0, .float .f32 0, .float .f32 0, .float .f32 0, .float .f32 0, .float .f32 0, .float .f32 0, .float .f32 0, .float .f32 0, .float .f32 0, .float .f32 0, .float .f32 0, .float .f32 0, .float .f32 0] 83)) w2.heap.size zeros16 := by rw [← zeros_row]; exact arr_cast (arr_new (w := w2.drew) 83 rfl) rfl
  have A6b : Arr (w2.drew.alloc (.cells #[.float .f32 0, .float .f32 0, .float .f32 0, .float .f32 0, .float .f32 0, .float .f32 0, .float .f32 0, .float .f32 0, .float .f32 0, .float .f32 0, .float .f32 0, .float .f32 0, .float .f32 0, .float .f32 0, .float .f32 0, .float .f32 0] 83)) (w.heap.size + 1) zeros16 := Arr.alloc (Arr.drewN A6.out 1) _
  have E7 : Ext w (w2.drew.alloc (.cells #[.float .f32 0, .float .f32 0, .float .f32 0, .float .f32 0, .float .f32 0, .float .f32 0, .float .f32 0, .float .f32 0, .float .f32 0, .float .f32 0, .float .f32 0, .float .f32 0, .float .f32 0, .float .f32 0, .float .f32 0, .float .f32 0] 83)) := Ext.alloc (Ext.drew1 EX.out) _
  refine wpAnyH_ready (rs := [6]) (by kernel_rfl) (by simp) (AllReadyH.cons rfl (fun K' hK' => ?_) AllReadyH.nil)
  rw [if_pos (by kernel_rfl)]
  refine wp_storeA (zs := zs) rfl rfl rfl infoA A7 HL.out (fun w4 A8 hb => ?_)
  have HZ2 := HZ.out
  refine hK'.out _ _ (Arr.but hb hS2 (by simp; omega)) (fun hS3 => ?_)
  clear hK' K'
  refine wpAnyH_ready (rs := [7]) (by kernel_rfl) (by simp) (AllReadyH.cons rfl (fun K' hK' => ?_) AllReadyH.nil)
  rw [if_pos (by kernel_rfl)]
  go_simp
  refine hK'.out _ _ hS3 (fun hS4 => ?_)
  clear hK' K' hS4
  refine wpAnyH_done (by kernel_rfl) ?_ _
  have A7h := hid (arr_cast A8 HZ2)
  have A3h := hid hS3
  have A6h := hid (Arr.but hb A6b (by simp; omega))
  have hE := hid (show Ext w w4 from But.below hb E7 (fun k hk => by cases hk; omega))
  clear A7 A8 A6b E7 hb hS2 hS3 A3 A6 EX HZ HZ2
  have hx := hxk.out
  have HCC := hid (fun j (hj : j < k) => show downF ((zs.take (k + 1)).map (cls .f32)) j = fop .quo .f32 (fop .add .f32 (cls .f32 (zs.getD j 0)) (fop .mul .f32 (cls .f32 x) (cls .f32 (zs.getD (k - 1 - j) 0)))) (fop .sub .f32 (some 1065353216) (fop .mul .f32 (cls .f32 x) (cls .f32 x))) from by
    have h1 := HL.out
    have h2 := HK.out
    have h3 : ((zs.take (k + 1)).map (cls .f32)).length - 1 = k := by simp; omega
    unfold downF
    rw [h3, take_getD (by omega) (by omega), take_getD (by omega) (by omega), take_getD (by omega) (by omega), hx])
  clear hx
  have hk2 : k < 16 := HK.out
  go_wp2_with fail
  go_loopw [15] (fun v wr => ∃ (t : Nat) (us : List Nat), t ≤ k ∧ v = .int .i64 t ∧ Hid (Arr wr w.heap.size zs) ∧ Hid (Arr wr (w.heap.size + 1) zeros16) ∧ Hid (Arr wr (w.heap.size + 2) us) ∧ Hid (∀ j, j < 16 → cls .f32 (us.getD j 0) = if j < t then downF ((zs.take (k + 1)).map (cls .f32)) j else cls .f32 (zs.getD j 0)) ∧ Hid (∀ j, k ≤ j → us.getD j 0 = zs.getD j 0) ∧ Hid (Ext w wr)) (fun v _ => k - (intOf v).toNat)
  case atStart => exact ⟨0, zs, Nat.zero_le _, rfl, A3h, A6h, A7h, hid (fun j hj => by simp), hid (fun j hj => rfl), hE⟩
  case round =>
    obtain ⟨t, us, ht, rfl, h3, h6, h7, hu, hrest, he⟩ := hrel
    by_cases hlt : t < k
    · have e1 := Arr.cellAt h3.out t (by omega)
      have e2 := Arr.cellAt h3.out (k - 1 - t) (by omega)
      have e3 := Arr.cellAt h7.out t (by omega)
      have hf := Arr.frozenAt h7.out t
      have HC2 := hid (HCC.out t hlt)
      have HUL := hid h7.out.2
      have HST : Hid (∀ r, cls .f32 r = downF ((zs.take (k + 1)).map (cls .f32)) t → ∀ j, j < 16 → cls .f32 ((us.set t r).getD j 0) = if j < t + 1 then downF ((zs.take (k + 1)).map (cls .f32)) j else cls .f32 (zs.getD j 0)) := by
        intro r hr j hj
        rw [getD_set16 _ _ _ _ (by rw [HUL.out]; omega)]
        by_cases hjt : j = t
        · subst hjt; rw [if_pos rfl, if_pos (Nat.lt_succ_self _), hr]
        · rw [if_neg hjt, hu.out j hj]
          by_cases h : j < t
          · rw [if_pos h, if_pos (by omega)]
          · rw [if_neg h, if_neg (by omega)]
      have HRS : Hid (∀ r j, k ≤ j → (us.set t r).getD j 0 = zs.getD j 0) := by
        intro r j hj
        rw [← hrest.out j hj]
        simp only [List.getD, List.getElem?_set]
        rw [if_neg (by omega)]
      generalize zs.getD t 0 = u at e1 HC2
      generalize zs.getD (k - 1 - t) 0 = v at e2 HC2
      have hi0 : (0 : Int) ≤ (t : Int) := by omega
      have hi1 : (t : Int) < (k : Int) := by omega
      have hi2 : (t : Int) < 16 := by omega
      have hi3 : (0 : Int) ≤ ((k - 1 - t : Nat) : Int) := by omega
      have hi4 : ((k - 1 - t : Nat) : Int) < 16 := by omega
      have hi5 : ((k - 1 - t : Nat) : Int).toNat = k - 1 - t := rfl
      have hi6 : (k : Int) + 1 - 2 = (k : Int) - 1 := by omega
      have hi7 : (k : Int) - 1 - (t : Int) = ((k - 1 - t : Nat) : Int) := by omega
      have hi8 : k - 1 - t < 16 := by omega
      generalize hp : k - 1 - t = p at *
      go_wp2_with fail
      refine wp_region_tail 19 (by kernel_rfl) (by kernel_rfl) (by kernel_rfl) ?_
      simp only [List.take_succ_cons, List.take_zero, List.drop_succ_cons, List.drop_zero]
      repeat (with_reducible refine wpM_cons ?_; first
        | (refine wpM_fa rfl rfl rfl rfl rfl (by first | assumption | exact is_self _ _ | exact is_const (by decide)) (by first | assumption | exact is_self _ _ | exact is_const (by decide)) ?_; intro r hr hrw)
        | (refine wpM_mult0 rfl rfl ?_; refine mult_isub ((k : Int) - 1 : Int) rfl rfl rfl (by omega) (by omega) (by omega) ?_; simp only [Act.put, List.setIfInBounds_toArray, List.set_cons_zero, List.set_cons_succ])
        | (refine wpM_mult0 rfl rfl ?_; refine mult_isub ((p : Int) : Int) rfl rfl rfl (by omega) (by omega) (by omega) ?_; simp only [Act.put, List.setIfInBounds_toArray, List.set_cons_zero, List.set_cons_succ])
        | (refine wpM_quiet rfl (fun K hK => ?_); go_simp; refine hK _ ?_; clear hK K))
      with_reducible refine wpM_nil ?_
      intro w5 hw5
      obtain ⟨nq, hw5⟩ := hw5
      subst hw5
      go_wp2_with fail
      have HF := hid (HST.out r (by rw [HC2.out]; exact Is.out hr))
      have HG := hid (HRS.out r)
      go_roundw
      case rel => exact ⟨t + 1, us.set t r, by omega, by go_num, hid (Arr.far (Arr.drewN h3.out _) (by omega) _), hid (Arr.far (Arr.drewN h6.out _) (by omega) _), hid (Arr.stored (Arr.drewN h7.out _) t r), HF, HG, hid (Ext.set (Ext.drewN he.out _) (by dsimp only; omega) _)⟩
      case measure => simp [intOf]; omega
    · have htk : t = k := by omega
      subst htk
      go_wp2_with (first | (refine wpList_loadA rfl rfl rfl Try.underlying83 infoA (h7.out) ?_) | (refine wpList_storeA rfl rfl rfl rfl infoA (h6.out) (h7.out.2) ?_; intro w9 A9 hb9))
      have A9h := hid A9
      have hE9 := hid (show Ext w w9 from But.below hb9 he.out (fun k hk => by cases hk; omega))
      clear A9 hb9
      refine bodyPost_ret (ret_arr1 Try.results89 rfl A9h.out Try.underlying83 infoA) rfl ?_
      refine ⟨us, rfl, h7.out.2, ?_, hrest.out, hE9.out⟩
      have hul := h7.out.2
      have hzl := HL.out
      have hlen : ((zs.take (t + 1)).map (cls .f32)).length - 1 = t := by simp; omega
      unfold downC listK
      rw [hlen]
      apply List.ext_getElem
      · simp; omega
      · intro j h1 h2
        simp at h1
        have e9 : ((us.take t).map (cls .f32))[j] = cls .f32 (us.getD j 0) := by
          rw [List.getElem_map, List.getElem_take]
          simp only [List.getD, List.getElem?_eq_getElem (show j < us.length by omega), Option.getD_some]
        rw [e9, hu.out j (by omega), if_pos (by omega)]
        simp


section
open Ieee
theorem fin_quo1 {X Y : Option Nat} (hX : ∀ b, X = some b → nanW .f32 b = false) (hY : ∀ b, Y = some b → nanW .f32 b = false) (h : fin32 (fop .quo .f32 X Y) = true) : fin32 X = true := by
  cases X with
  | none => cases h
  | some a =>
    cases Y with
    | none => cases h
    | some b =>
      have h' : fin32 (((FloatKind.f32.format.read a).quotient (FloatKind.f32.format.fractionBits + 2) (FloatKind.f32.format.read b)).map FloatKind.f32.format.write) = true := h
      rcases read32 a (hX a rfl) with ⟨s, hr⟩ | ⟨s, m, i, hr, _⟩
      · exfalso
        rw [hr] at h'
        rcases read32 b (hY b rfl) with ⟨t, hk⟩ | ⟨t, n, j, hk, _⟩
        · rw [hk] at h'
          cases s <;> cases t <;> revert h' <;> decide
        · rw [hk, show ((Datum.infinity s).quotient (FloatKind.f32.format.fractionBits + 2) (Datum.number t n j)) = some (.infinity (s ^^ t)) from rfl] at h'
          have e2 : fin32 (some (FloatKind.f32.format.write (.infinity (s ^^ t)))) = true := h'
          rw [inf_not_fin] at e2; cases e2
      · exact fin_number hr
theorem ok_fin {X : Option Nat} (hX : ∀ b, X = some b → nanW .f32 b = false) (h : okC X = true) : fin32 X = true := by
  cases X with
  | none => cases h
  | some a =>
    rcases read32 a (hX a rfl) with ⟨s, hr⟩ | ⟨s, m, i, hr, _⟩
    · exfalso
      have e1 : okC (some a) = okC (some (FloatKind.f32.format.write (.infinity s))) := by
        have e2 : FloatKind.f32.format.read (FloatKind.f32.format.write (.infinity s)) = .infinity s := by cases s <;> decide
        unfold okC ford
        simp only [Option.bind_some, Format.order, hr, e2]
      rw [e1] at h
      cases s <;> revert h <;> decide
    · exact fin_number hr
end
def NumC (cs : List (Option Nat)) : Prop := ∀ j b, cs.getD j none = some b → nanW .f32 b = false
theorem num_map (zs : List Nat) : NumC (zs.map (cls .f32)) := by
  intro j b h
  by_cases hj : j < zs.length
  · have e : (zs.map (cls .f32)).getD j none = cls .f32 zs[j] := by simp [List.getD, hj]
    rw [e] at h
    exact num_of_cls _ b h
  · have e : (zs.map (cls .f32)).getD j none = none := by simp [List.getD, hj]
    rw [e] at h; cases h
theorem downC_len (cs : List (Option Nat)) : (downC cs).length = cs.length - 1 := by unfold downC; rw [listK_len]
theorem downC_get (cs : List (Option Nat)) {j : Nat} (hj : j < cs.length - 1) : (downC cs).getD j none = downF cs j := by
  unfold downC listK
  simp [List.getD, hj]
theorem num_down (cs : List (Option Nat)) : NumC (downC cs) := by
  intro j b h
  by_cases hj : j < cs.length - 1
  · rw [downC_get cs hj] at h
    exact num_of_fop b h
  · have e : (downC cs).getD j none = none := by
      have := downC_len cs
      simp [List.getD, show ¬ j < (downC cs).length by omega]
    rw [e] at h; cases h
def downsI : Nat → List (Option Nat) → Option (List (Option Nat))
  | 0, _ => some []
  | m + 1, cs => if okC (cs.getD m none) then (downsI m (downC cs)).map (· ++ [cs.getD m none]) else none
def downsS : Nat → List (Option Nat) → Option (List (Option Nat))
  | 0, _ => some []
  | m + 1, cs => if okC (cs.getD m none) && finsC (downC cs) then (downsS m (downC cs)).map (· ++ [cs.getD m none]) else none
theorem downsI_bad : ∀ (m : Nat) (cs : List (Option Nat)), cs.length = m → NumC cs → ∀ j, j < m → fin32 (cs.getD j none) = false → downsI m cs = none
  | 0, _, _, _, j, hj, _ => by omega
  | m + 1, cs, hl, hn, j, hj, hf => by
    unfold downsI
    split
    · rename_i ho
      have hjm : j ≠ m := by
        rintro rfl
        rw [ok_fin (hn j) ho] at hf
        cases hf
      have h1 : downsI m (downC cs) = none := by
        refine downsI_bad m (downC cs) (by rw [downC_len, hl]; rfl) (num_down cs) j (by omega) ?_
        rw [downC_get cs (by omega)]
        cases hc : fin32 (downF cs j)
        · rfl
        · exfalso
          unfold downF at hc
          have h2 := fin_quo1 num_of_fop num_of_fop hc
          have h3 := (fin_add (hn j) num_of_fop h2).1
          rw [hf] at h3; cases h3
      rw [h1]; rfl
    · rfl
theorem fins_bad {cs : List (Option Nat)} (h : finsC cs = false) : ∃ j, j < cs.length ∧ fin32 (cs.getD j none) = false := by
  unfold finsC at h
  rw [List.all_eq_false] at h
  obtain ⟨X, hX, hf⟩ := h
  obtain ⟨j, hj, rfl⟩ := List.mem_iff_getElem.1 hX
  refine ⟨j, hj, ?_⟩
  have e : cs.getD j none = cs[j] := by simp [List.getD, hj]
  rw [e]
  simpa using hf
theorem downs_eq : ∀ (m : Nat) (cs : List (Option Nat)), cs.length = m → NumC cs → downsS m cs = downsI m cs
  | 0, _, _, _ => rfl
  | m + 1, cs, hl, hn => by
    have hld : (downC cs).length = m := by rw [downC_len, hl]; rfl
    unfold downsS downsI
    rw [downs_eq m (downC cs) hld (num_down cs)]
    cases ho : okC (cs.getD m none)
    · simp
    · cases hf : finsC (downC cs)
      · obtain ⟨j, hj, hb⟩ := fins_bad hf
        rw [downsI_bad m (downC cs) hld (num_down cs) j (by omega) hb]
        simp
      · simp
theorem downsS_len : ∀ (m : Nat) (cs L : List (Option Nat)), downsS m cs = some L → L.length = m
  | 0, _, L, h => by unfold downsS at h; cases h; rfl
  | m + 1, cs, L, h => by
    unfold downsS at h
    split at h
    · cases hd : downsS m (downC cs) with
      | none => rw [hd] at h; cases h
      | some K =>
        rw [hd] at h
        cases h
        simp [downsS_len m _ K hd]
    · cases h
/-- what StepDown tells -/
def downR (us : List Nat) : List (Option Nat) × Bool := match downsS us.length (us.map (cls .f32)) with
  | some L => (L, true)
  | none => ([], false)
def stepDownR (us : List Nat) (g : Option Nat) : List (Option Nat) × Bool := if predC (us.map (cls .f32)) g then downR us else ([], false)
theorem downR_len (us : List Nat) : (downR us).1.length ≤ us.length := by
  unfold downR
  cases h : downsS us.length (us.map (cls .f32)) with
  | none => exact Nat.zero_le _
  | some L => exact Nat.le_of_eq (downsS_len _ _ _ h)


theorem take_zeros (us : List Nat) (d : Nat) : (us ++ List.replicate d 0).take us.length = us := by simp
theorem down_step {cs : List (Option Nat)} {zs ys : List Nat} {n p : Nat} (hp : p < n) (hn : n ≤ 16) (hz : zs.length = 16) (hy : ys.length = 16) (hok : okC (cls .f32 (zs.getD p 0)) = true)
    (hyc : (ys.take p).map (cls .f32) = downC ((zs.take (p + 1)).map (cls .f32))) (hr : ∀ j, p ≤ j → ys.getD j 0 = zs.getD j 0)
    (h : downsI n cs = (downsI (p + 1) ((zs.take (p + 1)).map (cls .f32))).map (· ++ ((zs.drop (p + 1)).take (n - (p + 1))).map (cls .f32))) :
    downsI n cs = (downsI p ((ys.take p).map (cls .f32))).map (· ++ ((ys.drop p).take (n - p)).map (cls .f32)) := by
  rw [h, hyc]
  have e : ((zs.take (p + 1)).map (cls .f32)).getD p none = cls .f32 (zs.getD p 0) := take_getD (by omega) (by omega)
  have e2 : (ys.drop p).take (n - p) = zs.getD p 0 :: (zs.drop (p + 1)).take (n - (p + 1)) := by
    apply List.ext_getElem
    · simp; omega
    · intro j h1 h2
      simp at h1
      rw [List.getElem_take, List.getElem_drop]
      have h3 := hr (p + j) (by omega)
      simp only [List.getD, List.getElem?_eq_getElem (show p + j < ys.length by omega), List.getElem?_eq_getElem (show p + j < zs.length by omega), Option.getD_some] at h3
      rw [h3]
      cases j with
      | zero => simp [List.getD, show p < zs.length by omega]
      | succ j =>
        rw [List.getElem_cons_succ, List.getElem_take, List.getElem_drop]
        congr 1; omega
  show (if okC (((zs.take (p + 1)).map (cls .f32)).getD p none) then (downsI p (downC ((zs.take (p + 1)).map (cls .f32)))).map (· ++ [((zs.take (p + 1)).map (cls .f32)).getD p none]) else none).map _ = _
  rw [e, hok, if_pos rfl, e2]
  cases downsI p (downC ((zs.take (p + 1)).map (cls .f32))) with
  | none => rfl
  | some K => simp
theorem down_stop {cs : List (Option Nat)} {zs : List Nat} {n p : Nat} (hz : zs.length = 16) (hp : p < 16) (hok : okC (cls .f32 (zs.getD p 0)) = false)
    (h : downsI n cs = (downsI (p + 1) ((zs.take (p + 1)).map (cls .f32))).map (· ++ ((zs.drop (p + 1)).take (n - (p + 1))).map (cls .f32))) : downsI n cs = none := by
  rw [h]
  have e : ((zs.take (p + 1)).map (cls .f32)).getD p none = cls .f32 (zs.getD p 0) := take_getD (by omega) (by omega)
  show (if okC (((zs.take (p + 1)).map (cls .f32)).getD p none) then (downsI p (downC ((zs.take (p + 1)).map (cls .f32)))).map (· ++ [((zs.take (p + 1)).map (cls .f32)).getD p none]) else none).map _ = _
  rw [e, hok]; rfl
theorem downR_eq (us : List Nat) : downR us = match downsI us.length (us.map (cls .f32)) with
  | some L => (L, true)
  | none => ([], false) := by
  unfold downR; rw [downs_eq _ _ (by simp) (num_map us)]
  all_goals (cases downsI us.length (us.map (cls .f32)) <;> rfl)
theorem hsz32 : (Try.prog.info? 23).map (·.size) = some 1 := by kernel_rfl
theorem below_drewN (B : Nat) (w : World) (n : Nat) : Below B w (w.drewN n) := ⟨rfl, rfl, rfl, Nat.le_refl _, fun _ _ => rfl⟩
theorem hold_cell0 {w : World} {b off n : Nat} {zs : List Nat} (h : Holds .f32 w (some ⟨b, off, none⟩) n zs) : ∀ i, i < n → w.cell? ⟨b, off + i, none⟩ = some (.float .f32 (zs.getD i 0)) := by
  intro i hi
  rcases h.2 with h0 | ⟨b', off', e, _, hc⟩
  · omega
  · simp only [Option.some.injEq, Addr.mk.injEq] at e
    obtain ⟨rfl, rfl, _⟩ := e
    exact hc i hi
set_option maxHeartbeats 4000000 in
set_option maxRecDepth 100000 in
theorem stepDown_any (a : Option Addr) (n c g : Nat) (us : List Nat) (L : List (Option Nat)) (O : Bool) (w : World) (h : Holds .f32 w a n us) (hn : n ≤ 1048576) (hR : stepDownR us (cls .f32 g) = (L, O)) :
    Calls Try.prog 48 #[.agg #[.slice a n c, .float .f32 g]] w fun e w' => ∃ v, e = .returned (.tuple #[v, .bool O]) ∧ ListIs w' w.heap.size L v ∧ Ext w w' := by
  have H1 := hid h
  have HN := hid hn
  have HL := hid h.1
  have HR := hid hR
  clear h hn hR
  cases hV : predC (us.map (cls .f32)) (cls .f32 g)
  · have e : O = false ∧ L = [] := by have := HR.out; unfold stepDownR at this; rw [hV] at this; simpa [eq_comm, and_comm] using this
    obtain ⟨rfl, rfl⟩ := e
    go_enter Try.func48, Try.ntmps48
    go_wp2_with (first | (go_at_call 18; with_reducible refine (validP_drew a n c g us _ _ (Holds.ext H1.out (by (repeat with_reducible (first | exact Ext.refl _ | exact ext_alloc _ _ | refine Ext.drewN ?_ _ | refine Ext.drew1 ?_ | refine Ext.set ?_ (by dsimp only; omega) _ | refine Ext.alloc ?_ _)))) HN.out hV).mono ?_; rintro e w' ⟨rfl, m1, rfl⟩))
    go_returns
    refine ⟨_, rfl, nil_is _ _, ?_⟩
    (repeat with_reducible (first | exact Ext.refl _ | exact ext_alloc _ _ | refine Ext.drewN ?_ _ | refine Ext.drew1 ?_ | refine Ext.set ?_ (by dsimp only; omega) _ | refine Ext.alloc ?_ _))
  have HQ := hid (show downR us = (L, O) from by have := HR.out; unfold stepDownR at this; rw [hV] at this; exact this)
  have HP := hid (pred_len hV)
  have H16 := hid (show n ≤ 16 from by have := HP.out.2; simp at this; have := HL.out; omega)
  have H01 := hid (show 1 ≤ n from by have := HP.out.1; simp at this; have := HL.out; omega)
  have HSZ := hid hsz32
  clear HR HP
  obtain ⟨ba, off, rfl⟩ : ∃ ba off, a = some ⟨ba, off, none⟩ := by
    rcases H1.out.2 with h0 | ⟨b, off, rfl, _⟩
    · have := H01.out; omega
    · exact ⟨_, _, rfl⟩
  have hn16 : n ≤ 16 := H16.out
  have hi16 : (n : Int) ≤ 16 := by omega
  go_enter Try.func48, Try.ntmps48
  go_wp2_with (first | (go_at_call 18; with_reducible refine (validP_drew (some ⟨ba, off, none⟩) n c g us _ _ (Holds.ext H1.out (by (repeat with_reducible (first | exact Ext.refl _ | exact ext_alloc _ _ | refine Ext.drewN ?_ _ | refine Ext.drew1 ?_ | refine Ext.set ?_ (by dsimp only; omega) _ | refine Ext.alloc ?_ _)))) HN.out hV).mono ?_; rintro e w' ⟨rfl, m1, rfl⟩))
  obtain ⟨w0, hw0⟩ : ∃ u, u = (((w.alloc (.cells #[.slice (some ⟨ba, off, none⟩) n c, .float .f32 g] 28)).alloc (.cells #[.slice (some ⟨ba, off, none⟩) n c, .float .f32 g] 28)).drewN m1).alloc (.cells #[.float .f32 0, .float .f32 0, .float .f32 0, .float .f32 0, .float .f32 0, .float .f32 0, .float .f32 0, .float .f32 0, .float .f32 0, .float .f32 0, .float .f32 0, .float .f32 0, .float .f32 0, .float .f32 0, .float .f32 0, .float .f32 0] 83) := ⟨_, rfl⟩
  rw [← hw0]
  have EX := hid (show Ext w w0 from by rw [hw0]; (repeat with_reducible (first | exact Ext.refl _ | exact ext_alloc _ _ | refine Ext.drewN ?_ _ | refine Ext.drew1 ?_ | refine Ext.set ?_ (by dsimp only; omega) _ | refine Ext.alloc ?_ _)))
  have B1 : Hid (Box w0 w.heap.size #[.slice (some ⟨ba, off, none⟩) n c, .float .f32 g]) := by rw [hw0]; exact hid (Box.alloc (Box.drewN (Box.alloc (box_new (w := w) #[.slice (some ⟨ba, off, none⟩) n c, .float .f32 g] 28) _) _) _)
  have A4 : Hid (Arr w0 (w.heap.size + 2) zeros16) := by rw [hw0, ← zeros_row]; exact hid (arr_cast (arr_new (w := ((w.alloc (.cells #[.slice (some ⟨ba, off, none⟩) n c, .float .f32 g] 28)).alloc (.cells #[.slice (some ⟨ba, off, none⟩) n c, .float .f32 g] 28)).drewN m1) 83 rfl) (by simp))
  have HZ := hid (show w0.heap.size = w.heap.size + 3 from by rw [hw0]; simp)
  clear hw0
  obtain ⟨y0, y1, yl⟩ := Box.cells2 B1.out
  go_wp2_with fail
  refine wp_region_tail 3 (by kernel_rfl) (by kernel_rfl) (by kernel_rfl) ?_
  simp only [List.take_succ_cons, List.take_zero, List.drop_succ_cons, List.drop_zero]
  repeat (with_reducible refine wpM_cons ?_; first
    | (refine wpM_quiet rfl (fun K hK => ?_); go_simp; refine hK _ ?_; clear hK K))
  with_reducible refine wpM_nil ?_
  intro w5 hw5
  obtain ⟨nq, hw5⟩ := hw5
  subst hw5
  clear y0 y1 yl
  obtain ⟨⟨t4, hg4⟩, _⟩ := A4.out
  have HG := hid (show (w0.drewN nq).heap[w.heap.size + 2]? = some (.cells (zeros16.map (Value.float .f32)).toArray t4 (0, 0)) from hg4)
  have HW : Hid (∀ j v, (us.map (Value.float .f32))[j]? = some v → (w0.drewN nq).cell? ((⟨ba, off, none⟩ : Addr).add j) = some v) := hid (by
    intro j v hv
    have hj : j < us.length := by have := (List.getElem?_eq_some_iff.1 hv).1; simpa using this
    rw [Addr.add_mid]
    have h3 := hold_cell0 (Holds.ext H1.out (Ext.drewN EX.out nq)) j (by have := HL.out; omega)
    rw [h3, ← hv]
    simp [List.getD, hj])
  have HF := hid (show 0 + (us.map (Value.float .f32)).length ≤ (zeros16.map (Value.float .f32)).length from by have h8 := HL.out; have h9 := H16.out; simp [zeros16]; omega)
  have HM := hid (show (us.map (Value.float .f32)).length = Nat.min n 16 from by rw [List.length_map, HL.out]; exact (Nat.min_eq_left H16.out).symm)
  clear hg4
  have HU := hid (show ∀ v, v ∈ us.map (Value.float .f32) → v.oneCell' = true from by intro v hv; simp at hv; obtain ⟨q, _, rfl⟩ := hv; rfl)
  have HUL := hid (show (us.map (Value.float .f32)).length = n from by simp [HL.out])
  go_wp2_with (refine wpList_copy_splice rfl _ _ 22 22 rfl 23 Try.underlying22 HSZ.out (some ⟨w.heap.size + 2, 0, none⟩) (some ⟨ba, off, none⟩) 16 16 n c rfl rfl (w.heap.size + 2) 0 (zeros16.map (Value.float .f32)) t4 HG.out (us.map (Value.float .f32)) HM.out (fun _ => ⟨rfl, ⟨ba, off, none⟩, rfl, HW.out⟩) HF.out HU.out (w.heap.size + 2) w0 (below_drewN _ _ nq) (Nat.le_refl _) ?_; intro w3 hg3 hb3; rw [HUL.out])
  have A3 : Hid (Arr w3 (w.heap.size + 2) (us ++ List.replicate (16 - n) 0)) := hid ⟨⟨t4, by
    rw [hg3.out]
    have h8 := HL.out
    have e : splice (zeros16.map (Value.float .f32)) 0 (us.map (Value.float .f32)) = (us ++ List.replicate (16 - n) 0).map (Value.float .f32) := by
      have hz : zeros16.map (Value.float .f32) = List.replicate 16 (Value.float .f32 0) := by unfold zeros16; exact List.map_replicate
      unfold splice
      rw [hz, List.take_zero, List.nil_append, Nat.zero_add, List.length_map, h8, List.drop_replicate, List.map_append, List.map_replicate]
    rw [e]; rfl⟩, by have h8 := HL.out; have h9 := H16.out; simp; omega⟩
  have B3 : Hid (Box w3 w.heap.size #[.slice (some ⟨ba, off, none⟩) n c, .float .f32 g]) := by
    obtain ⟨t, ht⟩ := B1.out
    exact hid ⟨t, by rw [hb3.block _ (by omega)]; exact ht⟩
  have E3 : Hid (Ext w w3) := hid (Below.trans EX.out (Below.mono hb3 (by omega)))
  have Z3 := hid (show w.heap.size + 3 ≤ w3.heap.size from by have h8 := hb3.size; have h9 := HZ.out; omega)
  have HI : Hid (downsI n (us.map (cls .f32)) = (downsI n (((us ++ List.replicate (16 - n) 0).take n).map (cls .f32))).map (· ++ (((us ++ List.replicate (16 - n) 0).drop n).take (n - n)).map (cls .f32))) := by
    have h8 := HL.out
    subst h8
    rw [take_zeros, Nat.sub_self]
    show _ = _
    cases downsI us.length (us.map (cls .f32)) <;> simp
  have HUS := hid (show downR us = match downsI n (us.map (cls .f32)) with | some L => (L, true) | none => ([], false) from by rw [downR_eq, HL.out])
  clear hg3 hb3 A4 B1 HG HW HF HM HU HUL EX HZ
  go_wp2_with fail
  go_loopw [5] (fun v wr => ∃ (m : Nat) (zs : List Nat), m ≤ n ∧ v = .int .i64 m ∧ Hid (Arr wr (w.heap.size + 2) zs) ∧ Hid (downsI n (us.map (cls .f32)) = (downsI m ((zs.take m).map (cls .f32))).map (· ++ ((zs.drop m).take (n - m)).map (cls .f32))) ∧ Hid (But (some (w.heap.size + 2)) w3 wr)) (fun v _ => (intOf v).toNat)
  case atStart => exact ⟨n, _, Nat.le_refl _, rfl, A3, HI, hid (But.refl _ _)⟩
  case round =>
    obtain ⟨m, zs, hm, rfl, ha, hi, hb⟩ := hrel
    have EW := hid (show Ext w wr from But.below hb.out E3.out (fun q hq => by cases hq; omega))
    cases m with
    | succ p =>
      have hi0 : (0 : Int) ≤ (p : Int) := by omega
      have hi1 : (1 : Int) ≤ (p : Int) + 1 := by omega
      have hi2 : (p : Int) + 1 - 1 = (p : Int) := by omega
      have hi3 : (p : Int) < 16 := by omega
      have hi4 : ((p : Int)).toNat = p := rfl
      have e1 := Arr.cellAt ha.out p (by omega)
      have HLZ := hid ha.out.2
      have HST := hid (fun hok ys hy hyc hr => down_step (ys := ys) (show p < n by omega) H16.out HLZ.out hy hok hyc hr hi.out)
      have HSP := hid (fun hok => down_stop HLZ.out (show p < 16 by omega) hok hi.out)
      generalize hx : zs.getD p 0 = x at e1 HST HSP
      clear hx
      cases hk : okC (cls .f32 x)
      · have hnone := HSP.out hk
        have e : O = false ∧ L = [] := by have h1 := HQ.out; have h2 := HUS.out; rw [hnone] at h2; rw [h1] at h2; simpa [eq_comm, and_comm] using h2
        obtain ⟨rfl, rfl⟩ := e
        go_wp2_with (go_at_call 88; refine (isRung_any _ _).mono ?_; rintro e w' ⟨rfl, rfl⟩; rw [hk])
        go_returns
        exact ⟨_, rfl, nil_is _ _, EW.out⟩
      · have HS2 := hid (HST.out hk)
        clear HST HSP
        go_wp2_with (first | (go_at_call 88; refine (isRung_any _ _).mono ?_; rintro e w' ⟨rfl, rfl⟩; rw [hk]) | (refine wpList_loadA rfl rfl rfl Try.underlying83 infoA (ha.out) ?_))
        refine (withoutRung_any zs p _ HLZ.out (by omega)).mono ?_
        rintro e w6 ⟨ys, rfl, hyl, hyc, hyr, E1⟩
        have HYL := hid hyl
        have HNW := hid (HS2.out ys hyl hyc hyr)
        have ha1 := hid (Arr.ext ha.out E1)
        have hb1 := hid (But.trans hb.out (Ext.but E1 _))
        clear hyl hyc hyr E1
        go_wp2_with (first | (refine wpList_storeA rfl rfl rfl rfl infoA (ha1.out) (HYL.out) ?_; intro w7 A2 hb2))
        have ha2 := hid A2
        have hb4 := hid (But.trans hb1.out hb2)
        clear A2 hb2
        go_wp2
        go_roundw
        case rel => exact ⟨p, ys, by omega, by go_num, ha2, HNW, hb4⟩
        case measure => simp [intOf]
    | zero =>
      have e : O = true ∧ L = (zs.take n).map (cls .f32) := by
        have h1 := HQ.out
        have h2 := HUS.out
        rw [hi.out] at h2
        rw [h1] at h2
        simpa [downsI, eq_comm, and_comm] using h2
      obtain ⟨rfl, rfl⟩ := e
      have HB := hid (But.box hb.out B3.out (by simp))
      obtain ⟨y0, y1, yl⟩ := Box.cells2 HB.out
      have hin : (0 : Int) ≤ (n : Int) := by omega
      go_wp2_with fail
      refine (clone_any (some ⟨w.heap.size + 2, 0, none⟩) n 16 (zs.take n) _ (Arr.holds ha.out H16.out) H01.out HN.out).mono ?_
      rintro e w6 ⟨b, c', rfl, O1, E1⟩
      have hO := hid O1
      have hE := hid (Ext.trans EW.out E1)
      have hS := hid (Ext.size EW.out)
      clear O1 E1 y0 y1 yl
      go_wp2_with fail
      go_returns
      exact ⟨_, rfl, list_is (Own.base hO.out (hS.out)) rfl, hE.out⟩


set_option maxHeartbeats 4000000 in
set_option maxRecDepth 100000 in
theorem l04Down_any (bx : Nat) (a : Option Addr) (n c g0 : Nat) (us : List Nat) (L : List (Option Nat)) (O : Bool) (w : World) (hbx : Box w bx #[.slice a n c, .float .f32 g0]) (h : Holds .f32 w a n us) (h1 : 1 ≤ n) (hn : n ≤ 16) (hR : downR us = (L, O)) :
    Calls Try.prog 87 #[.pointer (some ⟨bx, 0, none⟩)] w fun e w' => ∃ v, e = .returned (.tuple #[v, .bool O]) ∧ ListIs w' w.heap.size L v ∧ Ext w w' := by
  obtain ⟨ba, off, rfl, hb, hc⟩ : ∃ ba off, a = some ⟨ba, off, none⟩ ∧ ba < w.heap.size ∧ ∀ i, i < n → w.cell? ⟨ba, off + i, none⟩ = some (.float .f32 (us.getD i 0)) := by
    rcases h.2 with h0 | ⟨b, off, rfl, hb, hc⟩
    · omega
    · exact ⟨b, off, rfl, hb, hc⟩
  have HL := hid h.1
  have HB := hid hb
  have HC := hid hc
  have H01 := hid h1
  have H16 := hid hn
  have HQ := hid (show (match downsS n (us.map (cls .f32)) with | some L => (L, true) | none => ([], false)) = (L, O) from by rw [← hR, ← h.1]; unfold downR; cases downsS us.length (us.map (cls .f32)) <;> rfl)
  obtain ⟨i0, hi, hz0, hz1, hz2⟩ := info_parts infoF
  have hmk : ∀ w : World, (Instr.makeSlice 22 (.int .i64 (n : Int)) (.int .i64 (n : Int))).run Try.prog w = .ok (.slice (some ⟨w.heap.size, 0, none⟩) n n) (w.alloc (.cells (madeCells #[.float .f32 0] n) 23)) := by
    intro w
    have := run_make (P := Try.prog) w 22 23 i0 (.float .f32 0) Try.underlying22 hi hz0 .i64 .i64 (n : Int) (n : Int) (by omega) (by omega) (by rw [hz2]; omega) (by omega)
    rw [hz1] at this
    simpa [Value.cells] using this
  have HI := hid (And.intro hi (And.intro hz0 (And.intro hz1 hz2)))
  have HMC := hid (show (madeCells #[.float .f32 0] n).toList = (List.replicate n 0).map (Value.float .f32) from by rw [toList_madeCells_one]; simp)
  clear hi hz0 hz1 hz2 hc hb h h1 hR
  obtain ⟨d0, d1, dl⟩ := Box.cells2 hbx
  clear hbx
  go_enter Try.func87, Try.ntmps87
  go_wp2_with (first | (at_builtin; refine wpList_append_lies _ rfl _ _ 22 rfl w.heap.size 23 i0 (.float .f32 0) 1 4 Try.underlying22 HI.out.1 HI.out.2.1 HI.out.2.2.1 HI.out.2.2.2 rfl (by decide) _ _ _ rfl (own_fresh (cs := #[]) (zs := []) (B := w.heap.size) (hid rfl) rfl (by simp) (by simp) (Nat.zero_le _)) ⟨ba, off, none⟩ n c (us.map (Value.float .f32)) rfl (by simp [HL.out]) (news_ext (by (repeat with_reducible (first | exact Ext.refl _ | exact ext_alloc _ _ | refine Ext.drewN ?_ _ | refine Ext.drew1 ?_ | refine Ext.set ?_ (by dsimp only; omega) _ | refine Ext.alloc ?_ _))) HB.out HL.out HC.out) (news_one us) (by have := H01.out; omega) (by have := H16.out; unfold maxLen; simp; omega) (by have := H16.out; simp; omega) (by simp) _ rfl ?_; intro gg cap w1 hown hgrow hat hlt))
  have hO1 := hid hown
  have hE1 := hid (show Ext w w1 from But.below hgrow (by (repeat with_reducible (first | exact Ext.refl _ | exact ext_alloc _ _ | refine Ext.drewN ?_ _ | refine Ext.drew1 ?_ | refine Ext.set ?_ (by dsimp only; omega) _ | refine Ext.alloc ?_ _))) (fun k hk => by cases hk; simp))
  clear hown hgrow hat hlt d0 d1 dl
  go_wp2_with fail
  obtain ⟨w2, hw2⟩ : ∃ u, u = w1.alloc (.cells (madeCells #[.float .f32 0] n) 23) := ⟨_, rfl⟩
  have O4 : Hid (Own w2 w.heap.size n (.slice (some ⟨gg, 0, none⟩) n cap) us) := by
    rw [hw2]
    have h9 := hO1.out
    simp only [List.map_nil, List.nil_append, Nat.zero_add] at h9
    exact hid (Own.ext (show Own w1 w.heap.size n (.slice (some ⟨gg, 0, none⟩) n cap) us from h9) (ext_alloc _ _))
  have O5 : Hid (Own w2 w.heap.size n (.slice (some ⟨w1.heap.size, 0, none⟩) n n) (List.replicate n 0)) := by
    rw [hw2]
    exact hid (own_fresh HMC (by simp) rfl (Ext.size hE1.out) (by have := H16.out; unfold maxLen; omega))
  have E2 := hid (show Ext w w2 from by rw [hw2]; exact Ext.alloc hE1.out _)
  have HG := hid (show gg ≠ w1.heap.size from by
    have h9 := (Own.block hO1.out gg rfl).2
    omega)
  have HBO := hid (Ext.size hE1.out)
  have HI0 : Hid (downsS n (us.map (cls .f32)) = (downsS n (us.map (cls .f32))).map (· ++ ((List.replicate n 0).drop n).map (cls .f32))) := by
    show _ = _
    cases downsS n (us.map (cls .f32)) <;> simp
  clear hmk hO1 hE1 HB HC
  rw [← hw2]
  clear hw2
  generalize w1.heap.size = bo at *
  go_loopw [4, 6] (fun v i wr => ∃ (m : Nat) (zs os : List Nat), m ≤ n ∧ i = .int .i64 m ∧ Hid (Own wr w.heap.size m v zs) ∧ Hid (∀ b, v.ownBlock = some b → b ≠ bo) ∧ Hid (Own wr w.heap.size n (.slice (some ⟨bo, 0, none⟩) n n) os) ∧ Hid (downsS n (us.map (cls .f32)) = (downsS m (zs.map (cls .f32))).map (· ++ (os.drop m).map (cls .f32))) ∧ Hid (Ext w wr)) (fun _ i _ => (intOf i).toNat)
  case atStart => exact ⟨n, us, List.replicate n 0, Nat.le_refl _, rfl, O4, hid (fun b hb => by cases hb; exact HG.out), O5, HI0, E2⟩
  case round =>
    clear O4 O5 E2 HI0 HG
    obtain ⟨m, zs, os, hm, rfl, ho, hob, hou, hi, he⟩ := hrel
    have hn2 : n ≤ 16 := H16.out
    cases m with
    | zero =>
      have e : O = true ∧ L = os.map (cls .f32) := by
        have h1 := HQ.out
        rw [hi.out] at h1
        simpa [downsS, eq_comm, and_comm] using h1
      obtain ⟨rfl, rfl⟩ := e
      go_wp2_with fail
      go_returns
      exact ⟨_, rfl, list_is hou.out rfl, he.out⟩
    | succ p =>
      have hzl := Own.len ho.out
      have hol := Own.len hou.out
      obtain ⟨v1, v2, rfl, hv1, _, _⟩ := Own.holds ho.out
      obtain ⟨b2, off2, rfl, e2⟩ := cell_at hv1 (Ext.refl _) p (by omega)
      have e3 := Own.cellAt hou.out p (by omega)
      have hf := Own.frozenAt hou.out p
      have HLC := hid (show ((zs.map (cls .f32)).getD p none = cls .f32 (zs.getD p 0)) from by simp [List.getD, show p < zs.length by omega])
      have HSP := hid (show okC (cls .f32 (zs.getD p 0)) = false → downsS n (us.map (cls .f32)) = none from fun hk => by
        rw [hi.out]
        show (if okC ((zs.map (cls .f32)).getD p none) && finsC (downC (zs.map (cls .f32))) then (downsS p (downC (zs.map (cls .f32)))).map (· ++ [(zs.map (cls .f32)).getD p none]) else none).map _ = _
        rw [HLC.out, hk]; rfl)
      have HNF := hid (show finsC (downC (zs.map (cls .f32))) = false → downsS n (us.map (cls .f32)) = none from fun hk => by
        rw [hi.out]
        show (if okC ((zs.map (cls .f32)).getD p none) && finsC (downC (zs.map (cls .f32))) then (downsS p (downC (zs.map (cls .f32)))).map (· ++ [(zs.map (cls .f32)).getD p none]) else none).map _ = _
        rw [hk, Bool.and_false]; rfl)
      have HOK := hid (show okC (cls .f32 (zs.getD p 0)) = true → finsC (downC (zs.map (cls .f32))) = true → downsS n (us.map (cls .f32)) = (downsS p (downC (zs.map (cls .f32)))).map (· ++ ((os.set p (zs.getD p 0)).drop p).map (cls .f32)) from fun hk hk2 => by
        rw [hi.out]
        show (if okC ((zs.map (cls .f32)).getD p none) && finsC (downC (zs.map (cls .f32))) then (downsS p (downC (zs.map (cls .f32)))).map (· ++ [(zs.map (cls .f32)).getD p none]) else none).map _ = _
        rw [HLC.out, hk, hk2]
        have e9 : (os.set p (zs.getD p 0)).drop p = zs.getD p 0 :: os.drop (p + 1) := by
          rw [List.drop_eq_getElem_cons (by simp; omega), List.getElem_set_self, List.drop_set_of_lt (by omega)]
        rw [e9]
        cases downsS p (downC (zs.map (cls .f32))) with
        | none => rfl
        | some K => simp)
      have HDF := hid (show ∀ j, j < p → downF (zs.map (cls .f32)) j = fop .quo .f32 (fop .add .f32 (cls .f32 (zs.getD j 0)) (fop .mul .f32 (cls .f32 (zs.getD p 0)) (cls .f32 (zs.getD (p - 1 - j) 0)))) (fop .sub .f32 (some 1065353216) (fop .mul .f32 (cls .f32 (zs.getD p 0)) (cls .f32 (zs.getD p 0)))) from fun j hj => by
        have t0 : (zs.map (cls .f32)).length - 1 = p := by simp; omega
        have t1 : (zs.map (cls .f32)).getD j none = cls .f32 (zs.getD j 0) := by simp [List.getD, show j < zs.length by omega]
        have t2 : (zs.map (cls .f32)).getD (p - 1 - j) none = cls .f32 (zs.getD (p - 1 - j) 0) := by simp [List.getD, show p - 1 - j < zs.length by omega]
        unfold downF
        rw [t0, t1, t2, HLC.out])
      have HDC := hid (show downC (zs.map (cls .f32)) = listK (downF (zs.map (cls .f32))) p from by
        have t0 : (zs.map (cls .f32)).length - 1 = p := by simp; omega
        unfold downC; rw [t0])
      clear HLC
      generalize hx : zs.getD p 0 = x at e2 HSP HOK HDF
      clear hx
      generalize os.getD p 0 = y at e3
      have hi0 : (0 : Int) ≤ (p : Int) := by omega
      have hi1 : (0 : Int) < (p : Int) + 1 := by omega
      have hi2 : (p : Int) + 1 - 1 = (p : Int) := by omega
      have hi3 : (p : Int) < (p : Int) + 1 := by omega
      have hi4 : ((p : Int)).toNat = p := rfl
      have hi5 : (p : Int) < (n : Int) := by omega
      cases g1 : fcmp .gtr (ford .f32 (cls .f32 x) (some 3212836864))
      · have hk := HSP.out (by unfold okC; rw [g1]; rfl)
        have e : O = false ∧ L = [] := by have h1 := HQ.out; rw [hk] at h1; simpa [eq_comm, and_comm] using h1
        obtain ⟨rfl, rfl⟩ := e

        go_wp2_with (first | (refine wpList_fcmp rfl rfl rfl rfl rfl (is_self _ _) (is_const (by decide)) ?_; first | rw [g1] | rw [g2]))
        go_returns
        exact ⟨_, rfl, nil_is _ _, Ext.trans he.out (by (repeat with_reducible (first | exact Ext.refl _ | exact ext_alloc _ _ | refine Ext.drewN ?_ _ | refine Ext.drew1 ?_ | refine Ext.set ?_ (by dsimp only; omega) _ | refine Ext.alloc ?_ _)))⟩
      cases g2 : fcmp .lss (ford .f32 (cls .f32 x) (some 1065353216))
      · have hk := HSP.out (by unfold okC; rw [g1, g2]; rfl)
        have e : O = false ∧ L = [] := by have h1 := HQ.out; rw [hk] at h1; simpa [eq_comm, and_comm] using h1
        obtain ⟨rfl, rfl⟩ := e

        go_wp2_with (first | (refine wpList_fcmp rfl rfl rfl rfl rfl (is_self _ _) (is_const (by decide)) ?_; first | rw [g1] | rw [g2]))
        go_returns
        exact ⟨_, rfl, nil_is _ _, Ext.trans he.out (by (repeat with_reducible (first | exact Ext.refl _ | exact ext_alloc _ _ | refine Ext.drewN ?_ _ | refine Ext.drew1 ?_ | refine Ext.set ?_ (by dsimp only; omega) _ | refine Ext.alloc ?_ _)))⟩
      have HO2 := hid (HOK.out (by unfold okC; rw [g1, g2]; rfl))
      clear HSP HOK
      go_wp2_with (first | (refine wpList_fcmp rfl rfl rfl rfl rfl (is_self _ _) (is_const (by decide)) ?_; first | rw [g1] | rw [g2]))
      obtain ⟨wo, hwo⟩ : ∃ u, u = wr.setCell ⟨bo, p, none⟩ (.float .f32 x) := ⟨_, rfl⟩
      have hou2 := hid (show Own wo w.heap.size n (.slice (some ⟨bo, 0, none⟩) n n) (os.set p x) from by rw [hwo]; exact (Own.stored hou.out p x).1)
      have hos2 := hid (show Own wo w.heap.size (p + 1) (.slice (some ⟨b2, off2, none⟩) (p + 1) v2) zs from by rw [hwo]; exact But.own (Own.stored hou.out p x).2 ho.out (fun k hk hk2 => by have := hob.out k hk; cases hk2; omega))
      have he2 := hid (show Ext w wo from by rw [hwo]; exact Ext.set he.out (by dsimp only; exact HBO.out) _)
      have HBW := hid (show bo < wo.heap.size from (Own.block hou2.out bo rfl).2)
      have HSZ := hid (Ext.size he2.out)
      have HW0 : Hid (Ext wo (wr.setCell ⟨bo, p, none⟩ (.float .f32 x))) := by rw [← hwo]; exact hid (Ext.refl _)
      have HS0 : Hid ((wr.setCell ⟨bo, p, none⟩ (.float .f32 x)).heap.size = wo.heap.size) := by rw [hwo]; exact hid rfl
      clear hwo hou ho hv1 e2 e3 hf hob he
      go_loopw [8, 9] (fun q i wr => ∃ (j : Nat) (ys : List Nat), j ≤ p ∧ i = .int .i64 j ∧ Hid (Own wr w.heap.size j q ys) ∧ Hid (∀ b, q.ownBlock = some b → wo.heap.size ≤ b) ∧ Hid (ys.map (cls .f32) = listK (downF (zs.map (cls .f32))) j) ∧ Hid (Ext wo wr)) (fun _ i _ => p - (intOf i).toNat)
      case atStart =>
        exact ⟨0, [], Nat.zero_le _, rfl, hid (Own.base (own_fresh (cs := #[]) (zs := []) (B := wo.heap.size) (hid rfl) rfl (by first | exact HS0.out.symm | (simp; done) | (have := HS0.out; simp at this ⊢; omega)) (by first | exact Nat.le_of_eq HS0.out.symm | (have := HS0.out; simp at this ⊢; omega)) (Nat.zero_le _)) HSZ.out), hid (fun b hb => by cases hb; first | exact Nat.le_of_eq HS0.out.symm | (have := HS0.out; simp at this ⊢; omega)), hid rfl, hid (Ext.trans HW0.out (by (repeat with_reducible (first | exact Ext.refl _ | exact ext_alloc _ _ | refine Ext.drewN ?_ _ | refine Ext.drew1 ?_ | refine Ext.set ?_ (by dsimp only; omega) _ | refine Ext.alloc ?_ _))))⟩
      case round =>
        clear HW0 HS0
        obtain ⟨j, ys, hj, rfl, hq, hqb, hy, hwx⟩ := hrel
        have HSZ2 := hid (Ext.size hwx.out)
        have hoz := hid (Own.ext hos2.out hwx.out)
        have ho2 := hq
        by_cases hlt2 : j < p
        · obtain ⟨v3, v4, hv4, hv1, _, _⟩ := Own.holds hoz.out
          cases hv4
          have e2 := hold_cell0 hv1 j (by omega)
          have e3 := hold_cell0 hv1 (p - 1 - j) (by omega)
          have HFJ := hid (HDF.out j hlt2)
          have hs := hid (listK_succ (downF (zs.map (cls .f32))) j)
          generalize zs.getD j 0 = u at e2 HFJ
          generalize zs.getD (p - 1 - j) 0 = v at e3 HFJ
          have hj0 : (0 : Int) ≤ (j : Int) := by omega
          have hj1 : (j : Int) < (p : Int) := by omega
          have hj2 : (j : Int) < (p : Int) + 1 := by omega
          have hj3 : (0 : Int) ≤ ((p - 1 - j : Nat) : Int) := by omega
          have hj4 : ((p - 1 - j : Nat) : Int) < (p : Int) + 1 := by omega
          have hj5 : ((p - 1 - j : Nat) : Int).toNat = p - 1 - j := rfl
          have hj6 : (p : Int) + 1 - 2 = (p : Int) - 1 := by omega
          have hj7 : (p : Int) - 1 - (j : Int) = ((p - 1 - j : Nat) : Int) := by omega
          have hj8 : p - 1 - j < 16 := by omega
          clear hv1
          generalize hp : p - 1 - j = t at *
          go_wp2_with fail
          refine wp_region_move_tail 20 (by kernel_rfl) (by kernel_rfl) (by kernel_rfl) (fun _ _ _ h => h) (Or.inl ⟨by rfl, fun w => by simp [execOp]; rfl⟩) ?_
          simp only [List.take_succ_cons, List.take_zero, List.drop_succ_cons, List.drop_zero]
          repeat (with_reducible refine wpM_cons ?_; first
            | (refine wpM_fa rfl rfl rfl rfl rfl (by first | assumption | exact is_self _ _ | exact is_const (by decide)) (by first | assumption | exact is_self _ _ | exact is_const (by decide)) ?_; intro r hr hrw)
            | (refine wpM_mult0 rfl rfl ?_; refine mult_isub ((p : Int) - 1 : Int) rfl rfl rfl (by omega) (by omega) (by omega) ?_; simp only [Act.put, List.setIfInBounds_toArray, List.set_cons_zero, List.set_cons_succ])
            | (refine wpM_mult0 rfl rfl ?_; refine mult_isub ((t : Int) : Int) rfl rfl rfl (by omega) (by omega) (by omega) ?_; simp only [Act.put, List.setIfInBounds_toArray, List.set_cons_zero, List.set_cons_succ])
            | (refine wpM_quiet rfl (fun K hK => ?_); go_simp; refine hK _ ?_; clear hK K))
          with_reducible refine wpM_nil ?_
          intro w5 hw5
          obtain ⟨nq, hw5⟩ := hw5
          subst hw5
          go_wp2_with (first | (at_builtin; refine wpList_append_lies _ rfl _ _ 22 rfl w.heap.size 23 i0 (.float .f32 0) 1 4 Try.underlying22 HI.out.1 HI.out.2.1 HI.out.2.2.1 HI.out.2.2.2 rfl (by decide) _ _ _ rfl (Own.ext ho2.out (by (repeat with_reducible (first | exact Ext.refl _ | exact ext_alloc _ _ | refine Ext.drewN ?_ _ | refine Ext.drew1 ?_ | refine Ext.set ?_ (by dsimp only; omega) _ | refine Ext.alloc ?_ _)))) ⟨wr.heap.size, 0, none⟩ 1 1 [.float .f32 r] rfl rfl (World.news_of_block (heap_alloc_new _ _)) (by intro u hu; simp at hu; subst hu; rfl) (by omega) (by have h9 := H16.out; unfold maxLen; omega) (by have h9 := H16.out; omega) (by have h8 := HSZ2.out; have h7 := HSZ.out; simp; omega) _ rfl ?_; intro gj cap w1 hown hgrow hat hlt3))
          have h1 := hid (own_snoc hown)
          have h2 := hid (show Ext wo w1 from But.below hgrow (Ext.trans hwx.out (by (repeat with_reducible (first | exact Ext.refl _ | exact ext_alloc _ _ | refine Ext.drewN ?_ _ | refine Ext.drew1 ?_ | refine Ext.set ?_ (by dsimp only; omega) _ | refine Ext.alloc ?_ _)))) (fun k2 hk2 => hqb.out k2 hk2))
          have h3 := hid (show (ys ++ [r]).map (cls .f32) = listK (downF (zs.map (cls .f32))) (j + 1) from by rw [List.map_append, hy.out, hs.out, HFJ.out]; exact congrArg (fun z => _ ++ [z]) (Is.out hr))
          have h4 : Hid (∀ b, (Value.slice (some ⟨gj, 0, none⟩) (j + 1) cap).ownBlock = some b → wo.heap.size ≤ b) := by
            intro b hb
            cases hb
            rcases hat with h9 | h9
            · exact hqb.out gj h9
            · have := HSZ2.out
              rw [h9]; simp; omega
          clear hown hgrow hat hlt3
          go_wp2
          go_roundw
          case rel => exact ⟨j + 1, ys ++ [r], by omega, by go_num, h1, h4, h3, h2⟩
          case measure => simp [intOf]; omega
        · have hjp : j = p := by omega
          subst hjp
          have HYD := hid (show ys.map (cls .f32) = downC (zs.map (cls .f32)) from by rw [hy.out, HDC.out])
          obtain ⟨v3, v4, rfl, hv1, _, _⟩ := Own.holds hq.out
          have HV1 := hid hv1
          clear hv1
          cases hF : finsC (ys.map (cls .f32))
          · have hk := HNF.out (by rw [← HYD.out]; exact hF)
            have e : O = false ∧ L = [] := by have h1 := HQ.out; rw [hk] at h1; simpa [eq_comm, and_comm] using h1
            obtain ⟨rfl, rfl⟩ := e

            go_wp2_with fail
            refine (l02Finite_drew _ _ _ ys _ _ HV1.out (by omega) hF).mono ?_
            rintro e w5 ⟨rfl, m5, rfl⟩
            go_wp2_with fail
            go_returns
            exact ⟨_, rfl, nil_is _ _, Ext.drewN (Ext.trans he2.out hwx.out) _⟩
          · have hk := hid (HO2.out (by rw [← HYD.out]; exact hF))
            go_wp2_with fail
            refine (l02Finite_drew _ _ _ ys _ _ HV1.out (by omega) hF).mono ?_
            rintro e w5 ⟨rfl, m5, rfl⟩
            have hNB : Hid (∀ b, (Value.slice v3 j v4).ownBlock = some b → b ≠ bo) := hid (fun b hb => by have h8 := hqb.out b hb; have h9 := HBW.out; omega)
            have hOU := hid (Own.drewN (Own.ext hou2.out hwx.out) m5)
            have hEE := hid (Ext.drewN (Ext.trans he2.out hwx.out) m5)
            have hOQ := hid (Own.drewN hq.out m5)
            have hII : Hid (downsS n (us.map (cls .f32)) = (downsS j (ys.map (cls .f32))).map (· ++ ((os.set j x).drop j).map (cls .f32))) := hid (by rw [HYD.out]; exact hk.out)
            go_wp2_with fail
            go_roundw
            case rel => exact ⟨j, ys, os.set j x, by omega, by go_num, hOQ, hNB, hOU, hII, hEE⟩
            case measure => simp [intOf]


theorem stepDown_len (us : List Nat) (g : Option Nat) : (stepDownR us g).1.length ≤ 16 := by
  unfold stepDownR
  split
  · rename_i h
    have h1 := downR_len us
    have h2 := (pred_len h).2
    simp at h2
    omega
  · exact Nat.zero_le _
set_option maxHeartbeats 4000000 in
set_option maxRecDepth 100000 in
theorem sStepDown_any (a : Option Addr) (n c g : Nat) (us : List Nat) (L : List (Option Nat)) (O : Bool) (w : World) (h : Holds .f32 w a n us) (hn : n ≤ 1048576) (hR : stepDownR us (cls .f32 g) = (L, O)) :
    Calls Try.prog 47 #[.agg #[.slice a n c, .float .f32 g]] w fun e w' => ∃ v, e = .returned (.tuple #[v, .bool O]) ∧ ListIs w' w.heap.size L v ∧ Ext w w' := by
  have H1 := hid h
  have HN := hid hn
  have HL := hid h.1
  have HR := hid hR
  clear h hn hR
  cases hV : predC (us.map (cls .f32)) (cls .f32 g)
  · have e : O = false ∧ L = [] := by have := HR.out; unfold stepDownR at this; rw [hV] at this; simpa [eq_comm, and_comm] using this
    obtain ⟨rfl, rfl⟩ := e
    go_enter Try.func47, Try.ntmps47
    go_wp2_with (first | (go_at_call 50; with_reducible refine (l04Is_drew a n c g us _ _ _ (Box.ext (box_new (w := w) #[.slice a n c, .float .f32 g] 28) (by (repeat with_reducible (first | exact Ext.refl _ | exact ext_alloc _ _ | refine Ext.drewN ?_ _ | refine Ext.drew1 ?_ | refine Ext.set ?_ (by dsimp only; omega) _ | refine Ext.alloc ?_ _)))) (Holds.ext H1.out (by (repeat with_reducible (first | exact Ext.refl _ | exact ext_alloc _ _ | refine Ext.drewN ?_ _ | refine Ext.drew1 ?_ | refine Ext.set ?_ (by dsimp only; omega) _ | refine Ext.alloc ?_ _)))) HN.out hV).mono ?_; rintro e w' ⟨rfl, m1, rfl⟩))
    go_returns
    refine ⟨_, rfl, nil_is _ _, ?_⟩
    (repeat with_reducible (first | exact Ext.refl _ | exact ext_alloc _ _ | refine Ext.drewN ?_ _ | refine Ext.drew1 ?_ | refine Ext.set ?_ (by dsimp only; omega) _ | refine Ext.alloc ?_ _))
  have HQ := hid (show downR us = (L, O) from by have := HR.out; unfold stepDownR at this; rw [hV] at this; exact this)
  have HP := hid (pred_len hV)
  have H16 := hid (show n ≤ 16 from by have := HP.out.2; simp at this; have := HL.out; omega)
  have H01 := hid (show 1 ≤ n from by have := HP.out.1; simp at this; have := HL.out; omega)
  clear HR HP
  go_enter Try.func47, Try.ntmps47
  go_wp2_with (first | (go_at_call 50; with_reducible refine (l04Is_drew a n c g us _ _ _ (Box.ext (box_new (w := w) #[.slice a n c, .float .f32 g] 28) (by (repeat with_reducible (first | exact Ext.refl _ | exact ext_alloc _ _ | refine Ext.drewN ?_ _ | refine Ext.drew1 ?_ | refine Ext.set ?_ (by dsimp only; omega) _ | refine Ext.alloc ?_ _)))) (Holds.ext H1.out (by (repeat with_reducible (first | exact Ext.refl _ | exact ext_alloc _ _ | refine Ext.drewN ?_ _ | refine Ext.drew1 ?_ | refine Ext.set ?_ (by dsimp only; omega) _ | refine Ext.alloc ?_ _)))) HN.out hV).mono ?_; rintro e w' ⟨rfl, m1, rfl⟩))
  have B1 := hid (Box.drewN (box_new (w := w) #[.slice a n c, .float .f32 g] 28) m1)
  refine (l04Down_any _ a n c g us L O _ B1.out (Holds.ext H1.out (by (repeat with_reducible (first | exact Ext.refl _ | exact ext_alloc _ _ | refine Ext.drewN ?_ _ | refine Ext.drew1 ?_ | refine Ext.set ?_ (by dsimp only; omega) _ | refine Ext.alloc ?_ _)))) H01.out H16.out HQ.out).mono ?_
  rintro e w6 ⟨v, rfl, hv, E6⟩
  have HV6 := hid hv
  have HE6 := hid E6
  clear hv E6
  go_wp2_with fail
  go_returns
  exact ⟨_, rfl, ListIs.base HV6.out (by simp), Ext.trans (by (repeat with_reducible (first | exact Ext.refl _ | exact ext_alloc _ _ | refine Ext.drewN ?_ _ | refine Ext.drew1 ?_ | refine Ext.set ?_ (by dsimp only; omega) _ | refine Ext.alloc ?_ _))) HE6.out⟩
end Go.Proofs.Ytofhemganefhcaa

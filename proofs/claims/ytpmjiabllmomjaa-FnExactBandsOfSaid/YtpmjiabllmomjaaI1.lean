/- Lists of integers: what holds them, what is the call's own, copies, and lists that are equal. -/
import Derived.Test.YtpmjiabllmomjaaT18
import Derived.BigQuiet
namespace Go.Proofs.Ytpmjiabllmomjaa.Flt
open Ieee Go.RowKit
set_option linter.unusedVariables false
/-- the slice value reads as the integers zs -/
def HoldsI (w : World) (a : Option Addr) (n : Nat) (zs : List Int) : Prop :=
  zs.length = n ∧ (n = 0 ∨ ∃ b off, a = some ⟨b, off, none⟩ ∧ b < w.heap.size ∧ ∀ i, i < n → w.cell? ⟨b, off + i, none⟩ = some (.int .i64 (zs.getD i 0)))
theorem HoldsI.below {w w' : World} {a : Option Addr} {n : Nat} {zs : List Int} (h : HoldsI w a n zs) (hb : Below w.heap.size w w') : HoldsI w' a n zs := by
  obtain ⟨h1, h2⟩ := h
  refine ⟨h1, ?_⟩
  rcases h2 with h2 | ⟨b, off, ha, hlt, hc⟩
  · exact .inl h2
  · exact .inr ⟨b, off, ha, Nat.lt_of_lt_of_le hlt hb.size, fun i hi => by rw [hb.cell (p := ⟨b, off + i, none⟩) hlt]; exact hc i hi⟩
theorem HoldsI.ext {w w' : World} {a : Option Addr} {n : Nat} {zs : List Int} (h : HoldsI w a n zs) (e : Ext w w') : HoldsI w' a n zs := HoldsI.below h e
theorem IsRow.below' {k : IntKind} {w w' : World} {a : Option Addr} {l c : Nat} {zs : List Int} (h : IsRow k w a l c zs) (hb : Below w.heap.size w w') : IsRow k w' a l c zs := by
  rcases h with h | ⟨x, h1, h2, h3, h4, h5, h6⟩
  · exact .inl h
  · exact .inr ⟨x, h1, h2, h3, h4, fun i hi => by rw [hb.cell (cell_lt (h5 i hi))]; exact h5 i hi, h6⟩
theorem IsRow.ext' {k : IntKind} {w w' : World} {a : Option Addr} {l c : Nat} {zs : List Int} (h : IsRow k w a l c zs) (e : Ext w w') : IsRow k w' a l c zs := IsRow.below' h e
theorem rowI_max {k : IntKind} {w : World} {a : Option Addr} {l c : Nat} {zs : List Int} (h : IsRow k w a l c zs) : l ≤ maxLen := by
  rcases h with ⟨_, rfl, _⟩ | ⟨x, _, h1, h2, _⟩
  · exact Nat.zero_le _
  · omega
theorem getDI_take (zs : List Int) (n i : Nat) (h : i < n) : (zs.take n).getD i 0 = zs.getD i 0 := by
  simp [List.getD, h]
theorem rowI_open {k : IntKind} {w : World} {a : Option Addr} {len cap : Nat} {zs : List Int} (h : IsRow k w a len cap zs) :
    len = 0 ∨ ∃ b off, a = some ⟨b, off, none⟩ ∧ b < w.heap.size ∧ len ≤ zs.length ∧ ∀ i, i < len → w.cell? ⟨b, off + i, none⟩ = some (.int k (zs.getD i 0)) := by
  rcases h with ⟨_, h, _⟩ | ⟨x, rfl, hl, hm, hz, hc, _⟩
  · exact .inl h
  · by_cases h0 : len = 0
    · exact .inl h0
    · right
      obtain ⟨b, off, sp⟩ := x
      have h1 := hc 0 (by omega)
      have hsp : sp = none := by
        cases sp with
        | none => rfl
        | some s =>
          simp only [World.cell?, Addr.add] at h1
          split at h1 <;> simp at h1
      subst hsp
      refine ⟨b, off, rfl, ?_, by omega, fun i hi => by have := hc i (by omega); rwa [addr_add] at this⟩
      rw [addr_add] at h1
      exact cell_lt h1
theorem takeI_snoc (zs : List Int) (k : Nat) (h : k < zs.length) : zs.take (k + 1) = zs.take k ++ [zs.getD k 0] := by
  rw [List.take_succ_eq_append_getElem h]
  simp [List.getD, h]
/-- a slice of integers that a call has made itself, from block B on -/
def OwnI (w : World) (B n : Nat) (v : Value) (zs : List Int) : Prop := w.ownsRow B 2 1 v n (zs.map (Value.int .i64))
theorem OwnI.len {w : World} {B n : Nat} {v : Value} {zs : List Int} (h : OwnI w B n v zs) : zs.length = n := by
  have := h.1
  simpa using this
theorem OwnI.holds {w : World} {B n : Nat} {v : Value} {zs : List Int} (h : OwnI w B n v zs) : ∃ a c, v = .slice a n c ∧ HoldsI w a n zs ∧ n ≤ c ∧ c ≤ maxLen := by
  have hl := h.len
  rcases h.2 with ⟨rfl, h0⟩ | ⟨g, cap, cur, rfl, hb, hg, hn, hm, hs, ht⟩
  · exact ⟨none, 0, by rw [h0], ⟨hl, .inl h0⟩, by omega, Nat.zero_le _⟩
  · refine ⟨_, _, rfl, ⟨hl, .inr ⟨g, 0, rfl, (Array.getElem?_eq_some_iff.1 hg).1, fun i hi => ?_⟩⟩, hn, hm⟩
    rw [cell_of_row w g (0 + i) cur _ (0, 0) hg, Nat.zero_add]
    have h1 : (cur.toList.take (n * 1))[i]? = some (.int .i64 (zs.getD i 0)) := by
      rw [ht]; simp [List.getD, hl, hi]
    rw [List.getElem?_take, if_pos (by omega)] at h1
    simpa using h1
theorem ownI_nil (w : World) (B : Nat) : OwnI w B 0 (.slice none 0 0) [] := World.ownsRow_nil w B _ _
theorem ownI_new {w : World} {B : Nat} {cs : Array Value} {zs : List Int} (hc : cs.toList = zs.map (Value.int .i64)) (hB : B ≤ w.heap.size) (hm : zs.length ≤ maxLen) :
    OwnI (w.alloc (.cells cs 2)) B zs.length (.slice (some ⟨w.heap.size, 0, none⟩) zs.length zs.length) zs := by
  have hs : cs.size = zs.length := by rw [← Array.length_toList, hc]; simp
  have := World.ownsRow_lit (e := 2) (size := 1) w cs zs.length hB hm (by omega)
  unfold OwnI
  rw [← hc]; exact this
theorem ownI_fresh {w : World} {B a n : Nat} {cs : Array Value} {zs : List Int} (hc : Hid (cs.toList = zs.map (Value.int .i64))) (hn : zs.length = n) (ha : a = w.heap.size) (hB : B ≤ w.heap.size) (hm : n ≤ maxLen) :
    OwnI (w.alloc (.cells cs 2)) B n (.slice (some ⟨a, 0, none⟩) n n) zs := by
  subst ha hn
  exact ownI_new hc.out hB hm
theorem OwnI.block {w : World} {B n : Nat} {v : Value} {zs : List Int} (h : OwnI w B n v zs) : ∀ k, v.ownBlock = some k → B ≤ k ∧ k < w.heap.size := World.ownsRow.lt h
theorem OwnI.heap {w w' : World} {B n : Nat} {v : Value} {zs : List Int} (h : OwnI w B n v zs) (e : ∀ k, v.ownBlock = some k → w'.heap[k]? = w.heap[k]?) : OwnI w' B n v zs := by
  refine ⟨h.1, ?_⟩
  rcases h.2 with hn | ⟨g, cap, cur, rfl, hb, hg, rest⟩
  · exact .inl hn
  · exact .inr ⟨g, cap, cur, rfl, hb, by rw [e g rfl]; exact hg, rest⟩
theorem OwnI.ext {w w' : World} {B n : Nat} {v : Value} {zs : List Int} (h : OwnI w B n v zs) (e : Ext w w') : OwnI w' B n v zs := h.heap fun k hk => Below.block e k (h.block k hk).2
theorem OwnI.base {w : World} {B B' n : Nat} {v : Value} {zs : List Int} (h : OwnI w B n v zs) (hB : B' ≤ B) : OwnI w B' n v zs := by
  refine ⟨h.1, ?_⟩
  rcases h.2 with hn | ⟨g, cap, cur, rfl, hb, rest⟩
  · exact .inl hn
  · exact .inr ⟨g, cap, cur, rfl, by omega, rest⟩
theorem But.ownI {o : Option Nat} {w w' : World} (h : But o w w') {B n : Nat} {v : Value} {zs : List Int} (hv : OwnI w B n v zs) (hn : ∀ k, v.ownBlock = some k → o ≠ some k) : OwnI w' B n v zs :=
  hv.heap fun k hk => h.block k (hv.block k hk).2 (Ne.symm (hn k hk))
theorem ownI_hold {w : World} {B n c : Nat} {a : Option Addr} {zs : List Int} (h : OwnI w B n (.slice a n c) zs) : HoldsI w a n zs := by
  obtain ⟨a', c', h1, h2, _⟩ := OwnI.holds h
  simp only [Value.slice.injEq] at h1
  obtain ⟨rfl, _, rfl⟩ := h1
  exact h2
theorem cellI_at {w wr : World} {a : Option Addr} {n : Nat} {zs : List Int} (h : HoldsI w a n zs) (e : Ext w wr) (k : Nat) (hk : k < n) : ∃ b off, a = some ⟨b, off, none⟩ ∧ wr.cell? ⟨b, off + k, none⟩ = some (.int .i64 (zs.getD k 0)) := by
  rcases h.2 with h0 | ⟨b, off, rfl, hb, hc⟩
  · omega
  · exact ⟨b, off, rfl, (Below.cell e (p := ⟨b, off + k, none⟩) hb).trans (hc k hk)⟩
end Go.Proofs.Ytpmjiabllmomjaa.Flt
namespace Go.Proofs.Ytpmjiabllmomjaa
open Go.RowKit Flt
theorem infoI : (Try.prog.info? 2).map (fun i => (i.zero, i.size, i.bytes)) = some (some (.int .i64 0), 1, 8) := by kernel_rfl
theorem toInts_any (a : Option Addr) (len cap : Nat) (zs : List Int) (w : World) (h : IsRow .i64 w a len cap zs) (hl : len ≤ 1048576) :
    Calls Try.prog 35 #[.slice a len cap] w fun e w' => ∃ b, e = .returned (.slice (some ⟨b, 0, none⟩) len len) ∧ OwnI w' w.heap.size len (.slice (some ⟨b, 0, none⟩) len len) (zs.take len) ∧ Ext w w' := by
  obtain ⟨i0, hi, hz0, hz1, hz2⟩ := info_parts infoI
  have hmk : (Instr.makeSlice 42 (.int .i64 (len : Int)) (.int .i64 (len : Int))).run Try.prog w = .ok (.slice (some ⟨w.heap.size, 0, none⟩) len len) (w.alloc (.cells (madeCells #[.int .i64 0] len) 2)) := by
    have := run_make (P := Try.prog) w 42 2 i0 (.int .i64 0) Try.underlying42 hi hz0 .i64 .i64 (len : Int) (len : Int) (by omega) (by omega) (by rw [hz2]; omega) (by omega)
    rw [hz1] at this
    simpa [Value.cells] using this
  have hms := size_madeCells #[.int .i64 0] len
  have HMS := (show Hid _ from hms)
  have HLM := hid (show len ≤ maxLen from by unfold maxLen; omega)
  clear hms hi hz0 hz1 hz2
  rcases rowI_open h with rfl | ⟨b, off, rfl, hb, hzl, hc⟩
  · clear h hl HMS
    simp only [Int.natCast_zero] at hmk
    go_enter Try.func35, Try.ntmps35
    go_wp2
    refine wp_loop_rounds 1 ?_
    rw [rounds_succ]
    go_wp2
    go_ret
    exact ⟨_, rfl, ownI_fresh (cs := madeCells #[.int .i64 0] 0) (zs := zs.take 0) (hid (by simp [madeCells])) (by simp) rfl (Nat.le_refl _) HLM.out, ext_alloc _ _⟩
  · clear h
    have hc' : ∀ (cs : Array Value) i, i < len → (w.alloc (.cells cs 2)).cell? ⟨b, off + i, none⟩ = some (.int .i64 (zs.getD i 0)) := fun cs i hi => by
      rw [World.cell?_alloc_past _ _ _ hb]; exact hc i hi
    have HC := (show Hid _ from hc')
    clear hc hc'
    go_enter Try.func35, Try.ntmps35
    go_wp2
    go_loopw [4] (fun i wr => ∃ (k : Nat) (cs : Array Value), k ≤ len ∧ i = .int .i64 k ∧ wr = w.alloc (.cells cs 2) ∧ cs.size = len ∧ Hid (cs.toList.take k = (zs.take k).map (Value.int .i64))) (fun i _ => len - (intOf i).toNat)
    case atStart => exact ⟨0, _, Nat.zero_le _, rfl, rfl, HMS.out, rfl⟩
    case round =>
      obtain ⟨k, cs, hk, rfl, rfl, hsz, hp⟩ := hrel
      by_cases hlt : k < len
      · have hcell := HC.out cs k hlt
        have hown : cs[k]? = some (cs[k]'(by omega)) := by simp [hsz, hlt]
        go_wp2
        go_roundw
        case rel => exact ⟨k + 1, _, by omega, by go_num, rfl, by simp [hsz], by show _ = _; rw [cs_step cs k _ _ hp.out (by omega), takeI_snoc zs k (by omega)]; simp⟩
        case measure => simp [intOf]; omega
      · have : k = len := by omega
        subst this
        go_wp2
        go_ret
        refine ⟨_, rfl, ownI_fresh (cs := cs) (zs := zs.take k) (hid ?_) (by simp; omega) rfl (Nat.le_refl _) HLM.out, ext_alloc _ _⟩
        rw [← hp.out, List.take_of_length_le (by simp [hsz])]
set_option maxRecDepth 100000 in
theorem eqInts_any (a1 a2 : Option Addr) (n c1 c2 : Nat) (xs ys : List Int) (w : World) (h1 : HoldsI w a1 n xs) (h2 : HoldsI w a2 n ys) (hn : n ≤ 1048576) (he : xs = ys) :
    Calls Try.prog 37 #[.slice a1 n c1, .slice a2 n c2] w fun e w' => e = .returned (.bool true) ∧ Ext w w' := by
  subst he
  have H1 := hid h1
  have H2 := hid h2
  clear h1 h2
  go_enter Try.func37, Try.ntmps37
  go_wp2
  go_loopw [5] (fun i wr => ∃ k : Nat, k ≤ n ∧ i = .int .i64 k ∧ Hid (∃ m, wr = w.drewN m)) (fun i _ => n - (intOf i).toNat)
  case atStart => exact ⟨0, Nat.zero_le _, rfl, 0, rfl⟩
  case round =>
    obtain ⟨k, hk, rfl, hw⟩ := hrel
    by_cases hlt : k < n
    · have E0 : Ext w wr := by obtain ⟨m, hm⟩ := hw.out; rw [hm]; exact Ext.drewN (Ext.refl _) _
      obtain ⟨b1, o1, rfl, e1⟩ := cellI_at H1.out E0 k hlt
      obtain ⟨b2, o2, rfl, e2⟩ := cellI_at H2.out E0 k hlt
      clear E0
      generalize xs.getD k 0 = x at e1 e2
      have i0 : (0 : Int) ≤ (k : Int) := by omega
      have i1 : (k : Int) < (n : Int) := by omega
      go_wp2
      go_quiet (fail)
      go_wp2
      go_roundw
      case rel => exact ⟨k + 1, by omega, by go_num, by obtain ⟨m, hm⟩ := hw.out; exact ⟨m + nq, by rw [hm, World.drewN_drewN]⟩⟩
      case measure => simp [intOf]; omega
    · go_wp2
      go_ret
      refine ⟨rfl, ?_⟩
      obtain ⟨m, hm⟩ := hw.out
      rw [hm]
      exact Ext.drewN (Ext.refl _) _
end Go.Proofs.Ytpmjiabllmomjaa

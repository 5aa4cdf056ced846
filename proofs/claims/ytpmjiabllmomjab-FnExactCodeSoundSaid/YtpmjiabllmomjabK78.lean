/- Rows of bytes, and texts of them. -/
import Derived.Test.YtpmjiabllmomjabKCod
import Derived.Test.YtpmjiabllmomjabRow
import Derived.Laws.IdiomStrings
import Derived.Lib.BufferRead
import Derived.Deep.AppendLies
import Derived.Test.YtpmjiabllmomjabV12
namespace Go.Proofs.Ytpmjiabllmomjab
open Go.RowKit Flt
set_option linter.unusedVariables false


/-- a code as a byte -/
theorem wrap8 (n : Int) : 0 ≤ IntKind.u8.wrap n ∧ IntKind.u8.wrap n < 256 := by
  have hb : IntKind.u8.bits = 8 := rfl
  have hs : IntKind.u8.signed = false := rfl
  have e1 : (2 : Int) ^ 8 = 256 := by decide
  unfold IntKind.wrap
  simp only [hb, hs, e1, Bool.false_and, Bool.false_eq_true, if_false]
  omega
theorem byte_back {n : Int} (h : 0 ≤ n ∧ n < 256) : ((UInt8.ofNat n.toNat).toNat : Int) = n := by
  have : (UInt8.ofNat n.toNat).toNat = n.toNat % 256 := by simp
  omega
/-- a row of bytes that a call has made itself -/
def OwnB (w : World) (B n : Nat) (v : Value) (bs : List UInt8) : Prop := w.ownsRow B 5 1 v n (bs.map fun b => Value.int .u8 (b.toNat : Int))
theorem OwnB.len {w : World} {B n : Nat} {v : Value} {bs : List UInt8} (h : OwnB w B n v bs) : bs.length = n := by
  have := h.1
  simpa using this
theorem OwnB.block {w : World} {B n : Nat} {v : Value} {bs : List UInt8} (h : OwnB w B n v bs) : ∀ k, v.ownBlock = some k → B ≤ k ∧ k < w.heap.size := World.ownsRow.lt h
theorem OwnB.heap {w w' : World} {B n : Nat} {v : Value} {bs : List UInt8} (h : OwnB w B n v bs) (e : ∀ k, v.ownBlock = some k → w'.heap[k]? = w.heap[k]?) : OwnB w' B n v bs := by
  refine ⟨h.1, ?_⟩
  rcases h.2 with hn | ⟨g, cap, cur, rfl, hb, hg, rest⟩
  · exact .inl hn
  · exact .inr ⟨g, cap, cur, rfl, hb, (e g rfl).trans hg, rest⟩
theorem OwnB.ext {w w' : World} {B n : Nat} {v : Value} {bs : List UInt8} (h : OwnB w B n v bs) (e : Ext w w') : OwnB w' B n v bs := h.heap fun k hk => Below.block e k (h.block k hk).2
theorem ownB_fresh {w : World} {B a n : Nat} (ha : a = w.heap.size) (hB : B ≤ w.heap.size) (hn : n = 0) :
    OwnB (w.alloc (.cells #[] 5)) B n (.slice (some ⟨a, 0, none⟩) n n) [] := by
  subst ha hn
  have := World.ownsRow_lit (e := 5) (size := 1) w #[] 0 hB (Nat.zero_le _) (by simp)
  simpa [OwnB] using this
theorem ownB_snoc {w : World} {B k : Nat} {v : Value} {bs : List UInt8} {n : Int} (hn : 0 ≤ n ∧ n < 256) (h : w.ownsRow B 5 1 v (k + 1) (bs.map (fun b => Value.int .u8 (b.toNat : Int)) ++ [.int .u8 n])) : OwnB w B (k + 1) v (bs ++ [UInt8.ofNat n.toNat]) := by
  unfold OwnB
  rw [List.map_append, List.map_cons, List.map_nil, byte_back hn]
  exact h
theorem infoB : (Try.prog.info? 5).map (fun i => (i.zero, i.size, i.bytes)) = some (some (.int .u8 0), 1, 1) := by kernel_rfl
theorem ownB_str {w : World} {B n : Nat} {v : Value} {bs : List UInt8} (h : OwnB w B n v bs) : (convert 58 9 v).run Try.prog w = .ok (.string ⟨bs.toArray⟩) w := by
  have hl := h.len
  rcases h.2 with ⟨rfl, h0⟩ | ⟨g, cap, cur, rfl, hb, hg, hn, hm, hs, ht⟩
  · have hbs : bs = [] := List.eq_nil_of_length_eq_zero (by omega)
    subst hbs
    have := Lib.run_convert_nil_bytes (P := Try.prog) w 58 9 5 0 Try.underlying58 Try.underlying5 Try.underlying9
    simpa using this
  · subst hl
    refine run_convert_bytes_back w 58 9 5 _ cap bs Try.underlying58 Try.underlying5 Try.underlying9 (fun j hj => ?_)
    rw [addr_add, Nat.zero_add, cell_of_row w g j cur _ (0, 0) hg]
    have h1 : (cur.toList.take (bs.length * 1))[j]? = some (.int .u8 ((bs[j]).toNat : Int)) := by
      rw [ht]; simp [hj]
    rw [List.getElem?_take, if_pos (by omega)] at h1
    simpa using h1
section
variable {P : Program} {w : World} {ops : Array Oper} {rest : List Oper} {o : Oper} {a : Act} {Q : Exit → Act → World → Prop}
theorem wpList_convat {src dst : TypeId} {x : Operand} (hop : o.op = Op.convert src dst x) (hw : Region.wanted o (yielded ops a.tmps) = true) {v0 v : Value} (hx : a.eval x = v0) (hrun : (convert src dst v0).run P w = .ok v w)
    (hK : wpList P ops Q rest (a.put o.dst v) w) : wpList P ops Q (o :: rest) a w := by
  refine wpList_wanted hw fun K hK' => ?_
  have hk := hK' _ _ hK
  unfold Oper.wp
  simp [execOp, hop, hx, hrun]
  exact hk
end



noncomputable def byteZ (x : Nat) : UInt8 := UInt8.ofNat (IntKind.u8.wrap (codeZ x)).toNat
noncomputable def codesS (zs : List Nat) : ByteArray := ⟨(zs.map byteZ).toArray⟩
noncomputable def codesR (zs : List Nat) : ByteArray × Bool := if soundB (zs.map (cls .f32)) then (codesS zs, true) else (⟨#[]⟩, false)

set_option maxHeartbeats 4000000 in
set_option maxRecDepth 100000 in
theorem codeS_any (a : Option Addr) (n c : Nat) (zs : List Nat) (S : ByteArray) (O : Bool) (w : World) (h : Holds .f32 w a n zs) (hn : n ≤ 1048576) (hw : Words n zs) (hR : codesR zs = (S, O)) :
    Calls Try.prog 20 #[.slice a n c] w fun e w' => e = .returned (.tuple #[.string S, .bool O]) ∧ Ext w w' := by
  have H1 := hid h
  have HN := hid hn
  have HL := hid h.1
  have HR := hid hR
  have HW := hid hw
  clear h hn hR hw
  cases hA : soundB (zs.map (cls .f32))
  · have e : O = false ∧ S = ⟨#[]⟩ := by have := HR.out; unfold codesR at this; rw [hA] at this; simpa [eq_comm, and_comm] using this
    obtain ⟨rfl, rfl⟩ := e
    go_enter Try.func20, Try.ntmps20
    go_wp2_with (first | (go_at_call 64; with_reducible refine (isSound_drew a n c zs _ _ (Holds.ext H1.out (by (repeat with_reducible (first | exact Ext.refl _ | exact ext_alloc _ _ | refine Ext.drewN ?_ _ | refine Ext.drew1 ?_ | refine Ext.set ?_ (by dsimp only; omega) _ | refine Ext.alloc ?_ _)))) HN.out hA).mono ?_; rintro e w' ⟨rfl, m1, rfl⟩))
    go_returns
    refine ⟨rfl, ?_⟩
    (repeat with_reducible (first | exact Ext.refl _ | exact ext_alloc _ _ | refine Ext.drewN ?_ _ | refine Ext.drew1 ?_ | refine Ext.set ?_ (by dsimp only; omega) _ | refine Ext.alloc ?_ _))
  have e : O = true ∧ S = codesS zs := by have := HR.out; unfold codesR at this; rw [hA] at this; simpa [eq_comm, and_comm] using this
  obtain ⟨rfl, rfl⟩ := e
  have HF := hid (fun k (hk : k < n) => fins_at hA k (by rw [HL.out]; exact hk))
  obtain ⟨i0, hif, hz0, hz1, hz2⟩ := info_parts infoB
  have HI := hid (And.intro hif (And.intro hz0 (And.intro hz1 hz2)))
  have HM := hid (size_madeCells #[Value.int .u8 0] n)
  have hl256 : n ≤ 256 := by have := sound_len hA; have h2 := HL.out; simp at this; omega
  have HO0 := hid (fun (u : World) (hB : w.heap.size ≤ u.heap.size) => World.ownsRow_made (e := 5) (size := 1) (base := w.heap.size) u (madeCells #[.int .u8 0] n) n hB (by unfold maxLen; omega) (by rw [HM.out]; omega))
  have hmk : ∀ u : World, (Instr.makeSlice 58 (.int .i64 (0 : Int)) (.int .i64 (n : Int))).run Try.prog u = .ok (.slice (some ⟨u.heap.size, 0, none⟩) 0 n) (u.alloc (.cells (madeCells #[.int .u8 0] n) 5)) := fun u => by
    have := run_make (P := Try.prog) u 58 5 i0 (.int .u8 0) Try.underlying58 hif hz0 .i64 .i64 (0 : Int) (n : Int) (by omega) (by omega) (by rw [hz2]; omega) (by omega)
    rw [hz1] at this
    simpa [Value.cells] using this
  clear hif hz0 hz1 hz2 HR hl256
  go_enter Try.func20, Try.ntmps20
  go_wp2_with (first | (go_at_call 64; with_reducible refine (isSound_drew a n c zs _ _ (Holds.ext H1.out (by (repeat with_reducible (first | exact Ext.refl _ | exact ext_alloc _ _ | refine Ext.drewN ?_ _ | refine Ext.drew1 ?_ | refine Ext.set ?_ (by dsimp only; omega) _ | refine Ext.alloc ?_ _)))) HN.out hA).mono ?_; rintro e w' ⟨rfl, m1, rfl⟩))
  go_loopw [4, 17] (fun v i wr => ∃ (k : Nat) (bs : List UInt8), k ≤ n ∧ i = .int .i64 k ∧ Hid (OwnB wr w.heap.size k v bs) ∧ Hid (bs = (zs.take k).map byteZ) ∧ Hid (Ext w wr)) (fun _ i _ => n - (intOf i).toNat)
  case atStart => exact ⟨0, [], Nat.zero_le _, rfl, hid (by first | exact ownB_fresh rfl (by simp) rfl | exact HO0.out _ (by simp)), hid rfl, hid (by (repeat with_reducible (first | exact Ext.refl _ | exact ext_alloc _ _ | refine Ext.drewN ?_ _ | refine Ext.drew1 ?_ | refine Ext.set ?_ (by dsimp only; omega) _ | refine Ext.alloc ?_ _)))⟩
  case round =>
    obtain ⟨k, bs, hk, rfl, ho, hbs, he⟩ := hrel
    have hn2 : n ≤ 1048576 := HN.out
    clear hmk HO0
    by_cases hlt : k < n
    · obtain ⟨b, off, rfl, e1⟩ := cell_at H1.out he.out k hlt
      have hfx := HF.out k hlt
      have hwx := HW.out k hlt
      have hs := hid (show (zs.take (k + 1)).map byteZ = (zs.take k).map byteZ ++ [byteZ (zs.getD k 0)] from by
        rw [List.take_succ_eq_append_getElem (by rw [HL.out]; exact hlt), List.map_append, List.map_cons, List.map_nil]
        simp [List.getD, HL.out, hlt])
      generalize zs.getD k 0 = x at e1 hfx hwx hs
      obtain ⟨Z, hZ⟩ : ∃ Z, codeZ x = Z := ⟨_, rfl⟩
      have HZ := hid hZ
      have HBZ := hid (show byteZ x = UInt8.ofNat (IntKind.u8.wrap Z).toNat from by unfold byteZ; rw [hZ])
      clear hZ
      have hi0 : (0 : Int) ≤ (k : Int) := by omega
      have hi1 : (k : Int) < (n : Int) := by omega
      have HSZ := hid (Ext.size he.out)
      go_wp2_with (first | (go_at_call 14; refine (codeOf_yes hwx hfx _).mono ?_; rintro e w' ⟨rfl, m3, rfl⟩; rw [HZ.out]) | (at_builtin; refine wpList_append_lies _ rfl _ _ 58 rfl w.heap.size 5 i0 (.int .u8 0) 1 1 Try.underlying58 HI.out.1 HI.out.2.1 HI.out.2.2.1 HI.out.2.2.2 rfl (by decide) _ _ _ rfl (OwnB.ext ho.out (by (repeat with_reducible (first | exact Ext.refl _ | exact ext_alloc _ _ | refine Ext.drewN ?_ _ | refine Ext.drew1 ?_ | refine Ext.set ?_ (by dsimp only; omega) _ | refine Ext.alloc ?_ _)))) ⟨wr.heap.size, 0, none⟩ 1 1 [.int .u8 (IntKind.u8.wrap Z)] rfl rfl (World.news_of_block (heap_alloc_new _ _)) (by intro u hu; simp at hu; subst hu; rfl) (by omega) (by have h9 := HN.out; unfold maxLen; omega) (by have h9 := HN.out; omega) (by have h8 := HSZ.out; simp; omega) _ rfl ?_; intro g cap w1 hown hgrow hat hlt2))
      have h1 := hid (ownB_snoc (wrap8 Z) hown)
      have h2 := hid (show Ext w w1 from But.below hgrow (Ext.trans he.out (by (repeat with_reducible (first | exact Ext.refl _ | exact ext_alloc _ _ | refine Ext.drewN ?_ _ | refine Ext.drew1 ?_ | refine Ext.set ?_ (by dsimp only; omega) _ | refine Ext.alloc ?_ _)))) (fun k2 hk2 => (OwnB.block ho.out k2 hk2).1))
      have h3 := hid (show bs ++ [UInt8.ofNat (IntKind.u8.wrap Z).toNat] = (zs.take (k + 1)).map byteZ from by rw [hs.out, hbs.out, HBZ.out])
      clear hown hgrow hat hlt2
      go_wp2
      go_roundw
      case rel => exact ⟨k + 1, _, by omega, by go_num, h1, h3, h2⟩
      case measure => simp [intOf]; omega
    · have hkn : k = n := by omega
      subst hkn
      have HST := hid (ownB_str ho.out)
      have HSE := hid (show (⟨bs.toArray⟩ : ByteArray) = codesS zs from by unfold codesS; rw [hbs.out, List.take_of_length_le (by rw [HL.out]; exact Nat.le_refl _)])
      go_wp2_with (refine wpList_convat rfl rfl rfl HST.out ?_; rw [HSE.out])
      go_returns
      exact ⟨rfl, he.out⟩

set_option maxHeartbeats 4000000 in
set_option maxRecDepth 100000 in
theorem sCodeS_any (a : Option Addr) (n c : Nat) (zs : List Nat) (S : ByteArray) (O : Bool) (w : World) (h : Holds .f32 w a n zs) (hn : n ≤ 1048576) (hw : Words n zs) (hR : codesR zs = (S, O)) :
    Calls Try.prog 18 #[.slice a n c] w fun e w' => e = .returned (.tuple #[.string S, .bool O]) ∧ Ext w w' := by
  have H1 := hid h
  have HN := hid hn
  have HL := hid h.1
  have HR := hid hR
  have HW := hid hw
  clear h hn hR hw
  cases hA : soundB (zs.map (cls .f32))
  · have e : O = false ∧ S = ⟨#[]⟩ := by have := HR.out; unfold codesR at this; rw [hA] at this; simpa [eq_comm, and_comm] using this
    obtain ⟨rfl, rfl⟩ := e
    go_enter Try.func18, Try.ntmps18
    go_wp2_with (first | (go_at_call 63; with_reducible refine (l03Sound_drew a n c zs _ _ (Holds.ext H1.out (by (repeat with_reducible (first | exact Ext.refl _ | exact ext_alloc _ _ | refine Ext.drewN ?_ _ | refine Ext.drew1 ?_ | refine Ext.set ?_ (by dsimp only; omega) _ | refine Ext.alloc ?_ _)))) HN.out hA).mono ?_; rintro e w' ⟨rfl, m1, rfl⟩))
    go_returns
    refine ⟨rfl, ?_⟩
    (repeat with_reducible (first | exact Ext.refl _ | exact ext_alloc _ _ | refine Ext.drewN ?_ _ | refine Ext.drew1 ?_ | refine Ext.set ?_ (by dsimp only; omega) _ | refine Ext.alloc ?_ _))
  have e : O = true ∧ S = codesS zs := by have := HR.out; unfold codesR at this; rw [hA] at this; simpa [eq_comm, and_comm] using this
  obtain ⟨rfl, rfl⟩ := e
  have HF := hid (fun k (hk : k < n) => fins_at hA k (by rw [HL.out]; exact hk))
  obtain ⟨i0, hif, hz0, hz1, hz2⟩ := info_parts infoB
  have HI := hid (And.intro hif (And.intro hz0 (And.intro hz1 hz2)))
  have HM := hid (size_madeCells #[Value.int .u8 0] n)
  have hl256 : n ≤ 256 := by have := sound_len hA; have h2 := HL.out; simp at this; omega
  have HO0 := hid (fun (u : World) (hB : w.heap.size ≤ u.heap.size) => World.ownsRow_made (e := 5) (size := 1) (base := w.heap.size) u (madeCells #[.int .u8 0] n) n hB (by unfold maxLen; omega) (by rw [HM.out]; omega))
  have hmk : ∀ u : World, (Instr.makeSlice 58 (.int .i64 (0 : Int)) (.int .i64 (n : Int))).run Try.prog u = .ok (.slice (some ⟨u.heap.size, 0, none⟩) 0 n) (u.alloc (.cells (madeCells #[.int .u8 0] n) 5)) := fun u => by
    have := run_make (P := Try.prog) u 58 5 i0 (.int .u8 0) Try.underlying58 hif hz0 .i64 .i64 (0 : Int) (n : Int) (by omega) (by omega) (by rw [hz2]; omega) (by omega)
    rw [hz1] at this
    simpa [Value.cells] using this
  clear hif hz0 hz1 hz2 HR hl256
  go_enter Try.func18, Try.ntmps18
  go_wp2_with (first | (go_at_call 63; with_reducible refine (l03Sound_drew a n c zs _ _ (Holds.ext H1.out (by (repeat with_reducible (first | exact Ext.refl _ | exact ext_alloc _ _ | refine Ext.drewN ?_ _ | refine Ext.drew1 ?_ | refine Ext.set ?_ (by dsimp only; omega) _ | refine Ext.alloc ?_ _)))) HN.out hA).mono ?_; rintro e w' ⟨rfl, m1, rfl⟩))
  go_loopw [4, 12] (fun v i wr => ∃ (k : Nat) (bs : List UInt8), k ≤ n ∧ i = .int .i64 k ∧ Hid (OwnB wr w.heap.size k v bs) ∧ Hid (bs = (zs.take k).map byteZ) ∧ Hid (Ext w wr)) (fun _ i _ => n - (intOf i).toNat)
  case atStart => exact ⟨0, [], Nat.zero_le _, rfl, hid (by first | exact ownB_fresh rfl (by simp) rfl | exact HO0.out _ (by simp)), hid rfl, hid (by (repeat with_reducible (first | exact Ext.refl _ | exact ext_alloc _ _ | refine Ext.drewN ?_ _ | refine Ext.drew1 ?_ | refine Ext.set ?_ (by dsimp only; omega) _ | refine Ext.alloc ?_ _)))⟩
  case round =>
    obtain ⟨k, bs, hk, rfl, ho, hbs, he⟩ := hrel
    have hn2 : n ≤ 1048576 := HN.out
    clear hmk HO0
    by_cases hlt : k < n
    · obtain ⟨b, off, rfl, e1⟩ := cell_at H1.out he.out k hlt
      have hfx := HF.out k hlt
      have hwx := HW.out k hlt
      have hs := hid (show (zs.take (k + 1)).map byteZ = (zs.take k).map byteZ ++ [byteZ (zs.getD k 0)] from by
        rw [List.take_succ_eq_append_getElem (by rw [HL.out]; exact hlt), List.map_append, List.map_cons, List.map_nil]
        simp [List.getD, HL.out, hlt])
      generalize zs.getD k 0 = x at e1 hfx hwx hs
      obtain ⟨Z, hZ⟩ : ∃ Z, codeZ x = Z := ⟨_, rfl⟩
      have HZ := hid hZ
      have HBZ := hid (show byteZ x = UInt8.ofNat (IntKind.u8.wrap Z).toNat from by unfold byteZ; rw [hZ])
      clear hZ
      have hi0 : (0 : Int) ≤ (k : Int) := by omega
      have hi1 : (k : Int) < (n : Int) := by omega
      have HSZ := hid (Ext.size he.out)
      go_wp2_with (first | (go_at_call 55; refine (l05Code_yes hwx hfx _).mono ?_; rintro e w' ⟨rfl, m3, rfl⟩; rw [HZ.out]) | (at_builtin; refine wpList_append_lies _ rfl _ _ 58 rfl w.heap.size 5 i0 (.int .u8 0) 1 1 Try.underlying58 HI.out.1 HI.out.2.1 HI.out.2.2.1 HI.out.2.2.2 rfl (by decide) _ _ _ rfl (OwnB.ext ho.out (by (repeat with_reducible (first | exact Ext.refl _ | exact ext_alloc _ _ | refine Ext.drewN ?_ _ | refine Ext.drew1 ?_ | refine Ext.set ?_ (by dsimp only; omega) _ | refine Ext.alloc ?_ _)))) ⟨wr.heap.size, 0, none⟩ 1 1 [.int .u8 (IntKind.u8.wrap Z)] rfl rfl (World.news_of_block (heap_alloc_new _ _)) (by intro u hu; simp at hu; subst hu; rfl) (by omega) (by have h9 := HN.out; unfold maxLen; omega) (by have h9 := HN.out; omega) (by have h8 := HSZ.out; simp; omega) _ rfl ?_; intro g cap w1 hown hgrow hat hlt2))
      have h1 := hid (ownB_snoc (wrap8 Z) hown)
      have h2 := hid (show Ext w w1 from But.below hgrow (Ext.trans he.out (by (repeat with_reducible (first | exact Ext.refl _ | exact ext_alloc _ _ | refine Ext.drewN ?_ _ | refine Ext.drew1 ?_ | refine Ext.set ?_ (by dsimp only; omega) _ | refine Ext.alloc ?_ _)))) (fun k2 hk2 => (OwnB.block ho.out k2 hk2).1))
      have h3 := hid (show bs ++ [UInt8.ofNat (IntKind.u8.wrap Z).toNat] = (zs.take (k + 1)).map byteZ from by rw [hs.out, hbs.out, HBZ.out])
      clear hown hgrow hat hlt2
      go_wp2
      go_roundw
      case rel => exact ⟨k + 1, _, by omega, by go_num, h1, h3, h2⟩
      case measure => simp [intOf]; omega
    · have hkn : k = n := by omega
      subst hkn
      have HST := hid (ownB_str ho.out)
      have HSE := hid (show (⟨bs.toArray⟩ : ByteArray) = codesS zs from by unfold codesS; rw [hbs.out, List.take_of_length_le (by rw [HL.out]; exact Nat.le_refl _)])
      go_wp2_with (refine wpList_convat rfl rfl rfl HST.out ?_; rw [HSE.out])
      go_returns
      exact ⟨rfl, he.out⟩

end Go.Proofs.Ytpmjiabllmomjab

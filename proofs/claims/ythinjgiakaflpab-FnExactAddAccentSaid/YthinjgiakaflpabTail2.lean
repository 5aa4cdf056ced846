/- Regions that draw their order, whose first operation may be left to the end by the order that is drawn: it is taken first; then as in Tail. -/
import Derived.Test.YthinjgiakaflpabTail
namespace Go.Proofs.Ythinjgiakaflpab.Flt
open Go.RowKit
set_option linter.unusedVariables false

section
variable {P : Program} {ops : Array Oper} {md : Region.Mode} {C : World → Prop}

/-- from k on, whatever comes before n is waited for by something behind it, up to n -/
def sinkFrom (md : Region.Mode) (ops : Array Oper) (k n : Nat) : Bool :=
  (List.range n).all fun i => decide (i < k) || (List.range (n + 1)).any fun j => decide (i < j) && Region.waitsFor md ops j i

theorem tail_waits_from {k n : Nat} {listed : Array Bool} (hs : sinkFrom md ops k n = true) (hc : Region.chainB md ops n = true) (hn : n < ops.size) (inv : HeadInv md ops n listed) :
    ∀ (d i : Nat), n - i = d → k ≤ i → i < n → listed.getD i true = false → ∀ t, n ≤ t → t ∉ Region.ready md ops listed := by
  intro d
  induction d using Nat.strongRecOn with
  | _ d ih =>
    intro i hd hki hi hun t ht hr
    obtain ⟨_, ot, hot, hall⟩ := mem_ready.1 hr
    have htlt : t < ops.size := (Array.getElem?_eq_some_iff.1 hot).1
    rcases Nat.lt_or_eq_of_le ht with htn | rfl
    · have h1 := List.all_eq_true.1 hc t (List.mem_range.2 htlt)
      rw [Bool.or_eq_true, decide_eq_true_eq] at h1
      rcases h1 with h1 | h1
      · omega
      obtain ⟨o', ho', e, he, hb, hon⟩ := Region.waitsFor_spec h1
      cases Option.some.inj (ho'.symm.trans hot)
      have h2 := hall e he hb
      rw [hon, getD_both (inv.tail (t - 1) (by omega) (by omega))] at h2
      cases h2
    · have h1 := List.all_eq_true.1 hs i (List.mem_range.2 hi)
      rw [Bool.or_eq_true, decide_eq_true_eq] at h1
      rcases h1 with h1 | h1
      · omega
      obtain ⟨j, hj, hj2⟩ := List.any_eq_true.1 h1
      rw [Bool.and_eq_true, decide_eq_true_eq] at hj2
      obtain ⟨oj, hoj, e, he, hb, hon⟩ := Region.waitsFor_spec hj2.2
      have hjle : j < n + 1 := List.mem_range.1 hj
      have hw : listed.getD e.on false = false := by rw [hon]; exact getD_both hun
      rcases Nat.lt_or_eq_of_le (Nat.le_of_lt_succ hjle) with hjt | rfl
      · cases hl : listed.getD j false with
        | true => rw [inv.closed j oj hoj hl e he hb] at hw; cases hw
        | false =>
          have hjs : j < listed.size := by rw [inv.size]; omega
          exact ih (n - j) (by omega) j rfl (by omega) hjt (getD_in hjs hl) n (Nat.le_refl _) hr
      · cases Option.some.inj (hoj.symm.trans hot)
        rw [hall e he hb] at hw; cases hw

theorem headM_first_from {k0 n i : Nat} {oi : Oper} {L : Array Bool → Act → Prop} (hki : k0 ≤ i) (hC : ∃ w, C w) (hi : ops[i]? = some oi) (hsel : ∀ (j : Nat) (o : Oper) cs b, ops[j]? = some o → o.op ≠ .select cs b)
    (hs : sinkFrom md ops k0 n = true) (hc : Region.chainB md ops n = true) (hn : n < ops.size) (hin : i < n) (hdone : ∀ listed a, L listed a → ∀ j ∈ Region.ready md ops listed, n ≤ j) :
    ∀ (f : Nat) (listed : Array Bool) (a : Act), HeadInv md ops n listed →
      (∀ j oj, ops[j]? = some oj → j ≠ i → j < n → listed.getD j true = false → (∀ e ∈ oj.after, Region.binds md e = true → e.on ≠ i) → oi.apart ops oj = true ∧ (multiOp oi = true → plainOp oj = true)) →
      i ∈ Region.ready md ops listed → mOp P ops C i (headM P md ops C n L f (listed.setIfInBounds i true)) a → headM P md ops C n L (f + 1) listed a := by
  intro f
  induction f with
  | zero =>
    intro listed a inv _ hr H
    have hun := (mem_ready.1 hr).1
    refine ⟨fun h => (by rw [h] at hr; cases hr), fun j hj => ?_⟩
    have hjn : j < n := by
      rcases Nat.lt_or_ge j n with h | h
      · exact h
      · exact absurd hj (tail_waits_from hs hc hn inv _ i rfl hki hin hun j h)
    refine ⟨hjn, ?_⟩
    by_cases hji : j = i
    · subst hji; exact H
    · obtain ⟨a', h0⟩ := mOp_some hC H
      have := hdone _ _ h0 j (ready_mono hj hji)
      omega
  | succ f ih =>
    intro listed a inv hfree hr H
    have hun := (mem_ready.1 hr).1
    refine ⟨fun h => (by rw [h] at hr; cases hr), fun j hj => ?_⟩
    have hjn : j < n := by
      rcases Nat.lt_or_ge j n with h | h
      · exact h
      · exact absurd hj (tail_waits_from hs hc hn inv _ i rfl hki hin hun j h)
    refine ⟨hjn, ?_⟩
    by_cases hji : j = i
    · subst hji; exact H
    · obtain ⟨hjun, oj, hoj, hall⟩ := mem_ready.1 hj
      have hnot : ∀ e ∈ oj.after, Region.binds md e = true → e.on ≠ i := fun e he hb heq => by
        have h1 := hall e he hb
        rw [heq, getD_both hun] at h1
        cases h1
      obtain ⟨hap, hpl⟩ := hfree j oj hoj hji hjn hjun hnot
      have H2 : mOp P ops C i (mOp P ops C j (headM P md ops C n L f ((listed.setIfInBounds i true).setIfInBounds j true))) a :=
        mOp_mono (fun a' ha' => (ha'.2 j (ready_mono hj hji)).2) H
      have H3 := mOp_swap hi hoj hC hap (fun cs b => hsel i oi cs b hi) (fun cs b => hsel j oj cs b hoj) hpl H2
      refine mOp_mono (fun a' ha' => ih (listed.setIfInBounds j true) a' (inv.set hj hjn) ?_ (ready_mono hr (Ne.symm hji)) ?_) H3
      · intro k ok hk hki hkn hun2 hno
        refine hfree k ok hk hki hkn ?_ hno
        by_cases hjk : j = k
        · subst hjk; exact hjun
        · rw [getD_set_ne true hjk] at hun2; exact hun2
      · rw [Array.setIfInBounds_comm _ _ hji]
        exact ha'

theorem headM_lex_from {k0 n g : Nat} {Lq : Act → Prop} (hC : ∃ w, C w) (hsel : Region.noSelect ops = true) (hs : sinkFrom md ops k0 n = true) (hc : Region.chainB md ops n = true) (hn : n < ops.size) (hmf : multiHead md ops n = true) :
    ∀ (l : List Oper) (k : Nat) (listed : Array Bool) (a : Act), k0 ≤ k → (∀ j, j < l.length → l[j]? = ops[k + j]?) → k + l.length = n → (∀ j, j < k → listed.getD j true = true) → HeadInv md ops n listed →
    Region.lexHead md ops g l.length k listed = true → wpM P ops C Lq l a →
    headM P md ops C n (fun listed' a' => Region.seqB md ops g n listed' = true ∧ Lq a') l.length listed a
  | [], k, listed, a, _, _, hk, _, _, hB, h => by
    have : k = n := by simpa using hk
    subst this
    exact ⟨by simpa [Region.lexHead] using hB, h⟩
  | o :: l, k, listed, a, hk0, hl, hk, hdn, inv, hB, h => by
    have h0 : ops[k]? = some o := by simpa using (hl 0 (by simp)).symm
    simp only [List.length_cons, Region.lexHead, Bool.and_eq_true] at hB
    obtain ⟨⟨hr, hf⟩, hB'⟩ := hB
    have hkn : k < n := by simp only [List.length_cons] at hk; omega
    have hr' : k ∈ Region.ready md ops listed := by simpa using hr
    refine headM_first_from hk0 hC h0 (Region.noSelect_spec hsel) hs hc hn hkn (fun listed' a' hL => seqB_ready hL.1) l.length listed a inv ?_ hr' ?_
    · intro j oj hj hjk hjn hun hno
      refine ⟨Region.free_spec h0 hf j oj hj hjk hun hno, fun hm => multiHead_spec hmf h0 hj hkn hjn ?_ hm hno⟩
      rcases Nat.lt_trichotomy j k with h3 | h3 | h3
      · rw [hdn j h3] at hun; cases hun
      · exact absurd h3 hjk
      · exact h3
    · rw [mOp_at h0]
      have ih : ∀ a', wpM P ops C Lq l a' → headM P md ops C n (fun listed' a' => Region.seqB md ops g n listed' = true ∧ Lq a') l.length (listed.setIfInBounds k true) a' := fun a' ha' =>
        headM_lex_from hC hsel hs hc hn hmf l (k + 1) _ a' (by omega) (fun j hj => by have := hl (j + 1) (by simp; omega); simpa [Nat.add_assoc, Nat.add_comm 1 j] using this) (by simp only [List.length_cons] at hk; omega) (fun j hj => by
          by_cases hjk : k = j
          · subst hjk
            rcases Nat.lt_or_ge k listed.size with h' | h'
            · simp [h']
            · simp
          · rw [getD_set_ne true hjk]; exact hdn j (by omega)) (inv.set hr' hkn) hB' ha'
      unfold wpM at h
      split at h
      · rename_i hw; rw [if_pos hw]; exact h.mono fun u => ih _
      · rename_i hw; rw [if_neg hw]; exact ih _ h

/-- may the first operation be taken first, and the others come in the text's order? -/
def moveTailB (ops : Array Oper) (n : Nat) : Bool :=
  Region.noSelect ops && decide (n < ops.size) && decide (0 < n) && sinkFrom .any ops 1 n && Region.chainB .any ops n && Region.free .any ops (Array.replicate ops.size false) 0 && (Region.ready .any ops (Array.replicate ops.size false)).contains 0 &&
    Region.lexHead .any ops (ops.size - n) (n - 1) 1 ((Array.replicate ops.size false).setIfInBounds 0 true)

/-- the first operation is taken first, whatever order is drawn; then one walk of the text's order serves every order -/
theorem wp_region_move_tail {id : Nat} {Q : Exit → Act → World → Prop} {a : Act} {w : World} {o0 : Oper} {l : List Oper} {v : Value} (n : Nat) (hm : P.follows .mixedOrders = true) (hB : moveTailB (o0 :: l).toArray n = true) (hM : multiHead .any (o0 :: l).toArray n = true)
    (hQ : ∀ c a w, Q (.panic c) (a.put o0.dst v) w → Q (.panic c) a w) (hy : Yields P (o0 :: l).toArray o0 v a)
    (h : wpM P (o0 :: l).toArray (fun w' => ∃ n, w' = w.drewN n) (fun a' => ∀ w', (∃ n, w' = w.drewN n) → wpList P (o0 :: l).toArray Q (l.drop (n - 1)) a' w') (l.take (n - 1)) (a.put o0.dst v)) : (Code.region id (o0 :: l).toArray true).wp P Q a w := by
  simp only [moveTailB, Bool.and_eq_true, decide_eq_true_eq] at hB
  obtain ⟨⟨⟨⟨⟨⟨⟨hsel, hn⟩, hn0⟩, hs⟩, hc⟩, hf⟩, hr⟩, hlex⟩ := hB
  generalize hops : (o0 :: l).toArray = ops at *
  have hsz : ops.size = l.length + 1 := by rw [← hops]; simp
  have h0 : ops[0]? = some o0 := by rw [← hops]; simp
  have hC : (fun w' => ∃ n, w' = w.drewN n) { w with drawn := w.drawn + 1 } := ⟨1, rfl⟩
  have htl : (l.take (n - 1)).length = n - 1 := by simp; omega
  have inv0 : HeadInv .any ops n (Array.replicate ops.size false) :=
    ⟨by simp, fun j oj _ hl => (by rw [getD_replicate_false] at hl; cases hl), fun t _ ht => getD_in (by simpa using ht) (getD_replicate_false _ _)⟩
  have hr' : 0 ∈ Region.ready .any ops (Array.replicate ops.size false) := by simpa using hr
  have H := headM_lex_from (md := .any) (g := ops.size - n) ⟨_, hC⟩ hsel hs hc hn hM (l.take (n - 1)) 1 ((Array.replicate ops.size false).setIfInBounds 0 true) (a.put o0.dst v) (Nat.le_refl _) (fun j hj => by
    have hj' : j < n - 1 := by rw [htl] at hj; exact hj
    rw [← hops]
    simp [hj', Nat.add_comm 1 j]) (by rw [htl]; omega) (fun j hj => by
      have : j = 0 := by omega
      subst this
      simp [hsz]) (inv0.set hr' hn0) (by rw [htl]; exact hlex) h
  refine wp_region_any hm ?_
  have := wpAny_of_headM (Q' := Q) (g := ops.size - n) (fun listed a' w' hw' hL => by
    have := wpAny_of_seq (md := .any) (Q' := Q) (l.drop (n - 1)) n listed a' w' (fun j => by
      rw [← hops]
      have e : n + j = (n - 1 + j) + 1 := by omega
      rw [e]; simp [List.getElem?_drop]) (by
        have : (l.drop (n - 1)).length = ops.size - n := by simp; omega
        rw [this]; exact hL.1) (hL.2 w' hw')
    have e2 : (l.drop (n - 1)).length = ops.size - n := by simp; omega
    rwa [e2] at this) _ _ _ _ hC H
  rw [htl] at this
  have e3 : ops.size = (n - 1 + (ops.size - n)) + 1 := by omega
  rw [e3]
  have hrep : Array.replicate (n - 1 + (ops.size - n) + 1) false = Array.replicate ops.size false := by rw [← e3]
  rw [hrep]
  exact wpAny_take h0 hsel hf hr hQ hy this
end
end Go.Proofs.Ythinjgiakaflpab.Flt

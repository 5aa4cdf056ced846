/- Regions that draw their order, whose head reads and ends in a call that may make memory, and whose tail has a forced order: one walk in the order of the text serves every order. -/
import Derived.Test.YtpmjiabllmomjaaTail
import Derived.Test.YtpmjiabllmomjaaBox
namespace Go.Proofs.Ytpmjiabllmomjaa.Flt
open Go.RowKit

section
variable {P : Program} {ops : Array Oper} {md : Region.Mode} {C : World → Prop} {ci : Nat}

/-- a call of a function that gives whatever values, in whatever worlds of the class -/
def CallStep (P : Program) (C : World → Prop) (o : Oper) (a : Act) (K : Act → Prop) : Prop :=
  ∀ w, C w → ∃ f args, (execOp a.eval o).run P w = .ok (.enter f args) w ∧ Calls P f args w (fun e w' => ∃ u, e = .returned u ∧ C w' ∧ K (a.put o.dst u))
theorem CallStep.mono {o : Oper} {a : Act} {K K' : Act → Prop} (hk : ∀ u, K (a.put o.dst u) → K' (a.put o.dst u)) (h : CallStep P C o a K) : CallStep P C o a K' := fun w hw => by
  obtain ⟨f, args, h1, h2⟩ := h w hw
  refine ⟨f, args, h1, h2.mono ?_⟩
  rintro e w' ⟨u, rfl, h3, h4⟩
  exact ⟨u, rfl, h3, hk u h4⟩
theorem Calls.hits {f : FuncId} {args : Array Value} {w : World} {R : Ending → World → Prop} (h : Calls P f args w R) : ∃ e w', R e w' := by
  obtain ⟨e, w', _, h1, _⟩ := h []
  exact ⟨e, w', h1⟩
/-- operation number i comes up; number ci is the call -/
def cOp (P : Program) (ops : Array Oper) (C : World → Prop) (ci i : Nat) (K : Act → Prop) (a : Act) : Prop :=
  match ops[i]? with
  | none => K a
  | some o => if Region.wanted o (yielded ops a.tmps) then (if i = ci then CallStep P C o a K else o.quiet P a C K) else K (a.put o.dst undef)
theorem cOp_at {i : Nat} {o : Oper} (hi : ops[i]? = some o) (K : Act → Prop) (a : Act) : cOp P ops C ci i K a = if Region.wanted o (yielded ops a.tmps) then (if i = ci then CallStep P C o a K else o.quiet P a C K) else K (a.put o.dst undef) := by
  unfold cOp; rw [hi]
theorem quiet_mono {o : Oper} {a : Act} {K K' : Act → Prop} (hk : ∀ u, K (a.put o.dst u) → K' (a.put o.dst u)) (h : o.quiet P a C K) : o.quiet P a C K' := by
  obtain ⟨v, h1, h2⟩ := h
  exact ⟨v, h1, hk _ h2⟩
theorem cOp_mono {i : Nat} {a : Act} {K K' : Act → Prop} (hk : ∀ a, K a → K' a) (h : cOp P ops C ci i K a) : cOp P ops C ci i K' a := by
  unfold cOp at *
  split
  · exact hk _ (by simpa [*] using h)
  · rename_i o ho
    simp only [ho] at h
    split
    · rename_i hw
      simp only [hw, if_true] at h
      split
      · rename_i hc; rw [if_pos hc] at h; exact h.mono fun u => hk _
      · rename_i hc; rw [if_neg hc] at h; exact quiet_mono (fun u => hk _) h
    · rename_i hw; simp only [hw] at h; exact hk _ h
theorem cOp_some {i : Nat} {a : Act} {K : Act → Prop} (hC : ∃ w, C w) (h : cOp P ops C ci i K a) : ∃ a', K a' := by
  unfold cOp at h
  split at h
  · exact ⟨_, h⟩
  · split at h
    · split at h
      · obtain ⟨w, hw⟩ := hC
        obtain ⟨f, args, _, h2⟩ := h w hw
        obtain ⟨e, w', u, _, _, h3⟩ := Calls.hits h2
        exact ⟨_, h3⟩
      · obtain ⟨v, _, h2⟩ := h; exact ⟨_, h2⟩
    · exact ⟨_, h⟩
/-- what comes first in the text, and only reads, may come last -/
theorem cOp_swap {i j : Nat} {oi oj : Oper} (hi : ops[i]? = some oi) (hj : ops[j]? = some oj) {a : Act} {K : Act → Prop} (hap : oi.apart ops oj = true) (hsi : ∀ cs b, oi.op ≠ .select cs b) (hsj : ∀ cs b, oj.op ≠ .select cs b)
    (hic : i ≠ ci) (h : cOp P ops C ci i (cOp P ops C ci j K) a) : cOp P ops C ci j (cOp P ops C ci i K) a := by
  obtain ⟨h1, h2, h3⟩ := Oper.apart_spec hap
  have h2' : ∀ t, oj.dst = some t → oi.dst ≠ some t := fun t ht e => h2 t e ht
  have wi : ∀ (a : Act) v, Region.wanted oi (yielded ops (a.put oj.dst v).tmps) = Region.wanted oi (yielded ops a.tmps) := fun a v => wanted_put oi a oj.dst v h3
  have wj : ∀ (a : Act) v, Region.wanted oj (yielded ops (a.put oi.dst v).tmps) = Region.wanted oj (yielded ops a.tmps) := fun a v => wanted_put oj a oi.dst v h1
  -- what oi yields does not hang on oj's slot
  have qi : ∀ v u, (∀ w, C w → oi.quietAt P a C w v) → ∀ w, C w → oi.quietAt P (a.put oj.dst u) C w v := fun v u g w hw => by
    have := g w hw
    unfold Oper.quietAt at *
    rw [execOp_put (ops := ops) oi hsi a oj.dst u h3]
    exact this
  -- the second operation, out of the first one's frame
  have jout : ∀ v K', (if Region.wanted oj (yielded ops (a.put oi.dst v).tmps) then (if j = ci then CallStep P C oj (a.put oi.dst v) K' else oj.quiet P (a.put oi.dst v) C K') else K' ((a.put oi.dst v).put oj.dst undef)) →
      (if Region.wanted oj (yielded ops a.tmps) then (if j = ci then CallStep P C oj a (fun a1 => K' (a1.put oi.dst v)) else oj.quiet P a C (fun a1 => K' (a1.put oi.dst v))) else K' ((a.put oj.dst undef).put oi.dst v)) := by
    intro v K' g
    rw [wj] at g
    by_cases cj : Region.wanted oj (yielded ops a.tmps) = true
    · rw [if_pos cj] at g ⊢
      by_cases hc : j = ci
      · rw [if_pos hc] at g ⊢
        intro w hw
        obtain ⟨f, args, g1, g2⟩ := g w hw
        rw [execOp_put (ops := ops) oj hsj a oi.dst v h1] at g1
        refine ⟨f, args, g1, g2.mono ?_⟩
        rintro e w' ⟨u, rfl, k1, k2⟩
        exact ⟨u, rfl, k1, by show K' ((a.put oj.dst u).put oi.dst v); rw [Act.put_comm a u v h2']; exact k2⟩
      · rw [if_neg hc] at g ⊢
        obtain ⟨u, g1, g2⟩ := g
        refine ⟨u, fun w hw => ?_, by show K' ((a.put oj.dst u).put oi.dst v); rw [Act.put_comm a u v h2']; exact g2⟩
        have := g1 w hw
        unfold Oper.quietAt at *
        rw [execOp_put (ops := ops) oj hsj a oi.dst v h1] at this
        exact this
    · rw [if_neg cj] at g ⊢
      rw [Act.put_comm a undef v h2']
      exact g
  rw [cOp_at hi] at h
  rw [cOp_at hj]
  by_cases ci' : Region.wanted oi (yielded ops a.tmps) = true
  · rw [if_pos ci', if_neg hic] at h
    obtain ⟨v, g1, g2⟩ := h
    rw [cOp_at hj] at g2
    have g3 := jout v K g2
    by_cases cj : Region.wanted oj (yielded ops a.tmps) = true
    · rw [if_pos cj] at g3 ⊢
      by_cases hc : j = ci
      · rw [if_pos hc] at g3 ⊢
        exact g3.mono fun u hu => by rw [cOp_at hi, wi, if_pos ci', if_neg hic]; exact ⟨v, qi v u g1, hu⟩
      · rw [if_neg hc] at g3 ⊢
        exact quiet_mono (fun u hu => by rw [cOp_at hi, wi, if_pos ci', if_neg hic]; exact ⟨v, qi v u g1, hu⟩) g3
    · rw [if_neg cj] at g3 ⊢
      rw [cOp_at hi, wi, if_pos ci', if_neg hic]
      exact ⟨v, qi v undef g1, g3⟩
  · rw [if_neg ci', cOp_at hj] at h
    have g3 := jout undef K h
    by_cases cj : Region.wanted oj (yielded ops a.tmps) = true
    · rw [if_pos cj] at g3 ⊢
      by_cases hc : j = ci
      · rw [if_pos hc] at g3 ⊢
        exact g3.mono fun u hu => by rw [cOp_at hi, wi, if_neg ci']; exact hu
      · rw [if_neg hc] at g3 ⊢
        exact quiet_mono (fun u hu => by rw [cOp_at hi, wi, if_neg ci']; exact hu) g3
    · rw [if_neg cj] at g3 ⊢
      rw [cOp_at hi, wi, if_neg ci']
      exact g3

theorem wpOp_of_cOp {i : Nat} {a : Act} {w : World} {K : Act → Prop} {K' : Act → World → Prop} {Q' : Exit → Act → World → Prop} (hw : C w) (hk : ∀ a w', C w' → K a → K' a w') (h : cOp P ops C ci i K a) : wpOp P ops Q' i K' a w := by
  unfold cOp at h
  unfold wpOp
  split
  · rename_i ho; simp only [ho] at h; exact hk _ _ hw h
  · rename_i o ho
    simp only [ho] at h
    split
    · rename_i hwant
      simp only [hwant, if_true] at h
      left
      split at h
      · obtain ⟨f, args, g1, g2⟩ := h w hw
        unfold Oper.wp
        rw [g1, Oper.upon_enter]
        refine g2.mono ?_
        rintro e w' ⟨u, rfl, k1, k2⟩
        exact hk _ _ k1 k2
      · exact Oper.wp_of_quiet hw hk h
    · rename_i hwant; simp only [hwant] at h; exact hk _ _ hw h

/-- the head in whatever order, then L -/
def headC (P : Program) (md : Region.Mode) (ops : Array Oper) (C : World → Prop) (ci n : Nat) (L : Array Bool → Act → Prop) : Nat → Array Bool → Act → Prop
  | 0, listed, a => L listed a
  | f + 1, listed, a => Region.ready md ops listed ≠ [] ∧ ∀ i ∈ Region.ready md ops listed, i < n ∧ cOp P ops C ci i (headC P md ops C ci n L f (listed.setIfInBounds i true)) a
theorem wpAny_of_headC {n g : Nat} {L : Array Bool → Act → Prop} {Q' : Exit → Act → World → Prop} (hL : ∀ listed a w, C w → L listed a → wpAny P md ops Q' g listed a w) :
    ∀ (f : Nat) (listed : Array Bool) (a : Act) (w : World), C w → headC P md ops C ci n L f listed a → wpAny P md ops Q' (f + g) listed a w
  | 0, listed, a, w, hw, h => by rw [Nat.zero_add]; exact hL _ _ _ hw h
  | f + 1, listed, a, w, hw, h => by
    rw [show f + 1 + g = (f + g) + 1 by omega]
    exact ⟨fun h0 => absurd h0 h.1, fun i hi => wpOp_of_cOp hw (fun a' w' hw' h' => wpAny_of_headC hL f _ a' w' hw' h') (h.2 i hi).2⟩
theorem headC_first {n i : Nat} {oi : Oper} {L : Array Bool → Act → Prop} (hC : ∃ w, C w) (hi : ops[i]? = some oi) (hsel : ∀ (j : Nat) (o : Oper) cs b, ops[j]? = some o → o.op ≠ .select cs b)
    (hs : Region.sinkB md ops n = true) (hc : Region.chainB md ops n = true) (hn : n < ops.size) (hin : i < n) (hdone : ∀ listed a, L listed a → ∀ j ∈ Region.ready md ops listed, n ≤ j) :
    ∀ (f : Nat) (listed : Array Bool) (a : Act), HeadInv md ops n listed →
      (∀ j oj, ops[j]? = some oj → j ≠ i → j < n → listed.getD j true = false → (∀ e ∈ oj.after, Region.binds md e = true → e.on ≠ i) → oi.apart ops oj = true ∧ i ≠ ci) →
      i ∈ Region.ready md ops listed → cOp P ops C ci i (headC P md ops C ci n L f (listed.setIfInBounds i true)) a → headC P md ops C ci n L (f + 1) listed a := by
  intro f
  induction f with
  | zero =>
    intro listed a inv _ hr H
    have hun := (mem_ready.1 hr).1
    refine ⟨fun h => (by rw [h] at hr; cases hr), fun j hj => ?_⟩
    have hjn : j < n := by
      rcases Nat.lt_or_ge j n with h | h
      · exact h
      · exact absurd hj (tail_waits hs hc hn inv _ i rfl hin hun j h)
    refine ⟨hjn, ?_⟩
    by_cases hji : j = i
    · subst hji; exact H
    · obtain ⟨a', h0⟩ := cOp_some hC H
      have := hdone _ _ h0 j (ready_mono hj hji)
      omega
  | succ f ih =>
    intro listed a inv hfree hr H
    have hun := (mem_ready.1 hr).1
    refine ⟨fun h => (by rw [h] at hr; cases hr), fun j hj => ?_⟩
    have hjn : j < n := by
      rcases Nat.lt_or_ge j n with h | h
      · exact h
      · exact absurd hj (tail_waits hs hc hn inv _ i rfl hin hun j h)
    refine ⟨hjn, ?_⟩
    by_cases hji : j = i
    · subst hji; exact H
    · obtain ⟨hjun, oj, hoj, hall⟩ := mem_ready.1 hj
      have hnot : ∀ e ∈ oj.after, Region.binds md e = true → e.on ≠ i := fun e he hb heq => by
        have h1 := hall e he hb
        rw [heq, getD_both hun] at h1
        cases h1
      obtain ⟨hap, hpl⟩ := hfree j oj hoj hji hjn hjun hnot
      have H2 : cOp P ops C ci i (cOp P ops C ci j (headC P md ops C ci n L f ((listed.setIfInBounds i true).setIfInBounds j true))) a :=
        cOp_mono (fun a' ha' => (ha'.2 j (ready_mono hj hji)).2) H
      have H3 := cOp_swap hi hoj hap (fun cs b => hsel i oi cs b hi) (fun cs b => hsel j oj cs b hoj) hpl H2
      refine cOp_mono (fun a' ha' => ih (listed.setIfInBounds j true) a' (inv.set hj hjn) ?_ (ready_mono hr (Ne.symm hji)) ?_) H3
      · intro k ok hk hki hkn hun2 hno
        refine hfree k ok hk hki hkn ?_ hno
        by_cases hjk : j = k
        · subst hjk; exact hjun
        · rw [getD_set_ne true hjk] at hun2; exact hun2
      · rw [Array.setIfInBounds_comm _ _ hji]
        exact ha'
/-- the lexical walk of the head: all quiet but the last one, the call -/
def wpC (P : Program) (ops : Array Oper) (C : World → Prop) (Q : Act → Prop) : List Oper → Act → Prop
  | [], a => Q a
  | [o], a => if Region.wanted o (yielded ops a.tmps) then CallStep P C o a Q else Q (a.put o.dst undef)
  | o :: o2 :: rest, a => if Region.wanted o (yielded ops a.tmps) then o.quiet P a C (wpC P ops C Q (o2 :: rest)) else wpC P ops C Q (o2 :: rest) (a.put o.dst undef)
theorem headC_lex {n g : Nat} {Lq : Act → Prop} (hC : ∃ w, C w) (hsel : Region.noSelect ops = true) (hs : Region.sinkB md ops n = true) (hc : Region.chainB md ops n = true) (hn : n < ops.size) (hci : ci + 1 = n) :
    ∀ (l : List Oper) (k : Nat) (listed : Array Bool) (a : Act), (∀ j, j < l.length → l[j]? = ops[k + j]?) → k + l.length = n → (∀ j, j < k → listed.getD j true = true) → HeadInv md ops n listed →
    Region.lexHead md ops g l.length k listed = true → wpC P ops C Lq l a →
    headC P md ops C ci n (fun listed' a' => Region.seqB md ops g n listed' = true ∧ Lq a') l.length listed a
  | [], k, listed, a, _, hk, _, _, hB, h => by
    have : k = n := by simpa using hk
    subst this
    exact ⟨by simpa [Region.lexHead] using hB, h⟩
  | o :: l, k, listed, a, hl, hk, hdn, inv, hB, h => by
    have h0 : ops[k]? = some o := by simpa using (hl 0 (by simp)).symm
    simp only [List.length_cons, Region.lexHead, Bool.and_eq_true] at hB
    obtain ⟨⟨hr, hf⟩, hB'⟩ := hB
    have hkn : k < n := by simp only [List.length_cons] at hk; omega
    have hr' : k ∈ Region.ready md ops listed := by simpa using hr
    refine headC_first hC h0 (Region.noSelect_spec hsel) hs hc hn hkn (fun listed' a' hL => seqB_ready hL.1) l.length listed a inv ?_ hr' ?_
    · intro j oj hj hjk hjn hun hno
      refine ⟨Region.free_spec h0 hf j oj hj hjk hun hno, ?_⟩
      rcases Nat.lt_trichotomy j k with h3 | h3 | h3
      · rw [hdn j h3] at hun; cases hun
      · exact absurd h3 hjk
      · omega
    · rw [cOp_at h0]
      have ih : ∀ a', wpC P ops C Lq l a' → headC P md ops C ci n (fun listed' a' => Region.seqB md ops g n listed' = true ∧ Lq a') l.length (listed.setIfInBounds k true) a' := fun a' ha' =>
        headC_lex hC hsel hs hc hn hci l (k + 1) _ a' (fun j hj => by have := hl (j + 1) (by simp; omega); simpa [Nat.add_assoc, Nat.add_comm 1 j] using this) (by simp only [List.length_cons] at hk; omega) (fun j hj => by
          by_cases hjk : k = j
          · subst hjk
            rcases Nat.lt_or_ge k listed.size with h' | h'
            · simp [h']
            · simp
          · rw [getD_set_ne true hjk]; exact hdn j (by omega)) (inv.set hr' hkn) hB' ha'
      cases l with
      | nil =>
        have hkc : k = ci := by simp at hk; omega
        unfold wpC at h
        split at h
        · rename_i hw; rw [if_pos hw, if_pos hkc]; exact h.mono fun u hu => ih _ (by unfold wpC; exact hu)
        · rename_i hw; rw [if_neg hw]; exact ih _ (by unfold wpC; exact h)
      | cons o2 l2 =>
        have hkc : k ≠ ci := by simp only [List.length_cons] at hk; omega
        unfold wpC at h
        split at h
        · rename_i hw; rw [if_pos hw, if_neg hkc]; exact quiet_mono (fun u => ih _) h
        · rename_i hw; rw [if_neg hw]; exact ih _ h
theorem wpC_quiet {Q : Act → Prop} {a : Act} {o o2 : Oper} {rest : List Oper}
    (h : ∀ K : Act → Prop, (∀ a, wpC P ops C Q (o2 :: rest) a → K a) → if Region.wanted o (yielded ops a.tmps) then o.quiet P a C K else K (a.put o.dst undef)) : wpC P ops C Q (o :: o2 :: rest) a := by
  have := h _ (fun _ h => h)
  unfold wpC
  exact this
/-- the worlds that a world grows into -/
structure Grown (w : World) where
  u : World
  h : Ext w u
instance (w : World) : Nonempty (Grown w) := ⟨⟨w, Ext.refl w⟩⟩
abbrev grown (w : World) : World → Prop := fun w' => ∃ e : Grown w, w' = e.u
theorem grown_of {w w' : World} (h : Ext w w') : grown w w' := ⟨⟨w', h⟩, rfl⟩
theorem grown_ext {w w' : World} (h : grown w w') : Ext w w' := by obtain ⟨e, rfl⟩ := h; exact e.h
theorem grown_cell {w : World} {p : Addr} {v : Value} (hl : p.block < w.heap.size) (h : w.cell? p = some v) : ∀ e : Grown w, e.u.cell? p = some v := fun e => (Below.cell e.h hl).trans h
theorem wpC_call {w : World} {Q : Act → Prop} {a : Act} {o : Oper} {f : FuncId} {args : Array Value} (hg : o.guard = none) (ho : ∀ w, (execOp a.eval o).run P w = .ok (.enter f args) w)
    (h : ∀ w', Ext w w' → Calls P f args w' (fun e w'' => ∃ u, e = .returned u ∧ Ext w w'' ∧ Q (a.put o.dst u))) : wpC P ops (grown w) Q [o] a := by
  unfold wpC
  rw [if_pos (by simp [Region.wanted, hg])]
  intro w' e1
  refine ⟨f, args, ho w', (h w' (grown_ext e1)).mono ?_⟩
  rintro e w2 ⟨u, h1, h2, h3⟩
  exact ⟨u, h1, grown_of h2, h3⟩
/-- one walk of the text's order serves every order: the first n operations, the last of which is a call, then the rest in their own forced order -/
theorem wp_region_call_tail {id : Nat} {Q : Exit → Act → World → Prop} {a : Act} {w : World} {l : List Oper} (n : Nat) (hm : P.follows .mixedOrders = true) (hB : Region.lexTailB .any l.toArray (n + 1) = true)
    (h : wpC P l.toArray (grown w) (fun a' => ∀ w', Ext w w' → wpList P l.toArray Q (l.drop (n + 1)) a' w') (l.take (n + 1)) a) : (Code.region id l.toArray true).wp P Q a w := by
  simp only [Region.lexTailB, Bool.and_eq_true, decide_eq_true_eq] at hB
  obtain ⟨⟨⟨⟨hsel, hn⟩, hs⟩, hc⟩, hlex⟩ := hB
  have hC : grown w { w with drawn := w.drawn + 1 } := grown_of (Ext.drewN (Ext.refl w) 1)
  have htl : (l.take (n + 1)).length = n + 1 := by
    have : n + 1 < l.length := by simpa using hn
    simp; omega
  have hdl : (l.drop (n + 1)).length = l.toArray.size - (n + 1) := by simp
  have inv0 : HeadInv .any l.toArray (n + 1) (Array.replicate l.toArray.size false) :=
    ⟨by simp, fun j oj _ hl => (by rw [getD_replicate_false] at hl; cases hl), fun t _ ht => getD_in (by simpa using ht) (getD_replicate_false _ _)⟩
  have H := headC_lex (ci := n) (md := .any) (g := l.toArray.size - (n + 1)) ⟨_, hC⟩ hsel hs hc hn rfl (l.take (n + 1)) 0 (Array.replicate l.toArray.size false) a (fun j hj => by
    have hj' : j < n + 1 := by rw [htl] at hj; exact hj
    simp [hj']) (by simpa using htl) (fun j hj => by omega) inv0 (by rw [htl]; exact hlex) h
  refine wp_region_any hm ?_
  have := wpAny_of_headC (Q' := Q) (g := l.toArray.size - (n + 1)) (fun listed a' w' hw' hL => by
    have := wpAny_of_seq (md := .any) (Q' := Q) (l.drop (n + 1)) (n + 1) listed a' w' (fun j => by simp [List.getElem?_drop]) (by rw [hdl]; exact hL.1) (hL.2 w' (grown_ext hw'))
    rwa [hdl] at this) _ _ _ _ hC H
  rw [htl, show n + 1 + (l.toArray.size - (n + 1)) = l.toArray.size by omega] at this
  exact this
end
end Go.Proofs.Ytpmjiabllmomjaa.Flt

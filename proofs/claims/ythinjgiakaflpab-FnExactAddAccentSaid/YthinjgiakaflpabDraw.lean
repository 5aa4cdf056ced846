/- Regions that draw their order, some of whose operations give values off the tape (not-a-numbers): one walk in the order of the text serves every order. -/
import Derived.Test.YthinjgiakaflpabFlt
import Derived.BigQuiet
namespace Go.Proofs.Ythinjgiakaflpab.Flt
open Go.RowKit

/-- operations that give a value of their own, and enter no function -/
def plainOp (o : Oper) : Bool := match o.op with
  | .move _ | .nilCheck _ | .assign _ | .pick .. | .load .. | .binOp .. | .unOp .. | .convert .. | .indexAddr .. | .index .. | .fieldAddr .. | .field .. | .extract .. => true
  | _ => false
/-- operations on floats that may give a not-a-number off the tape -/
def multiOp (o : Oper) : Bool := match o.op with
  | .binOp op .. => isArith op
  | .convert .. => true
  | _ => false

section
variable {P : Program} {ops : Array Oper} {md : Region.Mode} {C : World → Prop}

theorem run_v_noEnter {s : Sem Value} {w w' : World} {f : FuncId} {args : Array Value} : ((do pure (Next.value (← s)) : Sem Next)).run P w ≠ .ok (.enter f args) w' := by
  intro h
  rw [Sem.run_bind] at h
  cases hs : s.run P w with
  | ok a w1 => rw [hs] at h; simp [Result.andThen] at h
  | halt x w1 => rw [hs] at h; simp [Result.andThen] at h

theorem plain_noEnter {o : Oper} (h : plainOp o = true) (ρ : Operand → Value) (w w' : World) (f : FuncId) (args : Array Value) : (execOp ρ o).run P w ≠ .ok (.enter f args) w' := by
  obtain ⟨dst, op, type, pos, after, guard⟩ := o
  cases op <;> simp [plainOp] at h
  all_goals first
    | exact run_v_noEnter
    | (simp [execOp]; done)
    | skip
  case nilCheck x =>
    intro hr
    simp only [execOp] at hr
    repeat' split at hr
    all_goals first
      | (simp [runtimePanic] at hr; done)
      | (rw [Sem.run_bind] at hr
         cases h1 : Sem.run P program w with
         | halt _ _ => rw [h1] at hr; simp [Result.andThen] at hr
         | ok p w1 =>
           rw [h1] at hr
           simp only [Result.andThen] at hr
           rw [Sem.run_bind] at hr
           rename_i t1 x1 nm1 _ _ _ _
           cases h2 : Sem.run P (nilAhead (p.types.size + Made.depth) _ _ _) w1 with
           | halt _ _ => rw [h2] at hr; simp [Result.andThen] at hr
           | ok b w2 =>
             rw [h2] at hr
             simp only [Result.andThen] at hr
             split at hr
             · rw [Sem.run_bind] at hr
               simp [unsupported, Result.andThen] at hr
             · simp at hr)
  case pick c a b =>
    intro hr
    simp only [execOp, Sem.run_bind] at hr
    cases hs : (asBool (ρ c)).run P w with
    | ok a w1 => rw [hs] at hr; simp [Result.andThen] at hr
    | halt x w1 => rw [hs] at hr; simp [Result.andThen] at hr

/-- whatever value comes -/
def multUpon (C : World → Prop) (next : Value → Prop) : Result Next → Prop
  | .ok (.value u) w' => C w' ∧ next u
  | _ => False
def Mult (P : Program) (o : Oper) (a : Act) (C : World → Prop) (next : Act → Prop) : Prop :=
  ∀ w, C w → multUpon C (fun u => next (a.put o.dst u)) ((execOp a.eval o).run P w)

theorem Mult.get {o : Oper} {a : Act} {K : Act → Prop} (h : Mult P o a C K) {w : World} (hw : C w) : ∃ u w', (execOp a.eval o).run P w = .ok (.value u) w' ∧ C w' ∧ K (a.put o.dst u) := by
  have h1 := h w hw
  generalize (execOp a.eval o).run P w = r at *
  cases r with
  | ok n w' =>
    cases n <;> simp only [multUpon] at h1
    exact ⟨_, _, rfl, h1.1, h1.2⟩
  | halt x w' => simp only [multUpon] at h1
theorem Mult.mk {o : Oper} {a : Act} {K : Act → Prop} (h : ∀ w, C w → ∃ u w', (execOp a.eval o).run P w = .ok (.value u) w' ∧ C w' ∧ K (a.put o.dst u)) : Mult P o a C K := by
  intro w hw
  obtain ⟨u, w', h1, h2, h3⟩ := h w hw
  rw [h1]; exact ⟨h2, h3⟩

/-- one operation: of many values, or quiet -/
def Step (P : Program) (C : World → Prop) (o : Oper) (a : Act) (K : Act → Prop) : Prop := if multiOp o then Mult P o a C K else o.quiet P a C K

theorem Step.mono {o : Oper} {a : Act} {K K' : Act → Prop} (hk : ∀ u, K (a.put o.dst u) → K' (a.put o.dst u)) (h : Step P C o a K) : Step P C o a K' := by
  unfold Step at *
  split
  · rename_i hm
    rw [if_pos hm] at h
    exact Mult.mk fun w hw => let ⟨u, w', h1, h2, h3⟩ := h.get hw; ⟨u, w', h1, h2, hk _ h3⟩
  · rename_i hm
    rw [if_neg hm] at h
    obtain ⟨v, h1, h2⟩ := h
    exact ⟨v, h1, hk _ h2⟩

theorem Step.hits {o : Oper} {a : Act} {K : Act → Prop} (hC : ∃ w, C w) (h : Step P C o a K) : ∃ u, K (a.put o.dst u) := by
  unfold Step at h
  split at h
  · obtain ⟨w, hw⟩ := hC
    obtain ⟨u, w', _, _, h3⟩ := h.get hw
    exact ⟨u, h3⟩
  · obtain ⟨v, _, h2⟩ := h; exact ⟨v, h2⟩

/-- the operation does not see another slot -/
theorem Step.move_in {o : Oper} {a : Act} {d : Option Tmp} {v : Value} {K : Act → Prop} (hs : ∀ cs b, o.op ≠ .select cs b) (h1 : ∀ t, d = some t → t ∉ o.looksAt ops) (h2 : ∀ t, o.dst = some t → d ≠ some t)
    (h : Step P C o a (fun a1 => K (a1.put d v))) : Step P C o (a.put d v) K := by
  have he := execOp_put (ops := ops) o hs a d v h1
  unfold Step at *
  split
  · rename_i hm
    rw [if_pos hm] at h
    refine Mult.mk fun w hw => ?_
    obtain ⟨u, w', g1, g2, g3⟩ := h.get hw
    exact ⟨u, w', by rw [he]; exact g1, g2, by rw [← Act.put_comm a u v h2]; exact g3⟩
  · rename_i hm
    rw [if_neg hm] at h
    obtain ⟨u, g1, g2⟩ := h
    refine ⟨u, fun w hw => ?_, by rw [← Act.put_comm a u v h2]; exact g2⟩
    have := g1 w hw
    unfold Oper.quietAt at *
    rw [he]; exact this
theorem Step.move_out {o : Oper} {a : Act} {d : Option Tmp} {v : Value} {K : Act → Prop} (hs : ∀ cs b, o.op ≠ .select cs b) (h1 : ∀ t, d = some t → t ∉ o.looksAt ops) (h2 : ∀ t, o.dst = some t → d ≠ some t)
    (h : Step P C o (a.put d v) K) : Step P C o a (fun a1 => K (a1.put d v)) := by
  have he := execOp_put (ops := ops) o hs a d v h1
  unfold Step at *
  split
  · rename_i hm
    rw [if_pos hm] at h
    refine Mult.mk fun w hw => ?_
    obtain ⟨u, w', g1, g2, g3⟩ := h.get hw
    rw [he] at g1
    exact ⟨u, w', g1, g2, by rw [Act.put_comm a u v h2]; exact g3⟩
  · rename_i hm
    rw [if_neg hm] at h
    obtain ⟨u, g1, g2⟩ := h
    refine ⟨u, fun w hw => ?_, by show K ((a.put o.dst u).put d v); rw [Act.put_comm a u v h2]; exact g2⟩
    have := g1 w hw
    unfold Oper.quietAt at *
    rw [he] at this; exact this

theorem quietUpon_inj {w : World} {v v' : Value} {r : Result Next} (hr : ∀ f args w', r ≠ .ok (.enter f args) w') (h1 : Oper.quietUpon P C w v r) (h2 : Oper.quietUpon P C w v' r) : v = v' := by
  cases r with
  | ok n w' =>
    cases n <;> simp only [Oper.quietUpon] at h1 h2
    · exact h1.2.symm.trans h2.2
    · exact h1.2.trans h2.2.symm
    · exact absurd rfl (hr _ _ _)
  | halt x w' => simp only [Oper.quietUpon] at h1

/-- two operations apart: the one that comes first in the text may come last -/
theorem Step.swap {oi oj : Oper} {a : Act} {K : Act → Prop} (hC : ∃ w, C w) (hap : oi.apart ops oj = true) (hsi : ∀ cs b, oi.op ≠ .select cs b) (hsj : ∀ cs b, oj.op ≠ .select cs b)
    (hpl : multiOp oi = true → plainOp oj = true) (h : Step P C oi a (fun a1 => Step P C oj a1 K)) : Step P C oj a (fun a1 => Step P C oi a1 K) := by
  obtain ⟨h1, h2, h3⟩ := Oper.apart_spec hap
  have h2' : ∀ t, oj.dst = some t → oi.dst ≠ some t := fun t ht e => h2 t e ht
  by_cases hm : multiOp oi = true
  · unfold Step at h
    rw [if_pos hm] at h
    by_cases hj : multiOp oj = true
    · -- many, many
      simp only [hj, if_true] at h
      unfold Step
      rw [if_pos hj]
      refine Mult.mk fun w hw => ?_
      obtain ⟨w0, hw0⟩ := hC
      obtain ⟨u0, _, _, _, g3⟩ := h.get hw0
      obtain ⟨x, w1, k1, k2, _⟩ := g3.get hw
      rw [execOp_put (ops := ops) oj hsj a oi.dst u0 h1] at k1
      refine ⟨x, w1, k1, k2, ?_⟩
      rw [if_pos hm]
      refine Mult.mk fun w2 hw2 => ?_
      obtain ⟨u, w3, l1, l2, l3⟩ := h.get hw2
      obtain ⟨x', w4, m1, m2, m3⟩ := l3.get hw
      rw [execOp_put (ops := ops) oj hsj a oi.dst u h1, k1] at m1
      cases m1
      exact ⟨u, w3, by rw [execOp_put (ops := ops) oi hsi a oj.dst x h3]; exact l1, l2, by rw [← Act.put_comm a u x h2]; exact m3⟩
    · simp only [hj, if_false, Bool.false_eq_true] at h
      unfold Step
      rw [if_neg hj]
      obtain ⟨w0, hw0⟩ := hC
      obtain ⟨u0, _, _, _, v, g3, _⟩ := h.get hw0
      have g4 : ∀ w, C w → oj.quietAt P a C w v := fun w hw => by
        have := g3 w hw
        unfold Oper.quietAt at *
        rwa [execOp_put (ops := ops) oj hsj a oi.dst u0 h1] at this
      refine ⟨v, g4, ?_⟩
      show (if multiOp oi = true then _ else _)
      rw [if_pos hm]
      refine Mult.mk fun w2 hw2 => ?_
      obtain ⟨u, w3, l1, l2, v', l3, l4⟩ := h.get hw2
      have l5 := l3 w0 hw0
      unfold Oper.quietAt at l5
      rw [execOp_put (ops := ops) oj hsj a oi.dst u h1] at l5
      have : v = v' := quietUpon_inj (fun f args w' => plain_noEnter (hpl hm) _ _ _ _ _) (g4 w0 hw0) l5
      subst this
      exact ⟨u, w3, by rw [execOp_put (ops := ops) oi hsi a oj.dst v h3]; exact l1, l2, by rw [← Act.put_comm a u v h2]; exact l4⟩
  · unfold Step at h
    rw [if_neg hm] at h
    obtain ⟨v, g1, g2⟩ := h
    have g3 := Step.move_out hsj h1 h2' g2
    refine Step.mono (fun u hu => ?_) g3
    unfold Step
    rw [if_neg hm]
    refine ⟨v, fun w hw => ?_, hu⟩
    have := g1 w hw
    unfold Oper.quietAt at *
    rw [execOp_put (ops := ops) oi hsi a oj.dst u h3]
    exact this

/-- operation number i comes up -/
def mOp (P : Program) (ops : Array Oper) (C : World → Prop) (i : Nat) (K : Act → Prop) (a : Act) : Prop :=
  match ops[i]? with
  | none => K a
  | some o => if Region.wanted o (yielded ops a.tmps) then Step P C o a K else K (a.put o.dst undef)

theorem mOp_at {i : Nat} {o : Oper} (hi : ops[i]? = some o) (K : Act → Prop) (a : Act) : mOp P ops C i K a = if Region.wanted o (yielded ops a.tmps) then Step P C o a K else K (a.put o.dst undef) := by
  unfold mOp; rw [hi]

theorem mOp_mono {i : Nat} {a : Act} {K K' : Act → Prop} (hk : ∀ a, K a → K' a) (h : mOp P ops C i K a) : mOp P ops C i K' a := by
  unfold mOp at *
  split
  · exact hk _ (by simpa [*] using h)
  · rename_i o ho
    simp only [ho] at h
    split
    · rename_i hw; simp only [hw, if_true] at h; exact h.mono fun u => hk _
    · rename_i hw; simp only [hw] at h; exact hk _ h

theorem mOp_some {i : Nat} {a : Act} {K : Act → Prop} (hC : ∃ w, C w) (h : mOp P ops C i K a) : ∃ a', K a' := by
  unfold mOp at h
  split at h
  · exact ⟨_, h⟩
  · split at h
    · obtain ⟨u, hu⟩ := h.hits hC; exact ⟨_, hu⟩
    · exact ⟨_, h⟩

theorem mOp_swap {i j : Nat} {oi oj : Oper} (hi : ops[i]? = some oi) (hj : ops[j]? = some oj) {a : Act} {K : Act → Prop} (hC : ∃ w, C w) (hap : oi.apart ops oj = true) (hsi : ∀ cs b, oi.op ≠ .select cs b) (hsj : ∀ cs b, oj.op ≠ .select cs b)
    (hpl : multiOp oi = true → plainOp oj = true) (h : mOp P ops C i (mOp P ops C j K) a) : mOp P ops C j (mOp P ops C i K) a := by
  obtain ⟨h1, h2, h3⟩ := Oper.apart_spec hap
  have h2' : ∀ t, oj.dst = some t → oi.dst ≠ some t := fun t ht e => h2 t e ht
  have wi : ∀ (a : Act) v, Region.wanted oi (yielded ops (a.put oj.dst v).tmps) = Region.wanted oi (yielded ops a.tmps) := fun a v => wanted_put oi a oj.dst v h3
  have wj : ∀ (a : Act) v, Region.wanted oj (yielded ops (a.put oi.dst v).tmps) = Region.wanted oj (yielded ops a.tmps) := fun a v => wanted_put oj a oi.dst v h1
  rw [mOp_at hi] at h
  rw [mOp_at hj]
  by_cases ci : Region.wanted oi (yielded ops a.tmps) = true
  · rw [if_pos ci] at h
    by_cases cj : Region.wanted oj (yielded ops a.tmps) = true
    · rw [if_pos cj]
      have h' : Step P C oi a (fun a1 => Step P C oj a1 K) := h.mono fun u hu => by rw [mOp_at hj, wj, if_pos cj] at hu; exact hu
      exact (Step.swap hC hap hsi hsj hpl h').mono fun u hu => by rw [mOp_at hi, wi, if_pos ci]; exact hu
    · rw [if_neg cj, mOp_at hi, wi, if_pos ci]
      have h' : Step P C oi a (fun a1 => K (a1.put oj.dst undef)) := h.mono fun u hu => by rw [mOp_at hj, wj, if_neg cj] at hu; exact hu
      exact Step.move_in hsi h3 h2 h' |> fun x => x
  · rw [if_neg ci, mOp_at hj, wj] at h
    by_cases cj : Region.wanted oj (yielded ops a.tmps) = true
    · rw [if_pos cj] at h ⊢
      exact (Step.move_out hsj h1 h2' h).mono fun u hu => by rw [mOp_at hi, wi, if_neg ci]; exact hu
    · rw [if_neg cj] at h ⊢
      rw [mOp_at hi, wi, if_neg ci, ← Act.put_comm a undef undef h2]
      exact h

/-- whatever order is picked -/
def wpAnyM (P : Program) (md : Region.Mode) (ops : Array Oper) (C : World → Prop) (Q : Act → Prop) : Nat → Array Bool → Act → Prop
  | 0, listed, a => Region.ready md ops listed = [] ∧ Q a
  | fuel + 1, listed, a => (Region.ready md ops listed = [] → Q a) ∧ ∀ i ∈ Region.ready md ops listed, mOp P ops C i (wpAnyM P md ops C Q fuel (listed.setIfInBounds i true)) a

/-- the lexical walk -/
def wpM (P : Program) (ops : Array Oper) (C : World → Prop) (Q : Act → Prop) : List Oper → Act → Prop
  | [], a => Q a
  | o :: rest, a => if Region.wanted o (yielded ops a.tmps) then Step P C o a (wpM P ops C Q rest) else wpM P ops C Q rest (a.put o.dst undef)

theorem wpOp_of_mOp {i : Nat} {a : Act} {w : World} {K : Act → Prop} {K' : Act → World → Prop} {Q' : Exit → Act → World → Prop} (hw : C w) (hk : ∀ a w', C w' → K a → K' a w') (h : mOp P ops C i K a) : wpOp P ops Q' i K' a w := by
  unfold mOp at h
  unfold wpOp
  split
  · rename_i ho; simp only [ho] at h; exact hk _ _ hw h
  · rename_i o ho
    simp only [ho] at h
    split
    · rename_i hwant
      simp only [hwant, if_true] at h
      left
      unfold Step at h
      split at h
      · obtain ⟨u, w', g1, g2, g3⟩ := h.get hw
        unfold Oper.wp
        rw [g1]
        exact hk _ _ g2 g3
      · exact Oper.wp_of_quiet hw hk h
    · rename_i hwant; simp only [hwant] at h; exact hk _ _ hw h

theorem wpAny_of_M {Q : Act → Prop} {Q' : Exit → Act → World → Prop} (hQ : ∀ a w, C w → Q a → Q' .normal a w) : ∀ (fuel : Nat) (listed : Array Bool) (a : Act) (w : World), C w → wpAnyM P md ops C Q fuel listed a → wpAny P md ops Q' fuel listed a w
  | 0, _, _, _, hw, h => ⟨h.1, hQ _ _ hw h.2⟩
  | fuel + 1, _, _, _, hw, h => ⟨fun h0 => hQ _ _ hw (h.1 h0), fun i hi => wpOp_of_mOp hw (fun a' w' hw' => wpAny_of_M hQ fuel _ a' w' hw') (h.2 i hi)⟩

theorem wpAnyM_first {Q : Act → Prop} (hC : ∃ w, C w) {i : Nat} {oi : Oper} (hi : ops[i]? = some oi) (hsel : ∀ (j : Nat) (o : Oper) cs b, ops[j]? = some o → o.op ≠ .select cs b) : ∀ (fuel : Nat) (listed : Array Bool) (a : Act),
    (∀ j oj, ops[j]? = some oj → j ≠ i → listed.getD j true = false → (∀ e ∈ oj.after, Region.binds md e = true → e.on ≠ i) → oi.apart ops oj = true ∧ (multiOp oi = true → plainOp oj = true)) →
    i ∈ Region.ready md ops listed → mOp P ops C i (wpAnyM P md ops C Q fuel (listed.setIfInBounds i true)) a → wpAnyM P md ops C Q (fuel + 1) listed a := by
  intro fuel
  induction fuel with
  | zero =>
    intro listed a _ hr H
    refine ⟨fun h => (by rw [h] at hr; cases hr), fun j hj => ?_⟩
    by_cases hji : j = i
    · subst hji; exact H
    · obtain ⟨a', h0, _⟩ := mOp_some hC H
      have := ready_mono hj hji
      rw [h0] at this
      cases this
  | succ fuel ih =>
    intro listed a hfree hr H
    refine ⟨fun h => (by rw [h] at hr; cases hr), fun j hj => ?_⟩
    by_cases hji : j = i
    · subst hji; exact H
    · obtain ⟨hjun, oj, hoj, hall⟩ := mem_ready.1 hj
      have hnot : ∀ e ∈ oj.after, Region.binds md e = true → e.on ≠ i := fun e he hb heq => by
        have g1 := hall e he hb
        have g0 := (mem_ready.1 hr).1
        rw [heq] at g1
        rcases Nat.lt_or_ge i listed.size with h' | h'
        · simp [h'] at g0 g1; rw [g0] at g1; cases g1
        · simp [Array.getElem?_eq_none h'] at g1
      obtain ⟨hap, hpl⟩ := hfree j oj hoj hji hjun hnot
      have H2 : mOp P ops C i (mOp P ops C j (wpAnyM P md ops C Q fuel ((listed.setIfInBounds i true).setIfInBounds j true))) a :=
        mOp_mono (fun a' ha' => ha'.2 j (ready_mono hj hji)) H
      have H3 := mOp_swap hi hoj hC hap (fun cs b => hsel i oi cs b hi) (fun cs b => hsel j oj cs b hoj) hpl H2
      refine mOp_mono (fun a' ha' => ih (listed.setIfInBounds j true) a' ?_ (ready_mono hr (Ne.symm hji)) ?_) H3
      · intro k ok hk hki hun hno
        refine hfree k ok hk hki ?_ hno
        by_cases hjk : j = k
        · subst hjk; exact hjun
        · rw [getD_set_ne true hjk] at hun; exact hun
      · rw [Array.setIfInBounds_comm _ _ hji]
        exact ha'

/-- an operation of many values: whatever comes up later waits for it, or is plain -/
def multiFree (md : Region.Mode) (ops : Array Oper) : Bool :=
  (List.range ops.size).all fun i => match ops[i]? with
    | none => true
    | some oi => !multiOp oi || (List.range ops.size).all fun j => decide (j ≤ i) || (match ops[j]? with
      | none => true
      | some oj => oj.after.any (fun e => Region.binds md e && e.on == i) || plainOp oj)

theorem multiFree_spec (h : multiFree md ops = true) {i j : Nat} {oi oj : Oper} (hi : ops[i]? = some oi) (hj : ops[j]? = some oj) (hij : i < j) (hm : multiOp oi = true) (hno : ∀ e ∈ oj.after, Region.binds md e = true → e.on ≠ i) : plainOp oj = true := by
  unfold multiFree at h
  simp only [List.all_eq_true, List.mem_range] at h
  have h1 := h i (Array.getElem?_eq_some_iff.1 hi).1
  simp only [hi, hm, Bool.not_true, Bool.false_or, List.all_eq_true, List.mem_range] at h1
  have h2 := h1 j (Array.getElem?_eq_some_iff.1 hj).1
  simp only [hj, Bool.or_eq_true, decide_eq_true_eq] at h2
  rcases h2 with h2 | h2 | h2
  · omega
  · obtain ⟨e, he, hb⟩ := Array.any_eq_true'.1 h2
    simp only [Bool.and_eq_true, beq_iff_eq] at hb
    exact absurd hb.2 (hno e he hb.1)
  · exact h2

theorem wpAnyM_lex {Q : Act → Prop} (hC : ∃ w, C w) (hs : Region.noSelect ops = true) (hmf : multiFree md ops = true) : ∀ (l : List Oper) (k : Nat) (listed : Array Bool) (a : Act), (∀ j, l[j]? = ops[k + j]?) → (∀ j, j < k → listed.getD j true = true) →
    Region.lexFrom md ops l.length k listed = true → wpM P ops C Q l a → wpAnyM P md ops C Q l.length listed a
  | [], _, _, _, _, _, hB, h => ⟨by simpa [Region.lexFrom] using hB, h⟩
  | o :: l, k, listed, a, hl, hk, hB, h => by
    have h0 : ops[k]? = some o := by simpa using (hl 0).symm
    simp only [List.length_cons, Region.lexFrom, Bool.and_eq_true] at hB
    obtain ⟨⟨hr, hf⟩, hB'⟩ := hB
    refine wpAnyM_first hC h0 (Region.noSelect_spec hs) l.length listed a ?_ (by simpa using hr) ?_
    · intro j oj hj hjk hun hno
      refine ⟨Region.free_spec h0 hf j oj hj hjk hun hno, fun hm => multiFree_spec hmf h0 hj ?_ hm hno⟩
      rcases Nat.lt_trichotomy j k with h3 | h3 | h3
      · rw [hk j h3] at hun; cases hun
      · exact absurd h3 hjk
      · exact h3
    · rw [mOp_at h0]
      have ih : ∀ a', wpM P ops C Q l a' → wpAnyM P md ops C Q l.length (listed.setIfInBounds k true) a' := fun a' ha' =>
        wpAnyM_lex hC hs hmf l (k + 1) _ a' (fun j => by have := hl (j + 1); simpa [Nat.add_assoc, Nat.add_comm 1 j] using this) (fun j hj => by
          by_cases hjk : k = j
          · subst hjk
            rcases Nat.lt_or_ge k listed.size with h' | h'
            · simp [h']
            · simp
          · rw [getD_set_ne true hjk]; exact hk j (by omega)) hB' ha'
      unfold wpM at h
      split at h
      · rename_i hw; rw [if_pos hw]; exact h.mono fun u => ih _
      · rename_i hw; rw [if_neg hw]; exact ih _ h

/-- one walk of the lexical order serves every order -/
theorem wp_region_many {id : Nat} {Q : Exit → Act → World → Prop} {a : Act} {w : World} {l : List Oper} (hm : P.follows .mixedOrders = true) (hB : Region.lexB .any l.toArray = true) (hM : multiFree .any l.toArray = true)
    (h : wpM P l.toArray (fun w' => ∃ n, w' = w.drewN n) (fun a' => ∀ w', (∃ n, w' = w.drewN n) → Q .normal a' w') l a) : (Code.region id l.toArray true).wp P Q a w := by
  simp only [Region.lexB, Bool.and_eq_true] at hB
  have hC : (fun w' => ∃ n, w' = w.drewN n) { w with drawn := w.drawn + 1 } := ⟨1, rfl⟩
  refine wp_region_any hm (wpAny_of_M (C := fun w' => ∃ n, w' = w.drewN n) (Q := fun a' => ∀ w', (∃ n, w' = w.drewN n) → Q .normal a' w') (fun _ w' hw' h => h w' hw') _ _ _ _ hC ?_)
  have := wpAnyM_lex (C := fun w' => ∃ n, w' = w.drewN n) (md := .any) ⟨_, hC⟩ hB.1 hM l 0 (Array.replicate l.toArray.size false) a (by simp) (fun j hj => by omega) (by simpa using hB.2) h
  simpa using this

theorem wpM_nil {Q : Act → Prop} {a : Act} (h : Q a) : wpM P ops C Q [] a := h
theorem wpM_quiet {Q : Act → Prop} {a : Act} {o : Oper} {rest : List Oper} (hm : multiOp o = false)
    (h : ∀ K : Act → Prop, (∀ a, wpM P ops C Q rest a → K a) → if Region.wanted o (yielded ops a.tmps) then o.quiet P a C K else K (a.put o.dst undef)) : wpM P ops C Q (o :: rest) a := by
  have := h _ (fun _ h => h)
  unfold wpM Step
  rw [hm]
  simpa using this
theorem wpM_mult {Q : Act → Prop} {a : Act} {o : Oper} {rest : List Oper} (hm : multiOp o = true) (hw : Region.wanted o (yielded ops a.tmps) = true)
    (h : Mult P o a C (wpM P ops C Q rest)) : wpM P ops C Q (o :: rest) a := by
  unfold wpM Step
  rw [if_pos hw, if_pos hm]
  exact h

theorem wpM_mult0 {Q : Act → Prop} {a : Act} {o : Oper} {rest : List Oper} (hm : multiOp o = true) (hg : o.guard = none)
    (h : Mult P o a C (wpM P ops C Q rest)) : wpM P ops C Q (o :: rest) a := wpM_mult hm (by simp [Region.wanted, hg]) h
/-- the class of worlds that differ by draws -/
abbrev drawn (w : World) : World → Prop := fun w' => ∃ n, w' = w.drewN n
theorem mult_widen {w : World} {o : Oper} {a : Act} {K : Act → Prop} {src dst : TypeId} {x : Operand} (hop : o.op = Op.convert src dst x) (hs : P.underlying src = some (.float .f32)) (hd : P.underlying dst = some (.float .f64)) {b : Nat} (hx : a.eval x = .float .f32 b)
    (hK : ∀ r, Hid (cls .f64 r = fwide (cls .f32 b)) → Hid (r < 2 ^ FloatKind.f64.format.width) → K (a.put o.dst (.float .f64 r))) : Mult P o a (fun w' => ∃ n, w' = w.drewN n) K := by
  refine Mult.mk fun w1 hw1 => ?_
  obtain ⟨n, rfl⟩ := hw1
  obtain ⟨r, m, hrun, h1, h2⟩ := run_widen (P := P) (w.drewN n) src dst (by rw [hs]; rfl) hd b
  refine ⟨.float .f64 r, (w.drewN n).drewN m, ?_, ⟨n + m, World.drewN_drewN w n m⟩, hK r (show Hid _ from h1) (show Hid _ from h2)⟩
  simp [execOp, hop, hx, hrun]
theorem mult_farith {w : World} {o : Oper} {a : Act} {K : Act → Prop} {op : BinOp} {t ty : TypeId} {x y : Operand} (hop : o.op = Op.binOp op t x y ty) (hops : isArith op = true) {k : FloatKind} {bx cy : Nat} (hx : a.eval x = .float k bx) (hy : a.eval y = .float k cy)
    (hK : ∀ r, Hid (cls k r = fop op k (cls k bx) (cls k cy)) → Hid (r < 2 ^ k.format.width) → K (a.put o.dst (.float k r))) : Mult P o a (fun w' => ∃ n, w' = w.drewN n) K := by
  refine Mult.mk fun w1 hw1 => ?_
  obtain ⟨n, rfl⟩ := hw1
  have hops := isArith_or hops
  obtain ⟨r, m, hrun, h1, h2⟩ := run_farith (P := P) (w.drewN n) op hops t k bx cy
  refine ⟨.float k r, (w.drewN n).drewN m, ?_, ⟨n + m, World.drewN_drewN w n m⟩, hK r (show Hid _ from h1) (show Hid _ from h2)⟩
  rcases hops with rfl | rfl | rfl | rfl <;> simp [execOp, hop, hx, hy, hrun, eqGuard]
/-- an operation that only looks as if it could draw -/
theorem mult_one {w : World} {o : Oper} {a : Act} {K : Act → Prop} (v : Value) (hrun : ∀ n, (execOp a.eval o).run P (w.drewN n) = .ok (.value v) (w.drewN n)) (hK : K (a.put o.dst v)) : Mult P o a (fun w' => ∃ n, w' = w.drewN n) K := by
  refine Mult.mk fun w1 hw1 => ?_
  obtain ⟨n, rfl⟩ := hw1
  exact ⟨v, _, hrun n, ⟨n, rfl⟩, hK⟩
theorem mult_iadd {w : World} {o : Oper} {a : Act} {K : Act → Prop} {t ty : TypeId} {x y : Operand} (hop : o.op = Op.binOp .add t x y ty) {p q : Int} (hx : a.eval x = .int .i64 p) (hy : a.eval y = .int .i64 q)
    (h0 : -9223372036854775808 ≤ p + q) (h1 : p + q < 9223372036854775808) (hK : K (a.put o.dst (.int .i64 (p + q)))) : Mult P o a (fun w' => ∃ n, w' = w.drewN n) K := by
  refine mult_one (.int .i64 (p + q)) (fun n => ?_) hK
  have hw : IntKind.i64.wrap (p + q) = p + q := by
    have hb : IntKind.i64.bits = 64 := rfl
    have hs : IntKind.i64.signed = true := rfl
    have e1 : (2 : Int) ^ 64 = 18446744073709551616 := by decide
    have e2 : (2 : Int) ^ (64 - 1) = 9223372036854775808 := by decide
    unfold IntKind.wrap
    simp only [hb, hs, e1, e2, Bool.true_and, decide_eq_true_eq]
    split <;> omega
  simp [execOp, hop, hx, hy, eqGuard, binOp, Op.intArith, hw]
end
end Go.Proofs.Ythinjgiakaflpab.Flt

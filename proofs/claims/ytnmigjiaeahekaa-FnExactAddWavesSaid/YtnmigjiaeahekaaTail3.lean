/- Regions that draw their order, hold operations that give values off the tape, and end in a fixed order, but for a load that an allocation may come before: the load is taken first. -/
import Derived.Test.YtnmigjiaeahekaaTail
import Derived.OrdersHeld
namespace Go.Proofs.Ytnmigjiaeahekaa.Flt
open Go.RowKit
set_option linter.unusedVariables false

section
variable {P : Program} {ops : Array Oper} {md : Region.Mode} {C S : World → Prop} {Q : Exit → Act → World → Prop}

/-- what an operation waits for -/
def depsOf (md : Region.Mode) (ops : Array Oper) (j : Nat) : List Nat := match ops[j]? with
  | some o => (o.after.toList.filter (Region.binds md ·)).map (·.on)
  | none => []
/-- and what those wait for -/
def closeOf (md : Region.Mode) (ops : Array Oper) : Nat → List Nat → List Nat
  | 0, s => s
  | d + 1, s => closeOf md ops d (s ++ (s.flatMap (depsOf md ops)).filter fun x => !s.contains x)

structure Inv3 (md : Region.Mode) (ops : Array Oper) (X : List Nat) (listed : Array Bool) : Prop where
  size : listed.size = ops.size
  closed : ∀ j oj, ops[j]? = some oj → listed.getD j false = true → ∀ e ∈ oj.after, Region.binds md e = true → listed.getD e.on false = true
  done : ∀ x ∈ X, listed.getD x true = true

theorem Inv3.set {X : List Nat} {i : Nat} {listed : Array Bool} (inv : Inv3 md ops X listed) (hi : i ∈ Region.ready md ops listed) : Inv3 md ops X (listed.setIfInBounds i true) := by
  obtain ⟨_, oi, hoi, hall⟩ := mem_ready.1 hi
  refine ⟨by simp [inv.size], fun j oj hj hl e he hb => ?_, fun x hx => ?_⟩
  · by_cases hij : i = j
    · subst hij
      have : oj = oi := Option.some.inj (hj.symm.trans hoi)
      subst this
      exact getD_set_true (hall e he hb)
    · rw [getD_set_ne false hij] at hl
      exact getD_set_true (inv.closed j oj hj hl e he hb)
  · by_cases hix : i = x
    · subst hix
      rcases Nat.lt_or_ge i listed.size with h' | h'
      · simp [h']
      · simp
    · rw [getD_set_ne true hix]; exact inv.done x hx

theorem deps_mem {j y : Nat} (h : y ∈ depsOf md ops j) : ∃ oj, ops[j]? = some oj ∧ ∃ e ∈ oj.after, Region.binds md e = true ∧ e.on = y := by
  unfold depsOf at h
  split at h
  · rename_i oj hj
    rw [List.mem_map] at h
    obtain ⟨e, he, rfl⟩ := h
    rw [List.mem_filter] at he
    exact ⟨oj, hj, e, by simpa using he.1, he.2, rfl⟩
  · cases h
theorem close_listed {X : List Nat} {listed : Array Bool} (inv : Inv3 md ops X listed) : ∀ (d : Nat) (s : List Nat), (∀ x ∈ s, listed.getD x false = true) → ∀ y ∈ closeOf md ops d s, listed.getD y false = true
  | 0, _, h, y, hy => h y hy
  | d + 1, s, h, y, hy => by
    refine close_listed inv d _ ?_ y hy
    intro x hx
    rw [List.mem_append] at hx
    rcases hx with hx | hx
    · exact h x hx
    · rw [List.mem_filter, List.mem_flatMap] at hx
      obtain ⟨⟨z, hz, hzx⟩, _⟩ := hx
      obtain ⟨oz, hoz, e, he, hb, rfl⟩ := deps_mem hzx
      exact inv.closed z oz hoz (h z hz) e he hb

/-- whatever stands from n on and is not done waits for all from k to n -/
def wait3B (md : Region.Mode) (ops : Array Oper) (X : List Nat) (k n d : Nat) : Bool :=
  (List.range ops.size).all fun t => decide (t < n) || X.contains t || (List.range n).all fun i => decide (i < k) || (closeOf md ops d (depsOf md ops t)).contains i

theorem wait3 {X : List Nat} {k n d : Nat} {listed : Array Bool} (hB : wait3B md ops X k n d = true) (inv : Inv3 md ops X listed) {i : Nat} (hki : k ≤ i) (hi : i < n) (hun : listed.getD i true = false) : ∀ t, n ≤ t → t ∉ Region.ready md ops listed := by
  intro t ht hr
  obtain ⟨htu, ot, hot, hall⟩ := mem_ready.1 hr
  have htlt : t < ops.size := (Array.getElem?_eq_some_iff.1 hot).1
  have h1 := List.all_eq_true.1 hB t (List.mem_range.2 htlt)
  rw [Bool.or_eq_true, Bool.or_eq_true, decide_eq_true_eq] at h1
  rcases h1 with (h1 | h1) | h1
  · omega
  · rw [inv.done t (by simpa using h1)] at htu; cases htu
  · have h2 := List.all_eq_true.1 h1 i (List.mem_range.2 hi)
    rw [Bool.or_eq_true, decide_eq_true_eq] at h2
    rcases h2 with h2 | h2
    · omega
    · have h3 := close_listed inv d (depsOf md ops t) (fun x hx => by
        obtain ⟨oz, hoz, e, he, hb, rfl⟩ := deps_mem hx
        cases Option.some.inj (hoz.symm.trans hot)
        exact hall e he hb) i (by simpa using h2)
      rw [getD_both hun] at h3; cases h3

/-- these come up one after another -/
def seqL (md : Region.Mode) (ops : Array Oper) : List Nat → Array Bool → Bool
  | [], listed => (Region.ready md ops listed).isEmpty
  | k :: ks, listed => decide (Region.ready md ops listed = [k]) && seqL md ops ks (listed.setIfInBounds k true)
theorem seqL_ready {n : Nat} : ∀ {ks : List Nat} {listed : Array Bool}, (∀ k ∈ ks, n ≤ k) → seqL md ops ks listed = true → ∀ j ∈ Region.ready md ops listed, n ≤ j
  | [], listed, _, h, j, hj => by simp only [seqL, List.isEmpty_iff] at h; rw [h] at hj; cases hj
  | k :: ks, listed, hk, h, j, hj => by
    simp only [seqL, Bool.and_eq_true, decide_eq_true_eq] at h
    rw [h.1] at hj
    have : j = k := by simpa using hj
    subst this
    exact hk j (by simp)
def lexHead3 (md : Region.Mode) (ops : Array Oper) (ks : List Nat) : Nat → Nat → Array Bool → Bool
  | 0, _, listed => seqL md ops ks listed
  | f + 1, k, listed => (Region.ready md ops listed).contains k && Region.free md ops listed k && lexHead3 md ops ks f (k + 1) (listed.setIfInBounds k true)

theorem headM_first3 {X : List Nat} {k0 n d i : Nat} {oi : Oper} {L : Array Bool → Act → Prop} (hki : k0 ≤ i) (hC : ∃ w, C w) (hi : ops[i]? = some oi) (hsel : ∀ (j : Nat) (o : Oper) cs b, ops[j]? = some o → o.op ≠ .select cs b)
    (hB : wait3B md ops X k0 n d = true) (hin : i < n) (hdone : ∀ listed a, L listed a → ∀ j ∈ Region.ready md ops listed, n ≤ j) :
    ∀ (f : Nat) (listed : Array Bool) (a : Act), Inv3 md ops X listed →
      (∀ j oj, ops[j]? = some oj → j ≠ i → j < n → listed.getD j true = false → (∀ e ∈ oj.after, Region.binds md e = true → e.on ≠ i) → oi.apart ops oj = true ∧ (multiOp oi = true → plainOp oj = true)) →
      i ∈ Region.ready md ops listed → mOp P ops C i (headM P md ops C n L f (listed.setIfInBounds i true)) a → headM P md ops C n L (f + 1) listed a := by
  intro f
  induction f with
  | zero =>
    intro listed a inv _ hr H
    have hun := (mem_ready.1 hr).1
    refine ⟨fun h => (by rw [h] at hr; cases hr), fun j hj => ?_⟩
    have hjn : j < n := by
      rcases Nat.lt_or_ge j n with h | h
      · exact h
      · exact absurd hj (wait3 hB inv hki hin hun j h)
    refine ⟨hjn, ?_⟩
    by_cases hji : j = i
    · subst hji; exact H
    · obtain ⟨a', h0⟩ := mOp_some hC H
      have := hdone _ _ h0 j (ready_mono hj hji)
      omega
  | succ f ih =>
    intro listed a inv hfree hr H
    have hun := (mem_ready.1 hr).1
    refine ⟨fun h => (by rw [h] at hr; cases hr), fun j hj => ?_⟩
    have hjn : j < n := by
      rcases Nat.lt_or_ge j n with h | h
      · exact h
      · exact absurd hj (wait3 hB inv hki hin hun j h)
    refine ⟨hjn, ?_⟩
    by_cases hji : j = i
    · subst hji; exact H
    · obtain ⟨hjun, oj, hoj, hall⟩ := mem_ready.1 hj
      have hnot : ∀ e ∈ oj.after, Region.binds md e = true → e.on ≠ i := fun e he hb heq => by
        have h1 := hall e he hb
        rw [heq, getD_both hun] at h1
        cases h1
      obtain ⟨hap, hpl⟩ := hfree j oj hoj hji hjn hjun hnot
      have H2 : mOp P ops C i (mOp P ops C j (headM P md ops C n L f ((listed.setIfInBounds i true).setIfInBounds j true))) a :=
        mOp_mono (fun a' ha' => (ha'.2 j (ready_mono hj hji)).2) H
      have H3 := mOp_swap hi hoj hC hap (fun cs b => hsel i oi cs b hi) (fun cs b => hsel j oj cs b hoj) hpl H2
      refine mOp_mono (fun a' ha' => ih (listed.setIfInBounds j true) a' (inv.set hj) ?_ (ready_mono hr (Ne.symm hji)) ?_) H3
      · intro k ok hk hki hkn hun2 hno
        refine hfree k ok hk hki hkn ?_ hno
        by_cases hjk : j = k
        · subst hjk; exact hjun
        · rw [getD_set_ne true hjk] at hun2; exact hun2
      · rw [Array.setIfInBounds_comm _ _ hji]
        exact ha'

theorem headM_lex3 {X ks : List Nat} {k0 n d : Nat} {Lq : Act → Prop} (hC : ∃ w, C w) (hsel : Region.noSelect ops = true) (hB0 : wait3B md ops X k0 n d = true) (hks : ∀ k ∈ ks, n ≤ k) (hmf : multiHead md ops n = true) :
    ∀ (l : List Oper) (k : Nat) (listed : Array Bool) (a : Act), k0 ≤ k → (∀ j, j < l.length → l[j]? = ops[k + j]?) → k + l.length = n → (∀ j, j < k → listed.getD j true = true) → Inv3 md ops X listed →
    lexHead3 md ops ks l.length k listed = true → wpM P ops C Lq l a →
    headM P md ops C n (fun listed' a' => seqL md ops ks listed' = true ∧ Lq a') l.length listed a
  | [], k, listed, a, _, _, hk, _, _, hB, h => ⟨by simpa [lexHead3] using hB, h⟩
  | o :: l, k, listed, a, hk0, hl, hk, hdn, inv, hB, h => by
    have h0 : ops[k]? = some o := by simpa using (hl 0 (by simp)).symm
    simp only [List.length_cons, lexHead3, Bool.and_eq_true] at hB
    obtain ⟨⟨hr, hf⟩, hB'⟩ := hB
    have hkn : k < n := by simp only [List.length_cons] at hk; omega
    have hr' : k ∈ Region.ready md ops listed := by simpa using hr
    refine headM_first3 hk0 hC h0 (Region.noSelect_spec hsel) hB0 hkn (fun listed' a' hL => seqL_ready hks hL.1) l.length listed a inv ?_ hr' ?_
    · intro j oj hj hjk hjn hun hno
      refine ⟨Region.free_spec h0 hf j oj hj hjk hun hno, fun hm => multiHead_spec hmf h0 hj hkn hjn ?_ hm hno⟩
      rcases Nat.lt_trichotomy j k with h3 | h3 | h3
      · rw [hdn j h3] at hun; cases hun
      · exact absurd h3 hjk
      · exact h3
    · rw [mOp_at h0]
      have ih : ∀ a', wpM P ops C Lq l a' → headM P md ops C n (fun listed' a' => seqL md ops ks listed' = true ∧ Lq a') l.length (listed.setIfInBounds k true) a' := fun a' ha' =>
        headM_lex3 hC hsel hB0 hks hmf l (k + 1) _ a' (by omega) (fun j hj => by have := hl (j + 1) (by simp; omega); simpa [Nat.add_assoc, Nat.add_comm 1 j] using this) (by simp only [List.length_cons] at hk; omega) (fun j hj => by
          by_cases hjk : k = j
          · subst hjk
            rcases Nat.lt_or_ge k listed.size with h' | h'
            · simp [h']
            · simp
          · rw [getD_set_ne true hjk]; exact hdn j (by omega)) (inv.set hr') hB' ha'
      unfold wpM at h
      split at h
      · rename_i hw; rw [if_pos hw]; exact h.mono fun u => ih _
      · rename_i hw; rw [if_neg hw]; exact ih _ h

/-- whatever order is picked, and S holds behind every operation that does not wait for number i -/
def wpAnyI (P : Program) (md : Region.Mode) (ops : Array Oper) (Q : Exit → Act → World → Prop) (i : Nat) (S : World → Prop) : Nat → Array Bool → Act → World → Prop
  | 0, listed, a, w => Region.ready md ops listed = [] ∧ Q .normal a w
  | f + 1, listed, a, w => (Region.ready md ops listed = [] → Q .normal a w) ∧
    ∀ j ∈ Region.ready md ops listed, wpOp P ops Q j (fun a' w' => (Region.waitsFor md ops j i = false → S w') ∧ wpAnyI P md ops Q i S f (listed.setIfInBounds j true) a' w') a w
theorem wpAny_of_I {i : Nat} : ∀ (f : Nat) (listed : Array Bool) (a : Act) (w : World), wpAnyI P md ops Q i S f listed a w → wpAny P md ops Q f listed a w
  | 0, _, _, _, h => h
  | f + 1, _, _, _, h => ⟨h.1, fun j hj => wpOp_mono (fun a' w' h' => wpAny_of_I f _ a' w' h'.2) (h.2 j hj)⟩

theorem wpAny_until {i : Nat} {oi : Oper} {v : Value} (hi : ops[i]? = some oi) (hsel : ∀ (j : Nat) (o : Oper) cs b, ops[j]? = some o → o.op ≠ .select cs b)
    (hQ : ∀ c a w, Q (.panic c) (a.put oi.dst v) w → Q (.panic c) a w) :
    ∀ (f : Nat) (listed : Array Bool) (a : Act) (w : World),
      (∀ j oj, ops[j]? = some oj → j ≠ i → listed.getD j true = false → (∀ e ∈ oj.after, Region.binds md e = true → e.on ≠ i) → oi.apart ops oj = true) →
      i ∈ Region.ready md ops listed → YieldsIf P ops S oi v a → S w →
      wpAnyI P md ops Q i S f (listed.setIfInBounds i true) (a.put oi.dst v) w → wpAny P md ops Q (f + 1) listed a w := by
  intro f
  induction f with
  | zero =>
    intro listed a w _ hr hy hS H
    refine ⟨fun h => (by rw [h] at hr; cases hr), fun j hj => ?_⟩
    by_cases hji : j = i
    · subst hji; exact hy.wpOp hi hS H
    · have := ready_mono hj hji
      rw [H.1] at this
      cases this
  | succ f ih =>
    intro listed a w hfree hr hy hS H
    refine ⟨fun h => (by rw [h] at hr; cases hr), fun j hj => ?_⟩
    by_cases hji : j = i
    · subst hji; exact hy.wpOp hi hS (wpAny_of_I _ _ _ _ H)
    · have h1 := H.2 j (ready_mono hj hji)
      obtain ⟨hjun, oj, hoj, hall⟩ := mem_ready.1 hj
      have hnot : ∀ e ∈ oj.after, Region.binds md e = true → e.on ≠ i := fun e he hb heq => by
        have h1 := hall e he hb
        rw [heq, getD_both (mem_ready.1 hr).1] at h1
        cases h1
      have hD : Region.waitsFor md ops j i = false := by
        cases hd : Region.waitsFor md ops j i with
        | false => rfl
        | true =>
          obtain ⟨o', ho', e, he, hb, hon⟩ := Region.waitsFor_spec hd
          cases Option.some.inj (ho'.symm.trans hoj)
          exact absurd hon (hnot e he hb)
      have h2 := wpOp_putIf hoj (hfree j oj hoj hji hjun hnot) (fun cs b => hsel i oi cs b hi) (fun cs b => hsel j oj cs b hoj) hQ hy h1
      have hfree' : ∀ k ok, ops[k]? = some ok → k ≠ i → (listed.setIfInBounds j true).getD k true = false →
          (∀ e ∈ ok.after, Region.binds md e = true → e.on ≠ i) → oi.apart ops ok = true := fun k ok hk hki hun hno => by
        refine hfree k ok hk hki ?_ hno
        by_cases hjk : j = k
        · subst hjk; exact hjun
        · rw [getD_set_ne true hjk] at hun; exact hun
      refine wpOp_mono (fun a' w' h3 => ih (listed.setIfInBounds j true) a' w' hfree' (ready_mono hr (Ne.symm hji)) h3.1 (h3.2.1 hD) ?_) h2
      rw [Array.setIfInBounds_comm _ _ hji]
      exact h3.2.2

theorem wpAnyI_of_headM {i n g : Nat} {L : Array Bool → Act → Prop} (hCS : ∀ w, C w → S w) (hL : ∀ listed a w, C w → L listed a → wpAnyI P md ops Q i S g listed a w) :
    ∀ (f : Nat) (listed : Array Bool) (a : Act) (w : World), C w → headM P md ops C n L f listed a → wpAnyI P md ops Q i S (f + g) listed a w
  | 0, listed, a, w, hw, h => by rw [Nat.zero_add]; exact hL _ _ _ hw h
  | f + 1, listed, a, w, hw, h => by
    rw [show f + 1 + g = (f + g) + 1 by omega]
    exact ⟨fun h0 => absurd h0 h.1, fun j hj => wpOp_of_mOp hw (fun a' w' hw' h' => ⟨fun _ => hCS _ hw', wpAnyI_of_headM hCS hL f _ a' w' hw' h'⟩) (h.2 j hj).2⟩

/-- the last ones wait for number i -/
theorem wpAnyI_of_seq {i : Nat} : ∀ (ks : List Nat) (l : List Oper) (listed : Array Bool) (a : Act) (w : World), l.map some = ks.map (ops[·]?) → (∀ k ∈ ks, Region.waitsFor md ops k i = true) →
    seqL md ops ks listed = true → wpList P ops Q l a w → wpAnyI P md ops Q i S ks.length listed a w
  | [], [], _, _, _, _, _, hB, h => ⟨by simpa [seqL] using hB, h⟩
  | [], _ :: _, _, _, _, hl, _, _, _ => by simp at hl
  | _ :: _, [], _, _, _, hl, _, _, _ => by simp at hl
  | k :: ks, o :: l, listed, a, w, hl, hD, hB, h => by
    simp only [List.map_cons, List.cons.injEq] at hl
    simp only [seqL, Bool.and_eq_true, decide_eq_true_eq] at hB
    refine ⟨fun h1 => (by rw [hB.1] at h1; cases h1), fun j hj => ?_⟩
    rw [hB.1] at hj
    have hjk : j = k := by simpa using hj
    subst hjk
    have hw : wpOp P ops Q j (wpList P ops Q l) a w := by unfold wpOp; simp only [← hl.1]; exact h
    exact wpOp_mono (fun a' w' h' => ⟨fun h0 => (by rw [hD j (by simp)] at h0; cases h0), wpAnyI_of_seq ks l _ a' w' hl.2 (fun k hk => hD k (by simp [hk])) hB.2 h'⟩) hw

/-- all that is asked of the region's text -/
def loadTailB (ops : Array Oper) (X ks : List Nat) (i k0 n d : Nat) (listed : Array Bool) : Bool :=
  Region.noSelect ops && Region.free .any ops listed i && (Region.ready .any ops listed).contains i && wait3B .any ops X k0 n d && multiHead .any ops n && lexHead3 .any ops (n :: ks) (n - k0) k0 (listed.setIfInBounds i true) &&
    ks.all (fun k => Region.waitsFor .any ops k i && decide (n ≤ k)) && (List.range k0).all (fun j => (listed.setIfInBounds i true).getD j true) && X.all (fun x => listed.getD x true) && decide (listed.size = ops.size) &&
    (List.range ops.size).all (fun j => !listed.getD j false || (depsOf .any ops j).all fun e => listed.getD e false) && decide (k0 ≤ n)

theorem wpAny_load_tail {listed : Array Bool} {a : Act} {w : World} {X ks : List Nat} {i k0 n d : Nat} {oi ot : Oper} {v : Value} {l rest : List Oper}
    (hB : loadTailB ops X ks i k0 n d listed = true) (hi : ops[i]? = some oi) (hQ : ∀ c a w, Q (.panic c) (a.put oi.dst v) w → Q (.panic c) a w) (hy : YieldsIf P ops S oi v a)
    (hC : C w) (hCS : ∀ w, C w → S w) (hSA : ∀ w o, C w → S (w.alloc o))
    (hl : l = (ops.toList.drop k0).take (n - k0)) (hlen : l.length = n - k0) (hot : ops[n]? = some ot) (hgt : ot.guard = none) (hrest : rest.map some = ks.map (ops[·]?))
    (h : wpM P ops C (fun a' => ∀ w', C w' → ∃ u obj, (execOp a'.eval ot).run P w' = .ok (.value u) (w'.alloc obj) ∧ wpList P ops Q rest (a'.put ot.dst u) (w'.alloc obj)) l (a.put oi.dst v)) :
    wpAny P .any ops Q (n - k0 + (ks.length + 1) + 1) listed a w := by
  simp only [loadTailB, Bool.and_eq_true, decide_eq_true_eq] at hB
  obtain ⟨⟨⟨⟨⟨⟨⟨⟨⟨⟨⟨hsel, hf⟩, hr⟩, hw3⟩, hM⟩, hlex⟩, hks⟩, hdn⟩, hX⟩, hsz⟩, hcl⟩, hk0n⟩ := hB
  have hr' : i ∈ Region.ready .any ops listed := by simpa using hr
  have hks1 : ∀ k ∈ ks, Region.waitsFor .any ops k i = true ∧ n ≤ k := fun k hk => by
    have := List.all_eq_true.1 hks k hk
    simpa [Bool.and_eq_true, decide_eq_true_eq] using this
  have inv0 : Inv3 .any ops X listed := by
    refine ⟨hsz, fun j oj hj hlj e he hb => ?_, fun x hx => List.all_eq_true.1 hX x hx⟩
    have h1 := List.all_eq_true.1 hcl j (List.mem_range.2 (Array.getElem?_eq_some_iff.1 hj).1)
    rw [hlj] at h1
    simp only [Bool.not_true, Bool.false_or, List.all_eq_true] at h1
    refine h1 e.on ?_
    unfold depsOf
    rw [hj]
    simp only [List.mem_map, List.mem_filter]
    exact ⟨e, ⟨by simpa using he, hb⟩, rfl⟩
  refine wpAny_until (S := S) hi (Region.noSelect_spec hsel) hQ _ listed a w (fun j oj hj hji hun hno => Region.free_spec hi hf j oj hj hji hun hno) hr' hy (hCS _ hC) ?_
  have H := headM_lex3 (md := .any) (ks := n :: ks) (X := X) (d := d) ⟨_, hC⟩ hsel hw3 (fun k hk => by
    rcases List.mem_cons.1 hk with rfl | hk
    · exact Nat.le_refl _
    · exact (hks1 k hk).2) hM l k0 (listed.setIfInBounds i true) (a.put oi.dst v) (Nat.le_refl _) (fun j hj => by
      rw [hl]
      have hj' : j < n - k0 := by rw [← hlen]; exact hj
      simp [hj', List.getElem?_drop]) (by omega) (fun j hj => List.all_eq_true.1 hdn j (List.mem_range.2 hj)) (inv0.set hr') (by rw [hlen]; exact hlex) h
  have := wpAnyI_of_headM (i := i) (S := S) (Q := Q) (g := ks.length + 1) hCS (fun listed' a' w' hw' hL => by
    obtain ⟨hs, hq⟩ := hL
    simp only [seqL, Bool.and_eq_true, decide_eq_true_eq] at hs
    obtain ⟨u, obj, hrun, hrest'⟩ := hq w' hw'
    refine ⟨fun h1 => (by rw [hs.1] at h1; cases h1), fun j hj => ?_⟩
    rw [hs.1] at hj
    have hjn : j = n := by simpa using hj
    subst hjn
    unfold wpOp
    simp only [hot]
    have hwn : Region.wanted ot (yielded ops a'.tmps) = true := by simp [Region.wanted, hgt]
    rw [if_pos hwn]
    refine .inl ?_
    unfold Oper.wp
    rw [hrun]
    exact ⟨fun _ => hSA _ _ hw', wpAnyI_of_seq ks rest _ _ _ hrest (fun k hk => (hks1 k hk).1) hs.2 hrest'⟩) _ _ _ _ hC H
  rw [hlen] at this
  exact this

def regionLTB (ops : Array Oper) (j1 i k0 n d : Nat) (ks : List Nat) : Bool :=
  Region.noSelect ops && Region.free .any ops (Array.replicate ops.size false) j1 && (Region.ready .any ops (Array.replicate ops.size false)).contains j1 &&
    loadTailB ops [j1] ks i k0 n d ((Array.replicate ops.size false).setIfInBounds j1 true) && decide (ops.size = n - k0 + (ks.length + 1) + 1 + 1)

/-- an address is taken first, then a load, whatever order is drawn; then one walk of the text's order serves every order; the first of the last operations makes memory -/
theorem wp_region_load_tail {id : Nat} {a : Act} {w : World} {l0 : List Oper} (j1 i k0 n d : Nat) (ks : List Nat) {o1 oi ot : Oper} {rest : List Oper} (v1 v : Value) (S : World → Prop) (hm : P.follows .mixedOrders = true)
    (hB : regionLTB l0.toArray j1 i k0 n d ks = true) (h1 : l0.toArray[j1]? = some o1) (hi : l0.toArray[i]? = some oi) (hot : l0.toArray[n]? = some ot) (hgt : ot.guard = none) (hrest : rest.map some = ks.map (l0.toArray[·]?))
    (hlen : ((l0.drop k0).take (n - k0)).length = n - k0)
    (hQ1 : ∀ c a w, Q (.panic c) (a.put o1.dst v1) w → Q (.panic c) a w) (hQ3 : ∀ c a w, Q (.panic c) (a.put oi.dst v) w → Q (.panic c) a w)
    (hy1 : Yields P l0.toArray o1 v1 a) (hy : YieldsIf P l0.toArray S oi v (a.put o1.dst v1))
    (hCS : ∀ m, S (w.drewN m)) (hSA : ∀ m o, S ((w.drewN m).alloc o))
    (h : wpM P l0.toArray (fun w' => ∃ m, w' = w.drewN m) (fun a' => ∀ w', (∃ m, w' = w.drewN m) → ∃ u obj, (execOp a'.eval ot).run P w' = .ok (.value u) (w'.alloc obj) ∧ wpList P l0.toArray Q rest (a'.put ot.dst u) (w'.alloc obj)) ((l0.drop k0).take (n - k0)) ((a.put o1.dst v1).put oi.dst v)) :
    (Code.region id l0.toArray true).wp P Q a w := by
  simp only [regionLTB, Bool.and_eq_true, decide_eq_true_eq] at hB
  obtain ⟨⟨⟨⟨hsel, hf1⟩, hr1⟩, hlt⟩, hsz⟩ := hB
  refine wp_region_any hm ?_
  have H := wpAny_load_tail (S := S) (C := fun w' => ∃ m, w' = w.drewN m) (w := { w with drawn := w.drawn + 1 }) hlt hi hQ3 hy ⟨1, rfl⟩ (fun w' hw' => by obtain ⟨m, rfl⟩ := hw'; exact hCS m) (fun w' o hw' => by obtain ⟨m, rfl⟩ := hw'; exact hSA m o) (l := (l0.drop k0).take (n - k0)) (by simp) hlen hot hgt hrest h
  have H1 := wpAny_take h1 hsel hf1 hr1 hQ1 hy1 H
  rw [← hsz] at H1
  exact H1
end
end Go.Proofs.Ytnmigjiaeahekaa.Flt

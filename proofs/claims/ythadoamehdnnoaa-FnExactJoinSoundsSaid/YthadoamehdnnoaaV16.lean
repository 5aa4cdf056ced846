/- A sound that begins and ends softly: the reference's contract. -/
import Derived.Test.YthadoamehdnnoaaV14
import Derived.Test.YthadoamehdnnoaaT4
import Derived.Deep.Upon
namespace Go.Proofs.Ythadoamehdnnoaa
open Go.RowKit Flt
set_option linter.unusedVariables false

theorem getD_set16 (ys : List Nat) (k q r : Nat) (hk : k < ys.length) : (ys.set k r).getD q 0 = if q = k then r else ys.getD q 0 := by
  by_cases h : q = k
  · subst h; simp [List.getD, hk]
  · rw [if_neg h]; simp [List.getD, List.getElem?_set_ne (Ne.symm h)]
theorem mult_conv {w : World} {o : Oper} {a : Act} {K : Act → Prop} {src dst : TypeId} {x : Operand} (hop : o.op = Op.convert src dst x) (hs : (Try.prog.underlying src).isSome = true) (hd : Try.prog.underlying dst = some (.float .f32)) {p : Int} (hx : a.eval x = .int .i64 p)
    (hK : K (a.put o.dst (.float .f32 (floatOfInt .f32 p)))) : Mult Try.prog o a (fun w' => ∃ n, w' = w.drewN n) K := by
  refine mult_one _ (fun n => ?_) hK
  simp [execOp, hop, hx, run_convert_int_float (P := Try.prog) _ src dst .i64 .f32 p hs hd]
theorem wpList_append_none {ops : Array Oper} {rest : List Oper} {o : Oper} {a : Act} {Q : Exit → Act → World → Prop} (w : World) (hgd : o.guard = none) (s x : Operand) (t : TypeId)
    (ho : o.op = .call { callee := .builtin .append, args := #[s, x], argTypes := #[t, t] }) (e : TypeId) (i : TypeInfo) (ht : Try.prog.underlying t = some (.slice e)) (hi : Try.prog.info? e = some i)
    (b0 : Option Addr) (c0 : Nat) (hs : a.eval s = .slice b0 0 c0) (b : Option Addr) (c : Nat) (hx : a.eval x = .slice b 0 c) (h : wpList Try.prog ops Q rest (a.put o.dst (.slice b0 0 c0)) w) : wpList Try.prog ops Q (o :: rest) a w := by
  have hsrc : Src Try.prog i.size t (.slice b 0 c) 0 [] w := by
    cases b with
    | none => exact ⟨.inl ⟨_, ht⟩, fun _ => rfl, rfl, rfl, by simp, by simp⟩
    | some ad => exact Src.ofSlice w ht ad 0 c [] (by simp) (by intro j u h; simp at h) (by simp)
  have hrun := run_append_nothing (P := Try.prog) w t t o.type e i ht hi b0 0 c0 (Nat.zero_le _) _ hsrc
  refine wpList_plain hgd fun K hK' => ?_
  unfold Oper.wp
  simp [execOp, ho, resolve, invoke, builtin, hs, hx, hrun, Result.andThen]
  exact hK' _ _ h
theorem soft_list {zs ys : List Nat} {n i o : Nat} (hn : ys.length = n) (h : ∀ j, j < n → cls .f32 (ys.getD j 0) = if j < n then softC zs i o n j else cls .f32 (zs.getD j 0)) : ys.map (cls .f32) = listK (softC zs i o n) n := by
  unfold listK
  apply List.ext_getElem
  · simp [hn]
  · intro j h1 h2
    simp at h1
    have := h j (by omega)
    rw [if_pos (by omega)] at this
    simpa [List.getD, h1] using this
end Go.Proofs.Ythadoamehdnnoaa

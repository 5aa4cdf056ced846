/- Mixed tubes. -/
import Derived.Test.YthinjgiakaflpabT10
import Derived.Test.YthinjgiakaflpabTail2
import Derived.Test.YthinjgiakaflpabT19
import Derived.Test.YthinjgiakaflpabT17
namespace Go.Proofs.Ythinjgiakaflpab
open Go.RowKit Flt
set_option linter.unusedVariables false

theorem product_comm (x y : Ieee.Datum) : x.product y = y.product x := by
  cases x <;> cases y <;> simp [Ieee.Datum.product, Nat.mul_comm, Int.add_comm, bne_comm]
theorem fop_mul_comm (k : FloatKind) (x y : Option Nat) : fop .mul k x y = fop .mul k y x := by
  cases x with
  | none => cases y <;> rfl
  | some a =>
    cases y with
    | none => rfl
    | some b =>
      show ((k.format.read a).product (k.format.read b)).map k.format.write = ((k.format.read b).product (k.format.read a)).map k.format.write
      rw [product_comm]
def mixC (S : Option Nat) (cs ds : List (Option Nat)) : List (Option Nat) := (List.range cs.length).map fun q => betC (cs.getD q none) (ds.getD q none) S
def mixK (S : Option Nat) (xs ys : List Nat) (k : Nat) : List (Option Nat) := (List.range k).map fun q => betC (cls .f32 (xs.getD q 0)) (cls .f32 (ys.getD q 0)) S
theorem mix_snoc (S : Option Nat) (xs ys : List Nat) (k : Nat) : mixK S xs ys (k + 1) = mixK S xs ys k ++ [betC (cls .f32 (xs.getD k 0)) (cls .f32 (ys.getD k 0)) S] := by simp [mixK, List.range_succ]
theorem mix_all (S : Option Nat) {xs ys : List Nat} {n : Nat} (h1 : xs.length = n) (h2 : ys.length = n) : mixK S xs ys n = mixC S (xs.map (cls .f32)) (ys.map (cls .f32)) := by
  unfold mixK mixC
  simp only [List.length_map, h1]
  apply List.map_congr_left
  intro q hq
  have hq' : q < n := by simpa using hq
  simp [List.getD, show q < xs.length by omega, show q < ys.length by omega]
def mixT (cs : List (Option Nat)) (l t p : Option Nat) (ds : List (Option Nat)) (l2 t2 p2 S : Option Nat) : TR :=
  if tubeC cs l t p = true ∧ tubeC ds l2 t2 p2 = true ∧ cs.length = ds.length ∧ shareC S = true then giveT (mixC S cs ds) l t p else zeroT
theorem mix_len (cs : List (Option Nat)) (l t p : Option Nat) (ds : List (Option Nat)) (l2 t2 p2 S : Option Nat) : (mixT cs l t p ds l2 t2 p2 S).cs.length ≤ 16 := by
  unfold mixT
  split
  · exact give_len _ _ _ _
  · exact Nat.zero_le _
set_option maxHeartbeats 1000000 in
set_option maxRecDepth 100000 in
theorem l02Mix_any (a1 a2 : Option Addr) (n c1 c2 s : Nat) (xs ys : List Nat) (w : World) (h1 : Holds .f32 w a1 n xs) (h2 : Holds .f32 w a2 n ys) (hn : n ≤ 1048576) :
    Calls Try.prog 173 #[.slice a1 n c1, .slice a2 n c2, .float .f32 s] w fun e w' => ∃ b c' zs, e = .returned (.slice b n c') ∧ Own w' w.heap.size n (.slice b n c') zs ∧ zs.map (cls .f32) = mixC (cls .f32 s) (xs.map (cls .f32)) (ys.map (cls .f32)) ∧ Ext w w' := by
  obtain ⟨i0, hi, hz0, hz1, hz2⟩ := info_parts infoF
  have HI := hid (And.intro hi (And.intro hz0 (And.intro hz1 hz2)))
  have HN := hid hn
  have HS := hid (Nat.le_refl w.heap.size)
  have HM := hid (mix_all (cls .f32 s) h1.1 h2.1)
  have hcell : ∀ wr, Ext w wr → ∀ k, k < n → ∃ b off b' off', a1 = some ⟨b, off, none⟩ ∧ a2 = some ⟨b', off', none⟩ ∧ wr.cell? ⟨b, off + k, none⟩ = some (.float .f32 (xs.getD k 0)) ∧ wr.cell? ⟨b', off' + k, none⟩ = some (.float .f32 (ys.getD k 0)) := by
    intro wr e k hk
    rcases h1.2 with h0 | ⟨b, off, rfl, hb, hc⟩
    · omega
    · rcases h2.2 with h0 | ⟨b', off', rfl, hb', hc'⟩
      · omega
      · exact ⟨b, off, b', off', rfl, rfl, (Below.cell e (p := ⟨b, off + k, none⟩) hb).trans (hc k hk), (Below.cell e (p := ⟨b', off' + k, none⟩) hb').trans (hc' k hk)⟩
  have HC := hid hcell
  clear hi hz0 hz1 hz2 h1 h2 hn hcell
  go_enter Try.func173, Try.ntmps173
  go_wp2
  go_loopw [7, 8] (fun v i wr => ∃ (k : Nat) (zs : List Nat), k ≤ n ∧ i = .int .i64 k ∧ Hid (Own wr w.heap.size k v zs) ∧ Hid (zs.map (cls .f32) = mixK (cls .f32 s) xs ys k) ∧ Hid (Ext w wr)) (fun _ i _ => n - (intOf i).toNat)
  case atStart => exact ⟨0, [], Nat.zero_le _, rfl, hid (own_fresh (cs := #[]) (zs := []) (hid rfl) rfl rfl (Nat.le_refl _) (Nat.zero_le _)), rfl, hid (ext_alloc _ _)⟩
  case round =>
    obtain ⟨k, zs, hk, rfl, ho, hy, he⟩ := hrel
    have hn2 : n ≤ 1048576 := HN.out
    by_cases hlt : k < n
    · obtain ⟨b, off, b', off', rfl, rfl, e1, e2⟩ := HC.out _ he.out k hlt
      have hms := hid (mix_snoc (cls .f32 s) xs ys k)
      generalize xs.getD k 0 = x at e1 hms
      generalize ys.getD k 0 = y at e2 hms
      have hi0 : (0 : Int) ≤ (k : Int) := by omega
      have hi1 : (k : Int) < (n : Int) := by omega
      go_wp2_with fail
      refine wp_region_move_tail 17 (by kernel_rfl) (by kernel_rfl) (by kernel_rfl) (fun _ _ _ h => h) (Or.inl ⟨by rfl, fun w => by simp [execOp]; rfl⟩) ?_
      simp only [List.take_succ_cons, List.take_zero, List.drop_succ_cons, List.drop_zero]
      repeat (first | (refine wpM_mult0 rfl rfl ?_; refine mult_farith rfl rfl rfl rfl ?_; intro r hr hrw; try replace hr := hid hr.out) | (refine wpM_quiet rfl (fun K hK => ?_); go_simp; refine hK _ ?_; clear hK K))
      refine wpM_nil ?_
      intro w3 hw3
      obtain ⟨nq, hw3⟩ := hw3
      subst hw3
      rename_i r1 hrw1 hr1 r2 hrw2 hr2
      have hcl := hid (show cls .f32 r = betC (cls .f32 x) (cls .f32 y) (cls .f32 s) from by
        unfold betC
        rw [hr.out, hr2.out, hr1.out, fop_mul_comm])
      go_wp2_with (first | (at_builtin; refine wpList_append_lies _ rfl _ _ 43 rfl w.heap.size 22 i0 (.float .f32 0) 1 4 Try.underlying43 HI.out.1 HI.out.2.1 HI.out.2.2.1 HI.out.2.2.2 rfl (by decide) _ _ _ rfl (Own.alloc (Own.drewN ho.out _) _) ⟨wr.heap.size, 0, none⟩ 1 1 [.float .f32 r] rfl rfl (World.news_of_block (heap_alloc_new _ _)) (by intro u hu; simp at hu; subst hu; rfl) (by omega) (by have h9 := HN.out; unfold maxLen; omega) (by have h9 := HN.out; omega) (by have h8 := HS.out; have h7 := Ext.size he.out; simp; omega) _ rfl ?_; intro g cap w1 hown hgrow hat hlt2))
      have g1 := hid (own_snoc10 hown)
      have g2 := hid (show Ext w w1 from But.below hgrow (Ext.alloc (Ext.drewN he.out _) _) (fun k2 hk2 => (Own.block ho.out k2 hk2).1))
      have g3 := hid (show (zs ++ [r]).map (cls .f32) = mixK (cls .f32 s) xs ys (k + 1) from by rw [List.map_append, hy.out, hms.out]; exact congrArg (fun z => _ ++ [z]) hcl.out)
      clear hown hgrow hat hlt2
      go_wp2
      go_roundw
      case rel => exact ⟨k + 1, zs ++ [r], by omega, by go_num, g1, g3, g2⟩
      case measure => simp [intOf]; omega
    · have hkn : k = n := by omega
      subst hkn
      go_wp2
      go_ret
      obtain ⟨b, c', e1, _⟩ := Own.holds ho.out
      refine ⟨b, c', zs, by rw [← e1]; rfl, by rw [← e1]; exact ho.out, by rw [hy.out, HM.out], he.out⟩
end Go.Proofs.Ythinjgiakaflpab

/- An item copied by the program; rows of items that are owned. -/
import Derived.Test.YthkklmfjdjiafaaCaJ4
namespace Go.Proofs.Ythkklmfjdjiafaa
open Go.RowKit
set_option linter.unusedVariables false
set_option linter.unusedSimpArgs false
set_option maxRecDepth 100000 in
set_option maxHeartbeats 6400000 in
theorem ownItem_any (it : It) (hsm : it.Sm) (hc0 : it.cs.length ≤ 1048576) (hp0 : it.ps.length ≤ 1048576) (vc vp : Value) (w : World) (ht : Two w.heap.size w it vc vp) :
    Calls Try.prog 24 #[itV it vc vp] w fun x w' => ∃ vc' vp', x = .returned (itV it vc' vp') ∧ Own2 w.heap.size w'.heap.size w' it vc' vp' ∧ Below w.heap.size w w' := by
  have hs1 := hide (fun W (hW : Below w.heap.size w W) => ownOut_any it hsm hc0 hp0 vc vp W ((ht.later hW).up hW.size))
  obtain ⟨⟨ac, cc, hvc⟩, ⟨ap, cp, hvp⟩⟩ := two_form ht
  subst hvc hvp
  clear ht
  go_enter Try.func24, Try.ntmps24
  go_wp2_with fail
  refine (hs1.out _ (two_low w _ _)).mono ?_
  rintro e1 w1 ⟨v1, v3, rfl, hO1, hB1⟩
  obtain ⟨⟨a1, c1, hv1⟩, ⟨a3, c3, hv3⟩⟩ := own2_form hO1
  subst hv1 hv3
  obtain ⟨bx, br, hB, hsz⟩ := two_q hB1
  have HO1 := hide (hO1.up (lo' := w.heap.size + 2) (by simp) (Nat.le_refl _))
  have HX1 := hide bx
  have HR1 := hide br
  have HB1 := hide hB
  have x0 := cell_of_block bx 0
  have x1 := cell_of_block bx 1
  have x2 := cell_of_block bx 2
  have x3 := cell_of_block bx 3
  have x4 := cell_of_block bx 4
  have x5 := cell_of_block bx 5
  have x6 := cell_of_block bx 6
  have x7 := cell_of_block bx 7
  have x8 := cell_of_block bx 8
  have x9 := cell_of_block bx 9
  have f2 := free_of_block bx 2
  have f3 := free_of_block bx 3
  have f4 := free_of_block bx 4
  have f5 := free_of_block bx 5
  have f6 := free_of_block bx 6
  have f7 := free_of_block bx 7
  have f8 := free_of_block bx 8
  have f9 := free_of_block bx 9
  have r0 := cell_of_block br 0
  have r1 := cell_of_block br 1
  have r2 := cell_of_block br 2
  have r3 := cell_of_block br 3
  have r4 := cell_of_block br 4
  have r5 := cell_of_block br 5
  have r6 := cell_of_block br 6
  have r7 := cell_of_block br 7
  have r8 := cell_of_block br 8
  have r9 := cell_of_block br 9
  have g0 := free_of_block br 0
  have g1 := free_of_block br 1
  have g2 := free_of_block br 2
  have g3 := free_of_block br 3
  have g4 := free_of_block br 4
  have g5 := free_of_block br 5
  have g6 := free_of_block br 6
  have g7 := free_of_block br 7
  have g8 := free_of_block br 8
  have g9 := free_of_block br 9
  simp only [List.getElem?_toArray, List.getElem?_cons_zero, List.getElem?_cons_succ] at x0 r0 x1 r1 x2 r2 x3 r3 x4 r4 x5 r5 x6 r6 x7 r7 x8 r8 x9 r9
  clear hB1 bx br hB hs1 hO1
  go_wp2
  have hbr : (((((((((w1.setCell ⟨w.heap.size, 2, none⟩ (.slice a1 it.cs.length c1)).setCell ⟨w.heap.size, 3, none⟩ (.int .i64 it.st)).setCell ⟨w.heap.size, 4, none⟩ (.int .i64 it.vk)).setCell ⟨w.heap.size, 5, none⟩ (.int .i64 it.vn)).setCell ⟨w.heap.size, 6, none⟩ (.string it.vt)).setCell ⟨w.heap.size, 7, none⟩ (.string it.on)).setCell ⟨w.heap.size, 8, none⟩ (.slice a3 it.ps.length c3)).setCell ⟨w.heap.size, 9, none⟩ (.int .i64 it.fu))).heap[w.heap.size + 1]? = some (.cells #[.int .i64 0, .int .i64 0, .slice none 0 0, .int .i64 0, .int .i64 0, .int .i64 0, .string ⟨#[]⟩, .string ⟨#[]⟩, .slice none 0 0, .int .i64 0] 58 (0, 0)) := (qset_other (qset_other (qset_other (qset_other (qset_other (qset_other (qset_other (qset_other HR1.out (by omega)) (by omega)) (by omega)) (by omega)) (by omega)) (by omega)) (by omega)) (by omega))
  have hbk := (block_set (block_set (block_set (block_set (block_set (block_set (block_set (block_set (block_set (block_set hbr 0 (.int .i64 it.run)) 1 (.int .i64 it.many)) 2 (.slice a1 it.cs.length c1)) 3 (.int .i64 it.st)) 4 (.int .i64 it.vk)) 5 (.int .i64 it.vn)) 6 (.string it.vt)) 7 (.string it.on)) 8 (.slice a3 it.ps.length c3)) 9 (.int .i64 it.fu))
  simp only [List.setIfInBounds_toArray, List.set_cons_zero, List.set_cons_succ] at hbk
  have hMF : Mid w.heap.size (w.heap.size + 2) w1 ((((((((((((((((((w1.setCell ⟨w.heap.size, 2, none⟩ (.slice a1 it.cs.length c1)).setCell ⟨w.heap.size, 3, none⟩ (.int .i64 it.st)).setCell ⟨w.heap.size, 4, none⟩ (.int .i64 it.vk)).setCell ⟨w.heap.size, 5, none⟩ (.int .i64 it.vn)).setCell ⟨w.heap.size, 6, none⟩ (.string it.vt)).setCell ⟨w.heap.size, 7, none⟩ (.string it.on)).setCell ⟨w.heap.size, 8, none⟩ (.slice a3 it.ps.length c3)).setCell ⟨w.heap.size, 9, none⟩ (.int .i64 it.fu)).setCell ⟨w.heap.size + 1, 0, none⟩ (.int .i64 it.run)).setCell ⟨w.heap.size + 1, 1, none⟩ (.int .i64 it.many)).setCell ⟨w.heap.size + 1, 2, none⟩ (.slice a1 it.cs.length c1)).setCell ⟨w.heap.size + 1, 3, none⟩ (.int .i64 it.st)).setCell ⟨w.heap.size + 1, 4, none⟩ (.int .i64 it.vk)).setCell ⟨w.heap.size + 1, 5, none⟩ (.int .i64 it.vn)).setCell ⟨w.heap.size + 1, 6, none⟩ (.string it.vt)).setCell ⟨w.heap.size + 1, 7, none⟩ (.string it.on)).setCell ⟨w.heap.size + 1, 8, none⟩ (.slice a3 it.ps.length c3)).setCell ⟨w.heap.size + 1, 9, none⟩ (.int .i64 it.fu)) := (((((((((((((((((((Mid.refl w.heap.size (w.heap.size + 2) w1).set (by omega) (by omega)).set (by omega) (by omega)).set (by omega) (by omega)).set (by omega) (by omega)).set (by omega) (by omega)).set (by omega) (by omega)).set (by omega) (by omega)).set (by omega) (by omega)).set (by omega) (by omega)).set (by omega) (by omega)).set (by omega) (by omega)).set (by omega) (by omega)).set (by omega) (by omega)).set (by omega) (by omega)).set (by omega) (by omega)).set (by omega) (by omega)).set (by omega) (by omega)).set (by omega) (by omega))
  have hsF := hMF.size
  generalize ((((((((((((((((((w1.setCell ⟨w.heap.size, 2, none⟩ (.slice a1 it.cs.length c1)).setCell ⟨w.heap.size, 3, none⟩ (.int .i64 it.st)).setCell ⟨w.heap.size, 4, none⟩ (.int .i64 it.vk)).setCell ⟨w.heap.size, 5, none⟩ (.int .i64 it.vn)).setCell ⟨w.heap.size, 6, none⟩ (.string it.vt)).setCell ⟨w.heap.size, 7, none⟩ (.string it.on)).setCell ⟨w.heap.size, 8, none⟩ (.slice a3 it.ps.length c3)).setCell ⟨w.heap.size, 9, none⟩ (.int .i64 it.fu)).setCell ⟨w.heap.size + 1, 0, none⟩ (.int .i64 it.run)).setCell ⟨w.heap.size + 1, 1, none⟩ (.int .i64 it.many)).setCell ⟨w.heap.size + 1, 2, none⟩ (.slice a1 it.cs.length c1)).setCell ⟨w.heap.size + 1, 3, none⟩ (.int .i64 it.st)).setCell ⟨w.heap.size + 1, 4, none⟩ (.int .i64 it.vk)).setCell ⟨w.heap.size + 1, 5, none⟩ (.int .i64 it.vn)).setCell ⟨w.heap.size + 1, 6, none⟩ (.string it.vt)).setCell ⟨w.heap.size + 1, 7, none⟩ (.string it.on)).setCell ⟨w.heap.size + 1, 8, none⟩ (.slice a3 it.ps.length c3)).setCell ⟨w.heap.size + 1, 9, none⟩ (.int .i64 it.fu)) = WF at *
  have m0 := cell_of_block hbk 0
  have m1 := cell_of_block hbk 1
  have m2 := cell_of_block hbk 2
  have m3 := cell_of_block hbk 3
  have m4 := cell_of_block hbk 4
  have m5 := cell_of_block hbk 5
  have m6 := cell_of_block hbk 6
  have m7 := cell_of_block hbk 7
  have m8 := cell_of_block hbk 8
  have m9 := cell_of_block hbk 9
  simp only [List.getElem?_toArray, List.getElem?_cons_zero, List.getElem?_cons_succ] at m0 m1 m2 m3 m4 m5 m6 m7 m8 m9
  refine bodyPost_ret (v := itV it (.slice a1 it.cs.length c1) (.slice a3 it.ps.length c3)) (by simp [results, Try.results24, go_sem, m0, m1, m2, m3, m4, m5, m6, m7, m8, m9]) rfl ?_
  exact ⟨_, _, rfl, ((HO1.out.up (Nat.le_refl _) hsF).mid hMF (.inr (Nat.le_refl _))).up (by omega) (Nat.le_refl _), HB1.out.trans ((hMF.below (by omega)).mono (by omega))⟩
abbrev iqL (q : It × Value × Value) : List Value := itL q.1 q.2.1 q.2.2
theorem iq_len (q : It × Value × Value) : (iqL q).length = 10 := rfl
theorem PBlk.keep {α : Type} {T : TypeId} {m : Nat} {f : α → List Value} {lo hi : Nat} {w w1 : World} {l : List α} {v : Value} (h : PBlk T m f lo hi w l v) (hk : ∀ (b : Nat) (C : Array Value), w.heap[b]? = some (.cells C T (0, 0)) → w1.heap[b]? = w.heap[b]?) : PBlk T m f lo hi w1 l v := by
  obtain ⟨a, c, hv, h1, h2, hx⟩ := h
  refine ⟨a, c, hv, h1, h2, fun hl => ?_⟩
  obtain ⟨b, C, ha, hb, hb2, hc, hs, hcell⟩ := hx hl
  exact ⟨b, C, ha, hb, hb2, (hk b C hc).trans hc, hs, hcell⟩
/-- items that are owned, each with its rows, in ranges of blocks that follow one another -/
def IOw (base : Nat) (W : World) (L : List (It × Value × Value)) (v : Value) : Prop :=
  W.ownsRow base 58 10 v L.length (L.flatMap iqL) ∧ ∃ s : Nat → Nat, (∀ j, s j ≤ s (j + 1)) ∧ base ≤ s 0 ∧ s L.length ≤ W.heap.size ∧ ∀ j q, L[j]? = some q → Own2 (s j) (s (j + 1)) W q.1 q.2.1 q.2.2
theorem IOw.none (base : Nat) (W : World) (hb : base ≤ W.heap.size) : IOw base W [] (.slice none 0 0) :=
  ⟨⟨by simp, .inl ⟨rfl, rfl⟩⟩, fun _ => base, fun _ => Nat.le_refl _, Nat.le_refl _, hb, fun j q h => by simp at h⟩
theorem IOw.later {base : Nat} {W W1 : World} {L : List (It × Value × Value)} {v : Value} (h : IOw base W L v) (hB : Below W.heap.size W W1) : IOw base W1 L v := by
  obtain ⟨h1, s, h2, h3, h4, h5⟩ := h
  exact ⟨ownsRow_later h1 hB, s, h2, h3, Nat.le_trans h4 hB.size, fun j q hq => (h5 j q hq).later (hB.mono (by have := le_s h2 (show j + 1 ≤ L.length from (List.getElem?_eq_some_iff.1 hq).1); omega))⟩
theorem own_kind {W : World} {base : Nat} {T : TypeId} {m n k : Nat} {v : Value} {xs : List Value} (h : W.ownsRow base T m v n xs) (hk : v.ownBlock = some k) : ∃ D, W.heap[k]? = some (.cells D T (0, 0)) := by
  rcases h.2 with ⟨h1, h0⟩ | ⟨g, cap, cur, hv, hb, hg, hnc, hm, hs, ht⟩
  · rw [h1] at hk; cases hk
  · rw [hv] at hk
    injection hk with hk
    subst hk
    exact ⟨cur, hg⟩
/-- a store into a block of another kind -/
theorem IOw.set {base b i : Nat} {W : World} {L : List (It × Value × Value)} {v u : Value} {C : Array Value} {T : TypeId} (h : IOw base W L v) (hb : W.heap[b]? = some (.cells C T (0, 0))) (h1 : T ≠ 58) (h2 : T ≠ 86) (h3 : T ≠ 90) : IOw base (W.setCell ⟨b, i, Option.none⟩ u) L v := by
  obtain ⟨q1, s, q2, q3, q4, q5⟩ := h
  refine ⟨q1.kept (gb_set (gb_refl W (some b))) ?_, s, q2, q3, by rw [qset_size]; exact q4, fun j q hq => ⟨(q5 j q hq).1.keep (fun g D hg => Below.heap_setCell _ _ _ _ (by show g ≠ b; exact other_kind hb hg h2)), (q5 j q hq).2.keep (fun g D hg => Below.heap_setCell _ _ _ _ (by show g ≠ b; exact other_kind hb hg h3))⟩⟩
  cases hv : v.ownBlock with
  | none => exact .inl rfl
  | some k =>
    obtain ⟨D, hD⟩ := own_kind q1 hv
    exact .inr (fun e => by injection e with e; exact other_kind hb hD h1 e)
/-- one more item -/
theorem IOw.next {base : Nat} {W X Y : World} {L : List (It × Value × Value)} {v v' : Value} {it : It} {vc vp : Value} {O : Obj} (h : IOw base W L v) (hB : Below W.heap.size W X) (ho : Own2 W.heap.size X.heap.size X it vc vp)
    (hown : Y.ownsRow base 58 10 v' (L ++ [(it, vc, vp)]).length ((L ++ [(it, vc, vp)]).flatMap iqL)) (hg : (X.alloc O).grownBy Y v.ownBlock) : IOw base Y (L ++ [(it, vc, vp)]) v' := by
  have hX := h.later hB
  obtain ⟨q1, s, q2, q3, q4, q5⟩ := h
  have hXr := hX.1
  have hxs := hB.size
  have hgs := hg.size
  rw [World.size_alloc] at hgs
  have hkeep : ∀ (T : TypeId), T ≠ 58 → ∀ (b : Nat) (C : Array Value), X.heap[b]? = some (.cells C T (0, 0)) → Y.heap[b]? = X.heap[b]? := fun T hT b C hb => by
    have hlt := (Array.getElem?_eq_some_iff.1 hb).1
    have e1 : (X.alloc O).heap[b]? = X.heap[b]? := by rw [heap_alloc_at, if_neg (by omega)]
    rw [← e1]
    refine hg.block b (by rw [World.size_alloc]; omega) (fun e => ?_)
    obtain ⟨D, hD⟩ := own_kind hXr e.symm
    exact other_kind hb hD hT rfl
  refine ⟨hown, snew s L.length X.heap.size, snew_up q2 (by omega), by rw [snew_le (by omega)]; exact q3, by rw [snew_gt (by simp)]; omega, fun j q hq => ?_⟩
  by_cases hj : j < L.length
  · rw [List.getElem?_append_left hj] at hq
    have h5 := (q5 j q hq).later (hB.mono (by have := le_s q2 (show j + 1 ≤ L.length by omega); omega))
    rw [snew_le (by omega), snew_le (by omega)]
    exact ⟨h5.1.keep (hkeep 86 (by decide)), h5.2.keep (hkeep 90 (by decide))⟩
  · rw [List.getElem?_append_right (by omega)] at hq
    have hj0 : j - L.length = 0 := by
      have := (List.getElem?_eq_some_iff.1 hq).1
      simp at this
      omega
    rw [hj0] at hq
    obtain rfl : (it, vc, vp) = q := by simpa using hq
    have hjl : j = L.length := by omega
    subst hjl
    rw [snew_le (Nat.le_refl _), snew_gt (by omega)]
    have h5 := ho.up q4 (Nat.le_refl _)
    exact ⟨h5.1.keep (hkeep 86 (by decide)), h5.2.keep (hkeep 90 (by decide))⟩
theorem IOw.blk {base : Nat} {W : World} {L : List (It × Value × Value)} {v : Value} (h : IOw base W L v) : IBlk base W.heap.size W (L.map (·.1)) v := by
  obtain ⟨q1, s, q2, q3, q4, q5⟩ := h
  obtain ⟨a, c, hv, h1, h2, hx⟩ := PBlk.of_own iq_len q1
  refine ⟨a, c, by rw [List.length_map]; exact hv, by rw [List.length_map]; exact h1, h2, fun hl => ?_⟩
  rw [List.length_map] at hl ⊢
  obtain ⟨b, C, ha, hb, hb2, hc, hs, hcell⟩ := hx hl
  refine ⟨b, C, s, ha, hb, hb2, hc, hs, q3, q4, q2, fun j it hj hit => ?_⟩
  rw [List.getElem?_map] at hit
  cases hq : L[j]? with
  | none => rw [hq] at hit; cases hit
  | some q =>
    rw [hq] at hit
    obtain rfl : q.1 = it := by simpa using hit
    exact ⟨q.2.1, q.2.2, fun t u hu => hcell j q hq t u hu, q5 j q hq⟩
theorem app_iq {W : World} {base : Nat} {v : Value} {A : List (It × Value × Value)} (it : It) (a1 a3 : Option Addr) (n1 c1 n3 c3 : Nat) (hv : W.ownsRow base 58 10 v A.length (A.flatMap iqL)) (ad : Addr) (c : Nat) (hu : ∀ j u, (itL it (.slice a1 n1 c1) (.slice a3 n3 c3))[j]? = some u → W.cell? (ad.add j) = some u) (hn : A.length + 1 ≤ 4194304) (hb : base ≤ W.heap.size) :
    ∃ v' w2, (Builtin.append_ #[31, 31] 31 #[v, .slice (some ad) 1 c]).run Try.prog W = .ok v' w2 ∧ w2.ownsRow base 58 10 v' (A ++ [(it, (.slice a1 n1 c1 : Value), (.slice a3 n3 c3 : Value))]).length ((A ++ [(it, (.slice a1 n1 c1 : Value), (.slice a3 n3 c3 : Value))]).flatMap iqL) ∧ W.grownBy w2 v.ownBlock := by
  obtain ⟨i0, hi, hz0, hz1, hz2⟩ := info_parts infoIt
  obtain ⟨v', w2, hrun, hown, hgrow, _, _⟩ := run_append_own_at (P := Try.prog) W base 31 31 58 i0 _ 10 128 Try.underlying31 hi hz0 hz1 hz2 rfl (by decide) v A.length (A.flatMap iqL) hv ad 1 c (itL it (.slice a1 n1 c1) (.slice a3 n3 c3)) rfl hu (fun u hu => by
    simp only [List.mem_cons, List.not_mem_nil, or_false] at hu
    rcases hu with rfl | rfl | rfl | rfl | rfl | rfl | rfl | rfl | rfl | rfl <;> rfl) (by unfold maxLen; omega) (by omega) hb
  refine ⟨v', w2, hrun, ?_, hgrow⟩
  simpa [List.flatMap_append] using hown
end Go.Proofs.Ythkklmfjdjiafaa

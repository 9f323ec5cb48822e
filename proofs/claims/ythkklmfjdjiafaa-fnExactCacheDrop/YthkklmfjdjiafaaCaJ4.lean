/- How a run stood, copied by the program into memory of its own. -/
import Derived.Test.YthkklmfjdjiafaaCaJ3
import Derived.Deep.RegionWith
namespace Go.Proofs.Ythkklmfjdjiafaa
open Go.RowKit
set_option linter.unusedVariables false
set_option linter.unusedSimpArgs false
theorem gen_exit {Q : Exit → Act → World → Prop} {e : Exit} {a : Act} {W : World} (p : World → Prop) (h0 : p W) (h : ∀ X, p X → Q e a X) : Q e a W := h W h0
/-- a row of one's own, past a store into a block below it and a call -/
theorem PBlk.go {α : Type} {T : TypeId} {m : Nat} {f : α → List Value} {lo hi g : Nat} {W W0 W1 : World} {l : List α} {v : Value} (h : PBlk T m f lo hi W l v) (hW : W0 = W ∨ ∃ i u, W0 = W.setCell ⟨g, i, none⟩ u) (hg : g < lo) (hh : hi ≤ W.heap.size) (hB : Below W0.heap.size W0 W1) : PBlk T m f lo W1.heap.size W1 l v := by
  rcases hW with rfl | ⟨i, u, rfl⟩
  · exact (h.later (hB.mono hh)).up (Nat.le_refl _) (Nat.le_trans hh hB.size)
  · have hs := hB.size
    rw [qset_size] at hs
    exact ((h.mid (set_mid (lo := g) (hi := g + 1) W (Nat.le_refl _) (by omega)) (.inr (by omega))).later (hB.mono (by rw [qset_size]; exact hh))).up (Nat.le_refl _) (Nat.le_trans hh hs)
theorem PBlk.end1 {α : Type} {T : TypeId} {m : Nat} {f : α → List Value} {lo hi g : Nat} {W W0 : World} {l : List α} {v : Value} (h : PBlk T m f lo hi W l v) (hW : (∃ i u, W0 = W.setCell ⟨g, i, none⟩ u) ∨ ∃ i u j v, W0 = (W.setCell ⟨g, i, none⟩ u).setCell ⟨g, j, none⟩ v) (hg : g < lo) (hh : hi ≤ W.heap.size) : PBlk T m f lo W0.heap.size W0 l v := by
  rcases hW with ⟨i, u, rfl⟩ | ⟨i, u, j, u', rfl⟩
  · exact (h.mid (set_mid (lo := g) (hi := g + 1) W (Nat.le_refl _) (by omega)) (.inr (by omega))).up (Nat.le_refl _) (by rw [qset_size]; exact hh)
  · exact ((h.mid (set_mid (lo := g) (hi := g + 1) W (Nat.le_refl _) (by omega)) (.inr (by omega))).mid (set_mid (lo := g) (hi := g + 1) _ (Nat.le_refl _) (by omega)) (.inr (by omega))).up (Nat.le_refl _) (by rw [qset_size, qset_size]; exact hh)
set_option maxRecDepth 100000 in
set_option maxHeartbeats 6400000 in
theorem ownOut_any (it : It) (hsm : it.Sm) (hc0 : it.cs.length ≤ 1048576) (hp0 : it.ps.length ≤ 1048576) (vc vp : Value) (w : World) (ht : Two w.heap.size w it vc vp) :
    Calls Try.prog 31 #[otV it vc vp] w fun x w' => ∃ vc' vp', x = .returned (otV it vc' vp') ∧ Own2 w.heap.size w'.heap.size w' it vc' vp' ∧ Below w.heap.size w w' := by
  obtain ⟨hc, hp⟩ := ht
  obtain ⟨ac, cc, hvc, _⟩ := id hc
  obtain ⟨ap, cp, hvp, _⟩ := id hp
  subst hvc hvp
  obtain ⟨run, many, cs, st, vk, vn, vt, on, ps, fu⟩ := it
  obtain ⟨st1, st2, st3, st4⟩ := hsm
  simp only at st1 st2 st3 st4 hc hp hc0 hp0
  have hv := hide (ownVal_any vk vn vt st1)
  have hcl := hide (clone_any on (by omega))
  have hs1 := hide (fun W (hW : Below w.heap.size w W) => ownListCm_any cs st3 hc0 _ W ((hc.later hW).up hW.size))
  have hs3 := hide (fun W (hW : Below w.heap.size w W) => ownListPq_any ps st4 hp0 _ W ((hp.later hW).up hW.size))
  clear hc hp st1 st2 st3 st4
  go_enter Try.func31, Try.ntmps31
  go_wp2_with fail
  refine gen_code (fun X => Hid (OX 56 [(.slice ac cs.length cc), (.int .i64 st), (.int .i64 vk), (.int .i64 vn), (.string vt), (.string on), (.slice ap ps.length cp), (.int .i64 fu)] w X)) (hide (OX.start 56 [(.slice ac cs.length cc), (.int .i64 st), (.int .i64 vk), (.int .i64 vn), (.string vt), (.string on), (.slice ap ps.length cp), (.int .i64 fu)] #[.slice none 0 0, .int .i64 0, .int .i64 0, .int .i64 0, .string ⟨#[]⟩, .string ⟨#[]⟩, .slice none 0 0, .int .i64 0] rfl w)) ?_
  intro X HX
  have hs0 := HX.out.drew
  refine wp_region_noPanic ?_
  refine wp_region_held_drew (S := fun W => OX 56 [(.slice ac cs.length cc), (.int .i64 st), (.int .i64 vk), (.int .i64 vn), (.string vt), (.string on), (.slice ap ps.length cp), (.int .i64 fu)] w W) (by kernel_rfl) hs0 (fun hHeld => ?_)
  refine wpAnyH_take (i := 0) (oi := Oper.mk (some 3) _ _ _ _ _) (v := ?_) rfl (by kernel_rfl) (by kernel_rfl) (by kernel_rfl) (fun _ _ _ h => h) (Or.inl ⟨by rfl, ?_⟩) (by assumption) ?_
  rotate_left
  · intro w0 hSw
    clear hSw
    go_simp
    all_goals (with_reducible rfl)
  simp only [Act.put, List.setIfInBounds_toArray, List.set_cons_zero, List.set_cons_succ]
  refine wpAnyH_take (i := 1) (oi := Oper.mk (some 4) _ _ _ _ _) (v := ?_) rfl (by kernel_rfl) (by kernel_rfl) (by kernel_rfl) (fun _ _ _ h => h) (Or.inl ⟨by rfl, ?_⟩) (by assumption) ?_
  rotate_left
  · intro w0 hSw
    have z0 := OX.cell hSw 2
    have z1 := OX.cell hSw 3
    have z2 := OX.cell hSw 4
    simp only [List.getElem?_cons_zero, List.getElem?_cons_succ] at z0 z1 z2
    clear hSw
    go_simp
    all_goals (with_reducible rfl)
  simp only [Act.put, List.setIfInBounds_toArray, List.set_cons_zero, List.set_cons_succ]
  refine wpAnyH_take (i := 3) (oi := Oper.mk (some 6) _ _ _ _ _) (v := ?_) rfl (by kernel_rfl) (by kernel_rfl) (by kernel_rfl) (fun _ _ _ h => h) (Or.inl ⟨by rfl, ?_⟩) (by assumption) ?_
  rotate_left
  · intro w0 hSw
    clear hSw
    go_simp
    all_goals (with_reducible rfl)
  simp only [Act.put, List.setIfInBounds_toArray, List.set_cons_zero, List.set_cons_succ]
  refine wpAnyH_take (i := 4) (oi := Oper.mk (some 7) _ _ _ _ _) (v := ?_) rfl (by kernel_rfl) (by kernel_rfl) (by kernel_rfl) (fun _ _ _ h => h) (Or.inl ⟨by rfl, ?_⟩) (by assumption) ?_
  rotate_left
  · intro w0 hSw
    have z0 := OX.cell hSw 5
    simp only [List.getElem?_cons_zero, List.getElem?_cons_succ] at z0
    clear hSw
    go_simp
    all_goals (with_reducible rfl)
  simp only [Act.put, List.setIfInBounds_toArray, List.set_cons_zero, List.set_cons_succ]
  refine wpAnyH_ready (rs := [2]) (by kernel_rfl) (by simp) ?_
  refine AllReadyH.cons (o := Oper.mk (some 5) _ _ _ _ none) rfl (fun K hK => ?_) AllReadyH.nil
  go_simp
  go_at_call 40
  refine (hv.out _).mono ?_
  rintro x0 Y1 ⟨rfl, hB0⟩
  have hY1 := OX.later hHeld hB0
  clear hB0
  go_wp2_with fail
  refine hK.out _ _ hY1 (fun hHeld => ?_)
  clear hK K
  (try simp only [Act.put, List.setIfInBounds_toArray, List.set_cons_zero, List.set_cons_succ])
  refine wpAnyH_take (i := 6) (oi := Oper.mk (some 9) _ _ _ _ _) (v := ?_) rfl (by kernel_rfl) (by kernel_rfl) (by kernel_rfl) (fun _ _ _ h => h) (Or.inl ⟨by rfl, ?_⟩) (by assumption) ?_
  rotate_left
  · intro w0 hSw
    clear hSw
    go_simp
    all_goals (with_reducible rfl)
  simp only [Act.put, List.setIfInBounds_toArray, List.set_cons_zero, List.set_cons_succ]
  refine wpAnyH_ready (rs := [5]) (by kernel_rfl) (by simp) ?_
  refine AllReadyH.cons (o := Oper.mk (some 8) _ _ _ _ none) rfl (fun K hK => ?_) AllReadyH.nil
  go_simp
  go_at_call 41
  refine (hcl.out _).mono ?_
  rintro x0 Y2 ⟨rfl, hB0⟩
  have hY2 := OX.later hY1 hB0
  clear hB0
  go_wp2_with fail
  refine hK.out _ _ hY2 (fun hHeld => ?_)
  clear hK K
  (try simp only [Act.put, List.setIfInBounds_toArray, List.set_cons_zero, List.set_cons_succ])
  have d2 := OX.cell hY2 2
  have d3 := OX.cell hY2 3
  have d4 := OX.cell hY2 4
  have d5 := OX.cell hY2 5
  simp only [List.getElem?_cons_zero, List.getElem?_cons_succ] at d2 d3 d4 d5
  have f2 := OX.free hY2 2
  have f3 := OX.free hY2 3
  have f4 := OX.free hY2 4
  have f5 := OX.free hY2 5
  refine wpAnyH_ready (rs := [7]) (by kernel_rfl) (by simp) ?_
  refine AllReadyH.cons (o := Oper.mk none _ _ _ _ none) rfl (fun K hK => ?_) AllReadyH.nil
  go_simp
  refine hK.out _ _ (OX.set (OX.set (OX.set hY2 rfl) rfl) rfl) (fun hHeld2 => ?_)
  clear hK K
  (try simp only [Act.put, List.setIfInBounds_toArray, List.set_cons_zero, List.set_cons_succ])
  refine wpAnyH_take (i := 8) (oi := Oper.mk (some 10) _ _ _ _ _) (v := ?_) rfl (by kernel_rfl) (by kernel_rfl) (by kernel_rfl) (fun _ _ _ h => h) (Or.inl ⟨by rfl, ?_⟩) (by assumption) ?_
  rotate_left
  · intro w0 hSw
    clear hSw
    go_simp
    all_goals (with_reducible rfl)
  simp only [Act.put, List.setIfInBounds_toArray, List.set_cons_zero, List.set_cons_succ]
  refine wpAnyH_ready (rs := [9]) (by kernel_rfl) (by simp) ?_
  refine AllReadyH.cons (o := Oper.mk none _ _ _ _ none) rfl (fun K hK => ?_) AllReadyH.nil
  go_simp
  refine hK.out _ _ (OX.set hHeld2 rfl) (fun hHeld3 => ?_)
  clear hK K
  (try simp only [Act.put, List.setIfInBounds_toArray, List.set_cons_zero, List.set_cons_succ])
  refine wpAnyH_done (by kernel_rfl) ?_ _
  refine NoPanic.normal ?_
  refine gen_exit (fun X => Hid (OX 56 [(.slice ac cs.length cc), (.int .i64 st), (.int .i64 vk), (.int .i64 vn), (.string vt), (.string on), (.slice ap ps.length cp), (.int .i64 fu)] w X)) hHeld3 ?_
  intro X5 HX5
  clear hHeld hHeld2 hHeld3 hY1 hY2 d2 d3 d4 d5 f2 f3 f4 f5 hcl hv HX hs0
  go_wp2_with fail
  have hO := hide (HX5.out.drew)
  have hlo : w.heap.size + 2 ≤ X5.drew.heap.size := by
    obtain ⟨Z, h1, _⟩ := hO.out.2.1
    have := (Array.getElem?_eq_some_iff.1 h1).1
    omega
  have k0 := OX.cell hO.out 0
  have k6 := OX.cell hO.out 6
  simp only [List.getElem?_cons_zero, List.getElem?_cons_succ] at k0 k6
  have f0 := OX.free hO.out 0
  have f6 := OX.free hO.out 6
  go_region_with (first
    | (go_at_call 42
       refine (hs1.out _ (by first | exact hO.out.2.2 | exact (OX.set (i := 6) hO.out rfl).2.2)).mono ?_
       rintro e1 WA ⟨a1, c1, rfl, hOA, hBA⟩
       have hs9 := hBA.size
       have hlo : w.heap.size + 2 ≤ WA.heap.size := by (try simp only [qset_size] at hs9); omega
       replace hO := hide (OX.later (by first | exact hO.out | exact OX.set (i := 6) hO.out rfl) hBA)
       (try replace hOB := hide (PBlk.go hOB.out (by first | exact .inl rfl | exact .inr ⟨_, _, rfl⟩) (Nat.lt_succ_of_lt (Nat.lt_succ_self _)) (Nat.le_refl _) hBA))
       replace hOA := hide (PBlk.up (lo' := w.heap.size + 2) hOA (by (try simp only [qset_size]); omega) (Nat.le_refl _))
       clear hBA hs9
       have k0 := OX.cell hO.out 0
       have k6 := OX.cell hO.out 6
       simp only [List.getElem?_cons_zero, List.getElem?_cons_succ] at k0 k6
       have f0 := OX.free hO.out 0
       have f6 := OX.free hO.out 6)
    | (go_at_call 44
       refine (hs3.out _ (by first | exact hO.out.2.2 | exact (OX.set (i := 0) hO.out rfl).2.2)).mono ?_
       rintro e1 WB ⟨a3, c3, rfl, hOB, hBB⟩
       have hs9 := hBB.size
       have hlo : w.heap.size + 2 ≤ WB.heap.size := by (try simp only [qset_size] at hs9); omega
       replace hO := hide (OX.later (by first | exact hO.out | exact OX.set (i := 0) hO.out rfl) hBB)
       (try replace hOA := hide (PBlk.go hOA.out (by first | exact .inl rfl | exact .inr ⟨_, _, rfl⟩) (Nat.lt_succ_of_lt (Nat.lt_succ_self _)) (Nat.le_refl _) hBB))
       replace hOB := hide (PBlk.up (lo' := w.heap.size + 2) hOB (by (try simp only [qset_size]); omega) (Nat.le_refl _))
       clear hBB hs9
       have k0 := OX.cell hO.out 0
       have k6 := OX.cell hO.out 6
       simp only [List.getElem?_cons_zero, List.getElem?_cons_succ] at k0 k6
       have f0 := OX.free hO.out 0
       have f6 := OX.free hO.out 6)
)
  all_goals
    refine gen_exit (fun X => Hid (OX 56 [(.slice a1 cs.length c1), (.int .i64 st), (.int .i64 vk), (.int .i64 vn), (.string vt), (.string on), (.slice a3 ps.length c3), (.int .i64 fu)] w X) ∧ Hid (PBlk 86 5 cqL (w.heap.size + 2) X.heap.size X cs (.slice a1 cs.length c1)) ∧ Hid (PBlk 90 4 pqL (w.heap.size + 2) X.heap.size X ps (.slice a3 ps.length c3))) ⟨by first | exact hide (OX.set hO.out rfl) | exact hide (OX.set (OX.set hO.out rfl) rfl), hide (PBlk.end1 hOA.out (by first | exact .inl ⟨_, _, rfl⟩ | exact .inr ⟨_, _, _, _, rfl⟩) (Nat.lt_succ_of_lt (Nat.lt_succ_self _)) (Nat.le_refl _)), hide (PBlk.end1 hOB.out (by first | exact .inl ⟨_, _, rfl⟩ | exact .inr ⟨_, _, _, _, rfl⟩) (Nat.lt_succ_of_lt (Nat.lt_succ_self _)) (Nat.le_refl _))⟩ ?_
    rintro X9 ⟨HO9, HA9, HB9⟩
    clear hO hOA hOB k0 k6 f0 f6 hlo HX5 hs1 hs3
    have q0 := OX.cell HO9.out 0
    have q1 := OX.cell HO9.out 1
    have q2 := OX.cell HO9.out 2
    have q3 := OX.cell HO9.out 3
    have q4 := OX.cell HO9.out 4
    have q5 := OX.cell HO9.out 5
    have q6 := OX.cell HO9.out 6
    have q7 := OX.cell HO9.out 7
    simp only [List.getElem?_cons_zero, List.getElem?_cons_succ] at q0 q1 q2 q3 q4 q5 q6 q7
    obtain ⟨⟨u0, s0⟩, g0⟩ := OX.spot HO9.out (i := 0) (by simp)
    obtain ⟨⟨u1, s1⟩, g1⟩ := OX.spot HO9.out (i := 1) (by simp)
    obtain ⟨⟨u2, s2⟩, g2⟩ := OX.spot HO9.out (i := 2) (by simp)
    obtain ⟨⟨u3, s3⟩, g3⟩ := OX.spot HO9.out (i := 3) (by simp)
    obtain ⟨⟨u4, s4⟩, g4⟩ := OX.spot HO9.out (i := 4) (by simp)
    obtain ⟨⟨u5, s5⟩, g5⟩ := OX.spot HO9.out (i := 5) (by simp)
    obtain ⟨⟨u6, s6⟩, g6⟩ := OX.spot HO9.out (i := 6) (by simp)
    obtain ⟨⟨u7, s7⟩, g7⟩ := OX.spot HO9.out (i := 7) (by simp)
    go_wp2_with fail
    have hd : ((((((((X9.setCell ⟨w.heap.size + 1, 0, none⟩ (.slice a1 cs.length c1)).setCell ⟨w.heap.size + 1, 1, none⟩ (.int .i64 st)).setCell ⟨w.heap.size + 1, 2, none⟩ (.int .i64 vk)).setCell ⟨w.heap.size + 1, 3, none⟩ (.int .i64 vn)).setCell ⟨w.heap.size + 1, 4, none⟩ (.string vt)).setCell ⟨w.heap.size + 1, 5, none⟩ (.string on)).setCell ⟨w.heap.size + 1, 6, none⟩ (.slice a3 ps.length c3)).setCell ⟨w.heap.size + 1, 7, none⟩ (.int .i64 fu)).heap[w.heap.size + 1]? = some (.cells #[(.slice a1 cs.length c1), (.int .i64 st), (.int .i64 vk), (.int .i64 vn), (.string vt), (.string on), (.slice a3 ps.length c3), (.int .i64 fu)] 56 (0, 0)) ∧ Below w.heap.size w ((((((((X9.setCell ⟨w.heap.size + 1, 0, none⟩ (.slice a1 cs.length c1)).setCell ⟨w.heap.size + 1, 1, none⟩ (.int .i64 st)).setCell ⟨w.heap.size + 1, 2, none⟩ (.int .i64 vk)).setCell ⟨w.heap.size + 1, 3, none⟩ (.int .i64 vn)).setCell ⟨w.heap.size + 1, 4, none⟩ (.string vt)).setCell ⟨w.heap.size + 1, 5, none⟩ (.string on)).setCell ⟨w.heap.size + 1, 6, none⟩ (.slice a3 ps.length c3)).setCell ⟨w.heap.size + 1, 7, none⟩ (.int .i64 fu)) := OX.done HO9.out [(.slice a1 cs.length c1), (.int .i64 st), (.int .i64 vk), (.int .i64 vn), (.string vt), (.string on), (.slice a3 ps.length c3), (.int .i64 fu)] rfl _ rfl
    have hM : Mid (w.heap.size + 1) (w.heap.size + 2) X9 ((((((((X9.setCell ⟨w.heap.size + 1, 0, none⟩ (.slice a1 cs.length c1)).setCell ⟨w.heap.size + 1, 1, none⟩ (.int .i64 st)).setCell ⟨w.heap.size + 1, 2, none⟩ (.int .i64 vk)).setCell ⟨w.heap.size + 1, 3, none⟩ (.int .i64 vn)).setCell ⟨w.heap.size + 1, 4, none⟩ (.string vt)).setCell ⟨w.heap.size + 1, 5, none⟩ (.string on)).setCell ⟨w.heap.size + 1, 6, none⟩ (.slice a3 ps.length c3)).setCell ⟨w.heap.size + 1, 7, none⟩ (.int .i64 fu)) := (((((((((Mid.refl (w.heap.size + 1) (w.heap.size + 2) X9).set (Nat.le_refl _) (Nat.lt_succ_self _)).set (Nat.le_refl _) (Nat.lt_succ_self _)).set (Nat.le_refl _) (Nat.lt_succ_self _)).set (Nat.le_refl _) (Nat.lt_succ_self _)).set (Nat.le_refl _) (Nat.lt_succ_self _)).set (Nat.le_refl _) (Nat.lt_succ_self _)).set (Nat.le_refl _) (Nat.lt_succ_self _)).set (Nat.le_refl _) (Nat.lt_succ_self _))
    have hsM := hM.size
    generalize ((((((((X9.setCell ⟨w.heap.size + 1, 0, none⟩ (.slice a1 cs.length c1)).setCell ⟨w.heap.size + 1, 1, none⟩ (.int .i64 st)).setCell ⟨w.heap.size + 1, 2, none⟩ (.int .i64 vk)).setCell ⟨w.heap.size + 1, 3, none⟩ (.int .i64 vn)).setCell ⟨w.heap.size + 1, 4, none⟩ (.string vt)).setCell ⟨w.heap.size + 1, 5, none⟩ (.string on)).setCell ⟨w.heap.size + 1, 6, none⟩ (.slice a3 ps.length c3)).setCell ⟨w.heap.size + 1, 7, none⟩ (.int .i64 fu)) = W9 at *
    have m0 := cell_of_block hd.1 0
    have m1 := cell_of_block hd.1 1
    have m2 := cell_of_block hd.1 2
    have m3 := cell_of_block hd.1 3
    have m4 := cell_of_block hd.1 4
    have m5 := cell_of_block hd.1 5
    have m6 := cell_of_block hd.1 6
    have m7 := cell_of_block hd.1 7
    simp only [List.getElem?_toArray, List.getElem?_cons_zero, List.getElem?_cons_succ] at m0 m1 m2 m3 m4 m5 m6 m7
    refine bodyPost_ret (v := otV ⟨run, many, cs, st, vk, vn, vt, on, ps, fu⟩ (.slice a1 cs.length c1) (.slice a3 ps.length c3)) (by simp [results, Try.results31, go_sem, m0, m1, m2, m3, m4, m5, m6, m7]) rfl ?_
    exact ⟨_, _, rfl, ⟨((HA9.out.up (Nat.le_refl _) hsM).mid hM (.inr (Nat.le_refl _))).up (by omega) (Nat.le_refl _), ((HB9.out.up (Nat.le_refl _) hsM).mid hM (.inr (Nat.le_refl _))).up (by omega) (Nat.le_refl _)⟩, hd.2⟩
end Go.Proofs.Ythkklmfjdjiafaa

/- Items of a cache, copied by the laws. -/
import Derived.Test.YthkklmfjdjiafaaCaI
namespace Go.Proofs.Ythkklmfjdjiafaa
open Go.RowKit
set_option linter.unusedVariables false
set_option linter.unusedSimpArgs false
theorem toCmS_out (l : List Cm) (hN : l.length ≤ 1048576) (v : Value) (w : World) (hr : PRow 5 cqL w.heap.size w l v) :
    Calls Try.prog 50 #[v] w fun x w' => ∃ a c, x = .returned (.slice a l.length c) ∧ PBlk 86 5 cqL w.heap.size w'.heap.size w' l (.slice a l.length c) ∧ Below w.heap.size w w' := by
  refine (toCmS_any l hN v w hr).mono ?_
  rintro e w' ⟨rfl, hT⟩
  exact ⟨_, _, rfl, hT.done hN, hT.2⟩
theorem toPqS_out (l : List Pq) (hN : l.length ≤ 1048576) (v : Value) (w : World) (hr : PRow 4 pqL w.heap.size w l v) :
    Calls Try.prog 52 #[v] w fun x w' => ∃ a c, x = .returned (.slice a l.length c) ∧ PBlk 90 4 pqL w.heap.size w'.heap.size w' l (.slice a l.length c) ∧ Below w.heap.size w w' := by
  refine (toPqS_any l hN v w hr).mono ?_
  rintro e w' ⟨rfl, hT⟩
  exact ⟨_, _, rfl, hT.done hN, hT.2⟩
theorem three_q {w w1 : World} {A B C : Obj} (hb : Below (((w.alloc A).alloc B).alloc C).heap.size (((w.alloc A).alloc B).alloc C) w1) :
    w1.heap[w.heap.size]? = some A ∧ w1.heap[w.heap.size + 1]? = some B ∧ w1.heap[w.heap.size + 2]? = some C ∧ w.heap.size + 3 ≤ w1.heap.size ∧ Below w.heap.size w w1 := by
  obtain ⟨h1, h2, h3, h4, h5⟩ := boxes3 hb
  exact ⟨h1, h2, h3, by omega, h5⟩
theorem three_low (w : World) (A B C : Obj) : Below w.heap.size w (((w.alloc A).alloc B).alloc C) ∧ (((w.alloc A).alloc B).alloc C).heap.size = w.heap.size + 3 :=
  ⟨(((Below.refl _ _).alloc (Nat.le_refl _) A).alloc (by simp) B).alloc (by simp; omega) C, by simp⟩
/-- an item's two rows, each in a block of its own within these bounds -/
def Own2 (lo hi : Nat) (w : World) (it : It) (vc vp : Value) : Prop := PBlk 86 5 cqL lo hi w it.cs vc ∧ PBlk 90 4 pqL lo hi w it.ps vp
theorem Own2.two {lo hi : Nat} {w : World} {it : It} {vc vp : Value} (h : Own2 lo hi w it vc vp) : Two hi w it vc vp := ⟨h.1.row, h.2.row⟩
theorem Own2.later {lo hi : Nat} {w w1 : World} {it : It} {vc vp : Value} (h : Own2 lo hi w it vc vp) (hB : Below hi w w1) : Own2 lo hi w1 it vc vp := ⟨h.1.later hB, h.2.later hB⟩
theorem Own2.up {lo hi lo' hi' : Nat} {w : World} {it : It} {vc vp : Value} (h : Own2 lo hi w it vc vp) (h1 : lo' ≤ lo) (h2 : hi ≤ hi') : Own2 lo' hi' w it vc vp := ⟨h.1.up h1 h2, h.2.up h1 h2⟩
theorem Own2.mid {lo hi lo' hi' : Nat} {w w1 : World} {it : It} {vc vp : Value} (h : Own2 lo hi w it vc vp) (hB : Mid lo' hi' w w1) (ho : hi ≤ lo' ∨ hi' ≤ lo) : Own2 lo hi w1 it vc vp := ⟨h.1.mid hB ho, h.2.mid hB ho⟩
theorem set_mid {lo hi : Nat} (W : World) {b i : Nat} {v : Value} (h1 : lo ≤ b) (h2 : b < hi) : Mid lo hi W (W.setCell ⟨b, i, none⟩ v) := (Mid.refl lo hi W).set h1 h2
theorem qset_other {X : World} {b c i : Nat} {v : Value} {o : Obj} (h : X.heap[c]? = some o) (hne : b ≠ c) : (X.setCell ⟨b, i, none⟩ v).heap[c]? = some o := (Below.heap_setCell _ _ _ _ (by simp only; exact fun e => hne e.symm)).trans h
theorem qset_size (X : World) (b i : Nat) (v : Value) : (X.setCell ⟨b, i, none⟩ v).heap.size = X.heap.size := by simp [World.setCell]
theorem two_form {hi : Nat} {w : World} {it : It} {vc vp : Value} (h : Two hi w it vc vp) : (∃ a c, vc = .slice a it.cs.length c) ∧ ∃ a c, vp = .slice a it.ps.length c := by
  obtain ⟨⟨ac, cc, hvc, _⟩, ⟨ap, cp, hvp, _⟩⟩ := h
  exact ⟨⟨_, _, hvc⟩, ⟨_, _, hvp⟩⟩
theorem own2_form {lo hi : Nat} {w : World} {it : It} {vc vp : Value} (h : Own2 lo hi w it vc vp) : (∃ a c, vc = .slice a it.cs.length c) ∧ ∃ a c, vp = .slice a it.ps.length c := two_form h.two
set_option maxRecDepth 100000 in
set_option maxHeartbeats 6400000 in
theorem toOut_any (it : It) (hc0 : it.cs.length ≤ 1048576) (hp0 : it.ps.length ≤ 1048576) (vc vp : Value) (w : World) (ht : Two w.heap.size w it vc vp) :
    Calls Try.prog 39 #[otV it vc vp] w fun x w' => ∃ vc' vp', x = .returned (otV it vc' vp') ∧ Own2 w.heap.size w'.heap.size w' it vc' vp' ∧ Below w.heap.size w w' := by
  obtain ⟨hc, hp⟩ := ht
  obtain ⟨ac, cc, hvc, _⟩ := id hc
  obtain ⟨ap, cp, hvp, _⟩ := id hp
  subst hvc hvp
  have hs1 := hide (fun W (hW : Below w.heap.size w W) => toCmS_out it.cs hc0 _ W ((hc.later hW).up hW.size))
  have hs2 := hide (toValue_any it.vk it.vn it.vt)
  have hs3 := hide (fun W (hW : Below w.heap.size w W) => toPqS_out it.ps hp0 _ W ((hp.later hW).up hW.size))
  clear hc hp
  go_enter Try.func39, Try.ntmps39
  go_wp2_with fail
  refine (hs1.out _ (three_low w _ _ _).1).mono ?_
  rintro e1 w1 ⟨a1, c1, rfl, hO1, hB1⟩
  obtain ⟨bx, br, bl, hsz, hB⟩ := three_q hB1
  have hlo : (((w.alloc (.cells #[(.slice ac it.cs.length cc), (.int .i64 it.st), (.int .i64 it.vk), (.int .i64 it.vn), (.string it.vt), (.string it.on), (.slice ap it.ps.length cp), (.int .i64 it.fu)] 71)).alloc (.cells #[.slice none 0 0, .int .i64 0, .int .i64 0, .int .i64 0, .string ⟨#[]⟩, .string ⟨#[]⟩, .slice none 0 0, .int .i64 0] 56)).alloc (.cells #[.slice none 0 0, .int .i64 0, .int .i64 0, .int .i64 0, .string ⟨#[]⟩, .string ⟨#[]⟩, .slice none 0 0, .int .i64 0] 56)).heap.size = w.heap.size + 3 := (three_low w _ _ _).2
  rw [hlo] at hO1
  have HO1 := hide hO1
  have HX1 := hide bx
  have HR1 := hide br
  have HL1 := hide bl
  have HB1 := hide hB
  have x1 := cell_of_block bx 1
  have x2 := cell_of_block bx 2
  have x3 := cell_of_block bx 3
  have x4 := cell_of_block bx 4
  simp only [List.getElem?_toArray, List.getElem?_cons_zero, List.getElem?_cons_succ] at x1 x2 x3 x4
  have l0 := cell_of_block bl 0
  have l1 := cell_of_block bl 1
  simp only [List.getElem?_toArray, List.getElem?_cons_zero, List.getElem?_cons_succ] at l0 l1
  have f0 := free_of_block bl 0
  have f1 := free_of_block bl 1
  clear hB1 bx br bl hB hs1 hO1 hlo
  go_wp2_with fail
  refine (hs2.out _).mono ?_
  rintro e2 w2 ⟨rfl, hB2⟩
  have hsz2 : w1.heap.size ≤ w2.heap.size := by have := hB2.size; simpa only [qset_size] using this
  have hM2 : Mid (w.heap.size + 2) (w.heap.size + 3) w1 w2 := ((set_mid w1 (by omega) (by omega)).trans (set_mid _ (by omega) (by omega))).trans (Mid.of_below hB2)
  have bl2 := (hB2.block (w.heap.size + 2) (by simp only [qset_size]; omega)).trans (block_set (block_set HL1.out 0 (.slice a1 it.cs.length c1)) 1 (.int .i64 it.st))
  simp only [List.setIfInBounds_toArray, List.set_cons_zero, List.set_cons_succ] at bl2
  have HL2 := hide bl2
  have HX2 := hide ((hM2.block _ (by omega) (by omega)).trans HX1.out)
  have HR2 := hide ((hM2.block _ (by omega) (by omega)).trans HR1.out)
  have HO2 := hide ((HO1.out.up (Nat.le_refl _) hsz2).mid hM2 (.inr (Nat.le_refl _)))
  have HB2 := hide (HB1.out.trans ((hM2.below (by omega)).mono (by omega)))
  clear x1 x2 x3 x4 l0 l1 f0 f1 HX1 HR1 HL1 HO1 HB1 hM2 hB2
  have x5 := cell_of_block HX2.out 5
  have x6 := cell_of_block HX2.out 6
  simp only [List.getElem?_toArray, List.getElem?_cons_zero, List.getElem?_cons_succ] at x5 x6
  have l2 := cell_of_block bl2 2
  have l3 := cell_of_block bl2 3
  have l4 := cell_of_block bl2 4
  have l5 := cell_of_block bl2 5
  simp only [List.getElem?_toArray, List.getElem?_cons_zero, List.getElem?_cons_succ] at l2 l3 l4 l5
  have f2 := free_of_block bl2 2
  have f3 := free_of_block bl2 3
  have f4 := free_of_block bl2 4
  have f5 := free_of_block bl2 5
  clear bl2
  have hB2c : Hid (Below w.heap.size w (((((w2.setCell ⟨w.heap.size + 1 + 1, 2, none⟩ (.int .i64 it.vk)).setCell ⟨w.heap.size + 1 + 1, 3, none⟩ (.int .i64 it.vn)).setCell ⟨w.heap.size + 1 + 1, 4, none⟩ (.string it.vt)).setCell ⟨w.heap.size + 1 + 1, 5, none⟩ (.string it.on)))) := hide ((((HB2.out.setCell (by show w.heap.size ≤ w.heap.size + 1 + 1; omega) _).setCell (by show w.heap.size ≤ w.heap.size + 1 + 1; omega) _).setCell (by show w.heap.size ≤ w.heap.size + 1 + 1; omega) _).setCell (by show w.heap.size ≤ w.heap.size + 1 + 1; omega) _)
  go_wp2_with fail
  refine (hs3.out _ hB2c.out).mono ?_
  rintro e3 w3 ⟨a3, c3, rfl, hO3, hB3⟩
  have hM3 : Mid (w.heap.size + 2) (w.heap.size + 3) w2 w3 := ((((set_mid w2 (by omega) (by omega)).trans (set_mid _ (by omega) (by omega))).trans (set_mid _ (by omega) (by omega))).trans (set_mid _ (by omega) (by omega))).trans (Mid.of_below hB3)
  have hsz3 : w2.heap.size ≤ w3.heap.size := hM3.size
  have bl3 := (hB3.block (w.heap.size + 2) (by simp only [qset_size]; omega)).trans (block_set (block_set (block_set (block_set HL2.out 2 (.int .i64 it.vk)) 3 (.int .i64 it.vn)) 4 (.string it.vt)) 5 (.string it.on))
  simp only [List.setIfInBounds_toArray, List.set_cons_zero, List.set_cons_succ] at bl3
  have HX3 := hide ((hM3.block _ (by omega) (by omega)).trans HX2.out)
  have HR3 := hide ((hM3.block _ (by omega) (by omega)).trans HR2.out)
  have HO3 := hide ((HO2.out.up (Nat.le_refl _) hsz3).mid hM3 (.inr (Nat.le_refl _)))
  have HP3 := hide (hO3.up (lo' := w.heap.size + 3) (by simp only [qset_size]; omega) (Nat.le_refl _))
  have HB3 := hide (HB2.out.trans ((hM3.below (by omega)).mono (by omega)))
  have HL3 := hide bl3
  clear x5 x6 l2 l3 l4 l5 f2 f3 f4 f5 HX2 HR2 HL2 HO2 HB2 hM3 hB3 hO3 hB2c
  have x7 := cell_of_block HX3.out 7
  simp only [List.getElem?_toArray, List.getElem?_cons_zero, List.getElem?_cons_succ] at x7
  have l0 := cell_of_block bl3 0
  have l1 := cell_of_block bl3 1
  have l2 := cell_of_block bl3 2
  have l3 := cell_of_block bl3 3
  have l4 := cell_of_block bl3 4
  have l5 := cell_of_block bl3 5
  have l6 := cell_of_block bl3 6
  have l7 := cell_of_block bl3 7
  simp only [List.getElem?_toArray, List.getElem?_cons_zero, List.getElem?_cons_succ] at l0 l1 l2 l3 l4 l5 l6 l7
  have f6 := free_of_block bl3 6
  have f7 := free_of_block bl3 7
  have r0 := cell_of_block HR3.out 0
  have r1 := cell_of_block HR3.out 1
  have r2 := cell_of_block HR3.out 2
  have r3 := cell_of_block HR3.out 3
  have r4 := cell_of_block HR3.out 4
  have r5 := cell_of_block HR3.out 5
  have r6 := cell_of_block HR3.out 6
  have r7 := cell_of_block HR3.out 7
  simp only [List.getElem?_toArray, List.getElem?_cons_zero, List.getElem?_cons_succ] at r0 r1 r2 r3 r4 r5 r6 r7
  have g0 := free_of_block HR3.out 0
  have g1 := free_of_block HR3.out 1
  have g2 := free_of_block HR3.out 2
  have g3 := free_of_block HR3.out 3
  have g4 := free_of_block HR3.out 4
  have g5 := free_of_block HR3.out 5
  have g6 := free_of_block HR3.out 6
  have g7 := free_of_block HR3.out 7
  clear bl3
  go_wp2
  have hbr : (((w3.setCell ⟨w.heap.size + 1 + 1, 6, none⟩ (.slice a3 it.ps.length c3)).setCell ⟨w.heap.size + 1 + 1, 7, none⟩ (.int .i64 it.fu))).heap[w.heap.size + 1]? = some (.cells #[.slice none 0 0, .int .i64 0, .int .i64 0, .int .i64 0, .string ⟨#[]⟩, .string ⟨#[]⟩, .slice none 0 0, .int .i64 0] 56 (0, 0)) := qset_other (qset_other HR3.out (by omega)) (by omega)
  have hbk := (block_set (block_set (block_set (block_set (block_set (block_set (block_set (block_set hbr 0 (.slice a1 it.cs.length c1)) 1 (.int .i64 it.st)) 2 (.int .i64 it.vk)) 3 (.int .i64 it.vn)) 4 (.string it.vt)) 5 (.string it.on)) 6 (.slice a3 it.ps.length c3)) 7 (.int .i64 it.fu))
  simp only [List.setIfInBounds_toArray, List.set_cons_zero, List.set_cons_succ] at hbk
  have hMF : Mid (w.heap.size + 1) (w.heap.size + 3) w3 ((((((((((w3.setCell ⟨w.heap.size + 1 + 1, 6, none⟩ (.slice a3 it.ps.length c3)).setCell ⟨w.heap.size + 1 + 1, 7, none⟩ (.int .i64 it.fu)).setCell ⟨w.heap.size + 1, 0, none⟩ (.slice a1 it.cs.length c1)).setCell ⟨w.heap.size + 1, 1, none⟩ (.int .i64 it.st)).setCell ⟨w.heap.size + 1, 2, none⟩ (.int .i64 it.vk)).setCell ⟨w.heap.size + 1, 3, none⟩ (.int .i64 it.vn)).setCell ⟨w.heap.size + 1, 4, none⟩ (.string it.vt)).setCell ⟨w.heap.size + 1, 5, none⟩ (.string it.on)).setCell ⟨w.heap.size + 1, 6, none⟩ (.slice a3 it.ps.length c3)).setCell ⟨w.heap.size + 1, 7, none⟩ (.int .i64 it.fu)) := (((((((((((Mid.refl (w.heap.size + 1) (w.heap.size + 3) w3).set (by omega) (by omega)).set (by omega) (by omega)).set (by omega) (by omega)).set (by omega) (by omega)).set (by omega) (by omega)).set (by omega) (by omega)).set (by omega) (by omega)).set (by omega) (by omega)).set (by omega) (by omega)).set (by omega) (by omega))
  have hsF := hMF.size
  generalize ((((((((((w3.setCell ⟨w.heap.size + 1 + 1, 6, none⟩ (.slice a3 it.ps.length c3)).setCell ⟨w.heap.size + 1 + 1, 7, none⟩ (.int .i64 it.fu)).setCell ⟨w.heap.size + 1, 0, none⟩ (.slice a1 it.cs.length c1)).setCell ⟨w.heap.size + 1, 1, none⟩ (.int .i64 it.st)).setCell ⟨w.heap.size + 1, 2, none⟩ (.int .i64 it.vk)).setCell ⟨w.heap.size + 1, 3, none⟩ (.int .i64 it.vn)).setCell ⟨w.heap.size + 1, 4, none⟩ (.string it.vt)).setCell ⟨w.heap.size + 1, 5, none⟩ (.string it.on)).setCell ⟨w.heap.size + 1, 6, none⟩ (.slice a3 it.ps.length c3)).setCell ⟨w.heap.size + 1, 7, none⟩ (.int .i64 it.fu)) = WF at *
  have m0 := cell_of_block hbk 0
  have m1 := cell_of_block hbk 1
  have m2 := cell_of_block hbk 2
  have m3 := cell_of_block hbk 3
  have m4 := cell_of_block hbk 4
  have m5 := cell_of_block hbk 5
  have m6 := cell_of_block hbk 6
  have m7 := cell_of_block hbk 7
  simp only [List.getElem?_toArray, List.getElem?_cons_zero, List.getElem?_cons_succ] at m0 m1 m2 m3 m4 m5 m6 m7
  refine bodyPost_ret (v := otV it (.slice a1 it.cs.length c1) (.slice a3 it.ps.length c3)) (by simp [results, Try.results39, go_sem, m0, m1, m2, m3, m4, m5, m6, m7]) rfl ?_
  exact ⟨_, _, rfl, ⟨((HO3.out.up (Nat.le_refl _) hsF).mid hMF (.inr (Nat.le_refl _))).up (by omega) (Nat.le_refl _), ((HP3.out.up (Nat.le_refl _) hsF).mid hMF (.inr (Nat.le_refl _))).up (by omega) (Nat.le_refl _)⟩, HB3.out.trans ((hMF.below (by omega)).mono (by omega))⟩
set_option maxRecDepth 100000 in
set_option maxHeartbeats 6400000 in
theorem toItem_any (it : It) (hc0 : it.cs.length ≤ 1048576) (hp0 : it.ps.length ≤ 1048576) (vc vp : Value) (w : World) (ht : Two w.heap.size w it vc vp) :
    Calls Try.prog 30 #[itV it vc vp] w fun x w' => ∃ vc' vp', x = .returned (itV it vc' vp') ∧ Own2 w.heap.size w'.heap.size w' it vc' vp' ∧ Below w.heap.size w w' := by
  have hs1 := hide (fun W (hW : Below w.heap.size w W) => toOut_any it hc0 hp0 vc vp W ((ht.later hW).up hW.size))
  obtain ⟨⟨ac, cc, hvc⟩, ⟨ap, cp, hvp⟩⟩ := two_form ht
  subst hvc hvp
  clear ht
  have hB0 : ∀ A B C, Hid (Below w.heap.size w (((((w.alloc A).alloc B).alloc C).setCell ⟨w.heap.size + 1 + 1, 0, none⟩ (.int .i64 it.run)).setCell ⟨w.heap.size + 1 + 1, 1, none⟩ (.int .i64 it.many))) := fun A B C => hide (((three_low w A B C).1.setCell (by show w.heap.size ≤ w.heap.size + 1 + 1; omega) _).setCell (by show w.heap.size ≤ w.heap.size + 1 + 1; omega) _)
  go_enter Try.func30, Try.ntmps30
  go_wp2_with fail
  refine (hs1.out _ (by first | exact (three_low w _ _ _).1 | exact (hB0 _ _ _).out)).mono ?_
  rintro e1 w1 ⟨v1, v3, rfl, hO1, hB1⟩
  obtain ⟨⟨a1, c1, hv1⟩, ⟨a3, c3, hv3⟩⟩ := own2_form hO1
  subst hv1 hv3
  obtain ⟨bx, br, bl, hsz, hB⟩ := three_q hB1
  have HO1 := hide (hO1.up (lo' := w.heap.size + 3) (by rw [(three_low w _ _ _).2]; omega) (Nat.le_refl _))
  have HR1 := hide br
  have HL1 := hide bl
  have HB1 := hide hB
  have l0 := cell_of_block bl 0
  have l1 := cell_of_block bl 1
  have l2 := cell_of_block bl 2
  have l3 := cell_of_block bl 3
  have l4 := cell_of_block bl 4
  have l5 := cell_of_block bl 5
  have l6 := cell_of_block bl 6
  have l7 := cell_of_block bl 7
  have l8 := cell_of_block bl 8
  have l9 := cell_of_block bl 9
  simp only [List.getElem?_toArray, List.getElem?_cons_zero, List.getElem?_cons_succ] at l0 l1 l2 l3 l4 l5 l6 l7 l8 l9
  have f2 := free_of_block bl 2
  have f3 := free_of_block bl 3
  have f4 := free_of_block bl 4
  have f5 := free_of_block bl 5
  have f6 := free_of_block bl 6
  have f7 := free_of_block bl 7
  have f8 := free_of_block bl 8
  have f9 := free_of_block bl 9
  have r0 := cell_of_block br 0
  have r1 := cell_of_block br 1
  have r2 := cell_of_block br 2
  have r3 := cell_of_block br 3
  have r4 := cell_of_block br 4
  have r5 := cell_of_block br 5
  have r6 := cell_of_block br 6
  have r7 := cell_of_block br 7
  have r8 := cell_of_block br 8
  have r9 := cell_of_block br 9
  simp only [List.getElem?_toArray, List.getElem?_cons_zero, List.getElem?_cons_succ] at r0 r1 r2 r3 r4 r5 r6 r7 r8 r9
  have g0 := free_of_block br 0
  have g1 := free_of_block br 1
  have g2 := free_of_block br 2
  have g3 := free_of_block br 3
  have g4 := free_of_block br 4
  have g5 := free_of_block br 5
  have g6 := free_of_block br 6
  have g7 := free_of_block br 7
  have g8 := free_of_block br 8
  have g9 := free_of_block br 9
  clear hB1 bx br bl hB hs1 hO1 hB0
  go_wp2
  have hbr : (((((((((w1.setCell ⟨w.heap.size + 1 + 1, 2, none⟩ (.slice a1 it.cs.length c1)).setCell ⟨w.heap.size + 1 + 1, 3, none⟩ (.int .i64 it.st)).setCell ⟨w.heap.size + 1 + 1, 4, none⟩ (.int .i64 it.vk)).setCell ⟨w.heap.size + 1 + 1, 5, none⟩ (.int .i64 it.vn)).setCell ⟨w.heap.size + 1 + 1, 6, none⟩ (.string it.vt)).setCell ⟨w.heap.size + 1 + 1, 7, none⟩ (.string it.on)).setCell ⟨w.heap.size + 1 + 1, 8, none⟩ (.slice a3 it.ps.length c3)).setCell ⟨w.heap.size + 1 + 1, 9, none⟩ (.int .i64 it.fu))).heap[w.heap.size + 1]? = some (.cells #[.int .i64 0, .int .i64 0, .slice none 0 0, .int .i64 0, .int .i64 0, .int .i64 0, .string ⟨#[]⟩, .string ⟨#[]⟩, .slice none 0 0, .int .i64 0] 58 (0, 0)) := (qset_other (qset_other (qset_other (qset_other (qset_other (qset_other (qset_other (qset_other HR1.out (by omega)) (by omega)) (by omega)) (by omega)) (by omega)) (by omega)) (by omega)) (by omega))
  have hbk := (block_set (block_set (block_set (block_set (block_set (block_set (block_set (block_set (block_set (block_set hbr 0 (.int .i64 it.run)) 1 (.int .i64 it.many)) 2 (.slice a1 it.cs.length c1)) 3 (.int .i64 it.st)) 4 (.int .i64 it.vk)) 5 (.int .i64 it.vn)) 6 (.string it.vt)) 7 (.string it.on)) 8 (.slice a3 it.ps.length c3)) 9 (.int .i64 it.fu))
  simp only [List.setIfInBounds_toArray, List.set_cons_zero, List.set_cons_succ] at hbk
  have hMF : Mid (w.heap.size + 1) (w.heap.size + 3) w1 ((((((((((((((((((w1.setCell ⟨w.heap.size + 1 + 1, 2, none⟩ (.slice a1 it.cs.length c1)).setCell ⟨w.heap.size + 1 + 1, 3, none⟩ (.int .i64 it.st)).setCell ⟨w.heap.size + 1 + 1, 4, none⟩ (.int .i64 it.vk)).setCell ⟨w.heap.size + 1 + 1, 5, none⟩ (.int .i64 it.vn)).setCell ⟨w.heap.size + 1 + 1, 6, none⟩ (.string it.vt)).setCell ⟨w.heap.size + 1 + 1, 7, none⟩ (.string it.on)).setCell ⟨w.heap.size + 1 + 1, 8, none⟩ (.slice a3 it.ps.length c3)).setCell ⟨w.heap.size + 1 + 1, 9, none⟩ (.int .i64 it.fu)).setCell ⟨w.heap.size + 1, 0, none⟩ (.int .i64 it.run)).setCell ⟨w.heap.size + 1, 1, none⟩ (.int .i64 it.many)).setCell ⟨w.heap.size + 1, 2, none⟩ (.slice a1 it.cs.length c1)).setCell ⟨w.heap.size + 1, 3, none⟩ (.int .i64 it.st)).setCell ⟨w.heap.size + 1, 4, none⟩ (.int .i64 it.vk)).setCell ⟨w.heap.size + 1, 5, none⟩ (.int .i64 it.vn)).setCell ⟨w.heap.size + 1, 6, none⟩ (.string it.vt)).setCell ⟨w.heap.size + 1, 7, none⟩ (.string it.on)).setCell ⟨w.heap.size + 1, 8, none⟩ (.slice a3 it.ps.length c3)).setCell ⟨w.heap.size + 1, 9, none⟩ (.int .i64 it.fu)) := (((((((((((((((((((Mid.refl (w.heap.size + 1) (w.heap.size + 3) w1).set (by omega) (by omega)).set (by omega) (by omega)).set (by omega) (by omega)).set (by omega) (by omega)).set (by omega) (by omega)).set (by omega) (by omega)).set (by omega) (by omega)).set (by omega) (by omega)).set (by omega) (by omega)).set (by omega) (by omega)).set (by omega) (by omega)).set (by omega) (by omega)).set (by omega) (by omega)).set (by omega) (by omega)).set (by omega) (by omega)).set (by omega) (by omega)).set (by omega) (by omega)).set (by omega) (by omega))
  have hsF := hMF.size
  generalize ((((((((((((((((((w1.setCell ⟨w.heap.size + 1 + 1, 2, none⟩ (.slice a1 it.cs.length c1)).setCell ⟨w.heap.size + 1 + 1, 3, none⟩ (.int .i64 it.st)).setCell ⟨w.heap.size + 1 + 1, 4, none⟩ (.int .i64 it.vk)).setCell ⟨w.heap.size + 1 + 1, 5, none⟩ (.int .i64 it.vn)).setCell ⟨w.heap.size + 1 + 1, 6, none⟩ (.string it.vt)).setCell ⟨w.heap.size + 1 + 1, 7, none⟩ (.string it.on)).setCell ⟨w.heap.size + 1 + 1, 8, none⟩ (.slice a3 it.ps.length c3)).setCell ⟨w.heap.size + 1 + 1, 9, none⟩ (.int .i64 it.fu)).setCell ⟨w.heap.size + 1, 0, none⟩ (.int .i64 it.run)).setCell ⟨w.heap.size + 1, 1, none⟩ (.int .i64 it.many)).setCell ⟨w.heap.size + 1, 2, none⟩ (.slice a1 it.cs.length c1)).setCell ⟨w.heap.size + 1, 3, none⟩ (.int .i64 it.st)).setCell ⟨w.heap.size + 1, 4, none⟩ (.int .i64 it.vk)).setCell ⟨w.heap.size + 1, 5, none⟩ (.int .i64 it.vn)).setCell ⟨w.heap.size + 1, 6, none⟩ (.string it.vt)).setCell ⟨w.heap.size + 1, 7, none⟩ (.string it.on)).setCell ⟨w.heap.size + 1, 8, none⟩ (.slice a3 it.ps.length c3)).setCell ⟨w.heap.size + 1, 9, none⟩ (.int .i64 it.fu)) = WF at *
  have m0 := cell_of_block hbk 0
  have m1 := cell_of_block hbk 1
  have m2 := cell_of_block hbk 2
  have m3 := cell_of_block hbk 3
  have m4 := cell_of_block hbk 4
  have m5 := cell_of_block hbk 5
  have m6 := cell_of_block hbk 6
  have m7 := cell_of_block hbk 7
  have m8 := cell_of_block hbk 8
  have m9 := cell_of_block hbk 9
  simp only [List.getElem?_toArray, List.getElem?_cons_zero, List.getElem?_cons_succ] at m0 m1 m2 m3 m4 m5 m6 m7 m8 m9
  refine bodyPost_ret (v := itV it (.slice a1 it.cs.length c1) (.slice a3 it.ps.length c3)) (by simp [results, Try.results30, go_sem, m0, m1, m2, m3, m4, m5, m6, m7, m8, m9]) rfl ?_
  exact ⟨_, _, rfl, ((HO1.out.up (Nat.le_refl _) hsF).mid hMF (.inr (Nat.le_refl _))).up (by omega) (Nat.le_refl _), HB1.out.trans ((hMF.below (by omega)).mono (by omega))⟩
end Go.Proofs.Ythkklmfjdjiafaa

/- A cache without a run, as the specification has it. -/
import Derived.Test.YthkklmfjdjiafaaCaS
namespace Go.Proofs.Ythkklmfjdjiafaa
open Go.RowKit
set_option linter.unusedVariables false
set_option linter.unusedSimpArgs false
theorem wp_app_iq {ops : Array Oper} {rest : List Oper} {o : Oper} {a : Act} {W : World} {Q : Exit → Act → World → Prop} (hgd : o.guard = none) (s x : Operand)
    (ho : o.op = .call { callee := .builtin .append, args := #[s, x], argTypes := #[31, 31] }) (hty : o.type = 31) (base : Nat) (A : List (It × Value × Value)) (it : It) (a1 a3 : Option Addr) (n1 c1 n3 c3 : Nat) (v : Value) (ad : Addr) (c : Nat) (hs : a.eval s = v) (hx : a.eval x = .slice (some ad) 1 c)
    (hv : W.ownsRow base 58 10 v A.length (A.flatMap iqL)) (hu : ∀ j u, (itL it (.slice a1 n1 c1) (.slice a3 n3 c3))[j]? = some u → W.cell? (ad.add j) = some u) (hn : A.length + 1 ≤ 4194304) (hb : base ≤ W.heap.size)
    (h : ∀ v' w2, w2.ownsRow base 58 10 v' (A ++ [(it, (.slice a1 n1 c1 : Value), (.slice a3 n3 c3 : Value))]).length ((A ++ [(it, (.slice a1 n1 c1 : Value), (.slice a3 n3 c3 : Value))]).flatMap iqL) → W.grownBy w2 v.ownBlock → wpList Try.prog ops Q rest (a.put o.dst v') w2) : wpList Try.prog ops Q (o :: rest) a W := by
  refine wpList_plain hgd fun K hK => ?_
  obtain ⟨v', w2, hrun, h1, h2⟩ := app_iq it a1 a3 n1 c1 n3 c3 hv ad c hu hn hb
  unfold Oper.wp
  simp [execOp, ho, resolve, invoke, builtin, hs, hx, hty, hrun, Result.andThen]
  exact hK _ _ (h _ _ h1 h2)
set_option maxRecDepth 100000 in
set_option maxHeartbeats 6400000 in
theorem l10Drop_any (l : List It) (r : Int) (hN : l.length + itX l ≤ 1048576) (v : Value) (w : World) (hr : IRow w.heap.size w l v) :
    Calls Try.prog 22 #[caV v, .int .i64 r] w fun x w' => (∃ a c, x = .returned (caV (.slice a (Pl.dropR r l).length c)) ∧ IBlk w.heap.size w'.heap.size w' (Pl.dropR r l) (.slice a (Pl.dropR r l).length c)) ∧ Below w.heap.size w w' := by
  have HN2 : Hid (∀ (i : Nat) (it : It), l[i]? = some it → it.cs.length ≤ 1048576 ∧ it.ps.length ≤ 1048576) := fun i it he => by
    have h1 := itX_next he
    have h2 : itX l = itX (l.take (i + 1)) + itX (l.drop (i + 1)) := by rw [← itX_app, List.take_append_drop]
    omega
  obtain ⟨ad, cap, rfl, hc, hmx, hx⟩ := hr
  unfold maxLen at hmx
  have HX := hide hx
  clear hx
  go_enter Try.func22, Try.ntmps22
  go_wp2_with fail
  go_loopw [6] (fun iv wr => ∃ (i : Nat) (L : List (It × Value × Value)) (v : Value), i ≤ l.length ∧ iv = .int .i64 i ∧ Hid (L.map (·.1) = Pl.dropR r (l.take i)) ∧ Hid (Boxed wr (w.heap.size + 2) 33 v) ∧ Hid (Boxed wr (w.heap.size + 1) 33 (.slice none 0 0)) ∧ Hid (Boxed wr w.heap.size 33 (.slice ad l.length cap)) ∧ Hid (IOw w.heap.size wr L v) ∧ Hid (Below w.heap.size w wr)) (fun iv _ => l.length - (intOf iv).toNat)
  case atStart =>
    have h3 := three_low w (.cells #[.slice ad l.length cap] 33) (.cells #[.slice none 0 0] 33) (.cells #[.slice none 0 0] 33)
    refine ⟨0, [], .slice none 0 0, by omega, rfl, hide rfl, ?_, ?_, ?_, hide (IOw.none _ _ (by rw [h3.2]; omega)), hide h3.1⟩
    · have := Boxed.new ((w.alloc (.cells #[.slice ad l.length cap] 33)).alloc (.cells #[.slice none 0 0] 33)) 33 (.slice none 0 0)
      rw [World.size_alloc, World.size_alloc] at this
      exact this
    · have := Boxed.new (w.alloc (.cells #[.slice ad l.length cap] 33)) 33 (.slice none 0 0)
      rw [World.size_alloc] at this
      exact this.alloc _
    · exact ((Boxed.new w 33 (.slice ad l.length cap)).alloc _).alloc _
  case round =>
    obtain ⟨i, L, v, hi, rfl, HL, HX2, HX1, HX0, HI, HB⟩ := hrel
    obtain ⟨av, cv, hav⟩ := ownsRow_form HI.out.1
    subst hav
    have b0 := HX0.out.cell
    have bl := HX0.out.lt
    by_cases hlt : i < l.length
    · obtain ⟨g, off, rfl, hg, hs⟩ := HX.out (by omega)
      obtain ⟨e, he⟩ : ∃ e, l[i]? = some e := ⟨_, List.getElem?_eq_getElem hlt⟩
      obtain ⟨vc, vp, hcl, htw⟩ := hs i e he
      obtain ⟨⟨ac, cc, hvc⟩, ⟨ap, cp, hvp⟩⟩ := two_form htw
      subst hvc hvp
      have c0 := (HB.out.cell (p := ⟨g, off + i * 10, none⟩) hg).trans (hcl 0 _ rfl)
      have c1 := (HB.out.cell (p := ⟨g, off + i * 10 + 1, none⟩) hg).trans (hcl 1 _ rfl)
      have c2 := (HB.out.cell (p := ⟨g, off + i * 10 + 2, none⟩) hg).trans (hcl 2 _ rfl)
      have c3 := (HB.out.cell (p := ⟨g, off + i * 10 + 3, none⟩) hg).trans (hcl 3 _ rfl)
      have c4 := (HB.out.cell (p := ⟨g, off + i * 10 + 4, none⟩) hg).trans (hcl 4 _ rfl)
      have c5 := (HB.out.cell (p := ⟨g, off + i * 10 + 5, none⟩) hg).trans (hcl 5 _ rfl)
      have c6 := (HB.out.cell (p := ⟨g, off + i * 10 + 6, none⟩) hg).trans (hcl 6 _ rfl)
      have c7 := (HB.out.cell (p := ⟨g, off + i * 10 + 7, none⟩) hg).trans (hcl 7 _ rfl)
      have c8 := (HB.out.cell (p := ⟨g, off + i * 10 + 8, none⟩) hg).trans (hcl 8 _ rfl)
      have c9 := (HB.out.cell (p := ⟨g, off + i * 10 + 9, none⟩) hg).trans (hcl 9 _ rfl)
      have hgr : g < wr.heap.size := by have := HB.out.size; omega
      have hbs := HB.out.size
      have HC := hide (fun (X : World) (hX : Below w.heap.size w X) => l10Out_any e (HN2.out i e he).1 (HN2.out i e he).2 _ _ X ((htw.later hX).up hX.size))
      have hnx := Pl.dropR_next (r := r) he
      have HLN : Hid (L.length + 1 ≤ 4194304) := by
        show _ ≤ _
        have h1 : L.length = (Pl.dropR r (l.take i)).length := by rw [← HL.out, List.length_map]
        have h2 := Pl.dropR_few r (l.take i)
        rw [List.length_take] at h2
        omega
      have hii : (i : Int) < (l.length : Int) := by omega
      clear hs he hcl htw
      by_cases hrun : e.run = r
      · have hq : (e.run != r) = false := by simp [hrun]
        rw [hq] at hnx
        have HL2 : Hid (L.map (·.1) = Pl.dropR r (l.take (i + 1))) := by show _ = _; rw [hnx, HL.out]; simp
        clear hrun hnx
        go_wp2_with fail
        go_roundw
        case rel => exact ⟨i + 1, L, _, by omega, by go_num, HL2, HX2, HX1, HX0, HI, HB⟩
        case measure => simp [intOf]; omega
      · have hq : (e.run != r) = true := by simp [hrun]
        rw [hq] at hnx
        have HL2 : Hid (∀ q : It × Value × Value, q.1 = e → (L ++ [q]).map (·.1) = Pl.dropR r (l.take (i + 1))) := fun q hq1 => by rw [hnx, List.map_append, HL.out, List.map_cons, hq1]; simp
        clear hrun hnx
        go_upto_region 7 with fail
        refine gen_code (fun X => Hid (X.heap[wr.heap.size]? = some (.cells #[(.int .i64 e.run), (.int .i64 e.many), (.slice ac e.cs.length cc), (.int .i64 e.st), (.int .i64 e.vk), (.int .i64 e.vn), (.string e.vt), (.string e.on), (.slice ap e.ps.length cp), (.int .i64 e.fu)] 58 (0, 0))) ∧ Hid (Below wr.heap.size wr X)) ⟨hide (by rw [heap_alloc_at, if_pos rfl]), hide ((Below.refl _ _).alloc (Nat.le_refl _) _)⟩ ?_
        rintro X ⟨HIT, HBX⟩
        clear c0 c1 c2 c3 c4 c5 c6 c7 c8 c9 hgr b0 bl
        have i2 := cell_of_block HIT.out 2
        have i3 := cell_of_block HIT.out 3
        have i4 := cell_of_block HIT.out 4
        have i5 := cell_of_block HIT.out 5
        have i6 := cell_of_block HIT.out 6
        have i7 := cell_of_block HIT.out 7
        have i8 := cell_of_block HIT.out 8
        have i9 := cell_of_block HIT.out 9
        simp only [List.getElem?_toArray, List.getElem?_cons_zero, List.getElem?_cons_succ] at i2 i3 i4 i5 i6 i7 i8 i9
        have il : wr.heap.size < X.heap.size := (Array.getElem?_eq_some_iff.1 HIT.out).1
        go_wp2_with fail
        refine (HC.out X (HB.out.trans (HBX.out.mono hbs))).mono ?_
        rintro e1 w1 ⟨v1, v3, rfl, hO1, hB1⟩
        obtain ⟨⟨a1, d1, hv1⟩, ⟨a3, d3, hv3⟩⟩ := own2_form hO1
        subst hv1 hv3
        have hit1 := (hB1.block _ il).trans HIT.out
        have il1 : wr.heap.size < w1.heap.size := (Array.getElem?_eq_some_iff.1 hit1).1
        have j0 := cell_of_block hit1 0
        have j1 := cell_of_block hit1 1
        have j2 := cell_of_block hit1 2
        have j3 := cell_of_block hit1 3
        have j4 := cell_of_block hit1 4
        have j5 := cell_of_block hit1 5
        have j6 := cell_of_block hit1 6
        have j7 := cell_of_block hit1 7
        have j8 := cell_of_block hit1 8
        have j9 := cell_of_block hit1 9
        have f2 := free_of_block hit1 2
        have f3 := free_of_block hit1 3
        have f4 := free_of_block hit1 4
        have f5 := free_of_block hit1 5
        have f6 := free_of_block hit1 6
        have f7 := free_of_block hit1 7
        have f8 := free_of_block hit1 8
        have f9 := free_of_block hit1 9
        simp only [List.getElem?_toArray, List.getElem?_cons_zero, List.getElem?_cons_succ] at j0 j1 j2 j3 j4 j5 j6 j7 j8 j9
        have HHB := hide (HBX.out.trans (hB1.mono HBX.out.size))
        have HO1 := hide hO1
        have HIT1 := hide hit1
        clear hit1 hO1 hB1 i2 i3 i4 i5 i6 i7 i8 i9
        go_upto_region 8 with fail
        have hMw : Mid wr.heap.size (wr.heap.size + 1) w1 ((((((((w1.setCell ⟨wr.heap.size, 2, none⟩ (.slice a1 e.cs.length d1)).setCell ⟨wr.heap.size, 3, none⟩ (.int .i64 e.st)).setCell ⟨wr.heap.size, 4, none⟩ (.int .i64 e.vk)).setCell ⟨wr.heap.size, 5, none⟩ (.int .i64 e.vn)).setCell ⟨wr.heap.size, 6, none⟩ (.string e.vt)).setCell ⟨wr.heap.size, 7, none⟩ (.string e.on)).setCell ⟨wr.heap.size, 8, none⟩ (.slice a3 e.ps.length d3)).setCell ⟨wr.heap.size, 9, none⟩ (.int .i64 e.fu)) := (((((((((Mid.refl wr.heap.size (wr.heap.size + 1) w1).set (Nat.le_refl _) (Nat.lt_succ_self _)).set (Nat.le_refl _) (Nat.lt_succ_self _)).set (Nat.le_refl _) (Nat.lt_succ_self _)).set (Nat.le_refl _) (Nat.lt_succ_self _)).set (Nat.le_refl _) (Nat.lt_succ_self _)).set (Nat.le_refl _) (Nat.lt_succ_self _)).set (Nat.le_refl _) (Nat.lt_succ_self _)).set (Nat.le_refl _) (Nat.lt_succ_self _))
        have hbk := (block_set (block_set (block_set (block_set (block_set (block_set (block_set (block_set HIT1.out 2 (.slice a1 e.cs.length d1)) 3 (.int .i64 e.st)) 4 (.int .i64 e.vk)) 5 (.int .i64 e.vn)) 6 (.string e.vt)) 7 (.string e.on)) 8 (.slice a3 e.ps.length d3)) 9 (.int .i64 e.fu))
        simp only [List.setIfInBounds_toArray, List.set_cons_zero, List.set_cons_succ] at hbk
        refine gen_code (fun Y => Hid (Y.heap[wr.heap.size]? = some (.cells #[(.int .i64 e.run), (.int .i64 e.many), (.slice a1 e.cs.length d1), (.int .i64 e.st), (.int .i64 e.vk), (.int .i64 e.vn), (.string e.vt), (.string e.on), (.slice a3 e.ps.length d3), (.int .i64 e.fu)] 58 (0, 0))) ∧ Hid (Own2 wr.heap.size Y.heap.size Y e (.slice a1 e.cs.length d1) (.slice a3 e.ps.length d3)) ∧ Hid (Below wr.heap.size wr Y)) ⟨hide hbk, hide (((HO1.out.mid hMw (.inr (by omega))).up (by omega) hMw.size)), hide (HHB.out.trans (hMw.below (by omega)))⟩ ?_
        rintro Y ⟨HITY, HOY, HBY⟩
        clear hMw hbk HO1 HIT1 HHB j0 j1 j2 j3 j4 j5 j6 j7 j8 j9 f2 f3 f4 f5 f6 f7 f8 f9 HIT HBX il il1
        have ily : wr.heap.size < Y.heap.size := (Array.getElem?_eq_some_iff.1 HITY.out).1
        have hk2 := show Boxed Y (w.heap.size + 2) 33 (.slice av L.length cv) from (HBY.out.block _ HX2.out.lt).trans HX2.out
        have k2 := hk2.cell
        have kl := hk2.lt
        have j0 := cell_of_block HITY.out 0
        have j1 := cell_of_block HITY.out 1
        have j2 := cell_of_block HITY.out 2
        have j3 := cell_of_block HITY.out 3
        have j4 := cell_of_block HITY.out 4
        have j5 := cell_of_block HITY.out 5
        have j6 := cell_of_block HITY.out 6
        have j7 := cell_of_block HITY.out 7
        have j8 := cell_of_block HITY.out 8
        have j9 := cell_of_block HITY.out 9
        simp only [List.getElem?_toArray, List.getElem?_cons_zero, List.getElem?_cons_succ] at j0 j1 j2 j3 j4 j5 j6 j7 j8 j9
        have hOR : Hid ((Y.alloc (.cells #[(.int .i64 e.run), (.int .i64 e.many), (.slice a1 e.cs.length d1), (.int .i64 e.st), (.int .i64 e.vk), (.int .i64 e.vn), (.string e.vt), (.string e.on), (.slice a3 e.ps.length d3), (.int .i64 e.fu)] 58)).ownsRow w.heap.size 58 10 (.slice av L.length cv) L.length (L.flatMap iqL)) := hide (ownsRow_later HI.out.1 (HBY.out.alloc HBY.out.size _))
        have hBS : w.heap.size ≤ (Y.alloc (.cells #[(.int .i64 e.run), (.int .i64 e.many), (.slice a1 e.cs.length d1), (.int .i64 e.st), (.int .i64 e.vk), (.int .i64 e.vn), (.string e.vt), (.string e.on), (.slice a3 e.ps.length d3), (.int .i64 e.fu)] 58)).heap.size := by rw [World.size_alloc]; have := HBY.out.size; omega
        have HFIN : Hid (∀ w2 : World, (Y.alloc (.cells #[(.int .i64 e.run), (.int .i64 e.many), (.slice a1 e.cs.length d1), (.int .i64 e.st), (.int .i64 e.vk), (.int .i64 e.vn), (.string e.vt), (.string e.on), (.slice a3 e.ps.length d3), (.int .i64 e.fu)] 58)).grownBy w2 (Value.slice av L.length cv).ownBlock → Boxed w2 (w.heap.size + 2) 33 (.slice av L.length cv) ∧ Boxed w2 (w.heap.size + 1) 33 (.slice none 0 0) ∧ Boxed w2 w.heap.size 33 (.slice (some ⟨g, off, none⟩) l.length cap) ∧ Below w.heap.size w w2) := fun w2 hg => by
          have hr1 := hOR.out
          have hBw := HBY.out.alloc HBY.out.size (.cells #[(.int .i64 e.run), (.int .i64 e.many), (.slice a1 e.cs.length d1), (.int .i64 e.st), (.int .i64 e.vk), (.int .i64 e.vn), (.string e.vt), (.string e.on), (.slice a3 e.ps.length d3), (.int .i64 e.fu)] 58)
          have q2 : Boxed (Y.alloc (.cells #[(.int .i64 e.run), (.int .i64 e.many), (.slice a1 e.cs.length d1), (.int .i64 e.st), (.int .i64 e.vk), (.int .i64 e.vn), (.string e.vt), (.string e.on), (.slice a3 e.ps.length d3), (.int .i64 e.fu)] 58)) (w.heap.size + 2) 33 (.slice av L.length cv) := (hBw.block _ HX2.out.lt).trans HX2.out
          have q1 : Boxed (Y.alloc (.cells #[(.int .i64 e.run), (.int .i64 e.many), (.slice a1 e.cs.length d1), (.int .i64 e.st), (.int .i64 e.vk), (.int .i64 e.vn), (.string e.vt), (.string e.on), (.slice a3 e.ps.length d3), (.int .i64 e.fu)] 58)) (w.heap.size + 1) 33 (.slice none 0 0) := (hBw.block _ HX1.out.lt).trans HX1.out
          have q0 : Boxed (Y.alloc (.cells #[(.int .i64 e.run), (.int .i64 e.many), (.slice a1 e.cs.length d1), (.int .i64 e.st), (.int .i64 e.vk), (.int .i64 e.vn), (.string e.vt), (.string e.on), (.slice a3 e.ps.length d3), (.int .i64 e.fu)] 58)) w.heap.size 33 (.slice (some ⟨g, off, none⟩) l.length cap) := (hBw.block _ HX0.out.lt).trans HX0.out
          exact ⟨q2.kept hg (q2.not_row (by decide) hr1), q1.kept hg (q1.not_row (by decide) hr1), q0.kept hg (q0.not_row (by decide) hr1), (HB.out.trans (hBw.mono hbs)).grown hg hBS (fun k hk => (hr1.lt k hk).1)⟩
        go_wp2_with (first
          | (with_reducible show wpList _ _ _ (Oper.mk _ (Op.call (Call.mk (.builtin .append) _ _)) _ _ _ _ :: _) _ _; refine wp_app_iq rfl (.tmp 34) (.tmp 36) rfl rfl w.heap.size L e a1 a3 _ d1 _ d3 (.slice av L.length cv) ⟨Y.heap.size, 0, none⟩ 1 rfl rfl hOR.out (cells_q Y (itL e (.slice a1 e.cs.length d1) (.slice a3 e.ps.length d3)) 58) HLN.out hBS ?_; intro v2 w2 hv2 hg2; have HV2 := hide (HI.out.next HBY.out HOY.out hv2 hg2); have hA := HFIN.out w2 hg2; have HA2 := hide hA; have m2 := hA.1.cell; have n2 := hA.1.frozen; have o2 := hA.1.lt; obtain ⟨a2, c2, rfl⟩ := ownsRow_form hv2; clear hv2 hg2 hA)
          | fail)
        go_roundw
        case rel => exact ⟨i + 1, _, _, by omega, by go_num, hide (HL2.out _ rfl), hide (HA2.out.1.set _), hide (qset_other (show w2.heap[w.heap.size + 1]? = _ from HA2.out.2.1) (by omega)), hide (qset_other (show w2.heap[w.heap.size]? = _ from HA2.out.2.2.1) (by omega)), hide (by
            have h3 := HV2.out.set (i := 0) (u := .slice a2 (L.length + 1) c2) HA2.out.1 (by decide) (by decide) (by decide)
            simp only [List.length_append, List.length_cons, List.length_nil] at h3
            exact h3), hide (HA2.out.2.2.2.setCell (p := ⟨w.heap.size + 2, 0, none⟩) (by show w.heap.size ≤ w.heap.size + 2; omega) _)⟩
        case measure => simp [intOf]; omega
    · have hie : i = l.length := by omega
      have HE : Hid (L.map (·.1) = Pl.dropR r l) := by
        have := HL.out
        rw [hie, List.take_length] at this
        exact this
      have x0 := HX2.out.cell
      have y0 := HX1.out.cell
      have g0 := HX1.out.frozen
      have hl0 := HX1.out.lt
      have m1 := (HX1.out.set (.slice av L.length cv)).cell
      have HF := hide (HI.out.set (b := w.heap.size + 1) (i := 0) (u := .slice av L.length cv) HX1.out (by decide) (by decide) (by decide))
      have HBF := hide (HB.out.setCell (p := ⟨w.heap.size + 1, 0, none⟩) (Nat.le_succ _) (.slice av L.length cv))
      have HLEN : Hid (L.length = (Pl.dropR r l).length) := by show _ = _; rw [← HE.out, List.length_map]
      clear hie
      go_wp2_with fail
      refine bodyPost_ret (v := .agg #[.slice av L.length cv]) (by simp [results, Try.results22, go_sem, m1]) rfl ?_
      refine ⟨⟨av, cv, by rw [← HLEN.out], ?_⟩, HBF.out⟩
      have hb := HF.out.blk
      rw [HE.out] at hb
      rw [← HLEN.out]
      exact hb
set_option maxHeartbeats 1600000 in
theorem specCacheDrop_any (l : List It) (r : Int) (hN : l.length + itX l ≤ 1048576) (v : Value) (w : World) (hr : IRow w.heap.size w l v) :
    Calls Try.prog 10 #[caV v, .int .i64 r] w fun x w' => (∃ a c, x = .returned (caV (.slice a (Pl.dropR r l).length c)) ∧ IRow w'.heap.size w' (Pl.dropR r l) (.slice a (Pl.dropR r l).length c)) ∧ Below w.heap.size w w' := by
  have hs := hide (fun W (hW : Below w.heap.size w W) => l10Drop_any l r hN v W ((hr.later hW).up hW.size))
  obtain ⟨ad, cap, hv, _⟩ := hr
  subst hv
  go_enter Try.func10, Try.ntmps10
  go_wp2_with fail
  refine (hs.out _ (two_low w _ _)).mono ?_
  rintro e1 w1 ⟨⟨a, c, rfl, hI⟩, hB1⟩
  obtain ⟨bx, br, hB, hsz⟩ := two_q hB1
  have r0 := cell_of_block br 0
  have g0 := free_of_block br 0
  simp only [List.getElem?_toArray, List.getElem?_cons_zero] at r0
  have hl1 : w.heap.size + 1 < w1.heap.size := by omega
  have HI := hide (hI.up (lo' := w.heap.size + 2) (by simp) (Nat.le_refl _))
  have HB := hide hB
  have hb8 := block_set br 0 (.slice a (Pl.dropR r l).length c)
  have m0 := cell_of_block hb8 0
  simp only [List.setIfInBounds_toArray, List.set_cons_zero, List.getElem?_toArray, List.getElem?_cons_zero] at m0
  clear hI hB1 bx br hB hs hb8
  go_wp2
  refine bodyPost_ret (v := caV (.slice a (Pl.dropR r l).length c)) (by simp [results, Try.results10, go_sem, m0]) rfl ?_
  exact ⟨⟨_, _, rfl, ((HI.out.mid (set_mid (lo := w.heap.size + 1) (hi := w.heap.size + 2) w1 (Nat.le_refl _) (Nat.lt_succ_self _)) (.inr (Nat.le_refl _))).row).up (by rw [qset_size]; exact Nat.le_refl _)⟩, HB.out.setCell (p := ⟨w.heap.size + 1, 0, none⟩) (Nat.le_succ _) _⟩
end Go.Proofs.Ythkklmfjdjiafaa

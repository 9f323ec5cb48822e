/- A cache without a run, as the program has it. -/
import Derived.Test.YthkklmfjdjiafaaCaJ5
import Derived.Deep.RegionLaw
namespace Go.Proofs.Ythkklmfjdjiafaa
open Go.RowKit
set_option linter.unusedVariables false
set_option linter.unusedSimpArgs false
/-- items without a run -/
def Pl.dropR (r : Int) (l : List It) : List It := l.filter (fun it => it.run != r)
theorem Pl.dropR_next {r : Int} {l : List It} {i : Nat} {it : It} (h : l[i]? = some it) : Pl.dropR r (l.take (i + 1)) = Pl.dropR r (l.take i) ++ (if it.run != r then [it] else []) := by
  unfold Pl.dropR
  rw [List.take_add_one, h, List.filter_append]
  congr 1
  cases hb : (it.run != r) <;> simp [hb]
theorem Pl.dropR_few (r : Int) (l : List It) : (Pl.dropR r l).length ≤ l.length := List.length_filter_le _ _
theorem itX_drop (r : Int) : ∀ l : List It, itX (Pl.dropR r l) ≤ itX l
  | [] => by simp [Pl.dropR, itX]
  | a :: l => by
    have h := itX_drop r l
    unfold Pl.dropR at h ⊢
    rw [List.filter_cons]
    split
    · simp only [itX]; omega
    · simp only [itX]; omega
theorem step_iq {ops : Array Oper} {o : Oper} {a : Act} {W : World} {K : Act → World → Prop} {Q : Exit → Act → World → Prop} {E : Prop} (hg : o.guard = none) (s x : Operand)
    (hop : o.op = Op.call { callee := Callee.builtin Builtin.append, args := #[s, x], argTypes := #[31, 31] }) (hty : o.type = 31) (base : Nat) (A : List (It × Value × Value)) (it : It) (a1 a3 : Option Addr) (n1 c1 n3 c3 : Nat) (ad : Addr) (c : Nat)
    (hv : W.ownsRow base 58 10 (a.eval s) A.length (A.flatMap iqL)) (hx : a.eval x = .slice (some ad) 1 c) (hu : ∀ j u, (itL it (.slice a1 n1 c1) (.slice a3 n3 c3))[j]? = some u → W.cell? (ad.add j) = some u) (hn : A.length + 1 ≤ 4194304) (hb : base ≤ W.heap.size)
    (hK : ∀ v' w2, w2.ownsRow base 58 10 v' (A ++ [(it, (.slice a1 n1 c1 : Value), (.slice a3 n3 c3 : Value))]).length ((A ++ [(it, (.slice a1 n1 c1 : Value), (.slice a3 n3 c3 : Value))]).flatMap iqL) → W.grownBy w2 (a.eval s).ownBlock → K (a.put o.dst v') w2) :
    if Region.wanted o (yielded ops a.tmps) = true then Oper.wp Try.prog o a W K Q else E := by
  have hw : Region.wanted o (yielded ops a.tmps) = true := by simp [Region.wanted, hg]
  rw [if_pos hw]
  obtain ⟨v', w2, hrun, hown, hgrow⟩ := app_iq it a1 a3 n1 c1 n3 c3 hv ad c hu hn hb
  rw [← hty] at hrun
  unfold Oper.wp
  simp [execOp, hop, resolve, invoke, builtin, hty, hty ▸ hrun, hx, Result.andThen]
  exact hK _ _ hown hgrow
set_option maxRecDepth 100000 in
set_option maxHeartbeats 6400000 in
theorem implCacheDrop_any (l : List It) (r : Int) (hN : l.length + itX l ≤ 1048576) (hsm : ∀ p ∈ l, p.Sm) (v : Value) (w : World) (hr : IRow w.heap.size w l v) :
    Calls Try.prog 12 #[caV v, .int .i64 r] w fun x w' => (∃ a c, x = .returned (caV (.slice a (Pl.dropR r l).length c)) ∧ IBlk w.heap.size w'.heap.size w' (Pl.dropR r l) (.slice a (Pl.dropR r l).length c)) ∧ Below w.heap.size w w' := by
  have HN2 : Hid (∀ (i : Nat) (it : It), l[i]? = some it → it.cs.length ≤ 1048576 ∧ it.ps.length ≤ 1048576) := fun i it he => by
    have h1 := itX_next he
    have h2 : itX l = itX (l.take (i + 1)) + itX (l.drop (i + 1)) := by rw [← itX_app, List.take_append_drop]
    omega
  obtain ⟨ad, cap, rfl, hc, hmx, hx⟩ := hr
  unfold maxLen at hmx
  have HX := hide hx
  have HS := hide hsm
  clear hx hsm
  go_enter Try.func12, Try.ntmps12
  go_wp2_with fail
  go_loopw [11] (fun iv wr => ∃ (i : Nat) (L : List (It × Value × Value)) (v : Value), i ≤ l.length ∧ iv = .int .i64 i ∧ Hid (L.map (·.1) = Pl.dropR r (l.take i)) ∧ Hid (Boxed wr (w.heap.size + 2) 33 v) ∧ Hid (Boxed wr (w.heap.size + 1) 33 (.slice none 0 0)) ∧ Hid (IOw w.heap.size wr L v) ∧ Hid (Below w.heap.size w wr)) (fun iv _ => l.length - (intOf iv).toNat)
  case atStart =>
    have h3 := three_low w (.cells #[.slice ad l.length cap] 33) (.cells #[.slice none 0 0] 33) (.cells #[.slice none 0 0] 33)
    refine ⟨0, [], .slice none 0 0, by omega, rfl, hide rfl, ?_, ?_, hide (IOw.none _ _ (by rw [h3.2]; omega)), hide h3.1⟩
    · have := Boxed.new ((w.alloc (.cells #[.slice ad l.length cap] 33)).alloc (.cells #[.slice none 0 0] 33)) 33 (.slice none 0 0)
      rw [World.size_alloc, World.size_alloc] at this
      exact this
    · have := Boxed.new (w.alloc (.cells #[.slice ad l.length cap] 33)) 33 (.slice none 0 0)
      rw [World.size_alloc] at this
      exact this.alloc _
  case round =>
    obtain ⟨i, L, v, hi, rfl, HL, HX2, HX1, HI, HB⟩ := hrel
    obtain ⟨av, cv, hav⟩ := ownsRow_form HI.out.1
    subst hav
    by_cases hlt : i < l.length
    · obtain ⟨g, off, rfl, hg, hs⟩ := HX.out (by omega)
      obtain ⟨e, he⟩ : ∃ e, l[i]? = some e := ⟨_, List.getElem?_eq_getElem hlt⟩
      obtain ⟨vc, vp, hcl, htw⟩ := hs i e he
      obtain ⟨⟨ac, cc, hvc⟩, ⟨ap, cp, hvp⟩⟩ := two_form htw
      subst hvc hvp
      have c0 := (HB.out.cell (p := ⟨g, off + i * 10, none⟩) hg).trans (hcl 0 _ rfl)
      have c1 := (HB.out.cell (p := ⟨g, off + i * 10 + 1, none⟩) hg).trans (hcl 1 _ rfl)
      have c2 := (HB.out.cell (p := ⟨g, off + i * 10 + 2, none⟩) hg).trans (hcl 2 _ rfl)
      have c3 := (HB.out.cell (p := ⟨g, off + i * 10 + 3, none⟩) hg).trans (hcl 3 _ rfl)
      have c4 := (HB.out.cell (p := ⟨g, off + i * 10 + 4, none⟩) hg).trans (hcl 4 _ rfl)
      have c5 := (HB.out.cell (p := ⟨g, off + i * 10 + 5, none⟩) hg).trans (hcl 5 _ rfl)
      have c6 := (HB.out.cell (p := ⟨g, off + i * 10 + 6, none⟩) hg).trans (hcl 6 _ rfl)
      have c7 := (HB.out.cell (p := ⟨g, off + i * 10 + 7, none⟩) hg).trans (hcl 7 _ rfl)
      have c8 := (HB.out.cell (p := ⟨g, off + i * 10 + 8, none⟩) hg).trans (hcl 8 _ rfl)
      have c9 := (HB.out.cell (p := ⟨g, off + i * 10 + 9, none⟩) hg).trans (hcl 9 _ rfl)
      have hgr : g < wr.heap.size := by have := HB.out.size; omega
      have hbs := HB.out.size
      have HC := hide (fun (X W : World) (hX : Below w.heap.size w X) (hXW : Below X.heap.size X W) => ownItem_any e (HS.out e (List.mem_of_getElem? he)) (HN2.out i e he).1 (HN2.out i e he).2 _ _ W ((htw.later (hX.trans (hXW.mono hX.size))).up (hX.trans (hXW.mono hX.size)).size))
      have hnx := Pl.dropR_next (r := r) he
      have HLN : Hid (L.length + 1 ≤ 4194304) := by
        show _ ≤ _
        have h1 : L.length = (Pl.dropR r (l.take i)).length := by rw [← HL.out, List.length_map]
        have h2 := Pl.dropR_few r (l.take i)
        rw [List.length_take] at h2
        omega
      have hii : (i : Int) < (l.length : Int) := by omega
      clear hs he hcl htw
      by_cases hrun : e.run = r
      · have hq : (e.run != r) = false := by simp [hrun]
        rw [hq] at hnx
        have HL2 : Hid (L.map (·.1) = Pl.dropR r (l.take (i + 1))) := by show _ = _; rw [hnx, HL.out]; simp
        clear hrun hnx
        go_wp2_with fail
        go_roundw
        case rel => exact ⟨i + 1, L, _, by omega, by go_num, HL2, hide (HX2.out.alloc _), hide (HX1.out.alloc _), hide (HI.out.later ((Below.refl _ _).alloc (Nat.le_refl _) _)), hide (HB.out.alloc hbs _)⟩
        case measure => simp [intOf]; omega
      · have hq : (e.run != r) = true := by simp [hrun]
        rw [hq] at hnx
        have HL2 : Hid (∀ q : It × Value × Value, q.1 = e → (L ++ [q]).map (·.1) = Pl.dropR r (l.take (i + 1))) := fun q hq1 => by rw [hnx, List.map_append, HL.out, List.map_cons, hq1]; simp
        clear hrun hnx
        go_wp2_with fail
        refine gen_code (fun X => Hid (X.heap[wr.heap.size]? = some (.cells #[.int .i64 e.run, .int .i64 e.many, .slice ac e.cs.length cc, .int .i64 e.st, .int .i64 e.vk, .int .i64 e.vn, .string e.vt, .string e.on, .slice ap e.ps.length cp, .int .i64 e.fu] 58 (0, 0))) ∧ Hid (Boxed X (w.heap.size + 2) 33 (.slice av L.length cv)) ∧ Hid (Boxed X (w.heap.size + 1) 33 (.slice none 0 0)) ∧ Hid (IOw w.heap.size X L (.slice av L.length cv)) ∧ Hid (Below w.heap.size w X)) ⟨hide (by rw [heap_alloc_at, if_pos rfl]), hide (HX2.out.alloc _), hide (HX1.out.alloc _), hide (HI.out.later ((Below.refl _ _).alloc (Nat.le_refl _) _)), hide (HB.out.alloc hbs _)⟩ ?_
        rintro X ⟨HIT, HY2, HY1, HJ, HBX⟩
        clear HX2 HX1 HI HB c0 c1 c2 c3 c4 c5 c6 c7 c8 c9 hgr
        have hX : Hid (Below X.heap.size X X.drew) := (Below.refl _ _).drew
        have i0 := cell_of_block (show X.drew.heap[wr.heap.size]? = _ from HIT.out) 0
        have i1 := cell_of_block (show X.drew.heap[wr.heap.size]? = _ from HIT.out) 1
        have i2 := cell_of_block (show X.drew.heap[wr.heap.size]? = _ from HIT.out) 2
        have i3 := cell_of_block (show X.drew.heap[wr.heap.size]? = _ from HIT.out) 3
        have i4 := cell_of_block (show X.drew.heap[wr.heap.size]? = _ from HIT.out) 4
        have i5 := cell_of_block (show X.drew.heap[wr.heap.size]? = _ from HIT.out) 5
        have i6 := cell_of_block (show X.drew.heap[wr.heap.size]? = _ from HIT.out) 6
        have i7 := cell_of_block (show X.drew.heap[wr.heap.size]? = _ from HIT.out) 7
        have i8 := cell_of_block (show X.drew.heap[wr.heap.size]? = _ from HIT.out) 8
        have i9 := cell_of_block (show X.drew.heap[wr.heap.size]? = _ from HIT.out) 9
        simp only [List.getElem?_toArray, List.getElem?_cons_zero, List.getElem?_cons_succ] at i0 i1 i2 i3 i4 i5 i6 i7 i8 i9
        have il : wr.heap.size < X.drew.heap.size := (Array.getElem?_eq_some_iff.1 (show X.drew.heap[wr.heap.size]? = _ from HIT.out)).1
        have k0 := (show Boxed X.drew (w.heap.size + 2) 33 (.slice av L.length cv) from HY2.out).cell
        have hcall := hide (fun W hW => HC.out X W HBX.out hW)
        have HAF : Hid (∀ w1 : World, Hid (Below X.heap.size X w1) → Boxed w1 (w.heap.size + 2) 33 (.slice av L.length cv)) := fun w1 hb => (hb.out.block _ HY2.out.lt).trans HY2.out
        have HAL : Hid (∀ w1 : World, Hid (Below X.heap.size X w1) → w.heap.size ≤ w1.heap.size + 1) := fun w1 hb => by have := hb.out.size; have := HBX.out.size; omega
        have hS1 : ∀ (w1 : World) C, Hid (Below X.heap.size X w1) → (w1.alloc (.cells C 58)).ownsRow w.heap.size 58 10 (.slice av L.length cv) L.length (L.flatMap iqL) := fun w1 C h => ownsRow_later HJ.out.1 (h.out.alloc h.out.size _)
        have HFIN : Hid (∀ (w1 w2 : World) C, Hid (Below X.heap.size X w1) → (w1.alloc (.cells C 58)).grownBy w2 (Value.slice av L.length cv).ownBlock → Boxed w2 (w.heap.size + 2) 33 (.slice av L.length cv) ∧ Boxed w2 (w.heap.size + 1) 33 (.slice none 0 0) ∧ Below w.heap.size w w2) := fun w1 w2 C hb hg => by
          have hr1 := hS1 w1 C hb
          have hB1 : Below w.heap.size w w1 := HBX.out.trans (hb.out.mono HBX.out.size)
          have q2 := (HAF.out w1 hb).alloc (.cells C 58)
          have q1 : Boxed (w1.alloc (.cells C 58)) (w.heap.size + 1) 33 (.slice none 0 0) := Boxed.alloc (((hb.out.block _ HY1.out.lt).trans HY1.out : w1.heap[w.heap.size + 1]? = _)) _
          exact ⟨q2.kept hg (q2.not_row (by decide) hr1), q1.kept hg (q1.not_row (by decide) hr1), (hB1.alloc hB1.size _).grown hg (by have := hB1.size; simp; omega) (fun k hk => (hr1.lt k hk).1)⟩
        go_region_law (first
          | (go_simp
             go_at_call 24
             refine (hcall.out _ hX.out).mono ?_
             rintro e1 w1 ⟨v1, v3, rfl, hO1, hB1'⟩
             obtain ⟨⟨a1, d1, hv1⟩, ⟨a3, d3, hv3⟩⟩ := own2_form hO1
             subst hv1 hv3
             have hB1 : Hid (Below X.heap.size X w1) := hX.out.trans (hB1'.mono hX.out.size)
             have HO1 := hide (hO1.up (lo' := X.heap.size) hX.out.size (Nat.le_refl _))
             have k1 := (HAF.out w1 hB1).cell
             have l1 := (HAF.out w1 hB1).lt
             clear hB1' hO1)
          | (refine step_iq rfl (.tmp 20) (.tmp 23) rfl rfl w.heap.size L e a1 a3 _ d1 _ d3 ⟨w1.heap.size, 0, none⟩ 1 ?_ ?_ (cells_q w1 (itL e (.slice a1 e.cs.length d1) (.slice a3 e.ps.length d3)) 58) HLN.out ?_ ?_
             · simpa [Act.eval, Act.put] using hS1 w1 _ hB1
             · simp [Act.eval, Act.put]
             · (have := HAL.out w1 hB1; simp; omega)
             intro v2 w2 hv2 hg2
             have HV2 := hide (HJ.out.next hB1.out HO1.out hv2 (by simpa [Act.eval, Act.put] using hg2))
             have hA := HFIN.out w1 w2 _ hB1 (by simpa [Act.eval, Act.put] using hg2)
             have HA2 := hide hA
             have k2 := hA.1.cell
             have f2 := hA.1.frozen
             have l2 := hA.1.lt
             obtain ⟨a2, c2, rfl⟩ := ownsRow_form hv2
             clear hv2 hg2 hA))
        all_goals
          go_wp2_with fail
          refine ⟨⟨i + 1, _, _, by omega, rfl, hide (HL2.out _ rfl), hide (HA2.out.1.set _), hide (qset_other (show w2.heap[w.heap.size + 1]? = _ from HA2.out.2.1) (by omega)), hide (by
            have h3 := HV2.out.set (i := 0) (u := .slice a2 (L.length + 1) c2) HA2.out.1 (by decide) (by decide) (by decide)
            simp only [List.length_append, List.length_cons, List.length_nil] at h3
            exact h3), hide (HA2.out.2.2.setCell (p := ⟨w.heap.size + 2, 0, none⟩) (by show w.heap.size ≤ w.heap.size + 2; omega) _)⟩, by simp [intOf]; omega⟩
    · have hie : i = l.length := by omega
      have HE : Hid (L.map (·.1) = Pl.dropR r l) := by
        have := HL.out
        rw [hie, List.take_length] at this
        exact this
      have x0 := HX2.out.cell
      have y0 := HX1.out.cell
      have g0 := HX1.out.frozen
      have hl0 := HX1.out.lt
      have m1 := (HX1.out.set (.slice av L.length cv)).cell
      have HF := hide (HI.out.set (b := w.heap.size + 1) (i := 0) (u := .slice av L.length cv) HX1.out (by decide) (by decide) (by decide))
      have HBF := hide (HB.out.setCell (p := ⟨w.heap.size + 1, 0, none⟩) (Nat.le_succ _) (.slice av L.length cv))
      have HLEN : Hid (L.length = (Pl.dropR r l).length) := by show _ = _; rw [← HE.out, List.length_map]
      clear hie
      go_wp2_with fail
      refine bodyPost_ret (v := .agg #[.slice av L.length cv]) (by simp [results, Try.results12, go_sem, m1]) rfl ?_
      refine ⟨⟨av, cv, by rw [← HLEN.out], ?_⟩, HBF.out⟩
      have hb := HF.out.blk
      rw [HE.out] at hb
      rw [← HLEN.out]
      exact hb
end Go.Proofs.Ythkklmfjdjiafaa

/- How a run stood, copied by the specification. -/
import Derived.Test.YthkklmfjdjiafaaCaJ6
import Derived.Laws.OwnMore
import Derived.Tactics
import Derived.Deep.Cut
namespace Go.Proofs.Ythkklmfjdjiafaa
open Go.RowKit
set_option linter.unusedVariables false
set_option linter.unusedSimpArgs false
theorem run_append_zero {P : Program} {w : World} (base : Nat) (t ty e : TypeId) (i : TypeInfo) (size : Nat) (ht : P.underlying t = some (.slice e)) (hi : P.info? e = some i)
    (v : Value) (n : Nat) (xs : List Value) (hown : w.ownsRow base e size v n xs) (a : Option Addr) (c : Nat) :
    (Builtin.append_ #[t, t] ty #[v, .slice a 0 c]).run P w = .ok v w := by
  rcases hown.2 with ⟨rfl, rfl⟩ | ⟨g, cap, cur, rfl, _, _, hnc, _⟩
  · cases a <;> simp [Builtin.append_, run_underlying ht, sizeOf, typeInfo, hi, Builtin.lenOf, Builtin.firstCells, loadCells, loadCellsFrom]
  · cases a <;> simp [Builtin.append_, run_underlying ht, sizeOf, typeInfo, hi, Builtin.lenOf, Builtin.firstCells, hnc, storeCells, loadCells, loadCellsFrom]
theorem flatq_inv {α : Type} {f : α → List Value} {m : Nat} (hf : ∀ e, (f e).length = m) : ∀ (L : List α) (j : Nat) (u : Value), (L.flatMap f)[j]? = some u → ∃ i e s, L[i]? = some e ∧ j = i * m + s ∧ (f e)[s]? = some u
  | [], j, u, h => by simp at h
  | a :: r, j, u, h => by
    rw [List.flatMap_cons] at h
    by_cases hj : j < m
    · rw [List.getElem?_append_left (by rw [hf]; exact hj)] at h
      exact ⟨0, a, j, rfl, by omega, h⟩
    · rw [List.getElem?_append_right (by rw [hf]; omega), hf] at h
      obtain ⟨i, e, s, h1, h2, h3⟩ := flatq_inv hf r _ u h
      refine ⟨i + 1, e, s, by simpa using h1, ?_, h3⟩
      rw [Nat.add_mul]
      omega
theorem appr_cq {W : World} {base hi : Nat} {v u : Value} {A B : List Cm} (hv : W.ownsRow base 86 5 v A.length (A.flatMap cqL)) (hu : PRow 5 cqL hi W B u) (hn : A.length + B.length ≤ 4194304) (hb : base ≤ W.heap.size) :
    ∃ v' w2, (Builtin.append_ #[51, 51] 51 #[v, u]).run Try.prog W = .ok v' w2 ∧ w2.ownsRow base 86 5 v' (A ++ B).length ((A ++ B).flatMap cqL) ∧ W.grownBy w2 v.ownBlock := by
  obtain ⟨ad, cap, rfl, h1, h2, hx⟩ := hu
  by_cases h0 : B.length = 0
  · obtain rfl : B = [] := List.eq_nil_of_length_eq_zero h0
    obtain ⟨i0, hi, hz0, hz1, hz2⟩ := info_parts infoCm
    exact ⟨v, W, run_append_zero base 51 51 86 i0 5 Try.underlying51 hi v A.length _ hv ad cap, by simpa using hv, gb_refl _ _⟩
  · obtain ⟨g, off, rfl, hg, hs⟩ := hx (by omega)
    exact app_cq B hv ⟨g, off, none⟩ cap (fun j u hu => by
      obtain ⟨i, e, s, h3, h4, h5⟩ := flatq_inv cq_len B j u hu
      have hadd : (⟨g, off, none⟩ : Addr).add j = ⟨g, off + j, none⟩ := by unfold Addr.add; split <;> simp_all
      rw [hadd, h4, show off + (i * 5 + s) = off + i * 5 + s by omega]
      exact hs i e h3 s u h5) hn hb
theorem wp_appr_cq {ops : Array Oper} {rest : List Oper} {o : Oper} {a : Act} {W : World} {Q : Exit → Act → World → Prop} (hgd : o.guard = none) (s x : Operand)
    (ho : o.op = .call { callee := .builtin .append, args := #[s, x], argTypes := #[51, 51] }) (hty : o.type = 51) (base hi : Nat) (A B : List Cm) (v u : Value) (hs : a.eval s = v) (hx : a.eval x = u)
    (hv : W.ownsRow base 86 5 v A.length (A.flatMap cqL)) (hu : PRow 5 cqL hi W B u) (hn : A.length + B.length ≤ 4194304) (hb : base ≤ W.heap.size)
    (h : ∀ v' w2, w2.ownsRow base 86 5 v' (A ++ B).length ((A ++ B).flatMap cqL) → W.grownBy w2 v.ownBlock → wpList Try.prog ops Q rest (a.put o.dst v') w2) : wpList Try.prog ops Q (o :: rest) a W := by
  refine wpList_plain hgd fun K hK => ?_
  obtain ⟨v', w2, hrun, h1, h2⟩ := appr_cq hv hu hn hb
  unfold Oper.wp
  simp [execOp, ho, resolve, invoke, builtin, hs, hx, hty, hrun, Result.andThen]
  exact hK _ _ (h _ _ h1 h2)
theorem appr_pq {W : World} {base hi : Nat} {v u : Value} {A B : List Pq} (hv : W.ownsRow base 90 4 v A.length (A.flatMap pqL)) (hu : PRow 4 pqL hi W B u) (hn : A.length + B.length ≤ 4194304) (hb : base ≤ W.heap.size) :
    ∃ v' w2, (Builtin.append_ #[54, 54] 54 #[v, u]).run Try.prog W = .ok v' w2 ∧ w2.ownsRow base 90 4 v' (A ++ B).length ((A ++ B).flatMap pqL) ∧ W.grownBy w2 v.ownBlock := by
  obtain ⟨ad, cap, rfl, h1, h2, hx⟩ := hu
  by_cases h0 : B.length = 0
  · obtain rfl : B = [] := List.eq_nil_of_length_eq_zero h0
    obtain ⟨i0, hi, hz0, hz1, hz2⟩ := info_parts infoPq
    exact ⟨v, W, run_append_zero base 54 54 90 i0 4 Try.underlying54 hi v A.length _ hv ad cap, by simpa using hv, gb_refl _ _⟩
  · obtain ⟨g, off, rfl, hg, hs⟩ := hx (by omega)
    exact app_pq B hv ⟨g, off, none⟩ cap (fun j u hu => by
      obtain ⟨i, e, s, h3, h4, h5⟩ := flatq_inv pq_len B j u hu
      have hadd : (⟨g, off, none⟩ : Addr).add j = ⟨g, off + j, none⟩ := by unfold Addr.add; split <;> simp_all
      rw [hadd, h4, show off + (i * 4 + s) = off + i * 4 + s by omega]
      exact hs i e h3 s u h5) hn hb
theorem wp_appr_pq {ops : Array Oper} {rest : List Oper} {o : Oper} {a : Act} {W : World} {Q : Exit → Act → World → Prop} (hgd : o.guard = none) (s x : Operand)
    (ho : o.op = .call { callee := .builtin .append, args := #[s, x], argTypes := #[54, 54] }) (hty : o.type = 54) (base hi : Nat) (A B : List Pq) (v u : Value) (hs : a.eval s = v) (hx : a.eval x = u)
    (hv : W.ownsRow base 90 4 v A.length (A.flatMap pqL)) (hu : PRow 4 pqL hi W B u) (hn : A.length + B.length ≤ 4194304) (hb : base ≤ W.heap.size)
    (h : ∀ v' w2, w2.ownsRow base 90 4 v' (A ++ B).length ((A ++ B).flatMap pqL) → W.grownBy w2 v.ownBlock → wpList Try.prog ops Q rest (a.put o.dst v') w2) : wpList Try.prog ops Q (o :: rest) a W := by
  refine wpList_plain hgd fun K hK => ?_
  obtain ⟨v', w2, hrun, h1, h2⟩ := appr_pq hv hu hn hb
  unfold Oper.wp
  simp [execOp, ho, resolve, invoke, builtin, hs, hx, hty, hrun, Result.andThen]
  exact hK _ _ (h _ _ h1 h2)
theorem lit_own (W : World) (T : TypeId) (m : Nat) : (W.alloc (.cells #[] T)).ownsRow W.heap.size T m (.slice (some ⟨W.heap.size, 0, none⟩) 0 0) 0 [] :=
  World.ownsRow_made (base := W.heap.size) (e := T) (size := m) W #[] 0 (Nat.le_refl _) (by unfold maxLen; omega) (by simp)
theorem lit_grown {W w2 : World} {T : TypeId} (hg : (W.alloc (.cells #[] T)).grownBy w2 (Value.slice (some ⟨W.heap.size, 0, none⟩) 0 0).ownBlock) : Below W.heap.size W w2 :=
  ((Below.refl _ W).alloc (Nat.le_refl _) _).grown hg (by simp) (fun k hk => by simp [Value.ownBlock] at hk; omega)
set_option maxRecDepth 100000 in
set_option maxHeartbeats 6400000 in
theorem l10Out_any (it : It) (hc0 : it.cs.length ≤ 1048576) (hp0 : it.ps.length ≤ 1048576) (vc vp : Value) (w : World) (ht : Two w.heap.size w it vc vp) :
    Calls Try.prog 29 #[otV it vc vp] w fun x w' => ∃ vc' vp', x = .returned (otV it vc' vp') ∧ Own2 w.heap.size w'.heap.size w' it vc' vp' ∧ Below w.heap.size w w' := by
  have HT := hide ht
  obtain ⟨⟨ac, cc, hvc⟩, ⟨ap, cp, hvp⟩⟩ := two_form ht
  subst hvc hvp
  clear ht
  go_enter Try.func29, Try.ntmps29
  go_upto_region 1 with fail
  refine gen_code (fun X => Hid (OX 56 [(.slice ac it.cs.length cc), (.int .i64 it.st), (.int .i64 it.vk), (.int .i64 it.vn), (.string it.vt), (.string it.on), (.slice ap it.ps.length cp), (.int .i64 it.fu)] w X)) (hide (OX.start 56 [(.slice ac it.cs.length cc), (.int .i64 it.st), (.int .i64 it.vk), (.int .i64 it.vn), (.string it.vt), (.string it.on), (.slice ap it.ps.length cp), (.int .i64 it.fu)] #[.slice none 0 0, .int .i64 0, .int .i64 0, .int .i64 0, .string ⟨#[]⟩, .string ⟨#[]⟩, .slice none 0 0, .int .i64 0] rfl w)) ?_
  intro X HX
  have hl0 : w.heap.size + 2 ≤ X.heap.size := by
    obtain ⟨Z, h1, _⟩ := HX.out.2.1
    have := (Array.getElem?_eq_some_iff.1 h1).1
    omega
  have hlt0 : w.heap.size < X.heap.size := by omega
  have k0 := HX.out.cell 0
  simp only [List.getElem?_cons_zero] at k0
  have haO : Hid ((X.alloc (.cells #[] 86)).ownsRow X.heap.size 86 5 (.slice (some ⟨X.heap.size, 0, none⟩) 0 0) (([] : List Cm).length) (([] : List Cm).flatMap cqL)) := hide (lit_own X 86 5)
  have haP := hide ((HT.out.1.later (HX.out.2.2.alloc HX.out.2.2.size (.cells #[] 86))).up (Nat.le_trans HX.out.2.2.size (Nat.le_refl X.heap.size)))
  have haN : Hid (([] : List Cm).length + it.cs.length ≤ 4194304) := by show _ ≤ _; simp; omega
  have haS : X.heap.size ≤ (X.alloc (.cells #[] 86)).heap.size := by simp
  go_upto_region 2 with (first
    | ((with_reducible show wpList _ _ _ (Oper.mk _ (Op.load 51 (.tmp 4)) _ _ _ _ :: _) _ _; refine wpList_plain rfl fun K hK => ?_; go_simp; refine hK _ _ ?_; (refine wp_appr_cq rfl (.tmp 3) (.tmp 5) rfl rfl X.heap.size X.heap.size [] it.cs (.slice (some ⟨X.heap.size, 0, none⟩) 0 0) (.slice ac it.cs.length cc) rfl rfl haO.out haP.out haN.out haS ?_); intro v2 w2 hv2 hg2; have haV := hide hv2; have haG := hide hg2; obtain ⟨a1, c1, rfl⟩ := ownsRow_form hv2; clear hv2 hg2); have HY := hide (HX.out.later (lit_grown haG.out)); have e0 := HY.out.cell 0; have g0 := HY.out.free 0; have hl2 := (Array.getElem?_eq_some_iff.1 HY.out.1).1)
    | fail)
  refine gen_code (fun W => Hid (OX 56 [(.slice a1 it.cs.length c1), (.int .i64 it.st), (.int .i64 it.vk), (.int .i64 it.vn), (.string it.vt), (.string it.on), (.slice ap it.ps.length cp), (.int .i64 it.fu)] w W) ∧ Hid (PBlk 86 5 cqL (w.heap.size + 2) W.heap.size W it.cs (.slice a1 it.cs.length c1))) ⟨hide (HY.out.set rfl), hide ?_⟩ ?_
  · have hq := (PBlk.of_own (l := it.cs) cq_len haV.out).up (lo' := w.heap.size + 2) hl0 (Nat.le_refl _)
    have hm := hq.mid (set_mid (lo := w.heap.size) (hi := w.heap.size + 1) (i := 0) (v := (.slice a1 it.cs.length c1)) w2 (Nat.le_refl _) (Nat.lt_succ_self _)) (.inr (by omega))
    exact hm.up (Nat.le_refl _) (by rw [qset_size]; exact Nat.le_refl _)
  clear HX HY haO haP haN haS haV haG e0 g0 k0 hl0 hl2
  rintro X2 ⟨HX2, HA2⟩
  have hl0 : w.heap.size + 2 ≤ X2.heap.size := by
    obtain ⟨Z, h1, _⟩ := HX2.out.2.1
    have := (Array.getElem?_eq_some_iff.1 h1).1
    omega
  have hlt2 : w.heap.size < X2.heap.size := by omega
  have k6 := HX2.out.cell 6
  simp only [List.getElem?_cons_zero, List.getElem?_cons_succ] at k6
  have hbO : Hid ((X2.alloc (.cells #[] 90)).ownsRow X2.heap.size 90 4 (.slice (some ⟨X2.heap.size, 0, none⟩) 0 0) (([] : List Pq).length) (([] : List Pq).flatMap pqL)) := hide (lit_own X2 90 4)
  have hbP := hide ((HT.out.2.later (HX2.out.2.2.alloc HX2.out.2.2.size (.cells #[] 90))).up (Nat.le_trans HX2.out.2.2.size (Nat.le_refl X2.heap.size)))
  have hbN : Hid (([] : List Pq).length + it.ps.length ≤ 4194304) := by show _ ≤ _; simp; omega
  have hbS : X2.heap.size ≤ (X2.alloc (.cells #[] 90)).heap.size := by simp
  go_upto_region 3 with (first
    | ((with_reducible show wpList _ _ _ (Oper.mk _ (Op.load 54 (.tmp 9)) _ _ _ _ :: _) _ _; refine wpList_plain rfl fun K hK => ?_; go_simp; refine hK _ _ ?_; (refine wp_appr_pq rfl (.tmp 8) (.tmp 10) rfl rfl X2.heap.size X2.heap.size [] it.ps (.slice (some ⟨X2.heap.size, 0, none⟩) 0 0) (.slice ap it.ps.length cp) rfl rfl hbO.out hbP.out hbN.out hbS ?_); intro v3 w3 hv2 hg2; have hbV := hide hv2; have hbG := hide hg2; obtain ⟨a3, c3, rfl⟩ := ownsRow_form hv2; clear hv2 hg2); have HY := hide (HX2.out.later (lit_grown hbG.out)); have e6 := HY.out.cell 6; have g6 := HY.out.free 6; have hl2 := (Array.getElem?_eq_some_iff.1 HY.out.1).1; have hs2 := (lit_grown hbG.out).size)
    | fail)
  refine gen_code (fun W => Hid (OX 56 [(.slice a1 it.cs.length c1), (.int .i64 it.st), (.int .i64 it.vk), (.int .i64 it.vn), (.string it.vt), (.string it.on), (.slice a3 it.ps.length c3), (.int .i64 it.fu)] w W) ∧ Hid (PBlk 86 5 cqL (w.heap.size + 2) W.heap.size W it.cs (.slice a1 it.cs.length c1)) ∧ Hid (PBlk 90 4 pqL (w.heap.size + 2) W.heap.size W it.ps (.slice a3 it.ps.length c3))) ⟨hide (HY.out.set rfl), hide ?_, hide ?_⟩ ?_
  · have hm := ((HA2.out.later (lit_grown hbG.out)).up (Nat.le_refl _) hs2).mid (set_mid (lo := w.heap.size) (hi := w.heap.size + 1) (i := 6) (v := (.slice a3 it.ps.length c3)) w3 (Nat.le_refl _) (Nat.lt_succ_self _)) (.inr (by omega))
    exact hm.up (Nat.le_refl _) (by rw [qset_size]; exact Nat.le_refl _)
  · have hq := (PBlk.of_own (l := it.ps) pq_len hbV.out).up (lo' := w.heap.size + 2) hl0 (Nat.le_refl _)
    have hm := hq.mid (set_mid (lo := w.heap.size) (hi := w.heap.size + 1) (i := 6) (v := (.slice a3 it.ps.length c3)) w3 (Nat.le_refl _) (Nat.lt_succ_self _)) (.inr (by omega))
    exact hm.up (Nat.le_refl _) (by rw [qset_size]; exact Nat.le_refl _)
  clear HX2 HA2 HY hbO hbP hbN hbS hbV hbG e6 g6 k6 hl0 hl2 hs2
  rintro X9 ⟨HO9, HA9, HB9⟩
  have q0 := OX.cell HO9.out 0
  have q1 := OX.cell HO9.out 1
  have q2 := OX.cell HO9.out 2
  have q3 := OX.cell HO9.out 3
  have q4 := OX.cell HO9.out 4
  have q5 := OX.cell HO9.out 5
  have q6 := OX.cell HO9.out 6
  have q7 := OX.cell HO9.out 7
  simp only [List.getElem?_cons_zero, List.getElem?_cons_succ] at q0 q1 q2 q3 q4 q5 q6 q7
  obtain ⟨⟨u0, s0⟩, g0⟩ := OX.spot HO9.out (i := 0) (by simp)
  obtain ⟨⟨u1, s1⟩, g1⟩ := OX.spot HO9.out (i := 1) (by simp)
  obtain ⟨⟨u2, s2⟩, g2⟩ := OX.spot HO9.out (i := 2) (by simp)
  obtain ⟨⟨u3, s3⟩, g3⟩ := OX.spot HO9.out (i := 3) (by simp)
  obtain ⟨⟨u4, s4⟩, g4⟩ := OX.spot HO9.out (i := 4) (by simp)
  obtain ⟨⟨u5, s5⟩, g5⟩ := OX.spot HO9.out (i := 5) (by simp)
  obtain ⟨⟨u6, s6⟩, g6⟩ := OX.spot HO9.out (i := 6) (by simp)
  obtain ⟨⟨u7, s7⟩, g7⟩ := OX.spot HO9.out (i := 7) (by simp)
  go_wp2_with fail
  have hd : ((((((((X9.setCell ⟨w.heap.size + 1, 0, none⟩ (.slice a1 it.cs.length c1)).setCell ⟨w.heap.size + 1, 1, none⟩ (.int .i64 it.st)).setCell ⟨w.heap.size + 1, 2, none⟩ (.int .i64 it.vk)).setCell ⟨w.heap.size + 1, 3, none⟩ (.int .i64 it.vn)).setCell ⟨w.heap.size + 1, 4, none⟩ (.string it.vt)).setCell ⟨w.heap.size + 1, 5, none⟩ (.string it.on)).setCell ⟨w.heap.size + 1, 6, none⟩ (.slice a3 it.ps.length c3)).setCell ⟨w.heap.size + 1, 7, none⟩ (.int .i64 it.fu)).heap[w.heap.size + 1]? = some (.cells #[(.slice a1 it.cs.length c1), (.int .i64 it.st), (.int .i64 it.vk), (.int .i64 it.vn), (.string it.vt), (.string it.on), (.slice a3 it.ps.length c3), (.int .i64 it.fu)] 56 (0, 0)) ∧ Below w.heap.size w ((((((((X9.setCell ⟨w.heap.size + 1, 0, none⟩ (.slice a1 it.cs.length c1)).setCell ⟨w.heap.size + 1, 1, none⟩ (.int .i64 it.st)).setCell ⟨w.heap.size + 1, 2, none⟩ (.int .i64 it.vk)).setCell ⟨w.heap.size + 1, 3, none⟩ (.int .i64 it.vn)).setCell ⟨w.heap.size + 1, 4, none⟩ (.string it.vt)).setCell ⟨w.heap.size + 1, 5, none⟩ (.string it.on)).setCell ⟨w.heap.size + 1, 6, none⟩ (.slice a3 it.ps.length c3)).setCell ⟨w.heap.size + 1, 7, none⟩ (.int .i64 it.fu)) := OX.done HO9.out [(.slice a1 it.cs.length c1), (.int .i64 it.st), (.int .i64 it.vk), (.int .i64 it.vn), (.string it.vt), (.string it.on), (.slice a3 it.ps.length c3), (.int .i64 it.fu)] rfl _ rfl
  have hM : Mid (w.heap.size + 1) (w.heap.size + 2) X9 ((((((((X9.setCell ⟨w.heap.size + 1, 0, none⟩ (.slice a1 it.cs.length c1)).setCell ⟨w.heap.size + 1, 1, none⟩ (.int .i64 it.st)).setCell ⟨w.heap.size + 1, 2, none⟩ (.int .i64 it.vk)).setCell ⟨w.heap.size + 1, 3, none⟩ (.int .i64 it.vn)).setCell ⟨w.heap.size + 1, 4, none⟩ (.string it.vt)).setCell ⟨w.heap.size + 1, 5, none⟩ (.string it.on)).setCell ⟨w.heap.size + 1, 6, none⟩ (.slice a3 it.ps.length c3)).setCell ⟨w.heap.size + 1, 7, none⟩ (.int .i64 it.fu)) := (((((((((Mid.refl (w.heap.size + 1) (w.heap.size + 2) X9).set (Nat.le_refl _) (Nat.lt_succ_self _)).set (Nat.le_refl _) (Nat.lt_succ_self _)).set (Nat.le_refl _) (Nat.lt_succ_self _)).set (Nat.le_refl _) (Nat.lt_succ_self _)).set (Nat.le_refl _) (Nat.lt_succ_self _)).set (Nat.le_refl _) (Nat.lt_succ_self _)).set (Nat.le_refl _) (Nat.lt_succ_self _)).set (Nat.le_refl _) (Nat.lt_succ_self _))
  have hsM := hM.size
  generalize ((((((((X9.setCell ⟨w.heap.size + 1, 0, none⟩ (.slice a1 it.cs.length c1)).setCell ⟨w.heap.size + 1, 1, none⟩ (.int .i64 it.st)).setCell ⟨w.heap.size + 1, 2, none⟩ (.int .i64 it.vk)).setCell ⟨w.heap.size + 1, 3, none⟩ (.int .i64 it.vn)).setCell ⟨w.heap.size + 1, 4, none⟩ (.string it.vt)).setCell ⟨w.heap.size + 1, 5, none⟩ (.string it.on)).setCell ⟨w.heap.size + 1, 6, none⟩ (.slice a3 it.ps.length c3)).setCell ⟨w.heap.size + 1, 7, none⟩ (.int .i64 it.fu)) = W9 at *
  have m0 := cell_of_block hd.1 0
  have m1 := cell_of_block hd.1 1
  have m2 := cell_of_block hd.1 2
  have m3 := cell_of_block hd.1 3
  have m4 := cell_of_block hd.1 4
  have m5 := cell_of_block hd.1 5
  have m6 := cell_of_block hd.1 6
  have m7 := cell_of_block hd.1 7
  simp only [List.getElem?_toArray, List.getElem?_cons_zero, List.getElem?_cons_succ] at m0 m1 m2 m3 m4 m5 m6 m7
  refine bodyPost_ret (v := otV it (.slice a1 it.cs.length c1) (.slice a3 it.ps.length c3)) (by simp [results, Try.results29, go_sem, m0, m1, m2, m3, m4, m5, m6, m7]) rfl ?_
  exact ⟨_, _, rfl, ⟨((HA9.out.up (Nat.le_refl _) hsM).mid hM (.inr (Nat.le_refl _))).up (by omega) (Nat.le_refl _), ((HB9.out.up (Nat.le_refl _) hsM).mid hM (.inr (Nat.le_refl _))).up (by omega) (Nat.le_refl _)⟩, hd.2⟩
end Go.Proofs.Ythkklmfjdjiafaa

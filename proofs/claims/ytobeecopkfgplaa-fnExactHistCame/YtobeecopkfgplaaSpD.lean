/- What was asked for, and what came, gathered by the specification. -/
import Derived.Test.YtobeecopkfgplaaSpL
import Derived.Test.YtobeecopkfgplaaSpO
import Derived.Test.YtobeecopkfgplaaSpC
namespace Go.Proofs.Ytobeecopkfgplaa
open Go.RowKit
set_option linter.unusedVariables false
set_option linter.unusedSimpArgs false

theorem infoComes : (Try.prog.info? 53).map (fun i => (i.zero, i.size, i.bytes)) = some (some (.agg #[.int .i64 0, .int .i64 0, .string ⟨#[]⟩, .bool false, .int .i64 0, .int .i64 0, .string ⟨#[]⟩]), 7, 72) := by kernel_rfl
abbrev caL (e : Ev) : List Value := [.int .i64 e.ct, .int .i64 e.mp, .string e.mn, .bool e.mo, .int .i64 e.wk, .int .i64 e.wn, .string e.wt]
theorem app_came {W : World} {base : Nat} {v : Value} {A : List Ev} (e : Ev) (hv : W.ownsRow base 53 7 v A.length (A.flatMap caL)) (ad : Addr) (c : Nat) (hu : ∀ j u, (caL e)[j]? = some u → W.cell? (ad.add j) = some u) (hn : A.length + 1 ≤ 4194304) (hb : base ≤ W.heap.size) :
    ∃ v' w2, (Builtin.append_ #[35, 35] 35 #[v, .slice (some ad) 1 c]).run Try.prog W = .ok v' w2 ∧ w2.ownsRow base 53 7 v' (A ++ [e]).length ((A ++ [e]).flatMap caL) ∧ W.grownBy w2 v.ownBlock := by
  obtain ⟨i0, hi, hz0, hz1, hz2⟩ := info_parts infoComes
  obtain ⟨v', w2, hrun, hown, hgrow, _, _⟩ := run_append_own_at (P := Try.prog) W base 35 35 53 i0 _ 7 72 Try.underlying35 hi hz0 hz1 hz2 rfl (by decide) v A.length (A.flatMap caL) hv ad 1 c (caL e) rfl hu (fun u hu => by
    simp only [List.mem_cons, List.not_mem_nil, or_false] at hu
    rcases hu with rfl | rfl | rfl | rfl | rfl | rfl | rfl <;> rfl) (by unfold maxLen; omega) (by omega) hb
  refine ⟨v', w2, hrun, ?_, hgrow⟩
  simpa [List.flatMap_append] using hown
theorem wp_app_came {ops : Array Oper} {rest : List Oper} {o : Oper} {a : Act} {W : World} {Q : Exit → Act → World → Prop} (hgd : o.guard = none) (s x : Operand)
    (ho : o.op = .call { callee := .builtin .append, args := #[s, x], argTypes := #[35, 35] }) (hty : o.type = 35) (base : Nat) (A : List Ev) (e : Ev) (v : Value) (ad : Addr) (c : Nat) (hs : a.eval s = v) (hx : a.eval x = .slice (some ad) 1 c)
    (hv : W.ownsRow base 53 7 v A.length (A.flatMap caL)) (hu : ∀ j u, (caL e)[j]? = some u → W.cell? (ad.add j) = some u) (hn : A.length + 1 ≤ 4194304) (hb : base ≤ W.heap.size)
    (h : ∀ v' w2, Hid (w2.ownsRow base 53 7 v' (A ++ [e]).length ((A ++ [e]).flatMap caL)) → Hid (W.grownBy w2 v.ownBlock) → wpList Try.prog ops Q rest (a.put o.dst v') w2) : wpList Try.prog ops Q (o :: rest) a W := by
  refine wpList_plain hgd fun K hK => ?_
  obtain ⟨v', w2, hrun, h1, h2⟩ := app_came e hv ad c hu hn hb
  unfold Oper.wp
  simp [execOp, ho, resolve, invoke, builtin, hs, hx, hty, hrun, Result.andThen]
  exact hK _ _ (h _ _ h1 h2)
theorem Pl.comesOf_take (l : List Ev) (i : Nat) (e : Ev) (h : l[i]? = some e) : Pl.comesOf (l.take (i + 1)) = if e.k = 4 then Pl.comesOf (l.take i) ++ [e] else Pl.comesOf (l.take i) := by
  rw [List.take_add_one, h]
  exact Pl.comesOf_snoc _ _
set_option maxRecDepth 100000 in
set_option maxHeartbeats 1600000 in
theorem l5Comes_any (l : List Ev) (hN : l.length ≤ 1048576) (v : Value) (w : World) (hr : EvRow w l v) :
    Calls Try.prog 47 #[v] w fun x w' => ∃ v', x = .returned v' ∧ w'.ownsRow w.heap.size 53 7 v' (Pl.comesOf l).length ((Pl.comesOf l).flatMap caL) ∧ Below w.heap.size w w' := by
  obtain ⟨ad, cap, rfl, hc, hmx, hx⟩ := hr
  unfold maxLen at hmx
  have HX := hide hx
  have HM : Hid (∀ i, (Pl.comesOf (l.take i)).length ≤ l.length) := fun i => by
    unfold Pl.comesOf
    refine Nat.le_trans (List.length_filter_le _ _) ?_
    simp [List.length_take]; omega
  clear hx
  go_enter Try.func47, Try.ntmps47
  go_wp2_with fail
  go_loopw [3, 4] (fun ov iv wr => ∃ i : Nat, i ≤ l.length ∧ iv = .int .i64 i ∧ Hid (wr.ownsRow w.heap.size 53 7 ov (Pl.comesOf (l.take i)).length ((Pl.comesOf (l.take i)).flatMap caL)) ∧ Hid (Below w.heap.size w wr)) (fun _ iv _ => l.length - (intOf iv).toNat)
  case atStart => exact ⟨0, by omega, rfl, own_start _ _ _ (by decide), (Below.refl _ _).alloc (Nat.le_refl _) _⟩
  case round =>
    obtain ⟨i, hi, rfl, HO, HB⟩ := hrel
    by_cases hlt : i < l.length
    · obtain ⟨g, off, rfl, hg, hs⟩ := HX.out (by omega)
      obtain ⟨e, he⟩ : ∃ e, l[i]? = some e := ⟨_, List.getElem?_eq_getElem hlt⟩
      obtain ⟨d0, _, _, _, _, _, _, _, _, _, d10, d11, d12, d13, d14, d15, d16⟩ := ((hs i e he).later HB.out hg).cells
      have HT := hide (Pl.comesOf_take l i e he)
      have HL := hide (HM.out i)
      obtain ⟨av, cv, hav⟩ := ownsRow_form HO.out
      subst hav
      generalize Pl.comesOf (l.take i) = A at *
      clear hs he
      have hii : (i : Int) < (l.length : Int) := by omega
      by_cases k3 : e.k = 4
      · have q3 : (e.k == 4) = true := by simp [k3]
        have HN : Hid (Pl.comesOf (l.take (i + 1)) = A ++ [e]) := by show _ = _; rw [HT.out, if_pos k3]
        have hbs : w.heap.size ≤ wr.heap.size := HB.out.size
        have HOW : Hid (∀ C, (wr.alloc (.cells C 53)).ownsRow w.heap.size 53 7 (.slice av A.length cv) A.length (A.flatMap caL)) := fun C => ownsRow_later HO.out ((Below.refl _ _).alloc (Nat.le_refl _) _)
        have HBS : Hid (∀ C, w.heap.size ≤ (wr.alloc (.cells C 53)).heap.size) := fun C => alloc_le hbs
        have HAN : Hid (A.length + 1 ≤ 4194304) := by show _ ≤ _; have := HL.out; omega
        have HRE : Hid (∀ C w2, (wr.alloc (.cells C 53)).grownBy w2 (Value.slice av A.length cv).ownBlock → Below w.heap.size w w2) := fun C w2 hgr => (HB.out.alloc hbs _).grown hgr (HBS.out C) (fun k hk => by have := (HO.out.lt k hk).1; omega)
        clear k3 hbs
        go_wp2_with (first
          | (with_reducible show wpList _ _ _ (Oper.mk _ (Op.call (Call.mk (.builtin .append) _ _)) _ _ _ _ :: _) _ _; refine wp_app_came rfl (.tmp 18) (.tmp 24) rfl rfl w.heap.size A e _ ⟨wr.heap.size, 0, none⟩ 1 rfl rfl (HOW.out _) (cells_top _ _ _) HAN.out (HBS.out _) ?_; intro v2 w2 hv2 hg2))
        exact ⟨⟨i + 1, by omega, by go_num, by rw [HN.out]; exact hv2, HRE.out _ w2 hg2.out⟩, by simp [intOf]; omega⟩
      · have q3 : (e.k == 4) = false := by simp [k3]
        have HN : Hid (Pl.comesOf (l.take (i + 1)) = A) := by show _ = _; rw [HT.out, if_neg k3]
        clear k3
        go_wp2
        go_roundw
        case rel => exact ⟨i + 1, by omega, by go_num, by rw [HN.out]; exact HO, HB⟩
        case measure => simp [intOf]; omega
    · have hie : i = l.length := by omega
      have HE : Hid (Pl.comesOf (l.take i) = Pl.comesOf l) := by show _ = _; rw [hie, List.take_length]
      obtain ⟨av, cv, hav⟩ := ownsRow_form HO.out
      subst hav
      clear hie
      go_wp2
      go_ret
      exact ⟨_, rfl, by rw [← HE.out]; exact HO.out, HB.out⟩
end Go.Proofs.Ytobeecopkfgplaa

/- What was asked for, and what came, gathered by the specification. -/
import Derived.Test.YtobeecopkfgplaaSpL
import Derived.Test.YtobeecopkfgplaaSpO
import Derived.Test.YtobeecopkfgplaaOwn
namespace Go.Proofs.Ytobeecopkfgplaa
open Go.RowKit
set_option linter.unusedVariables false
set_option linter.unusedSimpArgs false
theorem own_start (w : World) (T : TypeId) (size : Nat) (h : 0 < size) : (w.alloc (.cells #[] T)).ownsRow w.heap.size T size (.slice (some ⟨w.heap.size, 0, none⟩) 0 0) 0 [] :=
  ⟨by simp, .inr ⟨w.heap.size, 0, #[], rfl, Nat.le_refl _, by rw [heap_alloc_at, if_pos rfl], Nat.le_refl _, by unfold maxLen; omega, by simp, by simp⟩⟩
theorem alloc_le {n : Nat} {w : World} {o : Obj} (h : n ≤ w.heap.size) : n ≤ (w.alloc o).heap.size := by
  have : (w.alloc o).heap.size = w.heap.size + 1 := by simp
  omega
theorem cells_top (V : World) (L : List Value) (T : TypeId) : ∀ j u, L[j]? = some u → (V.alloc (.cells L.toArray T)).cell? ((⟨V.heap.size, 0, none⟩ : Addr).add j) = some u := by
  intro j u hu
  have hadd : (⟨V.heap.size, 0, none⟩ : Addr).add j = ⟨V.heap.size, j, none⟩ := by unfold Addr.add; split <;> simp_all
  rw [hadd, World.cell?_alloc_at _ _ _ _ rfl]
  simpa using hu

theorem infoCmds : (Try.prog.info? 51).map (fun i => (i.zero, i.size, i.bytes)) = some (some (.agg #[.int .i64 0, .string ⟨#[]⟩, .int .i64 0, .int .i64 0, .string ⟨#[]⟩]), 5, 56) := by kernel_rfl
abbrev cmL (e : Ev) : List Value := [.int .i64 e.ck, .string e.cn, .int .i64 e.ak, .int .i64 e.an, .string e.ax]
theorem app_cmd {W : World} {base : Nat} {v : Value} {A : List Ev} (e : Ev) (hv : W.ownsRow base 51 5 v A.length (A.flatMap cmL)) (ad : Addr) (c : Nat) (hu : ∀ j u, (cmL e)[j]? = some u → W.cell? (ad.add j) = some u) (hn : A.length + 1 ≤ 4194304) (hb : base ≤ W.heap.size) :
    ∃ v' w2, (Builtin.append_ #[30, 30] 30 #[v, .slice (some ad) 1 c]).run Try.prog W = .ok v' w2 ∧ w2.ownsRow base 51 5 v' (A ++ [e]).length ((A ++ [e]).flatMap cmL) ∧ W.grownBy w2 v.ownBlock := by
  obtain ⟨i0, hi, hz0, hz1, hz2⟩ := info_parts infoCmds
  obtain ⟨v', w2, hrun, hown, hgrow, _, _⟩ := run_append_own_at (P := Try.prog) W base 30 30 51 i0 _ 5 56 Try.underlying30 hi hz0 hz1 hz2 rfl (by decide) v A.length (A.flatMap cmL) hv ad 1 c (cmL e) rfl hu (fun u hu => by
    simp only [List.mem_cons, List.not_mem_nil, or_false] at hu
    rcases hu with rfl | rfl | rfl | rfl | rfl <;> rfl) (by unfold maxLen; omega) (by omega) hb
  refine ⟨v', w2, hrun, ?_, hgrow⟩
  simpa [List.flatMap_append] using hown
theorem wp_app_cmd {ops : Array Oper} {rest : List Oper} {o : Oper} {a : Act} {W : World} {Q : Exit → Act → World → Prop} (hgd : o.guard = none) (s x : Operand)
    (ho : o.op = .call { callee := .builtin .append, args := #[s, x], argTypes := #[30, 30] }) (hty : o.type = 30) (base : Nat) (A : List Ev) (e : Ev) (v : Value) (ad : Addr) (c : Nat) (hs : a.eval s = v) (hx : a.eval x = .slice (some ad) 1 c)
    (hv : W.ownsRow base 51 5 v A.length (A.flatMap cmL)) (hu : ∀ j u, (cmL e)[j]? = some u → W.cell? (ad.add j) = some u) (hn : A.length + 1 ≤ 4194304) (hb : base ≤ W.heap.size)
    (h : ∀ v' w2, Hid (w2.ownsRow base 51 5 v' (A ++ [e]).length ((A ++ [e]).flatMap cmL)) → Hid (W.grownBy w2 v.ownBlock) → wpList Try.prog ops Q rest (a.put o.dst v') w2) : wpList Try.prog ops Q (o :: rest) a W := by
  refine wpList_plain hgd fun K hK => ?_
  obtain ⟨v', w2, hrun, h1, h2⟩ := app_cmd e hv ad c hu hn hb
  unfold Oper.wp
  simp [execOp, ho, resolve, invoke, builtin, hs, hx, hty, hrun, Result.andThen]
  exact hK _ _ (h _ _ h1 h2)
theorem Pl.cmdsOf_take (l : List Ev) (i : Nat) (e : Ev) (h : l[i]? = some e) : Pl.cmdsOf (l.take (i + 1)) = if e.k = 3 then Pl.cmdsOf (l.take i) ++ [e] else Pl.cmdsOf (l.take i) := by
  rw [List.take_add_one, h]
  exact Pl.cmdsOf_snoc _ _
set_option maxRecDepth 100000 in
set_option maxHeartbeats 1600000 in
theorem l5Cmds_any (l : List Ev) (hN : l.length ≤ 1048576) (v : Value) (w : World) (hr : EvRow w l v) :
    Calls Try.prog 42 #[v] w fun x w' => ∃ v', x = .returned v' ∧ w'.ownsRow w.heap.size 51 5 v' (Pl.cmdsOf l).length ((Pl.cmdsOf l).flatMap cmL) ∧ Below w.heap.size w w' := by
  obtain ⟨ad, cap, rfl, hc, hmx, hx⟩ := hr
  unfold maxLen at hmx
  have HX := hide hx
  have HM : Hid (∀ i, (Pl.cmdsOf (l.take i)).length ≤ l.length) := fun i => by
    unfold Pl.cmdsOf
    refine Nat.le_trans (List.length_filter_le _ _) ?_
    simp [List.length_take]; omega
  clear hx
  go_enter Try.func42, Try.ntmps42
  go_wp2_with fail
  go_loopw [3, 4] (fun ov iv wr => ∃ i : Nat, i ≤ l.length ∧ iv = .int .i64 i ∧ Hid (wr.ownsRow w.heap.size 51 5 ov (Pl.cmdsOf (l.take i)).length ((Pl.cmdsOf (l.take i)).flatMap cmL)) ∧ Hid (Below w.heap.size w wr)) (fun _ iv _ => l.length - (intOf iv).toNat)
  case atStart => exact ⟨0, by omega, rfl, own_start _ _ _ (by decide), (Below.refl _ _).alloc (Nat.le_refl _) _⟩
  case round =>
    obtain ⟨i, hi, rfl, HO, HB⟩ := hrel
    by_cases hlt : i < l.length
    · obtain ⟨g, off, rfl, hg, hs⟩ := HX.out (by omega)
      obtain ⟨e, he⟩ : ∃ e, l[i]? = some e := ⟨_, List.getElem?_eq_getElem hlt⟩
      obtain ⟨d0, _, _, _, _, d5, d6, d7, d8, d9, _, _, _, _, _, _, _⟩ := ((hs i e he).later HB.out hg).cells
      have HT := hide (Pl.cmdsOf_take l i e he)
      have HL := hide (HM.out i)
      obtain ⟨av, cv, hav⟩ := ownsRow_form HO.out
      subst hav
      generalize Pl.cmdsOf (l.take i) = A at *
      clear hs he
      have hii : (i : Int) < (l.length : Int) := by omega
      by_cases k3 : e.k = 3
      · have q3 : (e.k == 3) = true := by simp [k3]
        have HN : Hid (Pl.cmdsOf (l.take (i + 1)) = A ++ [e]) := by show _ = _; rw [HT.out, if_pos k3]
        have hbs : w.heap.size ≤ wr.heap.size := HB.out.size
        have HOW : Hid (∀ C, (wr.alloc (.cells C 51)).ownsRow w.heap.size 51 5 (.slice av A.length cv) A.length (A.flatMap cmL)) := fun C => ownsRow_later HO.out ((Below.refl _ _).alloc (Nat.le_refl _) _)
        have HBS : Hid (∀ C, w.heap.size ≤ (wr.alloc (.cells C 51)).heap.size) := fun C => alloc_le hbs
        have HAN : Hid (A.length + 1 ≤ 4194304) := by show _ ≤ _; have := HL.out; omega
        have HRE : Hid (∀ C w2, (wr.alloc (.cells C 51)).grownBy w2 (Value.slice av A.length cv).ownBlock → Below w.heap.size w w2) := fun C w2 hgr => (HB.out.alloc hbs _).grown hgr (HBS.out C) (fun k hk => by have := (HO.out.lt k hk).1; omega)
        clear k3 hbs
        go_wp2_with (first
          | (with_reducible show wpList _ _ _ (Oper.mk _ (Op.call (Call.mk (.builtin .append) _ _)) _ _ _ _ :: _) _ _; refine wp_app_cmd rfl (.tmp 18) (.tmp 24) rfl rfl w.heap.size A e _ ⟨wr.heap.size, 0, none⟩ 1 rfl rfl (HOW.out _) (cells_top _ _ _) HAN.out (HBS.out _) ?_; intro v2 w2 hv2 hg2))
        exact ⟨⟨i + 1, by omega, by go_num, by rw [HN.out]; exact hv2, HRE.out _ w2 hg2.out⟩, by simp [intOf]; omega⟩
      · have q3 : (e.k == 3) = false := by simp [k3]
        have HN : Hid (Pl.cmdsOf (l.take (i + 1)) = A) := by show _ = _; rw [HT.out, if_neg k3]
        clear k3
        go_wp2
        go_roundw
        case rel => exact ⟨i + 1, by omega, by go_num, by rw [HN.out]; exact HO, HB⟩
        case measure => simp [intOf]; omega
    · have hie : i = l.length := by omega
      have HE : Hid (Pl.cmdsOf (l.take i) = Pl.cmdsOf l) := by show _ = _; rw [hie, List.take_length]
      obtain ⟨av, cv, hav⟩ := ownsRow_form HO.out
      subst hav
      clear hie
      go_wp2
      go_ret
      exact ⟨_, rfl, by rw [← HE.out]; exact HO.out, HB.out⟩
end Go.Proofs.Ytobeecopkfgplaa

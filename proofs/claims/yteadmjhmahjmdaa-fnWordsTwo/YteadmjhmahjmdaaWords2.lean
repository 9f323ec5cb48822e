/- The words of a text, as the program has it. -/
import Derived.Test.YteadmjhmahjmdaaRfLaw
import Derived.Shelf.RegionOpen
namespace Go.Proofs.Yteadmjhmahjmdaa
open Go.RowKit Go.Shelf
set_option linter.unusedVariables false
attribute [local go_sem] Oper.semAt_some

theorem wordsOf_in (n : Nat) (s : ByteArray) (w : World) :
    CallsIn Fence.wide n Try.prog 16 #[.string s] w fun e w' => e = .returned (.func (.func 23) #[] #[.pointer (some ⟨w.heap.size, 0, none⟩)]) ∧ w' = w.alloc (.cells #[.string s] 9) := by
  refine callsIn_of_wp Try.func16 rfl trivial ?_ rfl
  simp only [Try.ntmps16, List.size_toArray, List.length_cons, List.length_nil, Nat.reduceAdd, Nat.reduceSub, Array.replicate_succ, Array.replicate_zero, List.push_toArray, List.append_toArray, List.nil_append, List.cons_append]
  gi_wp2
  go_ret
  exact ⟨rfl, rfl⟩

/-- between two rounds: the two results as they began, the list that holds what came -/
def WI (w : World) (pre : List (List UInt8)) (W : World) : Prop :=
  Boxed W w.heap.size 24 (.slice none 0 0) ∧ Boxed W (w.heap.size + 1) 4 (.bool false) ∧
  (∃ v, Boxed W (w.heap.size + 2) 24 v ∧ W.ownsRow (w.heap.size + 4) 9 1 v pre.length (pre.map sv)) ∧ Below w.heap.size w W ∧ w.heap.size + 4 ≤ W.heap.size
/-- behind a round that returned -/
def WX (w : World) (W : World) : Prop :=
  Boxed W w.heap.size 24 (.slice none 0 0) ∧ Boxed W (w.heap.size + 1) 4 (.bool false) ∧ Below w.heap.size w W

theorem WI_kept {w : World} {pre : List (List UInt8)} {W W' : World} {row : Option Nat} (h : WI w pre W) (hg : W.grownBy W' row)
    (hr : ∀ k, row = some k → k = w.heap.size + 3 ∨ (w.heap.size + 4 ≤ k ∧ ∃ o : Obj, W.heap[k]? = some o ∧ o.isCells = false)) : WI w pre W' := by
  obtain ⟨h1, h2, ⟨v, h3, h4⟩, h5, h6⟩ := h
  have hne : ∀ j, j < w.heap.size + 3 → some j ≠ row := by
    intro j hj e
    rcases hr j e.symm with h | h <;> omega
  refine ⟨h1.kept hg (hne _ (by omega)), h2.kept hg (hne _ (by omega)), ⟨v, h3.kept hg (hne _ (by omega)), h4.kept hg ?_⟩, h5.grown hg h5.size (fun k e => by rcases hr k e with h | h <;> omega), Nat.le_trans h6 hg.size⟩
  cases hv : v.ownBlock with
  | none => exact .inl rfl
  | some g =>
    refine .inr (fun e => ?_)
    have hlt := h4.lt g hv
    rcases hr g e.symm with h | ⟨_, o, ho, hc⟩
    · omega
    · rcases h4.2 with ⟨rfl, _⟩ | ⟨g', cap, cur, rfl, _, hg', _⟩
      · cases hv
      · have : g' = g := by simpa [Value.ownBlock] using hv
        subst this
        rw [hg'] at ho
        cases ho
        cases hc

theorem WX_kept {w : World} {W W' : World} {row : Option Nat} (h : WX w W) (hg : W.grownBy W' row) (hr : ∀ k, row = some k → w.heap.size + 2 ≤ k) : WX w W' := by
  obtain ⟨h1, h2, h5⟩ := h
  have hne : ∀ j, j < w.heap.size + 2 → some j ≠ row := by
    intro j hj e
    have := hr j e.symm
    omega
  exact ⟨h1.kept hg (hne _ (by omega)), h2.kept hg (hne _ (by omega)), h5.grown hg h5.size (fun k e => by have := hr k e; omega)⟩

theorem ownsRow_base {w : World} {base base' : Nat} {e : TypeId} {size : Nat} {v : Value} {n : Nat} {xs : List Value} (h : w.ownsRow base e size v n xs) (hb : base' ≤ base) : w.ownsRow base' e size v n xs := by
  refine ⟨h.1, ?_⟩
  rcases h.2 with hn | ⟨g, cap, cur, hv, hg, rest⟩
  · exact .inl hn
  · exact .inr ⟨g, cap, cur, hv, Nat.le_trans hb hg, rest⟩
theorem ownsRow_form {w : World} {base : Nat} {e : TypeId} {size : Nat} {v : Value} {n : Nat} {xs : List Value} (h : w.ownsRow base e size v n xs) : ∃ a c, v = .slice a n c := by
  rcases h.2 with ⟨rfl, rfl⟩ | ⟨g, cap, cur, rfl, _⟩
  · exact ⟨_, _, rfl⟩
  · exact ⟨_, _, rfl⟩

/-- an append inside a region that draws, in a fence: its run being known -/
theorem stepIn_append {F : Fence} {n : Nat} {P : Program} (w : World) {o : Oper} {a : Act} {K : Act → World → Prop} {Q : Exit → Act → World → Prop} (s x : Operand) (t : TypeId)
    (hop : o.op = Op.call { callee := Callee.builtin Builtin.append, args := #[s, x], argTypes := #[t, t] }) {v u v' : Value} {w' : World} (hs : a.eval s = v) (hx : a.eval x = u)
    (hrun : (Builtin.append_ #[t, t] o.type #[v, u]).run P w = .ok v' w') (hK : K (a.put o.dst v') w') : Oper.wpIn F n P o a w K Q := by
  unfold Oper.wpIn
  refine ⟨?_, ?_⟩
  · simp [Oper.about, hop, resolve, Target.leads, Sem.run_pure]
  · rw [Oper.semAt_plain F _ _ (by rw [hop]; intro c hc'; cases hc')]
    simp [execOp, hop, resolve, invoke, builtin, hs, hx, hrun, Result.andThen]
    exact hK

/-- behind the copy of a word: what the append comes to, and that the list's box stands -/
theorem app_after (i0 : TypeInfo) (hi : Try.prog.info? 9 = some i0) (hz0 : i0.zero = some (.string ⟨#[]⟩)) (hz1 : i0.size = 1) (hz2 : i0.bytes = 16)
    {w W w1 : World} {v : Value} {pre : List (List UInt8)} (h3 : Boxed W (w.heap.size + 2) 24 v) (h4 : W.ownsRow (w.heap.size + 4) 9 1 v pre.length (pre.map sv)) (h5 : Below w.heap.size w W)
    (hB1 : Below W.drew.heap.size W.drew w1) (x : List UInt8) (hpl : pre.length ≤ 2097152) (hW : w.heap.size + 4 ≤ W.heap.size) :
    ∃ v' w2, (Builtin.append_ #[24, 24] 24 #[v, .slice (some ⟨w1.heap.size, 0, none⟩) 1 1]).run Try.prog (w1.alloc (.cells #[.string (Pl.bs x)] 9)) = .ok v' w2 ∧
      w2.ownsRow (w.heap.size + 4) 9 1 v' (pre ++ [x]).length ((pre ++ [x]).map sv) ∧ (w1.alloc (.cells #[.string (Pl.bs x)] 9)).grownBy w2 v.ownBlock ∧
      w1.cell? ⟨w.heap.size + 2, 0, none⟩ = some v ∧ (w1.alloc (.cells #[.string (Pl.bs x)] 9)).cell? ⟨w.heap.size + 2, 0, none⟩ = some v ∧ w2.cell? ⟨w.heap.size + 2, 0, none⟩ = some v ∧ w2.frozen? ⟨w.heap.size + 2, 0, none⟩ = false ∧ ∃ g' cap', v' = .slice (some ⟨g', 0, none⟩) (pre.length + 1) cap' := by
  have hg1 : W.grownBy w1 none := ⟨hB1.os, hB1.tape, hB1.output, hB1.size, fun k hk _ => hB1.block k hk⟩
  have h41 : w1.ownsRow (w.heap.size + 4) 9 1 v pre.length (pre.map sv) := h4.kept hg1 (by cases hv : v.ownBlock <;> simp)
  have h31 : Boxed w1 (w.heap.size + 2) 24 v := h3.kept hg1 (by simp)
  have hs1 : W.heap.size ≤ w1.heap.size := hB1.size
  obtain ⟨v', w2, hrun, hown, hgrow, _⟩ := run_append_own (P := Try.prog) (w1.alloc (.cells #[.string (Pl.bs x)] 9)) (w.heap.size + 4) 24 24 9 i0 (.string ⟨#[]⟩) 1 16 Try.underlying24 hi hz0 hz1 hz2 rfl (by decide) v pre.length (pre.map sv) (h41.alloc _) ⟨w1.heap.size, 0, none⟩ 1 1 [.string (Pl.bs x)] rfl (cell_one_new _ _ _) (by intro u hu; simp at hu; subst hu; rfl) (by unfold maxLen; omega) (by omega) (by simp; omega)
  have hne : some (w.heap.size + 2) ≠ v.ownBlock := by
    intro e
    have := (h41.lt _ e.symm).1
    omega
  have h32 := (h31.alloc (.cells #[.string (Pl.bs x)] 9)).kept hgrow hne
  exact ⟨v', w2, hrun, by simpa using hown, hgrow, h31.cell, (h31.alloc _).cell, h32.cell, h32.frozen, ownsRow_succ hown⟩

/-- behind a word's round: all that was kept is kept, and the list holds one more -/
theorem end_word {w W w1 w2 : World} {v v' : Value} {pre : List (List UInt8)} {x : List UInt8} {o : Obj}
    (h1 : Boxed W w.heap.size 24 (.slice none 0 0)) (h2 : Boxed W (w.heap.size + 1) 4 (.bool false)) (h3 : Boxed W (w.heap.size + 2) 24 v)
    (h4 : W.ownsRow (w.heap.size + 4) 9 1 v pre.length (pre.map sv)) (h5 : Below w.heap.size w W) (hWs : w.heap.size + 4 ≤ W.heap.size)
    (hB1 : Below W.drew.heap.size W.drew w1) (hown : w2.ownsRow (w.heap.size + 4) 9 1 v' (pre ++ [x]).length ((pre ++ [x]).map sv)) (hgrow : (w1.alloc o).grownBy w2 v.ownBlock) :
    KeepsFrom (w.heap.size + 4) W (w2.setCell ⟨w.heap.size + 2, 0, none⟩ v') ∧ (w2.setCell ⟨w.heap.size + 2, 0, none⟩ v').heap[w.heap.size + 3]? = W.heap[w.heap.size + 3]? ∧ WI w (pre ++ [x]) (w2.setCell ⟨w.heap.size + 2, 0, none⟩ v') := by
  have hg1 : W.grownBy w1 none := ⟨hB1.os, hB1.tape, hB1.output, hB1.size, fun k hk _ => hB1.block k hk⟩
  have h41 : w1.ownsRow (w.heap.size + 4) 9 1 v pre.length (pre.map sv) := h4.kept hg1 (by cases hv : v.ownBlock <;> simp)
  have hs1 : W.heap.size ≤ w1.heap.size := hB1.size
  have hs2 := hgrow.size
  simp only [World.size_alloc] at hs2
  have hlow : ∀ j, j < w.heap.size + 4 → some j ≠ v.ownBlock := by
    intro j hj e
    have := (h41.lt _ e.symm).1
    omega
  have up : ∀ {B : Nat} {t : TypeId} {u : Value}, B < w.heap.size + 4 → Boxed W B t u → Boxed w2 B t u := fun hB h => ((h.kept hg1 (by simp)).alloc o).kept hgrow (hlow _ hB)
  have hkeep : KeepsOthers W w2 := ((KeepsOthers.of_grownBy hg1 (fun j o e => by cases e)).trans (KeepsOthers.alloc _ _)).trans (KeepsOthers.of_grownBy hgrow (fun j o' e ho => by
    rcases (h41.alloc o).2 with ⟨rfl, _⟩ | ⟨g, cap, cur, rfl, _, hg, _⟩
    · cases e
    · cases e
      rw [hg] at ho
      cases ho
      rfl))
  refine ⟨(hkeep.trans (KeepsOthers.setCell _ _ _)).from _, ?_, ?_⟩
  · rw [set_other (by omega), hgrow.block _ (by simp; omega) (hlow _ (by omega)), Below.heap_alloc _ _ _ (by omega)]
    exact hB1.block _ (by show w.heap.size + 3 < W.heap.size; omega)
  · refine ⟨(up (by omega) h1).other (by omega) _, (up (by omega) h2).other (by omega) _, ⟨v', (up (by omega) h3).set v', ?_⟩, ?_, ?_⟩
    · refine hown.kept (grownBy_setCell' w2 _ v') (.inr (fun e => ?_))
      have := (hown.lt _ e).1
      omega
    · have q1 : Below w.heap.size w w1 := h5.drew.trans (hB1.mono h5.size)
      have q2 : Below w.heap.size w (w1.alloc o) := q1.alloc q1.size _
      have q3 : Below w.heap.size w w2 := q2.grown hgrow q2.size (fun k e => by have := (h41.lt k e).1; omega)
      exact q3.setCell (p := ⟨w.heap.size + 2, 0, none⟩) (by simp) _
    · have : (w2.setCell ⟨w.heap.size + 2, 0, none⟩ v').heap.size = w2.heap.size := by simp
      omega

set_option maxRecDepth 100000 in
set_option maxHeartbeats 2000000 in
theorem implWords_any (s : ByteArray) (hs : s.size ≤ 2097152) (w : World) :
    Calls Try.prog 7 #[.string s] w fun e w' => ∃ v, e = .returned (.tuple #[v, .bool (Pl.tk s.data.toList).2]) ∧ w'.ownsRow w.heap.size 9 1 v (Pl.wordsL s.data.toList).length ((Pl.wordsL s.data.toList).map sv) ∧ Below w.heap.size w w' := by
  refine (callsIn_wide (n := 6)).1 ?_
  obtain ⟨i0, hi, hz0, hz1, hz2⟩ := info_parts infoStr
  have hF1 : Fence.wide.fn 16 := trivial
  have hF2 : Fence.wide.fn 17 := trivial
  refine callsIn_of_wp_marks Try.func7 rfl trivial ?_ rfl
  simp only [Try.ntmps7, List.size_toArray, List.length_cons, List.length_nil, Nat.reduceAdd, Nat.reduceSub, Array.replicate_succ, Array.replicate_zero, List.push_toArray, List.append_toArray, List.nil_append, List.cons_append]
  gi_wp2_with (gi_at_call 16; refine (wordsOf_in _ _ _).mono ?_; rintro e w' ⟨rfl, rfl⟩)
  obtain ⟨W0, hW0⟩ : ∃ W0, W0 = ((((w.alloc (Obj.cells #[Value.slice none 0 0] 24)).alloc (Obj.cells #[Value.bool false] 4)).alloc (Obj.cells #[Value.slice none 0 0] 24)).alloc (Obj.cells #[Value.string s] 9)) := ⟨_, rfl⟩
  have hsz : W0.heap.size = w.heap.size + 4 := by rw [hW0]; simp
  have hbox : boxT W0 (w.heap.size + 3) s := by
    have := Boxed.new (((w.alloc (Obj.cells #[Value.slice none 0 0] 24)).alloc (Obj.cells #[Value.bool false] 4)).alloc (Obj.cells #[Value.slice none 0 0] 24)) 9 (.string s)
    simp only [World.size_alloc] at this
    rw [hW0]; exact this
  have hWI : WI w [] W0 := by
    have b1 := (((Boxed.new w 24 (.slice none 0 0)).alloc (Obj.cells #[Value.bool false] 4)).alloc (Obj.cells #[Value.slice none 0 0] 24)).alloc (Obj.cells #[Value.string s] 9)
    have b2 := ((Boxed.new (w.alloc (Obj.cells #[Value.slice none 0 0] 24)) 4 (.bool false)).alloc (Obj.cells #[Value.slice none 0 0] 24)).alloc (Obj.cells #[Value.string s] 9)
    have b3 := (Boxed.new ((w.alloc (Obj.cells #[Value.slice none 0 0] 24)).alloc (Obj.cells #[Value.bool false] 4)) 24 (.slice none 0 0)).alloc (Obj.cells #[Value.string s] 9)
    simp only [World.size_alloc] at b2 b3
    rw [hW0]
    exact ⟨b1, b2, ⟨_, b3, World.ownsRow_nil _ _ _ _⟩, ((((Below.refl _ w).alloc (Nat.le_refl _) _).alloc (by simp) _).alloc (by simp; omega) _).alloc (by simp; omega) _, by simp⟩
  rw [← hW0]
  have HW0 := hide hW0
  clear hW0
  refine rf_words (gf := 23) (lb := #[.pointer (some ⟨w.heap.size + 1 + 1 + 1, 0, none⟩)]) rfl (enters_of Try.func23 (by kernel_rfl) rfl) rfl (Bt := w.heap.size + 3) (by omega)
    (iter_owes _ (by decide) (w.heap.size + 3) s hs W0 hbox) (WI w) (WX w) ?al ?pu ?xu ?se ?dr hWI
    (fun x => { tmps := #[.string s, undef, .pointer (some ⟨w.heap.size, 0, none⟩), .pointer (some ⟨w.heap.size + 1, 0, none⟩), .pointer (some ⟨w.heap.size + 1 + 1, 0, none⟩), sv x, .string s, .func (Fn.func 23) #[] #[.pointer (some ⟨w.heap.size + 1 + 1 + 1, 0, none⟩)], sv x, undef, undef, undef, undef, undef, undef, undef, undef], defers := [] }) ?assign ?body1 ?body0 ?done ?stop
  case al => exact fun pre W o h => WI_kept h (World.grownBy_alloc W o none) (fun k e => by cases e)
  case pu => exact fun pre W k o o' hk ho hc h => WI_kept h (grownBy_putObj' W k o) (fun j e => by cases e; exact .inr ⟨by omega, o', ho, hc⟩)
  case xu => exact fun W k o o' hk ho hc h => WX_kept h (grownBy_putObj' W k o) (fun j e => by cases e; omega)
  case se => exact fun pre W v h => WI_kept h (grownBy_setCell' W _ v) (fun j e => by cases e; exact .inl rfl)
  case dr => exact fun pre W k h => WI_kept (W' := World.drewN W k) (row := none) h ⟨rfl, rfl, rfl, Nat.le_refl _, fun _ _ _ => rfl⟩ (fun k e => by cases e)
  case assign =>
    intro l x W K hK
    gi_wp2
    exact hK
  case body1 =>
    rintro l pre x W hx hpl hxl hI
    obtain ⟨h1, h2, ⟨v, h3, h4⟩, h5, hWs⟩ := hI
    have c3 := h3.cell
    have f3 := h3.frozen
    have he : (Pl.bs x).toList.isEmpty = false := by
      rw [Pl.bs_toList]; cases x with
      | nil => exact absurd rfl hx
      | cons a b => rfl
    have hcl := hide (clone_any (Pl.bs x) (by rw [Pl.bs_size]; omega))
    have hmx : Try.prog.follows .mixedOrders = true := by kernel_rfl
    have hd : 1 ≤ 6 - 1 - 1 := by omega
    gi_wp2
    refine wpIn_region_any hmx ?_
    refine wpAnyIn_ready (rs := [0, 1]) (by kernel_rfl) (by simp) ?_
    refine AllReadyIn.cons rfl (fun K hK => ?_) (AllReadyIn.cons rfl (fun K hK => ?_) AllReadyIn.nil)
    · go_simp
      refine hK _ _ ?_
      clear hK K
      refine wpAnyIn_ready (rs := [1]) (by kernel_rfl) (by simp) ?_
      refine AllReadyIn.cons rfl (fun K hK => ?_) AllReadyIn.nil
      go_simp
      refine hK _ _ ?_
      clear hK K
      refine wpAnyIn_ready (rs := [2]) (by kernel_rfl) (by simp) ?_
      refine AllReadyIn.cons rfl (fun K hK => ?_) AllReadyIn.nil
      go_simp
      refine (CallsIn.inRound l (callsIn_wide.2 (hcl.out _))).mono ?_
      rintro e w1 ⟨rfl, hB1⟩
      obtain ⟨v', w2, hrun, hown', hgrow', c31, c33, c32, f32, hv'⟩ := app_after i0 hi hz0 hz1 hz2 h3 h4 h5 hB1 x (by omega) hWs
      obtain ⟨g', cap', rfl⟩ := hv'
      refine hK _ _ ?_
      clear hK K
      refine wpAnyIn_ready (rs := [3]) (by kernel_rfl) (by simp) ?_
      refine AllReadyIn.cons rfl (fun K hK => ?_) AllReadyIn.nil
      go_simp
      refine hK _ _ ?_
      clear hK K
      refine wpAnyIn_ready (rs := [4]) (by kernel_rfl) (by simp) ?_
      refine AllReadyIn.cons rfl (fun K hK => ?_) AllReadyIn.nil
      refine stepIn_append _ (.tmp 11) (.tmp 14) 24 rfl rfl rfl hrun ?_
      refine hK _ _ ?_
      clear hK K
      refine wpAnyIn_ready (rs := [5]) (by kernel_rfl) (by simp) ?_
      refine AllReadyIn.cons rfl (fun K hK => ?_) AllReadyIn.nil
      go_simp
      refine hK _ _ ?_
      clear hK K
      refine wpAnyIn_done (by kernel_rfl) ?_ _
      gi_wp2
      exact end_word h1 h2 h3 h4 h5 hWs hB1 hown' hgrow'
    · go_simp
      refine hK _ _ ?_
      clear hK K
      refine wpAnyIn_ready (rs := [0, 2]) (by kernel_rfl) (by simp) ?_
      refine AllReadyIn.cons rfl (fun K hK => ?_) (AllReadyIn.cons rfl (fun K hK => ?_) AllReadyIn.nil)
      · go_simp
        refine hK _ _ ?_
        clear hK K
        refine wpAnyIn_ready (rs := [2]) (by kernel_rfl) (by simp) ?_
        refine AllReadyIn.cons rfl (fun K hK => ?_) AllReadyIn.nil
        go_simp
        refine (CallsIn.inRound l (callsIn_wide.2 (hcl.out _))).mono ?_
        rintro e w1 ⟨rfl, hB1⟩
        obtain ⟨v', w2, hrun, hown', hgrow', c31, c33, c32, f32, hv'⟩ := app_after i0 hi hz0 hz1 hz2 h3 h4 h5 hB1 x (by omega) hWs
        obtain ⟨g', cap', rfl⟩ := hv'
        refine hK _ _ ?_
        clear hK K
        refine wpAnyIn_ready (rs := [3]) (by kernel_rfl) (by simp) ?_
        refine AllReadyIn.cons rfl (fun K hK => ?_) AllReadyIn.nil
        go_simp
        refine hK _ _ ?_
        clear hK K
        refine wpAnyIn_ready (rs := [4]) (by kernel_rfl) (by simp) ?_
        refine AllReadyIn.cons rfl (fun K hK => ?_) AllReadyIn.nil
        refine stepIn_append _ (.tmp 11) (.tmp 14) 24 rfl rfl rfl hrun ?_
        refine hK _ _ ?_
        clear hK K
        refine wpAnyIn_ready (rs := [5]) (by kernel_rfl) (by simp) ?_
        refine AllReadyIn.cons rfl (fun K hK => ?_) AllReadyIn.nil
        go_simp
        refine hK _ _ ?_
        clear hK K
        refine wpAnyIn_done (by kernel_rfl) ?_ _
        gi_wp2
        exact end_word h1 h2 h3 h4 h5 hWs hB1 hown' hgrow'
      · go_simp
        refine (CallsIn.inRound l (callsIn_wide.2 (hcl.out _))).mono ?_
        rintro e w1 ⟨rfl, hB1⟩
        obtain ⟨v', w2, hrun, hown', hgrow', c31, c33, c32, f32, hv'⟩ := app_after i0 hi hz0 hz1 hz2 h3 h4 h5 hB1 x (by omega) hWs
        obtain ⟨g', cap', rfl⟩ := hv'
        refine hK _ _ ?_
        clear hK K
        refine wpAnyIn_ready (rs := [0, 3]) (by kernel_rfl) (by simp) ?_
        refine AllReadyIn.cons rfl (fun K hK => ?_) (AllReadyIn.cons rfl (fun K hK => ?_) AllReadyIn.nil)
        · go_simp
          refine hK _ _ ?_
          clear hK K
          refine wpAnyIn_ready (rs := [3]) (by kernel_rfl) (by simp) ?_
          refine AllReadyIn.cons rfl (fun K hK => ?_) AllReadyIn.nil
          go_simp
          refine hK _ _ ?_
          clear hK K
          refine wpAnyIn_ready (rs := [4]) (by kernel_rfl) (by simp) ?_
          refine AllReadyIn.cons rfl (fun K hK => ?_) AllReadyIn.nil
          refine stepIn_append _ (.tmp 11) (.tmp 14) 24 rfl rfl rfl hrun ?_
          refine hK _ _ ?_
          clear hK K
          refine wpAnyIn_ready (rs := [5]) (by kernel_rfl) (by simp) ?_
          refine AllReadyIn.cons rfl (fun K hK => ?_) AllReadyIn.nil
          go_simp
          refine hK _ _ ?_
          clear hK K
          refine wpAnyIn_done (by kernel_rfl) ?_ _
          gi_wp2
          exact end_word h1 h2 h3 h4 h5 hWs hB1 hown' hgrow'
        · go_simp
          refine hK _ _ ?_
          clear hK K
          refine wpAnyIn_ready (rs := [0]) (by kernel_rfl) (by simp) ?_
          refine AllReadyIn.cons rfl (fun K hK => ?_) AllReadyIn.nil
          go_simp
          refine hK _ _ ?_
          clear hK K
          refine wpAnyIn_ready (rs := [4]) (by kernel_rfl) (by simp) ?_
          refine AllReadyIn.cons rfl (fun K hK => ?_) AllReadyIn.nil
          refine stepIn_append _ (.tmp 11) (.tmp 14) 24 rfl rfl rfl hrun ?_
          refine hK _ _ ?_
          clear hK K
          refine wpAnyIn_ready (rs := [5]) (by kernel_rfl) (by simp) ?_
          refine AllReadyIn.cons rfl (fun K hK => ?_) AllReadyIn.nil
          go_simp
          refine hK _ _ ?_
          clear hK K
          refine wpAnyIn_done (by kernel_rfl) ?_ _
          gi_wp2
          exact end_word h1 h2 h3 h4 h5 hWs hB1 hown' hgrow'
  case body0 =>
    rintro l pre W hI
    obtain ⟨h1, h2, ⟨v, h3, h4⟩, h5, hWs⟩ := hI
    have c1 := h1.cell
    have f1 := h1.frozen
    have c2 := h2.cell
    have f2 := h2.frozen
    have he : (Pl.bs []).toList.isEmpty = true := by rw [Pl.bs_toList]; rfl
    gi_wp2
    have k1 : KeepsOthers W ((W.setCell ⟨w.heap.size, 0, none⟩ (.slice none 0 0)).setCell ⟨w.heap.size + 1, 0, none⟩ (.bool false)) := (KeepsOthers.setCell _ _ _).trans (KeepsOthers.setCell _ _ _)
    refine ⟨k1.from _, ?_, ?_, ?_⟩
    · exact (h1.set (.slice none 0 0)).other (by omega) _
    · exact (h2.other (by omega) _).set _
    · exact (h5.setCell (p := ⟨w.heap.size, 0, none⟩) (Nat.le_refl _) _).setCell (p := ⟨w.heap.size + 1, 0, none⟩) (by simp) _
  case done =>
    rintro D W hD hok hI hK
    obtain ⟨h1, h2, ⟨v, h3, h4⟩, h5, hWs⟩ := hI
    obtain ⟨ad, cp, rfl⟩ := ownsRow_form h4
    have c1 := h1.cell
    have f1 := h1.frozen
    have c2 := h2.cell
    have f2 := h2.frozen
    have c3 := h3.cell
    gi_wp2
    refine ⟨by simp, .inl ⟨_, _, rfl, run_takeDeferred (((KeepsOthers.setCell _ _ _).trans (KeepsOthers.setCell _ _ _)).same D _ hK rfl), ?_⟩⟩
    obtain ⟨W9, hW9⟩ : ∃ W9, W9 = ((W.setCell ⟨w.heap.size, 0, none⟩ (.slice ad (Pl.tk s.data.toList).1.length cp)).setCell ⟨w.heap.size + 1, 0, none⟩ (.bool true)).putObj D (.deferred none) := ⟨_, rfl⟩
    have hK2 : ((W.setCell ⟨w.heap.size, 0, none⟩ (.slice ad (Pl.tk s.data.toList).1.length cp)).setCell ⟨w.heap.size + 1, 0, none⟩ (.bool true)).heap[D]? = some (.deferred (some [])) := ((KeepsOthers.setCell _ _ _).trans (KeepsOthers.setCell _ _ _)).same D _ hK rfl
    have g9 := grownBy_putObj' ((W.setCell ⟨w.heap.size, 0, none⟩ (.slice ad (Pl.tk s.data.toList).1.length cp)).setCell ⟨w.heap.size + 1, 0, none⟩ (.bool true)) D (.deferred none)
    have r1 : Boxed W9 w.heap.size 24 (.slice ad (Pl.tk s.data.toList).1.length cp) := by
      rw [hW9]; exact ((h1.set _).other (by omega) _).kept g9 (by intro e; cases e; omega)
    have r2 : Boxed W9 (w.heap.size + 1) 4 (.bool true) := by
      rw [hW9]; exact ((h2.other (by omega) _).set _).kept g9 (by intro e; cases e; omega)
    have r4 : W9.ownsRow (w.heap.size + 4) 9 1 (.slice ad (Pl.tk s.data.toList).1.length cp) (Pl.tk s.data.toList).1.length ((Pl.tk s.data.toList).1.map sv) := by
      rw [hW9]
      refine ownsRow_putObj ((h4.kept (grownBy_setCell' W _ _) (.inr (fun e => ?_))).kept (grownBy_setCell' _ _ _) (.inr (fun e => ?_))) _ hK2 rfl
      · have := (h4.lt _ e).1; omega
      · have := (h4.lt _ e).1; omega
    have r5 : Below w.heap.size w W9 := by
      rw [hW9]
      exact ((h5.setCell (p := ⟨w.heap.size, 0, none⟩) (Nat.le_refl _) _).setCell (p := ⟨w.heap.size + 1, 0, none⟩) (by simp) _).grown g9 (by simp; omega) (fun k e => by cases e; omega)
    rw [← hW9]
    have d1 := r1.cell
    have d2 := r2.cell
    have hwl : Pl.wordsL s.data.toList = (Pl.tk s.data.toList).1 := by unfold Pl.wordsL; rw [if_pos hok]
    refine ⟨.tuple #[.slice ad (Pl.tk s.data.toList).1.length cp, .bool true], by simp [results, Try.results7, go_sem, d1, d2], .slice ad (Pl.tk s.data.toList).1.length cp, ?_, ?_, r5⟩
    · rw [hok]
    · rw [hwl]; exact ownsRow_base r4 (by omega)
  case stop =>
    rintro D W hD hok hI hK
    obtain ⟨h1, h2, h5⟩ := hI
    have c1 := h1.cell
    have c2 := h2.cell
    gi_wp2
    refine ⟨by simp, .inl ⟨_, _, rfl, run_takeDeferred hK, ?_⟩⟩
    have g9 := grownBy_putObj' W D (.deferred none)
    have r1 := h1.kept g9 (by intro e; cases e; omega)
    have r2 := h2.kept g9 (by intro e; cases e; omega)
    have d1 := r1.cell
    have d2 := r2.cell
    have hwl : Pl.wordsL s.data.toList = [] := by unfold Pl.wordsL; rw [hok]; rfl
    refine ⟨.tuple #[.slice none 0 0, .bool false], by simp [results, Try.results7, go_sem, d1, d2], .slice none 0 0, ?_, ?_, h5.grown g9 h5.size (fun k e => by cases e; omega)⟩
    · rw [hok]
    · rw [hwl]; exact World.ownsRow_nil _ _ _ _
end Go.Proofs.Yteadmjhmahjmdaa

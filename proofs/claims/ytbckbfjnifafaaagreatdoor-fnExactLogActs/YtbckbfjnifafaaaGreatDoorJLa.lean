/- Joined: AcR EqA MkA HeA LaS LaS2 LaI LaI2 LaI3 LaL LawLa. -/
import Derived.Test.YtbckbfjnifafaaaGreatDoorJLg
import Derived.Test.YtbckbfjnifafaaaGreatDoorBx
import Derived.Test.YtbckbfjnifafaaaGreatDoorJLs
import Derived.Test.YtbckbfjnifafaaaGreatDoorJAg
import Derived.Test.YtbckbfjnifafaaaGreatDoorJAs
import Derived.Deep.RegionHeld3
/- Rows of acts, wherever they lie; rows that are marked. -/
namespace Go.Proofs.YtbckbfjnifafaaaGreatDoor
open Go.RowKit
set_option linter.unusedVariables false
set_option linter.unusedSimpArgs false
theorem flat_ac : ∀ (L : List Pl.Ac) (i : Nat) (e : Pl.Ac), L[i]? = some e → ∀ j u, (acL e)[j]? = some u → (L.flatMap acL)[i * 9 + j]? = some u
  | [], i, e, h => by simp at h
  | a :: r, 0, e, h => fun j u hu => by
    obtain rfl : a = e := by simpa using h
    have hj : j < (acL a).length := (List.getElem?_eq_some_iff.1 hu).1
    simp only [List.flatMap_cons, Nat.zero_mul, Nat.zero_add]
    rw [List.getElem?_append_left hj]; exact hu
  | a :: r, i + 1, e, h => fun j u hu => by
    have ih := flat_ac r i e (by simpa using h) j u hu
    simp only [List.flatMap_cons]
    rw [List.getElem?_append_right (by rw [acL_len]; omega), acL_len]
    rw [show (i + 1) * 9 + j - 9 = i * 9 + j by omega]
    exact ih
theorem own_acts {w : World} {base : Nat} {a : Option Addr} {n c : Nat} {L : List Pl.Ac} (h : w.ownsRow base 45 9 (.slice a n c) L.length (L.flatMap acL)) {i : Nat} {e : Pl.Ac} (he : L[i]? = some e) :
    ∃ g, a = some ⟨g, 0, none⟩ ∧ base ≤ g ∧ g < w.heap.size ∧ ∀ j u, (acL e)[j]? = some u → w.cell? ⟨g, i * 9 + j, none⟩ = some u := by
  obtain ⟨hl, h⟩ := h
  have hi : i < L.length := (List.getElem?_eq_some_iff.1 he).1
  rcases h with ⟨h1, h0⟩ | ⟨g, cap, cur, hv, hb, hg, hnc, hm, hs, ht⟩
  · omega
  · injection hv with h1 h2 h3
    refine ⟨g, h1, hb, (Array.getElem?_eq_some_iff.1 hg).1, fun j u hu => ?_⟩
    have hfl := flat_ac L i e he j u hu
    rw [← ht, List.getElem?_take] at hfl
    split at hfl
    · simp only [World.cell?, hg]; simpa using hfl
    · cases hfl
theorem own_lim {w : World} {base : Nat} {T : TypeId} {size : Nat} {a : Option Addr} {n c : Nat} {k : Nat} {xs : List Value} (h : w.ownsRow base T size (.slice a n c) k xs) : n = k ∧ n ≤ c ∧ c ≤ maxLen := by
  rcases h.2 with ⟨h1, h0⟩ | ⟨g, cap, cur, hv, hb, hg, hnc, hm, hs, ht⟩
  · injection h1 with h1 h2 h3
    subst h2 h3
    exact ⟨h0.symm, Nat.le_refl _, by unfold maxLen; omega⟩
  · injection hv with h1 h2 h3
    subst h2 h3
    exact ⟨rfl, hnc, hm⟩
/-- a slice that holds these acts -/
def AcRow (w : World) (L : List Pl.Ac) (v : Value) : Prop :=
  ∃ a c, v = .slice a L.length c ∧ L.length ≤ c ∧ c ≤ maxLen ∧ (0 < L.length → ∃ g, a = some ⟨g, 0, none⟩ ∧ g < w.heap.size ∧ ∀ i e, L[i]? = some e → ∀ j u, (acL e)[j]? = some u → w.cell? ⟨g, i * 9 + j, none⟩ = some u)
theorem AcRow.of_own {w : World} {base : Nat} {a : Option Addr} {n c : Nat} {L : List Pl.Ac} (h : w.ownsRow base 45 9 (.slice a n c) L.length (L.flatMap acL)) : AcRow w L (.slice a n c) := by
  obtain ⟨hn, hc, hm⟩ := own_lim h
  refine ⟨a, c, by rw [hn], by omega, hm, fun hl => ?_⟩
  obtain ⟨g, ha, _, hg, _⟩ := own_acts h (List.getElem?_eq_getElem hl)
  refine ⟨g, ha, hg, fun i e he => ?_⟩
  obtain ⟨g', ha', _, _, hs⟩ := own_acts h he
  have hgg : g' = g := by rw [ha] at ha'; injection ha' with h1; injection h1 with h2; exact h2.symm
  subst hgg
  exact hs
theorem AcRow.later {w w1 : World} {L : List Pl.Ac} {v : Value} (h : AcRow w L v) (hB : Below w.heap.size w w1) : AcRow w1 L v := by
  obtain ⟨a, c, hv, h1, h2, hx⟩ := h
  refine ⟨a, c, hv, h1, h2, fun hl => ?_⟩
  obtain ⟨g, ha, hg, hs⟩ := hx hl
  exact ⟨g, ha, Nat.lt_of_lt_of_le hg hB.size, fun i e he j u hu => (hB.cell (p := ⟨g, i * 9 + j, none⟩) hg).trans (hs i e he j u hu)⟩
/-- acts put behind others -/
theorem app_acts {W : World} {base : Nat} {v : Value} {A : List Pl.Ac} (B : List Pl.Ac) (hv : W.ownsRow base 45 9 v A.length (A.flatMap acL)) (b2 : Nat) (u : Value) (hu : W.ownsRow b2 45 9 u B.length (B.flatMap acL)) (hn : A.length + B.length ≤ 4194304) (hb : base ≤ W.heap.size) :
    ∃ v' w2, (Builtin.append_ #[31, 31] 31 #[v, u]).run Tryz.prog W = .ok v' w2 ∧ w2.ownsRow base 45 9 v' (A ++ B).length ((A ++ B).flatMap acL) ∧ W.grownBy w2 v.ownBlock := by
  obtain ⟨i0, hi, hz0, hz1, hz2⟩ := info_parts infoAct
  rcases hu.2 with ⟨rfl, h0⟩ | ⟨g, cap, cur, rfl, hbg, hg, hnc, hm, hs, ht⟩
  · obtain rfl : B = [] := List.eq_nil_of_length_eq_zero h0
    exact ⟨v, W, run_append_owned_none (P := Tryz.prog) (w := W) base 31 31 45 i0 9 Tryz.underlying31 hi v A.length _ hv, by simpa using hv, ⟨rfl, rfl, rfl, Nat.le_refl _, fun _ _ _ => rfl⟩⟩
  · obtain ⟨v', w2, hrun, hown, hgrow, _, _⟩ := run_append_own_at (P := Tryz.prog) W base 31 31 45 i0 _ 9 88 Tryz.underlying31 hi hz0 hz1 hz2 rfl (by decide) v A.length (A.flatMap acL) hv ⟨g, 0, none⟩ B.length cap (B.flatMap acL) (acs_len B) (fun j x hx => by
      have hadd : (⟨g, 0, none⟩ : Addr).add j = ⟨g, j, none⟩ := by unfold Addr.add; split <;> simp_all
      rw [hadd]
      rw [← ht, List.getElem?_take] at hx
      split at hx
      · simp only [World.cell?, hg]; simpa using hx
      · cases hx) (fun u hu => by
      obtain ⟨e, _, he⟩ := List.mem_flatMap.1 hu
      simp only [List.mem_cons, List.not_mem_nil, or_false] at he
      rcases he with rfl | rfl | rfl | rfl | rfl | rfl | rfl | rfl | rfl <;> rfl) (by unfold maxLen; omega) (by omega) hb
    refine ⟨v', w2, hrun, ?_, hgrow⟩
    simpa [List.flatMap_append] using hown
theorem wp_app_acts {ops : Array Oper} {rest : List Oper} {o : Oper} {a : Act} {W : World} {Q : Exit → Act → World → Prop} (hgd : o.guard = none) (s x : Operand)
    (ho : o.op = .call { callee := .builtin .append, args := #[s, x], argTypes := #[31, 31] }) (hty : o.type = 31) (base : Nat) (A B : List Pl.Ac) (v u : Value) (b2 : Nat) (hs : a.eval s = v) (hx : a.eval x = u)
    (hv : W.ownsRow base 45 9 v A.length (A.flatMap acL)) (hu : W.ownsRow b2 45 9 u B.length (B.flatMap acL)) (hn : A.length + B.length ≤ 4194304) (hb : base ≤ W.heap.size)
    (h : ∀ v' w2, Hid (w2.ownsRow base 45 9 v' (A ++ B).length ((A ++ B).flatMap acL)) → Hid (W.grownBy w2 v.ownBlock) → wpList Tryz.prog ops Q rest (a.put o.dst v') w2) : wpList Tryz.prog ops Q (o :: rest) a W := by
  refine wpList_plain hgd fun K hK => ?_
  obtain ⟨v', w2, hrun, h1, h2⟩ := app_acts B hv b2 u hu hn hb
  unfold Oper.wp
  simp [execOp, ho, resolve, invoke, builtin, hs, hx, hty, hrun, Result.andThen]
  exact hK _ _ (h _ _ h1 h2)
theorem markText_at (z : Int) (n : Nat) (h : z = n) (h1 : 1 ≤ n) (h2 : n ≤ 1000000000) (w : World) :
    Calls Tryz.prog 35 #[.int .i64 z] w fun e w' => e = .returned (.string (Pl.bs (Pl.mark n))) ∧ Below w.heap.size w w' := by
  rw [h]; exact markText_any n h1 h2 w
theorem cell_in {W : World} {b j : Nat} {C : Array Value} {T : TypeId} (h : W.heap[b]? = some (.cells C T (0, 0))) (hj : j < C.size) : ∃ u, W.cell? ⟨b, j, none⟩ = some u := by
  rw [cell_of_block h, Array.getElem?_eq_getElem hj]
  exact ⟨_, rfl⟩
theorem gb_set {W X : World} {b i : Nat} {v : Value} (h : W.grownBy X (some b)) : W.grownBy (X.setCell ⟨b, i, none⟩ v) (some b) :=
  ⟨h.os, h.tape, h.output, by have := h.size; simp [World.setCell]; exact this, fun k hk hne => (Below.heap_setCell _ _ _ _ (by simp only; intro e; exact hne (by rw [e]))).trans (h.block k hk hne)⟩
theorem gb_later {W X Y : World} {r : Option Nat} (h : W.grownBy X r) (hB : Below X.heap.size X Y) : W.grownBy Y r :=
  ⟨hB.os.trans h.os, hB.tape.trans h.tape, hB.output.trans h.output, Nat.le_trans h.size hB.size, fun k hk hne => (hB.block k (by have := h.size; omega)).trans (h.block k hk hne)⟩
theorem gb_refl (W : World) (r : Option Nat) : W.grownBy W r := ⟨rfl, rfl, rfl, Nat.le_refl _, fun _ _ _ => rfl⟩
/-- a row whose first i parts are marked -/
def RowM (T : TypeId) (m : Nat) (mk : Nat → List Value) (k : Nat) (a : Option Addr) (n i : Nat) (W : World) : Prop :=
  0 < n → ∃ b C, a = some ⟨b, 0, none⟩ ∧ W.heap[b]? = some (.cells C T (0, 0)) ∧ n * m ≤ C.size ∧ (∀ j, j < i → ∀ t u, (mk (k + m * j))[t]? = some u → C[j * m + t]? = some u)
theorem RowM.later {T : TypeId} {m : Nat} {mk : Nat → List Value} {k : Nat} {a : Option Addr} {n i : Nat} {W W1 : World} (h : RowM T m mk k a n i W) (hB : Below W.heap.size W W1) : RowM T m mk k a n i W1 := by
  intro hn
  obtain ⟨b, C, ha, hb, hs, hc⟩ := h hn
  exact ⟨b, C, ha, (hB.block _ (Array.getElem?_eq_some_iff.1 hb).1).trans hb, hs, hc⟩
theorem RowM.of_own {T : TypeId} {m : Nat} {mk : Nat → List Value} {k base : Nat} {a : Option Addr} {n c : Nat} {xs : List Value} {W : World} (h : W.ownsRow base T m (.slice a n c) n xs) : RowM T m mk k a n 0 W := by
  intro hn
  rcases h.2 with ⟨h1, h0⟩ | ⟨g, cap, cur, hv, hb, hg, hnc, hm, hs, ht⟩
  · omega
  · injection hv with h1 h2 h3
    exact ⟨g, cur, h1, hg, by rw [hs]; exact Nat.mul_le_mul_right _ hnc, fun j hj => by omega⟩
end Go.Proofs.YtbckbfjnifafaaaGreatDoor

/- Two rows of acts, held against each other. -/
namespace Go.Proofs.YtbckbfjnifafaaaGreatDoor
open Go.RowKit
set_option linter.unusedVariables false
set_option linter.unusedSimpArgs false
set_option maxRecDepth 100000 in
set_option maxHeartbeats 3200000 in
theorem eqActS_any (l : List Pl.Ac) (hN : l.length ≤ 1048576) (va vb : Value) (w : World) (ha : AcRow w l va) (hb : AcRow w l vb) :
    Calls Tryz.prog 14 #[va, vb] w fun x w' => x = .returned (.bool true) ∧ Below w.heap.size w w' := by
  obtain ⟨aa, ca, rfl, hca, hma, hxa⟩ := ha
  obtain ⟨ab, cb, rfl, hcb, hmb, hxb⟩ := hb
  unfold maxLen at hma hmb
  have HXA := hide hxa
  have HXB := hide hxb
  clear hxa hxb
  have hne : ((l.length : Int) != (l.length : Int)) = false := by simp
  go_enter Tryz.func14, Tryz.ntmps14
  go_wp2_with fail
  go_loopw [5] (fun iv wr => ∃ i : Nat, i ≤ l.length ∧ iv = .int .i64 i ∧ Hid (Below w.heap.size w wr)) (fun iv _ => l.length - (intOf iv).toNat)
  case atStart => exact ⟨0, by omega, rfl, Below.refl _ _⟩
  case round =>
    obtain ⟨i, hi, rfl, HB⟩ := hrel
    by_cases hlt : i < l.length
    · obtain ⟨ga, rfl, hga, hsa⟩ := HXA.out (by omega)
      obtain ⟨gb, rfl, hgb, hsb⟩ := HXB.out (by omega)
      obtain ⟨e, he⟩ : ∃ e, l[i]? = some e := ⟨_, List.getElem?_eq_getElem hlt⟩
      have ca0 : wr.cell? ⟨ga, i * 9, none⟩ = some (.int .i64 e.k) := (HB.out.cell (p := ⟨ga, i * 9, none⟩) hga).trans (hsa i e he 0 _ rfl)
      have ca1 : wr.cell? ⟨ga, i * 9 + 1, none⟩ = some (.int .i64 e.r) := (HB.out.cell (p := ⟨ga, i * 9 + 1, none⟩) hga).trans (hsa i e he 1 _ rfl)
      have ca2 : wr.cell? ⟨ga, i * 9 + 2, none⟩ = some (.int .i64 e.p) := (HB.out.cell (p := ⟨ga, i * 9 + 2, none⟩) hga).trans (hsa i e he 2 _ rfl)
      have ca3 : wr.cell? ⟨ga, i * 9 + 3, none⟩ = some (.string e.nm) := (HB.out.cell (p := ⟨ga, i * 9 + 3, none⟩) hga).trans (hsa i e he 3 _ rfl)
      have ca4 : wr.cell? ⟨ga, i * 9 + 4, none⟩ = some (.bool e.o) := (HB.out.cell (p := ⟨ga, i * 9 + 4, none⟩) hga).trans (hsa i e he 4 _ rfl)
      have ca5 : wr.cell? ⟨ga, i * 9 + 5, none⟩ = some (.int .i64 e.vk) := (HB.out.cell (p := ⟨ga, i * 9 + 5, none⟩) hga).trans (hsa i e he 5 _ rfl)
      have ca6 : wr.cell? ⟨ga, i * 9 + 6, none⟩ = some (.int .i64 e.vn) := (HB.out.cell (p := ⟨ga, i * 9 + 6, none⟩) hga).trans (hsa i e he 6 _ rfl)
      have ca7 : wr.cell? ⟨ga, i * 9 + 7, none⟩ = some (.string e.vt) := (HB.out.cell (p := ⟨ga, i * 9 + 7, none⟩) hga).trans (hsa i e he 7 _ rfl)
      have ca8 : wr.cell? ⟨ga, i * 9 + 8, none⟩ = some (.int .i64 e.m) := (HB.out.cell (p := ⟨ga, i * 9 + 8, none⟩) hga).trans (hsa i e he 8 _ rfl)
      have cb0 : wr.cell? ⟨gb, i * 9, none⟩ = some (.int .i64 e.k) := (HB.out.cell (p := ⟨gb, i * 9, none⟩) hgb).trans (hsb i e he 0 _ rfl)
      have cb1 : wr.cell? ⟨gb, i * 9 + 1, none⟩ = some (.int .i64 e.r) := (HB.out.cell (p := ⟨gb, i * 9 + 1, none⟩) hgb).trans (hsb i e he 1 _ rfl)
      have cb2 : wr.cell? ⟨gb, i * 9 + 2, none⟩ = some (.int .i64 e.p) := (HB.out.cell (p := ⟨gb, i * 9 + 2, none⟩) hgb).trans (hsb i e he 2 _ rfl)
      have cb3 : wr.cell? ⟨gb, i * 9 + 3, none⟩ = some (.string e.nm) := (HB.out.cell (p := ⟨gb, i * 9 + 3, none⟩) hgb).trans (hsb i e he 3 _ rfl)
      have cb4 : wr.cell? ⟨gb, i * 9 + 4, none⟩ = some (.bool e.o) := (HB.out.cell (p := ⟨gb, i * 9 + 4, none⟩) hgb).trans (hsb i e he 4 _ rfl)
      have cb5 : wr.cell? ⟨gb, i * 9 + 5, none⟩ = some (.int .i64 e.vk) := (HB.out.cell (p := ⟨gb, i * 9 + 5, none⟩) hgb).trans (hsb i e he 5 _ rfl)
      have cb6 : wr.cell? ⟨gb, i * 9 + 6, none⟩ = some (.int .i64 e.vn) := (HB.out.cell (p := ⟨gb, i * 9 + 6, none⟩) hgb).trans (hsb i e he 6 _ rfl)
      have cb7 : wr.cell? ⟨gb, i * 9 + 7, none⟩ = some (.string e.vt) := (HB.out.cell (p := ⟨gb, i * 9 + 7, none⟩) hgb).trans (hsb i e he 7 _ rfl)
      have cb8 : wr.cell? ⟨gb, i * 9 + 8, none⟩ = some (.int .i64 e.m) := (HB.out.cell (p := ⟨gb, i * 9 + 8, none⟩) hgb).trans (hsb i e he 8 _ rfl)
      have HGA : Hid (ga < wr.heap.size) := by show _ < _; have := HB.out.size; omega
      have HGB : Hid (gb < wr.heap.size) := by show _ < _; have := HB.out.size; omega
      have heq := hide (eqAct_any e.k e.r e.p e.nm e.o e.vk e.vn e.vt e.m)
      have hii : (i : Int) < (l.length : Int) := by omega
      clear hsa hsb he hne
      go_wp2_with fail
      refine wp_region_noPanic ?_
      refine wp_region_held_drew (S := fun W => Below wr.heap.size wr W) (by kernel_rfl) (below_drew' (Below.refl _ _)) (fun hHeld => ?_)
      refine wpAnyH_take (i := 0) (oi := Oper.mk (some 17) _ _ _ _ _) (v := ?_) rfl (by kernel_rfl) (by kernel_rfl) (by kernel_rfl) (fun _ _ _ h => h) (Or.inl ⟨by rfl, ?_⟩) (by assumption) ?_
      rotate_left
      · intro w0 hSw
        clear hSw
        go_simp
        all_goals (with_reducible rfl)
      simp only [Act.put, List.setIfInBounds_toArray, List.set_cons_zero, List.set_cons_succ]
      refine wpAnyH_take (i := 1) (oi := Oper.mk (some 18) _ _ _ _ _) (v := ?_) rfl (by kernel_rfl) (by kernel_rfl) (by kernel_rfl) (fun _ _ _ h => h) (Or.inl ⟨by rfl, ?_⟩) (by assumption) ?_
      rotate_left
      · intro w0 hSw
        clear hSw
        go_simp
        all_goals (with_reducible rfl)
      simp only [Act.put, List.setIfInBounds_toArray, List.set_cons_zero, List.set_cons_succ]
      refine wpAnyH_take (i := 2) (oi := Oper.mk (some 19) _ _ _ _ _) (v := ?_) rfl (by kernel_rfl) (by kernel_rfl) (by kernel_rfl) (fun _ _ _ h => h) (Or.inl ⟨by rfl, ?_⟩) (by assumption) ?_
      rotate_left
      · intro w0 hSw
        clear hSw
        go_simp
        all_goals (with_reducible rfl)
      simp only [Act.put, List.setIfInBounds_toArray, List.set_cons_zero, List.set_cons_succ]
      refine wpAnyH_take (i := 3) (oi := Oper.mk (some 20) _ _ _ _ _) (v := ?_) rfl (by kernel_rfl) (by kernel_rfl) (by kernel_rfl) (fun _ _ _ h => h) (Or.inl ⟨by rfl, ?_⟩) (by assumption) ?_
      rotate_left
      · intro w0 hSw
        have z0 : w0.cell? ⟨ga, i * 9, none⟩ = some ((.int .i64 e.k)) := (Below.cell hSw (p := ⟨ga, i * 9, none⟩) HGA.out).trans ca0
        have z1 : w0.cell? ⟨ga, i * 9 + 1, none⟩ = some ((.int .i64 e.r)) := (Below.cell hSw (p := ⟨ga, i * 9 + 1, none⟩) HGA.out).trans ca1
        have z2 : w0.cell? ⟨ga, i * 9 + 2, none⟩ = some ((.int .i64 e.p)) := (Below.cell hSw (p := ⟨ga, i * 9 + 2, none⟩) HGA.out).trans ca2
        have z3 : w0.cell? ⟨ga, i * 9 + 3, none⟩ = some ((.string e.nm)) := (Below.cell hSw (p := ⟨ga, i * 9 + 3, none⟩) HGA.out).trans ca3
        have z4 : w0.cell? ⟨ga, i * 9 + 4, none⟩ = some ((.bool e.o)) := (Below.cell hSw (p := ⟨ga, i * 9 + 4, none⟩) HGA.out).trans ca4
        have z5 : w0.cell? ⟨ga, i * 9 + 5, none⟩ = some ((.int .i64 e.vk)) := (Below.cell hSw (p := ⟨ga, i * 9 + 5, none⟩) HGA.out).trans ca5
        have z6 : w0.cell? ⟨ga, i * 9 + 6, none⟩ = some ((.int .i64 e.vn)) := (Below.cell hSw (p := ⟨ga, i * 9 + 6, none⟩) HGA.out).trans ca6
        have z7 : w0.cell? ⟨ga, i * 9 + 7, none⟩ = some ((.string e.vt)) := (Below.cell hSw (p := ⟨ga, i * 9 + 7, none⟩) HGA.out).trans ca7
        have z8 : w0.cell? ⟨ga, i * 9 + 8, none⟩ = some ((.int .i64 e.m)) := (Below.cell hSw (p := ⟨ga, i * 9 + 8, none⟩) HGA.out).trans ca8
        clear hSw
        go_simp
        all_goals (with_reducible rfl)
      simp only [Act.put, List.setIfInBounds_toArray, List.set_cons_zero, List.set_cons_succ]
      refine wpAnyH_take (i := 4) (oi := Oper.mk (some 21) _ _ _ _ _) (v := ?_) rfl (by kernel_rfl) (by kernel_rfl) (by kernel_rfl) (fun _ _ _ h => h) (Or.inl ⟨by rfl, ?_⟩) (by assumption) ?_
      rotate_left
      · intro w0 hSw
        clear hSw
        go_simp
        all_goals (with_reducible rfl)
      simp only [Act.put, List.setIfInBounds_toArray, List.set_cons_zero, List.set_cons_succ]
      refine wpAnyH_take (i := 5) (oi := Oper.mk (some 22) _ _ _ _ _) (v := ?_) rfl (by kernel_rfl) (by kernel_rfl) (by kernel_rfl) (fun _ _ _ h => h) (Or.inl ⟨by rfl, ?_⟩) (by assumption) ?_
      rotate_left
      · intro w0 hSw
        clear hSw
        go_simp
        all_goals (with_reducible rfl)
      simp only [Act.put, List.setIfInBounds_toArray, List.set_cons_zero, List.set_cons_succ]
      refine wpAnyH_take (i := 6) (oi := Oper.mk (some 23) _ _ _ _ _) (v := ?_) rfl (by kernel_rfl) (by kernel_rfl) (by kernel_rfl) (fun _ _ _ h => h) (Or.inl ⟨by rfl, ?_⟩) (by assumption) ?_
      rotate_left
      · intro w0 hSw
        clear hSw
        go_simp
        all_goals (with_reducible rfl)
      simp only [Act.put, List.setIfInBounds_toArray, List.set_cons_zero, List.set_cons_succ]
      refine wpAnyH_take (i := 7) (oi := Oper.mk (some 24) _ _ _ _ _) (v := ?_) rfl (by kernel_rfl) (by kernel_rfl) (by kernel_rfl) (fun _ _ _ h => h) (Or.inl ⟨by rfl, ?_⟩) (by assumption) ?_
      rotate_left
      · intro w0 hSw
        have z0 : w0.cell? ⟨gb, i * 9, none⟩ = some ((.int .i64 e.k)) := (Below.cell hSw (p := ⟨gb, i * 9, none⟩) HGB.out).trans cb0
        have z1 : w0.cell? ⟨gb, i * 9 + 1, none⟩ = some ((.int .i64 e.r)) := (Below.cell hSw (p := ⟨gb, i * 9 + 1, none⟩) HGB.out).trans cb1
        have z2 : w0.cell? ⟨gb, i * 9 + 2, none⟩ = some ((.int .i64 e.p)) := (Below.cell hSw (p := ⟨gb, i * 9 + 2, none⟩) HGB.out).trans cb2
        have z3 : w0.cell? ⟨gb, i * 9 + 3, none⟩ = some ((.string e.nm)) := (Below.cell hSw (p := ⟨gb, i * 9 + 3, none⟩) HGB.out).trans cb3
        have z4 : w0.cell? ⟨gb, i * 9 + 4, none⟩ = some ((.bool e.o)) := (Below.cell hSw (p := ⟨gb, i * 9 + 4, none⟩) HGB.out).trans cb4
        have z5 : w0.cell? ⟨gb, i * 9 + 5, none⟩ = some ((.int .i64 e.vk)) := (Below.cell hSw (p := ⟨gb, i * 9 + 5, none⟩) HGB.out).trans cb5
        have z6 : w0.cell? ⟨gb, i * 9 + 6, none⟩ = some ((.int .i64 e.vn)) := (Below.cell hSw (p := ⟨gb, i * 9 + 6, none⟩) HGB.out).trans cb6
        have z7 : w0.cell? ⟨gb, i * 9 + 7, none⟩ = some ((.string e.vt)) := (Below.cell hSw (p := ⟨gb, i * 9 + 7, none⟩) HGB.out).trans cb7
        have z8 : w0.cell? ⟨gb, i * 9 + 8, none⟩ = some ((.int .i64 e.m)) := (Below.cell hSw (p := ⟨gb, i * 9 + 8, none⟩) HGB.out).trans cb8
        clear hSw
        go_simp
        all_goals (with_reducible rfl)
      simp only [Act.put, List.setIfInBounds_toArray, List.set_cons_zero, List.set_cons_succ]
      refine wpAnyH_ready (rs := [8]) (by kernel_rfl) (by simp) ?_
      refine AllReadyH.cons (o := Oper.mk (some 25) _ _ _ _ _) rfl (fun K hK => ?_) AllReadyH.nil
      go_simp
      go_at_call 33
      refine (heq.out _).mono ?_
      rintro x0 w0 ⟨rfl, hB0⟩
      have hHeld' := Below.trans hHeld (hB0.mono hHeld.size)
      clear hB0 hHeld
      go_wp2_with fail
      refine hK.out _ _ hHeld' (fun hHeld => ?_)
      clear hK K hHeld'
      (try simp only [Act.put, List.setIfInBounds_toArray, List.set_cons_zero, List.set_cons_succ])
      refine wpAnyH_take (i := 9) (oi := Oper.mk (some 26) _ _ _ _ _) (v := ?_) rfl (by kernel_rfl) (by kernel_rfl) (by kernel_rfl) (fun _ _ _ h => h) (Or.inl ⟨by rfl, ?_⟩) (by assumption) ?_
      rotate_left
      · intro w0 hSw
        clear hSw
        go_simp
        all_goals (with_reducible rfl)
      simp only [Act.put, List.setIfInBounds_toArray, List.set_cons_zero, List.set_cons_succ]
      refine wpAnyH_done (by kernel_rfl) ?_ _
      refine NoPanic.normal ?_
      have HB2 := hide (HB.out.trans (hHeld.mono HB.out.size))
      clear hHeld HXA HXB
      go_wp2_with fail
      go_roundw
      case rel => exact ⟨i + 1, by omega, by go_num, HB2⟩
      case measure => simp [intOf]; omega
    · have hie : i = l.length := by omega
      clear hne HXA HXB
      go_wp2_with fail
      go_ret
      exact ⟨rfl, HB.out⟩
end Go.Proofs.YtbckbfjnifafaaaGreatDoor

/- Acts, marked, and held against the marks. -/
namespace Go.Proofs.YtbckbfjnifafaaaGreatDoor
open Go.RowKit
set_option linter.unusedVariables false
set_option linter.unusedSimpArgs false
def mkAcs (k : Nat) : List Value := [(.int .i64 ((k + 0 : Nat) : Int) : Value), (.int .i64 ((k + 1 : Nat) : Int) : Value), (.int .i64 ((k + 2 : Nat) : Int) : Value), (.string (Pl.bs (Pl.mark (k + 3))) : Value), (.bool (((k + 4 : Nat) : Int) % 3 == 0) : Value), (.int .i64 ((k + 5 : Nat) : Int) : Value), (.int .i64 ((k + 6 : Nat) : Int) : Value), (.string (Pl.bs (Pl.mark (k + 7))) : Value), (.int .i64 ((k + 8 : Nat) : Int) : Value)]
theorem nextAcs {C : Array Value} {k i n : Nat} {z : Int} (hs : n * 9 ≤ C.size) (hi : i < n) (hz : z = ((k + 9 * i : Nat) : Int)) (hc : ∀ j, j < i → ∀ t u, (mkAcs (k + 9 * j))[t]? = some u → C[j * 9 + t]? = some u)
    {a0 a1 a2 a3 a4 a5 a6 a7 a8 : Nat} (e0 : a0 = i * 9 + 0) (e1 : a1 = i * 9 + 1) (e2 : a2 = i * 9 + 2) (e3 : a3 = i * 9 + 3) (e4 : a4 = i * 9 + 4) (e5 : a5 = i * 9 + 5) (e6 : a6 = i * 9 + 6) (e7 : a7 = i * 9 + 7) (e8 : a8 = i * 9 + 8) :
    ∀ j, j < i + 1 → ∀ t u, (mkAcs (k + 9 * j))[t]? = some u → (((((((((C.setIfInBounds a0 ((.int .i64 z : Value))).setIfInBounds a1 ((.int .i64 (z + 1) : Value))).setIfInBounds a2 ((.int .i64 (z + 1 + 1) : Value))).setIfInBounds a3 ((.string (Pl.bs (Pl.mark (k + 9 * i + 3))) : Value))).setIfInBounds a4 ((.bool ((z + 1 + 1 + 1 + 1) % 3 == 0) : Value))).setIfInBounds a5 ((.int .i64 (z + 1 + 1 + 1 + 1 + 1) : Value))).setIfInBounds a6 ((.int .i64 (z + 1 + 1 + 1 + 1 + 1 + 1) : Value))).setIfInBounds a7 ((.string (Pl.bs (Pl.mark (k + 9 * i + 7))) : Value))).setIfInBounds a8 ((.int .i64 (z + 1 + 1 + 1 + 1 + 1 + 1 + 1 + 1) : Value)))[j * 9 + t]? = some u := by
  intro j hj t u hu
  subst e0 e1 e2 e3 e4 e5 e6 e7 e8
  by_cases hji : j = i
  · subst hji
    have l0 : j * 9 + 0 < C.size := by omega
    have l1 : j * 9 + 1 < C.size := by omega
    have l2 : j * 9 + 2 < C.size := by omega
    have l3 : j * 9 + 3 < C.size := by omega
    have l4 : j * 9 + 4 < C.size := by omega
    have l5 : j * 9 + 5 < C.size := by omega
    have l6 : j * 9 + 6 < C.size := by omega
    have l7 : j * 9 + 7 < C.size := by omega
    have l8 : j * 9 + 8 < C.size := by omega
    match t, hu with
    | 0, hu =>
      obtain rfl : (.int .i64 ((k + 9 * j + 0 : Nat) : Int) : Value) = u := by simpa [mkAcs] using hu
      have hv : (.int .i64 z : Value) = (.int .i64 ((k + 9 * j + 0 : Nat) : Int) : Value) := by rw [hz]; congr 1 <;> omega
      rw [Array.getElem?_setIfInBounds_ne (by omega)]
      rw [Array.getElem?_setIfInBounds_ne (by omega)]
      rw [Array.getElem?_setIfInBounds_ne (by omega)]
      rw [Array.getElem?_setIfInBounds_ne (by omega)]
      rw [Array.getElem?_setIfInBounds_ne (by omega)]
      rw [Array.getElem?_setIfInBounds_ne (by omega)]
      rw [Array.getElem?_setIfInBounds_ne (by omega)]
      rw [Array.getElem?_setIfInBounds_ne (by omega)]
      rw [Array.getElem?_setIfInBounds_self_of_lt (by simp; omega)]
      rw [hv]
    | 1, hu =>
      obtain rfl : (.int .i64 ((k + 9 * j + 1 : Nat) : Int) : Value) = u := by simpa [mkAcs] using hu
      have hv : (.int .i64 (z + 1) : Value) = (.int .i64 ((k + 9 * j + 1 : Nat) : Int) : Value) := by rw [hz]; congr 1 <;> omega
      rw [Array.getElem?_setIfInBounds_ne (by omega)]
      rw [Array.getElem?_setIfInBounds_ne (by omega)]
      rw [Array.getElem?_setIfInBounds_ne (by omega)]
      rw [Array.getElem?_setIfInBounds_ne (by omega)]
      rw [Array.getElem?_setIfInBounds_ne (by omega)]
      rw [Array.getElem?_setIfInBounds_ne (by omega)]
      rw [Array.getElem?_setIfInBounds_ne (by omega)]
      rw [Array.getElem?_setIfInBounds_self_of_lt (by simp; omega)]
      rw [hv]
    | 2, hu =>
      obtain rfl : (.int .i64 ((k + 9 * j + 2 : Nat) : Int) : Value) = u := by simpa [mkAcs] using hu
      have hv : (.int .i64 (z + 1 + 1) : Value) = (.int .i64 ((k + 9 * j + 2 : Nat) : Int) : Value) := by rw [hz]; congr 1 <;> omega
      rw [Array.getElem?_setIfInBounds_ne (by omega)]
      rw [Array.getElem?_setIfInBounds_ne (by omega)]
      rw [Array.getElem?_setIfInBounds_ne (by omega)]
      rw [Array.getElem?_setIfInBounds_ne (by omega)]
      rw [Array.getElem?_setIfInBounds_ne (by omega)]
      rw [Array.getElem?_setIfInBounds_ne (by omega)]
      rw [Array.getElem?_setIfInBounds_self_of_lt (by simp; omega)]
      rw [hv]
    | 3, hu =>
      obtain rfl : (.string (Pl.bs (Pl.mark (k + 9 * j + 3))) : Value) = u := by simpa [mkAcs] using hu
      rw [Array.getElem?_setIfInBounds_ne (by omega)]
      rw [Array.getElem?_setIfInBounds_ne (by omega)]
      rw [Array.getElem?_setIfInBounds_ne (by omega)]
      rw [Array.getElem?_setIfInBounds_ne (by omega)]
      rw [Array.getElem?_setIfInBounds_ne (by omega)]
      rw [Array.getElem?_setIfInBounds_self_of_lt (by simp; omega)]
      skip
    | 4, hu =>
      obtain rfl : (.bool (((k + 9 * j + 4 : Nat) : Int) % 3 == 0) : Value) = u := by simpa [mkAcs] using hu
      have hv : (.bool ((z + 1 + 1 + 1 + 1) % 3 == 0) : Value) = (.bool (((k + 9 * j + 4 : Nat) : Int) % 3 == 0) : Value) := by rw [hz]; congr 3 <;> omega
      rw [Array.getElem?_setIfInBounds_ne (by omega)]
      rw [Array.getElem?_setIfInBounds_ne (by omega)]
      rw [Array.getElem?_setIfInBounds_ne (by omega)]
      rw [Array.getElem?_setIfInBounds_ne (by omega)]
      rw [Array.getElem?_setIfInBounds_self_of_lt (by simp; omega)]
      rw [hv]
    | 5, hu =>
      obtain rfl : (.int .i64 ((k + 9 * j + 5 : Nat) : Int) : Value) = u := by simpa [mkAcs] using hu
      have hv : (.int .i64 (z + 1 + 1 + 1 + 1 + 1) : Value) = (.int .i64 ((k + 9 * j + 5 : Nat) : Int) : Value) := by rw [hz]; congr 1 <;> omega
      rw [Array.getElem?_setIfInBounds_ne (by omega)]
      rw [Array.getElem?_setIfInBounds_ne (by omega)]
      rw [Array.getElem?_setIfInBounds_ne (by omega)]
      rw [Array.getElem?_setIfInBounds_self_of_lt (by simp; omega)]
      rw [hv]
    | 6, hu =>
      obtain rfl : (.int .i64 ((k + 9 * j + 6 : Nat) : Int) : Value) = u := by simpa [mkAcs] using hu
      have hv : (.int .i64 (z + 1 + 1 + 1 + 1 + 1 + 1) : Value) = (.int .i64 ((k + 9 * j + 6 : Nat) : Int) : Value) := by rw [hz]; congr 1 <;> omega
      rw [Array.getElem?_setIfInBounds_ne (by omega)]
      rw [Array.getElem?_setIfInBounds_ne (by omega)]
      rw [Array.getElem?_setIfInBounds_self_of_lt (by simp; omega)]
      rw [hv]
    | 7, hu =>
      obtain rfl : (.string (Pl.bs (Pl.mark (k + 9 * j + 7))) : Value) = u := by simpa [mkAcs] using hu
      rw [Array.getElem?_setIfInBounds_ne (by omega)]
      rw [Array.getElem?_setIfInBounds_self_of_lt (by simp; omega)]
      skip
    | 8, hu =>
      obtain rfl : (.int .i64 ((k + 9 * j + 8 : Nat) : Int) : Value) = u := by simpa [mkAcs] using hu
      have hv : (.int .i64 (z + 1 + 1 + 1 + 1 + 1 + 1 + 1 + 1) : Value) = (.int .i64 ((k + 9 * j + 8 : Nat) : Int) : Value) := by rw [hz]; congr 1 <;> omega
      rw [Array.getElem?_setIfInBounds_self_of_lt (by simp; omega)]
      rw [hv]
    | t + 9, hu => simp [mkAcs] at hu
  · have ht : t < 9 := by
      have := (List.getElem?_eq_some_iff.1 hu).1
      simpa [mkAcs] using this
    have hlt : j < i := by omega
    have hlin : j * 9 + 9 ≤ i * 9 := by
      have := Nat.mul_le_mul_right 9 (show j + 1 ≤ i by omega)
      omega
    rw [Array.getElem?_setIfInBounds_ne (by omega)]
    rw [Array.getElem?_setIfInBounds_ne (by omega)]
    rw [Array.getElem?_setIfInBounds_ne (by omega)]
    rw [Array.getElem?_setIfInBounds_ne (by omega)]
    rw [Array.getElem?_setIfInBounds_ne (by omega)]
    rw [Array.getElem?_setIfInBounds_ne (by omega)]
    rw [Array.getElem?_setIfInBounds_ne (by omega)]
    rw [Array.getElem?_setIfInBounds_ne (by omega)]
    rw [Array.getElem?_setIfInBounds_ne (by omega)]
    exact hc j hlt t u hu
set_option maxRecDepth 100000 in
set_option maxHeartbeats 12800000 in
theorem markAcs_any (n : Nat) (a : Option Addr) (c k : Nat) (h1 : 1 ≤ k) (h2 : k + 9 * n ≤ 100000000) (hnc : n ≤ c) (hcm : c ≤ maxLen) (w : World) (hr : RowM 45 9 mkAcs k a n 0 w) :
    Calls Tryz.prog 16 #[.slice a n c, .int .i64 (k : Int)] w fun x w' => x = .returned (.int .i64 ((k + 9 * n : Nat) : Int)) ∧ RowM 45 9 mkAcs k a n n w' ∧ w.grownBy w' (Value.slice a n c).ownBlock := by
  unfold maxLen at hcm
  have HR := hide hr
  clear hr
  go_enter Tryz.func16, Tryz.ntmps16
  go_wp2_with fail
  go_loopw [1, 5] (fun kv iv wr => ∃ (i : Nat) (z : Int), i ≤ n ∧ iv = .int .i64 i ∧ kv = .int .i64 z ∧ Hid (z = ((k + 9 * i : Nat) : Int)) ∧ Hid (RowM 45 9 mkAcs k a n i wr) ∧ Hid (w.grownBy wr (Value.slice a n c).ownBlock)) (fun _ iv _ => n - (intOf iv).toNat)
  case atStart => exact ⟨0, k, by omega, rfl, rfl, hide (by simp), HR, hide (gb_refl _ _)⟩
  case round =>
    obtain ⟨i, z, hi, rfl, rfl, HZ, HM, HG⟩ := hrel
    by_cases hlt : i < n
    · obtain ⟨b, C, rfl, hb, hs, hcont⟩ := HM.out (by omega)
      have HB0 := hide hb
      have HS := hide hs
      have HC := hide hcont
      have HG0 : Hid (w.grownBy wr (some b)) := HG
      have hz0 : 1 ≤ z := by have := HZ.out; omega
      have hz1 : z ≤ 100000000 := by have := HZ.out; omega
      have hii : (i : Int) < (n : Int) := by omega
      clear hb hs hcont HM HG HR
      obtain ⟨u0, c0⟩ : ∃ u, wr.cell? ⟨b, i * 9, none⟩ = some u := cell_in HB0.out (by (try simp only [Array.size_setIfInBounds]); have := HS.out; omega)
      have f0 : wr.frozen? ⟨b, i * 9, none⟩ = false := free_of_block HB0.out _
      obtain ⟨u1, c1⟩ : ∃ u, wr.cell? ⟨b, i * 9 + 1, none⟩ = some u := cell_in HB0.out (by (try simp only [Array.size_setIfInBounds]); have := HS.out; omega)
      have f1 : wr.frozen? ⟨b, i * 9 + 1, none⟩ = false := free_of_block HB0.out _
      obtain ⟨u2, c2⟩ : ∃ u, wr.cell? ⟨b, i * 9 + 2, none⟩ = some u := cell_in HB0.out (by (try simp only [Array.size_setIfInBounds]); have := HS.out; omega)
      have f2 : wr.frozen? ⟨b, i * 9 + 2, none⟩ = false := free_of_block HB0.out _
      go_wp2_with fail
      refine (markText_at _ (k + 9 * i + 3) (by have := HZ.out; omega) (by omega) (by omega) _).mono ?_
      rintro x0 Y0 ⟨rfl, hB0⟩
      have hbk := (block_set (block_set (block_set HB0.out (i * 9) (.int .i64 z : Value)) (i * 9 + 1) (.int .i64 (z + 1) : Value)) (i * 9 + 2) (.int .i64 (z + 1 + 1) : Value))
      have HB1 := hide ((hB0.block b (Array.getElem?_eq_some_iff.1 hbk).1).trans hbk)
      have HG1 := hide (gb_later (gb_set (gb_set (gb_set HG0.out))) hB0)
      clear hB0 hbk c0 f0 c1 f1 c2 f2
      obtain ⟨u3, c3⟩ : ∃ u, Y0.cell? ⟨b, i * 9 + 3, none⟩ = some u := cell_in HB1.out (by (try simp only [Array.size_setIfInBounds]); have := HS.out; omega)
      have f3 : Y0.frozen? ⟨b, i * 9 + 3, none⟩ = false := free_of_block HB1.out _
      obtain ⟨u4, c4⟩ : ∃ u, Y0.cell? ⟨b, i * 9 + 4, none⟩ = some u := cell_in HB1.out (by (try simp only [Array.size_setIfInBounds]); have := HS.out; omega)
      have f4 : Y0.frozen? ⟨b, i * 9 + 4, none⟩ = false := free_of_block HB1.out _
      obtain ⟨u5, c5⟩ : ∃ u, Y0.cell? ⟨b, i * 9 + 5, none⟩ = some u := cell_in HB1.out (by (try simp only [Array.size_setIfInBounds]); have := HS.out; omega)
      have f5 : Y0.frozen? ⟨b, i * 9 + 5, none⟩ = false := free_of_block HB1.out _
      obtain ⟨u6, c6⟩ : ∃ u, Y0.cell? ⟨b, i * 9 + 6, none⟩ = some u := cell_in HB1.out (by (try simp only [Array.size_setIfInBounds]); have := HS.out; omega)
      have f6 : Y0.frozen? ⟨b, i * 9 + 6, none⟩ = false := free_of_block HB1.out _
      go_wp2_with fail
      refine (markText_at _ (k + 9 * i + 7) (by have := HZ.out; omega) (by omega) (by omega) _).mono ?_
      rintro x1 Y1 ⟨rfl, hB1⟩
      have hbk := (block_set (block_set (block_set (block_set HB1.out (i * 9 + 3) (.string (Pl.bs (Pl.mark (k + 9 * i + 3))) : Value)) (i * 9 + 4) (.bool ((z + 1 + 1 + 1 + 1) % 3 == 0) : Value)) (i * 9 + 5) (.int .i64 (z + 1 + 1 + 1 + 1 + 1) : Value)) (i * 9 + 6) (.int .i64 (z + 1 + 1 + 1 + 1 + 1 + 1) : Value))
      have HB2 := hide ((hB1.block b (Array.getElem?_eq_some_iff.1 hbk).1).trans hbk)
      have HG2 := hide (gb_later (gb_set (gb_set (gb_set (gb_set HG1.out)))) hB1)
      clear hB1 hbk c3 f3 c4 f4 c5 f5 c6 f6
      obtain ⟨u7, c7⟩ : ∃ u, Y1.cell? ⟨b, i * 9 + 7, none⟩ = some u := cell_in HB2.out (by (try simp only [Array.size_setIfInBounds]); have := HS.out; omega)
      have f7 : Y1.frozen? ⟨b, i * 9 + 7, none⟩ = false := free_of_block HB2.out _
      obtain ⟨u8, c8⟩ : ∃ u, Y1.cell? ⟨b, i * 9 + 8, none⟩ = some u := cell_in HB2.out (by (try simp only [Array.size_setIfInBounds]); have := HS.out; omega)
      have f8 : Y1.frozen? ⟨b, i * 9 + 8, none⟩ = false := free_of_block HB2.out _
      go_wp2_with fail
      go_roundw
      case rel => exact ⟨i + 1, _, by omega, by go_num, rfl, hide (by have := HZ.out; omega), hide (fun _ => ⟨b, _, rfl, (block_set (block_set HB2.out (i * 9 + 7) (.string (Pl.bs (Pl.mark (k + 9 * i + 7))) : Value)) (i * 9 + 8) (.int .i64 (z + 1 + 1 + 1 + 1 + 1 + 1 + 1 + 1) : Value)), by simp only [Array.size_setIfInBounds]; exact HS.out, nextAcs HS.out hlt HZ.out HC.out (by omega) (by omega) (by omega) (by omega) (by omega) (by omega) (by omega) (by omega) (by omega)⟩), hide ((gb_set (gb_set HG2.out)))⟩
      case measure => simp [intOf]; omega
    · have hie : i = n := by omega
      have HE : Hid (z = ((k + 9 * n : Nat) : Int)) := by rw [← hie]; exact HZ
      have HD : Hid (RowM 45 9 mkAcs k a n n wr) := by rw [hie] at HM; exact HM
      clear hie
      go_wp2_with fail
      go_ret
      exact ⟨by rw [← HE.out]; rfl, HD.out, HG.out⟩
end Go.Proofs.YtbckbfjnifafaaaGreatDoor

/- Acts, marked, and held against the marks. -/
namespace Go.Proofs.YtbckbfjnifafaaaGreatDoor
open Go.RowKit
set_option linter.unusedVariables false
set_option linter.unusedSimpArgs false
set_option maxRecDepth 100000 in
set_option maxHeartbeats 12800000 in
theorem heldAcs_any (n : Nat) (a : Option Addr) (c k : Nat) (h1 : 1 ≤ k) (h2 : k + 9 * n ≤ 100000000) (hnc : n ≤ c) (hcm : c ≤ maxLen) (w : World) (hr : RowM 45 9 mkAcs k a n n w) :
    Calls Tryz.prog 17 #[.slice a n c, .int .i64 (k : Int)] w fun x w' => x = .returned (.int .i64 ((k + 9 * n : Nat) : Int)) ∧ Below w.heap.size w w' := by
  unfold maxLen at hcm
  have HR := hide hr
  clear hr
  go_enter Tryz.func17, Tryz.ntmps17
  go_wp2_with fail
  go_loopw [1, 5] (fun kv iv wr => ∃ (i : Nat) (z : Int), i ≤ n ∧ iv = .int .i64 i ∧ kv = .int .i64 z ∧ Hid (z = ((k + 9 * i : Nat) : Int)) ∧ Hid (Below w.heap.size w wr)) (fun _ iv _ => n - (intOf iv).toNat)
  case atStart => exact ⟨0, k, by omega, rfl, rfl, hide (by simp), Below.refl _ _⟩
  case round =>
    obtain ⟨i, z, hi, rfl, rfl, HZ, HB⟩ := hrel
    by_cases hlt : i < n
    · obtain ⟨b, C, rfl, hb, hs, hcont⟩ := HR.out (by omega)
      have hbl : b < w.heap.size := (Array.getElem?_eq_some_iff.1 hb).1
      have HCW : Hid (∀ j u, (mkAcs (k + 9 * i))[j]? = some u → wr.cell? ⟨b, i * 9 + j, none⟩ = some u) := hide fun j u hu => (Below.cell HB.out (p := ⟨b, i * 9 + j, none⟩) hbl).trans ((cell_of_block hb _).trans (hcont i hlt j u hu))
      have HGb : Hid (b < wr.heap.size) := by show _ < _; have := HB.out.size; omega
      have hz0 : 1 ≤ z := by have := HZ.out; omega
      have hz1 : z ≤ 100000000 := by have := HZ.out; omega
      have hii : (i : Int) < (n : Int) := by omega
      clear hb hs hcont HR hbl
      have q0 : wr.cell? ⟨b, i * 9, none⟩ = some (.int .i64 z : Value) := by
        rw [show (.int .i64 z : Value) = (.int .i64 ((k + 9 * i + 0 : Nat) : Int) : Value) by rw [HZ.out]; congr 1 <;> omega]
        exact HCW.out 0 _ rfl
      have q1 : wr.cell? ⟨b, i * 9 + 1, none⟩ = some (.int .i64 (z + 1) : Value) := by
        rw [show (.int .i64 (z + 1) : Value) = (.int .i64 ((k + 9 * i + 1 : Nat) : Int) : Value) by rw [HZ.out]; congr 1 <;> omega]
        exact HCW.out 1 _ rfl
      have q2 : wr.cell? ⟨b, i * 9 + 2, none⟩ = some (.int .i64 (z + 1 + 1) : Value) := by
        rw [show (.int .i64 (z + 1 + 1) : Value) = (.int .i64 ((k + 9 * i + 2 : Nat) : Int) : Value) by rw [HZ.out]; congr 1 <;> omega]
        exact HCW.out 2 _ rfl
      have q3 : wr.cell? ⟨b, i * 9 + 3, none⟩ = some (.string (Pl.bs (Pl.mark (k + 9 * i + 3))) : Value) := HCW.out 3 _ rfl
      have q4 : wr.cell? ⟨b, i * 9 + 4, none⟩ = some (.bool ((z + 1 + 1 + 1 + 1) % 3 == 0) : Value) := by
        rw [show (.bool ((z + 1 + 1 + 1 + 1) % 3 == 0) : Value) = (.bool (((k + 9 * i + 4 : Nat) : Int) % 3 == 0) : Value) by rw [HZ.out]; congr 3 <;> omega]
        exact HCW.out 4 _ rfl
      have q5 : wr.cell? ⟨b, i * 9 + 5, none⟩ = some (.int .i64 (z + 1 + 1 + 1 + 1 + 1) : Value) := by
        rw [show (.int .i64 (z + 1 + 1 + 1 + 1 + 1) : Value) = (.int .i64 ((k + 9 * i + 5 : Nat) : Int) : Value) by rw [HZ.out]; congr 1 <;> omega]
        exact HCW.out 5 _ rfl
      have q6 : wr.cell? ⟨b, i * 9 + 6, none⟩ = some (.int .i64 (z + 1 + 1 + 1 + 1 + 1 + 1) : Value) := by
        rw [show (.int .i64 (z + 1 + 1 + 1 + 1 + 1 + 1) : Value) = (.int .i64 ((k + 9 * i + 6 : Nat) : Int) : Value) by rw [HZ.out]; congr 1 <;> omega]
        exact HCW.out 6 _ rfl
      have q7 : wr.cell? ⟨b, i * 9 + 7, none⟩ = some (.string (Pl.bs (Pl.mark (k + 9 * i + 7))) : Value) := HCW.out 7 _ rfl
      have q8 : wr.cell? ⟨b, i * 9 + 8, none⟩ = some (.int .i64 (z + 1 + 1 + 1 + 1 + 1 + 1 + 1 + 1) : Value) := by
        rw [show (.int .i64 (z + 1 + 1 + 1 + 1 + 1 + 1 + 1 + 1) : Value) = (.int .i64 ((k + 9 * i + 8 : Nat) : Int) : Value) by rw [HZ.out]; congr 1 <;> omega]
        exact HCW.out 8 _ rfl
      have n0 : ((z) != (z)) = false := by simp
      have n1 : ((z + 1) != (z + 1)) = false := by simp
      have n2 : ((z + 1 + 1) != (z + 1 + 1)) = false := by simp
      have n4 : (((z + 1 + 1 + 1 + 1) % 3 == 0) != ((z + 1 + 1 + 1 + 1) % 3 == 0)) = false := by simp
      have n5 : ((z + 1 + 1 + 1 + 1 + 1) != (z + 1 + 1 + 1 + 1 + 1)) = false := by simp
      have n6 : ((z + 1 + 1 + 1 + 1 + 1 + 1) != (z + 1 + 1 + 1 + 1 + 1 + 1)) = false := by simp
      have n8 : ((z + 1 + 1 + 1 + 1 + 1 + 1 + 1 + 1) != (z + 1 + 1 + 1 + 1 + 1 + 1 + 1 + 1)) = false := by simp
      have HP0 := HB
      go_wp2_with fail
      refine wp_region_noPanic ?_
      refine wp_region_held_drew (S := fun W => Below wr.heap.size wr W) (by kernel_rfl) (below_drew' (Below.refl _ _)) (fun hHeld => ?_)
      refine wpAnyH_take (i := 0) (oi := Oper.mk (some 39) _ _ _ _ _) (v := ?_) rfl (by kernel_rfl) (by kernel_rfl) (by kernel_rfl) (fun _ _ _ h => h) (Or.inl ⟨by rfl, ?_⟩) (by assumption) ?_
      rotate_left
      · intro w0 hSw
        clear hSw
        go_simp
        all_goals (with_reducible rfl)
      simp only [Act.put, List.setIfInBounds_toArray, List.set_cons_zero, List.set_cons_succ]
      refine wpAnyH_take (i := 1) (oi := Oper.mk (some 40) _ _ _ _ _) (v := ?_) rfl (by kernel_rfl) (by kernel_rfl) (by kernel_rfl) (fun _ _ _ h => h) (Or.inl ⟨by rfl, ?_⟩) (by assumption) ?_
      rotate_left
      · intro w0 hSw
        clear hSw
        go_simp
        all_goals (with_reducible rfl)
      simp only [Act.put, List.setIfInBounds_toArray, List.set_cons_zero, List.set_cons_succ]
      refine wpAnyH_take (i := 2) (oi := Oper.mk (some 41) _ _ _ _ _) (v := ?_) rfl (by kernel_rfl) (by kernel_rfl) (by kernel_rfl) (fun _ _ _ h => h) (Or.inl ⟨by rfl, ?_⟩) (by assumption) ?_
      rotate_left
      · intro w0 hSw
        clear hSw
        go_simp
        all_goals (with_reducible rfl)
      simp only [Act.put, List.setIfInBounds_toArray, List.set_cons_zero, List.set_cons_succ]
      refine wpAnyH_take (i := 3) (oi := Oper.mk (some 42) _ _ _ _ _) (v := ?_) rfl (by kernel_rfl) (by kernel_rfl) (by kernel_rfl) (fun _ _ _ h => h) (Or.inl ⟨by rfl, ?_⟩) (by assumption) ?_
      rotate_left
      · intro w0 hSw
        clear hSw
        go_simp
        all_goals (with_reducible rfl)
      simp only [Act.put, List.setIfInBounds_toArray, List.set_cons_zero, List.set_cons_succ]
      refine wpAnyH_take (i := 4) (oi := Oper.mk (some 43) _ _ _ _ _) (v := ?_) rfl (by kernel_rfl) (by kernel_rfl) (by kernel_rfl) (fun _ _ _ h => h) (Or.inl ⟨by rfl, ?_⟩) (by assumption) ?_
      rotate_left
      · intro w0 hSw
        have z0 : w0.cell? ⟨b, i * 9 + 3, none⟩ = some ((.string (Pl.bs (Pl.mark (k + 9 * i + 3))) : Value)) := (Below.cell hSw (p := ⟨b, i * 9 + 3, none⟩) HGb.out).trans q3
        clear hSw
        go_simp
        all_goals (with_reducible rfl)
      simp only [Act.put, List.setIfInBounds_toArray, List.set_cons_zero, List.set_cons_succ]
      refine wpAnyH_take (i := 5) (oi := Oper.mk (some 44) _ _ _ _ _) (v := ?_) rfl (by kernel_rfl) (by kernel_rfl) (by kernel_rfl) (fun _ _ _ h => h) (Or.inl ⟨by rfl, ?_⟩) (by assumption) ?_
      rotate_left
      · intro w0 hSw
        clear hSw
        go_simp
        all_goals (with_reducible rfl)
      simp only [Act.put, List.setIfInBounds_toArray, List.set_cons_zero, List.set_cons_succ]
      refine wpAnyH_ready (rs := [6]) (by kernel_rfl) (by simp) ?_
      refine AllReadyH.cons (o := Oper.mk (some 45) _ _ _ _ _) rfl (fun K hK => ?_) AllReadyH.nil
      go_simp
      go_at_call 35
      refine (markText_at _ (k + 9 * i + 3) (by have := HZ.out; omega) (by omega) (by omega) _).mono ?_
      rintro x0 Y0 ⟨rfl, hB0⟩
      have hHeld' := Below.trans hHeld (hB0.mono hHeld.size)
      clear hB0 hHeld
      go_wp2_with fail
      refine hK.out _ _ hHeld' (fun hHeld => ?_)
      clear hK K hHeld'
      (try simp only [Act.put, List.setIfInBounds_toArray, List.set_cons_zero, List.set_cons_succ])
      refine wpAnyH_take (i := 7) (oi := Oper.mk (some 46) _ _ _ _ _) (v := ?_) rfl (by kernel_rfl) (by kernel_rfl) (by kernel_rfl) (fun _ _ _ h => h) (Or.inl ⟨by rfl, ?_⟩) (by assumption) ?_
      rotate_left
      · intro w0 hSw
        clear hSw
        go_simp
        all_goals (with_reducible rfl)
      simp only [Act.put, List.setIfInBounds_toArray, List.set_cons_zero, List.set_cons_succ]
      refine wpAnyH_done (by kernel_rfl) ?_ _
      refine NoPanic.normal ?_
      replace q0 : Y0.cell? ⟨b, i * 9, none⟩ = some (.int .i64 z : Value) := (Below.cell hHeld (p := ⟨b, i * 9, none⟩) HGb.out).trans q0
      replace q1 : Y0.cell? ⟨b, i * 9 + 1, none⟩ = some (.int .i64 (z + 1) : Value) := (Below.cell hHeld (p := ⟨b, i * 9 + 1, none⟩) HGb.out).trans q1
      replace q2 : Y0.cell? ⟨b, i * 9 + 2, none⟩ = some (.int .i64 (z + 1 + 1) : Value) := (Below.cell hHeld (p := ⟨b, i * 9 + 2, none⟩) HGb.out).trans q2
      replace q3 : Y0.cell? ⟨b, i * 9 + 3, none⟩ = some (.string (Pl.bs (Pl.mark (k + 9 * i + 3))) : Value) := (Below.cell hHeld (p := ⟨b, i * 9 + 3, none⟩) HGb.out).trans q3
      replace q4 : Y0.cell? ⟨b, i * 9 + 4, none⟩ = some (.bool ((z + 1 + 1 + 1 + 1) % 3 == 0) : Value) := (Below.cell hHeld (p := ⟨b, i * 9 + 4, none⟩) HGb.out).trans q4
      replace q5 : Y0.cell? ⟨b, i * 9 + 5, none⟩ = some (.int .i64 (z + 1 + 1 + 1 + 1 + 1) : Value) := (Below.cell hHeld (p := ⟨b, i * 9 + 5, none⟩) HGb.out).trans q5
      replace q6 : Y0.cell? ⟨b, i * 9 + 6, none⟩ = some (.int .i64 (z + 1 + 1 + 1 + 1 + 1 + 1) : Value) := (Below.cell hHeld (p := ⟨b, i * 9 + 6, none⟩) HGb.out).trans q6
      replace q7 : Y0.cell? ⟨b, i * 9 + 7, none⟩ = some (.string (Pl.bs (Pl.mark (k + 9 * i + 7))) : Value) := (Below.cell hHeld (p := ⟨b, i * 9 + 7, none⟩) HGb.out).trans q7
      replace q8 : Y0.cell? ⟨b, i * 9 + 8, none⟩ = some (.int .i64 (z + 1 + 1 + 1 + 1 + 1 + 1 + 1 + 1) : Value) := (Below.cell hHeld (p := ⟨b, i * 9 + 8, none⟩) HGb.out).trans q8
      replace HGb : Hid (b < Y0.heap.size) := by show _ < _; have := HGb.out; have := hHeld.size; omega
      have HP1 := hide (HP0.out.trans (hHeld.mono HP0.out.size))
      clear hHeld
      go_wp2_with fail
      refine wp_region_noPanic ?_
      refine wp_region_held_drew (S := fun W => Below Y0.heap.size Y0 W) (by kernel_rfl) (below_drew' (Below.refl _ _)) (fun hHeld => ?_)
      refine wpAnyH_take (i := 0) (oi := Oper.mk (some 80) _ _ _ _ _) (v := ?_) rfl (by kernel_rfl) (by kernel_rfl) (by kernel_rfl) (fun _ _ _ h => h) (Or.inl ⟨by rfl, ?_⟩) (by assumption) ?_
      rotate_left
      · intro w0 hSw
        clear hSw
        go_simp
        all_goals (with_reducible rfl)
      simp only [Act.put, List.setIfInBounds_toArray, List.set_cons_zero, List.set_cons_succ]
      refine wpAnyH_take (i := 1) (oi := Oper.mk (some 81) _ _ _ _ _) (v := ?_) rfl (by kernel_rfl) (by kernel_rfl) (by kernel_rfl) (fun _ _ _ h => h) (Or.inl ⟨by rfl, ?_⟩) (by assumption) ?_
      rotate_left
      · intro w0 hSw
        clear hSw
        go_simp
        all_goals (with_reducible rfl)
      simp only [Act.put, List.setIfInBounds_toArray, List.set_cons_zero, List.set_cons_succ]
      refine wpAnyH_take (i := 2) (oi := Oper.mk (some 82) _ _ _ _ _) (v := ?_) rfl (by kernel_rfl) (by kernel_rfl) (by kernel_rfl) (fun _ _ _ h => h) (Or.inl ⟨by rfl, ?_⟩) (by assumption) ?_
      rotate_left
      · intro w0 hSw
        clear hSw
        go_simp
        all_goals (with_reducible rfl)
      simp only [Act.put, List.setIfInBounds_toArray, List.set_cons_zero, List.set_cons_succ]
      refine wpAnyH_take (i := 3) (oi := Oper.mk (some 83) _ _ _ _ _) (v := ?_) rfl (by kernel_rfl) (by kernel_rfl) (by kernel_rfl) (fun _ _ _ h => h) (Or.inl ⟨by rfl, ?_⟩) (by assumption) ?_
      rotate_left
      · intro w0 hSw
        clear hSw
        go_simp
        all_goals (with_reducible rfl)
      simp only [Act.put, List.setIfInBounds_toArray, List.set_cons_zero, List.set_cons_succ]
      refine wpAnyH_take (i := 4) (oi := Oper.mk (some 84) _ _ _ _ _) (v := ?_) rfl (by kernel_rfl) (by kernel_rfl) (by kernel_rfl) (fun _ _ _ h => h) (Or.inl ⟨by rfl, ?_⟩) (by assumption) ?_
      rotate_left
      · intro w0 hSw
        clear hSw
        go_simp
        all_goals (with_reducible rfl)
      simp only [Act.put, List.setIfInBounds_toArray, List.set_cons_zero, List.set_cons_succ]
      refine wpAnyH_take (i := 5) (oi := Oper.mk (some 85) _ _ _ _ _) (v := ?_) rfl (by kernel_rfl) (by kernel_rfl) (by kernel_rfl) (fun _ _ _ h => h) (Or.inl ⟨by rfl, ?_⟩) (by assumption) ?_
      rotate_left
      · intro w0 hSw
        have z0 : w0.cell? ⟨b, i * 9 + 7, none⟩ = some ((.string (Pl.bs (Pl.mark (k + 9 * i + 7))) : Value)) := (Below.cell hSw (p := ⟨b, i * 9 + 7, none⟩) HGb.out).trans q7
        clear hSw
        go_simp
        all_goals (with_reducible rfl)
      simp only [Act.put, List.setIfInBounds_toArray, List.set_cons_zero, List.set_cons_succ]
      refine wpAnyH_take (i := 6) (oi := Oper.mk (some 86) _ _ _ _ _) (v := ?_) rfl (by kernel_rfl) (by kernel_rfl) (by kernel_rfl) (fun _ _ _ h => h) (Or.inl ⟨by rfl, ?_⟩) (by assumption) ?_
      rotate_left
      · intro w0 hSw
        clear hSw
        go_simp
        all_goals (with_reducible rfl)
      simp only [Act.put, List.setIfInBounds_toArray, List.set_cons_zero, List.set_cons_succ]
      refine wpAnyH_ready (rs := [7]) (by kernel_rfl) (by simp) ?_
      refine AllReadyH.cons (o := Oper.mk (some 87) _ _ _ _ _) rfl (fun K hK => ?_) AllReadyH.nil
      go_simp
      go_at_call 35
      refine (markText_at _ (k + 9 * i + 7) (by have := HZ.out; omega) (by omega) (by omega) _).mono ?_
      rintro x1 Y1 ⟨rfl, hB0⟩
      have hHeld' := Below.trans hHeld (hB0.mono hHeld.size)
      clear hB0 hHeld
      go_wp2_with fail
      refine hK.out _ _ hHeld' (fun hHeld => ?_)
      clear hK K hHeld'
      (try simp only [Act.put, List.setIfInBounds_toArray, List.set_cons_zero, List.set_cons_succ])
      refine wpAnyH_take (i := 8) (oi := Oper.mk (some 88) _ _ _ _ _) (v := ?_) rfl (by kernel_rfl) (by kernel_rfl) (by kernel_rfl) (fun _ _ _ h => h) (Or.inl ⟨by rfl, ?_⟩) (by assumption) ?_
      rotate_left
      · intro w0 hSw
        clear hSw
        go_simp
        all_goals (with_reducible rfl)
      simp only [Act.put, List.setIfInBounds_toArray, List.set_cons_zero, List.set_cons_succ]
      refine wpAnyH_done (by kernel_rfl) ?_ _
      refine NoPanic.normal ?_
      replace q0 : Y1.cell? ⟨b, i * 9, none⟩ = some (.int .i64 z : Value) := (Below.cell hHeld (p := ⟨b, i * 9, none⟩) HGb.out).trans q0
      replace q1 : Y1.cell? ⟨b, i * 9 + 1, none⟩ = some (.int .i64 (z + 1) : Value) := (Below.cell hHeld (p := ⟨b, i * 9 + 1, none⟩) HGb.out).trans q1
      replace q2 : Y1.cell? ⟨b, i * 9 + 2, none⟩ = some (.int .i64 (z + 1 + 1) : Value) := (Below.cell hHeld (p := ⟨b, i * 9 + 2, none⟩) HGb.out).trans q2
      replace q3 : Y1.cell? ⟨b, i * 9 + 3, none⟩ = some (.string (Pl.bs (Pl.mark (k + 9 * i + 3))) : Value) := (Below.cell hHeld (p := ⟨b, i * 9 + 3, none⟩) HGb.out).trans q3
      replace q4 : Y1.cell? ⟨b, i * 9 + 4, none⟩ = some (.bool ((z + 1 + 1 + 1 + 1) % 3 == 0) : Value) := (Below.cell hHeld (p := ⟨b, i * 9 + 4, none⟩) HGb.out).trans q4
      replace q5 : Y1.cell? ⟨b, i * 9 + 5, none⟩ = some (.int .i64 (z + 1 + 1 + 1 + 1 + 1) : Value) := (Below.cell hHeld (p := ⟨b, i * 9 + 5, none⟩) HGb.out).trans q5
      replace q6 : Y1.cell? ⟨b, i * 9 + 6, none⟩ = some (.int .i64 (z + 1 + 1 + 1 + 1 + 1 + 1) : Value) := (Below.cell hHeld (p := ⟨b, i * 9 + 6, none⟩) HGb.out).trans q6
      replace q7 : Y1.cell? ⟨b, i * 9 + 7, none⟩ = some (.string (Pl.bs (Pl.mark (k + 9 * i + 7))) : Value) := (Below.cell hHeld (p := ⟨b, i * 9 + 7, none⟩) HGb.out).trans q7
      replace q8 : Y1.cell? ⟨b, i * 9 + 8, none⟩ = some (.int .i64 (z + 1 + 1 + 1 + 1 + 1 + 1 + 1 + 1) : Value) := (Below.cell hHeld (p := ⟨b, i * 9 + 8, none⟩) HGb.out).trans q8
      replace HGb : Hid (b < Y1.heap.size) := by show _ < _; have := HGb.out; have := hHeld.size; omega
      have HP2 := hide (HP1.out.trans (hHeld.mono HP1.out.size))
      clear hHeld
      go_wp2_with fail
      go_roundw
      case rel => exact ⟨i + 1, _, by omega, by go_num, rfl, hide (by have := HZ.out; omega), HP2⟩
      case measure => simp [intOf]; omega
    · have hie : i = n := by omega
      have HE : Hid (z = ((k + 9 * n : Nat) : Int)) := by rw [← hie]; exact HZ
      clear hie
      go_wp2_with fail
      go_ret
      exact ⟨by rw [← HE.out]; rfl, HB.out⟩
end Go.Proofs.YtbckbfjnifafaaaGreatDoor

/- All acts of a log, as the specification has them. -/
namespace Go.Proofs.YtbckbfjnifafaaaGreatDoor
open Go.RowKit
set_option linter.unusedVariables false
set_option linter.unusedSimpArgs false
/-- the acts of each text -/
def ActsAre (A : List UInt8 → List Pl.Ac) : Prop := ∀ s, Pl.Recs s (A s)
theorem acts_there : ∃ A, ActsAre A := by
  have h : ∀ s : List UInt8, ∃ xs, Pl.Recs s xs := fun s => by
    obtain ⟨xs, hx, _⟩ := Pl.recs_are s.length s (Nat.le_refl _)
    exact ⟨xs, hx⟩
  exact ⟨fun s => Classical.choose (h s), fun s => Classical.choose_spec (h s)⟩
theorem acts_ends {A : List UInt8 → List Pl.Ac} (hA : ActsAre A) : ∀ s, ∃ xs, Pl.Recs s xs ∧ (fun s => Pl.endR (A s)) s = Pl.endR xs := fun s => ⟨A s, hA s, rfl⟩
theorem acts_len {A : List UInt8 → List Pl.Ac} (hA : ActsAre A) : ∀ (L : List (List UInt8)) (m : Nat), (∀ x ∈ L, x.length ≤ m) → (L.flatMap A).length ≤ L.length * m
  | [], m, _ => by simp
  | s :: L, m, h => by
    have h1 := acts_len hA L m fun x hx => h x (List.mem_cons_of_mem _ hx)
    have h2 := Pl.recs_many _ _ (hA s)
    have h3 := h s (List.mem_cons_self ..)
    rw [List.flatMap_cons, List.length_append, List.length_cons, Nat.add_mul]
    omega
theorem take_acts {A : List UInt8 → List Pl.Ac} (L : List (List UInt8)) (i : Nat) (h : i < L.length) : (L.take (i + 1)).flatMap A = (L.take i).flatMap A ++ A (L[i]?.getD []) := by
  rw [List.take_add_one, List.getElem?_eq_getElem h, List.flatMap_append]
  simp
theorem own_base {w : World} {b b2 : Nat} {T : TypeId} {size : Nat} {v : Value} {n : Nat} {xs : List Value} (h : w.ownsRow b T size v n xs) (hb : b2 ≤ b) : w.ownsRow b2 T size v n xs := by
  refine ⟨h.1, ?_⟩
  rcases h.2 with h2 | ⟨g, cap, cur, h1, h2, h3⟩
  · exact .inl h2
  · exact .inr ⟨g, cap, cur, h1, by omega, h3⟩
theorem wp_move {ops : Array Oper} {rest : List Oper} {o : Oper} {a : Act} {W : World} {Q : Exit → Act → World → Prop} (hgd : o.guard = none) (x : Operand) (ho : o.op = .move x) (h : wpList Tryz.prog ops Q rest (a.put o.dst (a.eval x)) W) : wpList Tryz.prog ops Q (o :: rest) a W := by
  refine wpList_plain hgd fun K hK => ?_
  unfold Oper.wp
  simp [execOp, ho, Result.andThen]
  exact hK _ _ h
set_option maxRecDepth 100000 in
set_option maxHeartbeats 1600000 in
theorem l8All_any (A : List UInt8 → List Pl.Ac) (hA : ActsAre A) (L : List (List UInt8)) (hL : L.length ≤ 20) (hz : ∀ x ∈ L, x.length ≤ 400) (v : Value) (w : World) (ht : TextsAt w v L) :
    Calls Tryz.prog 31 #[lsV v] w fun e w' => ∃ v', e = .returned v' ∧ w'.ownsRow w.heap.size 45 9 v' (L.flatMap A).length ((L.flatMap A).flatMap acL) ∧ Below w.heap.size w w' := by
  obtain ⟨ad, cap, rfl, h1, h2, hc, _⟩ := ht
  have HC := hide hc
  have HZ : Hid (∀ i, i < L.length → (L[i]?.getD []).length ≤ 400) := fun i hi => by
    rw [List.getElem?_eq_getElem hi]
    simpa using hz _ (List.getElem_mem hi)
  have HAL : Hid (∀ i, ((L.take i).flatMap A).length ≤ 8000) := fun i => by
    have := acts_len hA (L.take i) 400 fun x hx => hz x (List.mem_of_mem_take hx)
    rw [List.length_take] at this
    have h3 : min i L.length * 400 ≤ 20 * 400 := Nat.mul_le_mul_right _ (by omega)
    omega
  have HA := hide hA
  unfold maxLen at h2
  clear hc hz hA
  go_enter Tryz.func31, Tryz.ntmps31
  go_wp2_with fail
  go_loopw [3, 4] (fun av iv wr => ∃ i : Nat, i ≤ L.length ∧ iv = .int .i64 i ∧ Hid (wr.ownsRow (w.heap.size + 1) 45 9 av ((L.take i).flatMap A).length (((L.take i).flatMap A).flatMap acL)) ∧ Hid (wr.heap[w.heap.size]? = some (.cells #[.slice ad L.length cap] 27 (0, 0))) ∧ Hid (Below w.heap.size w wr)) (fun _ iv _ => L.length - (intOf iv).toNat)
  case atStart =>
    refine ⟨0, by omega, rfl, ?_, ?_, ?_⟩
    · have h := World.ownsRow_made (base := w.heap.size + 1) (e := 45) (size := 9) (w.alloc (.cells #[.slice ad L.length cap] 27)) #[] 0 (by simp) (by unfold maxLen; omega) rfl
      rw [World.size_alloc] at h
      exact h
    · show (World.alloc _ _).heap[w.heap.size]? = _
      rw [heap_alloc_at, if_neg (by simp), heap_alloc_at, if_pos rfl]
    · exact ((Below.refl _ _).alloc (Nat.le_refl _) _).alloc (by simp) _
  case round =>
    obtain ⟨i, hi, rfl, HO, HX, HB⟩ := hrel
    obtain ⟨av, cv, hav⟩ := ownsRow_form HO.out
    subst hav
    have b0 := cell_of_block HX.out 0
    simp only [List.getElem?_toArray, List.getElem?_cons_zero] at b0
    have hlw : w.heap.size < wr.heap.size := (Array.getElem?_eq_some_iff.1 HX.out).1
    by_cases hlt : i < L.length
    · obtain ⟨g, off, rfl, hg, hs⟩ := HC.out (by omega)
      have c1 := (HB.out.cell (p := ⟨g, off + i, none⟩) hg).trans (hs i hlt)
      have z1 := HZ.out i hlt
      have hrec := hide (fun W => l8Acts_any (L[i]?.getD []) (by omega) (A (L[i]?.getD [])) (HA.out _) W)
      have HT := hide (take_acts (A := A) L i hlt)
      have HAN := HAL.out (i + 1)
      rw [HT.out, List.length_append] at HAN
      have HAN : Hid (((L.take i).flatMap A).length + (A (L[i]?.getD [])).length ≤ 4194304) := by show _ ≤ _; omega
      clear hs
      generalize L[i]?.getD [] = X at *
      generalize (L.take i).flatMap A = P at *
      have hii : (i : Int) < (L.length : Int) := by omega
      go_wp2_with fail
      refine (hrec.out _).mono ?_
      rintro e w1 ⟨u, rfl, hu, hB1⟩
      obtain ⟨au, cu, rfl⟩ := ownsRow_form hu
      have HU := hide hu
      have HO1 := hide (ownsRow_later HO.out hB1)
      have HX1 := hide ((hB1.block _ hlw).trans HX.out)
      have hlw1 : w.heap.size < w1.heap.size := Nat.lt_of_lt_of_le hlw hB1.size
      have HB1 := hide (HB.out.trans (hB1.mono HB.out.size))
      have HRE : Hid (∀ w2, w1.grownBy w2 (Value.slice av P.length cv).ownBlock → Below w.heap.size w w2 ∧ w2.heap[w.heap.size]? = some (.cells #[.slice (some ⟨g, off, none⟩) L.length cap] 27 (0, 0))) := fun w2 hgr => by
        have hne : ∀ k, (Value.slice av P.length cv).ownBlock = some k → w.heap.size + 1 ≤ k := fun k hk => (HO1.out.lt k hk).1
        exact ⟨HB1.out.grown hgr HB1.out.size (fun k hk => by have := hne k hk; omega), (hgr.block _ (by omega) (fun e => by have := hne _ e.symm; omega)).trans HX1.out⟩
      have HSZ : Hid (w.heap.size + 1 ≤ w1.heap.size) := hlw1
      clear hu hB1 hrec HX HB HO b0 c1
      go_upto_region 6 with fail
      refine wp_region_lit ?_
      refine wp_move rfl (.tmp 3) rfl ?_
      refine wp_move rfl (.tmp 5) rfl ?_
      refine wp_app_acts rfl (.tmp 24) (.tmp 25) rfl rfl (w.heap.size + 1) P (A X) _ _ wr.heap.size rfl rfl HO1.out HU.out HAN.out HSZ.out ?_
      intro v2 w2 hv2 hg2
      go_wp2_with fail
      go_roundw
      case rel => exact ⟨i + 1, by omega, by go_num, by rw [HT.out]; exact hv2, (HRE.out w2 hg2.out).2, (HRE.out w2 hg2.out).1⟩
      case measure => simp [intOf]; omega
    · have hie : i = L.length := by omega
      have HE : Hid (L.take i = L) := by show _ = _; rw [hie, List.take_length]
      clear hie
      go_wp2_with fail
      go_ret
      exact ⟨_, rfl, by rw [HE.out] at HO; rw [HE.out]; exact own_base HO.out (by omega), HB.out⟩
end Go.Proofs.YtbckbfjnifafaaaGreatDoor

/- All acts of a log that is ok, as the specification has them. -/
namespace Go.Proofs.YtbckbfjnifafaaaGreatDoor
open Go.RowKit
set_option linter.unusedVariables false
set_option linter.unusedSimpArgs false
theorem logS_lim {E : List UInt8 → Nat} (h0 : E [] = 0) {L : List (List UInt8)} (h : Pl.logS E L = true) : L.length ≤ 20 ∧ ∀ x ∈ L, x.length ≤ 400 := by
  rw [Pl.log_same E h0 L] at h
  unfold Pl.logI Pl.mends at h
  simp only [Bool.and_eq_true, decide_eq_true_eq, List.all_eq_true, List.mem_range] at h
  obtain ⟨⟨⟨_, h1⟩, h2⟩, _⟩ := h
  refine ⟨h1, fun x hx => ?_⟩
  obtain ⟨i, hi, rfl⟩ := List.mem_iff_getElem.1 hx
  have h3 := h2 i hi
  unfold Pl.segM at h3
  rw [List.getElem?_eq_getElem hi] at h3
  simp at h3
  exact h3.1
/-- the acts of a log -/
def Pl.actsOf (A : List UInt8 → List Pl.Ac) (L : List (List UInt8)) : List Pl.Ac := if Pl.logS (fun s => Pl.endR (A s)) L then L.flatMap A else []
theorem ends_zero {A : List UInt8 → List Pl.Ac} (hA : ActsAre A) : (fun s => Pl.endR (A s)) [] = 0 := by
  have h := Pl.recs_end _ _ (hA [])
  simpa using h
set_option maxRecDepth 100000 in
set_option maxHeartbeats 1600000 in
theorem specLogActs_any (A : List UInt8 → List Pl.Ac) (hA : ActsAre A) (L : List (List UInt8)) (hN : L.length ≤ 1048576) (hz : ∀ x ∈ L, x.length ≤ 1048576) (v : Value) (w : World) (ht : TextsAt w v L) :
    Calls Tryz.prog 12 #[lsV v] w fun e w' => ∃ v', e = .returned v' ∧ w'.ownsRow w.heap.size 45 9 v' (Pl.actsOf A L).length ((Pl.actsOf A L).flatMap acL) ∧ Below w.heap.size w w' := by
  have hb0 : Below w.heap.size w (w.alloc (.cells #[v] 27)) := (Below.refl _ _).alloc (Nat.le_refl _) _
  have hok := hide (specLogOk_any _ (acts_ends hA) L hN hz v _ (ht.later hb0))
  have HT := hide (fun W (hW : Below w.heap.size w W) => ht.later hW)
  have HA := hide hA
  have HI : Hid (Pl.actsOf A L = if Pl.logS (fun s => Pl.endR (A s)) L then L.flatMap A else []) := rfl
  have HLM := hide (fun h => logS_lim (E := fun s => Pl.endR (A s)) (ends_zero hA) (L := L) h)
  clear ht hA hb0 hz
  cases hb : Pl.logS (fun s => Pl.endR (A s)) L
  · rw [hb] at hok
    have HI2 : Hid (Pl.actsOf A L = []) := by show _ = _; rw [HI.out, hb]; rfl
    clear HI HLM HA HT
    go_enter Tryz.func12, Tryz.ntmps12
    go_wp2_with fail
    refine hok.out.mono ?_
    rintro e w1 ⟨rfl, hB1⟩
    have HB := hide (((Below.refl w.heap.size w).alloc (Nat.le_refl _) (.cells #[v] 27)).trans (hB1.mono (by simp)))
    clear hB1 hok
    go_wp2_with fail
    go_ret
    refine ⟨_, rfl, ?_, HB.out.alloc HB.out.size _⟩
    rw [HI2.out]
    exact own_base (World.ownsRow_made (base := w1.heap.size) _ #[] 0 (Nat.le_refl _) (by unfold maxLen; omega) rfl) HB.out.size
  · rw [hb] at hok
    have HI2 : Hid (Pl.actsOf A L = L.flatMap A) := by show _ = _; rw [HI.out, hb]; rfl
    obtain ⟨hl1, hl2⟩ := HLM.out hb
    have hall := hide (fun W (hW : Below w.heap.size w W) => l8All_any A HA.out L hl1 hl2 v W (HT.out W hW))
    clear HI HLM HA HT hl1 hl2
    go_enter Tryz.func12, Tryz.ntmps12
    go_wp2_with fail
    refine hok.out.mono ?_
    rintro e w1 ⟨rfl, hB1⟩
    have HB := hide (((Below.refl w.heap.size w).alloc (Nat.le_refl _) (.cells #[v] 27)).trans (hB1.mono (by simp)))
    have hbx : w1.heap[w.heap.size]? = some (.cells #[v] 27 (0, 0)) := by
      have e1 : (w.alloc (.cells #[v] 27)).heap.size = w.heap.size + 1 := by simp
      rw [hB1.block _ (by omega), heap_alloc_at, if_pos rfl]
    have b0 := cell_of_block hbx 0
    simp only [List.getElem?_toArray, List.getElem?_cons_zero] at b0
    clear hB1 hok hbx
    go_wp2_with fail
    refine (hall.out _ HB.out).mono ?_
    rintro e2 w2 ⟨v', rfl, hv, hB2⟩
    have HV := hide (own_base hv HB.out.size)
    have HB2 := hide (HB.out.trans (hB2.mono HB.out.size))
    clear hv hB2
    go_wp2_with fail
    go_ret
    exact ⟨_, rfl, by rw [HI2.out]; exact HV.out, HB2.out⟩
end Go.Proofs.YtbckbfjnifafaaaGreatDoor

/- All acts of a log, as the program has them. -/
namespace Go.Proofs.YtbckbfjnifafaaaGreatDoor
open Go.RowKit Go.Shelf
set_option linter.unusedVariables false
set_option linter.unusedSimpArgs false
attribute [local go_sem] Oper.semAt_some
/-- the marks of loops that are done -/
def MarksIn (n0 m : Nat) (ds : List Deferred) (W : World) : Prop :=
  (∀ d ∈ ds, ∃ D, d.target = .collected D ∧ n0 ≤ D ∧ D < m ∧ W.heap[D]? = some (.deferred (some []))) ∧ ds.Pairwise (fun d e => d.target ≠ e.target)
theorem MarksIn.kept {n0 m : Nat} {ds : List Deferred} {A B : World} (h : MarksIn n0 m ds A) (hk : ∀ D, D < m → A.heap[D]? = some (.deferred (some [])) → B.heap[D]? = some (.deferred (some []))) : MarksIn n0 m ds B :=
  ⟨fun d hd => by obtain ⟨D, h1, h2, h3, h4⟩ := h.1 d hd; exact ⟨D, h1, h2, h3, hk D h3 h4⟩, h.2⟩
theorem MarksIn.up {n0 m m' : Nat} {ds : List Deferred} {A : World} (h : MarksIn n0 m ds A) (hm : m ≤ m') : MarksIn n0 m' ds A :=
  ⟨fun d hd => by obtain ⟨D, h1, h2, h3, h4⟩ := h.1 d hd; exact ⟨D, h1, h2, by omega, h4⟩, h.2⟩
theorem MarksIn.more {n0 m m' D : Nat} {ds : List Deferred} {A : World} (h : MarksIn n0 m ds A) (hm : m ≤ D) (hD : D < m') (hn : n0 ≤ D) (hk : A.heap[D]? = some (.deferred (some []))) : MarksIn n0 m' ({ target := .collected D, args := #[] } :: ds) A := by
  refine ⟨fun d hd => ?_, List.pairwise_cons.2 ⟨fun e he => ?_, h.2⟩⟩
  · rcases List.mem_cons.1 hd with rfl | hd
    · exact ⟨D, rfl, hn, hD, hk⟩
    · obtain ⟨D', h1, h2, h3, h4⟩ := h.1 d hd
      exact ⟨D', h1, h2, by omega, h4⟩
  · obtain ⟨D', h1, h2, h3, h4⟩ := h.1 e he
    rw [h1]
    intro hh
    injection hh with hh
    omega
theorem leaves_marks {F : Fence} {n : Nat} {P : Program} {fn : Func} {tmps : Array Value} {R : Ending → World → Prop} (n0 m : Nat) (Φ : World → Prop) (hΦ : ∀ W D, Φ W → n0 ≤ D → W.heap[D]? = some (.deferred (some [])) → Φ (W.putObj D (.deferred none)))
    (hend : ∀ W, Φ W → LeavesInM F n P fn tmps R [] .returning W) : ∀ (ds : List Deferred) (W : World), MarksIn n0 m ds W → Φ W → LeavesInM F n P fn tmps R ds .returning W
  | [], W, _, h => hend W h
  | d :: ds, W, hm, h => by
    obtain ⟨D, h1, h2, h3, h4⟩ := hm.1 d (List.mem_cons_self ..)
    refine ⟨by simp, .inl ⟨D, _, h1, run_takeDeferred h4, leaves_marks n0 m Φ hΦ hend ds _ ⟨fun e he => ?_, (List.pairwise_cons.1 hm.2).2⟩ (hΦ W D h h2 h4)⟩⟩
    obtain ⟨D', k1, k2, k3, k4⟩ := hm.1 e (List.mem_cons_of_mem _ he)
    refine ⟨D', k1, k2, k3, ?_⟩
    rw [World.putObj_heap_other]
    · exact k4
    · have := (List.pairwise_cons.1 hm.2).1 e he
      rw [h1, k1] at this
      intro e
      exact this (by rw [e])
/-- what the gathering keeps -/
def LaI (n0 Bt m : Nat) (w : World) (X : List UInt8) (ds : List Deferred) (Q : List Pl.Ac) (W : World) : Prop :=
  (∃ v, Boxed W (n0 + 1) 31 v ∧ W.ownsRow n0 45 9 v Q.length (Q.flatMap acL) ∧ True) ∧ Boxed W Bt 9 (.string (Pl.bs X)) ∧ Below n0 w W ∧ MarksIn n0 m ds W
theorem LaI.own {n0 Bt m : Nat} {w : World} {X : List UInt8} {ds : List Deferred} (P : List Pl.Ac) (hn : n0 ≤ w.heap.size) (hm : n0 ≤ m) : OwnFrom m (fun (pre : List (Pl.Ac × Nat)) W => LaI n0 Bt m w X ds (P ++ pre.map (·.1)) W) :=
  OwnFrom.and ((holdsRow_own n0 (n0 + 1) 31 45 9 (fun pre : List (Pl.Ac × Nat) => (P ++ pre.map (·.1)).length) (fun pre => (P ++ pre.map (·.1)).flatMap acL) (fun _ _ => True)).from _)
    (OwnFrom.and ((boxed_own Bt 9 (fun _ => .string (Pl.bs X))).from _) (OwnFrom.and (ownFrom_below hn hm) (fun s A B row hs hg hr => hs.kept fun D hD hk => (hg.block D (Array.getElem?_eq_some_iff.1 hk).1 (fun e => by have := (hr _ e.symm).1; omega)).trans hk)))
/-- where the round's act lies -/
def AxA (n0 : Nat) (v0 v8 : Value) (L cap i : Nat) (X : List UInt8) (u11 u12 u18 u19 u20 u21 u22 f15 : Value) (x : Pl.Ac × Nat) (a' : Act) (W : World) : Prop :=
  ∃ Bx, W.heap[Bx]? = some (.cells (acL x.1).toArray 45 (0, 0)) ∧ a' = { tmps := #[v0, .pointer (some ⟨n0, 0, none⟩), .slice none 0 0, .pointer (some ⟨n0 + 1, 0, none⟩), undef, sv X, .pointer (some ⟨Bx, 0, none⟩), .pointer (some ⟨n0, 0, none⟩), v8, .int .i64 (L : Int), .int .i64 (i : Int), u11, u12, sv X, sv X, f15, actV x.1.k x.1.r x.1.p x.1.nm x.1.o x.1.vk x.1.vn x.1.vt x.1.m, .int .i64 (x.2 : Int), u18, u19, u20, u21, u22, undef], defers := [] }
theorem AxA.own {n0 B : Nat} {v0 v8 : Value} {L cap i : Nat} {X : List UInt8} {u11 u12 u18 u19 u20 u21 u22 f15 : Value} (x : Pl.Ac × Nat) (a' : Act) : OwnFrom B (fun (_ : Unit) W => AxA n0 v0 v8 L cap i X u11 u12 u18 u19 u20 u21 u22 f15 x a' W) := by
  rintro s A C row ⟨Bx, hb, ha⟩ hg hr
  refine ⟨Bx, (hg.block Bx (Array.getElem?_eq_some_iff.1 hb).1 (fun e => ?_)).trans hb, ha⟩
  obtain ⟨_, o, ho, hc⟩ := hr _ e.symm
  rw [hb] at ho
  cases ho
  cases hc
end Go.Proofs.YtbckbfjnifafaaaGreatDoor

/- All acts of a log, as the program gathers them. -/
namespace Go.Proofs.YtbckbfjnifafaaaGreatDoor
open Go.RowKit Go.Shelf
set_option linter.unusedVariables false
set_option linter.unusedSimpArgs false
attribute [local go_sem] Oper.semAt_some
theorem ends_fst : ∀ (xs : List Pl.Ac) (n : Nat), (Pl.ends n xs).map (·.1) = xs
  | [], _ => rfl
  | a :: xs, n => by simp only [Pl.ends, List.map_cons, ends_fst xs]
set_option maxRecDepth 100000 in
set_option maxHeartbeats 3200000 in
theorem logActs_any (A : List UInt8 → List Pl.Ac) (hA : ActsAre A) (L : List (List UInt8)) (hL : L.length ≤ 20) (hz : ∀ x ∈ L, x.length ≤ 400) (v : Value) (w : World) (ht : TextsAt w v L) (hG : Glob w) :
    Calls Tryz.prog 32 #[lgV v] w fun e w' => ∃ v', e = .returned v' ∧ w'.ownsRow w.heap.size 45 9 v' (L.flatMap A).length ((L.flatMap A).flatMap acL) ∧ Below w.heap.size w w' := by
  obtain ⟨ad, cap, rfl, h1, h2, hc, _⟩ := ht
  have HC := hide hc
  have HZ : Hid (∀ i, i < L.length → (L[i]?.getD []).length ≤ 400) := fun i hi => by
    rw [List.getElem?_eq_getElem hi]
    simpa using hz _ (List.getElem_mem hi)
  have HAL : Hid (∀ i, ((L.take i).flatMap A).length ≤ 8000) := fun i => by
    have := acts_len hA (L.take i) 400 fun x hx => hz x (List.mem_of_mem_take hx)
    rw [List.length_take] at this
    have h3 : min i L.length * 400 ≤ 20 * 400 := Nat.mul_le_mul_right _ (by omega)
    omega
  have HA := hide hA
  have HG := hide hG
  unfold maxLen at h2
  clear hc hz hA hG
  refine (callsIn_wide (n := 6)).1 ?_
  have hF1 : Fence.wide.fn 51 := trivial
  refine callsIn_of_wp_marks Tryz.func32 rfl trivial ?_ rfl
  simp only [Tryz.ntmps32, List.size_toArray, List.length_cons, List.length_nil, Nat.reduceAdd, Nat.reduceSub, Array.replicate_succ, Array.replicate_zero, List.push_toArray, List.append_toArray, List.nil_append, List.cons_append]
  gi_wp2_with fail
  refine wpIn_loop (fun a' wr => ∃ (i : Nat) (av : Value) (ds : List Deferred) (u5 u6 u11 u12 u13 u14 u15 u18 u19 u20 u21 u22 : Value),
    (i ≤ L.length ∧ Hid (Boxed wr (w.heap.size + 1) 31 av) ∧ Hid (wr.ownsRow w.heap.size 45 9 av ((L.take i).flatMap A).length (((L.take i).flatMap A).flatMap acL)) ∧ Hid (Below w.heap.size w wr) ∧ Hid (MarksIn w.heap.size wr.heap.size ds wr))
    ∧ a' = { tmps := #[lgV (.slice ad L.length cap), .pointer (some ⟨w.heap.size, 0, none⟩), .slice none 0 0, .pointer (some ⟨w.heap.size + 1, 0, none⟩), undef, u5, u6, .pointer (some ⟨w.heap.size, 0, none⟩), .slice ad L.length cap, .int .i64 (L.length : Int), .int .i64 (i : Int), u11, u12, u13, u14, u15, undef, undef, u18, u19, u20, u21, u22, undef], defers := ds })
    (fun a' _ => L.length - (intOf (a'.tmps.getD 10 undef)).toNat) ?start ?round
  case start =>
    refine ⟨0, .slice none 0 0, [], undef, undef, undef, undef, undef, undef, undef, undef, undef, undef, undef, undef, ⟨by omega, ?_, ?_, ?_, ?_⟩, rfl⟩
    · have := Boxed.new (w.alloc (.cells #[.slice ad L.length cap] 27)) 31 (.slice none 0 0)
      rw [World.size_alloc] at this
      exact this
    · exact act_row_nil _ _
    · exact ((Below.refl _ _).alloc (Nat.le_refl _) _).alloc (by simp) _
    · exact ⟨fun d hd => (List.not_mem_nil hd).elim, List.Pairwise.nil⟩
  case round =>
    rintro a' wr ⟨i, av, ds, u5, u6, u11, u12, u13, u14, u15, u18, u19, u20, u21, u22, ⟨hi, HX, HO, HB, HM⟩, rfl⟩
    have hc0 := HX.out.cell
    by_cases hlt : i < L.length
    · obtain ⟨g, off, rfl, hg, hs⟩ := HC.out (by omega)
      have c1 := (HB.out.cell (p := ⟨g, off + i, none⟩) hg).trans (hs i hlt)
      have z1 := HZ.out i hlt
      have HR := hide (HA.out (L[i]?.getD []))
      have HT := hide (take_acts (A := A) L i hlt)
      have HAN := HAL.out (i + 1)
      rw [HT.out, List.length_append] at HAN
      have HAN : Hid (((L.take i).flatMap A).length + (A (L[i]?.getD [])).length ≤ 8000) := HAN
      clear hs
      generalize L[i]?.getD [] = X at *
      generalize (L.take i).flatMap A = P at *
      have hii : (i : Int) < (L.length : Int) := by omega
      have hsw := HB.out.size
      have hlw : w.heap.size + 1 < wr.heap.size := HX.out.lt
      gi_wp2_with (gi_at_call 51; refine (recordsOf_in _ _ _).mono ?_; rintro e w' ⟨rfl, rfl⟩)
      obtain ⟨W0, hW0⟩ : ∃ W0, W0 = wr.alloc (Obj.cells #[Value.string (Pl.bs X)] 9) := ⟨_, rfl⟩
      have hsz : W0.heap.size = wr.heap.size + 1 := by rw [hW0]; simp
      have hB0 : Below w.heap.size w W0 := by rw [hW0]; exact HB.out.alloc hsw _
      have hbox : boxS W0 wr.heap.size (Pl.bs X) := by
        rw [hW0]
        exact Boxed.new wr 9 (.string (Pl.bs X))
      have hI0 : LaI w.heap.size wr.heap.size W0.heap.size w X ds (P ++ ([] : List (Pl.Ac × Nat)).map (·.1)) W0 := by
        simp only [List.map_nil, List.append_nil]
        have hBW : Below wr.heap.size wr W0 := by rw [hW0]; exact (Below.refl _ _).alloc (Nat.le_refl _) _
        exact ⟨⟨av, (hBW.block _ hlw).trans HX.out, ownsRow_later HO.out hBW, trivial⟩, hbox, hB0, (HM.out.up (by omega)).kept fun D hD hk => (hBW.block D (Array.getElem?_eq_some_iff.1 hk).1).trans hk⟩
      have hst := recs_stops (6 - 1) (by decide) w.heap.size wr.heap.size X (by omega) (A X) HR.out W0 (HG.out.later hB0) HG.out.lie (by omega) hbox
      rw [← hW0]
      clear hW0
      refine wpIn_rangeFunc_ownH rfl (by decide) (gf := 64) (lb := #[.pointer (some ⟨wr.heap.size, 0, none⟩)]) rfl trivial (enters_of Tryz.func64 (by kernel_rfl) rfl)
        hst (fun h k => ⟨h.1.trans k.1, k.2.trans h.2⟩) (fun W l o o' hl h hc hwk => ⟨belowK_b (w := W0) (by omega) W l o o' hl h hc hwk, World.putObj_heap_other (by omega)⟩) (Below.refl _ _) (fun _ => rfl)
        (fun pre W => LaI w.heap.size wr.heap.size W0.heap.size w X ds (P ++ pre.map (·.1)) W)
        (fun _ _ _ => False) (LaI.own P (Nat.le_refl _) (by omega)) (fun _ _ _ _ _ hs _ _ => hs) hI0
        (fun x a' W => AxA w.heap.size (lgV (.slice (some ⟨g, off, none⟩) L.length cap)) (.slice (some ⟨g, off, none⟩) L.length cap) L.length cap i X (.bool true) (.pointer (some ⟨g, off + i, none⟩)) u18 u19 u20 u21 u22 (.func (.func 64) #[] #[.pointer (some ⟨wr.heap.size, 0, none⟩)]) x a' W)
        (fun x a' => AxA.own x a') ?assign ?body ?done ?stop
      case assign =>
        rintro l pre x W K hi0 hK
        simp only [encR]
        gi_wp2
        obtain ⟨⟨v', q1, q2, _⟩, q3, q4, q5⟩ := hi0
        have hA1 : ∀ O, Below W.heap.size W (W.alloc O) := fun O => (Below.refl _ _).alloc (Nat.le_refl _) _
        refine hK _ _ ((KeepsOthers.alloc _ _).from _) ⟨(Below.refl _ _).alloc q4.size _, (hA1 _).block _ q3.lt⟩ ⟨⟨v', q1.alloc _, ownsRow_later q2 (hA1 _), trivial⟩, q3.alloc _, q4.alloc q4.size _, q5.kept fun D hD hk => ((hA1 _).block D (Array.getElem?_eq_some_iff.1 hk).1).trans hk⟩ ⟨W.heap.size, ?_, rfl⟩
        exact World.alloc_heap_new _ _
      case body =>
        rintro l pre x a' W hl ⟨r, hr⟩ ⟨⟨v', q1, q2, _⟩, q3, q4, q5⟩ ⟨Bx, bX, rfl⟩ hlen
        have HQ : P ++ (pre ++ [x]).map (·.1) = (P ++ pre.map (·.1)) ++ [x.1] := by simp
        have HQN : Hid ((P ++ pre.map (·.1)).length + 1 ≤ 8000) := by
          show _ ≤ _
          rw [List.length_append, List.length_map]
          have := HAN.out
          omega
        generalize P ++ pre.map (·.1) = Z at *
        have HQ := hide HQ
        obtain ⟨vd, vc, rfl⟩ := ownsRow_form q2
        obtain ⟨i0, hi', hz0, hz1, hz2⟩ := info_parts infoAct
        have hcl := q1.cell
        have p0 := cell_of_block bX 0
        have p1 := cell_of_block bX 1
        have p2 := cell_of_block bX 2
        have p3 := cell_of_block bX 3
        have p4 := cell_of_block bX 4
        have p5 := cell_of_block bX 5
        have p6 := cell_of_block bX 6
        have p7 := cell_of_block bX 7
        have p8 := cell_of_block bX 8
        simp only [acL, actL, List.getElem?_toArray, List.getElem?_cons_zero, List.getElem?_cons_succ] at p0 p1 p2 p3 p4 p5 p6 p7 p8
        have hZ1 : Z.length + 1 ≤ maxLen := by unfold maxLen; have := HQN.out; omega
        have hZ2 : (Z.length + 1) * 88 ≤ 140737488355328 := by have := HQN.out; omega
        have hwW : ∀ O, w.heap.size ≤ (W.alloc O).heap.size := fun O => by have := q4.size; simp; omega
        have hone : ∀ u ∈ acL x.1, u.oneCell' = true := fun u hu => by
          simp only [acL, actL, List.mem_cons, List.not_mem_nil, or_false] at hu
          rcases hu with rfl | rfl | rfl | rfl | rfl | rfl | rfl | rfl | rfl <;> rfl
        have hqA : ∀ O, (W.alloc O).ownsRow w.heap.size 45 9 (.slice vd Z.length vc) Z.length (Z.flatMap acL) := fun O => ownsRow_later q2 ((Below.refl _ _).alloc (Nat.le_refl _) _)
        have hcn := cells_new W x.1 45
        clear bX
        gi_wp2_with (gi_at_builtin; refine wpListIn_append_own _ rfl (.tmp 18) (.tmp 20) _ rfl w.heap.size 45 i0 _ 9 88 Tryz.underlying31 hi' hz0 hz1 hz2 rfl (by decide) _ _ _ rfl (hqA _) ⟨W.heap.size, 0, none⟩ 1 1 (acL x.1) rfl rfl hcn hone hZ1 hZ2 (hwW _) ?_; intro v2 w1 hown' hgrow _; obtain ⟨g', cap', rfl⟩ := ownsRow_succ hown'; obtain ⟨hv1, hv2, hr2, hk2, hb2⟩ := q1.appended (by decide) q2 q4.size (Nat.le_succ _) hown' hgrow; have hc1 := hv1.cell; have hf1 := hv1.frozen)
        have hbt : Boxed (w1.setCell ⟨w.heap.size + 1, 0, none⟩ (.slice (some ⟨g', 0, none⟩) (Z.length + 1) cap')) wr.heap.size 9 (.string (Pl.bs X)) := ((q3.alloc _).kept hgrow (q3.not_row (by decide) q2)).other (by omega) _
        refine ⟨hk2.from _, ⟨hb2, ?_⟩, ⟨_, hv2, ?_, trivial⟩, hbt, q4.trans hb2, q5.kept fun D hD hk => hk2.same D _ hk rfl⟩
        · exact (show _ = _ from hbt).trans (show _ = _ from q3).symm
        · rw [HQ.out]
          simpa [List.flatMap_append] using hr2
      case done =>
        rintro D ys W hD rfl ⟨⟨v', q1, q2, _⟩, q3, q4, q5⟩ hK
        rw [ends_fst] at q2
        have hDl : D < W.heap.size := (Array.getElem?_eq_some_iff.1 hK).1
        have HX' := hide q1
        have HO' := hide q2
        have HB' := hide q4
        have HM' := hide (q5.more hD hDl (by omega) hK)
        clear q1 q2 q3 q4 q5 hK hst hI0
        gi_wp2
        refine ⟨⟨i + 1, v', _, _, _, _, _, _, _, _, _, _, _, _, _, ⟨by omega, HX', ?_, HB', HM'⟩, rfl⟩, ?_⟩
        · rw [HT.out]; exact HO'
        · simp [intOf]; omega
      case stop =>
        rintro D c pre W _ _ h _
        exact h.elim
    · have hie : i = L.length := by omega
      have HE : Hid (L.take i = L) := by show _ = _; rw [hie, List.take_length]
      have HO2 : Hid (wr.ownsRow w.heap.size 45 9 av (L.flatMap A).length ((L.flatMap A).flatMap acL)) := by
        have := HO.out
        rw [HE.out] at this
        exact this
      clear hie HO
      gi_wp2_with fail
      refine leaves_marks w.heap.size wr.heap.size (fun W => W.ownsRow w.heap.size 45 9 av (L.flatMap A).length ((L.flatMap A).flatMap acL) ∧ Below w.heap.size w W) (fun W D h hD hk => ⟨ownsRow_putObj h.1 _ hk rfl, h.2.trans (belowK_b (w := w) (Nat.le_refl _) W D _ _ hD hk rfl rfl)⟩) (fun W h => ?_) ds wr HM.out ⟨HO2.out, HB.out⟩
      exact ⟨_, results_tmp rfl _ _ _, av, rfl, h.1, h.2⟩
end Go.Proofs.YtbckbfjnifafaaaGreatDoor

/- All acts of a log that is ok, as the program has them. -/
namespace Go.Proofs.YtbckbfjnifafaaaGreatDoor
open Go.RowKit
set_option linter.unusedVariables false
set_option linter.unusedSimpArgs false
set_option maxRecDepth 100000 in
set_option maxHeartbeats 1600000 in
theorem implLogActs_any (A : List UInt8 → List Pl.Ac) (hA : ActsAre A) (L : List (List UInt8)) (hN : L.length ≤ 1048576) (hz : ∀ x ∈ L, x.length ≤ 1048576) (v : Value) (w : World) (ht : TextsAt w v L) (hG : Glob w) :
    Calls Tryz.prog 13 #[lgV v] w fun e w' => ∃ v', e = .returned v' ∧ w'.ownsRow w.heap.size 45 9 v' (Pl.actsOf A L).length ((Pl.actsOf A L).flatMap acL) ∧ Below w.heap.size w w' := by
  have hb0 : Below w.heap.size w (w.alloc (.cells #[v] 27)) := (Below.refl _ _).alloc (Nat.le_refl _) _
  have hok := hide (implLogOk_any _ (acts_ends hA) L hz v _ (ht.later hb0) (hG.later hb0))
  have HT := hide (fun W (hW : Below w.heap.size w W) => ht.later hW)
  have HA := hide hA
  have HG := hide hG
  have HLI := hide (Pl.log_same (fun s => Pl.endR (A s)) (ends_zero hA) L)
  have HI : Hid (Pl.actsOf A L = if Pl.logS (fun s => Pl.endR (A s)) L then L.flatMap A else []) := rfl
  have HLM := hide (fun h => logS_lim (E := fun s => Pl.endR (A s)) (ends_zero hA) (L := L) h)
  clear ht hA hb0 hz hG
  cases hb : Pl.logS (fun s => Pl.endR (A s)) L
  · rw [← HLI.out, hb] at hok
    have HI2 : Hid (Pl.actsOf A L = []) := by show _ = _; rw [HI.out, hb]; rfl
    clear HI HLM HA HT
    go_enter Tryz.func13, Tryz.ntmps13
    go_wp2_with fail
    refine hok.out.mono ?_
    rintro e w1 ⟨rfl, hB1⟩
    have HB := hide (((Below.refl w.heap.size w).alloc (Nat.le_refl _) (.cells #[v] 27)).trans (hB1.mono (by simp)))
    clear hB1 hok
    go_wp2_with fail
    go_ret
    refine ⟨_, rfl, ?_, HB.out⟩
    rw [HI2.out]
    exact act_row_nil _ _
  · rw [← HLI.out, hb] at hok
    have HI2 : Hid (Pl.actsOf A L = L.flatMap A) := by show _ = _; rw [HI.out, hb]; rfl
    obtain ⟨hl1, hl2⟩ := HLM.out hb
    have hall := hide (fun W (hW : Below w.heap.size w W) => logActs_any A HA.out L hl1 hl2 v W (HT.out W hW) (HG.out.later hW))
    clear HI HLM HA HT hl1 hl2
    go_enter Tryz.func13, Tryz.ntmps13
    go_wp2_with fail
    refine hok.out.mono ?_
    rintro e w1 ⟨rfl, hB1⟩
    have HB := hide (((Below.refl w.heap.size w).alloc (Nat.le_refl _) (.cells #[v] 27)).trans (hB1.mono (by simp)))
    have hbx : w1.heap[w.heap.size]? = some (.cells #[v] 27 (0, 0)) := by
      have e1 : (w.alloc (.cells #[v] 27)).heap.size = w.heap.size + 1 := by simp
      rw [hB1.block _ (by omega), heap_alloc_at, if_pos rfl]
    have b0 := cell_of_block hbx 0
    simp only [List.getElem?_toArray, List.getElem?_cons_zero] at b0
    clear hB1 hok hbx
    go_wp2_with fail
    refine (hall.out _ HB.out).mono ?_
    rintro e2 w2 ⟨v', rfl, hv, hB2⟩
    have HV := hide (own_base hv HB.out.size)
    have HB2 := hide (HB.out.trans (hB2.mono HB.out.size))
    clear hv hB2
    go_wp2_with fail
    go_ret
    exact ⟨_, rfl, by rw [HI2.out]; exact HV.out, HB2.out⟩
end Go.Proofs.YtbckbfjnifafaaaGreatDoor

/- What the law on all acts of a log wants besides: a log made anew, marked; rows of acts marked from one on. -/
namespace Go.Proofs.YtbckbfjnifafaaaGreatDoor
open Go.RowKit
set_option linter.unusedVariables false
set_option linter.unusedSimpArgs false
set_option maxHeartbeats 1600000 in
theorem toLogO_any (L : List (List UInt8)) (hN : L.length ≤ 1048576) (v : Value) (w : World) (ht : TextsAt w v L) :
    Calls Tryz.prog 9 #[logV v] w fun e w' => (∃ g, e = .returned (logV (.slice (some ⟨g, 0, none⟩) L.length L.length)) ∧ w.heap.size ≤ g ∧ g < w'.heap.size ∧ TextsAt w' (.slice (some ⟨g, 0, none⟩) L.length L.length) L ∧ ∃ C : Array Value, w'.heap[g]? = some (.cells C 9 (0, 0)) ∧ C.size = L.length) ∧ Below w.heap.size w w' := by
  have hb0 : ∀ O A B, Below w.heap.size w (((w.alloc O).alloc A).alloc B) := fun O A B => (((Below.refl _ _).alloc (Nat.le_refl _) O).alloc (by simp) A).alloc (by simp; omega) B
  have hs := hide (fun O A B => toStringS_any L hN v (((w.alloc O).alloc A).alloc B) (ht.later (hb0 O A B)))
  clear ht hb0
  go_enter Tryz.func9, Tryz.ntmps9
  go_wp2_with fail
  refine (hs.out _ _ _).mono ?_
  rintro e w1 ⟨rfl, hT⟩
  have hB1 := hT.2
  obtain ⟨b1, b2, HB, hsz⟩ := three_box hB1
  have hat := hT.at hN
  obtain ⟨C, hC1, hC2, _⟩ := hT.1
  have HC1 := hide hC1
  have HC2 := hide hC2
  have r1 := cell_of_block b1 0
  have f1 := free_of_block b1 0
  have r2 := cell_of_block b2 0
  have f2 := free_of_block b2 0
  simp only [List.getElem?_toArray, List.getElem?_cons_zero] at r1 r2
  have H1 := hide b1
  have H2 := hide b2
  have HT := hide hat
  have HBB := hide HB
  clear hT hB1 b1 b2 hat HB hs hC1 hC2
  go_wp2
  have hne : w.heap.size + 1 ≠ w.heap.size + 1 + 1 := by omega
  have hb8 : (w1.setCell ⟨w.heap.size + 1 + 1, 0, none⟩ (.slice (some ⟨w.heap.size + 1 + 1 + 1, 0, none⟩) L.length L.length)).heap[w.heap.size + 1]? = some (.cells #[.slice none 0 0] 27 (0, 0)) := (Below.heap_setCell _ _ _ _ hne).trans H1.out
  have hb9 := block_set hb8 0 (.slice (some ⟨w.heap.size + 1 + 1 + 1, 0, none⟩) L.length L.length)
  have m1 := cell_of_block hb9 0
  simp only [List.setIfInBounds_toArray, List.set_cons_zero, List.getElem?_toArray, List.getElem?_cons_zero] at m1
  refine bodyPost_ret (v := logV (.slice (some ⟨w.heap.size + 1 + 1 + 1, 0, none⟩) L.length L.length)) (by simp [results, Tryz.results9, go_sem, m1]) rfl ?_
  have hsz3 : (((w.alloc (.cells #[v] 24)).alloc (.cells #[.slice none 0 0] 27)).alloc (.cells #[.slice none 0 0] 27)).heap.size = w.heap.size + 1 + 1 + 1 := by simp
  refine ⟨⟨w.heap.size + 1 + 1 + 1, rfl, by omega, ?_, ?_, C, ?_, HC2.out⟩, (HBB.out.setCell (p := ⟨w.heap.size + 1 + 1, 0, none⟩) (by show w.heap.size ≤ w.heap.size + 1 + 1; omega) _).setCell (p := ⟨w.heap.size + 1, 0, none⟩) (by show w.heap.size ≤ w.heap.size + 1; omega) _⟩
  · have hc1 := HC1.out
    rw [hsz3] at hc1
    have := (Array.getElem?_eq_some_iff.1 hc1).1
    simpa [World.setCell] using this
  · have ht := HT.out
    rw [hsz3] at ht
    exact (ht.grown (grownBy_setCell' w1 (w.heap.size + 1 + 1) _) (fun g e h => by cases e; simp at h)).grown (grownBy_setCell' _ (w.heap.size + 1) _) (fun g e h => by cases e; simp at h; omega)
  · have hc1 := HC1.out
    rw [hsz3] at hc1
    exact (Below.heap_setCell _ _ _ _ (by simp only; omega)).trans ((Below.heap_setCell _ _ _ _ (by simp only; omega)).trans hc1)
theorem below_gb {w X Y : World} {r : Option Nat} (h : Below w.heap.size w X) (hg : X.grownBy Y r) (hr : ∀ k, r = some k → w.heap.size ≤ k) : Below w.heap.size w Y :=
  ⟨hg.os.trans h.os, hg.tape.trans h.tape, hg.output.trans h.output, Nat.le_trans h.size hg.size, fun k hk => (hg.block k (by have := h.size; omega) (fun e => by have := hr k e.symm; omega)).trans (h.block k hk)⟩
theorem own_off {w w' : World} {base T size : Nat} {v : Value} {n : Nat} {xs : List Value} {r : Option Nat} {lo : Nat} (h : w.ownsRow base T size v n xs) (hg : w.grownBy w' r) (hl : ∀ k, v.ownBlock = some k → k < lo) (hr : ∀ k, r = some k → lo ≤ k) : w'.ownsRow base T size v n xs := by
  refine h.kept hg ?_
  cases hv : v.ownBlock with
  | none => exact Or.inl rfl
  | some k => exact Or.inr (fun e => by have := hl k hv; have := hr k e.symm; omega)
theorem gb_alloc {w w' : World} {O : Obj} {r : Option Nat} (h : (w.alloc O).grownBy w' r) : w.grownBy w' r :=
  ⟨h.os, h.tape, h.output, by have := h.size; simp at this; omega, fun k hk hne => (h.block k (by simp; omega) hne).trans (((Below.refl _ w).alloc (Nat.le_refl _) O).block k hk)⟩
set_option maxHeartbeats 800000 in
theorem markStrings_g (n g : Nat) (hn : n ≤ 1048576) (w : World) (C : Array Value) (h0 : w.heap[g]? = some (.cells C 9 (0, 0))) (h1 : C.size = n) :
    Calls Tryz.prog 34 #[.slice (some ⟨g, 0, none⟩) n n, .int .i64 1] w fun e w' => (∃ kz : Int, e = .returned (.int .i64 kz) ∧ ¬ kz < 0) ∧ w.grownBy w' (some g) := by
  have H0 := hide h0
  have H1 := hide h1
  clear h0 h1
  go_enter Tryz.func34, Tryz.ntmps34
  go_wp2_with fail
  go_loopw [1, 5] (fun kv iv wr => ∃ k : Nat, k ≤ n ∧ iv = .int .i64 k ∧ kv = .int .i64 (1 + k) ∧ Hid (∃ C, wr.heap[g]? = some (.cells C 9 (0, 0)) ∧ C.size = n) ∧ Hid (w.grownBy wr (some g))) (fun _ iv _ => n - (intOf iv).toNat)
  case atStart => exact ⟨0, by omega, rfl, by simp, ⟨C, H0.out, H1.out⟩, gb_refl _ _⟩
  case round =>
    obtain ⟨k, hk, rfl, rfl, HR, HG⟩ := hrel
    by_cases hlt : k < n
    · have hki : (k : Int) < (n : Int) := by omega
      go_wp2_with fail
      refine (markText_at _ (1 + k) (by omega) (by omega) (by omega) _).mono ?_
      rintro e w1 ⟨rfl, hB1⟩
      obtain ⟨D, d0, d1⟩ := HR.out
      have hb1 := (hB1.block g (Array.getElem?_eq_some_iff.1 d0).1).trans d0
      obtain ⟨u, hu⟩ := cell_in (j := k) hb1 (by omega)
      have hf := free_of_block hb1 k
      have HG1 := hide (gb_later HG.out hB1)
      have HN : Hid (∀ v, ∃ C, (w1.setCell ⟨g, k, none⟩ v).heap[g]? = some (.cells C 9 (0, 0)) ∧ C.size = n) := fun v => ⟨_, block_set hb1 k v, by simpa using d1⟩
      clear hB1 hb1 d0 d1 HR
      go_wp2
      go_roundw
      case rel => exact ⟨k + 1, by omega, by go_num, by go_num, HN.out _, gb_set HG1.out⟩
      case measure => simp [intOf]; omega
    · have hkn : k = n := by omega
      go_wp2
      go_ret
      exact ⟨⟨_, rfl, by omega⟩, HG.out⟩
set_option maxHeartbeats 800000 in
theorem markLog_any (n g : Nat) (hn : n ≤ 1048576) (w : World) (h : ∃ C : Array Value, w.heap[g]? = some (.cells C 9 (0, 0)) ∧ C.size = n) :
    Calls Tryz.prog 15 #[logV (.slice (some ⟨g, 0, none⟩) n n), .int .i64 1] w fun e w' => (∃ kz : Int, e = .returned (.int .i64 kz) ∧ ¬ kz < 0) ∧ w.grownBy w' (some g) := by
  obtain ⟨C, h0, h1⟩ := h
  have hs := hide (fun O => markStrings_g n g hn (w.alloc O) C ((((Below.refl _ w).alloc (Nat.le_refl _) O).block g (Array.getElem?_eq_some_iff.1 h0).1).trans h0) h1)
  clear h0 h1
  go_enter Tryz.func15, Tryz.ntmps15
  go_wp2_with fail
  refine (hs.out _).mono ?_
  rintro e w1 ⟨⟨kz, rfl, hk⟩, hg⟩
  have HG := hide (gb_alloc hg)
  clear hg hs
  go_wp2
  go_ret
  exact ⟨⟨_, rfl, hk⟩, HG.out⟩
theorem mark1_acs (n : Nat) (hn : n ≤ 1048576) (a : Option Addr) (c : Nat) (hnc : n ≤ c) (hcm : c ≤ maxLen) (mz : Int) (hm : mz = ((1 + 9 * n : Nat) : Int)) (w : World) (hr : RowM 45 9 mkAcs 1 a n 0 w) :
    Calls Tryz.prog 16 #[.slice a n c, .int .i64 1] w fun x w' => x = .returned (.int .i64 mz) ∧ RowM 45 9 mkAcs 1 a n n w' ∧ w.grownBy w' (Value.slice a n c).ownBlock := by
  rw [hm]; exact markAcs_any n a c 1 (by omega) (by omega) hnc hcm w hr
theorem held1_acs (n : Nat) (hn : n ≤ 1048576) (a : Option Addr) (c : Nat) (hnc : n ≤ c) (hcm : c ≤ maxLen) (mz : Int) (hm : mz = ((1 + 9 * n : Nat) : Int)) (w : World) (hr : RowM 45 9 mkAcs 1 a n n w) :
    Calls Tryz.prog 17 #[.slice a n c, .int .i64 1] w fun x w' => x = .returned (.int .i64 mz) ∧ Below w.heap.size w w' := by
  rw [hm]; exact heldAcs_any n a c 1 (by omega) (by omega) hnc hcm w hr
theorem eqOwnA_any (L : List Pl.Ac) (hN : L.length ≤ 1048576) (va vb : Value) (ba bb : Nat) (w : World) (ha : w.ownsRow ba 45 9 va L.length (L.flatMap acL)) (hb : w.ownsRow bb 45 9 vb L.length (L.flatMap acL)) :
    Calls Tryz.prog 14 #[va, vb] w fun x w' => x = .returned (.bool true) ∧ Below w.heap.size w w' := by
  obtain ⟨aa, ca, hva⟩ := ownsRow_form ha
  obtain ⟨ab, cb, hvb⟩ := ownsRow_form hb
  subst hva hvb
  exact eqActS_any L hN _ _ w (AcRow.of_own ha) (AcRow.of_own hb)
end Go.Proofs.YtbckbfjnifafaaaGreatDoor

/- The law on all acts of a log, walked. -/
namespace Go.Proofs.YtbckbfjnifafaaaGreatDoor
open Go.RowKit
set_option linter.unusedVariables false
set_option linter.unusedSimpArgs false
theorem acts_few {A : List UInt8 → List Pl.Ac} (hA : ActsAre A) (L : List (List UInt8)) : (Pl.actsOf A L).length ≤ 1048576 := by
  unfold Pl.actsOf
  cases hb : Pl.logS (fun s => Pl.endR (A s)) L
  · simp
  · obtain ⟨h1, h2⟩ := logS_lim (E := fun s => Pl.endR (A s)) (ends_zero hA) hb
    have h3 := acts_len hA L 400 h2
    have h4 : L.length * 400 ≤ 20 * 400 := Nat.mul_le_mul_right _ h1
    simp only [if_true]
    omega
theorem off_block {w w' : World} {b k : Nat} {o : Obj} {r : Option Nat} (h : w.heap[k]? = some o) (hg : w.grownBy w' r) (hr : ∀ j, r = some j → b ≤ j) (hb : k < b) : w'.heap[k]? = some o :=
  (hg.block k (Array.getElem?_eq_some_iff.1 h).1 (fun e => by have := hr k e.symm; omega)).trans h
set_option maxRecDepth 100000 in
set_option maxHeartbeats 3200000 in
theorem lawLogActs_any (L : List (List UInt8)) (hz : ∀ x ∈ L, x.length ≤ maxLen) (v : Value) (w : World) (ht : TextsAt w v L) (hG : Glob w) :
    Calls Tryz.prog 4 #[logV v] w fun e w' => e = .returned (.bool true) ∧ Below w.heap.size w w' := by
  have hb0 : Below w.heap.size w (w.alloc (.cells #[v] 24)) := (Below.refl _ _).alloc (Nat.le_refl _) _
  have hs := hide (szLog_any L v hz _ (ht.later hb0))
  have HT := hide ht
  have HG := hide hG
  clear hb0 ht hG hz
  obtain ⟨A, hA⟩ := acts_there
  obtain ⟨mz, HMZ⟩ : ∃ mz : Int, Hid (mz = ((1 + 9 * (Pl.actsOf A L).length : Nat) : Int)) := ⟨_, hide rfl⟩
  have hm0 : ¬ mz < 0 := by have := HMZ.out; omega
  have hmm : (mz != mz) = false := by simp
  have HN := hide (acts_few hA L)
  have HA := hide hA
  clear hA
  go_enter Tryz.func4, Tryz.ntmps4
  go_wp2_with fail
  refine hs.out.mono ?_
  rintro e1 w1 ⟨⟨z, rfl, hz⟩, hB1⟩
  obtain ⟨bx, hBL, hlw⟩ := one_box hB1
  have HX := hide bx
  have HB := hide hBL
  clear hB1 bx hBL hs
  by_cases h0 : z < 0
  · go_wp2
    go_ret
    exact ⟨rfl, HB.out⟩
  · have hLN : L.length ≤ 1048576 := by first | exact (hz (by omega)).1 | omega
    have hZ : ∀ x ∈ L, x.length ≤ 1048576 := by first | exact (hz (by omega)).2 | exact hz (by omega)
    have HZ := hide hZ
    clear hz hZ
    have hto := hide (fun W (hW : Below w.heap.size w W) => toLogO_any L hLN v W (HT.out.later hW))
    have hsp := hide (fun v W hW => specLogActs_any A HA.out L hLN HZ.out v W hW)
    have him := hide (fun v W hW hg => implLogActs_any A HA.out L hLN HZ.out v W hW hg)
    have hec := hide (fun va vb ba bb W ha hb => eqOwnA_any (Pl.actsOf A L) HN.out va vb ba bb W ha hb)
    have b0 := cell_of_block HX.out 0
    simp only [List.getElem?_toArray, List.getElem?_cons_zero] at b0
    go_wp2_with fail
    refine (hto.out _ HB.out).mono ?_
    rintro e2 w2 ⟨⟨g2, rfl, _, _, hT2, _⟩, hB2⟩
    have HT2 := hide hT2
    have HX2 := hide ((hB2.block _ hlw).trans HX.out)
    have HB2 := hide (HB.out.trans (hB2.mono HB.out.size))
    have hlw2 : w.heap.size < w2.heap.size := Nat.lt_of_lt_of_le hlw hB2.size
    clear hB2 hT2 b0 HX HB
    go_wp2_with fail
    refine (hsp.out _ _ HT2.out).mono ?_
    rintro e3 w3 ⟨vw, rfl, ho3, hB3⟩
    have HX3 := hide ((hB3.block _ hlw2).trans HX2.out)
    have HB3 := hide (HB2.out.trans (hB3.mono HB2.out.size))
    have hlw3 : w.heap.size < w3.heap.size := Nat.lt_of_lt_of_le hlw2 hB3.size
    obtain ⟨aw, cw, hvw⟩ := ownsRow_form ho3
    subst hvw
    have HOW3 := hide ho3
    have HWL := hide ho3.lt
    have b3 := cell_of_block HX3.out 0
    simp only [List.getElem?_toArray, List.getElem?_cons_zero] at b3
    clear hB3 HX2 HB2 HT2 ho3
    go_wp2_with fail
    refine (hto.out _ HB3.out).mono ?_
    rintro e4 w4 ⟨⟨g4, rfl, hg4l, hg4u, hT4, hC4⟩, hB4⟩
    have HT4 := hide hT4
    have HC4 := hide hC4
    have HX4 := hide ((hB4.block _ hlw3).trans HX3.out)
    have HB4 := hide (HB3.out.trans (hB4.mono HB3.out.size))
    have HOW4 := hide (ownsRow_later HOW3.out hB4)
    have hlw4 : w.heap.size < w4.heap.size := Nat.lt_of_lt_of_le hlw3 hB4.size
    have h34 : w3.heap.size ≤ w4.heap.size := hB4.size
    clear hB4 b3 HX3 HB3 HOW3 hC4
    have hb5 : ∀ O, Below w4.heap.size w4 (w4.alloc O) := fun O => (Below.refl _ _).alloc (Nat.le_refl _) _
    have hi5 := hide (fun O => him.out _ (w4.alloc O) (hT4.later (hb5 O)) (HG.out.later (HB4.out.trans ((hb5 O).mono HB4.out.size))))
    clear hT4 hb5
    go_wp2_with fail
    refine (hi5.out _).mono ?_
    rintro e5 w5 ⟨vg, rfl, ho5, hB5⟩
    obtain ⟨bl, hB5, hl5⟩ := one_box hB5
    have HX5 := hide ((hB5.block _ hlw4).trans HX4.out)
    have HT5 := hide (HT4.out.later hB5)
    have HBl := hide bl
    have HOW5 := hide (ownsRow_later HOW4.out hB5)
    have HC5 : Hid (∃ C : Array Value, w5.heap[g4]? = some (.cells C 9 (0, 0)) ∧ C.size = L.length) := by
      obtain ⟨C, h0, h1⟩ := HC4.out
      exact hide ⟨C, (hB5.block _ hg4u).trans h0, h1⟩
    have HB5 := hide (HB4.out.trans (hB5.mono HB4.out.size))
    have hlw5 : w.heap.size < w5.heap.size := Nat.lt_of_lt_of_le hlw4 hB5.size
    obtain ⟨ag, cg, hvg⟩ := ownsRow_form ho5
    subst hvg
    have HOG5 := hide ho5
    have hgl := ho5.lt
    rw [World.size_alloc] at hgl
    have HGL := hide hgl
    obtain ⟨_, hgc, hgm⟩ := own_lim ho5
    clear hB5 bl hi5 HX4 HB4 HT4 ho5 hgl HOW4 HC4
    go_wp2_with fail
    refine (hec.out _ _ _ _ _ HOG5.out HOW5.out).mono ?_
    rintro e6 w6 ⟨rfl, hB6⟩
    have HX6 := hide ((hB6.block _ hlw5).trans HX5.out)
    have HT6 := hide (HT5.out.later hB6)
    have HBl6 := hide ((hB6.block _ hl5).trans HBl.out)
    have HOW6 := hide (ownsRow_later HOW5.out hB6)
    have HOG6 := hide (ownsRow_later HOG5.out hB6)
    have hg45 : g4 < w5.heap.size := by omega
    have HC6 : Hid (∃ C : Array Value, w6.heap[g4]? = some (.cells C 9 (0, 0)) ∧ C.size = L.length) := by
      obtain ⟨C, h0, h1⟩ := HC5.out
      exact hide ⟨C, (hB6.block _ hg45).trans h0, h1⟩
    have HB6 := hide (HB5.out.trans (hB6.mono HB5.out.size))
    have hlw6 : w.heap.size < w6.heap.size := Nat.lt_of_lt_of_le hlw5 hB6.size
    have hl6 : w4.heap.size < w6.heap.size := Nat.lt_of_lt_of_le hl5 hB6.size
    clear hB6 HX5 HT5 HBl HOW5 HOG5 HC5 HB5
    go_upto_region 10 with fail
    refine wp_region_noPanic ?_
    refine wp_region_held_drew (S := fun W => Below w6.heap.size w6 W) (by kernel_rfl) (below_drew' (Below.refl _ _)) (fun hHeld => ?_)
    refine wpAnyH_take (i := 0) (oi := Oper.mk (some 27) _ _ _ _ _) (v := ?_) rfl (by kernel_rfl) (by kernel_rfl) (by kernel_rfl) (fun _ _ _ h => h) (Or.inl ⟨by rfl, ?_⟩) (by assumption) ?_
    rotate_left
    · intro w0 hSw
      have z0 : w0.cell? ⟨w4.heap.size, 0, none⟩ = some ((.slice (some ⟨g4, 0, none⟩) L.length L.length : Value)) := (Below.cell hSw (p := ⟨w4.heap.size, 0, none⟩) hl6).trans (cell_of_block HBl6.out 0)
      clear hSw
      go_simp
      all_goals (with_reducible rfl)
    simp only [Act.put, List.setIfInBounds_toArray, List.set_cons_zero, List.set_cons_succ]
    refine wpAnyH_take (i := 1) (oi := Oper.mk (some 28) _ _ _ _ _) (v := ?_) rfl (by kernel_rfl) (by kernel_rfl) (by kernel_rfl) (fun _ _ _ h => h) (Or.inl ⟨by rfl, ?_⟩) (by assumption) ?_
    rotate_left
    · intro w0 hSw
      have z0 : w0.cell? ⟨w.heap.size, 0, none⟩ = some ((v : Value)) := (Below.cell hSw (p := ⟨w.heap.size, 0, none⟩) hlw6).trans (cell_of_block HX6.out 0)
      clear hSw
      go_simp
      all_goals (with_reducible rfl)
    simp only [Act.put, List.setIfInBounds_toArray, List.set_cons_zero, List.set_cons_succ]
    refine wpAnyH_ready (rs := [2]) (by kernel_rfl) (by simp) ?_
    refine AllReadyH.cons (o := Oper.mk (some 29) _ _ _ _ _) rfl (fun K hK => ?_) AllReadyH.nil
    go_simp
    go_at_call 9
    refine (hto.out _ (HB6.out.trans (hHeld.mono HB6.out.size))).mono ?_
    rintro x0 w0 ⟨⟨g7, rfl, _, _, hT7, _⟩, hB0⟩
    have hHeld' := Below.trans hHeld (hB0.mono hHeld.size)
    have HT7 := hide hT7
    clear hT7
    clear hB0 hHeld
    go_wp2_with fail
    refine hK.out _ _ hHeld' (fun hHeld => ?_)
    clear hK K hHeld'
    (try simp only [Act.put, List.setIfInBounds_toArray, List.set_cons_zero, List.set_cons_succ])
    refine wpAnyH_ready (rs := [3]) (by kernel_rfl) (by simp) ?_
    refine AllReadyH.cons (o := Oper.mk (some 30) _ _ _ _ _) rfl (fun K hK => ?_) AllReadyH.nil
    go_simp
    go_at_call 11
    refine (eqLog_any L hLN _ _ _ (HT6.out.later hHeld) HT7.out).mono ?_
    rintro x0 w8 ⟨rfl, hB0⟩
    have hHeld' := Below.trans hHeld (hB0.mono hHeld.size)
    clear hB0 hHeld
    go_wp2_with fail
    refine hK.out _ _ hHeld' (fun hHeld => ?_)
    clear hK K hHeld'
    (try simp only [Act.put, List.setIfInBounds_toArray, List.set_cons_zero, List.set_cons_succ])
    refine wpAnyH_take (i := 4) (oi := Oper.mk (some 31) _ _ _ _ _) (v := ?_) rfl (by kernel_rfl) (by kernel_rfl) (by kernel_rfl) (fun _ _ _ h => h) (Or.inl ⟨by rfl, ?_⟩) (by assumption) ?_
    rotate_left
    · intro w0 hSw
      clear hSw
      go_simp
      all_goals (with_reducible rfl)
    simp only [Act.put, List.setIfInBounds_toArray, List.set_cons_zero, List.set_cons_succ]
    refine wpAnyH_done (by kernel_rfl) ?_ _
    refine NoPanic.normal ?_
    have HX8 := hide ((hHeld.block _ hlw6).trans HX6.out)
    have HBl8 := hide ((hHeld.block _ hl6).trans HBl6.out)
    have HOW8 := hide (ownsRow_later HOW6.out hHeld)
    have HOG8 := hide (ownsRow_later HOG6.out hHeld)
    have HC8 : Hid (∃ C : Array Value, w8.heap[g4]? = some (.cells C 9 (0, 0)) ∧ C.size = L.length) := by
      obtain ⟨C, h0, h1⟩ := HC6.out
      exact hide ⟨C, (hHeld.block _ (by omega)).trans h0, h1⟩
    have HB8 := hide (HB6.out.trans (hHeld.mono HB6.out.size))
    have b8 := cell_of_block HX8.out 0
    have l8 := cell_of_block HBl8.out 0
    simp only [List.getElem?_toArray, List.getElem?_cons_zero] at b8 l8
    clear hHeld HX6 HBl6 HOW6 HOG6 HC6 HB6 HT6 HT7
    go_wp2_with fail
    refine (markLog_any L.length g4 hLN _ HC8.out).mono ?_
    rintro e9 w9 ⟨⟨kz, rfl, hk0⟩, hg9⟩
    have HB9 := hide (below_gb HB8.out hg9 (fun k e => by injection e with e; omega))
    have HX9 := hide (off_block (b := w3.heap.size) HX8.out hg9 (fun k e => by injection e with e; omega) hlw3)
    have HOW9 := hide (own_off HOW8.out hg9 (fun k e => (HWL.out k e).2) (fun k e => by injection e with e; omega))
    have HOG9 : Hid (w9.ownsRow (w4.alloc (.cells #[.slice (some ⟨g4, 0, none⟩) L.length L.length] 27)).heap.size 45 9 (.slice ag (Pl.actsOf A L).length cg) (Pl.actsOf A L).length ((Pl.actsOf A L).flatMap acL)) := by
      refine hide (HOG8.out.kept hg9 ?_)
      cases hv : (Value.slice ag (Pl.actsOf A L).length cg).ownBlock with
      | none => exact Or.inl rfl
      | some k => exact Or.inr (fun e => by injection e with e; have := (HGL.out k hv).1; omega)
    clear hg9 HC8 HOW8 HOG8 HX8 HBl8 HB8 b8 l8
    go_wp2_with fail
    refine (hec.out _ _ _ _ _ HOG9.out HOW9.out).mono ?_
    rintro e10 w10 ⟨rfl, hB10⟩
    have HX10 := hide ((hB10.block _ (Array.getElem?_eq_some_iff.1 HX9.out).1).trans HX9.out)
    have HB10 := hide (HB9.out.trans (hB10.mono HB9.out.size))
    have HOW10 := hide (ownsRow_later HOW9.out hB10)
    have HOG10 := hide (ownsRow_later HOG9.out hB10)
    clear hB10 HOW9 HOG9 HX9 HB9
    go_wp2_with fail
    refine (mark1_acs _ HN.out ag cg hgc hgm mz HMZ.out _ (RowM.of_own HOG10.out)).mono ?_
    rintro e11 w11 ⟨rfl, hM11, hg11⟩
    have HB11 := hide (below_gb HB10.out hg11 (fun k e => by have := (HGL.out k e).1; omega))
    have HX11 := hide (off_block (b := w4.heap.size) HX10.out hg11 (fun k e => by have := (HGL.out k e).1; omega) hlw4)
    have HOW11 := hide (own_off HOW10.out hg11 (fun k e => (HWL.out k e).2) (fun k e => by have := (HGL.out k e).1; omega))
    have HM11 := hide hM11
    clear hg11 hM11 HOW10 HOG10 HX10 HB10
    go_wp2_with fail
    refine (held1_acs _ HN.out ag cg hgc hgm mz HMZ.out _ HM11.out).mono ?_
    rintro e12 w12 ⟨rfl, hB12⟩
    have HX12 := hide ((hB12.block _ (Array.getElem?_eq_some_iff.1 HX11.out).1).trans HX11.out)
    have HB12 := hide (HB11.out.trans (hB12.mono HB11.out.size))
    have HOW12 := hide (ownsRow_later HOW11.out hB12)
    have HM12 := hide (HM11.out.later hB12)
    have b12 := cell_of_block HX12.out 0
    simp only [List.getElem?_toArray, List.getElem?_cons_zero] at b12
    clear hB12 HOW11 HM11 HX11 HB11
    go_wp2_with fail
    refine (hto.out _ HB12.out).mono ?_
    rintro e13 w13 ⟨⟨g13, rfl, _, _, hT13, _⟩, hB13⟩
    have HT13 := hide hT13
    have HB13 := hide (HB12.out.trans (hB13.mono HB12.out.size))
    have HOW13 := hide (ownsRow_later HOW12.out hB13)
    have HM13 := hide (HM12.out.later hB13)
    clear hB13 hT13 HOW12 HM12 HX12 HB12 b12
    go_wp2_with fail
    refine (him.out _ _ HT13.out (HG.out.later HB13.out)).mono ?_
    rintro e14 w14 ⟨vh, rfl, ho14, hB14⟩
    have HB14 := hide (HB13.out.trans (hB14.mono HB13.out.size))
    obtain ⟨ah, ch, hvh⟩ := ownsRow_form ho14
    subst hvh
    have HOH14 := hide ho14
    have HOW14 := hide (ownsRow_later HOW13.out hB14)
    have HM14 := hide (HM13.out.later hB14)
    clear hB14 ho14 HOW13 HM13 HT13 HB13
    go_wp2_with fail
    refine (hec.out _ _ _ _ _ HOH14.out HOW14.out).mono ?_
    rintro e15 w15 ⟨rfl, hB15⟩
    have HB15 := hide (HB14.out.trans (hB15.mono HB14.out.size))
    have HM15 := hide (HM14.out.later hB15)
    clear hB15 HM14 HOH14 HOW14 HB14
    go_wp2_with fail
    refine (held1_acs _ HN.out ag cg hgc hgm mz HMZ.out _ HM15.out).mono ?_
    rintro e16 w16 ⟨rfl, hB16⟩
    have HB16 := hide (HB15.out.trans (hB16.mono HB15.out.size))
    clear hB16 HM15 HB15
    go_wp2_with fail
    go_ret
    exact ⟨rfl, HB16.out⟩
end Go.Proofs.YtbckbfjnifafaaaGreatDoor

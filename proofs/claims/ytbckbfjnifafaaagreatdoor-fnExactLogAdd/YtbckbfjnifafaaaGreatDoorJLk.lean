/- Joined: AcR EqA MkA HeA LaL RiA RiB RiC RiD RiE LmI LoF LmS LmS2 CaR LmL0 MkT HeT LmL LdA LdB LdC LdS LdT LdZ. -/
import Derived.Test.YtbckbfjnifafaaaGreatDoorJLg
import Derived.Test.YtbckbfjnifafaaaGreatDoorBx
import Derived.Test.YtbckbfjnifafaaaGreatDoorJLs
import Derived.Test.YtbckbfjnifafaaaGreatDoorJAg
import Derived.Test.YtbckbfjnifafaaaGreatDoorJAs
import Derived.Deep.RegionHeld3
import Derived.Test.YtbckbfjnifafaaaGreatDoorCln
import Derived.RangeFuncBox
import Derived.Deep.RegionLaw
import Derived.BigQuiet
import Derived.BigRegion
import Derived.Test.YtbckbfjnifafaaaGreatDoorOwn
import Derived.Test.YtbckbfjnifafaaaGreatDoorSzV
import Derived.Deep.MidRow
import Derived.Deep.Cut
import Derived.Deep.RegionWith
/- Rows of acts, wherever they lie; rows that are marked. -/
namespace Go.Proofs.YtbckbfjnifafaaaGreatDoor
open Go.RowKit
set_option linter.unusedVariables false
set_option linter.unusedSimpArgs false
theorem flat_ac : ∀ (L : List Pl.Ac) (i : Nat) (e : Pl.Ac), L[i]? = some e → ∀ j u, (acL e)[j]? = some u → (L.flatMap acL)[i * 9 + j]? = some u
  | [], i, e, h => by simp at h
  | a :: r, 0, e, h => fun j u hu => by
    obtain rfl : a = e := by simpa using h
    have hj : j < (acL a).length := (List.getElem?_eq_some_iff.1 hu).1
    simp only [List.flatMap_cons, Nat.zero_mul, Nat.zero_add]
    rw [List.getElem?_append_left hj]; exact hu
  | a :: r, i + 1, e, h => fun j u hu => by
    have ih := flat_ac r i e (by simpa using h) j u hu
    simp only [List.flatMap_cons]
    rw [List.getElem?_append_right (by rw [acL_len]; omega), acL_len]
    rw [show (i + 1) * 9 + j - 9 = i * 9 + j by omega]
    exact ih
theorem own_acts {w : World} {base : Nat} {a : Option Addr} {n c : Nat} {L : List Pl.Ac} (h : w.ownsRow base 45 9 (.slice a n c) L.length (L.flatMap acL)) {i : Nat} {e : Pl.Ac} (he : L[i]? = some e) :
    ∃ g, a = some ⟨g, 0, none⟩ ∧ base ≤ g ∧ g < w.heap.size ∧ ∀ j u, (acL e)[j]? = some u → w.cell? ⟨g, i * 9 + j, none⟩ = some u := by
  obtain ⟨hl, h⟩ := h
  have hi : i < L.length := (List.getElem?_eq_some_iff.1 he).1
  rcases h with ⟨h1, h0⟩ | ⟨g, cap, cur, hv, hb, hg, hnc, hm, hs, ht⟩
  · omega
  · injection hv with h1 h2 h3
    refine ⟨g, h1, hb, (Array.getElem?_eq_some_iff.1 hg).1, fun j u hu => ?_⟩
    have hfl := flat_ac L i e he j u hu
    rw [← ht, List.getElem?_take] at hfl
    split at hfl
    · simp only [World.cell?, hg]; simpa using hfl
    · cases hfl
theorem own_lim {w : World} {base : Nat} {T : TypeId} {size : Nat} {a : Option Addr} {n c : Nat} {k : Nat} {xs : List Value} (h : w.ownsRow base T size (.slice a n c) k xs) : n = k ∧ n ≤ c ∧ c ≤ maxLen := by
  rcases h.2 with ⟨h1, h0⟩ | ⟨g, cap, cur, hv, hb, hg, hnc, hm, hs, ht⟩
  · injection h1 with h1 h2 h3
    subst h2 h3
    exact ⟨h0.symm, Nat.le_refl _, by unfold maxLen; omega⟩
  · injection hv with h1 h2 h3
    subst h2 h3
    exact ⟨rfl, hnc, hm⟩
/-- a slice that holds these acts -/
def AcRow (w : World) (L : List Pl.Ac) (v : Value) : Prop :=
  ∃ a c, v = .slice a L.length c ∧ L.length ≤ c ∧ c ≤ maxLen ∧ (0 < L.length → ∃ g, a = some ⟨g, 0, none⟩ ∧ g < w.heap.size ∧ ∀ i e, L[i]? = some e → ∀ j u, (acL e)[j]? = some u → w.cell? ⟨g, i * 9 + j, none⟩ = some u)
theorem AcRow.of_own {w : World} {base : Nat} {a : Option Addr} {n c : Nat} {L : List Pl.Ac} (h : w.ownsRow base 45 9 (.slice a n c) L.length (L.flatMap acL)) : AcRow w L (.slice a n c) := by
  obtain ⟨hn, hc, hm⟩ := own_lim h
  refine ⟨a, c, by rw [hn], by omega, hm, fun hl => ?_⟩
  obtain ⟨g, ha, _, hg, _⟩ := own_acts h (List.getElem?_eq_getElem hl)
  refine ⟨g, ha, hg, fun i e he => ?_⟩
  obtain ⟨g', ha', _, _, hs⟩ := own_acts h he
  have hgg : g' = g := by rw [ha] at ha'; injection ha' with h1; injection h1 with h2; exact h2.symm
  subst hgg
  exact hs
theorem AcRow.later {w w1 : World} {L : List Pl.Ac} {v : Value} (h : AcRow w L v) (hB : Below w.heap.size w w1) : AcRow w1 L v := by
  obtain ⟨a, c, hv, h1, h2, hx⟩ := h
  refine ⟨a, c, hv, h1, h2, fun hl => ?_⟩
  obtain ⟨g, ha, hg, hs⟩ := hx hl
  exact ⟨g, ha, Nat.lt_of_lt_of_le hg hB.size, fun i e he j u hu => (hB.cell (p := ⟨g, i * 9 + j, none⟩) hg).trans (hs i e he j u hu)⟩
/-- acts put behind others -/
theorem app_acts {W : World} {base : Nat} {v : Value} {A : List Pl.Ac} (B : List Pl.Ac) (hv : W.ownsRow base 45 9 v A.length (A.flatMap acL)) (b2 : Nat) (u : Value) (hu : W.ownsRow b2 45 9 u B.length (B.flatMap acL)) (hn : A.length + B.length ≤ 4194304) (hb : base ≤ W.heap.size) :
    ∃ v' w2, (Builtin.append_ #[31, 31] 31 #[v, u]).run Tryz.prog W = .ok v' w2 ∧ w2.ownsRow base 45 9 v' (A ++ B).length ((A ++ B).flatMap acL) ∧ W.grownBy w2 v.ownBlock := by
  obtain ⟨i0, hi, hz0, hz1, hz2⟩ := info_parts infoAct
  rcases hu.2 with ⟨rfl, h0⟩ | ⟨g, cap, cur, rfl, hbg, hg, hnc, hm, hs, ht⟩
  · obtain rfl : B = [] := List.eq_nil_of_length_eq_zero h0
    exact ⟨v, W, run_append_owned_none (P := Tryz.prog) (w := W) base 31 31 45 i0 9 Tryz.underlying31 hi v A.length _ hv, by simpa using hv, ⟨rfl, rfl, rfl, Nat.le_refl _, fun _ _ _ => rfl⟩⟩
  · obtain ⟨v', w2, hrun, hown, hgrow, _, _⟩ := run_append_own_at (P := Tryz.prog) W base 31 31 45 i0 _ 9 88 Tryz.underlying31 hi hz0 hz1 hz2 rfl (by decide) v A.length (A.flatMap acL) hv ⟨g, 0, none⟩ B.length cap (B.flatMap acL) (acs_len B) (fun j x hx => by
      have hadd : (⟨g, 0, none⟩ : Addr).add j = ⟨g, j, none⟩ := by unfold Addr.add; split <;> simp_all
      rw [hadd]
      rw [← ht, List.getElem?_take] at hx
      split at hx
      · simp only [World.cell?, hg]; simpa using hx
      · cases hx) (fun u hu => by
      obtain ⟨e, _, he⟩ := List.mem_flatMap.1 hu
      simp only [List.mem_cons, List.not_mem_nil, or_false] at he
      rcases he with rfl | rfl | rfl | rfl | rfl | rfl | rfl | rfl | rfl <;> rfl) (by unfold maxLen; omega) (by omega) hb
    refine ⟨v', w2, hrun, ?_, hgrow⟩
    simpa [List.flatMap_append] using hown
theorem wp_app_acts {ops : Array Oper} {rest : List Oper} {o : Oper} {a : Act} {W : World} {Q : Exit → Act → World → Prop} (hgd : o.guard = none) (s x : Operand)
    (ho : o.op = .call { callee := .builtin .append, args := #[s, x], argTypes := #[31, 31] }) (hty : o.type = 31) (base : Nat) (A B : List Pl.Ac) (v u : Value) (b2 : Nat) (hs : a.eval s = v) (hx : a.eval x = u)
    (hv : W.ownsRow base 45 9 v A.length (A.flatMap acL)) (hu : W.ownsRow b2 45 9 u B.length (B.flatMap acL)) (hn : A.length + B.length ≤ 4194304) (hb : base ≤ W.heap.size)
    (h : ∀ v' w2, Hid (w2.ownsRow base 45 9 v' (A ++ B).length ((A ++ B).flatMap acL)) → Hid (W.grownBy w2 v.ownBlock) → wpList Tryz.prog ops Q rest (a.put o.dst v') w2) : wpList Tryz.prog ops Q (o :: rest) a W := by
  refine wpList_plain hgd fun K hK => ?_
  obtain ⟨v', w2, hrun, h1, h2⟩ := app_acts B hv b2 u hu hn hb
  unfold Oper.wp
  simp [execOp, ho, resolve, invoke, builtin, hs, hx, hty, hrun, Result.andThen]
  exact hK _ _ (h _ _ h1 h2)
theorem markText_at (z : Int) (n : Nat) (h : z = n) (h1 : 1 ≤ n) (h2 : n ≤ 1000000000) (w : World) :
    Calls Tryz.prog 35 #[.int .i64 z] w fun e w' => e = .returned (.string (Pl.bs (Pl.mark n))) ∧ Below w.heap.size w w' := by
  rw [h]; exact markText_any n h1 h2 w
theorem cell_in {W : World} {b j : Nat} {C : Array Value} {T : TypeId} (h : W.heap[b]? = some (.cells C T (0, 0))) (hj : j < C.size) : ∃ u, W.cell? ⟨b, j, none⟩ = some u := by
  rw [cell_of_block h, Array.getElem?_eq_getElem hj]
  exact ⟨_, rfl⟩
theorem gb_set {W X : World} {b i : Nat} {v : Value} (h : W.grownBy X (some b)) : W.grownBy (X.setCell ⟨b, i, none⟩ v) (some b) :=
  ⟨h.os, h.tape, h.output, by have := h.size; simp [World.setCell]; exact this, fun k hk hne => (Below.heap_setCell _ _ _ _ (by simp only; intro e; exact hne (by rw [e]))).trans (h.block k hk hne)⟩
theorem gb_later {W X Y : World} {r : Option Nat} (h : W.grownBy X r) (hB : Below X.heap.size X Y) : W.grownBy Y r :=
  ⟨hB.os.trans h.os, hB.tape.trans h.tape, hB.output.trans h.output, Nat.le_trans h.size hB.size, fun k hk hne => (hB.block k (by have := h.size; omega)).trans (h.block k hk hne)⟩
theorem gb_refl (W : World) (r : Option Nat) : W.grownBy W r := ⟨rfl, rfl, rfl, Nat.le_refl _, fun _ _ _ => rfl⟩
/-- a row whose first i parts are marked -/
def RowM (T : TypeId) (m : Nat) (mk : Nat → List Value) (k : Nat) (a : Option Addr) (n i : Nat) (W : World) : Prop :=
  0 < n → ∃ b C, a = some ⟨b, 0, none⟩ ∧ W.heap[b]? = some (.cells C T (0, 0)) ∧ n * m ≤ C.size ∧ (∀ j, j < i → ∀ t u, (mk (k + m * j))[t]? = some u → C[j * m + t]? = some u)
theorem RowM.later {T : TypeId} {m : Nat} {mk : Nat → List Value} {k : Nat} {a : Option Addr} {n i : Nat} {W W1 : World} (h : RowM T m mk k a n i W) (hB : Below W.heap.size W W1) : RowM T m mk k a n i W1 := by
  intro hn
  obtain ⟨b, C, ha, hb, hs, hc⟩ := h hn
  exact ⟨b, C, ha, (hB.block _ (Array.getElem?_eq_some_iff.1 hb).1).trans hb, hs, hc⟩
theorem RowM.of_own {T : TypeId} {m : Nat} {mk : Nat → List Value} {k base : Nat} {a : Option Addr} {n c : Nat} {xs : List Value} {W : World} (h : W.ownsRow base T m (.slice a n c) n xs) : RowM T m mk k a n 0 W := by
  intro hn
  rcases h.2 with ⟨h1, h0⟩ | ⟨g, cap, cur, hv, hb, hg, hnc, hm, hs, ht⟩
  · omega
  · injection hv with h1 h2 h3
    exact ⟨g, cur, h1, hg, by rw [hs]; exact Nat.mul_le_mul_right _ hnc, fun j hj => by omega⟩
end Go.Proofs.YtbckbfjnifafaaaGreatDoor

/- Two rows of acts, held against each other. -/
namespace Go.Proofs.YtbckbfjnifafaaaGreatDoor
open Go.RowKit
set_option linter.unusedVariables false
set_option linter.unusedSimpArgs false
set_option maxRecDepth 100000 in
set_option maxHeartbeats 3200000 in
theorem eqActS_any (l : List Pl.Ac) (hN : l.length ≤ 1048576) (va vb : Value) (w : World) (ha : AcRow w l va) (hb : AcRow w l vb) :
    Calls Tryz.prog 14 #[va, vb] w fun x w' => x = .returned (.bool true) ∧ Below w.heap.size w w' := by
  obtain ⟨aa, ca, rfl, hca, hma, hxa⟩ := ha
  obtain ⟨ab, cb, rfl, hcb, hmb, hxb⟩ := hb
  unfold maxLen at hma hmb
  have HXA := hide hxa
  have HXB := hide hxb
  clear hxa hxb
  have hne : ((l.length : Int) != (l.length : Int)) = false := by simp
  go_enter Tryz.func14, Tryz.ntmps14
  go_wp2_with fail
  go_loopw [5] (fun iv wr => ∃ i : Nat, i ≤ l.length ∧ iv = .int .i64 i ∧ Hid (Below w.heap.size w wr)) (fun iv _ => l.length - (intOf iv).toNat)
  case atStart => exact ⟨0, by omega, rfl, Below.refl _ _⟩
  case round =>
    obtain ⟨i, hi, rfl, HB⟩ := hrel
    by_cases hlt : i < l.length
    · obtain ⟨ga, rfl, hga, hsa⟩ := HXA.out (by omega)
      obtain ⟨gb, rfl, hgb, hsb⟩ := HXB.out (by omega)
      obtain ⟨e, he⟩ : ∃ e, l[i]? = some e := ⟨_, List.getElem?_eq_getElem hlt⟩
      have ca0 : wr.cell? ⟨ga, i * 9, none⟩ = some (.int .i64 e.k) := (HB.out.cell (p := ⟨ga, i * 9, none⟩) hga).trans (hsa i e he 0 _ rfl)
      have ca1 : wr.cell? ⟨ga, i * 9 + 1, none⟩ = some (.int .i64 e.r) := (HB.out.cell (p := ⟨ga, i * 9 + 1, none⟩) hga).trans (hsa i e he 1 _ rfl)
      have ca2 : wr.cell? ⟨ga, i * 9 + 2, none⟩ = some (.int .i64 e.p) := (HB.out.cell (p := ⟨ga, i * 9 + 2, none⟩) hga).trans (hsa i e he 2 _ rfl)
      have ca3 : wr.cell? ⟨ga, i * 9 + 3, none⟩ = some (.string e.nm) := (HB.out.cell (p := ⟨ga, i * 9 + 3, none⟩) hga).trans (hsa i e he 3 _ rfl)
      have ca4 : wr.cell? ⟨ga, i * 9 + 4, none⟩ = some (.bool e.o) := (HB.out.cell (p := ⟨ga, i * 9 + 4, none⟩) hga).trans (hsa i e he 4 _ rfl)
      have ca5 : wr.cell? ⟨ga, i * 9 + 5, none⟩ = some (.int .i64 e.vk) := (HB.out.cell (p := ⟨ga, i * 9 + 5, none⟩) hga).trans (hsa i e he 5 _ rfl)
      have ca6 : wr.cell? ⟨ga, i * 9 + 6, none⟩ = some (.int .i64 e.vn) := (HB.out.cell (p := ⟨ga, i * 9 + 6, none⟩) hga).trans (hsa i e he 6 _ rfl)
      have ca7 : wr.cell? ⟨ga, i * 9 + 7, none⟩ = some (.string e.vt) := (HB.out.cell (p := ⟨ga, i * 9 + 7, none⟩) hga).trans (hsa i e he 7 _ rfl)
      have ca8 : wr.cell? ⟨ga, i * 9 + 8, none⟩ = some (.int .i64 e.m) := (HB.out.cell (p := ⟨ga, i * 9 + 8, none⟩) hga).trans (hsa i e he 8 _ rfl)
      have cb0 : wr.cell? ⟨gb, i * 9, none⟩ = some (.int .i64 e.k) := (HB.out.cell (p := ⟨gb, i * 9, none⟩) hgb).trans (hsb i e he 0 _ rfl)
      have cb1 : wr.cell? ⟨gb, i * 9 + 1, none⟩ = some (.int .i64 e.r) := (HB.out.cell (p := ⟨gb, i * 9 + 1, none⟩) hgb).trans (hsb i e he 1 _ rfl)
      have cb2 : wr.cell? ⟨gb, i * 9 + 2, none⟩ = some (.int .i64 e.p) := (HB.out.cell (p := ⟨gb, i * 9 + 2, none⟩) hgb).trans (hsb i e he 2 _ rfl)
      have cb3 : wr.cell? ⟨gb, i * 9 + 3, none⟩ = some (.string e.nm) := (HB.out.cell (p := ⟨gb, i * 9 + 3, none⟩) hgb).trans (hsb i e he 3 _ rfl)
      have cb4 : wr.cell? ⟨gb, i * 9 + 4, none⟩ = some (.bool e.o) := (HB.out.cell (p := ⟨gb, i * 9 + 4, none⟩) hgb).trans (hsb i e he 4 _ rfl)
      have cb5 : wr.cell? ⟨gb, i * 9 + 5, none⟩ = some (.int .i64 e.vk) := (HB.out.cell (p := ⟨gb, i * 9 + 5, none⟩) hgb).trans (hsb i e he 5 _ rfl)
      have cb6 : wr.cell? ⟨gb, i * 9 + 6, none⟩ = some (.int .i64 e.vn) := (HB.out.cell (p := ⟨gb, i * 9 + 6, none⟩) hgb).trans (hsb i e he 6 _ rfl)
      have cb7 : wr.cell? ⟨gb, i * 9 + 7, none⟩ = some (.string e.vt) := (HB.out.cell (p := ⟨gb, i * 9 + 7, none⟩) hgb).trans (hsb i e he 7 _ rfl)
      have cb8 : wr.cell? ⟨gb, i * 9 + 8, none⟩ = some (.int .i64 e.m) := (HB.out.cell (p := ⟨gb, i * 9 + 8, none⟩) hgb).trans (hsb i e he 8 _ rfl)
      have HGA : Hid (ga < wr.heap.size) := by show _ < _; have := HB.out.size; omega
      have HGB : Hid (gb < wr.heap.size) := by show _ < _; have := HB.out.size; omega
      have heq := hide (eqAct_any e.k e.r e.p e.nm e.o e.vk e.vn e.vt e.m)
      have hii : (i : Int) < (l.length : Int) := by omega
      clear hsa hsb he hne
      go_wp2_with fail
      refine wp_region_noPanic ?_
      refine wp_region_held_drew (S := fun W => Below wr.heap.size wr W) (by kernel_rfl) (below_drew' (Below.refl _ _)) (fun hHeld => ?_)
      refine wpAnyH_take (i := 0) (oi := Oper.mk (some 17) _ _ _ _ _) (v := ?_) rfl (by kernel_rfl) (by kernel_rfl) (by kernel_rfl) (fun _ _ _ h => h) (Or.inl ⟨by rfl, ?_⟩) (by assumption) ?_
      rotate_left
      · intro w0 hSw
        clear hSw
        go_simp
        all_goals (with_reducible rfl)
      simp only [Act.put, List.setIfInBounds_toArray, List.set_cons_zero, List.set_cons_succ]
      refine wpAnyH_take (i := 1) (oi := Oper.mk (some 18) _ _ _ _ _) (v := ?_) rfl (by kernel_rfl) (by kernel_rfl) (by kernel_rfl) (fun _ _ _ h => h) (Or.inl ⟨by rfl, ?_⟩) (by assumption) ?_
      rotate_left
      · intro w0 hSw
        clear hSw
        go_simp
        all_goals (with_reducible rfl)
      simp only [Act.put, List.setIfInBounds_toArray, List.set_cons_zero, List.set_cons_succ]
      refine wpAnyH_take (i := 2) (oi := Oper.mk (some 19) _ _ _ _ _) (v := ?_) rfl (by kernel_rfl) (by kernel_rfl) (by kernel_rfl) (fun _ _ _ h => h) (Or.inl ⟨by rfl, ?_⟩) (by assumption) ?_
      rotate_left
      · intro w0 hSw
        clear hSw
        go_simp
        all_goals (with_reducible rfl)
      simp only [Act.put, List.setIfInBounds_toArray, List.set_cons_zero, List.set_cons_succ]
      refine wpAnyH_take (i := 3) (oi := Oper.mk (some 20) _ _ _ _ _) (v := ?_) rfl (by kernel_rfl) (by kernel_rfl) (by kernel_rfl) (fun _ _ _ h => h) (Or.inl ⟨by rfl, ?_⟩) (by assumption) ?_
      rotate_left
      · intro w0 hSw
        have z0 : w0.cell? ⟨ga, i * 9, none⟩ = some ((.int .i64 e.k)) := (Below.cell hSw (p := ⟨ga, i * 9, none⟩) HGA.out).trans ca0
        have z1 : w0.cell? ⟨ga, i * 9 + 1, none⟩ = some ((.int .i64 e.r)) := (Below.cell hSw (p := ⟨ga, i * 9 + 1, none⟩) HGA.out).trans ca1
        have z2 : w0.cell? ⟨ga, i * 9 + 2, none⟩ = some ((.int .i64 e.p)) := (Below.cell hSw (p := ⟨ga, i * 9 + 2, none⟩) HGA.out).trans ca2
        have z3 : w0.cell? ⟨ga, i * 9 + 3, none⟩ = some ((.string e.nm)) := (Below.cell hSw (p := ⟨ga, i * 9 + 3, none⟩) HGA.out).trans ca3
        have z4 : w0.cell? ⟨ga, i * 9 + 4, none⟩ = some ((.bool e.o)) := (Below.cell hSw (p := ⟨ga, i * 9 + 4, none⟩) HGA.out).trans ca4
        have z5 : w0.cell? ⟨ga, i * 9 + 5, none⟩ = some ((.int .i64 e.vk)) := (Below.cell hSw (p := ⟨ga, i * 9 + 5, none⟩) HGA.out).trans ca5
        have z6 : w0.cell? ⟨ga, i * 9 + 6, none⟩ = some ((.int .i64 e.vn)) := (Below.cell hSw (p := ⟨ga, i * 9 + 6, none⟩) HGA.out).trans ca6
        have z7 : w0.cell? ⟨ga, i * 9 + 7, none⟩ = some ((.string e.vt)) := (Below.cell hSw (p := ⟨ga, i * 9 + 7, none⟩) HGA.out).trans ca7
        have z8 : w0.cell? ⟨ga, i * 9 + 8, none⟩ = some ((.int .i64 e.m)) := (Below.cell hSw (p := ⟨ga, i * 9 + 8, none⟩) HGA.out).trans ca8
        clear hSw
        go_simp
        all_goals (with_reducible rfl)
      simp only [Act.put, List.setIfInBounds_toArray, List.set_cons_zero, List.set_cons_succ]
      refine wpAnyH_take (i := 4) (oi := Oper.mk (some 21) _ _ _ _ _) (v := ?_) rfl (by kernel_rfl) (by kernel_rfl) (by kernel_rfl) (fun _ _ _ h => h) (Or.inl ⟨by rfl, ?_⟩) (by assumption) ?_
      rotate_left
      · intro w0 hSw
        clear hSw
        go_simp
        all_goals (with_reducible rfl)
      simp only [Act.put, List.setIfInBounds_toArray, List.set_cons_zero, List.set_cons_succ]
      refine wpAnyH_take (i := 5) (oi := Oper.mk (some 22) _ _ _ _ _) (v := ?_) rfl (by kernel_rfl) (by kernel_rfl) (by kernel_rfl) (fun _ _ _ h => h) (Or.inl ⟨by rfl, ?_⟩) (by assumption) ?_
      rotate_left
      · intro w0 hSw
        clear hSw
        go_simp
        all_goals (with_reducible rfl)
      simp only [Act.put, List.setIfInBounds_toArray, List.set_cons_zero, List.set_cons_succ]
      refine wpAnyH_take (i := 6) (oi := Oper.mk (some 23) _ _ _ _ _) (v := ?_) rfl (by kernel_rfl) (by kernel_rfl) (by kernel_rfl) (fun _ _ _ h => h) (Or.inl ⟨by rfl, ?_⟩) (by assumption) ?_
      rotate_left
      · intro w0 hSw
        clear hSw
        go_simp
        all_goals (with_reducible rfl)
      simp only [Act.put, List.setIfInBounds_toArray, List.set_cons_zero, List.set_cons_succ]
      refine wpAnyH_take (i := 7) (oi := Oper.mk (some 24) _ _ _ _ _) (v := ?_) rfl (by kernel_rfl) (by kernel_rfl) (by kernel_rfl) (fun _ _ _ h => h) (Or.inl ⟨by rfl, ?_⟩) (by assumption) ?_
      rotate_left
      · intro w0 hSw
        have z0 : w0.cell? ⟨gb, i * 9, none⟩ = some ((.int .i64 e.k)) := (Below.cell hSw (p := ⟨gb, i * 9, none⟩) HGB.out).trans cb0
        have z1 : w0.cell? ⟨gb, i * 9 + 1, none⟩ = some ((.int .i64 e.r)) := (Below.cell hSw (p := ⟨gb, i * 9 + 1, none⟩) HGB.out).trans cb1
        have z2 : w0.cell? ⟨gb, i * 9 + 2, none⟩ = some ((.int .i64 e.p)) := (Below.cell hSw (p := ⟨gb, i * 9 + 2, none⟩) HGB.out).trans cb2
        have z3 : w0.cell? ⟨gb, i * 9 + 3, none⟩ = some ((.string e.nm)) := (Below.cell hSw (p := ⟨gb, i * 9 + 3, none⟩) HGB.out).trans cb3
        have z4 : w0.cell? ⟨gb, i * 9 + 4, none⟩ = some ((.bool e.o)) := (Below.cell hSw (p := ⟨gb, i * 9 + 4, none⟩) HGB.out).trans cb4
        have z5 : w0.cell? ⟨gb, i * 9 + 5, none⟩ = some ((.int .i64 e.vk)) := (Below.cell hSw (p := ⟨gb, i * 9 + 5, none⟩) HGB.out).trans cb5
        have z6 : w0.cell? ⟨gb, i * 9 + 6, none⟩ = some ((.int .i64 e.vn)) := (Below.cell hSw (p := ⟨gb, i * 9 + 6, none⟩) HGB.out).trans cb6
        have z7 : w0.cell? ⟨gb, i * 9 + 7, none⟩ = some ((.string e.vt)) := (Below.cell hSw (p := ⟨gb, i * 9 + 7, none⟩) HGB.out).trans cb7
        have z8 : w0.cell? ⟨gb, i * 9 + 8, none⟩ = some ((.int .i64 e.m)) := (Below.cell hSw (p := ⟨gb, i * 9 + 8, none⟩) HGB.out).trans cb8
        clear hSw
        go_simp
        all_goals (with_reducible rfl)
      simp only [Act.put, List.setIfInBounds_toArray, List.set_cons_zero, List.set_cons_succ]
      refine wpAnyH_ready (rs := [8]) (by kernel_rfl) (by simp) ?_
      refine AllReadyH.cons (o := Oper.mk (some 25) _ _ _ _ _) rfl (fun K hK => ?_) AllReadyH.nil
      go_simp
      go_at_call 33
      refine (heq.out _).mono ?_
      rintro x0 w0 ⟨rfl, hB0⟩
      have hHeld' := Below.trans hHeld (hB0.mono hHeld.size)
      clear hB0 hHeld
      go_wp2_with fail
      refine hK.out _ _ hHeld' (fun hHeld => ?_)
      clear hK K hHeld'
      (try simp only [Act.put, List.setIfInBounds_toArray, List.set_cons_zero, List.set_cons_succ])
      refine wpAnyH_take (i := 9) (oi := Oper.mk (some 26) _ _ _ _ _) (v := ?_) rfl (by kernel_rfl) (by kernel_rfl) (by kernel_rfl) (fun _ _ _ h => h) (Or.inl ⟨by rfl, ?_⟩) (by assumption) ?_
      rotate_left
      · intro w0 hSw
        clear hSw
        go_simp
        all_goals (with_reducible rfl)
      simp only [Act.put, List.setIfInBounds_toArray, List.set_cons_zero, List.set_cons_succ]
      refine wpAnyH_done (by kernel_rfl) ?_ _
      refine NoPanic.normal ?_
      have HB2 := hide (HB.out.trans (hHeld.mono HB.out.size))
      clear hHeld HXA HXB
      go_wp2_with fail
      go_roundw
      case rel => exact ⟨i + 1, by omega, by go_num, HB2⟩
      case measure => simp [intOf]; omega
    · have hie : i = l.length := by omega
      clear hne HXA HXB
      go_wp2_with fail
      go_ret
      exact ⟨rfl, HB.out⟩
end Go.Proofs.YtbckbfjnifafaaaGreatDoor

/- Acts, marked, and held against the marks. -/
namespace Go.Proofs.YtbckbfjnifafaaaGreatDoor
open Go.RowKit
set_option linter.unusedVariables false
set_option linter.unusedSimpArgs false
def mkAcs (k : Nat) : List Value := [(.int .i64 ((k + 0 : Nat) : Int) : Value), (.int .i64 ((k + 1 : Nat) : Int) : Value), (.int .i64 ((k + 2 : Nat) : Int) : Value), (.string (Pl.bs (Pl.mark (k + 3))) : Value), (.bool (((k + 4 : Nat) : Int) % 3 == 0) : Value), (.int .i64 ((k + 5 : Nat) : Int) : Value), (.int .i64 ((k + 6 : Nat) : Int) : Value), (.string (Pl.bs (Pl.mark (k + 7))) : Value), (.int .i64 ((k + 8 : Nat) : Int) : Value)]
theorem nextAcs {C : Array Value} {k i n : Nat} {z : Int} (hs : n * 9 ≤ C.size) (hi : i < n) (hz : z = ((k + 9 * i : Nat) : Int)) (hc : ∀ j, j < i → ∀ t u, (mkAcs (k + 9 * j))[t]? = some u → C[j * 9 + t]? = some u)
    {a0 a1 a2 a3 a4 a5 a6 a7 a8 : Nat} (e0 : a0 = i * 9 + 0) (e1 : a1 = i * 9 + 1) (e2 : a2 = i * 9 + 2) (e3 : a3 = i * 9 + 3) (e4 : a4 = i * 9 + 4) (e5 : a5 = i * 9 + 5) (e6 : a6 = i * 9 + 6) (e7 : a7 = i * 9 + 7) (e8 : a8 = i * 9 + 8) :
    ∀ j, j < i + 1 → ∀ t u, (mkAcs (k + 9 * j))[t]? = some u → (((((((((C.setIfInBounds a0 ((.int .i64 z : Value))).setIfInBounds a1 ((.int .i64 (z + 1) : Value))).setIfInBounds a2 ((.int .i64 (z + 1 + 1) : Value))).setIfInBounds a3 ((.string (Pl.bs (Pl.mark (k + 9 * i + 3))) : Value))).setIfInBounds a4 ((.bool ((z + 1 + 1 + 1 + 1) % 3 == 0) : Value))).setIfInBounds a5 ((.int .i64 (z + 1 + 1 + 1 + 1 + 1) : Value))).setIfInBounds a6 ((.int .i64 (z + 1 + 1 + 1 + 1 + 1 + 1) : Value))).setIfInBounds a7 ((.string (Pl.bs (Pl.mark (k + 9 * i + 7))) : Value))).setIfInBounds a8 ((.int .i64 (z + 1 + 1 + 1 + 1 + 1 + 1 + 1 + 1) : Value)))[j * 9 + t]? = some u := by
  intro j hj t u hu
  subst e0 e1 e2 e3 e4 e5 e6 e7 e8
  by_cases hji : j = i
  · subst hji
    have l0 : j * 9 + 0 < C.size := by omega
    have l1 : j * 9 + 1 < C.size := by omega
    have l2 : j * 9 + 2 < C.size := by omega
    have l3 : j * 9 + 3 < C.size := by omega
    have l4 : j * 9 + 4 < C.size := by omega
    have l5 : j * 9 + 5 < C.size := by omega
    have l6 : j * 9 + 6 < C.size := by omega
    have l7 : j * 9 + 7 < C.size := by omega
    have l8 : j * 9 + 8 < C.size := by omega
    match t, hu with
    | 0, hu =>
      obtain rfl : (.int .i64 ((k + 9 * j + 0 : Nat) : Int) : Value) = u := by simpa [mkAcs] using hu
      have hv : (.int .i64 z : Value) = (.int .i64 ((k + 9 * j + 0 : Nat) : Int) : Value) := by rw [hz]; congr 1 <;> omega
      rw [Array.getElem?_setIfInBounds_ne (by omega)]
      rw [Array.getElem?_setIfInBounds_ne (by omega)]
      rw [Array.getElem?_setIfInBounds_ne (by omega)]
      rw [Array.getElem?_setIfInBounds_ne (by omega)]
      rw [Array.getElem?_setIfInBounds_ne (by omega)]
      rw [Array.getElem?_setIfInBounds_ne (by omega)]
      rw [Array.getElem?_setIfInBounds_ne (by omega)]
      rw [Array.getElem?_setIfInBounds_ne (by omega)]
      rw [Array.getElem?_setIfInBounds_self_of_lt (by simp; omega)]
      rw [hv]
    | 1, hu =>
      obtain rfl : (.int .i64 ((k + 9 * j + 1 : Nat) : Int) : Value) = u := by simpa [mkAcs] using hu
      have hv : (.int .i64 (z + 1) : Value) = (.int .i64 ((k + 9 * j + 1 : Nat) : Int) : Value) := by rw [hz]; congr 1 <;> omega
      rw [Array.getElem?_setIfInBounds_ne (by omega)]
      rw [Array.getElem?_setIfInBounds_ne (by omega)]
      rw [Array.getElem?_setIfInBounds_ne (by omega)]
      rw [Array.getElem?_setIfInBounds_ne (by omega)]
      rw [Array.getElem?_setIfInBounds_ne (by omega)]
      rw [Array.getElem?_setIfInBounds_ne (by omega)]
      rw [Array.getElem?_setIfInBounds_ne (by omega)]
      rw [Array.getElem?_setIfInBounds_self_of_lt (by simp; omega)]
      rw [hv]
    | 2, hu =>
      obtain rfl : (.int .i64 ((k + 9 * j + 2 : Nat) : Int) : Value) = u := by simpa [mkAcs] using hu
      have hv : (.int .i64 (z + 1 + 1) : Value) = (.int .i64 ((k + 9 * j + 2 : Nat) : Int) : Value) := by rw [hz]; congr 1 <;> omega
      rw [Array.getElem?_setIfInBounds_ne (by omega)]
      rw [Array.getElem?_setIfInBounds_ne (by omega)]
      rw [Array.getElem?_setIfInBounds_ne (by omega)]
      rw [Array.getElem?_setIfInBounds_ne (by omega)]
      rw [Array.getElem?_setIfInBounds_ne (by omega)]
      rw [Array.getElem?_setIfInBounds_ne (by omega)]
      rw [Array.getElem?_setIfInBounds_self_of_lt (by simp; omega)]
      rw [hv]
    | 3, hu =>
      obtain rfl : (.string (Pl.bs (Pl.mark (k + 9 * j + 3))) : Value) = u := by simpa [mkAcs] using hu
      rw [Array.getElem?_setIfInBounds_ne (by omega)]
      rw [Array.getElem?_setIfInBounds_ne (by omega)]
      rw [Array.getElem?_setIfInBounds_ne (by omega)]
      rw [Array.getElem?_setIfInBounds_ne (by omega)]
      rw [Array.getElem?_setIfInBounds_ne (by omega)]
      rw [Array.getElem?_setIfInBounds_self_of_lt (by simp; omega)]
      skip
    | 4, hu =>
      obtain rfl : (.bool (((k + 9 * j + 4 : Nat) : Int) % 3 == 0) : Value) = u := by simpa [mkAcs] using hu
      have hv : (.bool ((z + 1 + 1 + 1 + 1) % 3 == 0) : Value) = (.bool (((k + 9 * j + 4 : Nat) : Int) % 3 == 0) : Value) := by rw [hz]; congr 3 <;> omega
      rw [Array.getElem?_setIfInBounds_ne (by omega)]
      rw [Array.getElem?_setIfInBounds_ne (by omega)]
      rw [Array.getElem?_setIfInBounds_ne (by omega)]
      rw [Array.getElem?_setIfInBounds_ne (by omega)]
      rw [Array.getElem?_setIfInBounds_self_of_lt (by simp; omega)]
      rw [hv]
    | 5, hu =>
      obtain rfl : (.int .i64 ((k + 9 * j + 5 : Nat) : Int) : Value) = u := by simpa [mkAcs] using hu
      have hv : (.int .i64 (z + 1 + 1 + 1 + 1 + 1) : Value) = (.int .i64 ((k + 9 * j + 5 : Nat) : Int) : Value) := by rw [hz]; congr 1 <;> omega
      rw [Array.getElem?_setIfInBounds_ne (by omega)]
      rw [Array.getElem?_setIfInBounds_ne (by omega)]
      rw [Array.getElem?_setIfInBounds_ne (by omega)]
      rw [Array.getElem?_setIfInBounds_self_of_lt (by simp; omega)]
      rw [hv]
    | 6, hu =>
      obtain rfl : (.int .i64 ((k + 9 * j + 6 : Nat) : Int) : Value) = u := by simpa [mkAcs] using hu
      have hv : (.int .i64 (z + 1 + 1 + 1 + 1 + 1 + 1) : Value) = (.int .i64 ((k + 9 * j + 6 : Nat) : Int) : Value) := by rw [hz]; congr 1 <;> omega
      rw [Array.getElem?_setIfInBounds_ne (by omega)]
      rw [Array.getElem?_setIfInBounds_ne (by omega)]
      rw [Array.getElem?_setIfInBounds_self_of_lt (by simp; omega)]
      rw [hv]
    | 7, hu =>
      obtain rfl : (.string (Pl.bs (Pl.mark (k + 9 * j + 7))) : Value) = u := by simpa [mkAcs] using hu
      rw [Array.getElem?_setIfInBounds_ne (by omega)]
      rw [Array.getElem?_setIfInBounds_self_of_lt (by simp; omega)]
      skip
    | 8, hu =>
      obtain rfl : (.int .i64 ((k + 9 * j + 8 : Nat) : Int) : Value) = u := by simpa [mkAcs] using hu
      have hv : (.int .i64 (z + 1 + 1 + 1 + 1 + 1 + 1 + 1 + 1) : Value) = (.int .i64 ((k + 9 * j + 8 : Nat) : Int) : Value) := by rw [hz]; congr 1 <;> omega
      rw [Array.getElem?_setIfInBounds_self_of_lt (by simp; omega)]
      rw [hv]
    | t + 9, hu => simp [mkAcs] at hu
  · have ht : t < 9 := by
      have := (List.getElem?_eq_some_iff.1 hu).1
      simpa [mkAcs] using this
    have hlt : j < i := by omega
    have hlin : j * 9 + 9 ≤ i * 9 := by
      have := Nat.mul_le_mul_right 9 (show j + 1 ≤ i by omega)
      omega
    rw [Array.getElem?_setIfInBounds_ne (by omega)]
    rw [Array.getElem?_setIfInBounds_ne (by omega)]
    rw [Array.getElem?_setIfInBounds_ne (by omega)]
    rw [Array.getElem?_setIfInBounds_ne (by omega)]
    rw [Array.getElem?_setIfInBounds_ne (by omega)]
    rw [Array.getElem?_setIfInBounds_ne (by omega)]
    rw [Array.getElem?_setIfInBounds_ne (by omega)]
    rw [Array.getElem?_setIfInBounds_ne (by omega)]
    rw [Array.getElem?_setIfInBounds_ne (by omega)]
    exact hc j hlt t u hu
set_option maxRecDepth 100000 in
set_option maxHeartbeats 12800000 in
theorem markAcs_any (n : Nat) (a : Option Addr) (c k : Nat) (h1 : 1 ≤ k) (h2 : k + 9 * n ≤ 100000000) (hnc : n ≤ c) (hcm : c ≤ maxLen) (w : World) (hr : RowM 45 9 mkAcs k a n 0 w) :
    Calls Tryz.prog 16 #[.slice a n c, .int .i64 (k : Int)] w fun x w' => x = .returned (.int .i64 ((k + 9 * n : Nat) : Int)) ∧ RowM 45 9 mkAcs k a n n w' ∧ w.grownBy w' (Value.slice a n c).ownBlock := by
  unfold maxLen at hcm
  have HR := hide hr
  clear hr
  go_enter Tryz.func16, Tryz.ntmps16
  go_wp2_with fail
  go_loopw [1, 5] (fun kv iv wr => ∃ (i : Nat) (z : Int), i ≤ n ∧ iv = .int .i64 i ∧ kv = .int .i64 z ∧ Hid (z = ((k + 9 * i : Nat) : Int)) ∧ Hid (RowM 45 9 mkAcs k a n i wr) ∧ Hid (w.grownBy wr (Value.slice a n c).ownBlock)) (fun _ iv _ => n - (intOf iv).toNat)
  case atStart => exact ⟨0, k, by omega, rfl, rfl, hide (by simp), HR, hide (gb_refl _ _)⟩
  case round =>
    obtain ⟨i, z, hi, rfl, rfl, HZ, HM, HG⟩ := hrel
    by_cases hlt : i < n
    · obtain ⟨b, C, rfl, hb, hs, hcont⟩ := HM.out (by omega)
      have HB0 := hide hb
      have HS := hide hs
      have HC := hide hcont
      have HG0 : Hid (w.grownBy wr (some b)) := HG
      have hz0 : 1 ≤ z := by have := HZ.out; omega
      have hz1 : z ≤ 100000000 := by have := HZ.out; omega
      have hii : (i : Int) < (n : Int) := by omega
      clear hb hs hcont HM HG HR
      obtain ⟨u0, c0⟩ : ∃ u, wr.cell? ⟨b, i * 9, none⟩ = some u := cell_in HB0.out (by (try simp only [Array.size_setIfInBounds]); have := HS.out; omega)
      have f0 : wr.frozen? ⟨b, i * 9, none⟩ = false := free_of_block HB0.out _
      obtain ⟨u1, c1⟩ : ∃ u, wr.cell? ⟨b, i * 9 + 1, none⟩ = some u := cell_in HB0.out (by (try simp only [Array.size_setIfInBounds]); have := HS.out; omega)
      have f1 : wr.frozen? ⟨b, i * 9 + 1, none⟩ = false := free_of_block HB0.out _
      obtain ⟨u2, c2⟩ : ∃ u, wr.cell? ⟨b, i * 9 + 2, none⟩ = some u := cell_in HB0.out (by (try simp only [Array.size_setIfInBounds]); have := HS.out; omega)
      have f2 : wr.frozen? ⟨b, i * 9 + 2, none⟩ = false := free_of_block HB0.out _
      go_wp2_with fail
      refine (markText_at _ (k + 9 * i + 3) (by have := HZ.out; omega) (by omega) (by omega) _).mono ?_
      rintro x0 Y0 ⟨rfl, hB0⟩
      have hbk := (block_set (block_set (block_set HB0.out (i * 9) (.int .i64 z : Value)) (i * 9 + 1) (.int .i64 (z + 1) : Value)) (i * 9 + 2) (.int .i64 (z + 1 + 1) : Value))
      have HB1 := hide ((hB0.block b (Array.getElem?_eq_some_iff.1 hbk).1).trans hbk)
      have HG1 := hide (gb_later (gb_set (gb_set (gb_set HG0.out))) hB0)
      clear hB0 hbk c0 f0 c1 f1 c2 f2
      obtain ⟨u3, c3⟩ : ∃ u, Y0.cell? ⟨b, i * 9 + 3, none⟩ = some u := cell_in HB1.out (by (try simp only [Array.size_setIfInBounds]); have := HS.out; omega)
      have f3 : Y0.frozen? ⟨b, i * 9 + 3, none⟩ = false := free_of_block HB1.out _
      obtain ⟨u4, c4⟩ : ∃ u, Y0.cell? ⟨b, i * 9 + 4, none⟩ = some u := cell_in HB1.out (by (try simp only [Array.size_setIfInBounds]); have := HS.out; omega)
      have f4 : Y0.frozen? ⟨b, i * 9 + 4, none⟩ = false := free_of_block HB1.out _
      obtain ⟨u5, c5⟩ : ∃ u, Y0.cell? ⟨b, i * 9 + 5, none⟩ = some u := cell_in HB1.out (by (try simp only [Array.size_setIfInBounds]); have := HS.out; omega)
      have f5 : Y0.frozen? ⟨b, i * 9 + 5, none⟩ = false := free_of_block HB1.out _
      obtain ⟨u6, c6⟩ : ∃ u, Y0.cell? ⟨b, i * 9 + 6, none⟩ = some u := cell_in HB1.out (by (try simp only [Array.size_setIfInBounds]); have := HS.out; omega)
      have f6 : Y0.frozen? ⟨b, i * 9 + 6, none⟩ = false := free_of_block HB1.out _
      go_wp2_with fail
      refine (markText_at _ (k + 9 * i + 7) (by have := HZ.out; omega) (by omega) (by omega) _).mono ?_
      rintro x1 Y1 ⟨rfl, hB1⟩
      have hbk := (block_set (block_set (block_set (block_set HB1.out (i * 9 + 3) (.string (Pl.bs (Pl.mark (k + 9 * i + 3))) : Value)) (i * 9 + 4) (.bool ((z + 1 + 1 + 1 + 1) % 3 == 0) : Value)) (i * 9 + 5) (.int .i64 (z + 1 + 1 + 1 + 1 + 1) : Value)) (i * 9 + 6) (.int .i64 (z + 1 + 1 + 1 + 1 + 1 + 1) : Value))
      have HB2 := hide ((hB1.block b (Array.getElem?_eq_some_iff.1 hbk).1).trans hbk)
      have HG2 := hide (gb_later (gb_set (gb_set (gb_set (gb_set HG1.out)))) hB1)
      clear hB1 hbk c3 f3 c4 f4 c5 f5 c6 f6
      obtain ⟨u7, c7⟩ : ∃ u, Y1.cell? ⟨b, i * 9 + 7, none⟩ = some u := cell_in HB2.out (by (try simp only [Array.size_setIfInBounds]); have := HS.out; omega)
      have f7 : Y1.frozen? ⟨b, i * 9 + 7, none⟩ = false := free_of_block HB2.out _
      obtain ⟨u8, c8⟩ : ∃ u, Y1.cell? ⟨b, i * 9 + 8, none⟩ = some u := cell_in HB2.out (by (try simp only [Array.size_setIfInBounds]); have := HS.out; omega)
      have f8 : Y1.frozen? ⟨b, i * 9 + 8, none⟩ = false := free_of_block HB2.out _
      go_wp2_with fail
      go_roundw
      case rel => exact ⟨i + 1, _, by omega, by go_num, rfl, hide (by have := HZ.out; omega), hide (fun _ => ⟨b, _, rfl, (block_set (block_set HB2.out (i * 9 + 7) (.string (Pl.bs (Pl.mark (k + 9 * i + 7))) : Value)) (i * 9 + 8) (.int .i64 (z + 1 + 1 + 1 + 1 + 1 + 1 + 1 + 1) : Value)), by simp only [Array.size_setIfInBounds]; exact HS.out, nextAcs HS.out hlt HZ.out HC.out (by omega) (by omega) (by omega) (by omega) (by omega) (by omega) (by omega) (by omega) (by omega)⟩), hide ((gb_set (gb_set HG2.out)))⟩
      case measure => simp [intOf]; omega
    · have hie : i = n := by omega
      have HE : Hid (z = ((k + 9 * n : Nat) : Int)) := by rw [← hie]; exact HZ
      have HD : Hid (RowM 45 9 mkAcs k a n n wr) := by rw [hie] at HM; exact HM
      clear hie
      go_wp2_with fail
      go_ret
      exact ⟨by rw [← HE.out]; rfl, HD.out, HG.out⟩
end Go.Proofs.YtbckbfjnifafaaaGreatDoor

/- Acts, marked, and held against the marks. -/
namespace Go.Proofs.YtbckbfjnifafaaaGreatDoor
open Go.RowKit
set_option linter.unusedVariables false
set_option linter.unusedSimpArgs false
set_option maxRecDepth 100000 in
set_option maxHeartbeats 12800000 in
theorem heldAcs_any (n : Nat) (a : Option Addr) (c k : Nat) (h1 : 1 ≤ k) (h2 : k + 9 * n ≤ 100000000) (hnc : n ≤ c) (hcm : c ≤ maxLen) (w : World) (hr : RowM 45 9 mkAcs k a n n w) :
    Calls Tryz.prog 17 #[.slice a n c, .int .i64 (k : Int)] w fun x w' => x = .returned (.int .i64 ((k + 9 * n : Nat) : Int)) ∧ Below w.heap.size w w' := by
  unfold maxLen at hcm
  have HR := hide hr
  clear hr
  go_enter Tryz.func17, Tryz.ntmps17
  go_wp2_with fail
  go_loopw [1, 5] (fun kv iv wr => ∃ (i : Nat) (z : Int), i ≤ n ∧ iv = .int .i64 i ∧ kv = .int .i64 z ∧ Hid (z = ((k + 9 * i : Nat) : Int)) ∧ Hid (Below w.heap.size w wr)) (fun _ iv _ => n - (intOf iv).toNat)
  case atStart => exact ⟨0, k, by omega, rfl, rfl, hide (by simp), Below.refl _ _⟩
  case round =>
    obtain ⟨i, z, hi, rfl, rfl, HZ, HB⟩ := hrel
    by_cases hlt : i < n
    · obtain ⟨b, C, rfl, hb, hs, hcont⟩ := HR.out (by omega)
      have hbl : b < w.heap.size := (Array.getElem?_eq_some_iff.1 hb).1
      have HCW : Hid (∀ j u, (mkAcs (k + 9 * i))[j]? = some u → wr.cell? ⟨b, i * 9 + j, none⟩ = some u) := hide fun j u hu => (Below.cell HB.out (p := ⟨b, i * 9 + j, none⟩) hbl).trans ((cell_of_block hb _).trans (hcont i hlt j u hu))
      have HGb : Hid (b < wr.heap.size) := by show _ < _; have := HB.out.size; omega
      have hz0 : 1 ≤ z := by have := HZ.out; omega
      have hz1 : z ≤ 100000000 := by have := HZ.out; omega
      have hii : (i : Int) < (n : Int) := by omega
      clear hb hs hcont HR hbl
      have q0 : wr.cell? ⟨b, i * 9, none⟩ = some (.int .i64 z : Value) := by
        rw [show (.int .i64 z : Value) = (.int .i64 ((k + 9 * i + 0 : Nat) : Int) : Value) by rw [HZ.out]; congr 1 <;> omega]
        exact HCW.out 0 _ rfl
      have q1 : wr.cell? ⟨b, i * 9 + 1, none⟩ = some (.int .i64 (z + 1) : Value) := by
        rw [show (.int .i64 (z + 1) : Value) = (.int .i64 ((k + 9 * i + 1 : Nat) : Int) : Value) by rw [HZ.out]; congr 1 <;> omega]
        exact HCW.out 1 _ rfl
      have q2 : wr.cell? ⟨b, i * 9 + 2, none⟩ = some (.int .i64 (z + 1 + 1) : Value) := by
        rw [show (.int .i64 (z + 1 + 1) : Value) = (.int .i64 ((k + 9 * i + 2 : Nat) : Int) : Value) by rw [HZ.out]; congr 1 <;> omega]
        exact HCW.out 2 _ rfl
      have q3 : wr.cell? ⟨b, i * 9 + 3, none⟩ = some (.string (Pl.bs (Pl.mark (k + 9 * i + 3))) : Value) := HCW.out 3 _ rfl
      have q4 : wr.cell? ⟨b, i * 9 + 4, none⟩ = some (.bool ((z + 1 + 1 + 1 + 1) % 3 == 0) : Value) := by
        rw [show (.bool ((z + 1 + 1 + 1 + 1) % 3 == 0) : Value) = (.bool (((k + 9 * i + 4 : Nat) : Int) % 3 == 0) : Value) by rw [HZ.out]; congr 3 <;> omega]
        exact HCW.out 4 _ rfl
      have q5 : wr.cell? ⟨b, i * 9 + 5, none⟩ = some (.int .i64 (z + 1 + 1 + 1 + 1 + 1) : Value) := by
        rw [show (.int .i64 (z + 1 + 1 + 1 + 1 + 1) : Value) = (.int .i64 ((k + 9 * i + 5 : Nat) : Int) : Value) by rw [HZ.out]; congr 1 <;> omega]
        exact HCW.out 5 _ rfl
      have q6 : wr.cell? ⟨b, i * 9 + 6, none⟩ = some (.int .i64 (z + 1 + 1 + 1 + 1 + 1 + 1) : Value) := by
        rw [show (.int .i64 (z + 1 + 1 + 1 + 1 + 1 + 1) : Value) = (.int .i64 ((k + 9 * i + 6 : Nat) : Int) : Value) by rw [HZ.out]; congr 1 <;> omega]
        exact HCW.out 6 _ rfl
      have q7 : wr.cell? ⟨b, i * 9 + 7, none⟩ = some (.string (Pl.bs (Pl.mark (k + 9 * i + 7))) : Value) := HCW.out 7 _ rfl
      have q8 : wr.cell? ⟨b, i * 9 + 8, none⟩ = some (.int .i64 (z + 1 + 1 + 1 + 1 + 1 + 1 + 1 + 1) : Value) := by
        rw [show (.int .i64 (z + 1 + 1 + 1 + 1 + 1 + 1 + 1 + 1) : Value) = (.int .i64 ((k + 9 * i + 8 : Nat) : Int) : Value) by rw [HZ.out]; congr 1 <;> omega]
        exact HCW.out 8 _ rfl
      have n0 : ((z) != (z)) = false := by simp
      have n1 : ((z + 1) != (z + 1)) = false := by simp
      have n2 : ((z + 1 + 1) != (z + 1 + 1)) = false := by simp
      have n4 : (((z + 1 + 1 + 1 + 1) % 3 == 0) != ((z + 1 + 1 + 1 + 1) % 3 == 0)) = false := by simp
      have n5 : ((z + 1 + 1 + 1 + 1 + 1) != (z + 1 + 1 + 1 + 1 + 1)) = false := by simp
      have n6 : ((z + 1 + 1 + 1 + 1 + 1 + 1) != (z + 1 + 1 + 1 + 1 + 1 + 1)) = false := by simp
      have n8 : ((z + 1 + 1 + 1 + 1 + 1 + 1 + 1 + 1) != (z + 1 + 1 + 1 + 1 + 1 + 1 + 1 + 1)) = false := by simp
      have HP0 := HB
      go_wp2_with fail
      refine wp_region_noPanic ?_
      refine wp_region_held_drew (S := fun W => Below wr.heap.size wr W) (by kernel_rfl) (below_drew' (Below.refl _ _)) (fun hHeld => ?_)
      refine wpAnyH_take (i := 0) (oi := Oper.mk (some 39) _ _ _ _ _) (v := ?_) rfl (by kernel_rfl) (by kernel_rfl) (by kernel_rfl) (fun _ _ _ h => h) (Or.inl ⟨by rfl, ?_⟩) (by assumption) ?_
      rotate_left
      · intro w0 hSw
        clear hSw
        go_simp
        all_goals (with_reducible rfl)
      simp only [Act.put, List.setIfInBounds_toArray, List.set_cons_zero, List.set_cons_succ]
      refine wpAnyH_take (i := 1) (oi := Oper.mk (some 40) _ _ _ _ _) (v := ?_) rfl (by kernel_rfl) (by kernel_rfl) (by kernel_rfl) (fun _ _ _ h => h) (Or.inl ⟨by rfl, ?_⟩) (by assumption) ?_
      rotate_left
      · intro w0 hSw
        clear hSw
        go_simp
        all_goals (with_reducible rfl)
      simp only [Act.put, List.setIfInBounds_toArray, List.set_cons_zero, List.set_cons_succ]
      refine wpAnyH_take (i := 2) (oi := Oper.mk (some 41) _ _ _ _ _) (v := ?_) rfl (by kernel_rfl) (by kernel_rfl) (by kernel_rfl) (fun _ _ _ h => h) (Or.inl ⟨by rfl, ?_⟩) (by assumption) ?_
      rotate_left
      · intro w0 hSw
        clear hSw
        go_simp
        all_goals (with_reducible rfl)
      simp only [Act.put, List.setIfInBounds_toArray, List.set_cons_zero, List.set_cons_succ]
      refine wpAnyH_take (i := 3) (oi := Oper.mk (some 42) _ _ _ _ _) (v := ?_) rfl (by kernel_rfl) (by kernel_rfl) (by kernel_rfl) (fun _ _ _ h => h) (Or.inl ⟨by rfl, ?_⟩) (by assumption) ?_
      rotate_left
      · intro w0 hSw
        clear hSw
        go_simp
        all_goals (with_reducible rfl)
      simp only [Act.put, List.setIfInBounds_toArray, List.set_cons_zero, List.set_cons_succ]
      refine wpAnyH_take (i := 4) (oi := Oper.mk (some 43) _ _ _ _ _) (v := ?_) rfl (by kernel_rfl) (by kernel_rfl) (by kernel_rfl) (fun _ _ _ h => h) (Or.inl ⟨by rfl, ?_⟩) (by assumption) ?_
      rotate_left
      · intro w0 hSw
        have z0 : w0.cell? ⟨b, i * 9 + 3, none⟩ = some ((.string (Pl.bs (Pl.mark (k + 9 * i + 3))) : Value)) := (Below.cell hSw (p := ⟨b, i * 9 + 3, none⟩) HGb.out).trans q3
        clear hSw
        go_simp
        all_goals (with_reducible rfl)
      simp only [Act.put, List.setIfInBounds_toArray, List.set_cons_zero, List.set_cons_succ]
      refine wpAnyH_take (i := 5) (oi := Oper.mk (some 44) _ _ _ _ _) (v := ?_) rfl (by kernel_rfl) (by kernel_rfl) (by kernel_rfl) (fun _ _ _ h => h) (Or.inl ⟨by rfl, ?_⟩) (by assumption) ?_
      rotate_left
      · intro w0 hSw
        clear hSw
        go_simp
        all_goals (with_reducible rfl)
      simp only [Act.put, List.setIfInBounds_toArray, List.set_cons_zero, List.set_cons_succ]
      refine wpAnyH_ready (rs := [6]) (by kernel_rfl) (by simp) ?_
      refine AllReadyH.cons (o := Oper.mk (some 45) _ _ _ _ _) rfl (fun K hK => ?_) AllReadyH.nil
      go_simp
      go_at_call 35
      refine (markText_at _ (k + 9 * i + 3) (by have := HZ.out; omega) (by omega) (by omega) _).mono ?_
      rintro x0 Y0 ⟨rfl, hB0⟩
      have hHeld' := Below.trans hHeld (hB0.mono hHeld.size)
      clear hB0 hHeld
      go_wp2_with fail
      refine hK.out _ _ hHeld' (fun hHeld => ?_)
      clear hK K hHeld'
      (try simp only [Act.put, List.setIfInBounds_toArray, List.set_cons_zero, List.set_cons_succ])
      refine wpAnyH_take (i := 7) (oi := Oper.mk (some 46) _ _ _ _ _) (v := ?_) rfl (by kernel_rfl) (by kernel_rfl) (by kernel_rfl) (fun _ _ _ h => h) (Or.inl ⟨by rfl, ?_⟩) (by assumption) ?_
      rotate_left
      · intro w0 hSw
        clear hSw
        go_simp
        all_goals (with_reducible rfl)
      simp only [Act.put, List.setIfInBounds_toArray, List.set_cons_zero, List.set_cons_succ]
      refine wpAnyH_done (by kernel_rfl) ?_ _
      refine NoPanic.normal ?_
      replace q0 : Y0.cell? ⟨b, i * 9, none⟩ = some (.int .i64 z : Value) := (Below.cell hHeld (p := ⟨b, i * 9, none⟩) HGb.out).trans q0
      replace q1 : Y0.cell? ⟨b, i * 9 + 1, none⟩ = some (.int .i64 (z + 1) : Value) := (Below.cell hHeld (p := ⟨b, i * 9 + 1, none⟩) HGb.out).trans q1
      replace q2 : Y0.cell? ⟨b, i * 9 + 2, none⟩ = some (.int .i64 (z + 1 + 1) : Value) := (Below.cell hHeld (p := ⟨b, i * 9 + 2, none⟩) HGb.out).trans q2
      replace q3 : Y0.cell? ⟨b, i * 9 + 3, none⟩ = some (.string (Pl.bs (Pl.mark (k + 9 * i + 3))) : Value) := (Below.cell hHeld (p := ⟨b, i * 9 + 3, none⟩) HGb.out).trans q3
      replace q4 : Y0.cell? ⟨b, i * 9 + 4, none⟩ = some (.bool ((z + 1 + 1 + 1 + 1) % 3 == 0) : Value) := (Below.cell hHeld (p := ⟨b, i * 9 + 4, none⟩) HGb.out).trans q4
      replace q5 : Y0.cell? ⟨b, i * 9 + 5, none⟩ = some (.int .i64 (z + 1 + 1 + 1 + 1 + 1) : Value) := (Below.cell hHeld (p := ⟨b, i * 9 + 5, none⟩) HGb.out).trans q5
      replace q6 : Y0.cell? ⟨b, i * 9 + 6, none⟩ = some (.int .i64 (z + 1 + 1 + 1 + 1 + 1 + 1) : Value) := (Below.cell hHeld (p := ⟨b, i * 9 + 6, none⟩) HGb.out).trans q6
      replace q7 : Y0.cell? ⟨b, i * 9 + 7, none⟩ = some (.string (Pl.bs (Pl.mark (k + 9 * i + 7))) : Value) := (Below.cell hHeld (p := ⟨b, i * 9 + 7, none⟩) HGb.out).trans q7
      replace q8 : Y0.cell? ⟨b, i * 9 + 8, none⟩ = some (.int .i64 (z + 1 + 1 + 1 + 1 + 1 + 1 + 1 + 1) : Value) := (Below.cell hHeld (p := ⟨b, i * 9 + 8, none⟩) HGb.out).trans q8
      replace HGb : Hid (b < Y0.heap.size) := by show _ < _; have := HGb.out; have := hHeld.size; omega
      have HP1 := hide (HP0.out.trans (hHeld.mono HP0.out.size))
      clear hHeld
      go_wp2_with fail
      refine wp_region_noPanic ?_
      refine wp_region_held_drew (S := fun W => Below Y0.heap.size Y0 W) (by kernel_rfl) (below_drew' (Below.refl _ _)) (fun hHeld => ?_)
      refine wpAnyH_take (i := 0) (oi := Oper.mk (some 80) _ _ _ _ _) (v := ?_) rfl (by kernel_rfl) (by kernel_rfl) (by kernel_rfl) (fun _ _ _ h => h) (Or.inl ⟨by rfl, ?_⟩) (by assumption) ?_
      rotate_left
      · intro w0 hSw
        clear hSw
        go_simp
        all_goals (with_reducible rfl)
      simp only [Act.put, List.setIfInBounds_toArray, List.set_cons_zero, List.set_cons_succ]
      refine wpAnyH_take (i := 1) (oi := Oper.mk (some 81) _ _ _ _ _) (v := ?_) rfl (by kernel_rfl) (by kernel_rfl) (by kernel_rfl) (fun _ _ _ h => h) (Or.inl ⟨by rfl, ?_⟩) (by assumption) ?_
      rotate_left
      · intro w0 hSw
        clear hSw
        go_simp
        all_goals (with_reducible rfl)
      simp only [Act.put, List.setIfInBounds_toArray, List.set_cons_zero, List.set_cons_succ]
      refine wpAnyH_take (i := 2) (oi := Oper.mk (some 82) _ _ _ _ _) (v := ?_) rfl (by kernel_rfl) (by kernel_rfl) (by kernel_rfl) (fun _ _ _ h => h) (Or.inl ⟨by rfl, ?_⟩) (by assumption) ?_
      rotate_left
      · intro w0 hSw
        clear hSw
        go_simp
        all_goals (with_reducible rfl)
      simp only [Act.put, List.setIfInBounds_toArray, List.set_cons_zero, List.set_cons_succ]
      refine wpAnyH_take (i := 3) (oi := Oper.mk (some 83) _ _ _ _ _) (v := ?_) rfl (by kernel_rfl) (by kernel_rfl) (by kernel_rfl) (fun _ _ _ h => h) (Or.inl ⟨by rfl, ?_⟩) (by assumption) ?_
      rotate_left
      · intro w0 hSw
        clear hSw
        go_simp
        all_goals (with_reducible rfl)
      simp only [Act.put, List.setIfInBounds_toArray, List.set_cons_zero, List.set_cons_succ]
      refine wpAnyH_take (i := 4) (oi := Oper.mk (some 84) _ _ _ _ _) (v := ?_) rfl (by kernel_rfl) (by kernel_rfl) (by kernel_rfl) (fun _ _ _ h => h) (Or.inl ⟨by rfl, ?_⟩) (by assumption) ?_
      rotate_left
      · intro w0 hSw
        clear hSw
        go_simp
        all_goals (with_reducible rfl)
      simp only [Act.put, List.setIfInBounds_toArray, List.set_cons_zero, List.set_cons_succ]
      refine wpAnyH_take (i := 5) (oi := Oper.mk (some 85) _ _ _ _ _) (v := ?_) rfl (by kernel_rfl) (by kernel_rfl) (by kernel_rfl) (fun _ _ _ h => h) (Or.inl ⟨by rfl, ?_⟩) (by assumption) ?_
      rotate_left
      · intro w0 hSw
        have z0 : w0.cell? ⟨b, i * 9 + 7, none⟩ = some ((.string (Pl.bs (Pl.mark (k + 9 * i + 7))) : Value)) := (Below.cell hSw (p := ⟨b, i * 9 + 7, none⟩) HGb.out).trans q7
        clear hSw
        go_simp
        all_goals (with_reducible rfl)
      simp only [Act.put, List.setIfInBounds_toArray, List.set_cons_zero, List.set_cons_succ]
      refine wpAnyH_take (i := 6) (oi := Oper.mk (some 86) _ _ _ _ _) (v := ?_) rfl (by kernel_rfl) (by kernel_rfl) (by kernel_rfl) (fun _ _ _ h => h) (Or.inl ⟨by rfl, ?_⟩) (by assumption) ?_
      rotate_left
      · intro w0 hSw
        clear hSw
        go_simp
        all_goals (with_reducible rfl)
      simp only [Act.put, List.setIfInBounds_toArray, List.set_cons_zero, List.set_cons_succ]
      refine wpAnyH_ready (rs := [7]) (by kernel_rfl) (by simp) ?_
      refine AllReadyH.cons (o := Oper.mk (some 87) _ _ _ _ _) rfl (fun K hK => ?_) AllReadyH.nil
      go_simp
      go_at_call 35
      refine (markText_at _ (k + 9 * i + 7) (by have := HZ.out; omega) (by omega) (by omega) _).mono ?_
      rintro x1 Y1 ⟨rfl, hB0⟩
      have hHeld' := Below.trans hHeld (hB0.mono hHeld.size)
      clear hB0 hHeld
      go_wp2_with fail
      refine hK.out _ _ hHeld' (fun hHeld => ?_)
      clear hK K hHeld'
      (try simp only [Act.put, List.setIfInBounds_toArray, List.set_cons_zero, List.set_cons_succ])
      refine wpAnyH_take (i := 8) (oi := Oper.mk (some 88) _ _ _ _ _) (v := ?_) rfl (by kernel_rfl) (by kernel_rfl) (by kernel_rfl) (fun _ _ _ h => h) (Or.inl ⟨by rfl, ?_⟩) (by assumption) ?_
      rotate_left
      · intro w0 hSw
        clear hSw
        go_simp
        all_goals (with_reducible rfl)
      simp only [Act.put, List.setIfInBounds_toArray, List.set_cons_zero, List.set_cons_succ]
      refine wpAnyH_done (by kernel_rfl) ?_ _
      refine NoPanic.normal ?_
      replace q0 : Y1.cell? ⟨b, i * 9, none⟩ = some (.int .i64 z : Value) := (Below.cell hHeld (p := ⟨b, i * 9, none⟩) HGb.out).trans q0
      replace q1 : Y1.cell? ⟨b, i * 9 + 1, none⟩ = some (.int .i64 (z + 1) : Value) := (Below.cell hHeld (p := ⟨b, i * 9 + 1, none⟩) HGb.out).trans q1
      replace q2 : Y1.cell? ⟨b, i * 9 + 2, none⟩ = some (.int .i64 (z + 1 + 1) : Value) := (Below.cell hHeld (p := ⟨b, i * 9 + 2, none⟩) HGb.out).trans q2
      replace q3 : Y1.cell? ⟨b, i * 9 + 3, none⟩ = some (.string (Pl.bs (Pl.mark (k + 9 * i + 3))) : Value) := (Below.cell hHeld (p := ⟨b, i * 9 + 3, none⟩) HGb.out).trans q3
      replace q4 : Y1.cell? ⟨b, i * 9 + 4, none⟩ = some (.bool ((z + 1 + 1 + 1 + 1) % 3 == 0) : Value) := (Below.cell hHeld (p := ⟨b, i * 9 + 4, none⟩) HGb.out).trans q4
      replace q5 : Y1.cell? ⟨b, i * 9 + 5, none⟩ = some (.int .i64 (z + 1 + 1 + 1 + 1 + 1) : Value) := (Below.cell hHeld (p := ⟨b, i * 9 + 5, none⟩) HGb.out).trans q5
      replace q6 : Y1.cell? ⟨b, i * 9 + 6, none⟩ = some (.int .i64 (z + 1 + 1 + 1 + 1 + 1 + 1) : Value) := (Below.cell hHeld (p := ⟨b, i * 9 + 6, none⟩) HGb.out).trans q6
      replace q7 : Y1.cell? ⟨b, i * 9 + 7, none⟩ = some (.string (Pl.bs (Pl.mark (k + 9 * i + 7))) : Value) := (Below.cell hHeld (p := ⟨b, i * 9 + 7, none⟩) HGb.out).trans q7
      replace q8 : Y1.cell? ⟨b, i * 9 + 8, none⟩ = some (.int .i64 (z + 1 + 1 + 1 + 1 + 1 + 1 + 1 + 1) : Value) := (Below.cell hHeld (p := ⟨b, i * 9 + 8, none⟩) HGb.out).trans q8
      replace HGb : Hid (b < Y1.heap.size) := by show _ < _; have := HGb.out; have := hHeld.size; omega
      have HP2 := hide (HP1.out.trans (hHeld.mono HP1.out.size))
      clear hHeld
      go_wp2_with fail
      go_roundw
      case rel => exact ⟨i + 1, _, by omega, by go_num, rfl, hide (by have := HZ.out; omega), HP2⟩
      case measure => simp [intOf]; omega
    · have hie : i = n := by omega
      have HE : Hid (z = ((k + 9 * n : Nat) : Int)) := by rw [← hie]; exact HZ
      clear hie
      go_wp2_with fail
      go_ret
      exact ⟨by rw [← HE.out]; rfl, HB.out⟩
end Go.Proofs.YtbckbfjnifafaaaGreatDoor

/- What the law on all acts of a log wants besides: a log made anew, marked; rows of acts marked from one on. -/
namespace Go.Proofs.YtbckbfjnifafaaaGreatDoor
open Go.RowKit
set_option linter.unusedVariables false
set_option linter.unusedSimpArgs false
set_option maxHeartbeats 1600000 in
theorem toLogO_any (L : List (List UInt8)) (hN : L.length ≤ 1048576) (v : Value) (w : World) (ht : TextsAt w v L) :
    Calls Tryz.prog 9 #[logV v] w fun e w' => (∃ g, e = .returned (logV (.slice (some ⟨g, 0, none⟩) L.length L.length)) ∧ w.heap.size ≤ g ∧ g < w'.heap.size ∧ TextsAt w' (.slice (some ⟨g, 0, none⟩) L.length L.length) L ∧ ∃ C : Array Value, w'.heap[g]? = some (.cells C 9 (0, 0)) ∧ C.size = L.length) ∧ Below w.heap.size w w' := by
  have hb0 : ∀ O A B, Below w.heap.size w (((w.alloc O).alloc A).alloc B) := fun O A B => (((Below.refl _ _).alloc (Nat.le_refl _) O).alloc (by simp) A).alloc (by simp; omega) B
  have hs := hide (fun O A B => toStringS_any L hN v (((w.alloc O).alloc A).alloc B) (ht.later (hb0 O A B)))
  clear ht hb0
  go_enter Tryz.func9, Tryz.ntmps9
  go_wp2_with fail
  refine (hs.out _ _ _).mono ?_
  rintro e w1 ⟨rfl, hT⟩
  have hB1 := hT.2
  obtain ⟨b1, b2, HB, hsz⟩ := three_box hB1
  have hat := hT.at hN
  obtain ⟨C, hC1, hC2, _⟩ := hT.1
  have HC1 := hide hC1
  have HC2 := hide hC2
  have r1 := cell_of_block b1 0
  have f1 := free_of_block b1 0
  have r2 := cell_of_block b2 0
  have f2 := free_of_block b2 0
  simp only [List.getElem?_toArray, List.getElem?_cons_zero] at r1 r2
  have H1 := hide b1
  have H2 := hide b2
  have HT := hide hat
  have HBB := hide HB
  clear hT hB1 b1 b2 hat HB hs hC1 hC2
  go_wp2
  have hne : w.heap.size + 1 ≠ w.heap.size + 1 + 1 := by omega
  have hb8 : (w1.setCell ⟨w.heap.size + 1 + 1, 0, none⟩ (.slice (some ⟨w.heap.size + 1 + 1 + 1, 0, none⟩) L.length L.length)).heap[w.heap.size + 1]? = some (.cells #[.slice none 0 0] 27 (0, 0)) := (Below.heap_setCell _ _ _ _ hne).trans H1.out
  have hb9 := block_set hb8 0 (.slice (some ⟨w.heap.size + 1 + 1 + 1, 0, none⟩) L.length L.length)
  have m1 := cell_of_block hb9 0
  simp only [List.setIfInBounds_toArray, List.set_cons_zero, List.getElem?_toArray, List.getElem?_cons_zero] at m1
  refine bodyPost_ret (v := logV (.slice (some ⟨w.heap.size + 1 + 1 + 1, 0, none⟩) L.length L.length)) (by simp [results, Tryz.results9, go_sem, m1]) rfl ?_
  have hsz3 : (((w.alloc (.cells #[v] 24)).alloc (.cells #[.slice none 0 0] 27)).alloc (.cells #[.slice none 0 0] 27)).heap.size = w.heap.size + 1 + 1 + 1 := by simp
  refine ⟨⟨w.heap.size + 1 + 1 + 1, rfl, by omega, ?_, ?_, C, ?_, HC2.out⟩, (HBB.out.setCell (p := ⟨w.heap.size + 1 + 1, 0, none⟩) (by show w.heap.size ≤ w.heap.size + 1 + 1; omega) _).setCell (p := ⟨w.heap.size + 1, 0, none⟩) (by show w.heap.size ≤ w.heap.size + 1; omega) _⟩
  · have hc1 := HC1.out
    rw [hsz3] at hc1
    have := (Array.getElem?_eq_some_iff.1 hc1).1
    simpa [World.setCell] using this
  · have ht := HT.out
    rw [hsz3] at ht
    exact (ht.grown (grownBy_setCell' w1 (w.heap.size + 1 + 1) _) (fun g e h => by cases e; simp at h)).grown (grownBy_setCell' _ (w.heap.size + 1) _) (fun g e h => by cases e; simp at h; omega)
  · have hc1 := HC1.out
    rw [hsz3] at hc1
    exact (Below.heap_setCell _ _ _ _ (by simp only; omega)).trans ((Below.heap_setCell _ _ _ _ (by simp only; omega)).trans hc1)
theorem below_gb {w X Y : World} {r : Option Nat} (h : Below w.heap.size w X) (hg : X.grownBy Y r) (hr : ∀ k, r = some k → w.heap.size ≤ k) : Below w.heap.size w Y :=
  ⟨hg.os.trans h.os, hg.tape.trans h.tape, hg.output.trans h.output, Nat.le_trans h.size hg.size, fun k hk => (hg.block k (by have := h.size; omega) (fun e => by have := hr k e.symm; omega)).trans (h.block k hk)⟩
theorem own_off {w w' : World} {base T size : Nat} {v : Value} {n : Nat} {xs : List Value} {r : Option Nat} {lo : Nat} (h : w.ownsRow base T size v n xs) (hg : w.grownBy w' r) (hl : ∀ k, v.ownBlock = some k → k < lo) (hr : ∀ k, r = some k → lo ≤ k) : w'.ownsRow base T size v n xs := by
  refine h.kept hg ?_
  cases hv : v.ownBlock with
  | none => exact Or.inl rfl
  | some k => exact Or.inr (fun e => by have := hl k hv; have := hr k e.symm; omega)
theorem gb_alloc {w w' : World} {O : Obj} {r : Option Nat} (h : (w.alloc O).grownBy w' r) : w.grownBy w' r :=
  ⟨h.os, h.tape, h.output, by have := h.size; simp at this; omega, fun k hk hne => (h.block k (by simp; omega) hne).trans (((Below.refl _ w).alloc (Nat.le_refl _) O).block k hk)⟩
set_option maxHeartbeats 800000 in
theorem markStrings_g (n g : Nat) (hn : n ≤ 1048576) (w : World) (C : Array Value) (h0 : w.heap[g]? = some (.cells C 9 (0, 0))) (h1 : C.size = n) :
    Calls Tryz.prog 34 #[.slice (some ⟨g, 0, none⟩) n n, .int .i64 1] w fun e w' => (∃ kz : Int, e = .returned (.int .i64 kz) ∧ ¬ kz < 0) ∧ w.grownBy w' (some g) := by
  have H0 := hide h0
  have H1 := hide h1
  clear h0 h1
  go_enter Tryz.func34, Tryz.ntmps34
  go_wp2_with fail
  go_loopw [1, 5] (fun kv iv wr => ∃ k : Nat, k ≤ n ∧ iv = .int .i64 k ∧ kv = .int .i64 (1 + k) ∧ Hid (∃ C, wr.heap[g]? = some (.cells C 9 (0, 0)) ∧ C.size = n) ∧ Hid (w.grownBy wr (some g))) (fun _ iv _ => n - (intOf iv).toNat)
  case atStart => exact ⟨0, by omega, rfl, by simp, ⟨C, H0.out, H1.out⟩, gb_refl _ _⟩
  case round =>
    obtain ⟨k, hk, rfl, rfl, HR, HG⟩ := hrel
    by_cases hlt : k < n
    · have hki : (k : Int) < (n : Int) := by omega
      go_wp2_with fail
      refine (markText_at _ (1 + k) (by omega) (by omega) (by omega) _).mono ?_
      rintro e w1 ⟨rfl, hB1⟩
      obtain ⟨D, d0, d1⟩ := HR.out
      have hb1 := (hB1.block g (Array.getElem?_eq_some_iff.1 d0).1).trans d0
      obtain ⟨u, hu⟩ := cell_in (j := k) hb1 (by omega)
      have hf := free_of_block hb1 k
      have HG1 := hide (gb_later HG.out hB1)
      have HN : Hid (∀ v, ∃ C, (w1.setCell ⟨g, k, none⟩ v).heap[g]? = some (.cells C 9 (0, 0)) ∧ C.size = n) := fun v => ⟨_, block_set hb1 k v, by simpa using d1⟩
      clear hB1 hb1 d0 d1 HR
      go_wp2
      go_roundw
      case rel => exact ⟨k + 1, by omega, by go_num, by go_num, HN.out _, gb_set HG1.out⟩
      case measure => simp [intOf]; omega
    · have hkn : k = n := by omega
      go_wp2
      go_ret
      exact ⟨⟨_, rfl, by omega⟩, HG.out⟩
set_option maxHeartbeats 800000 in
theorem markLog_any (n g : Nat) (hn : n ≤ 1048576) (w : World) (h : ∃ C : Array Value, w.heap[g]? = some (.cells C 9 (0, 0)) ∧ C.size = n) :
    Calls Tryz.prog 15 #[logV (.slice (some ⟨g, 0, none⟩) n n), .int .i64 1] w fun e w' => (∃ kz : Int, e = .returned (.int .i64 kz) ∧ ¬ kz < 0) ∧ w.grownBy w' (some g) := by
  obtain ⟨C, h0, h1⟩ := h
  have hs := hide (fun O => markStrings_g n g hn (w.alloc O) C ((((Below.refl _ w).alloc (Nat.le_refl _) O).block g (Array.getElem?_eq_some_iff.1 h0).1).trans h0) h1)
  clear h0 h1
  go_enter Tryz.func15, Tryz.ntmps15
  go_wp2_with fail
  refine (hs.out _).mono ?_
  rintro e w1 ⟨⟨kz, rfl, hk⟩, hg⟩
  have HG := hide (gb_alloc hg)
  clear hg hs
  go_wp2
  go_ret
  exact ⟨⟨_, rfl, hk⟩, HG.out⟩
theorem mark1_acs (n : Nat) (hn : n ≤ 1048576) (a : Option Addr) (c : Nat) (hnc : n ≤ c) (hcm : c ≤ maxLen) (mz : Int) (hm : mz = ((1 + 9 * n : Nat) : Int)) (w : World) (hr : RowM 45 9 mkAcs 1 a n 0 w) :
    Calls Tryz.prog 16 #[.slice a n c, .int .i64 1] w fun x w' => x = .returned (.int .i64 mz) ∧ RowM 45 9 mkAcs 1 a n n w' ∧ w.grownBy w' (Value.slice a n c).ownBlock := by
  rw [hm]; exact markAcs_any n a c 1 (by omega) (by omega) hnc hcm w hr
theorem held1_acs (n : Nat) (hn : n ≤ 1048576) (a : Option Addr) (c : Nat) (hnc : n ≤ c) (hcm : c ≤ maxLen) (mz : Int) (hm : mz = ((1 + 9 * n : Nat) : Int)) (w : World) (hr : RowM 45 9 mkAcs 1 a n n w) :
    Calls Tryz.prog 17 #[.slice a n c, .int .i64 1] w fun x w' => x = .returned (.int .i64 mz) ∧ Below w.heap.size w w' := by
  rw [hm]; exact heldAcs_any n a c 1 (by omega) (by omega) hnc hcm w hr
theorem eqOwnA_any (L : List Pl.Ac) (hN : L.length ≤ 1048576) (va vb : Value) (ba bb : Nat) (w : World) (ha : w.ownsRow ba 45 9 va L.length (L.flatMap acL)) (hb : w.ownsRow bb 45 9 vb L.length (L.flatMap acL)) :
    Calls Tryz.prog 14 #[va, vb] w fun x w' => x = .returned (.bool true) ∧ Below w.heap.size w w' := by
  obtain ⟨aa, ca, hva⟩ := ownsRow_form ha
  obtain ⟨ab, cb, hvb⟩ := ownsRow_form hb
  subst hva hvb
  exact eqActS_any L hN _ _ w (AcRow.of_own ha) (AcRow.of_own hb)
end Go.Proofs.YtbckbfjnifafaaaGreatDoor

/- A ring of pieces: a piece is put behind all others. -/
namespace Go.Proofs.YtbckbfjnifafaaaGreatDoor
open Go.RowKit
set_option linter.unusedVariables false
set_option linter.unusedSimpArgs false
abbrev pt (b : Nat) : Value := .pointer (some ⟨b, 0, none⟩)
/-- a piece lies in this block -/
abbrev PcAt (W : World) (b : Nat) (t : ByteArray) (nx bk : Nat) : Prop := W.heap[b]? = some (.cells #[.string t, pt nx, pt bk] 68 (0, 0))
/-- the ring's own block -/
abbrev RnAt (W : World) (R : Nat) (f : Value) (n : Nat) : Prop := W.heap[R]? = some (.cells #[f, .int .i64 (n : Int)] 71 (0, 0))
/-- all but these blocks are as they were -/
structure Upd (l : List Nat) (W W' : World) : Prop where
  os : W'.os = W.os
  tape : W'.tape = W.tape
  output : W'.output = W.output
  size : W.heap.size ≤ W'.heap.size
  block : ∀ k, k < W.heap.size → k ∉ l → W'.heap[k]? = W.heap[k]?
theorem Upd.refl (l : List Nat) (W : World) : Upd l W W := ⟨rfl, rfl, rfl, Nat.le_refl _, fun _ _ _ => rfl⟩
theorem Upd.set {l : List Nat} {W X : World} {b i : Nat} {v : Value} (h : Upd l W X) (hb : b ∈ l) : Upd l W (X.setCell ⟨b, i, none⟩ v) :=
  ⟨h.os, h.tape, h.output, by have := h.size; simp [World.setCell]; exact this, fun k hk hne => (Below.heap_setCell _ _ _ _ (by simp only; intro e; exact hne (by rw [e]; exact hb))).trans (h.block k hk hne)⟩
theorem Upd.alloc {l : List Nat} {W X : World} (h : Upd l W X) (O : Obj) : Upd l W (X.alloc O) :=
  ⟨h.os, h.tape, h.output, by have := h.size; simp; omega, fun k hk hne => (((Below.refl _ X).alloc (Nat.le_refl _) O).block k (Nat.lt_of_lt_of_le hk h.size)).trans (h.block k hk hne)⟩
theorem ring_ne {W : World} {R B : Nat} {f : Value} {n : Nat} {t : ByteArray} {x y : Nat} (hr : RnAt W R f n) (hb : PcAt W B t x y) : R ≠ B := by
  intro e
  subst e
  have h := (show W.heap[R]? = _ from hr).symm.trans hb
  simp at h
theorem end_new {Y : World} {n : Nat} (hn : Y.heap.size = n) (c : Array Value) (T : TypeId) : ((Y.alloc (.cells c T)).drew.drew).heap[n]? = some (.cells c T (0, 0)) := by
  subst hn
  exact World.alloc_heap_new Y _
theorem end_old {Y : World} {O o : Obj} {k : Nat} (h : Y.heap[k]? = some o) : ((Y.alloc O).drew.drew).heap[k]? = some o :=
  (((Below.refl _ Y).alloc (Nat.le_refl _) O).block k (Array.getElem?_eq_some_iff.1 h).1).trans h
theorem end_upd {l : List Nat} {W Y : World} {O : Obj} (h : Upd l W Y) : Upd l W ((Y.alloc O).drew.drew) := by
  have := h.alloc O
  exact ⟨this.os, this.tape, this.output, this.size, this.block⟩
theorem end_size {Y : World} {O : Obj} {n : Nat} (h : Y.heap.size = n) : ((Y.alloc O).drew.drew).heap.size = n + 1 := by
  show (Y.alloc O).heap.size = _
  rw [World.size_alloc, h]
theorem set_size (X : World) (b i : Nat) (v : Value) : (X.setCell ⟨b, i, none⟩ v).heap.size = X.heap.size := by simp [World.setCell]
theorem set_other {X : World} {b c i : Nat} {v : Value} {o : Obj} (h : X.heap[c]? = some o) (hne : b ≠ c) : (X.setCell ⟨b, i, none⟩ v).heap[c]? = some o := (Below.heap_setCell _ _ _ _ (by simp only; exact fun e => hne e.symm)).trans h
set_option maxRecDepth 100000 in
set_option maxHeartbeats 3200000 in
theorem push_nil (R : Nat) (s : ByteArray) (W : World) (hr : RnAt W R (.pointer none) 0) :
    Calls Tryz.prog 62 #[pt R, .string s] W fun e W' => e = .returned (.tuple #[]) ∧ RnAt W' R (pt W.heap.size) 1 ∧ PcAt W' W.heap.size s W.heap.size W.heap.size ∧ Upd [R] W W' ∧ W'.heap.size = W.heap.size + 1 := by
  have hRl : R < W.heap.size := (Array.getElem?_eq_some_iff.1 hr).1
  have c0 := cell_of_block hr 0
  have c1 := cell_of_block hr 1
  simp only [List.getElem?_toArray, List.getElem?_cons_zero, List.getElem?_cons_succ] at c0 c1
  have f0 := free_of_block hr 0
  have f1 := free_of_block hr 1
  go_enter Tryz.func62, Tryz.ntmps62
  go_wp2_with fail
  go_region
  go_wp2_with fail
  go_region
  go_wp2_with fail
  refine bodyPost_end (results_none rfl _ _ _) rfl ?_
  exact ⟨rfl, end_old (block_set (block_set hr 0 _) 1 _), end_new (by simp only [set_size]) _ _, end_upd (((Upd.refl _ _).set (by simp)).set (by simp)), end_size (by simp only [set_size])⟩
set_option maxRecDepth 100000 in
set_option maxHeartbeats 3200000 in
theorem push_one (R B : Nat) (s t : ByteArray) (W : World) (hr : RnAt W R (pt B) 1) (hb : PcAt W B t B B) :
    Calls Tryz.prog 62 #[pt R, .string s] W fun e W' => e = .returned (.tuple #[]) ∧ RnAt W' R (pt B) 2 ∧ PcAt W' W.heap.size s B B ∧ PcAt W' B t W.heap.size W.heap.size ∧ Upd [R, B] W W' ∧ W'.heap.size = W.heap.size + 1 := by
  have hRl : R < W.heap.size := (Array.getElem?_eq_some_iff.1 hr).1
  have hBl : B < W.heap.size := (Array.getElem?_eq_some_iff.1 hb).1
  have hRB := ring_ne hr hb
  have c0 := cell_of_block hr 0
  have c1 := cell_of_block hr 1
  have d0 := cell_of_block hb 0
  have d1 := cell_of_block hb 1
  have d2 := cell_of_block hb 2
  simp only [List.getElem?_toArray, List.getElem?_cons_zero, List.getElem?_cons_succ] at c0 c1 d0 d1 d2
  have f0 := free_of_block hr 0
  have f1 := free_of_block hr 1
  have g0 := free_of_block hb 0
  have g1 := free_of_block hb 1
  have g2 := free_of_block hb 2
  go_enter Tryz.func62, Tryz.ntmps62
  go_wp2_with fail
  go_region
  go_wp2_with fail
  go_region
  go_wp2_with fail
  refine bodyPost_end (results_none rfl _ _ _) rfl ?_
  exact ⟨rfl, end_old (block_set (set_other (set_other hr hRB.symm) hRB.symm) 1 _), end_new (by simp only [set_size]) _ _, end_old (set_other (block_set (block_set hb 1 _) 2 _) hRB), end_upd ((((Upd.refl _ _).set (by simp)).set (by simp)).set (by simp)), end_size (by simp only [set_size])⟩
set_option maxRecDepth 100000 in
set_option maxHeartbeats 3200000 in
theorem push_more (R B E n x y : Nat) (hn : 2 ≤ n) (hn2 : n ≤ 1000) (s t u : ByteArray) (W : World) (hr : RnAt W R (pt B) n) (hb : PcAt W B t x E) (he : PcAt W E u B y) (hBE : B ≠ E) :
    Calls Tryz.prog 62 #[pt R, .string s] W fun e W' => e = .returned (.tuple #[]) ∧ RnAt W' R (pt B) (n + 1) ∧ PcAt W' W.heap.size s B E ∧ PcAt W' B t x W.heap.size ∧ PcAt W' E u W.heap.size y ∧ Upd [R, B, E] W W' ∧ W'.heap.size = W.heap.size + 1 := by
  have hRl : R < W.heap.size := (Array.getElem?_eq_some_iff.1 hr).1
  have hBl : B < W.heap.size := (Array.getElem?_eq_some_iff.1 hb).1
  have hEl : E < W.heap.size := (Array.getElem?_eq_some_iff.1 he).1
  have hRB := ring_ne hr hb
  have hRE := ring_ne hr he
  have hn0 : ((n : Int) == 0) = false := beq_eq_false_iff_ne.2 (by omega)
  have c0 := cell_of_block hr 0
  have c1 := cell_of_block hr 1
  have d0 := cell_of_block hb 0
  have d1 := cell_of_block hb 1
  have d2 := cell_of_block hb 2
  have e0 := cell_of_block he 0
  have e1 := cell_of_block he 1
  have e2 := cell_of_block he 2
  simp only [List.getElem?_toArray, List.getElem?_cons_zero, List.getElem?_cons_succ] at c0 c1 d0 d1 d2 e0 e1 e2
  have f0 := free_of_block hr 0
  have f1 := free_of_block hr 1
  have g0 := free_of_block hb 0
  have g1 := free_of_block hb 1
  have g2 := free_of_block hb 2
  have h0 := free_of_block he 0
  have h1 := free_of_block he 1
  have h2 := free_of_block he 2
  go_enter Tryz.func62, Tryz.ntmps62
  go_wp2_with fail
  go_region
  go_wp2_with fail
  go_region
  go_wp2_with fail
  refine bodyPost_end (results_none rfl _ _ _) rfl ?_
  exact ⟨rfl, end_old (block_set (set_other (set_other hr hRE.symm) hRB.symm) 1 _), end_new (by simp only [set_size]) _ _, end_old (set_other (block_set (set_other hb hBE.symm) 2 _) hRB), end_old (set_other (set_other (block_set he 1 _) hBE) hRE), end_upd ((((Upd.refl _ _).set (by simp)).set (by simp)).set (by simp)), end_size (by simp only [set_size])⟩
end Go.Proofs.YtbckbfjnifafaaaGreatDoor

/- The ring that holds these texts, in their order; a text is put behind them. -/
namespace Go.Proofs.YtbckbfjnifafaaaGreatDoor
open Go.RowKit
set_option linter.unusedVariables false
set_option linter.unusedSimpArgs false
/-- the texts lie in a circle of pieces: the i-th in block f i -/
structure RingAt (n0 R : Nat) (L : List (List UInt8)) (f : Nat → Nat) (W : World) : Prop where
  inj : ∀ i j, i < L.length → j < L.length → f i = f j → i = j
  lie : ∀ i, i < L.length → n0 ≤ f i
  top : n0 ≤ R
  ring : RnAt W R (if L.length = 0 then .pointer none else pt (f 0)) L.length
  piece : ∀ i, i < L.length → PcAt W (f i) (Pl.bs (L[i]?.getD [])) (if i + 1 = L.length then f 0 else f (i + 1)) (if i = 0 then f (L.length - 1) else f (i - 1))
theorem Upd.below {l : List Nat} {n0 : Nat} {W X : World} (h : Upd l W X) (hl : ∀ k ∈ l, n0 ≤ k) (hn : n0 ≤ W.heap.size) : Below n0 W X :=
  ⟨h.os, h.tape, h.output, h.size, fun k hk => h.block k (by omega) (fun e => by have := hl k e; omega)⟩
theorem RingAt.later {n0 R : Nat} {L : List (List UInt8)} {f : Nat → Nat} {W X : World} (h : RingAt n0 R L f W) (hB : Below W.heap.size W X) : RingAt n0 R L f X :=
  ⟨h.inj, h.lie, h.top, (hB.block _ (Array.getElem?_eq_some_iff.1 h.ring).1).trans h.ring, fun i hi => (hB.block _ (Array.getElem?_eq_some_iff.1 (h.piece i hi)).1).trans (h.piece i hi)⟩
/-- a new place behind the others -/
def fnew (f : Nat → Nat) (k P : Nat) : Nat → Nat := fun i => if i = k then P else f i
theorem fnew_self (f : Nat → Nat) (k P : Nat) : fnew f k P k = P := by simp [fnew]
theorem fnew_lt (f : Nat → Nat) {k P i : Nat} (h : i < k) : fnew f k P i = f i := by simp [fnew]; omega
theorem get_app_lt (L : List (List UInt8)) (x : List UInt8) {i : Nat} (h : i < L.length) : (L ++ [x])[i]?.getD [] = L[i]?.getD [] := by rw [List.getElem?_append_left h]
theorem get_app_at (L : List (List UInt8)) (x : List UInt8) : (L ++ [x])[L.length]?.getD [] = x := by simp
set_option maxHeartbeats 800000 in
theorem push_any (n0 R : Nat) (L : List (List UInt8)) (hL : L.length ≤ 1000) (f : Nat → Nat) (x : List UInt8) (W : World) (h : RingAt n0 R L f W) (hn : n0 ≤ W.heap.size) :
    Calls Tryz.prog 62 #[pt R, .string (Pl.bs x)] W fun e W' => e = .returned (.tuple #[]) ∧ RingAt n0 R (L ++ [x]) (fnew f L.length W.heap.size) W' ∧ Below n0 W W' := by
  have hlt : ∀ i, i < L.length → f i < W.heap.size := fun i hi => (Array.getElem?_eq_some_iff.1 (h.piece i hi)).1
  have hinj : ∀ i j, i < (L ++ [x]).length → j < (L ++ [x]).length → fnew f L.length W.heap.size i = fnew f L.length W.heap.size j → i = j := by
    intro i j hi hj he
    simp only [List.length_append, List.length_cons, List.length_nil] at hi hj
    unfold fnew at he
    by_cases h1 : i = L.length
    · by_cases h2 : j = L.length
      · omega
      · rw [if_pos h1, if_neg h2] at he
        have := hlt j (by omega)
        omega
    · by_cases h2 : j = L.length
      · rw [if_neg h1, if_pos h2] at he
        have := hlt i (by omega)
        omega
      · rw [if_neg h1, if_neg h2] at he
        exact h.inj i j (by omega) (by omega) he
  have hlie : ∀ i, i < (L ++ [x]).length → n0 ≤ fnew f L.length W.heap.size i := by
    intro i hi
    simp only [List.length_append, List.length_cons, List.length_nil] at hi
    unfold fnew
    by_cases h1 : i = L.length
    · rw [if_pos h1]; exact hn
    · rw [if_neg h1]; exact h.lie i (by omega)
  have hlen : (L ++ [x]).length = L.length + 1 := by simp
  by_cases k0 : L.length = 0
  · have hr := h.ring
    rw [if_pos k0, k0] at hr
    refine (push_nil R (Pl.bs x) W hr).mono ?_
    rintro e W' ⟨rfl, hr', hp, hu, hs⟩
    refine ⟨rfl, ⟨hinj, hlie, h.top, ?_, fun i hi => ?_⟩, hu.below (fun k hk => by rw [List.mem_singleton.1 hk]; exact h.top) hn⟩
    · rw [hlen, if_neg (by omega), k0]
      simpa [fnew] using hr'
    · rw [hlen] at hi ⊢
      obtain rfl : i = 0 := by omega
      rw [k0]
      have hx := get_app_at L x
      rw [k0] at hx
      rw [hx]
      simpa [fnew] using hp
  · by_cases k1 : L.length = 1
    · have hr := h.ring
      rw [if_neg k0, k1] at hr
      have hp := h.piece 0 (by omega)
      rw [k1] at hp
      simp only [Nat.zero_add, if_true, Nat.sub_self] at hp
      refine (push_one R (f 0) (Pl.bs x) _ W hr hp).mono ?_
      rintro e W' ⟨rfl, hr', hp', hb', hu, hs⟩
      refine ⟨rfl, ⟨hinj, hlie, h.top, ?_, fun i hi => ?_⟩, hu.below (fun k hk => ?_) hn⟩
      · rw [hlen, if_neg (by omega), k1, fnew_lt f (by omega)]
        exact hr'
      · rw [hlen, k1] at hi ⊢
        by_cases hi0 : i = 0
        · subst hi0
          rw [get_app_lt L x (by omega), fnew_lt f (by omega)]
          simpa [fnew] using hb'
        · obtain rfl : i = 1 := by omega
          have hx := get_app_at L x
          rw [k1] at hx
          rw [hx]
          simpa [fnew] using hp'
      · simp only [List.mem_cons, List.not_mem_nil, or_false] at hk
        rcases hk with rfl | rfl
        · exact h.top
        · exact h.lie 0 (by omega)
    · have hr := h.ring
      rw [if_neg k0] at hr
      have hb := h.piece 0 (by omega)
      have he := h.piece (L.length - 1) (by omega)
      rw [if_neg (by omega), if_pos rfl] at hb
      rw [if_pos (by omega), if_neg (by omega)] at he
      have hBE : f 0 ≠ f (L.length - 1) := fun e => by have := h.inj _ _ (by omega) (by omega) e; omega
      refine (push_more R (f 0) (f (L.length - 1)) L.length _ _ (by omega) (by omega) (Pl.bs x) _ _ W hr hb he hBE).mono ?_
      rintro e W' ⟨rfl, hr', hp', hb', he', hu, hs⟩
      refine ⟨rfl, ⟨hinj, hlie, h.top, ?_, fun i hi => ?_⟩, hu.below (fun k hk => ?_) hn⟩
      · rw [hlen, if_neg (by omega), fnew_lt f (by omega)]
        exact hr'
      · rw [hlen] at hi ⊢
        by_cases hk : i = L.length
        · subst hk
          rw [get_app_at, fnew_self, if_pos rfl, if_neg (by omega), fnew_lt f (by omega), fnew_lt f (by omega)]
          exact hp'
        · rw [get_app_lt L x (by omega), fnew_lt f (i := i) (by omega), if_neg (by omega)]
          by_cases hi0 : i = 0
          · subst hi0
            rw [if_pos rfl, fnew_lt f (i := 0 + 1) (by omega), show L.length + 1 - 1 = L.length by omega, fnew_self]
            exact hb'
          · rw [if_neg hi0, fnew_lt f (i := i - 1) (by omega)]
            by_cases hie : i = L.length - 1
            · subst hie
              rw [show L.length - 1 + 1 = L.length by omega, fnew_self]
              exact he'
            · rw [fnew_lt f (i := i + 1) (by omega)]
              have hpi := h.piece i (by omega)
              rw [if_neg (by omega), if_neg hi0] at hpi
              refine (hu.block _ (hlt i (by omega)) (fun hk2 => ?_)).trans hpi
              simp only [List.mem_cons, List.not_mem_nil, or_false] at hk2
              rcases hk2 with e | e | e
              · exact ring_ne hr hpi e.symm
              · have := h.inj _ _ (by omega) (by omega) e; omega
              · have := h.inj _ _ (by omega) (by omega) e; omega
      · simp only [List.mem_cons, List.not_mem_nil, or_false] at hk
        rcases hk with rfl | rfl | rfl
        · exact h.top
        · exact h.lie 0 (by omega)
        · exact h.lie _ (by omega)
end Go.Proofs.YtbckbfjnifafaaaGreatDoor

/- The ring of a log's pieces; its last piece. -/
namespace Go.Proofs.YtbckbfjnifafaaaGreatDoor
open Go.RowKit
set_option linter.unusedVariables false
set_option linter.unusedSimpArgs false
theorem take_more (L : List (List UInt8)) (i : Nat) (h : i < L.length) : L.take (i + 1) = L.take i ++ [L[i]?.getD []] := by
  rw [List.take_add_one, List.getElem?_eq_getElem h]
  simp
set_option maxRecDepth 100000 in
set_option maxHeartbeats 1600000 in
theorem ringOf_any (L : List (List UInt8)) (hL : L.length ≤ 20) (v : Value) (w : World) (ht : TextsAt w v L) :
    Calls Tryz.prog 45 #[.agg #[v]] w fun e w' => ∃ R f, e = .returned (pt R) ∧ RingAt w.heap.size R L f w' ∧ Below w.heap.size w w' := by
  obtain ⟨ad, cap, rfl, h1, h2, hc, _⟩ := ht
  have HC := hide hc
  unfold maxLen at h2
  clear hc
  go_enter Tryz.func45, Tryz.ntmps45
  go_wp2_with fail
  go_loopw [11] (fun iv wr => ∃ (i : Nat) (f : Nat → Nat), i ≤ L.length ∧ iv = .int .i64 i ∧ Hid (RingAt w.heap.size (w.heap.size + 1) (L.take i) f wr) ∧ Hid (Below w.heap.size w wr)) (fun iv _ => L.length - (intOf iv).toNat)
  case atStart =>
    refine ⟨0, fun _ => 0, by omega, rfl, hide ⟨fun i j hi => by simp at hi, fun i hi => by simp at hi, by omega, ?_, fun i hi => by simp at hi⟩, hide (((Below.refl _ _).alloc (Nat.le_refl _) _).alloc (by simp) _)⟩
    have h := World.alloc_heap_new (w.alloc (.cells #[.slice ad L.length cap] 27)) (.cells #[.pointer none, .int .i64 0] 71)
    rw [World.size_alloc] at h
    exact h
  case round =>
    obtain ⟨i, f, hi, rfl, HR, HB⟩ := hrel
    by_cases hlt : i < L.length
    · obtain ⟨g, off, rfl, hg, hs⟩ := HC.out (by omega)
      have c1 := (HB.out.cell (p := ⟨g, off + i, none⟩) hg).trans (hs i hlt)
      have HT := hide (take_more L i hlt)
      have htl : (L.take i).length ≤ 1000 := by rw [List.length_take]; omega
      have hpu := hide (push_any w.heap.size (w.heap.size + 1) (L.take i) htl f (L[i]?.getD []) wr HR.out HB.out.size)
      clear hs HR htl
      generalize L[i]?.getD [] = X at *
      generalize hT0 : L.take i = T at *
      have hii : (i : Int) < (L.length : Int) := by omega
      clear hT0
      go_wp2_with fail
      refine hpu.out.mono ?_
      rintro e w1 ⟨rfl, hr, hB1⟩
      have HR1 := hide hr
      have HB1 := hide (HB.out.trans hB1)
      clear hr hB1 hpu
      go_wp2_with fail
      go_roundw
      case rel => exact ⟨i + 1, _, by omega, by go_num, by rw [HT.out]; exact HR1, HB1⟩
      case measure => simp [intOf]; omega
    · have hie : i = L.length := by omega
      have HR1 : Hid (RingAt w.heap.size (w.heap.size + 1) L f wr) := by
        have := HR.out
        rw [hie, List.take_length] at this
        exact this
      clear hie HR
      go_wp2_with fail
      go_ret
      exact ⟨_, f, rfl, HR1.out, HB.out⟩
set_option maxHeartbeats 800000 in
theorem last_any (n0 R : Nat) (L : List (List UInt8)) (f : Nat → Nat) (h1 : 1 ≤ L.length) (W : World) (h : RingAt n0 R L f W) :
    Calls Tryz.prog 46 #[pt R] W fun e W' => e = .returned (pt (f (L.length - 1))) ∧ W' = W := by
  have hr := h.ring
  rw [if_neg (by omega)] at hr
  have hp := h.piece 0 (by omega)
  rw [if_pos (rfl : (0 : Nat) = 0)] at hp
  have c0 := cell_of_block hr 0
  have d2 := cell_of_block hp 2
  simp only [List.getElem?_toArray, List.getElem?_cons_zero, List.getElem?_cons_succ] at c0 d2
  clear hr hp h
  go_enter Tryz.func46, Tryz.ntmps46
  go_wp2
  go_ret
  exact ⟨rfl, rfl⟩
end Go.Proofs.YtbckbfjnifafaaaGreatDoor

/- The texts that a ring holds, as a log in new memory. -/
namespace Go.Proofs.YtbckbfjnifafaaaGreatDoor
open Go.RowKit
set_option linter.unusedVariables false
set_option linter.unusedSimpArgs false
theorem step_app1 {ops : Array Oper} {o : Oper} {a : Act} {W : World} {K : Act → World → Prop} {Q : Exit → Act → World → Prop} {E : Prop} (hg : o.guard = none) (s x : Operand)
    (hop : o.op = Op.call { callee := Callee.builtin Builtin.append, args := #[s, x], argTypes := #[22, 22] }) (hty : o.type = 22) (base : Nat) (A : List (List UInt8)) (t : List UInt8) (ad : Addr) (c : Nat)
    (hv : W.ownsRow base 9 1 (a.eval s) A.length (A.map sv)) (hx : a.eval x = .slice (some ad) 1 c) (hu : ∀ j u, [sv t][j]? = some u → W.cell? (ad.add j) = some u) (hn : A.length + 1 ≤ 4194304) (hb : base ≤ W.heap.size)
    (hK : ∀ v' w2, w2.ownsRow base 9 1 v' (A ++ [t]).length ((A ++ [t]).map sv) → W.grownBy w2 (a.eval s).ownBlock → (v'.ownBlock = (a.eval s).ownBlock ∨ v'.ownBlock = some W.heap.size) → K (a.put o.dst v') w2) :
    if Region.wanted o (yielded ops a.tmps) = true then Oper.wp Tryz.prog o a W K Q else E := by
  have hw : Region.wanted o (yielded ops a.tmps) = true := by simp [Region.wanted, hg]
  rw [if_pos hw]
  obtain ⟨i0, hi, hz0, hz1, hz2⟩ := info_parts infoStr
  obtain ⟨v', w2, hrun, hown, hgrow, _, hwhere⟩ := run_append_own_at (P := Tryz.prog) W base 22 22 9 i0 (.string ⟨#[]⟩) 1 16 Tryz.underlying22 hi hz0 hz1 hz2 rfl (by decide) (a.eval s) A.length (A.map sv) hv ad 1 c [sv t] (by simp) hu (fun u hu => by
    simp only [List.mem_singleton] at hu
    subst hu
    rfl) (by unfold maxLen; omega) (by omega) hb
  rw [← hty] at hrun
  unfold Oper.wp
  simp [execOp, hop, resolve, invoke, builtin, hty, hty ▸ hrun, hx, Result.andThen]
  exact hK _ _ (by simpa using hown) hgrow hwhere
set_option maxRecDepth 100000 in
set_option maxHeartbeats 3200000 in
theorem log_any (n0 R : Nat) (L : List (List UInt8)) (f : Nat → Nat) (h1 : 1 ≤ L.length) (hL : L.length ≤ 1000) (hz : ∀ x ∈ L, x.length ≤ 1048576) (w : World) (h : RingAt n0 R L f w) :
    Calls Tryz.prog 49 #[pt R] w fun e w' => ∃ v, e = .returned (.agg #[v]) ∧ w'.ownsRow w.heap.size 9 1 v L.length (L.map sv) ∧ Below w.heap.size w w' := by
  have hr := h.ring
  rw [if_neg (by omega)] at hr
  have c0 := cell_of_block hr 0
  have c1 := cell_of_block hr 1
  simp only [List.getElem?_toArray, List.getElem?_cons_zero, List.getElem?_cons_succ] at c0 c1
  have hRl : R < w.heap.size := (Array.getElem?_eq_some_iff.1 hr).1
  have HP := hide h.piece
  have HZ : Hid (∀ i, i < L.length → (L[i]?.getD []).length ≤ 1048576) := fun i hi => by
    rw [List.getElem?_eq_getElem hi]
    simpa using hz _ (List.getElem_mem hi)
  clear hr h hz
  go_enter Tryz.func49, Tryz.ntmps49
  go_wp2_with fail
  go_loopw [4, 13] (fun pv iv wr => ∃ (i : Nat) (v : Value), i ≤ L.length ∧ iv = .int .i64 i ∧ pv = pt (if i = L.length then f 0 else f i) ∧ Hid (Boxed wr (w.heap.size + 1) 27 v) ∧ Hid (Boxed wr w.heap.size 27 (.slice none 0 0)) ∧ Hid (wr.ownsRow w.heap.size 9 1 v (L.take i).length ((L.take i).map sv)) ∧ Hid (Below w.heap.size w wr)) (fun _ iv _ => L.length - (intOf iv).toNat)
  case atStart =>
    refine ⟨0, .slice none 0 0, by omega, rfl, by rw [if_neg (by omega)], ?_, ?_, hide ⟨rfl, .inl ⟨rfl, rfl⟩⟩, hide (((Below.refl _ _).alloc (Nat.le_refl _) _).alloc (by simp) _)⟩
    · have := Boxed.new (w.alloc (.cells #[.slice none 0 0] 27)) 27 (.slice none 0 0)
      rw [World.size_alloc] at this
      exact this
    · exact (Boxed.new w 27 (.slice none 0 0)).alloc _
  case round =>
    obtain ⟨i, v, hi, rfl, rfl, HX, HX0, HO, HB⟩ := hrel
    obtain ⟨av, cv, hav⟩ := ownsRow_form HO.out
    subst hav
    have x0 := HX.out.cell
    by_cases hlt : i < L.length
    · rw [if_neg (by omega)]
      have hp := HP.out i hlt
      have hpl : f i < w.heap.size := (Array.getElem?_eq_some_iff.1 hp).1
      have hpw := (HB.out.block _ hpl).trans hp
      have d0 := cell_of_block hpw 0
      simp only [List.getElem?_toArray, List.getElem?_cons_zero] at d0
      have hz0 := HZ.out i hlt
      have hsz := Pl.bs_size (L[i]?.getD [])
      have HPP := hide hp
      have HT := hide (take_more L i hlt)
      have hTl : (L.take i).length = i := by rw [List.length_take]; omega
      clear hp hpw
      generalize hnx : (if i + 1 = L.length then f 0 else f (i + 1)) = NX at *
      generalize hbk : (if i = 0 then f (L.length - 1) else f (i - 1)) = BK at *
      generalize L[i]?.getD [] = X at *
      generalize L.take i = T at *
      have hcl := hide (clone_any (Pl.bs X) (by omega))
      have hii : (i : Int) < (L.length : Int) := by omega
      have HNX := hide hnx
      have HTL := hide hTl
      have hTn : T.length ≤ 1000 := by omega
      clear hnx hbk hTl
      have hX : Hid (Below wr.heap.size wr wr.drew) := (Below.refl _ _).drew
      have hS1 : ∀ (w1 : World), Hid (Below wr.heap.size wr w1) → (w1.alloc (.cells #[.string (Pl.bs X)] 9)).ownsRow w.heap.size 9 1 (.slice av T.length cv) T.length (T.map sv) := fun w1 h => ownsRow_later HO.out (h.out.alloc h.out.size _)
      have hS2 : ∀ w1 : World, ∀ j u, [sv X][j]? = some u → (w1.alloc (.cells #[.string (Pl.bs X)] 9)).cell? ((⟨w1.heap.size, 0, none⟩ : Addr).add j) = some u := fun w1 => cell_one_new w1 (.string (Pl.bs X)) 9
      have HK1 : Hid (∀ w1 : World, Hid (Below wr.heap.size wr w1) → Boxed w1 (w.heap.size + 1) 27 (.slice av T.length cv)) := fun w1 hb => (hb.out.block _ HX.out.lt).trans HX.out
      have HAF : Hid (∀ w1 w2 : World, Hid (Below wr.heap.size wr w1) → (w1.alloc (.cells #[.string (Pl.bs X)] 9)).grownBy w2 (Value.slice av T.length cv).ownBlock → Boxed w2 (w.heap.size + 1) 27 (.slice av T.length cv) ∧ Boxed w2 w.heap.size 27 (.slice none 0 0) ∧ Below w.heap.size w w2 ∧ PcAt w2 (f i) (Pl.bs X) NX BK) := fun w1 w2 hb hg => by
        have hr1 := hS1 w1 hb
        have hB1 : Below w.heap.size w w1 := HB.out.trans (hb.out.mono HB.out.size)
        have hB2 : Below w.heap.size w w2 := (hB1.alloc hB1.size _).grown hg (by have := hB1.size; simp; omega) (fun k hk => (hr1.lt k hk).1)
        have q1 := (HK1.out w1 hb).alloc (.cells #[.string (Pl.bs X)] 9)
        have q0 : Boxed (w1.alloc (.cells #[.string (Pl.bs X)] 9)) w.heap.size 27 (.slice none 0 0) := Boxed.alloc (((hb.out.block _ HX0.out.lt).trans HX0.out : w1.heap[w.heap.size]? = _)) _
        exact ⟨q1.kept hg (q1.not_row (by decide) hr1), q0.kept hg (q0.not_row (by decide) hr1), hB2, (hB2.block _ hpl).trans HPP.out⟩
      have HLE : Hid (∀ w1 : World, Hid (Below wr.heap.size wr w1) → w.heap.size ≤ w1.heap.size + 1) := fun w1 hb => by have := hb.out.size; have := HB.out.size; omega
      have hfl : f i < w.heap.size + 1 := by omega
      have hfn : w.heap.size + 1 ≠ f i := by omega
      go_wp2_with fail
      go_region_law (first
        | (go_simp
           go_at_call 63
           refine (hcl.out _).mono ?_
           rintro e w1 ⟨rfl, hB1'⟩
           have hB1 : Hid (Below wr.heap.size wr w1) := hX.out.trans (hB1'.mono hX.out.size)
           have k1 := (HK1.out w1 hB1).cell
           have l1 := (HK1.out w1 hB1).lt
           clear hB1')
        | (refine step_app1 rfl (.tmp 16) (.tmp 22) rfl rfl w.heap.size T X ⟨w1.heap.size, 0, none⟩ 1 ?_ ?_ (hS2 w1) ?_ ?_ ?_
           · simpa [Act.eval, Act.put] using hS1 w1 hB1
           · simp [Act.eval, Act.put]
           · omega
           · (have := HLE.out w1 hB1; simp; omega)
           intro v2 w2 hv2 hg2 hb2
           have HV2 := hide hv2
           have hA := HAF.out w1 w2 hB1 (by simpa [Act.eval, Act.put] using hg2)
           have HA2 := hide hA
           have k2 := hA.1.cell
           have f2 := hA.1.frozen
           have l2 := hA.1.lt
           have p2 := cell_of_block hA.2.2.2 1
           obtain ⟨a2, c2, rfl⟩ := ownsRow_form hv2
           clear hv2 hg2 hb2 hA))
      all_goals
        simp only [List.getElem?_toArray, List.getElem?_cons_zero, List.getElem?_cons_succ] at p2
        go_wp2_with fail
        have hN2 := HA2.out.1.not_row (by decide) HV2.out
        refine ⟨⟨i + 1, _, by omega, rfl, by rw [HNX.out], hide (HA2.out.1.set _), hide (set_other (show w2.heap[w.heap.size]? = _ from HA2.out.2.1) (by omega)), ?_, hide (HA2.out.2.2.1.setCell (p := ⟨w.heap.size + 1, 0, none⟩) (Nat.le_succ _) _)⟩, by simp [intOf]; omega⟩
        rw [HT.out]
        have h3 := HV2.out.kept (grownBy_setCell' w2 (w.heap.size + 1) (.slice a2 (T.length + 1) c2)) (.inr hN2.symm)
        simp only [List.length_append, List.length_cons, List.length_nil] at h3 ⊢
        exact h3
    · have hie : i = L.length := by omega
      have hE : L.take i = L := by rw [hie, List.take_length]
      rw [if_pos hie]
      rw [hE] at HX HO x0
      have y0 := HX0.out.cell
      have g0 := HX0.out.frozen
      have hl0 := HX0.out.lt
      have m1 := (HX0.out.set (.slice av L.length cv)).cell
      have HF := hide (HO.out.kept (grownBy_setCell' wr w.heap.size (.slice av L.length cv)) (.inr (HX0.out.not_row (by decide) HO.out).symm))
      have HBF := hide (HB.out.setCell (p := ⟨w.heap.size, 0, none⟩) (Nat.le_refl _) (.slice av L.length cv))
      clear hE hie
      go_wp2_with fail
      refine bodyPost_ret (v := .agg #[.slice av L.length cv]) (by simp [results, Tryz.results49, go_sem, m1]) rfl ?_
      exact ⟨_, rfl, HF.out, HBF.out⟩
end Go.Proofs.YtbckbfjnifafaaaGreatDoor

/- The last piece is taken off a ring. -/
namespace Go.Proofs.YtbckbfjnifafaaaGreatDoor
open Go.RowKit
set_option linter.unusedVariables false
set_option linter.unusedSimpArgs false
set_option maxHeartbeats 800000 in
theorem last_raw (R B P n x : Nat) (t : ByteArray) (W : World) (hr : RnAt W R (pt B) n) (hp : PcAt W B t x P) :
    Calls Tryz.prog 46 #[pt R] W fun e W' => e = .returned (pt P) ∧ W' = W := by
  have c0 := cell_of_block hr 0
  have d2 := cell_of_block hp 2
  simp only [List.getElem?_toArray, List.getElem?_cons_zero, List.getElem?_cons_succ] at c0 d2
  clear hr hp
  go_enter Tryz.func46, Tryz.ntmps46
  go_wp2
  go_ret
  exact ⟨rfl, rfl⟩
theorem plain_upd {l : List Nat} {W Y : World} (h : Upd l W Y) : Upd l W Y.drew := ⟨h.os, h.tape, h.output, h.size, h.block⟩
set_option maxRecDepth 100000 in
set_option maxHeartbeats 3200000 in
theorem drop_two (R B P : Nat) (s t : ByteArray) (W : World) (hr : RnAt W R (pt B) 2) (hb : PcAt W B t P P) (hp : PcAt W P s B B) (hBP : B ≠ P) :
    Calls Tryz.prog 48 #[pt R] W fun e W' => e = .returned (.tuple #[]) ∧ RnAt W' R (pt B) 1 ∧ PcAt W' B t B B ∧ Upd [R, B] W W' := by
  have hl := hide (last_raw R B P 2 P t W hr hb)
  have hRl : R < W.heap.size := (Array.getElem?_eq_some_iff.1 hr).1
  have hBl : B < W.heap.size := (Array.getElem?_eq_some_iff.1 hb).1
  have hPl : P < W.heap.size := (Array.getElem?_eq_some_iff.1 hp).1
  have hRB := ring_ne hr hb
  have hRP := ring_ne hr hp
  have c1 := cell_of_block hr 1
  have d1 := cell_of_block hb 1
  have d2 := cell_of_block hb 2
  have e1 := cell_of_block hp 1
  have e2 := cell_of_block hp 2
  simp only [List.getElem?_toArray, List.getElem?_cons_zero, List.getElem?_cons_succ] at c1 d1 d2 e1 e2
  have f1 := free_of_block hr 1
  have g1 := free_of_block hb 1
  have g2 := free_of_block hb 2
  go_enter Tryz.func48, Tryz.ntmps48
  go_wp2_with fail
  refine hl.out.mono ?_
  rintro e w1 ⟨rfl, rfl⟩
  go_wp2_with fail
  go_region
  all_goals
    go_wp2_with fail
    refine bodyPost_end (results_none rfl _ _ _) rfl ?_
    exact ⟨rfl, block_set (set_other (set_other hr hRB.symm) hRB.symm) 1 _, set_other (block_set (block_set hb 1 _) 2 _) hRB, plain_upd ((((Upd.refl _ _).set (by simp)).set (by simp)).set (by simp))⟩
set_option maxRecDepth 100000 in
set_option maxHeartbeats 3200000 in
theorem drop_more (R B Y P n x y : Nat) (hn : 3 ≤ n) (hn2 : n ≤ 1000) (s t u : ByteArray) (W : World) (hr : RnAt W R (pt B) n) (hb : PcAt W B t x P) (hy : PcAt W Y u P y) (hp : PcAt W P s B Y) (hBP : B ≠ P) (hYP : Y ≠ P) (hBY : B ≠ Y) :
    Calls Tryz.prog 48 #[pt R] W fun e W' => e = .returned (.tuple #[]) ∧ RnAt W' R (pt B) (n - 1) ∧ PcAt W' B t x Y ∧ PcAt W' Y u B y ∧ Upd [R, B, Y] W W' := by
  have hl := hide (last_raw R B P n x t W hr hb)
  have hRl : R < W.heap.size := (Array.getElem?_eq_some_iff.1 hr).1
  have hBl : B < W.heap.size := (Array.getElem?_eq_some_iff.1 hb).1
  have hYl : Y < W.heap.size := (Array.getElem?_eq_some_iff.1 hy).1
  have hPl : P < W.heap.size := (Array.getElem?_eq_some_iff.1 hp).1
  have hRB := ring_ne hr hb
  have hRY := ring_ne hr hy
  have hRP := ring_ne hr hp
  have c1 := cell_of_block hr 1
  have d1 := cell_of_block hb 1
  have d2 := cell_of_block hb 2
  have k1 := cell_of_block hy 1
  have k2 := cell_of_block hy 2
  have e1 := cell_of_block hp 1
  have e2 := cell_of_block hp 2
  simp only [List.getElem?_toArray, List.getElem?_cons_zero, List.getElem?_cons_succ] at c1 d1 d2 e1 e2 k1 k2
  have f1 := free_of_block hr 1
  have g1 := free_of_block hb 1
  have g2 := free_of_block hb 2
  have j1 := free_of_block hy 1
  have j2 := free_of_block hy 2
  go_enter Tryz.func48, Tryz.ntmps48
  go_wp2_with fail
  refine hl.out.mono ?_
  rintro e w1 ⟨rfl, rfl⟩
  go_wp2_with fail
  go_region
  all_goals
    go_wp2_with fail
    have hn1 : ((n - 1 : Nat) : Int) = (n : Int) - 1 := by omega
    refine bodyPost_end (results_none rfl _ _ _) rfl ?_
    refine ⟨rfl, ?_, set_other (block_set (set_other hb hBY.symm) 2 _) hRB, set_other (set_other (block_set hy 1 _) hBY) hRY, plain_upd ((((Upd.refl _ _).set (by simp)).set (by simp)).set (by simp))⟩
    show _ = some (Obj.cells #[pt B, .int .i64 ((n - 1 : Nat) : Int)] 71 (0, 0))
    rw [hn1]
    exact block_set (set_other (set_other hr hRY.symm) hRB.symm) 1 _
theorem get_take (L : List (List UInt8)) {i n : Nat} (h : i < n) : (L.take n)[i]?.getD [] = L[i]?.getD [] := by rw [List.getElem?_take, if_pos h]
set_option maxHeartbeats 800000 in
theorem drop_any (n0 R : Nat) (L : List (List UInt8)) (h2 : 2 ≤ L.length) (hL : L.length ≤ 1000) (f : Nat → Nat) (W : World) (h : RingAt n0 R L f W) (hn : n0 ≤ W.heap.size) :
    Calls Tryz.prog 48 #[pt R] W fun e W' => e = .returned (.tuple #[]) ∧ RingAt n0 R (L.take (L.length - 1)) f W' ∧ Below n0 W W' := by
  have hlen : (L.take (L.length - 1)).length = L.length - 1 := by rw [List.length_take]; omega
  have hr := h.ring
  rw [if_neg (by omega)] at hr
  have hb := h.piece 0 (by omega)
  have hp := h.piece (L.length - 1) (by omega)
  rw [if_neg (by omega), if_pos rfl] at hb
  rw [if_pos (by omega), if_neg (by omega)] at hp
  have hBP : f 0 ≠ f (L.length - 1) := fun e => by have := h.inj _ _ (by omega) (by omega) e; omega
  have hinj : ∀ i j, i < (L.take (L.length - 1)).length → j < (L.take (L.length - 1)).length → f i = f j → i = j := fun i j hi hj => h.inj i j (by omega) (by omega)
  have hlie : ∀ i, i < (L.take (L.length - 1)).length → n0 ≤ f i := fun i hi => h.lie i (by omega)
  by_cases k2 : L.length = 2
  · have e1 : f (L.length - 1 - 1) = f 0 := by rw [k2]
    have e2 : f (0 + 1) = f (L.length - 1) := by rw [k2]
    rw [e2] at hb
    rw [e1] at hp
    have hr2 : RnAt W R (pt (f 0)) 2 := by rw [k2] at hr; exact hr
    refine (drop_two R (f 0) (f (L.length - 1)) _ _ W hr2 hb hp hBP).mono ?_
    rintro e W' ⟨rfl, hr', hb', hu⟩
    refine ⟨rfl, ⟨hinj, hlie, h.top, ?_, fun i hi => ?_⟩, hu.below (fun k hk => ?_) hn⟩
    · rw [hlen, if_neg (by omega), k2]
      exact hr'
    · rw [hlen] at hi ⊢
      obtain rfl : i = 0 := by omega
      rw [get_take L (by omega), if_pos (by omega), if_pos rfl, e1]
      exact hb'
    · simp only [List.mem_cons, List.not_mem_nil, or_false] at hk
      rcases hk with rfl | rfl
      · exact h.top
      · exact h.lie 0 (by omega)
  · have hy := h.piece (L.length - 1 - 1) (by omega)
    rw [if_neg (by omega), if_neg (by omega), show L.length - 1 - 1 + 1 = L.length - 1 by omega] at hy
    have hYP : f (L.length - 1 - 1) ≠ f (L.length - 1) := fun e => by have := h.inj _ _ (by omega) (by omega) e; omega
    have hBY : f 0 ≠ f (L.length - 1 - 1) := fun e => by have := h.inj _ _ (by omega) (by omega) e; omega
    refine (drop_more R (f 0) (f (L.length - 1 - 1)) (f (L.length - 1)) L.length _ _ (by omega) hL _ _ _ W hr hb hy hp hBP hYP hBY).mono ?_
    rintro e W' ⟨rfl, hr', hb', hy', hu⟩
    refine ⟨rfl, ⟨hinj, hlie, h.top, ?_, fun i hi => ?_⟩, hu.below (fun k hk => ?_) hn⟩
    · rw [hlen, if_neg (by omega)]
      exact hr'
    · rw [hlen] at hi ⊢
      rw [get_take L (by omega)]
      by_cases hi0 : i = 0
      · subst hi0
        rw [if_neg (by omega), if_pos rfl]
        exact hb'
      · rw [if_neg hi0]
        by_cases hie : i = L.length - 1 - 1
        · subst hie
          rw [if_pos (by omega)]
          exact hy'
        · rw [if_neg (by omega)]
          have hpi := h.piece i (by omega)
          rw [if_neg (by omega), if_neg hi0] at hpi
          refine (hu.block _ (Array.getElem?_eq_some_iff.1 hpi).1 (fun hk2 => ?_)).trans hpi
          simp only [List.mem_cons, List.not_mem_nil, or_false] at hk2
          rcases hk2 with e | e | e
          · exact ring_ne hr hpi e.symm
          · have := h.inj _ _ (by omega) (by omega) e; omega
          · have := h.inj _ _ (by omega) (by omega) e; omega
    · simp only [List.mem_cons, List.not_mem_nil, or_false] at hk
      rcases hk with rfl | rfl | rfl
      · exact h.top
      · exact h.lie 0 (by omega)
      · exact h.lie _ (by omega)
end Go.Proofs.YtbckbfjnifafaaaGreatDoor

/- A log without what is torn at its end, as the program has it. -/
namespace Go.Proofs.YtbckbfjnifafaaaGreatDoor
open Go.RowKit
set_option linter.unusedVariables false
set_option linter.unusedSimpArgs false
/-- the last piece is cut where its records end -/
def Pl.cutLast (E : List UInt8 → Nat) (L : List (List UInt8)) : List (List UInt8) := L.take (L.length - 1) ++ [(Pl.lastL L).take (E (Pl.lastL L))]
/-- a log that is mended -/
def Pl.mendL (E : List UInt8 → Nat) (L : List (List UInt8)) : List (List UInt8) :=
  if Pl.mends E L then (if E (Pl.lastL L) = 0 ∧ 1 < L.length then L.take (L.length - 1) else Pl.cutLast E L) else []
theorem RingAt.setLast {n0 R : Nat} {L : List (List UInt8)} {f : Nat → Nat} {W : World} (h : RingAt n0 R L f W) (h1 : 1 ≤ L.length) (x : List UInt8) : RingAt n0 R (L.take (L.length - 1) ++ [x]) f (W.setCell ⟨f (L.length - 1), 0, none⟩ (.string (Pl.bs x))) := by
  have hlen : (L.take (L.length - 1) ++ [x]).length = L.length := by rw [List.length_append, List.length_take, List.length_singleton]; omega
  have hr := h.ring
  refine ⟨by rw [hlen]; exact h.inj, by rw [hlen]; exact h.lie, h.top, ?_, fun i hi => ?_⟩
  · rw [hlen]
    rw [if_neg (by omega)] at hr ⊢
    exact set_other hr (ring_ne hr (h.piece (L.length - 1) (by omega))).symm
  · rw [hlen] at hi ⊢
    have hp := h.piece i hi
    by_cases hie : i = L.length - 1
    · subst hie
      have hx : (L.take (L.length - 1) ++ [x])[L.length - 1]?.getD [] = x := by
        rw [List.getElem?_append_right (by rw [List.length_take]; omega), List.length_take, show L.length - 1 - min (L.length - 1) L.length = 0 by omega]
        rfl
      rw [hx]
      exact block_set hp 0 _
    · have hx : (L.take (L.length - 1) ++ [x])[i]?.getD [] = L[i]?.getD [] := by
        rw [List.getElem?_append_left (by rw [List.length_take]; omega), get_take L (by omega)]
      rw [hx]
      exact set_other hp (fun e => hie (h.inj _ _ (by omega) (by omega) e.symm))
theorem own_base2 {w : World} {b b2 : Nat} {T : TypeId} {size : Nat} {v : Value} {n : Nat} {xs : List Value} (h : w.ownsRow b T size v n xs) (hb : b2 ≤ b) : w.ownsRow b2 T size v n xs := by
  refine ⟨h.1, ?_⟩
  rcases h.2 with h2 | ⟨g, cap, cur, h1, h2, h3⟩
  · exact .inl h2
  · exact .inr ⟨g, cap, cur, h1, by omega, h3⟩
theorem two_box2 {w w1 : World} {A B : Obj} (hb : Below ((w.alloc A).alloc B).heap.size ((w.alloc A).alloc B) w1) : w1.heap[w.heap.size]? = some A ∧ w1.heap[w.heap.size + 1]? = some B ∧ Below w.heap.size w w1 ∧ w.heap.size + 2 ≤ w1.heap.size := by
  have hs := hb.size
  have e1 : (w.alloc A).heap.size = w.heap.size + 1 := by simp
  have e2 : ((w.alloc A).alloc B).heap.size = w.heap.size + 1 + 1 := by simp
  refine ⟨?_, ?_, (((Below.refl _ w).alloc (Nat.le_refl _) A).alloc (by omega) B).trans (hb.mono (by omega)), by omega⟩
  · rw [hb.block _ (by omega), heap_alloc_at, if_neg (by omega), heap_alloc_at, if_pos rfl]
  · rw [hb.block _ (by omega), heap_alloc_at, if_pos (by omega)]
set_option maxRecDepth 100000 in
set_option maxHeartbeats 3200000 in
theorem implLogMend_any (E : List UInt8 → Nat) (hE : EndIs E) (L : List (List UInt8)) (hz : ∀ x ∈ L, x.length ≤ 1048576) (v : Value) (w : World) (ht : TextsAt w v L) (hG : Glob w) :
    Calls Tryz.prog 24 #[lgV v] w fun e w' => ∃ v', e = .returned (lgV v') ∧ w'.ownsRow w.heap.size 9 1 v' (Pl.mendL E L).length ((Pl.mendL E L).map sv) ∧ Below w.heap.size w w' := by
  have hb0 : ∀ O, Below w.heap.size w ((w.alloc (.cells #[v] 27)).alloc O) := fun O => ((Below.refl _ _).alloc (Nat.le_refl _) _).alloc (by simp) O
  have hm := hide (fun O => logMends_any E hE L hz v _ (ht.later (hb0 O)) (hG.later (hb0 O)))
  have HT := hide ht
  have HG := hide hG
  have HI : Hid (Pl.mendL E L = if Pl.mends E L then (if E (Pl.lastL L) = 0 ∧ 1 < L.length then L.take (L.length - 1) else Pl.cutLast E L) else []) := rfl
  clear ht hG hb0
  cases hmm : Pl.mends E L
  · rw [hmm] at hm
    have HI2 : Hid (Pl.mendL E L = []) := by show _ = _; rw [HI.out, hmm]; rfl
    clear HI HT HG hz hE
    go_enter Tryz.func24, Tryz.ntmps24
    go_wp2_with fail
    refine (hm.out _).mono ?_
    rintro e w1 ⟨rfl, hB1⟩
    obtain ⟨b1, b2, HB, hsz⟩ := two_box2 hB1
    have r2 := cell_of_block b2 0
    have f2 := free_of_block b2 0
    have b3 := block_set b2 0 (.slice none 0 0)
    have m1 := cell_of_block b3 0
    simp only [List.setIfInBounds_toArray, List.set_cons_zero, List.getElem?_toArray, List.getElem?_cons_zero] at r2 m1
    have HBB := hide (HB.setCell (p := ⟨w.heap.size + 1, 0, none⟩) (Nat.le_succ _) (.slice none 0 0))
    clear hB1 b1 b2 b3 HB hm
    go_wp2
    refine bodyPost_ret (v := lgV (.slice none 0 0)) (by simp [results, Tryz.results24, go_sem, m1]) rfl ?_
    exact ⟨_, rfl, by rw [HI2.out]; exact ⟨rfl, .inl ⟨rfl, rfl⟩⟩, HBB.out⟩
  · rw [hmm] at hm
    have hlen : 1 ≤ L.length ∧ L.length ≤ 20 := by
      unfold Pl.mends at hmm
      simp only [Bool.and_eq_true, decide_eq_true_eq] at hmm
      exact hmm.1
    obtain ⟨hl1, hl2⟩ := hlen
    have hzl : (Pl.lastL L).length ≤ 1048576 := by
      unfold Pl.lastL
      rw [List.getElem?_eq_getElem (by omega)]
      simpa using hz _ (List.getElem_mem (by omega))
    obtain ⟨xs, hR, he⟩ := hE (Pl.lastL L)
    have hle := Pl.recs_end xs _ hR
    rw [← he] at hle
    have hend := hide (fun W (hW : Below w.heap.size w W) => recordsEnd_any (Pl.lastL L) hzl xs hR W (HG.out.later hW))
    have HI2 : Hid (Pl.mendL E L = if E (Pl.lastL L) = 0 ∧ 1 < L.length then L.take (L.length - 1) else Pl.cutLast E L) := by show _ = _; rw [HI.out, hmm]; rfl
    have HZ := hide hz
    rw [← he] at hend
    clear HI hE hz hR he
    go_enter Tryz.func24, Tryz.ntmps24
    go_wp2_with fail
    refine (hm.out _).mono ?_
    rintro e w1 ⟨rfl, hB1⟩
    obtain ⟨b1, b2, HB, hsz⟩ := two_box2 hB1
    have r1 := cell_of_block b1 0
    simp only [List.getElem?_toArray, List.getElem?_cons_zero] at r1
    have HB1 := hide HB
    have HX1 := hide b2
    clear hB1 b1 b2 HB hm
    go_wp2_with fail
    refine (ringOf_any L hl2 v w1 (HT.out.later HB1.out)).mono ?_
    rintro e2 w2 ⟨R, f, rfl, hr, hB2⟩
    have HX2 := hide ((hB2.block _ (by omega)).trans HX1.out)
    have HB2 := hide (HB1.out.trans (hB2.mono HB1.out.size))
    have hn2 := hB2.size
    have HRI := hide hr
    clear hB2 HX1 HB1 r1
    go_wp2_with fail
    refine (last_any _ R L f hl1 w2 HRI.out).mono ?_
    rintro e3 w3 ⟨rfl, rfl⟩
    have hp := HRI.out.piece (L.length - 1) (by omega)
    rw [if_pos (by omega)] at hp
    have hll : L[L.length - 1]?.getD [] = Pl.lastL L := rfl
    rw [hll] at hp
    have hPl : f (L.length - 1) < w3.heap.size := (Array.getElem?_eq_some_iff.1 hp).1
    have HS := hide (fun W (h : RingAt w1.heap.size R L f W) x => h.setLast hl1 x)
    have HPB := hide (HRI.out.lie (L.length - 1) (by omega))
    have hbs := Pl.bs_size (Pl.lastL L)
    have HBd : Hid (Below w.heap.size w w3.drew) := HB2.out.drew
    have HAF : Hid (∀ w4, Below w3.heap.size w3.drew w4 → Hid (RingAt w1.heap.size R L f w4) ∧ Hid (w4.heap[w.heap.size + 1]? = some (.cells #[.slice none 0 0] 27 (0, 0))) ∧ Hid (Below w.heap.size w w4) ∧ w4.cell? ⟨f (L.length - 1), 0, none⟩ = some (.string (Pl.bs (Pl.lastL L))) ∧ w4.frozen? ⟨f (L.length - 1), 0, none⟩ = false ∧ f (L.length - 1) < w4.heap.size) := fun w4 hB => by
      have hB' : Below w3.heap.size w3 w4 := (Below.refl w3.heap.size w3).drew.trans hB
      have hp4 := (hB'.block _ hPl).trans hp
      exact ⟨HRI.out.later hB', (hB'.block _ (by omega)).trans HX2.out, HB2.out.trans (hB'.mono HB2.out.size), cell_of_block hp4 0, free_of_block hp4 0, (Array.getElem?_eq_some_iff.1 hp4).1⟩
    have d0 := cell_of_block hp 0
    simp only [List.getElem?_toArray, List.getElem?_cons_zero] at d0
    have HXL := hide hzl
    have HRP := hide (ring_ne (by have := HRI.out.ring; rw [if_neg (by omega)] at this; exact this) hp)
    generalize hX : Pl.lastL L = X at *
    generalize hP : f (L.length - 1) = P at *
    generalize hn : E X = n at *
    have HEQ := hide (And.intro hX (And.intro hP hn))
    clear hp HRI hX hP hn hll
    have hex : (Pl.bs X).extract 0 n = Pl.bs (X.take n) := Pl.extract_head _ _
    have HSW : Hid (w.heap.size + 2 ≤ w3.heap.size) := by show _ ≤ _; omega
    have hnX : n ≤ X.length := hle
    have hxm := Pl.bs_toList (X.take n)
    obtain ⟨hX, hP, hn⟩ := HEQ.out
    have hCL : Pl.cutLast E L = L.take (L.length - 1) ++ [X.take n] := by unfold Pl.cutLast; rw [hX, hn]
    have hM : Pl.mendL E L = if n = 0 ∧ 1 < L.length then L.take (L.length - 1) else L.take (L.length - 1) ++ [X.take n] := by rw [HI2.out, hCL]
    have hML := hide hM
    have hl' : (L.take (L.length - 1) ++ [X.take n]).length = L.length := by rw [List.length_append, List.length_take, List.length_singleton]; omega
    have hZ' : ∀ x ∈ L.take (L.length - 1) ++ [X.take n], x.length ≤ 1048576 := fun x hx => by
      rcases List.mem_append.1 hx with h | h
      · exact HZ.out x (List.mem_of_mem_take h)
      · rw [List.mem_singleton.1 h, List.length_take]
        have : X.length ≤ 1048576 := HXL.out
        omega
    have HZ' := hide hZ'
    have HT' : Hid ((L.take (L.length - 1) ++ [X.take n]).take ((L.take (L.length - 1) ++ [X.take n]).length - 1) = L.take (L.length - 1)) := by
      show _ = _
      rw [hl', List.take_append_of_le_length (by rw [List.length_take]; omega), List.take_take]
      congr 1
      omega
    have HZT : Hid (∀ x ∈ L.take (L.length - 1), x.length ≤ 1048576) := fun x hx => HZ.out x (List.mem_of_mem_take hx)
    have HLT : Hid ((L.take (L.length - 1)).length = L.length - 1) := by show _ = _; rw [List.length_take]; omega
    clear hX hP hn HEQ hCL hM HI2 HZ hZ' hmm
    have HS2 := hide (fun W h => HS.out W h (X.take n))
    clear HS
    have HSE : Hid ((Pl.bs (X.take n)).toList.isEmpty = decide (n = 0)) := by
      show _ = _
      rw [hxm]
      by_cases h0 : n = 0
      · rw [h0]; rfl
      · cases X with
        | nil => simp at hnX; omega
        | cons c X => cases n with
          | zero => omega
          | succ n => simp
    clear hxm
    have hRP : R ≠ P := HRP.out
    generalize hY : L.take (L.length - 1) ++ [X.take n] = Y at *
    generalize X.take n = S at *
    generalize hV : L.take (L.length - 1) = V at *
    clear hY hV
    go_wp2_with fail
    go_region_with (go_at_call 47; refine (hend.out _ HBd.out).mono ?_; rintro e4 w4 ⟨rfl, hB4⟩; have hA4 := HAF.out w4 hB4; have HA4 := hide hA4; have d4 := hA4.2.2.2.1; have f4 := hA4.2.2.2.2.1; have l4 := hA4.2.2.2.2.2; clear hA4 hB4)
    all_goals
      have HR5 := hide (HS2.out w4 HA4.out.1.out)
      have HB5 := hide (HA4.out.2.2.1.out.setCell (p := ⟨P, 0, none⟩) (by show w.heap.size ≤ P; have := HPB.out; omega) (.string (Pl.bs S)))
      have HX5 := hide (set_other (b := P) (i := 0) (v := .string (Pl.bs S)) HA4.out.2.1.out (by have := HPB.out; omega))
      have hrg := HA4.out.1.out.ring
      rw [if_neg (by omega)] at hrg
      have q1 := cell_of_block hrg 1
      simp only [List.getElem?_toArray, List.getElem?_cons_zero, List.getElem?_cons_succ] at q1
      have hnw : w1.heap.size ≤ (w4.setCell ⟨P, 0, none⟩ (.string (Pl.bs S))).heap.size := by
        have := (Array.getElem?_eq_some_iff.1 hrg).1
        have := HR5.out.top
        rw [set_size]
        omega
      have HNW := hide hnw
      clear hnw hrg
      by_cases n0 : n = 0
      · have hem : (Pl.bs S).toList.isEmpty = true := by rw [HSE.out, n0]; rfl
        by_cases k1 : 1 < L.length
        · have hk1 : (1 : Int) < (L.length : Int) := by omega
          have HMV : Hid (Pl.mendL E L = V) := by show _ = _; rw [hML.out, if_pos ⟨n0, k1⟩]
          have hdr := hide (drop_any w1.heap.size R Y (by omega) (by omega) f _ HR5.out HNW.out)
          rw [HT'.out] at hdr
          clear n0
          go_wp2_with fail
          refine hdr.out.mono ?_
          rintro e6 w6 ⟨rfl, hr6, hB6⟩
          have HR6 := hide hr6
          have HX6 := hide ((hB6.block _ (by omega)).trans HX5.out)
          have HB6 := hide (HB5.out.trans (hB6.mono (by omega)))
          have hVl := HLT.out
          clear hB6 hr6 hdr
          have hlg := hide (log_any w1.heap.size R V f (by omega) (by omega) HZT.out _ HR6.out)
          (try clear hVl)
          (try clear hl')
          have hszL := HB6.out.size
          go_wp2_with fail
          refine hlg.out.mono ?_
          rintro e7 w7 ⟨v7, rfl, ho7, hB7⟩
          obtain ⟨a7, c7, rfl⟩ := ownsRow_form ho7
          have hx7 := (hB7.block _ (Array.getElem?_eq_some_iff.1 HX6.out).1).trans HX6.out
          have r7 := cell_of_block hx7 0
          have f7 := free_of_block hx7 0
          have m7 := cell_of_block (block_set hx7 0 (.slice a7 V.length c7)) 0
          simp only [List.setIfInBounds_toArray, List.set_cons_zero, List.getElem?_toArray, List.getElem?_cons_zero] at r7 m7
          have HO7 := hide (own_base2 (ho7.kept (grownBy_setCell' w7 (w.heap.size + 1) (.slice a7 V.length c7)) (by
            cases hv : (Value.slice a7 V.length c7).ownBlock with
            | none => exact .inl rfl
            | some k => exact .inr (fun e => by injection e with e; have := (ho7.lt k hv).1; have := (Array.getElem?_eq_some_iff.1 HX6.out).1; omega))) hszL)
          have HB7 := hide ((HB6.out.trans (hB7.mono hszL)).setCell (p := ⟨w.heap.size + 1, 0, none⟩) (Nat.le_succ _) (.slice a7 V.length c7))
          clear hB7 ho7 hx7 hlg
          go_wp2
          refine bodyPost_ret (v := lgV (.slice a7 V.length c7)) (by simp [results, Tryz.results24, go_sem, m7]) rfl ?_
          exact ⟨_, rfl, by rw [HMV.out]; exact HO7.out, HB7.out⟩
        · have hk1 : ¬ (1 : Int) < (L.length : Int) := by omega
          have HMV : Hid (Pl.mendL E L = Y) := by show _ = _; rw [hML.out, if_neg (fun h => k1 h.2)]
          clear n0
          have hlg := hide (log_any w1.heap.size R Y f (by omega) (by omega) HZ'.out _ HR5.out)
          (try clear hVl)
          (try clear hl')
          have hszL := HB5.out.size
          go_wp2_with fail
          refine hlg.out.mono ?_
          rintro e7 w7 ⟨v7, rfl, ho7, hB7⟩
          obtain ⟨a7, c7, rfl⟩ := ownsRow_form ho7
          have hx7 := (hB7.block _ (Array.getElem?_eq_some_iff.1 HX5.out).1).trans HX5.out
          have r7 := cell_of_block hx7 0
          have f7 := free_of_block hx7 0
          have m7 := cell_of_block (block_set hx7 0 (.slice a7 Y.length c7)) 0
          simp only [List.setIfInBounds_toArray, List.set_cons_zero, List.getElem?_toArray, List.getElem?_cons_zero] at r7 m7
          have HO7 := hide (own_base2 (ho7.kept (grownBy_setCell' w7 (w.heap.size + 1) (.slice a7 Y.length c7)) (by
            cases hv : (Value.slice a7 Y.length c7).ownBlock with
            | none => exact .inl rfl
            | some k => exact .inr (fun e => by injection e with e; have := (ho7.lt k hv).1; have := (Array.getElem?_eq_some_iff.1 HX5.out).1; omega))) hszL)
          have HB7 := hide ((HB5.out.trans (hB7.mono hszL)).setCell (p := ⟨w.heap.size + 1, 0, none⟩) (Nat.le_succ _) (.slice a7 Y.length c7))
          clear hB7 ho7 hx7 hlg
          go_wp2
          refine bodyPost_ret (v := lgV (.slice a7 Y.length c7)) (by simp [results, Tryz.results24, go_sem, m7]) rfl ?_
          exact ⟨_, rfl, by rw [HMV.out]; exact HO7.out, HB7.out⟩
      · have hem : (Pl.bs S).toList.isEmpty = false := by rw [HSE.out, decide_eq_false n0]
        have HMV : Hid (Pl.mendL E L = Y) := by show _ = _; rw [hML.out, if_neg (fun h => n0 h.1)]
        clear n0
        have hlg := hide (log_any w1.heap.size R Y f (by omega) (by omega) HZ'.out _ HR5.out)
        (try clear hVl)
        (try clear hl')
        have hszL := HB5.out.size
        go_wp2_with fail
        refine hlg.out.mono ?_
        rintro e7 w7 ⟨v7, rfl, ho7, hB7⟩
        obtain ⟨a7, c7, rfl⟩ := ownsRow_form ho7
        have hx7 := (hB7.block _ (Array.getElem?_eq_some_iff.1 HX5.out).1).trans HX5.out
        have r7 := cell_of_block hx7 0
        have f7 := free_of_block hx7 0
        have m7 := cell_of_block (block_set hx7 0 (.slice a7 Y.length c7)) 0
        simp only [List.setIfInBounds_toArray, List.set_cons_zero, List.getElem?_toArray, List.getElem?_cons_zero] at r7 m7
        have HO7 := hide (own_base2 (ho7.kept (grownBy_setCell' w7 (w.heap.size + 1) (.slice a7 Y.length c7)) (by
          cases hv : (Value.slice a7 Y.length c7).ownBlock with
          | none => exact .inl rfl
          | some k => exact .inr (fun e => by injection e with e; have := (ho7.lt k hv).1; have := (Array.getElem?_eq_some_iff.1 HX5.out).1; omega))) hszL)
        have HB7 := hide ((HB5.out.trans (hB7.mono hszL)).setCell (p := ⟨w.heap.size + 1, 0, none⟩) (Nat.le_succ _) (.slice a7 Y.length c7))
        clear hB7 ho7 hx7 hlg
        go_wp2
        refine bodyPost_ret (v := lgV (.slice a7 Y.length c7)) (by simp [results, Tryz.results24, go_sem, m7]) rfl ?_
        exact ⟨_, rfl, by rw [HMV.out]; exact HO7.out, HB7.out⟩
end Go.Proofs.YtbckbfjnifafaaaGreatDoor

/- The pieces of a log, as the specification tests them where the last may be torn. -/
namespace Go.Proofs.YtbckbfjnifafaaaGreatDoor
open Go.RowKit
set_option linter.unusedVariables false
set_option linter.unusedSimpArgs false
set_option maxRecDepth 100000 in
set_option maxHeartbeats 6400000 in
theorem l8Pieces_false (E : List UInt8 → Nat) (hE : EndOf E) (L : List (List UInt8)) (hn : L.length ≤ 1048576) (hz : ∀ x ∈ L, x.length ≤ 1048576) (v : Value) (w : World) (ht : TextsAt w v L) :
    Calls Tryz.prog 26 #[lsV v, .bool false] w fun e w' => e = .returned (.bool (Pl.pieces E L false)) ∧ Below w.heap.size w w' := by
  obtain ⟨ad, cap, rfl, h1, h2, hc, _⟩ := ht
  have HC := hide hc
  have HZ : Hid (∀ i, i < L.length → (L[i]?.getD []).length ≤ 1048576) := fun i hi => by
    rw [List.getElem?_eq_getElem hi]
    simpa using hz _ (List.getElem_mem hi)
  have HE := hide hE
  unfold maxLen at h2
  have hin := hide (fun W => in_any (L.length : Int) 1 20 W)
  clear hc hz hE
  go_enter Tryz.func26, Tryz.ntmps26
  go_wp2_with fail
  go_loopw [5] (fun iv wr => ∃ i : Nat, i ≤ L.length ∧ iv = .int .i64 i ∧ Hid (∀ j, j < i → Pl.segN E L false j = true) ∧ Hid (wr.heap[w.heap.size]? = some (.cells #[.slice ad L.length cap] 27 (0, 0))) ∧ Hid (Below w.heap.size w wr)) (fun iv _ => L.length - (intOf iv).toNat)
  case atStart => exact ⟨0, by omega, rfl, (fun j hj => by omega), by show (w.heap.push _)[w.heap.size]? = _; rw [Array.getElem?_push_size], (Below.refl _ _).alloc (Nat.le_refl _) _⟩
  case round =>
    obtain ⟨i, hi, rfl, HA, HX, HB⟩ := hrel
    have b0 := cell_of_block HX.out 0
    simp only [List.getElem?_toArray, List.getElem?_cons_zero] at b0
    have hlw : w.heap.size < wr.heap.size := (Array.getElem?_eq_some_iff.1 HX.out).1
    by_cases hlt : i < L.length
    · obtain ⟨g, off, rfl, hg, hs⟩ := HC.out (by omega)
      have c1 := (HB.out.cell (p := ⟨g, off + i, none⟩) hg).trans (hs i hlt)
      have z1 := HZ.out i hlt
      have hsz := Pl.bs_size (L[i]?.getD [])
      obtain ⟨xs, hR, hek⟩ := HE.out (L[i]?.getD [])
      have hact := hide (fun W => l8Acts_any (L[i]?.getD []) z1 xs hR W)
      have HSN : Hid (Pl.segN E L false i = !((!(E (L[i]?.getD []) == (L[i]?.getD []).length) && (false || !(i + 1 == L.length))) || ((E (L[i]?.getD []) == 0 && !(i + 1 == L.length)) || decide (400 < (L[i]?.getD []).length)))) := rfl
      have HNO := hide (fun (h : Pl.segN E L false i = false) => Pl.pieces_no hlt h)
      have HNX : Hid (Pl.segN E L false i = true → ∀ j, j < i + 1 → Pl.segN E L false j = true) := fun h j hj => by
        by_cases e : j = i
        · rw [e]; exact h
        · exact HA.out j (by omega)
      have hkm := Pl.recs_end xs _ hR
      rw [hek] at HSN
      generalize Pl.endR xs = k at *
      clear hs hR hek
      generalize L[i]?.getD [] = X at *
      have hii : (i : Int) < (L.length : Int) := by omega
      go_wp2_with fail
      refine (hact.out _).mono ?_
      rintro e w1 ⟨v1, rfl, _, hB1⟩
      have HB1 := hide (HB.out.trans (hB1.mono HB.out.size))
      have HX1 := hide ((hB1.block _ hlw).trans HX.out)
      have b1 := cell_of_block HX1.out 0
      simp only [List.getElem?_toArray, List.getElem?_cons_zero] at b1
      have c2 := (hB1.cell (p := ⟨g, off + i, none⟩) (Nat.lt_of_lt_of_le hg HB.out.size)).trans c1
      clear hB1 hact b0 c1 HX HB
      by_cases hee : k = X.length
      · have be : (k == X.length) = true := beq_iff_eq.2 hee
        have de : ((k : Int) != (X.length : Int)) = false := by simp; omega
        clear hee
        by_cases hll : i + 1 = L.length
        · have bl : (i + 1 == L.length) = true := beq_iff_eq.2 hll
          have dl : ((i : Int) == (L.length : Int) - 1) = true := by rw [beq_iff_eq]; omega
          clear hll
          by_cases hzr : k = 0
          · have bz : (k == 0) = true := beq_iff_eq.2 hzr
            have dz : ((k : Int) == 0) = true := by rw [beq_iff_eq]; omega
            clear hzr
            by_cases hf : 400 < X.length
            · have bf : decide (400 < X.length) = true := decide_eq_true hf
              have df : (400 : Int) < (X.length : Int) := by omega
              have HSG : Hid (Pl.segN E L false i = false) := by show _ = _; rw [HSN.out, be, bl, bz, bf]; rfl
              have HF := hide (HNO.out HSG.out)
              clear HSN HSG HNX HNO HA
              go_wp2_with fail
              go_ret
              exact ⟨by rw [HF.out]; rfl, HB1.out⟩
            · have bf : decide (400 < X.length) = false := decide_eq_false hf
              have df : ¬ (400 : Int) < (X.length : Int) := by omega
              have HSG : Hid (Pl.segN E L false i = true) := by show _ = _; rw [HSN.out, be, bl, bz, bf]; rfl
              have HF := hide (HNX.out HSG.out)
              clear HSN HSG HNX HNO HA
              go_wp2_with fail
              go_roundw
              case rel => exact ⟨i + 1, by omega, by go_num, HF, HX1, HB1⟩
              case measure => simp [intOf]; omega
          · have bz : (k == 0) = false := beq_eq_false_iff_ne.2 hzr
            have dz : ((k : Int) == 0) = false := by rw [beq_eq_false_iff_ne]; omega
            clear hzr
            by_cases hf : 400 < X.length
            · have bf : decide (400 < X.length) = true := decide_eq_true hf
              have df : (400 : Int) < (X.length : Int) := by omega
              have HSG : Hid (Pl.segN E L false i = false) := by show _ = _; rw [HSN.out, be, bl, bz, bf]; rfl
              have HF := hide (HNO.out HSG.out)
              clear HSN HSG HNX HNO HA
              go_wp2_with fail
              go_ret
              exact ⟨by rw [HF.out]; rfl, HB1.out⟩
            · have bf : decide (400 < X.length) = false := decide_eq_false hf
              have df : ¬ (400 : Int) < (X.length : Int) := by omega
              have HSG : Hid (Pl.segN E L false i = true) := by show _ = _; rw [HSN.out, be, bl, bz, bf]; rfl
              have HF := hide (HNX.out HSG.out)
              clear HSN HSG HNX HNO HA
              go_wp2_with fail
              go_roundw
              case rel => exact ⟨i + 1, by omega, by go_num, HF, HX1, HB1⟩
              case measure => simp [intOf]; omega
        · have bl : (i + 1 == L.length) = false := beq_eq_false_iff_ne.2 hll
          have dl : ((i : Int) == (L.length : Int) - 1) = false := by rw [beq_eq_false_iff_ne]; omega
          clear hll
          by_cases hzr : k = 0
          · have bz : (k == 0) = true := beq_iff_eq.2 hzr
            have dz : ((k : Int) == 0) = true := by rw [beq_iff_eq]; omega
            clear hzr
            by_cases hf : 400 < X.length
            · have bf : decide (400 < X.length) = true := decide_eq_true hf
              have df : (400 : Int) < (X.length : Int) := by omega
              have HSG : Hid (Pl.segN E L false i = false) := by show _ = _; rw [HSN.out, be, bl, bz, bf]; rfl
              have HF := hide (HNO.out HSG.out)
              clear HSN HSG HNX HNO HA
              go_wp2_with fail
              go_ret
              exact ⟨by rw [HF.out]; rfl, HB1.out⟩
            · have bf : decide (400 < X.length) = false := decide_eq_false hf
              have df : ¬ (400 : Int) < (X.length : Int) := by omega
              have HSG : Hid (Pl.segN E L false i = false) := by show _ = _; rw [HSN.out, be, bl, bz, bf]; rfl
              have HF := hide (HNO.out HSG.out)
              clear HSN HSG HNX HNO HA
              go_wp2_with fail
              go_ret
              exact ⟨by rw [HF.out]; rfl, HB1.out⟩
          · have bz : (k == 0) = false := beq_eq_false_iff_ne.2 hzr
            have dz : ((k : Int) == 0) = false := by rw [beq_eq_false_iff_ne]; omega
            clear hzr
            by_cases hf : 400 < X.length
            · have bf : decide (400 < X.length) = true := decide_eq_true hf
              have df : (400 : Int) < (X.length : Int) := by omega
              have HSG : Hid (Pl.segN E L false i = false) := by show _ = _; rw [HSN.out, be, bl, bz, bf]; rfl
              have HF := hide (HNO.out HSG.out)
              clear HSN HSG HNX HNO HA
              go_wp2_with fail
              go_ret
              exact ⟨by rw [HF.out]; rfl, HB1.out⟩
            · have bf : decide (400 < X.length) = false := decide_eq_false hf
              have df : ¬ (400 : Int) < (X.length : Int) := by omega
              have HSG : Hid (Pl.segN E L false i = true) := by show _ = _; rw [HSN.out, be, bl, bz, bf]; rfl
              have HF := hide (HNX.out HSG.out)
              clear HSN HSG HNX HNO HA
              go_wp2_with fail
              go_roundw
              case rel => exact ⟨i + 1, by omega, by go_num, HF, HX1, HB1⟩
              case measure => simp [intOf]; omega
      · have be : (k == X.length) = false := beq_eq_false_iff_ne.2 hee
        have de : ((k : Int) != (X.length : Int)) = true := by simp; omega
        clear hee
        by_cases hll : i + 1 = L.length
        · have bl : (i + 1 == L.length) = true := beq_iff_eq.2 hll
          have dl : ((i : Int) == (L.length : Int) - 1) = true := by rw [beq_iff_eq]; omega
          clear hll
          by_cases hzr : k = 0
          · have bz : (k == 0) = true := beq_iff_eq.2 hzr
            have dz : ((k : Int) == 0) = true := by rw [beq_iff_eq]; omega
            clear hzr
            by_cases hf : 400 < X.length
            · have bf : decide (400 < X.length) = true := decide_eq_true hf
              have df : (400 : Int) < (X.length : Int) := by omega
              have HSG : Hid (Pl.segN E L false i = false) := by show _ = _; rw [HSN.out, be, bl, bz, bf]; rfl
              have HF := hide (HNO.out HSG.out)
              clear HSN HSG HNX HNO HA
              go_wp2_with fail
              go_ret
              exact ⟨by rw [HF.out]; rfl, HB1.out⟩
            · have bf : decide (400 < X.length) = false := decide_eq_false hf
              have df : ¬ (400 : Int) < (X.length : Int) := by omega
              have HSG : Hid (Pl.segN E L false i = true) := by show _ = _; rw [HSN.out, be, bl, bz, bf]; rfl
              have HF := hide (HNX.out HSG.out)
              clear HSN HSG HNX HNO HA
              go_wp2_with fail
              go_roundw
              case rel => exact ⟨i + 1, by omega, by go_num, HF, HX1, HB1⟩
              case measure => simp [intOf]; omega
          · have bz : (k == 0) = false := beq_eq_false_iff_ne.2 hzr
            have dz : ((k : Int) == 0) = false := by rw [beq_eq_false_iff_ne]; omega
            clear hzr
            by_cases hf : 400 < X.length
            · have bf : decide (400 < X.length) = true := decide_eq_true hf
              have df : (400 : Int) < (X.length : Int) := by omega
              have HSG : Hid (Pl.segN E L false i = false) := by show _ = _; rw [HSN.out, be, bl, bz, bf]; rfl
              have HF := hide (HNO.out HSG.out)
              clear HSN HSG HNX HNO HA
              go_wp2_with fail
              go_ret
              exact ⟨by rw [HF.out]; rfl, HB1.out⟩
            · have bf : decide (400 < X.length) = false := decide_eq_false hf
              have df : ¬ (400 : Int) < (X.length : Int) := by omega
              have HSG : Hid (Pl.segN E L false i = true) := by show _ = _; rw [HSN.out, be, bl, bz, bf]; rfl
              have HF := hide (HNX.out HSG.out)
              clear HSN HSG HNX HNO HA
              go_wp2_with fail
              go_roundw
              case rel => exact ⟨i + 1, by omega, by go_num, HF, HX1, HB1⟩
              case measure => simp [intOf]; omega
        · have bl : (i + 1 == L.length) = false := beq_eq_false_iff_ne.2 hll
          have dl : ((i : Int) == (L.length : Int) - 1) = false := by rw [beq_eq_false_iff_ne]; omega
          clear hll
          by_cases hzr : k = 0
          · have bz : (k == 0) = true := beq_iff_eq.2 hzr
            have dz : ((k : Int) == 0) = true := by rw [beq_iff_eq]; omega
            clear hzr
            by_cases hf : 400 < X.length
            · have bf : decide (400 < X.length) = true := decide_eq_true hf
              have df : (400 : Int) < (X.length : Int) := by omega
              have HSG : Hid (Pl.segN E L false i = false) := by show _ = _; rw [HSN.out, be, bl, bz, bf]; rfl
              have HF := hide (HNO.out HSG.out)
              clear HSN HSG HNX HNO HA
              go_wp2_with fail
              go_ret
              exact ⟨by rw [HF.out]; rfl, HB1.out⟩
            · have bf : decide (400 < X.length) = false := decide_eq_false hf
              have df : ¬ (400 : Int) < (X.length : Int) := by omega
              have HSG : Hid (Pl.segN E L false i = false) := by show _ = _; rw [HSN.out, be, bl, bz, bf]; rfl
              have HF := hide (HNO.out HSG.out)
              clear HSN HSG HNX HNO HA
              go_wp2_with fail
              go_ret
              exact ⟨by rw [HF.out]; rfl, HB1.out⟩
          · have bz : (k == 0) = false := beq_eq_false_iff_ne.2 hzr
            have dz : ((k : Int) == 0) = false := by rw [beq_eq_false_iff_ne]; omega
            clear hzr
            by_cases hf : 400 < X.length
            · have bf : decide (400 < X.length) = true := decide_eq_true hf
              have df : (400 : Int) < (X.length : Int) := by omega
              have HSG : Hid (Pl.segN E L false i = false) := by show _ = _; rw [HSN.out, be, bl, bz, bf]; rfl
              have HF := hide (HNO.out HSG.out)
              clear HSN HSG HNX HNO HA
              go_wp2_with fail
              go_ret
              exact ⟨by rw [HF.out]; rfl, HB1.out⟩
            · have bf : decide (400 < X.length) = false := decide_eq_false hf
              have df : ¬ (400 : Int) < (X.length : Int) := by omega
              have HSG : Hid (Pl.segN E L false i = false) := by show _ = _; rw [HSN.out, be, bl, bz, bf]; rfl
              have HF := hide (HNO.out HSG.out)
              clear HSN HSG HNX HNO HA
              go_wp2_with fail
              go_ret
              exact ⟨by rw [HF.out]; rfl, HB1.out⟩
    · have hie : i = L.length := by omega
      have HF := hide (Pl.pieces_yes (E := E) (L := L) (whole := false) (fun j hj => HA.out j (by omega)))
      have HD : Hid ((decide ((1 : Int) ≤ (L.length : Int)) && decide ((L.length : Int) ≤ 20)) = (decide (1 ≤ L.length) && decide (L.length ≤ 20))) := by
        show _ = _
        rw [Bool.eq_iff_iff]
        simp only [Bool.and_eq_true, decide_eq_true_eq]
        omega
      clear hie
      go_wp2_with fail
      refine (hin.out _).mono ?_
      rintro e w2 ⟨rfl, rfl⟩
      go_wp2_with fail
      go_ret
      exact ⟨by rw [HF.out, ← HD.out]; rfl, HB.out⟩
theorem Pl.pieces_mends (E : List UInt8 → Nat) (L : List (List UInt8)) : Pl.pieces E L false = Pl.mends E L := by
  unfold Pl.pieces Pl.mends
  have h : ∀ i, i < L.length → Pl.segN E L false i = Pl.segM E L i := fun i hi => by
    by_cases h1 : i + 1 < L.length
    · exact Pl.seg_mid E L false i h1
    · have h2 : (i + 1 == L.length) = true := beq_iff_eq.2 (by omega)
      have h3 : decide (i + 1 < L.length) = false := decide_eq_false h1
      unfold Pl.segN Pl.segM
      rw [h2, h3]
      simp
  have he : (List.range L.length).all (Pl.segN E L false) = (List.range L.length).all (Pl.segM E L) := by
    rw [Bool.eq_iff_iff]
    simp only [List.all_eq_true, List.mem_range]
    exact ⟨fun hh i hi => (h i hi) ▸ hh i hi, fun hh i hi => (h i hi).symm ▸ hh i hi⟩
  rw [he, Bool.and_comm]
end Go.Proofs.YtbckbfjnifafaaaGreatDoor

/- A log without what is torn at its end, as the specification has it. -/
namespace Go.Proofs.YtbckbfjnifafaaaGreatDoor
open Go.RowKit
set_option linter.unusedVariables false
set_option linter.unusedSimpArgs false
set_option maxRecDepth 100000 in
set_option maxHeartbeats 1600000 in
theorem l8Copy_any (L : List (List UInt8)) (hL : L.length ≤ 1048576) (v : Value) (w : World) (ht : TextsAt w v L) :
    Calls Tryz.prog 38 #[lsV v] w fun e w' => ∃ v', e = .returned (lsV v') ∧ w'.ownsRow (w.heap.size + 2) 9 1 v' L.length (L.map sv) ∧ Below w.heap.size w w' := by
  have HT := hide (fun W (hW : Below w.heap.size w W) => ht.later hW)
  obtain ⟨ad, cap, rfl, h1, h2, hc, _⟩ := ht
  unfold maxLen at h2
  clear hc
  go_enter Tryz.func38, Tryz.ntmps38
  have hm : ((w.alloc (.cells #[.slice ad L.length cap] 27)).alloc (.cells #[.slice none 0 0] 27)).heap.size = w.heap.size + 2 := by simp
  have hO : (((w.alloc (.cells #[.slice ad L.length cap] 27)).alloc (.cells #[.slice none 0 0] 27)).alloc (.cells #[] 9)).ownsRow (w.heap.size + 2) 9 1 (.slice (some ⟨w.heap.size + 1 + 1, 0, none⟩) 0 0) (([] : List (List UInt8)).length) (([] : List (List UInt8)).map sv) := by
    have h := World.ownsRow_made (base := w.heap.size + 2) (e := 9) (size := 1) ((w.alloc (.cells #[.slice ad L.length cap] 27)).alloc (.cells #[.slice none 0 0] 27)) #[] 0 (by rw [hm]; exact Nat.le_refl _) (by unfold maxLen; omega) rfl
    rw [hm] at h
    exact h
  have hTX := hide (HT.out _ ((((Below.refl _ w).alloc (Nat.le_refl _) (.cells #[.slice ad L.length cap] 27)).alloc (by simp) (.cells #[.slice none 0 0] 27)).alloc (by simp; omega) (.cells #[] 9)))
  have hOO := hide hO
  have hNN : Hid (([] : List (List UInt8)).length + L.length ≤ 4194304) := by show _ ≤ _; simp; omega
  have hSZ : w.heap.size + 2 ≤ (((w.alloc (.cells #[.slice ad L.length cap] 27)).alloc (.cells #[.slice none 0 0] 27)).alloc (.cells #[] 9)).heap.size := by rw [World.size_alloc, hm]; omega
  have HAF : Hid (∀ w2 : World, (((w.alloc (.cells #[.slice ad L.length cap] 27)).alloc (.cells #[.slice none 0 0] 27)).alloc (.cells #[] 9)).grownBy w2 (Value.slice (some ⟨w.heap.size + 1 + 1, 0, none⟩) 0 0).ownBlock →
      w2.cell? ⟨w.heap.size + 1, 0, none⟩ = some (.slice none 0 0) ∧ w2.frozen? ⟨w.heap.size + 1, 0, none⟩ = false ∧ (∀ u, (w2.setCell ⟨w.heap.size + 1, 0, none⟩ u).cell? ⟨w.heap.size + 1, 0, none⟩ = some u) ∧ Below w.heap.size w w2) := fun w2 hg => by
    have hb : w2.heap[w.heap.size + 1]? = some (.cells #[.slice none 0 0] 27 (0, 0)) := by
      refine (hg.block _ (by rw [World.size_alloc, hm]; omega) (fun e => by simp [Value.ownBlock] at e)).trans ?_
      rw [heap_alloc_at, if_neg (by rw [hm]; omega), heap_alloc_at, if_pos (by simp)]
    have hB3 : Below w.heap.size w (((w.alloc (.cells #[.slice ad L.length cap] 27)).alloc (.cells #[.slice none 0 0] 27)).alloc (.cells #[] 9)) := (((Below.refl _ w).alloc (Nat.le_refl _) _).alloc (by simp) _).alloc (by rw [hm]; omega) _
    refine ⟨cell_of_block hb 0, free_of_block hb 0, fun u => cell_of_block (block_set hb 0 u) 0, hB3.grown hg hB3.size (fun k hk => by simp [Value.ownBlock] at hk; omega)⟩
  clear hO hm
  go_wp2_with (first
    | (with_reducible show wpList _ _ _ (Oper.mk _ (Op.load 22 (.tmp 4)) _ _ _ _ :: _) _ _; refine wpList_plain rfl fun K hK => ?_; go_simp; refine hK _ _ ?_; (refine wpList_app rfl (.tmp 3) (.tmp 5) rfl rfl (w.heap.size + 2) [] L (.slice (some ⟨w.heap.size + 1 + 1, 0, none⟩) 0 0) (.slice ad L.length cap) rfl rfl hOO.out hTX.out hNN.out hSZ ?_); intro v2 w2 hv2 hg2; have hA2 := HAF.out w2 hg2; have HA2 := hide hA2; have HV2 := hide hv2; have r2 := hA2.1; have f2 := hA2.2.1; obtain ⟨a2, c2, rfl⟩ := ownsRow_form hv2; clear hv2 hg2 hA2)
    | fail)
  have hV3 : w2.ownsRow (w.heap.size + 2) 9 1 (.slice a2 L.length c2) L.length (L.map sv) := HV2.out
  have m2 := (HA2.out.2.2.1 (.slice a2 L.length c2))
  refine bodyPost_ret (v := lsV (.slice a2 L.length c2)) (by simp [results, Tryz.results38, go_sem, m2]) rfl ?_
  have hlt2 := hV3.lt
  refine ⟨_, rfl, ?_, HA2.out.2.2.2.setCell (p := ⟨w.heap.size + 1, 0, none⟩) (Nat.le_succ _) _⟩
  refine hV3.kept (grownBy_setCell' w2 (w.heap.size + 1) _) ?_
  cases hv : (Value.slice a2 L.length c2).ownBlock with
  | none => exact .inl rfl
  | some k => exact .inr (fun e => by injection e with e; have := (hlt2 k hv).1; omega)
end Go.Proofs.YtbckbfjnifafaaaGreatDoor

/- A log without what is torn at its end, as the specification has it: its steps. -/
namespace Go.Proofs.YtbckbfjnifafaaaGreatDoor
open Go.RowKit
set_option linter.unusedVariables false
set_option linter.unusedSimpArgs false
theorem texts_cells {W : World} {g cap : Nat} {Q : List (List UInt8)} (h1 : Q.length ≤ cap) (h2 : cap ≤ maxLen) (hg : g < W.heap.size) (hc : ∀ i, i < Q.length → W.cell? ⟨g, i, none⟩ = some (sv (Q[i]?.getD []))) : TextsAt W (.slice (some ⟨g, 0, none⟩) Q.length cap) Q :=
  ⟨_, _, rfl, h1, h2, fun _ => ⟨g, 0, rfl, hg, fun i hi => by rw [Nat.zero_add]; exact hc i hi⟩, fun h => by cases h⟩
theorem own_caps {w : World} {base : Nat} {T : TypeId} {size : Nat} {a : Option Addr} {n c : Nat} {k : Nat} {xs : List Value} (h : w.ownsRow base T size (.slice a n c) k xs) : n ≤ c ∧ c ≤ maxLen := by
  rcases h.2 with ⟨h1, h0⟩ | ⟨g, cap, cur, hv, hb, hg, hnc, hm, hs, ht⟩
  · injection h1 with h1 h2 h3
    subst h2 h3
    exact ⟨Nat.le_refl _, by unfold maxLen; omega⟩
  · injection hv with h1 h2 h3
    subst h2 h3
    exact ⟨hnc, hm⟩
theorem cell_other {X : World} {b c i j : Nat} {u : Value} (hne : c ≠ b) : (X.setCell ⟨b, i, none⟩ u).cell? ⟨c, j, none⟩ = X.cell? ⟨c, j, none⟩ := by
  have h := Below.heap_setCell X ⟨b, i, none⟩ u c hne
  simp only [World.cell?, h]
set_option maxRecDepth 100000 in
set_option maxHeartbeats 3200000 in
theorem specLogMend_any (E : List UInt8 → Nat) (hE : EndIs E) (L : List (List UInt8)) (hN : L.length ≤ 1048576) (hz : ∀ x ∈ L, x.length ≤ 1048576) (v : Value) (w : World) (ht : TextsAt w v L) :
    Calls Tryz.prog 23 #[lsV v] w fun e w' => ∃ v', e = .returned (lsV v') ∧ (∀ k, v'.ownBlock = some k → w.heap.size ≤ k ∧ k < w'.heap.size) ∧ TextsAt w' v' (Pl.mendL E L) ∧ Below w.heap.size w w' := by
  have hb0 : ∀ O, Below w.heap.size w ((w.alloc (.cells #[v] 27)).alloc O) := fun O => ((Below.refl _ _).alloc (Nat.le_refl _) _).alloc (by simp) O
  have hm := hide (fun O => l8Pieces_false E hE L hN hz v _ (ht.later (hb0 O)))
  have HT := hide ht
  have HI : Hid (Pl.mendL E L = if Pl.mends E L then (if E (Pl.lastL L) = 0 ∧ 1 < L.length then L.take (L.length - 1) else Pl.cutLast E L) else []) := rfl
  clear ht hb0
  rw [Pl.pieces_mends] at hm
  cases hmm : Pl.mends E L
  · rw [hmm] at hm
    have HI2 : Hid (Pl.mendL E L = []) := by show _ = _; rw [HI.out, hmm]; rfl
    clear HI HT hz hE
    go_enter Tryz.func23, Tryz.ntmps23
    go_wp2_with fail
    refine (hm.out _).mono ?_
    rintro e w1 ⟨rfl, hB1⟩
    obtain ⟨b1, b2, HB, hsz⟩ := two_box2 hB1
    have r2 := cell_of_block b2 0
    have f2 := free_of_block b2 0
    have b3 := block_set b2 0 (.slice none 0 0)
    have m1 := cell_of_block b3 0
    simp only [List.setIfInBounds_toArray, List.set_cons_zero, List.getElem?_toArray, List.getElem?_cons_zero] at r2 m1
    have HBB := hide (HB.setCell (p := ⟨w.heap.size + 1, 0, none⟩) (Nat.le_succ _) (.slice none 0 0))
    clear hB1 b1 b2 b3 HB hm
    go_wp2
    refine bodyPost_ret (v := lsV (.slice none 0 0)) (by simp [results, Tryz.results23, go_sem, m1]) rfl ?_
    exact ⟨_, rfl, fun k hk => by simp [Value.ownBlock] at hk, by rw [HI2.out]; exact ⟨none, 0, rfl, Nat.le_refl _, by unfold maxLen; omega, fun h => by simp at h, fun _ => rfl⟩, HBB.out⟩
  · rw [hmm] at hm
    have hlen : 1 ≤ L.length ∧ L.length ≤ 20 := by
      unfold Pl.mends at hmm
      simp only [Bool.and_eq_true, decide_eq_true_eq] at hmm
      exact hmm.1
    obtain ⟨hl1, hl2⟩ := hlen
    have hzl : (Pl.lastL L).length ≤ 1048576 := by
      unfold Pl.lastL
      rw [List.getElem?_eq_getElem (by omega)]
      simpa using hz _ (List.getElem_mem (by omega))
    obtain ⟨xs, hR, he⟩ := hE (Pl.lastL L)
    have hle := Pl.recs_end xs _ hR
    rw [← he] at hle
    have hact := hide (fun W => l8Acts_any (Pl.lastL L) hzl xs hR W)
    have HI2 : Hid (Pl.mendL E L = if E (Pl.lastL L) = 0 ∧ 1 < L.length then L.take (L.length - 1) else Pl.cutLast E L) := by show _ = _; rw [HI.out, hmm]; rfl
    rw [← he] at hact
    clear HI hE hz hR he hzl
    go_enter Tryz.func23, Tryz.ntmps23
    go_wp2_with fail
    refine (hm.out _).mono ?_
    rintro e w1 ⟨rfl, hB1⟩
    obtain ⟨b1, b2, HB, hsz⟩ := two_box2 hB1
    have r1 := cell_of_block b1 0
    simp only [List.getElem?_toArray, List.getElem?_cons_zero] at r1
    have HB1 := hide HB
    have HX1 := hide b2
    clear hB1 b1 b2 HB hm
    go_wp2_with fail
    refine (l8Copy_any L hN v w1 (HT.out.later HB1.out)).mono ?_
    rintro e2 w2 ⟨v2, rfl, ho, hB2⟩
    have HX2 := hide ((hB2.block _ (by omega)).trans HX1.out)
    have HB2 := hide (HB1.out.trans (hB2.mono HB1.out.size))
    have hn2 := hB2.size
    obtain ⟨g, cap, rfl, hbg, hsg, hcg, hfg⟩ := row_open ho (by omega)
    have HO := hide ho
    obtain ⟨m, hn⟩ : ∃ m, L.length = m + 1 := ⟨L.length - 1, by omega⟩
    have hll : (L.map sv)[m]?.getD undef = sv (Pl.lastL L) := by
      unfold Pl.lastL
      rw [List.getElem?_map, hn, show m + 1 - 1 = m by omega, List.getElem?_eq_getElem (by omega)]
      rfl
    have cm := hcg m (by omega)
    rw [hll] at cm
    have fm := hfg m
    have hgs : g < w2.heap.size := hsg
    have hbs := Pl.bs_size (Pl.lastL L)
    have HM := hide hn
    have HHL := hide hll
    rw [hn]
    clear hcg hfg ho hll
    generalize hX : Pl.lastL L = X at *
    generalize hE2 : E X = n at *
    have HEQ := hide (And.intro hX hE2)
    clear hX hE2
    go_wp2_with fail
    refine (hact.out _).mono ?_
    rintro e3 w3 ⟨v3, rfl, _, hB3⟩
    have hex : (Pl.bs X).extract 0 n = Pl.bs (X.take n) := Pl.extract_head _ _
    have hs3 := hB3.size
    rw [World.size_alloc] at hs3
    have hBL : Below w2.heap.size w2 w3 := ((Below.refl _ w2).alloc (Nat.le_refl _) _).trans (hB3.mono (by rw [World.size_alloc]; omega))
    have bl : w3.heap[w2.heap.size]? = some (.cells #[.slice (some ⟨g, 0, none⟩) (m + 1) cap] 27 (0, 0)) := by
      rw [hB3.block _ (by rw [World.size_alloc]; omega), heap_alloc_at, if_pos rfl]
    have hx3 := (hBL.block _ (by omega)).trans HX2.out
    have lc := cell_of_block bl 0
    have lf := free_of_block bl 0
    have xc := cell_of_block hx3 0
    have xf := free_of_block hx3 0
    simp only [List.getElem?_toArray, List.getElem?_cons_zero] at lc xc
    have cm3 := (hBL.cell (p := ⟨g, m, none⟩) hgs).trans cm
    obtain ⟨g9, cap9, hv9, _, _, _, hf9⟩ := row_open (ownsRow_later HO.out hBL) (by omega)
    have hg9 : g9 = g := by injection hv9 with h1; injection h1 with h1; injection h1 with h1; exact h1.symm
    have fm3 := hf9 m
    rw [hg9] at fm3
    have hgl : g < w3.heap.size := by omega
    have hgn : g ≠ w2.heap.size := by omega
    have hgx : g ≠ w.heap.size + 1 := by omega
    have hxl : w.heap.size + 1 < w2.heap.size := by omega
    have HO3 := hide (ownsRow_later HO.out hBL)
    have HB3 := hide (HB2.out.trans (hBL.mono HB2.out.size))
    have HX3 := hide hx3
    have HL3 := hide bl
    have hSS : X.take n = X.take n := rfl
    generalize hS9 : X.take n = S at *
    have HSS : Hid (X.take n = S) := hS9
    clear hSS hS9
    clear hf9 hv9 hg9 hB3 hBL bl hx3 cm fm hact
    go_wp2_with fail
    go_region
    obtain ⟨hcp1, hcp2⟩ := own_caps HO3.out
    have hrow := row_set HO3.out m (by omega) (sv S)
    obtain ⟨g8, cap8, hv8, _, _, hc8, _⟩ := row_open hrow (by omega)
    have hg8 : g8 = g := by injection hv8 with h1; injection h1 with h1; injection h1 with h1; exact h1.symm
    rw [hg8] at hc8
    have hlt1 : (L.take m).length = m := by rw [List.length_take]; omega
    have hCUT : Hid (Pl.cutLast E L = L.take m ++ [S]) := by
      obtain ⟨e1, e2⟩ := HEQ.out
      show _ = _
      unfold Pl.cutLast
      rw [e1, e2, hn, show m + 1 - 1 = m by omega]
      exact congrArg (fun t => L.take m ++ [t]) HSS.out
    have HCL : Hid (∀ i, i < m + 1 → (w3.setCell ⟨g, m, none⟩ (.string (Pl.bs S))).cell? ⟨g, i, none⟩ = some (sv ((L.take m ++ [S])[i]?.getD []))) := fun i hi => by
      refine (hc8 i (by omega)).trans ?_
      congr 1
      by_cases him : i = m
      · subst him
        rw [List.getElem?_set_self (by simp; omega), List.getElem?_append_right (by omega), hlt1, Nat.sub_self]
        rfl
      · rw [List.getElem?_set_ne (by omega), List.getElem?_append_left (by omega), List.getElem?_take, if_pos (by omega), List.getElem?_map, List.getElem?_eq_getElem (by omega)]
        rfl
    have HB5 := hide ((HB3.out.setCell (p := ⟨g, m, none⟩) (by show w.heap.size ≤ g; omega) (.string (Pl.bs S))).drew)
    have HL5 := hide (set_other (b := g) (i := m) (v := .string (Pl.bs S)) HL3.out hgn)
    have HX5 := hide (set_other (b := g) (i := m) (v := .string (Pl.bs S)) HX3.out hgx)
    have hML0 := HI2.out
    rw [hCUT.out, hn, show m + 1 - 1 = m by omega] at hML0
    have HML := hide hML0
    clear hML0
    have HTL : Hid ((L.take m ++ [S]).length = m + 1) := by show _ = _; rw [List.length_append, hlt1]; rfl
    clear hrow hc8 hv8 hg8 HEQ HI2
    by_cases hA : n = 0 ∧ 1 < m + 1
    · have HM2 : Hid (Pl.mendL E L = L.take m) := by show _ = _; rw [HML.out, if_pos hA]
      have hm0 : (0 : Int) < (m : Int) := by omega
      have hn0 : ((n : Int) == 0) = true := by rw [hA.1]; rfl
      clear HML
      go_wp2_with fail
      have hbF : (((w3.setCell ⟨g, m, none⟩ (.string (Pl.bs S))).setCell ⟨w2.heap.size, 0, none⟩ (.slice (some ⟨g, 0, none⟩) m cap)).setCell ⟨w.heap.size + 1, 0, none⟩ (.slice (some ⟨g, 0, none⟩) m cap)).heap[w.heap.size + 1]? = some (.cells #[.slice (some ⟨g, 0, none⟩) m cap] 27 (0, 0)) := block_set (set_other HX5.out (by omega)) 0 _
      have mF : (((w3.setCell ⟨g, m, none⟩ (.string (Pl.bs S))).setCell ⟨w2.heap.size, 0, none⟩ (.slice (some ⟨g, 0, none⟩) m cap)).setCell ⟨w.heap.size + 1, 0, none⟩ (.slice (some ⟨g, 0, none⟩) m cap)).drew.cell? ⟨w.heap.size + 1, 0, none⟩ = some (.slice (some ⟨g, 0, none⟩) m cap) := cell_of_block hbF 0
      refine bodyPost_ret (v := lsV (.slice (some ⟨g, 0, none⟩) m cap)) (by simp [results, Tryz.results23, go_sem, mF]) rfl ?_
      have hgF : g < (((w3.setCell ⟨g, m, none⟩ (.string (Pl.bs S))).setCell ⟨w2.heap.size, 0, none⟩ (.slice (some ⟨g, 0, none⟩) m cap)).setCell ⟨w.heap.size + 1, 0, none⟩ (.slice (some ⟨g, 0, none⟩) m cap)).drew.heap.size := by
        show g < (((w3.setCell ⟨g, m, none⟩ (.string (Pl.bs S))).setCell ⟨w2.heap.size, 0, none⟩ (.slice (some ⟨g, 0, none⟩) m cap)).setCell ⟨w.heap.size + 1, 0, none⟩ (.slice (some ⟨g, 0, none⟩) m cap)).heap.size
        simp only [set_size]
        exact hgl
      refine ⟨_, rfl, fun k hk => ?_, ?_, ?_⟩
      · obtain rfl : g = k := by simpa [Value.ownBlock] using hk
        exact ⟨by omega, hgF⟩
      · rw [HM2.out]
        have hq := texts_cells (W := (((w3.setCell ⟨g, m, none⟩ (.string (Pl.bs S))).setCell ⟨w2.heap.size, 0, none⟩ (.slice (some ⟨g, 0, none⟩) m cap)).setCell ⟨w.heap.size + 1, 0, none⟩ (.slice (some ⟨g, 0, none⟩) m cap)).drew) (g := g) (cap := cap) (Q := L.take m) (by rw [hlt1]; omega) hcp2 hgF (fun i hi => by
          rw [hlt1] at hi
          show (((w3.setCell ⟨g, m, none⟩ (.string (Pl.bs S))).setCell ⟨w2.heap.size, 0, none⟩ (.slice (some ⟨g, 0, none⟩) m cap)).setCell ⟨w.heap.size + 1, 0, none⟩ (.slice (some ⟨g, 0, none⟩) m cap)).cell? ⟨g, i, none⟩ = _
          rw [cell_other hgx, cell_other hgn, HCL.out i (by omega), List.getElem?_append_left (by omega)])
        rw [hlt1] at hq
        exact hq
      · exact ((HB5.out.setCell (p := ⟨w2.heap.size, 0, none⟩) (by show w.heap.size ≤ w2.heap.size; omega) (.slice (some ⟨g, 0, none⟩) m cap)).setCell (p := ⟨w.heap.size + 1, 0, none⟩) (Nat.le_succ _) (.slice (some ⟨g, 0, none⟩) m cap))
    · have HM2 : Hid (Pl.mendL E L = L.take m ++ [S]) := by show _ = _; rw [HML.out, if_neg hA]
      clear HML
      by_cases hn1 : n = 0
      · have hm0 : ¬ (0 : Int) < (m : Int) := by omega
        have hn0 : ((n : Int) == 0) = true := by rw [hn1]; rfl
        have HN1 := hide hn1
        clear hn1 hA
        go_wp2_with fail
        have hbF : ((w3.setCell ⟨g, m, none⟩ (.string (Pl.bs S))).setCell ⟨w.heap.size + 1, 0, none⟩ (.slice (some ⟨g, 0, none⟩) (m + 1) cap)).heap[w.heap.size + 1]? = some (.cells #[.slice (some ⟨g, 0, none⟩) (m + 1) cap] 27 (0, 0)) := block_set HX5.out 0 _
        have mF : ((w3.setCell ⟨g, m, none⟩ (.string (Pl.bs S))).setCell ⟨w.heap.size + 1, 0, none⟩ (.slice (some ⟨g, 0, none⟩) (m + 1) cap)).drew.cell? ⟨w.heap.size + 1, 0, none⟩ = some (.slice (some ⟨g, 0, none⟩) (m + 1) cap) := cell_of_block hbF 0
        refine bodyPost_ret (v := lsV (.slice (some ⟨g, 0, none⟩) (m + 1) cap)) (by simp [results, Tryz.results23, go_sem, mF]) rfl ?_
        have hgF : g < ((w3.setCell ⟨g, m, none⟩ (.string (Pl.bs S))).setCell ⟨w.heap.size + 1, 0, none⟩ (.slice (some ⟨g, 0, none⟩) (m + 1) cap)).drew.heap.size := by
          show g < ((w3.setCell ⟨g, m, none⟩ (.string (Pl.bs S))).setCell ⟨w.heap.size + 1, 0, none⟩ (.slice (some ⟨g, 0, none⟩) (m + 1) cap)).heap.size
          simp only [set_size]
          exact hgl
        refine ⟨_, rfl, fun k hk => ?_, ?_, ?_⟩
        · obtain rfl : g = k := by simpa [Value.ownBlock] using hk
          exact ⟨by omega, hgF⟩
        · rw [HM2.out]
          have hq := texts_cells (W := ((w3.setCell ⟨g, m, none⟩ (.string (Pl.bs S))).setCell ⟨w.heap.size + 1, 0, none⟩ (.slice (some ⟨g, 0, none⟩) (m + 1) cap)).drew) (g := g) (cap := cap) (Q := L.take m ++ [S]) (by rw [HTL.out]; omega) hcp2 hgF (fun i hi => by
            rw [HTL.out] at hi
            show ((w3.setCell ⟨g, m, none⟩ (.string (Pl.bs S))).setCell ⟨w.heap.size + 1, 0, none⟩ (.slice (some ⟨g, 0, none⟩) (m + 1) cap)).cell? ⟨g, i, none⟩ = _
            rw [cell_other hgx, HCL.out i hi])
          rw [HTL.out] at hq
          exact hq
        · exact (HB5.out.setCell (p := ⟨w.heap.size + 1, 0, none⟩) (Nat.le_succ _) (.slice (some ⟨g, 0, none⟩) (m + 1) cap))
      · have hn0 : ((n : Int) == 0) = false := beq_eq_false_iff_ne.2 (by omega)
        clear hA
        go_wp2_with fail
        have hbF : ((w3.setCell ⟨g, m, none⟩ (.string (Pl.bs S))).setCell ⟨w.heap.size + 1, 0, none⟩ (.slice (some ⟨g, 0, none⟩) (m + 1) cap)).heap[w.heap.size + 1]? = some (.cells #[.slice (some ⟨g, 0, none⟩) (m + 1) cap] 27 (0, 0)) := block_set HX5.out 0 _
        have mF : ((w3.setCell ⟨g, m, none⟩ (.string (Pl.bs S))).setCell ⟨w.heap.size + 1, 0, none⟩ (.slice (some ⟨g, 0, none⟩) (m + 1) cap)).drew.cell? ⟨w.heap.size + 1, 0, none⟩ = some (.slice (some ⟨g, 0, none⟩) (m + 1) cap) := cell_of_block hbF 0
        refine bodyPost_ret (v := lsV (.slice (some ⟨g, 0, none⟩) (m + 1) cap)) (by simp [results, Tryz.results23, go_sem, mF]) rfl ?_
        have hgF : g < ((w3.setCell ⟨g, m, none⟩ (.string (Pl.bs S))).setCell ⟨w.heap.size + 1, 0, none⟩ (.slice (some ⟨g, 0, none⟩) (m + 1) cap)).drew.heap.size := by
          show g < ((w3.setCell ⟨g, m, none⟩ (.string (Pl.bs S))).setCell ⟨w.heap.size + 1, 0, none⟩ (.slice (some ⟨g, 0, none⟩) (m + 1) cap)).heap.size
          simp only [set_size]
          exact hgl
        refine ⟨_, rfl, fun k hk => ?_, ?_, ?_⟩
        · obtain rfl : g = k := by simpa [Value.ownBlock] using hk
          exact ⟨by omega, hgF⟩
        · rw [HM2.out]
          have hq := texts_cells (W := ((w3.setCell ⟨g, m, none⟩ (.string (Pl.bs S))).setCell ⟨w.heap.size + 1, 0, none⟩ (.slice (some ⟨g, 0, none⟩) (m + 1) cap)).drew) (g := g) (cap := cap) (Q := L.take m ++ [S]) (by rw [HTL.out]; omega) hcp2 hgF (fun i hi => by
            rw [HTL.out] at hi
            show ((w3.setCell ⟨g, m, none⟩ (.string (Pl.bs S))).setCell ⟨w.heap.size + 1, 0, none⟩ (.slice (some ⟨g, 0, none⟩) (m + 1) cap)).cell? ⟨g, i, none⟩ = _
            rw [cell_other hgx, HCL.out i hi])
          rw [HTL.out] at hq
          exact hq
        · exact (HB5.out.setCell (p := ⟨w.heap.size + 1, 0, none⟩) (Nat.le_succ _) (.slice (some ⟨g, 0, none⟩) (m + 1) cap))
end Go.Proofs.YtbckbfjnifafaaaGreatDoor

/- Rows of parts: what was asked for, names with values; where they lie. -/
namespace Go.Proofs.YtbckbfjnifafaaaGreatDoor
open Go.RowKit
set_option linter.unusedVariables false
set_option linter.unusedSimpArgs false
/-- something that is asked for -/
structure Cm where
  k : Int
  nm : ByteArray
  vk : Int
  vn : Int
  vt : ByteArray
/-- a name with a value -/
structure Pq where
  nm : ByteArray
  vk : Int
  vn : Int
  vt : ByteArray
abbrev cqL (c : Cm) : List Value := [.int .i64 c.k, .string c.nm, .int .i64 c.vk, .int .i64 c.vn, .string c.vt]
abbrev cqV (c : Cm) : Value := .agg #[.int .i64 c.k, .string c.nm, .int .i64 c.vk, .int .i64 c.vn, .string c.vt]
abbrev pqL (p : Pq) : List Value := [.string p.nm, .int .i64 p.vk, .int .i64 p.vn, .string p.vt]
abbrev pqV (p : Pq) : Value := .agg #[.string p.nm, .int .i64 p.vk, .int .i64 p.vn, .string p.vt]
def Cm.Wf (c : Cm) : Prop := c.nm.size ≤ maxLen ∧ c.vt.size ≤ maxLen
def Pq.Wf (c : Pq) : Prop := c.nm.size ≤ maxLen ∧ c.vt.size ≤ maxLen
/-- texts that are no longer than anything that is ever copied -/
def Cm.Sm (c : Cm) : Prop := c.nm.size ≤ 1048576 ∧ c.vt.size ≤ 1048576
def Pq.Sm (c : Pq) : Prop := c.nm.size ≤ 1048576 ∧ c.vt.size ≤ 1048576
/-- a slice that holds these parts, in a block below this one -/
def PRow {α : Type} (m : Nat) (f : α → List Value) (hi : Nat) (w : World) (l : List α) (v : Value) : Prop :=
  ∃ ad cap, v = .slice ad l.length cap ∧ l.length ≤ cap ∧ cap ≤ maxLen ∧ (0 < l.length → ∃ g off, ad = some ⟨g, off, none⟩ ∧ g < hi ∧ ∀ i e, l[i]? = some e → ∀ j u, (f e)[j]? = some u → w.cell? ⟨g, off + i * m + j, none⟩ = some u)
theorem PRow.later {α : Type} {m : Nat} {f : α → List Value} {hi : Nat} {w w1 : World} {l : List α} {v : Value} (h : PRow m f hi w l v) (hB : Below hi w w1) : PRow m f hi w1 l v := by
  obtain ⟨ad, cap, hv, h1, h2, hx⟩ := h
  refine ⟨ad, cap, hv, h1, h2, fun hl => ?_⟩
  obtain ⟨g, off, ha, hg, hs⟩ := hx hl
  exact ⟨g, off, ha, hg, fun i e he j u hu => (hB.cell (p := ⟨g, off + i * m + j, none⟩) hg).trans (hs i e he j u hu)⟩
theorem PRow.up {α : Type} {m : Nat} {f : α → List Value} {hi hi' : Nat} {w : World} {l : List α} {v : Value} (h : PRow m f hi w l v) (hh : hi ≤ hi') : PRow m f hi' w l v := by
  obtain ⟨ad, cap, hv, h1, h2, hx⟩ := h
  refine ⟨ad, cap, hv, h1, h2, fun hl => ?_⟩
  obtain ⟨g, off, ha, hg, hs⟩ := hx hl
  exact ⟨g, off, ha, by omega, hs⟩
/-- a slice that has a block of its own, within these bounds -/
def PBlk {α : Type} (T : TypeId) (m : Nat) (f : α → List Value) (lo hi : Nat) (w : World) (l : List α) (v : Value) : Prop :=
  ∃ a c, v = .slice a l.length c ∧ l.length ≤ c ∧ c ≤ maxLen ∧ (0 < l.length → ∃ b C, a = some ⟨b, 0, none⟩ ∧ lo ≤ b ∧ b < hi ∧ w.heap[b]? = some (.cells C T (0, 0)) ∧ l.length * m ≤ C.size ∧ ∀ i e, l[i]? = some e → ∀ j u, (f e)[j]? = some u → C[i * m + j]? = some u)
theorem PBlk.row {α : Type} {T : TypeId} {m : Nat} {f : α → List Value} {lo hi : Nat} {w : World} {l : List α} {v : Value} (h : PBlk T m f lo hi w l v) : PRow m f hi w l v := by
  obtain ⟨a, c, hv, h1, h2, hx⟩ := h
  refine ⟨a, c, hv, h1, h2, fun hl => ?_⟩
  obtain ⟨b, C, ha, hb, hb2, hc, hs, hcell⟩ := hx hl
  exact ⟨b, 0, ha, hb2, fun i e he j u hu => by rw [cell_of_block hc, Nat.zero_add]; exact hcell i e he j u hu⟩
theorem PBlk.later {α : Type} {T : TypeId} {m : Nat} {f : α → List Value} {lo hi : Nat} {w w1 : World} {l : List α} {v : Value} (h : PBlk T m f lo hi w l v) (hB : Below hi w w1) : PBlk T m f lo hi w1 l v := by
  obtain ⟨a, c, hv, h1, h2, hx⟩ := h
  refine ⟨a, c, hv, h1, h2, fun hl => ?_⟩
  obtain ⟨b, C, ha, hb, hb2, hc, hs, hcell⟩ := hx hl
  exact ⟨b, C, ha, hb, hb2, (hB.block _ hb2).trans hc, hs, hcell⟩
theorem PBlk.up {α : Type} {T : TypeId} {m : Nat} {f : α → List Value} {lo hi lo' hi' : Nat} {w : World} {l : List α} {v : Value} (h : PBlk T m f lo hi w l v) (h1 : lo' ≤ lo) (h2 : hi ≤ hi') : PBlk T m f lo' hi' w l v := by
  obtain ⟨a, c, hv, e1, e2, hx⟩ := h
  refine ⟨a, c, hv, e1, e2, fun hl => ?_⟩
  obtain ⟨b, C, ha, hb, hb2, hc⟩ := hx hl
  exact ⟨b, C, ha, by omega, by omega, hc⟩
/-- but for what lies within these bounds all is as it was -/
structure Mid (lo hi : Nat) (W W' : World) : Prop where
  os : W'.os = W.os
  tape : W'.tape = W.tape
  output : W'.output = W.output
  size : W.heap.size ≤ W'.heap.size
  block : ∀ k, k < W.heap.size → (k < lo ∨ hi ≤ k) → W'.heap[k]? = W.heap[k]?
theorem Mid.refl (lo hi : Nat) (W : World) : Mid lo hi W W := ⟨rfl, rfl, rfl, Nat.le_refl _, fun _ _ _ => rfl⟩
theorem Mid.trans {lo hi : Nat} {W X Y : World} (h : Mid lo hi W X) (h2 : Mid lo hi X Y) : Mid lo hi W Y :=
  ⟨h2.os.trans h.os, h2.tape.trans h.tape, h2.output.trans h.output, Nat.le_trans h.size h2.size, fun k hk ho => (h2.block k (Nat.lt_of_lt_of_le hk h.size) ho).trans (h.block k hk ho)⟩
theorem Mid.up {lo hi lo' hi' : Nat} {W X : World} (h : Mid lo hi W X) (h1 : lo' ≤ lo) (h2 : hi ≤ hi') : Mid lo' hi' W X :=
  ⟨h.os, h.tape, h.output, h.size, fun k hk ho => h.block k hk (by omega)⟩
theorem Mid.of_below {lo hi : Nat} {W X : World} (h : Below W.heap.size W X) : Mid lo hi W X := ⟨h.os, h.tape, h.output, h.size, fun k hk _ => h.block k hk⟩
theorem Mid.of_grown {lo hi : Nat} {W X : World} {r : Option Nat} (h : W.grownBy X r) (hr : ∀ k, r = some k → lo ≤ k ∧ k < hi) : Mid lo hi W X :=
  ⟨h.os, h.tape, h.output, h.size, fun k hk ho => h.block k hk (fun e => by have := hr k e.symm; omega)⟩
theorem Mid.set {lo hi : Nat} {W X : World} {b i : Nat} {v : Value} (h : Mid lo hi W X) (h1 : lo ≤ b) (h2 : b < hi) : Mid lo hi W (X.setCell ⟨b, i, none⟩ v) :=
  ⟨h.os, h.tape, h.output, by have := h.size; simp [World.setCell]; exact this, fun k hk ho => (Below.heap_setCell _ _ _ _ (by simp only; omega)).trans (h.block k hk ho)⟩
theorem Mid.below {lo hi : Nat} {W X : World} (h : Mid lo hi W X) (hl : lo ≤ W.heap.size) : Below lo W X := ⟨h.os, h.tape, h.output, h.size, fun k hk => h.block k (by omega) (by omega)⟩
theorem PBlk.mid {α : Type} {T : TypeId} {m : Nat} {f : α → List Value} {lo hi lo' hi' : Nat} {w w1 : World} {l : List α} {v : Value} (h : PBlk T m f lo hi w l v) (hB : Mid lo' hi' w w1) (ho : hi ≤ lo' ∨ hi' ≤ lo) : PBlk T m f lo hi w1 l v := by
  obtain ⟨a, c, hv, h1, h2, hx⟩ := h
  refine ⟨a, c, hv, h1, h2, fun hl => ?_⟩
  obtain ⟨b, C, ha, hb, hb2, hc, hs, hcell⟩ := hx hl
  exact ⟨b, C, ha, hb, hb2, (hB.block _ (Array.getElem?_eq_some_iff.1 hc).1 (by omega)).trans hc, hs, hcell⟩
theorem flatq_at {α : Type} {f : α → List Value} {m : Nat} (hf : ∀ e, (f e).length = m) : ∀ (L : List α) (i : Nat) (e : α), L[i]? = some e → ∀ j u, (f e)[j]? = some u → (L.flatMap f)[i * m + j]? = some u
  | [], i, e, h => by simp at h
  | a :: r, 0, e, h => fun j u hu => by
    obtain rfl : a = e := by simpa using h
    have hj : j < (f a).length := (List.getElem?_eq_some_iff.1 hu).1
    simp only [List.flatMap_cons, Nat.zero_mul, Nat.zero_add]
    rw [List.getElem?_append_left hj]; exact hu
  | a :: r, i + 1, e, h => fun j u hu => by
    have ih := flatq_at hf r i e (by simpa using h) j u hu
    simp only [List.flatMap_cons]
    rw [List.getElem?_append_right (by rw [hf]; rw [Nat.add_mul]; omega), hf]
    rw [show (i + 1) * m + j - m = i * m + j by rw [Nat.add_mul]; omega]
    exact ih
theorem lenq {α : Type} {f : α → List Value} {m : Nat} (hf : ∀ e, (f e).length = m) : ∀ L : List α, (L.flatMap f).length = L.length * m
  | [] => by simp
  | a :: r => by
    rw [List.flatMap_cons, List.length_append, hf, lenq hf r, List.length_cons, Nat.add_mul]
    omega
/-- what is owned has a block of its own -/
theorem PBlk.of_own {α : Type} {T : TypeId} {m : Nat} {f : α → List Value} (hf : ∀ e, (f e).length = m) {w : World} {base : Nat} {v : Value} {l : List α} (h : w.ownsRow base T m v l.length (l.flatMap f)) : PBlk T m f base w.heap.size w l v := by
  obtain ⟨hl, h⟩ := h
  rcases h with ⟨h1, h0⟩ | ⟨g, cap, cur, hv, hb, hg, hnc, hm, hs, ht⟩
  · exact ⟨none, 0, by rw [h1, h0], by omega, by unfold maxLen; omega, fun hp => by omega⟩
  · refine ⟨_, cap, hv, hnc, hm, fun hp => ⟨g, cur, rfl, hb, (Array.getElem?_eq_some_iff.1 hg).1, hg, ?_, fun i e he j u hu => ?_⟩⟩
    · rw [hs]; exact Nat.mul_le_mul_right _ hnc
    · have hfl := flatq_at hf l i e he j u hu
      rw [← ht, List.getElem?_take] at hfl
      split at hfl
      · simpa using hfl
      · cases hfl
/-- a piece of memory that was made and filled, part by part -/
def TQ {α : Type} (T : TypeId) (m : Nat) (f : α → List Value) (l : List α) (w : World) (i : Nat) (wr : World) : Prop :=
  (∃ C, wr.heap[w.heap.size]? = some (.cells C T (0, 0)) ∧ C.size = l.length * m ∧ ∀ j e, j < i → l[j]? = some e → ∀ t u, (f e)[t]? = some u → C[j * m + t]? = some u) ∧ Below w.heap.size w wr
theorem TQ.start {α : Type} {T : TypeId} {m : Nat} {f : α → List Value} {l : List α} {w : World} {M : Array Value} (h : M.size = l.length * m) : TQ T m f l w 0 (w.alloc (.cells M T)) :=
  ⟨⟨M, by rw [heap_alloc_at, if_pos rfl], h, fun j e hj => by omega⟩, (Below.refl _ _).alloc (Nat.le_refl _) _⟩
theorem TQ.lt {α : Type} {T : TypeId} {m : Nat} {f : α → List Value} {l : List α} {w wr : World} {i : Nat} (h : TQ T m f l w i wr) : w.heap.size < wr.heap.size := by
  obtain ⟨⟨C, h0, _⟩, _⟩ := h
  exact (Array.getElem?_eq_some_iff.1 h0).1
theorem TQ.later {α : Type} {T : TypeId} {m : Nat} {f : α → List Value} {l : List α} {w wr w1 : World} {i : Nat} (h : TQ T m f l w i wr) (hB : Below wr.heap.size wr w1) : TQ T m f l w i w1 := by
  have hlt := h.lt
  obtain ⟨⟨C, h0, hC, hc⟩, h2⟩ := h
  exact ⟨⟨C, (hB.block _ hlt).trans h0, hC, hc⟩, h2.trans (hB.mono h2.size)⟩
theorem qset_block {b : Nat} {T : TypeId} : ∀ (vs : List Value) (o : Nat) (w : World) (C : Array Value), w.heap[b]? = some (.cells C T (0, 0)) → ∃ C', (w.setCells b o vs).heap[b]? = some (.cells C' T (0, 0)) ∧ C'.size = C.size ∧ (∀ j, j < o ∨ o + vs.length ≤ j → C'[j]? = C[j]?) ∧ (o + vs.length ≤ C.size → ∀ j u, vs[j]? = some u → C'[o + j]? = some u)
  | [], o, w, C, h => ⟨C, h, rfl, fun _ _ => rfl, fun _ j u hu => by simp at hu⟩
  | v :: r, o, w, C, h => by
    obtain ⟨C', h1, h2, h3, h4⟩ := qset_block r (o + 1) (w.setCell ⟨b, o, none⟩ v) _ (block_set h o v)
    simp only [Array.size_setIfInBounds, List.length_cons] at *
    refine ⟨C', h1, h2, fun j hj => ?_, fun hs j u hu => ?_⟩
    · rw [h3 j (by omega), Array.getElem?_setIfInBounds_ne (by omega)]
    · cases j with
      | zero =>
        obtain rfl : v = u := by simpa using hu
        rw [Nat.add_zero, h3 o (by omega), Array.getElem?_setIfInBounds_self_of_lt (by omega)]
      | succ j =>
        rw [show o + (j + 1) = o + 1 + j by omega]
        exact h4 (by omega) j u (by simpa using hu)
theorem qset_below {n b : Nat} {a : World} (hb : n ≤ b) : ∀ (vs : List Value) (o : Nat) (w : World), Below n a w → Below n a (w.setCells b o vs)
  | [], o, w, h => h
  | v :: r, o, w, h => qset_below hb r (o + 1) _ (h.setCell (p := ⟨b, o, none⟩) hb v)
theorem qthere {w : World} {b o n : Nat} {C : Array Value} {T : TypeId} (h : w.heap[b]? = some (.cells C T (0, 0))) (hn : o + n ≤ C.size) : w.there b o n := fun j hj => by
  refine ⟨?_, free_of_block h (o + j)⟩
  rw [cell_of_block h]
  simp only [Array.getElem?_eq_getElem (show o + j < C.size by omega), Option.isSome_some]
theorem mul_next {i n m : Nat} (h : i < n) : i * m + m ≤ n * m := by
  have := Nat.mul_le_mul_right m (show i + 1 ≤ n by omega)
  rw [Nat.add_mul] at this
  omega
theorem TQ.there {α : Type} {T : TypeId} {m : Nat} {f : α → List Value} {l : List α} {w wr : World} {i : Nat} (h : TQ T m f l w i wr) (hi : i < l.length) : wr.there w.heap.size (i * m) m := by
  obtain ⟨⟨C, h0, hC, _⟩, _⟩ := h
  exact qthere h0 (by rw [hC]; exact mul_next hi)
theorem TQ.next {α : Type} {T : TypeId} {m : Nat} {f : α → List Value} (hf : ∀ e, (f e).length = m) {l : List α} {w wr : World} {i : Nat} {e : α} (h : TQ T m f l w i wr) (he : l[i]? = some e) : TQ T m f l w (i + 1) (wr.setCells w.heap.size (i * m) (f e)) := by
  have hi : i < l.length := (List.getElem?_eq_some_iff.1 he).1
  have hmm := mul_next (m := m) hi
  obtain ⟨⟨C, h0, hC, hc⟩, h2⟩ := h
  obtain ⟨C', h3, h4, h5, h6⟩ := qset_block (f e) (i * m) wr C h0
  rw [hf] at h5 h6
  refine ⟨⟨C', h3, by omega, fun j e' hj he' t u hu => ?_⟩, qset_below (Nat.le_refl _) _ _ _ h2⟩
  have ht : t < m := by rw [← hf e']; exact (List.getElem?_eq_some_iff.1 hu).1
  by_cases hji : j = i
  · subst hji
    rw [he] at he'
    obtain rfl := Option.some.inj he'
    exact h6 (by omega) t u hu
  · have := mul_next (m := m) (show j < i by omega)
    rw [h5 _ (by omega)]
    exact hc j e' (by omega) he' t u hu
theorem TQ.done {α : Type} {T : TypeId} {m : Nat} {f : α → List Value} {l : List α} {w wr : World} (h : TQ T m f l w l.length wr) (hN : l.length ≤ 1048576) : PBlk T m f w.heap.size wr.heap.size wr l (.slice (some ⟨w.heap.size, 0, none⟩) l.length l.length) := by
  have hlt := h.lt
  obtain ⟨⟨C, h0, hC, hc⟩, h2⟩ := h
  exact ⟨_, _, rfl, Nat.le_refl _, by unfold maxLen; omega, fun _ => ⟨_, C, rfl, Nat.le_refl _, hlt, h0, by omega, fun i e he => hc i e (List.getElem?_eq_some_iff.1 he).1 he⟩⟩
end Go.Proofs.YtbckbfjnifafaaaGreatDoor

/- Rows that are marked: the block that is written. -/
namespace Go.Proofs.YtbckbfjnifafaaaGreatDoor
open Go.RowKit
set_option linter.unusedVariables false
set_option linter.unusedSimpArgs false
/-- the block that is written, if there is anything to write -/
def ownB (a : Option Addr) (n : Nat) : Option Nat := if n = 0 then none else (Value.slice a n n).ownBlock
theorem ownB_some (b : Nat) {n : Nat} (h : 0 < n) : ownB (some ⟨b, 0, none⟩) n = some b := by
  unfold ownB
  rw [if_neg (by omega)]
  rfl
theorem ownB_in {a : Option Addr} {n g : Nat} (h : ownB a n = some g) {b : Nat} (ha : a = some ⟨b, 0, none⟩) : g = b := by
  unfold ownB at h
  split at h
  · cases h
  · rw [ha] at h
    injection h with h
    exact h.symm
theorem ownB_pos {a : Option Addr} {n g : Nat} (h : ownB a n = some g) : 0 < n := by
  unfold ownB at h
  split at h
  · cases h
  · omega
theorem RowM.keep {T : TypeId} {m : Nat} {mk : Nat → List Value} {k : Nat} {a : Option Addr} {n i : Nat} {W W1 : World} (h : RowM T m mk k a n i W) (hk : ∀ b C, a = some ⟨b, 0, none⟩ → W.heap[b]? = some (.cells C T (0, 0)) → W1.heap[b]? = W.heap[b]?) : RowM T m mk k a n i W1 := by
  intro hn
  obtain ⟨b, C, ha, hb, hs, hc⟩ := h hn
  exact ⟨b, C, ha, (hk b C ha hb).trans hb, hs, hc⟩
theorem RowM.of_blk {α : Type} {T : TypeId} {m : Nat} {f : α → List Value} {mk : Nat → List Value} {k lo hi : Nat} {w : World} {l : List α} {a : Option Addr} {n c : Nat} (h : PBlk T m f lo hi w l (.slice a n c)) (hn : n = l.length) : RowM T m mk k a n 0 w ∧ n ≤ c ∧ c ≤ maxLen ∧ (0 < n → ∃ b, a = some ⟨b, 0, none⟩ ∧ lo ≤ b ∧ b < hi) := by
  obtain ⟨a', c', hv, h1, h2, hx⟩ := h
  injection hv with e1 e2 e3
  subst e1 e3
  subst hn
  refine ⟨fun hp => ?_, h1, h2, fun hp => ?_⟩
  · obtain ⟨b, C, ha, hb, hb2, hc, hs, hcl⟩ := hx hp
    exact ⟨b, C, ha, hc, hs, fun j hj => by omega⟩
  · obtain ⟨b, C, ha, hb, hb2, hc, hs, hcl⟩ := hx hp
    exact ⟨b, ha, hb, hb2⟩
end Go.Proofs.YtbckbfjnifafaaaGreatDoor

/- Texts, marked, and held against the marks. -/
namespace Go.Proofs.YtbckbfjnifafaaaGreatDoor
open Go.RowKit
set_option linter.unusedVariables false
set_option linter.unusedSimpArgs false
def mkTxs (k : Nat) : List Value := [(.string (Pl.bs (Pl.mark k)) : Value)]
theorem nextTxs {C : Array Value} {k i n : Nat} {z : Int} (hs : n * 1 ≤ C.size) (hi : i < n) (hz : z = ((k + 1 * i : Nat) : Int)) (hc : ∀ j, j < i → ∀ t u, (mkTxs (k + 1 * j))[t]? = some u → C[j * 1 + t]? = some u)
    {a0 : Nat} (e0 : a0 = i * 1 + 0) :
    ∀ j, j < i + 1 → ∀ t u, (mkTxs (k + 1 * j))[t]? = some u → (C.setIfInBounds a0 ((.string (Pl.bs (Pl.mark (k + i))) : Value)))[j * 1 + t]? = some u := by
  intro j hj t u hu
  subst e0
  by_cases hji : j = i
  · subst hji
    have l0 : j * 1 + 0 < C.size := by omega
    match t, hu with
    | 0, hu =>
      obtain rfl : (.string (Pl.bs (Pl.mark (k + 1 * j))) : Value) = u := by simpa [mkTxs] using hu
      rw [Array.getElem?_setIfInBounds_self_of_lt (by simp; omega), Nat.one_mul]
    | t + 1, hu => simp [mkTxs] at hu
  · have ht : t < 1 := by
      have := (List.getElem?_eq_some_iff.1 hu).1
      simpa [mkTxs] using this
    have hlt : j < i := by omega
    rw [Array.getElem?_setIfInBounds_ne (by omega)]
    exact hc j hlt t u hu
set_option maxRecDepth 100000 in
set_option maxHeartbeats 12800000 in
theorem markTxs_any (n : Nat) (a : Option Addr) (c k : Nat) (h1 : 1 ≤ k) (h2 : k + 1 * n ≤ 100000000) (hnc : n ≤ c) (hcm : c ≤ maxLen) (w : World) (hr : RowM 9 1 mkTxs k a n 0 w) :
    Calls Tryz.prog 34 #[.slice a n c, .int .i64 (k : Int)] w fun x w' => x = .returned (.int .i64 ((k + 1 * n : Nat) : Int)) ∧ RowM 9 1 mkTxs k a n n w' ∧ w.grownBy w' (ownB a n) := by
  unfold maxLen at hcm
  have HR := hide hr
  clear hr
  go_enter Tryz.func34, Tryz.ntmps34
  go_wp2_with fail
  go_loopw [1, 5] (fun kv iv wr => ∃ (i : Nat) (z : Int), i ≤ n ∧ iv = .int .i64 i ∧ kv = .int .i64 z ∧ Hid (z = ((k + 1 * i : Nat) : Int)) ∧ Hid (RowM 9 1 mkTxs k a n i wr) ∧ Hid (w.grownBy wr (ownB a n))) (fun _ iv _ => n - (intOf iv).toNat)
  case atStart => exact ⟨0, k, by omega, rfl, rfl, hide (by simp), HR, hide (gb_refl _ _)⟩
  case round =>
    obtain ⟨i, z, hi, rfl, rfl, HZ, HM, HG⟩ := hrel
    by_cases hlt : i < n
    · obtain ⟨b, C, rfl, hb, hs, hcont⟩ := HM.out (by omega)
      have HB0 := hide hb
      have HS := hide hs
      have HC := hide hcont
      have HG0 : Hid (w.grownBy wr (some b)) := by have h := HG.out; rw [ownB_some b (by omega)] at h; exact h
      have hz0 : 1 ≤ z := by have := HZ.out; omega
      have hz1 : z ≤ 100000000 := by have := HZ.out; omega
      have hii : (i : Int) < (n : Int) := by omega
      clear hb hs hcont HM HG HR
      go_wp2_with fail
      refine (markText_at _ (k + i) (by have := HZ.out; omega) (by omega) (by omega) _).mono ?_
      rintro x0 Y0 ⟨rfl, hB0⟩
      have hbk := HB0.out
      have HB1 := hide ((hB0.block b (Array.getElem?_eq_some_iff.1 hbk).1).trans hbk)
      have HG1 := hide (gb_later HG0.out hB0)
      clear hB0 hbk 
      obtain ⟨u0, c0⟩ : ∃ u, Y0.cell? ⟨b, i, none⟩ = some u := cell_in HB1.out (by (try simp only [Array.size_setIfInBounds]); have := HS.out; omega)
      have f0 : Y0.frozen? ⟨b, i, none⟩ = false := free_of_block HB1.out _
      go_wp2_with fail
      go_roundw
      case rel => exact ⟨i + 1, _, by omega, by go_num, rfl, hide (by have := HZ.out; omega), hide (fun _ => ⟨b, _, rfl, (block_set HB1.out i (.string (Pl.bs (Pl.mark (k + i))) : Value)), by simp only [Array.size_setIfInBounds]; exact HS.out, nextTxs HS.out hlt HZ.out HC.out (by omega)⟩), hide (by rw [ownB_some b (by omega)]; exact (gb_set HG1.out))⟩
      case measure => simp [intOf]; omega
    · have hie : i = n := by omega
      have HE : Hid (z = ((k + 1 * n : Nat) : Int)) := by rw [← hie]; exact HZ
      have HD : Hid (RowM 9 1 mkTxs k a n n wr) := by rw [hie] at HM; exact HM
      clear hie
      go_wp2_with fail
      go_ret
      exact ⟨by rw [← HE.out]; rfl, HD.out, HG.out⟩
end Go.Proofs.YtbckbfjnifafaaaGreatDoor

/- Texts, marked, and held against the marks. -/
namespace Go.Proofs.YtbckbfjnifafaaaGreatDoor
open Go.RowKit
set_option linter.unusedVariables false
set_option linter.unusedSimpArgs false
set_option maxRecDepth 100000 in
set_option maxHeartbeats 12800000 in
theorem heldTxs_any (n : Nat) (a : Option Addr) (c k : Nat) (h1 : 1 ≤ k) (h2 : k + 1 * n ≤ 100000000) (hnc : n ≤ c) (hcm : c ≤ maxLen) (w : World) (hr : RowM 9 1 mkTxs k a n n w) :
    Calls Tryz.prog 43 #[.slice a n c, .int .i64 (k : Int)] w fun x w' => x = .returned (.int .i64 ((k + 1 * n : Nat) : Int)) ∧ Below w.heap.size w w' := by
  unfold maxLen at hcm
  have HR := hide hr
  clear hr
  go_enter Tryz.func43, Tryz.ntmps43
  go_wp2_with fail
  go_loopw [1, 5] (fun kv iv wr => ∃ (i : Nat) (z : Int), i ≤ n ∧ iv = .int .i64 i ∧ kv = .int .i64 z ∧ Hid (z = ((k + 1 * i : Nat) : Int)) ∧ Hid (Below w.heap.size w wr)) (fun _ iv _ => n - (intOf iv).toNat)
  case atStart => exact ⟨0, k, by omega, rfl, rfl, hide (by simp), Below.refl _ _⟩
  case round =>
    obtain ⟨i, z, hi, rfl, rfl, HZ, HB⟩ := hrel
    by_cases hlt : i < n
    · obtain ⟨b, C, rfl, hb, hs, hcont⟩ := HR.out (by omega)
      have hbl : b < w.heap.size := (Array.getElem?_eq_some_iff.1 hb).1
      have HCW : Hid (∀ j u, (mkTxs (k + 1 * i))[j]? = some u → wr.cell? ⟨b, i * 1 + j, none⟩ = some u) := hide fun j u hu => (Below.cell HB.out (p := ⟨b, i * 1 + j, none⟩) hbl).trans ((cell_of_block hb _).trans (hcont i hlt j u hu))
      have HGb : Hid (b < wr.heap.size) := by show _ < _; have := HB.out.size; omega
      have hz0 : 1 ≤ z := by have := HZ.out; omega
      have hz1 : z ≤ 100000000 := by have := HZ.out; omega
      have hii : (i : Int) < (n : Int) := by omega
      clear hb hs hcont HR hbl
      have q0 : wr.cell? ⟨b, i, none⟩ = some (.string (Pl.bs (Pl.mark (k + i))) : Value) := ((congrArg (fun x => wr.cell? ⟨b, x, none⟩) (show i = i * 1 + 0 by omega)).trans (HCW.out 0 _ rfl)).trans (by rw [Nat.one_mul])
      have HP0 := HB
      go_wp2_with fail
      refine wp_region_noPanic ?_
      refine wp_region_held_drew (S := fun W => Below wr.heap.size wr W) (by kernel_rfl) (below_drew' (Below.refl _ _)) (fun hHeld => ?_)
      refine wpAnyH_take (i := 0) (oi := Oper.mk (some 12) _ _ _ _ _) (v := ?_) rfl (by kernel_rfl) (by kernel_rfl) (by kernel_rfl) (fun _ _ _ h => h) (Or.inl ⟨by rfl, ?_⟩) (by assumption) ?_
      rotate_left
      · intro w0 hSw
        clear hSw
        go_simp
        all_goals (with_reducible rfl)
      simp only [Act.put, List.setIfInBounds_toArray, List.set_cons_zero, List.set_cons_succ]
      refine wpAnyH_take (i := 1) (oi := Oper.mk (some 13) _ _ _ _ _) (v := ?_) rfl (by kernel_rfl) (by kernel_rfl) (by kernel_rfl) (fun _ _ _ h => h) (Or.inl ⟨by rfl, ?_⟩) (by assumption) ?_
      rotate_left
      · intro w0 hSw
        clear hSw
        go_simp
        all_goals (with_reducible rfl)
      simp only [Act.put, List.setIfInBounds_toArray, List.set_cons_zero, List.set_cons_succ]
      refine wpAnyH_take (i := 2) (oi := Oper.mk (some 14) _ _ _ _ _) (v := ?_) rfl (by kernel_rfl) (by kernel_rfl) (by kernel_rfl) (fun _ _ _ h => h) (Or.inl ⟨by rfl, ?_⟩) (by assumption) ?_
      rotate_left
      · intro w0 hSw
        clear hSw
        go_simp
        all_goals (with_reducible rfl)
      simp only [Act.put, List.setIfInBounds_toArray, List.set_cons_zero, List.set_cons_succ]
      refine wpAnyH_take (i := 3) (oi := Oper.mk (some 15) _ _ _ _ _) (v := ?_) rfl (by kernel_rfl) (by kernel_rfl) (by kernel_rfl) (fun _ _ _ h => h) (Or.inl ⟨by rfl, ?_⟩) (by assumption) ?_
      rotate_left
      · intro w0 hSw
        have z0 : w0.cell? ⟨b, i, none⟩ = some ((.string (Pl.bs (Pl.mark (k + i))) : Value)) := (Below.cell hSw (p := ⟨b, i, none⟩) HGb.out).trans q0
        clear hSw
        go_simp
        all_goals (with_reducible rfl)
      simp only [Act.put, List.setIfInBounds_toArray, List.set_cons_zero, List.set_cons_succ]
      refine wpAnyH_take (i := 4) (oi := Oper.mk (some 16) _ _ _ _ _) (v := ?_) rfl (by kernel_rfl) (by kernel_rfl) (by kernel_rfl) (fun _ _ _ h => h) (Or.inl ⟨by rfl, ?_⟩) (by assumption) ?_
      rotate_left
      · intro w0 hSw
        clear hSw
        go_simp
        all_goals (with_reducible rfl)
      simp only [Act.put, List.setIfInBounds_toArray, List.set_cons_zero, List.set_cons_succ]
      refine wpAnyH_ready (rs := [5]) (by kernel_rfl) (by simp) ?_
      refine AllReadyH.cons (o := Oper.mk (some 17) _ _ _ _ _) rfl (fun K hK => ?_) AllReadyH.nil
      go_simp
      go_at_call 35
      refine (markText_at _ (k + i) (by have := HZ.out; omega) (by omega) (by omega) _).mono ?_
      rintro x0 Y0 ⟨rfl, hB0⟩
      have hHeld' := Below.trans hHeld (hB0.mono hHeld.size)
      clear hB0 hHeld
      go_wp2_with fail
      refine hK.out _ _ hHeld' (fun hHeld => ?_)
      clear hK K hHeld'
      (try simp only [Act.put, List.setIfInBounds_toArray, List.set_cons_zero, List.set_cons_succ])
      refine wpAnyH_take (i := 6) (oi := Oper.mk (some 18) _ _ _ _ _) (v := ?_) rfl (by kernel_rfl) (by kernel_rfl) (by kernel_rfl) (fun _ _ _ h => h) (Or.inl ⟨by rfl, ?_⟩) (by assumption) ?_
      rotate_left
      · intro w0 hSw
        clear hSw
        go_simp
        all_goals (with_reducible rfl)
      simp only [Act.put, List.setIfInBounds_toArray, List.set_cons_zero, List.set_cons_succ]
      refine wpAnyH_done (by kernel_rfl) ?_ _
      refine NoPanic.normal ?_
      replace q0 : Y0.cell? ⟨b, i, none⟩ = some (.string (Pl.bs (Pl.mark (k + i))) : Value) := (Below.cell hHeld (p := ⟨b, i, none⟩) HGb.out).trans q0
      replace HGb : Hid (b < Y0.heap.size) := by show _ < _; have := HGb.out; have := hHeld.size; omega
      have HP1 := hide (HP0.out.trans (hHeld.mono HP0.out.size))
      clear hHeld
      go_wp2_with fail
      go_roundw
      case rel => exact ⟨i + 1, _, by omega, by go_num, rfl, hide (by have := HZ.out; omega), HP1⟩
      case measure => simp [intOf]; omega
    · have hie : i = n := by omega
      have HE : Hid (z = ((k + 1 * n : Nat) : Int)) := by rw [← hie]; exact HZ
      clear hie
      go_wp2_with fail
      go_ret
      exact ⟨by rw [← HE.out]; rfl, HB.out⟩
end Go.Proofs.YtbckbfjnifafaaaGreatDoor

/- What the law on a log that is mended wants: logs in memory of their own, marked and held. -/
namespace Go.Proofs.YtbckbfjnifafaaaGreatDoor
open Go.RowKit
set_option linter.unusedVariables false
set_option linter.unusedSimpArgs false
theorem one_q {w w1 : World} {A : Obj} (hb : Below (w.alloc A).heap.size (w.alloc A) w1) : w1.heap[w.heap.size]? = some A ∧ Below w.heap.size w w1 ∧ w.heap.size < w1.heap.size := one_box hb
theorem gen_code {P : Program} {c : Code} {Q : Exit → Act → World → Prop} {a : Act} {W : World} (p : World → Prop) (h0 : p W) (h : ∀ X, p X → c.wp P Q a X) : c.wp P Q a W := h W h0
abbrev txL (s : List UInt8) : List Value := [sv s]
theorem tx_len (s : List UInt8) : (txL s).length = 1 := rfl
/-- no address, no room -/
def NilC (v : Value) : Prop := ∀ n c, v = .slice none n c → c = 0
/-- texts that lie below a place -/
def TxD (hi : Nat) (W : World) (L : List (List UInt8)) (v : Value) : Prop := PRow 1 txL hi W L v ∧ NilC v
theorem TxD.later {hi : Nat} {W W1 : World} {L : List (List UInt8)} {v : Value} (h : TxD hi W L v) (hB : Below hi W W1) : TxD hi W1 L v := ⟨h.1.later hB, h.2⟩
theorem TxD.up {hi hi' : Nat} {W : World} {L : List (List UInt8)} {v : Value} (h : TxD hi W L v) (hh : hi ≤ hi') : TxD hi' W L v := ⟨h.1.up hh, h.2⟩
theorem TxD.at {hi : Nat} {W : World} {L : List (List UInt8)} {v : Value} (h : TxD hi W L v) (hh : hi ≤ W.heap.size) : TextsAt W v L := by
  obtain ⟨⟨ad, cap, hv, h1, h2, hx⟩, hn⟩ := h
  refine ⟨ad, cap, hv, h1, h2, fun hl => ?_, fun e => by subst e; exact hn _ _ hv⟩
  obtain ⟨g, off, ha, hg, hs⟩ := hx hl
  refine ⟨g, off, ha, by omega, fun i hi => ?_⟩
  have := hs i _ (List.getElem?_eq_getElem hi) 0 _ rfl
  rw [Nat.mul_one, Nat.add_zero] at this
  rw [this, List.getElem?_eq_getElem hi]
  rfl
theorem TxD.of {W : World} {L : List (List UInt8)} {v : Value} (h : TextsAt W v L) : TxD W.heap.size W L v := by
  obtain ⟨ad, cap, hv, h1, h2, hx, hn⟩ := h
  refine ⟨⟨ad, cap, hv, h1, h2, fun hl => ?_⟩, fun n c e => by rw [hv] at e; injection e with e1 e2 e3; rw [← e3]; exact hn e1⟩
  obtain ⟨g, off, ha, hg, hs⟩ := hx hl
  refine ⟨g, off, ha, hg, fun i e he j u hu => ?_⟩
  have hi := (List.getElem?_eq_some_iff.1 he).1
  have h3 := hs i hi
  rw [he] at h3
  match j, hu with
  | 0, hu =>
    obtain rfl : sv e = u := by simpa using hu
    rw [Nat.mul_one, Nat.add_zero]
    exact h3
/-- texts in a block of their own -/
def TxB (lo hi : Nat) (W : World) (L : List (List UInt8)) (v : Value) : Prop := PBlk 9 1 txL lo hi W L v ∧ NilC v
theorem TxB.later {lo hi : Nat} {W W1 : World} {L : List (List UInt8)} {v : Value} (h : TxB lo hi W L v) (hB : Below hi W W1) : TxB lo hi W1 L v := ⟨h.1.later hB, h.2⟩
theorem TxB.up {lo hi lo' hi' : Nat} {W : World} {L : List (List UInt8)} {v : Value} (h : TxB lo hi W L v) (h1 : lo' ≤ lo) (h2 : hi ≤ hi') : TxB lo' hi' W L v := ⟨h.1.up h1 h2, h.2⟩
theorem TxB.mid {lo hi lo' hi' : Nat} {W W1 : World} {L : List (List UInt8)} {v : Value} (h : TxB lo hi W L v) (hB : Mid lo' hi' W W1) (ho : hi ≤ lo' ∨ hi' ≤ lo) : TxB lo hi W1 L v := ⟨h.1.mid hB ho, h.2⟩
theorem TxB.row {lo hi : Nat} {W : World} {L : List (List UInt8)} {v : Value} (h : TxB lo hi W L v) : TxD hi W L v := ⟨h.1.row, h.2⟩
theorem map_flat : ∀ L : List (List UInt8), L.flatMap txL = L.map sv
  | [] => rfl
  | a :: r => by rw [List.flatMap_cons, map_flat r]; rfl
theorem TxB.of_own {W : World} {base : Nat} {L : List (List UInt8)} {v : Value} (h : W.ownsRow base 9 1 v L.length (L.map sv)) : TxB base W.heap.size W L v := by
  rw [← map_flat] at h
  refine ⟨PBlk.of_own tx_len h, fun n c e => ?_⟩
  rcases h.2 with ⟨h1, h0⟩ | ⟨g, cap, cur, hv, _⟩
  · rw [h1] at e; injection e with e1 e2 e3; exact e3.symm
  · rw [hv] at e; injection e with e1 e2 e3; cases e1
theorem own_slice {W : World} {base : Nat} {L : List (List UInt8)} {v : Value} (h : W.ownsRow base 9 1 v L.length (L.map sv)) : ∃ a c, v = .slice a L.length c := ownsRow_form h
/-- texts that are marked from one on -/
def RMt (W : World) (L : List (List UInt8)) (v : Value) : Prop := ∃ a c, v = .slice a L.length c ∧ L.length ≤ c ∧ c ≤ maxLen ∧ RowM 9 1 mkTxs 1 a L.length L.length W
theorem RMt.later {W W1 : World} {L : List (List UInt8)} {v : Value} (h : RMt W L v) (hB : Below W.heap.size W W1) : RMt W1 L v := by
  obtain ⟨a, c, hv, h1, h2, hm⟩ := h
  exact ⟨a, c, hv, h1, h2, hm.later hB⟩
theorem toLogB_any (L : List (List UInt8)) (hN : L.length ≤ 1048576) (v : Value) (w : World) (ht : TextsAt w v L) :
    Calls Tryz.prog 9 #[.agg #[v]] w fun e w' => (∃ a c, e = .returned (.agg #[.slice a L.length c]) ∧ TxB w.heap.size w'.heap.size w' L (.slice a L.length c)) ∧ Below w.heap.size w w' := by
  refine (toLogO_any L hN v w ht).mono ?_
  rintro e w' ⟨⟨g, rfl, h1, h2, hT, C, hC, hs⟩, hB⟩
  refine ⟨⟨_, _, rfl, ⟨_, _, rfl, Nat.le_refl _, by unfold maxLen; omega, fun hl => ⟨g, C, rfl, h1, h2, hC, by omega, fun i e he j u hu => ?_⟩⟩, fun n c e => by injection e with e1; cases e1⟩, hB⟩
  obtain ⟨ad, cap, hv, _, _, hx, _⟩ := hT
  injection hv with e1 e2 e3
  obtain ⟨g', off, ha, _, hc⟩ := hx hl
  rw [← e1] at ha
  injection ha with ha
  injection ha with ha hb
  subst ha hb
  have hi := (List.getElem?_eq_some_iff.1 he).1
  have h3 := hc i hi
  rw [he, cell_of_block hC, Nat.zero_add] at h3
  match j, hu with
  | 0, hu =>
    obtain rfl : sv e = u := by simpa using hu
    rw [Nat.mul_one, Nat.add_zero]
    exact h3
theorem specMendB_any (E : List UInt8 → Nat) (hE : EndIs E) (L : List (List UInt8)) (hN : L.length ≤ 1048576) (hz : ∀ x ∈ L, x.length ≤ 1048576) (v : Value) (w : World) (ht : TextsAt w v L) :
    Calls Tryz.prog 23 #[.agg #[v]] w fun e w' => (∃ a c, e = .returned (.agg #[.slice a (Pl.mendL E L).length c]) ∧ TxD w'.heap.size w' (Pl.mendL E L) (.slice a (Pl.mendL E L).length c)) ∧ Below w.heap.size w w' := by
  refine (specLogMend_any E hE L hN hz v w ht).mono ?_
  rintro e w' ⟨v', rfl, _, hT, hB⟩
  have hD := TxD.of hT
  obtain ⟨ad, cap, rfl, _⟩ := hT
  exact ⟨⟨_, _, rfl, hD⟩, hB⟩
theorem implMendB_any (E : List UInt8 → Nat) (hE : EndIs E) (L : List (List UInt8)) (hz : ∀ x ∈ L, x.length ≤ 1048576) (v : Value) (w : World) (ht : TextsAt w v L) (hG : Glob w) :
    Calls Tryz.prog 24 #[.agg #[v]] w fun e w' => (∃ a c, e = .returned (.agg #[.slice a (Pl.mendL E L).length c]) ∧ TxB w.heap.size w'.heap.size w' (Pl.mendL E L) (.slice a (Pl.mendL E L).length c)) ∧ Below w.heap.size w w' := by
  refine (implLogMend_any E hE L hz v w ht hG).mono ?_
  rintro e w' ⟨v', rfl, ho, hB⟩
  obtain ⟨a, c, rfl⟩ := own_slice ho
  exact ⟨⟨_, _, rfl, TxB.of_own ho⟩, hB⟩
theorem Mid.of_alloc {lo hi : Nat} {W X : World} {O : Obj} (h : Mid lo hi (W.alloc O) X) : Mid lo hi W X :=
  ⟨h.os, h.tape, h.output, by have := h.size; rw [World.size_alloc] at this; omega, fun k hk ho => (h.block k (by rw [World.size_alloc]; omega) ho).trans (((Below.refl _ W).alloc (Nat.le_refl _) O).block k hk)⟩
set_option maxHeartbeats 800000 in
theorem markLogB_any (L : List (List UInt8)) (hN : L.length ≤ 1048576) (v : Value) (lo hi : Nat) (W : World) (h : TxB lo hi W L v) (hh : hi ≤ W.heap.size) :
    Calls Tryz.prog 15 #[.agg #[v], .int .i64 1] W fun e W' => (∃ z : Int, e = .returned (.int .i64 z) ∧ z = ((1 + L.length : Nat) : Int)) ∧ Mid lo hi W W' ∧ RMt W' L v := by
  have hs := hide (fun O => h.1.later ((Below.refl hi W).alloc hh O))
  obtain ⟨⟨a, c, rfl, h1, h2, _⟩, _⟩ := h
  have hm := hide (fun O => markTxs_any L.length a c 1 (by omega) (by omega) h1 h2 (W.alloc O) (RowM.of_blk (hs.out O) rfl).1)
  have hr := hide (RowM.of_blk (mk := mkTxs) (k := 1) (hs.out (.cells #[] 9)) rfl).2.2.2
  clear hs
  go_enter Tryz.func15, Tryz.ntmps15
  go_wp2_with fail
  refine (hm.out _).mono ?_
  rintro e1 w1 ⟨rfl, hM, hg⟩
  have HM := hide (Mid.of_alloc (Mid.of_grown (lo := lo) (hi := hi) hg (fun k hk => by
    obtain ⟨b, ha, hb1, hb2⟩ := hr.out (ownB_pos hk)
    rw [ownB_in hk ha]
    exact ⟨hb1, hb2⟩)))
  have HX := hide hM
  clear hM hg hm hr
  go_wp2
  go_ret
  exact ⟨⟨_, rfl, by omega⟩, HM.out, a, c, rfl, h1, h2, HX.out⟩
set_option maxHeartbeats 800000 in
theorem heldLogB_any (L : List (List UInt8)) (hN : L.length ≤ 1048576) (v : Value) (W : World) (h : RMt W L v) :
    Calls Tryz.prog 22 #[.agg #[v], .int .i64 1] W fun e W' => (∃ z : Int, e = .returned (.int .i64 z) ∧ z = ((1 + L.length : Nat) : Int)) ∧ Below W.heap.size W W' := by
  obtain ⟨a, c, rfl, h1, h2, hm⟩ := h
  have hs := hide (fun O => heldTxs_any L.length a c 1 (by omega) (by omega) h1 h2 (W.alloc O) (hm.later ((Below.refl W.heap.size W).alloc (Nat.le_refl _) O)))
  clear hm
  go_enter Tryz.func22, Tryz.ntmps22
  go_wp2_with fail
  refine (hs.out _).mono ?_
  rintro e1 w1 ⟨rfl, hB1⟩
  obtain ⟨bx, hB, hlt⟩ := one_q hB1
  have HB := hide hB
  clear hB1 bx hB hs
  go_wp2
  go_ret
  exact ⟨⟨_, rfl, by omega⟩, HB.out⟩
end Go.Proofs.YtbckbfjnifafaaaGreatDoor

/- A record put behind a log, as the program has it. -/
namespace Go.Proofs.YtbckbfjnifafaaaGreatDoor
open Go.RowKit
set_option linter.unusedVariables false
set_option linter.unusedSimpArgs false
/-- a text put behind a log -/
def Pl.addL (x : List UInt8) (L : List (List UInt8)) : List (List UInt8) := if (Pl.lastL L).length + x.length ≤ 400 then L.take (L.length - 1) ++ [Pl.lastL L ++ x] else if L.length = 20 then L else L ++ [x]
/-- whether there is room for it -/
def Pl.addB (x : List UInt8) (L : List (List UInt8)) : Bool := decide ((Pl.lastL L).length + x.length ≤ 400) || !decide (L.length = 20)
theorem empty_size {t : ByteArray} (ht : t.toList.isEmpty = true) : t.size = 0 := by
  have h1 : t.toList = [] := by simpa using ht
  rw [ByteArray.toList_eq] at h1
  have : t.data = #[] := by simpa using h1
  cases t
  simp at this
  rw [this]
  rfl
theorem ok_brief {k n : Int} {t : ByteArray} (h : Pl.okB k n t = true) : t.size ≤ 24 := by
  unfold Pl.okB at h
  split at h
  · simp only [Bool.and_eq_true] at h
    have := empty_size h.2; omega
  · split at h
    · simp only [Bool.and_eq_true] at h
      have := empty_size h.2; omega
    · split at h
      · simp only [Bool.and_eq_true] at h
        have h2 := h.2
        unfold Pl.textB at h2
        simp only [Bool.and_eq_true, decide_eq_true_eq] at h2
        exact h2.2
      · cases h
theorem name_brief {s : ByteArray} (h : Pl.nameB s = true) : s.size ≤ 10 := by
  unfold Pl.nameB at h
  simp only [Bool.and_eq_true, decide_eq_true_eq] at h
  exact h.2.2.1
theorem act_brief {k r p : Int} {nm : ByteArray} {o : Bool} {vk vn : Int} {vt : ByteArray} {m : Int} (h : Pl.actB k r p nm o vk vn vt m = true) : nm.size ≤ 10 ∧ vt.size ≤ 24 := by
  have hv := ok_brief (act_parts h).2.2.2.2
  refine ⟨?_, hv⟩
  unfold Pl.actB at h
  split at h
  · simp only [Bool.and_eq_true] at h
    exact name_brief h.2.1
  · split at h
    · simp only [Bool.and_eq_true] at h
      exact name_brief h.2.2.1
    · split at h
      · simp only [Bool.and_eq_true] at h
        have := empty_size h.1.1; omega
      · split at h
        · simp only [Bool.and_eq_true] at h
          have := empty_size h.1.2.1; omega
        · split at h
          · simp only [Bool.and_eq_true] at h
            have := empty_size h.1.2.2.1; omega
          · cases h
theorem rec_brief {k r p : Int} {nm : ByteArray} {o : Bool} {vk vn : Int} {vt : ByteArray} {m : Int} (h : Pl.actB k r p nm o vk vn vt m = true) : (Pl.recT (Pl.actT k r p nm o vk vn vt m)).length ≤ 1000 := by
  obtain ⟨⟨k0, k1⟩, ⟨r0, r1⟩, ⟨p0, p1⟩, ⟨m0, m1⟩, hvo⟩ := act_parts h
  obtain ⟨hn, ht⟩ := act_brief h
  have ztk := itoa_short (n := k) (by omega) (by omega)
  have ztr := itoa_short r0 (by omega)
  have ztp := itoa_short p0 p1
  have ztm := itoa_short m0 m1
  have ztv : (Pl.putV vk vn vt).length ≤ 100 := by
    unfold Pl.putV
    split
    · rename_i k1
      subst k1
      obtain ⟨h0, h1⟩ := ok_num hvo
      unfold Lib.itoa
      split
      · have := dec_size vn.natAbs (by omega); simp; omega
      · have := dec_size vn.toNat (by omega); simp; omega
    · split
      · simp; omega
      · simp
  have zto : (Pl.okL o).length ≤ 2 := by unfold Pl.okL; split <;> simp
  have zcr := crc_short (Pl.bs (Pl.actT k r p nm o vk vn vt m))
  have hnm : nm.data.toList.length = nm.size := by simp
  have hat : (Pl.actT k r p nm o vk vn vt m).length ≤ 300 := by
    rw [Pl.bs_size] at *
    simp only [Pl.actT, List.length_append, List.length_cons, List.length_nil]
    omega
  rw [Pl.bs_size] at zcr
  simp only [Pl.recT, List.length_append, List.length_cons, List.length_nil]
  omega
set_option maxRecDepth 100000 in
set_option maxHeartbeats 3200000 in
theorem add_any (n0 R : Nat) (L : List (List UInt8)) (f : Nat → Nat) (x : List UInt8) (h1 : 1 ≤ L.length) (hL : L.length ≤ 20) (hzl : (Pl.lastL L).length ≤ 1048576) (hx : x.length ≤ 1048576) (W : World) (h : RingAt n0 R L f W) (hn : n0 ≤ W.heap.size) :
    Calls Tryz.prog 59 #[pt R, .string (Pl.bs x)] W fun e W' => e = .returned (.bool (Pl.addB x L)) ∧ (∃ f', RingAt n0 R (Pl.addL x L) f' W') ∧ Below n0 W W' := by
  have hla := hide (last_any n0 R L f h1 W h)
  have hp := h.piece (L.length - 1) (by omega)
  rw [if_pos (by omega)] at hp
  have hll : L[L.length - 1]?.getD [] = Pl.lastL L := rfl
  rw [hll] at hp
  have HS := hide (h.setLast h1 (Pl.lastL L ++ x))
  have hpu := hide (push_any n0 R L (by omega) f x W h hn)
  have hr := h.ring
  rw [if_neg (by omega)] at hr
  have HPB := hide (h.lie (L.length - 1) (by omega))
  have HRW := hide h
  have d0 := cell_of_block hp 0
  have f0 := free_of_block hp 0
  have q1 := cell_of_block hr 1
  simp only [List.getElem?_toArray, List.getElem?_cons_zero, List.getElem?_cons_succ] at d0 q1
  have hPl : f (L.length - 1) < W.heap.size := (Array.getElem?_eq_some_iff.1 hp).1
  have hRl : R < W.heap.size := (Array.getElem?_eq_some_iff.1 hr).1
  have HI : Hid (Pl.addL x L = if (Pl.lastL L).length + x.length ≤ 400 then L.take (L.length - 1) ++ [Pl.lastL L ++ x] else if L.length = 20 then L else L ++ [x]) := rfl
  have HJ : Hid (Pl.addB x L = (decide ((Pl.lastL L).length + x.length ≤ 400) || !decide (L.length = 20))) := rfl
  have hbs := Pl.bs_size (Pl.lastL L)
  have hbx := Pl.bs_size x
  have happ := hide (bs_append (Pl.lastL L) x)
  clear h hp hr hll
  generalize Pl.lastL L = X at *
  generalize hP : f (L.length - 1) = P at *
  clear hP
  by_cases hfit : X.length + x.length ≤ 400
  · have HM : Hid (Pl.addL x L = L.take (L.length - 1) ++ [X ++ x]) := by show _ = _; rw [HI.out, if_pos hfit]
    have HB : Hid (Pl.addB x L = true) := by show _ = _; rw [HJ.out, decide_eq_true hfit]; rfl
    have hq : (((Pl.bs X).size : Int) + ((Pl.bs x).size : Int)) ≤ 400 := by omega
    clear hfit
    go_enter Tryz.func59, Tryz.ntmps59
    go_wp2_with fail
    refine hla.out.mono ?_
    rintro e w1 ⟨rfl, rfl⟩
    go_wp2
    go_ret
    refine ⟨by rw [HB.out]; rfl, ⟨f, ?_⟩, (Below.refl _ _).setCell (p := ⟨P, 0, none⟩) HPB.out _⟩
    rw [HM.out, happ.out]
    exact HS.out
  · have hq : ¬ (((Pl.bs X).size : Int) + ((Pl.bs x).size : Int)) ≤ 400 := by omega
    by_cases h20 : L.length = 20
    · have HM : Hid (Pl.addL x L = L) := by show _ = _; rw [HI.out, if_neg hfit, if_pos h20]
      have HB : Hid (Pl.addB x L = false) := by show _ = _; rw [HJ.out, decide_eq_false hfit, decide_eq_true h20]; rfl
      have hm : ((L.length : Int) == 20) = true := by rw [h20]; rfl
      clear hfit h20
      go_enter Tryz.func59, Tryz.ntmps59
      go_wp2_with fail
      refine hla.out.mono ?_
      rintro e w1 ⟨rfl, rfl⟩
      go_wp2
      go_ret
      refine ⟨by rw [HB.out]; rfl, ⟨f, ?_⟩, Below.refl _ _⟩
      rw [HM.out]
      exact HRW.out
    · have HM : Hid (Pl.addL x L = L ++ [x]) := by show _ = _; rw [HI.out, if_neg hfit, if_neg h20]
      have HB : Hid (Pl.addB x L = true) := by show _ = _; rw [HJ.out, decide_eq_false hfit, decide_eq_false h20]; rfl
      have hm : ((L.length : Int) == 20) = false := by simp; omega
      clear hfit h20
      go_enter Tryz.func59, Tryz.ntmps59
      go_wp2_with fail
      refine hla.out.mono ?_
      rintro e w1 ⟨rfl, rfl⟩
      go_wp2_with fail
      refine hpu.out.mono ?_
      rintro e w2 ⟨rfl, hr2, hB2⟩
      have HR2 := hide hr2
      have HB2 := hide hB2
      clear hr2 hB2
      go_wp2
      go_ret
      refine ⟨by rw [HB.out]; rfl, ?_, HB2.out⟩
      rw [HM.out]
      exact ⟨_, HR2.out⟩
theorem addL_lim (x : List UInt8) (L : List (List UInt8)) (h1 : 1 ≤ L.length) (h2 : L.length ≤ 20) : 1 ≤ (Pl.addL x L).length ∧ (Pl.addL x L).length ≤ 21 := by
  unfold Pl.addL
  split
  · rw [List.length_append, List.length_take, List.length_singleton]; omega
  · split
    · omega
    · rw [List.length_append, List.length_singleton]; omega
theorem addL_small (x : List UInt8) (L : List (List UInt8)) (hx : x.length ≤ 1048576) (hz : ∀ s ∈ L, s.length ≤ 1048576) : ∀ s ∈ Pl.addL x L, s.length ≤ 1048576 := by
  unfold Pl.addL
  split
  · intro s hs
    rcases List.mem_append.1 hs with h | h
    · exact hz s (List.mem_of_mem_take h)
    · rw [List.mem_singleton.1 h, List.length_append]; omega
  · split
    · exact hz
    · intro s hs
      rcases List.mem_append.1 hs with h | h
      · exact hz s h
      · rw [List.mem_singleton.1 h]; exact hx
theorem last_small (L : List (List UInt8)) (hz : ∀ s ∈ L, s.length ≤ 1048576) : (Pl.lastL L).length ≤ 1048576 := by
  unfold Pl.lastL
  cases h : L[L.length - 1]? with
  | none => simp
  | some s => exact hz s (List.mem_of_getElem? h)
end Go.Proofs.YtbckbfjnifafaaaGreatDoor

/- An act put behind a log that is ok, as the program has it. -/
namespace Go.Proofs.YtbckbfjnifafaaaGreatDoor
open Go.RowKit
set_option linter.unusedVariables false
set_option linter.unusedSimpArgs false
set_option maxRecDepth 100000 in
set_option maxHeartbeats 3200000 in
theorem logAdd_any (k r p : Int) (nm : ByteArray) (o : Bool) (vk vn : Int) (vt : ByteArray) (m : Int) (hn : nm.size ≤ 1048576) (ht : vt.size ≤ 1048576) (L : List (List UInt8)) (h1 : 1 ≤ L.length) (h2 : L.length ≤ 20) (hz : ∀ x ∈ L, x.length ≤ 1048576) (v : Value) (w : World) (hT : TextsAt w v L) (hG : Glob w) :
    Calls Tryz.prog 42 #[lgV v, actV k r p nm o vk vn vt m] w fun e w' => ∃ v', e = .returned (.tuple #[lgV v', .bool (Pl.actB k r p nm o vk vn vt m && Pl.addB (Pl.recT (Pl.actT k r p nm o vk vn vt m)) L)]) ∧ w'.ownsRow w.heap.size 9 1 v' (if Pl.actB k r p nm o vk vn vt m then Pl.addL (Pl.recT (Pl.actT k r p nm o vk vn vt m)) L else L).length ((if Pl.actB k r p nm o vk vn vt m then Pl.addL (Pl.recT (Pl.actT k r p nm o vk vn vt m)) L else L).map sv) ∧ Below w.heap.size w w' := by
  have HT := hide (fun W (hW : Below w.heap.size w W) => hT.later hW)
  have HG := hide hG
  have HZ := hide hz
  have hoc := hide (fun W => implActOk_any k r p nm o vk vn vt m (by unfold maxLen; omega) (by unfold maxLen; omega) W)
  have hrp := hide (fun W hW => implRecordPut_any k r p nm o vk vn vt m hn ht W hW)
  have HLS := hide (last_small L hz)
  obtain ⟨ad, cap, hv, _⟩ := id hT
  subst hv
  clear hT hG hz
  cases hok : Pl.actB k r p nm o vk vn vt m
  · have hoc2 := hide (fun W => (hoc.out W).mono (fun e w' h => by rw [hok] at h; exact h))
    clear hoc hrp
    go_enter Tryz.func42, Tryz.ntmps42
    go_wp2_with fail
    refine (ringOf_any L h2 _ _ (HT.out _ ((((Below.refl _ _).alloc (Nat.le_refl _) _).alloc (by simp) _).alloc (by simp; omega) _))).mono ?_
    rintro e1 w1 ⟨R, f, rfl, hr, hB1⟩
    obtain ⟨b0, b1, b2, hsz, hB⟩ := boxes3 hB1
    have c0 := cell_of_block b1 0
    have c1 := cell_of_block b1 1
    have c2 := cell_of_block b1 2
    have c3 := cell_of_block b1 3
    have c4 := cell_of_block b1 4
    have c5 := cell_of_block b1 5
    have c6 := cell_of_block b1 6
    have c7 := cell_of_block b1 7
    have c8 := cell_of_block b1 8
    simp only [List.getElem?_toArray, List.getElem?_cons_zero, List.getElem?_cons_succ] at c0 c1 c2 c3 c4 c5 c6 c7 c8
    have HR1 := hide hr
    have HB1 := hide hB
    have HX1 := hide b2
    have hl1 : w.heap.size + 1 < w1.heap.size := by omega
    clear hB1 b0 b1 b2 hB hr
    go_wp2_with fail
    refine (hoc2.out _).mono ?_
    rintro e2 w2 ⟨rfl, hB2⟩
    have HR2 := hide (HR1.out.later hB2)
    have HX2 := hide ((hB2.block _ (by omega)).trans HX1.out)
    have HB2 := hide (HB1.out.trans (hB2.mono HB1.out.size))
    have hs2 := hB2.size
    have hlg := hide (log_any _ R L f h1 (by omega) HZ.out w2 HR2.out)
    clear hB2 c0 c1 c2 c3 c4 c5 c6 c7 c8 HR1 HX1 HB1
    go_wp2_with fail
    refine hlg.out.mono ?_
    rintro e7 w7 ⟨v7, rfl, ho7, hB7⟩
    obtain ⟨a7, c7, rfl⟩ := ownsRow_form ho7
    have hx7 := (hB7.block _ (by omega)).trans HX2.out
    have r7 := cell_of_block hx7 0
    have f7 := free_of_block hx7 0
    have m7 := cell_of_block (block_set hx7 0 (.slice a7 L.length c7)) 0
    simp only [List.setIfInBounds_toArray, List.set_cons_zero, List.getElem?_toArray, List.getElem?_cons_zero] at r7 m7
    have HO7 := hide (own_base2 (ho7.kept (grownBy_setCell' w7 (w.heap.size + 1 + 1) (.slice a7 L.length c7)) (by
      cases hv : (Value.slice a7 L.length c7).ownBlock with
      | none => exact .inl rfl
      | some k => exact .inr (fun e => by injection e with e; have := (ho7.lt k hv).1; omega))) (show w.heap.size ≤ w2.heap.size by omega))
    have HB7 := hide ((HB2.out.trans (hB7.mono (by omega))).setCell (p := ⟨w.heap.size + 1 + 1, 0, none⟩) (by show w.heap.size ≤ w.heap.size + 1 + 1; omega) (.slice a7 L.length c7))
    have hs7 := hB7.size
    clear hB7 ho7 hx7 hlg
    go_wp2
    refine bodyPost_ret (v := .tuple #[lgV (.slice a7 L.length c7), .bool false]) (by simp [results, Tryz.results42, go_sem, m7]) rfl ?_
    exact ⟨_, rfl, HO7.out, HB7.out⟩
  · have hoc2 := hide (fun W => (hoc.out W).mono (fun e w' h => by rw [hok] at h; exact h))
    have hP : Pl.recP (Pl.actP k r p nm o vk vn vt m) = Pl.recT (Pl.actT k r p nm o vk vn vt m) := by
      unfold Pl.actP Pl.recP
      rw [if_pos hok, if_neg (actT_ne k r p nm o vk vn vt m)]
    rw [hP] at hrp
    have hxl : (Pl.recT (Pl.actT k r p nm o vk vn vt m)).length ≤ 1048576 := by have := rec_brief hok; omega
    simp only [if_true, Bool.true_and]
    generalize Pl.recT (Pl.actT k r p nm o vk vn vt m) = x at *
    have hlim := addL_lim x L h1 h2
    have HSM := hide (addL_small x L hxl HZ.out)
    have hadd := hide (fun n0 R f W h hn => add_any n0 R L f x h1 h2 HLS.out hxl W h hn)
    clear hoc hP hok
    generalize Pl.addL x L = M at *
    generalize Pl.addB x L = b at *
    go_enter Tryz.func42, Tryz.ntmps42
    go_wp2_with fail
    refine (ringOf_any L h2 _ _ (HT.out _ ((((Below.refl _ _).alloc (Nat.le_refl _) _).alloc (by simp) _).alloc (by simp; omega) _))).mono ?_
    rintro e1 w1 ⟨R, f, rfl, hr, hB1⟩
    obtain ⟨b0, b1, b2, hsz, hB⟩ := boxes3 hB1
    have c0 := cell_of_block b1 0
    have c1 := cell_of_block b1 1
    have c2 := cell_of_block b1 2
    have c3 := cell_of_block b1 3
    have c4 := cell_of_block b1 4
    have c5 := cell_of_block b1 5
    have c6 := cell_of_block b1 6
    have c7 := cell_of_block b1 7
    have c8 := cell_of_block b1 8
    simp only [List.getElem?_toArray, List.getElem?_cons_zero, List.getElem?_cons_succ] at c0 c1 c2 c3 c4 c5 c6 c7 c8
    have HR1 := hide hr
    have HB1 := hide hB
    have HX1 := hide b2
    have HY1 := hide b1
    have hl1 : w.heap.size + 1 < w1.heap.size := by omega
    have hn0 : (((w.alloc (.cells #[.slice ad L.length cap] 27)).alloc (.cells #[.int .i64 k, .int .i64 r, .int .i64 p, .string nm, .bool o, .int .i64 vk, .int .i64 vn, .string vt, .int .i64 m] 45)).alloc (.cells #[.slice none 0 0] 27)).heap.size = w.heap.size + 3 := by simp
    rw [hn0] at HR1
    clear hB1 b0 b1 b2 hB hr hn0
    go_wp2_with fail
    refine (hoc2.out _).mono ?_
    rintro e2 w2 ⟨rfl, hB2⟩
    have HR2 := hide (HR1.out.later hB2)
    have HX2 := hide ((hB2.block _ (by omega)).trans HX1.out)
    have hy2 := (hB2.block _ hl1).trans HY1.out
    have HB2 := hide (HB1.out.trans (hB2.mono HB1.out.size))
    have hs2 := hB2.size
    have hl2 : w.heap.size + 1 < w2.heap.size := by omega
    clear hB2 c0 c1 c2 c3 c4 c5 c6 c7 c8 HR1 HX1 HB1 HY1
    have c0 := cell_of_block hy2 0
    have c1 := cell_of_block hy2 1
    have c2 := cell_of_block hy2 2
    have c3 := cell_of_block hy2 3
    have c4 := cell_of_block hy2 4
    have c5 := cell_of_block hy2 5
    have c6 := cell_of_block hy2 6
    have c7 := cell_of_block hy2 7
    have c8 := cell_of_block hy2 8
    simp only [List.getElem?_toArray, List.getElem?_cons_zero, List.getElem?_cons_succ] at c0 c1 c2 c3 c4 c5 c6 c7 c8
    clear hy2
    go_wp2_with fail
    refine (hrp.out _ (HG.out.later HB2.out).1).mono ?_
    rintro e3 w3 ⟨rfl, hB3⟩
    have HR3 := hide (HR2.out.later hB3)
    have HX3 := hide ((hB3.block _ (by omega)).trans HX2.out)
    have HB3 := hide (HB2.out.trans (hB3.mono HB2.out.size))
    have hs3 := hB3.size
    clear hB3 c0 c1 c2 c3 c4 c5 c6 c7 c8 HR2 HX2 HB2
    go_wp2_with fail
    refine (hadd.out _ R f w3 HR3.out (by omega)).mono ?_
    rintro e4 w4 ⟨rfl, ⟨f4, hr4⟩, hB4⟩
    have HR4 := hide hr4
    have HX4 := hide ((hB4.block _ (by omega)).trans HX3.out)
    have HB4 := hide (HB3.out.trans (hB4.mono (by omega)))
    have hs4 := hB4.size
    have hlg := hide (log_any _ R M f4 hlim.1 (by omega) HSM.out w4 HR4.out)
    clear hB4 hr4 HR3 HX3 HB3
    go_wp2_with fail
    refine hlg.out.mono ?_
    rintro e7 w7 ⟨v7, rfl, ho7, hB7⟩
    obtain ⟨a7, c7, rfl⟩ := ownsRow_form ho7
    have hx7 := (hB7.block _ (by omega)).trans HX4.out
    have r7 := cell_of_block hx7 0
    have f7 := free_of_block hx7 0
    have m7 := cell_of_block (block_set hx7 0 (.slice a7 M.length c7)) 0
    simp only [List.setIfInBounds_toArray, List.set_cons_zero, List.getElem?_toArray, List.getElem?_cons_zero] at r7 m7
    have HO7 := hide (own_base2 (ho7.kept (grownBy_setCell' w7 (w.heap.size + 1 + 1) (.slice a7 M.length c7)) (by
      cases hv : (Value.slice a7 M.length c7).ownBlock with
      | none => exact .inl rfl
      | some k => exact .inr (fun e => by injection e with e; have := (ho7.lt k hv).1; omega))) (show w.heap.size ≤ w4.heap.size by omega))
    have HB7 := hide ((HB4.out.trans (hB7.mono (by omega))).setCell (p := ⟨w.heap.size + 1 + 1, 0, none⟩) (by show w.heap.size ≤ w.heap.size + 1 + 1; omega) (.slice a7 M.length c7))
    have hs7 := hB7.size
    clear hB7 ho7 hx7 hlg
    go_wp2
    refine bodyPost_ret (v := .tuple #[lgV (.slice a7 M.length c7), .bool b]) (by simp [results, Tryz.results42, go_sem, m7]) rfl ?_
    exact ⟨_, rfl, HO7.out, HB7.out⟩
end Go.Proofs.YtbckbfjnifafaaaGreatDoor

/- An act added to a log, as the program has it. -/
namespace Go.Proofs.YtbckbfjnifafaaaGreatDoor
open Go.RowKit
set_option linter.unusedVariables false
set_option linter.unusedSimpArgs false
/-- a log with one act more, if it is ok, and the act is, and there is room -/
def Pl.addA (E : List UInt8 → Nat) (ok : Bool) (x : List UInt8) (L : List (List UInt8)) : List (List UInt8) := if Pl.logI E L = true then (if ok = true then Pl.addL x L else L) else []
def Pl.addR (E : List UInt8 → Nat) (ok : Bool) (x : List UInt8) (L : List (List UInt8)) : Bool := Pl.logI E L && (ok && Pl.addB x L)
theorem logI_lim {E : List UInt8 → Nat} {L : List (List UInt8)} (h : Pl.logI E L = true) : 1 ≤ L.length ∧ L.length ≤ 20 := by
  unfold Pl.logI Pl.mends at h
  simp only [Bool.and_eq_true, decide_eq_true_eq] at h
  exact h.1.1
set_option maxRecDepth 100000 in
set_option maxHeartbeats 3200000 in
theorem implLogAdd_any (E : List UInt8 → Nat) (hE : EndIs E) (k r p : Int) (nm : ByteArray) (o : Bool) (vk vn : Int) (vt : ByteArray) (m : Int) (hn : nm.size ≤ 1048576) (ht : vt.size ≤ 1048576) (L : List (List UInt8)) (hz : ∀ x ∈ L, x.length ≤ 1048576) (v : Value) (w : World) (hT : TextsAt w v L) (hG : Glob w) :
    Calls Tryz.prog 21 #[.agg #[v], actV k r p nm o vk vn vt m] w fun e w' => (∃ a c, e = .returned (.tuple #[.agg #[.slice a (Pl.addA E (Pl.actB k r p nm o vk vn vt m) (Pl.recT (Pl.actT k r p nm o vk vn vt m)) L).length c], .bool (Pl.addR E (Pl.actB k r p nm o vk vn vt m) (Pl.recT (Pl.actT k r p nm o vk vn vt m)) L)]) ∧ TxB w.heap.size w'.heap.size w' (Pl.addA E (Pl.actB k r p nm o vk vn vt m) (Pl.recT (Pl.actT k r p nm o vk vn vt m)) L) (.slice a (Pl.addA E (Pl.actB k r p nm o vk vn vt m) (Pl.recT (Pl.actT k r p nm o vk vn vt m)) L).length c)) ∧ Below w.heap.size w w' := by
  have hb0 : ∀ W, Below w.heap.size w W → TextsAt W v L ∧ Glob W := fun W hW => ⟨hT.later hW, hG.later hW⟩
  have HT := hide hb0
  have hlo := hide (fun W (hW : Below w.heap.size w W) => implLogOk_any E hE L hz v W (hT.later hW) (hG.later hW))
  have HZ := hide hz
  obtain ⟨ad, cap, hv, _⟩ := id hT
  subst hv
  clear hT hG hz hb0
  have HM : Hid ((Pl.addA E (Pl.actB k r p nm o vk vn vt m) (Pl.recT (Pl.actT k r p nm o vk vn vt m)) L) = if Pl.logI E L = true then (if Pl.actB k r p nm o vk vn vt m = true then Pl.addL (Pl.recT (Pl.actT k r p nm o vk vn vt m)) L else L) else []) := rfl
  have HR : Hid ((Pl.addR E (Pl.actB k r p nm o vk vn vt m) (Pl.recT (Pl.actT k r p nm o vk vn vt m)) L) = (Pl.logI E L && (Pl.actB k r p nm o vk vn vt m && Pl.addB (Pl.recT (Pl.actT k r p nm o vk vn vt m)) L))) := rfl
  cases hlg : Pl.logI E L
  · rw [hlg] at hlo HM HR
    have HM2 : Hid ((Pl.addA E (Pl.actB k r p nm o vk vn vt m) (Pl.recT (Pl.actT k r p nm o vk vn vt m)) L) = []) := by show _ = _; rw [HM.out]; rfl
    have HR2 : Hid ((Pl.addR E (Pl.actB k r p nm o vk vn vt m) (Pl.recT (Pl.actT k r p nm o vk vn vt m)) L) = false) := by show _ = _; rw [HR.out]; rfl
    clear HM HR
    go_enter Tryz.func21, Tryz.ntmps21
    go_wp2_with fail
    refine (hlo.out _ ((((Below.refl _ _).alloc (Nat.le_refl _) _).alloc (by simp) _).alloc (by simp; omega) _)).mono ?_
    rintro e1 w1 ⟨rfl, hB1⟩
    obtain ⟨b0, b1, b2, hsz, hB⟩ := boxes3 hB1
    have r2 := cell_of_block b2 0
    have f2 := free_of_block b2 0
    have m2 := cell_of_block (block_set b2 0 (.slice none 0 0)) 0
    simp only [List.setIfInBounds_toArray, List.set_cons_zero, List.getElem?_toArray, List.getElem?_cons_zero] at r2 m2
    have HB := hide (hB.setCell (p := ⟨w.heap.size + 1 + 1, 0, none⟩) (by show w.heap.size ≤ w.heap.size + 1 + 1; omega) (.slice none 0 0))
    clear hB1 b0 b1 b2 hB hlo
    go_wp2
    refine bodyPost_ret (v := .tuple #[.agg #[.slice none 0 0], .bool false]) (by simp [results, Tryz.results21, go_sem, m2]) rfl ?_
    rw [HM2.out, HR2.out]
    exact ⟨⟨none, 0, rfl, ⟨none, 0, rfl, Nat.le_refl _, by unfold maxLen; omega, fun h => by simp at h⟩, fun n c e => by injection e with e1 e2 e3; exact e3.symm⟩, HB.out⟩
  · obtain ⟨hl1, hl2⟩ := logI_lim hlg
    rw [hlg] at hlo HM HR
    have HM2 : Hid ((Pl.addA E (Pl.actB k r p nm o vk vn vt m) (Pl.recT (Pl.actT k r p nm o vk vn vt m)) L) = if Pl.actB k r p nm o vk vn vt m = true then Pl.addL (Pl.recT (Pl.actT k r p nm o vk vn vt m)) L else L) := by show _ = _; rw [HM.out, if_pos rfl]
    have HR2 : Hid ((Pl.addR E (Pl.actB k r p nm o vk vn vt m) (Pl.recT (Pl.actT k r p nm o vk vn vt m)) L) = (Pl.actB k r p nm o vk vn vt m && Pl.addB (Pl.recT (Pl.actT k r p nm o vk vn vt m)) L)) := by show _ = _; rw [HR.out]; rfl
    have hla := hide (fun v W (hT : TextsAt W v L) (hG : Glob W) => logAdd_any k r p nm o vk vn vt m hn ht L hl1 hl2 HZ.out v W hT hG)
    clear HM HR hlg
    rw [HM2.out, HR2.out]
    clear HM2 HR2
    generalize (if Pl.actB k r p nm o vk vn vt m = true then Pl.addL (Pl.recT (Pl.actT k r p nm o vk vn vt m)) L else L) = M at *
    generalize (Pl.actB k r p nm o vk vn vt m && Pl.addB (Pl.recT (Pl.actT k r p nm o vk vn vt m)) L) = b at *
    go_enter Tryz.func21, Tryz.ntmps21
    go_wp2_with fail
    refine (hlo.out _ ((((Below.refl _ _).alloc (Nat.le_refl _) _).alloc (by simp) _).alloc (by simp; omega) _)).mono ?_
    rintro e1 w1 ⟨rfl, hB1⟩
    obtain ⟨b0, b1, b2, hsz, hB⟩ := boxes3 hB1
    have x0 := cell_of_block b0 0
    simp only [List.getElem?_toArray, List.getElem?_cons_zero] at x0
    have c0 := cell_of_block b1 0
    have c1 := cell_of_block b1 1
    have c2 := cell_of_block b1 2
    have c3 := cell_of_block b1 3
    have c4 := cell_of_block b1 4
    have c5 := cell_of_block b1 5
    have c6 := cell_of_block b1 6
    have c7 := cell_of_block b1 7
    have c8 := cell_of_block b1 8
    simp only [List.getElem?_toArray, List.getElem?_cons_zero, List.getElem?_cons_succ] at c0 c1 c2 c3 c4 c5 c6 c7 c8
    have HX1 := hide b2
    have HB1 := hide hB
    have hl0 : w.heap.size < w1.heap.size := by omega
    have hl01 : w.heap.size + 1 < w1.heap.size := by omega
    clear hB1 b0 b1 b2 hB hlo
    go_wp2_with fail
    refine (hla.out _ w1 (HT.out _ HB1.out).1 (HT.out _ HB1.out).2).mono ?_
    rintro e2 w2 ⟨v7, rfl, ho7, hB7⟩
    obtain ⟨a7, q7, rfl⟩ := ownsRow_form ho7
    have hx7 := (hB7.block _ (by omega)).trans HX1.out
    have r7 := cell_of_block hx7 0
    have f7 := free_of_block hx7 0
    have m7 := cell_of_block (block_set hx7 0 (.slice a7 M.length q7)) 0
    simp only [List.setIfInBounds_toArray, List.set_cons_zero, List.getElem?_toArray, List.getElem?_cons_zero] at r7 m7
    have hs7 := hB7.size
    have HO7 := hide (own_base2 (ho7.kept (grownBy_setCell' w2 (w.heap.size + 1 + 1) (.slice a7 M.length q7)) (by
      cases hv : (Value.slice a7 M.length q7).ownBlock with
      | none => exact .inl rfl
      | some k => exact .inr (fun e => by injection e with e; have := (ho7.lt k hv).1; omega))) (show w.heap.size ≤ w1.heap.size by omega))
    have HB7 := hide ((HB1.out.trans (hB7.mono (by omega))).setCell (p := ⟨w.heap.size + 1 + 1, 0, none⟩) (by show w.heap.size ≤ w.heap.size + 1 + 1; omega) (.slice a7 M.length q7))
    clear hB7 ho7 hx7 hla c0 c1 c2 c3 c4 c5 c6 c7 c8 x0
    go_wp2
    refine bodyPost_ret (v := .tuple #[.agg #[.slice a7 M.length q7], .bool b]) (by simp [results, Tryz.results21, go_sem, m7]) rfl ?_
    exact ⟨⟨_, _, rfl, TxB.of_own HO7.out⟩, HB7.out⟩
end Go.Proofs.YtbckbfjnifafaaaGreatDoor

/- A record put behind a log, as the specification has it. -/
namespace Go.Proofs.YtbckbfjnifafaaaGreatDoor
open Go.RowKit
set_option linter.unusedVariables false
set_option linter.unusedSimpArgs false
theorem take_set (L : List (List UInt8)) (m : Nat) (hm : L.length = m + 1) (y : List UInt8) : (L.map sv).set m (sv y) = (L.take m ++ [y]).map sv := by
  apply List.ext_getElem?
  intro i
  by_cases hi : i = m
  · subst hi
    rw [List.getElem?_set_self (by simp; omega), List.getElem?_map, List.getElem?_append_right (by simp; omega), List.length_take, show i - min i L.length = 0 by omega]
    rfl
  · rw [List.getElem?_set_ne (by omega), List.getElem?_map, List.getElem?_map]
    by_cases hlt : i < m
    · rw [List.getElem?_append_left (by rw [List.length_take]; omega), List.getElem?_take, if_pos hlt]
    · rw [List.getElem?_eq_none (by omega), List.getElem?_eq_none (by simp; omega)]
theorem one_text (w : World) (s : List UInt8) : TextsAt (w.alloc (.cells #[sv s] 9)) (.slice (some ⟨w.heap.size, 0, none⟩) 1 1) [s] :=
  ⟨_, _, rfl, Nat.le_refl _, by unfold maxLen; omega, fun _ => ⟨w.heap.size, 0, rfl, by simp, fun i hi => by
    obtain rfl : i = 0 := by simp at hi; omega
    rw [cell_of_block (by rw [heap_alloc_at, if_pos rfl])]
    simp⟩, fun h => by cases h⟩
set_option maxRecDepth 100000 in
set_option maxHeartbeats 3200000 in
theorem l8Add_any (x : List UInt8) (hx : x.length ≤ 1048576) (L : List (List UInt8)) (h1 : 1 ≤ L.length) (h2 : L.length ≤ 20) (hz : ∀ s ∈ L, s.length ≤ 1048576) (v : Value) (w : World) (ht : TextsAt w v L) :
    Calls Tryz.prog 39 #[lsV v, .string (Pl.bs x)] w fun e w' => ∃ v', e = .returned (.tuple #[lsV v', .bool (Pl.addB x L)]) ∧ w'.ownsRow w.heap.size 9 1 v' (Pl.addL x L).length ((Pl.addL x L).map sv) ∧ Below w.heap.size w w' := by
  have hcp := hide (fun W (hW : Below w.heap.size w W) => l8Copy_any L (by omega) v W (ht.later hW))
  have HLS := hide (last_small L hz)
  have HI : Hid (Pl.addL x L = if (Pl.lastL L).length + x.length ≤ 400 then L.take (L.length - 1) ++ [Pl.lastL L ++ x] else if L.length = 20 then L else L ++ [x]) := rfl
  have HJ : Hid (Pl.addB x L = (decide ((Pl.lastL L).length + x.length ≤ 400) || !decide (L.length = 20))) := rfl
  obtain ⟨ad, cap, hv, _⟩ := id ht
  subst hv
  clear ht hz
  go_enter Tryz.func39, Tryz.ntmps39
  go_wp2_with fail
  refine (hcp.out _ (((Below.refl _ _).alloc (Nat.le_refl _) _).alloc (by simp) _)).mono ?_
  rintro e2 w2 ⟨v2, rfl, ho, hB2⟩
  obtain ⟨b1, b2, HB, hsz⟩ := two_box2 hB2
  obtain ⟨g, cg, rfl, hbg, hsg, hcg, hfg⟩ := row_open ho (by omega)
  obtain ⟨m, hm⟩ : ∃ m, L.length = m + 1 := ⟨L.length - 1, by omega⟩
  have hbg2 : w.heap.size + 2 ≤ g := by simp at hbg; omega
  have HO := hide (own_base2 ho (show w.heap.size + 2 ≤ ((w.alloc (.cells #[.slice ad L.length cap] 27)).alloc (.cells #[.slice none 0 0] 27)).heap.size + 2 by simp))
  have hll : (L.map sv)[m]?.getD undef = sv (Pl.lastL L) := by
    unfold Pl.lastL
    rw [List.getElem?_map, hm, show m + 1 - 1 = m by omega, List.getElem?_eq_getElem (by omega)]
    rfl
  have hcm := hcg m (by omega)
  rw [hll] at hcm
  have hfm := hfg m
  have HX := hide b2
  have HBB := hide HB
  have HM0 := hide hm
  clear hB2 b1 b2 HB hcp ho hcg hfg hll hbg hm
  go_upto_region 2 with fail
  refine gen_code (fun W => Hid (W.heap[w2.heap.size]? = some (.cells #[.slice (some ⟨g, 0, none⟩) L.length cg] 27 (0, 0))) ∧ Hid (W.heap[w.heap.size + 1]? = some (.cells #[.slice none 0 0] 27 (0, 0))) ∧ Hid (W.ownsRow (w.heap.size + 2) 9 1 (.slice (some ⟨g, 0, none⟩) L.length cg) L.length (L.map sv)) ∧ Hid (W.cell? ⟨g, m, none⟩ = some (sv (Pl.lastL L))) ∧ Hid (W.frozen? ⟨g, m, none⟩ = false) ∧ Hid (Below w.heap.size w W) ∧ Hid (W.heap.size = w2.heap.size + 1)) ⟨hide (by rw [heap_alloc_at, if_pos rfl]), hide (by rw [heap_alloc_at, if_neg (by omega)]; exact HX.out), hide (ownsRow_later HO.out ((Below.refl _ _).alloc (Nat.le_refl _) _)), hide ((((Below.refl _ w2).alloc (Nat.le_refl _) _).cell (p := ⟨g, m, none⟩) hsg).trans hcm), hide ?_, hide (HBB.out.alloc HBB.out.size _), hide (by simp)⟩ ?_
  · have hO := ownsRow_later HO.out ((Below.refl _ w2).alloc (Nat.le_refl _) (.cells #[.slice (some ⟨g, 0, none⟩) L.length cg] 27))
    obtain ⟨g9, c9, hv9, _, _, _, hf9⟩ := row_open hO (by omega)
    have : g = g9 := by injection hv9 with h1; injection h1 with h1; injection h1
    subst this
    exact hf9 m
  rintro W3 ⟨HL3, HX3, HO3, HC3, HF3, HB3, HS3⟩
  have hw23 : w.heap.size + 2 ≤ w2.heap.size := hsz
  have hm := HM0.out
  clear HX HBB HO hcm hfm hsz
  have hgl : g < W3.heap.size := by have := HS3.out; omega
  have hgn : g ≠ w2.heap.size := by omega
  have hgx : g ≠ w.heap.size + 1 := by omega
  have l3 := cell_of_block HL3.out 0
  have fl3 := free_of_block HL3.out 0
  have x3 := cell_of_block HX3.out 0
  have fx3 := free_of_block HX3.out 0
  simp only [List.getElem?_toArray, List.getElem?_cons_zero] at l3 x3
  have cm3 := HC3.out
  have fm3 := HF3.out
  have hbs := Pl.bs_size (Pl.lastL L)
  have hbx := Pl.bs_size x
  have happ := hide (bs_append (Pl.lastL L) x)
  have hll3 : w2.heap.size < W3.heap.size := by have := HS3.out; omega
  have hlx3 : w.heap.size + 1 < W3.heap.size := by omega
  have hls := HLS.out
  have hO3 := HO3.out
  have HM := hide hm
  have HC := hide (fun W9 : World => fun (hg : (W3.alloc (.cells #[.string (Pl.bs x)] 9)).grownBy W9 (Value.slice (some ⟨g, 0, none⟩) (m + 1) cg).ownBlock) => (show Boxed W9 w2.heap.size 27 (.slice (some ⟨g, 0, none⟩) L.length cg) ∧ Boxed W9 (w.heap.size + 1) 27 (.slice none 0 0) ∧ Below w.heap.size w W9 from
    ⟨(Boxed.alloc HL3.out (.cells #[sv x] 9)).kept hg (fun e => by have e2 : w2.heap.size = g := Option.some.inj e; omega), (Boxed.alloc HX3.out (.cells #[sv x] 9)).kept hg (fun e => by have e2 : w.heap.size + 1 = g := Option.some.inj e; omega), (HB3.out.alloc HB3.out.size _).grown hg (by rw [World.size_alloc]; have := HB3.out.size; omega) (fun k hk => by have e2 : g = k := Option.some.inj hk; omega)⟩))
  have hOA := hide (ownsRow_later HO3.out ((Below.refl _ W3).alloc (Nat.le_refl _) (.cells #[sv x] 9)))
  have HTX := hide (one_text W3 x)
  have hNN : Hid (L.length + [x].length ≤ 4194304) := by show _ ≤ _; simp; omega
  have hSZ : w.heap.size + 2 ≤ (W3.alloc (.cells #[sv x] 9)).heap.size := by rw [World.size_alloc]; omega
  have hset := hide (fun y => row_set HO3.out m (by omega) (sv y))
  have htk := hide (fun y => take_set L m hm y)
  have hbz : Hid (Below w.heap.size w W3) := HB3
  have HLL := HL3
  have HXX := HX3
  rw [hm] at l3 HLL hOA hset
  have hm1 : L.length - 1 = m := by omega
  rw [hm1] at HI
  have hmm : Hid (∀ y, (L.take m ++ [y]).length = m + 1) := fun y => by rw [List.length_append, List.length_take, List.length_singleton]; omega
  generalize hX : Pl.lastL L = X at *
  have hmb : m + 1 ≤ 20 := by omega
  clear hX hm1 hm
  by_cases hfit : X.length + x.length ≤ 400
  · have HMM : Hid (Pl.addL x L = L.take m ++ [X ++ x]) := by show _ = _; rw [HI.out, if_pos hfit]
    have HBB : Hid (Pl.addB x L = true) := by show _ = _; rw [HJ.out, decide_eq_true hfit]; rfl
    have hq : (((Pl.bs X).size : Int) + ((Pl.bs x).size : Int)) ≤ 400 := by omega
    clear hfit HI HJ
    go_wp2_with fail
    go_region
    have hrow : (W3.setCell ⟨g, m, none⟩ (.string (Pl.bs X ++ Pl.bs x))).ownsRow (w.heap.size + 2) 9 1 (.slice (some ⟨g, 0, none⟩) (m + 1) cg) (m + 1) ((L.take m ++ [X ++ x]).map sv) := by
      have h := hset.out (X ++ x)
      rw [htk.out] at h
      rw [happ.out]
      exact h
    have HROW := hide hrow
    have hx5 := set_other (b := g) (i := m) (v := .string (Pl.bs X ++ Pl.bs x)) HXX.out hgx
    have HX5 := hide hx5
    have HB5 := hide (hbz.out.setCell (p := ⟨g, m, none⟩) (by show w.heap.size ≤ g; omega) (.string (Pl.bs X ++ Pl.bs x)))
    clear hrow hx5
    go_wp2_with fail
    have hbF : ((W3.setCell ⟨g, m, none⟩ (.string (Pl.bs X ++ Pl.bs x))).setCell ⟨w.heap.size + 1, 0, none⟩ (.slice (some ⟨g, 0, none⟩) (m + 1) cg)).heap[w.heap.size + 1]? = some (.cells #[.slice (some ⟨g, 0, none⟩) (m + 1) cg] 27 (0, 0)) := block_set HX5.out 0 _
    have mF : ((W3.setCell ⟨g, m, none⟩ (.string (Pl.bs X ++ Pl.bs x))).setCell ⟨w.heap.size + 1, 0, none⟩ (.slice (some ⟨g, 0, none⟩) (m + 1) cg)).drew.cell? ⟨w.heap.size + 1, 0, none⟩ = some (.slice (some ⟨g, 0, none⟩) (m + 1) cg) := cell_of_block hbF 0
    refine bodyPost_ret (v := .tuple #[lsV (.slice (some ⟨g, 0, none⟩) (m + 1) cg), .bool true]) (by simp [results, Tryz.results39, go_sem, mF]) rfl ?_
    refine ⟨_, by rw [HBB.out], ?_, (HB5.out.setCell (p := ⟨w.heap.size + 1, 0, none⟩) (Nat.le_succ _) _).drew⟩
    rw [HMM.out, hmm.out]
    have h9 := own_base2 (HROW.out.kept (grownBy_setCell' (W3.setCell ⟨g, m, none⟩ (.string (Pl.bs X ++ Pl.bs x))) (w.heap.size + 1) (.slice (some ⟨g, 0, none⟩) (m + 1) cg)) (.inr (fun e => by have e2 : g = w.heap.size + 1 := Option.some.inj e; omega))) (show w.heap.size ≤ w.heap.size + 2 by omega)
    exact h9
  · have hq : ¬ (((Pl.bs X).size : Int) + ((Pl.bs x).size : Int)) ≤ 400 := by omega
    by_cases h20 : L.length = 20
    · have HMM : Hid (Pl.addL x L = L) := by show _ = _; rw [HI.out, if_neg hfit, if_pos h20]
      have HBB : Hid (Pl.addB x L = false) := by show _ = _; rw [HJ.out, decide_eq_false hfit, decide_eq_true h20]; rfl
      have hge : (20 : Int) ≤ ((m : Int) + 1) := by have := HM.out; omega
      clear hfit HI HJ h20
      go_wp2_with fail
      have hbF : (W3.setCell ⟨w.heap.size + 1, 0, none⟩ (.slice (some ⟨g, 0, none⟩) (m + 1) cg)).heap[w.heap.size + 1]? = some (.cells #[.slice (some ⟨g, 0, none⟩) (m + 1) cg] 27 (0, 0)) := block_set HXX.out 0 _
      have mF := cell_of_block hbF 0
      simp only [List.getElem?_toArray, List.getElem?_cons_zero] at mF
      refine bodyPost_ret (v := .tuple #[lsV (.slice (some ⟨g, 0, none⟩) (m + 1) cg), .bool false]) (by simp [results, Tryz.results39, go_sem, mF]) rfl ?_
      refine ⟨_, by rw [HBB.out], ?_, hbz.out.setCell (p := ⟨w.heap.size + 1, 0, none⟩) (Nat.le_succ _) _⟩
      rw [HMM.out]
      have h := HO3.out
      rw [HM.out] at h ⊢
      exact own_base2 (h.kept (grownBy_setCell' _ (w.heap.size + 1) _) (.inr (fun e => by have e2 : g = w.heap.size + 1 := Option.some.inj e; omega))) (show w.heap.size ≤ w.heap.size + 2 by omega)
    · have HMM : Hid (Pl.addL x L = L ++ [x]) := by show _ = _; rw [HI.out, if_neg hfit, if_neg h20]
      have HBB : Hid (Pl.addB x L = true) := by show _ = _; rw [HJ.out, decide_eq_false hfit, decide_eq_false h20]; rfl
      have hge : ¬ (20 : Int) ≤ ((m : Int) + 1) := by have := HM.out; omega
      clear hfit HI HJ h20
      go_wp2_with (first
        | (with_reducible show wpList _ _ _ (Oper.mk _ (Op.call (Call.mk (.builtin .append) _ _)) _ _ _ _ :: _) _ _; refine wpList_app rfl (.tmp 42) (.tmp 44) rfl rfl (w.heap.size + 2) L [x] (.slice (some ⟨g, 0, none⟩) (m + 1) cg) (.slice (some ⟨W3.heap.size, 0, none⟩) 1 1) rfl rfl (by rw [HM.out]; exact hOA.out) HTX.out hNN.out hSZ ?_; intro v9 w9 hv9 hg9; have hA := HC.out w9 hg9; have HA := hide hA; have HV9 := hide hv9; have l9 := hA.1.cell; have fl9 := hA.1.frozen; have ll9 := hA.1.lt; have x9 := hA.2.1.cell; have fx9 := hA.2.1.frozen; have lx9 := hA.2.1.lt; obtain ⟨a9, c9, rfl⟩ := ownsRow_form hv9; clear hv9 hg9 hA)
        | fail)
      have HA1 := hide (HA.out.1.set (.slice a9 (L ++ [x]).length c9))
      have hx9 : Boxed (w9.setCell ⟨w2.heap.size, 0, none⟩ (.slice a9 (L ++ [x]).length c9)) (w.heap.size + 1) 27 (.slice none 0 0) := set_other (show w9.heap[w.heap.size + 1]? = _ from HA.out.2.1) (by omega)
      have mF := (hx9.set (.slice a9 (L ++ [x]).length c9)).cell
      have HF := hide mF
      simp only [List.length_append, List.length_singleton, List.length_cons, List.length_nil] at mF
      refine bodyPost_ret (v := .tuple #[lsV (.slice a9 (L.length + 1) c9), .bool true]) (by simp [results, Tryz.results39, go_sem, mF]) rfl ?_
      have h0 := HV9.out
      have n1 := HA.out.1.not_row (by decide) h0
      have n2 := HA.out.2.1.not_row (by decide) h0
      have h3 := own_base2 ((h0.kept (grownBy_setCell' w9 w2.heap.size (.slice a9 (L ++ [x]).length c9)) (.inr n1.symm)).kept (grownBy_setCell' _ (w.heap.size + 1) (.slice a9 (L ++ [x]).length c9)) (.inr n2.symm)) (show w.heap.size ≤ w.heap.size + 2 by omega)
      simp only [List.length_append, List.length_singleton, List.length_cons, List.length_nil] at h3
      refine ⟨_, by rw [HBB.out], ?_, (HA.out.2.2.setCell (p := ⟨w2.heap.size, 0, none⟩) (by show w.heap.size ≤ w2.heap.size; omega) _).setCell (p := ⟨w.heap.size + 1, 0, none⟩) (Nat.le_succ _) _⟩
      rw [HMM.out]
      simp only [List.length_append, List.length_singleton, List.length_cons, List.length_nil]
      exact h3
end Go.Proofs.YtbckbfjnifafaaaGreatDoor

/- An act added to a log, as the specification has it. -/
namespace Go.Proofs.YtbckbfjnifafaaaGreatDoor
open Go.RowKit
set_option linter.unusedVariables false
set_option linter.unusedSimpArgs false
set_option maxRecDepth 100000 in
set_option maxHeartbeats 3200000 in
theorem specLogAdd_any (E : List UInt8 → Nat) (hE : EndOf E) (k r p : Int) (nm : ByteArray) (o : Bool) (vk vn : Int) (vt : ByteArray) (m : Int) (hn : nm.size ≤ 1048576) (ht : vt.size ≤ 1048576) (L : List (List UInt8)) (hN : L.length ≤ 1048576) (hz : ∀ x ∈ L, x.length ≤ 1048576) (v : Value) (w : World) (hT : TextsAt w v L) :
    Calls Tryz.prog 19 #[.agg #[v], actV k r p nm o vk vn vt m] w fun e w' => (∃ a c, e = .returned (.tuple #[.agg #[.slice a (Pl.addA E (Pl.actB k r p nm o vk vn vt m) (Pl.recT (Pl.actT k r p nm o vk vn vt m)) L).length c], .bool (Pl.addR E (Pl.actB k r p nm o vk vn vt m) (Pl.recT (Pl.actT k r p nm o vk vn vt m)) L)]) ∧ TxB w.heap.size w'.heap.size w' (Pl.addA E (Pl.actB k r p nm o vk vn vt m) (Pl.recT (Pl.actT k r p nm o vk vn vt m)) L) (.slice a (Pl.addA E (Pl.actB k r p nm o vk vn vt m) (Pl.recT (Pl.actT k r p nm o vk vn vt m)) L).length c)) ∧ Below w.heap.size w w' := by
  have HT := hide (fun W (hW : Below w.heap.size w W) => hT.later hW)
  have hlo := hide (fun W (hW : Below w.heap.size w W) => specLogOk_any E hE L hN hz v W (hT.later hW))
  have hoc := hide (fun W => specActOk_any k r p nm o vk vn vt m (by unfold maxLen; omega) (by unfold maxLen; omega) W)
  have HZ := hide hz
  obtain ⟨ad, cap, hv, _⟩ := id hT
  subst hv
  have hsi : Pl.logS E L = Pl.logI E L := Pl.log_same E (ends_nil hE) L
  rw [hsi] at hlo
  clear hT hz hsi
  have HM : Hid ((Pl.addA E (Pl.actB k r p nm o vk vn vt m) (Pl.recT (Pl.actT k r p nm o vk vn vt m)) L) = if Pl.logI E L = true then (if Pl.actB k r p nm o vk vn vt m = true then Pl.addL (Pl.recT (Pl.actT k r p nm o vk vn vt m)) L else L) else []) := rfl
  have HR : Hid ((Pl.addR E (Pl.actB k r p nm o vk vn vt m) (Pl.recT (Pl.actT k r p nm o vk vn vt m)) L) = (Pl.logI E L && (Pl.actB k r p nm o vk vn vt m && Pl.addB (Pl.recT (Pl.actT k r p nm o vk vn vt m)) L))) := rfl
  cases hlg : Pl.logI E L
  · rw [hlg] at hlo HM HR
    have HM2 : Hid ((Pl.addA E (Pl.actB k r p nm o vk vn vt m) (Pl.recT (Pl.actT k r p nm o vk vn vt m)) L) = []) := by show _ = _; rw [HM.out]; rfl
    have HR2 : Hid ((Pl.addR E (Pl.actB k r p nm o vk vn vt m) (Pl.recT (Pl.actT k r p nm o vk vn vt m)) L) = false) := by show _ = _; rw [HR.out]; rfl
    clear HM HR hoc
    go_enter Tryz.func19, Tryz.ntmps19
    go_wp2_with fail
    refine (hlo.out _ ((((Below.refl _ _).alloc (Nat.le_refl _) _).alloc (by simp) _).alloc (by simp; omega) _)).mono ?_
    rintro e1 w1 ⟨rfl, hB1⟩
    obtain ⟨b0, b1, b2, hsz, hB⟩ := boxes3 hB1
    have r2 := cell_of_block b2 0
    have f2 := free_of_block b2 0
    have m2 := cell_of_block (block_set b2 0 (.slice none 0 0)) 0
    simp only [List.setIfInBounds_toArray, List.set_cons_zero, List.getElem?_toArray, List.getElem?_cons_zero] at r2 m2
    have HB := hide (hB.setCell (p := ⟨w.heap.size + 1 + 1, 0, none⟩) (by show w.heap.size ≤ w.heap.size + 1 + 1; omega) (.slice none 0 0))
    clear hB1 b0 b1 b2 hB hlo
    go_wp2
    refine bodyPost_ret (v := .tuple #[.agg #[.slice none 0 0], .bool false]) (by simp [results, Tryz.results19, go_sem, m2]) rfl ?_
    rw [HM2.out, HR2.out]
    exact ⟨⟨none, 0, rfl, ⟨none, 0, rfl, Nat.le_refl _, by unfold maxLen; omega, fun h => by simp at h⟩, fun n c e => by injection e with e1 e2 e3; exact e3.symm⟩, HB.out⟩
  · obtain ⟨hl1, hl2⟩ := logI_lim hlg
    rw [hlg] at hlo HM HR
    have HM2 : Hid ((Pl.addA E (Pl.actB k r p nm o vk vn vt m) (Pl.recT (Pl.actT k r p nm o vk vn vt m)) L) = if Pl.actB k r p nm o vk vn vt m = true then Pl.addL (Pl.recT (Pl.actT k r p nm o vk vn vt m)) L else L) := by show _ = _; rw [HM.out, if_pos rfl]
    have HR2 : Hid ((Pl.addR E (Pl.actB k r p nm o vk vn vt m) (Pl.recT (Pl.actT k r p nm o vk vn vt m)) L) = (Pl.actB k r p nm o vk vn vt m && Pl.addB (Pl.recT (Pl.actT k r p nm o vk vn vt m)) L)) := by show _ = _; rw [HR.out]; rfl
    clear HM HR hlg
    cases hok : Pl.actB k r p nm o vk vn vt m
    · have hoc2 := hide (fun W => (hoc.out W).mono (fun e w' h => by rw [hok] at h; exact h))
      rw [hok] at HM2 HR2
      have HM3 : Hid (Pl.addA E false (Pl.recT (Pl.actT k r p nm o vk vn vt m)) L = L) := by show _ = _; rw [HM2.out]; rfl
      have HR3 : Hid (Pl.addR E false (Pl.recT (Pl.actT k r p nm o vk vn vt m)) L = false) := by show _ = _; rw [HR2.out]; rfl
      have hcp := hide (fun W (hW : Below w.heap.size w W) => l8Copy_any L hN _ W (HT.out W hW))
      clear HM2 HR2 hoc hok
      go_enter Tryz.func19, Tryz.ntmps19
      go_wp2_with fail
      refine (hlo.out _ ((((Below.refl _ _).alloc (Nat.le_refl _) _).alloc (by simp) _).alloc (by simp; omega) _)).mono ?_
      rintro e1 w1 ⟨rfl, hB1⟩
      obtain ⟨b0, b1, b2, hsz, hB⟩ := boxes3 hB1
      have HX1 := hide b0
      have HR1 := hide b2
      have HB1 := hide hB
      have hl01 : w.heap.size + 1 < w1.heap.size := by omega
      have c0 := cell_of_block b1 0
      have c1 := cell_of_block b1 1
      have c2 := cell_of_block b1 2
      have c3 := cell_of_block b1 3
      have c4 := cell_of_block b1 4
      have c5 := cell_of_block b1 5
      have c6 := cell_of_block b1 6
      have c7 := cell_of_block b1 7
      have c8 := cell_of_block b1 8
      simp only [List.getElem?_toArray, List.getElem?_cons_zero, List.getElem?_cons_succ] at c0 c1 c2 c3 c4 c5 c6 c7 c8
      clear hB1 b0 b1 b2 hB hlo
      go_wp2_with fail
      refine (hoc2.out _).mono ?_
      rintro e2 w2 ⟨rfl, hB2⟩
      have x2 := cell_of_block ((hB2.block _ (by omega)).trans HX1.out) 0
      simp only [List.getElem?_toArray, List.getElem?_cons_zero] at x2
      have HR2 := hide ((hB2.block _ (by omega)).trans HR1.out)
      have HB2 := hide (HB1.out.trans (hB2.mono HB1.out.size))
      have hs2 := hB2.size
      have hl2' : w.heap.size < w2.heap.size := by omega
      clear hB2 c0 c1 c2 c3 c4 c5 c6 c7 c8 HX1 HR1 HB1
      go_wp2_with fail
      refine (hcp.out _ HB2.out).mono ?_
      rintro e3 w3 ⟨v7, rfl, ho7, hB7⟩
      obtain ⟨a7, q7, rfl⟩ := ownsRow_form ho7
      have hx7 := (hB7.block _ (by omega)).trans HR2.out
      have r7 := cell_of_block hx7 0
      have f7 := free_of_block hx7 0
      have m7 := cell_of_block (block_set hx7 0 (.slice a7 L.length q7)) 0
      simp only [List.setIfInBounds_toArray, List.set_cons_zero, List.getElem?_toArray, List.getElem?_cons_zero] at r7 m7
      have hs7 := hB7.size
      have HO7 := hide (ho7.kept (grownBy_setCell' w3 (w.heap.size + 1 + 1) (.slice a7 L.length q7)) (by
        cases hv : (Value.slice a7 L.length q7).ownBlock with
        | none => exact .inl rfl
        | some k => exact .inr (fun e => by injection e with e; have := (ho7.lt k hv).1; omega)))
      have HB7 := hide ((HB2.out.trans (hB7.mono (by omega))).setCell (p := ⟨w.heap.size + 1 + 1, 0, none⟩) (by show w.heap.size ≤ w.heap.size + 1 + 1; omega) (.slice a7 L.length q7))
      clear hB7 ho7 hx7 hcp x2
      go_wp2
      refine bodyPost_ret (v := .tuple #[.agg #[.slice a7 L.length q7], .bool false]) (by simp [results, Tryz.results19, go_sem, m7]) rfl ?_
      rw [HM3.out, HR3.out]
      exact ⟨⟨_, _, rfl, (TxB.of_own HO7.out).up (by have := HB7.out.size; omega) (Nat.le_refl _)⟩, HB7.out⟩
    · have hoc2 := hide (fun W => (hoc.out W).mono (fun e w' h => by rw [hok] at h; exact h))
      have hrec := hide (fun W => l8Record_any k r p nm o vk vn vt m hok hn ht W)
      have hxl : (Pl.recT (Pl.actT k r p nm o vk vn vt m)).length ≤ 1048576 := by have := rec_brief hok; omega
      rw [hok] at HM2 HR2
      have HM3 : Hid (Pl.addA E true (Pl.recT (Pl.actT k r p nm o vk vn vt m)) L = Pl.addL (Pl.recT (Pl.actT k r p nm o vk vn vt m)) L) := by show _ = _; rw [HM2.out]; rfl
      have HR3 : Hid (Pl.addR E true (Pl.recT (Pl.actT k r p nm o vk vn vt m)) L = Pl.addB (Pl.recT (Pl.actT k r p nm o vk vn vt m)) L) := by show _ = _; rw [HR2.out]; rfl
      have hadd := hide (fun W (hW : Below w.heap.size w W) => l8Add_any (Pl.recT (Pl.actT k r p nm o vk vn vt m)) hxl L hl1 hl2 HZ.out _ W (HT.out W hW))
      clear HM2 HR2 hoc hok hxl
      generalize hx9 : (Pl.recT (Pl.actT k r p nm o vk vn vt m)) = x at hrec hadd HM3 HR3
      have HX9 := hide hx9
      generalize hM9 : Pl.addL x L = M9 at *
      generalize hb9 : Pl.addB x L = b9 at *
      clear hM9 hb9 hx9
      go_enter Tryz.func19, Tryz.ntmps19
      go_wp2_with fail
      refine (hlo.out _ ((((Below.refl _ _).alloc (Nat.le_refl _) _).alloc (by simp) _).alloc (by simp; omega) _)).mono ?_
      rintro e1 w1 ⟨rfl, hB1⟩
      obtain ⟨b0, b1, b2, hsz, hB⟩ := boxes3 hB1
      have HX1 := hide b0
      have HY1 := hide b1
      have HR1 := hide b2
      have HB1 := hide hB
      have hl01 : w.heap.size + 1 < w1.heap.size := by omega
      have c0 := cell_of_block b1 0
      have c1 := cell_of_block b1 1
      have c2 := cell_of_block b1 2
      have c3 := cell_of_block b1 3
      have c4 := cell_of_block b1 4
      have c5 := cell_of_block b1 5
      have c6 := cell_of_block b1 6
      have c7 := cell_of_block b1 7
      have c8 := cell_of_block b1 8
      simp only [List.getElem?_toArray, List.getElem?_cons_zero, List.getElem?_cons_succ] at c0 c1 c2 c3 c4 c5 c6 c7 c8
      clear hB1 b0 b1 b2 hB hlo
      go_wp2_with fail
      refine (hoc2.out _).mono ?_
      rintro e2 w2 ⟨rfl, hB2⟩
      have HX2 := hide ((hB2.block _ (by omega)).trans HX1.out)
      have hy2 := (hB2.block _ hl01).trans HY1.out
      have HR2 := hide ((hB2.block _ (by omega)).trans HR1.out)
      have HB2 := hide (HB1.out.trans (hB2.mono HB1.out.size))
      have hs2 := hB2.size
      have hl20 : w.heap.size < w2.heap.size := by omega
      have hl21 : w.heap.size + 1 < w2.heap.size := by omega
      clear hB2 c0 c1 c2 c3 c4 c5 c6 c7 c8 HX1 HR1 HB1 HY1
      have c0 := cell_of_block hy2 0
      have c1 := cell_of_block hy2 1
      have c2 := cell_of_block hy2 2
      have c3 := cell_of_block hy2 3
      have c4 := cell_of_block hy2 4
      have c5 := cell_of_block hy2 5
      have c6 := cell_of_block hy2 6
      have c7 := cell_of_block hy2 7
      have c8 := cell_of_block hy2 8
      simp only [List.getElem?_toArray, List.getElem?_cons_zero, List.getElem?_cons_succ] at c0 c1 c2 c3 c4 c5 c6 c7 c8
      have x2 := cell_of_block HX2.out 0
      simp only [List.getElem?_toArray, List.getElem?_cons_zero] at x2
      have hBd : Hid (Below w2.heap.size w2 w2.drew) := (Below.refl _ _).drew
      have HAF : Hid (∀ W, Below w2.heap.size w2 W → W.cell? ⟨w.heap.size, 0, none⟩ = some (.slice ad L.length cap) ∧ Below w.heap.size w W ∧ W.heap[w.heap.size + 1 + 1]? = some (.cells #[.slice none 0 0] 27 (0, 0)) ∧ w.heap.size < W.heap.size) := fun W hW => ⟨(hW.cell (p := ⟨w.heap.size, 0, none⟩) hl20).trans x2, HB2.out.trans (hW.mono HB2.out.size), (hW.block _ (by omega)).trans HR2.out, Nat.lt_of_lt_of_le hl20 hW.size⟩
      clear hy2
      go_wp2_with fail
      go_region_with (first
        | (go_at_call 40
           refine (hrec.out _).mono ?_
           rintro e3 w3 ⟨rfl, hB3⟩
           have hB3' := hide (hBd.out.trans (hB3.mono hBd.out.size))
           have x3 := (HAF.out w3 hB3'.out).1
           have l3 := (HAF.out w3 hB3'.out).2.2.2
           clear hB3)
        | (go_at_call 39
           refine (hadd.out _ (HAF.out w3 hB3'.out).2.1).mono ?_
           rintro e4 w4 ⟨v7, rfl, ho7, hB7⟩
           obtain ⟨a7, q7, rfl⟩ := ownsRow_form ho7
           have hB4' := hide (hB3'.out.trans (hB7.mono hB3'.out.size))
           have hx7 := (HAF.out w4 hB4'.out).2.2.1
           have HX7 := hide hx7
           have r7 := cell_of_block hx7 0
           have f7 := free_of_block hx7 0
           simp only [List.getElem?_toArray, List.getElem?_cons_zero] at r7
           have HO7' := hide ho7
           have hl7 := (HAF.out w3 hB3'.out).2.1.size
           have hl8 : w.heap.size + 1 + 1 < w3.heap.size := Nat.lt_of_lt_of_le (show w.heap.size + 1 + 1 < w2.heap.size by omega) hB3'.out.size
           clear hB7 hx7 ho7))
      all_goals
        have m7 := cell_of_block (block_set HX7.out 0 (.slice a7 M9.length q7)) 0
        simp only [List.setIfInBounds_toArray, List.set_cons_zero, List.getElem?_toArray, List.getElem?_cons_zero] at m7
        have ho7 := HO7'.out
        have HO7 := hide (ho7.kept (grownBy_setCell' w4 (w.heap.size + 1 + 1) (.slice a7 M9.length q7)) (by
          cases hv : (Value.slice a7 M9.length q7).ownBlock with
          | none => exact .inl rfl
          | some k => exact .inr (fun e => by injection e with e; have := (ho7.lt k hv).1; omega)))
        have HB7 := hide ((HAF.out w4 hB4'.out).2.1.setCell (p := ⟨w.heap.size + 1 + 1, 0, none⟩) (by show w.heap.size ≤ w.heap.size + 1 + 1; omega) (.slice a7 M9.length q7))
        clear ho7 HAF hrec hadd c0 c1 c2 c3 c4 c5 c6 c7 c8 x2 x3
        go_wp2
        refine bodyPost_ret (v := .tuple #[.agg #[.slice a7 M9.length q7], .bool b9]) (by simp [results, Tryz.results19, go_sem, m7]) rfl ?_
        rw [HM3.out, HR3.out]
        exact ⟨⟨_, _, rfl, (TxB.of_own HO7.out).up (by have := HB7.out.size; omega) (Nat.le_refl _)⟩, HB7.out⟩
end Go.Proofs.YtbckbfjnifafaaaGreatDoor

/- How large a log and an act are, as the law on LogAdd counts. -/
namespace Go.Proofs.YtbckbfjnifafaaaGreatDoor
open Go.RowKit
set_option linter.unusedVariables false
set_option linter.unusedSimpArgs false
set_option maxHeartbeats 1600000 in
theorem szStringS_le (L : List (List UInt8)) (v : Value) (hz : ∀ x ∈ L, x.length ≤ maxLen) (w : World) (ht : TextsAt w v L) :
    Calls Tryz.prog 25 #[v, .int .i64 1048576] w fun e w' => (∃ z : Int, e = .returned (.int .i64 z) ∧ z ≤ 1048576 ∧ (¬ z < 0 → L.length ≤ 1048576 ∧ ∀ x ∈ L, x.length ≤ 1048576)) ∧ Below w.heap.size w w' := by
  obtain ⟨ad, cap, rfl, h1, h2, hc, _⟩ := ht
  unfold maxLen at h2
  have HZ : Hid (∀ i, i < L.length → (L[i]?.getD []).length ≤ 9223372036854775807) := fun i hi => by
    rw [List.getElem?_eq_getElem hi]
    have := hz _ (List.getElem_mem hi)
    unfold maxLen at this
    simpa using this
  have HC := hide hc
  clear hc hz
  by_cases hbig : 1048576 < L.length
  · clear HC HZ
    go_enter Tryz.func25, Tryz.ntmps25
    go_wp2
    go_ret
    exact ⟨⟨-1, rfl, by omega, by omega⟩, Below.refl _ _⟩
  · go_enter Tryz.func25, Tryz.ntmps25
    go_wp2
    go_loopw [1, 5] (fun lv iv wr => ∃ (i : Nat) (left : Int), i ≤ L.length ∧ iv = .int .i64 i ∧ lv = .int .i64 left ∧ 0 ≤ left ∧ left ≤ 1048576 ∧ Hid (∀ j, j < i → (L[j]?.getD []).length ≤ 1048576) ∧ wr = w) (fun _ iv _ => L.length - (intOf iv).toNat)
    case atStart => exact ⟨0, _, by omega, rfl, rfl, by omega, by omega, (fun j hj => by omega), rfl⟩
    case round =>
      obtain ⟨i, left, hi, rfl, rfl, hl0, hl1, HA, rfl⟩ := hrel
      by_cases hlt : i < L.length
      · obtain ⟨g, off, rfl, hg, hs⟩ := HC.out (by omega)
        have c1 := hs i hlt
        have z1 := HZ.out i hlt
        have hsz := Pl.bs_size (L[i]?.getD [])
        have HAN : Hid ((L[i]?.getD []).length ≤ 1048576 → ∀ j, j < i + 1 → (L[j]?.getD []).length ≤ 1048576) := fun h j hj => by
          by_cases e : j = i
          · rw [e]; exact h
          · exact HA.out j (by omega)
        clear hs
        generalize L[i]?.getD [] = X at *
        have hii : (i : Int) < (L.length : Int) := by omega
        by_cases hneg : left - (X.length : Int) < 0
        · go_wp2
          go_ret
          exact ⟨⟨-1, rfl, by omega, by omega⟩, Below.refl _ _⟩
        · go_wp2
          go_roundw
          case rel => exact ⟨i + 1, left - (X.length : Int), by omega, by go_num, rfl, by omega, by omega, HAN.out (by omega), by simp⟩
          case measure => simp [intOf]; omega
      · have hie : i = L.length := by omega
        go_wp2
        go_ret
        refine ⟨⟨left, rfl, by omega, fun _ => ⟨by omega, fun x hx => ?_⟩⟩, Below.refl _ _⟩
        obtain ⟨j, hj, rfl⟩ := List.getElem_of_mem hx
        have := HA.out j (by omega)
        rw [List.getElem?_eq_getElem hj] at this
        simpa using this
set_option maxHeartbeats 1600000 in
theorem szLog_le (L : List (List UInt8)) (v : Value) (hz : ∀ x ∈ L, x.length ≤ maxLen) (w : World) (ht : TextsAt w v L) :
    Calls Tryz.prog 7 #[logV v, .int .i64 1048576] w fun e w' => (∃ z : Int, e = .returned (.int .i64 z) ∧ z ≤ 1048576 ∧ (¬ z < 0 → L.length ≤ 1048576 ∧ ∀ x ∈ L, x.length ≤ 1048576)) ∧ Below w.heap.size w w' := by
  have hb0 : Below w.heap.size w (w.alloc (.cells #[v] 24)) := (Below.refl _ _).alloc (Nat.le_refl _) _
  have hs := hide (szStringS_le L v hz _ (ht.later hb0))
  clear ht hz hb0
  go_enter Tryz.func7, Tryz.ntmps7
  go_wp2_with fail
  refine hs.out.mono ?_
  rintro e w1 ⟨⟨z, rfl, hz1, hz⟩, hB1⟩
  have HB := hide (one_box hB1).2.1
  clear hB1 hs
  by_cases h0 : z < 0
  · go_wp2
    go_ret
    exact ⟨⟨-1, rfl, by omega, by omega⟩, HB.out⟩
  · go_wp2
    go_ret
    refine ⟨⟨z, rfl, hz1, ?_⟩, HB.out⟩
    first | exact hz | exact fun h => (hz h).2 | exact ⟨fun h => (hz h).1, fun h => (hz h).2⟩
set_option maxHeartbeats 800000 in
theorem szAct_full (k r p : Int) (nm : ByteArray) (o : Bool) (vk vn : Int) (vt : ByteArray) (m : Int) (hn : nm.size ≤ maxLen) (ht : vt.size ≤ maxLen) (left : Int) (h0 : 0 ≤ left) (h1 : left ≤ 1048576) (w : World) :
    Calls Tryz.prog 18 #[actV k r p nm o vk vn vt m, .int .i64 left] w fun e w' => (∃ z : Int, e = .returned (.int .i64 z) ∧ (¬ z < 0 → nm.size ≤ 1048576 ∧ vt.size ≤ 1048576)) ∧ Below w.heap.size w w' := by
  unfold maxLen at hn
  by_cases h2 : left - nm.size < 0
  · go_enter Tryz.func18, Tryz.ntmps18
    go_wp2
    go_ret
    exact ⟨⟨-1, rfl, by omega⟩, (Below.refl _ _).alloc (Nat.le_refl _) _⟩
  · have hv := hide (szValue_at vk vn vt ht (left - nm.size) (by omega) (by omega))
    go_enter Tryz.func18, Tryz.ntmps18
    go_wp2_with fail
    refine (hv.out _).mono ?_
    rintro e w1 ⟨rfl, hB1⟩
    have HB : Below w.heap.size w w1 := ((Below.refl _ _).alloc (Nat.le_refl _) _).trans (hB1.mono (by simp))
    clear hB1 hv
    by_cases h3 : left - nm.size - vt.size < 0
    · rw [if_pos h3]
      go_wp2
      go_ret
      exact ⟨⟨-1, rfl, by omega⟩, HB⟩
    · rw [if_neg h3]
      go_wp2
      go_ret
      exact ⟨⟨_, rfl, by omega⟩, HB⟩
end Go.Proofs.YtbckbfjnifafaaaGreatDoor

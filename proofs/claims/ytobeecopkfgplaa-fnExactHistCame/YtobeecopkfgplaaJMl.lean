/- Joined: Mark MkQ MkE MkD HeD. -/
import Derived.Test.YtobeecopkfgplaaPlD
import Derived.Test.YtobeecopkfgplaaCv1
import Derived.Test.YtobeecopkfgplaaLwE
import Derived.Test.YtobeecopkfgplaaLwR
import Derived.Test.YtobeecopkfgplaaSpM
/- Marks, and lists of texts that are held against each other. -/
namespace Go.Proofs.Ytobeecopkfgplaa
open Go.RowKit
set_option linter.unusedVariables false

set_option maxHeartbeats 800000 in
theorem markText_any (k : Nat) (h1 : 1 ≤ k) (h2 : k ≤ 1000000000) (w : World) :
    Calls Try.prog 46 #[.int .i64 k] w fun e w' => e = .returned (.string (Pl.bs (Pl.mark k))) ∧ Below w.heap.size w w' := by
  go_enter Try.func46, Try.ntmps46
  go_wp2
  go_loopw [0, 3] (fun kv ov wr => ∃ (j : Nat) (out : List UInt8), j ≤ k ∧ kv = .int .i64 j ∧ ov = .string (Pl.bs out) ∧ Hid (Pl.dec k = Pl.dec j ++ out) ∧ out.length + j ≤ 2 * k ∧ Below w.heap.size w wr) (fun kv _ _ => (intOf kv).toNat)
  case atStart => exact ⟨k, [], Nat.le_refl _, rfl, rfl, by simp [Hid], by simp; omega, Below.refl _ _⟩
  case round =>
    obtain ⟨j, out, hj, rfl, rfl, HD, hol, hB⟩ := hrel
    have hos : (Pl.bs out).size = out.length := rfl
    by_cases hj0 : 0 < j
    · have hcv := conv1 wr (48 + (j : Int) % 10) (by omega) (by omega)
      generalize hd : (48 + (j : Int) % 10).toNat.toUInt8 = d at hcv
      have HDD := hide hd
      clear hd
      have hds : (Pl.bs [d]).size = 1 := rfl
      go_wp2
      go_roundw
      case rel =>
        refine ⟨j / 10, d :: out, by omega, by go_num, by rw [bs_append]; rfl, ?_, by simp; omega, hB.alloc hB.size _⟩
        show _ = _
        rw [HD.out, Pl.dec_step j (by omega), ← HDD.out, show (48 + (j : Int) % 10).toNat = 48 + j % 10 from by omega]
        simp
      case measure => simp [intOf]; omega
    · go_wp2
      go_ret
      refine ⟨?_, hB⟩
      have hj' : j = 0 := by omega
      have : Pl.mark k = 109 :: out := by unfold Pl.mark; rw [HD.out, hj', Pl.dec_zero]; rfl
      rw [this]
      show Ending.returned (.string (Pl.bs [109] ++ Pl.bs out)) = _
      rw [bs_append]; rfl
end Go.Proofs.Ytobeecopkfgplaa

/- Rows of what was asked for, and of what came, held against each other and marked. -/
namespace Go.Proofs.Ytobeecopkfgplaa
open Go.RowKit
set_option linter.unusedVariables false
set_option linter.unusedSimpArgs false
theorem markText_at (z : Int) (n : Nat) (h : z = n) (h1 : 1 ≤ n) (h2 : n ≤ 1000000000) (w : World) :
    Calls Try.prog 46 #[.int .i64 z] w fun e w' => e = .returned (.string (Pl.bs (Pl.mark n))) ∧ Below w.heap.size w w' := by
  rw [h]; exact markText_any n h1 h2 w
theorem cell_in {W : World} {b j : Nat} {C : Array Value} {T : TypeId} (h : W.heap[b]? = some (.cells C T (0, 0))) (hj : j < C.size) : ∃ u, W.cell? ⟨b, j, none⟩ = some u := by
  rw [cell_of_block h, Array.getElem?_eq_getElem hj]
  exact ⟨_, rfl⟩
theorem gb_set {W X : World} {b i : Nat} {v : Value} (h : W.grownBy X (some b)) : W.grownBy (X.setCell ⟨b, i, none⟩ v) (some b) :=
  ⟨h.os, h.tape, h.output, by have := h.size; simp [World.setCell]; exact this, fun k hk hne => (Below.heap_setCell _ _ _ _ (by simp only; intro e; exact hne (by rw [e]))).trans (h.block k hk hne)⟩
theorem gb_later {W X Y : World} {r : Option Nat} (h : W.grownBy X r) (hB : Below X.heap.size X Y) : W.grownBy Y r :=
  ⟨hB.os.trans h.os, hB.tape.trans h.tape, hB.output.trans h.output, Nat.le_trans h.size hB.size, fun k hk hne => (hB.block k (by have := h.size; omega)).trans (h.block k hk hne)⟩
theorem gb_refl (W : World) (r : Option Nat) : W.grownBy W r := ⟨rfl, rfl, rfl, Nat.le_refl _, fun _ _ _ => rfl⟩
/-- a row whose first i parts are marked -/
def RowM (T : TypeId) (m : Nat) (mk : Nat → List Value) (k : Nat) (a : Option Addr) (n i : Nat) (W : World) : Prop :=
  0 < n → ∃ b C, a = some ⟨b, 0, none⟩ ∧ W.heap[b]? = some (.cells C T (0, 0)) ∧ n * m ≤ C.size ∧ (∀ j, j < i → ∀ t u, (mk (k + m * j))[t]? = some u → C[j * m + t]? = some u)
theorem RowM.later {T : TypeId} {m : Nat} {mk : Nat → List Value} {k : Nat} {a : Option Addr} {n i : Nat} {W W1 : World} (h : RowM T m mk k a n i W) (hB : Below W.heap.size W W1) : RowM T m mk k a n i W1 := by
  intro hn
  obtain ⟨b, C, ha, hb, hs, hc⟩ := h hn
  exact ⟨b, C, ha, (hB.block _ (Array.getElem?_eq_some_iff.1 hb).1).trans hb, hs, hc⟩
theorem RowM.of_own {T : TypeId} {m : Nat} {mk : Nat → List Value} {k base : Nat} {a : Option Addr} {n c : Nat} {xs : List Value} {W : World} (h : W.ownsRow base T m (.slice a n c) n xs) : RowM T m mk k a n 0 W := by
  intro hn
  rcases h.2 with ⟨h1, h0⟩ | ⟨g, cap, cur, hv, hb, hg, hnc, hm, hs, ht⟩
  · omega
  · injection hv with h1 h2 h3
    exact ⟨g, cur, h1, hg, by rw [hs]; exact Nat.mul_le_mul_right _ hnc, fun j hj => by omega⟩
theorem sizeCmds : (Try.prog.info? 51).map (·.size) = some 5 := by kernel_rfl
set_option maxRecDepth 100000 in
set_option maxHeartbeats 1600000 in
theorem eqCmds_any (L : List Ev) (hN : L.length ≤ 1048576) (va vb : Value) (ba bb : Nat) (w : World) (ha : w.ownsRow ba 51 5 va L.length (L.flatMap cmL)) (hb : w.ownsRow bb 51 5 vb L.length (L.flatMap cmL)) :
    Calls Try.prog 22 #[va, vb] w fun x w' => x = .returned (.bool true) ∧ Below w.heap.size w w' := by
  obtain ⟨aa, ca, hva⟩ := ownsRow_form ha
  obtain ⟨ab, cb, hvb⟩ := ownsRow_form hb
  subst hva hvb
  have HA := hide ha
  have HBB := hide hb
  obtain ⟨_, ha1, ha2⟩ := own_bound ha
  obtain ⟨_, hb1, hb2⟩ := own_bound hb
  unfold maxLen at ha2 hb2
  clear ha hb
  have hne : ((L.length : Int) != (L.length : Int)) = false := by simp
  go_enter Try.func22, Try.ntmps22
  go_wp2_with fail
  go_loopw [5] (fun iv wr => ∃ i : Nat, i ≤ L.length ∧ iv = .int .i64 i ∧ Hid (Below w.heap.size w wr)) (fun iv _ => L.length - (intOf iv).toNat)
  case atStart => exact ⟨0, by omega, rfl, Below.refl _ _⟩
  case round =>
    obtain ⟨i, hi, rfl, HB⟩ := hrel
    by_cases hlt : i < L.length
    · obtain ⟨e, he⟩ : ∃ e, L[i]? = some e := ⟨_, List.getElem?_eq_getElem hlt⟩
      obtain ⟨ga, haa, _, hga, hca⟩ := own_cells (f := cmL) (size := 5) (fun _ => rfl) HA.out he
      obtain ⟨gb, hab, _, hgb, hcb⟩ := own_cells (f := cmL) (size := 5) (fun _ => rfl) HBB.out he
      subst haa hab
      have HCA : Hid (∀ j u, (cmL e)[j]? = some u → wr.cell? ⟨ga, i * 5 + j, none⟩ = some u) := fun j u hu => (Below.cell HB.out (p := ⟨ga, i * 5 + j, none⟩) hga).trans (hca j u hu)
      have HCB : Hid (∀ j u, (cmL e)[j]? = some u → wr.cell? ⟨gb, i * 5 + j, none⟩ = some u) := fun j u hu => (Below.cell HB.out (p := ⟨gb, i * 5 + j, none⟩) hgb).trans (hcb j u hu)
      have HGga : Hid (ga < wr.heap.size) := by show _ < _; have := HB.out.size; omega
      have HGgb : Hid (gb < wr.heap.size) := by show _ < _; have := HB.out.size; omega
      have heq := hide (eqCmd_at e.ck e.cn e.ak e.an e.ax)
      have hii : (i : Int) < (L.length : Int) := by omega
      clear hca hcb he hne
      go_wp2_with fail
      refine wp_region_noPanic ?_
      refine wp_region_held_drew (S := fun W => Below wr.heap.size wr W) (by kernel_rfl) (below_drew' (Below.refl _ _)) (fun hHeld => ?_)
      refine wpAnyH_take (i := 0) (oi := Oper.mk (some 17) _ _ _ _ _) (v := ?_) rfl (by kernel_rfl) (by kernel_rfl) (by kernel_rfl) (fun _ _ _ h => h) (Or.inl ⟨by rfl, ?_⟩) (by assumption) ?_
      rotate_left
      · intro w0 hSw
        clear hSw
        go_simp
        all_goals (with_reducible rfl)
      simp only [Act.put, List.setIfInBounds_toArray, List.set_cons_zero, List.set_cons_succ]
      refine wpAnyH_take (i := 1) (oi := Oper.mk (some 18) _ _ _ _ _) (v := ?_) rfl (by kernel_rfl) (by kernel_rfl) (by kernel_rfl) (fun _ _ _ h => h) (Or.inl ⟨by rfl, ?_⟩) (by assumption) ?_
      rotate_left
      · intro w0 hSw
        clear hSw
        go_simp
        all_goals (with_reducible rfl)
      simp only [Act.put, List.setIfInBounds_toArray, List.set_cons_zero, List.set_cons_succ]
      refine wpAnyH_take (i := 2) (oi := Oper.mk (some 19) _ _ _ _ _) (v := ?_) rfl (by kernel_rfl) (by kernel_rfl) (by kernel_rfl) (fun _ _ _ h => h) (Or.inl ⟨by rfl, ?_⟩) (by assumption) ?_
      rotate_left
      · intro w0 hSw
        clear hSw
        go_simp
        all_goals (with_reducible rfl)
      simp only [Act.put, List.setIfInBounds_toArray, List.set_cons_zero, List.set_cons_succ]
      refine wpAnyH_take (i := 3) (oi := Oper.mk (some 20) _ _ _ _ _) (v := .agg (cmL e).toArray) rfl (by kernel_rfl) (by kernel_rfl) (by kernel_rfl) (fun _ _ _ h => h) (yieldsIf_load_mid (by rfl) 51 (.tmp 19) rfl ga (i * 5) rfl (cmL e) _ (fun W hW j u hu => (Below.cell hW (p := ⟨ga, i * 5 + j, none⟩) HGga.out).trans (HCA.out j u hu)) Try.underlying51 rfl (by rw [sizeCmds]; rfl)) (by assumption) ?_
      simp only [Act.put, List.setIfInBounds_toArray, List.set_cons_zero, List.set_cons_succ]
      refine wpAnyH_take (i := 4) (oi := Oper.mk (some 21) _ _ _ _ _) (v := ?_) rfl (by kernel_rfl) (by kernel_rfl) (by kernel_rfl) (fun _ _ _ h => h) (Or.inl ⟨by rfl, ?_⟩) (by assumption) ?_
      rotate_left
      · intro w0 hSw
        clear hSw
        go_simp
        all_goals (with_reducible rfl)
      simp only [Act.put, List.setIfInBounds_toArray, List.set_cons_zero, List.set_cons_succ]
      refine wpAnyH_take (i := 5) (oi := Oper.mk (some 22) _ _ _ _ _) (v := ?_) rfl (by kernel_rfl) (by kernel_rfl) (by kernel_rfl) (fun _ _ _ h => h) (Or.inl ⟨by rfl, ?_⟩) (by assumption) ?_
      rotate_left
      · intro w0 hSw
        clear hSw
        go_simp
        all_goals (with_reducible rfl)
      simp only [Act.put, List.setIfInBounds_toArray, List.set_cons_zero, List.set_cons_succ]
      refine wpAnyH_take (i := 6) (oi := Oper.mk (some 23) _ _ _ _ _) (v := ?_) rfl (by kernel_rfl) (by kernel_rfl) (by kernel_rfl) (fun _ _ _ h => h) (Or.inl ⟨by rfl, ?_⟩) (by assumption) ?_
      rotate_left
      · intro w0 hSw
        clear hSw
        go_simp
        all_goals (with_reducible rfl)
      simp only [Act.put, List.setIfInBounds_toArray, List.set_cons_zero, List.set_cons_succ]
      refine wpAnyH_take (i := 7) (oi := Oper.mk (some 24) _ _ _ _ _) (v := .agg (cmL e).toArray) rfl (by kernel_rfl) (by kernel_rfl) (by kernel_rfl) (fun _ _ _ h => h) (yieldsIf_load_mid (by rfl) 51 (.tmp 23) rfl gb (i * 5) rfl (cmL e) _ (fun W hW j u hu => (Below.cell hW (p := ⟨gb, i * 5 + j, none⟩) HGgb.out).trans (HCB.out j u hu)) Try.underlying51 rfl (by rw [sizeCmds]; rfl)) (by assumption) ?_
      simp only [Act.put, List.setIfInBounds_toArray, List.set_cons_zero, List.set_cons_succ]
      refine wpAnyH_ready (rs := [8]) (by kernel_rfl) (by simp) ?_
      refine AllReadyH.cons (o := Oper.mk (some 25) _ _ _ _ _) rfl (fun K hK => ?_) AllReadyH.nil
      go_simp
      go_at_call 45
      refine (heq.out _).mono ?_
      rintro x0 w0 ⟨rfl, hB0⟩
      have hHeld' := Below.trans hHeld (hB0.mono hHeld.size)
      clear hB0 hHeld
      go_wp2_with fail
      refine hK.out _ _ hHeld' (fun hHeld => ?_)
      clear hK K hHeld'
      (try simp only [Act.put, List.setIfInBounds_toArray, List.set_cons_zero, List.set_cons_succ])
      refine wpAnyH_take (i := 9) (oi := Oper.mk (some 26) _ _ _ _ _) (v := ?_) rfl (by kernel_rfl) (by kernel_rfl) (by kernel_rfl) (fun _ _ _ h => h) (Or.inl ⟨by rfl, ?_⟩) (by assumption) ?_
      rotate_left
      · intro w0 hSw
        clear hSw
        go_simp
        all_goals (with_reducible rfl)
      simp only [Act.put, List.setIfInBounds_toArray, List.set_cons_zero, List.set_cons_succ]
      refine wpAnyH_done (by kernel_rfl) ?_ _
      refine NoPanic.normal ?_
      have HB2 := hide (HB.out.trans (hHeld.mono HB.out.size))
      clear hHeld
      go_wp2_with fail
      go_roundw
      case rel => exact ⟨i + 1, by omega, by go_num, HB2⟩
      case measure => simp [intOf]; omega
    · go_wp2_with fail
      go_ret
      exact ⟨rfl, HB.out⟩
theorem sizeComes : (Try.prog.info? 53).map (·.size) = some 7 := by kernel_rfl
set_option maxRecDepth 100000 in
set_option maxHeartbeats 1600000 in
theorem eqComes_any (L : List Ev) (hN : L.length ≤ 1048576) (va vb : Value) (ba bb : Nat) (w : World) (ha : w.ownsRow ba 53 7 va L.length (L.flatMap caL)) (hb : w.ownsRow bb 53 7 vb L.length (L.flatMap caL)) :
    Calls Try.prog 28 #[va, vb] w fun x w' => x = .returned (.bool true) ∧ Below w.heap.size w w' := by
  obtain ⟨aa, ca, hva⟩ := ownsRow_form ha
  obtain ⟨ab, cb, hvb⟩ := ownsRow_form hb
  subst hva hvb
  have HA := hide ha
  have HBB := hide hb
  obtain ⟨_, ha1, ha2⟩ := own_bound ha
  obtain ⟨_, hb1, hb2⟩ := own_bound hb
  unfold maxLen at ha2 hb2
  clear ha hb
  have hne : ((L.length : Int) != (L.length : Int)) = false := by simp
  go_enter Try.func28, Try.ntmps28
  go_wp2_with fail
  go_loopw [5] (fun iv wr => ∃ i : Nat, i ≤ L.length ∧ iv = .int .i64 i ∧ Hid (Below w.heap.size w wr)) (fun iv _ => L.length - (intOf iv).toNat)
  case atStart => exact ⟨0, by omega, rfl, Below.refl _ _⟩
  case round =>
    obtain ⟨i, hi, rfl, HB⟩ := hrel
    by_cases hlt : i < L.length
    · obtain ⟨e, he⟩ : ∃ e, L[i]? = some e := ⟨_, List.getElem?_eq_getElem hlt⟩
      obtain ⟨ga, haa, _, hga, hca⟩ := own_cells (f := caL) (size := 7) (fun _ => rfl) HA.out he
      obtain ⟨gb, hab, _, hgb, hcb⟩ := own_cells (f := caL) (size := 7) (fun _ => rfl) HBB.out he
      subst haa hab
      have HCA : Hid (∀ j u, (caL e)[j]? = some u → wr.cell? ⟨ga, i * 7 + j, none⟩ = some u) := fun j u hu => (Below.cell HB.out (p := ⟨ga, i * 7 + j, none⟩) hga).trans (hca j u hu)
      have HCB : Hid (∀ j u, (caL e)[j]? = some u → wr.cell? ⟨gb, i * 7 + j, none⟩ = some u) := fun j u hu => (Below.cell HB.out (p := ⟨gb, i * 7 + j, none⟩) hgb).trans (hcb j u hu)
      have HGga : Hid (ga < wr.heap.size) := by show _ < _; have := HB.out.size; omega
      have HGgb : Hid (gb < wr.heap.size) := by show _ < _; have := HB.out.size; omega
      have heq := hide (eqCame_at e.ct e.mp e.mn e.mo e.wk e.wn e.wt)
      have hii : (i : Int) < (L.length : Int) := by omega
      clear hca hcb he hne
      go_wp2_with fail
      refine wp_region_noPanic ?_
      refine wp_region_held_drew (S := fun W => Below wr.heap.size wr W) (by kernel_rfl) (below_drew' (Below.refl _ _)) (fun hHeld => ?_)
      refine wpAnyH_take (i := 0) (oi := Oper.mk (some 17) _ _ _ _ _) (v := ?_) rfl (by kernel_rfl) (by kernel_rfl) (by kernel_rfl) (fun _ _ _ h => h) (Or.inl ⟨by rfl, ?_⟩) (by assumption) ?_
      rotate_left
      · intro w0 hSw
        clear hSw
        go_simp
        all_goals (with_reducible rfl)
      simp only [Act.put, List.setIfInBounds_toArray, List.set_cons_zero, List.set_cons_succ]
      refine wpAnyH_take (i := 1) (oi := Oper.mk (some 18) _ _ _ _ _) (v := ?_) rfl (by kernel_rfl) (by kernel_rfl) (by kernel_rfl) (fun _ _ _ h => h) (Or.inl ⟨by rfl, ?_⟩) (by assumption) ?_
      rotate_left
      · intro w0 hSw
        clear hSw
        go_simp
        all_goals (with_reducible rfl)
      simp only [Act.put, List.setIfInBounds_toArray, List.set_cons_zero, List.set_cons_succ]
      refine wpAnyH_take (i := 2) (oi := Oper.mk (some 19) _ _ _ _ _) (v := ?_) rfl (by kernel_rfl) (by kernel_rfl) (by kernel_rfl) (fun _ _ _ h => h) (Or.inl ⟨by rfl, ?_⟩) (by assumption) ?_
      rotate_left
      · intro w0 hSw
        clear hSw
        go_simp
        all_goals (with_reducible rfl)
      simp only [Act.put, List.setIfInBounds_toArray, List.set_cons_zero, List.set_cons_succ]
      refine wpAnyH_take (i := 3) (oi := Oper.mk (some 20) _ _ _ _ _) (v := .agg (caL e).toArray) rfl (by kernel_rfl) (by kernel_rfl) (by kernel_rfl) (fun _ _ _ h => h) (yieldsIf_load_mid (by rfl) 53 (.tmp 19) rfl ga (i * 7) rfl (caL e) _ (fun W hW j u hu => (Below.cell hW (p := ⟨ga, i * 7 + j, none⟩) HGga.out).trans (HCA.out j u hu)) Try.underlying53 rfl (by rw [sizeComes]; rfl)) (by assumption) ?_
      simp only [Act.put, List.setIfInBounds_toArray, List.set_cons_zero, List.set_cons_succ]
      refine wpAnyH_take (i := 4) (oi := Oper.mk (some 21) _ _ _ _ _) (v := ?_) rfl (by kernel_rfl) (by kernel_rfl) (by kernel_rfl) (fun _ _ _ h => h) (Or.inl ⟨by rfl, ?_⟩) (by assumption) ?_
      rotate_left
      · intro w0 hSw
        clear hSw
        go_simp
        all_goals (with_reducible rfl)
      simp only [Act.put, List.setIfInBounds_toArray, List.set_cons_zero, List.set_cons_succ]
      refine wpAnyH_take (i := 5) (oi := Oper.mk (some 22) _ _ _ _ _) (v := ?_) rfl (by kernel_rfl) (by kernel_rfl) (by kernel_rfl) (fun _ _ _ h => h) (Or.inl ⟨by rfl, ?_⟩) (by assumption) ?_
      rotate_left
      · intro w0 hSw
        clear hSw
        go_simp
        all_goals (with_reducible rfl)
      simp only [Act.put, List.setIfInBounds_toArray, List.set_cons_zero, List.set_cons_succ]
      refine wpAnyH_take (i := 6) (oi := Oper.mk (some 23) _ _ _ _ _) (v := ?_) rfl (by kernel_rfl) (by kernel_rfl) (by kernel_rfl) (fun _ _ _ h => h) (Or.inl ⟨by rfl, ?_⟩) (by assumption) ?_
      rotate_left
      · intro w0 hSw
        clear hSw
        go_simp
        all_goals (with_reducible rfl)
      simp only [Act.put, List.setIfInBounds_toArray, List.set_cons_zero, List.set_cons_succ]
      refine wpAnyH_take (i := 7) (oi := Oper.mk (some 24) _ _ _ _ _) (v := .agg (caL e).toArray) rfl (by kernel_rfl) (by kernel_rfl) (by kernel_rfl) (fun _ _ _ h => h) (yieldsIf_load_mid (by rfl) 53 (.tmp 23) rfl gb (i * 7) rfl (caL e) _ (fun W hW j u hu => (Below.cell hW (p := ⟨gb, i * 7 + j, none⟩) HGgb.out).trans (HCB.out j u hu)) Try.underlying53 rfl (by rw [sizeComes]; rfl)) (by assumption) ?_
      simp only [Act.put, List.setIfInBounds_toArray, List.set_cons_zero, List.set_cons_succ]
      refine wpAnyH_ready (rs := [8]) (by kernel_rfl) (by simp) ?_
      refine AllReadyH.cons (o := Oper.mk (some 25) _ _ _ _ _) rfl (fun K hK => ?_) AllReadyH.nil
      go_simp
      go_at_call 50
      refine (heq.out _).mono ?_
      rintro x0 w0 ⟨rfl, hB0⟩
      have hHeld' := Below.trans hHeld (hB0.mono hHeld.size)
      clear hB0 hHeld
      go_wp2_with fail
      refine hK.out _ _ hHeld' (fun hHeld => ?_)
      clear hK K hHeld'
      (try simp only [Act.put, List.setIfInBounds_toArray, List.set_cons_zero, List.set_cons_succ])
      refine wpAnyH_take (i := 9) (oi := Oper.mk (some 26) _ _ _ _ _) (v := ?_) rfl (by kernel_rfl) (by kernel_rfl) (by kernel_rfl) (fun _ _ _ h => h) (Or.inl ⟨by rfl, ?_⟩) (by assumption) ?_
      rotate_left
      · intro w0 hSw
        clear hSw
        go_simp
        all_goals (with_reducible rfl)
      simp only [Act.put, List.setIfInBounds_toArray, List.set_cons_zero, List.set_cons_succ]
      refine wpAnyH_done (by kernel_rfl) ?_ _
      refine NoPanic.normal ?_
      have HB2 := hide (HB.out.trans (hHeld.mono HB.out.size))
      clear hHeld
      go_wp2_with fail
      go_roundw
      case rel => exact ⟨i + 1, by omega, by go_num, HB2⟩
      case measure => simp [intOf]; omega
    · go_wp2_with fail
      go_ret
      exact ⟨rfl, HB.out⟩
end Go.Proofs.Ytobeecopkfgplaa

/- Events marked by the laws: nothing but their own row is written. -/
namespace Go.Proofs.Ytobeecopkfgplaa
open Go.RowKit
set_option linter.unusedVariables false
set_option linter.unusedSimpArgs false
/-- a block of at least so many cells, and nothing else turned -/
def ME (T : TypeId) (b s : Nat) (w X : World) : Prop := (∃ C, X.heap[b]? = some (.cells C T (0, 0)) ∧ s ≤ C.size) ∧ w.grownBy X (some b)
theorem ME.set {T : TypeId} {b s i : Nat} {w X : World} {v : Value} (h : ME T b s w X) : ME T b s w (X.setCell ⟨b, i, none⟩ v) := by
  obtain ⟨⟨C, hb, hs⟩, hg⟩ := h
  exact ⟨⟨_, block_set hb i v, by simpa using hs⟩, gb_set hg⟩
theorem ME.later {T : TypeId} {b s : Nat} {w X Y : World} (h : ME T b s w X) (hB : Below X.heap.size X Y) : ME T b s w Y := by
  obtain ⟨⟨C, hb, hs⟩, hg⟩ := h
  exact ⟨⟨C, (hB.block _ (Array.getElem?_eq_some_iff.1 hb).1).trans hb, hs⟩, gb_later hg hB⟩
theorem ME.cell {T : TypeId} {b s j : Nat} {w X : World} (h : ME T b s w X) (hj : j < s) : (∃ u, X.cell? ⟨b, j, none⟩ = some u) ∧ X.frozen? ⟨b, j, none⟩ = false := by
  obtain ⟨⟨C, hb, hs⟩, hg⟩ := h
  exact ⟨cell_in hb (by omega), free_of_block hb j⟩
set_option maxRecDepth 100000 in
set_option maxHeartbeats 3200000 in
theorem markEventS_any (n : Nat) (b k : Nat) (h1 : 1 ≤ k) (h2 : k + 17 * n ≤ 100000000) (w : World) (C : Array Value) (hb : w.heap[b]? = some (.cells C 55 (0, 0))) (hs : n * 17 ≤ C.size) :
    Calls Try.prog 23 #[.slice (some ⟨b, 0, none⟩) n n, .int .i64 (k : Int)] w fun x w' => x = .returned (.int .i64 ((k + 17 * n : Nat) : Int)) ∧ w.grownBy w' (some b) := by
  have HM : Hid (ME 55 b (n * 17) w w) := ⟨⟨C, hb, hs⟩, gb_refl _ _⟩
  clear hb hs
  go_enter Try.func23, Try.ntmps23
  go_wp2_with fail
  go_loopw [1, 5] (fun kv iv wr => ∃ (i : Nat) (z : Int), i ≤ n ∧ iv = .int .i64 i ∧ kv = .int .i64 z ∧ Hid (z = ((k + 17 * i : Nat) : Int)) ∧ Hid (ME 55 b (n * 17) w wr)) (fun _ iv _ => n - (intOf iv).toNat)
  case atStart => exact ⟨0, k, by omega, rfl, rfl, hide (by simp), HM⟩
  case round =>
    obtain ⟨i, z, hi, rfl, rfl, HZ, HM0⟩ := hrel
    by_cases hlt : i < n
    · have hz0 : 1 ≤ z := by have := HZ.out; omega
      have hz1 : z ≤ 100000000 := by have := HZ.out; omega
      have hii : (i : Int) < (n : Int) := by omega
      obtain ⟨⟨u0, c0⟩, f0⟩ := ME.cell (j := i * 17) HM0.out (by omega)
      obtain ⟨⟨u1, c1⟩, f1⟩ := ME.cell (j := i * 17 + 1) HM0.out (by omega)
      obtain ⟨⟨u2, c2⟩, f2⟩ := ME.cell (j := i * 17 + 2) HM0.out (by omega)
      go_wp2_with fail
      refine (markText_at _ (k + 17 * i + 3) (by have := HZ.out; omega) (by omega) (by omega) _).mono ?_
      rintro x0 Y0 ⟨rfl, hB0⟩
      have HM1 := hide (ME.later (ME.set (ME.set (ME.set HM0.out))) hB0)
      clear hB0 HM0 c0 f0 c1 f1 c2 f2
      obtain ⟨⟨u3, c3⟩, f3⟩ := ME.cell (j := i * 17 + 3) HM1.out (by omega)
      obtain ⟨⟨u4, c4⟩, f4⟩ := ME.cell (j := i * 17 + 4) HM1.out (by omega)
      obtain ⟨⟨u5, c5⟩, f5⟩ := ME.cell (j := i * 17 + 5) HM1.out (by omega)
      go_wp2_with fail
      refine (markText_at _ (k + 17 * i + 6) (by have := HZ.out; omega) (by omega) (by omega) _).mono ?_
      rintro x1 Y1 ⟨rfl, hB1⟩
      have HM2 := hide (ME.later (ME.set (ME.set (ME.set HM1.out))) hB1)
      clear hB1 HM1 c3 f3 c4 f4 c5 f5
      obtain ⟨⟨u6, c6⟩, f6⟩ := ME.cell (j := i * 17 + 6) HM2.out (by omega)
      obtain ⟨⟨u7, c7⟩, f7⟩ := ME.cell (j := i * 17 + 7) HM2.out (by omega)
      obtain ⟨⟨u8, c8⟩, f8⟩ := ME.cell (j := i * 17 + 8) HM2.out (by omega)
      go_wp2_with fail
      refine (markText_at _ (k + 17 * i + 9) (by have := HZ.out; omega) (by omega) (by omega) _).mono ?_
      rintro x2 Y2 ⟨rfl, hB2⟩
      have HM3 := hide (ME.later (ME.set (ME.set (ME.set HM2.out))) hB2)
      clear hB2 HM2 c6 f6 c7 f7 c8 f8
      obtain ⟨⟨u9, c9⟩, f9⟩ := ME.cell (j := i * 17 + 9) HM3.out (by omega)
      obtain ⟨⟨u10, c10⟩, f10⟩ := ME.cell (j := i * 17 + 10) HM3.out (by omega)
      obtain ⟨⟨u11, c11⟩, f11⟩ := ME.cell (j := i * 17 + 11) HM3.out (by omega)
      go_wp2_with fail
      refine (markText_at _ (k + 17 * i + 12) (by have := HZ.out; omega) (by omega) (by omega) _).mono ?_
      rintro x3 Y3 ⟨rfl, hB3⟩
      have HM4 := hide (ME.later (ME.set (ME.set (ME.set HM3.out))) hB3)
      clear hB3 HM3 c9 f9 c10 f10 c11 f11
      obtain ⟨⟨u12, c12⟩, f12⟩ := ME.cell (j := i * 17 + 12) HM4.out (by omega)
      obtain ⟨⟨u13, c13⟩, f13⟩ := ME.cell (j := i * 17 + 13) HM4.out (by omega)
      obtain ⟨⟨u14, c14⟩, f14⟩ := ME.cell (j := i * 17 + 14) HM4.out (by omega)
      obtain ⟨⟨u15, c15⟩, f15⟩ := ME.cell (j := i * 17 + 15) HM4.out (by omega)
      go_wp2_with fail
      refine (markText_at _ (k + 17 * i + 16) (by have := HZ.out; omega) (by omega) (by omega) _).mono ?_
      rintro x4 Y4 ⟨rfl, hB4⟩
      have HM5 := hide (ME.later (ME.set (ME.set (ME.set (ME.set HM4.out)))) hB4)
      clear hB4 HM4 c12 f12 c13 f13 c14 f14 c15 f15
      obtain ⟨⟨u16, c16⟩, f16⟩ := ME.cell (j := i * 17 + 16) HM5.out (by omega)
      go_wp2_with fail
      go_roundw
      case rel => exact ⟨i + 1, _, by omega, by go_num, rfl, hide (by have := HZ.out; omega), (ME.set HM5.out)⟩
      case measure => simp [intOf]; omega
    · have hie : i = n := by omega
      have HE : Hid (z = ((k + 17 * n : Nat) : Int)) := by rw [← hie]; exact HZ
      clear hie
      go_wp2_with fail
      go_ret
      exact ⟨by rw [← HE.out]; rfl, HM0.out.2⟩
end Go.Proofs.Ytobeecopkfgplaa

/- What was asked for, marked, and held against the marks. -/
namespace Go.Proofs.Ytobeecopkfgplaa
open Go.RowKit
set_option linter.unusedVariables false
set_option linter.unusedSimpArgs false
def mkComes (k : Nat) : List Value := [(.int .i64 ((k + 0 : Nat) : Int) : Value), (.int .i64 ((k + 1 : Nat) : Int) : Value), (.string (Pl.bs (Pl.mark (k + 2))) : Value), (.bool (((k + 3 : Nat) : Int) % 3 == 0) : Value), (.int .i64 ((k + 4 : Nat) : Int) : Value), (.int .i64 ((k + 5 : Nat) : Int) : Value), (.string (Pl.bs (Pl.mark (k + 6))) : Value)]
theorem nextComes {C : Array Value} {k i n : Nat} {z : Int} (hs : n * 7 ≤ C.size) (hi : i < n) (hz : z = ((k + 7 * i : Nat) : Int)) (hc : ∀ j, j < i → ∀ t u, (mkComes (k + 7 * j))[t]? = some u → C[j * 7 + t]? = some u)
    {a0 a1 a2 a3 a4 a5 a6 : Nat} (e0 : a0 = i * 7 + 0) (e1 : a1 = i * 7 + 1) (e2 : a2 = i * 7 + 2) (e3 : a3 = i * 7 + 3) (e4 : a4 = i * 7 + 4) (e5 : a5 = i * 7 + 5) (e6 : a6 = i * 7 + 6) :
    ∀ j, j < i + 1 → ∀ t u, (mkComes (k + 7 * j))[t]? = some u → (((((((C.setIfInBounds a0 ((.int .i64 z : Value))).setIfInBounds a1 ((.int .i64 (z + 1) : Value))).setIfInBounds a2 ((.string (Pl.bs (Pl.mark (k + 7 * i + 2))) : Value))).setIfInBounds a3 ((.bool ((z + 1 + 1 + 1) % 3 == 0) : Value))).setIfInBounds a4 ((.int .i64 (z + 1 + 1 + 1 + 1) : Value))).setIfInBounds a5 ((.int .i64 (z + 1 + 1 + 1 + 1 + 1) : Value))).setIfInBounds a6 ((.string (Pl.bs (Pl.mark (k + 7 * i + 6))) : Value)))[j * 7 + t]? = some u := by
  intro j hj t u hu
  subst e0 e1 e2 e3 e4 e5 e6
  by_cases hji : j = i
  · subst hji
    have l0 : j * 7 + 0 < C.size := by omega
    have l1 : j * 7 + 1 < C.size := by omega
    have l2 : j * 7 + 2 < C.size := by omega
    have l3 : j * 7 + 3 < C.size := by omega
    have l4 : j * 7 + 4 < C.size := by omega
    have l5 : j * 7 + 5 < C.size := by omega
    have l6 : j * 7 + 6 < C.size := by omega
    match t, hu with
    | 0, hu =>
      obtain rfl : (.int .i64 ((k + 7 * j + 0 : Nat) : Int) : Value) = u := by simpa [mkComes] using hu
      have hv : (.int .i64 z : Value) = (.int .i64 ((k + 7 * j + 0 : Nat) : Int) : Value) := by rw [hz]; congr 1 <;> omega
      rw [Array.getElem?_setIfInBounds_ne (by omega)]
      rw [Array.getElem?_setIfInBounds_ne (by omega)]
      rw [Array.getElem?_setIfInBounds_ne (by omega)]
      rw [Array.getElem?_setIfInBounds_ne (by omega)]
      rw [Array.getElem?_setIfInBounds_ne (by omega)]
      rw [Array.getElem?_setIfInBounds_ne (by omega)]
      rw [Array.getElem?_setIfInBounds_self_of_lt (by simp; omega)]
      rw [hv]
    | 1, hu =>
      obtain rfl : (.int .i64 ((k + 7 * j + 1 : Nat) : Int) : Value) = u := by simpa [mkComes] using hu
      have hv : (.int .i64 (z + 1) : Value) = (.int .i64 ((k + 7 * j + 1 : Nat) : Int) : Value) := by rw [hz]; congr 1 <;> omega
      rw [Array.getElem?_setIfInBounds_ne (by omega)]
      rw [Array.getElem?_setIfInBounds_ne (by omega)]
      rw [Array.getElem?_setIfInBounds_ne (by omega)]
      rw [Array.getElem?_setIfInBounds_ne (by omega)]
      rw [Array.getElem?_setIfInBounds_ne (by omega)]
      rw [Array.getElem?_setIfInBounds_self_of_lt (by simp; omega)]
      rw [hv]
    | 2, hu =>
      obtain rfl : (.string (Pl.bs (Pl.mark (k + 7 * j + 2))) : Value) = u := by simpa [mkComes] using hu
      rw [Array.getElem?_setIfInBounds_ne (by omega)]
      rw [Array.getElem?_setIfInBounds_ne (by omega)]
      rw [Array.getElem?_setIfInBounds_ne (by omega)]
      rw [Array.getElem?_setIfInBounds_ne (by omega)]
      rw [Array.getElem?_setIfInBounds_self_of_lt (by simp; omega)]
      skip
    | 3, hu =>
      obtain rfl : (.bool (((k + 7 * j + 3 : Nat) : Int) % 3 == 0) : Value) = u := by simpa [mkComes] using hu
      have hv : (.bool ((z + 1 + 1 + 1) % 3 == 0) : Value) = (.bool (((k + 7 * j + 3 : Nat) : Int) % 3 == 0) : Value) := by rw [hz]; congr 3 <;> omega
      rw [Array.getElem?_setIfInBounds_ne (by omega)]
      rw [Array.getElem?_setIfInBounds_ne (by omega)]
      rw [Array.getElem?_setIfInBounds_ne (by omega)]
      rw [Array.getElem?_setIfInBounds_self_of_lt (by simp; omega)]
      rw [hv]
    | 4, hu =>
      obtain rfl : (.int .i64 ((k + 7 * j + 4 : Nat) : Int) : Value) = u := by simpa [mkComes] using hu
      have hv : (.int .i64 (z + 1 + 1 + 1 + 1) : Value) = (.int .i64 ((k + 7 * j + 4 : Nat) : Int) : Value) := by rw [hz]; congr 1 <;> omega
      rw [Array.getElem?_setIfInBounds_ne (by omega)]
      rw [Array.getElem?_setIfInBounds_ne (by omega)]
      rw [Array.getElem?_setIfInBounds_self_of_lt (by simp; omega)]
      rw [hv]
    | 5, hu =>
      obtain rfl : (.int .i64 ((k + 7 * j + 5 : Nat) : Int) : Value) = u := by simpa [mkComes] using hu
      have hv : (.int .i64 (z + 1 + 1 + 1 + 1 + 1) : Value) = (.int .i64 ((k + 7 * j + 5 : Nat) : Int) : Value) := by rw [hz]; congr 1 <;> omega
      rw [Array.getElem?_setIfInBounds_ne (by omega)]
      rw [Array.getElem?_setIfInBounds_self_of_lt (by simp; omega)]
      rw [hv]
    | 6, hu =>
      obtain rfl : (.string (Pl.bs (Pl.mark (k + 7 * j + 6))) : Value) = u := by simpa [mkComes] using hu
      rw [Array.getElem?_setIfInBounds_self_of_lt (by simp; omega)]
      skip
    | t + 7, hu => simp [mkComes] at hu
  · have ht : t < 7 := by
      have := (List.getElem?_eq_some_iff.1 hu).1
      simpa [mkComes] using this
    have hlt : j < i := by omega
    have hlin : j * 7 + 7 ≤ i * 7 := by
      have := Nat.mul_le_mul_right 7 (show j + 1 ≤ i by omega)
      omega
    rw [Array.getElem?_setIfInBounds_ne (by omega)]
    rw [Array.getElem?_setIfInBounds_ne (by omega)]
    rw [Array.getElem?_setIfInBounds_ne (by omega)]
    rw [Array.getElem?_setIfInBounds_ne (by omega)]
    rw [Array.getElem?_setIfInBounds_ne (by omega)]
    rw [Array.getElem?_setIfInBounds_ne (by omega)]
    rw [Array.getElem?_setIfInBounds_ne (by omega)]
    exact hc j hlt t u hu
set_option maxRecDepth 100000 in
set_option maxHeartbeats 3200000 in
theorem markComes_any (n : Nat) (a : Option Addr) (c k : Nat) (h1 : 1 ≤ k) (h2 : k + 7 * n ≤ 100000000) (hnc : n ≤ c) (hcm : c ≤ maxLen) (w : World) (hr : RowM 53 7 mkComes k a n 0 w) :
    Calls Try.prog 29 #[.slice a n c, .int .i64 (k : Int)] w fun x w' => x = .returned (.int .i64 ((k + 7 * n : Nat) : Int)) ∧ RowM 53 7 mkComes k a n n w' ∧ w.grownBy w' (Value.slice a n c).ownBlock := by
  unfold maxLen at hcm
  have HR := hide hr
  clear hr
  go_enter Try.func29, Try.ntmps29
  go_wp2_with fail
  go_loopw [1, 5] (fun kv iv wr => ∃ (i : Nat) (z : Int), i ≤ n ∧ iv = .int .i64 i ∧ kv = .int .i64 z ∧ Hid (z = ((k + 7 * i : Nat) : Int)) ∧ Hid (RowM 53 7 mkComes k a n i wr) ∧ Hid (w.grownBy wr (Value.slice a n c).ownBlock)) (fun _ iv _ => n - (intOf iv).toNat)
  case atStart => exact ⟨0, k, by omega, rfl, rfl, hide (by simp), HR, hide (gb_refl _ _)⟩
  case round =>
    obtain ⟨i, z, hi, rfl, rfl, HZ, HM, HG⟩ := hrel
    by_cases hlt : i < n
    · obtain ⟨b, C, rfl, hb, hs, hcont⟩ := HM.out (by omega)
      have HB0 := hide hb
      have HS := hide hs
      have HC := hide hcont
      have HG0 : Hid (w.grownBy wr (some b)) := HG
      have hz0 : 1 ≤ z := by have := HZ.out; omega
      have hz1 : z ≤ 100000000 := by have := HZ.out; omega
      have hii : (i : Int) < (n : Int) := by omega
      clear hb hs hcont HM HG HR
      obtain ⟨u0, c0⟩ : ∃ u, wr.cell? ⟨b, i * 7, none⟩ = some u := cell_in HB0.out (by (try simp only [Array.size_setIfInBounds]); have := HS.out; omega)
      have f0 : wr.frozen? ⟨b, i * 7, none⟩ = false := free_of_block HB0.out _
      obtain ⟨u1, c1⟩ : ∃ u, wr.cell? ⟨b, i * 7 + 1, none⟩ = some u := cell_in HB0.out (by (try simp only [Array.size_setIfInBounds]); have := HS.out; omega)
      have f1 : wr.frozen? ⟨b, i * 7 + 1, none⟩ = false := free_of_block HB0.out _
      go_wp2_with fail
      refine (markText_at _ (k + 7 * i + 2) (by have := HZ.out; omega) (by omega) (by omega) _).mono ?_
      rintro x0 Y0 ⟨rfl, hB0⟩
      have hbk := (block_set (block_set HB0.out (i * 7) (.int .i64 z : Value)) (i * 7 + 1) (.int .i64 (z + 1) : Value))
      have HB1 := hide ((hB0.block b (Array.getElem?_eq_some_iff.1 hbk).1).trans hbk)
      have HG1 := hide (gb_later (gb_set (gb_set HG0.out)) hB0)
      clear hB0 hbk c0 f0 c1 f1
      obtain ⟨u2, c2⟩ : ∃ u, Y0.cell? ⟨b, i * 7 + 2, none⟩ = some u := cell_in HB1.out (by (try simp only [Array.size_setIfInBounds]); have := HS.out; omega)
      have f2 : Y0.frozen? ⟨b, i * 7 + 2, none⟩ = false := free_of_block HB1.out _
      obtain ⟨u3, c3⟩ : ∃ u, Y0.cell? ⟨b, i * 7 + 3, none⟩ = some u := cell_in HB1.out (by (try simp only [Array.size_setIfInBounds]); have := HS.out; omega)
      have f3 : Y0.frozen? ⟨b, i * 7 + 3, none⟩ = false := free_of_block HB1.out _
      obtain ⟨u4, c4⟩ : ∃ u, Y0.cell? ⟨b, i * 7 + 4, none⟩ = some u := cell_in HB1.out (by (try simp only [Array.size_setIfInBounds]); have := HS.out; omega)
      have f4 : Y0.frozen? ⟨b, i * 7 + 4, none⟩ = false := free_of_block HB1.out _
      obtain ⟨u5, c5⟩ : ∃ u, Y0.cell? ⟨b, i * 7 + 5, none⟩ = some u := cell_in HB1.out (by (try simp only [Array.size_setIfInBounds]); have := HS.out; omega)
      have f5 : Y0.frozen? ⟨b, i * 7 + 5, none⟩ = false := free_of_block HB1.out _
      go_wp2_with fail
      refine (markText_at _ (k + 7 * i + 6) (by have := HZ.out; omega) (by omega) (by omega) _).mono ?_
      rintro x1 Y1 ⟨rfl, hB1⟩
      have hbk := (block_set (block_set (block_set (block_set HB1.out (i * 7 + 2) (.string (Pl.bs (Pl.mark (k + 7 * i + 2))) : Value)) (i * 7 + 3) (.bool ((z + 1 + 1 + 1) % 3 == 0) : Value)) (i * 7 + 4) (.int .i64 (z + 1 + 1 + 1 + 1) : Value)) (i * 7 + 5) (.int .i64 (z + 1 + 1 + 1 + 1 + 1) : Value))
      have HB2 := hide ((hB1.block b (Array.getElem?_eq_some_iff.1 hbk).1).trans hbk)
      have HG2 := hide (gb_later (gb_set (gb_set (gb_set (gb_set HG1.out)))) hB1)
      clear hB1 hbk c2 f2 c3 f3 c4 f4 c5 f5
      obtain ⟨u6, c6⟩ : ∃ u, Y1.cell? ⟨b, i * 7 + 6, none⟩ = some u := cell_in HB2.out (by (try simp only [Array.size_setIfInBounds]); have := HS.out; omega)
      have f6 : Y1.frozen? ⟨b, i * 7 + 6, none⟩ = false := free_of_block HB2.out _
      go_wp2_with fail
      go_roundw
      case rel => exact ⟨i + 1, _, by omega, by go_num, rfl, hide (by have := HZ.out; omega), hide (fun _ => ⟨b, _, rfl, (block_set HB2.out (i * 7 + 6) (.string (Pl.bs (Pl.mark (k + 7 * i + 6))) : Value)), by simp only [Array.size_setIfInBounds]; exact HS.out, nextComes HS.out hlt HZ.out HC.out (by omega) (by omega) (by omega) (by omega) (by omega) (by omega) (by omega)⟩), hide ((gb_set HG2.out))⟩
      case measure => simp [intOf]; omega
    · have hie : i = n := by omega
      have HE : Hid (z = ((k + 7 * n : Nat) : Int)) := by rw [← hie]; exact HZ
      have HD : Hid (RowM 53 7 mkComes k a n n wr) := by rw [hie] at HM; exact HM
      clear hie
      go_wp2_with fail
      go_ret
      exact ⟨by rw [← HE.out]; rfl, HD.out, HG.out⟩
end Go.Proofs.Ytobeecopkfgplaa

/- What was asked for, marked, and held against the marks. -/
namespace Go.Proofs.Ytobeecopkfgplaa
open Go.RowKit
set_option linter.unusedVariables false
set_option linter.unusedSimpArgs false
set_option maxRecDepth 100000 in
set_option maxHeartbeats 3200000 in
theorem heldComes_any (n : Nat) (a : Option Addr) (c k : Nat) (h1 : 1 ≤ k) (h2 : k + 7 * n ≤ 100000000) (hnc : n ≤ c) (hcm : c ≤ maxLen) (w : World) (hr : RowM 53 7 mkComes k a n n w) :
    Calls Try.prog 30 #[.slice a n c, .int .i64 (k : Int)] w fun x w' => x = .returned (.int .i64 ((k + 7 * n : Nat) : Int)) ∧ Below w.heap.size w w' := by
  unfold maxLen at hcm
  have HR := hide hr
  clear hr
  go_enter Try.func30, Try.ntmps30
  go_wp2_with fail
  go_loopw [1, 5] (fun kv iv wr => ∃ (i : Nat) (z : Int), i ≤ n ∧ iv = .int .i64 i ∧ kv = .int .i64 z ∧ Hid (z = ((k + 7 * i : Nat) : Int)) ∧ Hid (Below w.heap.size w wr)) (fun _ iv _ => n - (intOf iv).toNat)
  case atStart => exact ⟨0, k, by omega, rfl, rfl, hide (by simp), Below.refl _ _⟩
  case round =>
    obtain ⟨i, z, hi, rfl, rfl, HZ, HB⟩ := hrel
    by_cases hlt : i < n
    · obtain ⟨b, C, rfl, hb, hs, hcont⟩ := HR.out (by omega)
      have hbl : b < w.heap.size := (Array.getElem?_eq_some_iff.1 hb).1
      have HCW : Hid (∀ j u, (mkComes (k + 7 * i))[j]? = some u → wr.cell? ⟨b, i * 7 + j, none⟩ = some u) := hide fun j u hu => (Below.cell HB.out (p := ⟨b, i * 7 + j, none⟩) hbl).trans ((cell_of_block hb _).trans (hcont i hlt j u hu))
      have HGb : Hid (b < wr.heap.size) := by show _ < _; have := HB.out.size; omega
      have hz0 : 1 ≤ z := by have := HZ.out; omega
      have hz1 : z ≤ 100000000 := by have := HZ.out; omega
      have hii : (i : Int) < (n : Int) := by omega
      clear hb hs hcont HR hbl
      have q0 : wr.cell? ⟨b, i * 7, none⟩ = some (.int .i64 z : Value) := by
        rw [show (.int .i64 z : Value) = (.int .i64 ((k + 7 * i + 0 : Nat) : Int) : Value) by rw [HZ.out]; congr 1 <;> omega]
        exact HCW.out 0 _ rfl
      have q1 : wr.cell? ⟨b, i * 7 + 1, none⟩ = some (.int .i64 (z + 1) : Value) := by
        rw [show (.int .i64 (z + 1) : Value) = (.int .i64 ((k + 7 * i + 1 : Nat) : Int) : Value) by rw [HZ.out]; congr 1 <;> omega]
        exact HCW.out 1 _ rfl
      have q2 : wr.cell? ⟨b, i * 7 + 2, none⟩ = some (.string (Pl.bs (Pl.mark (k + 7 * i + 2))) : Value) := HCW.out 2 _ rfl
      have q3 : wr.cell? ⟨b, i * 7 + 3, none⟩ = some (.bool ((z + 1 + 1 + 1) % 3 == 0) : Value) := by
        rw [show (.bool ((z + 1 + 1 + 1) % 3 == 0) : Value) = (.bool (((k + 7 * i + 3 : Nat) : Int) % 3 == 0) : Value) by rw [HZ.out]; congr 3 <;> omega]
        exact HCW.out 3 _ rfl
      have q4 : wr.cell? ⟨b, i * 7 + 4, none⟩ = some (.int .i64 (z + 1 + 1 + 1 + 1) : Value) := by
        rw [show (.int .i64 (z + 1 + 1 + 1 + 1) : Value) = (.int .i64 ((k + 7 * i + 4 : Nat) : Int) : Value) by rw [HZ.out]; congr 1 <;> omega]
        exact HCW.out 4 _ rfl
      have q5 : wr.cell? ⟨b, i * 7 + 5, none⟩ = some (.int .i64 (z + 1 + 1 + 1 + 1 + 1) : Value) := by
        rw [show (.int .i64 (z + 1 + 1 + 1 + 1 + 1) : Value) = (.int .i64 ((k + 7 * i + 5 : Nat) : Int) : Value) by rw [HZ.out]; congr 1 <;> omega]
        exact HCW.out 5 _ rfl
      have q6 : wr.cell? ⟨b, i * 7 + 6, none⟩ = some (.string (Pl.bs (Pl.mark (k + 7 * i + 6))) : Value) := HCW.out 6 _ rfl
      have n0 : ((z) != (z)) = false := by simp
      have n1 : ((z + 1) != (z + 1)) = false := by simp
      have n3 : (((z + 1 + 1 + 1) % 3 == 0) != ((z + 1 + 1 + 1) % 3 == 0)) = false := by simp
      have n4 : ((z + 1 + 1 + 1 + 1) != (z + 1 + 1 + 1 + 1)) = false := by simp
      have n5 : ((z + 1 + 1 + 1 + 1 + 1) != (z + 1 + 1 + 1 + 1 + 1)) = false := by simp
      have HP0 := HB
      go_wp2_with fail
      refine wp_region_noPanic ?_
      refine wp_region_held_drew (S := fun W => Below wr.heap.size wr W) (by kernel_rfl) (below_drew' (Below.refl _ _)) (fun hHeld => ?_)
      refine wpAnyH_take (i := 0) (oi := Oper.mk (some 30) _ _ _ _ _) (v := ?_) rfl (by kernel_rfl) (by kernel_rfl) (by kernel_rfl) (fun _ _ _ h => h) (Or.inl ⟨by rfl, ?_⟩) (by assumption) ?_
      rotate_left
      · intro w0 hSw
        clear hSw
        go_simp
        all_goals (with_reducible rfl)
      simp only [Act.put, List.setIfInBounds_toArray, List.set_cons_zero, List.set_cons_succ]
      refine wpAnyH_take (i := 1) (oi := Oper.mk (some 31) _ _ _ _ _) (v := ?_) rfl (by kernel_rfl) (by kernel_rfl) (by kernel_rfl) (fun _ _ _ h => h) (Or.inl ⟨by rfl, ?_⟩) (by assumption) ?_
      rotate_left
      · intro w0 hSw
        clear hSw
        go_simp
        all_goals (with_reducible rfl)
      simp only [Act.put, List.setIfInBounds_toArray, List.set_cons_zero, List.set_cons_succ]
      refine wpAnyH_take (i := 2) (oi := Oper.mk (some 32) _ _ _ _ _) (v := ?_) rfl (by kernel_rfl) (by kernel_rfl) (by kernel_rfl) (fun _ _ _ h => h) (Or.inl ⟨by rfl, ?_⟩) (by assumption) ?_
      rotate_left
      · intro w0 hSw
        clear hSw
        go_simp
        all_goals (with_reducible rfl)
      simp only [Act.put, List.setIfInBounds_toArray, List.set_cons_zero, List.set_cons_succ]
      refine wpAnyH_take (i := 3) (oi := Oper.mk (some 33) _ _ _ _ _) (v := ?_) rfl (by kernel_rfl) (by kernel_rfl) (by kernel_rfl) (fun _ _ _ h => h) (Or.inl ⟨by rfl, ?_⟩) (by assumption) ?_
      rotate_left
      · intro w0 hSw
        clear hSw
        go_simp
        all_goals (with_reducible rfl)
      simp only [Act.put, List.setIfInBounds_toArray, List.set_cons_zero, List.set_cons_succ]
      refine wpAnyH_take (i := 4) (oi := Oper.mk (some 34) _ _ _ _ _) (v := ?_) rfl (by kernel_rfl) (by kernel_rfl) (by kernel_rfl) (fun _ _ _ h => h) (Or.inl ⟨by rfl, ?_⟩) (by assumption) ?_
      rotate_left
      · intro w0 hSw
        have z0 : w0.cell? ⟨b, i * 7 + 2, none⟩ = some ((.string (Pl.bs (Pl.mark (k + 7 * i + 2))) : Value)) := (Below.cell hSw (p := ⟨b, i * 7 + 2, none⟩) HGb.out).trans q2
        clear hSw
        go_simp
        all_goals (with_reducible rfl)
      simp only [Act.put, List.setIfInBounds_toArray, List.set_cons_zero, List.set_cons_succ]
      refine wpAnyH_take (i := 5) (oi := Oper.mk (some 35) _ _ _ _ _) (v := ?_) rfl (by kernel_rfl) (by kernel_rfl) (by kernel_rfl) (fun _ _ _ h => h) (Or.inl ⟨by rfl, ?_⟩) (by assumption) ?_
      rotate_left
      · intro w0 hSw
        clear hSw
        go_simp
        all_goals (with_reducible rfl)
      simp only [Act.put, List.setIfInBounds_toArray, List.set_cons_zero, List.set_cons_succ]
      refine wpAnyH_ready (rs := [6]) (by kernel_rfl) (by simp) ?_
      refine AllReadyH.cons (o := Oper.mk (some 36) _ _ _ _ _) rfl (fun K hK => ?_) AllReadyH.nil
      go_simp
      go_at_call 46
      refine (markText_at _ (k + 7 * i + 2) (by have := HZ.out; omega) (by omega) (by omega) _).mono ?_
      rintro x0 Y0 ⟨rfl, hB0⟩
      have hHeld' := Below.trans hHeld (hB0.mono hHeld.size)
      clear hB0 hHeld
      go_wp2_with fail
      refine hK.out _ _ hHeld' (fun hHeld => ?_)
      clear hK K hHeld'
      (try simp only [Act.put, List.setIfInBounds_toArray, List.set_cons_zero, List.set_cons_succ])
      refine wpAnyH_take (i := 7) (oi := Oper.mk (some 37) _ _ _ _ _) (v := ?_) rfl (by kernel_rfl) (by kernel_rfl) (by kernel_rfl) (fun _ _ _ h => h) (Or.inl ⟨by rfl, ?_⟩) (by assumption) ?_
      rotate_left
      · intro w0 hSw
        clear hSw
        go_simp
        all_goals (with_reducible rfl)
      simp only [Act.put, List.setIfInBounds_toArray, List.set_cons_zero, List.set_cons_succ]
      refine wpAnyH_done (by kernel_rfl) ?_ _
      refine NoPanic.normal ?_
      replace q0 : Y0.cell? ⟨b, i * 7, none⟩ = some (.int .i64 z : Value) := (Below.cell hHeld (p := ⟨b, i * 7, none⟩) HGb.out).trans q0
      replace q1 : Y0.cell? ⟨b, i * 7 + 1, none⟩ = some (.int .i64 (z + 1) : Value) := (Below.cell hHeld (p := ⟨b, i * 7 + 1, none⟩) HGb.out).trans q1
      replace q2 : Y0.cell? ⟨b, i * 7 + 2, none⟩ = some (.string (Pl.bs (Pl.mark (k + 7 * i + 2))) : Value) := (Below.cell hHeld (p := ⟨b, i * 7 + 2, none⟩) HGb.out).trans q2
      replace q3 : Y0.cell? ⟨b, i * 7 + 3, none⟩ = some (.bool ((z + 1 + 1 + 1) % 3 == 0) : Value) := (Below.cell hHeld (p := ⟨b, i * 7 + 3, none⟩) HGb.out).trans q3
      replace q4 : Y0.cell? ⟨b, i * 7 + 4, none⟩ = some (.int .i64 (z + 1 + 1 + 1 + 1) : Value) := (Below.cell hHeld (p := ⟨b, i * 7 + 4, none⟩) HGb.out).trans q4
      replace q5 : Y0.cell? ⟨b, i * 7 + 5, none⟩ = some (.int .i64 (z + 1 + 1 + 1 + 1 + 1) : Value) := (Below.cell hHeld (p := ⟨b, i * 7 + 5, none⟩) HGb.out).trans q5
      replace q6 : Y0.cell? ⟨b, i * 7 + 6, none⟩ = some (.string (Pl.bs (Pl.mark (k + 7 * i + 6))) : Value) := (Below.cell hHeld (p := ⟨b, i * 7 + 6, none⟩) HGb.out).trans q6
      replace HGb : Hid (b < Y0.heap.size) := by show _ < _; have := HGb.out; have := hHeld.size; omega
      have HP1 := hide (HP0.out.trans (hHeld.mono HP0.out.size))
      clear hHeld
      go_wp2_with fail
      refine wp_region_noPanic ?_
      refine wp_region_held_drew (S := fun W => Below Y0.heap.size Y0 W) (by kernel_rfl) (below_drew' (Below.refl _ _)) (fun hHeld => ?_)
      refine wpAnyH_take (i := 0) (oi := Oper.mk (some 71) _ _ _ _ _) (v := ?_) rfl (by kernel_rfl) (by kernel_rfl) (by kernel_rfl) (fun _ _ _ h => h) (Or.inl ⟨by rfl, ?_⟩) (by assumption) ?_
      rotate_left
      · intro w0 hSw
        clear hSw
        go_simp
        all_goals (with_reducible rfl)
      simp only [Act.put, List.setIfInBounds_toArray, List.set_cons_zero, List.set_cons_succ]
      refine wpAnyH_take (i := 1) (oi := Oper.mk (some 72) _ _ _ _ _) (v := ?_) rfl (by kernel_rfl) (by kernel_rfl) (by kernel_rfl) (fun _ _ _ h => h) (Or.inl ⟨by rfl, ?_⟩) (by assumption) ?_
      rotate_left
      · intro w0 hSw
        clear hSw
        go_simp
        all_goals (with_reducible rfl)
      simp only [Act.put, List.setIfInBounds_toArray, List.set_cons_zero, List.set_cons_succ]
      refine wpAnyH_take (i := 2) (oi := Oper.mk (some 73) _ _ _ _ _) (v := ?_) rfl (by kernel_rfl) (by kernel_rfl) (by kernel_rfl) (fun _ _ _ h => h) (Or.inl ⟨by rfl, ?_⟩) (by assumption) ?_
      rotate_left
      · intro w0 hSw
        clear hSw
        go_simp
        all_goals (with_reducible rfl)
      simp only [Act.put, List.setIfInBounds_toArray, List.set_cons_zero, List.set_cons_succ]
      refine wpAnyH_take (i := 3) (oi := Oper.mk (some 74) _ _ _ _ _) (v := ?_) rfl (by kernel_rfl) (by kernel_rfl) (by kernel_rfl) (fun _ _ _ h => h) (Or.inl ⟨by rfl, ?_⟩) (by assumption) ?_
      rotate_left
      · intro w0 hSw
        clear hSw
        go_simp
        all_goals (with_reducible rfl)
      simp only [Act.put, List.setIfInBounds_toArray, List.set_cons_zero, List.set_cons_succ]
      refine wpAnyH_take (i := 4) (oi := Oper.mk (some 75) _ _ _ _ _) (v := ?_) rfl (by kernel_rfl) (by kernel_rfl) (by kernel_rfl) (fun _ _ _ h => h) (Or.inl ⟨by rfl, ?_⟩) (by assumption) ?_
      rotate_left
      · intro w0 hSw
        clear hSw
        go_simp
        all_goals (with_reducible rfl)
      simp only [Act.put, List.setIfInBounds_toArray, List.set_cons_zero, List.set_cons_succ]
      refine wpAnyH_take (i := 5) (oi := Oper.mk (some 76) _ _ _ _ _) (v := ?_) rfl (by kernel_rfl) (by kernel_rfl) (by kernel_rfl) (fun _ _ _ h => h) (Or.inl ⟨by rfl, ?_⟩) (by assumption) ?_
      rotate_left
      · intro w0 hSw
        have z0 : w0.cell? ⟨b, i * 7 + 6, none⟩ = some ((.string (Pl.bs (Pl.mark (k + 7 * i + 6))) : Value)) := (Below.cell hSw (p := ⟨b, i * 7 + 6, none⟩) HGb.out).trans q6
        clear hSw
        go_simp
        all_goals (with_reducible rfl)
      simp only [Act.put, List.setIfInBounds_toArray, List.set_cons_zero, List.set_cons_succ]
      refine wpAnyH_take (i := 6) (oi := Oper.mk (some 77) _ _ _ _ _) (v := ?_) rfl (by kernel_rfl) (by kernel_rfl) (by kernel_rfl) (fun _ _ _ h => h) (Or.inl ⟨by rfl, ?_⟩) (by assumption) ?_
      rotate_left
      · intro w0 hSw
        clear hSw
        go_simp
        all_goals (with_reducible rfl)
      simp only [Act.put, List.setIfInBounds_toArray, List.set_cons_zero, List.set_cons_succ]
      refine wpAnyH_ready (rs := [7]) (by kernel_rfl) (by simp) ?_
      refine AllReadyH.cons (o := Oper.mk (some 78) _ _ _ _ _) rfl (fun K hK => ?_) AllReadyH.nil
      go_simp
      go_at_call 46
      refine (markText_at _ (k + 7 * i + 6) (by have := HZ.out; omega) (by omega) (by omega) _).mono ?_
      rintro x1 Y1 ⟨rfl, hB0⟩
      have hHeld' := Below.trans hHeld (hB0.mono hHeld.size)
      clear hB0 hHeld
      go_wp2_with fail
      refine hK.out _ _ hHeld' (fun hHeld => ?_)
      clear hK K hHeld'
      (try simp only [Act.put, List.setIfInBounds_toArray, List.set_cons_zero, List.set_cons_succ])
      refine wpAnyH_take (i := 8) (oi := Oper.mk (some 79) _ _ _ _ _) (v := ?_) rfl (by kernel_rfl) (by kernel_rfl) (by kernel_rfl) (fun _ _ _ h => h) (Or.inl ⟨by rfl, ?_⟩) (by assumption) ?_
      rotate_left
      · intro w0 hSw
        clear hSw
        go_simp
        all_goals (with_reducible rfl)
      simp only [Act.put, List.setIfInBounds_toArray, List.set_cons_zero, List.set_cons_succ]
      refine wpAnyH_done (by kernel_rfl) ?_ _
      refine NoPanic.normal ?_
      replace q0 : Y1.cell? ⟨b, i * 7, none⟩ = some (.int .i64 z : Value) := (Below.cell hHeld (p := ⟨b, i * 7, none⟩) HGb.out).trans q0
      replace q1 : Y1.cell? ⟨b, i * 7 + 1, none⟩ = some (.int .i64 (z + 1) : Value) := (Below.cell hHeld (p := ⟨b, i * 7 + 1, none⟩) HGb.out).trans q1
      replace q2 : Y1.cell? ⟨b, i * 7 + 2, none⟩ = some (.string (Pl.bs (Pl.mark (k + 7 * i + 2))) : Value) := (Below.cell hHeld (p := ⟨b, i * 7 + 2, none⟩) HGb.out).trans q2
      replace q3 : Y1.cell? ⟨b, i * 7 + 3, none⟩ = some (.bool ((z + 1 + 1 + 1) % 3 == 0) : Value) := (Below.cell hHeld (p := ⟨b, i * 7 + 3, none⟩) HGb.out).trans q3
      replace q4 : Y1.cell? ⟨b, i * 7 + 4, none⟩ = some (.int .i64 (z + 1 + 1 + 1 + 1) : Value) := (Below.cell hHeld (p := ⟨b, i * 7 + 4, none⟩) HGb.out).trans q4
      replace q5 : Y1.cell? ⟨b, i * 7 + 5, none⟩ = some (.int .i64 (z + 1 + 1 + 1 + 1 + 1) : Value) := (Below.cell hHeld (p := ⟨b, i * 7 + 5, none⟩) HGb.out).trans q5
      replace q6 : Y1.cell? ⟨b, i * 7 + 6, none⟩ = some (.string (Pl.bs (Pl.mark (k + 7 * i + 6))) : Value) := (Below.cell hHeld (p := ⟨b, i * 7 + 6, none⟩) HGb.out).trans q6
      replace HGb : Hid (b < Y1.heap.size) := by show _ < _; have := HGb.out; have := hHeld.size; omega
      have HP2 := hide (HP1.out.trans (hHeld.mono HP1.out.size))
      clear hHeld
      go_wp2_with fail
      go_roundw
      case rel => exact ⟨i + 1, _, by omega, by go_num, rfl, hide (by have := HZ.out; omega), HP2⟩
      case measure => simp [intOf]; omega
    · have hie : i = n := by omega
      have HE : Hid (z = ((k + 7 * n : Nat) : Int)) := by rw [← hie]; exact HZ
      clear hie
      go_wp2_with fail
      go_ret
      exact ⟨by rw [← HE.out]; rfl, HB.out⟩
end Go.Proofs.Ytobeecopkfgplaa

/- Whether something may come behind events, as the specification asks it. -/
import Derived.Test.YtobeecopkfgplaaSpD
import Derived.Test.YtobeecopkfgplaaPaM
import Derived.Test.YtobeecopkfgplaaCame1
namespace Go.Proofs.Ytobeecopkfgplaa
open Go.RowKit
set_option linter.unusedVariables false
set_option linter.unusedSimpArgs false
set_option maxHeartbeats 400000 in
theorem l4Came_any (k : Int) (w : World) :
    Calls Try.prog 72 #[.int .i64 k] w fun e w' => e = .returned (.int .i64 (Pl.cameS k)) ∧ w' = w := by
  unfold Pl.cameS
  by_cases h1 : k = 1
  · subst h1
    go_enter Try.func72, Try.ntmps72
    go_wp2
    go_ret
    exact ⟨rfl, rfl⟩
  · by_cases h2 : k = 2
    · subst h2
      go_enter Try.func72, Try.ntmps72
      go_wp2
      go_ret
      exact ⟨rfl, rfl⟩
    · have q1 : (k == 1) = false := by simp [h1]
      have q2 : (k == 2) = false := by simp [h2]
      rw [if_neg h1, if_neg h2]
      clear h1 h2
      go_enter Try.func72, Try.ntmps72
      go_wp2
      go_ret
      exact ⟨rfl, rfl⟩
theorem flat_at {f : Ev → List Value} {size : Nat} (hf : ∀ e, (f e).length = size) : ∀ (L : List Ev) (i : Nat) (e : Ev), L[i]? = some e → ∀ j u, (f e)[j]? = some u → (L.flatMap f)[i * size + j]? = some u
  | [], i, e, h => by simp at h
  | a :: r, 0, e, h => fun j u hu => by
    obtain rfl : a = e := by simpa using h
    have hj : j < (f a).length := (List.getElem?_eq_some_iff.1 hu).1
    simp only [List.flatMap_cons, Nat.zero_mul, Nat.zero_add]
    rw [List.getElem?_append_left hj]; exact hu
  | a :: r, i + 1, e, h => fun j u hu => by
    have ih := flat_at hf r i e (by simpa using h) j u hu
    simp only [List.flatMap_cons]
    rw [List.getElem?_append_right (by rw [hf]; rw [Nat.add_mul]; omega), hf]
    rw [show (i + 1) * size + j - size = i * size + j by rw [Nat.add_mul]; omega]
    exact ih
theorem own_cells {w : World} {base : Nat} {T : TypeId} {size : Nat} {a : Option Addr} {n c : Nat} {L : List Ev} {f : Ev → List Value} (hf : ∀ e, (f e).length = size) (h : w.ownsRow base T size (.slice a n c) L.length (L.flatMap f)) {i : Nat} {e : Ev} (he : L[i]? = some e) :
    ∃ g, a = some ⟨g, 0, none⟩ ∧ base ≤ g ∧ g < w.heap.size ∧ ∀ j u, (f e)[j]? = some u → w.cell? ⟨g, i * size + j, none⟩ = some u := by
  obtain ⟨hl, h⟩ := h
  have hi : i < L.length := (List.getElem?_eq_some_iff.1 he).1
  rcases h with ⟨h1, h0⟩ | ⟨g, cap, cur, hv, hb, hg, hnc, hm, hs, ht⟩
  · omega
  · injection hv with h1 h2 h3
    refine ⟨g, h1, hb, (Array.getElem?_eq_some_iff.1 hg).1, fun j u hu => ?_⟩
    have hfl := flat_at hf L i e he j u hu
    rw [← ht, List.getElem?_take] at hfl
    split at hfl
    · simp only [World.cell?, hg]; simpa using hfl
    · cases hfl
theorem own_bound {w : World} {base : Nat} {T : TypeId} {size : Nat} {a : Option Addr} {n c : Nat} {k : Nat} {xs : List Value} (h : w.ownsRow base T size (.slice a n c) k xs) : n = k ∧ n ≤ c ∧ c ≤ maxLen := by
  rcases h.2 with ⟨h1, h0⟩ | ⟨g, cap, cur, hv, hb, hg, hnc, hm, hs, ht⟩
  · injection h1 with h1 h2 h3
    subst h2 h3
    exact ⟨h0.symm, Nat.le_refl _, by unfold maxLen; omega⟩
  · injection hv with h1 h2 h3
    subst h2 h3
    exact ⟨rfl, hnc, hm⟩
/-- whether something of a kind may come for a place -/
def Pl.mayP (l : List Ev) (ct mp : Int) : Bool :=
  ct == 4 || ((decide (0 ≤ mp) && decide (mp ≤ ((Pl.cmdsOf l).length : Int) - 1)) && (match (Pl.cmdsOf l)[mp.toNat]? with
    | some c => !Pl.endK c.ck && ((Pl.cameS c.ck == ct) && Pl.freeB l mp)
    | none => false))
theorem mayB_eq (l : List Ev) (e : Ev) : Pl.mayB l e = Pl.mayP l e.ct e.mp := rfl
theorem seven_box {w w1 : World} {x0 x1 x2 x3 x4 x5 x6 : Value} {T : TypeId} (hB : Below (w.alloc (.cells #[x0, x1, x2, x3, x4, x5, x6] T)).heap.size (w.alloc (.cells #[x0, x1, x2, x3, x4, x5, x6] T)) w1) : w.heap.size < w1.heap.size ∧ w1.cell? ⟨w.heap.size, 0, none⟩ = some x0 ∧ w1.cell? ⟨w.heap.size, 1, none⟩ = some x1 := by
  have e1 : (w.alloc (.cells #[x0, x1, x2, x3, x4, x5, x6] T)).heap.size = w.heap.size + 1 := by simp
  have := hB.size
  refine ⟨by omega, ?_, ?_⟩
  · rw [hB.cell (p := ⟨w.heap.size, 0, none⟩) (by simp only; omega)]; simp
  · rw [hB.cell (p := ⟨w.heap.size, 1, none⟩) (by simp only; omega)]; simp
set_option maxRecDepth 100000 in
set_option maxHeartbeats 3200000 in
theorem l5May_out (l : List Ev) (hN : l.length ≤ 1048576) (v : Value) (ct mp : Int) (mn : ByteArray) (mo : Bool) (wk wn : Int) (wt : ByteArray) (w : World) (hr : EvRow w l v) (h4 : ¬ ct = 4) (hout : (decide (0 ≤ mp) && decide (mp ≤ ((Pl.cmdsOf l).length : Int) - 1)) = false) :
    Calls Try.prog 58 #[v, cameV ct mp mn mo wk wn wt] w fun x w' => x = .returned (.bool false) ∧ Below w.heap.size w w' := by
  have HRW := hide hr
  obtain ⟨ad, cap, rfl, hc, hmx, hx⟩ := hr
  unfold maxLen at hmx
  clear hx
  have hcl := hide (fun W hW => l5Cmds_any l hN (.slice ad l.length cap) W hW)
  have hcs := hide (fun W hW => l5Comes_any l hN (.slice ad l.length cap) W hW)
  have hin := hide (fun W => in_any mp 0 (((Pl.cmdsOf l).length : Int) - 1) W)
  rw [hout] at hin
  have hlen : (Pl.cmdsOf l).length ≤ l.length := by unfold Pl.cmdsOf; exact List.length_filter_le _ _
  have q4 : (ct == 4) = false := by simp [h4]
  clear hout h4
  generalize hn1 : (Pl.cmdsOf l).length = n1 at *
  go_enter Try.func58, Try.ntmps58
  go_wp2_with fail
  refine (hcl.out _ (HRW.out.later ((Below.refl _ _).alloc (Nat.le_refl _) _))).mono ?_
  rintro x1 Y ⟨v1, rfl, ho1, hB1⟩
  obtain ⟨hsz, y0, y1⟩ := seven_box hB1
  have HBY := hide (below_box1 hB1)
  have HO1 := hide ho1
  obtain ⟨a1, c1, hv1⟩ := ownsRow_form ho1
  subst hv1
  clear hB1 ho1
  go_wp2_with fail
  refine (hcs.out _ (HRW.out.later HBY.out)).mono ?_
  rintro x2 X ⟨v2, rfl, ho2, hB2⟩
  have XC := hide ((hB2.cell (p := ⟨w.heap.size, 0, none⟩) hsz).trans y0)
  have XM := hide ((hB2.cell (p := ⟨w.heap.size, 1, none⟩) hsz).trans y1)
  have HSZ : Hid (w.heap.size < X.heap.size) := by show _ < _; have := hB2.size; omega
  have HOX := hide (ownsRow_later HO1.out hB2)
  have HO2 := hide ho2
  have HBX : Hid (Below w.heap.size w X) := HBY.out.trans (hB2.mono HBY.out.size)
  obtain ⟨a2, c2, hv2⟩ := ownsRow_form ho2
  subst hv2
  clear hB2 ho2 hsz y0 y1 HO1 HBY
  go_wp2_with fail
  have hwr : IntKind.i64.wrap ((n1 : Int) - 1) = (n1 : Int) - 1 := by rw [IntKind.wrap_i64]; omega
  refine wp_region_noPanic ?_
  refine wp_region_held_drew (S := fun W => Below X.heap.size X W) (by kernel_rfl) (below_drew' (Below.refl _ _)) (fun hHeld => ?_)
  refine wpAnyH_take (i := 0) (oi := Oper.mk (some 15) _ _ _ _ _) (v := ?_) rfl (by kernel_rfl) (by kernel_rfl) (by kernel_rfl) (fun _ _ _ h => h) (Or.inl ⟨by rfl, ?_⟩) (by assumption) ?_
  rotate_left
  · intro w0 hSw
    clear hSw
    go_simp
    all_goals (with_reducible rfl)
  simp only [Act.put, List.setIfInBounds_toArray, List.set_cons_zero, List.set_cons_succ]
  refine wpAnyH_take (i := 1) (oi := Oper.mk (some 16) _ _ _ _ _) (v := ?_) rfl (by kernel_rfl) (by kernel_rfl) (by kernel_rfl) (fun _ _ _ h => h) (Or.inl ⟨by rfl, ?_⟩) (by assumption) ?_
  rotate_left
  · intro w0 hSw
    have z0 : w0.cell? ⟨w.heap.size, 1, none⟩ = some (.int .i64 mp) := (Below.cell hSw (p := ⟨w.heap.size, 1, none⟩) HSZ.out).trans XM.out
    clear hSw
    go_simp
    all_goals (with_reducible rfl)
  simp only [Act.put, List.setIfInBounds_toArray, List.set_cons_zero, List.set_cons_succ]
  refine wpAnyH_take (i := 2) (oi := Oper.mk (some 17) _ _ _ _ _) (v := ?_) rfl (by kernel_rfl) (by kernel_rfl) (by kernel_rfl) (fun _ _ _ h => h) (Or.inl ⟨by rfl, ?_⟩) (by assumption) ?_
  rotate_left
  · intro w0 hSw
    clear hSw
    go_simp
    all_goals (with_reducible rfl)
  simp only [Act.put, List.setIfInBounds_toArray, List.set_cons_zero, List.set_cons_succ]
  refine wpAnyH_take (i := 3) (oi := Oper.mk (some 18) _ _ _ _ _) (v := ?_) rfl (by kernel_rfl) (by kernel_rfl) (by kernel_rfl) (fun _ _ _ h => h) (Or.inl ⟨by rfl, ?_⟩) (by assumption) ?_
  rotate_left
  · intro w0 hSw
    clear hSw
    go_simp
    all_goals (with_reducible rfl)
  simp only [Act.put, List.setIfInBounds_toArray, List.set_cons_zero, List.set_cons_succ]
  refine wpAnyH_take (i := 4) (oi := Oper.mk (some 19) _ _ _ _ _) (v := ?_) rfl (by kernel_rfl) (by kernel_rfl) (by kernel_rfl) (fun _ _ _ h => h) (Or.inl ⟨by rfl, ?_⟩) (by assumption) ?_
  rotate_left
  · intro w0 hSw
    clear hSw
    go_simp
    all_goals (with_reducible rfl)
  simp only [Act.put, List.setIfInBounds_toArray, List.set_cons_zero, List.set_cons_succ]
  refine wpAnyH_ready (rs := [5]) (by kernel_rfl) (by simp) ?_
  refine AllReadyH.cons (o := Oper.mk (some 20) _ _ _ _ _) rfl (fun K hK => ?_) AllReadyH.nil
  go_simp
  go_at_call 34
  refine (hin.out _).mono ?_
  rintro x0 w0 ⟨rfl, rfl⟩
  go_wp2_with fail
  refine hK.out _ _ hHeld (fun hHeld => ?_)
  clear hK K
  (try simp only [Act.put, List.setIfInBounds_toArray, List.set_cons_zero, List.set_cons_succ])
  refine wpAnyH_take (i := 6) (oi := Oper.mk (some 21) _ _ _ _ _) (v := ?_) rfl (by kernel_rfl) (by kernel_rfl) (by kernel_rfl) (fun _ _ _ h => h) (Or.inl ⟨by rfl, ?_⟩) (by assumption) ?_
  rotate_left
  · intro w0 hSw
    clear hSw
    go_simp
    all_goals (with_reducible rfl)
  simp only [Act.put, List.setIfInBounds_toArray, List.set_cons_zero, List.set_cons_succ]
  refine wpAnyH_take (i := 7) (oi := Oper.mk (some 22) _ _ _ _ _) (v := ?_) rfl (by kernel_rfl) (by kernel_rfl) (by kernel_rfl) (fun _ _ _ h => h) (Or.inl ⟨by rfl, ?_⟩) (by assumption) ?_
  rotate_left
  · intro w0 hSw
    clear hSw
    go_simp
    all_goals (with_reducible rfl)
  simp only [Act.put, List.setIfInBounds_toArray, List.set_cons_zero, List.set_cons_succ]
  refine wpAnyH_take (i := 8) (oi := Oper.mk (some 23) _ _ _ _ _) (v := undef) rfl (by kernel_rfl) (by kernel_rfl) (by kernel_rfl) (fun _ _ _ h => h) (Or.inr ⟨by rfl, rfl⟩) (by assumption) ?_
  simp only [Act.put, List.setIfInBounds_toArray, List.set_cons_zero, List.set_cons_succ]
  refine wpAnyH_take (i := 9) (oi := Oper.mk (some 24) _ _ _ _ _) (v := undef) rfl (by kernel_rfl) (by kernel_rfl) (by kernel_rfl) (fun _ _ _ h => h) (Or.inr ⟨by rfl, rfl⟩) (by assumption) ?_
  simp only [Act.put, List.setIfInBounds_toArray, List.set_cons_zero, List.set_cons_succ]
  refine wpAnyH_take (i := 10) (oi := Oper.mk (some 25) _ _ _ _ _) (v := undef) rfl (by kernel_rfl) (by kernel_rfl) (by kernel_rfl) (fun _ _ _ h => h) (Or.inr ⟨by rfl, rfl⟩) (by assumption) ?_
  simp only [Act.put, List.setIfInBounds_toArray, List.set_cons_zero, List.set_cons_succ]
  refine wpAnyH_take (i := 11) (oi := Oper.mk (some 26) _ _ _ _ _) (v := undef) rfl (by kernel_rfl) (by kernel_rfl) (by kernel_rfl) (fun _ _ _ h => h) (Or.inr ⟨by rfl, rfl⟩) (by assumption) ?_
  simp only [Act.put, List.setIfInBounds_toArray, List.set_cons_zero, List.set_cons_succ]
  refine wpAnyH_take (i := 12) (oi := Oper.mk (some 27) _ _ _ _ _) (v := undef) rfl (by kernel_rfl) (by kernel_rfl) (by kernel_rfl) (fun _ _ _ h => h) (Or.inr ⟨by rfl, rfl⟩) (by assumption) ?_
  simp only [Act.put, List.setIfInBounds_toArray, List.set_cons_zero, List.set_cons_succ]
  refine wpAnyH_take (i := 13) (oi := Oper.mk (some 28) _ _ _ _ _) (v := undef) rfl (by kernel_rfl) (by kernel_rfl) (by kernel_rfl) (fun _ _ _ h => h) (Or.inr ⟨by rfl, rfl⟩) (by assumption) ?_
  simp only [Act.put, List.setIfInBounds_toArray, List.set_cons_zero, List.set_cons_succ]
  refine wpAnyH_take (i := 14) (oi := Oper.mk (some 29) _ _ _ _ _) (v := ?_) rfl (by kernel_rfl) (by kernel_rfl) (by kernel_rfl) (fun _ _ _ h => h) (Or.inl ⟨by rfl, ?_⟩) (by assumption) ?_
  rotate_left
  · intro w0 hSw
    clear hSw
    go_simp
    all_goals (with_reducible rfl)
  simp only [Act.put, List.setIfInBounds_toArray, List.set_cons_zero, List.set_cons_succ]
  refine wpAnyH_take (i := 15) (oi := Oper.mk (some 30) _ _ _ _ _) (v := ?_) rfl (by kernel_rfl) (by kernel_rfl) (by kernel_rfl) (fun _ _ _ h => h) (Or.inl ⟨by rfl, ?_⟩) (by assumption) ?_
  rotate_left
  · intro w0 hSw
    clear hSw
    go_simp
    all_goals (with_reducible rfl)
  simp only [Act.put, List.setIfInBounds_toArray, List.set_cons_zero, List.set_cons_succ]
  refine wpAnyH_take (i := 16) (oi := Oper.mk (some 31) _ _ _ _ _) (v := undef) rfl (by kernel_rfl) (by kernel_rfl) (by kernel_rfl) (fun _ _ _ h => h) (Or.inr ⟨by rfl, rfl⟩) (by assumption) ?_
  simp only [Act.put, List.setIfInBounds_toArray, List.set_cons_zero, List.set_cons_succ]
  refine wpAnyH_take (i := 17) (oi := Oper.mk (some 32) _ _ _ _ _) (v := undef) rfl (by kernel_rfl) (by kernel_rfl) (by kernel_rfl) (fun _ _ _ h => h) (Or.inr ⟨by rfl, rfl⟩) (by assumption) ?_
  simp only [Act.put, List.setIfInBounds_toArray, List.set_cons_zero, List.set_cons_succ]
  refine wpAnyH_take (i := 18) (oi := Oper.mk (some 33) _ _ _ _ _) (v := undef) rfl (by kernel_rfl) (by kernel_rfl) (by kernel_rfl) (fun _ _ _ h => h) (Or.inr ⟨by rfl, rfl⟩) (by assumption) ?_
  simp only [Act.put, List.setIfInBounds_toArray, List.set_cons_zero, List.set_cons_succ]
  refine wpAnyH_take (i := 19) (oi := Oper.mk (some 34) _ _ _ _ _) (v := undef) rfl (by kernel_rfl) (by kernel_rfl) (by kernel_rfl) (fun _ _ _ h => h) (Or.inr ⟨by rfl, rfl⟩) (by assumption) ?_
  simp only [Act.put, List.setIfInBounds_toArray, List.set_cons_zero, List.set_cons_succ]
  refine wpAnyH_take (i := 20) (oi := Oper.mk (some 35) _ _ _ _ _) (v := undef) rfl (by kernel_rfl) (by kernel_rfl) (by kernel_rfl) (fun _ _ _ h => h) (Or.inr ⟨by rfl, rfl⟩) (by assumption) ?_
  simp only [Act.put, List.setIfInBounds_toArray, List.set_cons_zero, List.set_cons_succ]
  refine wpAnyH_take (i := 21) (oi := Oper.mk (some 36) _ _ _ _ _) (v := undef) rfl (by kernel_rfl) (by kernel_rfl) (by kernel_rfl) (fun _ _ _ h => h) (Or.inr ⟨by rfl, rfl⟩) (by assumption) ?_
  simp only [Act.put, List.setIfInBounds_toArray, List.set_cons_zero, List.set_cons_succ]
  refine wpAnyH_take (i := 22) (oi := Oper.mk (some 37) _ _ _ _ _) (v := undef) rfl (by kernel_rfl) (by kernel_rfl) (by kernel_rfl) (fun _ _ _ h => h) (Or.inr ⟨by rfl, rfl⟩) (by assumption) ?_
  simp only [Act.put, List.setIfInBounds_toArray, List.set_cons_zero, List.set_cons_succ]
  refine wpAnyH_take (i := 23) (oi := Oper.mk (some 38) _ _ _ _ _) (v := undef) rfl (by kernel_rfl) (by kernel_rfl) (by kernel_rfl) (fun _ _ _ h => h) (Or.inr ⟨by rfl, rfl⟩) (by assumption) ?_
  simp only [Act.put, List.setIfInBounds_toArray, List.set_cons_zero, List.set_cons_succ]
  refine wpAnyH_take (i := 24) (oi := Oper.mk (some 39) _ _ _ _ _) (v := undef) rfl (by kernel_rfl) (by kernel_rfl) (by kernel_rfl) (fun _ _ _ h => h) (Or.inr ⟨by rfl, rfl⟩) (by assumption) ?_
  simp only [Act.put, List.setIfInBounds_toArray, List.set_cons_zero, List.set_cons_succ]
  refine wpAnyH_take (i := 25) (oi := Oper.mk (some 40) _ _ _ _ _) (v := undef) rfl (by kernel_rfl) (by kernel_rfl) (by kernel_rfl) (fun _ _ _ h => h) (Or.inr ⟨by rfl, rfl⟩) (by assumption) ?_
  simp only [Act.put, List.setIfInBounds_toArray, List.set_cons_zero, List.set_cons_succ]
  refine wpAnyH_take (i := 26) (oi := Oper.mk (some 41) _ _ _ _ _) (v := ?_) rfl (by kernel_rfl) (by kernel_rfl) (by kernel_rfl) (fun _ _ _ h => h) (Or.inl ⟨by rfl, ?_⟩) (by assumption) ?_
  rotate_left
  · intro w0 hSw
    clear hSw
    go_simp
    all_goals (with_reducible rfl)
  simp only [Act.put, List.setIfInBounds_toArray, List.set_cons_zero, List.set_cons_succ]
  refine wpAnyH_done (by kernel_rfl) ?_ _
  refine NoPanic.normal ?_
  go_wp2_with fail
  go_ret
  exact ⟨rfl, HBX.out.trans (hHeld.mono HBX.out.size)⟩
set_option maxRecDepth 100000 in
set_option maxHeartbeats 3200000 in
theorem l5May_end (l : List Ev) (hN : l.length ≤ 1048576) (v : Value) (ct : Int) (p : Nat) (mn : ByteArray) (mo : Bool) (wk wn : Int) (wt : ByteArray) (w : World) (hr : EvRow w l v) (h4 : ¬ ct = 4) (c : Ev) (hcc : (Pl.cmdsOf l)[p]? = some c) (hen : Pl.endK c.ck = true) :
    Calls Try.prog 58 #[v, cameV ct p mn mo wk wn wt] w fun x w' => x = .returned (.bool false) ∧ Below w.heap.size w w' := by
  have HRW := hide hr
  obtain ⟨ad, cap, rfl, hc, hmx, hx⟩ := hr
  unfold maxLen at hmx
  clear hx
  have hcl := hide (fun W hW => l5Cmds_any l hN (.slice ad l.length cap) W hW)
  have hcs := hide (fun W hW => l5Comes_any l hN (.slice ad l.length cap) W hW)
  have hpl : p < (Pl.cmdsOf l).length := (List.getElem?_eq_some_iff.1 hcc).1
  have hlen : (Pl.cmdsOf l).length ≤ l.length := by unfold Pl.cmdsOf; exact List.length_filter_le _ _
  have hin : Hid (∀ W : World, Calls Try.prog 34 #[.int .i64 (p : Int), .int .i64 0, .int .i64 (((Pl.cmdsOf l).length : Int) - 1)] W fun e w' => e = .returned (.bool true) ∧ w' = W) := fun W => by
    have := in_any (p : Int) 0 (((Pl.cmdsOf l).length : Int) - 1) W
    rwa [show (decide ((0 : Int) ≤ (p : Int)) && decide ((p : Int) ≤ ((Pl.cmdsOf l).length : Int) - 1)) = true by simp; omega] at this
  have hend := hide (fun W => l5Ends_any c.ck c.cn c.ak c.an c.ax W)
  rw [hen] at hend
  have hcm := hide (fun W => l4Came_any c.ck W)
  have q4 : (ct == 4) = false := by simp [h4]
  have hpi : (p : Int) < ((Pl.cmdsOf l).length : Int) := by omega
  have HCC := hide hcc
  clear hen h4 hcc
  go_enter Try.func58, Try.ntmps58
  go_wp2_with fail
  refine (hcl.out _ (HRW.out.later ((Below.refl _ _).alloc (Nat.le_refl _) _))).mono ?_
  rintro x1 Y ⟨v1, rfl, ho1, hB1⟩
  obtain ⟨hsz, y0, y1⟩ := seven_box hB1
  have HBY := hide (below_box1 hB1)
  have HO1 := hide ho1
  obtain ⟨a1, c1, hv1⟩ := ownsRow_form ho1
  subst hv1
  clear hB1 ho1
  go_wp2_with fail
  refine (hcs.out _ (HRW.out.later HBY.out)).mono ?_
  rintro x2 X ⟨v2, rfl, ho2, hB2⟩
  have XC := hide ((hB2.cell (p := ⟨w.heap.size, 0, none⟩) hsz).trans y0)
  have XM := hide ((hB2.cell (p := ⟨w.heap.size, 1, none⟩) hsz).trans y1)
  have HSZ : Hid (w.heap.size < X.heap.size) := by show _ < _; have := hB2.size; omega
  have HOX := hide (ownsRow_later HO1.out hB2)
  have HO2 := hide ho2
  have HBX : Hid (Below w.heap.size w X) := HBY.out.trans (hB2.mono HBY.out.size)
  obtain ⟨a2, c2, hv2⟩ := ownsRow_form ho2
  subst hv2
  clear hB2 ho2 hsz y0 y1 HO1 HBY
  go_wp2_with fail
  obtain ⟨g1, ha1, hgb, hg1, hcells⟩ := own_cells (f := cmL) (size := 5) (fun _ => rfl) HOX.out HCC.out
  subst ha1
  have HG1 := hide hg1
  have R0 : Hid (X.cell? ⟨g1, p * 5, none⟩ = some (.int .i64 c.ck)) := hcells 0 _ rfl
  have R1 : Hid (X.cell? ⟨g1, p * 5 + 1, none⟩ = some (.string c.cn)) := hcells 1 _ rfl
  have R2 : Hid (X.cell? ⟨g1, p * 5 + 2, none⟩ = some (.int .i64 c.ak)) := hcells 2 _ rfl
  have R3 : Hid (X.cell? ⟨g1, p * 5 + 3, none⟩ = some (.int .i64 c.an)) := hcells 3 _ rfl
  have R4 : Hid (X.cell? ⟨g1, p * 5 + 4, none⟩ = some (.string c.ax)) := hcells 4 _ rfl
  have hb1 := own_bound HOX.out
  have HB1 := hide hb1
  clear hcells hg1 hgb hb1
  generalize hn1 : (Pl.cmdsOf l).length = n1 at *
  have hwr : IntKind.i64.wrap ((n1 : Int) - 1) = (n1 : Int) - 1 := by rw [IntKind.wrap_i64]; omega
  refine wp_region_noPanic ?_
  refine wp_region_held_drew (S := fun W => Below X.heap.size X W) (by kernel_rfl) (below_drew' (Below.refl _ _)) (fun hHeld => ?_)
  refine wpAnyH_take (i := 0) (oi := Oper.mk (some 15) _ _ _ _ _) (v := ?_) rfl (by kernel_rfl) (by kernel_rfl) (by kernel_rfl) (fun _ _ _ h => h) (Or.inl ⟨by rfl, ?_⟩) (by assumption) ?_
  rotate_left
  · intro w0 hSw
    clear hSw
    go_simp
    all_goals (with_reducible rfl)
  simp only [Act.put, List.setIfInBounds_toArray, List.set_cons_zero, List.set_cons_succ]
  refine wpAnyH_take (i := 1) (oi := Oper.mk (some 16) _ _ _ _ _) (v := ?_) rfl (by kernel_rfl) (by kernel_rfl) (by kernel_rfl) (fun _ _ _ h => h) (Or.inl ⟨by rfl, ?_⟩) (by assumption) ?_
  rotate_left
  · intro w0 hSw
    have z0 : w0.cell? ⟨w.heap.size, 1, none⟩ = some (.int .i64 (p : Int)) := (Below.cell hSw (p := ⟨w.heap.size, 1, none⟩) HSZ.out).trans XM.out
    clear hSw
    go_simp
    all_goals (with_reducible rfl)
  simp only [Act.put, List.setIfInBounds_toArray, List.set_cons_zero, List.set_cons_succ]
  refine wpAnyH_take (i := 2) (oi := Oper.mk (some 17) _ _ _ _ _) (v := ?_) rfl (by kernel_rfl) (by kernel_rfl) (by kernel_rfl) (fun _ _ _ h => h) (Or.inl ⟨by rfl, ?_⟩) (by assumption) ?_
  rotate_left
  · intro w0 hSw
    clear hSw
    go_simp
    all_goals (with_reducible rfl)
  simp only [Act.put, List.setIfInBounds_toArray, List.set_cons_zero, List.set_cons_succ]
  refine wpAnyH_take (i := 3) (oi := Oper.mk (some 18) _ _ _ _ _) (v := ?_) rfl (by kernel_rfl) (by kernel_rfl) (by kernel_rfl) (fun _ _ _ h => h) (Or.inl ⟨by rfl, ?_⟩) (by assumption) ?_
  rotate_left
  · intro w0 hSw
    clear hSw
    go_simp
    all_goals (with_reducible rfl)
  simp only [Act.put, List.setIfInBounds_toArray, List.set_cons_zero, List.set_cons_succ]
  refine wpAnyH_take (i := 4) (oi := Oper.mk (some 19) _ _ _ _ _) (v := ?_) rfl (by kernel_rfl) (by kernel_rfl) (by kernel_rfl) (fun _ _ _ h => h) (Or.inl ⟨by rfl, ?_⟩) (by assumption) ?_
  rotate_left
  · intro w0 hSw
    clear hSw
    go_simp
    all_goals (with_reducible rfl)
  simp only [Act.put, List.setIfInBounds_toArray, List.set_cons_zero, List.set_cons_succ]
  refine wpAnyH_ready (rs := [5]) (by kernel_rfl) (by simp) ?_
  refine AllReadyH.cons (o := Oper.mk (some 20) _ _ _ _ _) rfl (fun K hK => ?_) AllReadyH.nil
  go_simp
  go_at_call 34
  refine (hin.out _).mono ?_
  rintro x0 w0 ⟨rfl, rfl⟩
  go_wp2_with fail
  refine hK.out _ _ hHeld (fun hHeld => ?_)
  clear hK K
  (try simp only [Act.put, List.setIfInBounds_toArray, List.set_cons_zero, List.set_cons_succ])
  refine wpAnyH_take (i := 6) (oi := Oper.mk (some 21) _ _ _ _ _) (v := ?_) rfl (by kernel_rfl) (by kernel_rfl) (by kernel_rfl) (fun _ _ _ h => h) (Or.inl ⟨by rfl, ?_⟩) (by assumption) ?_
  rotate_left
  · intro w0 hSw
    clear hSw
    go_simp
    all_goals (with_reducible rfl)
  simp only [Act.put, List.setIfInBounds_toArray, List.set_cons_zero, List.set_cons_succ]
  refine wpAnyH_take (i := 7) (oi := Oper.mk (some 22) _ _ _ _ _) (v := ?_) rfl (by kernel_rfl) (by kernel_rfl) (by kernel_rfl) (fun _ _ _ h => h) (Or.inl ⟨by rfl, ?_⟩) (by assumption) ?_
  rotate_left
  · intro w0 hSw
    clear hSw
    go_simp
    all_goals (with_reducible rfl)
  simp only [Act.put, List.setIfInBounds_toArray, List.set_cons_zero, List.set_cons_succ]
  refine wpAnyH_take (i := 8) (oi := Oper.mk (some 23) _ _ _ _ _) (v := ?_) rfl (by kernel_rfl) (by kernel_rfl) (by kernel_rfl) (fun _ _ _ h => h) (Or.inl ⟨by rfl, ?_⟩) (by assumption) ?_
  rotate_left
  · intro w0 hSw
    clear hSw
    go_simp
    all_goals (with_reducible rfl)
  simp only [Act.put, List.setIfInBounds_toArray, List.set_cons_zero, List.set_cons_succ]
  refine wpAnyH_take (i := 9) (oi := Oper.mk (some 24) _ _ _ _ _) (v := ?_) rfl (by kernel_rfl) (by kernel_rfl) (by kernel_rfl) (fun _ _ _ h => h) (Or.inl ⟨by rfl, ?_⟩) (by assumption) ?_
  rotate_left
  · intro w0 hSw
    clear hSw
    go_simp
    all_goals (with_reducible rfl)
  simp only [Act.put, List.setIfInBounds_toArray, List.set_cons_zero, List.set_cons_succ]
  refine wpAnyH_take (i := 10) (oi := Oper.mk (some 25) _ _ _ _ _) (v := ?_) rfl (by kernel_rfl) (by kernel_rfl) (by kernel_rfl) (fun _ _ _ h => h) (Or.inl ⟨by rfl, ?_⟩) (by assumption) ?_
  rotate_left
  · intro w0 hSw
    have z0 : w0.cell? ⟨w.heap.size, 1, none⟩ = some (.int .i64 (p : Int)) := (Below.cell hSw (p := ⟨w.heap.size, 1, none⟩) HSZ.out).trans XM.out
    clear hSw
    go_simp
    all_goals (with_reducible rfl)
  simp only [Act.put, List.setIfInBounds_toArray, List.set_cons_zero, List.set_cons_succ]
  refine wpAnyH_take (i := 11) (oi := Oper.mk (some 26) _ _ _ _ _) (v := ?_) rfl (by kernel_rfl) (by kernel_rfl) (by kernel_rfl) (fun _ _ _ h => h) (Or.inl ⟨by rfl, ?_⟩) (by assumption) ?_
  rotate_left
  · intro w0 hSw
    clear hSw
    go_simp
    all_goals (with_reducible rfl)
  simp only [Act.put, List.setIfInBounds_toArray, List.set_cons_zero, List.set_cons_succ]
  refine wpAnyH_take (i := 12) (oi := Oper.mk (some 27) _ _ _ _ _) (v := ?_) rfl (by kernel_rfl) (by kernel_rfl) (by kernel_rfl) (fun _ _ _ h => h) (Or.inl ⟨by rfl, ?_⟩) (by assumption) ?_
  rotate_left
  · intro w0 hSw
    have z0 : w0.cell? ⟨g1, p * 5, none⟩ = some (.int .i64 c.ck) := (Below.cell hSw (p := ⟨g1, p * 5, none⟩) HG1.out).trans R0.out
    have z1 : w0.cell? ⟨g1, p * 5 + 1, none⟩ = some (.string c.cn) := (Below.cell hSw (p := ⟨g1, p * 5 + 1, none⟩) HG1.out).trans R1.out
    have z2 : w0.cell? ⟨g1, p * 5 + 2, none⟩ = some (.int .i64 c.ak) := (Below.cell hSw (p := ⟨g1, p * 5 + 2, none⟩) HG1.out).trans R2.out
    have z3 : w0.cell? ⟨g1, p * 5 + 3, none⟩ = some (.int .i64 c.an) := (Below.cell hSw (p := ⟨g1, p * 5 + 3, none⟩) HG1.out).trans R3.out
    have z4 : w0.cell? ⟨g1, p * 5 + 4, none⟩ = some (.string c.ax) := (Below.cell hSw (p := ⟨g1, p * 5 + 4, none⟩) HG1.out).trans R4.out
    clear hSw
    go_simp
    all_goals (with_reducible rfl)
  simp only [Act.put, List.setIfInBounds_toArray, List.set_cons_zero, List.set_cons_succ]
  refine wpAnyH_ready (rs := [13]) (by kernel_rfl) (by simp) ?_
  refine AllReadyH.cons (o := Oper.mk (some 28) _ _ _ _ _) rfl (fun K hK => ?_) AllReadyH.nil
  go_simp
  go_at_call 57
  refine (hend.out _).mono ?_
  rintro x0 w0 ⟨rfl, hB0⟩
  have hHeld' := Below.trans hHeld (hB0.mono hHeld.size)
  clear hB0 hHeld
  go_wp2_with fail
  refine hK.out _ _ hHeld' (fun hHeld => ?_)
  clear hK K hHeld'
  (try simp only [Act.put, List.setIfInBounds_toArray, List.set_cons_zero, List.set_cons_succ])
  refine wpAnyH_take (i := 14) (oi := Oper.mk (some 29) _ _ _ _ _) (v := ?_) rfl (by kernel_rfl) (by kernel_rfl) (by kernel_rfl) (fun _ _ _ h => h) (Or.inl ⟨by rfl, ?_⟩) (by assumption) ?_
  rotate_left
  · intro w0 hSw
    clear hSw
    go_simp
    all_goals (with_reducible rfl)
  simp only [Act.put, List.setIfInBounds_toArray, List.set_cons_zero, List.set_cons_succ]
  refine wpAnyH_take (i := 15) (oi := Oper.mk (some 30) _ _ _ _ _) (v := ?_) rfl (by kernel_rfl) (by kernel_rfl) (by kernel_rfl) (fun _ _ _ h => h) (Or.inl ⟨by rfl, ?_⟩) (by assumption) ?_
  rotate_left
  · intro w0 hSw
    clear hSw
    go_simp
    all_goals (with_reducible rfl)
  simp only [Act.put, List.setIfInBounds_toArray, List.set_cons_zero, List.set_cons_succ]
  refine wpAnyH_take (i := 16) (oi := Oper.mk (some 31) _ _ _ _ _) (v := undef) rfl (by kernel_rfl) (by kernel_rfl) (by kernel_rfl) (fun _ _ _ h => h) (Or.inr ⟨by rfl, rfl⟩) (by assumption) ?_
  simp only [Act.put, List.setIfInBounds_toArray, List.set_cons_zero, List.set_cons_succ]
  refine wpAnyH_take (i := 17) (oi := Oper.mk (some 32) _ _ _ _ _) (v := undef) rfl (by kernel_rfl) (by kernel_rfl) (by kernel_rfl) (fun _ _ _ h => h) (Or.inr ⟨by rfl, rfl⟩) (by assumption) ?_
  simp only [Act.put, List.setIfInBounds_toArray, List.set_cons_zero, List.set_cons_succ]
  refine wpAnyH_take (i := 18) (oi := Oper.mk (some 33) _ _ _ _ _) (v := undef) rfl (by kernel_rfl) (by kernel_rfl) (by kernel_rfl) (fun _ _ _ h => h) (Or.inr ⟨by rfl, rfl⟩) (by assumption) ?_
  simp only [Act.put, List.setIfInBounds_toArray, List.set_cons_zero, List.set_cons_succ]
  refine wpAnyH_take (i := 19) (oi := Oper.mk (some 34) _ _ _ _ _) (v := undef) rfl (by kernel_rfl) (by kernel_rfl) (by kernel_rfl) (fun _ _ _ h => h) (Or.inr ⟨by rfl, rfl⟩) (by assumption) ?_
  simp only [Act.put, List.setIfInBounds_toArray, List.set_cons_zero, List.set_cons_succ]
  refine wpAnyH_take (i := 20) (oi := Oper.mk (some 35) _ _ _ _ _) (v := undef) rfl (by kernel_rfl) (by kernel_rfl) (by kernel_rfl) (fun _ _ _ h => h) (Or.inr ⟨by rfl, rfl⟩) (by assumption) ?_
  simp only [Act.put, List.setIfInBounds_toArray, List.set_cons_zero, List.set_cons_succ]
  refine wpAnyH_take (i := 21) (oi := Oper.mk (some 36) _ _ _ _ _) (v := undef) rfl (by kernel_rfl) (by kernel_rfl) (by kernel_rfl) (fun _ _ _ h => h) (Or.inr ⟨by rfl, rfl⟩) (by assumption) ?_
  simp only [Act.put, List.setIfInBounds_toArray, List.set_cons_zero, List.set_cons_succ]
  refine wpAnyH_take (i := 22) (oi := Oper.mk (some 37) _ _ _ _ _) (v := undef) rfl (by kernel_rfl) (by kernel_rfl) (by kernel_rfl) (fun _ _ _ h => h) (Or.inr ⟨by rfl, rfl⟩) (by assumption) ?_
  simp only [Act.put, List.setIfInBounds_toArray, List.set_cons_zero, List.set_cons_succ]
  refine wpAnyH_take (i := 23) (oi := Oper.mk (some 38) _ _ _ _ _) (v := undef) rfl (by kernel_rfl) (by kernel_rfl) (by kernel_rfl) (fun _ _ _ h => h) (Or.inr ⟨by rfl, rfl⟩) (by assumption) ?_
  simp only [Act.put, List.setIfInBounds_toArray, List.set_cons_zero, List.set_cons_succ]
  refine wpAnyH_take (i := 24) (oi := Oper.mk (some 39) _ _ _ _ _) (v := undef) rfl (by kernel_rfl) (by kernel_rfl) (by kernel_rfl) (fun _ _ _ h => h) (Or.inr ⟨by rfl, rfl⟩) (by assumption) ?_
  simp only [Act.put, List.setIfInBounds_toArray, List.set_cons_zero, List.set_cons_succ]
  refine wpAnyH_take (i := 25) (oi := Oper.mk (some 40) _ _ _ _ _) (v := undef) rfl (by kernel_rfl) (by kernel_rfl) (by kernel_rfl) (fun _ _ _ h => h) (Or.inr ⟨by rfl, rfl⟩) (by assumption) ?_
  simp only [Act.put, List.setIfInBounds_toArray, List.set_cons_zero, List.set_cons_succ]
  refine wpAnyH_take (i := 26) (oi := Oper.mk (some 41) _ _ _ _ _) (v := ?_) rfl (by kernel_rfl) (by kernel_rfl) (by kernel_rfl) (fun _ _ _ h => h) (Or.inl ⟨by rfl, ?_⟩) (by assumption) ?_
  rotate_left
  · intro w0 hSw
    clear hSw
    go_simp
    all_goals (with_reducible rfl)
  simp only [Act.put, List.setIfInBounds_toArray, List.set_cons_zero, List.set_cons_succ]
  refine wpAnyH_done (by kernel_rfl) ?_ _
  refine NoPanic.normal ?_
  go_wp2_with fail
  go_ret
  exact ⟨rfl, HBX.out.trans (hHeld.mono HBX.out.size)⟩
set_option maxRecDepth 100000 in
set_option maxHeartbeats 3200000 in
theorem l5May_kind (l : List Ev) (hN : l.length ≤ 1048576) (v : Value) (ct : Int) (p : Nat) (mn : ByteArray) (mo : Bool) (wk wn : Int) (wt : ByteArray) (w : World) (hr : EvRow w l v) (h4 : ¬ ct = 4) (c : Ev) (hcc : (Pl.cmdsOf l)[p]? = some c) (hen : Pl.endK c.ck = false) (hct : ¬ Pl.cameS c.ck = ct) :
    Calls Try.prog 58 #[v, cameV ct p mn mo wk wn wt] w fun x w' => x = .returned (.bool false) ∧ Below w.heap.size w w' := by
  have HRW := hide hr
  obtain ⟨ad, cap, rfl, hc, hmx, hx⟩ := hr
  unfold maxLen at hmx
  clear hx
  have hcl := hide (fun W hW => l5Cmds_any l hN (.slice ad l.length cap) W hW)
  have hcs := hide (fun W hW => l5Comes_any l hN (.slice ad l.length cap) W hW)
  have hpl : p < (Pl.cmdsOf l).length := (List.getElem?_eq_some_iff.1 hcc).1
  have hlen : (Pl.cmdsOf l).length ≤ l.length := by unfold Pl.cmdsOf; exact List.length_filter_le _ _
  have hin : Hid (∀ W : World, Calls Try.prog 34 #[.int .i64 (p : Int), .int .i64 0, .int .i64 (((Pl.cmdsOf l).length : Int) - 1)] W fun e w' => e = .returned (.bool true) ∧ w' = W) := fun W => by
    have := in_any (p : Int) 0 (((Pl.cmdsOf l).length : Int) - 1) W
    rwa [show (decide ((0 : Int) ≤ (p : Int)) && decide ((p : Int) ≤ ((Pl.cmdsOf l).length : Int) - 1)) = true by simp; omega] at this
  have hend := hide (fun W => l5Ends_any c.ck c.cn c.ak c.an c.ax W)
  rw [hen] at hend
  have hcm := hide (fun W => l4Came_any c.ck W)
  have q4 : (ct == 4) = false := by simp [h4]
  have hpi : (p : Int) < ((Pl.cmdsOf l).length : Int) := by omega
  have HCC := hide hcc
  clear hen h4 hcc
  go_enter Try.func58, Try.ntmps58
  go_wp2_with fail
  refine (hcl.out _ (HRW.out.later ((Below.refl _ _).alloc (Nat.le_refl _) _))).mono ?_
  rintro x1 Y ⟨v1, rfl, ho1, hB1⟩
  obtain ⟨hsz, y0, y1⟩ := seven_box hB1
  have HBY := hide (below_box1 hB1)
  have HO1 := hide ho1
  obtain ⟨a1, c1, hv1⟩ := ownsRow_form ho1
  subst hv1
  clear hB1 ho1
  go_wp2_with fail
  refine (hcs.out _ (HRW.out.later HBY.out)).mono ?_
  rintro x2 X ⟨v2, rfl, ho2, hB2⟩
  have XC := hide ((hB2.cell (p := ⟨w.heap.size, 0, none⟩) hsz).trans y0)
  have XM := hide ((hB2.cell (p := ⟨w.heap.size, 1, none⟩) hsz).trans y1)
  have HSZ : Hid (w.heap.size < X.heap.size) := by show _ < _; have := hB2.size; omega
  have HOX := hide (ownsRow_later HO1.out hB2)
  have HO2 := hide ho2
  have HBX : Hid (Below w.heap.size w X) := HBY.out.trans (hB2.mono HBY.out.size)
  obtain ⟨a2, c2, hv2⟩ := ownsRow_form ho2
  subst hv2
  clear hB2 ho2 hsz y0 y1 HO1 HBY
  go_wp2_with fail
  obtain ⟨g1, ha1, hgb, hg1, hcells⟩ := own_cells (f := cmL) (size := 5) (fun _ => rfl) HOX.out HCC.out
  subst ha1
  have HG1 := hide hg1
  have R0 : Hid (X.cell? ⟨g1, p * 5, none⟩ = some (.int .i64 c.ck)) := hcells 0 _ rfl
  have R1 : Hid (X.cell? ⟨g1, p * 5 + 1, none⟩ = some (.string c.cn)) := hcells 1 _ rfl
  have R2 : Hid (X.cell? ⟨g1, p * 5 + 2, none⟩ = some (.int .i64 c.ak)) := hcells 2 _ rfl
  have R3 : Hid (X.cell? ⟨g1, p * 5 + 3, none⟩ = some (.int .i64 c.an)) := hcells 3 _ rfl
  have R4 : Hid (X.cell? ⟨g1, p * 5 + 4, none⟩ = some (.string c.ax)) := hcells 4 _ rfl
  have hb1 := own_bound HOX.out
  have HB1 := hide hb1
  clear hcells hg1 hgb hb1
  generalize hn1 : (Pl.cmdsOf l).length = n1 at *
  generalize Pl.cameS c.ck = cs at *
  have qct : (cs != ct) = true := by simp [hct]
  clear hct
  have hwr : IntKind.i64.wrap ((n1 : Int) - 1) = (n1 : Int) - 1 := by rw [IntKind.wrap_i64]; omega
  refine wp_region_noPanic ?_
  refine wp_region_held_drew (S := fun W => Below X.heap.size X W) (by kernel_rfl) (below_drew' (Below.refl _ _)) (fun hHeld => ?_)
  refine wpAnyH_take (i := 0) (oi := Oper.mk (some 15) _ _ _ _ _) (v := ?_) rfl (by kernel_rfl) (by kernel_rfl) (by kernel_rfl) (fun _ _ _ h => h) (Or.inl ⟨by rfl, ?_⟩) (by assumption) ?_
  rotate_left
  · intro w0 hSw
    clear hSw
    go_simp
    all_goals (with_reducible rfl)
  simp only [Act.put, List.setIfInBounds_toArray, List.set_cons_zero, List.set_cons_succ]
  refine wpAnyH_take (i := 1) (oi := Oper.mk (some 16) _ _ _ _ _) (v := ?_) rfl (by kernel_rfl) (by kernel_rfl) (by kernel_rfl) (fun _ _ _ h => h) (Or.inl ⟨by rfl, ?_⟩) (by assumption) ?_
  rotate_left
  · intro w0 hSw
    have z0 : w0.cell? ⟨w.heap.size, 1, none⟩ = some (.int .i64 (p : Int)) := (Below.cell hSw (p := ⟨w.heap.size, 1, none⟩) HSZ.out).trans XM.out
    clear hSw
    go_simp
    all_goals (with_reducible rfl)
  simp only [Act.put, List.setIfInBounds_toArray, List.set_cons_zero, List.set_cons_succ]
  refine wpAnyH_take (i := 2) (oi := Oper.mk (some 17) _ _ _ _ _) (v := ?_) rfl (by kernel_rfl) (by kernel_rfl) (by kernel_rfl) (fun _ _ _ h => h) (Or.inl ⟨by rfl, ?_⟩) (by assumption) ?_
  rotate_left
  · intro w0 hSw
    clear hSw
    go_simp
    all_goals (with_reducible rfl)
  simp only [Act.put, List.setIfInBounds_toArray, List.set_cons_zero, List.set_cons_succ]
  refine wpAnyH_take (i := 3) (oi := Oper.mk (some 18) _ _ _ _ _) (v := ?_) rfl (by kernel_rfl) (by kernel_rfl) (by kernel_rfl) (fun _ _ _ h => h) (Or.inl ⟨by rfl, ?_⟩) (by assumption) ?_
  rotate_left
  · intro w0 hSw
    clear hSw
    go_simp
    all_goals (with_reducible rfl)
  simp only [Act.put, List.setIfInBounds_toArray, List.set_cons_zero, List.set_cons_succ]
  refine wpAnyH_take (i := 4) (oi := Oper.mk (some 19) _ _ _ _ _) (v := ?_) rfl (by kernel_rfl) (by kernel_rfl) (by kernel_rfl) (fun _ _ _ h => h) (Or.inl ⟨by rfl, ?_⟩) (by assumption) ?_
  rotate_left
  · intro w0 hSw
    clear hSw
    go_simp
    all_goals (with_reducible rfl)
  simp only [Act.put, List.setIfInBounds_toArray, List.set_cons_zero, List.set_cons_succ]
  refine wpAnyH_ready (rs := [5]) (by kernel_rfl) (by simp) ?_
  refine AllReadyH.cons (o := Oper.mk (some 20) _ _ _ _ _) rfl (fun K hK => ?_) AllReadyH.nil
  go_simp
  go_at_call 34
  refine (hin.out _).mono ?_
  rintro x0 w0 ⟨rfl, rfl⟩
  go_wp2_with fail
  refine hK.out _ _ hHeld (fun hHeld => ?_)
  clear hK K
  (try simp only [Act.put, List.setIfInBounds_toArray, List.set_cons_zero, List.set_cons_succ])
  refine wpAnyH_take (i := 6) (oi := Oper.mk (some 21) _ _ _ _ _) (v := ?_) rfl (by kernel_rfl) (by kernel_rfl) (by kernel_rfl) (fun _ _ _ h => h) (Or.inl ⟨by rfl, ?_⟩) (by assumption) ?_
  rotate_left
  · intro w0 hSw
    clear hSw
    go_simp
    all_goals (with_reducible rfl)
  simp only [Act.put, List.setIfInBounds_toArray, List.set_cons_zero, List.set_cons_succ]
  refine wpAnyH_take (i := 7) (oi := Oper.mk (some 22) _ _ _ _ _) (v := ?_) rfl (by kernel_rfl) (by kernel_rfl) (by kernel_rfl) (fun _ _ _ h => h) (Or.inl ⟨by rfl, ?_⟩) (by assumption) ?_
  rotate_left
  · intro w0 hSw
    clear hSw
    go_simp
    all_goals (with_reducible rfl)
  simp only [Act.put, List.setIfInBounds_toArray, List.set_cons_zero, List.set_cons_succ]
  refine wpAnyH_take (i := 8) (oi := Oper.mk (some 23) _ _ _ _ _) (v := ?_) rfl (by kernel_rfl) (by kernel_rfl) (by kernel_rfl) (fun _ _ _ h => h) (Or.inl ⟨by rfl, ?_⟩) (by assumption) ?_
  rotate_left
  · intro w0 hSw
    clear hSw
    go_simp
    all_goals (with_reducible rfl)
  simp only [Act.put, List.setIfInBounds_toArray, List.set_cons_zero, List.set_cons_succ]
  refine wpAnyH_take (i := 9) (oi := Oper.mk (some 24) _ _ _ _ _) (v := ?_) rfl (by kernel_rfl) (by kernel_rfl) (by kernel_rfl) (fun _ _ _ h => h) (Or.inl ⟨by rfl, ?_⟩) (by assumption) ?_
  rotate_left
  · intro w0 hSw
    clear hSw
    go_simp
    all_goals (with_reducible rfl)
  simp only [Act.put, List.setIfInBounds_toArray, List.set_cons_zero, List.set_cons_succ]
  refine wpAnyH_take (i := 10) (oi := Oper.mk (some 25) _ _ _ _ _) (v := ?_) rfl (by kernel_rfl) (by kernel_rfl) (by kernel_rfl) (fun _ _ _ h => h) (Or.inl ⟨by rfl, ?_⟩) (by assumption) ?_
  rotate_left
  · intro w0 hSw
    have z0 : w0.cell? ⟨w.heap.size, 1, none⟩ = some (.int .i64 (p : Int)) := (Below.cell hSw (p := ⟨w.heap.size, 1, none⟩) HSZ.out).trans XM.out
    clear hSw
    go_simp
    all_goals (with_reducible rfl)
  simp only [Act.put, List.setIfInBounds_toArray, List.set_cons_zero, List.set_cons_succ]
  refine wpAnyH_take (i := 11) (oi := Oper.mk (some 26) _ _ _ _ _) (v := ?_) rfl (by kernel_rfl) (by kernel_rfl) (by kernel_rfl) (fun _ _ _ h => h) (Or.inl ⟨by rfl, ?_⟩) (by assumption) ?_
  rotate_left
  · intro w0 hSw
    clear hSw
    go_simp
    all_goals (with_reducible rfl)
  simp only [Act.put, List.setIfInBounds_toArray, List.set_cons_zero, List.set_cons_succ]
  refine wpAnyH_take (i := 12) (oi := Oper.mk (some 27) _ _ _ _ _) (v := ?_) rfl (by kernel_rfl) (by kernel_rfl) (by kernel_rfl) (fun _ _ _ h => h) (Or.inl ⟨by rfl, ?_⟩) (by assumption) ?_
  rotate_left
  · intro w0 hSw
    have z0 : w0.cell? ⟨g1, p * 5, none⟩ = some (.int .i64 c.ck) := (Below.cell hSw (p := ⟨g1, p * 5, none⟩) HG1.out).trans R0.out
    have z1 : w0.cell? ⟨g1, p * 5 + 1, none⟩ = some (.string c.cn) := (Below.cell hSw (p := ⟨g1, p * 5 + 1, none⟩) HG1.out).trans R1.out
    have z2 : w0.cell? ⟨g1, p * 5 + 2, none⟩ = some (.int .i64 c.ak) := (Below.cell hSw (p := ⟨g1, p * 5 + 2, none⟩) HG1.out).trans R2.out
    have z3 : w0.cell? ⟨g1, p * 5 + 3, none⟩ = some (.int .i64 c.an) := (Below.cell hSw (p := ⟨g1, p * 5 + 3, none⟩) HG1.out).trans R3.out
    have z4 : w0.cell? ⟨g1, p * 5 + 4, none⟩ = some (.string c.ax) := (Below.cell hSw (p := ⟨g1, p * 5 + 4, none⟩) HG1.out).trans R4.out
    clear hSw
    go_simp
    all_goals (with_reducible rfl)
  simp only [Act.put, List.setIfInBounds_toArray, List.set_cons_zero, List.set_cons_succ]
  refine wpAnyH_ready (rs := [13]) (by kernel_rfl) (by simp) ?_
  refine AllReadyH.cons (o := Oper.mk (some 28) _ _ _ _ _) rfl (fun K hK => ?_) AllReadyH.nil
  go_simp
  go_at_call 57
  refine (hend.out _).mono ?_
  rintro x0 w0 ⟨rfl, hB0⟩
  have hHeld' := Below.trans hHeld (hB0.mono hHeld.size)
  clear hB0 hHeld
  go_wp2_with fail
  refine hK.out _ _ hHeld' (fun hHeld => ?_)
  clear hK K hHeld'
  (try simp only [Act.put, List.setIfInBounds_toArray, List.set_cons_zero, List.set_cons_succ])
  refine wpAnyH_take (i := 14) (oi := Oper.mk (some 29) _ _ _ _ _) (v := ?_) rfl (by kernel_rfl) (by kernel_rfl) (by kernel_rfl) (fun _ _ _ h => h) (Or.inl ⟨by rfl, ?_⟩) (by assumption) ?_
  rotate_left
  · intro w0 hSw
    clear hSw
    go_simp
    all_goals (with_reducible rfl)
  simp only [Act.put, List.setIfInBounds_toArray, List.set_cons_zero, List.set_cons_succ]
  refine wpAnyH_take (i := 15) (oi := Oper.mk (some 30) _ _ _ _ _) (v := ?_) rfl (by kernel_rfl) (by kernel_rfl) (by kernel_rfl) (fun _ _ _ h => h) (Or.inl ⟨by rfl, ?_⟩) (by assumption) ?_
  rotate_left
  · intro w0 hSw
    clear hSw
    go_simp
    all_goals (with_reducible rfl)
  simp only [Act.put, List.setIfInBounds_toArray, List.set_cons_zero, List.set_cons_succ]
  refine wpAnyH_take (i := 16) (oi := Oper.mk (some 31) _ _ _ _ _) (v := ?_) rfl (by kernel_rfl) (by kernel_rfl) (by kernel_rfl) (fun _ _ _ h => h) (Or.inl ⟨by rfl, ?_⟩) (by assumption) ?_
  rotate_left
  · intro w0 hSw
    clear hSw
    go_simp
    all_goals (with_reducible rfl)
  simp only [Act.put, List.setIfInBounds_toArray, List.set_cons_zero, List.set_cons_succ]
  refine wpAnyH_take (i := 17) (oi := Oper.mk (some 32) _ _ _ _ _) (v := ?_) rfl (by kernel_rfl) (by kernel_rfl) (by kernel_rfl) (fun _ _ _ h => h) (Or.inl ⟨by rfl, ?_⟩) (by assumption) ?_
  rotate_left
  · intro w0 hSw
    clear hSw
    go_simp
    all_goals (with_reducible rfl)
  simp only [Act.put, List.setIfInBounds_toArray, List.set_cons_zero, List.set_cons_succ]
  refine wpAnyH_take (i := 18) (oi := Oper.mk (some 33) _ _ _ _ _) (v := ?_) rfl (by kernel_rfl) (by kernel_rfl) (by kernel_rfl) (fun _ _ _ h => h) (Or.inl ⟨by rfl, ?_⟩) (by assumption) ?_
  rotate_left
  · intro w0 hSw
    have z0 : w0.cell? ⟨w.heap.size, 1, none⟩ = some (.int .i64 (p : Int)) := (Below.cell hSw (p := ⟨w.heap.size, 1, none⟩) HSZ.out).trans XM.out
    clear hSw
    go_simp
    all_goals (with_reducible rfl)
  simp only [Act.put, List.setIfInBounds_toArray, List.set_cons_zero, List.set_cons_succ]
  refine wpAnyH_take (i := 19) (oi := Oper.mk (some 34) _ _ _ _ _) (v := ?_) rfl (by kernel_rfl) (by kernel_rfl) (by kernel_rfl) (fun _ _ _ h => h) (Or.inl ⟨by rfl, ?_⟩) (by assumption) ?_
  rotate_left
  · intro w0 hSw
    clear hSw
    go_simp
    all_goals (with_reducible rfl)
  simp only [Act.put, List.setIfInBounds_toArray, List.set_cons_zero, List.set_cons_succ]
  refine wpAnyH_take (i := 20) (oi := Oper.mk (some 35) _ _ _ _ _) (v := ?_) rfl (by kernel_rfl) (by kernel_rfl) (by kernel_rfl) (fun _ _ _ h => h) (Or.inl ⟨by rfl, ?_⟩) (by assumption) ?_
  rotate_left
  · intro w0 hSw
    clear hSw
    go_simp
    all_goals (with_reducible rfl)
  simp only [Act.put, List.setIfInBounds_toArray, List.set_cons_zero, List.set_cons_succ]
  refine wpAnyH_take (i := 21) (oi := Oper.mk (some 36) _ _ _ _ _) (v := ?_) rfl (by kernel_rfl) (by kernel_rfl) (by kernel_rfl) (fun _ _ _ h => h) (Or.inl ⟨by rfl, ?_⟩) (by assumption) ?_
  rotate_left
  · intro w0 hSw
    have z0 : w0.cell? ⟨g1, p * 5, none⟩ = some (.int .i64 c.ck) := (Below.cell hSw (p := ⟨g1, p * 5, none⟩) HG1.out).trans R0.out
    clear hSw
    go_simp
    all_goals (with_reducible rfl)
  simp only [Act.put, List.setIfInBounds_toArray, List.set_cons_zero, List.set_cons_succ]
  refine wpAnyH_take (i := 23) (oi := Oper.mk (some 38) _ _ _ _ _) (v := ?_) rfl (by kernel_rfl) (by kernel_rfl) (by kernel_rfl) (fun _ _ _ h => h) (Or.inl ⟨by rfl, ?_⟩) (by assumption) ?_
  rotate_left
  · intro w0 hSw
    clear hSw
    go_simp
    all_goals (with_reducible rfl)
  simp only [Act.put, List.setIfInBounds_toArray, List.set_cons_zero, List.set_cons_succ]
  refine wpAnyH_take (i := 24) (oi := Oper.mk (some 39) _ _ _ _ _) (v := ?_) rfl (by kernel_rfl) (by kernel_rfl) (by kernel_rfl) (fun _ _ _ h => h) (Or.inl ⟨by rfl, ?_⟩) (by assumption) ?_
  rotate_left
  · intro w0 hSw
    have z0 : w0.cell? ⟨w.heap.size, 0, none⟩ = some (.int .i64 ct) := (Below.cell hSw (p := ⟨w.heap.size, 0, none⟩) HSZ.out).trans XC.out
    clear hSw
    go_simp
    all_goals (with_reducible rfl)
  simp only [Act.put, List.setIfInBounds_toArray, List.set_cons_zero, List.set_cons_succ]
  refine wpAnyH_ready (rs := [22]) (by kernel_rfl) (by simp) ?_
  refine AllReadyH.cons (o := Oper.mk (some 37) _ _ _ _ _) rfl (fun K hK => ?_) AllReadyH.nil
  go_simp
  go_at_call 72
  refine (hcm.out _).mono ?_
  rintro x0 w0 ⟨rfl, rfl⟩
  go_wp2_with fail
  refine hK.out _ _ hHeld (fun hHeld => ?_)
  clear hK K
  (try simp only [Act.put, List.setIfInBounds_toArray, List.set_cons_zero, List.set_cons_succ])
  refine wpAnyH_take (i := 25) (oi := Oper.mk (some 40) _ _ _ _ _) (v := ?_) rfl (by kernel_rfl) (by kernel_rfl) (by kernel_rfl) (fun _ _ _ h => h) (Or.inl ⟨by rfl, ?_⟩) (by assumption) ?_
  rotate_left
  · intro w0 hSw
    clear hSw
    go_simp
    all_goals (with_reducible rfl)
  simp only [Act.put, List.setIfInBounds_toArray, List.set_cons_zero, List.set_cons_succ]
  refine wpAnyH_take (i := 26) (oi := Oper.mk (some 41) _ _ _ _ _) (v := ?_) rfl (by kernel_rfl) (by kernel_rfl) (by kernel_rfl) (fun _ _ _ h => h) (Or.inl ⟨by rfl, ?_⟩) (by assumption) ?_
  rotate_left
  · intro w0 hSw
    clear hSw
    go_simp
    all_goals (with_reducible rfl)
  simp only [Act.put, List.setIfInBounds_toArray, List.set_cons_zero, List.set_cons_succ]
  refine wpAnyH_done (by kernel_rfl) ?_ _
  refine NoPanic.normal ?_
  go_wp2_with fail
  go_ret
  exact ⟨rfl, HBX.out.trans (hHeld.mono HBX.out.size)⟩
set_option maxRecDepth 100000 in
set_option maxHeartbeats 3200000 in
theorem l5May_free (l : List Ev) (hN : l.length ≤ 1048576) (v : Value) (ct : Int) (p : Nat) (mn : ByteArray) (mo : Bool) (wk wn : Int) (wt : ByteArray) (w : World) (hr : EvRow w l v) (h4 : ¬ ct = 4) (c : Ev) (hcc : (Pl.cmdsOf l)[p]? = some c) (hen : Pl.endK c.ck = false) (hct : Pl.cameS c.ck = ct) :
    Calls Try.prog 58 #[v, cameV ct p mn mo wk wn wt] w fun x w' => x = .returned (.bool (Pl.freeB l (p : Int))) ∧ Below w.heap.size w w' := by
  have HRW := hide hr
  obtain ⟨ad, cap, rfl, hc, hmx, hx⟩ := hr
  unfold maxLen at hmx
  clear hx
  have hcl := hide (fun W hW => l5Cmds_any l hN (.slice ad l.length cap) W hW)
  have hcs := hide (fun W hW => l5Comes_any l hN (.slice ad l.length cap) W hW)
  have hpl : p < (Pl.cmdsOf l).length := (List.getElem?_eq_some_iff.1 hcc).1
  have hlen : (Pl.cmdsOf l).length ≤ l.length := by unfold Pl.cmdsOf; exact List.length_filter_le _ _
  have hin : Hid (∀ W : World, Calls Try.prog 34 #[.int .i64 (p : Int), .int .i64 0, .int .i64 (((Pl.cmdsOf l).length : Int) - 1)] W fun e w' => e = .returned (.bool true) ∧ w' = W) := fun W => by
    have := in_any (p : Int) 0 (((Pl.cmdsOf l).length : Int) - 1) W
    rwa [show (decide ((0 : Int) ≤ (p : Int)) && decide ((p : Int) ≤ ((Pl.cmdsOf l).length : Int) - 1)) = true by simp; omega] at this
  have hend := hide (fun W => l5Ends_any c.ck c.cn c.ak c.an c.ax W)
  rw [hen] at hend
  have hcm := hide (fun W => l4Came_any c.ck W)
  have q4 : (ct == 4) = false := by simp [h4]
  have hpi : (p : Int) < ((Pl.cmdsOf l).length : Int) := by omega
  have HCC := hide hcc
  clear hen h4 hcc
  go_enter Try.func58, Try.ntmps58
  go_wp2_with fail
  refine (hcl.out _ (HRW.out.later ((Below.refl _ _).alloc (Nat.le_refl _) _))).mono ?_
  rintro x1 Y ⟨v1, rfl, ho1, hB1⟩
  obtain ⟨hsz, y0, y1⟩ := seven_box hB1
  have HBY := hide (below_box1 hB1)
  have HO1 := hide ho1
  obtain ⟨a1, c1, hv1⟩ := ownsRow_form ho1
  subst hv1
  clear hB1 ho1
  go_wp2_with fail
  refine (hcs.out _ (HRW.out.later HBY.out)).mono ?_
  rintro x2 X ⟨v2, rfl, ho2, hB2⟩
  have XC := hide ((hB2.cell (p := ⟨w.heap.size, 0, none⟩) hsz).trans y0)
  have XM := hide ((hB2.cell (p := ⟨w.heap.size, 1, none⟩) hsz).trans y1)
  have HSZ : Hid (w.heap.size < X.heap.size) := by show _ < _; have := hB2.size; omega
  have HOX := hide (ownsRow_later HO1.out hB2)
  have HO2 := hide ho2
  have HBX : Hid (Below w.heap.size w X) := HBY.out.trans (hB2.mono HBY.out.size)
  obtain ⟨a2, c2, hv2⟩ := ownsRow_form ho2
  subst hv2
  clear hB2 ho2 hsz y0 y1 HO1 HBY
  go_wp2_with fail
  obtain ⟨g1, ha1, hgb, hg1, hcells⟩ := own_cells (f := cmL) (size := 5) (fun _ => rfl) HOX.out HCC.out
  subst ha1
  have HG1 := hide hg1
  have R0 : Hid (X.cell? ⟨g1, p * 5, none⟩ = some (.int .i64 c.ck)) := hcells 0 _ rfl
  have R1 : Hid (X.cell? ⟨g1, p * 5 + 1, none⟩ = some (.string c.cn)) := hcells 1 _ rfl
  have R2 : Hid (X.cell? ⟨g1, p * 5 + 2, none⟩ = some (.int .i64 c.ak)) := hcells 2 _ rfl
  have R3 : Hid (X.cell? ⟨g1, p * 5 + 3, none⟩ = some (.int .i64 c.an)) := hcells 3 _ rfl
  have R4 : Hid (X.cell? ⟨g1, p * 5 + 4, none⟩ = some (.string c.ax)) := hcells 4 _ rfl
  have hb1 := own_bound HOX.out
  have HB1 := hide hb1
  clear hcells hg1 hgb hb1
  generalize hn1 : (Pl.cmdsOf l).length = n1 at *
  generalize Pl.cameS c.ck = cs at *
  have qct : (cs != ct) = false := by simp [hct]
  clear hct
  have hwr : IntKind.i64.wrap ((n1 : Int) - 1) = (n1 : Int) - 1 := by rw [IntKind.wrap_i64]; omega
  refine wp_region_noPanic ?_
  refine wp_region_held_drew (S := fun W => Below X.heap.size X W) (by kernel_rfl) (below_drew' (Below.refl _ _)) (fun hHeld => ?_)
  refine wpAnyH_take (i := 0) (oi := Oper.mk (some 15) _ _ _ _ _) (v := ?_) rfl (by kernel_rfl) (by kernel_rfl) (by kernel_rfl) (fun _ _ _ h => h) (Or.inl ⟨by rfl, ?_⟩) (by assumption) ?_
  rotate_left
  · intro w0 hSw
    clear hSw
    go_simp
    all_goals (with_reducible rfl)
  simp only [Act.put, List.setIfInBounds_toArray, List.set_cons_zero, List.set_cons_succ]
  refine wpAnyH_take (i := 1) (oi := Oper.mk (some 16) _ _ _ _ _) (v := ?_) rfl (by kernel_rfl) (by kernel_rfl) (by kernel_rfl) (fun _ _ _ h => h) (Or.inl ⟨by rfl, ?_⟩) (by assumption) ?_
  rotate_left
  · intro w0 hSw
    have z0 : w0.cell? ⟨w.heap.size, 1, none⟩ = some (.int .i64 (p : Int)) := (Below.cell hSw (p := ⟨w.heap.size, 1, none⟩) HSZ.out).trans XM.out
    clear hSw
    go_simp
    all_goals (with_reducible rfl)
  simp only [Act.put, List.setIfInBounds_toArray, List.set_cons_zero, List.set_cons_succ]
  refine wpAnyH_take (i := 2) (oi := Oper.mk (some 17) _ _ _ _ _) (v := ?_) rfl (by kernel_rfl) (by kernel_rfl) (by kernel_rfl) (fun _ _ _ h => h) (Or.inl ⟨by rfl, ?_⟩) (by assumption) ?_
  rotate_left
  · intro w0 hSw
    clear hSw
    go_simp
    all_goals (with_reducible rfl)
  simp only [Act.put, List.setIfInBounds_toArray, List.set_cons_zero, List.set_cons_succ]
  refine wpAnyH_take (i := 3) (oi := Oper.mk (some 18) _ _ _ _ _) (v := ?_) rfl (by kernel_rfl) (by kernel_rfl) (by kernel_rfl) (fun _ _ _ h => h) (Or.inl ⟨by rfl, ?_⟩) (by assumption) ?_
  rotate_left
  · intro w0 hSw
    clear hSw
    go_simp
    all_goals (with_reducible rfl)
  simp only [Act.put, List.setIfInBounds_toArray, List.set_cons_zero, List.set_cons_succ]
  refine wpAnyH_take (i := 4) (oi := Oper.mk (some 19) _ _ _ _ _) (v := ?_) rfl (by kernel_rfl) (by kernel_rfl) (by kernel_rfl) (fun _ _ _ h => h) (Or.inl ⟨by rfl, ?_⟩) (by assumption) ?_
  rotate_left
  · intro w0 hSw
    clear hSw
    go_simp
    all_goals (with_reducible rfl)
  simp only [Act.put, List.setIfInBounds_toArray, List.set_cons_zero, List.set_cons_succ]
  refine wpAnyH_ready (rs := [5]) (by kernel_rfl) (by simp) ?_
  refine AllReadyH.cons (o := Oper.mk (some 20) _ _ _ _ _) rfl (fun K hK => ?_) AllReadyH.nil
  go_simp
  go_at_call 34
  refine (hin.out _).mono ?_
  rintro x0 w0 ⟨rfl, rfl⟩
  go_wp2_with fail
  refine hK.out _ _ hHeld (fun hHeld => ?_)
  clear hK K
  (try simp only [Act.put, List.setIfInBounds_toArray, List.set_cons_zero, List.set_cons_succ])
  refine wpAnyH_take (i := 6) (oi := Oper.mk (some 21) _ _ _ _ _) (v := ?_) rfl (by kernel_rfl) (by kernel_rfl) (by kernel_rfl) (fun _ _ _ h => h) (Or.inl ⟨by rfl, ?_⟩) (by assumption) ?_
  rotate_left
  · intro w0 hSw
    clear hSw
    go_simp
    all_goals (with_reducible rfl)
  simp only [Act.put, List.setIfInBounds_toArray, List.set_cons_zero, List.set_cons_succ]
  refine wpAnyH_take (i := 7) (oi := Oper.mk (some 22) _ _ _ _ _) (v := ?_) rfl (by kernel_rfl) (by kernel_rfl) (by kernel_rfl) (fun _ _ _ h => h) (Or.inl ⟨by rfl, ?_⟩) (by assumption) ?_
  rotate_left
  · intro w0 hSw
    clear hSw
    go_simp
    all_goals (with_reducible rfl)
  simp only [Act.put, List.setIfInBounds_toArray, List.set_cons_zero, List.set_cons_succ]
  refine wpAnyH_take (i := 8) (oi := Oper.mk (some 23) _ _ _ _ _) (v := ?_) rfl (by kernel_rfl) (by kernel_rfl) (by kernel_rfl) (fun _ _ _ h => h) (Or.inl ⟨by rfl, ?_⟩) (by assumption) ?_
  rotate_left
  · intro w0 hSw
    clear hSw
    go_simp
    all_goals (with_reducible rfl)
  simp only [Act.put, List.setIfInBounds_toArray, List.set_cons_zero, List.set_cons_succ]
  refine wpAnyH_take (i := 9) (oi := Oper.mk (some 24) _ _ _ _ _) (v := ?_) rfl (by kernel_rfl) (by kernel_rfl) (by kernel_rfl) (fun _ _ _ h => h) (Or.inl ⟨by rfl, ?_⟩) (by assumption) ?_
  rotate_left
  · intro w0 hSw
    clear hSw
    go_simp
    all_goals (with_reducible rfl)
  simp only [Act.put, List.setIfInBounds_toArray, List.set_cons_zero, List.set_cons_succ]
  refine wpAnyH_take (i := 10) (oi := Oper.mk (some 25) _ _ _ _ _) (v := ?_) rfl (by kernel_rfl) (by kernel_rfl) (by kernel_rfl) (fun _ _ _ h => h) (Or.inl ⟨by rfl, ?_⟩) (by assumption) ?_
  rotate_left
  · intro w0 hSw
    have z0 : w0.cell? ⟨w.heap.size, 1, none⟩ = some (.int .i64 (p : Int)) := (Below.cell hSw (p := ⟨w.heap.size, 1, none⟩) HSZ.out).trans XM.out
    clear hSw
    go_simp
    all_goals (with_reducible rfl)
  simp only [Act.put, List.setIfInBounds_toArray, List.set_cons_zero, List.set_cons_succ]
  refine wpAnyH_take (i := 11) (oi := Oper.mk (some 26) _ _ _ _ _) (v := ?_) rfl (by kernel_rfl) (by kernel_rfl) (by kernel_rfl) (fun _ _ _ h => h) (Or.inl ⟨by rfl, ?_⟩) (by assumption) ?_
  rotate_left
  · intro w0 hSw
    clear hSw
    go_simp
    all_goals (with_reducible rfl)
  simp only [Act.put, List.setIfInBounds_toArray, List.set_cons_zero, List.set_cons_succ]
  refine wpAnyH_take (i := 12) (oi := Oper.mk (some 27) _ _ _ _ _) (v := ?_) rfl (by kernel_rfl) (by kernel_rfl) (by kernel_rfl) (fun _ _ _ h => h) (Or.inl ⟨by rfl, ?_⟩) (by assumption) ?_
  rotate_left
  · intro w0 hSw
    have z0 : w0.cell? ⟨g1, p * 5, none⟩ = some (.int .i64 c.ck) := (Below.cell hSw (p := ⟨g1, p * 5, none⟩) HG1.out).trans R0.out
    have z1 : w0.cell? ⟨g1, p * 5 + 1, none⟩ = some (.string c.cn) := (Below.cell hSw (p := ⟨g1, p * 5 + 1, none⟩) HG1.out).trans R1.out
    have z2 : w0.cell? ⟨g1, p * 5 + 2, none⟩ = some (.int .i64 c.ak) := (Below.cell hSw (p := ⟨g1, p * 5 + 2, none⟩) HG1.out).trans R2.out
    have z3 : w0.cell? ⟨g1, p * 5 + 3, none⟩ = some (.int .i64 c.an) := (Below.cell hSw (p := ⟨g1, p * 5 + 3, none⟩) HG1.out).trans R3.out
    have z4 : w0.cell? ⟨g1, p * 5 + 4, none⟩ = some (.string c.ax) := (Below.cell hSw (p := ⟨g1, p * 5 + 4, none⟩) HG1.out).trans R4.out
    clear hSw
    go_simp
    all_goals (with_reducible rfl)
  simp only [Act.put, List.setIfInBounds_toArray, List.set_cons_zero, List.set_cons_succ]
  refine wpAnyH_ready (rs := [13]) (by kernel_rfl) (by simp) ?_
  refine AllReadyH.cons (o := Oper.mk (some 28) _ _ _ _ _) rfl (fun K hK => ?_) AllReadyH.nil
  go_simp
  go_at_call 57
  refine (hend.out _).mono ?_
  rintro x0 w0 ⟨rfl, hB0⟩
  have hHeld' := Below.trans hHeld (hB0.mono hHeld.size)
  clear hB0 hHeld
  go_wp2_with fail
  refine hK.out _ _ hHeld' (fun hHeld => ?_)
  clear hK K hHeld'
  (try simp only [Act.put, List.setIfInBounds_toArray, List.set_cons_zero, List.set_cons_succ])
  refine wpAnyH_take (i := 14) (oi := Oper.mk (some 29) _ _ _ _ _) (v := ?_) rfl (by kernel_rfl) (by kernel_rfl) (by kernel_rfl) (fun _ _ _ h => h) (Or.inl ⟨by rfl, ?_⟩) (by assumption) ?_
  rotate_left
  · intro w0 hSw
    clear hSw
    go_simp
    all_goals (with_reducible rfl)
  simp only [Act.put, List.setIfInBounds_toArray, List.set_cons_zero, List.set_cons_succ]
  refine wpAnyH_take (i := 15) (oi := Oper.mk (some 30) _ _ _ _ _) (v := ?_) rfl (by kernel_rfl) (by kernel_rfl) (by kernel_rfl) (fun _ _ _ h => h) (Or.inl ⟨by rfl, ?_⟩) (by assumption) ?_
  rotate_left
  · intro w0 hSw
    clear hSw
    go_simp
    all_goals (with_reducible rfl)
  simp only [Act.put, List.setIfInBounds_toArray, List.set_cons_zero, List.set_cons_succ]
  refine wpAnyH_take (i := 16) (oi := Oper.mk (some 31) _ _ _ _ _) (v := ?_) rfl (by kernel_rfl) (by kernel_rfl) (by kernel_rfl) (fun _ _ _ h => h) (Or.inl ⟨by rfl, ?_⟩) (by assumption) ?_
  rotate_left
  · intro w0 hSw
    clear hSw
    go_simp
    all_goals (with_reducible rfl)
  simp only [Act.put, List.setIfInBounds_toArray, List.set_cons_zero, List.set_cons_succ]
  refine wpAnyH_take (i := 17) (oi := Oper.mk (some 32) _ _ _ _ _) (v := ?_) rfl (by kernel_rfl) (by kernel_rfl) (by kernel_rfl) (fun _ _ _ h => h) (Or.inl ⟨by rfl, ?_⟩) (by assumption) ?_
  rotate_left
  · intro w0 hSw
    clear hSw
    go_simp
    all_goals (with_reducible rfl)
  simp only [Act.put, List.setIfInBounds_toArray, List.set_cons_zero, List.set_cons_succ]
  refine wpAnyH_take (i := 18) (oi := Oper.mk (some 33) _ _ _ _ _) (v := ?_) rfl (by kernel_rfl) (by kernel_rfl) (by kernel_rfl) (fun _ _ _ h => h) (Or.inl ⟨by rfl, ?_⟩) (by assumption) ?_
  rotate_left
  · intro w0 hSw
    have z0 : w0.cell? ⟨w.heap.size, 1, none⟩ = some (.int .i64 (p : Int)) := (Below.cell hSw (p := ⟨w.heap.size, 1, none⟩) HSZ.out).trans XM.out
    clear hSw
    go_simp
    all_goals (with_reducible rfl)
  simp only [Act.put, List.setIfInBounds_toArray, List.set_cons_zero, List.set_cons_succ]
  refine wpAnyH_take (i := 19) (oi := Oper.mk (some 34) _ _ _ _ _) (v := ?_) rfl (by kernel_rfl) (by kernel_rfl) (by kernel_rfl) (fun _ _ _ h => h) (Or.inl ⟨by rfl, ?_⟩) (by assumption) ?_
  rotate_left
  · intro w0 hSw
    clear hSw
    go_simp
    all_goals (with_reducible rfl)
  simp only [Act.put, List.setIfInBounds_toArray, List.set_cons_zero, List.set_cons_succ]
  refine wpAnyH_take (i := 20) (oi := Oper.mk (some 35) _ _ _ _ _) (v := ?_) rfl (by kernel_rfl) (by kernel_rfl) (by kernel_rfl) (fun _ _ _ h => h) (Or.inl ⟨by rfl, ?_⟩) (by assumption) ?_
  rotate_left
  · intro w0 hSw
    clear hSw
    go_simp
    all_goals (with_reducible rfl)
  simp only [Act.put, List.setIfInBounds_toArray, List.set_cons_zero, List.set_cons_succ]
  refine wpAnyH_take (i := 21) (oi := Oper.mk (some 36) _ _ _ _ _) (v := ?_) rfl (by kernel_rfl) (by kernel_rfl) (by kernel_rfl) (fun _ _ _ h => h) (Or.inl ⟨by rfl, ?_⟩) (by assumption) ?_
  rotate_left
  · intro w0 hSw
    have z0 : w0.cell? ⟨g1, p * 5, none⟩ = some (.int .i64 c.ck) := (Below.cell hSw (p := ⟨g1, p * 5, none⟩) HG1.out).trans R0.out
    clear hSw
    go_simp
    all_goals (with_reducible rfl)
  simp only [Act.put, List.setIfInBounds_toArray, List.set_cons_zero, List.set_cons_succ]
  refine wpAnyH_take (i := 23) (oi := Oper.mk (some 38) _ _ _ _ _) (v := ?_) rfl (by kernel_rfl) (by kernel_rfl) (by kernel_rfl) (fun _ _ _ h => h) (Or.inl ⟨by rfl, ?_⟩) (by assumption) ?_
  rotate_left
  · intro w0 hSw
    clear hSw
    go_simp
    all_goals (with_reducible rfl)
  simp only [Act.put, List.setIfInBounds_toArray, List.set_cons_zero, List.set_cons_succ]
  refine wpAnyH_take (i := 24) (oi := Oper.mk (some 39) _ _ _ _ _) (v := ?_) rfl (by kernel_rfl) (by kernel_rfl) (by kernel_rfl) (fun _ _ _ h => h) (Or.inl ⟨by rfl, ?_⟩) (by assumption) ?_
  rotate_left
  · intro w0 hSw
    have z0 : w0.cell? ⟨w.heap.size, 0, none⟩ = some (.int .i64 ct) := (Below.cell hSw (p := ⟨w.heap.size, 0, none⟩) HSZ.out).trans XC.out
    clear hSw
    go_simp
    all_goals (with_reducible rfl)
  simp only [Act.put, List.setIfInBounds_toArray, List.set_cons_zero, List.set_cons_succ]
  refine wpAnyH_ready (rs := [22]) (by kernel_rfl) (by simp) ?_
  refine AllReadyH.cons (o := Oper.mk (some 37) _ _ _ _ _) rfl (fun K hK => ?_) AllReadyH.nil
  go_simp
  go_at_call 72
  refine (hcm.out _).mono ?_
  rintro x0 w0 ⟨rfl, rfl⟩
  go_wp2_with fail
  refine hK.out _ _ hHeld (fun hHeld => ?_)
  clear hK K
  (try simp only [Act.put, List.setIfInBounds_toArray, List.set_cons_zero, List.set_cons_succ])
  refine wpAnyH_take (i := 25) (oi := Oper.mk (some 40) _ _ _ _ _) (v := ?_) rfl (by kernel_rfl) (by kernel_rfl) (by kernel_rfl) (fun _ _ _ h => h) (Or.inl ⟨by rfl, ?_⟩) (by assumption) ?_
  rotate_left
  · intro w0 hSw
    clear hSw
    go_simp
    all_goals (with_reducible rfl)
  simp only [Act.put, List.setIfInBounds_toArray, List.set_cons_zero, List.set_cons_succ]
  refine wpAnyH_take (i := 26) (oi := Oper.mk (some 41) _ _ _ _ _) (v := ?_) rfl (by kernel_rfl) (by kernel_rfl) (by kernel_rfl) (fun _ _ _ h => h) (Or.inl ⟨by rfl, ?_⟩) (by assumption) ?_
  rotate_left
  · intro w0 hSw
    clear hSw
    go_simp
    all_goals (with_reducible rfl)
  simp only [Act.put, List.setIfInBounds_toArray, List.set_cons_zero, List.set_cons_succ]
  refine wpAnyH_done (by kernel_rfl) ?_ _
  refine NoPanic.normal ?_
  refine gen_exit (fun Y => Hid (Below X.heap.size X Y)) hHeld ?_
  intro Y0 HY0
  clear hHeld R0 R1 R2 R3 R4 hwr hin hend hcm qct q4
  have hn2 := own_bound HO2.out
  obtain ⟨_, hn2b, hn2c⟩ := hn2
  have hn2m : (Pl.comesOf l).length ≤ l.length := by unfold Pl.comesOf; exact List.length_filter_le _ _
  unfold maxLen at hn2c
  go_wp2_with fail
  go_loopw [7] (fun iv wr => ∃ i : Nat, i ≤ (Pl.comesOf l).length ∧ iv = .int .i64 i ∧ Hid (((Pl.comesOf l).take i).all (fun c => !(c.ct != 4 && c.mp == (p : Int))) = true) ∧ Hid (Below X.heap.size X wr)) (fun iv _ => (Pl.comesOf l).length - (intOf iv).toNat)
  case atStart => exact ⟨0, by omega, rfl, hide (by simp), HY0⟩
  case round =>
    obtain ⟨i, hi, rfl, HF, HR⟩ := hrel
    by_cases hlt : i < (Pl.comesOf l).length
    · obtain ⟨d, hd⟩ : ∃ d, (Pl.comesOf l)[i]? = some d := ⟨_, List.getElem?_eq_getElem hlt⟩
      obtain ⟨g2, ha2, hgb, hg2, hcells⟩ := own_cells (f := caL) (size := 7) (fun _ => rfl) HO2.out hd
      subst ha2
      have r0 : wr.cell? ⟨g2, i * 7, none⟩ = some (.int .i64 d.ct) := (Below.cell HR.out (p := ⟨g2, i * 7, none⟩) hg2).trans (hcells 0 _ rfl)
      have r1 : wr.cell? ⟨g2, i * 7 + 1, none⟩ = some (.int .i64 d.mp) := (Below.cell HR.out (p := ⟨g2, i * 7 + 1, none⟩) hg2).trans (hcells 1 _ rfl)
      have r2 : wr.cell? ⟨w.heap.size, 1, none⟩ = some (.int .i64 (p : Int)) := (Below.cell HR.out (p := ⟨w.heap.size, 1, none⟩) HSZ.out).trans XM.out
      have HS : Hid (((Pl.comesOf l).take (i + 1)).all (fun c => !(c.ct != 4 && c.mp == (p : Int))) = !(d.ct != 4 && d.mp == (p : Int))) := by
        show _ = _
        rw [List.take_add_one, hd, List.all_append, HF.out]
        simp
      have HNO : Hid ((d.ct != 4 && d.mp == (p : Int)) = true → Pl.freeB l (p : Int) = false) := fun hq => by
        unfold Pl.freeB
        rw [List.all_eq_false]
        exact ⟨d, List.mem_of_getElem? hd, by simp [hq]⟩
      have hii : (i : Int) < ((Pl.comesOf l).length : Int) := by omega
      clear hcells hgb hg2 hd
      cases q1 : (d.ct != 4)
      · go_wp2_with fail
        go_quiet (fail)
        go_wp2_with fail
        go_roundw
        case rel => exact ⟨i + 1, by omega, by go_num, by rw [HS.out, q1]; rfl, below_drewN' HR.out _⟩
        case measure => simp [intOf]; omega
      · cases q2 : (d.mp == (p : Int))
        · go_wp2_with fail
          go_quiet (fail)
          go_wp2_with fail
          go_roundw
          case rel => exact ⟨i + 1, by omega, by go_num, by rw [HS.out, q1, q2]; rfl, below_drewN' HR.out _⟩
          case measure => simp [intOf]; omega
        · have HX2 : Hid (Pl.freeB l (p : Int) = false) := HNO.out (by rw [q1, q2]; rfl)
          go_wp2_with fail
          go_quiet (fail)
          go_wp2_with fail
          go_ret
          exact ⟨by rw [HX2.out]; rfl, HBX.out.trans (Below.mono (below_drewN' HR.out _) HBX.out.size)⟩
    · have hie : i = (Pl.comesOf l).length := by omega
      have HX2 : Hid (Pl.freeB l (p : Int) = true) := by
        show _ = _
        have := HF.out
        rw [hie, List.take_length] at this
        exact this
      clear hie
      go_wp2
      go_ret
      exact ⟨by rw [HX2.out]; rfl, HBX.out.trans (HR.out.mono HBX.out.size)⟩
end Go.Proofs.Ytobeecopkfgplaa

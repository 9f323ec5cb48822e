/- The law that a value is read back from its text, walked. -/
import Derived.Test.YtamkogkcdmgjoaaDoorFvL
import Derived.Deep.RegionHeld3
import Derived.Deep.Cut
namespace Go.Proofs.YtamkogkcdmgjoaaDoor
open Go.RowKit
theorem gen_code {P : Program} {c : Code} {Q : Exit → Act → World → Prop} {a : Act} {W : World} (p : World → Prop) (h0 : p W) (h : ∀ X, p X → c.wp P Q a X) : c.wp P Q a W := h W h0
theorem below_drew' {n : Nat} {a w : World} (h : Below n a w) : Below n a w.drew := h.drew
theorem one_q {w w1 : World} {A : Obj} (hb : Below (w.alloc A).heap.size (w.alloc A) w1) : w1.heap[w.heap.size]? = some A ∧ Below w.heap.size w w1 ∧ w.heap.size < w1.heap.size := by
  have hs := hb.size
  have e1 : (w.alloc A).heap.size = w.heap.size + 1 := by simp
  refine ⟨?_, ((Below.refl _ w).alloc (Nat.le_refl _) A).trans (hb.mono (by omega)), by omega⟩
  rw [hb.block _ (by omega), heap_alloc_at, if_pos rfl]
set_option linter.unusedVariables false
set_option linter.unusedSimpArgs false

theorem cells3_in {X : World} {b : Nat} {x y z : Value} {T : TypeId} (h : X.heap[b]? = some (.cells #[x, y, z] T (0, 0))) :
    X.cell? ⟨b, 0, none⟩ = some x ∧ X.cell? ⟨b, 1, none⟩ = some y ∧ X.cell? ⟨b, 2, none⟩ = some z := ⟨(C3.mk h).1, (C3.mk h).2.1, (C3.mk h).2.2.1⟩
theorem and6 {a b c d e f : Prop} (h : a ∧ b ∧ c) (k : d ∧ e ∧ f) : a ∧ b ∧ c ∧ d ∧ e ∧ f := ⟨h.1, h.2.1, h.2.2, k⟩
set_option maxRecDepth 100000 in
set_option maxHeartbeats 6400000 in
theorem lawFnValue (len : Nat) (c : Value) (len2 : Nat) (c2 : Value) (W : World) (hc : CodeOk W.heap.size W c len) (hc2 : CodeOk W.heap.size W c2 len2) (hT : Tab W) (hE : Errs W) :
    Calls Tryd.prog 4 #[c, c2] W fun e W' => e = .returned (.bool true) ∧ Below W.heap.size W W' := by
  by_cases hbig : 1048576 < len
  · obtain ⟨ad, cap, rfl, hlc, hcm, _⟩ := hc
    obtain ⟨ad2, cap2, rfl, hlc2, hcm2, _⟩ := hc2
    unfold maxLen at hcm hcm2
    have hb1 : decide ((1048576 : Int) < (len : Int)) = true := by simp; omega
    go_enter Tryd.func4, Tryd.ntmps4
    go_wp2
    go_ret
    exact ⟨rfl, Below.refl _ _⟩
  by_cases hbig2 : 1048576 < len2
  · obtain ⟨ad, cap, rfl, hlc, hcm, _⟩ := hc
    obtain ⟨ad2, cap2, rfl, hlc2, hcm2, _⟩ := hc2
    unfold maxLen at hcm hcm2
    have hb1 : decide ((1048576 : Int) < (len : Int)) = false := by simp; omega
    go_enter Tryd.func4, Tryd.ntmps4
    go_wp2
    go_ret
    exact ⟨rfl, Below.refl _ _⟩
  have hd := hide (drawValuePut_any len c W hc (by omega))
  have hd2 := hide (fun (W1 : World) (hB : Below W.heap.size W W1) => drawValueGet_any len2 c2 W1 ((hc2.later hB).up hB.size) (by omega))
  obtain ⟨ad, cap, rfl, hlc, hcm, _⟩ := hc
  obtain ⟨ad2, cap2, rfl, hlc2, hcm2, _⟩ := hc2
  unfold maxLen at hcm hcm2
  have hb1 : decide ((1048576 : Int) < (len : Int)) = false := by simp; omega
  have hb2 : decide ((1048576 : Int) < (len2 : Int)) = false := by simp; omega
  have HT := hide hT
  have HE := hide hE
  clear hT hE
  go_enter Tryd.func4, Tryd.ntmps4
  go_wp2_with fail
  refine hd.out.mono ?_
  rintro e W1 ⟨⟨k, n, t, hst, hnb, rfl⟩, hB1⟩
  have HB1 := hide hB1
  have hsz : t.size ≤ 25 := hst
  have hip := hide (fun (X : World) (hX : Below W.heap.size W X) => implValuePut_any k n t (by omega) (by omega) (by omega) X (HT.out.later hX))
  have hsp := hide (specValuePut_any k n t (by omega))
  have hio := hide (implValueOk_any k n t (by unfold maxLen; omega))
  have hso := hide (specValueOk_any k n t (by unfold maxLen; omega))
  have hPl : (Pl.putB k n t).length ≤ 40 := by
    unfold Pl.putB
    split
    · next hb =>
      by_cases k1 : k = 1
      · subst k1; exact put_short _ _ _ (ok_num hb) hst
      · unfold Pl.putV
        rw [if_neg k1]
        split
        · have : t.data.toList.length = t.size := by simp
          simp only [List.length_cons, List.length_append, List.length_nil]
          omega
        · simp
    · simp
  have hig : Hid (∀ X, Below W.heap.size W X → Calls Tryd.prog 6 #[.string (Pl.bs (Pl.putB k n t))] X fun e w' => e = .returned (if Pl.okB k n t = true then .tuple #[vAgg k n t, .bool true] else .tuple #[vAgg 0 0 ⟨#[]⟩, .bool false]) ∧ Below X.heap.size X w') := fun X hX => (implValueGet_any _ (by show (Pl.putB k n t).length ≤ _; omega) X (HT.out.later hX) (HE.out.later hX)).mono fun e w' h => get_back k n t _ _ _ h
  clear hB1 hst hnb hsz hPl
  have hnem : Pl.okB k n t = true → (Pl.bs (Pl.putB k n t)).toList.isEmpty = false := by
    intro hb
    rw [Pl.bs_toList]
    unfold Pl.putB
    rw [if_pos hb]
    cases hp : Pl.putV k n t with
    | nil => exact absurd hp (putV_some _ _ _)
    | cons => rfl
  have hemp : Pl.okB k n t = false → (Pl.bs (Pl.putB k n t)).toList.isEmpty = true := by
    intro hb
    rw [Pl.bs_toList]
    unfold Pl.putB
    rw [hb]
    rfl
  generalize Pl.putB k n t = P at hip hsp hig hnem hemp
  generalize Pl.okB k n t = b at hio hso hig hnem hemp
  go_wp2_with fail
  refine (hip.out _ (HB1.out.alloc HB1.out.size _)).mono ?_
  rintro e W2 ⟨rfl, hB2⟩
  have bv2 := below_blk hB2 (by simp) (heap_alloc_new W1 _)
  have HV2 := hide bv2
  have HB2 := hide (HB1.out.trans ((below_box1 hB2).mono HB1.out.size))
  have h12 : W1.heap.size < W2.heap.size := (Array.getElem?_eq_some_iff.1 bv2).1
  clear hB2 bv2 HB1 hip
  go_wp2_with fail
  refine (hig.out _ HB2.out).mono ?_
  rintro e W3 ⟨rfl, hB3⟩
  have HV3 := hide (below_blk hB3 h12 HV2.out)
  have HB3 := hide (HB2.out.trans (hB3.mono HB2.out.size))
  have h13 : W1.heap.size < W3.heap.size := Nat.lt_of_lt_of_le h12 hB3.size
  clear hB3 HB2 HV2 hig h12
  have hbb : (b != b) = false := by cases b <;> rfl
  have hcmp : ((Pl.bs P).toList == (Pl.bs P).toList) = true := by simp
  cases b
  · have he := hemp rfl
    clear hemp hnem
    rw [if_neg (by simp)]
    go_upto_region 6 with fail
    refine gen_code (fun X => Hid (Below W.heap.size W X) ∧ Hid (X.heap[W1.heap.size]? = some (.cells #[.int .i64 k, .int .i64 n, .string t] 23 (0, 0))) ∧ Hid (X.heap[W3.heap.size]? = some (.cells #[.int .i64 0, .int .i64 0, .string ⟨#[]⟩] 23 (0, 0)))) ⟨hide (HB3.out.alloc HB3.out.size _), hide ((Below.heap_alloc W3 _ _ h13).trans HV3.out), hide (heap_alloc_new W3 _)⟩ ?_
    rintro X ⟨HX, HV, HU⟩
    have h5 := (Array.getElem?_eq_some_iff.1 HV.out).1
    have h7 := (Array.getElem?_eq_some_iff.1 HU.out).1
    clear HV3 HB3 h13
    obtain ⟨v0, v1, v2⟩ := cells3_in HV.out
    obtain ⟨u0, u1, u2⟩ := cells3_in HU.out
    have HC := hide (And.intro v0 (And.intro v1 v2))
    have HD := hide (And.intro u0 (And.intro u1 u2))
    clear v0 v1 v2 u0 u1 u2
    refine wp_region_noPanic ?_
    refine wp_region_held_drew (S := fun W => Below X.heap.size X W) (by kernel_rfl) (below_drew' (Below.refl _ _)) (fun hHeld => ?_)
    refine wpAnyH_take (i := 0) (oi := Oper.mk (some 31) _ _ _ _ _) (v := ?_) rfl (by kernel_rfl) (by kernel_rfl) (by kernel_rfl) (fun _ _ _ h => h) (Or.inl ⟨by rfl, ?_⟩) (by assumption) ?_
    rotate_left
    · intro w0 hSw
      clear hSw
      go_simp
      all_goals (with_reducible rfl)
    simp only [Act.put, List.setIfInBounds_toArray, List.set_cons_zero, List.set_cons_succ]
    refine wpAnyH_take (i := 1) (oi := Oper.mk (some 32) _ _ _ _ _) (v := ?_) rfl (by kernel_rfl) (by kernel_rfl) (by kernel_rfl) (fun _ _ _ h => h) (Or.inl ⟨by rfl, ?_⟩) (by assumption) ?_
    rotate_left
    · intro w0 hSw
      have z0 : w0.cell? ⟨W1.heap.size, 0, none⟩ = some (.int .i64 k) := (Below.cell hSw (p := ⟨W1.heap.size, 0, none⟩) h5).trans HC.out.1
      have z1 : w0.cell? ⟨W1.heap.size, 1, none⟩ = some (.int .i64 n) := (Below.cell hSw (p := ⟨W1.heap.size, 1, none⟩) h5).trans HC.out.2.1
      have z2 : w0.cell? ⟨W1.heap.size, 2, none⟩ = some (.string t) := (Below.cell hSw (p := ⟨W1.heap.size, 2, none⟩) h5).trans HC.out.2.2
      clear hSw
      go_simp
      all_goals (with_reducible rfl)
    simp only [Act.put, List.setIfInBounds_toArray, List.set_cons_zero, List.set_cons_succ]
    refine wpAnyH_ready (rs := [2]) (by kernel_rfl) (by simp) ?_
    refine AllReadyH.cons (o := Oper.mk (some 33) _ _ _ _ _) rfl (fun K hK => ?_) AllReadyH.nil
    go_simp
    go_at_call 10
    refine (hsp.out _).mono ?_
    rintro x0 w0 ⟨rfl, hB0⟩
    have hHeld' := Below.trans hHeld (hB0.mono hHeld.size)
    clear hB0 hHeld
    go_wp2_with fail
    refine hK.out _ _ hHeld' (fun hHeld => ?_)
    clear hK K hHeld'
    (try simp only [Act.put, List.setIfInBounds_toArray, List.set_cons_zero, List.set_cons_succ])
    refine wpAnyH_take (i := 3) (oi := Oper.mk (some 34) _ _ _ _ _) (v := ?_) rfl (by kernel_rfl) (by kernel_rfl) (by kernel_rfl) (fun _ _ _ h => h) (Or.inl ⟨by rfl, ?_⟩) (by assumption) ?_
    rotate_left
    · intro w0 hSw
      clear hSw
      have hcc := hcmp
      go_simp
      all_goals (with_reducible rfl)
    simp only [Act.put, List.setIfInBounds_toArray, List.set_cons_zero, List.set_cons_succ]
    refine wpAnyH_take (i := 4) (oi := Oper.mk (some 35) _ _ _ _ _) (v := ?_) rfl (by kernel_rfl) (by kernel_rfl) (by kernel_rfl) (fun _ _ _ h => h) (Or.inl ⟨by rfl, ?_⟩) (by assumption) ?_
    rotate_left
    · intro w0 hSw
      clear hSw
      go_simp
      all_goals (with_reducible rfl)
    simp only [Act.put, List.setIfInBounds_toArray, List.set_cons_zero, List.set_cons_succ]
    refine wpAnyH_take (i := 5) (oi := Oper.mk (some 36) _ _ _ _ _) (v := ?_) rfl (by kernel_rfl) (by kernel_rfl) (by kernel_rfl) (fun _ _ _ h => h) (Or.inl ⟨by rfl, ?_⟩) (by assumption) ?_
    rotate_left
    · intro w0 hSw
      have z0 : w0.cell? ⟨W1.heap.size, 0, none⟩ = some (.int .i64 k) := (Below.cell hSw (p := ⟨W1.heap.size, 0, none⟩) h5).trans HC.out.1
      have z1 : w0.cell? ⟨W1.heap.size, 1, none⟩ = some (.int .i64 n) := (Below.cell hSw (p := ⟨W1.heap.size, 1, none⟩) h5).trans HC.out.2.1
      have z2 : w0.cell? ⟨W1.heap.size, 2, none⟩ = some (.string t) := (Below.cell hSw (p := ⟨W1.heap.size, 2, none⟩) h5).trans HC.out.2.2
      clear hSw
      go_simp
      all_goals (with_reducible rfl)
    simp only [Act.put, List.setIfInBounds_toArray, List.set_cons_zero, List.set_cons_succ]
    refine wpAnyH_take (i := 7) (oi := Oper.mk (some 38) _ _ _ _ _) (v := ?_) rfl (by kernel_rfl) (by kernel_rfl) (by kernel_rfl) (fun _ _ _ h => h) (Or.inl ⟨by rfl, ?_⟩) (by assumption) ?_
    rotate_left
    · intro w0 hSw
      have z0 : w0.cell? ⟨W1.heap.size, 0, none⟩ = some (.int .i64 k) := (Below.cell hSw (p := ⟨W1.heap.size, 0, none⟩) h5).trans HC.out.1
      have z1 : w0.cell? ⟨W1.heap.size, 1, none⟩ = some (.int .i64 n) := (Below.cell hSw (p := ⟨W1.heap.size, 1, none⟩) h5).trans HC.out.2.1
      have z2 : w0.cell? ⟨W1.heap.size, 2, none⟩ = some (.string t) := (Below.cell hSw (p := ⟨W1.heap.size, 2, none⟩) h5).trans HC.out.2.2
      clear hSw
      go_simp
      all_goals (with_reducible rfl)
    simp only [Act.put, List.setIfInBounds_toArray, List.set_cons_zero, List.set_cons_succ]
    refine wpAnyH_ready (rs := [6]) (by kernel_rfl) (by simp) ?_
    refine AllReadyH.cons (o := Oper.mk (some 37) _ _ _ _ _) rfl (fun K hK => ?_) AllReadyH.nil
    go_simp
    go_at_call 11
    refine (hio.out _).mono ?_
    rintro x0 w0 ⟨rfl, hB0⟩
    have hHeld' := Below.trans hHeld (hB0.mono hHeld.size)
    clear hB0 hHeld
    go_wp2_with fail
    refine hK.out _ _ hHeld' (fun hHeld => ?_)
    clear hK K hHeld'
    (try simp only [Act.put, List.setIfInBounds_toArray, List.set_cons_zero, List.set_cons_succ])
    refine wpAnyH_ready (rs := [8]) (by kernel_rfl) (by simp) ?_
    refine AllReadyH.cons (o := Oper.mk (some 39) _ _ _ _ _) rfl (fun K hK => ?_) AllReadyH.nil
    go_simp
    go_at_call 12
    refine (hso.out _).mono ?_
    rintro x0 w0 ⟨rfl, hB0⟩
    have hHeld' := Below.trans hHeld (hB0.mono hHeld.size)
    clear hB0 hHeld
    go_wp2_with fail
    refine hK.out _ _ hHeld' (fun hHeld => ?_)
    clear hK K hHeld'
    (try simp only [Act.put, List.setIfInBounds_toArray, List.set_cons_zero, List.set_cons_succ])
    refine wpAnyH_take (i := 9) (oi := Oper.mk (some 40) _ _ _ _ _) (v := ?_) rfl (by kernel_rfl) (by kernel_rfl) (by kernel_rfl) (fun _ _ _ h => h) (Or.inl ⟨by rfl, ?_⟩) (by assumption) ?_
    rotate_left
    · intro w0 hSw
      clear hSw
      go_simp
      all_goals (with_reducible rfl)
    simp only [Act.put, List.setIfInBounds_toArray, List.set_cons_zero, List.set_cons_succ]
    refine wpAnyH_take (i := 10) (oi := Oper.mk (some 41) _ _ _ _ _) (v := ?_) rfl (by kernel_rfl) (by kernel_rfl) (by kernel_rfl) (fun _ _ _ h => h) (Or.inl ⟨by rfl, ?_⟩) (by assumption) ?_
    rotate_left
    · intro w0 hSw
      clear hSw
      go_simp
      all_goals (with_reducible rfl)
    simp only [Act.put, List.setIfInBounds_toArray, List.set_cons_zero, List.set_cons_succ]
    refine wpAnyH_take (i := 11) (oi := Oper.mk (some 42) _ _ _ _ _) (v := ?_) rfl (by kernel_rfl) (by kernel_rfl) (by kernel_rfl) (fun _ _ _ h => h) (Or.inl ⟨by rfl, ?_⟩) (by assumption) ?_
    rotate_left
    · intro w0 hSw
      clear hSw
      go_simp
      all_goals (with_reducible rfl)
    simp only [Act.put, List.setIfInBounds_toArray, List.set_cons_zero, List.set_cons_succ]
    refine wpAnyH_take (i := 12) (oi := Oper.mk (some 43) _ _ _ _ _) (v := ?_) rfl (by kernel_rfl) (by kernel_rfl) (by kernel_rfl) (fun _ _ _ h => h) (Or.inl ⟨by rfl, ?_⟩) (by assumption) ?_
    rotate_left
    · intro w0 hSw
      clear hSw
      go_simp
      all_goals (with_reducible rfl)
    simp only [Act.put, List.setIfInBounds_toArray, List.set_cons_zero, List.set_cons_succ]
    refine wpAnyH_take (i := 13) (oi := Oper.mk (some 44) _ _ _ _ _) (v := ?_) rfl (by kernel_rfl) (by kernel_rfl) (by kernel_rfl) (fun _ _ _ h => h) (Or.inl ⟨by rfl, ?_⟩) (by assumption) ?_
    rotate_left
    · intro w0 hSw
      clear hSw
      go_simp
      all_goals (with_reducible rfl)
    simp only [Act.put, List.setIfInBounds_toArray, List.set_cons_zero, List.set_cons_succ]
    refine wpAnyH_take (i := 14) (oi := Oper.mk (some 45) _ _ _ _ _) (v := ?_) rfl (by kernel_rfl) (by kernel_rfl) (by kernel_rfl) (fun _ _ _ h => h) (Or.inl ⟨by rfl, ?_⟩) (by assumption) ?_
    rotate_left
    · intro w0 hSw
      clear hSw
      go_simp
      all_goals (with_reducible rfl)
    simp only [Act.put, List.setIfInBounds_toArray, List.set_cons_zero, List.set_cons_succ]
    refine wpAnyH_take (i := 15) (oi := Oper.mk (some 46) _ _ _ _ _) (v := ?_) rfl (by kernel_rfl) (by kernel_rfl) (by kernel_rfl) (fun _ _ _ h => h) (Or.inl ⟨by rfl, ?_⟩) (by assumption) ?_
    rotate_left
    · intro w0 hSw
      clear hSw
      go_simp
      all_goals (with_reducible rfl)
    simp only [Act.put, List.setIfInBounds_toArray, List.set_cons_zero, List.set_cons_succ]
    refine wpAnyH_take (i := 16) (oi := Oper.mk (some 47) _ _ _ _ _) (v := ?_) rfl (by kernel_rfl) (by kernel_rfl) (by kernel_rfl) (fun _ _ _ h => h) (Or.inl ⟨by rfl, ?_⟩) (by assumption) ?_
    rotate_left
    · intro w0 hSw
      clear hSw
      go_simp
      all_goals (with_reducible rfl)
    simp only [Act.put, List.setIfInBounds_toArray, List.set_cons_zero, List.set_cons_succ]
    refine wpAnyH_take (i := 17) (oi := Oper.mk (some 48) _ _ _ _ _) (v := ?_) rfl (by kernel_rfl) (by kernel_rfl) (by kernel_rfl) (fun _ _ _ h => h) (Or.inl ⟨by rfl, ?_⟩) (by assumption) ?_
    rotate_left
    · intro w0 hSw
      clear hSw
      go_simp
      all_goals (with_reducible rfl)
    simp only [Act.put, List.setIfInBounds_toArray, List.set_cons_zero, List.set_cons_succ]
    refine wpAnyH_take (i := 18) (oi := Oper.mk (some 49) _ _ _ _ _) (v := ?_) rfl (by kernel_rfl) (by kernel_rfl) (by kernel_rfl) (fun _ _ _ h => h) (Or.inl ⟨by rfl, ?_⟩) (by assumption) ?_
    rotate_left
    · intro w0 hSw
      clear hSw
      go_simp
      all_goals (with_reducible rfl)
    simp only [Act.put, List.setIfInBounds_toArray, List.set_cons_zero, List.set_cons_succ]
    refine wpAnyH_take (i := 19) (oi := Oper.mk (some 50) _ _ _ _ _) (v := ?_) rfl (by kernel_rfl) (by kernel_rfl) (by kernel_rfl) (fun _ _ _ h => h) (Or.inl ⟨by rfl, ?_⟩) (by assumption) ?_
    rotate_left
    · intro w0 hSw
      clear hSw
      go_simp
      all_goals (with_reducible rfl)
    simp only [Act.put, List.setIfInBounds_toArray, List.set_cons_zero, List.set_cons_succ]
    refine wpAnyH_take (i := 20) (oi := Oper.mk (some 51) _ _ _ _ _) (v := undef) rfl (by kernel_rfl) (by kernel_rfl) (by kernel_rfl) (fun _ _ _ h => h) (Or.inr ⟨by rfl, rfl⟩) (by assumption) ?_
    simp only [Act.put, List.setIfInBounds_toArray, List.set_cons_zero, List.set_cons_succ]
    refine wpAnyH_take (i := 21) (oi := Oper.mk (some 52) _ _ _ _ _) (v := undef) rfl (by kernel_rfl) (by kernel_rfl) (by kernel_rfl) (fun _ _ _ h => h) (Or.inr ⟨by rfl, rfl⟩) (by assumption) ?_
    simp only [Act.put, List.setIfInBounds_toArray, List.set_cons_zero, List.set_cons_succ]
    refine wpAnyH_take (i := 22) (oi := Oper.mk (some 53) _ _ _ _ _) (v := undef) rfl (by kernel_rfl) (by kernel_rfl) (by kernel_rfl) (fun _ _ _ h => h) (Or.inr ⟨by rfl, rfl⟩) (by assumption) ?_
    simp only [Act.put, List.setIfInBounds_toArray, List.set_cons_zero, List.set_cons_succ]
    refine wpAnyH_take (i := 23) (oi := Oper.mk (some 54) _ _ _ _ _) (v := ?_) rfl (by kernel_rfl) (by kernel_rfl) (by kernel_rfl) (fun _ _ _ h => h) (Or.inl ⟨by rfl, ?_⟩) (by assumption) ?_
    rotate_left
    · intro w0 hSw
      clear hSw
      go_simp
      all_goals (with_reducible rfl)
    simp only [Act.put, List.setIfInBounds_toArray, List.set_cons_zero, List.set_cons_succ]
    refine wpAnyH_take (i := 24) (oi := Oper.mk (some 55) _ _ _ _ _) (v := ?_) rfl (by kernel_rfl) (by kernel_rfl) (by kernel_rfl) (fun _ _ _ h => h) (Or.inl ⟨by rfl, ?_⟩) (by assumption) ?_
    rotate_left
    · intro w0 hSw
      clear hSw
      go_simp
      all_goals (with_reducible rfl)
    simp only [Act.put, List.setIfInBounds_toArray, List.set_cons_zero, List.set_cons_succ]
    refine wpAnyH_done (by kernel_rfl) ?_ _
    refine NoPanic.normal ?_
    have HB7 := hide (HX.out.trans (hHeld.mono HX.out.size))
    clear hHeld HC HD HV HU HX h5 h7
    go_wp2_with fail
    refine (hd2.out _ HB7.out).mono ?_
    rintro e8 W8 ⟨⟨s, hs, rfl⟩, hB8⟩
    have HB8 := hide (HB7.out.trans (hB8.mono HB7.out.size))
    clear hB8 HB7
    obtain ⟨k2, n2, t2, b2, hp, hpb, hn2, ht2⟩ := put_again s
    have hss : s.size ≤ 40 := hs
    have hgi := hide (fun (X : World) (hX : Below W.heap.size W X) => (implValueGet_any s (by omega) X (HT.out.later hX) (HE.out.later hX)).mono fun e w' h => hp X e w' h)
    have hgs := hide (fun (X : World) => (specValueGet_any s (by omega) X).mono fun e w' h => hp X e w' h)
    have hpi := hide (fun (X : World) (hX : Below W.heap.size W X) => implValuePut_any k2 n2 t2 (by omega) (by omega) (by omega) X (HT.out.later hX))
    have HPB := hide hpb
    clear hp hpb hn2 ht2 hss hs hd2
    generalize Pl.putB k2 n2 t2 = P2 at hpi HPB
    go_wp2_with fail
    refine (hgi.out _ HB8.out).mono ?_
    rintro e9 W9 ⟨rfl, hB9⟩
    have HB9 := hide (HB8.out.trans (hB9.mono HB8.out.size))
    clear hB9 HB8 hgi
    go_wp2_with fail
    refine (hgs.out _).mono ?_
    rintro e10 W10 ⟨rfl, hB10⟩
    have q10 := one_q hB10
    have HV10 := hide q10.1
    have HB10 := hide (HB9.out.trans (q10.2.1.mono HB9.out.size))
    have h910 : W9.heap.size < W10.heap.size := (Array.getElem?_eq_some_iff.1 HV10.out).1
    clear hB10 q10 HB9 hgs
    obtain ⟨g0, g1, g2⟩ := cells3_in HV10.out
    have hbb2 : (b2 == b2) = true := by cases b2 <;> rfl
    cases b2
    · go_wp2_with fail
      go_ret
      exact ⟨rfl, HB10.out.alloc HB10.out.size _⟩
    · have hP2 := HPB.out rfl
      subst hP2
      have hsm : ((Pl.bs s.data.toList).toList == s.toList) = true := by
        rw [Pl.bs_toList, Lib.toList_data]
        exact beq_self_eq_true _
      go_wp2_with fail
      refine (hpi.out _ (HB10.out.alloc HB10.out.size _)).mono ?_
      rintro e11 W11 ⟨rfl, hB11⟩
      have HB11 := hide ((HB10.out.alloc HB10.out.size _).trans (hB11.mono (Nat.le_trans HB10.out.size (by simp))))
      clear hB11
      go_wp2_with fail
      go_ret
      exact ⟨rfl, HB11.out⟩
  · have he := hnem rfl
    clear hemp hnem
    rw [if_pos rfl]
    go_upto_region 6 with fail
    refine gen_code (fun X => Hid (Below W.heap.size W X) ∧ Hid (X.heap[W1.heap.size]? = some (.cells #[.int .i64 k, .int .i64 n, .string t] 23 (0, 0))) ∧ Hid (X.heap[W3.heap.size]? = some (.cells #[.int .i64 k, .int .i64 n, .string t] 23 (0, 0)))) ⟨hide (HB3.out.alloc HB3.out.size _), hide ((Below.heap_alloc W3 _ _ h13).trans HV3.out), hide (heap_alloc_new W3 _)⟩ ?_
    rintro X ⟨HX, HV, HU⟩
    have h5 := (Array.getElem?_eq_some_iff.1 HV.out).1
    have h7 := (Array.getElem?_eq_some_iff.1 HU.out).1
    clear HV3 HB3 h13
    obtain ⟨v0, v1, v2⟩ := cells3_in HV.out
    obtain ⟨u0, u1, u2⟩ := cells3_in HU.out
    have HC := hide (And.intro v0 (And.intro v1 v2))
    have HD := hide (And.intro u0 (And.intro u1 u2))
    clear v0 v1 v2 u0 u1 u2
    refine wp_region_noPanic ?_
    refine wp_region_held_drew (S := fun W => Below X.heap.size X W) (by kernel_rfl) (below_drew' (Below.refl _ _)) (fun hHeld => ?_)
    refine wpAnyH_take (i := 0) (oi := Oper.mk (some 31) _ _ _ _ _) (v := ?_) rfl (by kernel_rfl) (by kernel_rfl) (by kernel_rfl) (fun _ _ _ h => h) (Or.inl ⟨by rfl, ?_⟩) (by assumption) ?_
    rotate_left
    · intro w0 hSw
      clear hSw
      go_simp
      all_goals (with_reducible rfl)
    simp only [Act.put, List.setIfInBounds_toArray, List.set_cons_zero, List.set_cons_succ]
    refine wpAnyH_take (i := 1) (oi := Oper.mk (some 32) _ _ _ _ _) (v := ?_) rfl (by kernel_rfl) (by kernel_rfl) (by kernel_rfl) (fun _ _ _ h => h) (Or.inl ⟨by rfl, ?_⟩) (by assumption) ?_
    rotate_left
    · intro w0 hSw
      have z0 : w0.cell? ⟨W1.heap.size, 0, none⟩ = some (.int .i64 k) := (Below.cell hSw (p := ⟨W1.heap.size, 0, none⟩) h5).trans HC.out.1
      have z1 : w0.cell? ⟨W1.heap.size, 1, none⟩ = some (.int .i64 n) := (Below.cell hSw (p := ⟨W1.heap.size, 1, none⟩) h5).trans HC.out.2.1
      have z2 : w0.cell? ⟨W1.heap.size, 2, none⟩ = some (.string t) := (Below.cell hSw (p := ⟨W1.heap.size, 2, none⟩) h5).trans HC.out.2.2
      clear hSw
      go_simp
      all_goals (with_reducible rfl)
    simp only [Act.put, List.setIfInBounds_toArray, List.set_cons_zero, List.set_cons_succ]
    refine wpAnyH_ready (rs := [2]) (by kernel_rfl) (by simp) ?_
    refine AllReadyH.cons (o := Oper.mk (some 33) _ _ _ _ _) rfl (fun K hK => ?_) AllReadyH.nil
    go_simp
    go_at_call 10
    refine (hsp.out _).mono ?_
    rintro x0 w0 ⟨rfl, hB0⟩
    have hHeld' := Below.trans hHeld (hB0.mono hHeld.size)
    clear hB0 hHeld
    go_wp2_with fail
    refine hK.out _ _ hHeld' (fun hHeld => ?_)
    clear hK K hHeld'
    (try simp only [Act.put, List.setIfInBounds_toArray, List.set_cons_zero, List.set_cons_succ])
    refine wpAnyH_take (i := 3) (oi := Oper.mk (some 34) _ _ _ _ _) (v := ?_) rfl (by kernel_rfl) (by kernel_rfl) (by kernel_rfl) (fun _ _ _ h => h) (Or.inl ⟨by rfl, ?_⟩) (by assumption) ?_
    rotate_left
    · intro w0 hSw
      clear hSw
      have hcc := hcmp
      go_simp
      all_goals (with_reducible rfl)
    simp only [Act.put, List.setIfInBounds_toArray, List.set_cons_zero, List.set_cons_succ]
    refine wpAnyH_take (i := 4) (oi := Oper.mk (some 35) _ _ _ _ _) (v := ?_) rfl (by kernel_rfl) (by kernel_rfl) (by kernel_rfl) (fun _ _ _ h => h) (Or.inl ⟨by rfl, ?_⟩) (by assumption) ?_
    rotate_left
    · intro w0 hSw
      clear hSw
      go_simp
      all_goals (with_reducible rfl)
    simp only [Act.put, List.setIfInBounds_toArray, List.set_cons_zero, List.set_cons_succ]
    refine wpAnyH_take (i := 5) (oi := Oper.mk (some 36) _ _ _ _ _) (v := ?_) rfl (by kernel_rfl) (by kernel_rfl) (by kernel_rfl) (fun _ _ _ h => h) (Or.inl ⟨by rfl, ?_⟩) (by assumption) ?_
    rotate_left
    · intro w0 hSw
      have z0 : w0.cell? ⟨W1.heap.size, 0, none⟩ = some (.int .i64 k) := (Below.cell hSw (p := ⟨W1.heap.size, 0, none⟩) h5).trans HC.out.1
      have z1 : w0.cell? ⟨W1.heap.size, 1, none⟩ = some (.int .i64 n) := (Below.cell hSw (p := ⟨W1.heap.size, 1, none⟩) h5).trans HC.out.2.1
      have z2 : w0.cell? ⟨W1.heap.size, 2, none⟩ = some (.string t) := (Below.cell hSw (p := ⟨W1.heap.size, 2, none⟩) h5).trans HC.out.2.2
      clear hSw
      go_simp
      all_goals (with_reducible rfl)
    simp only [Act.put, List.setIfInBounds_toArray, List.set_cons_zero, List.set_cons_succ]
    refine wpAnyH_take (i := 7) (oi := Oper.mk (some 38) _ _ _ _ _) (v := ?_) rfl (by kernel_rfl) (by kernel_rfl) (by kernel_rfl) (fun _ _ _ h => h) (Or.inl ⟨by rfl, ?_⟩) (by assumption) ?_
    rotate_left
    · intro w0 hSw
      have z0 : w0.cell? ⟨W1.heap.size, 0, none⟩ = some (.int .i64 k) := (Below.cell hSw (p := ⟨W1.heap.size, 0, none⟩) h5).trans HC.out.1
      have z1 : w0.cell? ⟨W1.heap.size, 1, none⟩ = some (.int .i64 n) := (Below.cell hSw (p := ⟨W1.heap.size, 1, none⟩) h5).trans HC.out.2.1
      have z2 : w0.cell? ⟨W1.heap.size, 2, none⟩ = some (.string t) := (Below.cell hSw (p := ⟨W1.heap.size, 2, none⟩) h5).trans HC.out.2.2
      clear hSw
      go_simp
      all_goals (with_reducible rfl)
    simp only [Act.put, List.setIfInBounds_toArray, List.set_cons_zero, List.set_cons_succ]
    refine wpAnyH_ready (rs := [6]) (by kernel_rfl) (by simp) ?_
    refine AllReadyH.cons (o := Oper.mk (some 37) _ _ _ _ _) rfl (fun K hK => ?_) AllReadyH.nil
    go_simp
    go_at_call 11
    refine (hio.out _).mono ?_
    rintro x0 w0 ⟨rfl, hB0⟩
    have hHeld' := Below.trans hHeld (hB0.mono hHeld.size)
    clear hB0 hHeld
    go_wp2_with fail
    refine hK.out _ _ hHeld' (fun hHeld => ?_)
    clear hK K hHeld'
    (try simp only [Act.put, List.setIfInBounds_toArray, List.set_cons_zero, List.set_cons_succ])
    refine wpAnyH_ready (rs := [8]) (by kernel_rfl) (by simp) ?_
    refine AllReadyH.cons (o := Oper.mk (some 39) _ _ _ _ _) rfl (fun K hK => ?_) AllReadyH.nil
    go_simp
    go_at_call 12
    refine (hso.out _).mono ?_
    rintro x0 w0 ⟨rfl, hB0⟩
    have hHeld' := Below.trans hHeld (hB0.mono hHeld.size)
    clear hB0 hHeld
    go_wp2_with fail
    refine hK.out _ _ hHeld' (fun hHeld => ?_)
    clear hK K hHeld'
    (try simp only [Act.put, List.setIfInBounds_toArray, List.set_cons_zero, List.set_cons_succ])
    refine wpAnyH_take (i := 9) (oi := Oper.mk (some 40) _ _ _ _ _) (v := ?_) rfl (by kernel_rfl) (by kernel_rfl) (by kernel_rfl) (fun _ _ _ h => h) (Or.inl ⟨by rfl, ?_⟩) (by assumption) ?_
    rotate_left
    · intro w0 hSw
      clear hSw
      go_simp
      all_goals (with_reducible rfl)
    simp only [Act.put, List.setIfInBounds_toArray, List.set_cons_zero, List.set_cons_succ]
    refine wpAnyH_take (i := 10) (oi := Oper.mk (some 41) _ _ _ _ _) (v := ?_) rfl (by kernel_rfl) (by kernel_rfl) (by kernel_rfl) (fun _ _ _ h => h) (Or.inl ⟨by rfl, ?_⟩) (by assumption) ?_
    rotate_left
    · intro w0 hSw
      clear hSw
      go_simp
      all_goals (with_reducible rfl)
    simp only [Act.put, List.setIfInBounds_toArray, List.set_cons_zero, List.set_cons_succ]
    refine wpAnyH_take (i := 11) (oi := Oper.mk (some 42) _ _ _ _ _) (v := ?_) rfl (by kernel_rfl) (by kernel_rfl) (by kernel_rfl) (fun _ _ _ h => h) (Or.inl ⟨by rfl, ?_⟩) (by assumption) ?_
    rotate_left
    · intro w0 hSw
      clear hSw
      go_simp
      all_goals (with_reducible rfl)
    simp only [Act.put, List.setIfInBounds_toArray, List.set_cons_zero, List.set_cons_succ]
    refine wpAnyH_take (i := 12) (oi := Oper.mk (some 43) _ _ _ _ _) (v := ?_) rfl (by kernel_rfl) (by kernel_rfl) (by kernel_rfl) (fun _ _ _ h => h) (Or.inl ⟨by rfl, ?_⟩) (by assumption) ?_
    rotate_left
    · intro w0 hSw
      clear hSw
      go_simp
      all_goals (with_reducible rfl)
    simp only [Act.put, List.setIfInBounds_toArray, List.set_cons_zero, List.set_cons_succ]
    refine wpAnyH_take (i := 13) (oi := Oper.mk (some 44) _ _ _ _ _) (v := ?_) rfl (by kernel_rfl) (by kernel_rfl) (by kernel_rfl) (fun _ _ _ h => h) (Or.inl ⟨by rfl, ?_⟩) (by assumption) ?_
    rotate_left
    · intro w0 hSw
      clear hSw
      go_simp
      all_goals (with_reducible rfl)
    simp only [Act.put, List.setIfInBounds_toArray, List.set_cons_zero, List.set_cons_succ]
    refine wpAnyH_take (i := 14) (oi := Oper.mk (some 45) _ _ _ _ _) (v := ?_) rfl (by kernel_rfl) (by kernel_rfl) (by kernel_rfl) (fun _ _ _ h => h) (Or.inl ⟨by rfl, ?_⟩) (by assumption) ?_
    rotate_left
    · intro w0 hSw
      clear hSw
      go_simp
      all_goals (with_reducible rfl)
    simp only [Act.put, List.setIfInBounds_toArray, List.set_cons_zero, List.set_cons_succ]
    refine wpAnyH_take (i := 15) (oi := Oper.mk (some 46) _ _ _ _ _) (v := ?_) rfl (by kernel_rfl) (by kernel_rfl) (by kernel_rfl) (fun _ _ _ h => h) (Or.inl ⟨by rfl, ?_⟩) (by assumption) ?_
    rotate_left
    · intro w0 hSw
      clear hSw
      go_simp
      all_goals (with_reducible rfl)
    simp only [Act.put, List.setIfInBounds_toArray, List.set_cons_zero, List.set_cons_succ]
    refine wpAnyH_take (i := 16) (oi := Oper.mk (some 47) _ _ _ _ _) (v := ?_) rfl (by kernel_rfl) (by kernel_rfl) (by kernel_rfl) (fun _ _ _ h => h) (Or.inl ⟨by rfl, ?_⟩) (by assumption) ?_
    rotate_left
    · intro w0 hSw
      clear hSw
      go_simp
      all_goals (with_reducible rfl)
    simp only [Act.put, List.setIfInBounds_toArray, List.set_cons_zero, List.set_cons_succ]
    refine wpAnyH_take (i := 17) (oi := Oper.mk (some 48) _ _ _ _ _) (v := ?_) rfl (by kernel_rfl) (by kernel_rfl) (by kernel_rfl) (fun _ _ _ h => h) (Or.inl ⟨by rfl, ?_⟩) (by assumption) ?_
    rotate_left
    · intro w0 hSw
      clear hSw
      go_simp
      all_goals (with_reducible rfl)
    simp only [Act.put, List.setIfInBounds_toArray, List.set_cons_zero, List.set_cons_succ]
    refine wpAnyH_take (i := 18) (oi := Oper.mk (some 49) _ _ _ _ _) (v := ?_) rfl (by kernel_rfl) (by kernel_rfl) (by kernel_rfl) (fun _ _ _ h => h) (Or.inl ⟨by rfl, ?_⟩) (by assumption) ?_
    rotate_left
    · intro w0 hSw
      clear hSw
      go_simp
      all_goals (with_reducible rfl)
    simp only [Act.put, List.setIfInBounds_toArray, List.set_cons_zero, List.set_cons_succ]
    refine wpAnyH_take (i := 19) (oi := Oper.mk (some 50) _ _ _ _ _) (v := ?_) rfl (by kernel_rfl) (by kernel_rfl) (by kernel_rfl) (fun _ _ _ h => h) (Or.inl ⟨by rfl, ?_⟩) (by assumption) ?_
    rotate_left
    · intro w0 hSw
      clear hSw
      go_simp
      all_goals (with_reducible rfl)
    simp only [Act.put, List.setIfInBounds_toArray, List.set_cons_zero, List.set_cons_succ]
    refine wpAnyH_take (i := 20) (oi := Oper.mk (some 51) _ _ _ _ _) (v := ?_) rfl (by kernel_rfl) (by kernel_rfl) (by kernel_rfl) (fun _ _ _ h => h) (Or.inl ⟨by rfl, ?_⟩) (by assumption) ?_
    rotate_left
    · intro w0 hSw
      have z0 : w0.cell? ⟨W3.heap.size, 0, none⟩ = some (.int .i64 k) := (Below.cell hSw (p := ⟨W3.heap.size, 0, none⟩) h7).trans HD.out.1
      have z1 : w0.cell? ⟨W3.heap.size, 1, none⟩ = some (.int .i64 n) := (Below.cell hSw (p := ⟨W3.heap.size, 1, none⟩) h7).trans HD.out.2.1
      have z2 : w0.cell? ⟨W3.heap.size, 2, none⟩ = some (.string t) := (Below.cell hSw (p := ⟨W3.heap.size, 2, none⟩) h7).trans HD.out.2.2
      clear hSw
      go_simp
      all_goals (with_reducible rfl)
    simp only [Act.put, List.setIfInBounds_toArray, List.set_cons_zero, List.set_cons_succ]
    refine wpAnyH_take (i := 21) (oi := Oper.mk (some 52) _ _ _ _ _) (v := ?_) rfl (by kernel_rfl) (by kernel_rfl) (by kernel_rfl) (fun _ _ _ h => h) (Or.inl ⟨by rfl, ?_⟩) (by assumption) ?_
    rotate_left
    · intro w0 hSw
      have z0 : w0.cell? ⟨W1.heap.size, 0, none⟩ = some (.int .i64 k) := (Below.cell hSw (p := ⟨W1.heap.size, 0, none⟩) h5).trans HC.out.1
      have z1 : w0.cell? ⟨W1.heap.size, 1, none⟩ = some (.int .i64 n) := (Below.cell hSw (p := ⟨W1.heap.size, 1, none⟩) h5).trans HC.out.2.1
      have z2 : w0.cell? ⟨W1.heap.size, 2, none⟩ = some (.string t) := (Below.cell hSw (p := ⟨W1.heap.size, 2, none⟩) h5).trans HC.out.2.2
      clear hSw
      go_simp
      all_goals (with_reducible rfl)
    simp only [Act.put, List.setIfInBounds_toArray, List.set_cons_zero, List.set_cons_succ]
    refine wpAnyH_take (i := 22) (oi := Oper.mk (some 53) _ _ _ _ _) (v := ?_) rfl (by kernel_rfl) (by kernel_rfl) (by kernel_rfl) (fun _ _ _ h => h) (Or.inl ⟨by rfl, ?_⟩) (by assumption) ?_
    rotate_left
    · intro w0 hSw
      clear hSw
      go_simp
      all_goals (with_reducible rfl)
    simp only [Act.put, List.setIfInBounds_toArray, List.set_cons_zero, List.set_cons_succ]
    refine wpAnyH_take (i := 23) (oi := Oper.mk (some 54) _ _ _ _ _) (v := ?_) rfl (by kernel_rfl) (by kernel_rfl) (by kernel_rfl) (fun _ _ _ h => h) (Or.inl ⟨by rfl, ?_⟩) (by assumption) ?_
    rotate_left
    · intro w0 hSw
      clear hSw
      go_simp
      all_goals (with_reducible rfl)
    simp only [Act.put, List.setIfInBounds_toArray, List.set_cons_zero, List.set_cons_succ]
    refine wpAnyH_take (i := 24) (oi := Oper.mk (some 55) _ _ _ _ _) (v := ?_) rfl (by kernel_rfl) (by kernel_rfl) (by kernel_rfl) (fun _ _ _ h => h) (Or.inl ⟨by rfl, ?_⟩) (by assumption) ?_
    rotate_left
    · intro w0 hSw
      clear hSw
      go_simp
      all_goals (with_reducible rfl)
    simp only [Act.put, List.setIfInBounds_toArray, List.set_cons_zero, List.set_cons_succ]
    refine wpAnyH_done (by kernel_rfl) ?_ _
    refine NoPanic.normal ?_
    have HB7 := hide (HX.out.trans (hHeld.mono HX.out.size))
    clear hHeld HC HD HV HU HX h5 h7
    go_wp2_with fail
    refine (hd2.out _ HB7.out).mono ?_
    rintro e8 W8 ⟨⟨s, hs, rfl⟩, hB8⟩
    have HB8 := hide (HB7.out.trans (hB8.mono HB7.out.size))
    clear hB8 HB7
    obtain ⟨k2, n2, t2, b2, hp, hpb, hn2, ht2⟩ := put_again s
    have hss : s.size ≤ 40 := hs
    have hgi := hide (fun (X : World) (hX : Below W.heap.size W X) => (implValueGet_any s (by omega) X (HT.out.later hX) (HE.out.later hX)).mono fun e w' h => hp X e w' h)
    have hgs := hide (fun (X : World) => (specValueGet_any s (by omega) X).mono fun e w' h => hp X e w' h)
    have hpi := hide (fun (X : World) (hX : Below W.heap.size W X) => implValuePut_any k2 n2 t2 (by omega) (by omega) (by omega) X (HT.out.later hX))
    have HPB := hide hpb
    clear hp hpb hn2 ht2 hss hs hd2
    generalize Pl.putB k2 n2 t2 = P2 at hpi HPB
    go_wp2_with fail
    refine (hgi.out _ HB8.out).mono ?_
    rintro e9 W9 ⟨rfl, hB9⟩
    have HB9 := hide (HB8.out.trans (hB9.mono HB8.out.size))
    clear hB9 HB8 hgi
    go_wp2_with fail
    refine (hgs.out _).mono ?_
    rintro e10 W10 ⟨rfl, hB10⟩
    have q10 := one_q hB10
    have HV10 := hide q10.1
    have HB10 := hide (HB9.out.trans (q10.2.1.mono HB9.out.size))
    have h910 : W9.heap.size < W10.heap.size := (Array.getElem?_eq_some_iff.1 HV10.out).1
    clear hB10 q10 HB9 hgs
    obtain ⟨g0, g1, g2⟩ := cells3_in HV10.out
    have hbb2 : (b2 == b2) = true := by cases b2 <;> rfl
    cases b2
    · go_wp2_with fail
      go_ret
      exact ⟨rfl, HB10.out.alloc HB10.out.size _⟩
    · have hP2 := HPB.out rfl
      subst hP2
      have hsm : ((Pl.bs s.data.toList).toList == s.toList) = true := by
        rw [Pl.bs_toList, Lib.toList_data]
        exact beq_self_eq_true _
      go_wp2_with fail
      refine (hpi.out _ (HB10.out.alloc HB10.out.size _)).mono ?_
      rintro e11 W11 ⟨rfl, hB11⟩
      have HB11 := hide ((HB10.out.alloc HB10.out.size _).trans (hB11.mono (Nat.le_trans HB10.out.size (by simp))))
      clear hB11
      go_wp2_with fail
      go_ret
      exact ⟨rfl, HB11.out⟩
end Go.Proofs.YtamkogkcdmgjoaaDoor

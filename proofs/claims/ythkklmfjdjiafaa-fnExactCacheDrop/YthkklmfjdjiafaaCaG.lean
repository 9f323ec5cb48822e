/- Items of a cache, held against their marks. -/
import Derived.Test.YthkklmfjdjiafaaCaN2
import Derived.Test.YthkklmfjdjiafaaCaH1
import Derived.Test.YthkklmfjdjiafaaCaH2
import Derived.Deep.RegionHeld3
namespace Go.Proofs.Ythkklmfjdjiafaa
open Go.RowKit
set_option linter.unusedVariables false
set_option linter.unusedSimpArgs false
theorem heldCms_at (n : Nat) (a : Option Addr) (c k : Nat) (z : Int) (hz : z = ((k : Nat) : Int)) (h1 : 1 ≤ k) (h2 : k + 5 * n ≤ 100000000) (hnc : n ≤ c) (hcm : c ≤ maxLen) (w : World) (hr : RowM 86 5 mkCms k a n n w) :
    Calls Try.prog 36 #[.slice a n c, .int .i64 z] w fun x w' => ∃ z' : Int, x = .returned (.int .i64 z') ∧ z' = ((k + 5 * n : Nat) : Int) ∧ Below w.heap.size w w' := by
  subst hz
  refine (heldCms_any n a c k h1 h2 hnc hcm w hr).mono ?_
  rintro e w' ⟨rfl, hb⟩
  exact ⟨_, rfl, rfl, hb⟩
theorem heldPqs_at (n : Nat) (a : Option Addr) (c k : Nat) (z : Int) (hz : z = ((k : Nat) : Int)) (h1 : 1 ≤ k) (h2 : k + 4 * n ≤ 100000000) (hnc : n ≤ c) (hcm : c ≤ maxLen) (w : World) (hr : RowM 90 4 mkPqs k a n n w) :
    Calls Try.prog 37 #[.slice a n c, .int .i64 z] w fun x w' => ∃ z' : Int, x = .returned (.int .i64 z') ∧ z' = ((k + 4 * n : Nat) : Int) ∧ Below w.heap.size w w' := by
  subst hz
  refine (heldPqs_any n a c k h1 h2 hnc hcm w hr).mono ?_
  rintro e w' ⟨rfl, hb⟩
  exact ⟨_, rfl, rfl, hb⟩
theorem iv_at {z : Int} {k : Nat} (h : z = ((k : Nat) : Int)) : (Value.int .i64 ((k : Nat) : Int)) = .int .i64 z := by rw [h]
set_option maxRecDepth 100000 in
set_option maxHeartbeats 12800000 in
theorem heldItemS_any (l : List It) (a : Option Addr) (c k : Nat) (h1 : 1 ≤ k) (h2 : k + itW l ≤ 100000000) (hnc : l.length ≤ c) (hcm : c ≤ maxLen) (w : World)
    (hx : 0 < l.length → ∃ b C s, a = some ⟨b, 0, none⟩ ∧ MI l k l.length b C s w) :
    Calls Try.prog 27 #[.slice a l.length c, .int .i64 (k : Int)] w fun x w' => (∃ z : Int, x = .returned (.int .i64 z) ∧ z = ((k + itW l : Nat) : Int)) ∧ Below w.heap.size w w' := by
  unfold maxLen at hcm
  have HX := hide hx
  clear hx
  go_enter Try.func27, Try.ntmps27
  go_wp2_with fail
  go_loopw [1, 5] (fun kv iv wr => ∃ (i : Nat) (z : Int), i ≤ l.length ∧ iv = .int .i64 i ∧ kv = .int .i64 z ∧ Hid (z = ((k + itW (l.take i) : Nat) : Int)) ∧ Hid (Below w.heap.size w wr)) (fun _ iv _ => l.length - (intOf iv).toNat)
  case atStart => exact ⟨0, k, by omega, rfl, rfl, hide (by simp [itW]), Below.refl _ _⟩
  case round =>
    obtain ⟨i, z, hi', rfl, rfl, HZ, HB⟩ := hrel
    by_cases hlt : i < l.length
    · obtain ⟨b, C, s, rfl, hMI⟩ := HX.out (by omega)
      obtain ⟨e, he⟩ : ∃ e, l[i]? = some e := ⟨_, List.getElem?_eq_getElem hlt⟩
      have HE := hide he
      obtain ⟨hb, hs, hup, hall⟩ := hMI
      obtain ⟨ac, cc, ap, cp, e1, e2, e3, e4, _, _, _, _, e9, e10, e11⟩ := hall i e he
      have hdt : decide (i < l.length) = true := decide_eq_true hlt
      rw [hdt] at e9 e10 e11
      simp only [if_true] at e9 e10
      have hnx := itW_next he
      have hle : itW (l.take (i + 1)) ≤ itW l := itW_le
      have hwt : e.wt = 8 + 5 * e.cs.length + 4 * e.ps.length := rfl
      obtain ⟨kk, hkk⟩ : ∃ kk, kk = k + itW (l.take i) := ⟨_, rfl⟩
      rw [← hkk] at e9 e10 e11
      have HZK : Hid (z = ((kk : Nat) : Int)) := by show _ = _; rw [hkk]; exact HZ.out
      have HNX : Hid (k + itW (l.take (i + 1)) = kk + 8 + 5 * e.cs.length + 4 * e.ps.length) := by show _ = _; omega
      have hkb : kk + 8 + 5 * e.cs.length + 4 * e.ps.length ≤ 100000000 := by omega
      have hk1 : 1 ≤ kk := by omega
      have hz0 : 1 ≤ z := by have := HZK.out; omega
      have hz1 : z + 1 ≤ 100000000 := by have := HZK.out; omega
      have hii : (i : Int) < (l.length : Int) := by omega
      have hbl : b < w.heap.size := (Array.getElem?_eq_some_iff.1 hb).1
      have hmx := hide (And.intro e2 e4)
      have HQ : Hid (∀ W, Below w.heap.size w W → ∀ t u, (mkIt kk e (.slice ac e.cs.length cc) (.slice ap e.ps.length cp))[t]? = some u → W.cell? ⟨b, i * 10 + t, none⟩ = some u) := fun W hW t u hu => (hW.cell (p := ⟨b, i * 10 + t, none⟩) hbl).trans ((cell_of_block hb _).trans (e11 rfl t u hu))
      have HCR := hide e9
      have HPR := hide e10
      have HLB := hide hbl
      have q0 : wr.cell? ⟨b, i * 10, none⟩ = some (.int .i64 z : Value) := (HQ.out wr HB.out 0 _ rfl).trans (congrArg some (iv_at HZK.out))
      have q1 : wr.cell? ⟨b, i * 10 + 1, none⟩ = some (.int .i64 (z + 1) : Value) := (HQ.out wr HB.out 1 _ rfl).trans (congrArg some (iv_at (by have := HZK.out; omega)))
      have q2 : wr.cell? ⟨b, i * 10 + 2, none⟩ = some (.slice ac e.cs.length cc) := HQ.out wr HB.out 2 _ rfl
      have HGb : Hid (b < wr.heap.size) := by show _ < _; have := HB.out.size; omega
      have hgb := HGb.out
      have n0 : (z != z) = false := by simp
      have n1 : ((z + 1) != (z + 1)) = false := by simp
      unfold maxLen at e2 e4
      clear hb hs hup hall HX e9 e10 e11 hnx hle hwt hkk he hdt hbl
      go_wp2_with fail
      refine (heldCms_at _ ac cc (kk + 2) _ (by have := HZK.out; omega) (by omega) (by omega) e1 hmx.out.1 _ (HCR.out.later HB.out)).mono ?_
      rintro x0 Y1 ⟨z1, rfl, hz1e, hB1⟩
      have HZ1 : Hid (z1 = ((kk + 2 + 5 * e.cs.length : Nat) : Int)) := hz1e
      have HB1 := hide (HB.out.trans (hB1.mono HB.out.size))
      have hz2 : 1 ≤ z1 := by have := HZ1.out; omega
      have hz3 : z1 + 4 ≤ 100000000 := by have := HZ1.out; omega
      have hz2' : ¬ z1 < 0 := by omega
      clear hz1e hB1 q0 q1 q2 n0 n1 HGb hgb HCR
      have q3 : Y1.cell? ⟨b, i * 10 + 3, none⟩ = some (.int .i64 z1 : Value) := (HQ.out Y1 HB1.out 3 _ rfl).trans (congrArg some (iv_at HZ1.out))
      have q4 : Y1.cell? ⟨b, i * 10 + 4, none⟩ = some (.int .i64 (z1 + 1) : Value) := (HQ.out Y1 HB1.out 4 _ rfl).trans (congrArg some (iv_at (by have := HZ1.out; omega)))
      have q5 : Y1.cell? ⟨b, i * 10 + 5, none⟩ = some (.int .i64 (z1 + 1 + 1) : Value) := (HQ.out Y1 HB1.out 5 _ rfl).trans (congrArg some (iv_at (by have := HZ1.out; omega)))
      have q6 : Y1.cell? ⟨b, i * 10 + 6, none⟩ = some (.string (Pl.bs (Pl.mark (kk + 5 + 5 * e.cs.length))) : Value) := HQ.out Y1 HB1.out 6 _ rfl
      have HGb : Hid (b < Y1.heap.size) := by show _ < _; have := HB1.out.size; have := HLB.out; omega
      have hgb := HGb.out
      have n3 : (z1 != z1) = false := by simp
      have n4 : ((z1 + 1) != (z1 + 1)) = false := by simp
      have n5 : ((z1 + 1 + 1) != (z1 + 1 + 1)) = false := by simp
      go_wp2_with fail
      refine wp_region_noPanic ?_
      refine wp_region_held_drew (S := fun W => Below Y1.heap.size Y1 W) (by kernel_rfl) (below_drew' (Below.refl _ _)) (fun hHeld => ?_)
      refine wpAnyH_take (i := 0) (oi := Oper.mk (some 72) _ _ _ _ _) (v := ?_) rfl (by kernel_rfl) (by kernel_rfl) (by kernel_rfl) (fun _ _ _ h => h) (Or.inl ⟨by rfl, ?_⟩) (by assumption) ?_
      rotate_left
      · intro w0 hSw
        clear hSw
        go_simp
        all_goals (with_reducible rfl)
      simp only [Act.put, List.setIfInBounds_toArray, List.set_cons_zero, List.set_cons_succ]
      refine wpAnyH_take (i := 1) (oi := Oper.mk (some 73) _ _ _ _ _) (v := ?_) rfl (by kernel_rfl) (by kernel_rfl) (by kernel_rfl) (fun _ _ _ h => h) (Or.inl ⟨by rfl, ?_⟩) (by assumption) ?_
      rotate_left
      · intro w0 hSw
        clear hSw
        go_simp
        all_goals (with_reducible rfl)
      simp only [Act.put, List.setIfInBounds_toArray, List.set_cons_zero, List.set_cons_succ]
      refine wpAnyH_take (i := 2) (oi := Oper.mk (some 74) _ _ _ _ _) (v := ?_) rfl (by kernel_rfl) (by kernel_rfl) (by kernel_rfl) (fun _ _ _ h => h) (Or.inl ⟨by rfl, ?_⟩) (by assumption) ?_
      rotate_left
      · intro w0 hSw
        clear hSw
        go_simp
        all_goals (with_reducible rfl)
      simp only [Act.put, List.setIfInBounds_toArray, List.set_cons_zero, List.set_cons_succ]
      refine wpAnyH_take (i := 3) (oi := Oper.mk (some 75) _ _ _ _ _) (v := ?_) rfl (by kernel_rfl) (by kernel_rfl) (by kernel_rfl) (fun _ _ _ h => h) (Or.inl ⟨by rfl, ?_⟩) (by assumption) ?_
      rotate_left
      · intro w0 hSw
        clear hSw
        go_simp
        all_goals (with_reducible rfl)
      simp only [Act.put, List.setIfInBounds_toArray, List.set_cons_zero, List.set_cons_succ]
      refine wpAnyH_take (i := 4) (oi := Oper.mk (some 76) _ _ _ _ _) (v := ?_) rfl (by kernel_rfl) (by kernel_rfl) (by kernel_rfl) (fun _ _ _ h => h) (Or.inl ⟨by rfl, ?_⟩) (by assumption) ?_
      rotate_left
      · intro w0 hSw
        clear hSw
        go_simp
        all_goals (with_reducible rfl)
      simp only [Act.put, List.setIfInBounds_toArray, List.set_cons_zero, List.set_cons_succ]
      refine wpAnyH_take (i := 5) (oi := Oper.mk (some 77) _ _ _ _ _) (v := ?_) rfl (by kernel_rfl) (by kernel_rfl) (by kernel_rfl) (fun _ _ _ h => h) (Or.inl ⟨by rfl, ?_⟩) (by assumption) ?_
      rotate_left
      · intro w0 hSw
        clear hSw
        go_simp
        all_goals (with_reducible rfl)
      simp only [Act.put, List.setIfInBounds_toArray, List.set_cons_zero, List.set_cons_succ]
      refine wpAnyH_take (i := 6) (oi := Oper.mk (some 78) _ _ _ _ _) (v := ?_) rfl (by kernel_rfl) (by kernel_rfl) (by kernel_rfl) (fun _ _ _ h => h) (Or.inl ⟨by rfl, ?_⟩) (by assumption) ?_
      rotate_left
      · intro w0 hSw
        have z0 : w0.cell? ⟨b, i * 10 + 6, none⟩ = some ((.string (Pl.bs (Pl.mark (kk + 5 + 5 * e.cs.length))) : Value)) := (Below.cell hSw (p := ⟨b, i * 10 + 6, none⟩) HGb.out).trans q6
        clear hSw
        go_simp
        all_goals (with_reducible rfl)
      simp only [Act.put, List.setIfInBounds_toArray, List.set_cons_zero, List.set_cons_succ]
      refine wpAnyH_take (i := 7) (oi := Oper.mk (some 79) _ _ _ _ _) (v := ?_) rfl (by kernel_rfl) (by kernel_rfl) (by kernel_rfl) (fun _ _ _ h => h) (Or.inl ⟨by rfl, ?_⟩) (by assumption) ?_
      rotate_left
      · intro w0 hSw
        clear hSw
        go_simp
        all_goals (with_reducible rfl)
      simp only [Act.put, List.setIfInBounds_toArray, List.set_cons_zero, List.set_cons_succ]
      refine wpAnyH_ready (rs := [8]) (by kernel_rfl) (by simp) ?_
      refine AllReadyH.cons (o := Oper.mk (some 80) _ _ _ _ _) rfl (fun K hK => ?_) AllReadyH.nil
      go_simp
      go_at_call 34
      refine (markText_at _ (kk + 5 + 5 * e.cs.length) (by have := HZ1.out; omega) (by omega) (by omega) _).mono ?_
      rintro x0 Y2 ⟨rfl, hB0⟩
      have hHeld' := Below.trans hHeld (hB0.mono hHeld.size)
      clear hB0 hHeld
      go_wp2_with fail
      refine hK.out _ _ hHeld' (fun hHeld => ?_)
      clear hK K hHeld'
      (try simp only [Act.put, List.setIfInBounds_toArray, List.set_cons_zero, List.set_cons_succ])
      refine wpAnyH_take (i := 9) (oi := Oper.mk (some 81) _ _ _ _ _) (v := ?_) rfl (by kernel_rfl) (by kernel_rfl) (by kernel_rfl) (fun _ _ _ h => h) (Or.inl ⟨by rfl, ?_⟩) (by assumption) ?_
      rotate_left
      · intro w0 hSw
        clear hSw
        go_simp
        all_goals (with_reducible rfl)
      simp only [Act.put, List.setIfInBounds_toArray, List.set_cons_zero, List.set_cons_succ]
      refine wpAnyH_done (by kernel_rfl) ?_ _
      refine NoPanic.normal ?_
      have HB2 := hide (HB1.out.trans (hHeld.mono HB1.out.size))
      clear hHeld q3 q4 q5 q6 n3 n4 n5 HGb hgb
      have q7 : Y2.cell? ⟨b, i * 10 + 7, none⟩ = some (.string (Pl.bs (Pl.mark (kk + 6 + 5 * e.cs.length))) : Value) := HQ.out Y2 HB2.out 7 _ rfl
      have HGb : Hid (b < Y2.heap.size) := by show _ < _; have := HB2.out.size; have := HLB.out; omega
      have hgb := HGb.out
      go_wp2_with fail
      refine wp_region_noPanic ?_
      refine wp_region_held_drew (S := fun W => Below Y2.heap.size Y2 W) (by kernel_rfl) (below_drew' (Below.refl _ _)) (fun hHeld => ?_)
      refine wpAnyH_take (i := 0) (oi := Oper.mk (some 84) _ _ _ _ _) (v := ?_) rfl (by kernel_rfl) (by kernel_rfl) (by kernel_rfl) (fun _ _ _ h => h) (Or.inl ⟨by rfl, ?_⟩) (by assumption) ?_
      rotate_left
      · intro w0 hSw
        clear hSw
        go_simp
        all_goals (with_reducible rfl)
      simp only [Act.put, List.setIfInBounds_toArray, List.set_cons_zero, List.set_cons_succ]
      refine wpAnyH_take (i := 1) (oi := Oper.mk (some 85) _ _ _ _ _) (v := ?_) rfl (by kernel_rfl) (by kernel_rfl) (by kernel_rfl) (fun _ _ _ h => h) (Or.inl ⟨by rfl, ?_⟩) (by assumption) ?_
      rotate_left
      · intro w0 hSw
        clear hSw
        go_simp
        all_goals (with_reducible rfl)
      simp only [Act.put, List.setIfInBounds_toArray, List.set_cons_zero, List.set_cons_succ]
      refine wpAnyH_take (i := 2) (oi := Oper.mk (some 86) _ _ _ _ _) (v := ?_) rfl (by kernel_rfl) (by kernel_rfl) (by kernel_rfl) (fun _ _ _ h => h) (Or.inl ⟨by rfl, ?_⟩) (by assumption) ?_
      rotate_left
      · intro w0 hSw
        clear hSw
        go_simp
        all_goals (with_reducible rfl)
      simp only [Act.put, List.setIfInBounds_toArray, List.set_cons_zero, List.set_cons_succ]
      refine wpAnyH_take (i := 3) (oi := Oper.mk (some 87) _ _ _ _ _) (v := ?_) rfl (by kernel_rfl) (by kernel_rfl) (by kernel_rfl) (fun _ _ _ h => h) (Or.inl ⟨by rfl, ?_⟩) (by assumption) ?_
      rotate_left
      · intro w0 hSw
        clear hSw
        go_simp
        all_goals (with_reducible rfl)
      simp only [Act.put, List.setIfInBounds_toArray, List.set_cons_zero, List.set_cons_succ]
      refine wpAnyH_take (i := 4) (oi := Oper.mk (some 88) _ _ _ _ _) (v := ?_) rfl (by kernel_rfl) (by kernel_rfl) (by kernel_rfl) (fun _ _ _ h => h) (Or.inl ⟨by rfl, ?_⟩) (by assumption) ?_
      rotate_left
      · intro w0 hSw
        clear hSw
        go_simp
        all_goals (with_reducible rfl)
      simp only [Act.put, List.setIfInBounds_toArray, List.set_cons_zero, List.set_cons_succ]
      refine wpAnyH_take (i := 5) (oi := Oper.mk (some 89) _ _ _ _ _) (v := ?_) rfl (by kernel_rfl) (by kernel_rfl) (by kernel_rfl) (fun _ _ _ h => h) (Or.inl ⟨by rfl, ?_⟩) (by assumption) ?_
      rotate_left
      · intro w0 hSw
        have z0 : w0.cell? ⟨b, i * 10 + 7, none⟩ = some ((.string (Pl.bs (Pl.mark (kk + 6 + 5 * e.cs.length))) : Value)) := (Below.cell hSw (p := ⟨b, i * 10 + 7, none⟩) HGb.out).trans q7
        clear hSw
        go_simp
        all_goals (with_reducible rfl)
      simp only [Act.put, List.setIfInBounds_toArray, List.set_cons_zero, List.set_cons_succ]
      refine wpAnyH_take (i := 6) (oi := Oper.mk (some 90) _ _ _ _ _) (v := ?_) rfl (by kernel_rfl) (by kernel_rfl) (by kernel_rfl) (fun _ _ _ h => h) (Or.inl ⟨by rfl, ?_⟩) (by assumption) ?_
      rotate_left
      · intro w0 hSw
        clear hSw
        go_simp
        all_goals (with_reducible rfl)
      simp only [Act.put, List.setIfInBounds_toArray, List.set_cons_zero, List.set_cons_succ]
      refine wpAnyH_ready (rs := [7]) (by kernel_rfl) (by simp) ?_
      refine AllReadyH.cons (o := Oper.mk (some 91) _ _ _ _ _) rfl (fun K hK => ?_) AllReadyH.nil
      go_simp
      go_at_call 34
      refine (markText_at _ (kk + 6 + 5 * e.cs.length) (by have := HZ1.out; omega) (by omega) (by omega) _).mono ?_
      rintro x0 Y3 ⟨rfl, hB0⟩
      have hHeld' := Below.trans hHeld (hB0.mono hHeld.size)
      clear hB0 hHeld
      go_wp2_with fail
      refine hK.out _ _ hHeld' (fun hHeld => ?_)
      clear hK K hHeld'
      (try simp only [Act.put, List.setIfInBounds_toArray, List.set_cons_zero, List.set_cons_succ])
      refine wpAnyH_take (i := 8) (oi := Oper.mk (some 92) _ _ _ _ _) (v := ?_) rfl (by kernel_rfl) (by kernel_rfl) (by kernel_rfl) (fun _ _ _ h => h) (Or.inl ⟨by rfl, ?_⟩) (by assumption) ?_
      rotate_left
      · intro w0 hSw
        clear hSw
        go_simp
        all_goals (with_reducible rfl)
      simp only [Act.put, List.setIfInBounds_toArray, List.set_cons_zero, List.set_cons_succ]
      refine wpAnyH_done (by kernel_rfl) ?_ _
      refine NoPanic.normal ?_
      have HB3 := hide (HB2.out.trans (hHeld.mono HB2.out.size))
      clear hHeld q7 HGb hgb
      have q8 : Y3.cell? ⟨b, i * 10 + 8, none⟩ = some (.slice ap e.ps.length cp) := HQ.out Y3 HB3.out 8 _ rfl
      have hgb : b < Y3.heap.size := by have := HB3.out.size; have := HLB.out; omega
      go_wp2_with fail
      refine (heldPqs_at _ ap cp (kk + 7 + 5 * e.cs.length) _ (by have := HZ1.out; omega) (by omega) (by omega) e3 hmx.out.2 _ (HPR.out.later HB3.out)).mono ?_
      rintro x3 Y4 ⟨z2, rfl, hz2e, hB4⟩
      have HZ2 : Hid (z2 = ((kk + 7 + 5 * e.cs.length + 4 * e.ps.length : Nat) : Int)) := hz2e
      have HB4 := hide (HB3.out.trans (hB4.mono HB3.out.size))
      have hz4 : 1 ≤ z2 := by have := HZ2.out; omega
      have hz5 : z2 + 1 ≤ 100000000 := by have := HZ2.out; omega
      have hz6 : ¬ z2 < 0 := by omega
      clear hz2e hB4 q8 hgb HPR
      have q9 : Y4.cell? ⟨b, i * 10 + 9, none⟩ = some (.int .i64 z2 : Value) := (HQ.out Y4 HB4.out 9 _ rfl).trans (congrArg some (iv_at HZ2.out))
      have hgb : b < Y4.heap.size := by have := HB4.out.size; have := HLB.out; omega
      have n9 : (z2 != z2) = false := by simp
      go_wp2_with fail
      go_roundw
      case rel => exact ⟨i + 1, z2 + 1, by omega, by go_num, rfl, hide (by have h5 := HZ2.out; have h6 := HNX.out; omega), HB4⟩
      case measure => simp [intOf]; omega
    · have hie : i = l.length := by omega
      have HE : Hid (z = ((k + itW l : Nat) : Int)) := by
        have h5 := HZ.out
        rw [hie, List.take_length] at h5
        exact h5
      clear hie
      go_wp2_with fail
      go_ret
      exact ⟨⟨z, rfl, HE.out⟩, HB.out⟩
end Go.Proofs.Ythkklmfjdjiafaa

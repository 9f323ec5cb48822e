/- What is asked, made out of an expression of two parts: or, worked with. -/
import Derived.Test.YtiffgomkhoalpaaGreatDoorEvI7
import Derived.Deep.RegionHeld3
import Derived.Deep.RegionLaw
namespace Go.Proofs.YtiffgomkhoalpaaGreatDoor
open Go.RowKit
set_option linter.unusedVariables false
set_option linter.unusedSimpArgs false
set_option maxRecDepth 100000 in
set_option maxHeartbeats 6400000 in
theorem mk_or (vt nm : ByteArray) (k : Fo) (v : Value) (w : World) (hr : RowAt 0 w k v) (na : Nd) (ka : Fo) (ga : k.get 0 = some (na, ka)) (ca : MPart na ka w) (hga : Good (fun L => Pl.ev L na ka)) (nb : Nd) (kb : Fo) (gb : k.get 1 = some (nb, kb)) (cb : MPart nb kb w) (hgb : Good (fun L => Pl.ev L nb kb)) :
    Calls Tryz.prog 58 #[ndV ⟨9, 0, 0, vt, nm⟩ v] w fun e w' => ∃ f, e = .returned f ∧ Asks w' f (fun L => Pl.opA 9 (Pl.ev L na ka) (Pl.ev L nb kb)) ∧ Below w.heap.size w w' := by
  have HR := hide hr
  obtain ⟨ad, cap, rfl, hc, hm, hx⟩ := hr
  unfold maxLen at hm
  obtain ⟨g, off, va, rfl, hi, hg, hnd⟩ := part_at HR.out ga
  obtain ⟨g', off', vb, he', hi1, hg', hnb⟩ := part_at HR.out gb
  obtain ⟨rfl, rfl⟩ : g = g' ∧ off = off' := by cases he'; exact ⟨rfl, rfl⟩
  rw [show off + 0 * 6 = off by omega] at hnd
  rw [show off + 1 * 6 = off + 6 by omega] at hnb
  have HND := hide hnd
  have HNB := hide hnb
  have HCA := hide (fun W (hB : Below w.heap.size w W) => ca va W hB (hnd.2.2.2.2.2.2.later hB))
  have HCB := hide (fun W (hB : Below w.heap.size w W) => cb vb W hB (hnb.2.2.2.2.2.2.later hB))
  obtain ⟨aa, cpa, rfl, _⟩ := hnd.2.2.2.2.2.2
  obtain ⟨ab, cpb, rfl, _⟩ := hnb.2.2.2.2.2.2
  have HU := hide (fun fa fb W (h1 : Asks W fa (fun L => Pl.ev L na ka)) (h2 : Asks W fb (fun L => Pl.ev L nb kb)) => askUnless_any true 9 rfl fa fb _ _ hga hgb W h1 h2)
  have HE := hide (EP.drew (EP.start (w := w) (v := .slice (some ⟨g, off, none⟩) k.len cap) (nk := 9) (x1 := .int .i64 0) (x2 := .int .i64 0) (x3 := .string vt) (x4 := .string nm)))
  clear hx hga hgb he' hnd hnb
  go_enter Tryz.func58, Tryz.ntmps58
  go_wp2_with fail
  refine wp_region_noPanic ?_
  refine wp_region_held_drew (S := EP w (.slice (some ⟨g, off, none⟩) k.len cap) 9) (by kernel_rfl) HE.out (fun hHeld => ?_)
  refine wpAnyH_take (i := 0) (oi := Oper.mk (some 25) _ _ _ _ _) (v := ?_) rfl (by kernel_rfl) (by kernel_rfl) (by kernel_rfl) (fun _ _ _ h => h) (Or.inl ⟨by rfl, ?_⟩) (by assumption) ?_
  rotate_left
  · intro w0 hSw
    clear hSw
    go_simp
    all_goals (with_reducible rfl)
  simp only [Act.put, List.setIfInBounds_toArray, List.set_cons_zero, List.set_cons_succ]
  refine wpAnyH_take (i := 1) (oi := Oper.mk (some 26) _ _ _ _ _) (v := ?_) rfl (by kernel_rfl) (by kernel_rfl) (by kernel_rfl) (fun _ _ _ h => h) (Or.inl ⟨by rfl, ?_⟩) (by assumption) ?_
  rotate_left
  · intro w0 hSw
    obtain ⟨⟨zl, z0, z5⟩, zB⟩ := id hSw
    clear hSw
    go_simp
    all_goals (with_reducible rfl)
  simp only [Act.put, List.setIfInBounds_toArray, List.set_cons_zero, List.set_cons_succ]
  refine wpAnyH_take (i := 2) (oi := Oper.mk (some 27) _ _ _ _ _) (v := ?_) rfl (by kernel_rfl) (by kernel_rfl) (by kernel_rfl) (fun _ _ _ h => h) (Or.inl ⟨by rfl, ?_⟩) (by assumption) ?_
  rotate_left
  · intro w0 hSw
    clear hSw
    go_simp
    all_goals (with_reducible rfl)
  simp only [Act.put, List.setIfInBounds_toArray, List.set_cons_zero, List.set_cons_succ]
  refine wpAnyH_take (i := 3) (oi := Oper.mk (some 28) _ _ _ _ _) (v := ?_) rfl (by kernel_rfl) (by kernel_rfl) (by kernel_rfl) (fun _ _ _ h => h) (Or.inl ⟨by rfl, ?_⟩) (by assumption) ?_
  rotate_left
  · intro w0 hSw
    have zB := hSw.2
    obtain ⟨d0, d1, d2, d3, d4, d5, _⟩ := HND.out.later zB hg
    have hgw : g < w0.heap.size := Nat.lt_of_lt_of_le hg zB.size
    clear zB
    clear hSw
    go_simp
    all_goals (with_reducible rfl)
  simp only [Act.put, List.setIfInBounds_toArray, List.set_cons_zero, List.set_cons_succ]
  refine wpAnyH_take (i := 5) (oi := Oper.mk (some 30) _ _ _ _ _) (v := ?_) rfl (by kernel_rfl) (by kernel_rfl) (by kernel_rfl) (fun _ _ _ h => h) (Or.inl ⟨by rfl, ?_⟩) (by assumption) ?_
  rotate_left
  · intro w0 hSw
    clear hSw
    go_simp
    all_goals (with_reducible rfl)
  simp only [Act.put, List.setIfInBounds_toArray, List.set_cons_zero, List.set_cons_succ]
  refine wpAnyH_take (i := 6) (oi := Oper.mk (some 31) _ _ _ _ _) (v := ?_) rfl (by kernel_rfl) (by kernel_rfl) (by kernel_rfl) (fun _ _ _ h => h) (Or.inl ⟨by rfl, ?_⟩) (by assumption) ?_
  rotate_left
  · intro w0 hSw
    obtain ⟨⟨zl, z0, z5⟩, zB⟩ := id hSw
    clear hSw
    go_simp
    all_goals (with_reducible rfl)
  simp only [Act.put, List.setIfInBounds_toArray, List.set_cons_zero, List.set_cons_succ]
  refine wpAnyH_take (i := 7) (oi := Oper.mk (some 32) _ _ _ _ _) (v := ?_) rfl (by kernel_rfl) (by kernel_rfl) (by kernel_rfl) (fun _ _ _ h => h) (Or.inl ⟨by rfl, ?_⟩) (by assumption) ?_
  rotate_left
  · intro w0 hSw
    have hz1 : (1 : Int) < (k.len : Int) := by omega
    clear hSw
    go_simp
    all_goals (with_reducible rfl)
  simp only [Act.put, List.setIfInBounds_toArray, List.set_cons_zero, List.set_cons_succ]
  refine wpAnyH_take (i := 8) (oi := Oper.mk (some 33) _ _ _ _ _) (v := ?_) rfl (by kernel_rfl) (by kernel_rfl) (by kernel_rfl) (fun _ _ _ h => h) (Or.inl ⟨by rfl, ?_⟩) (by assumption) ?_
  rotate_left
  · intro w0 hSw
    have zB := hSw.2
    obtain ⟨x0, x1, x2, x3, x4, x5, _⟩ := HNB.out.later zB hg
    have hgw : g < w0.heap.size := Nat.lt_of_lt_of_le hg zB.size
    clear zB
    clear hSw
    go_simp
    all_goals (with_reducible rfl)
  simp only [Act.put, List.setIfInBounds_toArray, List.set_cons_zero, List.set_cons_succ]
  refine wpAnyH_ready (rs := [4]) (by kernel_rfl) (by simp) ?_
  refine AllReadyH.cons (o := Oper.mk (some 29) _ _ _ _ _) rfl (fun K hK => ?_) AllReadyH.nil
  go_simp
  refine (HCA.out _ (And.right hHeld)).mono ?_
  rintro ewa wa ⟨f1, rfl, hAs, hBw⟩
  have HA1 := hide hAs
  have hHeld_wa := EP.later hHeld hBw
  clear hBw hAs
  go_wp2_with fail
  refine hK.out _ _ hHeld_wa (fun hHeld9 => ?_)
  clear hK K
  (try simp only [Act.put, List.setIfInBounds_toArray, List.set_cons_zero, List.set_cons_succ])
  clear hHeld9
  refine wpAnyH_ready (rs := [9]) (by kernel_rfl) (by simp) ?_
  refine AllReadyH.cons (o := Oper.mk (some 34) _ _ _ _ _) rfl (fun K hK => ?_) AllReadyH.nil
  go_simp
  refine (HCB.out _ (And.right hHeld_wa)).mono ?_
  rintro ewb wb ⟨f2, rfl, hAs, hBw⟩
  have HA2 := hide hAs
  replace HA1 := hide (HA1.out.later hBw)
  have hHeld_wb := EP.later hHeld_wa hBw
  clear hBw hAs
  go_wp2_with fail
  refine hK.out _ _ hHeld_wb (fun hHeld9 => ?_)
  clear hK K
  (try simp only [Act.put, List.setIfInBounds_toArray, List.set_cons_zero, List.set_cons_succ])
  refine wpAnyH_take (i := 10) (oi := Oper.mk (some 3) _ _ _ _ _) (v := ?_) rfl (by kernel_rfl) (by kernel_rfl) (by kernel_rfl) (fun _ _ _ h => h) (Or.inl ⟨by rfl, ?_⟩) (by assumption) ?_
  rotate_left
  · intro w0 hSw
    clear hSw
    go_simp
    all_goals (with_reducible rfl)
  simp only [Act.put, List.setIfInBounds_toArray, List.set_cons_zero, List.set_cons_succ]
  refine wpAnyH_take (i := 11) (oi := Oper.mk (some 4) _ _ _ _ _) (v := ?_) rfl (by kernel_rfl) (by kernel_rfl) (by kernel_rfl) (fun _ _ _ h => h) (Or.inl ⟨by rfl, ?_⟩) (by assumption) ?_
  rotate_left
  · intro w0 hSw
    clear hSw
    go_simp
    all_goals (with_reducible rfl)
  simp only [Act.put, List.setIfInBounds_toArray, List.set_cons_zero, List.set_cons_succ]
  refine wpAnyH_done (by kernel_rfl) ?_ _
  refine NoPanic.normal ?_
  have HE2 := hide hHeld_wb
  have HE2b := hide (And.right hHeld_wb)
  clear hHeld hHeld_wa hHeld_wb hHeld9 HE HCA HCB HND HNB
  obtain ⟨⟨hb0, p0, p5⟩, _⟩ := HE2.out
  have HQ := hide (HU.out f1 f2 _ HA1.out HA2.out)
  go_wp2_with fail
  refine HQ.out.mono ?_
  rintro e w9 ⟨f9, rfl, hA9, hB9⟩
  have HA9 := hide hA9
  have HB9 := hide (HE2b.out.trans (hB9.mono HE2b.out.size))
  clear hA9 hB9 HQ HE2 hb0 p0 p5
  go_wp2
  go_ret
  exact ⟨_, rfl, HA9.out, HB9.out⟩
set_option maxRecDepth 100000 in
set_option maxHeartbeats 6400000 in
theorem mk_both (nk : Int) (hk : 3 ≤ nk ∧ nk ≤ 7) (vt nm : ByteArray) (k : Fo) (v : Value) (w : World) (hr : RowAt 0 w k v) (na : Nd) (ka : Fo) (ga : k.get 0 = some (na, ka)) (ca : MPart na ka w) (hga : Good (fun L => Pl.ev L na ka)) (nb : Nd) (kb : Fo) (gb : k.get 1 = some (nb, kb)) (cb : MPart nb kb w) (hgb : Good (fun L => Pl.ev L nb kb)) :
    Calls Tryz.prog 58 #[ndV ⟨nk, 0, 0, vt, nm⟩ v] w fun e w' => ∃ f, e = .returned f ∧ Asks w' f (fun L => Pl.opA nk (Pl.ev L na ka) (Pl.ev L nb kb)) ∧ Below w.heap.size w w' := by
  have HR := hide hr
  obtain ⟨ad, cap, rfl, hc, hm, hx⟩ := hr
  unfold maxLen at hm
  obtain ⟨g, off, va, rfl, hi, hg, hnd⟩ := part_at HR.out ga
  obtain ⟨g', off', vb, he', hi1, hg', hnb⟩ := part_at HR.out gb
  obtain ⟨rfl, rfl⟩ : g = g' ∧ off = off' := by cases he'; exact ⟨rfl, rfl⟩
  rw [show off + 0 * 6 = off by omega] at hnd
  rw [show off + 1 * 6 = off + 6 by omega] at hnb
  have HND := hide hnd
  have HNB := hide hnb
  have HCA := hide (fun W (hB : Below w.heap.size w W) => ca va W hB (hnd.2.2.2.2.2.2.later hB))
  have HCB := hide (fun W (hB : Below w.heap.size w W) => cb vb W hB (hnb.2.2.2.2.2.2.later hB))
  obtain ⟨aa, cpa, rfl, _⟩ := hnd.2.2.2.2.2.2
  obtain ⟨ab, cpb, rfl, _⟩ := hnb.2.2.2.2.2.2
  have HW := hide (fun W => exprWork_any nk hk W)
  have HU := hide (fun fw fa fb W (h0 : WorkAt W fw nk) (h1 : Asks W fa (fun L => Pl.ev L na ka)) (h2 : Asks W fb (fun L => Pl.ev L nb kb)) => askBoth_any nk hk fw fa fb _ _ hga hgb W h0 h1 h2)
  have q1 : (nk == 1) = false := by simp; omega
  have q2 : (nk == 2) = false := by simp; omega
  have q8 : (nk == 8) = false := by simp; omega
  have q9 : (nk == 9) = false := by simp; omega
  have q10 : (nk == 10) = false := by simp; omega
  clear hk
  have HE := hide (EP.drew (EP.start (w := w) (v := .slice (some ⟨g, off, none⟩) k.len cap) (nk := nk) (x1 := .int .i64 0) (x2 := .int .i64 0) (x3 := .string vt) (x4 := .string nm)))
  clear hx hga hgb he' hnd hnb
  go_enter Tryz.func58, Tryz.ntmps58
  go_wp2_with fail
  refine wp_region_noPanic ?_
  refine wp_region_held_drew (S := EP w (.slice (some ⟨g, off, none⟩) k.len cap) nk) (by kernel_rfl) HE.out (fun hHeld => ?_)
  refine wpAnyH_take (i := 0) (oi := Oper.mk (some 25) _ _ _ _ _) (v := ?_) rfl (by kernel_rfl) (by kernel_rfl) (by kernel_rfl) (fun _ _ _ h => h) (Or.inl ⟨by rfl, ?_⟩) (by assumption) ?_
  rotate_left
  · intro w0 hSw
    clear hSw
    go_simp
    all_goals (with_reducible rfl)
  simp only [Act.put, List.setIfInBounds_toArray, List.set_cons_zero, List.set_cons_succ]
  refine wpAnyH_take (i := 1) (oi := Oper.mk (some 26) _ _ _ _ _) (v := ?_) rfl (by kernel_rfl) (by kernel_rfl) (by kernel_rfl) (fun _ _ _ h => h) (Or.inl ⟨by rfl, ?_⟩) (by assumption) ?_
  rotate_left
  · intro w0 hSw
    obtain ⟨⟨zl, z0, z5⟩, zB⟩ := id hSw
    clear hSw
    go_simp
    all_goals (with_reducible rfl)
  simp only [Act.put, List.setIfInBounds_toArray, List.set_cons_zero, List.set_cons_succ]
  refine wpAnyH_take (i := 2) (oi := Oper.mk (some 27) _ _ _ _ _) (v := ?_) rfl (by kernel_rfl) (by kernel_rfl) (by kernel_rfl) (fun _ _ _ h => h) (Or.inl ⟨by rfl, ?_⟩) (by assumption) ?_
  rotate_left
  · intro w0 hSw
    clear hSw
    go_simp
    all_goals (with_reducible rfl)
  simp only [Act.put, List.setIfInBounds_toArray, List.set_cons_zero, List.set_cons_succ]
  refine wpAnyH_take (i := 3) (oi := Oper.mk (some 28) _ _ _ _ _) (v := ?_) rfl (by kernel_rfl) (by kernel_rfl) (by kernel_rfl) (fun _ _ _ h => h) (Or.inl ⟨by rfl, ?_⟩) (by assumption) ?_
  rotate_left
  · intro w0 hSw
    have zB := hSw.2
    obtain ⟨d0, d1, d2, d3, d4, d5, _⟩ := HND.out.later zB hg
    have hgw : g < w0.heap.size := Nat.lt_of_lt_of_le hg zB.size
    clear zB
    clear hSw
    go_simp
    all_goals (with_reducible rfl)
  simp only [Act.put, List.setIfInBounds_toArray, List.set_cons_zero, List.set_cons_succ]
  refine wpAnyH_take (i := 5) (oi := Oper.mk (some 30) _ _ _ _ _) (v := ?_) rfl (by kernel_rfl) (by kernel_rfl) (by kernel_rfl) (fun _ _ _ h => h) (Or.inl ⟨by rfl, ?_⟩) (by assumption) ?_
  rotate_left
  · intro w0 hSw
    clear hSw
    go_simp
    all_goals (with_reducible rfl)
  simp only [Act.put, List.setIfInBounds_toArray, List.set_cons_zero, List.set_cons_succ]
  refine wpAnyH_take (i := 6) (oi := Oper.mk (some 31) _ _ _ _ _) (v := ?_) rfl (by kernel_rfl) (by kernel_rfl) (by kernel_rfl) (fun _ _ _ h => h) (Or.inl ⟨by rfl, ?_⟩) (by assumption) ?_
  rotate_left
  · intro w0 hSw
    obtain ⟨⟨zl, z0, z5⟩, zB⟩ := id hSw
    clear hSw
    go_simp
    all_goals (with_reducible rfl)
  simp only [Act.put, List.setIfInBounds_toArray, List.set_cons_zero, List.set_cons_succ]
  refine wpAnyH_take (i := 7) (oi := Oper.mk (some 32) _ _ _ _ _) (v := ?_) rfl (by kernel_rfl) (by kernel_rfl) (by kernel_rfl) (fun _ _ _ h => h) (Or.inl ⟨by rfl, ?_⟩) (by assumption) ?_
  rotate_left
  · intro w0 hSw
    have hz1 : (1 : Int) < (k.len : Int) := by omega
    clear hSw
    go_simp
    all_goals (with_reducible rfl)
  simp only [Act.put, List.setIfInBounds_toArray, List.set_cons_zero, List.set_cons_succ]
  refine wpAnyH_take (i := 8) (oi := Oper.mk (some 33) _ _ _ _ _) (v := ?_) rfl (by kernel_rfl) (by kernel_rfl) (by kernel_rfl) (fun _ _ _ h => h) (Or.inl ⟨by rfl, ?_⟩) (by assumption) ?_
  rotate_left
  · intro w0 hSw
    have zB := hSw.2
    obtain ⟨x0, x1, x2, x3, x4, x5, _⟩ := HNB.out.later zB hg
    have hgw : g < w0.heap.size := Nat.lt_of_lt_of_le hg zB.size
    clear zB
    clear hSw
    go_simp
    all_goals (with_reducible rfl)
  simp only [Act.put, List.setIfInBounds_toArray, List.set_cons_zero, List.set_cons_succ]
  refine wpAnyH_ready (rs := [4]) (by kernel_rfl) (by simp) ?_
  refine AllReadyH.cons (o := Oper.mk (some 29) _ _ _ _ _) rfl (fun K hK => ?_) AllReadyH.nil
  go_simp
  refine (HCA.out _ (And.right hHeld)).mono ?_
  rintro ewa wa ⟨f1, rfl, hAs, hBw⟩
  have HA1 := hide hAs
  have hHeld_wa := EP.later hHeld hBw
  clear hBw hAs
  go_wp2_with fail
  refine hK.out _ _ hHeld_wa (fun hHeld9 => ?_)
  clear hK K
  (try simp only [Act.put, List.setIfInBounds_toArray, List.set_cons_zero, List.set_cons_succ])
  clear hHeld9
  refine wpAnyH_ready (rs := [9]) (by kernel_rfl) (by simp) ?_
  refine AllReadyH.cons (o := Oper.mk (some 34) _ _ _ _ _) rfl (fun K hK => ?_) AllReadyH.nil
  go_simp
  refine (HCB.out _ (And.right hHeld_wa)).mono ?_
  rintro ewb wb ⟨f2, rfl, hAs, hBw⟩
  have HA2 := hide hAs
  replace HA1 := hide (HA1.out.later hBw)
  have hHeld_wb := EP.later hHeld_wa hBw
  clear hBw hAs
  go_wp2_with fail
  refine hK.out _ _ hHeld_wb (fun hHeld9 => ?_)
  clear hK K
  (try simp only [Act.put, List.setIfInBounds_toArray, List.set_cons_zero, List.set_cons_succ])
  refine wpAnyH_take (i := 10) (oi := Oper.mk (some 3) _ _ _ _ _) (v := ?_) rfl (by kernel_rfl) (by kernel_rfl) (by kernel_rfl) (fun _ _ _ h => h) (Or.inl ⟨by rfl, ?_⟩) (by assumption) ?_
  rotate_left
  · intro w0 hSw
    clear hSw
    go_simp
    all_goals (with_reducible rfl)
  simp only [Act.put, List.setIfInBounds_toArray, List.set_cons_zero, List.set_cons_succ]
  refine wpAnyH_take (i := 11) (oi := Oper.mk (some 4) _ _ _ _ _) (v := ?_) rfl (by kernel_rfl) (by kernel_rfl) (by kernel_rfl) (fun _ _ _ h => h) (Or.inl ⟨by rfl, ?_⟩) (by assumption) ?_
  rotate_left
  · intro w0 hSw
    clear hSw
    go_simp
    all_goals (with_reducible rfl)
  simp only [Act.put, List.setIfInBounds_toArray, List.set_cons_zero, List.set_cons_succ]
  refine wpAnyH_done (by kernel_rfl) ?_ _
  refine NoPanic.normal ?_
  have HE2 := hide hHeld_wb
  have HE2b := hide (And.right hHeld_wb)
  clear hHeld hHeld_wa hHeld_wb hHeld9 HE HCA HCB HND HNB
  obtain ⟨⟨hb0, p0, p5⟩, _⟩ := HE2.out
  go_wp2_with fail
  refine (HW.out _).mono ?_
  rintro e w8 ⟨fw, rfl, hW8, hB8⟩
  have HQ := hide (HU.out fw f1 f2 _ hW8 (HA1.out.later hB8) (HA2.out.later hB8))
  have HB8 := hide (HE2b.out.trans (hB8.mono HE2b.out.size))
  clear hW8 hB8 HW HE2 hb0 p0 p5
  go_wp2_with fail
  refine HQ.out.mono ?_
  rintro e w9 ⟨f9, rfl, hA9, hB9⟩
  have HA9 := hide hA9
  have HB9 := hide (HB8.out.trans (hB9.mono HB8.out.size))
  clear hA9 hB9 HQ
  go_wp2
  go_ret
  exact ⟨_, rfl, HA9.out, HB9.out⟩
end Go.Proofs.YtiffgomkhoalpaaGreatDoor

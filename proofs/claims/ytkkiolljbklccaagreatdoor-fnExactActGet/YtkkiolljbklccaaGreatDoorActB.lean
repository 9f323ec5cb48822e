/- An act written, as both have it. -/
import Derived.Test.YtkkiolljbklccaaGreatDoorActA
import Derived.Test.YtkkiolljbklccaaGreatDoorShJoin
import Derived.Test.YtkkiolljbklccaaGreatDoorAct3
import Derived.Test.YtkkiolljbklccaaGreatDoorAct4
namespace Go.Proofs.YtkkiolljbklccaaGreatDoor
open Go.RowKit
set_option linter.unusedVariables false
set_option linter.unusedSimpArgs false
theorem itoa_any (n : Int) (h0 : -9223372036854775808 ≤ n) (h1 : n ≤ 9223372036854775807) (w : World) (ht : Tab w) :
    Calls Tryz.prog 23 #[.int .i64 n] w fun e w' => e = .returned (.string (Pl.bs (Lib.itoa n))) ∧ Below w.heap.size w w' := by
  refine (Tryz.strconv_Itoa n h0 h1 w ht).mono ?_
  rintro e w1 ⟨rfl, k, os, rfl⟩
  exact ⟨rfl, Lib.below_grow _ w (Nat.le_refl _) k os⟩
set_option maxHeartbeats 400000 in
theorem okWord_any (o : Bool) (w : World) :
    Calls Tryz.prog 24 #[.bool o] w fun e w' => e = .returned (.string (Pl.bs (Pl.okL o))) ∧ Below w.heap.size w w' := by
  cases o
  all_goals
    go_enter Tryz.func24, Tryz.ntmps24
    go_wp2
    go_ret
    exact ⟨rfl, by first | exact Below.refl _ _ | exact (Below.refl _ _).alloc (Nat.le_refl _) _⟩
theorem okB_range {k n : Int} {t : ByteArray} (h : Pl.okB k n t = true) : -1000000000 ≤ n ∧ n ≤ 1000000000 := by
  unfold Pl.okB at h
  split at h
  · simp at h; omega
  · split at h
    · simp at h; omega
    · split at h
      · simp at h; omega
      · cases h
theorem join7 (a b c d e f g : List UInt8) : Lib.join [a, b, c, d, e, f, g] [32] = ((((((((((((a ++ [32]) ++ b) ++ [32]) ++ c) ++ [32]) ++ d) ++ [32]) ++ e) ++ [32]) ++ f) ++ [32]) ++ g) := by
  simp [Lib.join, List.intercalate]
/-- an act's line, or the empty text -/
def Pl.actP (k r p : Int) (nm : ByteArray) (o : Bool) (vk vn : Int) (vt : ByteArray) (m : Int) : List UInt8 := if Pl.actB k r p nm o vk vn vt m = true then Pl.actT k r p nm o vk vn vt m else []
theorem seven_cells {V : World} {T : TypeId} (a b c d e f g : ByteArray) : ∀ (j : Nat) x, [a, b, c, d, e, f, g][j]? = some x → (V.alloc (.cells #[.string a, .string b, .string c, .string d, .string e, .string f, .string g] T)).cell? ⟨V.heap.size, 0 + j, none⟩ = some (.string x) := fun j x hx => by
  rw [World.cell?_alloc_at _ _ _ _ rfl, Nat.zero_add]
  match j, hx with
  | 0, hx => obtain rfl : a = x := by simpa using hx
             rfl
  | 1, hx => obtain rfl : b = x := by simpa using hx
             rfl
  | 2, hx => obtain rfl : c = x := by simpa using hx
             rfl
  | 3, hx => obtain rfl : d = x := by simpa using hx
             rfl
  | 4, hx => obtain rfl : e = x := by simpa using hx
             rfl
  | 5, hx => obtain rfl : f = x := by simpa using hx
             rfl
  | 6, hx => obtain rfl : g = x := by simpa using hx
             rfl
  | j + 7, hx => simp at hx
set_option maxRecDepth 100000 in
set_option maxHeartbeats 3200000 in
theorem implActPut_any (k r p : Int) (nm : ByteArray) (o : Bool) (vk vn : Int) (vt : ByteArray) (m : Int) (hn : nm.size ≤ 1048576) (ht : vt.size ≤ 1048576) (w : World) (hTT : Tab w) :
    Calls Tryz.prog 10 #[actV k r p nm o vk vn vt m] w fun x w' => x = .returned (.string (Pl.bs (Pl.actP k r p nm o vk vn vt m))) ∧ Below w.heap.size w w' := by
  have hT0 := hide hTT
  have hok := hide (implActOk_any k r p nm o vk vn vt m (by unfold maxLen; omega) (by unfold maxLen; omega))
  cases hb : Pl.actB k r p nm o vk vn vt m
  · rw [hb] at hok
    have HE : Hid (Pl.actP k r p nm o vk vn vt m = []) := by show _ = _; unfold Pl.actP; rw [hb]; rfl
    clear hb
    go_enter Tryz.func10, Tryz.ntmps10
    go_wp2_with fail
    refine (hok.out _).mono ?_
    rintro x1 X1 ⟨rfl, hB1⟩
    have HB1 := hide (below_box1 hB1)
    clear hB1
    go_wp2_with fail
    go_ret
    exact ⟨by rw [HE.out]; rfl, HB1.out⟩
  · rw [hb] at hok
    obtain ⟨⟨k0, k1⟩, ⟨r0, r1⟩, ⟨p0, p1⟩, ⟨m0, m1⟩, hvo⟩ := act_parts hb
    obtain ⟨h0, h1⟩ := okB_range hvo
    have hk := hide (itoa_any k (by omega) (by omega))
    have hr := hide (itoa_any r (by omega) (by omega))
    have hp := hide (itoa_any p (by omega) (by omega))
    have hm := hide (itoa_any m (by omega) (by omega))
    have ho := hide (okWord_any o)
    have hv := hide (fun W hW => implValuePut_any vk vn vt (by omega) (by omega) (by omega) W hW)
    have HV : Hid (Pl.putB vk vn vt = Pl.putV vk vn vt) := by show _ = _; unfold Pl.putB; rw [if_pos hvo]
    rw [HV.out] at hv
    have ztk := itoa_short (n := k) (by omega) (by omega)
    have ztr := itoa_short r0 (by omega)
    have ztp := itoa_short p0 p1
    have ztm := itoa_short m0 m1
    have ztv := putV_short vk vn vt hvo ht
    have zto : (Pl.bs (Pl.okL o)).size ≤ 2 := by rw [Pl.bs_size]; unfold Pl.okL; split <;> simp
    have hj : Hid (∀ (bk : Nat) (W : World), (∀ (j : Nat) x, [Pl.bs (Lib.itoa k), Pl.bs (Lib.itoa r), Pl.bs (Lib.itoa p), nm, Pl.bs (Pl.okL o), Pl.bs (Lib.itoa m), Pl.bs (Pl.putV vk vn vt)][j]? = some x → W.cell? ⟨bk, 0 + j, none⟩ = some (.string x)) → bk < W.heap.size →
        Calls Tryz.prog 26 #[.slice (some ⟨bk, 0, none⟩) 7 7, .string ⟨#[32]⟩] W fun e w' => e = .returned (.string (Pl.bs (Pl.actT k r p nm o vk vn vt m))) ∧ Below W.heap.size W w') := fun bk W hc hb => by
      have hjl : Lib.join ([Pl.bs (Lib.itoa k), Pl.bs (Lib.itoa r), Pl.bs (Lib.itoa p), nm, Pl.bs (Pl.okL o), Pl.bs (Lib.itoa m), Pl.bs (Pl.putV vk vn vt)].map (·.data.toList)) (⟨#[32]⟩ : ByteArray).data.toList = Pl.actT k r p nm o vk vn vt m := join7 _ _ _ _ _ _ _
      have h := Tryz.strings_Join bk 0 7 [Pl.bs (Lib.itoa k), Pl.bs (Lib.itoa r), Pl.bs (Lib.itoa p), nm, Pl.bs (Pl.okL o), Pl.bs (Lib.itoa m), Pl.bs (Pl.putV vk vn vt)] ⟨#[32]⟩ W hc hb (by simp) (by simp) (by
        rw [hjl]
        rw [Pl.bs_size] at ztk ztr ztp ztm ztv zto
        have hnm : nm.data.toList.length = nm.size := by simp
        simp only [Pl.actT, List.length_append, List.length_cons, List.length_nil]
        omega)
      rw [hjl] at h
      exact h
    have HE : Hid (Pl.actP k r p nm o vk vn vt m = Pl.actT k r p nm o vk vn vt m) := by show _ = _; unfold Pl.actP; rw [if_pos hb]
    generalize Pl.actT k r p nm o vk vn vt m = AT at *
    generalize Pl.bs (Lib.itoa k) = tk at *
    generalize Pl.bs (Lib.itoa r) = tr at *
    generalize Pl.bs (Lib.itoa p) = tp at *
    generalize Pl.bs (Lib.itoa m) = tm at *
    generalize Pl.bs (Pl.putV vk vn vt) = tv at *
    generalize Pl.bs (Pl.okL o) = to at *
    clear hvo hb h0 h1 k0 k1 r0 r1 p0 p1 m0 m1 HV hTT ztk ztr ztp ztm ztv zto
    go_enter Tryz.func10, Tryz.ntmps10
    go_wp2_with fail
    refine (hok.out _).mono ?_
    rintro x1 X1 ⟨rfl, hB1⟩
    have HX1 := hide (BoxNine.mk hB1)
    have HB1 := hide (below_box1 hB1)
    clear hB1 hok
    go_wp2_with fail
    refine act_code (fun X => BoxNine w.heap.size (.int .i64 k) (.int .i64 r) (.int .i64 p) (.string nm) (.bool o) (.int .i64 vk) (.int .i64 vn) (.string vt) (.int .i64 m) X ∧ Below w.heap.size w X) ⟨HX1.out, HB1.out⟩ ?_
    rintro X ⟨⟨hlt, c0, c1, c2, c3, c4, c5, c6, c7, c8⟩, hXB⟩
    have hT := hT0.out.later hXB
    refine wp_region_noPanic ?_
    refine wp_region_held_drew (S := fun W => Below X.heap.size X W) (by kernel_rfl) (below_drew' (Below.refl _ _)) (fun hHeld => ?_)
    refine wpAnyH_take (i := 0) (oi := Oper.mk (some 7) _ _ _ _ _) (v := ?_) rfl (by kernel_rfl) (by kernel_rfl) (by kernel_rfl) (fun _ _ _ h => h) (Or.inl ⟨by rfl, ?_⟩) (by assumption) ?_
    rotate_left
    · intro w0 hSw
      clear hSw
      go_simp
      all_goals (with_reducible rfl)
    simp only [Act.put, List.setIfInBounds_toArray, List.set_cons_zero, List.set_cons_succ]
    refine wpAnyH_take (i := 1) (oi := Oper.mk (some 8) _ _ _ _ _) (v := ?_) rfl (by kernel_rfl) (by kernel_rfl) (by kernel_rfl) (fun _ _ _ h => h) (Or.inl ⟨by rfl, ?_⟩) (by assumption) ?_
    rotate_left
    · intro w0 hSw
      have z0 : w0.cell? ⟨w.heap.size, 0, none⟩ = some ((.int .i64 k : Value)) := (Below.cell hSw (p := ⟨w.heap.size, 0, none⟩) hlt).trans c0
      clear hSw
      go_simp
      all_goals (with_reducible rfl)
    simp only [Act.put, List.setIfInBounds_toArray, List.set_cons_zero, List.set_cons_succ]
    refine wpAnyH_take (i := 3) (oi := Oper.mk (some 10) _ _ _ _ _) (v := ?_) rfl (by kernel_rfl) (by kernel_rfl) (by kernel_rfl) (fun _ _ _ h => h) (Or.inl ⟨by rfl, ?_⟩) (by assumption) ?_
    rotate_left
    · intro w0 hSw
      clear hSw
      go_simp
      all_goals (with_reducible rfl)
    simp only [Act.put, List.setIfInBounds_toArray, List.set_cons_zero, List.set_cons_succ]
    refine wpAnyH_take (i := 4) (oi := Oper.mk (some 11) _ _ _ _ _) (v := ?_) rfl (by kernel_rfl) (by kernel_rfl) (by kernel_rfl) (fun _ _ _ h => h) (Or.inl ⟨by rfl, ?_⟩) (by assumption) ?_
    rotate_left
    · intro w0 hSw
      have z0 : w0.cell? ⟨w.heap.size, 1, none⟩ = some ((.int .i64 r : Value)) := (Below.cell hSw (p := ⟨w.heap.size, 1, none⟩) hlt).trans c1
      clear hSw
      go_simp
      all_goals (with_reducible rfl)
    simp only [Act.put, List.setIfInBounds_toArray, List.set_cons_zero, List.set_cons_succ]
    refine wpAnyH_take (i := 6) (oi := Oper.mk (some 13) _ _ _ _ _) (v := ?_) rfl (by kernel_rfl) (by kernel_rfl) (by kernel_rfl) (fun _ _ _ h => h) (Or.inl ⟨by rfl, ?_⟩) (by assumption) ?_
    rotate_left
    · intro w0 hSw
      clear hSw
      go_simp
      all_goals (with_reducible rfl)
    simp only [Act.put, List.setIfInBounds_toArray, List.set_cons_zero, List.set_cons_succ]
    refine wpAnyH_take (i := 7) (oi := Oper.mk (some 14) _ _ _ _ _) (v := ?_) rfl (by kernel_rfl) (by kernel_rfl) (by kernel_rfl) (fun _ _ _ h => h) (Or.inl ⟨by rfl, ?_⟩) (by assumption) ?_
    rotate_left
    · intro w0 hSw
      have z0 : w0.cell? ⟨w.heap.size, 2, none⟩ = some ((.int .i64 p : Value)) := (Below.cell hSw (p := ⟨w.heap.size, 2, none⟩) hlt).trans c2
      clear hSw
      go_simp
      all_goals (with_reducible rfl)
    simp only [Act.put, List.setIfInBounds_toArray, List.set_cons_zero, List.set_cons_succ]
    refine wpAnyH_take (i := 9) (oi := Oper.mk (some 16) _ _ _ _ _) (v := ?_) rfl (by kernel_rfl) (by kernel_rfl) (by kernel_rfl) (fun _ _ _ h => h) (Or.inl ⟨by rfl, ?_⟩) (by assumption) ?_
    rotate_left
    · intro w0 hSw
      clear hSw
      go_simp
      all_goals (with_reducible rfl)
    simp only [Act.put, List.setIfInBounds_toArray, List.set_cons_zero, List.set_cons_succ]
    refine wpAnyH_take (i := 10) (oi := Oper.mk (some 17) _ _ _ _ _) (v := ?_) rfl (by kernel_rfl) (by kernel_rfl) (by kernel_rfl) (fun _ _ _ h => h) (Or.inl ⟨by rfl, ?_⟩) (by assumption) ?_
    rotate_left
    · intro w0 hSw
      have z0 : w0.cell? ⟨w.heap.size, 3, none⟩ = some ((.string nm : Value)) := (Below.cell hSw (p := ⟨w.heap.size, 3, none⟩) hlt).trans c3
      clear hSw
      go_simp
      all_goals (with_reducible rfl)
    simp only [Act.put, List.setIfInBounds_toArray, List.set_cons_zero, List.set_cons_succ]
    refine wpAnyH_take (i := 11) (oi := Oper.mk (some 18) _ _ _ _ _) (v := ?_) rfl (by kernel_rfl) (by kernel_rfl) (by kernel_rfl) (fun _ _ _ h => h) (Or.inl ⟨by rfl, ?_⟩) (by assumption) ?_
    rotate_left
    · intro w0 hSw
      clear hSw
      go_simp
      all_goals (with_reducible rfl)
    simp only [Act.put, List.setIfInBounds_toArray, List.set_cons_zero, List.set_cons_succ]
    refine wpAnyH_take (i := 12) (oi := Oper.mk (some 19) _ _ _ _ _) (v := ?_) rfl (by kernel_rfl) (by kernel_rfl) (by kernel_rfl) (fun _ _ _ h => h) (Or.inl ⟨by rfl, ?_⟩) (by assumption) ?_
    rotate_left
    · intro w0 hSw
      have z0 : w0.cell? ⟨w.heap.size, 4, none⟩ = some ((.bool o : Value)) := (Below.cell hSw (p := ⟨w.heap.size, 4, none⟩) hlt).trans c4
      clear hSw
      go_simp
      all_goals (with_reducible rfl)
    simp only [Act.put, List.setIfInBounds_toArray, List.set_cons_zero, List.set_cons_succ]
    refine wpAnyH_take (i := 14) (oi := Oper.mk (some 21) _ _ _ _ _) (v := ?_) rfl (by kernel_rfl) (by kernel_rfl) (by kernel_rfl) (fun _ _ _ h => h) (Or.inl ⟨by rfl, ?_⟩) (by assumption) ?_
    rotate_left
    · intro w0 hSw
      clear hSw
      go_simp
      all_goals (with_reducible rfl)
    simp only [Act.put, List.setIfInBounds_toArray, List.set_cons_zero, List.set_cons_succ]
    refine wpAnyH_take (i := 15) (oi := Oper.mk (some 22) _ _ _ _ _) (v := ?_) rfl (by kernel_rfl) (by kernel_rfl) (by kernel_rfl) (fun _ _ _ h => h) (Or.inl ⟨by rfl, ?_⟩) (by assumption) ?_
    rotate_left
    · intro w0 hSw
      have z0 : w0.cell? ⟨w.heap.size, 8, none⟩ = some ((.int .i64 m : Value)) := (Below.cell hSw (p := ⟨w.heap.size, 8, none⟩) hlt).trans c8
      clear hSw
      go_simp
      all_goals (with_reducible rfl)
    simp only [Act.put, List.setIfInBounds_toArray, List.set_cons_zero, List.set_cons_succ]
    refine wpAnyH_take (i := 17) (oi := Oper.mk (some 24) _ _ _ _ _) (v := ?_) rfl (by kernel_rfl) (by kernel_rfl) (by kernel_rfl) (fun _ _ _ h => h) (Or.inl ⟨by rfl, ?_⟩) (by assumption) ?_
    rotate_left
    · intro w0 hSw
      clear hSw
      go_simp
      all_goals (with_reducible rfl)
    simp only [Act.put, List.setIfInBounds_toArray, List.set_cons_zero, List.set_cons_succ]
    refine wpAnyH_take (i := 18) (oi := Oper.mk (some 25) _ _ _ _ _) (v := ?_) rfl (by kernel_rfl) (by kernel_rfl) (by kernel_rfl) (fun _ _ _ h => h) (Or.inl ⟨by rfl, ?_⟩) (by assumption) ?_
    rotate_left
    · intro w0 hSw
      have z0 : w0.cell? ⟨w.heap.size, 5, none⟩ = some ((.int .i64 vk : Value)) := (Below.cell hSw (p := ⟨w.heap.size, 5, none⟩) hlt).trans c5
      have z1 : w0.cell? ⟨w.heap.size, 6, none⟩ = some ((.int .i64 vn : Value)) := (Below.cell hSw (p := ⟨w.heap.size, 6, none⟩) hlt).trans c6
      have z2 : w0.cell? ⟨w.heap.size, 7, none⟩ = some ((.string vt : Value)) := (Below.cell hSw (p := ⟨w.heap.size, 7, none⟩) hlt).trans c7
      clear hSw
      go_simp
      all_goals (with_reducible rfl)
    simp only [Act.put, List.setIfInBounds_toArray, List.set_cons_zero, List.set_cons_succ]
    refine wpAnyH_ready (rs := [2]) (by kernel_rfl) (by simp) ?_
    refine AllReadyH.cons (o := Oper.mk (some 9) _ _ _ _ _) rfl (fun K hK => ?_) AllReadyH.nil
    go_simp
    go_at_call 23
    refine (hk.out _ (hT.later hHeld)).mono ?_
    rintro x0 w0 ⟨rfl, hB0⟩
    have hHeld' := Below.trans hHeld (hB0.mono hHeld.size)
    clear hB0 hHeld
    go_wp2_with fail
    refine hK.out _ _ hHeld' (fun hHeld => ?_)
    clear hK K hHeld'
    (try simp only [Act.put, List.setIfInBounds_toArray, List.set_cons_zero, List.set_cons_succ])
    refine wpAnyH_ready (rs := [5]) (by kernel_rfl) (by simp) ?_
    refine AllReadyH.cons (o := Oper.mk (some 12) _ _ _ _ _) rfl (fun K hK => ?_) AllReadyH.nil
    go_simp
    go_at_call 23
    refine (hr.out _ (hT.later hHeld)).mono ?_
    rintro x0 w0 ⟨rfl, hB0⟩
    have hHeld' := Below.trans hHeld (hB0.mono hHeld.size)
    clear hB0 hHeld
    go_wp2_with fail
    refine hK.out _ _ hHeld' (fun hHeld => ?_)
    clear hK K hHeld'
    (try simp only [Act.put, List.setIfInBounds_toArray, List.set_cons_zero, List.set_cons_succ])
    refine wpAnyH_ready (rs := [8]) (by kernel_rfl) (by simp) ?_
    refine AllReadyH.cons (o := Oper.mk (some 15) _ _ _ _ _) rfl (fun K hK => ?_) AllReadyH.nil
    go_simp
    go_at_call 23
    refine (hp.out _ (hT.later hHeld)).mono ?_
    rintro x0 w0 ⟨rfl, hB0⟩
    have hHeld' := Below.trans hHeld (hB0.mono hHeld.size)
    clear hB0 hHeld
    go_wp2_with fail
    refine hK.out _ _ hHeld' (fun hHeld => ?_)
    clear hK K hHeld'
    (try simp only [Act.put, List.setIfInBounds_toArray, List.set_cons_zero, List.set_cons_succ])
    refine wpAnyH_ready (rs := [13]) (by kernel_rfl) (by simp) ?_
    refine AllReadyH.cons (o := Oper.mk (some 20) _ _ _ _ _) rfl (fun K hK => ?_) AllReadyH.nil
    go_simp
    go_at_call 24
    refine (ho.out _).mono ?_
    rintro x0 w0 ⟨rfl, hB0⟩
    have hHeld' := Below.trans hHeld (hB0.mono hHeld.size)
    clear hB0 hHeld
    go_wp2_with fail
    refine hK.out _ _ hHeld' (fun hHeld => ?_)
    clear hK K hHeld'
    (try simp only [Act.put, List.setIfInBounds_toArray, List.set_cons_zero, List.set_cons_succ])
    refine wpAnyH_ready (rs := [16]) (by kernel_rfl) (by simp) ?_
    refine AllReadyH.cons (o := Oper.mk (some 23) _ _ _ _ _) rfl (fun K hK => ?_) AllReadyH.nil
    go_simp
    go_at_call 23
    refine (hm.out _ (hT.later hHeld)).mono ?_
    rintro x0 w0 ⟨rfl, hB0⟩
    have hHeld' := Below.trans hHeld (hB0.mono hHeld.size)
    clear hB0 hHeld
    go_wp2_with fail
    refine hK.out _ _ hHeld' (fun hHeld => ?_)
    clear hK K hHeld'
    (try simp only [Act.put, List.setIfInBounds_toArray, List.set_cons_zero, List.set_cons_succ])
    refine wpAnyH_ready (rs := [19]) (by kernel_rfl) (by simp) ?_
    refine AllReadyH.cons (o := Oper.mk (some 26) _ _ _ _ _) rfl (fun K hK => ?_) AllReadyH.nil
    go_simp
    go_at_call 25
    refine (hv.out _ (hT.later hHeld)).mono ?_
    rintro x0 Y ⟨rfl, hB0⟩
    have hHeld' := Below.trans hHeld (hB0.mono hHeld.size)
    clear hB0 hHeld
    go_wp2_with fail
    refine hK.out _ _ hHeld' (fun hHeld => ?_)
    clear hK K hHeld'
    (try simp only [Act.put, List.setIfInBounds_toArray, List.set_cons_zero, List.set_cons_succ])
    refine wpAnyH_ready (rs := [20]) (by kernel_rfl) (by simp) ?_
    refine AllReadyH.cons (o := Oper.mk (some 27) _ _ _ _ _) rfl (fun K hK => ?_) AllReadyH.nil
    go_simp
    refine hK.out _ _ (hHeld.alloc hHeld.size _) (fun hHeld2 => ?_)
    clear hK K
    (try simp only [Act.put, List.setIfInBounds_toArray, List.set_cons_zero, List.set_cons_succ])
    refine wpAnyH_take (i := 21) (oi := Oper.mk (some 3) _ _ _ _ _) (v := ?_) rfl (by kernel_rfl) (by kernel_rfl) (by kernel_rfl) (fun _ _ _ h => h) (Or.inl ⟨by rfl, ?_⟩) (by assumption) ?_
    rotate_left
    · intro w0 hSw
      clear hSw
      go_simp
      all_goals (with_reducible rfl)
    simp only [Act.put, List.setIfInBounds_toArray, List.set_cons_zero, List.set_cons_succ]
    refine wpAnyH_done (by kernel_rfl) ?_ _
    refine NoPanic.normal ?_
    have HF := hide (hXB.trans (hHeld.mono hXB.size))
    clear hHeld hHeld2
    go_wp2_with fail
    refine (hj.out Y.heap.size _ (seven_cells tk tr tp nm to tm tv) (by simp)).mono ?_
    rintro x9 Y9 ⟨rfl, hB9⟩
    have HF9 := hide ((HF.out.alloc HF.out.size _).trans (hB9.mono (HF.out.alloc HF.out.size _).size))
    clear hB9
    go_wp2_with fail
    go_ret
    exact ⟨by rw [HE.out]; rfl, HF9.out⟩
set_option maxRecDepth 100000 in
set_option maxHeartbeats 1600000 in
theorem specActPut_any (k r p : Int) (nm : ByteArray) (o : Bool) (vk vn : Int) (vt : ByteArray) (m : Int) (hn : nm.size ≤ 1048576) (ht : vt.size ≤ 1048576) (w : World) :
    Calls Tryz.prog 8 #[actV k r p nm o vk vn vt m] w fun x w' => x = .returned (.string (Pl.bs (Pl.actP k r p nm o vk vn vt m))) ∧ Below w.heap.size w w' := by
  have hok := hide (specActOk_any k r p nm o vk vn vt m (by unfold maxLen; omega) (by unfold maxLen; omega))
  cases hb : Pl.actB k r p nm o vk vn vt m
  · rw [hb] at hok
    have HE : Hid (Pl.actP k r p nm o vk vn vt m = []) := by show _ = _; unfold Pl.actP; rw [hb]; rfl
    clear hb
    go_enter Tryz.func8, Tryz.ntmps8
    go_wp2_with fail
    refine (hok.out _).mono ?_
    rintro x1 X1 ⟨rfl, hB1⟩
    have HB1 := hide (below_box1 hB1)
    clear hB1
    go_wp2_with fail
    go_ret
    exact ⟨by rw [HE.out]; rfl, HB1.out⟩
  · rw [hb] at hok
    have hl := hide (l8Line_any k r p nm o vk vn vt m hb hn ht)
    have HE : Hid (Pl.actP k r p nm o vk vn vt m = Pl.actT k r p nm o vk vn vt m) := by show _ = _; unfold Pl.actP; rw [if_pos hb]
    generalize Pl.actT k r p nm o vk vn vt m = AT at *
    clear hb
    go_enter Tryz.func8, Tryz.ntmps8
    go_wp2_with fail
    refine (hok.out _).mono ?_
    rintro x1 X1 ⟨rfl, hB1⟩
    have HX1 := hide (BoxNine.mk hB1)
    have HB1 := hide (below_box1 hB1)
    clear hB1 hok
    obtain ⟨z1, c0, c1, c2, c3, c4, c5, c6, c7, c8⟩ := HX1.out
    go_wp2_with fail
    refine (hl.out _).mono ?_
    rintro x2 X2 ⟨rfl, hB2⟩
    have HB2 := hide (HB1.out.trans (hB2.mono HB1.out.size))
    clear hB2
    go_wp2_with fail
    go_ret
    exact ⟨by rw [HE.out]; rfl, HB2.out⟩
end Go.Proofs.YtkkiolljbklccaaGreatDoor

/- Joined: Act3 ActB PlCrc Crc1 Crc2 RecA. -/
import Derived.Test.YtbckbfjnifafaaaGreatDoorAct3k1
import Derived.Test.YtbckbfjnifafaaaGreatDoorAct3k2
import Derived.Test.YtbckbfjnifafaaaGreatDoorAct3k3
import Derived.Test.YtbckbfjnifafaaaGreatDoorAct3k4
import Derived.Test.YtbckbfjnifafaaaGreatDoorAct3k5
import Derived.Deep.RegionWith
import Derived.Deep.QuietTactic
import Derived.BigQuiet
import Derived.Test.YtbckbfjnifafaaaGreatDoorActA
import Derived.Test.YtbckbfjnifafaaaGreatDoorShJoin
import Derived.Test.YtbckbfjnifafaaaGreatDoorAct4
import Derived.Test.YtbckbfjnifafaaaGreatDoorPl
import Derived.Laws.BitsLemmas
import Derived.Test.YtbckbfjnifafaaaGreatDoorRows
import Derived.WalkKit
import Derived.WalkSpells
import Derived.WalkLawsBesides
/- An act, whether it is ok, as the program has it. -/
namespace Go.Proofs.YtbckbfjnifafaaaGreatDoor
open Go.RowKit
set_option linter.unusedVariables false
set_option linter.unusedSimpArgs false
set_option maxRecDepth 100000 in
set_option maxHeartbeats 3200000 in
theorem implAct_no (k r p : Int) (nm : ByteArray) (o : Bool) (vk vn : Int) (vt : ByteArray) (m : Int) (hk : ¬ (1 ≤ k ∧ k ≤ 5)) (w : World) :
    Calls Tryz.prog 58 #[actV k r p nm o vk vn vt m] w fun e w' => e = .returned (.bool false) ∧ Below w.heap.size w w' := by
  by_cases h1 : 1 ≤ k
  · have h2 : ¬ k ≤ 5 := fun h => hk ⟨h1, h⟩
    have d1 : decide (k ≥ 1) = true := decide_eq_true h1
    have d2 : decide (k ≤ 5) = false := decide_eq_false h2
    clear hk
    go_enter Tryz.func58, Tryz.ntmps58
    go_wp2_with fail
    go_quiet (fail)
    go_wp2
    go_ret
    exact ⟨rfl, below_drewN ((Below.refl _ _).alloc (Nat.le_refl _) _) _⟩
  · have d1 : decide (k ≥ 1) = false := decide_eq_false h1
    clear hk
    go_enter Tryz.func58, Tryz.ntmps58
    go_wp2_with fail
    go_quiet (fail)
    go_wp2
    go_ret
    exact ⟨rfl, below_drewN ((Below.refl _ _).alloc (Nat.le_refl _) _) _⟩
theorem implActOk_any (k r p : Int) (nm : ByteArray) (o : Bool) (vk vn : Int) (vt : ByteArray) (m : Int) (hn : nm.size ≤ maxLen) (ht : vt.size ≤ maxLen) (w : World) :
    Calls Tryz.prog 58 #[actV k r p nm o vk vn vt m] w fun e w' => e = .returned (.bool (Pl.actB k r p nm o vk vn vt m)) ∧ Below w.heap.size w w' := by
  by_cases hk : 1 ≤ k ∧ k ≤ 5
  · have : k = 1 ∨ k = 2 ∨ k = 3 ∨ k = 4 ∨ k = 5 := by omega
    rcases this with rfl | rfl | rfl | rfl | rfl
    · exact implAct_1 r p nm o vk vn vt m hn ht w
    · exact implAct_2 r p nm o vk vn vt m hn ht w
    · exact implAct_3 r p nm o vk vn vt m hn ht w
    · exact implAct_4 r p nm o vk vn vt m hn ht w
    · exact implAct_5 r p nm o vk vn vt m hn ht w
  · have : Pl.actB k r p nm o vk vn vt m = false := by
      unfold Pl.actB
      rw [if_neg (by omega), if_neg (by omega), if_neg (by omega), if_neg (by omega), if_neg (by omega)]
    rw [this]
    exact implAct_no k r p nm o vk vn vt m hk w
end Go.Proofs.YtbckbfjnifafaaaGreatDoor

/- An act written, as both have it. -/
namespace Go.Proofs.YtbckbfjnifafaaaGreatDoor
open Go.RowKit
set_option linter.unusedVariables false
set_option linter.unusedSimpArgs false
theorem itoa_any (n : Int) (h0 : -9223372036854775808 ≤ n) (h1 : n ≤ 9223372036854775807) (w : World) (ht : Tab w) :
    Calls Tryz.prog 72 #[.int .i64 n] w fun e w' => e = .returned (.string (Pl.bs (Lib.itoa n))) ∧ Below w.heap.size w w' := by
  refine (Tryz.strconv_Itoa n h0 h1 w ht).mono ?_
  rintro e w1 ⟨rfl, k, os, rfl⟩
  exact ⟨rfl, Lib.below_grow _ w (Nat.le_refl _) k os⟩
set_option maxHeartbeats 400000 in
theorem okWord_any (o : Bool) (w : World) :
    Calls Tryz.prog 95 #[.bool o] w fun e w' => e = .returned (.string (Pl.bs (Pl.okL o))) ∧ Below w.heap.size w w' := by
  cases o
  all_goals
    go_enter Tryz.func95, Tryz.ntmps95
    go_wp2
    go_ret
    exact ⟨rfl, by first | exact Below.refl _ _ | exact (Below.refl _ _).alloc (Nat.le_refl _) _⟩
theorem okB_range {k n : Int} {t : ByteArray} (h : Pl.okB k n t = true) : -1000000000 ≤ n ∧ n ≤ 1000000000 := by
  unfold Pl.okB at h
  split at h
  · simp at h; omega
  · split at h
    · simp at h; omega
    · split at h
      · simp at h; omega
      · cases h
theorem join7 (a b c d e f g : List UInt8) : Lib.join [a, b, c, d, e, f, g] [32] = ((((((((((((a ++ [32]) ++ b) ++ [32]) ++ c) ++ [32]) ++ d) ++ [32]) ++ e) ++ [32]) ++ f) ++ [32]) ++ g) := by
  simp [Lib.join, List.intercalate]
/-- an act's line, or the empty text -/
def Pl.actP (k r p : Int) (nm : ByteArray) (o : Bool) (vk vn : Int) (vt : ByteArray) (m : Int) : List UInt8 := if Pl.actB k r p nm o vk vn vt m = true then Pl.actT k r p nm o vk vn vt m else []
theorem seven_cells {V : World} {T : TypeId} (a b c d e f g : ByteArray) : ∀ (j : Nat) x, [a, b, c, d, e, f, g][j]? = some x → (V.alloc (.cells #[.string a, .string b, .string c, .string d, .string e, .string f, .string g] T)).cell? ⟨V.heap.size, 0 + j, none⟩ = some (.string x) := fun j x hx => by
  rw [World.cell?_alloc_at _ _ _ _ rfl, Nat.zero_add]
  match j, hx with
  | 0, hx => obtain rfl : a = x := by simpa using hx
             rfl
  | 1, hx => obtain rfl : b = x := by simpa using hx
             rfl
  | 2, hx => obtain rfl : c = x := by simpa using hx
             rfl
  | 3, hx => obtain rfl : d = x := by simpa using hx
             rfl
  | 4, hx => obtain rfl : e = x := by simpa using hx
             rfl
  | 5, hx => obtain rfl : f = x := by simpa using hx
             rfl
  | 6, hx => obtain rfl : g = x := by simpa using hx
             rfl
  | j + 7, hx => simp at hx
set_option maxRecDepth 100000 in
set_option maxHeartbeats 3200000 in
theorem implActPut_any (k r p : Int) (nm : ByteArray) (o : Bool) (vk vn : Int) (vt : ByteArray) (m : Int) (hn : nm.size ≤ 1048576) (ht : vt.size ≤ 1048576) (w : World) (hTT : Tab w) :
    Calls Tryz.prog 71 #[actV k r p nm o vk vn vt m] w fun x w' => x = .returned (.string (Pl.bs (Pl.actP k r p nm o vk vn vt m))) ∧ Below w.heap.size w w' := by
  have hT0 := hide hTT
  have hok := hide (implActOk_any k r p nm o vk vn vt m (by unfold maxLen; omega) (by unfold maxLen; omega))
  cases hb : Pl.actB k r p nm o vk vn vt m
  · rw [hb] at hok
    have HE : Hid (Pl.actP k r p nm o vk vn vt m = []) := by show _ = _; unfold Pl.actP; rw [hb]; rfl
    clear hb
    go_enter Tryz.func71, Tryz.ntmps71
    go_wp2_with fail
    refine (hok.out _).mono ?_
    rintro x1 X1 ⟨rfl, hB1⟩
    have HB1 := hide (below_box1 hB1)
    clear hB1
    go_wp2_with fail
    go_ret
    exact ⟨by rw [HE.out]; rfl, HB1.out⟩
  · rw [hb] at hok
    obtain ⟨⟨k0, k1⟩, ⟨r0, r1⟩, ⟨p0, p1⟩, ⟨m0, m1⟩, hvo⟩ := act_parts hb
    obtain ⟨h0, h1⟩ := okB_range hvo
    have hk := hide (itoa_any k (by omega) (by omega))
    have hr := hide (itoa_any r (by omega) (by omega))
    have hp := hide (itoa_any p (by omega) (by omega))
    have hm := hide (itoa_any m (by omega) (by omega))
    have ho := hide (okWord_any o)
    have hv := hide (fun W hW => implValuePut_any vk vn vt (by omega) (by omega) (by omega) W hW)
    have HV : Hid (Pl.putB vk vn vt = Pl.putV vk vn vt) := by show _ = _; unfold Pl.putB; rw [if_pos hvo]
    rw [HV.out] at hv
    have ztk := itoa_short (n := k) (by omega) (by omega)
    have ztr := itoa_short r0 (by omega)
    have ztp := itoa_short p0 p1
    have ztm := itoa_short m0 m1
    have ztv := putV_short vk vn vt hvo ht
    have zto : (Pl.bs (Pl.okL o)).size ≤ 2 := by rw [Pl.bs_size]; unfold Pl.okL; split <;> simp
    have hj : Hid (∀ (bk : Nat) (W : World), (∀ (j : Nat) x, [Pl.bs (Lib.itoa k), Pl.bs (Lib.itoa r), Pl.bs (Lib.itoa p), nm, Pl.bs (Pl.okL o), Pl.bs (Lib.itoa m), Pl.bs (Pl.putV vk vn vt)][j]? = some x → W.cell? ⟨bk, 0 + j, none⟩ = some (.string x)) → bk < W.heap.size →
        Calls Tryz.prog 97 #[.slice (some ⟨bk, 0, none⟩) 7 7, .string ⟨#[32]⟩] W fun e w' => e = .returned (.string (Pl.bs (Pl.actT k r p nm o vk vn vt m))) ∧ Below W.heap.size W w') := fun bk W hc hb => by
      have hjl : Lib.join ([Pl.bs (Lib.itoa k), Pl.bs (Lib.itoa r), Pl.bs (Lib.itoa p), nm, Pl.bs (Pl.okL o), Pl.bs (Lib.itoa m), Pl.bs (Pl.putV vk vn vt)].map (·.data.toList)) (⟨#[32]⟩ : ByteArray).data.toList = Pl.actT k r p nm o vk vn vt m := join7 _ _ _ _ _ _ _
      have h := Tryz.strings_Join bk 0 7 [Pl.bs (Lib.itoa k), Pl.bs (Lib.itoa r), Pl.bs (Lib.itoa p), nm, Pl.bs (Pl.okL o), Pl.bs (Lib.itoa m), Pl.bs (Pl.putV vk vn vt)] ⟨#[32]⟩ W hc hb (by simp) (by simp) (by
        rw [hjl]
        rw [Pl.bs_size] at ztk ztr ztp ztm ztv zto
        have hnm : nm.data.toList.length = nm.size := by simp
        simp only [Pl.actT, List.length_append, List.length_cons, List.length_nil]
        omega)
      rw [hjl] at h
      exact h
    have HE : Hid (Pl.actP k r p nm o vk vn vt m = Pl.actT k r p nm o vk vn vt m) := by show _ = _; unfold Pl.actP; rw [if_pos hb]
    generalize Pl.actT k r p nm o vk vn vt m = AT at *
    generalize Pl.bs (Lib.itoa k) = tk at *
    generalize Pl.bs (Lib.itoa r) = tr at *
    generalize Pl.bs (Lib.itoa p) = tp at *
    generalize Pl.bs (Lib.itoa m) = tm at *
    generalize Pl.bs (Pl.putV vk vn vt) = tv at *
    generalize Pl.bs (Pl.okL o) = to at *
    clear hvo hb h0 h1 k0 k1 r0 r1 p0 p1 m0 m1 HV hTT ztk ztr ztp ztm ztv zto
    go_enter Tryz.func71, Tryz.ntmps71
    go_wp2_with fail
    refine (hok.out _).mono ?_
    rintro x1 X1 ⟨rfl, hB1⟩
    have HX1 := hide (BoxNine.mk hB1)
    have HB1 := hide (below_box1 hB1)
    clear hB1 hok
    go_wp2_with fail
    refine act_code (fun X => BoxNine w.heap.size (.int .i64 k) (.int .i64 r) (.int .i64 p) (.string nm) (.bool o) (.int .i64 vk) (.int .i64 vn) (.string vt) (.int .i64 m) X ∧ Below w.heap.size w X) ⟨HX1.out, HB1.out⟩ ?_
    rintro X ⟨⟨hlt, c0, c1, c2, c3, c4, c5, c6, c7, c8⟩, hXB⟩
    have hT := hT0.out.later hXB
    refine wp_region_noPanic ?_
    refine wp_region_held_drew (S := fun W => Below X.heap.size X W) (by kernel_rfl) (below_drew' (Below.refl _ _)) (fun hHeld => ?_)
    refine wpAnyH_take (i := 0) (oi := Oper.mk (some 7) _ _ _ _ _) (v := ?_) rfl (by kernel_rfl) (by kernel_rfl) (by kernel_rfl) (fun _ _ _ h => h) (Or.inl ⟨by rfl, ?_⟩) (by assumption) ?_
    rotate_left
    · intro w0 hSw
      clear hSw
      go_simp
      all_goals (with_reducible rfl)
    simp only [Act.put, List.setIfInBounds_toArray, List.set_cons_zero, List.set_cons_succ]
    refine wpAnyH_take (i := 1) (oi := Oper.mk (some 8) _ _ _ _ _) (v := ?_) rfl (by kernel_rfl) (by kernel_rfl) (by kernel_rfl) (fun _ _ _ h => h) (Or.inl ⟨by rfl, ?_⟩) (by assumption) ?_
    rotate_left
    · intro w0 hSw
      have z0 : w0.cell? ⟨w.heap.size, 0, none⟩ = some ((.int .i64 k : Value)) := (Below.cell hSw (p := ⟨w.heap.size, 0, none⟩) hlt).trans c0
      clear hSw
      go_simp
      all_goals (with_reducible rfl)
    simp only [Act.put, List.setIfInBounds_toArray, List.set_cons_zero, List.set_cons_succ]
    refine wpAnyH_take (i := 3) (oi := Oper.mk (some 10) _ _ _ _ _) (v := ?_) rfl (by kernel_rfl) (by kernel_rfl) (by kernel_rfl) (fun _ _ _ h => h) (Or.inl ⟨by rfl, ?_⟩) (by assumption) ?_
    rotate_left
    · intro w0 hSw
      clear hSw
      go_simp
      all_goals (with_reducible rfl)
    simp only [Act.put, List.setIfInBounds_toArray, List.set_cons_zero, List.set_cons_succ]
    refine wpAnyH_take (i := 4) (oi := Oper.mk (some 11) _ _ _ _ _) (v := ?_) rfl (by kernel_rfl) (by kernel_rfl) (by kernel_rfl) (fun _ _ _ h => h) (Or.inl ⟨by rfl, ?_⟩) (by assumption) ?_
    rotate_left
    · intro w0 hSw
      have z0 : w0.cell? ⟨w.heap.size, 1, none⟩ = some ((.int .i64 r : Value)) := (Below.cell hSw (p := ⟨w.heap.size, 1, none⟩) hlt).trans c1
      clear hSw
      go_simp
      all_goals (with_reducible rfl)
    simp only [Act.put, List.setIfInBounds_toArray, List.set_cons_zero, List.set_cons_succ]
    refine wpAnyH_take (i := 6) (oi := Oper.mk (some 13) _ _ _ _ _) (v := ?_) rfl (by kernel_rfl) (by kernel_rfl) (by kernel_rfl) (fun _ _ _ h => h) (Or.inl ⟨by rfl, ?_⟩) (by assumption) ?_
    rotate_left
    · intro w0 hSw
      clear hSw
      go_simp
      all_goals (with_reducible rfl)
    simp only [Act.put, List.setIfInBounds_toArray, List.set_cons_zero, List.set_cons_succ]
    refine wpAnyH_take (i := 7) (oi := Oper.mk (some 14) _ _ _ _ _) (v := ?_) rfl (by kernel_rfl) (by kernel_rfl) (by kernel_rfl) (fun _ _ _ h => h) (Or.inl ⟨by rfl, ?_⟩) (by assumption) ?_
    rotate_left
    · intro w0 hSw
      have z0 : w0.cell? ⟨w.heap.size, 2, none⟩ = some ((.int .i64 p : Value)) := (Below.cell hSw (p := ⟨w.heap.size, 2, none⟩) hlt).trans c2
      clear hSw
      go_simp
      all_goals (with_reducible rfl)
    simp only [Act.put, List.setIfInBounds_toArray, List.set_cons_zero, List.set_cons_succ]
    refine wpAnyH_take (i := 9) (oi := Oper.mk (some 16) _ _ _ _ _) (v := ?_) rfl (by kernel_rfl) (by kernel_rfl) (by kernel_rfl) (fun _ _ _ h => h) (Or.inl ⟨by rfl, ?_⟩) (by assumption) ?_
    rotate_left
    · intro w0 hSw
      clear hSw
      go_simp
      all_goals (with_reducible rfl)
    simp only [Act.put, List.setIfInBounds_toArray, List.set_cons_zero, List.set_cons_succ]
    refine wpAnyH_take (i := 10) (oi := Oper.mk (some 17) _ _ _ _ _) (v := ?_) rfl (by kernel_rfl) (by kernel_rfl) (by kernel_rfl) (fun _ _ _ h => h) (Or.inl ⟨by rfl, ?_⟩) (by assumption) ?_
    rotate_left
    · intro w0 hSw
      have z0 : w0.cell? ⟨w.heap.size, 3, none⟩ = some ((.string nm : Value)) := (Below.cell hSw (p := ⟨w.heap.size, 3, none⟩) hlt).trans c3
      clear hSw
      go_simp
      all_goals (with_reducible rfl)
    simp only [Act.put, List.setIfInBounds_toArray, List.set_cons_zero, List.set_cons_succ]
    refine wpAnyH_take (i := 11) (oi := Oper.mk (some 18) _ _ _ _ _) (v := ?_) rfl (by kernel_rfl) (by kernel_rfl) (by kernel_rfl) (fun _ _ _ h => h) (Or.inl ⟨by rfl, ?_⟩) (by assumption) ?_
    rotate_left
    · intro w0 hSw
      clear hSw
      go_simp
      all_goals (with_reducible rfl)
    simp only [Act.put, List.setIfInBounds_toArray, List.set_cons_zero, List.set_cons_succ]
    refine wpAnyH_take (i := 12) (oi := Oper.mk (some 19) _ _ _ _ _) (v := ?_) rfl (by kernel_rfl) (by kernel_rfl) (by kernel_rfl) (fun _ _ _ h => h) (Or.inl ⟨by rfl, ?_⟩) (by assumption) ?_
    rotate_left
    · intro w0 hSw
      have z0 : w0.cell? ⟨w.heap.size, 4, none⟩ = some ((.bool o : Value)) := (Below.cell hSw (p := ⟨w.heap.size, 4, none⟩) hlt).trans c4
      clear hSw
      go_simp
      all_goals (with_reducible rfl)
    simp only [Act.put, List.setIfInBounds_toArray, List.set_cons_zero, List.set_cons_succ]
    refine wpAnyH_take (i := 14) (oi := Oper.mk (some 21) _ _ _ _ _) (v := ?_) rfl (by kernel_rfl) (by kernel_rfl) (by kernel_rfl) (fun _ _ _ h => h) (Or.inl ⟨by rfl, ?_⟩) (by assumption) ?_
    rotate_left
    · intro w0 hSw
      clear hSw
      go_simp
      all_goals (with_reducible rfl)
    simp only [Act.put, List.setIfInBounds_toArray, List.set_cons_zero, List.set_cons_succ]
    refine wpAnyH_take (i := 15) (oi := Oper.mk (some 22) _ _ _ _ _) (v := ?_) rfl (by kernel_rfl) (by kernel_rfl) (by kernel_rfl) (fun _ _ _ h => h) (Or.inl ⟨by rfl, ?_⟩) (by assumption) ?_
    rotate_left
    · intro w0 hSw
      have z0 : w0.cell? ⟨w.heap.size, 8, none⟩ = some ((.int .i64 m : Value)) := (Below.cell hSw (p := ⟨w.heap.size, 8, none⟩) hlt).trans c8
      clear hSw
      go_simp
      all_goals (with_reducible rfl)
    simp only [Act.put, List.setIfInBounds_toArray, List.set_cons_zero, List.set_cons_succ]
    refine wpAnyH_take (i := 17) (oi := Oper.mk (some 24) _ _ _ _ _) (v := ?_) rfl (by kernel_rfl) (by kernel_rfl) (by kernel_rfl) (fun _ _ _ h => h) (Or.inl ⟨by rfl, ?_⟩) (by assumption) ?_
    rotate_left
    · intro w0 hSw
      clear hSw
      go_simp
      all_goals (with_reducible rfl)
    simp only [Act.put, List.setIfInBounds_toArray, List.set_cons_zero, List.set_cons_succ]
    refine wpAnyH_take (i := 18) (oi := Oper.mk (some 25) _ _ _ _ _) (v := ?_) rfl (by kernel_rfl) (by kernel_rfl) (by kernel_rfl) (fun _ _ _ h => h) (Or.inl ⟨by rfl, ?_⟩) (by assumption) ?_
    rotate_left
    · intro w0 hSw
      have z0 : w0.cell? ⟨w.heap.size, 5, none⟩ = some ((.int .i64 vk : Value)) := (Below.cell hSw (p := ⟨w.heap.size, 5, none⟩) hlt).trans c5
      have z1 : w0.cell? ⟨w.heap.size, 6, none⟩ = some ((.int .i64 vn : Value)) := (Below.cell hSw (p := ⟨w.heap.size, 6, none⟩) hlt).trans c6
      have z2 : w0.cell? ⟨w.heap.size, 7, none⟩ = some ((.string vt : Value)) := (Below.cell hSw (p := ⟨w.heap.size, 7, none⟩) hlt).trans c7
      clear hSw
      go_simp
      all_goals (with_reducible rfl)
    simp only [Act.put, List.setIfInBounds_toArray, List.set_cons_zero, List.set_cons_succ]
    refine wpAnyH_ready (rs := [2]) (by kernel_rfl) (by simp) ?_
    refine AllReadyH.cons (o := Oper.mk (some 9) _ _ _ _ _) rfl (fun K hK => ?_) AllReadyH.nil
    go_simp
    go_at_call 72
    refine (hk.out _ (hT.later hHeld)).mono ?_
    rintro x0 w0 ⟨rfl, hB0⟩
    have hHeld' := Below.trans hHeld (hB0.mono hHeld.size)
    clear hB0 hHeld
    go_wp2_with fail
    refine hK.out _ _ hHeld' (fun hHeld => ?_)
    clear hK K hHeld'
    (try simp only [Act.put, List.setIfInBounds_toArray, List.set_cons_zero, List.set_cons_succ])
    refine wpAnyH_ready (rs := [5]) (by kernel_rfl) (by simp) ?_
    refine AllReadyH.cons (o := Oper.mk (some 12) _ _ _ _ _) rfl (fun K hK => ?_) AllReadyH.nil
    go_simp
    go_at_call 72
    refine (hr.out _ (hT.later hHeld)).mono ?_
    rintro x0 w0 ⟨rfl, hB0⟩
    have hHeld' := Below.trans hHeld (hB0.mono hHeld.size)
    clear hB0 hHeld
    go_wp2_with fail
    refine hK.out _ _ hHeld' (fun hHeld => ?_)
    clear hK K hHeld'
    (try simp only [Act.put, List.setIfInBounds_toArray, List.set_cons_zero, List.set_cons_succ])
    refine wpAnyH_ready (rs := [8]) (by kernel_rfl) (by simp) ?_
    refine AllReadyH.cons (o := Oper.mk (some 15) _ _ _ _ _) rfl (fun K hK => ?_) AllReadyH.nil
    go_simp
    go_at_call 72
    refine (hp.out _ (hT.later hHeld)).mono ?_
    rintro x0 w0 ⟨rfl, hB0⟩
    have hHeld' := Below.trans hHeld (hB0.mono hHeld.size)
    clear hB0 hHeld
    go_wp2_with fail
    refine hK.out _ _ hHeld' (fun hHeld => ?_)
    clear hK K hHeld'
    (try simp only [Act.put, List.setIfInBounds_toArray, List.set_cons_zero, List.set_cons_succ])
    refine wpAnyH_ready (rs := [13]) (by kernel_rfl) (by simp) ?_
    refine AllReadyH.cons (o := Oper.mk (some 20) _ _ _ _ _) rfl (fun K hK => ?_) AllReadyH.nil
    go_simp
    go_at_call 95
    refine (ho.out _).mono ?_
    rintro x0 w0 ⟨rfl, hB0⟩
    have hHeld' := Below.trans hHeld (hB0.mono hHeld.size)
    clear hB0 hHeld
    go_wp2_with fail
    refine hK.out _ _ hHeld' (fun hHeld => ?_)
    clear hK K hHeld'
    (try simp only [Act.put, List.setIfInBounds_toArray, List.set_cons_zero, List.set_cons_succ])
    refine wpAnyH_ready (rs := [16]) (by kernel_rfl) (by simp) ?_
    refine AllReadyH.cons (o := Oper.mk (some 23) _ _ _ _ _) rfl (fun K hK => ?_) AllReadyH.nil
    go_simp
    go_at_call 72
    refine (hm.out _ (hT.later hHeld)).mono ?_
    rintro x0 w0 ⟨rfl, hB0⟩
    have hHeld' := Below.trans hHeld (hB0.mono hHeld.size)
    clear hB0 hHeld
    go_wp2_with fail
    refine hK.out _ _ hHeld' (fun hHeld => ?_)
    clear hK K hHeld'
    (try simp only [Act.put, List.setIfInBounds_toArray, List.set_cons_zero, List.set_cons_succ])
    refine wpAnyH_ready (rs := [19]) (by kernel_rfl) (by simp) ?_
    refine AllReadyH.cons (o := Oper.mk (some 26) _ _ _ _ _) rfl (fun K hK => ?_) AllReadyH.nil
    go_simp
    go_at_call 96
    refine (hv.out _ (hT.later hHeld)).mono ?_
    rintro x0 Y ⟨rfl, hB0⟩
    have hHeld' := Below.trans hHeld (hB0.mono hHeld.size)
    clear hB0 hHeld
    go_wp2_with fail
    refine hK.out _ _ hHeld' (fun hHeld => ?_)
    clear hK K hHeld'
    (try simp only [Act.put, List.setIfInBounds_toArray, List.set_cons_zero, List.set_cons_succ])
    refine wpAnyH_ready (rs := [20]) (by kernel_rfl) (by simp) ?_
    refine AllReadyH.cons (o := Oper.mk (some 27) _ _ _ _ _) rfl (fun K hK => ?_) AllReadyH.nil
    go_simp
    refine hK.out _ _ (hHeld.alloc hHeld.size _) (fun hHeld2 => ?_)
    clear hK K
    (try simp only [Act.put, List.setIfInBounds_toArray, List.set_cons_zero, List.set_cons_succ])
    refine wpAnyH_take (i := 21) (oi := Oper.mk (some 3) _ _ _ _ _) (v := ?_) rfl (by kernel_rfl) (by kernel_rfl) (by kernel_rfl) (fun _ _ _ h => h) (Or.inl ⟨by rfl, ?_⟩) (by assumption) ?_
    rotate_left
    · intro w0 hSw
      clear hSw
      go_simp
      all_goals (with_reducible rfl)
    simp only [Act.put, List.setIfInBounds_toArray, List.set_cons_zero, List.set_cons_succ]
    refine wpAnyH_done (by kernel_rfl) ?_ _
    refine NoPanic.normal ?_
    have HF := hide (hXB.trans (hHeld.mono hXB.size))
    clear hHeld hHeld2
    go_wp2_with fail
    refine (hj.out Y.heap.size _ (seven_cells tk tr tp nm to tm tv) (by simp)).mono ?_
    rintro x9 Y9 ⟨rfl, hB9⟩
    have HF9 := hide ((HF.out.alloc HF.out.size _).trans (hB9.mono (HF.out.alloc HF.out.size _).size))
    clear hB9
    go_wp2_with fail
    go_ret
    exact ⟨by rw [HE.out]; rfl, HF9.out⟩
end Go.Proofs.YtbckbfjnifafaaaGreatDoor

/- Plain: the sum of a text, bit by bit. -/
namespace Go.Proofs.YtbckbfjnifafaaaGreatDoor
open Go.RowKit
set_option linter.unusedVariables false
namespace Pl
def stp (c : Nat) : Nat := if c % 2 = 1 then (c / 2) ^^^ 3988292384 else c / 2
/-- n steps -/
def it : Nat → Nat → Nat
  | 0, c => c
  | n + 1, c => it n (stp c)
def crcL : List UInt8 → Nat → Nat
  | [], c => c
  | b :: t, c => crcL t (it 8 (c ^^^ b.toNat))
def crc (s : ByteArray) : Nat := crcL s.data.toList 4294967295 ^^^ 4294967295
theorem xor_lt {a b : Nat} (ha : a < 4294967296) (hb : b < 4294967296) : a ^^^ b < 4294967296 := Nat.xor_lt_two_pow (n := 32) ha hb
theorem stp_lt {c : Nat} (h : c < 4294967296) : stp c < 4294967296 := by
  unfold stp
  split
  · exact xor_lt (by omega) (by decide)
  · omega
theorem it_lt : ∀ (n : Nat) {c : Nat} (h : c < 4294967296), it n c < 4294967296
  | 0, c, h => h
  | n + 1, c, h => it_lt n (stp_lt h)
theorem crcL_lt : ∀ (l : List UInt8) {c : Nat} (h : c < 4294967296), crcL l c < 4294967296
  | [], c, h => h
  | b :: t, c, h => crcL_lt t (it_lt 8 (xor_lt h (by have := b.toNat_lt; omega)))
theorem crc_lt (s : ByteArray) : crc s < 4294967296 := xor_lt (crcL_lt _ (by decide)) (by decide)
theorem crcL_at (s : ByteArray) (k : Nat) (c : Nat) (h : k < s.size) : crcL (s.data.toList.drop k) c = crcL (s.data.toList.drop (k + 1)) (it 8 (c ^^^ (byteAt s k).toNat)) := by
  have h' : k < s.data.toList.length := by simpa using h
  rw [List.drop_eq_getElem_cons h']
  show crcL _ (it 8 (c ^^^ s.data.toList[k].toNat)) = _
  have : (byteAt s k).toNat = s.data.toList[k].toNat := by
    unfold byteAt
    rw [List.getElem?_eq_getElem h']
    simp
  rw [this]
theorem crcL_end (s : ByteArray) (k : Nat) (c : Nat) (h : s.size ≤ k) : crcL (s.data.toList.drop k) c = c := by
  rw [List.drop_of_length_le (by simpa using h)]
  rfl
theorem crc_known : crc ⟨#[49, 50, 51, 52, 53, 54, 55, 56, 57]⟩ = 3421780262 := by decide +kernel
theorem crc_none : crc ⟨#[]⟩ = 0 := by decide +kernel
end Pl
theorem xor_u32 (a b : Nat) (ha : a < 4294967296) (hb : b < 4294967296) : bits .xor .u32 (a : Int) (b : Int) = ((a ^^^ b : Nat) : Int) := by
  have hx := Pl.xor_lt ha hb
  have h1 : (BitVec.ofInt 32 (a : Int)).toNat = a := by
    rw [BitVec.ofInt_natCast, BitVec.toNat_ofNat]; exact Nat.mod_eq_of_lt (by omega)
  have h2 : (BitVec.ofInt 32 (b : Int)).toNat = b := by
    rw [BitVec.ofInt_natCast, BitVec.toNat_ofNat]; exact Nat.mod_eq_of_lt (by omega)
  show IntKind.u32.wrap ((BitVec.ofInt 32 (a : Int) ^^^ BitVec.ofInt 32 (b : Int)).toNat : Int) = _
  rw [BitVec.toNat_xor, h1, h2, IntKind.wrap_u32]
  omega
theorem xor_i64 (a b : Nat) (ha : a < 4294967296) (hb : b < 4294967296) : bits .xor .i64 (a : Int) (b : Int) = ((a ^^^ b : Nat) : Int) := by
  have hx := Pl.xor_lt ha hb
  have h1 : (BitVec.ofInt 64 (a : Int)).toNat = a := by
    rw [BitVec.ofInt_natCast, BitVec.toNat_ofNat]; exact Nat.mod_eq_of_lt (by omega)
  have h2 : (BitVec.ofInt 64 (b : Int)).toNat = b := by
    rw [BitVec.ofInt_natCast, BitVec.toNat_ofNat]; exact Nat.mod_eq_of_lt (by omega)
  show IntKind.i64.wrap ((BitVec.ofInt 64 (a : Int) ^^^ BitVec.ofInt 64 (b : Int)).toNat : Int) = _
  rw [BitVec.toNat_xor, h1, h2, IntKind.wrap_i64]
  omega
theorem and_u32 (a : Nat) (ha : a < 4294967296) : bits .and .u32 (a : Int) 1 = ((a % 2 : Nat) : Int) := by
  have h1 : (BitVec.ofInt 32 (a : Int)).toNat = a := by
    rw [BitVec.ofInt_natCast, BitVec.toNat_ofNat]; exact Nat.mod_eq_of_lt (by omega)
  show IntKind.u32.wrap ((BitVec.ofInt 32 (a : Int) &&& BitVec.ofInt 32 1).toNat : Int) = _
  rw [BitVec.toNat_and, h1, show (BitVec.ofInt 32 1).toNat = 1 by decide, Nat.and_one_is_mod, IntKind.wrap_u32]
  omega
theorem not_xor (a : Nat) (ha : a < 4294967296) : 4294967295 - a = a ^^^ 4294967295 := by
  have h : (~~~ BitVec.ofNat 32 a) = BitVec.ofNat 32 a ^^^ BitVec.ofNat 32 4294967295 := by
    ext i hi
    have h1 : (BitVec.ofNat 32 4294967295)[i] = true := by
      have : BitVec.ofNat 32 4294967295 = BitVec.allOnes 32 := by decide
      simp only [this, BitVec.getElem_allOnes]
    rw [BitVec.getElem_not, BitVec.getElem_xor, h1, Bool.xor_true]
  have h2 := congrArg BitVec.toNat h
  rw [BitVec.toNat_not, BitVec.toNat_xor, BitVec.toNat_ofNat, BitVec.toNat_ofNat, Nat.mod_eq_of_lt (a := a) (by omega)] at h2
  simpa using h2
end Go.Proofs.YtbckbfjnifafaaaGreatDoor

/- The sum of a text, as the specification and the program work it out. -/
namespace Go.Proofs.YtbckbfjnifafaaaGreatDoor
open Go.RowKit
set_option linter.unusedVariables false

set_option maxHeartbeats 1600000 in
theorem specCrc_any (s : ByteArray) (hs : s.size ≤ maxLen) (w : World) :
    Calls Tryz.prog 57 #[.string s] w fun e w' => e = .returned (.int .i64 (Pl.crc s)) ∧ w' = w := by
  unfold maxLen at hs
  have hc0 : Hid (Pl.crc s = Pl.crcL s.data.toList 4294967295 ^^^ 4294967295) := rfl
  generalize hR : Pl.crcL s.data.toList 4294967295 = R at hc0
  have HR := hide hR
  clear hR
  go_enter Tryz.func57, Tryz.ntmps57
  go_wp2_with fail
  go_loop [3, 4] (fun c i => ∃ (k x : Nat), k ≤ s.size ∧ i = .int .i64 k ∧ c = .int .i64 x ∧ x < 4294967296 ∧ Pl.crcL (s.data.toList.drop k) x = R) (fun _ i => s.size - (intOf i).toNat)
  case atStart => exact ⟨0, 4294967295, by omega, rfl, rfl, by omega, HR.out⟩
  case round =>
    obtain ⟨k, x, hk, rfl, rfl, hx, hq⟩ := hrel
    have HQ := hide hq
    clear hq
    by_cases hlt : k < s.size
    · have hby := Pl.byteAt_eq s k hlt
      have hb0 := Pl.byteAt_lo s k
      have hb1 := Pl.byteAt_hi s k
      have HC := hide (Pl.crcL_at s k x hlt)
      generalize Pl.byteAt s k = d at hby hb0 hb1 HC
      obtain ⟨b, rfl⟩ := Int.eq_ofNat_of_zero_le hb0
      have hxx := xor_i64 x b hx (by omega)
      have hxl := Pl.xor_lt hx (show b < 4294967296 by omega)
      have HC2 : Hid (Pl.crcL (s.data.toList.drop (k + 1)) (Pl.it 8 (x ^^^ b)) = R) := by
        show _ = _
        rw [← HQ.out, HC.out]
        rfl
      clear HC
      generalize x ^^^ b = y at hxx hxl HC2
      go_wp2_with fail
      go_loop [3, 5] (fun c i => ∃ (j z : Nat), j ≤ 8 ∧ i = .int .i64 j ∧ c = .int .i64 z ∧ z < 4294967296 ∧ Pl.crcL (s.data.toList.drop (k + 1)) (Pl.it (8 - j) z) = R) (fun _ i => 8 - (intOf i).toNat)
      case atStart => exact ⟨0, y, by omega, rfl, rfl, hxl, HC2.out⟩
      case round =>
        obtain ⟨j, z, hj, rfl, rfl, hz, hq⟩ := hrel
        have HQ2 := hide hq
        clear hq
        by_cases hj8 : j < 8
        · have HI : Hid (Pl.it (8 - j) z = Pl.it (8 - (j + 1)) (Pl.stp z)) := by
            show _ = _
            rw [show 8 - j = (8 - (j + 1)) + 1 by omega]
            rfl
          have hzl := Pl.stp_lt hz
          have hd : (z : Int).tdiv 2 = ((z / 2 : Nat) : Int) := by rw [Int.tdiv_eq_ediv_of_nonneg (by omega)]; omega
          by_cases ho : z % 2 = 1
          · have hm : (z : Int).tmod 2 = 1 := by rw [Int.tmod_eq_emod_of_nonneg (by omega)]; omega
            have hxx := xor_i64 (z / 2) 3988292384 (by omega) (by decide)
            have hs : Pl.stp z = z / 2 ^^^ 3988292384 := by unfold Pl.stp; rw [if_pos ho]
            rw [hs] at hzl HI
            have hzd : z / 2 < 4294967296 := by omega
            generalize z / 2 = zd at hd hxx hzl HI hzd
            generalize zd ^^^ 3988292384 = y2 at hxx hzl HI
            go_wp2
            go_round
            case rel => exact ⟨j + 1, y2, by omega, by go_num, congrArg (Value.int .i64) hxx, hzl, by rw [← HI.out]; exact HQ2.out⟩
            case measure => simp [intOf]; omega
          · have hm : (z : Int).tmod 2 = 0 := by rw [Int.tmod_eq_emod_of_nonneg (by omega)]; omega
            have hs : Pl.stp z = z / 2 := by unfold Pl.stp; rw [if_neg ho]
            rw [hs] at hzl HI
            generalize z / 2 = zd at hd hzl HI
            go_wp2
            go_round
            case rel => exact ⟨j + 1, zd, by omega, by go_num, rfl, hzl, by rw [← HI.out]; exact HQ2.out⟩
            case measure => simp [intOf]; omega
        · have hj0 : 8 - j = 0 := by omega
          have HE : Hid (Pl.crcL (s.data.toList.drop (k + 1)) z = R) := by
            have := HQ2.out
            rw [hj0] at this
            exact this
          clear HQ2
          go_wp2
          go_round
          case rel => exact ⟨k + 1, z, by omega, by go_num, rfl, hz, HE.out⟩
          case measure => simp [intOf]; omega
    · have HE : Hid (x = R) := by
        have := HQ.out
        rw [Pl.crcL_end s k x (by omega)] at this
        exact this
      have hxx := xor_i64 x 4294967295 hx (by decide)
      go_wp2
      go_ret
      refine ⟨?_, rfl⟩
      rw [hc0.out, ← HE.out]
      exact congrArg (fun z => Ending.returned (.int .i64 z)) hxx
end Go.Proofs.YtbckbfjnifafaaaGreatDoor

/- The sum of a text, as the program works it out. -/
namespace Go.Proofs.YtbckbfjnifafaaaGreatDoor
open Go.RowKit
set_option linter.unusedVariables false

set_option maxHeartbeats 1600000 in
theorem sumWrite_any (s : ByteArray) (hs : s.size ≤ maxLen) (b : Nat) (w : World) (hc0 : w.cell? ⟨b, 0, none⟩ = some (.int .u32 0)) (hf0 : w.frozen? ⟨b, 0, none⟩ = false) :
    Calls Tryz.prog 99 #[.pointer (some ⟨b, 0, none⟩), .string s] w fun e w' => e = .returned (.tuple #[]) ∧ w' = w.setCell ⟨b, 0, none⟩ (.int .u32 (Pl.crc s)) := by
  unfold maxLen at hs
  have hR0 : Hid (Pl.crc s = Pl.crcL s.data.toList 4294967295 ^^^ 4294967295) := rfl
  generalize hR : Pl.crcL s.data.toList 4294967295 = R at hR0
  have HR := hide hR
  clear hR
  go_enter Tryz.func99, Tryz.ntmps99
  go_wp2_with fail
  go_loop [4, 14] (fun c i => ∃ (k x : Nat), k ≤ s.size ∧ i = .int .i64 k ∧ c = .int .u32 x ∧ x < 4294967296 ∧ Pl.crcL (s.data.toList.drop k) x = R) (fun _ i => s.size - (intOf i).toNat)
  case atStart => exact ⟨0, 4294967295, by omega, rfl, rfl, by omega, HR.out⟩
  case round =>
    obtain ⟨k, x, hk, rfl, rfl, hx, hq⟩ := hrel
    have HQ := hide hq
    clear hq
    by_cases hlt : k < s.size
    · have hby := Pl.byteAt_eq s k hlt
      have hb0 := Pl.byteAt_lo s k
      have hb1 := Pl.byteAt_hi s k
      have HC := hide (Pl.crcL_at s k x hlt)
      generalize Pl.byteAt s k = d at hby hb0 hb1 HC
      obtain ⟨b', rfl⟩ := Int.eq_ofNat_of_zero_le hb0
      have hxx := xor_u32 x b' hx (by omega)
      have hxl := Pl.xor_lt hx (show b' < 4294967296 by omega)
      have HC2 : Hid (Pl.crcL (s.data.toList.drop (k + 1)) (Pl.it 8 (x ^^^ b')) = R) := by
        show _ = _
        rw [← HQ.out, HC.out]
        rfl
      clear HC
      generalize x ^^^ b' = y at hxx hxl HC2
      go_wp2_with fail
      go_loop [4, 23] (fun c i => ∃ (j z : Nat), j ≤ 8 ∧ i = .int .i64 j ∧ c = .int .u32 z ∧ z < 4294967296 ∧ Pl.crcL (s.data.toList.drop (k + 1)) (Pl.it (8 - j) z) = R) (fun _ i => 8 - (intOf i).toNat)
      case atStart => exact ⟨0, y, by omega, rfl, rfl, hxl, HC2.out⟩
      case round =>
        obtain ⟨j, z, hj, rfl, rfl, hz, hq⟩ := hrel
        have HQ2 := hide hq
        clear hq
        by_cases hj8 : j < 8
        · have HI : Hid (Pl.it (8 - j) z = Pl.it (8 - (j + 1)) (Pl.stp z)) := by
            show _ = _
            rw [show 8 - j = (8 - (j + 1)) + 1 by omega]
            rfl
          have hzl := Pl.stp_lt hz
          have hd : (z : Int) / 2 = ((z / 2 : Nat) : Int) := by omega
          have hm := and_u32 z hz
          by_cases ho : z % 2 = 1
          · rw [ho] at hm
            have hxx := xor_u32 (z / 2) 3988292384 (by omega) (by decide)
            have hs : Pl.stp z = z / 2 ^^^ 3988292384 := by unfold Pl.stp; rw [if_pos ho]
            rw [hs] at hzl HI
            have hzd : z / 2 < 4294967296 := by omega
            generalize z / 2 = zd at hd hxx hzl HI hzd
            generalize zd ^^^ 3988292384 = y2 at hxx hzl HI
            go_wp2
            go_round
            case rel => exact ⟨j + 1, y2, by omega, by go_num, congrArg (Value.int .u32) hxx, hzl, by rw [← HI.out]; exact HQ2.out⟩
            case measure => simp [intOf]; omega
          · have hm0 : z % 2 = 0 := by omega
            rw [hm0] at hm
            have hs : Pl.stp z = z / 2 := by unfold Pl.stp; rw [if_neg ho]
            rw [hs] at hzl HI
            generalize z / 2 = zd at hd hzl HI
            go_wp2
            go_round
            case rel => exact ⟨j + 1, zd, by omega, by go_num, rfl, hzl, by rw [← HI.out]; exact HQ2.out⟩
            case measure => simp [intOf]; omega
        · have hj0 : 8 - j = 0 := by omega
          have HE : Hid (Pl.crcL (s.data.toList.drop (k + 1)) z = R) := by
            have := HQ2.out
            rw [hj0] at this
            exact this
          clear HQ2
          go_wp2
          go_round
          case rel => exact ⟨k + 1, z, by omega, by go_num, rfl, hz, HE.out⟩
          case measure => simp [intOf]; omega
    · have HE : Hid (x = R) := by
        have := HQ.out
        rw [Pl.crcL_end s k x (by omega)] at this
        exact this
      have hxx : bits .xor .u32 IntKind.u32.max (x : Int) = ((Pl.crc s : Nat) : Int) := by
        rw [hR0.out, ← HE.out, Nat.xor_comm]
        exact xor_u32 4294967295 x (by decide) hx
      go_wp2
      go_end0
      exact ⟨rfl, rfl⟩

set_option maxHeartbeats 800000 in
theorem implCrc_any (s : ByteArray) (hs : s.size ≤ maxLen) (w : World) :
    Calls Tryz.prog 73 #[.string s] w fun e w' => e = .returned (.int .i64 (Pl.crc s)) ∧ Below w.heap.size w w' := by
  have hw := hide (fun b w => sumWrite_any s hs b w)
  have hlt := Pl.crc_lt s
  generalize Pl.crc s = R at hw hlt
  go_enter Tryz.func73, Tryz.ntmps73
  go_wp2_with fail
  refine (hw.out _ _ (by simp) (by simp)).mono ?_
  rintro e w1 ⟨rfl, rfl⟩
  go_wp2
  go_ret
  exact ⟨rfl, (Below.refl _ _).alloc (Nat.le_refl _) _⟩
end Go.Proofs.YtbckbfjnifafaaaGreatDoor

/- An act written with its sum, as both have it. -/
namespace Go.Proofs.YtbckbfjnifafaaaGreatDoor
open Go.RowKit
set_option linter.unusedVariables false
set_option linter.unusedSimpArgs false
set_option maxRecDepth 100000 in
set_option maxHeartbeats 1600000 in
theorem l1Dec_big (u : Nat) (hu : u ≤ 9999999999) : DecP u := by
  induction u using Nat.strongRecOn with
  | _ u ih =>
    intro w
    by_cases h : u < 10
    · have hcv := fun W => conv1 W (48 + (u : Int)) (by omega) (by omega)
      rw [fig_byte u h] at hcv
      have HE : Hid (Lib.decDigits u = [UInt8.ofNat (48 + u)]) := Pl.dec_small h
      generalize UInt8.ofNat (48 + u) = d at hcv HE
      clear ih
      go_enter Tryz.func56, Tryz.ntmps56
      go_wp2
      go_ret
      exact ⟨by rw [HE.out]; rfl, (Below.refl _ _).alloc (Nat.le_refl _) _⟩
    · obtain ⟨q, r, hq10, hr10, hqr⟩ : ∃ q r : Nat, u / 10 = q ∧ u % 10 = r ∧ u = 10 * q + r := ⟨u / 10, u % 10, rfl, rfl, by omega⟩
      have hr : r < 10 := by omega
      have hq : Hid (∀ w : World, Calls Tryz.prog 56 #[.int .i64 q] w fun e w' => e = .returned (.string (Pl.bs (Lib.decDigits q))) ∧ Below w.heap.size w w') := ih q (by omega) (by omega)
      have hcv := fun W => conv1 W (48 + (r : Int)) (by omega) (by omega)
      have hcw := hide (fun W k => conv1_at W k (48 + (r : Int)) (by omega) (by omega))
      have hcd := conv1_at (w.alloc (.cells #[.int .u8 (48 + (r : Int))] 5)).drew w.heap.size (48 + (r : Int)) (by omega) (by omega) (by simp)
      rw [fig_byte _ hr] at hcv hcw hcd
      have HE : Hid (Lib.decDigits u = Lib.decDigits q ++ [UInt8.ofNat (48 + r)]) := by
        show _ = _
        rw [Pl.dec_big h, hq10, hr10]
      have hs1 : (Pl.bs (Lib.decDigits q)).size ≤ 10 := Pl.dec_len_le 9 q (by omega)
      generalize UInt8.ofNat (48 + r) = d at hcv hcw hcd HE
      generalize Lib.decDigits q = D at hq HE hs1
      have hsum : (Pl.bs D).size + (Pl.bs [d]).size ≤ 9223372036854775807 := by show _ + 1 ≤ _; omega
      have e1 : (u : Int).tdiv 10 = (q : Int) := by rw [Int.tdiv_eq_ediv_of_nonneg (by omega)]; omega
      have e2 : (u : Int).tmod 10 = (r : Int) := by rw [Int.tmod_eq_emod_of_nonneg (by omega)]; omega
      have hw1 : IntKind.i64.wrap (q : Int) = (q : Int) := by rw [IntKind.wrap_i64]; omega
      have hw2 : IntKind.i64.wrap (48 + (r : Int)) = 48 + (r : Int) := by rw [IntKind.wrap_i64]; omega
      have hw3 : IntKind.u8.wrap (48 + (r : Int)) = 48 + (r : Int) := wrap_fig r hr
      have t1 : decide ((u : Int) < -9223372036854775807) = false := decide_eq_false (by omega)
      have t2 : decide ((u : Int) < 0) = false := decide_eq_false (by omega)
      have t3 : decide ((u : Int) < 10) = false := decide_eq_false (by omega)
      have HUQ := hide hqr
      clear ih hq10 hr10 hqr
      go_enter Tryz.func56, Tryz.ntmps56
      go_wp2_with fail
      go_region_with (first
        | (go_at_call 56; refine (hq.out _).mono ?_; rintro e w1 ⟨rfl, hB1⟩; have HB1 : Hid (Below w.heap.size w w1) := (Below.refl _ _).drew.trans hB1; clear hB1)
        | (go_at_call 56; refine (hq.out _).mono ?_; rintro e w1 ⟨rfl, hB1⟩; obtain ⟨hb, hcell⟩ := boxed_after hB1; have HB1 := hide hb; have hcx := hcw.out w1 w.heap.size hcell; clear hB1 hb))
      all_goals
        go_wp2
        go_ret
        refine ⟨by rw [HE.out, ← bs_append]; rfl, ?_⟩
        first | exact HB1.out | exact HB1.out.alloc HB1.out.size _
/-- the sum of a text, as a number -/
theorem crc_range (s : ByteArray) : 0 ≤ (Pl.crc s : Int) ∧ (Pl.crc s : Int) < 4294967296 := ⟨by omega, by have := Pl.crc_lt s; omega⟩
theorem itoa_nat (u : Nat) : Lib.itoa (u : Int) = Lib.decDigits u := by
  unfold Lib.itoa
  rw [if_neg (by omega)]
  simp
/-- an act's record -/
def Pl.recT (T : List UInt8) : List UInt8 := ((Lib.itoa (Pl.crc (Pl.bs T) : Int) ++ [32]) ++ T) ++ [10]
def Pl.recP (T : List UInt8) : List UInt8 := if T = [] then [] else Pl.recT T
theorem l1Dec_crc (s : ByteArray) (w : World) :
    Calls Tryz.prog 56 #[.int .i64 (Pl.crc s : Int)] w fun e w' => e = .returned (.string (Pl.bs (Lib.itoa (Pl.crc s : Int)))) ∧ Below w.heap.size w w' := by
  rw [itoa_nat]
  exact l1Dec_big (Pl.crc s) (by have := Pl.crc_lt s; omega) w
theorem crc_short (s : ByteArray) : (Pl.bs (Lib.itoa (Pl.crc s : Int))).size ≤ 20 := by
  rw [Pl.bs_size, itoa_nat]
  have h := Pl.dec_len_le 9 (Pl.crc s) (by have := Pl.crc_lt s; omega)
  omega
theorem actT_short {k r p : Int} {nm : ByteArray} {o : Bool} {vk vn : Int} {vt : ByteArray} {m : Int} (h : Pl.actB k r p nm o vk vn vt m = true) (hn : nm.size ≤ 1048576) (ht : vt.size ≤ 1048576) : (Pl.bs (Pl.actT k r p nm o vk vn vt m)).size ≤ 8000000 := by
  obtain ⟨⟨k0, k1⟩, ⟨r0, r1⟩, ⟨p0, p1⟩, ⟨m0, m1⟩, hvo⟩ := act_parts h
  have ztk := itoa_short (n := k) (by omega) (by omega)
  have ztr := itoa_short r0 (by omega)
  have ztp := itoa_short p0 p1
  have ztm := itoa_short m0 m1
  have ztv := putV_short vk vn vt hvo ht
  have zto : (Pl.bs (Pl.okL o)).size ≤ 2 := by rw [Pl.bs_size]; unfold Pl.okL; split <;> simp
  have hnm : nm.data.toList.length = nm.size := by simp
  rw [Pl.bs_size] at *
  simp only [Pl.actT, List.length_append, List.length_cons, List.length_nil]
  omega
theorem actT_ne (k r p : Int) (nm : ByteArray) (o : Bool) (vk vn : Int) (vt : ByteArray) (m : Int) : Pl.actT k r p nm o vk vn vt m ≠ [] := by
  intro h
  have := congrArg List.length h
  simp only [Pl.actT, List.length_append, List.length_cons, List.length_nil] at this
  omega
theorem rec_bs (T : List UInt8) : Pl.bs (Pl.recT T) = ((Pl.bs (Lib.itoa (Pl.crc (Pl.bs T) : Int)) ++ ⟨#[32]⟩) ++ Pl.bs T) ++ ⟨#[10]⟩ := by
  unfold Pl.recT
  simp only [← bs_append]
  rfl
set_option maxRecDepth 100000 in
set_option maxHeartbeats 1600000 in
theorem l8Record_any (k r p : Int) (nm : ByteArray) (o : Bool) (vk vn : Int) (vt : ByteArray) (m : Int) (hok : Pl.actB k r p nm o vk vn vt m = true) (hn : nm.size ≤ 1048576) (ht : vt.size ≤ 1048576) (w : World) :
    Calls Tryz.prog 40 #[actV k r p nm o vk vn vt m] w fun x w' => x = .returned (.string (Pl.bs (Pl.recT (Pl.actT k r p nm o vk vn vt m)))) ∧ Below w.heap.size w w' := by
  have hl := hide (l8Line_any k r p nm o vk vn vt m hok hn ht)
  have hz := actT_short hok hn ht
  rw [rec_bs]
  have hzc := crc_short (Pl.bs (Pl.actT k r p nm o vk vn vt m))
  have hc := hide (specCrc_any (Pl.bs (Pl.actT k r p nm o vk vn vt m)) (by unfold maxLen; omega))
  have hd := hide (l1Dec_crc (Pl.bs (Pl.actT k r p nm o vk vn vt m)))
  generalize Pl.bs (Pl.actT k r p nm o vk vn vt m) = T at *
  generalize ((Pl.crc T : Nat) : Int) = C at *
  generalize Pl.bs (Lib.itoa C) = D at *
  have g1 : D.size + (⟨#[32]⟩ : ByteArray).size ≤ 9000000 := by show _ + 1 ≤ _; omega
  have g2 : (D ++ ⟨#[32]⟩).size + T.size ≤ 9000000 := by rw [ByteArray.size_append]; show _ + 1 + _ ≤ _; omega
  have g3 : (D ++ ⟨#[32]⟩ ++ T).size + (⟨#[10]⟩ : ByteArray).size ≤ 9000000 := by rw [ByteArray.size_append, ByteArray.size_append]; show _ + 1 + _ + 1 ≤ _; omega
  clear hok
  go_enter Tryz.func40, Tryz.ntmps40
  go_wp2_with fail
  refine (hl.out _).mono ?_
  rintro x1 X1 ⟨rfl, hB1⟩
  have HB1 := hide (below_box1 hB1)
  clear hB1 hl
  go_wp2_with fail
  refine (hc.out _).mono ?_
  rintro x2 X2 ⟨rfl, rfl⟩
  go_wp2_with fail
  refine (hd.out _).mono ?_
  rintro x3 X3 ⟨rfl, hB3⟩
  have HB3 := hide (HB1.out.trans (hB3.mono HB1.out.size))
  clear hB3 hc hd
  go_wp2
  go_ret
  exact ⟨rfl, HB3.out⟩
set_option maxRecDepth 100000 in
set_option maxHeartbeats 1600000 in
theorem implRecordPut_any (k r p : Int) (nm : ByteArray) (o : Bool) (vk vn : Int) (vt : ByteArray) (m : Int) (hn : nm.size ≤ 1048576) (ht : vt.size ≤ 1048576) (w : World) (hTT : Tab w) :
    Calls Tryz.prog 60 #[actV k r p nm o vk vn vt m] w fun x w' => x = .returned (.string (Pl.bs (Pl.recP (Pl.actP k r p nm o vk vn vt m)))) ∧ Below w.heap.size w w' := by
  have HT := hide hTT
  have hp := hide (fun W hW => implActPut_any k r p nm o vk vn vt m hn ht W hW)
  cases hb : Pl.actB k r p nm o vk vn vt m
  · have HP : Hid (Pl.actP k r p nm o vk vn vt m = []) := by show _ = _; unfold Pl.actP; rw [hb]; rfl
    have HE : Hid (Pl.recP (Pl.actP k r p nm o vk vn vt m) = []) := by show _ = _; rw [HP.out]; rfl
    rw [HP.out] at hp
    clear hb
    go_enter Tryz.func60, Tryz.ntmps60
    go_wp2_with fail
    refine (hp.out _ (HT.out.later ((Below.refl _ _).alloc (Nat.le_refl _) _))).mono ?_
    rintro x1 X1 ⟨rfl, hB1⟩
    have HB1 := hide (below_box1 hB1)
    clear hB1 hp
    have he : (Pl.bs []).toList.isEmpty = true := by rw [Pl.bs_toList]; rfl
    go_wp2_with fail
    go_ret
    exact ⟨by rw [HE.out]; rfl, HB1.out⟩
  · have HP : Hid (Pl.actP k r p nm o vk vn vt m = Pl.actT k r p nm o vk vn vt m) := by show _ = _; unfold Pl.actP; rw [if_pos hb]
    have HE : Hid (Pl.bs (Pl.recP (Pl.actP k r p nm o vk vn vt m)) = ((Pl.bs (Lib.itoa (Pl.crc (Pl.bs (Pl.actT k r p nm o vk vn vt m)) : Int)) ++ ⟨#[32]⟩) ++ Pl.bs (Pl.actT k r p nm o vk vn vt m)) ++ ⟨#[10]⟩) := by
      show _ = _; rw [HP.out]; unfold Pl.recP; rw [if_neg (actT_ne _ _ _ _ _ _ _ _ _)]; exact rec_bs _
    rw [HP.out] at hp
    have hz := actT_short hb hn ht
    have hzc := crc_short (Pl.bs (Pl.actT k r p nm o vk vn vt m))
    have hc := hide (implCrc_any (Pl.bs (Pl.actT k r p nm o vk vn vt m)) (by unfold maxLen; omega))
    obtain ⟨hr0, hr1⟩ := crc_range (Pl.bs (Pl.actT k r p nm o vk vn vt m))
    have hd := hide (fun W hW => itoa_any (Pl.crc (Pl.bs (Pl.actT k r p nm o vk vn vt m))) (by omega) (by omega) W hW)
    have hte : (Pl.bs (Pl.actT k r p nm o vk vn vt m)).toList.isEmpty = false := by
      rw [Pl.bs_toList]
      cases hq : Pl.actT k r p nm o vk vn vt m with
      | nil => exact absurd hq (actT_ne k r p nm o vk vn vt m)
      | cons a l => rfl
    generalize Pl.bs (Pl.actT k r p nm o vk vn vt m) = T at *
    generalize ((Pl.crc T : Nat) : Int) = C at *
    generalize Pl.bs (Lib.itoa C) = D at *
    have g1 : D.size + (⟨#[32]⟩ : ByteArray).size ≤ 9000000 := by show _ + 1 ≤ _; omega
    have g2 : (D ++ ⟨#[32]⟩).size + T.size ≤ 9000000 := by rw [ByteArray.size_append]; show _ + 1 + _ ≤ _; omega
    have g3 : (D ++ ⟨#[32]⟩ ++ T).size + (⟨#[10]⟩ : ByteArray).size ≤ 9000000 := by rw [ByteArray.size_append, ByteArray.size_append]; show _ + 1 + _ + 1 ≤ _; omega
    clear hb HP hr0 hr1
    go_enter Tryz.func60, Tryz.ntmps60
    go_wp2_with fail
    refine (hp.out _ (HT.out.later ((Below.refl _ _).alloc (Nat.le_refl _) _))).mono ?_
    rintro x1 X1 ⟨rfl, hB1⟩
    have HB1 := hide (below_box1 hB1)
    clear hB1 hp
    go_wp2_with fail
    refine (hc.out _).mono ?_
    rintro x2 X2 ⟨rfl, hB2⟩
    have HB2 := hide (HB1.out.trans (hB2.mono HB1.out.size))
    clear hB2
    go_wp2_with fail
    refine (hd.out _ (HT.out.later HB2.out)).mono ?_
    rintro x3 X3 ⟨rfl, hB3⟩
    have HB3 := hide (HB2.out.trans (hB3.mono HB2.out.size))
    clear hB3 hc hd
    go_wp2
    go_ret
    exact ⟨by rw [HE.out]; rfl, HB3.out⟩
end Go.Proofs.YtbckbfjnifafaaaGreatDoor

/- An act written with its sum, as both have it. -/
import Derived.Test.YtkkiolljbklccaaGreatDoorActB
import Derived.Test.YtkkiolljbklccaaGreatDoorCrc1
import Derived.Test.YtkkiolljbklccaaGreatDoorCrc2
import Derived.Test.YtkkiolljbklccaaGreatDoorLawAP
namespace Go.Proofs.YtkkiolljbklccaaGreatDoor
open Go.RowKit
set_option linter.unusedVariables false
set_option linter.unusedSimpArgs false
set_option maxRecDepth 100000 in
set_option maxHeartbeats 1600000 in
theorem l1Dec_big (u : Nat) (hu : u ≤ 9999999999) : DecP u := by
  induction u using Nat.strongRecOn with
  | _ u ih =>
    intro w
    by_cases h : u < 10
    · have hcv := fun W => conv1 W (48 + (u : Int)) (by omega) (by omega)
      rw [fig_byte u h] at hcv
      have HE : Hid (Lib.decDigits u = [UInt8.ofNat (48 + u)]) := Pl.dec_small h
      generalize UInt8.ofNat (48 + u) = d at hcv HE
      clear ih
      go_enter Tryz.func40, Tryz.ntmps40
      go_wp2
      go_ret
      exact ⟨by rw [HE.out]; rfl, (Below.refl _ _).alloc (Nat.le_refl _) _⟩
    · obtain ⟨q, r, hq10, hr10, hqr⟩ : ∃ q r : Nat, u / 10 = q ∧ u % 10 = r ∧ u = 10 * q + r := ⟨u / 10, u % 10, rfl, rfl, by omega⟩
      have hr : r < 10 := by omega
      have hq : Hid (∀ w : World, Calls Tryz.prog 40 #[.int .i64 q] w fun e w' => e = .returned (.string (Pl.bs (Lib.decDigits q))) ∧ Below w.heap.size w w') := ih q (by omega) (by omega)
      have hcv := fun W => conv1 W (48 + (r : Int)) (by omega) (by omega)
      have hcw := hide (fun W k => conv1_at W k (48 + (r : Int)) (by omega) (by omega))
      have hcd := conv1_at (w.alloc (.cells #[.int .u8 (48 + (r : Int))] 5)).drew w.heap.size (48 + (r : Int)) (by omega) (by omega) (by simp)
      rw [fig_byte _ hr] at hcv hcw hcd
      have HE : Hid (Lib.decDigits u = Lib.decDigits q ++ [UInt8.ofNat (48 + r)]) := by
        show _ = _
        rw [Pl.dec_big h, hq10, hr10]
      have hs1 : (Pl.bs (Lib.decDigits q)).size ≤ 10 := Pl.dec_len_le 9 q (by omega)
      generalize UInt8.ofNat (48 + r) = d at hcv hcw hcd HE
      generalize Lib.decDigits q = D at hq HE hs1
      have hsum : (Pl.bs D).size + (Pl.bs [d]).size ≤ 9223372036854775807 := by show _ + 1 ≤ _; omega
      have e1 : (u : Int).tdiv 10 = (q : Int) := by rw [Int.tdiv_eq_ediv_of_nonneg (by omega)]; omega
      have e2 : (u : Int).tmod 10 = (r : Int) := by rw [Int.tmod_eq_emod_of_nonneg (by omega)]; omega
      have hw1 : IntKind.i64.wrap (q : Int) = (q : Int) := by rw [IntKind.wrap_i64]; omega
      have hw2 : IntKind.i64.wrap (48 + (r : Int)) = 48 + (r : Int) := by rw [IntKind.wrap_i64]; omega
      have hw3 : IntKind.u8.wrap (48 + (r : Int)) = 48 + (r : Int) := wrap_fig r hr
      have t1 : decide ((u : Int) < -9223372036854775807) = false := decide_eq_false (by omega)
      have t2 : decide ((u : Int) < 0) = false := decide_eq_false (by omega)
      have t3 : decide ((u : Int) < 10) = false := decide_eq_false (by omega)
      have HUQ := hide hqr
      clear ih hq10 hr10 hqr
      go_enter Tryz.func40, Tryz.ntmps40
      go_wp2_with fail
      go_region_with (first
        | (go_at_call 40; refine (hq.out _).mono ?_; rintro e w1 ⟨rfl, hB1⟩; have HB1 : Hid (Below w.heap.size w w1) := (Below.refl _ _).drew.trans hB1; clear hB1)
        | (go_at_call 40; refine (hq.out _).mono ?_; rintro e w1 ⟨rfl, hB1⟩; obtain ⟨hb, hcell⟩ := boxed_after hB1; have HB1 := hide hb; have hcx := hcw.out w1 w.heap.size hcell; clear hB1 hb))
      all_goals
        go_wp2
        go_ret
        refine ⟨by rw [HE.out, ← bs_append]; rfl, ?_⟩
        first | exact HB1.out | exact HB1.out.alloc HB1.out.size _
/-- the sum of a text, as a number -/
theorem crc_range (s : ByteArray) : 0 ≤ (Pl.crc s : Int) ∧ (Pl.crc s : Int) < 4294967296 := ⟨by omega, by have := Pl.crc_lt s; omega⟩
theorem itoa_nat (u : Nat) : Lib.itoa (u : Int) = Lib.decDigits u := by
  unfold Lib.itoa
  rw [if_neg (by omega)]
  simp
/-- an act's record -/
def Pl.recT (T : List UInt8) : List UInt8 := ((Lib.itoa (Pl.crc (Pl.bs T) : Int) ++ [32]) ++ T) ++ [10]
def Pl.recP (T : List UInt8) : List UInt8 := if T = [] then [] else Pl.recT T
theorem l1Dec_crc (s : ByteArray) (w : World) :
    Calls Tryz.prog 40 #[.int .i64 (Pl.crc s : Int)] w fun e w' => e = .returned (.string (Pl.bs (Lib.itoa (Pl.crc s : Int)))) ∧ Below w.heap.size w w' := by
  rw [itoa_nat]
  exact l1Dec_big (Pl.crc s) (by have := Pl.crc_lt s; omega) w
theorem crc_short (s : ByteArray) : (Pl.bs (Lib.itoa (Pl.crc s : Int))).size ≤ 20 := by
  rw [Pl.bs_size, itoa_nat]
  have h := Pl.dec_len_le 9 (Pl.crc s) (by have := Pl.crc_lt s; omega)
  omega
theorem actT_short {k r p : Int} {nm : ByteArray} {o : Bool} {vk vn : Int} {vt : ByteArray} {m : Int} (h : Pl.actB k r p nm o vk vn vt m = true) (hn : nm.size ≤ 1048576) (ht : vt.size ≤ 1048576) : (Pl.bs (Pl.actT k r p nm o vk vn vt m)).size ≤ 8000000 := by
  obtain ⟨⟨k0, k1⟩, ⟨r0, r1⟩, ⟨p0, p1⟩, ⟨m0, m1⟩, hvo⟩ := act_parts h
  have ztk := itoa_short (n := k) (by omega) (by omega)
  have ztr := itoa_short r0 (by omega)
  have ztp := itoa_short p0 p1
  have ztm := itoa_short m0 m1
  have ztv := putV_short vk vn vt hvo ht
  have zto : (Pl.bs (Pl.okL o)).size ≤ 2 := by rw [Pl.bs_size]; unfold Pl.okL; split <;> simp
  have hnm : nm.data.toList.length = nm.size := by simp
  rw [Pl.bs_size] at *
  simp only [Pl.actT, List.length_append, List.length_cons, List.length_nil]
  omega
theorem actT_ne (k r p : Int) (nm : ByteArray) (o : Bool) (vk vn : Int) (vt : ByteArray) (m : Int) : Pl.actT k r p nm o vk vn vt m ≠ [] := by
  intro h
  have := congrArg List.length h
  simp only [Pl.actT, List.length_append, List.length_cons, List.length_nil] at this
  omega
theorem rec_bs (T : List UInt8) : Pl.bs (Pl.recT T) = ((Pl.bs (Lib.itoa (Pl.crc (Pl.bs T) : Int)) ++ ⟨#[32]⟩) ++ Pl.bs T) ++ ⟨#[10]⟩ := by
  unfold Pl.recT
  simp only [← bs_append]
  rfl
set_option maxRecDepth 100000 in
set_option maxHeartbeats 1600000 in
theorem l8Record_any (k r p : Int) (nm : ByteArray) (o : Bool) (vk vn : Int) (vt : ByteArray) (m : Int) (hok : Pl.actB k r p nm o vk vn vt m = true) (hn : nm.size ≤ 1048576) (ht : vt.size ≤ 1048576) (w : World) :
    Calls Tryz.prog 33 #[actV k r p nm o vk vn vt m] w fun x w' => x = .returned (.string (Pl.bs (Pl.recT (Pl.actT k r p nm o vk vn vt m)))) ∧ Below w.heap.size w w' := by
  have hl := hide (l8Line_any k r p nm o vk vn vt m hok hn ht)
  have hz := actT_short hok hn ht
  rw [rec_bs]
  have hzc := crc_short (Pl.bs (Pl.actT k r p nm o vk vn vt m))
  have hc := hide (specCrc_any (Pl.bs (Pl.actT k r p nm o vk vn vt m)) (by unfold maxLen; omega))
  have hd := hide (l1Dec_crc (Pl.bs (Pl.actT k r p nm o vk vn vt m)))
  generalize Pl.bs (Pl.actT k r p nm o vk vn vt m) = T at *
  generalize ((Pl.crc T : Nat) : Int) = C at *
  generalize Pl.bs (Lib.itoa C) = D at *
  have g1 : D.size + (⟨#[32]⟩ : ByteArray).size ≤ 9000000 := by show _ + 1 ≤ _; omega
  have g2 : (D ++ ⟨#[32]⟩).size + T.size ≤ 9000000 := by rw [ByteArray.size_append]; show _ + 1 + _ ≤ _; omega
  have g3 : (D ++ ⟨#[32]⟩ ++ T).size + (⟨#[10]⟩ : ByteArray).size ≤ 9000000 := by rw [ByteArray.size_append, ByteArray.size_append]; show _ + 1 + _ + 1 ≤ _; omega
  clear hok
  go_enter Tryz.func33, Tryz.ntmps33
  go_wp2_with fail
  refine (hl.out _).mono ?_
  rintro x1 X1 ⟨rfl, hB1⟩
  have HB1 := hide (below_box1 hB1)
  clear hB1 hl
  go_wp2_with fail
  refine (hc.out _).mono ?_
  rintro x2 X2 ⟨rfl, rfl⟩
  go_wp2_with fail
  refine (hd.out _).mono ?_
  rintro x3 X3 ⟨rfl, hB3⟩
  have HB3 := hide (HB1.out.trans (hB3.mono HB1.out.size))
  clear hB3 hc hd
  go_wp2
  go_ret
  exact ⟨rfl, HB3.out⟩
set_option maxRecDepth 100000 in
set_option maxHeartbeats 1600000 in
theorem specRecordPut_any (k r p : Int) (nm : ByteArray) (o : Bool) (vk vn : Int) (vt : ByteArray) (m : Int) (hn : nm.size ≤ 1048576) (ht : vt.size ≤ 1048576) (w : World) :
    Calls Tryz.prog 14 #[actV k r p nm o vk vn vt m] w fun x w' => x = .returned (.string (Pl.bs (Pl.recP (Pl.actP k r p nm o vk vn vt m)))) ∧ Below w.heap.size w w' := by
  have hok := hide (specActOk_any k r p nm o vk vn vt m (by unfold maxLen; omega) (by unfold maxLen; omega))
  cases hb : Pl.actB k r p nm o vk vn vt m
  · rw [hb] at hok
    have HE : Hid (Pl.recP (Pl.actP k r p nm o vk vn vt m) = []) := by show _ = _; unfold Pl.actP Pl.recP; rw [hb]; rfl
    clear hb
    go_enter Tryz.func14, Tryz.ntmps14
    go_wp2_with fail
    refine (hok.out _).mono ?_
    rintro x1 X1 ⟨rfl, hB1⟩
    have HB1 := hide (below_box1 hB1)
    clear hB1
    go_wp2_with fail
    go_ret
    exact ⟨by rw [HE.out]; rfl, HB1.out⟩
  · rw [hb] at hok
    have hl := hide (l8Record_any k r p nm o vk vn vt m hb hn ht)
    have HE : Hid (Pl.recP (Pl.actP k r p nm o vk vn vt m) = Pl.recT (Pl.actT k r p nm o vk vn vt m)) := by show _ = _; unfold Pl.actP Pl.recP; rw [if_pos hb, if_neg (actT_ne _ _ _ _ _ _ _ _ _)]
    generalize Pl.recT (Pl.actT k r p nm o vk vn vt m) = AT at *
    clear hb
    go_enter Tryz.func14, Tryz.ntmps14
    go_wp2_with fail
    refine (hok.out _).mono ?_
    rintro x1 X1 ⟨rfl, hB1⟩
    have HX1 := hide (BoxNine.mk hB1)
    have HB1 := hide (below_box1 hB1)
    clear hB1 hok
    obtain ⟨z1, c0, c1, c2, c3, c4, c5, c6, c7, c8⟩ := HX1.out
    go_wp2_with fail
    refine (hl.out _).mono ?_
    rintro x2 X2 ⟨rfl, hB2⟩
    have HB2 := hide (HB1.out.trans (hB2.mono HB1.out.size))
    clear hB2
    go_wp2_with fail
    go_ret
    exact ⟨by rw [HE.out]; rfl, HB2.out⟩
set_option maxRecDepth 100000 in
set_option maxHeartbeats 1600000 in
theorem implRecordPut_any (k r p : Int) (nm : ByteArray) (o : Bool) (vk vn : Int) (vt : ByteArray) (m : Int) (hn : nm.size ≤ 1048576) (ht : vt.size ≤ 1048576) (w : World) (hTT : Tab w) :
    Calls Tryz.prog 15 #[actV k r p nm o vk vn vt m] w fun x w' => x = .returned (.string (Pl.bs (Pl.recP (Pl.actP k r p nm o vk vn vt m)))) ∧ Below w.heap.size w w' := by
  have HT := hide hTT
  have hp := hide (fun W hW => implActPut_any k r p nm o vk vn vt m hn ht W hW)
  cases hb : Pl.actB k r p nm o vk vn vt m
  · have HP : Hid (Pl.actP k r p nm o vk vn vt m = []) := by show _ = _; unfold Pl.actP; rw [hb]; rfl
    have HE : Hid (Pl.recP (Pl.actP k r p nm o vk vn vt m) = []) := by show _ = _; rw [HP.out]; rfl
    rw [HP.out] at hp
    clear hb
    go_enter Tryz.func15, Tryz.ntmps15
    go_wp2_with fail
    refine (hp.out _ (HT.out.later ((Below.refl _ _).alloc (Nat.le_refl _) _))).mono ?_
    rintro x1 X1 ⟨rfl, hB1⟩
    have HB1 := hide (below_box1 hB1)
    clear hB1 hp
    have he : (Pl.bs []).toList.isEmpty = true := by rw [Pl.bs_toList]; rfl
    go_wp2_with fail
    go_ret
    exact ⟨by rw [HE.out]; rfl, HB1.out⟩
  · have HP : Hid (Pl.actP k r p nm o vk vn vt m = Pl.actT k r p nm o vk vn vt m) := by show _ = _; unfold Pl.actP; rw [if_pos hb]
    have HE : Hid (Pl.bs (Pl.recP (Pl.actP k r p nm o vk vn vt m)) = ((Pl.bs (Lib.itoa (Pl.crc (Pl.bs (Pl.actT k r p nm o vk vn vt m)) : Int)) ++ ⟨#[32]⟩) ++ Pl.bs (Pl.actT k r p nm o vk vn vt m)) ++ ⟨#[10]⟩) := by
      show _ = _; rw [HP.out]; unfold Pl.recP; rw [if_neg (actT_ne _ _ _ _ _ _ _ _ _)]; exact rec_bs _
    rw [HP.out] at hp
    have hz := actT_short hb hn ht
    have hzc := crc_short (Pl.bs (Pl.actT k r p nm o vk vn vt m))
    have hc := hide (implCrc_any (Pl.bs (Pl.actT k r p nm o vk vn vt m)) (by unfold maxLen; omega))
    obtain ⟨hr0, hr1⟩ := crc_range (Pl.bs (Pl.actT k r p nm o vk vn vt m))
    have hd := hide (fun W hW => itoa_any (Pl.crc (Pl.bs (Pl.actT k r p nm o vk vn vt m))) (by omega) (by omega) W hW)
    have hte : (Pl.bs (Pl.actT k r p nm o vk vn vt m)).toList.isEmpty = false := by
      rw [Pl.bs_toList]
      cases hq : Pl.actT k r p nm o vk vn vt m with
      | nil => exact absurd hq (actT_ne k r p nm o vk vn vt m)
      | cons a l => rfl
    generalize Pl.bs (Pl.actT k r p nm o vk vn vt m) = T at *
    generalize ((Pl.crc T : Nat) : Int) = C at *
    generalize Pl.bs (Lib.itoa C) = D at *
    have g1 : D.size + (⟨#[32]⟩ : ByteArray).size ≤ 9000000 := by show _ + 1 ≤ _; omega
    have g2 : (D ++ ⟨#[32]⟩).size + T.size ≤ 9000000 := by rw [ByteArray.size_append]; show _ + 1 + _ ≤ _; omega
    have g3 : (D ++ ⟨#[32]⟩ ++ T).size + (⟨#[10]⟩ : ByteArray).size ≤ 9000000 := by rw [ByteArray.size_append, ByteArray.size_append]; show _ + 1 + _ + 1 ≤ _; omega
    clear hb HP hr0 hr1
    go_enter Tryz.func15, Tryz.ntmps15
    go_wp2_with fail
    refine (hp.out _ (HT.out.later ((Below.refl _ _).alloc (Nat.le_refl _) _))).mono ?_
    rintro x1 X1 ⟨rfl, hB1⟩
    have HB1 := hide (below_box1 hB1)
    clear hB1 hp
    go_wp2_with fail
    refine (hc.out _).mono ?_
    rintro x2 X2 ⟨rfl, hB2⟩
    have HB2 := hide (HB1.out.trans (hB2.mono HB1.out.size))
    clear hB2
    go_wp2_with fail
    refine (hd.out _ (HT.out.later HB2.out)).mono ?_
    rintro x3 X3 ⟨rfl, hB3⟩
    have HB3 := hide (HB2.out.trans (hB3.mono HB2.out.size))
    clear hB3 hc hd
    go_wp2
    go_ret
    exact ⟨by rw [HE.out]; rfl, HB3.out⟩
set_option maxHeartbeats 1600000 in
theorem lawRecordPut_any (k r p : Int) (nm : ByteArray) (o : Bool) (vk vn : Int) (vt : ByteArray) (m : Int) (hn : nm.size ≤ maxLen) (ht : vt.size ≤ maxLen) (w : World) (hT : Tab w) :
    Calls Tryz.prog 5 #[actV k r p nm o vk vn vt m] w fun e w' => e = .returned (.bool true) ∧ Below w.heap.size w w' := by
  have hs := hide (szAct_full k r p nm o vk vn vt m hn ht 1048576 (by omega) (by omega))
  have hto := hide (toAct_any k r p nm o vk vn vt m)
  have hsp := hide (specRecordPut_any k r p nm o vk vn vt m)
  have him := hide (fun a b W hW => implRecordPut_any k r p nm o vk vn vt m a b W hW)
  have HT := hide hT
  generalize Pl.bs (Pl.recP (Pl.actP k r p nm o vk vn vt m)) = T at hsp him
  go_enter Tryz.func5, Tryz.ntmps5
  go_wp2_with fail
  refine (hs.out _).mono ?_
  rintro e w1 ⟨⟨rr, rfl, hr0⟩, hB1⟩
  have HX1 := hide (BoxNine.mk hB1)
  have HB1 := hide (below_box1 hB1)
  clear hB1 hs
  by_cases h0 : rr < 0
  · go_wp2
    go_ret
    exact ⟨rfl, HB1.out⟩
  · obtain ⟨hn1, ht1⟩ := hr0 (by omega)
    have hsp2 := hide (hsp.out hn1 ht1)
    have him2 := hide (him.out hn1 ht1)
    obtain ⟨z1, c0, c1, c2, c3, c4, c5, c6, c7, c8⟩ := HX1.out
    clear hsp him hn1 ht1 hr0
    go_wp2_with fail
    refine (hto.out _).mono ?_
    rintro e w2 ⟨rfl, hB2⟩
    have HX2 := hide (HX1.out.later hB2)
    have HB2 := hide (HB1.out.trans (hB2.mono HB1.out.size))
    clear hB2 HX1 HB1 c0 c1 c2 c3 c4 c5 c6 c7 c8 z1
    go_wp2_with fail
    refine (hsp2.out _).mono ?_
    rintro e w3 ⟨rfl, hB3⟩
    have HX3 := hide (HX2.out.later hB3)
    have HB3 := hide (HB2.out.trans (hB3.mono HB2.out.size))
    clear hB3 HX2 HB2
    obtain ⟨z1, c0, c1, c2, c3, c4, c5, c6, c7, c8⟩ := HX3.out
    go_wp2_with fail
    refine (hto.out _).mono ?_
    rintro e w4 ⟨rfl, hB4⟩
    have HB4 := hide (HB3.out.trans (hB4.mono HB3.out.size))
    clear hB4 HX3 HB3 c0 c1 c2 c3 c4 c5 c6 c7 c8 z1
    go_wp2_with fail
    refine (him2.out _ (HT.out.later HB4.out)).mono ?_
    rintro e w5 ⟨rfl, hB5⟩
    have HB5 := hide (HB4.out.trans (hB5.mono HB4.out.size))
    clear hB5 HB4
    have hne : (T.toList == T.toList) = true := by simp
    go_wp2
    go_ret
    exact ⟨rfl, HB5.out⟩
end Go.Proofs.YtkkiolljbklccaaGreatDoor

/- The law that what is asked for, and what comes, has what its kind needs, walked. -/
import Derived.Test.YtgefkmdnopfbhaaDw4
import Derived.Test.YtgefkmdnopfbhaaCame2
import Derived.Test.YtgefkmdnopfbhaaLawCmd
namespace Go.Proofs.Ytgefkmdnopfbhaa
open Go.RowKit
set_option linter.unusedVariables false
set_option linter.unusedSimpArgs false

theorem CodeOk.up {n m : Nat} {W : World} {c : Value} {len : Nat} (h : CodeOk n W c len) (hb : n ≤ m) : CodeOk m W c len := by
  obtain ⟨ad, cap, hc, h1, h2, h3⟩ := h
  refine ⟨ad, cap, hc, h1, h2, fun hl => ?_⟩
  obtain ⟨b, off, ha, hbn, hz⟩ := h3 hl
  exact ⟨b, off, ha, by omega, hz⟩
theorem nine_name : Pl.nameB ⟨#[57]⟩ = false := by decide
theorem nine_full : (⟨#[57]⟩ : ByteArray).toList.isEmpty = false := by
  have h : (⟨#[57]⟩ : ByteArray).toList = [57] := by decide +kernel
  rw [h]; rfl
theorem nine_cmd (k vk vn : Int) (vt : ByteArray) : Pl.cmdB k ⟨#[57]⟩ vk vn vt = false := by
  unfold Pl.cmdB
  rw [nine_name, nine_full]
  simp
theorem nine_came (k p : Int) (o : Bool) (vk vn : Int) (vt : ByteArray) : Pl.cameB k p ⟨#[57]⟩ o vk vn vt = false := by
  unfold Pl.cameB
  rw [nine_name, nine_full]
  simp

set_option maxHeartbeats 3200000 in
theorem lawFnCmd (len : Nat) (c : Value) (len2 : Nat) (c2 : Value) (W : World) (hc : CodeOk W.heap.size W c len) (hc2 : CodeOk W.heap.size W c2 len2) :
    Calls Try.prog 5 #[c, c2] W fun e W' => e = .returned (.bool true) ∧ Below W.heap.size W W' := by
  by_cases hbig : 1048576 < len
  · obtain ⟨ad, cap, rfl, hlc, hcm, _⟩ := hc
    obtain ⟨ad2, cap2, rfl, hlc2, hcm2, _⟩ := hc2
    unfold maxLen at hcm hcm2
    have hb1 : decide ((1048576 : Int) < (len : Int)) = true := by simp; omega
    go_enter Try.func5, Try.ntmps5
    go_wp2
    go_ret
    exact ⟨rfl, Below.refl _ _⟩
  by_cases hbig2 : 1048576 < len2
  · obtain ⟨ad, cap, rfl, hlc, hcm, _⟩ := hc
    obtain ⟨ad2, cap2, rfl, hlc2, hcm2, _⟩ := hc2
    unfold maxLen at hcm hcm2
    have hb1 : decide ((1048576 : Int) < (len : Int)) = false := by simp; omega
    go_enter Try.func5, Try.ntmps5
    go_wp2
    go_ret
    exact ⟨rfl, Below.refl _ _⟩
  have hd := hide (drawCmdOk_any len c W hc (by omega))
  have hcc := hide (fun (W1 : World) (hB : Below W.heap.size W W1) => drawCameOk_any len2 c2 W1 ((hc2.later hB).up hB.size) (by omega))
  obtain ⟨ad, cap, rfl, hlc, hcm, _⟩ := hc
  obtain ⟨ad2, cap2, rfl, hlc2, hcm2, _⟩ := hc2
  unfold maxLen at hcm hcm2
  have hb1 : decide ((1048576 : Int) < (len : Int)) = false := by simp; omega
  have hb2 : decide ((1048576 : Int) < (len2 : Int)) = false := by simp; omega
  go_enter Try.func5, Try.ntmps5
  go_wp2_with fail
  refine hd.out.mono ?_
  rintro e W1 ⟨⟨k, nm, vk, vn, vt, hnm, hvt, rfl⟩, hB1⟩
  have HB1 := hide hB1
  have hb1sz := hB1.size
  have hms : ∀ s : ByteArray, Sh s → s.size ≤ maxLen := fun s h => by unfold Sh at h; unfold maxLen; omega
  have hic := hide (implCmdOk_any k nm vk vn vt (hms _ hnm) (hms _ hvt))
  have hsc := hide (specCmdOk_any k nm vk vn vt (hms _ hnm) (hms _ hvt))
  have hi9 := implCmdOk_any k ⟨#[57]⟩ vk vn vt (by decide) (hms _ hvt)
  rw [nine_cmd] at hi9
  have HI9 := hide hi9
  clear hi9 hB1 hnm hvt
  generalize Pl.cmdB k nm vk vn vt = b at hic hsc
  go_wp2_with fail
  refine (hcc.out _ (HB1.out.alloc HB1.out.size _)).mono ?_
  rintro e W2 ⟨⟨mk, pl, mn, mo, mvk, mvn, mvt, hmn, hmt, rfl⟩, hB2⟩
  have HC2 := hide (below_blk hB2 (by simp) (heap_alloc_new W1 _))
  have HB2 := hide (HB1.out.trans ((below_box1 hB2).mono HB1.out.size))
  have hid := hide (implCameOk_any mk pl mn mo mvk mvn mvt (hms _ hmn) (hms _ hmt))
  have hsd := hide (specCameOk_any mk pl mn mo mvk mvn mvt (hms _ hmn) (hms _ hmt))
  have hj9 := implCameOk_any mk pl ⟨#[57]⟩ mo mvk mvn mvt (by decide) (hms _ hmt)
  rw [nine_came] at hj9
  have HJ9 := hide hj9
  have h12 : W1.heap.size < W2.heap.size := (Array.getElem?_eq_some_iff.1 HC2.out).1
  clear hj9 hB2 hmn hmt hcc HB1
  generalize Pl.cameB mk pl mn mo mvk mvn mvt = b2 at hid hsd
  go_wp2_with fail
  have HX3 := hide (heap_alloc_new W2 (.cells #[.int .i64 mk, .int .i64 pl, .string mn, .bool mo, .int .i64 mvk, .int .i64 mvn, .string mvt] 38))
  have HC3 := hide (blk_alloc HC2.out (o2 := .cells #[.int .i64 mk, .int .i64 pl, .string mn, .bool mo, .int .i64 mvk, .int .i64 mvn, .string mvt] 38))
  have HB3 := hide (HB2.out.alloc HB2.out.size (.cells #[.int .i64 mk, .int .i64 pl, .string mn, .bool mo, .int .i64 mvk, .int .i64 mvn, .string mvt] 38))
  clear HC2 HB2
  generalize W2.alloc (.cells #[.int .i64 mk, .int .i64 pl, .string mn, .bool mo, .int .i64 mvk, .int .i64 mvn, .string mvt] 38) = W3 at HX3 HC3 HB3 ⊢
  have hn1 : W.heap.size ≤ W1.heap.size := hb1sz
  generalize W2.heap.size = n2 at HX3 HC3 HB3 h12 ⊢
  generalize W1.heap.size = n1 at HX3 HC3 HB3 h12 hn1 ⊢
  have h23 : n2 < W3.heap.size := (Array.getElem?_eq_some_iff.1 HX3.out).1
  have hbb : (b != b) = false := by simp
  have hbb2 : (b2 != b2) = false := by simp
  obtain ⟨c0, c1, c2, c3, c4, g0, g1, g2, g3, g4⟩ := Cells5.mk HC3.out
  go_region_with (first
    | (go_at_call 9; refine (hic.out _).mono ?_; rintro e W4 ⟨rfl, hB4⟩; have HB4 : Hid (Below W3.heap.size W3 W4) := (Below.refl _ W3).drew.trans hB4; have HC4 := hide (below_blk HB4.out (by omega) HC3.out); obtain ⟨d0, d1, d2, d3, d4, _, _, _, _, _⟩ := Cells5.mk HC4.out; have h34 : n2 < W4.heap.size := (by have := HB4.out.size; omega); clear hB4)
    | (go_at_call 7; refine (hsc.out _).mono ?_; rintro e W5 ⟨rfl, hB5⟩; have HB5 := hide (HB4.out.trans (hB5.mono HB4.out.size)); have HX5 := hide (below_blk HB5.out (by omega) HX3.out); obtain ⟨x0, x1, x2, x3, x4, x5, x6, _, _, _, _, _, _, _⟩ := Cells7.mk HX5.out; have h45 : n2 < W5.heap.size := (by have := HB5.out.size; omega); clear hB5)
    | (go_at_call 13; refine (hid.out _).mono ?_; rintro e W6 ⟨rfl, hB6⟩; have HB6 := hide (HB5.out.trans (hB6.mono HB5.out.size)); have HX6 := hide (below_blk HB6.out (by omega) HX3.out); obtain ⟨y0, y1, y2, y3, y4, y5, y6, _, _, _, _, _, _, _⟩ := Cells7.mk HX6.out; have h56 : n2 < W6.heap.size := (by have := HB6.out.size; omega); clear hB6)
    | (go_at_call 11; refine (hsd.out _).mono ?_; rintro e W7 ⟨rfl, hB7⟩; have HB7 := hide (HB6.out.trans (hB7.mono HB6.out.size)); clear hB7))
  all_goals
    have HC7 := hide (below_blk HB7.out (by omega) HC3.out)
    have HX7 := hide (below_blk HB7.out (by omega) HX3.out)
    have HH7 := hide (HB3.out.trans (HB7.out.mono HB3.out.size))
    have h67 : n2 < W7.heap.size := (Array.getElem?_eq_some_iff.1 HX7.out).1
    clear HB7
    obtain ⟨e0, e1, e2, e3, e4, p0, p1, p2, p3, p4⟩ := Cells5.mk HC7.out
    obtain ⟨z0, z1, z2, z3, z4, z5, z6, q0, q1, q2, q3, q4, q5, q6⟩ := Cells7.mk HX7.out
    go_wp2_with fail
    have HX8 : Hid (((W7.setCell ⟨n1, 1, none⟩ (.string ⟨#[57]⟩)).setCell ⟨n2, 2, none⟩ (.string ⟨#[57]⟩)).heap[n2]? = some (.cells #[.int .i64 mk, .int .i64 pl, .string ⟨#[57]⟩, .bool mo, .int .i64 mvk, .int .i64 mvn, .string mvt] 38 (0, 0))) := by
      show _ = _
      rw [block_set (blk_set HX7.out (g := n1) (by omega) 1 _) 2 _]
      rfl
    have HH8 := hide ((HH7.out.setCell (p := ⟨n1, 1, none⟩) hn1 (.string ⟨#[57]⟩)).setCell (p := ⟨n2, 2, none⟩) (by show _ ≤ n2; omega) (.string ⟨#[57]⟩))
    have h78 : n2 < ((W7.setCell ⟨n1, 1, none⟩ (.string ⟨#[57]⟩)).setCell ⟨n2, 2, none⟩ (.string ⟨#[57]⟩)).heap.size := (Array.getElem?_eq_some_iff.1 HX8.out).1
    refine (HI9.out _).mono ?_
    rintro e W8 ⟨rfl, hB8⟩
    have HX9 := hide (below_blk hB8 h78 HX8.out)
    have HH9 := hide (HH8.out.trans (hB8.mono HH8.out.size))
    have h89 : n2 < W8.heap.size := (Array.getElem?_eq_some_iff.1 HX9.out).1
    clear hB8 HX8 HH8 h78 z0 z1 z2 z3 z4 z5 z6 q0 q1 q2 q3 q4 q5 q6 e0 e1 e2 e3 e4 p0 p1 p2 p3 p4
    obtain ⟨z0, z1, z2, z3, z4, z5, z6, _, _, _, _, _, _, _⟩ := Cells7.mk HX9.out
    go_wp2_with fail
    refine (HJ9.out _).mono ?_
    rintro e W9 ⟨rfl, hB9⟩
    have HHA := hide (HH9.out.trans (hB9.mono HH9.out.size))
    clear hB9
    go_wp2
    go_ret
    exact ⟨rfl, HHA.out⟩
end Go.Proofs.Ytgefkmdnopfbhaa

/- The law that words of two texts, a line end between, are those of both, walked. -/
import Derived.Test.YteadmjhmahjmdaaLawFnWords
namespace Go.Proofs.Yteadmjhmahjmdaa
open Go.RowKit
set_option linter.unusedVariables false

theorem implWords_no (s : ByteArray) (hs : s.size ≤ 2097152) (h : (Pl.tk s.data.toList).2 = false) (w : World) :
    Calls Try.prog 7 #[.string s] w fun e w' => ∃ v, e = .returned (.tuple #[v, .bool false]) ∧ TextsAt w' v [] ∧ Below w.heap.size w w' := by
  have hw := implWords_any s hs w
  rw [Pl.wordsL_no _ h, h] at hw
  refine hw.mono ?_
  rintro e w' ⟨v, rfl, hr, hB⟩
  exact ⟨v, rfl, texts_of_row hr, hB⟩
theorem implWords_texts (s : ByteArray) (hs : s.size ≤ 2097152) (w : World) :
    Calls Try.prog 7 #[.string s] w fun e w' => ∃ v, e = .returned (.tuple #[v, .bool (Pl.tk s.data.toList).2]) ∧ TextsAt w' v (Pl.wordsL s.data.toList) ∧ Below w.heap.size w w' := by
  refine (implWords_any s hs w).mono ?_
  rintro e w' ⟨v, rfl, hr, hB⟩
  exact ⟨v, rfl, texts_of_row hr, hB⟩
theorem specWords_texts (s : ByteArray) (hs : s.size ≤ 2097152) (w : World) :
    Calls Try.prog 8 #[.string s] w fun e w' => ∃ v, e = .returned (.tuple #[v, .bool (Pl.tk s.data.toList).2]) ∧ TextsAt w' v (Pl.wordsL s.data.toList) ∧ Below w.heap.size w w' := by
  refine (specWords_any s hs w).mono ?_
  rintro e w' ⟨v, rfl, hr, hB⟩
  exact ⟨v, rfl, texts_of_row hr, hB⟩

theorem CodeOk.up {n m : Nat} {W : World} {c : Value} {len : Nat} (h : CodeOk n W c len) (hb : n ≤ m) : CodeOk m W c len := by
  obtain ⟨ad, cap, hc, h1, h2, h3⟩ := h
  refine ⟨ad, cap, hc, h1, h2, fun hl => ?_⟩
  obtain ⟨b, off, ha, hbn, hz⟩ := h3 hl
  exact ⟨b, off, ha, by omega, hz⟩

theorem TextsAt.head {w : World} {ad : Option Addr} {n cap : Nat} {X Y : List (List UInt8)} (h : TextsAt w (.slice ad n cap) (X ++ Y)) : TextsAt w (.slice ad X.length cap) X := by
  obtain ⟨a', c', hv, h1, h2, h3⟩ := h
  cases hv
  rw [List.length_append] at h1 h3
  refine ⟨ad, cap, rfl, by omega, h2, fun hl => ?_⟩
  obtain ⟨g, off, ha, hg, hc⟩ := h3 (by omega)
  refine ⟨g, off, ha, hg, fun i hi => ?_⟩
  have := hc i (by omega)
  rw [List.getElem?_append_left hi] at this
  exact this
theorem TextsAt.tail {w : World} {ad : Option Addr} {n cap : Nat} {X Y : List (List UInt8)} (h : TextsAt w (.slice ad n cap) (X ++ Y)) : TextsAt w (.slice (Option.map (fun x => x.add X.length) ad) Y.length (cap - X.length)) Y := by
  obtain ⟨a', c', hv, h1, h2, h3⟩ := h
  cases hv
  rw [List.length_append] at h1 h3
  refine ⟨_, _, rfl, by omega, by omega, fun hl => ?_⟩
  obtain ⟨g', off', ha, hg, hc⟩ := h3 (by omega)
  subst ha
  refine ⟨g', off' + X.length, by unfold Addr.add; simp only [Option.map_some]; split <;> simp_all, hg, fun i hi => ?_⟩
  have := hc (X.length + i) (by omega)
  rw [List.getElem?_append_right (by omega), Nat.add_sub_cancel_left, ← Nat.add_assoc] at this
  exact this
theorem TextsAt.none {w : World} {ad : Option Addr} {Y : List (List UInt8)} (h : Y.length = 0) : TextsAt w (.slice ad Y.length 0) Y :=
  ⟨ad, 0, rfl, by omega, by unfold maxLen; omega, fun hl => by omega⟩

set_option maxHeartbeats 1600000 in
theorem lawWordsTwo (len : Nat) (c : Value) (len2 : Nat) (c2 : Value) (W : World) (hc : CodeOk W.heap.size W c len) (hc2 : CodeOk W.heap.size W c2 len2) :
    Calls Try.prog 5 #[c, c2] W fun e W' => e = .returned (.bool true) ∧ Below W.heap.size W W' := by
  by_cases hbig : 1048576 < len
  · obtain ⟨ad, cap, rfl, hlc, hcm, _⟩ := hc
    obtain ⟨ad2, cap2, rfl, hlc2, hcm2, _⟩ := hc2
    unfold maxLen at hcm hcm2
    have hb1 : decide ((1048576 : Int) < (len : Int)) = true := by simp; omega
    go_enter Try.func5, Try.ntmps5
    go_wp2
    go_ret
    exact ⟨rfl, Below.refl _ _⟩
  by_cases hbig2 : 1048576 < len2
  · obtain ⟨ad, cap, rfl, hlc, hcm, _⟩ := hc
    obtain ⟨ad2, cap2, rfl, hlc2, hcm2, _⟩ := hc2
    unfold maxLen at hcm hcm2
    have hb1 : decide ((1048576 : Int) < (len : Int)) = false := by simp; omega
    go_enter Try.func5, Try.ntmps5
    go_wp2
    go_ret
    exact ⟨rfl, Below.refl _ _⟩
  have hd := hide (drawWords_any len c W hc (by omega))
  have hcc := hide hc2
  obtain ⟨ad, cap, rfl, hlc, hcm, _⟩ := hc
  obtain ⟨ad2, cap2, rfl, hlc2, hcm2, _⟩ := hc2
  unfold maxLen at hcm hcm2
  have hb1 : decide ((1048576 : Int) < (len : Int)) = false := by simp; omega
  have hb2 : decide ((1048576 : Int) < (len2 : Int)) = false := by simp; omega
  go_enter Try.func5, Try.ntmps5
  go_wp2_with fail
  refine hd.out.mono ?_
  rintro e W1 ⟨s, hs, rfl, hB1⟩
  have hd2 := hide (drawWords_any len2 _ W1 ((hcc.out.later hB1).up hB1.size) (by omega))
  clear hd hcc
  go_wp2_with fail
  refine hd2.out.mono ?_
  rintro e W2 ⟨t, ht, rfl, hB2⟩
  clear hd2
  have hi := hide (implWords_texts s (by omega) W2)
  have hj := hide (implWords_texts t (by omega))
  have hsp := hide (specWords_texts s (by omega))
  have hN := (Pl.wordsL_facts s).1
  have hM := (Pl.wordsL_facts t).1
  have hboth : Hid ((Pl.tk s.data.toList).2 = true → (Pl.tk t.data.toList).2 = true → Pl.tk (s ++ ({ data := #[10] } : ByteArray) ++ t).data.toList = (Pl.wordsL s.data.toList ++ Pl.wordsL t.data.toList, true)) := by
    refine hide fun h1 h2 => ?_
    rw [words_data2, words_data2, Pl.wordsL_ok _ h1, Pl.wordsL_ok _ h2]
    show Pl.tk (s.data.toList ++ [10] ++ t.data.toList) = _
    rw [List.append_assoc]
    show Pl.tk (s.data.toList ++ 10 :: t.data.toList) = _
    rw [Pl.tk_line _ _ h1, h2]
  generalize Pl.wordsL s.data.toList = X at *
  generalize Pl.wordsL t.data.toList = Y at *
  generalize (Pl.tk s.data.toList).2 = b1 at *
  generalize (Pl.tk t.data.toList).2 = b2 at *
  go_wp2_with fail
  refine hi.out.mono ?_
  rintro e W3 ⟨x, rfl, hx, hB3⟩
  have HX := hide hx
  clear hx hi
  go_wp2_with fail
  refine (hj.out _).mono ?_
  rintro e W4 ⟨y, rfl, hy, hB4⟩
  have HY := hide hy
  clear hy hj
  go_wp2_with fail
  refine (hsp.out _).mono ?_
  rintro e W5 ⟨u, rfl, hu, hB5⟩
  have HU := hide hu
  have HX5 := hide ((HX.out.later hB4).later hB5)
  have HY5 := hide (HY.out.later hB5)
  clear hu hsp HX HY
  have hB0 : Below W.heap.size W W5 := by
    have s1 := hB1.size
    have s2 := hB2.size
    have s3 := hB3.size
    have s4 := hB4.size
    exact ((((hB1.trans (hB2.mono s1)).trans (hB3.mono (by omega))).trans (hB4.mono (by omega))).trans (hB5.mono (by omega)))
  have s5 := hB0.size
  clear hB1 hB2 hB3 hB4 hB5
  go_wp2_with fail
  refine (bkTexts_same X _ _ (by omega) _ HX5.out HU.out).mono ?_
  rintro e W6 ⟨rfl, hB6⟩
  have HX6 := hide (HX5.out.later hB6)
  have HU6 := hide (HU.out.later hB6)
  have HY6 := hide (HY5.out.later hB6)
  clear HX5 HU HY5
  have s6 := hB6.size
  cases b1
  · go_wp2_with fail
    refine (bkTexts_same X _ _ (by omega) _ HX6.out HU6.out).mono ?_
    rintro e W7 ⟨rfl, hB7⟩
    go_wp2
    go_ret
    exact ⟨rfl, (hB0.trans (hB6.mono s5)).trans (hB7.mono (by omega))⟩
  cases b2
  · go_wp2_with fail
    refine (bkTexts_same X _ _ (by omega) _ HX6.out HU6.out).mono ?_
    rintro e W7 ⟨rfl, hB7⟩
    go_wp2
    go_ret
    exact ⟨rfl, (hB0.trans (hB6.mono s5)).trans (hB7.mono (by omega))⟩
  have hq := hide (implWords_of (s ++ ({ data := #[10] } : ByteArray) ++ t) (X ++ Y) (by
    have h1 : ({ data := #[10] } : ByteArray).size = 1 := rfl
    rw [words_append2, words_append2, h1]; omega) (hboth.out rfl rfl))
  obtain ⟨xa, xc, rfl, hxc, hxm, _⟩ := HX6.out
  obtain ⟨ya, yc, rfl, hyc, hym, _⟩ := HY6.out
  unfold maxLen at hxm hym
  go_wp2_with fail
  refine (hq.out _).mono ?_
  rintro e W7 ⟨z, rfl, hz, hB7⟩
  have HX7 := hide (HX6.out.later hB7)
  have HY7 := hide (HY6.out.later hB7)
  have HZ := hide hz
  clear hz hq hboth HX6 HY6
  obtain ⟨za, zc, rfl, hzc, hzm, hzx⟩ := HZ.out
  unfold maxLen at hzm
  rw [List.length_append] at hzc hzx
  rw [List.length_append]
  have hzi : ((X.length + Y.length : Nat) : Int) = (X.length : Int) + (Y.length : Int) := by omega
  clear hzx
  go_wp2_with fail
  refine (bkTexts_same X _ _ (by omega) _ HZ.out.head HX7.out).mono ?_
  rintro e W8 ⟨rfl, hB8⟩
  have HY8 := hide (HY7.out.later hB8)
  have HZ8 := hide (HZ.out.later hB8)
  have s7 := hB7.size
  have s8 := hB8.size
  clear HX7 HY7 HZ
  have hT := hide HZ8.out.tail
  clear HU6 HZ8
  go_wp2_with fail
  · refine (bkTexts_same Y _ _ (by omega) _ (TextsAt.none (by omega)) HY8.out).mono ?_
    rintro e W9 ⟨rfl, hB9⟩
    go_wp2
    go_ret
    exact ⟨rfl, (((hB0.trans (hB6.mono s5)).trans (hB7.mono (by omega))).trans (hB8.mono (by omega))).trans (hB9.mono (by omega))⟩
  · refine (bkTexts_same Y _ _ (by omega) _ hT.out HY8.out).mono ?_
    rintro e W9 ⟨rfl, hB9⟩
    go_wp2
    go_ret
    exact ⟨rfl, (((hB0.trans (hB6.mono s5)).trans (hB7.mono (by omega))).trans (hB8.mono (by omega))).trans (hB9.mono (by omega))⟩
end Go.Proofs.Yteadmjhmahjmdaa

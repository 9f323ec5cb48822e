/- The law that words with blanks between are the same words, walked. -/
import Derived.Test.YteadmjhmahjmdaaDrawW
import Derived.Test.YteadmjhmahjmdaaTexts
import Derived.Test.YteadmjhmahjmdaaPlB
namespace Go.Proofs.Yteadmjhmahjmdaa
open Go.RowKit
set_option linter.unusedVariables false

namespace Pl
theorem joined_len : ∀ (L : List (List UInt8)) (m : Nat), (∀ x ∈ L, x.length ≤ m) → (joined L).length ≤ L.length * (m + 1)
  | [], _, _ => by simp [joined]
  | x :: L, m, h => by
    have ih := joined_len L m (fun y hy => h y (by simp [hy]))
    have hx := h x (by simp)
    simp only [joined, List.length_append, List.length_cons]
    rw [Nat.add_mul]
    omega
theorem joined_take (L : List (List UInt8)) (k : Nat) (h : k < L.length) : joined (L.take (k + 1)) = joined (L.take k) ++ (L[k]?.getD []) ++ [32] := by
  rw [List.take_add_one, List.getElem?_eq_getElem h]
  exact joined_snoc _ _
theorem wordsL_facts (s : ByteArray) : (wordsL s.data.toList).length ≤ s.size ∧ (∀ x ∈ wordsL s.data.toList, x.length ≤ s.size) ∧ (∀ x ∈ wordsL s.data.toList, IsWord x) := by
  have h2 : s.data.toList.length = s.size := by simp
  have h1 := tk_len s.data.toList
  unfold wordsL
  split
  · refine ⟨by omega, fun x hx => ?_, fun x hx => toks_words _ _ x hx⟩
    have := h1.2 x hx; omega
  · exact ⟨by simp, fun x hx => by simp at hx, fun x hx => by simp at hx⟩
theorem wordsL_ok (l : List UInt8) (h : (tk l).2 = true) : wordsL l = (tk l).1 := by unfold wordsL; rw [if_pos h]
theorem wordsL_no (l : List UInt8) (h : (tk l).2 = false) : wordsL l = [] := by unfold wordsL; rw [h]; rfl
end Pl
theorem words_append2 (a b : ByteArray) : (a ++ b).size = a.size + b.size := by simp
theorem words_data2 (a b : ByteArray) : (a ++ b).data.toList = a.data.toList ++ b.data.toList := by simp

theorem implWords_of (s : ByteArray) (L : List (List UInt8)) (hs : s.size ≤ 2097152) (h : Pl.tk s.data.toList = (L, true)) (w : World) :
    Calls Try.prog 7 #[.string s] w fun e w' => ∃ v, e = .returned (.tuple #[v, .bool true]) ∧ TextsAt w' v L ∧ Below w.heap.size w w' := by
  have hw := implWords_any s hs w
  have hl : Pl.wordsL s.data.toList = L := by unfold Pl.wordsL; rw [h]; rfl
  rw [hl, h] at hw
  refine hw.mono ?_
  rintro e w' ⟨v, rfl, hr, hB⟩
  exact ⟨v, rfl, texts_of_row hr, hB⟩

set_option maxHeartbeats 1600000 in
theorem lawWordsFn (len : Nat) (c : Value) (W : World) (hc : CodeOk W.heap.size W c len) :
    Calls Try.prog 3 #[c] W fun e W' => e = .returned (.bool true) ∧ Below W.heap.size W W' := by
  by_cases hbig : 1048576 < len
  · obtain ⟨ad, cap, rfl, hlc, hcm, _⟩ := hc
    unfold maxLen at hcm
    go_enter Try.func3, Try.ntmps3
    go_wp2
    go_ret
    exact ⟨rfl, Below.refl _ _⟩
  · have hd := hide (drawWords_any len c W hc (by omega))
    obtain ⟨ad, cap, rfl, hlc, hcm, hcl⟩ := hc
    clear hcl
    unfold maxLen at hcm
    go_enter Try.func3, Try.ntmps3
    go_wp2_with fail
    refine hd.out.mono ?_
    rintro e W1 ⟨s, hs, rfl, hB1⟩
    clear hd
    have hi := hide (implWords_any s (by omega) W1)
    have hsp := hide (specWords_any s (by omega))
    obtain ⟨hL1, hL2, hL3⟩ := Pl.wordsL_facts s
    cases hb : (Pl.tk s.data.toList).2
    · have hno := Pl.wordsL_no _ hb
      rw [hno, hb] at hi hsp
      clear hL1 hL2 hL3
      go_wp2_with fail
      refine hi.out.mono ?_
      rintro e W2 ⟨v, rfl, hr2, hB2⟩
      have ht2 : TextsAt W2 v [] := texts_of_row hr2
      clear hr2
      go_wp2_with fail
      refine (hsp.out _).mono ?_
      rintro e W3 ⟨u, rfl, hr3, hB3⟩
      have ht3 : TextsAt W3 u [] := texts_of_row hr3
      clear hr3
      have HT2 := hide (ht2.later hB3)
      have HT3 := hide ht3
      clear ht2 ht3
      go_wp2_with fail
      refine (bkTexts_same [] _ _ (by simp) _ HT2.out HT3.out).mono ?_
      rintro e W4 ⟨rfl, hB4⟩
      have HT24 := hide (HT2.out.later hB4)
      have HT34 := hide (HT3.out.later hB4)
      go_wp2_with fail
      refine (bkTexts_same [] _ _ (by simp) _ HT24.out HT34.out).mono ?_
      rintro e W5 ⟨rfl, hB5⟩
      go_wp2
      go_ret
      have s1 := hB1.size
      have s2 := hB2.size
      have s3 := hB3.size
      have s4 := hB4.size
      exact ⟨rfl, (((hB1.trans (hB2.mono s1)).trans (hB3.mono (by omega))).trans (hB4.mono (by omega))).trans (hB5.mono (by omega))⟩
    · have hok := Pl.wordsL_ok _ hb
      have hnote : Pl.tk (s ++ ({ data := #[10, 35, 32, 110, 111, 116, 101] } : ByteArray)).data.toList = (Pl.wordsL s.data.toList, true) := by
        rw [words_data2, hok]
        show Pl.tk (s.data.toList ++ 10 :: [35, 32, 110, 111, 116, 101]) = _
        rw [Pl.tk_line _ _ hb, Pl.tk_note]
        simp
      rw [hb] at hi hsp
      clear hok
      generalize hLL : Pl.wordsL s.data.toList = L at *
      have hN : L.length ≤ 1000 := by omega
      have hJ : ∀ k, (Pl.joined (L.take k)).length ≤ 1001000 := by
        intro k
        have h1 := Pl.joined_len (L.take k) 1000 (fun x hx => by have := hL2 x (List.mem_of_mem_take hx); omega)
        have h2 : (L.take k).length ≤ 1000 := by rw [List.length_take]; omega
        have h3 : (L.take k).length * (1000 + 1) ≤ 1000 * (1000 + 1) := Nat.mul_le_mul_right _ h2
        omega
      have hJo : Pl.tk (Pl.joined L) = (L, true) := Pl.tk_joined L hL3
      clear hLL hL1 hL2 hL3
      go_wp2_with fail
      refine hi.out.mono ?_
      rintro e W2 ⟨v, rfl, hr2, hB2⟩
      have ht2 : TextsAt W2 v L := texts_of_row hr2
      clear hr2
      go_wp2_with fail
      refine (hsp.out _).mono ?_
      rintro e W3 ⟨u, rfl, hr3, hB3⟩
      have ht3 : TextsAt W3 u L := texts_of_row hr3
      clear hr3
      have HT2 := hide (ht2.later hB3)
      have HT3 := hide ht3
      clear ht2 ht3
      go_wp2_with fail
      refine (bkTexts_same L _ _ (by omega) _ HT2.out HT3.out).mono ?_
      rintro e W4 ⟨rfl, hB4⟩
      have ht := HT2.out.later hB4
      have HT := hide ht
      clear HT2 HT3
      obtain ⟨la, lc, rfl, hlc2, hlm, hlx⟩ := ht
      have HX := hide hlx
      clear hlx
      unfold maxLen at hlm
      have hlN : L.length < 2 ^ 63 := by omega
      clear hi hsp
      have HJ := hide hJ
      clear hJ
      go_wp2_with fail
      go_loopw [8, 9] (fun al i wr => ∃ k : Nat, k ≤ L.length ∧ i = .int .i64 k ∧ al = .string (Pl.bs (Pl.joined (L.take k))) ∧ Below W4.heap.size W4 wr) (fun _ i _ => L.length - (intOf i).toNat)
      case atStart => exact ⟨0, by omega, rfl, rfl, Below.refl _ _⟩
      case round =>
        obtain ⟨k, hk, rfl, rfl, hBr⟩ := hrel
        by_cases hlt : k < L.length
        · obtain ⟨g, off, rfl, hg, hcell⟩ := HX.out (by omega)
          have c1 : wr.cell? ⟨g, off + k, none⟩ = some (sv (L[k]?.getD [])) := by
            rw [hBr.cell (p := ⟨g, off + k, none⟩) hg, hcell k hlt]
          have hj := Pl.joined_take L k hlt
          have hs1 := HJ.out k
          have hs2 := HJ.out (k + 1)
          rw [hj, List.length_append, List.length_append] at hs2
          generalize hX : L[k]?.getD [] = X at c1 hj hs2
          clear hcell hX
          have hki : (k : Int) < (L.length : Int) := by omega
          generalize hN2 : L.length = N at *
          have z1 : (Pl.bs (Pl.joined (List.take k L))).size + (Pl.bs X).size ≤ 1000999 := by
            rw [Pl.bs_size, Pl.bs_size]
            have : [(32 : UInt8)].length = 1 := rfl
            omega
          clear hs1 hs2
          go_wp2
          go_roundw
          case rel =>
            refine ⟨k + 1, by omega, by go_num, ?_, hBr⟩
            rw [hj]
            refine congrArg Value.string (Pl.eq_of_data ?_)
            rw [words_data2, words_data2]
            rfl
          case measure => simp [intOf]; omega
        · have hke : k = L.length := by omega
          subst hke
          rw [List.take_length]
          have hq1 := hide (implWords_of (Pl.bs (Pl.joined L)) L (by have := HJ.out L.length; rw [List.take_length] at this; rw [Pl.bs_size]; omega) hJo)
          have hq2 := hide (implWords_of (s ++ ({ data := #[10, 35, 32, 110, 111, 116, 101] } : ByteArray)) L (by
            have h1 : ({ data := #[10, 35, 32, 110, 111, 116, 101] } : ByteArray).size = 7 := rfl
            rw [words_append2, h1]; omega) hnote)
          clear hJo hnote hk hlt
          go_wp2_with fail
          refine (hq1.out _).mono ?_
          rintro e W5 ⟨x, rfl, hx, hB5⟩
          have HXX := hide hx
          clear hx
          go_wp2_with fail
          refine (hq2.out _).mono ?_
          rintro e W6 ⟨y, rfl, hy, hB6⟩
          have HYY := hide hy
          clear hy
          have HL6 := hide (((HT.out.later hBr).later hB5).later hB6)
          have HX6 := hide (HXX.out.later hB6)
          clear hq1 hq2
          go_wp2_with fail
          refine (bkTexts_same L _ _ (by omega) _ HX6.out HL6.out).mono ?_
          rintro e W7 ⟨rfl, hB7⟩
          have HY7 := hide (HYY.out.later hB7)
          have HL7 := hide (HL6.out.later hB7)
          go_wp2_with fail
          refine (bkTexts_same L _ _ (by omega) _ HY7.out HL7.out).mono ?_
          rintro e W8 ⟨rfl, hB8⟩
          go_wp2
          go_ret
          have s1 := hB1.size
          have s2 := hB2.size
          have s3 := hB3.size
          have s4 := hB4.size
          have s5 := hBr.size
          have s6 := hB5.size
          have s7 := hB6.size
          have s8 := hB7.size
          exact ⟨rfl, (((((((hB1.trans (hB2.mono s1)).trans (hB3.mono (by omega))).trans (hB4.mono (by omega))).trans (hBr.mono (by omega))).trans (hB5.mono (by omega))).trans (hB6.mono (by omega))).trans (hB7.mono (by omega))).trans (hB8.mono (by omega))⟩
end Go.Proofs.Yteadmjhmahjmdaa

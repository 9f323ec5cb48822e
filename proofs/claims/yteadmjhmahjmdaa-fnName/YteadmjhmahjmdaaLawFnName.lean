/- The law that a name is one word, walked. -/
import Derived.Test.YteadmjhmahjmdaaDrawT
import Derived.Test.YteadmjhmahjmdaaTexts
import Derived.Test.YteadmjhmahjmdaaName2
import Derived.Test.YteadmjhmahjmdaaPlN
namespace Go.Proofs.Yteadmjhmahjmdaa
open Go.RowKit
set_option linter.unusedVariables false

set_option maxHeartbeats 400000 in
theorem specNameOk_any (s : ByteArray) (hs : s.size ≤ maxLen) (w : World) :
    Calls Try.prog 12 #[.string s] w fun e w' => e = .returned (.bool (Pl.nameB s)) ∧ Below w.heap.size w w' := by
  go_enter Try.func12, Try.ntmps12
  go_wp2_with (go_at_call 22; refine (l1Name_any _ hs _).mono ?_; rintro e w' ⟨rfl, hB⟩)
  go_ret
  exact ⟨rfl, hB⟩

theorem size_append2 (a b : ByteArray) : (a ++ b).size = a.size + b.size := by simp
theorem data_append (a b : ByteArray) : (a ++ b).data.toList = a.data.toList ++ b.data.toList := by simp

set_option maxHeartbeats 1600000 in
theorem lawName (len : Nat) (c : Value) (W : World) (hc : CodeOk W.heap.size W c len) :
    Calls Try.prog 4 #[c] W fun e W' => e = .returned (.bool true) ∧ Below W.heap.size W W' := by
  by_cases hbig : 1048576 < len
  · obtain ⟨ad, cap, rfl, hlc, hcm, _⟩ := hc
    unfold maxLen at hcm
    go_enter Try.func4, Try.ntmps4
    go_wp2
    go_ret
    exact ⟨rfl, Below.refl _ _⟩
  · have hd := hide (drawNameOk_any len c W hc (by omega))
    obtain ⟨ad, cap, rfl, hlc, hcm, hcl⟩ := hc
    clear hcl
    unfold maxLen at hcm
    go_enter Try.func4, Try.ntmps4
    go_wp2_with fail
    refine hd.out.mono ?_
    rintro e W1 ⟨s, hs, rfl, hB1⟩
    have hmax : s.size ≤ maxLen := by unfold maxLen; omega
    have hi := hide (implNameOk_any s hmax)
    have hsp := hide (specNameOk_any s hmax)
    cases hb : Pl.nameB s
    · rw [hb] at hi hsp
      go_wp2_with fail
      refine (hi.out _).mono ?_
      rintro e W2 ⟨rfl, rfl⟩
      go_wp2_with fail
      refine (hsp.out _).mono ?_
      rintro e W3 ⟨rfl, hB3⟩
      go_wp2_with fail
      refine (hsp.out _).mono ?_
      rintro e W4 ⟨rfl, hB4⟩
      go_wp2
      go_ret
      exact ⟨rfl, (hB1.trans (hB3.mono hB1.size)).trans (hB4.mono (by have := hB1.size; have := hB3.size; omega))⟩
    · rw [hb] at hi hsp
      go_wp2_with fail
      refine (hi.out _).mono ?_
      rintro e W2 ⟨rfl, rfl⟩
      go_wp2_with fail
      refine (hsp.out _).mono ?_
      rintro e W3 ⟨rfl, hB3⟩
      go_wp2_with fail
      have htk : Pl.tk (({ data := #[32] } : ByteArray) ++ s ++ { data := #[32] }).data.toList = ([s.data.toList], true) := by
        rw [data_append, data_append]; exact Pl.tk_name hb
      have hsz : (({ data := #[32] } : ByteArray) ++ s ++ { data := #[32] }).size ≤ 2097152 := by
        have h1 : ({ data := #[32] } : ByteArray).size = 1 := rfl
        rw [size_append2, size_append2, h1]; omega
      have hw := implWords_any (({ data := #[32] } : ByteArray) ++ s ++ { data := #[32] }) hsz W3
      have hwl : Pl.wordsL (({ data := #[32] } : ByteArray) ++ s ++ { data := #[32] }).data.toList = [s.data.toList] := by unfold Pl.wordsL; rw [htk]; rfl
      rw [hwl, htk] at hw
      refine hw.mono ?_
      rintro e W4 ⟨v, rfl, hr, hB4⟩
      clear hw hwl htk hsz
      have hr1 : W4.ownsRow W3.heap.size 9 1 v 1 [.string s] := hr
      clear hr
      obtain ⟨g, cp, rfl⟩ := ownsRow_succ hr1
      have hcell : W4.cell? ⟨g, 0, none⟩ = some (.string s) := by
        have ht : TextsAt W4 (.slice (some ⟨g, 0, none⟩) 1 cp) [s.data.toList] := texts_of_row hr1
        obtain ⟨ad', cp', hv, _, _, hx⟩ := ht
        obtain ⟨g', off, ha, _, hc⟩ := hx (by simp)
        subst ha
        cases hv
        exact hc 0 (by simp)
      have h2 := hide (implNameOk_any (s ++ { data := #[32] }) (by
        have h1 : ({ data := #[32] } : ByteArray).size = 1 := rfl
        rw [size_append2, h1]; unfold maxLen; omega))
      have h3 := hide (implNameOk_any (({ data := #[49] } : ByteArray) ++ s) (by
        have h1 : ({ data := #[49] } : ByteArray).size = 1 := rfl
        rw [size_append2, h1]; unfold maxLen; omega))
      rw [Pl.name_blank s _ (by rw [data_append])] at h2
      rw [Pl.name_figure s _ (by rw [data_append]; rfl)] at h3
      clear hr1
      go_wp2_with fail
      refine (h2.out _).mono ?_
      rintro e W5 ⟨rfl, rfl⟩
      go_wp2_with fail
      refine (h3.out _).mono ?_
      rintro e W6 ⟨rfl, rfl⟩
      go_wp2
      go_ret
      exact ⟨rfl, (hB1.trans (hB3.mono hB1.size)).trans (hB4.mono (by have := hB1.size; have := hB3.size; omega))⟩
end Go.Proofs.Yteadmjhmahjmdaa

/- How much of a text says nothing; a copy of a text. -/
import Derived.Test.YteadmjhmahjmdaaWord1
import Derived.Test.YteadmjhmahjmdaaShClone
namespace Go.Proofs.Yteadmjhmahjmdaa
open Go.RowKit
set_option linter.unusedVariables false

set_option maxHeartbeats 400000 in
theorem clone_any (s : ByteArray) (hs : s.size ≤ 281474976710656) (w : World) :
    Calls Try.prog 17 #[.string s] w fun e w' => e = .returned (.string s) ∧ Below w.heap.size w w' := by
  go_enter Try.func17, Try.ntmps17
  go_wp2_with (go_at_call 25; refine (Try.stringslite_Clone s _ hs).mono ?_; rintro e w1 ⟨rfl, hB⟩)
  go_ret
  exact ⟨rfl, hB⟩

set_option maxHeartbeats 800000 in
theorem passLen_any (s : ByteArray) (hs : s.size ≤ maxLen) (h0 : 1 ≤ s.size) (w : World) :
    Calls Try.prog 24 #[.string s] w fun e w' => e = .returned (.int .i64 (Pl.passLen s.data.toList)) ∧ w' = w := by
  unfold maxLen at hs
  obtain ⟨c, t, hct, hlen⟩ := Pl.bytes_cons s h0
  have hpos : 0 < s.size := h0
  have hby := Pl.byteAt_eq s 0 hpos
  have hb0 : Pl.byteAt s 0 = (c.toNat : Int) := by unfold Pl.byteAt; rw [hct]; rfl
  rw [hb0] at hby
  have HCT := hide hct
  have hsz : s.data.toList.length = s.size := by simp
  have HSZ := hide hsz
  clear hct hb0 hlen hsz
  have hcc : ∀ n : UInt8, (c.toNat : Int) = (n.toNat : Int) ↔ c = n := fun n => byte_eq
  have HC := hide hcc
  clear hcc
  by_cases h32 : (c.toNat : Int) = 32
  · have hq : ((c.toNat : Int) == 32) = true := by simp [h32]
    have hf : Hid (Pl.passLen s.data.toList = 1) := by show _ = _; rw [HCT.out]; exact Pl.passLen_blank c t (.inl ((HC.out 32).1 h32))
    clear h32
    go_enter Try.func24, Try.ntmps24
    go_wp2
    go_ret
    exact ⟨by rw [hf.out]; rfl, rfl⟩
  · have hq : ((c.toNat : Int) == 32) = false := by simp [h32]
    by_cases h9 : (c.toNat : Int) = 9
    · have hq9 : ((c.toNat : Int) == 9) = true := by simp [h9]
      have hf : Hid (Pl.passLen s.data.toList = 1) := by show _ = _; rw [HCT.out]; exact Pl.passLen_blank c t (.inr (.inl ((HC.out 9).1 h9)))
      clear h9 h32
      go_enter Try.func24, Try.ntmps24
      go_wp2
      go_ret
      exact ⟨by rw [hf.out]; rfl, rfl⟩
    · have hq9 : ((c.toNat : Int) == 9) = false := by simp [h9]
      by_cases h10 : (c.toNat : Int) = 10
      · have hq10 : ((c.toNat : Int) == 10) = true := by simp [h10]
        have hf : Hid (Pl.passLen s.data.toList = 1) := by show _ = _; rw [HCT.out]; exact Pl.passLen_blank c t (.inr (.inr ((HC.out 10).1 h10)))
        clear h10 h9 h32
        go_enter Try.func24, Try.ntmps24
        go_wp2
        go_ret
        exact ⟨by rw [hf.out]; rfl, rfl⟩
      · have hq10 : ((c.toNat : Int) == 10) = false := by simp [h10]
        have hnb : ¬ (c = 32 ∨ c = 9 ∨ c = 10) := by
          rintro (h | h | h)
          · exact h32 ((HC.out 32).2 h)
          · exact h9 ((HC.out 9).2 h)
          · exact h10 ((HC.out 10).2 h)
        by_cases h35 : (c.toNat : Int) = 35
        · have hq35 : ((c.toNat : Int) == 35) = true := by simp [h35]
          have hf : Hid (Pl.passLen s.data.toList = if 0 ≤ Lib.indexByte s.data.toList 10 then Lib.indexByte s.data.toList 10 else (s.size : Int)) := by
            show _ = _
            rw [← HSZ.out, HCT.out]
            simp only [Pl.passLen, if_neg hnb, if_pos ((HC.out 35).1 h35)]
          clear h10 h9 h32 h35 hnb
          by_cases hix : 0 ≤ Lib.indexByte s.data.toList 10
          all_goals
            go_enter Try.func24, Try.ntmps24
            go_wp2_with (go_at_call 27; refine (indexByte_any _ _ _).mono ?_; rintro e w' ⟨rfl, rfl⟩)
            go_ret
            exact ⟨by rw [hf.out]; first | (rw [if_pos hix]; rfl) | (rw [if_neg (by omega)]; rfl), rfl⟩
        · have hq35 : ((c.toNat : Int) == 35) = false := by simp [h35]
          have hf : Hid (Pl.passLen s.data.toList = 0) := by
            show _ = _
            rw [HCT.out]; exact Pl.passLen_none c t hnb (fun h => h35 ((HC.out 35).2 h))
          clear h10 h9 h32 h35 hnb
          go_enter Try.func24, Try.ntmps24
          go_wp2
          go_ret
          exact ⟨by rw [hf.out]; rfl, rfl⟩
end Go.Proofs.Yteadmjhmahjmdaa

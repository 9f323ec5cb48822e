/- The library's IndexByte and HasPrefix, and how long a word is. -/
import Derived.Test.YtbckbfjnifafaaaGreatDoorLeaf
import Derived.Test.YtbckbfjnifafaaaGreatDoorPlW
namespace Go.Proofs.YtbckbfjnifafaaaGreatDoor
open Go.RowKit
set_option linter.unusedVariables false

theorem bIndex_run (s : ByteArray) (c : Int) (w : World) :
    (callFunc 191 #[.string s, .int .u8 c]).run Tryz.prog w = .ok (.value (.int .i64 (Lib.indexByte s.data.toList c.toNat.toUInt8))) w := by
  rw [run_callFunc_extern Tryz.func191 (by kernel_rfl) (by kernel_rfl) (by kernel_rfl) (e := Extern.BytealgIndexByte.indexByte) (by kernel_rfl), Lib.run_indexByteString]
  rfl

set_option maxHeartbeats 400000 in
theorem indexByte_any (s : ByteArray) (c : Int) (w : World) :
    Calls Tryz.prog 168 #[.string s, .int .u8 c] w fun e w' => e = .returned (.int .i64 (Lib.indexByte s.data.toList c.toNat.toUInt8)) ∧ w' = w := by
  have hb := bIndex_run
  go_enter Tryz.func168, Tryz.ntmps168
  go_wp2
  go_ret
  exact ⟨rfl, rfl⟩

set_option maxHeartbeats 400000 in
theorem hasPrefix_any (s p : ByteArray) (hs : s.size ≤ maxLen) (hp : p.size ≤ maxLen) (w : World) :
    Calls Tryz.prog 79 #[.string s, .string p] w fun e w' => e = .returned (.bool (decide (s.data.toList.take p.size = p.data.toList))) ∧ w' = w := by
  unfold maxLen at hs hp
  by_cases h : p.size ≤ s.size
  · go_enter Tryz.func79, Tryz.ntmps79
    go_wp2
    go_ret
    refine ⟨?_, rfl⟩
    simp
    rw [Lib.toList_data, Lib.toList_data, Lib.extract_data, Bool.eq_iff_iff]
    simp
  · go_enter Tryz.func79, Tryz.ntmps79
    go_wp2
    go_ret
    refine ⟨?_, rfl⟩
    simp
    intro hc
    have := congrArg List.length hc
    simp at this
    omega

set_option maxHeartbeats 800000 in
theorem wordLen_any (s : ByteArray) (hs : s.size ≤ maxLen) (h0 : 1 ≤ s.size) (w : World) :
    Calls Tryz.prog 132 #[.string s] w fun e w' => e = .returned (.int .i64 (Pl.wordLen s.data.toList)) ∧ w' = w := by
  unfold maxLen at hs
  obtain ⟨c, t, hct, hlen⟩ := Pl.bytes_cons s h0
  have hpos : 0 < s.size := h0
  have hby := Pl.byteAt_eq s 0 hpos
  have hb0 : Pl.byteAt s 0 = (c.toNat : Int) := by unfold Pl.byteAt; rw [hct]; rfl
  rw [hb0] at hby
  have hcb := c.toNat_lt
  have htl : List.take (s.size - 1) s.data.toList.tail = t := by
    rw [hct, List.tail_cons, List.take_of_length_le (by omega)]
  have hix := Pl.indexByte_lt t 34
  have hix0 := Lib.indexByte_ge t 34
  have HLEN := hide hlen
  have hlen1 : t.length < s.size := by omega
  clear hlen
  have HCT := hide hct
  clear hct hb0
  by_cases h34 : (c.toNat : Int) = 34
  · have hq : ((c.toNat : Int) == 34) = true := by simp [h34]
    have H34 := hide h34
    clear h34
    have hW : Hid (Pl.wordLen s.data.toList = if 0 ≤ Lib.indexByte t 34 then Lib.indexByte t 34 + 2 else 0) := by
      have : c = 34 := by have := H34.out; exact UInt8.toNat_inj.1 (by show c.toNat = 34; omega)
      show _ = _
      rw [HCT.out]; simp [Pl.wordLen, this]
    go_enter Tryz.func132, Tryz.ntmps132
    go_wp2_with (go_at_call 168; refine (indexByte_any _ _ _).mono ?_; rintro e w' ⟨rfl, rfl⟩)
    · go_ret
      exact ⟨by rw [hW.out, if_pos ‹_›]; rfl, rfl⟩
    · go_ret
      exact ⟨by rw [hW.out, if_neg (by omega)]; rfl, rfl⟩
  · have hq : ((c.toNat : Int) == 34) = false := by simp [h34]
    have hW : Hid (Pl.wordLen s.data.toList = if List.take 2 s.data.toList = [61, 61] then (2 : Int) else if 0 ≤ Lib.indexByte Pl.signL c then 1 else Pl.runLen s.data.toList) := by
      have : ¬ c = 34 := by intro hc; subst hc; exact h34 (by decide)
      show _ = _
      rw [HCT.out]; simp only [Pl.wordLen, if_neg this]
    have H34 := hide h34
    clear h34
    go_enter Tryz.func132, Tryz.ntmps132
    go_wp2_with (first | (go_at_call 168; refine (indexByte_any _ _ _).mono ?_; rintro e w' ⟨rfl, rfl⟩) | (go_at_call 79; refine (hasPrefix_any _ _ (by assumption) (by decide) _).mono ?_; rintro e w' ⟨rfl, rfl⟩))
    · go_ret
      exact ⟨by rw [hW.out, if_pos ‹_›]; rfl, rfl⟩
    · go_ret
      exact ⟨by rw [hW.out, if_neg ‹_›, if_pos (by unfold Pl.signL; assumption)]; rfl, rfl⟩
    · have hW2 : Hid (Pl.wordLen s.data.toList = Pl.runLen s.data.toList) := by
        show _ = _
        rw [hW.out, if_neg ‹_›, if_neg (by unfold Pl.signL; omega)]
      clear hW
      go_loop [4] (fun i => ∃ k : Nat, k ≤ s.size ∧ i = .int .i64 k ∧ ∀ j, j < k → Pl.alnum (s.data.toList[j]?.getD 0) = true) (fun i => s.size - (intOf i).toNat)
      case atStart => exact ⟨0, by omega, rfl, by intro j hj; omega⟩
      case round =>
        obtain ⟨k, hk, rfl, hno⟩ := hrel
        have HN : Hid (∀ j, j < k → Pl.alnum (s.data.toList[j]?.getD 0) = true) := hno
        clear hno
        by_cases hlt : k < s.size
        · have hby := Pl.byteAt_eq s k hlt
          have hal : Hid (Pl.alnum (s.data.toList[k]?.getD 0) = (Pl.letB (Pl.byteAt s k) || Pl.figB (Pl.byteAt s k))) := by
            show _ = _
            simp [Pl.alnum, Pl.byteAt]
          generalize hc : Pl.byteAt s k = d at hby hal
          clear hc
          cases hl : Pl.letB d <;> cases hf : Pl.figB d
          all_goals go_wp2_with (first | (go_at_call 131; refine (isLetter_any _ _).mono ?_; rintro e w' ⟨rfl, rfl⟩) | (go_at_call 169; refine (isFigure_any _ _).mono ?_; rintro e w' ⟨rfl, rfl⟩))
          · go_ret
            have hr := Pl.runLen_at s.data.toList k (by simpa using hk) HN.out (fun _ => by rw [hal.out, hl, hf]; rfl)
            exact ⟨by rw [hW2.out, hr]; rfl, rfl⟩
          all_goals
            refine ⟨⟨k + 1, by omega, by go_num, ?_⟩, by simp [intOf]; omega⟩
            intro j hj
            by_cases hjk : j = k
            · subst hjk; rw [hal.out, hl, hf]; rfl
            · exact HN.out j (by omega)
        · go_wp2_with (first | (go_at_call 131; refine (isLetter_any _ _).mono ?_; rintro e w' ⟨rfl, rfl⟩) | (go_at_call 169; refine (isFigure_any _ _).mono ?_; rintro e w' ⟨rfl, rfl⟩))
          go_ret
          have hr := Pl.runLen_at s.data.toList k (by simpa using hk) HN.out (fun h => absurd h (by simpa using hlt))
          exact ⟨by rw [hW2.out, hr]; rfl, rfl⟩
end Go.Proofs.YtbckbfjnifafaaaGreatDoor

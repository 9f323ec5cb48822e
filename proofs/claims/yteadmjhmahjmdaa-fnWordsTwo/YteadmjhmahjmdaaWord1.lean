/- The first word of a text, as the model has it. -/
import Derived.Test.YteadmjhmahjmdaaStr
import Derived.Test.YteadmjhmahjmdaaPlT
import Derived.Deep.QuietTactic
import Derived.BigQuiet
namespace Go.Proofs.Yteadmjhmahjmdaa
open Go.RowKit
set_option linter.unusedVariables false
theorem byteAt_u (s : ByteArray) (k : Nat) : Pl.byteAt s k = ((s.data.toList[k]?.getD 0).toNat : Int) := rfl
theorem byte_eq {a b : UInt8} : ((a.toNat : Int) = (b.toNat : Int)) ↔ a = b := by
  constructor
  · intro h; exact UInt8.toNat_inj.1 (by omega)
  · rintro rfl; rfl
def signsB : ByteArray := ⟨#[43, 45, 42, 60, 61, 40, 41, 123, 125, 59]⟩

set_option maxHeartbeats 1600000 in
theorem l1Word_any (s : ByteArray) (hs : s.size ≤ maxLen) (h0 : 1 ≤ s.size) (w : World) :
    Calls Try.prog 18 #[.string s] w fun e w' => e = .returned (.string (Pl.bs (s.data.toList.take (Pl.wordLen s.data.toList).toNat))) ∧ Below w.heap.size w w' := by
  unfold maxLen at hs
  obtain ⟨c, t, hct, hlen⟩ := Pl.bytes_cons s h0
  have HCT := hide hct
  have HLEN := hide hlen
  have hlen1 : t.length < s.size := by omega
  clear hct hlen
  go_enter Try.func18, Try.ntmps18
  go_wp2_with fail
  go_loop [3] (fun i => ∃ k : Nat, k ≤ s.size ∧ i = .int .i64 k ∧ ∀ j, j < k → Pl.alnum (s.data.toList[j]?.getD 0) = true) (fun i => s.size - (intOf i).toNat)
  case atStart => exact ⟨0, by omega, rfl, by intro j hj; omega⟩
  case round =>
    obtain ⟨k, hk, rfl, hno⟩ := hrel
    have HN := hide hno
    clear hno
    by_cases hgo : k < s.size ∧ Pl.alnum (s.data.toList[k]?.getD 0) = true
    · obtain ⟨hlt, hal⟩ := hgo
      have HAL := hide hal
      have hby := Pl.byteAt_eq s k hlt
      have hal2 : Hid ((Pl.letB (Pl.byteAt s k) || Pl.figB (Pl.byteAt s k)) = true) := hal
      clear hal
      generalize hc : Pl.byteAt s k = d at hby hal2
      clear hc
      cases hl : Pl.letB d
      · have hf : Pl.figB d = true := by have := hal2.out; rw [hl] at this; simpa using this
        have hd : 48 ≤ d ∧ d ≤ 57 := by simpa [Pl.figB] using hf
        obtain ⟨hd1, hd2⟩ := hd
        go_wp2_with (go_at_call 26; refine (l1Letter_any _ _).mono ?_; rintro e w' ⟨rfl, rfl⟩)
        refine ⟨⟨k + 1, by omega, by go_num, ?_⟩, by simp [intOf]; omega⟩
        intro j hj
        by_cases hjk : j = k
        · subst hjk; exact HAL.out
        · exact HN.out j (by omega)
      · go_wp2_with (go_at_call 26; refine (l1Letter_any _ _).mono ?_; rintro e w' ⟨rfl, rfl⟩)
        refine ⟨⟨k + 1, by omega, by go_num, ?_⟩, by simp [intOf]; omega⟩
        intro j hj
        by_cases hjk : j = k
        · subst hjk; exact HAL.out
        · exact HN.out j (by omega)
    · have hrun : Hid (Pl.runLen s.data.toList = k) := Pl.runLen_at _ k (by simpa using hk) HN.out (fun hl => by
        cases h : Pl.alnum (s.data.toList[k]?.getD 0)
        · rfl
        · exact absurd ⟨by simpa using hl, h⟩ hgo)
      by_cases hlt : k < s.size
      · have hal : Pl.alnum (s.data.toList[k]?.getD 0) = false := by
          cases h : Pl.alnum (s.data.toList[k]?.getD 0)
          · rfl
          · exact absurd ⟨hlt, h⟩ hgo
        have hby := Pl.byteAt_eq s k hlt
        have hal2 : (Pl.letB (Pl.byteAt s k) || Pl.figB (Pl.byteAt s k)) = false := hal
        have hb0 := Pl.byteAt_lo s k
        have hb1 := Pl.byteAt_hi s k
        generalize hc : Pl.byteAt s k = d at hby hal2 hb0 hb1
        have HD := hide hc
        rw [Bool.or_eq_false_iff] at hal2
        obtain ⟨hl, hf⟩ := hal2
        have hd : ¬ (48 ≤ d ∧ d ≤ 57) := by intro h; simp [Pl.figB, h.1, h.2] at hf
        clear hc hgo hal hf
        by_cases hk0 : k = 0
        · subst hk0
          have hcd : d = (c.toNat : Int) := by rw [← HD.out, byteAt_u, HCT.out]; rfl
          clear HD
          subst hcd
          have hrun0 : Hid (Pl.runLen (c :: t) = 0) := by have := hrun.out; rw [HCT.out] at this; exact this
          clear hrun HN
          by_cases h34 : (c.toNat : Int) = 34
          · have hq : ((c.toNat : Int) == 34) = true := by simp [h34]
            have hc34 : c = 34 := byte_eq.1 (by simpa using h34)
            have hW : Hid (Pl.wordLen s.data.toList = if 0 ≤ Lib.indexByte t 34 then Lib.indexByte t 34 + 2 else 0) := by
              show _ = _
              rw [HCT.out]; simp only [Pl.wordLen, if_pos hc34]
            have h48 : ¬ 48 ≤ (c.toNat : Int) := by omega
            have H34 := hide h34
            have HC34 := hide hc34
            clear hd h34 hc34
            go_wp2_with (go_at_call 26; refine (l1Letter_any _ _).mono ?_; rintro e w' ⟨rfl, rfl⟩)
            go_loop [3] (fun i => ∃ k : Nat, 1 ≤ k ∧ k ≤ s.size ∧ i = .int .i64 k ∧ ∀ j, j + 1 < k → t[j]?.getD 0 ≠ 34) (fun i => s.size - (intOf i).toNat)
            case atStart => exact ⟨1, by omega, by omega, rfl, by intro j hj; omega⟩
            case round =>
              obtain ⟨k, hk1, hk, rfl, hno⟩ := hrel
              have HN := hide hno
              clear hno
              by_cases hlt : k < s.size
              · have hby := Pl.byteAt_eq s k hlt
                have hbt : Hid (Pl.byteAt s k = ((t[k - 1]?.getD 0).toNat : Int)) := by
                  show _ = _
                  obtain ⟨m, rfl⟩ : ∃ m, k = m + 1 := ⟨k - 1, by omega⟩
                  rw [byteAt_u, HCT.out]; rfl
                generalize hc : Pl.byteAt s k = d at hby hbt
                clear hc
                by_cases hd : d = 34
                · have hd' : (d != 34) = false := by simp [hd]
                  have hix : Hid (Lib.indexByte t 34 = ((k - 1 : Nat) : Int)) := Pl.indexByte_at t 34 (k - 1) (by have := HLEN.out; omega) (fun j hj => HN.out j (by omega)) (byte_eq.1 (by rw [← hbt.out, hd]; rfl))
                  have hke : ((k : Int) == (s.size : Int)) = false := beq_eq_false_iff_ne.2 (by omega)
                  clear hd
                  go_wp2
                  go_ret
                  refine ⟨?_, Below.refl _ _⟩
                  rw [hW.out, hix.out, if_pos (by omega)]
                  rw [show (((k - 1 : Nat) : Int) + 2).toNat = k + 1 from by omega, ← Pl.extract_head]
                  rfl
                · have hd' : (d != 34) = true := by simp [hd]
                  have HDD := hide hd
                  clear hd
                  go_wp2
                  refine ⟨⟨k + 1, by omega, by omega, by go_num, ?_⟩, by simp [intOf]; omega⟩
                  intro j hj
                  by_cases hjk : j + 1 = k
                  · intro hc
                    apply HDD.out
                    rw [hbt.out, ← hjk, Nat.add_sub_cancel, hc]; rfl
                  · exact HN.out j (by omega)
              · have hix : Hid (Lib.indexByte t 34 = -1) := Pl.indexByte_none' t 34 (fun j hj => HN.out j (by have := HLEN.out; omega))
                have hke : ((k : Int) == (s.size : Int)) = true := beq_iff_eq.2 (by omega)
                go_wp2
                go_ret
                refine ⟨?_, Below.refl _ _⟩
                rw [hW.out, hix.out, if_neg (by omega)]
                rfl
          · have hq : ((c.toNat : Int) == 34) = false := by simp [h34]
            have hc34 : ¬ c = 34 := fun h => h34 (by rw [h]; rfl)
            have hW : Hid (Pl.wordLen s.data.toList = if List.take 2 s.data.toList = [61, 61] then (2 : Int) else if 0 ≤ Lib.indexByte Pl.signL c then 1 else 0) := by
              show _ = _
              rw [HCT.out]; simp only [Pl.wordLen, if_neg hc34, hrun0.out]; rfl
            have hsl0 : (s.extract 0 2).toList = List.take 2 s.data.toList := by rw [Lib.toList_data, Pl.extract_head]; rfl
            clear h34 hc34
            by_cases htw : List.take 2 s.data.toList = [61, 61]
            · have hsz : 1 < s.size := by
                have := congrArg List.length htw
                simp at this; omega
              have hsl : ((s.extract 0 2).toList == [61, 61]) = true := by rw [hsl0, htw]; rfl
              have hW2 : Hid (Pl.bs (s.data.toList.take (Pl.wordLen s.data.toList).toNat) = ⟨#[61, 61]⟩) := by
                show _ = _
                rw [hW.out, if_pos htw]
                show Pl.bs (List.take 2 s.data.toList) = _
                rw [htw]; rfl
              clear hW hsl0 htw
              by_cases h48 : 48 ≤ (c.toNat : Int)
              · have h57 : ¬ (c.toNat : Int) ≤ 57 := fun h => hd ⟨h48, h⟩
                clear hd
                go_wp2_with (go_at_call 26; refine (l1Letter_any _ _).mono ?_; rintro e w' ⟨rfl, rfl⟩)
                go_ret
                exact ⟨by rw [hW2.out]; rfl, Below.refl _ _⟩
              · clear hd
                go_wp2_with (go_at_call 26; refine (l1Letter_any _ _).mono ?_; rintro e w' ⟨rfl, rfl⟩)
                go_ret
                exact ⟨by rw [hW2.out]; rfl, Below.refl _ _⟩
            · have hsl : ((s.extract 0 2).toList == [61, 61]) = false := by rw [hsl0, beq_eq_false_iff_ne]; exact htw
              have hW2 : Hid (Pl.wordLen s.data.toList = if 0 ≤ Lib.indexByte Pl.signL c then 1 else 0) := by
                show _ = _
                rw [hW.out, if_neg htw]
              clear hW hsl0 htw
              have h4 : (48 ≤ (c.toNat : Int) ∧ ¬ (c.toNat : Int) ≤ 57) ∨ ¬ 48 ≤ (c.toNat : Int) := by omega
              clear hd
              rcases h4 with ⟨h48, h57⟩ | h48 <;> by_cases hsz : 1 < s.size
              all_goals
                go_wp2_with (go_at_call 26; refine (l1Letter_any _ _).mono ?_; rintro e w' ⟨rfl, rfl⟩)
                go_loopw [5] (fun i wr => ∃ k : Nat, k ≤ 10 ∧ i = .int .i64 k ∧ (∀ j, j < k → Pl.signL[j]?.getD 0 ≠ c) ∧ Below w'.heap.size w' wr) (fun i _ => 10 - (intOf i).toNat)
                case atStart => exact ⟨0, by omega, rfl, by intro j hj; omega, Below.refl _ _⟩
                case round =>
                  obtain ⟨k, hk, rfl, hno, hB⟩ := hrel
                  have HN := hide hno
                  clear hno
                  by_cases hlt : k < 10
                  · have hsb := Pl.byteAt_eq signsB k hlt
                    have hsd : Hid (Pl.byteAt signsB k = ((Pl.signL[k]?.getD 0).toNat : Int)) := rfl
                    generalize hdd : Pl.byteAt signsB k = d at hsb hsd
                    clear hdd
                    unfold signsB at hsb
                    cases he : (d == (c.toNat : Int))
                    · have hne : Hid (Pl.signL[k]?.getD 0 ≠ c) := by
                        intro h
                        rw [hsd.out, h] at he
                        simp at he
                      clear hsd
                      go_wp2
                      go_quiet (fail)
                      go_wp2
                      go_roundw
                      case rel =>
                        refine ⟨k + 1, by omega, by go_num, ?_, below_drewN hB _⟩
                        intro j hj
                        by_cases hjk : j = k
                        · subst hjk; exact hne.out
                        · exact HN.out j (by omega)
                      case measure => simp [intOf]; omega
                    · have hix : Hid (Lib.indexByte Pl.signL c = (k : Int)) := Pl.indexByte_at Pl.signL c k (by simpa [Pl.signL] using hlt) HN.out (byte_eq.1 (by rw [← hsd.out]; exact beq_iff_eq.1 he))
                      clear hsd
                      go_wp2
                      go_quiet (fail)
                      go_wp2
                      go_ret
                      refine ⟨?_, below_drewN hB _⟩
                      rw [hW2.out, hix.out, if_pos (by omega)]
                      show _ = Ending.returned (Value.string (Pl.bs (List.take 1 s.data.toList)))
                      rw [← Pl.extract_head]
                      rfl
                  · have hix : Hid (Lib.indexByte Pl.signL c = -1) := Pl.indexByte_none' Pl.signL c (fun j hj => HN.out j (by have : Pl.signL.length = 10 := rfl; omega))
                    go_wp2
                    go_ret
                    refine ⟨?_, hB⟩
                    rw [hW2.out, hix.out, if_neg (by omega)]
                    rfl
        · have hkp : 0 < k := by omega
          have hW : Hid (Pl.wordLen s.data.toList = k) := by
            show _ = _
            rw [← hrun.out, HCT.out]
            exact Pl.wordLen_run c t (Pl.runLen_pos c t (by rw [← HCT.out, hrun.out]; omega))
          by_cases h48 : 48 ≤ d
          · have h57 : ¬ d ≤ 57 := fun h => hd ⟨h48, h⟩
            clear hd
            go_wp2_with (go_at_call 26; refine (l1Letter_any _ _).mono ?_; rintro e w' ⟨rfl, rfl⟩)
            go_ret
            exact ⟨by rw [hW.out, Int.toNat_natCast, ← Pl.extract_head]; rfl, Below.refl _ _⟩
          · clear hd
            go_wp2_with (go_at_call 26; refine (l1Letter_any _ _).mono ?_; rintro e w' ⟨rfl, rfl⟩)
            go_ret
            exact ⟨by rw [hW.out, Int.toNat_natCast, ← Pl.extract_head]; rfl, Below.refl _ _⟩
      · have hkp : 0 < k := by omega
        have hW : Hid (Pl.wordLen s.data.toList = k) := by
          show _ = _
          rw [← hrun.out, HCT.out]
          exact Pl.wordLen_run c t (Pl.runLen_pos c t (by rw [← HCT.out, hrun.out]; omega))
        clear hgo
        go_wp2_with (go_at_call 26; refine (l1Letter_any _ _).mono ?_; rintro e w' ⟨rfl, rfl⟩)
        go_ret
        exact ⟨by rw [hW.out, Int.toNat_natCast, ← Pl.extract_head]; rfl, Below.refl _ _⟩
end Go.Proofs.Yteadmjhmahjmdaa

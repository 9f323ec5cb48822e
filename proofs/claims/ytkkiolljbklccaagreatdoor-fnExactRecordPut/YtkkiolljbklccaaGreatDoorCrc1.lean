/- The sum of a text, as the specification and the program work it out. -/
import Derived.Test.YtkkiolljbklccaaGreatDoorPlCrc
import Derived.Test.YtkkiolljbklccaaGreatDoorRows
import Derived.WalkKit
import Derived.WalkSpells
import Derived.WalkLawsBesides
namespace Go.Proofs.YtkkiolljbklccaaGreatDoor
open Go.RowKit
set_option linter.unusedVariables false

set_option maxHeartbeats 1600000 in
theorem specCrc_any (s : ByteArray) (hs : s.size ≤ maxLen) (w : World) :
    Calls Tryz.prog 52 #[.string s] w fun e w' => e = .returned (.int .i64 (Pl.crc s)) ∧ w' = w := by
  unfold maxLen at hs
  have hc0 : Hid (Pl.crc s = Pl.crcL s.data.toList 4294967295 ^^^ 4294967295) := rfl
  generalize hR : Pl.crcL s.data.toList 4294967295 = R at hc0
  have HR := hide hR
  clear hR
  go_enter Tryz.func52, Tryz.ntmps52
  go_wp2_with fail
  go_loop [3, 4] (fun c i => ∃ (k x : Nat), k ≤ s.size ∧ i = .int .i64 k ∧ c = .int .i64 x ∧ x < 4294967296 ∧ Pl.crcL (s.data.toList.drop k) x = R) (fun _ i => s.size - (intOf i).toNat)
  case atStart => exact ⟨0, 4294967295, by omega, rfl, rfl, by omega, HR.out⟩
  case round =>
    obtain ⟨k, x, hk, rfl, rfl, hx, hq⟩ := hrel
    have HQ := hide hq
    clear hq
    by_cases hlt : k < s.size
    · have hby := Pl.byteAt_eq s k hlt
      have hb0 := Pl.byteAt_lo s k
      have hb1 := Pl.byteAt_hi s k
      have HC := hide (Pl.crcL_at s k x hlt)
      generalize Pl.byteAt s k = d at hby hb0 hb1 HC
      obtain ⟨b, rfl⟩ := Int.eq_ofNat_of_zero_le hb0
      have hxx := xor_i64 x b hx (by omega)
      have hxl := Pl.xor_lt hx (show b < 4294967296 by omega)
      have HC2 : Hid (Pl.crcL (s.data.toList.drop (k + 1)) (Pl.it 8 (x ^^^ b)) = R) := by
        show _ = _
        rw [← HQ.out, HC.out]
        rfl
      clear HC
      generalize x ^^^ b = y at hxx hxl HC2
      go_wp2_with fail
      go_loop [3, 5] (fun c i => ∃ (j z : Nat), j ≤ 8 ∧ i = .int .i64 j ∧ c = .int .i64 z ∧ z < 4294967296 ∧ Pl.crcL (s.data.toList.drop (k + 1)) (Pl.it (8 - j) z) = R) (fun _ i => 8 - (intOf i).toNat)
      case atStart => exact ⟨0, y, by omega, rfl, rfl, hxl, HC2.out⟩
      case round =>
        obtain ⟨j, z, hj, rfl, rfl, hz, hq⟩ := hrel
        have HQ2 := hide hq
        clear hq
        by_cases hj8 : j < 8
        · have HI : Hid (Pl.it (8 - j) z = Pl.it (8 - (j + 1)) (Pl.stp z)) := by
            show _ = _
            rw [show 8 - j = (8 - (j + 1)) + 1 by omega]
            rfl
          have hzl := Pl.stp_lt hz
          have hd : (z : Int).tdiv 2 = ((z / 2 : Nat) : Int) := by rw [Int.tdiv_eq_ediv_of_nonneg (by omega)]; omega
          by_cases ho : z % 2 = 1
          · have hm : (z : Int).tmod 2 = 1 := by rw [Int.tmod_eq_emod_of_nonneg (by omega)]; omega
            have hxx := xor_i64 (z / 2) 3988292384 (by omega) (by decide)
            have hs : Pl.stp z = z / 2 ^^^ 3988292384 := by unfold Pl.stp; rw [if_pos ho]
            rw [hs] at hzl HI
            have hzd : z / 2 < 4294967296 := by omega
            generalize z / 2 = zd at hd hxx hzl HI hzd
            generalize zd ^^^ 3988292384 = y2 at hxx hzl HI
            go_wp2
            go_round
            case rel => exact ⟨j + 1, y2, by omega, by go_num, congrArg (Value.int .i64) hxx, hzl, by rw [← HI.out]; exact HQ2.out⟩
            case measure => simp [intOf]; omega
          · have hm : (z : Int).tmod 2 = 0 := by rw [Int.tmod_eq_emod_of_nonneg (by omega)]; omega
            have hs : Pl.stp z = z / 2 := by unfold Pl.stp; rw [if_neg ho]
            rw [hs] at hzl HI
            generalize z / 2 = zd at hd hzl HI
            go_wp2
            go_round
            case rel => exact ⟨j + 1, zd, by omega, by go_num, rfl, hzl, by rw [← HI.out]; exact HQ2.out⟩
            case measure => simp [intOf]; omega
        · have hj0 : 8 - j = 0 := by omega
          have HE : Hid (Pl.crcL (s.data.toList.drop (k + 1)) z = R) := by
            have := HQ2.out
            rw [hj0] at this
            exact this
          clear HQ2
          go_wp2
          go_round
          case rel => exact ⟨k + 1, z, by omega, by go_num, rfl, hz, HE.out⟩
          case measure => simp [intOf]; omega
    · have HE : Hid (x = R) := by
        have := HQ.out
        rw [Pl.crcL_end s k x (by omega)] at this
        exact this
      have hxx := xor_i64 x 4294967295 hx (by decide)
      go_wp2
      go_ret
      refine ⟨?_, rfl⟩
      rw [hc0.out, ← HE.out]
      exact congrArg (fun z => Ending.returned (.int .i64 z)) hxx
end Go.Proofs.YtkkiolljbklccaaGreatDoor

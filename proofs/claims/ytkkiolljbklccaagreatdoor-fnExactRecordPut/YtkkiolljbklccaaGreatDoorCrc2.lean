/- The sum of a text, as the program works it out. -/
import Derived.Test.YtkkiolljbklccaaGreatDoorCrc1
namespace Go.Proofs.YtkkiolljbklccaaGreatDoor
open Go.RowKit
set_option linter.unusedVariables false

set_option maxHeartbeats 1600000 in
theorem sumWrite_any (s : ByteArray) (hs : s.size ≤ maxLen) (b : Nat) (w : World) (hc0 : w.cell? ⟨b, 0, none⟩ = some (.int .u32 0)) (hf0 : w.frozen? ⟨b, 0, none⟩ = false) :
    Calls Tryz.prog 53 #[.pointer (some ⟨b, 0, none⟩), .string s] w fun e w' => e = .returned (.tuple #[]) ∧ w' = w.setCell ⟨b, 0, none⟩ (.int .u32 (Pl.crc s)) := by
  unfold maxLen at hs
  have hR0 : Hid (Pl.crc s = Pl.crcL s.data.toList 4294967295 ^^^ 4294967295) := rfl
  generalize hR : Pl.crcL s.data.toList 4294967295 = R at hR0
  have HR := hide hR
  clear hR
  go_enter Tryz.func53, Tryz.ntmps53
  go_wp2_with fail
  go_loop [4, 14] (fun c i => ∃ (k x : Nat), k ≤ s.size ∧ i = .int .i64 k ∧ c = .int .u32 x ∧ x < 4294967296 ∧ Pl.crcL (s.data.toList.drop k) x = R) (fun _ i => s.size - (intOf i).toNat)
  case atStart => exact ⟨0, 4294967295, by omega, rfl, rfl, by omega, HR.out⟩
  case round =>
    obtain ⟨k, x, hk, rfl, rfl, hx, hq⟩ := hrel
    have HQ := hide hq
    clear hq
    by_cases hlt : k < s.size
    · have hby := Pl.byteAt_eq s k hlt
      have hb0 := Pl.byteAt_lo s k
      have hb1 := Pl.byteAt_hi s k
      have HC := hide (Pl.crcL_at s k x hlt)
      generalize Pl.byteAt s k = d at hby hb0 hb1 HC
      obtain ⟨b', rfl⟩ := Int.eq_ofNat_of_zero_le hb0
      have hxx := xor_u32 x b' hx (by omega)
      have hxl := Pl.xor_lt hx (show b' < 4294967296 by omega)
      have HC2 : Hid (Pl.crcL (s.data.toList.drop (k + 1)) (Pl.it 8 (x ^^^ b')) = R) := by
        show _ = _
        rw [← HQ.out, HC.out]
        rfl
      clear HC
      generalize x ^^^ b' = y at hxx hxl HC2
      go_wp2_with fail
      go_loop [4, 23] (fun c i => ∃ (j z : Nat), j ≤ 8 ∧ i = .int .i64 j ∧ c = .int .u32 z ∧ z < 4294967296 ∧ Pl.crcL (s.data.toList.drop (k + 1)) (Pl.it (8 - j) z) = R) (fun _ i => 8 - (intOf i).toNat)
      case atStart => exact ⟨0, y, by omega, rfl, rfl, hxl, HC2.out⟩
      case round =>
        obtain ⟨j, z, hj, rfl, rfl, hz, hq⟩ := hrel
        have HQ2 := hide hq
        clear hq
        by_cases hj8 : j < 8
        · have HI : Hid (Pl.it (8 - j) z = Pl.it (8 - (j + 1)) (Pl.stp z)) := by
            show _ = _
            rw [show 8 - j = (8 - (j + 1)) + 1 by omega]
            rfl
          have hzl := Pl.stp_lt hz
          have hd : (z : Int) / 2 = ((z / 2 : Nat) : Int) := by omega
          have hm := and_u32 z hz
          by_cases ho : z % 2 = 1
          · rw [ho] at hm
            have hxx := xor_u32 (z / 2) 3988292384 (by omega) (by decide)
            have hs : Pl.stp z = z / 2 ^^^ 3988292384 := by unfold Pl.stp; rw [if_pos ho]
            rw [hs] at hzl HI
            have hzd : z / 2 < 4294967296 := by omega
            generalize z / 2 = zd at hd hxx hzl HI hzd
            generalize zd ^^^ 3988292384 = y2 at hxx hzl HI
            go_wp2
            go_round
            case rel => exact ⟨j + 1, y2, by omega, by go_num, congrArg (Value.int .u32) hxx, hzl, by rw [← HI.out]; exact HQ2.out⟩
            case measure => simp [intOf]; omega
          · have hm0 : z % 2 = 0 := by omega
            rw [hm0] at hm
            have hs : Pl.stp z = z / 2 := by unfold Pl.stp; rw [if_neg ho]
            rw [hs] at hzl HI
            generalize z / 2 = zd at hd hzl HI
            go_wp2
            go_round
            case rel => exact ⟨j + 1, zd, by omega, by go_num, rfl, hzl, by rw [← HI.out]; exact HQ2.out⟩
            case measure => simp [intOf]; omega
        · have hj0 : 8 - j = 0 := by omega
          have HE : Hid (Pl.crcL (s.data.toList.drop (k + 1)) z = R) := by
            have := HQ2.out
            rw [hj0] at this
            exact this
          clear HQ2
          go_wp2
          go_round
          case rel => exact ⟨k + 1, z, by omega, by go_num, rfl, hz, HE.out⟩
          case measure => simp [intOf]; omega
    · have HE : Hid (x = R) := by
        have := HQ.out
        rw [Pl.crcL_end s k x (by omega)] at this
        exact this
      have hxx : bits .xor .u32 IntKind.u32.max (x : Int) = ((Pl.crc s : Nat) : Int) := by
        rw [hR0.out, ← HE.out, Nat.xor_comm]
        exact xor_u32 4294967295 x (by decide) hx
      go_wp2
      go_end0
      exact ⟨rfl, rfl⟩

set_option maxHeartbeats 800000 in
theorem implCrc_any (s : ByteArray) (hs : s.size ≤ maxLen) (w : World) :
    Calls Tryz.prog 34 #[.string s] w fun e w' => e = .returned (.int .i64 (Pl.crc s)) ∧ Below w.heap.size w w' := by
  have hw := hide (fun b w => sumWrite_any s hs b w)
  have hlt := Pl.crc_lt s
  generalize Pl.crc s = R at hw hlt
  go_enter Tryz.func34, Tryz.ntmps34
  go_wp2_with fail
  refine (hw.out _ _ (by simp) (by simp)).mono ?_
  rintro e w1 ⟨rfl, rfl⟩
  go_wp2
  go_ret
  exact ⟨rfl, (Below.refl _ _).alloc (Nat.le_refl _) _⟩
end Go.Proofs.YtkkiolljbklccaaGreatDoor

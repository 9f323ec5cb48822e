/- Figures read, as the specification has it. -/
import Derived.Test.YtbckbfjnifafaaaGreatDoorPlVg
import Derived.Test.YtbckbfjnifafaaaGreatDoorVal1
namespace Go.Proofs.YtbckbfjnifafaaaGreatDoor
open Go.RowKit
set_option linter.unusedVariables false

theorem Pl.drop_byte (s : ByteArray) (k : Nat) (h : k < s.size) : ∃ c : UInt8, s.data.toList.drop k = c :: s.data.toList.drop (k + 1) ∧ Pl.byteAt s k = (c.toNat : Int) := by
  have h' : k < s.data.toList.length := by simpa using h
  refine ⟨s.data.toList[k], List.drop_eq_getElem_cons h', ?_⟩
  unfold Pl.byteAt
  rw [List.getElem?_eq_getElem h']
  rfl
theorem Pl.num10_lt : ∀ (l : List UInt8) (acc i v : Nat), Pl.num10 acc i l = some v → v < (acc + 1) * 10 ^ l.length
  | [], acc, i, v, h => by
    simp only [Pl.num10, Option.some.injEq] at h
    simp; omega
  | c :: l, acc, i, v, h => by
    simp only [Pl.num10] at h
    split at h
    · next h1 =>
      have := Pl.num10_lt l _ _ v h
      have hd : c.toNat - 48 ≤ 9 := by omega
      have h2 : (acc * 10 + (c.toNat - 48) + 1) * 10 ^ l.length ≤ ((acc + 1) * 10) * 10 ^ l.length := Nat.mul_le_mul_right _ (by omega)
      have h3 : (acc + 1) * 10 ^ (l.length + 1) = ((acc + 1) * 10) * 10 ^ l.length := by rw [Nat.pow_succ, Nat.mul_comm (10 ^ l.length) 10, Nat.mul_assoc]
      simp only [List.length_cons]
      omega
    · cases h

set_option maxHeartbeats 1600000 in
theorem l1Num_any (s : ByteArray) (hs : s.size ≤ 1048576) (w : World) :
    Calls Tryz.prog 100 #[.string s] w fun e w' => e = .returned (.int .i64 (Pl.numL s.data.toList)) ∧ w' = w := by
  have hsz : s.data.toList.length = s.size := by simp
  go_enter Tryz.func100, Tryz.ntmps100
  go_wp2_with fail
  go_loop [3, 4] (fun nv iv => ∃ k acc : Nat, k ≤ s.size ∧ k ≤ 10 ∧ iv = .int .i64 k ∧ nv = .int .i64 acc ∧ acc < 10000000000 ∧ Hid (acc < 10 ^ k) ∧ Hid (Pl.num10 0 0 s.data.toList = Pl.num10 acc k (s.data.toList.drop k))) (fun _ iv => s.size - (intOf iv).toNat)
  case atStart => exact ⟨0, 0, by omega, by omega, rfl, rfl, by omega, hide (by simp), hide (by simp)⟩
  case round =>
    obtain ⟨k, acc, hk, hk10, rfl, rfl, hacc, HA, HN⟩ := hrel
    by_cases hlt : k < s.size
    · obtain ⟨c, hdr, hbc⟩ := Pl.drop_byte s k hlt
      have hby := Pl.byteAt_eq s k hlt
      rw [hbc] at hby
      have HD := hide hdr
      have hc256 := c.toNat_lt
      have HU := hide (show Pl.num10 acc k (s.data.toList.drop k) = if (48 ≤ c.toNat ∧ c.toNat ≤ 57) ∧ k < 10 then Pl.num10 (acc * 10 + (c.toNat - 48)) (k + 1) (s.data.toList.drop (k + 1)) else none from by rw [hdr]; rfl)
      clear hdr hbc
      have hcm : ∃ z : Int, ((s[k]'hlt).toNat : Int) = z ∧ z = (c.toNat : Int) := ⟨_, rfl, hby⟩
      obtain ⟨z, hz, hzc⟩ := hcm
      clear hby
      have HZ := hide hzc
      by_cases h1 : 48 ≤ z
      · by_cases h2 : z ≤ 57
        · by_cases h3 : k < 10
          · have hp : 10 ^ (k + 1) ≤ 10 ^ 10 := Nat.pow_le_pow_right (by omega) (by omega)
            have hp2 : (10 : Nat) ^ (k + 1) = 10 ^ k * 10 := Nat.pow_succ _ _
            have hnx : acc * 10 + (c.toNat - 48) < 10 ^ (k + 1) := by have := HA.out; omega
            have HX := hide hnx
            have hnb : acc * 10 + (c.toNat - 48) < 10000000000 := by have : (10 : Nat) ^ 10 = 10000000000 := by decide
                                                                     omega
            have hw : IntKind.u8.wrap (z - 48) = z - 48 := by rw [IntKind.wrap_u8]; omega
            clear hp hp2 hnx hzc
            go_wp2
            refine ⟨⟨k + 1, acc * 10 + (c.toNat - 48), by omega, by omega, by go_num, ?_, hnb, HX, hide (HN.out.trans (HU.out.trans ?_))⟩, by simp [intOf]; omega⟩
            · have := HZ.out; go_num
            · rw [if_pos (by have := HZ.out; omega)]
          · have HE : Hid (Pl.numL s.data.toList = -1) := by
              show _ = _
              unfold Pl.numL
              rw [HN.out, HU.out, if_neg (by omega)]
            go_wp2
            go_ret
            exact ⟨by rw [HE.out]; rfl, rfl⟩
        · have HE : Hid (Pl.numL s.data.toList = -1) := by
            show _ = _
            unfold Pl.numL
            rw [HN.out, HU.out, if_neg (by have := HZ.out; omega)]
          go_wp2
          go_ret
          exact ⟨by rw [HE.out]; rfl, rfl⟩
      · have HE : Hid (Pl.numL s.data.toList = -1) := by
          show _ = _
          unfold Pl.numL
          rw [HN.out, HU.out, if_neg (by have := HZ.out; omega)]
        go_wp2
        go_ret
        exact ⟨by rw [HE.out]; rfl, rfl⟩
    · have hkk : k = s.size := by omega
      have hdn : s.data.toList.drop k = [] := List.drop_eq_nil_of_le (by omega)
      have HE : Hid (Pl.numL s.data.toList = if s.data.toList = [] ∨ (1 < s.data.toList.length ∧ s.data.toList.head? = some 48) then -1 else (acc : Int)) := by
        show _ = _
        unfold Pl.numL
        rw [HN.out, hdn]
        rfl
      clear hdn
      by_cases h0 : s.size = 0
      · have hnil : s.data.toList = [] := List.length_eq_zero_iff.1 (by omega)
        rw [if_pos (.inl hnil)] at HE
        have hz : ((s.size : Int) == 0) = true := by simp [h0]
        clear hnil
        go_wp2
        go_ret
        exact ⟨by rw [HE.out]; rfl, rfl⟩
      · have hnn : ¬ s.data.toList = [] := fun h => by rw [h] at hsz; simp at hsz; omega
        have hz : ((s.size : Int) == 0) = false := by simp [h0]
        by_cases h1 : 1 < s.size
        · obtain ⟨c, hdr, hbc⟩ := Pl.drop_byte s 0 (by omega)
          have hhd : s.data.toList.head? = some c := by
            rw [List.drop_zero] at hdr
            rw [hdr]; rfl
          have hby := Pl.byteAt_eq s 0 (by omega)
          rw [hbc] at hby
          have hz1 : decide ((1 : Int) < (s.size : Int)) = true := decide_eq_true (by omega)
          by_cases h48 : c = 48
          · have hb : (((s[0]'(by omega)).toNat : Int) == 48) = true := by rw [hby, h48]; rfl
            rw [if_pos (.inr ⟨by omega, by rw [hhd, h48]⟩)] at HE
            clear hdr hbc hhd hby h48
            go_wp2
            all_goals
              go_ret
              exact ⟨by rw [HE.out]; rfl, rfl⟩
          · have hb : (((s[0]'(by omega)).toNat : Int) == 48) = false := by
              rw [hby, beq_eq_false_iff_ne]
              intro h
              apply h48
              apply UInt8.toNat_inj.1
              simp
              omega
            rw [if_neg (by
              rintro (h | ⟨_, h⟩)
              · exact hnn h
              · rw [hhd] at h
                exact h48 (Option.some.inj h))] at HE
            clear hdr hbc hhd hby h48
            go_wp2
            all_goals
              go_ret
              exact ⟨by rw [HE.out]; rfl, rfl⟩
        · have hz1 : decide ((1 : Int) < (s.size : Int)) = false := decide_eq_false (by omega)
          rw [if_neg (by
            rintro (h | ⟨h, _⟩)
            · exact hnn h
            · omega)] at HE
          go_wp2
          go_ret
          exact ⟨by rw [HE.out]; rfl, rfl⟩
end Go.Proofs.YtbckbfjnifafaaaGreatDoor

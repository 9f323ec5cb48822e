/- What a program asks for by name, as the specification has it. -/
import Derived.Test.YtnikomgdcddchaaGreatPlCal
import Derived.Test.YtnikomgdcddchaaGreatNamS
import Derived.Test.YtnikomgdcddchaaGreatPBx
import Derived.Deep.RegionWith
namespace Go.Proofs.YtnikomgdcddchaaGreat
open Go.RowKit
set_option linter.unusedVariables false

def CalP (F : Ps) : Prop := ∀ (v : Value) (w : World) (out : List (List UInt8)) (vo : Value), out.length + (Pl.callsF F).length ≤ 1048576 → PRow 0 w F v → TextsAt w vo out →
  Calls Tryz.prog 21 #[v, vo] w fun e w' => ∃ v', e = .returned v' ∧ TextsAt w' v' (Pl.insAll (Pl.callsF F) out) ∧ Below w.heap.size w w'

set_option maxRecDepth 100000 in
set_option maxHeartbeats 3200000 in
theorem l3Calls_of (F : Ps) (ih : ∀ i sn b e, F.get i = some (sn, b, e) → CalP b ∧ CalP e) : CalP F := by
  intro v w out vo hb hr ho
  obtain ⟨ad, cap, rfl, hc, hm, hx⟩ := hr
  unfold maxLen at hm
  have HX := hide hx
  have IH := hide ih
  have HO := hide ho
  have HL := hide hb
  clear hx ih ho hb
  obtain ⟨ao, co, rfl, _⟩ := HO.out
  go_enter Tryz.func21, Tryz.ntmps21
  go_wp2_with fail
  go_loopw [1, 5] (fun ov iv wr => ∃ (i : Nat) (vo' : Value), i ≤ F.len ∧ iv = .int .i64 i ∧ ov = vo' ∧ Hid (TextsAt wr vo' (Pl.insAll (Pl.callsTo F i) out)) ∧ Hid (Below w.heap.size w wr)) (fun _ iv _ => F.len - (intOf iv).toNat)
  case atStart => exact ⟨0, _, by omega, rfl, rfl, by rw [Pl.callsTo_zero]; exact HO, Below.refl _ _⟩
  case round =>
    obtain ⟨i, vo', hi, rfl, rfl, HT, HB⟩ := hrel
    by_cases hlt : i < F.len
    · obtain ⟨g, off, rfl, _, hg, hfo⟩ := HX.out (by omega)
      obtain ⟨sn, b, e, hget⟩ := F.get_some i hlt
      obtain ⟨ve, vb, vl, hst⟩ := hfo.get hget
      have hpart := Pl.calls_part hget
      have hlen := Pl.insAll_len (Pl.callsTo F i) out
      have HS := hide (Pl.callsTo_succ F i sn b e hget)
      have HST : Hid (∀ W, Below w.heap.size w W → StAt 0 W g (off + i * 11) sn b e ve vb vl) := fun W hW => hst.later hW hg
      obtain ⟨⟨d0, d1, d2, d3, d4, d5, d6, d7⟩, ⟨d8, q8⟩, ⟨d9, q9⟩, ⟨d10, q10⟩⟩ := HST.out _ HB.out
      have hib := hide (IH.out i sn b e hget)
      obtain ⟨ao', co', hao, _⟩ := HT.out
      obtain ⟨_, _, rfl, _, _, _⟩ := q8
      obtain ⟨adb, cpb, rfl, _, _, _⟩ := q9
      obtain ⟨adl, cpl, rfl, _, _, _⟩ := q10
      subst hao
      have hii : (i : Int) < (F.len : Int) := by omega
      have hol : (Pl.insAll (Pl.callsTo F i) out).length ≤ 1048576 := by have := HL.out; omega
      generalize hO1 : Pl.insAll (Pl.callsTo F i) out = O1 at *
      have HPART := hide hpart
      have HLEN := hide hlen
      have HOL := hide hol
      have HO1 := hide hO1
      clear hfo hst hget hpart hlen hol hO1
      by_cases h0 : sn.wh.toList = []
      · have t0 : sn.wh.toList.isEmpty = true := by simp [h0]
        have HOE : Hid (Pl.insAll (Pl.ownWh sn) O1 = O1) := by show _ = _; simp [Pl.ownWh, h0, Pl.insAll]
        have HO2 : Hid (O1.length ≤ O1.length + (Pl.ownWh sn).length) := by show _ ≤ _; omega
        clear h0
        go_wp2_with fail
        have HLB : Hid (O1.length + (Pl.callsF b).length ≤ 1048576) := by
          show _ ≤ _
          have := HO1.out; have := HPART.out; have := HLEN.out; have := HL.out; omega
        have hlb := Pl.insAll_len (Pl.callsF b) O1
        have HLE : Hid ((Pl.insAll (Pl.callsF b) O1).length + (Pl.callsF e).length ≤ 1048576) := by
          show _ ≤ _
          have := HO1.out; have := HPART.out; have := HLEN.out; have := HL.out; omega
        have hqb : Hid (∀ W vo, Below w.heap.size w W → TextsAt W vo O1 → Calls Tryz.prog 21 #[.slice adb b.len cpb, vo] W fun e w' => ∃ v', e = .returned v' ∧ TextsAt w' v' (Pl.insAll (Pl.callsF b) O1) ∧ Below W.heap.size W w') := fun W vo hW ht => hib.out.1 _ W O1 vo HLB.out (HST.out W hW).2.2.1.2 ht
        have hqe : Hid (∀ W vo, Below w.heap.size w W → TextsAt W vo (Pl.insAll (Pl.callsF b) O1) → Calls Tryz.prog 21 #[.slice adl e.len cpl, vo] W fun e' w' => ∃ v', e' = .returned v' ∧ TextsAt w' v' (Pl.insAll (Pl.callsF e) (Pl.insAll (Pl.callsF b) O1)) ∧ Below W.heap.size W w') := fun W vo hW ht => hib.out.2 _ W _ vo HLE.out (HST.out W hW).2.2.2.2 ht
        have HNEW : Hid (Pl.insAll (Pl.callsF e) (Pl.insAll (Pl.callsF b) O1) = Pl.insAll (Pl.callsTo F (i + 1)) out) := by
          show _ = _
          rw [HS.out, Pl.insAll_append, HO1.out, Pl.callsS, Pl.insAll_append, Pl.insAll_append, HOE.out]
        clear hlb hib
        generalize Pl.insAll (Pl.callsF e) (Pl.insAll (Pl.callsF b) O1) = O4 at hqe HNEW
        generalize Pl.insAll (Pl.callsF b) O1 = O3 at hqb hqe
        generalize b.len = bl at *
        generalize e.len = el at *
        go_region_with (first | (go_at_call 21; refine (hqe.out _ _ HB3.out HT3.out).mono ?_; rintro e2 w4 ⟨v4, rfl, ht4, hB4⟩; have HB4 : Hid (Below w.heap.size w w4) := HB3.out.trans (hB4.mono HB3.out.size); have HT4 := hide ht4; clear ht4 hB4) | (go_at_call 21; refine (hqb.out _ _ HB.out.drew (HT.out.later (Below.refl _ _).drew)).mono ?_; rintro e1 w3 ⟨v3, rfl, ht3, hB3⟩; have HB3 : Hid (Below w.heap.size w w3) := HB.out.drew.trans (hB3.mono HB.out.size); have HT3 := hide ht3; obtain ⟨_, _, ⟨y9, _⟩, ⟨y10, _⟩⟩ := HST.out _ HB3.out; clear ht3 hB3))
        all_goals
          go_wp2
          go_roundw
          case rel => exact ⟨i + 1, _, by omega, by go_num, rfl, by rw [← HNEW.out]; exact HT4, HB4⟩
          case measure => simp [intOf]; omega
      · have t0 : sn.wh.toList.isEmpty = false := by simp [h0]
        by_cases h7 : sn.k = 7
        · have t7 : (sn.k != 7) = false := by simp [h7]
          have HOE : Hid (Pl.insAll (Pl.ownWh sn) O1 = O1) := by show _ = _; simp [Pl.ownWh, h7, Pl.insAll]
          have HO2 : Hid (O1.length ≤ O1.length + (Pl.ownWh sn).length) := by show _ ≤ _; omega
          clear h0 h7
          go_wp2_with fail
          have HLB : Hid (O1.length + (Pl.callsF b).length ≤ 1048576) := by
            show _ ≤ _
            have := HO1.out; have := HPART.out; have := HLEN.out; have := HL.out; omega
          have hlb := Pl.insAll_len (Pl.callsF b) O1
          have HLE : Hid ((Pl.insAll (Pl.callsF b) O1).length + (Pl.callsF e).length ≤ 1048576) := by
            show _ ≤ _
            have := HO1.out; have := HPART.out; have := HLEN.out; have := HL.out; omega
          have hqb : Hid (∀ W vo, Below w.heap.size w W → TextsAt W vo O1 → Calls Tryz.prog 21 #[.slice adb b.len cpb, vo] W fun e w' => ∃ v', e = .returned v' ∧ TextsAt w' v' (Pl.insAll (Pl.callsF b) O1) ∧ Below W.heap.size W w') := fun W vo hW ht => hib.out.1 _ W O1 vo HLB.out (HST.out W hW).2.2.1.2 ht
          have hqe : Hid (∀ W vo, Below w.heap.size w W → TextsAt W vo (Pl.insAll (Pl.callsF b) O1) → Calls Tryz.prog 21 #[.slice adl e.len cpl, vo] W fun e' w' => ∃ v', e' = .returned v' ∧ TextsAt w' v' (Pl.insAll (Pl.callsF e) (Pl.insAll (Pl.callsF b) O1)) ∧ Below W.heap.size W w') := fun W vo hW ht => hib.out.2 _ W _ vo HLE.out (HST.out W hW).2.2.2.2 ht
          have HNEW : Hid (Pl.insAll (Pl.callsF e) (Pl.insAll (Pl.callsF b) O1) = Pl.insAll (Pl.callsTo F (i + 1)) out) := by
            show _ = _
            rw [HS.out, Pl.insAll_append, HO1.out, Pl.callsS, Pl.insAll_append, Pl.insAll_append, HOE.out]
          clear hlb hib
          generalize Pl.insAll (Pl.callsF e) (Pl.insAll (Pl.callsF b) O1) = O4 at hqe HNEW
          generalize Pl.insAll (Pl.callsF b) O1 = O3 at hqb hqe
          generalize b.len = bl at *
          generalize e.len = el at *
          go_region_with (first | (go_at_call 21; refine (hqe.out _ _ HB3.out HT3.out).mono ?_; rintro e2 w4 ⟨v4, rfl, ht4, hB4⟩; have HB4 : Hid (Below w.heap.size w w4) := HB3.out.trans (hB4.mono HB3.out.size); have HT4 := hide ht4; clear ht4 hB4) | (go_at_call 21; refine (hqb.out _ _ HB.out.drew (HT.out.later (Below.refl _ _).drew)).mono ?_; rintro e1 w3 ⟨v3, rfl, ht3, hB3⟩; have HB3 : Hid (Below w.heap.size w w3) := HB.out.drew.trans (hB3.mono HB.out.size); have HT3 := hide ht3; obtain ⟨_, _, ⟨y9, _⟩, ⟨y10, _⟩⟩ := HST.out _ HB3.out; clear ht3 hB3))
          all_goals
            go_wp2
            go_roundw
            case rel => exact ⟨i + 1, _, by omega, by go_num, rfl, by rw [← HNEW.out]; exact HT4, HB4⟩
            case measure => simp [intOf]; omega
        · have t7 : (sn.k != 7) = true := by simp [h7]
          have HOE : Hid (Pl.insAll (Pl.ownWh sn) O1 = Pl.ins sn.wh.data.toList O1) := by show _ = _; simp [Pl.ownWh, h0, h7, Pl.insAll]
          have HO2 : Hid ((Pl.ins sn.wh.data.toList O1).length ≤ O1.length + (Pl.ownWh sn).length) := by
            show _ ≤ _
            have := Pl.ins_len sn.wh.data.toList O1
            simp only [Pl.ownWh, h0, h7, or_self, if_false, List.length_singleton]
            omega
          have hadd := hide fun (W : World) (hW : Below wr.heap.size wr W) => l2Add_any O1 sn.wh.data.toList HOL.out _ W (HT.out.later hW)
          have hnm : sv sn.wh.data.toList = .string sn.wh := by unfold sv; rw [Pl.bs_of]
          rw [hnm] at hadd
          generalize Pl.ins sn.wh.data.toList O1 = O2 at HOE HO2 hadd
          clear hnm h0 h7
          go_wp2_with fail
          refine (hadd.out _ (by first | exact Below.refl _ _ | exact (Below.refl _ _).drew | exact below_drewN (Below.refl _ _) _)).mono ?_
          rintro e0 w2 ⟨v2, rfl, ht2, hB2⟩
          have HB2 : Hid (Below w.heap.size w w2) := HB.out.trans (Below.trans (by first | exact Below.refl _ _ | exact (Below.refl _ _).drew | exact below_drewN (Below.refl _ _) _) (hB2.mono HB.out.size))
          have HT2 := hide ht2
          obtain ⟨a2, c2, rfl, _⟩ := HT2.out
          obtain ⟨⟨z0, z1, z2, z3, z4, z5, z6, z7⟩, ⟨z8, _⟩, ⟨z9, _⟩, ⟨z10, _⟩⟩ := HST.out _ HB2.out
          clear ht2 hB2 hadd d0 d1 d2 d3 d4 d5 d6 d7 d8 d9 d10
          go_wp2_with fail
          have HLB : Hid (O2.length + (Pl.callsF b).length ≤ 1048576) := by
            show _ ≤ _
            have := HO2.out; have := HPART.out; have := HLEN.out; have := HL.out; omega
          have hlb := Pl.insAll_len (Pl.callsF b) O2
          have HLE : Hid ((Pl.insAll (Pl.callsF b) O2).length + (Pl.callsF e).length ≤ 1048576) := by
            show _ ≤ _
            have := HO2.out; have := HPART.out; have := HLEN.out; have := HL.out; omega
          have hqb : Hid (∀ W vo, Below w.heap.size w W → TextsAt W vo O2 → Calls Tryz.prog 21 #[.slice adb b.len cpb, vo] W fun e w' => ∃ v', e = .returned v' ∧ TextsAt w' v' (Pl.insAll (Pl.callsF b) O2) ∧ Below W.heap.size W w') := fun W vo hW ht => hib.out.1 _ W O2 vo HLB.out (HST.out W hW).2.2.1.2 ht
          have hqe : Hid (∀ W vo, Below w.heap.size w W → TextsAt W vo (Pl.insAll (Pl.callsF b) O2) → Calls Tryz.prog 21 #[.slice adl e.len cpl, vo] W fun e' w' => ∃ v', e' = .returned v' ∧ TextsAt w' v' (Pl.insAll (Pl.callsF e) (Pl.insAll (Pl.callsF b) O2)) ∧ Below W.heap.size W w') := fun W vo hW ht => hib.out.2 _ W _ vo HLE.out (HST.out W hW).2.2.2.2 ht
          have HNEW : Hid (Pl.insAll (Pl.callsF e) (Pl.insAll (Pl.callsF b) O2) = Pl.insAll (Pl.callsTo F (i + 1)) out) := by
            show _ = _
            rw [HS.out, Pl.insAll_append, HO1.out, Pl.callsS, Pl.insAll_append, Pl.insAll_append, HOE.out]
          clear hlb hib
          generalize Pl.insAll (Pl.callsF e) (Pl.insAll (Pl.callsF b) O2) = O4 at hqe HNEW
          generalize Pl.insAll (Pl.callsF b) O2 = O3 at hqb hqe
          generalize b.len = bl at *
          generalize e.len = el at *
          go_region_with (first | (go_at_call 21; refine (hqe.out _ _ HB3.out HT3.out).mono ?_; rintro e2 w4 ⟨v4, rfl, ht4, hB4⟩; have HB4 : Hid (Below w.heap.size w w4) := HB3.out.trans (hB4.mono HB3.out.size); have HT4 := hide ht4; clear ht4 hB4) | (go_at_call 21; refine (hqb.out _ _ HB2.out.drew (HT2.out.later (Below.refl _ _).drew)).mono ?_; rintro e1 w3 ⟨v3, rfl, ht3, hB3⟩; have HB3 : Hid (Below w.heap.size w w3) := HB2.out.drew.trans (hB3.mono HB2.out.size); have HT3 := hide ht3; obtain ⟨_, _, ⟨y9, _⟩, ⟨y10, _⟩⟩ := HST.out _ HB3.out; clear ht3 hB3))
          all_goals
            go_wp2
            go_roundw
            case rel => exact ⟨i + 1, _, by omega, by go_num, rfl, by rw [← HNEW.out]; exact HT4, HB4⟩
            case measure => simp [intOf]; omega
    · have hie : i = F.len := by omega
      obtain ⟨ao, co, rfl, _⟩ := HT.out
      go_wp2
      go_ret
      refine ⟨_, rfl, ?_, HB.out⟩
      have e1 : Pl.insAll (Pl.callsTo F i) out = Pl.insAll (Pl.callsF F) out := by rw [hie, Pl.callsTo_all]
      rw [← e1]
      exact HT.out
theorem l3Calls_fuel : ∀ (n : Nat) (F : Ps), F.nodes ≤ n → CalP F
  | 0, F, h => l3Calls_of F fun i sn b e hk => by have := F.get_nodes i sn b e hk; omega
  | n + 1, F, h => l3Calls_of F fun i sn b e hk => ⟨l3Calls_fuel n b (by have := F.get_nodes i sn b e hk; omega), l3Calls_fuel n e (by have := F.get_nodes i sn b e hk; omega)⟩
theorem l3Calls_any (F : Ps) : CalP F := l3Calls_fuel F.nodes F (Nat.le_refl _)
end Go.Proofs.YtnikomgdcddchaaGreat

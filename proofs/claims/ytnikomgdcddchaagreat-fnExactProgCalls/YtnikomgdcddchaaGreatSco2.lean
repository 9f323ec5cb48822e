/- Names that an expression uses, and names that are made, as the specification looks at them. -/
import Derived.Test.YtnikomgdcddchaaGreatSco1
import Derived.Deep.RegionLaw
namespace Go.Proofs.YtnikomgdcddchaaGreat
open Go.RowKit
set_option linter.unusedVariables false
namespace Pl
def lacks (V L : List (List UInt8)) : Bool := L.any (fun x => !decide (x ∈ V))
def lackC (V L : List (List UInt8)) : Int := if lacks V L = true then 3 else 0
theorem lacks_ins (V N : List (List UInt8)) : lacks V (insAll N []) = lacks V N := by
  unfold lacks
  rw [Bool.eq_iff_iff, List.any_eq_true, List.any_eq_true]
  constructor
  · rintro ⟨x, hx, h⟩
    rcases (mem_insAll x N []).1 hx with h1 | h1
    · exact ⟨x, h1, h⟩
    · simp at h1
  · rintro ⟨x, hx, h⟩
    exact ⟨x, (mem_insAll x N []).2 (.inl hx), h⟩
theorem lackC_take (V L : List (List UInt8)) (i : Nat) (hi : i < L.length) (code : Int) :
    orr code (lackC V (L.take (i + 1))) = if decide (L[i]?.getD [] ∈ V) = true then orr code (lackC V (L.take i)) else orr (orr code (lackC V (L.take i))) 3 := by
  rw [List.take_add_one, List.getElem?_eq_getElem hi]
  simp only [Option.toList_some, Option.getD_some, lackC, lacks, List.any_append, List.any_cons, List.any_nil, Bool.or_false]
  by_cases h : L[i] ∈ V
  · simp [h]
  · simp only [h, decide_false, Bool.not_false, Bool.or_true, if_true, Bool.false_eq_true, if_false]
    unfold orr
    by_cases hc : code = 0
    · by_cases ha : (List.take i L).any (fun x => !decide (x ∈ V)) = true <;> simp [hc, ha]
    · simp [hc]
end Pl

set_option maxHeartbeats 1600000 in
theorem uses_any (g : Nat) (V C : List (List UInt8)) (code : Int) (ex : Nd) (ek : Fo) (ve : Value) (W : World) (hV : V.length ≤ 1048576) (hl : ek.len ≤ 1048576) (hs : ek.Sm) (hN : (Pl.namesN ex ek).length ≤ 1048576) (hre : RowAt 0 W ek ve) (h : ScAt W g V C code) :
    Calls Tryz.prog 82 #[.pointer (some ⟨g, 0, none⟩), ndV ex ve] W fun e w' => e = .returned (.tuple #[]) ∧ W.grownBy w' (some g) ∧ ScAt w' g V C (Pl.orr code (Pl.lackC V (Pl.namesN ex ek))) := by
  have hq : Hid (∀ W' vo, Below W.heap.size W W' → TextsAt W' vo [] → Calls Tryz.prog 109 #[ndV ex ve, vo] W' fun e w' => ∃ v', e = .returned v' ∧ TextsAt w' v' (Pl.insAll (Pl.namesN ex ek) []) ∧ Below W'.heap.size W' w') := fun W' vo hW ho => l2Names_any ek hl hs ex ve W' [] vo (by simpa using hN) (hre.later hW) ho
  have HE : Hid (Pl.lackC V (Pl.namesN ex ek) = Pl.lackC V (Pl.insAll (Pl.namesN ex ek) [])) := by
    show _ = _
    unfold Pl.lackC
    rw [Pl.lacks_ins]
  have hL : (Pl.insAll (Pl.namesN ex ek) []).length ≤ 1048576 := by
    have := Pl.insAll_len (Pl.namesN ex ek) []
    simp only [List.length_nil] at this
    omega
  rw [HE.out]
  clear HE hs hN
  generalize Pl.insAll (Pl.namesN ex ek) [] = L at hq hL ⊢
  obtain ⟨ade, cape, rfl, _, _, _⟩ := hre
  have HSC := hide h
  have hgw : Hid (g < W.heap.size) := by
    obtain ⟨vv, vc, hb, _⟩ := h
    exact (Array.getElem?_eq_some_iff.1 hb).1
  clear h
  go_enter Tryz.func82, Tryz.ntmps82
  go_wp2_with fail
  have hAA : ∀ A B : Obj, Below W.heap.size W ((W.alloc A).alloc B) := fun A B => ((Below.refl _ _).alloc (Nat.le_refl _) _).alloc (by simp) _
  refine (hq.out _ _ (hAA _ _) ⟨_, 0, rfl, Nat.le_refl _, by unfold maxLen; omega, fun h => by simp at h, fun _ => rfl⟩).mono ?_
  rintro e w1 ⟨v1, rfl, ht1, hB1⟩
  have HB1 : Hid (Below W.heap.size W w1) := (hAA _ _).trans (hB1.mono (hAA _ _).size)
  clear hAA
  have HT1 := hide ht1
  have HSC1 := hide (HSC.out.later HB1.out)
  obtain ⟨a1, c1, rfl, hc1, hm1, hx1, _⟩ := ht1
  have HX1 := hide hx1
  unfold maxLen at hm1
  clear hq hB1 hx1 HSC
  go_wp2_with fail
  go_loopw [5] (fun iv wr => ∃ i : Nat, i ≤ L.length ∧ iv = .int .i64 i ∧ Hid (ScAt wr g V C (Pl.orr code (Pl.lackC V (L.take i)))) ∧ Hid (w1.grownBy wr (some g))) (fun iv _ => L.length - (intOf iv).toNat)
  case atStart => exact ⟨0, by omega, rfl, hide (by rw [List.take_zero]; simpa [Pl.lackC, Pl.lacks, Pl.orr_zero] using HSC1.out), hide (grown_refl _ _)⟩
  case round =>
    obtain ⟨i, hi, rfl, HS, HG⟩ := hrel
    have HTR := hide (HT1.out.beside HSC1.out HG.out)
    have HSR := hide HS.out
    obtain ⟨vv, vc, hbk, hvv, hvc, hnv, hnc⟩ := HS.out
    have cv := cell_of_block hbk 0
    simp only [List.getElem?_toArray, List.getElem?_cons_zero] at cv
    by_cases hlt : i < L.length
    · obtain ⟨aa, cc, heq, _, _, hxx, _⟩ := HTR.out
      cases heq
      obtain ⟨g1, off, rfl, hg1, hcell⟩ := hxx (by omega)
      have hck := hcell i hlt
      have HTK := hide (Pl.lackC_take V L i hlt code)
      generalize hX : L[i]?.getD [] = X at hck HTK
      have hhas : Hid (∀ W', Below wr.heap.size wr W' → Calls Tryz.prog 84 #[vv, sv X] W' fun e w' => e = .returned (.bool (decide (X ∈ V))) ∧ w' = W') := fun W' hW => l3Has_any V X vv (by omega) W' (hvv.later hW)
      obtain ⟨av, cpv, rfl, _⟩ := hvv
      have hii : (i : Int) < (L.length : Int) := by omega
      clear hX hcell hxx hbk hvc hnv hnc
      go_wp2_with fail
      go_region_with (go_at_call 84; refine (hhas.out _ (by first | exact Below.refl _ _ | exact (Below.refl _ _).drew | exact below_drewN (Below.refl _ _) _)).mono ?_; rintro e w3 ⟨rfl, rfl⟩)
      all_goals
        cases hin : decide (X ∈ V)
        · have hf := hide (fail_any g V C (Pl.orr code (Pl.lackC V (L.take i))) 3 wr.drew (HSR.out.later (Below.refl _ _).drew))
          have HTK' : Hid (Pl.orr code (Pl.lackC V (L.take (i + 1))) = Pl.orr (Pl.orr code (Pl.lackC V (L.take i))) 3) := by
            show _ = _
            rw [HTK.out, hin]
            rfl
          clear hin HTK
          go_wp2_with fail
          refine hf.out.mono ?_
          rintro e w4 ⟨rfl, hg4, hsc4⟩
          have HSC4 := hide hsc4
          rw [← HTK'.out] at HSC4
          have HG4 : Hid (w1.grownBy w4 (some g)) := grown_trans HG.out (grown_trans (grown_below (Below.refl _ _).drew _) hg4)
          clear hg4 hsc4 hf hck cv
          go_wp2
          go_roundw
          case rel => exact ⟨i + 1, by omega, by go_num, HSC4, HG4⟩
          case measure => simp [intOf]; omega
        · have HTK' : Hid (Pl.orr code (Pl.lackC V (L.take (i + 1))) = Pl.orr code (Pl.lackC V (L.take i))) := by
            show _ = _
            rw [HTK.out, hin]
            rfl
          have HSC4 : Hid (ScAt wr.drew g V C (Pl.orr code (Pl.lackC V (L.take (i + 1))))) := by
            rw [HTK'.out]
            exact HSR.out.later (Below.refl _ _).drew
          have HG4 : Hid (w1.grownBy wr.drew (some g)) := grown_trans HG.out (grown_below (Below.refl _ _).drew _)
          clear hin HTK hck cv
          go_wp2
          go_roundw
          case rel => exact ⟨i + 1, by omega, by go_num, HSC4, HG4⟩
          case measure => simp [intOf]; omega
    · have hie : L.take i = L := List.take_of_length_le (by omega)
      have HSE : Hid (ScAt wr g V C (Pl.orr code (Pl.lackC V L))) := by
        have := HSR.out
        rw [hie] at this
        exact this
      clear hie
      go_wp2
      go_end0
      exact ⟨rfl, grown_trans (grown_below HB1.out _) HG.out, HSE.out⟩
end Go.Proofs.YtnikomgdcddchaaGreat

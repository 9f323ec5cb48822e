/- A name that is made, as the specification keeps it. -/
import Derived.Test.YtnikomgdcddchaaGreatSco2
import Derived.Test.YtnikomgdcddchaaGreatNamS
namespace Go.Proofs.YtnikomgdcddchaaGreat
open Go.RowKit
set_option linter.unusedVariables false
namespace Pl
def twiceC (V C : List (List UInt8)) (s : List UInt8) : Int := if s ∈ V ∨ s ∈ C then 2 else 0
end Pl
theorem ScAt.put0 {W : World} {g : Nat} {vv vc v : Value} {V' C : List (List UInt8)} {code : Int} (hb : W.heap[g]? = some (.cells #[vv, vc, .int .i64 code] 67 (0, 0))) (hc : TextsAt W vc C) (hv : TextsAt W v V') (hnc : ∀ j, vc.ownBlock = some j → j ≠ g) (hnv : ∀ j, v.ownBlock = some j → j ≠ g) : ScAt (W.setCell ⟨g, 0, none⟩ v) g V' C code := by
  have hgr := grown_set W g 0 v
  exact ⟨v, vc, block_set hb 0 _, hv.grown hgr (fun j hj e => hnv j hj (by cases e; rfl)), hc.grown hgr (fun j hj e => hnc j hj (by cases e; rfl)), hnv, hnc⟩
theorem ScAt.put1 {W : World} {g : Nat} {vv vc v : Value} {V C' : List (List UInt8)} {code : Int} (hb : W.heap[g]? = some (.cells #[vv, vc, .int .i64 code] 67 (0, 0))) (hc : TextsAt W vv V) (hv : TextsAt W v C') (hnc : ∀ j, vv.ownBlock = some j → j ≠ g) (hnv : ∀ j, v.ownBlock = some j → j ≠ g) : ScAt (W.setCell ⟨g, 1, none⟩ v) g V C' code := by
  have hgr := grown_set W g 1 v
  exact ⟨vv, v, block_set hb 1 _, hc.grown hgr (fun j hj e => hnc j hj (by cases e; rfl)), hv.grown hgr (fun j hj e => hnv j hj (by cases e; rfl)), hnc, hnv⟩

set_option maxHeartbeats 3200000 in
theorem fresh_var (g : Nat) (V C : List (List UInt8)) (code : Int) (s : List UInt8) (W : World) (hV : V.length ≤ 1048576) (hC : C.length ≤ 1048576) (h : ScAt W g V C code) :
    Calls Tryz.prog 83 #[.pointer (some ⟨g, 0, none⟩), sv s, .bool false] W fun e w' => e = .returned (.tuple #[]) ∧ W.grownBy w' (some g) ∧ ScAt w' g (V ++ [s]) C (Pl.orr code (Pl.twiceC V C s)) := by
  have HSC := hide h
  have hcv : ∃ vv, W.cell? ⟨g, 0, none⟩ = some vv ∧ TextsAt W vv V := by
    obtain ⟨vv, vc, hbk, hvv, hvc, hnv, hnc⟩ := h
    exact ⟨vv, by rw [cell_of_block hbk]; rfl, hvv⟩
  have hcc : ∃ vc, W.cell? ⟨g, 1, none⟩ = some vc ∧ TextsAt W vc C := by
    obtain ⟨vv, vc, hbk, hvv, hvc, hnv, hnc⟩ := h
    exact ⟨vc, by rw [cell_of_block hbk]; rfl, hvc⟩
  clear h
  obtain ⟨vv0, cv0, tv0⟩ := hcv
  obtain ⟨vc0, cc0, tc0⟩ := hcc
  have hh1 := hide (l3Has_any V s vv0 (by omega) W tv0)
  have hh2 := hide (l3Has_any C s vc0 (by omega) W tc0)
  obtain ⟨av0, cpv0, rfl, _⟩ := tv0
  obtain ⟨ac0, cpc0, rfl, _⟩ := tc0
  have hf := hide (fail_any g V C code 2 W HSC.out)
  by_cases hin : s ∈ V
  · rw [decide_eq_true hin] at hh1
    have HTW : Hid (Pl.orr code (Pl.twiceC V C s) = Pl.orr code 2) := by show _ = _; simp [Pl.twiceC, hin]
    clear hin hh2
    go_enter Tryz.func83, Tryz.ntmps83
    go_wp2_with fail
    refine hh1.out.mono ?_
    rintro e w0 ⟨rfl, rfl⟩
    go_wp2_with fail
    refine hf.out.mono ?_
    rintro e w3 ⟨rfl, hg3, hsc3⟩
    have HSC3 := hide hsc3
    have HG3 := hide hg3
    clear hg3 hsc3 hh1 hf cv0 cc0
    obtain ⟨vv, vc, hbk, hvv, hvc, hnv, hnc⟩ := HSC3.out
    have hgw : g < w3.heap.size := (Array.getElem?_eq_some_iff.1 hbk).1
    have cv := cell_of_block hbk 0
    simp only [List.getElem?_toArray, List.getElem?_cons_zero] at cv
    have HVV := hide hvv
    have HVC := hide hvc
    obtain ⟨av, cpv, rfl, _⟩ := hvv
    obtain ⟨ac, cpc, rfl, _⟩ := hvc
    have HBK := hide hbk
    clear hbk
    have hA : Hid (Below w3.heap.size w3 (w3.alloc (.cells #[] 9))) := (Below.refl _ _).alloc (Nat.le_refl _) _
    have cva : (w3.alloc (.cells #[] 9)).cell? ⟨g, 0, none⟩ = some (.slice av V.length cpv) := (hA.out.cell (p := ⟨g, 0, none⟩) hgw).trans cv
    go_wp2_with (at_builtin; refine wpList_app rfl _ _ rfl rfl w3.heap.size [] V _ _ rfl rfl (own_lit w3 9 _ (Nat.le_refl _)) (HVV.out.later hA.out) (by simp; omega) hA.out.size ?_)
    intro v1 w1 h1 hg1
    have HB1 : Hid (Below w3.heap.size w3 w1) := hA.out.grown hg1 hA.out.size (fun j hj => by simp [Value.ownBlock] at hj; omega)
    have HO1 : Hid (w1.ownsRow w3.heap.size 9 1 v1 V.length (V.map sv)) := hide (by simpa using h1)
    obtain ⟨a1, c1, rfl⟩ := ownsRow_form HO1.out
    have hA1 : Hid (Below w1.heap.size w1 (w1.alloc (.cells #[sv s] 9))) := (Below.refl _ _).alloc (Nat.le_refl _) _
    have HB1' : Hid (Below w3.heap.size w3 (w1.alloc (.cells #[sv s] 9))) := HB1.out.trans (hA1.out.mono HB1.out.size)
    clear h1 hg1 cva
    go_wp2_with (at_builtin; refine wpList_app rfl _ _ rfl rfl w3.heap.size V [s] _ _ rfl rfl (HO1.out.alloc _) (one_at w1 s) (by simp; omega) HB1'.out.size ?_)
    intro v2 w2 h2 hg2
    have HB2 : Hid (Below w3.heap.size w3 w2) := HB1'.out.grown hg2 HB1'.out.size (fun j hj => (HO1.out.lt j hj).1)
    have HO2 : Hid (w2.ownsRow w3.heap.size 9 1 v2 (V ++ [s]).length ((V ++ [s]).map sv)) := hide (by simpa using h2)
    have HT2 := hide (texts_of_row HO2.out)
    have HNE : Hid (∀ j, v2.ownBlock = some j → j ≠ g) := by
      refine hide fun j hj => ?_
      have := (HO2.out.lt j hj).1
      omega
    clear HO2
    obtain ⟨a2, c2, rfl⟩ := ownsRow_form h2
    have hbk2 := (HB2.out.block g hgw).trans HBK.out
    have cs := cell_of_block hbk2 0
    have fs := free_of_block hbk2 0
    simp only [List.getElem?_toArray, List.getElem?_cons_zero] at cs
    have HBK2 := hide hbk2
    have HGR : Hid (w0.grownBy w2 (some g)) := grown_trans HG3.out (grown_below HB2.out _)
    clear h2 hg2 hbk2
    go_wp2
    go_end0
    refine ⟨rfl, grown_trans HGR.out (grown_set _ _ _ _), ?_⟩
    rw [HTW.out]
    exact ScAt.put0 HBK2.out (HVC.out.later HB2.out) HT2.out hnc HNE.out
  · rw [decide_eq_false hin] at hh1
    by_cases hin2 : s ∈ C
    · rw [decide_eq_true hin2] at hh2
      have HTW : Hid (Pl.orr code (Pl.twiceC V C s) = Pl.orr code 2) := by show _ = _; simp [Pl.twiceC, hin2]
      clear hin hin2
      go_enter Tryz.func83, Tryz.ntmps83
      go_wp2_with fail
      refine hh1.out.mono ?_
      rintro e w0 ⟨rfl, rfl⟩
      go_wp2_with fail
      refine hh2.out.mono ?_
      rintro e w00 ⟨rfl, rfl⟩
      go_wp2_with fail
      refine hf.out.mono ?_
      rintro e w3 ⟨rfl, hg3, hsc3⟩
      have HSC3 := hide hsc3
      have HG3 := hide hg3
      clear hg3 hsc3 hh1 hh2 hf cv0 cc0
      obtain ⟨vv, vc, hbk, hvv, hvc, hnv, hnc⟩ := HSC3.out
      have hgw : g < w3.heap.size := (Array.getElem?_eq_some_iff.1 hbk).1
      have cv := cell_of_block hbk 0
      simp only [List.getElem?_toArray, List.getElem?_cons_zero] at cv
      have HVV := hide hvv
      have HVC := hide hvc
      obtain ⟨av, cpv, rfl, _⟩ := hvv
      obtain ⟨ac, cpc, rfl, _⟩ := hvc
      have HBK := hide hbk
      clear hbk
      have hA : Hid (Below w3.heap.size w3 (w3.alloc (.cells #[] 9))) := (Below.refl _ _).alloc (Nat.le_refl _) _
      have cva : (w3.alloc (.cells #[] 9)).cell? ⟨g, 0, none⟩ = some (.slice av V.length cpv) := (hA.out.cell (p := ⟨g, 0, none⟩) hgw).trans cv
      go_wp2_with (at_builtin; refine wpList_app rfl _ _ rfl rfl w3.heap.size [] V _ _ rfl rfl (own_lit w3 9 _ (Nat.le_refl _)) (HVV.out.later hA.out) (by simp; omega) hA.out.size ?_)
      intro v1 w1 h1 hg1
      have HB1 : Hid (Below w3.heap.size w3 w1) := hA.out.grown hg1 hA.out.size (fun j hj => by simp [Value.ownBlock] at hj; omega)
      have HO1 : Hid (w1.ownsRow w3.heap.size 9 1 v1 V.length (V.map sv)) := hide (by simpa using h1)
      obtain ⟨a1, c1, rfl⟩ := ownsRow_form HO1.out
      have hA1 : Hid (Below w1.heap.size w1 (w1.alloc (.cells #[sv s] 9))) := (Below.refl _ _).alloc (Nat.le_refl _) _
      have HB1' : Hid (Below w3.heap.size w3 (w1.alloc (.cells #[sv s] 9))) := HB1.out.trans (hA1.out.mono HB1.out.size)
      clear h1 hg1 cva
      go_wp2_with (at_builtin; refine wpList_app rfl _ _ rfl rfl w3.heap.size V [s] _ _ rfl rfl (HO1.out.alloc _) (one_at w1 s) (by simp; omega) HB1'.out.size ?_)
      intro v2 w2 h2 hg2
      have HB2 : Hid (Below w3.heap.size w3 w2) := HB1'.out.grown hg2 HB1'.out.size (fun j hj => (HO1.out.lt j hj).1)
      have HO2 : Hid (w2.ownsRow w3.heap.size 9 1 v2 (V ++ [s]).length ((V ++ [s]).map sv)) := hide (by simpa using h2)
      have HT2 := hide (texts_of_row HO2.out)
      have HNE : Hid (∀ j, v2.ownBlock = some j → j ≠ g) := by
        refine hide fun j hj => ?_
        have := (HO2.out.lt j hj).1
        omega
      clear HO2
      obtain ⟨a2, c2, rfl⟩ := ownsRow_form h2
      have hbk2 := (HB2.out.block g hgw).trans HBK.out
      have cs := cell_of_block hbk2 0
      have fs := free_of_block hbk2 0
      simp only [List.getElem?_toArray, List.getElem?_cons_zero] at cs
      have HBK2 := hide hbk2
      have HGR : Hid (w00.grownBy w2 (some g)) := grown_trans HG3.out (grown_below HB2.out _)
      clear h2 hg2 hbk2
      go_wp2
      go_end0
      refine ⟨rfl, grown_trans HGR.out (grown_set _ _ _ _), ?_⟩
      rw [HTW.out]
      exact ScAt.put0 HBK2.out (HVC.out.later HB2.out) HT2.out hnc HNE.out
    · rw [decide_eq_false hin2] at hh2
      have HTW : Hid (Pl.orr code (Pl.twiceC V C s) = code) := by show _ = _; simp [Pl.twiceC, hin, hin2, Pl.orr_zero]
      clear hin hin2 hf
      go_enter Tryz.func83, Tryz.ntmps83
      go_wp2_with fail
      refine hh1.out.mono ?_
      rintro e w0 ⟨rfl, rfl⟩
      go_wp2_with fail
      refine hh2.out.mono ?_
      rintro e w00 ⟨rfl, rfl⟩
      clear hh1 hh2 cv0 cc0
      obtain ⟨vv, vc, hbk, hvv, hvc, hnv, hnc⟩ := HSC.out
      have hgw : g < w00.heap.size := (Array.getElem?_eq_some_iff.1 hbk).1
      have cv := cell_of_block hbk 0
      simp only [List.getElem?_toArray, List.getElem?_cons_zero] at cv
      have HVV := hide hvv
      have HVC := hide hvc
      obtain ⟨av, cpv, rfl, _⟩ := hvv
      obtain ⟨ac, cpc, rfl, _⟩ := hvc
      have HBK := hide hbk
      clear hbk
      have hA : Hid (Below w00.heap.size w00 (w00.alloc (.cells #[] 9))) := (Below.refl _ _).alloc (Nat.le_refl _) _
      have cva : (w00.alloc (.cells #[] 9)).cell? ⟨g, 0, none⟩ = some (.slice av V.length cpv) := (hA.out.cell (p := ⟨g, 0, none⟩) hgw).trans cv
      go_wp2_with (at_builtin; refine wpList_app rfl _ _ rfl rfl w00.heap.size [] V _ _ rfl rfl (own_lit w00 9 _ (Nat.le_refl _)) (HVV.out.later hA.out) (by simp; omega) hA.out.size ?_)
      intro v1 w1 h1 hg1
      have HB1 : Hid (Below w00.heap.size w00 w1) := hA.out.grown hg1 hA.out.size (fun j hj => by simp [Value.ownBlock] at hj; omega)
      have HO1 : Hid (w1.ownsRow w00.heap.size 9 1 v1 V.length (V.map sv)) := hide (by simpa using h1)
      obtain ⟨a1, c1, rfl⟩ := ownsRow_form HO1.out
      have hA1 : Hid (Below w1.heap.size w1 (w1.alloc (.cells #[sv s] 9))) := (Below.refl _ _).alloc (Nat.le_refl _) _
      have HB1' : Hid (Below w00.heap.size w00 (w1.alloc (.cells #[sv s] 9))) := HB1.out.trans (hA1.out.mono HB1.out.size)
      clear h1 hg1 cva
      go_wp2_with (at_builtin; refine wpList_app rfl _ _ rfl rfl w00.heap.size V [s] _ _ rfl rfl (HO1.out.alloc _) (one_at w1 s) (by simp; omega) HB1'.out.size ?_)
      intro v2 w2 h2 hg2
      have HB2 : Hid (Below w00.heap.size w00 w2) := HB1'.out.grown hg2 HB1'.out.size (fun j hj => (HO1.out.lt j hj).1)
      have HO2 : Hid (w2.ownsRow w00.heap.size 9 1 v2 (V ++ [s]).length ((V ++ [s]).map sv)) := hide (by simpa using h2)
      have HT2 := hide (texts_of_row HO2.out)
      have HNE : Hid (∀ j, v2.ownBlock = some j → j ≠ g) := by
        refine hide fun j hj => ?_
        have := (HO2.out.lt j hj).1
        omega
      clear HO2
      obtain ⟨a2, c2, rfl⟩ := ownsRow_form h2
      have hbk2 := (HB2.out.block g hgw).trans HBK.out
      have cs := cell_of_block hbk2 0
      have fs := free_of_block hbk2 0
      simp only [List.getElem?_toArray, List.getElem?_cons_zero] at cs
      have HBK2 := hide hbk2
      have HGR : Hid (w00.grownBy w2 (some g)) := grown_below HB2.out _
      clear h2 hg2 hbk2
      go_wp2
      go_end0
      refine ⟨rfl, grown_trans HGR.out (grown_set _ _ _ _), ?_⟩
      rw [HTW.out]
      exact ScAt.put0 HBK2.out (HVC.out.later HB2.out) HT2.out hnc HNE.out

set_option maxHeartbeats 3200000 in
theorem fresh_call (g : Nat) (V C : List (List UInt8)) (code : Int) (s : List UInt8) (W : World) (hV : V.length ≤ 1048576) (hC : C.length ≤ 1048576) (h : ScAt W g V C code) :
    Calls Tryz.prog 83 #[.pointer (some ⟨g, 0, none⟩), sv s, .bool true] W fun e w' => e = .returned (.tuple #[]) ∧ W.grownBy w' (some g) ∧ ScAt w' g V (C ++ [s]) (Pl.orr code (Pl.twiceC V C s)) := by
  have HSC := hide h
  have hcv : ∃ vv, W.cell? ⟨g, 0, none⟩ = some vv ∧ TextsAt W vv V := by
    obtain ⟨vv, vc, hbk, hvv, hvc, hnv, hnc⟩ := h
    exact ⟨vv, by rw [cell_of_block hbk]; rfl, hvv⟩
  have hcc : ∃ vc, W.cell? ⟨g, 1, none⟩ = some vc ∧ TextsAt W vc C := by
    obtain ⟨vv, vc, hbk, hvv, hvc, hnv, hnc⟩ := h
    exact ⟨vc, by rw [cell_of_block hbk]; rfl, hvc⟩
  clear h
  obtain ⟨vv0, cv0, tv0⟩ := hcv
  obtain ⟨vc0, cc0, tc0⟩ := hcc
  have hh1 := hide (l3Has_any V s vv0 (by omega) W tv0)
  have hh2 := hide (l3Has_any C s vc0 (by omega) W tc0)
  obtain ⟨av0, cpv0, rfl, _⟩ := tv0
  obtain ⟨ac0, cpc0, rfl, _⟩ := tc0
  have hf := hide (fail_any g V C code 2 W HSC.out)
  by_cases hin : s ∈ V
  · rw [decide_eq_true hin] at hh1
    have HTW : Hid (Pl.orr code (Pl.twiceC V C s) = Pl.orr code 2) := by show _ = _; simp [Pl.twiceC, hin]
    clear hin hh2
    go_enter Tryz.func83, Tryz.ntmps83
    go_wp2_with fail
    refine hh1.out.mono ?_
    rintro e w0 ⟨rfl, rfl⟩
    go_wp2_with fail
    refine hf.out.mono ?_
    rintro e w3 ⟨rfl, hg3, hsc3⟩
    have HSC3 := hide hsc3
    have HG3 := hide hg3
    clear hg3 hsc3 hh1 hf cv0 cc0
    obtain ⟨vv, vc, hbk, hvv, hvc, hnv, hnc⟩ := HSC3.out
    have hgw : g < w3.heap.size := (Array.getElem?_eq_some_iff.1 hbk).1
    have cv := cell_of_block hbk 1
    simp only [List.getElem?_toArray, List.getElem?_cons_zero, List.getElem?_cons_succ] at cv
    have HVV := hide hvv
    have HVC := hide hvc
    obtain ⟨av, cpv, rfl, _⟩ := hvv
    obtain ⟨ac, cpc, rfl, _⟩ := hvc
    have HBK := hide hbk
    clear hbk
    have hA : Hid (Below w3.heap.size w3 (w3.alloc (.cells #[] 9))) := (Below.refl _ _).alloc (Nat.le_refl _) _
    have cva : (w3.alloc (.cells #[] 9)).cell? ⟨g, 1, none⟩ = some (.slice ac C.length cpc) := (hA.out.cell (p := ⟨g, 1, none⟩) hgw).trans cv
    go_wp2_with (at_builtin; refine wpList_app rfl _ _ rfl rfl w3.heap.size [] C _ _ rfl rfl (own_lit w3 9 _ (Nat.le_refl _)) (HVC.out.later hA.out) (by simp; omega) hA.out.size ?_)
    intro v1 w1 h1 hg1
    have HB1 : Hid (Below w3.heap.size w3 w1) := hA.out.grown hg1 hA.out.size (fun j hj => by simp [Value.ownBlock] at hj; omega)
    have HO1 : Hid (w1.ownsRow w3.heap.size 9 1 v1 C.length (C.map sv)) := hide (by simpa using h1)
    obtain ⟨a1, c1, rfl⟩ := ownsRow_form HO1.out
    have hA1 : Hid (Below w1.heap.size w1 (w1.alloc (.cells #[sv s] 9))) := (Below.refl _ _).alloc (Nat.le_refl _) _
    have HB1' : Hid (Below w3.heap.size w3 (w1.alloc (.cells #[sv s] 9))) := HB1.out.trans (hA1.out.mono HB1.out.size)
    clear h1 hg1 cva
    go_wp2_with (at_builtin; refine wpList_app rfl _ _ rfl rfl w3.heap.size C [s] _ _ rfl rfl (HO1.out.alloc _) (one_at w1 s) (by simp; omega) HB1'.out.size ?_)
    intro v2 w2 h2 hg2
    have HB2 : Hid (Below w3.heap.size w3 w2) := HB1'.out.grown hg2 HB1'.out.size (fun j hj => (HO1.out.lt j hj).1)
    have HO2 : Hid (w2.ownsRow w3.heap.size 9 1 v2 (C ++ [s]).length ((C ++ [s]).map sv)) := hide (by simpa using h2)
    have HT2 := hide (texts_of_row HO2.out)
    have HNE : Hid (∀ j, v2.ownBlock = some j → j ≠ g) := by
      refine hide fun j hj => ?_
      have := (HO2.out.lt j hj).1
      omega
    clear HO2
    obtain ⟨a2, c2, rfl⟩ := ownsRow_form h2
    have hbk2 := (HB2.out.block g hgw).trans HBK.out
    have cs := cell_of_block hbk2 1
    have fs := free_of_block hbk2 1
    simp only [List.getElem?_toArray, List.getElem?_cons_zero, List.getElem?_cons_succ] at cs
    have HBK2 := hide hbk2
    have HGR : Hid (w0.grownBy w2 (some g)) := grown_trans HG3.out (grown_below HB2.out _)
    clear h2 hg2 hbk2
    go_wp2
    go_end0
    refine ⟨rfl, grown_trans HGR.out (grown_set _ _ _ _), ?_⟩
    rw [HTW.out]
    exact ScAt.put1 HBK2.out (HVV.out.later HB2.out) HT2.out hnv HNE.out
  · rw [decide_eq_false hin] at hh1
    by_cases hin2 : s ∈ C
    · rw [decide_eq_true hin2] at hh2
      have HTW : Hid (Pl.orr code (Pl.twiceC V C s) = Pl.orr code 2) := by show _ = _; simp [Pl.twiceC, hin2]
      clear hin hin2
      go_enter Tryz.func83, Tryz.ntmps83
      go_wp2_with fail
      refine hh1.out.mono ?_
      rintro e w0 ⟨rfl, rfl⟩
      go_wp2_with fail
      refine hh2.out.mono ?_
      rintro e w00 ⟨rfl, rfl⟩
      go_wp2_with fail
      refine hf.out.mono ?_
      rintro e w3 ⟨rfl, hg3, hsc3⟩
      have HSC3 := hide hsc3
      have HG3 := hide hg3
      clear hg3 hsc3 hh1 hh2 hf cv0 cc0
      obtain ⟨vv, vc, hbk, hvv, hvc, hnv, hnc⟩ := HSC3.out
      have hgw : g < w3.heap.size := (Array.getElem?_eq_some_iff.1 hbk).1
      have cv := cell_of_block hbk 1
      simp only [List.getElem?_toArray, List.getElem?_cons_zero, List.getElem?_cons_succ] at cv
      have HVV := hide hvv
      have HVC := hide hvc
      obtain ⟨av, cpv, rfl, _⟩ := hvv
      obtain ⟨ac, cpc, rfl, _⟩ := hvc
      have HBK := hide hbk
      clear hbk
      have hA : Hid (Below w3.heap.size w3 (w3.alloc (.cells #[] 9))) := (Below.refl _ _).alloc (Nat.le_refl _) _
      have cva : (w3.alloc (.cells #[] 9)).cell? ⟨g, 1, none⟩ = some (.slice ac C.length cpc) := (hA.out.cell (p := ⟨g, 1, none⟩) hgw).trans cv
      go_wp2_with (at_builtin; refine wpList_app rfl _ _ rfl rfl w3.heap.size [] C _ _ rfl rfl (own_lit w3 9 _ (Nat.le_refl _)) (HVC.out.later hA.out) (by simp; omega) hA.out.size ?_)
      intro v1 w1 h1 hg1
      have HB1 : Hid (Below w3.heap.size w3 w1) := hA.out.grown hg1 hA.out.size (fun j hj => by simp [Value.ownBlock] at hj; omega)
      have HO1 : Hid (w1.ownsRow w3.heap.size 9 1 v1 C.length (C.map sv)) := hide (by simpa using h1)
      obtain ⟨a1, c1, rfl⟩ := ownsRow_form HO1.out
      have hA1 : Hid (Below w1.heap.size w1 (w1.alloc (.cells #[sv s] 9))) := (Below.refl _ _).alloc (Nat.le_refl _) _
      have HB1' : Hid (Below w3.heap.size w3 (w1.alloc (.cells #[sv s] 9))) := HB1.out.trans (hA1.out.mono HB1.out.size)
      clear h1 hg1 cva
      go_wp2_with (at_builtin; refine wpList_app rfl _ _ rfl rfl w3.heap.size C [s] _ _ rfl rfl (HO1.out.alloc _) (one_at w1 s) (by simp; omega) HB1'.out.size ?_)
      intro v2 w2 h2 hg2
      have HB2 : Hid (Below w3.heap.size w3 w2) := HB1'.out.grown hg2 HB1'.out.size (fun j hj => (HO1.out.lt j hj).1)
      have HO2 : Hid (w2.ownsRow w3.heap.size 9 1 v2 (C ++ [s]).length ((C ++ [s]).map sv)) := hide (by simpa using h2)
      have HT2 := hide (texts_of_row HO2.out)
      have HNE : Hid (∀ j, v2.ownBlock = some j → j ≠ g) := by
        refine hide fun j hj => ?_
        have := (HO2.out.lt j hj).1
        omega
      clear HO2
      obtain ⟨a2, c2, rfl⟩ := ownsRow_form h2
      have hbk2 := (HB2.out.block g hgw).trans HBK.out
      have cs := cell_of_block hbk2 1
      have fs := free_of_block hbk2 1
      simp only [List.getElem?_toArray, List.getElem?_cons_zero, List.getElem?_cons_succ] at cs
      have HBK2 := hide hbk2
      have HGR : Hid (w00.grownBy w2 (some g)) := grown_trans HG3.out (grown_below HB2.out _)
      clear h2 hg2 hbk2
      go_wp2
      go_end0
      refine ⟨rfl, grown_trans HGR.out (grown_set _ _ _ _), ?_⟩
      rw [HTW.out]
      exact ScAt.put1 HBK2.out (HVV.out.later HB2.out) HT2.out hnv HNE.out
    · rw [decide_eq_false hin2] at hh2
      have HTW : Hid (Pl.orr code (Pl.twiceC V C s) = code) := by show _ = _; simp [Pl.twiceC, hin, hin2, Pl.orr_zero]
      clear hin hin2 hf
      go_enter Tryz.func83, Tryz.ntmps83
      go_wp2_with fail
      refine hh1.out.mono ?_
      rintro e w0 ⟨rfl, rfl⟩
      go_wp2_with fail
      refine hh2.out.mono ?_
      rintro e w00 ⟨rfl, rfl⟩
      clear hh1 hh2 cv0 cc0
      obtain ⟨vv, vc, hbk, hvv, hvc, hnv, hnc⟩ := HSC.out
      have hgw : g < w00.heap.size := (Array.getElem?_eq_some_iff.1 hbk).1
      have cv := cell_of_block hbk 1
      simp only [List.getElem?_toArray, List.getElem?_cons_zero, List.getElem?_cons_succ] at cv
      have HVV := hide hvv
      have HVC := hide hvc
      obtain ⟨av, cpv, rfl, _⟩ := hvv
      obtain ⟨ac, cpc, rfl, _⟩ := hvc
      have HBK := hide hbk
      clear hbk
      have hA : Hid (Below w00.heap.size w00 (w00.alloc (.cells #[] 9))) := (Below.refl _ _).alloc (Nat.le_refl _) _
      have cva : (w00.alloc (.cells #[] 9)).cell? ⟨g, 1, none⟩ = some (.slice ac C.length cpc) := (hA.out.cell (p := ⟨g, 1, none⟩) hgw).trans cv
      go_wp2_with (at_builtin; refine wpList_app rfl _ _ rfl rfl w00.heap.size [] C _ _ rfl rfl (own_lit w00 9 _ (Nat.le_refl _)) (HVC.out.later hA.out) (by simp; omega) hA.out.size ?_)
      intro v1 w1 h1 hg1
      have HB1 : Hid (Below w00.heap.size w00 w1) := hA.out.grown hg1 hA.out.size (fun j hj => by simp [Value.ownBlock] at hj; omega)
      have HO1 : Hid (w1.ownsRow w00.heap.size 9 1 v1 C.length (C.map sv)) := hide (by simpa using h1)
      obtain ⟨a1, c1, rfl⟩ := ownsRow_form HO1.out
      have hA1 : Hid (Below w1.heap.size w1 (w1.alloc (.cells #[sv s] 9))) := (Below.refl _ _).alloc (Nat.le_refl _) _
      have HB1' : Hid (Below w00.heap.size w00 (w1.alloc (.cells #[sv s] 9))) := HB1.out.trans (hA1.out.mono HB1.out.size)
      clear h1 hg1 cva
      go_wp2_with (at_builtin; refine wpList_app rfl _ _ rfl rfl w00.heap.size C [s] _ _ rfl rfl (HO1.out.alloc _) (one_at w1 s) (by simp; omega) HB1'.out.size ?_)
      intro v2 w2 h2 hg2
      have HB2 : Hid (Below w00.heap.size w00 w2) := HB1'.out.grown hg2 HB1'.out.size (fun j hj => (HO1.out.lt j hj).1)
      have HO2 : Hid (w2.ownsRow w00.heap.size 9 1 v2 (C ++ [s]).length ((C ++ [s]).map sv)) := hide (by simpa using h2)
      have HT2 := hide (texts_of_row HO2.out)
      have HNE : Hid (∀ j, v2.ownBlock = some j → j ≠ g) := by
        refine hide fun j hj => ?_
        have := (HO2.out.lt j hj).1
        omega
      clear HO2
      obtain ⟨a2, c2, rfl⟩ := ownsRow_form h2
      have hbk2 := (HB2.out.block g hgw).trans HBK.out
      have cs := cell_of_block hbk2 1
      have fs := free_of_block hbk2 1
      simp only [List.getElem?_toArray, List.getElem?_cons_zero, List.getElem?_cons_succ] at cs
      have HBK2 := hide hbk2
      have HGR : Hid (w00.grownBy w2 (some g)) := grown_below HB2.out _
      clear h2 hg2 hbk2
      go_wp2
      go_end0
      refine ⟨rfl, grown_trans HGR.out (grown_set _ _ _ _), ?_⟩
      rw [HTW.out]
      exact ScAt.put1 HBK2.out (HVV.out.later HB2.out) HT2.out hnv HNE.out
end Go.Proofs.YtnikomgdcddchaaGreat

/- Joined: Sco4 Sco5. -/
import Derived.Test.YtnikomgdcddchaaGreatPlCk2
import Derived.Test.YtnikomgdcddchaaGreatPBx
import Derived.Test.YtnikomgdcddchaaGreatJPFm
/- A step's names, as the specification looks at them. -/
namespace Go.Proofs.YtnikomgdcddchaaGreat
open Go.RowKit
set_option linter.unusedVariables false

theorem Box11.beside {b g : Nat} {sn : Sn} {ve vb vl : Value} {W W1 : World} (h : Box11 b sn ve vb vl W) (hB : W.grownBy W1 (some g)) (hne : b ≠ g) : Box11 b sn ve vb vl W1 := by
  obtain ⟨hb, ⟨h0, h1, h2, h3, h4, h5, h6, h7⟩, h8, h9, h10⟩ := h
  have C : ∀ o, W1.cell? ⟨b, o, none⟩ = W.cell? ⟨b, o, none⟩ := fun o => by
    have hk := hB.block b hb (fun e => hne (by cases e; rfl))
    simp only [World.cell?]
    rw [hk]
  exact ⟨by have := hB.size; omega, ⟨(C _).trans h0, (C _).trans h1, (C _).trans h2, (C _).trans h3, (C _).trans h4, (C _).trans h5, (C _).trans h6, (C _).trans h7⟩, (C _).trans h8, (C _).trans h9, (C _).trans h10⟩
/-- behind a step -/
def StQ (sn : Sn) (b l : Ps) (E : Pl.En) (V C : List (List UInt8)) (code : Int) (g : Nat) (W : World) (e : Ending) (w' : World) : Prop :=
  e = .returned (.tuple #[]) ∧ W.grownBy w' (some g) ∧ ∃ V' C', ScAt w' g V' C' (Pl.orr code (Pl.chkS sn b l E)) ∧ (Pl.orr code (Pl.chkS sn b l E) = 0 → Pl.Tells V' C' (Pl.ext sn E)) ∧ V'.length + C'.length ≤ V.length + C.length + 1
/-- steps within are looked at by these names -/
def BdQ (b : Ps) (E : Pl.En) (vb : Value) (g : Nat) (w0 : World) : Prop := ∀ (W : World) (V C : List (List UInt8)) (code : Int), Below w0.heap.size w0 W → ScAt W g V C code → (code = 0 → Pl.Tells V C E) → V.length + C.length + b.nodes ≤ 1000000 →
  Calls Tryz.prog 36 #[.pointer (some ⟨g, 0, none⟩), vb] W fun e w' => e = .returned (.tuple #[]) ∧ W.grownBy w' (some g) ∧ ScAt w' g V C (Pl.orr code (Pl.chkF b E))
theorem sv_of (s : ByteArray) : sv s.data.toList = .string s := by unfold sv; rw [Pl.bs_of]

set_option maxHeartbeats 3200000 in
set_option maxRecDepth 100000 in
theorem step_A (k : Int) (nm wh : ByteArray) (xk xvk xvn : Int) (xvt xnm : ByteArray) (ek : Fo) (b l : Ps) (E : Pl.En) (ve vb vl : Value) (w0 W : World) (g : Nat) (V C : List (List UInt8)) (code : Int) (hN : (Pl.namesN ⟨xk, xvk, xvn, xvt, xnm⟩ ek).length ≤ 1048576) (he1 : ek.len ≤ 1048576) (he2 : ek.Sm) (hre : RowAt 0 w0 ek ve) (hrb : PRow 0 w0 b vb) (hrl : PRow 0 w0 l vl)
    (hg0 : w0.heap.size ≤ g) (hBW : Below w0.heap.size w0 W) (hsc : ScAt W g V C code) (htl : code = 0 → Pl.Tells V C E) (hVC : V.length + C.length + (b.nodes + l.nodes) ≤ 1000000) (hb0 : b.len = 0) (hl0 : l.len = 0) (hk : k = 1 ∨ k = 5 ∨ k = 10) :
    Calls Tryz.prog 59 #[.pointer (some ⟨g, 0, none⟩), .agg #[.int .i64 k, .string nm, .string wh, .int .i64 xk, .int .i64 xvk, .int .i64 xvn, .string xvt, .string xnm, ve, vb, vl]] W (StQ ⟨k, nm, wh, ⟨xk, xvk, xvn, xvt, xnm⟩, ek⟩ b l E V C code g W) := by
  have HEQ : Hid (Pl.orr (Pl.orr code (Pl.lackC V (Pl.namesN ⟨xk, xvk, xvn, xvt, xnm⟩ ek))) (Pl.twiceC V C nm.data.toList) = Pl.orr code (Pl.chkS ⟨k, nm, wh, ⟨xk, xvk, xvn, xvt, xnm⟩, ek⟩ b l E)) := by
    show _ = _
    rw [Pl.orr_assoc, Pl.chk_flat hb0 hl0, Pl.own_make (by rcases hk with rfl | rfl | rfl <;> decide) (by rcases hk with rfl | rfl | rfl <;> decide) (by rcases hk with rfl | rfl | rfl <;> decide)]
    exact Pl.orr_congr fun h0 => by rw [Pl.lackC_eq (htl h0), Pl.twiceC_eq (htl h0)]
  have HTL : Hid (Pl.orr (Pl.orr code (Pl.lackC V (Pl.namesN ⟨xk, xvk, xvn, xvt, xnm⟩ ek))) (Pl.twiceC V C nm.data.toList) = 0 → Pl.Tells (V ++ [nm.data.toList]) C (Pl.ext ⟨k, nm, wh, ⟨xk, xvk, xvn, xvt, xnm⟩, ek⟩ E)) := by
    refine hide fun h => ?_
    have hm : Pl.mk k = 1 := by rcases hk with rfl | rfl | rfl <;> decide
    have he : Pl.ext ⟨k, nm, wh, ⟨xk, xvk, xvn, xvt, xnm⟩, ek⟩ E = (nm.data.toList, 1) :: E := by simp [Pl.ext, hm]
    obtain ⟨h1, h2⟩ := Pl.orr_eq_zero h
    have hc : code = 0 := (Pl.orr_eq_zero h1).1
    rw [Pl.twiceC_eq (htl hc)] at h2
    rw [he]
    exact Pl.tells_var (htl hc) _ (Pl.twiceE_zero h2)
  have hgw : g < W.heap.size := by
    obtain ⟨_, _, hbk, _⟩ := hsc
    exact (Array.getElem?_eq_some_iff.1 hbk).1
  have hqu : Hid (∀ W', Below w0.heap.size w0 W' → ScAt W' g V C code → Calls Tryz.prog 82 #[.pointer (some ⟨g, 0, none⟩), ndV ⟨xk, xvk, xvn, xvt, xnm⟩ ve] W' fun e w' => e = .returned (.tuple #[]) ∧ W'.grownBy w' (some g) ∧ ScAt w' g V C (Pl.orr code (Pl.lackC V (Pl.namesN ⟨xk, xvk, xvn, xvt, xnm⟩ ek)))) := fun W' hW hs => uses_any g V C code ⟨xk, xvk, xvn, xvt, xnm⟩ ek ve W' (by omega) he1 he2 hN (hre.later hW) hs
  have hqv : Hid (∀ W' c', ScAt W' g V C c' → Calls Tryz.prog 83 #[.pointer (some ⟨g, 0, none⟩), .string nm, .bool false] W' fun e w' => e = .returned (.tuple #[]) ∧ W'.grownBy w' (some g) ∧ ScAt w' g (V ++ [nm.data.toList]) C (Pl.orr c' (Pl.twiceC V C nm.data.toList))) := by
    refine hide fun W' c' hs => ?_
    have := fresh_var g V C c' nm.data.toList W' (by omega) (by omega) hs
    rwa [sv_of] at this
  have hqc : Hid (∀ W' c', ScAt W' g V C c' → Calls Tryz.prog 83 #[.pointer (some ⟨g, 0, none⟩), .string nm, .bool true] W' fun e w' => e = .returned (.tuple #[]) ∧ W'.grownBy w' (some g) ∧ ScAt w' g V (C ++ [nm.data.toList]) (Pl.orr c' (Pl.twiceC V C nm.data.toList))) := by
    refine hide fun W' c' hs => ?_
    have := fresh_call g V C c' nm.data.toList W' (by omega) (by omega) hs
    rwa [sv_of] at this
  have hqf : Hid (∀ W' c' n, ScAt W' g V C c' → Calls Tryz.prog 85 #[.pointer (some ⟨g, 0, none⟩), .int .i64 n] W' fun e w' => e = .returned (.tuple #[]) ∧ W'.grownBy w' (some g) ∧ ScAt w' g V C (Pl.orr c' n)) := fun W' c' n hs => fail_any g V C c' n W' hs
  have hqh : Hid (∀ W' L s vL, L.length ≤ 1000000 → TextsAt W' vL L → Calls Tryz.prog 84 #[vL, .string s] W' fun e w' => e = .returned (.bool (decide (s.data.toList ∈ L))) ∧ w' = W') := by
    refine hide fun W' L s vL hL ht => ?_
    have := l3Has_any L s.data.toList vL (by omega) W' ht
    rwa [sv_of] at this
  obtain ⟨ade, cape, rfl, _, _, _⟩ := hre
  obtain ⟨adb, capb, rfl, _, _, _⟩ := hrb
  obtain ⟨adl, capl, rfl, _, _, _⟩ := hrl
  have HX := hide (Box11.mk (sn := ⟨k, nm, wh, ⟨xk, xvk, xvn, xvt, xnm⟩, ek⟩) (ve := .slice ade ek.len cape) (vb := .slice adb b.len capb) (vl := .slice adl l.len capl) (T := 47) W)
  have HA : Hid (Below W.heap.size W (W.alloc (.cells #[.int .i64 k, .string nm, .string wh, .int .i64 xk, .int .i64 xvk, .int .i64 xvn, .string xvt, .string xnm, .slice ade ek.len cape, .slice adb b.len capb, .slice adl l.len capl] 47))) := (Below.refl _ _).alloc (Nat.le_refl _) _
  have HS0 := hide (hsc.later HA.out)
  have HB0 : Hid (Below w0.heap.size w0 (W.alloc (.cells #[.int .i64 k, .string nm, .string wh, .int .i64 xk, .int .i64 xvk, .int .i64 xvn, .string xvt, .string xnm, .slice ade ek.len cape, .slice adb b.len capb, .slice adl l.len capl] 47))) := hBW.trans (HA.out.mono hBW.size)
  have HG0 : Hid (W.grownBy (W.alloc (.cells #[.int .i64 k, .string nm, .string wh, .int .i64 xk, .int .i64 xvk, .int .i64 xvn, .string xvt, .string xnm, .slice ade ek.len cape, .slice adb b.len capb, .slice adl l.len capl] 47)) (some g)) := grown_below HA.out _
  have hng : W.heap.size ≠ g := by omega
  clear hsc hBW HA he2 hN
  clear hqc hqf hqh hb0 hl0
  rcases hk with rfl | rfl | rfl
  all_goals
    go_enter Tryz.func59, Tryz.ntmps59
    go_wp2_with fail
    refine (hqu.out _ HB0.out HS0.out).mono ?_
    rintro e w1 ⟨rfl, hg1, hs1⟩
    have HS1 := hide hs1
    have HG1 : Hid (W.grownBy w1 (some g)) := grown_trans HG0.out hg1
    have HB1 : Hid (Below w0.heap.size w0 w1) := below_of_grown HB0.out hg0 hg1
    have HX1 := hide (HX.out.beside hg1 hng)
    clear hg1 hs1 HS0 HG0 HB0 HX
    obtain ⟨_, ⟨x0, x1, x2, x3, x4, x5, x6, x7⟩, x8, x9, x10⟩ := HX1.out
    go_wp2_with fail
    refine (hqv.out _ _ HS1.out).mono ?_
    rintro e w2 ⟨rfl, hg2, hs2⟩
    have HS2 := hide hs2
    have HG2 : Hid (W.grownBy w2 (some g)) := grown_trans HG1.out hg2
    have HB2 : Hid (Below w0.heap.size w0 w2) := below_of_grown HB1.out hg0 hg2
    have HX2 := hide (HX1.out.beside hg2 hng)
    clear hg2 hs2 HS1 HG1 HB1 HX1
    clear x0 x1 x2 x3 x4 x5 x6 x7 x8 x9 x10
    go_wp2
    go_end0
    exact ⟨rfl, HG2.out, V ++ [nm.data.toList], C, by rw [← HEQ.out]; exact HS2.out, fun h => HTL.out (by rw [HEQ.out]; exact h), by simp; omega⟩

set_option maxHeartbeats 3200000 in
set_option maxRecDepth 100000 in
theorem step_S (k : Int) (nm wh : ByteArray) (xk xvk xvn : Int) (xvt xnm : ByteArray) (ek : Fo) (b l : Ps) (E : Pl.En) (ve vb vl : Value) (w0 W : World) (g : Nat) (V C : List (List UInt8)) (code : Int) (hN : (Pl.namesN ⟨xk, xvk, xvn, xvt, xnm⟩ ek).length ≤ 1048576) (he1 : ek.len ≤ 1048576) (he2 : ek.Sm) (hre : RowAt 0 w0 ek ve) (hrb : PRow 0 w0 b vb) (hrl : PRow 0 w0 l vl)
    (hg0 : w0.heap.size ≤ g) (hBW : Below w0.heap.size w0 W) (hsc : ScAt W g V C code) (htl : code = 0 → Pl.Tells V C E) (hVC : V.length + C.length + (b.nodes + l.nodes) ≤ 1000000) (hb0 : b.len = 0) (hl0 : l.len = 0) (hk : k = 2) :
    Calls Tryz.prog 59 #[.pointer (some ⟨g, 0, none⟩), .agg #[.int .i64 k, .string nm, .string wh, .int .i64 xk, .int .i64 xvk, .int .i64 xvn, .string xvt, .string xnm, ve, vb, vl]] W (StQ ⟨k, nm, wh, ⟨xk, xvk, xvn, xvt, xnm⟩, ek⟩ b l E V C code g W) := by
  have HEQ : Hid (Pl.orr (Pl.orr code (Pl.lackC V (Pl.namesN ⟨xk, xvk, xvn, xvt, xnm⟩ ek))) (if nm.data.toList ∈ V then 0 else 3) = Pl.orr code (Pl.chkS ⟨k, nm, wh, ⟨xk, xvk, xvn, xvt, xnm⟩, ek⟩ b l E)) := by
    show _ = _
    subst hk
    rw [Pl.orr_assoc, Pl.chk_flat hb0 hl0, Pl.own_set]
    refine Pl.orr_congr fun h0 => ?_
    rw [Pl.lackC_eq (htl h0)]
    congr 1
    by_cases hm : nm.data.toList ∈ V
    · rw [if_pos hm, if_pos ((htl h0 _).1.1 hm)]
    · rw [if_neg hm, if_neg (fun h => hm ((htl h0 _).1.2 h))]
  have HTL : Hid (Pl.orr (Pl.orr code (Pl.lackC V (Pl.namesN ⟨xk, xvk, xvn, xvt, xnm⟩ ek))) (if nm.data.toList ∈ V then 0 else 3) = 0 → Pl.Tells V C (Pl.ext ⟨k, nm, wh, ⟨xk, xvk, xvn, xvt, xnm⟩, ek⟩ E)) := by
    refine hide fun h => ?_
    have hm : Pl.mk k = 0 := by rcases hk with rfl <;> decide
    have he : Pl.ext ⟨k, nm, wh, ⟨xk, xvk, xvn, xvt, xnm⟩, ek⟩ E = E := by simp [Pl.ext, hm]
    rw [he]
    exact htl (Pl.orr_eq_zero (Pl.orr_eq_zero h).1).1
  have hgw : g < W.heap.size := by
    obtain ⟨_, _, hbk, _⟩ := hsc
    exact (Array.getElem?_eq_some_iff.1 hbk).1
  have hqu : Hid (∀ W', Below w0.heap.size w0 W' → ScAt W' g V C code → Calls Tryz.prog 82 #[.pointer (some ⟨g, 0, none⟩), ndV ⟨xk, xvk, xvn, xvt, xnm⟩ ve] W' fun e w' => e = .returned (.tuple #[]) ∧ W'.grownBy w' (some g) ∧ ScAt w' g V C (Pl.orr code (Pl.lackC V (Pl.namesN ⟨xk, xvk, xvn, xvt, xnm⟩ ek)))) := fun W' hW hs => uses_any g V C code ⟨xk, xvk, xvn, xvt, xnm⟩ ek ve W' (by omega) he1 he2 hN (hre.later hW) hs
  have hqv : Hid (∀ W' c', ScAt W' g V C c' → Calls Tryz.prog 83 #[.pointer (some ⟨g, 0, none⟩), .string nm, .bool false] W' fun e w' => e = .returned (.tuple #[]) ∧ W'.grownBy w' (some g) ∧ ScAt w' g (V ++ [nm.data.toList]) C (Pl.orr c' (Pl.twiceC V C nm.data.toList))) := by
    refine hide fun W' c' hs => ?_
    have := fresh_var g V C c' nm.data.toList W' (by omega) (by omega) hs
    rwa [sv_of] at this
  have hqc : Hid (∀ W' c', ScAt W' g V C c' → Calls Tryz.prog 83 #[.pointer (some ⟨g, 0, none⟩), .string nm, .bool true] W' fun e w' => e = .returned (.tuple #[]) ∧ W'.grownBy w' (some g) ∧ ScAt w' g V (C ++ [nm.data.toList]) (Pl.orr c' (Pl.twiceC V C nm.data.toList))) := by
    refine hide fun W' c' hs => ?_
    have := fresh_call g V C c' nm.data.toList W' (by omega) (by omega) hs
    rwa [sv_of] at this
  have hqf : Hid (∀ W' c' n, ScAt W' g V C c' → Calls Tryz.prog 85 #[.pointer (some ⟨g, 0, none⟩), .int .i64 n] W' fun e w' => e = .returned (.tuple #[]) ∧ W'.grownBy w' (some g) ∧ ScAt w' g V C (Pl.orr c' n)) := fun W' c' n hs => fail_any g V C c' n W' hs
  have hqh : Hid (∀ W' L s vL, L.length ≤ 1000000 → TextsAt W' vL L → Calls Tryz.prog 84 #[vL, .string s] W' fun e w' => e = .returned (.bool (decide (s.data.toList ∈ L))) ∧ w' = W') := by
    refine hide fun W' L s vL hL ht => ?_
    have := l3Has_any L s.data.toList vL (by omega) W' ht
    rwa [sv_of] at this
  obtain ⟨ade, cape, rfl, _, _, _⟩ := hre
  obtain ⟨adb, capb, rfl, _, _, _⟩ := hrb
  obtain ⟨adl, capl, rfl, _, _, _⟩ := hrl
  have HX := hide (Box11.mk (sn := ⟨k, nm, wh, ⟨xk, xvk, xvn, xvt, xnm⟩, ek⟩) (ve := .slice ade ek.len cape) (vb := .slice adb b.len capb) (vl := .slice adl l.len capl) (T := 47) W)
  have HA : Hid (Below W.heap.size W (W.alloc (.cells #[.int .i64 k, .string nm, .string wh, .int .i64 xk, .int .i64 xvk, .int .i64 xvn, .string xvt, .string xnm, .slice ade ek.len cape, .slice adb b.len capb, .slice adl l.len capl] 47))) := (Below.refl _ _).alloc (Nat.le_refl _) _
  have HS0 := hide (hsc.later HA.out)
  have HB0 : Hid (Below w0.heap.size w0 (W.alloc (.cells #[.int .i64 k, .string nm, .string wh, .int .i64 xk, .int .i64 xvk, .int .i64 xvn, .string xvt, .string xnm, .slice ade ek.len cape, .slice adb b.len capb, .slice adl l.len capl] 47))) := hBW.trans (HA.out.mono hBW.size)
  have HG0 : Hid (W.grownBy (W.alloc (.cells #[.int .i64 k, .string nm, .string wh, .int .i64 xk, .int .i64 xvk, .int .i64 xvn, .string xvt, .string xnm, .slice ade ek.len cape, .slice adb b.len capb, .slice adl l.len capl] 47)) (some g)) := grown_below HA.out _
  have hng : W.heap.size ≠ g := by omega
  clear hsc hBW HA he2 hN
  clear hqv hqc hb0 hl0
  subst hk
  go_enter Tryz.func59, Tryz.ntmps59
  go_wp2_with fail
  refine (hqu.out _ HB0.out HS0.out).mono ?_
  rintro e w1 ⟨rfl, hg1, hs1⟩
  have HS1 := hide hs1
  have HG1 : Hid (W.grownBy w1 (some g)) := grown_trans HG0.out hg1
  have HB1 : Hid (Below w0.heap.size w0 w1) := below_of_grown HB0.out hg0 hg1
  have HX1 := hide (HX.out.beside hg1 hng)
  clear hg1 hs1 HS0 HG0 HB0 HX
  obtain ⟨_, ⟨x0, x1, x2, x3, x4, x5, x6, x7⟩, x8, x9, x10⟩ := HX1.out
  obtain ⟨vv, vc, hbk, hvv, hvc, _, _⟩ := HS1.out
  have cl := cell_of_block hbk 0
  simp only [List.getElem?_toArray, List.getElem?_cons_zero] at cl
  have HVL := hide hvv
  have hh : Hid (∀ W', TextsAt W' _ V → Calls Tryz.prog 84 #[vv, .string nm] W' fun e w' => e = .returned (.bool (decide (nm.data.toList ∈ V))) ∧ w' = W') := hide fun W' ht => hqh.out W' V nm _ (by omega) ht
  obtain ⟨av, cpv, rfl, _⟩ := hvv
  obtain ⟨ac, cpc, rfl, _⟩ := hvc
  clear hbk
  go_wp2_with fail
  go_region_with (go_at_call 84; refine (hh.out _ (HVL.out.later (by first | exact (Below.refl _ _).drew | exact below_drewN (Below.refl _ _) _))).mono ?_; rintro e wq ⟨rfl, rfl⟩)
  all_goals
    have HSd := hide (HS1.out.later (Below.refl _ _).drew)
    have HGd := hide (grown_trans HG1.out (grown_below (Below.refl _ _).drew _))
    have HXd := hide (HX1.out.later (Below.refl _ _).drew)
    clear hh hqh
    obtain ⟨_, ⟨z0, z1, z2, z3, z4, z5, z6, z7⟩, z8, z9, z10⟩ := HXd.out
    by_cases hin : nm.data.toList ∈ V
    · rw [if_pos hin] at HEQ HTL
      rw [decide_eq_true hin]
      rw [Pl.orr_zero] at HEQ HTL
      clear hin
      go_wp2
      go_end0
      exact ⟨rfl, HGd.out, V, C, by rw [← HEQ.out]; exact HSd.out, fun h => HTL.out (by rw [HEQ.out]; exact h), by omega⟩
    · rw [if_neg hin] at HEQ HTL
      rw [decide_eq_false hin]
      clear hin
      go_wp2_with fail
      refine (hqf.out _ _ _ HSd.out).mono ?_
      rintro e w9 ⟨rfl, hg9, hs9⟩
      have HS9 := hide hs9
      have HG9 : Hid (W.grownBy w9 (some g)) := grown_trans HGd.out hg9
      clear hg9 hs9 cl z0 z1 z2 z3 z4 z5 z6 z7 z8 z9 z10 x0 x1 x2 x3 x4 x5 x6 x7 x8 x9 x10
      go_wp2
      go_end0
      exact ⟨rfl, HG9.out, V, C, by rw [← HEQ.out]; exact HS9.out, fun h => HTL.out (by rw [HEQ.out]; exact h), by omega⟩

set_option maxHeartbeats 3200000 in
set_option maxRecDepth 100000 in
theorem step_I (k : Int) (nm wh : ByteArray) (xk xvk xvn : Int) (xvt xnm : ByteArray) (ek : Fo) (b l : Ps) (E : Pl.En) (ve vb vl : Value) (w0 W : World) (g : Nat) (V C : List (List UInt8)) (code : Int) (hN : (Pl.namesN ⟨xk, xvk, xvn, xvt, xnm⟩ ek).length ≤ 1048576) (he1 : ek.len ≤ 1048576) (he2 : ek.Sm) (hre : RowAt 0 w0 ek ve) (hrb : PRow 0 w0 b vb) (hrl : PRow 0 w0 l vl)
    (hg0 : w0.heap.size ≤ g) (hBW : Below w0.heap.size w0 W) (hsc : ScAt W g V C code) (htl : code = 0 → Pl.Tells V C E) (hVC : V.length + C.length + (b.nodes + l.nodes) ≤ 1000000) (hbb : BdQ b E vb g w0) (hbl : BdQ l E vl g w0) (hk : k = 3) :
    Calls Tryz.prog 59 #[.pointer (some ⟨g, 0, none⟩), .agg #[.int .i64 k, .string nm, .string wh, .int .i64 xk, .int .i64 xvk, .int .i64 xvn, .string xvt, .string xnm, ve, vb, vl]] W (StQ ⟨k, nm, wh, ⟨xk, xvk, xvn, xvt, xnm⟩, ek⟩ b l E V C code g W) := by
  have HEQ : Hid (Pl.orr (Pl.orr (Pl.orr code (Pl.lackC V (Pl.namesN ⟨xk, xvk, xvn, xvt, xnm⟩ ek))) (Pl.chkF b E)) (Pl.chkF l E) = Pl.orr code (Pl.chkS ⟨k, nm, wh, ⟨xk, xvk, xvn, xvt, xnm⟩, ek⟩ b l E)) := by
    show _ = _
    subst hk
    rw [Pl.orr_assoc, Pl.orr_assoc]
    refine Pl.orr_congr fun h0 => ?_
    unfold Pl.chkS
    rw [Pl.own_bare (by decide) (by decide) (by decide), Pl.lackC_eq (htl h0)]
    rfl
  have HTL : Hid (Pl.orr (Pl.orr (Pl.orr code (Pl.lackC V (Pl.namesN ⟨xk, xvk, xvn, xvt, xnm⟩ ek))) (Pl.chkF b E)) (Pl.chkF l E) = 0 → Pl.Tells V C (Pl.ext ⟨k, nm, wh, ⟨xk, xvk, xvn, xvt, xnm⟩, ek⟩ E)) := by
    refine hide fun h => ?_
    have hm : Pl.mk k = 0 := by rcases hk with rfl <;> decide
    have he : Pl.ext ⟨k, nm, wh, ⟨xk, xvk, xvn, xvt, xnm⟩, ek⟩ E = E := by simp [Pl.ext, hm]
    rw [he]
    exact htl (Pl.orr_eq_zero (Pl.orr_eq_zero (Pl.orr_eq_zero h).1).1).1
  have hgw : g < W.heap.size := by
    obtain ⟨_, _, hbk, _⟩ := hsc
    exact (Array.getElem?_eq_some_iff.1 hbk).1
  have hqu : Hid (∀ W', Below w0.heap.size w0 W' → ScAt W' g V C code → Calls Tryz.prog 82 #[.pointer (some ⟨g, 0, none⟩), ndV ⟨xk, xvk, xvn, xvt, xnm⟩ ve] W' fun e w' => e = .returned (.tuple #[]) ∧ W'.grownBy w' (some g) ∧ ScAt w' g V C (Pl.orr code (Pl.lackC V (Pl.namesN ⟨xk, xvk, xvn, xvt, xnm⟩ ek)))) := fun W' hW hs => uses_any g V C code ⟨xk, xvk, xvn, xvt, xnm⟩ ek ve W' (by omega) he1 he2 hN (hre.later hW) hs
  have hqv : Hid (∀ W' c', ScAt W' g V C c' → Calls Tryz.prog 83 #[.pointer (some ⟨g, 0, none⟩), .string nm, .bool false] W' fun e w' => e = .returned (.tuple #[]) ∧ W'.grownBy w' (some g) ∧ ScAt w' g (V ++ [nm.data.toList]) C (Pl.orr c' (Pl.twiceC V C nm.data.toList))) := by
    refine hide fun W' c' hs => ?_
    have := fresh_var g V C c' nm.data.toList W' (by omega) (by omega) hs
    rwa [sv_of] at this
  have hqc : Hid (∀ W' c', ScAt W' g V C c' → Calls Tryz.prog 83 #[.pointer (some ⟨g, 0, none⟩), .string nm, .bool true] W' fun e w' => e = .returned (.tuple #[]) ∧ W'.grownBy w' (some g) ∧ ScAt w' g V (C ++ [nm.data.toList]) (Pl.orr c' (Pl.twiceC V C nm.data.toList))) := by
    refine hide fun W' c' hs => ?_
    have := fresh_call g V C c' nm.data.toList W' (by omega) (by omega) hs
    rwa [sv_of] at this
  have hqf : Hid (∀ W' c' n, ScAt W' g V C c' → Calls Tryz.prog 85 #[.pointer (some ⟨g, 0, none⟩), .int .i64 n] W' fun e w' => e = .returned (.tuple #[]) ∧ W'.grownBy w' (some g) ∧ ScAt w' g V C (Pl.orr c' n)) := fun W' c' n hs => fail_any g V C c' n W' hs
  have hqh : Hid (∀ W' L s vL, L.length ≤ 1000000 → TextsAt W' vL L → Calls Tryz.prog 84 #[vL, .string s] W' fun e w' => e = .returned (.bool (decide (s.data.toList ∈ L))) ∧ w' = W') := by
    refine hide fun W' L s vL hL ht => ?_
    have := l3Has_any L s.data.toList vL (by omega) W' ht
    rwa [sv_of] at this
  obtain ⟨ade, cape, rfl, _, _, _⟩ := hre
  obtain ⟨adb, capb, rfl, _, _, _⟩ := hrb
  obtain ⟨adl, capl, rfl, _, _, _⟩ := hrl
  have HX := hide (Box11.mk (sn := ⟨k, nm, wh, ⟨xk, xvk, xvn, xvt, xnm⟩, ek⟩) (ve := .slice ade ek.len cape) (vb := .slice adb b.len capb) (vl := .slice adl l.len capl) (T := 47) W)
  have HA : Hid (Below W.heap.size W (W.alloc (.cells #[.int .i64 k, .string nm, .string wh, .int .i64 xk, .int .i64 xvk, .int .i64 xvn, .string xvt, .string xnm, .slice ade ek.len cape, .slice adb b.len capb, .slice adl l.len capl] 47))) := (Below.refl _ _).alloc (Nat.le_refl _) _
  have HS0 := hide (hsc.later HA.out)
  have HB0 : Hid (Below w0.heap.size w0 (W.alloc (.cells #[.int .i64 k, .string nm, .string wh, .int .i64 xk, .int .i64 xvk, .int .i64 xvn, .string xvt, .string xnm, .slice ade ek.len cape, .slice adb b.len capb, .slice adl l.len capl] 47))) := hBW.trans (HA.out.mono hBW.size)
  have HG0 : Hid (W.grownBy (W.alloc (.cells #[.int .i64 k, .string nm, .string wh, .int .i64 xk, .int .i64 xvk, .int .i64 xvn, .string xvt, .string xnm, .slice ade ek.len cape, .slice adb b.len capb, .slice adl l.len capl] 47)) (some g)) := grown_below HA.out _
  have hng : W.heap.size ≠ g := by omega
  clear hsc hBW HA he2 hN
  clear hqv hqc hqf hqh
  subst hk
  go_enter Tryz.func59, Tryz.ntmps59
  go_wp2_with fail
  refine (hqu.out _ HB0.out HS0.out).mono ?_
  rintro e w1 ⟨rfl, hg1, hs1⟩
  have HS1 := hide hs1
  have HG1 : Hid (W.grownBy w1 (some g)) := grown_trans HG0.out hg1
  have HB1 : Hid (Below w0.heap.size w0 w1) := below_of_grown HB0.out hg0 hg1
  have HX1 := hide (HX.out.beside hg1 hng)
  clear hg1 hs1 HS0 HG0 HB0 HX
  obtain ⟨_, ⟨x0, x1, x2, x3, x4, x5, x6, x7⟩, x8, x9, x10⟩ := HX1.out
  go_wp2_with fail
  refine (hbb _ _ _ _ HB1.out HS1.out (fun h => htl (Pl.orr_eq_zero h).1) (by omega)).mono ?_
  rintro e w2 ⟨rfl, hg2, hs2⟩
  have HS2 := hide hs2
  have HG2 : Hid (W.grownBy w2 (some g)) := grown_trans HG1.out hg2
  have HB2 : Hid (Below w0.heap.size w0 w2) := below_of_grown HB1.out hg0 hg2
  have HX2 := hide (HX1.out.beside hg2 hng)
  clear hg2 hs2 HS1 HG1 HB1 HX1
  clear x0 x1 x2 x3 x4 x5 x6 x7 x8 x9 x10
  obtain ⟨_, ⟨x0, x1, x2, x3, x4, x5, x6, x7⟩, x8, x9, x10⟩ := HX2.out
  go_wp2_with fail
  refine (hbl _ _ _ _ HB2.out HS2.out (fun h => htl (Pl.orr_eq_zero (Pl.orr_eq_zero h).1).1) (by omega)).mono ?_
  rintro e w3 ⟨rfl, hg3, hs3⟩
  have HS3 := hide hs3
  have HG3 : Hid (W.grownBy w3 (some g)) := grown_trans HG2.out hg3
  have HB3 : Hid (Below w0.heap.size w0 w3) := below_of_grown HB2.out hg0 hg3
  have HX3 := hide (HX2.out.beside hg3 hng)
  clear hg3 hs3 HS2 HG2 HB2 HX2
  clear x0 x1 x2 x3 x4 x5 x6 x7 x8 x9 x10
  go_wp2
  go_end0
  exact ⟨rfl, HG3.out, V, C, by rw [← HEQ.out]; exact HS3.out, fun h => HTL.out (by rw [HEQ.out]; exact h), by omega⟩

set_option maxHeartbeats 3200000 in
set_option maxRecDepth 100000 in
theorem step_W (k : Int) (nm wh : ByteArray) (xk xvk xvn : Int) (xvt xnm : ByteArray) (ek : Fo) (b l : Ps) (E : Pl.En) (ve vb vl : Value) (w0 W : World) (g : Nat) (V C : List (List UInt8)) (code : Int) (hN : (Pl.namesN ⟨xk, xvk, xvn, xvt, xnm⟩ ek).length ≤ 1048576) (he1 : ek.len ≤ 1048576) (he2 : ek.Sm) (hre : RowAt 0 w0 ek ve) (hrb : PRow 0 w0 b vb) (hrl : PRow 0 w0 l vl)
    (hg0 : w0.heap.size ≤ g) (hBW : Below w0.heap.size w0 W) (hsc : ScAt W g V C code) (htl : code = 0 → Pl.Tells V C E) (hVC : V.length + C.length + (b.nodes + l.nodes) ≤ 1000000) (hbb : BdQ b E vb g w0) (hl0 : l.len = 0) (hk : k = 4) :
    Calls Tryz.prog 59 #[.pointer (some ⟨g, 0, none⟩), .agg #[.int .i64 k, .string nm, .string wh, .int .i64 xk, .int .i64 xvk, .int .i64 xvn, .string xvt, .string xnm, ve, vb, vl]] W (StQ ⟨k, nm, wh, ⟨xk, xvk, xvn, xvt, xnm⟩, ek⟩ b l E V C code g W) := by
  have HEQ : Hid (Pl.orr (Pl.orr code (Pl.lackC V (Pl.namesN ⟨xk, xvk, xvn, xvt, xnm⟩ ek))) (Pl.chkF b E) = Pl.orr code (Pl.chkS ⟨k, nm, wh, ⟨xk, xvk, xvn, xvt, xnm⟩, ek⟩ b l E)) := by
    show _ = _
    subst hk
    rw [Pl.orr_assoc]
    refine Pl.orr_congr fun h0 => ?_
    rw [Pl.len_nil hl0]
    unfold Pl.chkS
    rw [Pl.own_bare (by decide) (by decide) (by decide), Pl.lackC_eq (htl h0)]
    simp only [Pl.chkF, Pl.orr_zero]
    rfl
  have HTL : Hid (Pl.orr (Pl.orr code (Pl.lackC V (Pl.namesN ⟨xk, xvk, xvn, xvt, xnm⟩ ek))) (Pl.chkF b E) = 0 → Pl.Tells V C (Pl.ext ⟨k, nm, wh, ⟨xk, xvk, xvn, xvt, xnm⟩, ek⟩ E)) := by
    refine hide fun h => ?_
    have hm : Pl.mk k = 0 := by rcases hk with rfl <;> decide
    have he : Pl.ext ⟨k, nm, wh, ⟨xk, xvk, xvn, xvt, xnm⟩, ek⟩ E = E := by simp [Pl.ext, hm]
    rw [he]
    exact htl (Pl.orr_eq_zero (Pl.orr_eq_zero h).1).1
  have hgw : g < W.heap.size := by
    obtain ⟨_, _, hbk, _⟩ := hsc
    exact (Array.getElem?_eq_some_iff.1 hbk).1
  have hqu : Hid (∀ W', Below w0.heap.size w0 W' → ScAt W' g V C code → Calls Tryz.prog 82 #[.pointer (some ⟨g, 0, none⟩), ndV ⟨xk, xvk, xvn, xvt, xnm⟩ ve] W' fun e w' => e = .returned (.tuple #[]) ∧ W'.grownBy w' (some g) ∧ ScAt w' g V C (Pl.orr code (Pl.lackC V (Pl.namesN ⟨xk, xvk, xvn, xvt, xnm⟩ ek)))) := fun W' hW hs => uses_any g V C code ⟨xk, xvk, xvn, xvt, xnm⟩ ek ve W' (by omega) he1 he2 hN (hre.later hW) hs
  have hqv : Hid (∀ W' c', ScAt W' g V C c' → Calls Tryz.prog 83 #[.pointer (some ⟨g, 0, none⟩), .string nm, .bool false] W' fun e w' => e = .returned (.tuple #[]) ∧ W'.grownBy w' (some g) ∧ ScAt w' g (V ++ [nm.data.toList]) C (Pl.orr c' (Pl.twiceC V C nm.data.toList))) := by
    refine hide fun W' c' hs => ?_
    have := fresh_var g V C c' nm.data.toList W' (by omega) (by omega) hs
    rwa [sv_of] at this
  have hqc : Hid (∀ W' c', ScAt W' g V C c' → Calls Tryz.prog 83 #[.pointer (some ⟨g, 0, none⟩), .string nm, .bool true] W' fun e w' => e = .returned (.tuple #[]) ∧ W'.grownBy w' (some g) ∧ ScAt w' g V (C ++ [nm.data.toList]) (Pl.orr c' (Pl.twiceC V C nm.data.toList))) := by
    refine hide fun W' c' hs => ?_
    have := fresh_call g V C c' nm.data.toList W' (by omega) (by omega) hs
    rwa [sv_of] at this
  have hqf : Hid (∀ W' c' n, ScAt W' g V C c' → Calls Tryz.prog 85 #[.pointer (some ⟨g, 0, none⟩), .int .i64 n] W' fun e w' => e = .returned (.tuple #[]) ∧ W'.grownBy w' (some g) ∧ ScAt w' g V C (Pl.orr c' n)) := fun W' c' n hs => fail_any g V C c' n W' hs
  have hqh : Hid (∀ W' L s vL, L.length ≤ 1000000 → TextsAt W' vL L → Calls Tryz.prog 84 #[vL, .string s] W' fun e w' => e = .returned (.bool (decide (s.data.toList ∈ L))) ∧ w' = W') := by
    refine hide fun W' L s vL hL ht => ?_
    have := l3Has_any L s.data.toList vL (by omega) W' ht
    rwa [sv_of] at this
  obtain ⟨ade, cape, rfl, _, _, _⟩ := hre
  obtain ⟨adb, capb, rfl, _, _, _⟩ := hrb
  obtain ⟨adl, capl, rfl, _, _, _⟩ := hrl
  have HX := hide (Box11.mk (sn := ⟨k, nm, wh, ⟨xk, xvk, xvn, xvt, xnm⟩, ek⟩) (ve := .slice ade ek.len cape) (vb := .slice adb b.len capb) (vl := .slice adl l.len capl) (T := 47) W)
  have HA : Hid (Below W.heap.size W (W.alloc (.cells #[.int .i64 k, .string nm, .string wh, .int .i64 xk, .int .i64 xvk, .int .i64 xvn, .string xvt, .string xnm, .slice ade ek.len cape, .slice adb b.len capb, .slice adl l.len capl] 47))) := (Below.refl _ _).alloc (Nat.le_refl _) _
  have HS0 := hide (hsc.later HA.out)
  have HB0 : Hid (Below w0.heap.size w0 (W.alloc (.cells #[.int .i64 k, .string nm, .string wh, .int .i64 xk, .int .i64 xvk, .int .i64 xvn, .string xvt, .string xnm, .slice ade ek.len cape, .slice adb b.len capb, .slice adl l.len capl] 47))) := hBW.trans (HA.out.mono hBW.size)
  have HG0 : Hid (W.grownBy (W.alloc (.cells #[.int .i64 k, .string nm, .string wh, .int .i64 xk, .int .i64 xvk, .int .i64 xvn, .string xvt, .string xnm, .slice ade ek.len cape, .slice adb b.len capb, .slice adl l.len capl] 47)) (some g)) := grown_below HA.out _
  have hng : W.heap.size ≠ g := by omega
  clear hsc hBW HA he2 hN
  clear hqv hqc hqf hqh hl0
  subst hk
  go_enter Tryz.func59, Tryz.ntmps59
  go_wp2_with fail
  refine (hqu.out _ HB0.out HS0.out).mono ?_
  rintro e w1 ⟨rfl, hg1, hs1⟩
  have HS1 := hide hs1
  have HG1 : Hid (W.grownBy w1 (some g)) := grown_trans HG0.out hg1
  have HB1 : Hid (Below w0.heap.size w0 w1) := below_of_grown HB0.out hg0 hg1
  have HX1 := hide (HX.out.beside hg1 hng)
  clear hg1 hs1 HS0 HG0 HB0 HX
  obtain ⟨_, ⟨x0, x1, x2, x3, x4, x5, x6, x7⟩, x8, x9, x10⟩ := HX1.out
  go_wp2_with fail
  refine (hbb _ _ _ _ HB1.out HS1.out (fun h => htl (Pl.orr_eq_zero h).1) (by omega)).mono ?_
  rintro e w2 ⟨rfl, hg2, hs2⟩
  have HS2 := hide hs2
  have HG2 : Hid (W.grownBy w2 (some g)) := grown_trans HG1.out hg2
  have HB2 : Hid (Below w0.heap.size w0 w2) := below_of_grown HB1.out hg0 hg2
  have HX2 := hide (HX1.out.beside hg2 hng)
  clear hg2 hs2 HS1 HG1 HB1 HX1
  clear x0 x1 x2 x3 x4 x5 x6 x7 x8 x9 x10
  go_wp2
  go_end0
  exact ⟨rfl, HG2.out, V, C, by rw [← HEQ.out]; exact HS2.out, fun h => HTL.out (by rw [HEQ.out]; exact h), by omega⟩

set_option maxHeartbeats 3200000 in
set_option maxRecDepth 100000 in
theorem step_G (k : Int) (nm wh : ByteArray) (xk xvk xvn : Int) (xvt xnm : ByteArray) (ek : Fo) (b l : Ps) (E : Pl.En) (ve vb vl : Value) (w0 W : World) (g : Nat) (V C : List (List UInt8)) (code : Int) (hN : (Pl.namesN ⟨xk, xvk, xvn, xvt, xnm⟩ ek).length ≤ 1048576) (he1 : ek.len ≤ 1048576) (he2 : ek.Sm) (hre : RowAt 0 w0 ek ve) (hrb : PRow 0 w0 b vb) (hrl : PRow 0 w0 l vl)
    (hg0 : w0.heap.size ≤ g) (hBW : Below w0.heap.size w0 W) (hsc : ScAt W g V C code) (htl : code = 0 → Pl.Tells V C E) (hVC : V.length + C.length + (b.nodes + l.nodes) ≤ 1000000) (hb0 : b.len = 0) (hl0 : l.len = 0) (hk : k = 6) :
    Calls Tryz.prog 59 #[.pointer (some ⟨g, 0, none⟩), .agg #[.int .i64 k, .string nm, .string wh, .int .i64 xk, .int .i64 xvk, .int .i64 xvn, .string xvt, .string xnm, ve, vb, vl]] W (StQ ⟨k, nm, wh, ⟨xk, xvk, xvn, xvt, xnm⟩, ek⟩ b l E V C code g W) := by
  have HEQ : Hid (Pl.orr (Pl.orr code (Pl.lackC V (Pl.namesN ⟨xk, xvk, xvn, xvt, xnm⟩ ek))) (Pl.twiceC V C nm.data.toList) = Pl.orr code (Pl.chkS ⟨k, nm, wh, ⟨xk, xvk, xvn, xvt, xnm⟩, ek⟩ b l E)) := by
    show _ = _
    rw [Pl.orr_assoc, Pl.chk_flat hb0 hl0, Pl.own_make (by rcases hk with rfl <;> decide) (by rcases hk with rfl <;> decide) (by rcases hk with rfl <;> decide)]
    exact Pl.orr_congr fun h0 => by rw [Pl.lackC_eq (htl h0), Pl.twiceC_eq (htl h0)]
  have HTL : Hid (Pl.orr (Pl.orr code (Pl.lackC V (Pl.namesN ⟨xk, xvk, xvn, xvt, xnm⟩ ek))) (Pl.twiceC V C nm.data.toList) = 0 → Pl.Tells V (C ++ [nm.data.toList]) (Pl.ext ⟨k, nm, wh, ⟨xk, xvk, xvn, xvt, xnm⟩, ek⟩ E)) := by
    refine hide fun h => ?_
    have hm : Pl.mk k = 2 := by rcases hk with rfl <;> decide
    have he : Pl.ext ⟨k, nm, wh, ⟨xk, xvk, xvn, xvt, xnm⟩, ek⟩ E = (nm.data.toList, 2) :: E := by simp [Pl.ext, hm]
    obtain ⟨h1, h2⟩ := Pl.orr_eq_zero h
    have hc : code = 0 := (Pl.orr_eq_zero h1).1
    rw [Pl.twiceC_eq (htl hc)] at h2
    rw [he]
    exact Pl.tells_call (htl hc) _ (Pl.twiceE_zero h2)
  have hgw : g < W.heap.size := by
    obtain ⟨_, _, hbk, _⟩ := hsc
    exact (Array.getElem?_eq_some_iff.1 hbk).1
  have hqu : Hid (∀ W', Below w0.heap.size w0 W' → ScAt W' g V C code → Calls Tryz.prog 82 #[.pointer (some ⟨g, 0, none⟩), ndV ⟨xk, xvk, xvn, xvt, xnm⟩ ve] W' fun e w' => e = .returned (.tuple #[]) ∧ W'.grownBy w' (some g) ∧ ScAt w' g V C (Pl.orr code (Pl.lackC V (Pl.namesN ⟨xk, xvk, xvn, xvt, xnm⟩ ek)))) := fun W' hW hs => uses_any g V C code ⟨xk, xvk, xvn, xvt, xnm⟩ ek ve W' (by omega) he1 he2 hN (hre.later hW) hs
  have hqv : Hid (∀ W' c', ScAt W' g V C c' → Calls Tryz.prog 83 #[.pointer (some ⟨g, 0, none⟩), .string nm, .bool false] W' fun e w' => e = .returned (.tuple #[]) ∧ W'.grownBy w' (some g) ∧ ScAt w' g (V ++ [nm.data.toList]) C (Pl.orr c' (Pl.twiceC V C nm.data.toList))) := by
    refine hide fun W' c' hs => ?_
    have := fresh_var g V C c' nm.data.toList W' (by omega) (by omega) hs
    rwa [sv_of] at this
  have hqc : Hid (∀ W' c', ScAt W' g V C c' → Calls Tryz.prog 83 #[.pointer (some ⟨g, 0, none⟩), .string nm, .bool true] W' fun e w' => e = .returned (.tuple #[]) ∧ W'.grownBy w' (some g) ∧ ScAt w' g V (C ++ [nm.data.toList]) (Pl.orr c' (Pl.twiceC V C nm.data.toList))) := by
    refine hide fun W' c' hs => ?_
    have := fresh_call g V C c' nm.data.toList W' (by omega) (by omega) hs
    rwa [sv_of] at this
  have hqf : Hid (∀ W' c' n, ScAt W' g V C c' → Calls Tryz.prog 85 #[.pointer (some ⟨g, 0, none⟩), .int .i64 n] W' fun e w' => e = .returned (.tuple #[]) ∧ W'.grownBy w' (some g) ∧ ScAt w' g V C (Pl.orr c' n)) := fun W' c' n hs => fail_any g V C c' n W' hs
  have hqh : Hid (∀ W' L s vL, L.length ≤ 1000000 → TextsAt W' vL L → Calls Tryz.prog 84 #[vL, .string s] W' fun e w' => e = .returned (.bool (decide (s.data.toList ∈ L))) ∧ w' = W') := by
    refine hide fun W' L s vL hL ht => ?_
    have := l3Has_any L s.data.toList vL (by omega) W' ht
    rwa [sv_of] at this
  obtain ⟨ade, cape, rfl, _, _, _⟩ := hre
  obtain ⟨adb, capb, rfl, _, _, _⟩ := hrb
  obtain ⟨adl, capl, rfl, _, _, _⟩ := hrl
  have HX := hide (Box11.mk (sn := ⟨k, nm, wh, ⟨xk, xvk, xvn, xvt, xnm⟩, ek⟩) (ve := .slice ade ek.len cape) (vb := .slice adb b.len capb) (vl := .slice adl l.len capl) (T := 47) W)
  have HA : Hid (Below W.heap.size W (W.alloc (.cells #[.int .i64 k, .string nm, .string wh, .int .i64 xk, .int .i64 xvk, .int .i64 xvn, .string xvt, .string xnm, .slice ade ek.len cape, .slice adb b.len capb, .slice adl l.len capl] 47))) := (Below.refl _ _).alloc (Nat.le_refl _) _
  have HS0 := hide (hsc.later HA.out)
  have HB0 : Hid (Below w0.heap.size w0 (W.alloc (.cells #[.int .i64 k, .string nm, .string wh, .int .i64 xk, .int .i64 xvk, .int .i64 xvn, .string xvt, .string xnm, .slice ade ek.len cape, .slice adb b.len capb, .slice adl l.len capl] 47))) := hBW.trans (HA.out.mono hBW.size)
  have HG0 : Hid (W.grownBy (W.alloc (.cells #[.int .i64 k, .string nm, .string wh, .int .i64 xk, .int .i64 xvk, .int .i64 xvn, .string xvt, .string xnm, .slice ade ek.len cape, .slice adb b.len capb, .slice adl l.len capl] 47)) (some g)) := grown_below HA.out _
  have hng : W.heap.size ≠ g := by omega
  clear hsc hBW HA he2 hN
  clear hqv hqf hqh hb0 hl0
  subst hk
  go_enter Tryz.func59, Tryz.ntmps59
  go_wp2_with fail
  refine (hqu.out _ HB0.out HS0.out).mono ?_
  rintro e w1 ⟨rfl, hg1, hs1⟩
  have HS1 := hide hs1
  have HG1 : Hid (W.grownBy w1 (some g)) := grown_trans HG0.out hg1
  have HB1 : Hid (Below w0.heap.size w0 w1) := below_of_grown HB0.out hg0 hg1
  have HX1 := hide (HX.out.beside hg1 hng)
  clear hg1 hs1 HS0 HG0 HB0 HX
  obtain ⟨_, ⟨x0, x1, x2, x3, x4, x5, x6, x7⟩, x8, x9, x10⟩ := HX1.out
  go_wp2_with fail
  refine (hqc.out _ _ HS1.out).mono ?_
  rintro e w2 ⟨rfl, hg2, hs2⟩
  have HS2 := hide hs2
  have HG2 : Hid (W.grownBy w2 (some g)) := grown_trans HG1.out hg2
  have HB2 : Hid (Below w0.heap.size w0 w2) := below_of_grown HB1.out hg0 hg2
  have HX2 := hide (HX1.out.beside hg2 hng)
  clear hg2 hs2 HS1 HG1 HB1 HX1
  clear x0 x1 x2 x3 x4 x5 x6 x7 x8 x9 x10
  go_wp2
  go_end0
  exact ⟨rfl, HG2.out, V, C ++ [nm.data.toList], by rw [← HEQ.out]; exact HS2.out, fun h => HTL.out (by rw [HEQ.out]; exact h), by simp; omega⟩

set_option maxHeartbeats 3200000 in
set_option maxRecDepth 100000 in
theorem step_J (k : Int) (nm wh : ByteArray) (xk xvk xvn : Int) (xvt xnm : ByteArray) (ek : Fo) (b l : Ps) (E : Pl.En) (ve vb vl : Value) (w0 W : World) (g : Nat) (V C : List (List UInt8)) (code : Int) (hN : (Pl.namesN ⟨xk, xvk, xvn, xvt, xnm⟩ ek).length ≤ 1048576) (he1 : ek.len ≤ 1048576) (he2 : ek.Sm) (hre : RowAt 0 w0 ek ve) (hrb : PRow 0 w0 b vb) (hrl : PRow 0 w0 l vl)
    (hg0 : w0.heap.size ≤ g) (hBW : Below w0.heap.size w0 W) (hsc : ScAt W g V C code) (htl : code = 0 → Pl.Tells V C E) (hVC : V.length + C.length + (b.nodes + l.nodes) ≤ 1000000) (hb0 : b.len = 0) (hl0 : l.len = 0) (hNN : Pl.namesN ⟨xk, xvk, xvn, xvt, xnm⟩ ek = []) (hk : k = 7) :
    Calls Tryz.prog 59 #[.pointer (some ⟨g, 0, none⟩), .agg #[.int .i64 k, .string nm, .string wh, .int .i64 xk, .int .i64 xvk, .int .i64 xvn, .string xvt, .string xnm, ve, vb, vl]] W (StQ ⟨k, nm, wh, ⟨xk, xvk, xvn, xvt, xnm⟩, ek⟩ b l E V C code g W) := by
  have HEQ : Hid (Pl.orr (Pl.orr code (if wh.data.toList ∈ C then 0 else 4)) (Pl.twiceC V C nm.data.toList) = Pl.orr code (Pl.chkS ⟨k, nm, wh, ⟨xk, xvk, xvn, xvt, xnm⟩, ek⟩ b l E)) := by
    show _ = _
    subst hk
    rw [Pl.orr_assoc, Pl.chk_flat hb0 hl0, Pl.own_join hNN]
    refine Pl.orr_congr fun h0 => ?_
    rw [Pl.twiceC_eq (htl h0)]
    congr 1
    by_cases hm : wh.data.toList ∈ C
    · rw [if_pos hm, if_pos ((htl h0 _).2.1.1 hm)]
    · rw [if_neg hm, if_neg (fun h => hm ((htl h0 _).2.1.2 h))]
  have HTL : Hid (Pl.orr (Pl.orr code (if wh.data.toList ∈ C then 0 else 4)) (Pl.twiceC V C nm.data.toList) = 0 → Pl.Tells (V ++ [nm.data.toList]) C (Pl.ext ⟨k, nm, wh, ⟨xk, xvk, xvn, xvt, xnm⟩, ek⟩ E)) := by
    refine hide fun h => ?_
    have hm : Pl.mk k = 1 := by rcases hk with rfl <;> decide
    have he : Pl.ext ⟨k, nm, wh, ⟨xk, xvk, xvn, xvt, xnm⟩, ek⟩ E = (nm.data.toList, 1) :: E := by simp [Pl.ext, hm]
    obtain ⟨h1, h2⟩ := Pl.orr_eq_zero h
    have hc : code = 0 := (Pl.orr_eq_zero h1).1
    rw [Pl.twiceC_eq (htl hc)] at h2
    rw [he]
    exact Pl.tells_var (htl hc) _ (Pl.twiceE_zero h2)
  have hgw : g < W.heap.size := by
    obtain ⟨_, _, hbk, _⟩ := hsc
    exact (Array.getElem?_eq_some_iff.1 hbk).1
  have hqu : Hid (∀ W', Below w0.heap.size w0 W' → ScAt W' g V C code → Calls Tryz.prog 82 #[.pointer (some ⟨g, 0, none⟩), ndV ⟨xk, xvk, xvn, xvt, xnm⟩ ve] W' fun e w' => e = .returned (.tuple #[]) ∧ W'.grownBy w' (some g) ∧ ScAt w' g V C (Pl.orr code (Pl.lackC V (Pl.namesN ⟨xk, xvk, xvn, xvt, xnm⟩ ek)))) := fun W' hW hs => uses_any g V C code ⟨xk, xvk, xvn, xvt, xnm⟩ ek ve W' (by omega) he1 he2 hN (hre.later hW) hs
  have hqv : Hid (∀ W' c', ScAt W' g V C c' → Calls Tryz.prog 83 #[.pointer (some ⟨g, 0, none⟩), .string nm, .bool false] W' fun e w' => e = .returned (.tuple #[]) ∧ W'.grownBy w' (some g) ∧ ScAt w' g (V ++ [nm.data.toList]) C (Pl.orr c' (Pl.twiceC V C nm.data.toList))) := by
    refine hide fun W' c' hs => ?_
    have := fresh_var g V C c' nm.data.toList W' (by omega) (by omega) hs
    rwa [sv_of] at this
  have hqc : Hid (∀ W' c', ScAt W' g V C c' → Calls Tryz.prog 83 #[.pointer (some ⟨g, 0, none⟩), .string nm, .bool true] W' fun e w' => e = .returned (.tuple #[]) ∧ W'.grownBy w' (some g) ∧ ScAt w' g V (C ++ [nm.data.toList]) (Pl.orr c' (Pl.twiceC V C nm.data.toList))) := by
    refine hide fun W' c' hs => ?_
    have := fresh_call g V C c' nm.data.toList W' (by omega) (by omega) hs
    rwa [sv_of] at this
  have hqf : Hid (∀ W' c' n, ScAt W' g V C c' → Calls Tryz.prog 85 #[.pointer (some ⟨g, 0, none⟩), .int .i64 n] W' fun e w' => e = .returned (.tuple #[]) ∧ W'.grownBy w' (some g) ∧ ScAt w' g V C (Pl.orr c' n)) := fun W' c' n hs => fail_any g V C c' n W' hs
  have hqh : Hid (∀ W' L s vL, L.length ≤ 1000000 → TextsAt W' vL L → Calls Tryz.prog 84 #[vL, .string s] W' fun e w' => e = .returned (.bool (decide (s.data.toList ∈ L))) ∧ w' = W') := by
    refine hide fun W' L s vL hL ht => ?_
    have := l3Has_any L s.data.toList vL (by omega) W' ht
    rwa [sv_of] at this
  obtain ⟨ade, cape, rfl, _, _, _⟩ := hre
  obtain ⟨adb, capb, rfl, _, _, _⟩ := hrb
  obtain ⟨adl, capl, rfl, _, _, _⟩ := hrl
  have HX := hide (Box11.mk (sn := ⟨k, nm, wh, ⟨xk, xvk, xvn, xvt, xnm⟩, ek⟩) (ve := .slice ade ek.len cape) (vb := .slice adb b.len capb) (vl := .slice adl l.len capl) (T := 47) W)
  have HA : Hid (Below W.heap.size W (W.alloc (.cells #[.int .i64 k, .string nm, .string wh, .int .i64 xk, .int .i64 xvk, .int .i64 xvn, .string xvt, .string xnm, .slice ade ek.len cape, .slice adb b.len capb, .slice adl l.len capl] 47))) := (Below.refl _ _).alloc (Nat.le_refl _) _
  have HS0 := hide (hsc.later HA.out)
  have HB0 : Hid (Below w0.heap.size w0 (W.alloc (.cells #[.int .i64 k, .string nm, .string wh, .int .i64 xk, .int .i64 xvk, .int .i64 xvn, .string xvt, .string xnm, .slice ade ek.len cape, .slice adb b.len capb, .slice adl l.len capl] 47))) := hBW.trans (HA.out.mono hBW.size)
  have HG0 : Hid (W.grownBy (W.alloc (.cells #[.int .i64 k, .string nm, .string wh, .int .i64 xk, .int .i64 xvk, .int .i64 xvn, .string xvt, .string xnm, .slice ade ek.len cape, .slice adb b.len capb, .slice adl l.len capl] 47)) (some g)) := grown_below HA.out _
  have hng : W.heap.size ≠ g := by omega
  clear hsc hBW HA he2 hN
  clear hqu hqc hb0 hl0 hNN
  subst hk
  go_enter Tryz.func59, Tryz.ntmps59
  obtain ⟨vv, vc, hbk, hvv, hvc, _, _⟩ := HS0.out
  have cl := cell_of_block hbk 1
  simp only [List.getElem?_toArray, List.getElem?_cons_zero, List.getElem?_cons_succ] at cl
  have HVL := hide hvc
  have hh : Hid (∀ W', TextsAt W' _ C → Calls Tryz.prog 84 #[vc, .string wh] W' fun e w' => e = .returned (.bool (decide (wh.data.toList ∈ C))) ∧ w' = W') := hide fun W' ht => hqh.out W' C wh _ (by omega) ht
  obtain ⟨av, cpv, rfl, _⟩ := hvv
  obtain ⟨ac, cpc, rfl, _⟩ := hvc
  clear hbk
  go_wp2_with fail
  go_region_with (go_at_call 84; refine (hh.out _ (HVL.out.later (by first | exact (Below.refl _ _).drew | exact below_drewN (Below.refl _ _) _))).mono ?_; rintro e wq ⟨rfl, rfl⟩)
  all_goals
    have HSd := hide (HS0.out.later (Below.refl _ _).drew)
    have HGd := hide (grown_trans HG0.out (grown_below (Below.refl _ _).drew _))
    have HXd := hide (HX.out.later (Below.refl _ _).drew)
    clear hh hqh
    obtain ⟨_, ⟨z0, z1, z2, z3, z4, z5, z6, z7⟩, z8, z9, z10⟩ := HXd.out
    by_cases hin : wh.data.toList ∈ C
    · rw [if_pos hin] at HEQ HTL
      rw [decide_eq_true hin]
      rw [Pl.orr_zero] at HEQ HTL
      clear hin
      go_wp2_with fail
      refine (hqv.out _ _ HSd.out).mono ?_
      rintro e w9 ⟨rfl, hg9, hs9⟩
      have HS9 := hide hs9
      have HG9 : Hid (W.grownBy w9 (some g)) := grown_trans HGd.out hg9
      clear hg9 hs9 cl z0 z1 z2 z3 z4 z5 z6 z7 z8 z9 z10
      go_wp2
      go_end0
      exact ⟨rfl, HG9.out, V ++ [nm.data.toList], C, by rw [← HEQ.out]; exact HS9.out, fun h => HTL.out (by rw [HEQ.out]; exact h), by simp; omega⟩
    · rw [if_neg hin] at HEQ HTL
      rw [decide_eq_false hin]
      clear hin
      go_wp2_with fail
      refine (hqf.out _ _ _ HSd.out).mono ?_
      rintro e w8 ⟨rfl, hg8, hs8⟩
      have HS8 := hide hs8
      have HG8 : Hid (W.grownBy w8 (some g)) := grown_trans HGd.out hg8
      have HX8 := hide (HXd.out.beside hg8 hng)
      clear hg8 hs8 cl z0 z1 z2 z3 z4 z5 z6 z7 z8 z9 z10
      obtain ⟨_, ⟨x0, x1, x2, x3, x4, x5, x6, x7⟩, x8, x9, x10⟩ := HX8.out
      go_wp2_with fail
      refine (hqv.out _ _ HS8.out).mono ?_
      rintro e w9 ⟨rfl, hg9, hs9⟩
      have HS9 := hide hs9
      have HG9 : Hid (W.grownBy w9 (some g)) := grown_trans HG8.out hg9
      clear hg9 hs9 x0 x1 x2 x3 x4 x5 x6 x7 x8 x9 x10
      go_wp2
      go_end0
      exact ⟨rfl, HG9.out, V ++ [nm.data.toList], C, by rw [← HEQ.out]; exact HS9.out, fun h => HTL.out (by rw [HEQ.out]; exact h), by simp; omega⟩

set_option maxHeartbeats 3200000 in
set_option maxRecDepth 100000 in
theorem step_T (k : Int) (nm wh : ByteArray) (xk xvk xvn : Int) (xvt xnm : ByteArray) (ek : Fo) (b l : Ps) (E : Pl.En) (ve vb vl : Value) (w0 W : World) (g : Nat) (V C : List (List UInt8)) (code : Int) (hN : (Pl.namesN ⟨xk, xvk, xvn, xvt, xnm⟩ ek).length ≤ 1048576) (he1 : ek.len ≤ 1048576) (he2 : ek.Sm) (hre : RowAt 0 w0 ek ve) (hrb : PRow 0 w0 b vb) (hrl : PRow 0 w0 l vl)
    (hg0 : w0.heap.size ≤ g) (hBW : Below w0.heap.size w0 W) (hsc : ScAt W g V C code) (htl : code = 0 → Pl.Tells V C E) (hVC : V.length + C.length + (b.nodes + l.nodes) ≤ 1000000) (hb0 : b.len = 0) (hl0 : l.len = 0) (hNN : Pl.namesN ⟨xk, xvk, xvn, xvt, xnm⟩ ek = []) (hk : k = 9) :
    Calls Tryz.prog 59 #[.pointer (some ⟨g, 0, none⟩), .agg #[.int .i64 k, .string nm, .string wh, .int .i64 xk, .int .i64 xvk, .int .i64 xvn, .string xvt, .string xnm, ve, vb, vl]] W (StQ ⟨k, nm, wh, ⟨xk, xvk, xvn, xvt, xnm⟩, ek⟩ b l E V C code g W) := by
  have HEQ : Hid (Pl.orr code (Pl.twiceC V C nm.data.toList) = Pl.orr code (Pl.chkS ⟨k, nm, wh, ⟨xk, xvk, xvn, xvt, xnm⟩, ek⟩ b l E)) := by
    show _ = _
    subst hk
    rw [Pl.chk_flat hb0 hl0, Pl.own_wait hNN]
    exact Pl.orr_congr fun h0 => by rw [Pl.twiceC_eq (htl h0)]
  have HTL : Hid (Pl.orr code (Pl.twiceC V C nm.data.toList) = 0 → Pl.Tells (V ++ [nm.data.toList]) C (Pl.ext ⟨k, nm, wh, ⟨xk, xvk, xvn, xvt, xnm⟩, ek⟩ E)) := by
    refine hide fun h => ?_
    have hm : Pl.mk k = 1 := by rcases hk with rfl <;> decide
    have he : Pl.ext ⟨k, nm, wh, ⟨xk, xvk, xvn, xvt, xnm⟩, ek⟩ E = (nm.data.toList, 1) :: E := by simp [Pl.ext, hm]
    obtain ⟨h1, h2⟩ := Pl.orr_eq_zero h
    have hc : code = 0 := h1
    rw [Pl.twiceC_eq (htl hc)] at h2
    rw [he]
    exact Pl.tells_var (htl hc) _ (Pl.twiceE_zero h2)
  have hgw : g < W.heap.size := by
    obtain ⟨_, _, hbk, _⟩ := hsc
    exact (Array.getElem?_eq_some_iff.1 hbk).1
  have hqu : Hid (∀ W', Below w0.heap.size w0 W' → ScAt W' g V C code → Calls Tryz.prog 82 #[.pointer (some ⟨g, 0, none⟩), ndV ⟨xk, xvk, xvn, xvt, xnm⟩ ve] W' fun e w' => e = .returned (.tuple #[]) ∧ W'.grownBy w' (some g) ∧ ScAt w' g V C (Pl.orr code (Pl.lackC V (Pl.namesN ⟨xk, xvk, xvn, xvt, xnm⟩ ek)))) := fun W' hW hs => uses_any g V C code ⟨xk, xvk, xvn, xvt, xnm⟩ ek ve W' (by omega) he1 he2 hN (hre.later hW) hs
  have hqv : Hid (∀ W' c', ScAt W' g V C c' → Calls Tryz.prog 83 #[.pointer (some ⟨g, 0, none⟩), .string nm, .bool false] W' fun e w' => e = .returned (.tuple #[]) ∧ W'.grownBy w' (some g) ∧ ScAt w' g (V ++ [nm.data.toList]) C (Pl.orr c' (Pl.twiceC V C nm.data.toList))) := by
    refine hide fun W' c' hs => ?_
    have := fresh_var g V C c' nm.data.toList W' (by omega) (by omega) hs
    rwa [sv_of] at this
  have hqc : Hid (∀ W' c', ScAt W' g V C c' → Calls Tryz.prog 83 #[.pointer (some ⟨g, 0, none⟩), .string nm, .bool true] W' fun e w' => e = .returned (.tuple #[]) ∧ W'.grownBy w' (some g) ∧ ScAt w' g V (C ++ [nm.data.toList]) (Pl.orr c' (Pl.twiceC V C nm.data.toList))) := by
    refine hide fun W' c' hs => ?_
    have := fresh_call g V C c' nm.data.toList W' (by omega) (by omega) hs
    rwa [sv_of] at this
  have hqf : Hid (∀ W' c' n, ScAt W' g V C c' → Calls Tryz.prog 85 #[.pointer (some ⟨g, 0, none⟩), .int .i64 n] W' fun e w' => e = .returned (.tuple #[]) ∧ W'.grownBy w' (some g) ∧ ScAt w' g V C (Pl.orr c' n)) := fun W' c' n hs => fail_any g V C c' n W' hs
  have hqh : Hid (∀ W' L s vL, L.length ≤ 1000000 → TextsAt W' vL L → Calls Tryz.prog 84 #[vL, .string s] W' fun e w' => e = .returned (.bool (decide (s.data.toList ∈ L))) ∧ w' = W') := by
    refine hide fun W' L s vL hL ht => ?_
    have := l3Has_any L s.data.toList vL (by omega) W' ht
    rwa [sv_of] at this
  obtain ⟨ade, cape, rfl, _, _, _⟩ := hre
  obtain ⟨adb, capb, rfl, _, _, _⟩ := hrb
  obtain ⟨adl, capl, rfl, _, _, _⟩ := hrl
  have HX := hide (Box11.mk (sn := ⟨k, nm, wh, ⟨xk, xvk, xvn, xvt, xnm⟩, ek⟩) (ve := .slice ade ek.len cape) (vb := .slice adb b.len capb) (vl := .slice adl l.len capl) (T := 47) W)
  have HA : Hid (Below W.heap.size W (W.alloc (.cells #[.int .i64 k, .string nm, .string wh, .int .i64 xk, .int .i64 xvk, .int .i64 xvn, .string xvt, .string xnm, .slice ade ek.len cape, .slice adb b.len capb, .slice adl l.len capl] 47))) := (Below.refl _ _).alloc (Nat.le_refl _) _
  have HS0 := hide (hsc.later HA.out)
  have HB0 : Hid (Below w0.heap.size w0 (W.alloc (.cells #[.int .i64 k, .string nm, .string wh, .int .i64 xk, .int .i64 xvk, .int .i64 xvn, .string xvt, .string xnm, .slice ade ek.len cape, .slice adb b.len capb, .slice adl l.len capl] 47))) := hBW.trans (HA.out.mono hBW.size)
  have HG0 : Hid (W.grownBy (W.alloc (.cells #[.int .i64 k, .string nm, .string wh, .int .i64 xk, .int .i64 xvk, .int .i64 xvn, .string xvt, .string xnm, .slice ade ek.len cape, .slice adb b.len capb, .slice adl l.len capl] 47)) (some g)) := grown_below HA.out _
  have hng : W.heap.size ≠ g := by omega
  clear hsc hBW HA he2 hN
  clear hqu hqc hqf hqh hb0 hl0 hNN
  subst hk
  go_enter Tryz.func59, Tryz.ntmps59
  go_wp2_with fail
  refine (hqv.out _ _ HS0.out).mono ?_
  rintro e w1 ⟨rfl, hg1, hs1⟩
  have HS1 := hide hs1
  have HG1 : Hid (W.grownBy w1 (some g)) := grown_trans HG0.out hg1
  have HB1 : Hid (Below w0.heap.size w0 w1) := below_of_grown HB0.out hg0 hg1
  have HX1 := hide (HX.out.beside hg1 hng)
  clear hg1 hs1 HS0 HG0 HB0 HX
  go_wp2
  go_end0
  exact ⟨rfl, HG1.out, V ++ [nm.data.toList], C, by rw [← HEQ.out]; exact HS1.out, fun h => HTL.out (by rw [HEQ.out]; exact h), by simp; omega⟩

set_option maxHeartbeats 3200000 in
set_option maxRecDepth 100000 in
theorem step_Z (k : Int) (nm wh : ByteArray) (xk xvk xvn : Int) (xvt xnm : ByteArray) (ek : Fo) (b l : Ps) (E : Pl.En) (ve vb vl : Value) (w0 W : World) (g : Nat) (V C : List (List UInt8)) (code : Int) (hN : (Pl.namesN ⟨xk, xvk, xvn, xvt, xnm⟩ ek).length ≤ 1048576) (he1 : ek.len ≤ 1048576) (he2 : ek.Sm) (hre : RowAt 0 w0 ek ve) (hrb : PRow 0 w0 b vb) (hrl : PRow 0 w0 l vl)
    (hg0 : w0.heap.size ≤ g) (hBW : Below w0.heap.size w0 W) (hsc : ScAt W g V C code) (htl : code = 0 → Pl.Tells V C E) (hVC : V.length + C.length + (b.nodes + l.nodes) ≤ 1000000) (hb0 : b.len = 0) (hl0 : l.len = 0) (hk : k = 8 ∨ k = 11 ∨ k = 12 ∨ k = 13) :
    Calls Tryz.prog 59 #[.pointer (some ⟨g, 0, none⟩), .agg #[.int .i64 k, .string nm, .string wh, .int .i64 xk, .int .i64 xvk, .int .i64 xvn, .string xvt, .string xnm, ve, vb, vl]] W (StQ ⟨k, nm, wh, ⟨xk, xvk, xvn, xvt, xnm⟩, ek⟩ b l E V C code g W) := by
  have HEQ : Hid (Pl.orr code (Pl.lackC V (Pl.namesN ⟨xk, xvk, xvn, xvt, xnm⟩ ek)) = Pl.orr code (Pl.chkS ⟨k, nm, wh, ⟨xk, xvk, xvn, xvt, xnm⟩, ek⟩ b l E)) := by
    show _ = _
    rw [Pl.chk_flat hb0 hl0, Pl.own_bare (by rcases hk with rfl | rfl | rfl | rfl <;> decide) (by rcases hk with rfl | rfl | rfl | rfl <;> decide) (by rcases hk with rfl | rfl | rfl | rfl <;> decide)]
    exact Pl.orr_congr fun h0 => by rw [Pl.lackC_eq (htl h0)]
  have HTL : Hid (Pl.orr code (Pl.lackC V (Pl.namesN ⟨xk, xvk, xvn, xvt, xnm⟩ ek)) = 0 → Pl.Tells V C (Pl.ext ⟨k, nm, wh, ⟨xk, xvk, xvn, xvt, xnm⟩, ek⟩ E)) := by
    refine hide fun h => ?_
    have hm : Pl.mk k = 0 := by rcases hk with rfl | rfl | rfl | rfl <;> decide
    have he : Pl.ext ⟨k, nm, wh, ⟨xk, xvk, xvn, xvt, xnm⟩, ek⟩ E = E := by simp [Pl.ext, hm]
    rw [he]
    exact htl (Pl.orr_eq_zero h).1
  have hgw : g < W.heap.size := by
    obtain ⟨_, _, hbk, _⟩ := hsc
    exact (Array.getElem?_eq_some_iff.1 hbk).1
  have hqu : Hid (∀ W', Below w0.heap.size w0 W' → ScAt W' g V C code → Calls Tryz.prog 82 #[.pointer (some ⟨g, 0, none⟩), ndV ⟨xk, xvk, xvn, xvt, xnm⟩ ve] W' fun e w' => e = .returned (.tuple #[]) ∧ W'.grownBy w' (some g) ∧ ScAt w' g V C (Pl.orr code (Pl.lackC V (Pl.namesN ⟨xk, xvk, xvn, xvt, xnm⟩ ek)))) := fun W' hW hs => uses_any g V C code ⟨xk, xvk, xvn, xvt, xnm⟩ ek ve W' (by omega) he1 he2 hN (hre.later hW) hs
  have hqv : Hid (∀ W' c', ScAt W' g V C c' → Calls Tryz.prog 83 #[.pointer (some ⟨g, 0, none⟩), .string nm, .bool false] W' fun e w' => e = .returned (.tuple #[]) ∧ W'.grownBy w' (some g) ∧ ScAt w' g (V ++ [nm.data.toList]) C (Pl.orr c' (Pl.twiceC V C nm.data.toList))) := by
    refine hide fun W' c' hs => ?_
    have := fresh_var g V C c' nm.data.toList W' (by omega) (by omega) hs
    rwa [sv_of] at this
  have hqc : Hid (∀ W' c', ScAt W' g V C c' → Calls Tryz.prog 83 #[.pointer (some ⟨g, 0, none⟩), .string nm, .bool true] W' fun e w' => e = .returned (.tuple #[]) ∧ W'.grownBy w' (some g) ∧ ScAt w' g V (C ++ [nm.data.toList]) (Pl.orr c' (Pl.twiceC V C nm.data.toList))) := by
    refine hide fun W' c' hs => ?_
    have := fresh_call g V C c' nm.data.toList W' (by omega) (by omega) hs
    rwa [sv_of] at this
  have hqf : Hid (∀ W' c' n, ScAt W' g V C c' → Calls Tryz.prog 85 #[.pointer (some ⟨g, 0, none⟩), .int .i64 n] W' fun e w' => e = .returned (.tuple #[]) ∧ W'.grownBy w' (some g) ∧ ScAt w' g V C (Pl.orr c' n)) := fun W' c' n hs => fail_any g V C c' n W' hs
  have hqh : Hid (∀ W' L s vL, L.length ≤ 1000000 → TextsAt W' vL L → Calls Tryz.prog 84 #[vL, .string s] W' fun e w' => e = .returned (.bool (decide (s.data.toList ∈ L))) ∧ w' = W') := by
    refine hide fun W' L s vL hL ht => ?_
    have := l3Has_any L s.data.toList vL (by omega) W' ht
    rwa [sv_of] at this
  obtain ⟨ade, cape, rfl, _, _, _⟩ := hre
  obtain ⟨adb, capb, rfl, _, _, _⟩ := hrb
  obtain ⟨adl, capl, rfl, _, _, _⟩ := hrl
  have HX := hide (Box11.mk (sn := ⟨k, nm, wh, ⟨xk, xvk, xvn, xvt, xnm⟩, ek⟩) (ve := .slice ade ek.len cape) (vb := .slice adb b.len capb) (vl := .slice adl l.len capl) (T := 47) W)
  have HA : Hid (Below W.heap.size W (W.alloc (.cells #[.int .i64 k, .string nm, .string wh, .int .i64 xk, .int .i64 xvk, .int .i64 xvn, .string xvt, .string xnm, .slice ade ek.len cape, .slice adb b.len capb, .slice adl l.len capl] 47))) := (Below.refl _ _).alloc (Nat.le_refl _) _
  have HS0 := hide (hsc.later HA.out)
  have HB0 : Hid (Below w0.heap.size w0 (W.alloc (.cells #[.int .i64 k, .string nm, .string wh, .int .i64 xk, .int .i64 xvk, .int .i64 xvn, .string xvt, .string xnm, .slice ade ek.len cape, .slice adb b.len capb, .slice adl l.len capl] 47))) := hBW.trans (HA.out.mono hBW.size)
  have HG0 : Hid (W.grownBy (W.alloc (.cells #[.int .i64 k, .string nm, .string wh, .int .i64 xk, .int .i64 xvk, .int .i64 xvn, .string xvt, .string xnm, .slice ade ek.len cape, .slice adb b.len capb, .slice adl l.len capl] 47)) (some g)) := grown_below HA.out _
  have hng : W.heap.size ≠ g := by omega
  clear hsc hBW HA he2 hN
  clear hqv hqc hqf hqh hb0 hl0
  rcases hk with rfl | rfl | rfl | rfl
  all_goals
    go_enter Tryz.func59, Tryz.ntmps59
    go_wp2_with fail
    refine (hqu.out _ HB0.out HS0.out).mono ?_
    rintro e w1 ⟨rfl, hg1, hs1⟩
    have HS1 := hide hs1
    have HG1 : Hid (W.grownBy w1 (some g)) := grown_trans HG0.out hg1
    have HB1 : Hid (Below w0.heap.size w0 w1) := below_of_grown HB0.out hg0 hg1
    have HX1 := hide (HX.out.beside hg1 hng)
    clear hg1 hs1 HS0 HG0 HB0 HX
    go_wp2
    go_end0
    exact ⟨rfl, HG1.out, V, C, by rw [← HEQ.out]; exact HS1.out, fun h => HTL.out (by rw [HEQ.out]; exact h), by omega⟩

end Go.Proofs.YtnikomgdcddchaaGreat

/- What is wrong with the names of steps, as the specification has it. -/
namespace Go.Proofs.YtnikomgdcddchaaGreat
open Go.RowKit
set_option linter.unusedVariables false
namespace Pl
theorem names_few {ex : Nd} {ek : Fo} (h : okN ex ek 5 = true) : (namesN ex ek).length ≤ 1048576 := by
  have h1 := okN_nodes (Nat.le_refl _) h
  have h2 := names_le_nodes ek
  have h3 := ownNm_le ex
  simp only [namesN, List.length_append]
  omega
theorem body_form {F : Ps} {d : Nat} (h : bodyB F d = true) : formF F d = true := by
  simp only [bodyB, Bool.and_eq_true] at h
  exact h.2.2
theorem flat_of {bl el : Nat} (h : ((bl : Int) + (el : Int) == 0) = true) : bl = 0 ∧ el = 0 := by
  rw [beq_iff_eq] at h
  omega
/-- what a step's form gives, by its kind -/
theorem form_kinds {k : Int} {nm wh : ByteArray} {ex : Nd} {ek : Fo} {bl el : Nat} {fb fe : Bool} (h : formBy ⟨k, nm, wh, ex, ek⟩ bl el fb fe = true) :
    ((k = 1 ∨ k = 5 ∨ k = 10 ∨ k = 2 ∨ k = 6 ∨ k = 8 ∨ k = 11 ∨ k = 12 ∨ k = 13) ∧ okN ex ek 5 = true ∧ bl = 0 ∧ el = 0) ∨ (k = 3 ∧ okN ex ek 5 = true ∧ fb = true ∧ (el = 0 ∨ fe = true)) ∨ (k = 4 ∧ okN ex ek 5 = true ∧ fb = true ∧ el = 0) ∨ ((k = 7 ∨ k = 9) ∧ noneB ex ek = true ∧ bl = 0 ∧ el = 0) := by
  unfold formBy at h
  simp only at h
  split at h
  · next hk =>
    simp only [Bool.and_eq_true] at h
    have := flat_of h.2.2.2
    refine .inl ⟨?_, h.2.2.1, this⟩
    omega
  · split at h
    · next hk =>
      simp only [Bool.and_eq_true, Bool.or_eq_true, beq_iff_eq] at h
      exact .inr (.inl ⟨hk, h.2.2.1, h.2.2.2.1, h.2.2.2.2⟩)
    · split at h
      · next hk =>
        simp only [Bool.and_eq_true, beq_iff_eq] at h
        exact .inr (.inr (.inl ⟨hk, h.2.2.1, h.2.2.2.1, h.2.2.2.2⟩))
      · split at h
        · next hk =>
          simp only [Bool.and_eq_true] at h
          have := flat_of h.2.2.2
          refine .inl ⟨?_, h.2.2.1, this⟩
          omega
        · split at h
          · next hk =>
            simp only [Bool.and_eq_true] at h
            have := flat_of h.2.2.2
            exact .inr (.inr (.inr ⟨hk, h.2.2.1, this⟩))
          · split at h
            · next hk =>
              simp only [Bool.and_eq_true] at h
              have := flat_of h.2.2.2
              refine .inl ⟨?_, h.2.2.1, this⟩
              omega
            · cases h
end Pl
/-- what is known of the steps that are looked at -/
def BdP (F : Ps) : Prop := ∀ (d : Nat) (E : Pl.En) (v : Value) (g : Nat) (w0 : World), Pl.formF F d = true → F.Sm → F.len ≤ 1048576 → PRow 0 w0 F v → w0.heap.size ≤ g → BdQ F E v g w0

theorem step_of (sn : Sn) (b l : Ps) (d : Nat) (hf : Pl.formS sn b l d = true) (hkb : BdP b) (hkl : BdP l) (he : sn.ek.len ≤ 1048576 ∧ sn.ek.Sm) (hb : b.len ≤ 1048576 ∧ b.Sm) (hl : l.len ≤ 1048576 ∧ l.Sm) (E : Pl.En) (ve vb vl : Value) (w0 W : World) (g : Nat) (V C : List (List UInt8)) (code : Int) (hre : RowAt 0 w0 sn.ek ve) (hrb : PRow 0 w0 b vb) (hrl : PRow 0 w0 l vl)
    (hg0 : w0.heap.size ≤ g) (hBW : Below w0.heap.size w0 W) (hsc : ScAt W g V C code) (htl : code = 0 → Pl.Tells V C E) (hVC : V.length + C.length + (b.nodes + l.nodes) ≤ 1000000) :
    Calls Tryz.prog 59 #[.pointer (some ⟨g, 0, none⟩), snV sn ve vb vl] W (StQ sn b l E V C code g W) := by
  obtain ⟨k, nm, wh, ⟨xk, xvk, xvn, xvt, xnm⟩, ek⟩ := sn
  rcases Pl.form_kinds hf with ⟨hk, ho, hb0, hl0⟩ | ⟨rfl, ho, hfb, hfl⟩ | ⟨rfl, ho, hfb, hl0⟩ | ⟨hk, ho, hb0, hl0⟩
  · have hN := Pl.names_few ho
    rcases hk with hk | hk | hk | hk | hk | hk | hk | hk | hk
    · exact step_A k nm wh xk xvk xvn xvt xnm ek b l E ve vb vl w0 W g V C code hN he.1 he.2 hre hrb hrl hg0 hBW hsc htl hVC hb0 hl0 (.inl hk)
    · exact step_A k nm wh xk xvk xvn xvt xnm ek b l E ve vb vl w0 W g V C code hN he.1 he.2 hre hrb hrl hg0 hBW hsc htl hVC hb0 hl0 (.inr (.inl hk))
    · exact step_A k nm wh xk xvk xvn xvt xnm ek b l E ve vb vl w0 W g V C code hN he.1 he.2 hre hrb hrl hg0 hBW hsc htl hVC hb0 hl0 (.inr (.inr hk))
    · exact step_S k nm wh xk xvk xvn xvt xnm ek b l E ve vb vl w0 W g V C code hN he.1 he.2 hre hrb hrl hg0 hBW hsc htl hVC hb0 hl0 hk
    · exact step_G k nm wh xk xvk xvn xvt xnm ek b l E ve vb vl w0 W g V C code hN he.1 he.2 hre hrb hrl hg0 hBW hsc htl hVC hb0 hl0 hk
    · exact step_Z k nm wh xk xvk xvn xvt xnm ek b l E ve vb vl w0 W g V C code hN he.1 he.2 hre hrb hrl hg0 hBW hsc htl hVC hb0 hl0 (.inl hk)
    · exact step_Z k nm wh xk xvk xvn xvt xnm ek b l E ve vb vl w0 W g V C code hN he.1 he.2 hre hrb hrl hg0 hBW hsc htl hVC hb0 hl0 (.inr (.inl hk))
    · exact step_Z k nm wh xk xvk xvn xvt xnm ek b l E ve vb vl w0 W g V C code hN he.1 he.2 hre hrb hrl hg0 hBW hsc htl hVC hb0 hl0 (.inr (.inr (.inl hk)))
    · exact step_Z k nm wh xk xvk xvn xvt xnm ek b l E ve vb vl w0 W g V C code hN he.1 he.2 hre hrb hrl hg0 hBW hsc htl hVC hb0 hl0 (.inr (.inr (.inr hk)))
  · have hfl' : Pl.formF l (d - 1) = true := by
      rcases hfl with h | h
      · rw [Pl.len_nil h]; rfl
      · exact Pl.body_form h
    exact step_I 3 nm wh xk xvk xvn xvt xnm ek b l E ve vb vl w0 W g V C code (Pl.names_few ho) he.1 he.2 hre hrb hrl hg0 hBW hsc htl hVC (hkb (d - 1) E vb g w0 (Pl.body_form hfb) hb.2 hb.1 hrb hg0) (hkl (d - 1) E vl g w0 hfl' hl.2 hl.1 hrl hg0) rfl
  · exact step_W 4 nm wh xk xvk xvn xvt xnm ek b l E ve vb vl w0 W g V C code (Pl.names_few ho) he.1 he.2 hre hrb hrl hg0 hBW hsc htl hVC (hkb (d - 1) E vb g w0 (Pl.body_form hfb) hb.2 hb.1 hrb hg0) hl0 rfl
  · have hNN := Pl.names_none ho
    rcases hk with hk | hk
    · exact step_J k nm wh xk xvk xvn xvt xnm ek b l E ve vb vl w0 W g V C code (by rw [hNN]; simp) he.1 he.2 hre hrb hrl hg0 hBW hsc htl hVC hb0 hl0 hNN hk
    · exact step_T k nm wh xk xvk xvn xvt xnm ek b l E ve vb vl w0 W g V C code (by rw [hNN]; simp) he.1 he.2 hre hrb hrl hg0 hBW hsc htl hVC hb0 hl0 hNN hk
theorem form_get : ∀ {F : Ps} {d : Nat} (h : Pl.formF F d = true) {i : Nat} {sn : Sn} {b e : Ps}, F.get i = some (sn, b, e) → Pl.formS sn b e d = true := by
  intro F d h i sn b e hk
  cases hs : Pl.formS sn b e d
  · rw [Pl.formF_not F d i sn b e hk hs] at h
    cases h
  · rfl

theorem ScAt.put2 {W : World} {g : Nat} {a b vv vc : Value} {V C : List (List UInt8)} {code : Int} (hb : W.heap[g]? = some (.cells #[a, b, .int .i64 code] 67 (0, 0))) (hv : TextsAt W vv V) (hc : TextsAt W vc C) (hnv : ∀ j, vv.ownBlock = some j → j ≠ g) (hnc : ∀ j, vc.ownBlock = some j → j ≠ g) : ScAt ((W.setCell ⟨g, 0, none⟩ vv).setCell ⟨g, 1, none⟩ vc) g V C code := by
  have hgr := grown_trans (grown_set W g 0 vv) (grown_set _ g 1 vc)
  exact ⟨vv, vc, block_set (block_set hb 0 _) 1 _, hv.grown hgr (fun j hj e => hnv j hj (by cases e; rfl)), hc.grown hgr (fun j hj e => hnc j hj (by cases e; rfl)), hnv, hnc⟩

set_option maxHeartbeats 1600000 in
theorem body_of (F : Ps) (ih : ∀ i sn b e, F.get i = some (sn, b, e) → BdP b ∧ BdP e) : BdP F := by
  intro d E v g w0 hform hsm hlen hr hg0 W V C code hBW hsc htl hVC
  obtain ⟨ad, cap, rfl, hc, hm, hx⟩ := hr
  unfold maxLen at hm
  have HX := hide hx
  have IH := hide ih
  have HF := hide hform
  have HM := hide hsm
  have HTL := hide htl
  have HSC := hide hsc
  have hall := F.kn_all
  have hcv : ∃ vv vc, W.cell? ⟨g, 0, none⟩ = some vv ∧ W.cell? ⟨g, 1, none⟩ = some vc ∧ TextsAt W vv V ∧ TextsAt W vc C ∧ (∀ j, vv.ownBlock = some j → j ≠ g) ∧ (∀ j, vc.ownBlock = some j → j ≠ g) := by
    obtain ⟨vv, vc, hbk, hvv, hvc, hnv, hnc⟩ := hsc
    exact ⟨vv, vc, by rw [cell_of_block hbk]; rfl, by rw [cell_of_block hbk]; rfl, hvv, hvc, hnv, hnc⟩
  obtain ⟨vv, vc, cv, cc, hvv, hvc, hnv, hnc⟩ := hcv
  have HVV := hide hvv
  have HVC := hide hvc
  obtain ⟨av, cpv, rfl, _⟩ := hvv
  obtain ⟨ac, cpc, rfl, _⟩ := hvc
  clear hx ih hform hsm htl hsc
  go_enter Tryz.func36, Tryz.ntmps36
  go_wp2_with fail
  clear cv cc
  go_loopw [6] (fun iv wr => ∃ i : Nat, i ≤ F.len ∧ iv = .int .i64 i ∧ Hid (∃ V' C', ScAt wr g V' C' (Pl.orr code (Pl.chkTo F i E)) ∧ (Pl.orr code (Pl.chkTo F i E) = 0 → Pl.Tells V' C' (Pl.extTo F i E)) ∧ V'.length + C'.length ≤ V.length + C.length + i) ∧ Hid (W.grownBy wr (some g))) (fun iv _ => F.len - (intOf iv).toNat)
  case atStart =>
    refine ⟨0, by omega, rfl, hide ⟨V, C, ?_, ?_, by omega⟩, hide (grown_refl _ _)⟩
    · rw [Pl.chkTo_zero, Pl.orr_zero]; exact HSC.out
    · rw [Pl.chkTo_zero, Pl.orr_zero, Pl.extTo_zero]; exact HTL.out
  case round =>
    obtain ⟨i, hi, rfl, HR, HG⟩ := hrel
    have HBR : Hid (Below w0.heap.size w0 wr) := below_of_grown hBW hg0 HG.out
    by_cases hlt : i < F.len
    · obtain ⟨g1, off, rfl, _, hg1, hfo⟩ := HX.out (by omega)
      obtain ⟨sn, b, e, hget⟩ := F.get_some i hlt
      obtain ⟨ve, vb, vl, hst⟩ := hfo.get hget
      have hst' := hst.later HBR.out hg1
      obtain ⟨_, ⟨_, p8⟩, ⟨_, p9⟩, ⟨_, p10⟩⟩ := hst
      obtain ⟨⟨d0, d1, d2, d3, d4, d5, d6, d7⟩, ⟨d8, _⟩, ⟨d9, _⟩, ⟨d10, _⟩⟩ := hst'
      obtain ⟨s1, s2, s3⟩ := HM.out.get hget
      obtain ⟨V', C', hs', ht', hl'⟩ := HR.out
      have hkn := F.kn_succ i sn b e hget
      have hkl := F.kn_le (i + 1)
      have hq := hide (step_of sn b e d (form_get HF.out hget) (IH.out i sn b e hget).1 (IH.out i sn b e hget).2 s1 s2 s3 (Pl.extTo F i E) ve vb vl w0 wr g V' C' _ p8 p9 p10 hg0 HBR.out hs' ht' (by omega))
      have HC := hide (Pl.chkTo_succ F i E sn b e hget)
      have HE := hide (Pl.extTo_succ F i E sn b e hget)
      have HL' := hide hl'
      obtain ⟨_, _, rfl, _, _, _⟩ := p8
      obtain ⟨_, _, rfl, _, _, _⟩ := p9
      obtain ⟨_, _, rfl, _, _, _⟩ := p10
      clear hfo hget s1 s2 s3 hs' ht' hkn hkl hall hl' HR
      have hii : (i : Int) < (F.len : Int) := by omega
      go_wp2_with fail
      refine hq.out.mono ?_
      rintro e' w4 ⟨rfl, hg4, V4, C4, hs4, ht4, hl4⟩
      have HR4 : Hid (∃ V' C', ScAt w4 g V' C' (Pl.orr code (Pl.chkTo F (i + 1) E)) ∧ (Pl.orr code (Pl.chkTo F (i + 1) E) = 0 → Pl.Tells V' C' (Pl.extTo F (i + 1) E)) ∧ V'.length + C'.length ≤ V.length + C.length + (i + 1)) := by
        refine hide ⟨V4, C4, ?_, ?_, by have := HL'.out; omega⟩
        · rw [HC.out, ← Pl.orr_assoc]; exact hs4
        · rw [HC.out, ← Pl.orr_assoc, HE.out]; exact ht4
      have HG4 : Hid (W.grownBy w4 (some g)) := grown_trans HG.out hg4
      clear hq d0 d1 d2 d3 d4 d5 d6 d7 d8 d9 d10 hg4 hs4 ht4 hl4
      go_wp2
      go_roundw
      case rel => exact ⟨i + 1, by omega, by go_num, HR4, HG4⟩
      case measure => simp [intOf]; omega
    · have hie : i = F.len := by omega
      obtain ⟨V', C', hs', _, _⟩ := HR.out
      rw [hie, Pl.chkTo_all] at hs'
      obtain ⟨vv', vc', hbk, hvv', hvc', _, _⟩ := hs'
      have c0 := cell_of_block hbk 0
      have c1 := cell_of_block hbk 1
      have f0 := free_of_block hbk 0
      have f1 := free_of_block hbk 1
      simp only [List.getElem?_toArray, List.getElem?_cons_zero, List.getElem?_cons_succ] at c0 c1
      have HP := hide (ScAt.put2 hbk (HVV.out.grown HG.out (fun j hj e => hnv j hj (by cases e; rfl))) (HVC.out.grown HG.out (fun j hj e => hnc j hj (by cases e; rfl))) hnv hnc)
      obtain ⟨_, _, rfl, _⟩ := hvv'
      obtain ⟨_, _, rfl, _⟩ := hvc'
      clear hbk HR
      go_wp2
      go_end0
      exact ⟨rfl, grown_trans HG.out (grown_trans (grown_set _ _ _ _) (grown_set _ _ _ _)), HP.out⟩
theorem body_fuel : ∀ (n : Nat) (F : Ps), F.nodes ≤ n → BdP F
  | 0, F, h => body_of F fun i sn b e hk => by have := F.get_nodes i sn b e hk; omega
  | n + 1, F, h => body_of F fun i sn b e hk => ⟨body_fuel n b (by have := F.get_nodes i sn b e hk; omega), body_fuel n e (by have := F.get_nodes i sn b e hk; omega)⟩
theorem body_any (F : Ps) : BdP F := body_fuel F.nodes F (Nat.le_refl _)
end Go.Proofs.YtnikomgdcddchaaGreat

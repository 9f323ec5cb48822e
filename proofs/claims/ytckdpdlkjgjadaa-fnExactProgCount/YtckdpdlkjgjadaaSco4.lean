/- A step's names, as the specification looks at them. -/
import Derived.Test.YtckdpdlkjgjadaaPlCk2
import Derived.Test.YtckdpdlkjgjadaaPSz
namespace Go.Proofs.Ytckdpdlkjgjadaa
open Go.RowKit
set_option linter.unusedVariables false

theorem Box11.beside {b g : Nat} {sn : Sn} {ve vb vl : Value} {W W1 : World} (h : Box11 b sn ve vb vl W) (hB : W.grownBy W1 (some g)) (hne : b ≠ g) : Box11 b sn ve vb vl W1 := by
  obtain ⟨hb, ⟨h0, h1, h2, h3, h4, h5, h6, h7⟩, h8, h9, h10⟩ := h
  have C : ∀ o, W1.cell? ⟨b, o, none⟩ = W.cell? ⟨b, o, none⟩ := fun o => by
    have hk := hB.block b hb (fun e => hne (by cases e; rfl))
    simp only [World.cell?]
    rw [hk]
  exact ⟨by have := hB.size; omega, ⟨(C _).trans h0, (C _).trans h1, (C _).trans h2, (C _).trans h3, (C _).trans h4, (C _).trans h5, (C _).trans h6, (C _).trans h7⟩, (C _).trans h8, (C _).trans h9, (C _).trans h10⟩
/-- behind a step -/
def StQ (sn : Sn) (b l : Ps) (E : Pl.En) (V C : List (List UInt8)) (code : Int) (g : Nat) (W : World) (e : Ending) (w' : World) : Prop :=
  e = .returned (.tuple #[]) ∧ W.grownBy w' (some g) ∧ ∃ V' C', ScAt w' g V' C' (Pl.orr code (Pl.chkS sn b l E)) ∧ (Pl.orr code (Pl.chkS sn b l E) = 0 → Pl.Tells V' C' (Pl.ext sn E)) ∧ V'.length + C'.length ≤ V.length + C.length + 1
/-- steps within are looked at by these names -/
def BdQ (b : Ps) (E : Pl.En) (vb : Value) (g : Nat) (w0 : World) : Prop := ∀ (W : World) (V C : List (List UInt8)) (code : Int), Below w0.heap.size w0 W → ScAt W g V C code → (code = 0 → Pl.Tells V C E) → V.length + C.length + b.nodes ≤ 1000000 →
  Calls Try.prog 42 #[.pointer (some ⟨g, 0, none⟩), vb] W fun e w' => e = .returned (.tuple #[]) ∧ W.grownBy w' (some g) ∧ ScAt w' g V C (Pl.orr code (Pl.chkF b E))
theorem sv_of (s : ByteArray) : sv s.data.toList = .string s := by unfold sv; rw [Pl.bs_of]

set_option maxHeartbeats 3200000 in
set_option maxRecDepth 100000 in
theorem step_A (k : Int) (nm wh : ByteArray) (xk xvk xvn : Int) (xvt xnm : ByteArray) (ek : Fo) (b l : Ps) (E : Pl.En) (ve vb vl : Value) (w0 W : World) (g : Nat) (V C : List (List UInt8)) (code : Int) (hN : (Pl.namesN ⟨xk, xvk, xvn, xvt, xnm⟩ ek).length ≤ 1048576) (he1 : ek.len ≤ 1048576) (he2 : ek.Sm) (hre : RowAt 0 w0 ek ve) (hrb : PRow 0 w0 b vb) (hrl : PRow 0 w0 l vl)
    (hg0 : w0.heap.size ≤ g) (hBW : Below w0.heap.size w0 W) (hsc : ScAt W g V C code) (htl : code = 0 → Pl.Tells V C E) (hVC : V.length + C.length + (b.nodes + l.nodes) ≤ 1000000) (hb0 : b.len = 0) (hl0 : l.len = 0) (hk : k = 1 ∨ k = 5 ∨ k = 10) :
    Calls Try.prog 64 #[.pointer (some ⟨g, 0, none⟩), .agg #[.int .i64 k, .string nm, .string wh, .int .i64 xk, .int .i64 xvk, .int .i64 xvn, .string xvt, .string xnm, ve, vb, vl]] W (StQ ⟨k, nm, wh, ⟨xk, xvk, xvn, xvt, xnm⟩, ek⟩ b l E V C code g W) := by
  have HEQ : Hid (Pl.orr (Pl.orr code (Pl.lackC V (Pl.namesN ⟨xk, xvk, xvn, xvt, xnm⟩ ek))) (Pl.twiceC V C nm.data.toList) = Pl.orr code (Pl.chkS ⟨k, nm, wh, ⟨xk, xvk, xvn, xvt, xnm⟩, ek⟩ b l E)) := by
    show _ = _
    rw [Pl.orr_assoc, Pl.chk_flat hb0 hl0, Pl.own_make (by rcases hk with rfl | rfl | rfl <;> decide) (by rcases hk with rfl | rfl | rfl <;> decide) (by rcases hk with rfl | rfl | rfl <;> decide)]
    exact Pl.orr_congr fun h0 => by rw [Pl.lackC_eq (htl h0), Pl.twiceC_eq (htl h0)]
  have HTL : Hid (Pl.orr (Pl.orr code (Pl.lackC V (Pl.namesN ⟨xk, xvk, xvn, xvt, xnm⟩ ek))) (Pl.twiceC V C nm.data.toList) = 0 → Pl.Tells (V ++ [nm.data.toList]) C (Pl.ext ⟨k, nm, wh, ⟨xk, xvk, xvn, xvt, xnm⟩, ek⟩ E)) := by
    refine hide fun h => ?_
    have hm : Pl.mk k = 1 := by rcases hk with rfl | rfl | rfl <;> decide
    have he : Pl.ext ⟨k, nm, wh, ⟨xk, xvk, xvn, xvt, xnm⟩, ek⟩ E = (nm.data.toList, 1) :: E := by simp [Pl.ext, hm]
    obtain ⟨h1, h2⟩ := Pl.orr_eq_zero h
    have hc : code = 0 := (Pl.orr_eq_zero h1).1
    rw [Pl.twiceC_eq (htl hc)] at h2
    rw [he]
    exact Pl.tells_var (htl hc) _ (Pl.twiceE_zero h2)
  have hgw : g < W.heap.size := by
    obtain ⟨_, _, hbk, _⟩ := hsc
    exact (Array.getElem?_eq_some_iff.1 hbk).1
  have hqu : Hid (∀ W', Below w0.heap.size w0 W' → ScAt W' g V C code → Calls Try.prog 87 #[.pointer (some ⟨g, 0, none⟩), ndV ⟨xk, xvk, xvn, xvt, xnm⟩ ve] W' fun e w' => e = .returned (.tuple #[]) ∧ W'.grownBy w' (some g) ∧ ScAt w' g V C (Pl.orr code (Pl.lackC V (Pl.namesN ⟨xk, xvk, xvn, xvt, xnm⟩ ek)))) := fun W' hW hs => uses_any g V C code ⟨xk, xvk, xvn, xvt, xnm⟩ ek ve W' (by omega) he1 he2 hN (hre.later hW) hs
  have hqv : Hid (∀ W' c', ScAt W' g V C c' → Calls Try.prog 88 #[.pointer (some ⟨g, 0, none⟩), .string nm, .bool false] W' fun e w' => e = .returned (.tuple #[]) ∧ W'.grownBy w' (some g) ∧ ScAt w' g (V ++ [nm.data.toList]) C (Pl.orr c' (Pl.twiceC V C nm.data.toList))) := by
    refine hide fun W' c' hs => ?_
    have := fresh_var g V C c' nm.data.toList W' (by omega) (by omega) hs
    rwa [sv_of] at this
  have hqc : Hid (∀ W' c', ScAt W' g V C c' → Calls Try.prog 88 #[.pointer (some ⟨g, 0, none⟩), .string nm, .bool true] W' fun e w' => e = .returned (.tuple #[]) ∧ W'.grownBy w' (some g) ∧ ScAt w' g V (C ++ [nm.data.toList]) (Pl.orr c' (Pl.twiceC V C nm.data.toList))) := by
    refine hide fun W' c' hs => ?_
    have := fresh_call g V C c' nm.data.toList W' (by omega) (by omega) hs
    rwa [sv_of] at this
  have hqf : Hid (∀ W' c' n, ScAt W' g V C c' → Calls Try.prog 90 #[.pointer (some ⟨g, 0, none⟩), .int .i64 n] W' fun e w' => e = .returned (.tuple #[]) ∧ W'.grownBy w' (some g) ∧ ScAt w' g V C (Pl.orr c' n)) := fun W' c' n hs => fail_any g V C c' n W' hs
  have hqh : Hid (∀ W' L s vL, L.length ≤ 1000000 → TextsAt W' vL L → Calls Try.prog 89 #[vL, .string s] W' fun e w' => e = .returned (.bool (decide (s.data.toList ∈ L))) ∧ w' = W') := by
    refine hide fun W' L s vL hL ht => ?_
    have := l3Has_any L s.data.toList vL (by omega) W' ht
    rwa [sv_of] at this
  obtain ⟨ade, cape, rfl, _, _, _⟩ := hre
  obtain ⟨adb, capb, rfl, _, _, _⟩ := hrb
  obtain ⟨adl, capl, rfl, _, _, _⟩ := hrl
  have HX := hide (Box11.mk (sn := ⟨k, nm, wh, ⟨xk, xvk, xvn, xvt, xnm⟩, ek⟩) (ve := .slice ade ek.len cape) (vb := .slice adb b.len capb) (vl := .slice adl l.len capl) (T := 81) W)
  have HA : Hid (Below W.heap.size W (W.alloc (.cells #[.int .i64 k, .string nm, .string wh, .int .i64 xk, .int .i64 xvk, .int .i64 xvn, .string xvt, .string xnm, .slice ade ek.len cape, .slice adb b.len capb, .slice adl l.len capl] 81))) := (Below.refl _ _).alloc (Nat.le_refl _) _
  have HS0 := hide (hsc.later HA.out)
  have HB0 : Hid (Below w0.heap.size w0 (W.alloc (.cells #[.int .i64 k, .string nm, .string wh, .int .i64 xk, .int .i64 xvk, .int .i64 xvn, .string xvt, .string xnm, .slice ade ek.len cape, .slice adb b.len capb, .slice adl l.len capl] 81))) := hBW.trans (HA.out.mono hBW.size)
  have HG0 : Hid (W.grownBy (W.alloc (.cells #[.int .i64 k, .string nm, .string wh, .int .i64 xk, .int .i64 xvk, .int .i64 xvn, .string xvt, .string xnm, .slice ade ek.len cape, .slice adb b.len capb, .slice adl l.len capl] 81)) (some g)) := grown_below HA.out _
  have hng : W.heap.size ≠ g := by omega
  clear hsc hBW HA he2 hN
  clear hqc hqf hqh hb0 hl0
  rcases hk with rfl | rfl | rfl
  all_goals
    go_enter Try.func64, Try.ntmps64
    go_wp2_with fail
    refine (hqu.out _ HB0.out HS0.out).mono ?_
    rintro e w1 ⟨rfl, hg1, hs1⟩
    have HS1 := hide hs1
    have HG1 : Hid (W.grownBy w1 (some g)) := grown_trans HG0.out hg1
    have HB1 : Hid (Below w0.heap.size w0 w1) := below_of_grown HB0.out hg0 hg1
    have HX1 := hide (HX.out.beside hg1 hng)
    clear hg1 hs1 HS0 HG0 HB0 HX
    obtain ⟨_, ⟨x0, x1, x2, x3, x4, x5, x6, x7⟩, x8, x9, x10⟩ := HX1.out
    go_wp2_with fail
    refine (hqv.out _ _ HS1.out).mono ?_
    rintro e w2 ⟨rfl, hg2, hs2⟩
    have HS2 := hide hs2
    have HG2 : Hid (W.grownBy w2 (some g)) := grown_trans HG1.out hg2
    have HB2 : Hid (Below w0.heap.size w0 w2) := below_of_grown HB1.out hg0 hg2
    have HX2 := hide (HX1.out.beside hg2 hng)
    clear hg2 hs2 HS1 HG1 HB1 HX1
    clear x0 x1 x2 x3 x4 x5 x6 x7 x8 x9 x10
    go_wp2
    go_end0
    exact ⟨rfl, HG2.out, V ++ [nm.data.toList], C, by rw [← HEQ.out]; exact HS2.out, fun h => HTL.out (by rw [HEQ.out]; exact h), by simp; omega⟩

set_option maxHeartbeats 3200000 in
set_option maxRecDepth 100000 in
theorem step_S (k : Int) (nm wh : ByteArray) (xk xvk xvn : Int) (xvt xnm : ByteArray) (ek : Fo) (b l : Ps) (E : Pl.En) (ve vb vl : Value) (w0 W : World) (g : Nat) (V C : List (List UInt8)) (code : Int) (hN : (Pl.namesN ⟨xk, xvk, xvn, xvt, xnm⟩ ek).length ≤ 1048576) (he1 : ek.len ≤ 1048576) (he2 : ek.Sm) (hre : RowAt 0 w0 ek ve) (hrb : PRow 0 w0 b vb) (hrl : PRow 0 w0 l vl)
    (hg0 : w0.heap.size ≤ g) (hBW : Below w0.heap.size w0 W) (hsc : ScAt W g V C code) (htl : code = 0 → Pl.Tells V C E) (hVC : V.length + C.length + (b.nodes + l.nodes) ≤ 1000000) (hb0 : b.len = 0) (hl0 : l.len = 0) (hk : k = 2) :
    Calls Try.prog 64 #[.pointer (some ⟨g, 0, none⟩), .agg #[.int .i64 k, .string nm, .string wh, .int .i64 xk, .int .i64 xvk, .int .i64 xvn, .string xvt, .string xnm, ve, vb, vl]] W (StQ ⟨k, nm, wh, ⟨xk, xvk, xvn, xvt, xnm⟩, ek⟩ b l E V C code g W) := by
  have HEQ : Hid (Pl.orr (Pl.orr code (Pl.lackC V (Pl.namesN ⟨xk, xvk, xvn, xvt, xnm⟩ ek))) (if nm.data.toList ∈ V then 0 else 3) = Pl.orr code (Pl.chkS ⟨k, nm, wh, ⟨xk, xvk, xvn, xvt, xnm⟩, ek⟩ b l E)) := by
    show _ = _
    subst hk
    rw [Pl.orr_assoc, Pl.chk_flat hb0 hl0, Pl.own_set]
    refine Pl.orr_congr fun h0 => ?_
    rw [Pl.lackC_eq (htl h0)]
    congr 1
    by_cases hm : nm.data.toList ∈ V
    · rw [if_pos hm, if_pos ((htl h0 _).1.1 hm)]
    · rw [if_neg hm, if_neg (fun h => hm ((htl h0 _).1.2 h))]
  have HTL : Hid (Pl.orr (Pl.orr code (Pl.lackC V (Pl.namesN ⟨xk, xvk, xvn, xvt, xnm⟩ ek))) (if nm.data.toList ∈ V then 0 else 3) = 0 → Pl.Tells V C (Pl.ext ⟨k, nm, wh, ⟨xk, xvk, xvn, xvt, xnm⟩, ek⟩ E)) := by
    refine hide fun h => ?_
    have hm : Pl.mk k = 0 := by rcases hk with rfl <;> decide
    have he : Pl.ext ⟨k, nm, wh, ⟨xk, xvk, xvn, xvt, xnm⟩, ek⟩ E = E := by simp [Pl.ext, hm]
    rw [he]
    exact htl (Pl.orr_eq_zero (Pl.orr_eq_zero h).1).1
  have hgw : g < W.heap.size := by
    obtain ⟨_, _, hbk, _⟩ := hsc
    exact (Array.getElem?_eq_some_iff.1 hbk).1
  have hqu : Hid (∀ W', Below w0.heap.size w0 W' → ScAt W' g V C code → Calls Try.prog 87 #[.pointer (some ⟨g, 0, none⟩), ndV ⟨xk, xvk, xvn, xvt, xnm⟩ ve] W' fun e w' => e = .returned (.tuple #[]) ∧ W'.grownBy w' (some g) ∧ ScAt w' g V C (Pl.orr code (Pl.lackC V (Pl.namesN ⟨xk, xvk, xvn, xvt, xnm⟩ ek)))) := fun W' hW hs => uses_any g V C code ⟨xk, xvk, xvn, xvt, xnm⟩ ek ve W' (by omega) he1 he2 hN (hre.later hW) hs
  have hqv : Hid (∀ W' c', ScAt W' g V C c' → Calls Try.prog 88 #[.pointer (some ⟨g, 0, none⟩), .string nm, .bool false] W' fun e w' => e = .returned (.tuple #[]) ∧ W'.grownBy w' (some g) ∧ ScAt w' g (V ++ [nm.data.toList]) C (Pl.orr c' (Pl.twiceC V C nm.data.toList))) := by
    refine hide fun W' c' hs => ?_
    have := fresh_var g V C c' nm.data.toList W' (by omega) (by omega) hs
    rwa [sv_of] at this
  have hqc : Hid (∀ W' c', ScAt W' g V C c' → Calls Try.prog 88 #[.pointer (some ⟨g, 0, none⟩), .string nm, .bool true] W' fun e w' => e = .returned (.tuple #[]) ∧ W'.grownBy w' (some g) ∧ ScAt w' g V (C ++ [nm.data.toList]) (Pl.orr c' (Pl.twiceC V C nm.data.toList))) := by
    refine hide fun W' c' hs => ?_
    have := fresh_call g V C c' nm.data.toList W' (by omega) (by omega) hs
    rwa [sv_of] at this
  have hqf : Hid (∀ W' c' n, ScAt W' g V C c' → Calls Try.prog 90 #[.pointer (some ⟨g, 0, none⟩), .int .i64 n] W' fun e w' => e = .returned (.tuple #[]) ∧ W'.grownBy w' (some g) ∧ ScAt w' g V C (Pl.orr c' n)) := fun W' c' n hs => fail_any g V C c' n W' hs
  have hqh : Hid (∀ W' L s vL, L.length ≤ 1000000 → TextsAt W' vL L → Calls Try.prog 89 #[vL, .string s] W' fun e w' => e = .returned (.bool (decide (s.data.toList ∈ L))) ∧ w' = W') := by
    refine hide fun W' L s vL hL ht => ?_
    have := l3Has_any L s.data.toList vL (by omega) W' ht
    rwa [sv_of] at this
  obtain ⟨ade, cape, rfl, _, _, _⟩ := hre
  obtain ⟨adb, capb, rfl, _, _, _⟩ := hrb
  obtain ⟨adl, capl, rfl, _, _, _⟩ := hrl
  have HX := hide (Box11.mk (sn := ⟨k, nm, wh, ⟨xk, xvk, xvn, xvt, xnm⟩, ek⟩) (ve := .slice ade ek.len cape) (vb := .slice adb b.len capb) (vl := .slice adl l.len capl) (T := 81) W)
  have HA : Hid (Below W.heap.size W (W.alloc (.cells #[.int .i64 k, .string nm, .string wh, .int .i64 xk, .int .i64 xvk, .int .i64 xvn, .string xvt, .string xnm, .slice ade ek.len cape, .slice adb b.len capb, .slice adl l.len capl] 81))) := (Below.refl _ _).alloc (Nat.le_refl _) _
  have HS0 := hide (hsc.later HA.out)
  have HB0 : Hid (Below w0.heap.size w0 (W.alloc (.cells #[.int .i64 k, .string nm, .string wh, .int .i64 xk, .int .i64 xvk, .int .i64 xvn, .string xvt, .string xnm, .slice ade ek.len cape, .slice adb b.len capb, .slice adl l.len capl] 81))) := hBW.trans (HA.out.mono hBW.size)
  have HG0 : Hid (W.grownBy (W.alloc (.cells #[.int .i64 k, .string nm, .string wh, .int .i64 xk, .int .i64 xvk, .int .i64 xvn, .string xvt, .string xnm, .slice ade ek.len cape, .slice adb b.len capb, .slice adl l.len capl] 81)) (some g)) := grown_below HA.out _
  have hng : W.heap.size ≠ g := by omega
  clear hsc hBW HA he2 hN
  clear hqv hqc hb0 hl0
  subst hk
  go_enter Try.func64, Try.ntmps64
  go_wp2_with fail
  refine (hqu.out _ HB0.out HS0.out).mono ?_
  rintro e w1 ⟨rfl, hg1, hs1⟩
  have HS1 := hide hs1
  have HG1 : Hid (W.grownBy w1 (some g)) := grown_trans HG0.out hg1
  have HB1 : Hid (Below w0.heap.size w0 w1) := below_of_grown HB0.out hg0 hg1
  have HX1 := hide (HX.out.beside hg1 hng)
  clear hg1 hs1 HS0 HG0 HB0 HX
  obtain ⟨_, ⟨x0, x1, x2, x3, x4, x5, x6, x7⟩, x8, x9, x10⟩ := HX1.out
  obtain ⟨vv, vc, hbk, hvv, hvc, _, _⟩ := HS1.out
  have cl := cell_of_block hbk 0
  simp only [List.getElem?_toArray, List.getElem?_cons_zero] at cl
  have HVL := hide hvv
  have hh : Hid (∀ W', TextsAt W' _ V → Calls Try.prog 89 #[vv, .string nm] W' fun e w' => e = .returned (.bool (decide (nm.data.toList ∈ V))) ∧ w' = W') := hide fun W' ht => hqh.out W' V nm _ (by omega) ht
  obtain ⟨av, cpv, rfl, _⟩ := hvv
  obtain ⟨ac, cpc, rfl, _⟩ := hvc
  clear hbk
  go_wp2_with fail
  go_region_with (go_at_call 89; refine (hh.out _ (HVL.out.later (by first | exact (Below.refl _ _).drew | exact below_drewN (Below.refl _ _) _))).mono ?_; rintro e wq ⟨rfl, rfl⟩)
  all_goals
    have HSd := hide (HS1.out.later (Below.refl _ _).drew)
    have HGd := hide (grown_trans HG1.out (grown_below (Below.refl _ _).drew _))
    have HXd := hide (HX1.out.later (Below.refl _ _).drew)
    clear hh hqh
    obtain ⟨_, ⟨z0, z1, z2, z3, z4, z5, z6, z7⟩, z8, z9, z10⟩ := HXd.out
    by_cases hin : nm.data.toList ∈ V
    · rw [if_pos hin] at HEQ HTL
      rw [decide_eq_true hin]
      rw [Pl.orr_zero] at HEQ HTL
      clear hin
      go_wp2
      go_end0
      exact ⟨rfl, HGd.out, V, C, by rw [← HEQ.out]; exact HSd.out, fun h => HTL.out (by rw [HEQ.out]; exact h), by omega⟩
    · rw [if_neg hin] at HEQ HTL
      rw [decide_eq_false hin]
      clear hin
      go_wp2_with fail
      refine (hqf.out _ _ _ HSd.out).mono ?_
      rintro e w9 ⟨rfl, hg9, hs9⟩
      have HS9 := hide hs9
      have HG9 : Hid (W.grownBy w9 (some g)) := grown_trans HGd.out hg9
      clear hg9 hs9 cl z0 z1 z2 z3 z4 z5 z6 z7 z8 z9 z10 x0 x1 x2 x3 x4 x5 x6 x7 x8 x9 x10
      go_wp2
      go_end0
      exact ⟨rfl, HG9.out, V, C, by rw [← HEQ.out]; exact HS9.out, fun h => HTL.out (by rw [HEQ.out]; exact h), by omega⟩

set_option maxHeartbeats 3200000 in
set_option maxRecDepth 100000 in
theorem step_I (k : Int) (nm wh : ByteArray) (xk xvk xvn : Int) (xvt xnm : ByteArray) (ek : Fo) (b l : Ps) (E : Pl.En) (ve vb vl : Value) (w0 W : World) (g : Nat) (V C : List (List UInt8)) (code : Int) (hN : (Pl.namesN ⟨xk, xvk, xvn, xvt, xnm⟩ ek).length ≤ 1048576) (he1 : ek.len ≤ 1048576) (he2 : ek.Sm) (hre : RowAt 0 w0 ek ve) (hrb : PRow 0 w0 b vb) (hrl : PRow 0 w0 l vl)
    (hg0 : w0.heap.size ≤ g) (hBW : Below w0.heap.size w0 W) (hsc : ScAt W g V C code) (htl : code = 0 → Pl.Tells V C E) (hVC : V.length + C.length + (b.nodes + l.nodes) ≤ 1000000) (hbb : BdQ b E vb g w0) (hbl : BdQ l E vl g w0) (hk : k = 3) :
    Calls Try.prog 64 #[.pointer (some ⟨g, 0, none⟩), .agg #[.int .i64 k, .string nm, .string wh, .int .i64 xk, .int .i64 xvk, .int .i64 xvn, .string xvt, .string xnm, ve, vb, vl]] W (StQ ⟨k, nm, wh, ⟨xk, xvk, xvn, xvt, xnm⟩, ek⟩ b l E V C code g W) := by
  have HEQ : Hid (Pl.orr (Pl.orr (Pl.orr code (Pl.lackC V (Pl.namesN ⟨xk, xvk, xvn, xvt, xnm⟩ ek))) (Pl.chkF b E)) (Pl.chkF l E) = Pl.orr code (Pl.chkS ⟨k, nm, wh, ⟨xk, xvk, xvn, xvt, xnm⟩, ek⟩ b l E)) := by
    show _ = _
    subst hk
    rw [Pl.orr_assoc, Pl.orr_assoc]
    refine Pl.orr_congr fun h0 => ?_
    unfold Pl.chkS
    rw [Pl.own_bare (by decide) (by decide) (by decide), Pl.lackC_eq (htl h0)]
    rfl
  have HTL : Hid (Pl.orr (Pl.orr (Pl.orr code (Pl.lackC V (Pl.namesN ⟨xk, xvk, xvn, xvt, xnm⟩ ek))) (Pl.chkF b E)) (Pl.chkF l E) = 0 → Pl.Tells V C (Pl.ext ⟨k, nm, wh, ⟨xk, xvk, xvn, xvt, xnm⟩, ek⟩ E)) := by
    refine hide fun h => ?_
    have hm : Pl.mk k = 0 := by rcases hk with rfl <;> decide
    have he : Pl.ext ⟨k, nm, wh, ⟨xk, xvk, xvn, xvt, xnm⟩, ek⟩ E = E := by simp [Pl.ext, hm]
    rw [he]
    exact htl (Pl.orr_eq_zero (Pl.orr_eq_zero (Pl.orr_eq_zero h).1).1).1
  have hgw : g < W.heap.size := by
    obtain ⟨_, _, hbk, _⟩ := hsc
    exact (Array.getElem?_eq_some_iff.1 hbk).1
  have hqu : Hid (∀ W', Below w0.heap.size w0 W' → ScAt W' g V C code → Calls Try.prog 87 #[.pointer (some ⟨g, 0, none⟩), ndV ⟨xk, xvk, xvn, xvt, xnm⟩ ve] W' fun e w' => e = .returned (.tuple #[]) ∧ W'.grownBy w' (some g) ∧ ScAt w' g V C (Pl.orr code (Pl.lackC V (Pl.namesN ⟨xk, xvk, xvn, xvt, xnm⟩ ek)))) := fun W' hW hs => uses_any g V C code ⟨xk, xvk, xvn, xvt, xnm⟩ ek ve W' (by omega) he1 he2 hN (hre.later hW) hs
  have hqv : Hid (∀ W' c', ScAt W' g V C c' → Calls Try.prog 88 #[.pointer (some ⟨g, 0, none⟩), .string nm, .bool false] W' fun e w' => e = .returned (.tuple #[]) ∧ W'.grownBy w' (some g) ∧ ScAt w' g (V ++ [nm.data.toList]) C (Pl.orr c' (Pl.twiceC V C nm.data.toList))) := by
    refine hide fun W' c' hs => ?_
    have := fresh_var g V C c' nm.data.toList W' (by omega) (by omega) hs
    rwa [sv_of] at this
  have hqc : Hid (∀ W' c', ScAt W' g V C c' → Calls Try.prog 88 #[.pointer (some ⟨g, 0, none⟩), .string nm, .bool true] W' fun e w' => e = .returned (.tuple #[]) ∧ W'.grownBy w' (some g) ∧ ScAt w' g V (C ++ [nm.data.toList]) (Pl.orr c' (Pl.twiceC V C nm.data.toList))) := by
    refine hide fun W' c' hs => ?_
    have := fresh_call g V C c' nm.data.toList W' (by omega) (by omega) hs
    rwa [sv_of] at this
  have hqf : Hid (∀ W' c' n, ScAt W' g V C c' → Calls Try.prog 90 #[.pointer (some ⟨g, 0, none⟩), .int .i64 n] W' fun e w' => e = .returned (.tuple #[]) ∧ W'.grownBy w' (some g) ∧ ScAt w' g V C (Pl.orr c' n)) := fun W' c' n hs => fail_any g V C c' n W' hs
  have hqh : Hid (∀ W' L s vL, L.length ≤ 1000000 → TextsAt W' vL L → Calls Try.prog 89 #[vL, .string s] W' fun e w' => e = .returned (.bool (decide (s.data.toList ∈ L))) ∧ w' = W') := by
    refine hide fun W' L s vL hL ht => ?_
    have := l3Has_any L s.data.toList vL (by omega) W' ht
    rwa [sv_of] at this
  obtain ⟨ade, cape, rfl, _, _, _⟩ := hre
  obtain ⟨adb, capb, rfl, _, _, _⟩ := hrb
  obtain ⟨adl, capl, rfl, _, _, _⟩ := hrl
  have HX := hide (Box11.mk (sn := ⟨k, nm, wh, ⟨xk, xvk, xvn, xvt, xnm⟩, ek⟩) (ve := .slice ade ek.len cape) (vb := .slice adb b.len capb) (vl := .slice adl l.len capl) (T := 81) W)
  have HA : Hid (Below W.heap.size W (W.alloc (.cells #[.int .i64 k, .string nm, .string wh, .int .i64 xk, .int .i64 xvk, .int .i64 xvn, .string xvt, .string xnm, .slice ade ek.len cape, .slice adb b.len capb, .slice adl l.len capl] 81))) := (Below.refl _ _).alloc (Nat.le_refl _) _
  have HS0 := hide (hsc.later HA.out)
  have HB0 : Hid (Below w0.heap.size w0 (W.alloc (.cells #[.int .i64 k, .string nm, .string wh, .int .i64 xk, .int .i64 xvk, .int .i64 xvn, .string xvt, .string xnm, .slice ade ek.len cape, .slice adb b.len capb, .slice adl l.len capl] 81))) := hBW.trans (HA.out.mono hBW.size)
  have HG0 : Hid (W.grownBy (W.alloc (.cells #[.int .i64 k, .string nm, .string wh, .int .i64 xk, .int .i64 xvk, .int .i64 xvn, .string xvt, .string xnm, .slice ade ek.len cape, .slice adb b.len capb, .slice adl l.len capl] 81)) (some g)) := grown_below HA.out _
  have hng : W.heap.size ≠ g := by omega
  clear hsc hBW HA he2 hN
  clear hqv hqc hqf hqh
  subst hk
  go_enter Try.func64, Try.ntmps64
  go_wp2_with fail
  refine (hqu.out _ HB0.out HS0.out).mono ?_
  rintro e w1 ⟨rfl, hg1, hs1⟩
  have HS1 := hide hs1
  have HG1 : Hid (W.grownBy w1 (some g)) := grown_trans HG0.out hg1
  have HB1 : Hid (Below w0.heap.size w0 w1) := below_of_grown HB0.out hg0 hg1
  have HX1 := hide (HX.out.beside hg1 hng)
  clear hg1 hs1 HS0 HG0 HB0 HX
  obtain ⟨_, ⟨x0, x1, x2, x3, x4, x5, x6, x7⟩, x8, x9, x10⟩ := HX1.out
  go_wp2_with fail
  refine (hbb _ _ _ _ HB1.out HS1.out (fun h => htl (Pl.orr_eq_zero h).1) (by omega)).mono ?_
  rintro e w2 ⟨rfl, hg2, hs2⟩
  have HS2 := hide hs2
  have HG2 : Hid (W.grownBy w2 (some g)) := grown_trans HG1.out hg2
  have HB2 : Hid (Below w0.heap.size w0 w2) := below_of_grown HB1.out hg0 hg2
  have HX2 := hide (HX1.out.beside hg2 hng)
  clear hg2 hs2 HS1 HG1 HB1 HX1
  clear x0 x1 x2 x3 x4 x5 x6 x7 x8 x9 x10
  obtain ⟨_, ⟨x0, x1, x2, x3, x4, x5, x6, x7⟩, x8, x9, x10⟩ := HX2.out
  go_wp2_with fail
  refine (hbl _ _ _ _ HB2.out HS2.out (fun h => htl (Pl.orr_eq_zero (Pl.orr_eq_zero h).1).1) (by omega)).mono ?_
  rintro e w3 ⟨rfl, hg3, hs3⟩
  have HS3 := hide hs3
  have HG3 : Hid (W.grownBy w3 (some g)) := grown_trans HG2.out hg3
  have HB3 : Hid (Below w0.heap.size w0 w3) := below_of_grown HB2.out hg0 hg3
  have HX3 := hide (HX2.out.beside hg3 hng)
  clear hg3 hs3 HS2 HG2 HB2 HX2
  clear x0 x1 x2 x3 x4 x5 x6 x7 x8 x9 x10
  go_wp2
  go_end0
  exact ⟨rfl, HG3.out, V, C, by rw [← HEQ.out]; exact HS3.out, fun h => HTL.out (by rw [HEQ.out]; exact h), by omega⟩

set_option maxHeartbeats 3200000 in
set_option maxRecDepth 100000 in
theorem step_W (k : Int) (nm wh : ByteArray) (xk xvk xvn : Int) (xvt xnm : ByteArray) (ek : Fo) (b l : Ps) (E : Pl.En) (ve vb vl : Value) (w0 W : World) (g : Nat) (V C : List (List UInt8)) (code : Int) (hN : (Pl.namesN ⟨xk, xvk, xvn, xvt, xnm⟩ ek).length ≤ 1048576) (he1 : ek.len ≤ 1048576) (he2 : ek.Sm) (hre : RowAt 0 w0 ek ve) (hrb : PRow 0 w0 b vb) (hrl : PRow 0 w0 l vl)
    (hg0 : w0.heap.size ≤ g) (hBW : Below w0.heap.size w0 W) (hsc : ScAt W g V C code) (htl : code = 0 → Pl.Tells V C E) (hVC : V.length + C.length + (b.nodes + l.nodes) ≤ 1000000) (hbb : BdQ b E vb g w0) (hl0 : l.len = 0) (hk : k = 4) :
    Calls Try.prog 64 #[.pointer (some ⟨g, 0, none⟩), .agg #[.int .i64 k, .string nm, .string wh, .int .i64 xk, .int .i64 xvk, .int .i64 xvn, .string xvt, .string xnm, ve, vb, vl]] W (StQ ⟨k, nm, wh, ⟨xk, xvk, xvn, xvt, xnm⟩, ek⟩ b l E V C code g W) := by
  have HEQ : Hid (Pl.orr (Pl.orr code (Pl.lackC V (Pl.namesN ⟨xk, xvk, xvn, xvt, xnm⟩ ek))) (Pl.chkF b E) = Pl.orr code (Pl.chkS ⟨k, nm, wh, ⟨xk, xvk, xvn, xvt, xnm⟩, ek⟩ b l E)) := by
    show _ = _
    subst hk
    rw [Pl.orr_assoc]
    refine Pl.orr_congr fun h0 => ?_
    rw [Pl.len_nil hl0]
    unfold Pl.chkS
    rw [Pl.own_bare (by decide) (by decide) (by decide), Pl.lackC_eq (htl h0)]
    simp only [Pl.chkF, Pl.orr_zero]
    rfl
  have HTL : Hid (Pl.orr (Pl.orr code (Pl.lackC V (Pl.namesN ⟨xk, xvk, xvn, xvt, xnm⟩ ek))) (Pl.chkF b E) = 0 → Pl.Tells V C (Pl.ext ⟨k, nm, wh, ⟨xk, xvk, xvn, xvt, xnm⟩, ek⟩ E)) := by
    refine hide fun h => ?_
    have hm : Pl.mk k = 0 := by rcases hk with rfl <;> decide
    have he : Pl.ext ⟨k, nm, wh, ⟨xk, xvk, xvn, xvt, xnm⟩, ek⟩ E = E := by simp [Pl.ext, hm]
    rw [he]
    exact htl (Pl.orr_eq_zero (Pl.orr_eq_zero h).1).1
  have hgw : g < W.heap.size := by
    obtain ⟨_, _, hbk, _⟩ := hsc
    exact (Array.getElem?_eq_some_iff.1 hbk).1
  have hqu : Hid (∀ W', Below w0.heap.size w0 W' → ScAt W' g V C code → Calls Try.prog 87 #[.pointer (some ⟨g, 0, none⟩), ndV ⟨xk, xvk, xvn, xvt, xnm⟩ ve] W' fun e w' => e = .returned (.tuple #[]) ∧ W'.grownBy w' (some g) ∧ ScAt w' g V C (Pl.orr code (Pl.lackC V (Pl.namesN ⟨xk, xvk, xvn, xvt, xnm⟩ ek)))) := fun W' hW hs => uses_any g V C code ⟨xk, xvk, xvn, xvt, xnm⟩ ek ve W' (by omega) he1 he2 hN (hre.later hW) hs
  have hqv : Hid (∀ W' c', ScAt W' g V C c' → Calls Try.prog 88 #[.pointer (some ⟨g, 0, none⟩), .string nm, .bool false] W' fun e w' => e = .returned (.tuple #[]) ∧ W'.grownBy w' (some g) ∧ ScAt w' g (V ++ [nm.data.toList]) C (Pl.orr c' (Pl.twiceC V C nm.data.toList))) := by
    refine hide fun W' c' hs => ?_
    have := fresh_var g V C c' nm.data.toList W' (by omega) (by omega) hs
    rwa [sv_of] at this
  have hqc : Hid (∀ W' c', ScAt W' g V C c' → Calls Try.prog 88 #[.pointer (some ⟨g, 0, none⟩), .string nm, .bool true] W' fun e w' => e = .returned (.tuple #[]) ∧ W'.grownBy w' (some g) ∧ ScAt w' g V (C ++ [nm.data.toList]) (Pl.orr c' (Pl.twiceC V C nm.data.toList))) := by
    refine hide fun W' c' hs => ?_
    have := fresh_call g V C c' nm.data.toList W' (by omega) (by omega) hs
    rwa [sv_of] at this
  have hqf : Hid (∀ W' c' n, ScAt W' g V C c' → Calls Try.prog 90 #[.pointer (some ⟨g, 0, none⟩), .int .i64 n] W' fun e w' => e = .returned (.tuple #[]) ∧ W'.grownBy w' (some g) ∧ ScAt w' g V C (Pl.orr c' n)) := fun W' c' n hs => fail_any g V C c' n W' hs
  have hqh : Hid (∀ W' L s vL, L.length ≤ 1000000 → TextsAt W' vL L → Calls Try.prog 89 #[vL, .string s] W' fun e w' => e = .returned (.bool (decide (s.data.toList ∈ L))) ∧ w' = W') := by
    refine hide fun W' L s vL hL ht => ?_
    have := l3Has_any L s.data.toList vL (by omega) W' ht
    rwa [sv_of] at this
  obtain ⟨ade, cape, rfl, _, _, _⟩ := hre
  obtain ⟨adb, capb, rfl, _, _, _⟩ := hrb
  obtain ⟨adl, capl, rfl, _, _, _⟩ := hrl
  have HX := hide (Box11.mk (sn := ⟨k, nm, wh, ⟨xk, xvk, xvn, xvt, xnm⟩, ek⟩) (ve := .slice ade ek.len cape) (vb := .slice adb b.len capb) (vl := .slice adl l.len capl) (T := 81) W)
  have HA : Hid (Below W.heap.size W (W.alloc (.cells #[.int .i64 k, .string nm, .string wh, .int .i64 xk, .int .i64 xvk, .int .i64 xvn, .string xvt, .string xnm, .slice ade ek.len cape, .slice adb b.len capb, .slice adl l.len capl] 81))) := (Below.refl _ _).alloc (Nat.le_refl _) _
  have HS0 := hide (hsc.later HA.out)
  have HB0 : Hid (Below w0.heap.size w0 (W.alloc (.cells #[.int .i64 k, .string nm, .string wh, .int .i64 xk, .int .i64 xvk, .int .i64 xvn, .string xvt, .string xnm, .slice ade ek.len cape, .slice adb b.len capb, .slice adl l.len capl] 81))) := hBW.trans (HA.out.mono hBW.size)
  have HG0 : Hid (W.grownBy (W.alloc (.cells #[.int .i64 k, .string nm, .string wh, .int .i64 xk, .int .i64 xvk, .int .i64 xvn, .string xvt, .string xnm, .slice ade ek.len cape, .slice adb b.len capb, .slice adl l.len capl] 81)) (some g)) := grown_below HA.out _
  have hng : W.heap.size ≠ g := by omega
  clear hsc hBW HA he2 hN
  clear hqv hqc hqf hqh hl0
  subst hk
  go_enter Try.func64, Try.ntmps64
  go_wp2_with fail
  refine (hqu.out _ HB0.out HS0.out).mono ?_
  rintro e w1 ⟨rfl, hg1, hs1⟩
  have HS1 := hide hs1
  have HG1 : Hid (W.grownBy w1 (some g)) := grown_trans HG0.out hg1
  have HB1 : Hid (Below w0.heap.size w0 w1) := below_of_grown HB0.out hg0 hg1
  have HX1 := hide (HX.out.beside hg1 hng)
  clear hg1 hs1 HS0 HG0 HB0 HX
  obtain ⟨_, ⟨x0, x1, x2, x3, x4, x5, x6, x7⟩, x8, x9, x10⟩ := HX1.out
  go_wp2_with fail
  refine (hbb _ _ _ _ HB1.out HS1.out (fun h => htl (Pl.orr_eq_zero h).1) (by omega)).mono ?_
  rintro e w2 ⟨rfl, hg2, hs2⟩
  have HS2 := hide hs2
  have HG2 : Hid (W.grownBy w2 (some g)) := grown_trans HG1.out hg2
  have HB2 : Hid (Below w0.heap.size w0 w2) := below_of_grown HB1.out hg0 hg2
  have HX2 := hide (HX1.out.beside hg2 hng)
  clear hg2 hs2 HS1 HG1 HB1 HX1
  clear x0 x1 x2 x3 x4 x5 x6 x7 x8 x9 x10
  go_wp2
  go_end0
  exact ⟨rfl, HG2.out, V, C, by rw [← HEQ.out]; exact HS2.out, fun h => HTL.out (by rw [HEQ.out]; exact h), by omega⟩

set_option maxHeartbeats 3200000 in
set_option maxRecDepth 100000 in
theorem step_G (k : Int) (nm wh : ByteArray) (xk xvk xvn : Int) (xvt xnm : ByteArray) (ek : Fo) (b l : Ps) (E : Pl.En) (ve vb vl : Value) (w0 W : World) (g : Nat) (V C : List (List UInt8)) (code : Int) (hN : (Pl.namesN ⟨xk, xvk, xvn, xvt, xnm⟩ ek).length ≤ 1048576) (he1 : ek.len ≤ 1048576) (he2 : ek.Sm) (hre : RowAt 0 w0 ek ve) (hrb : PRow 0 w0 b vb) (hrl : PRow 0 w0 l vl)
    (hg0 : w0.heap.size ≤ g) (hBW : Below w0.heap.size w0 W) (hsc : ScAt W g V C code) (htl : code = 0 → Pl.Tells V C E) (hVC : V.length + C.length + (b.nodes + l.nodes) ≤ 1000000) (hb0 : b.len = 0) (hl0 : l.len = 0) (hk : k = 6) :
    Calls Try.prog 64 #[.pointer (some ⟨g, 0, none⟩), .agg #[.int .i64 k, .string nm, .string wh, .int .i64 xk, .int .i64 xvk, .int .i64 xvn, .string xvt, .string xnm, ve, vb, vl]] W (StQ ⟨k, nm, wh, ⟨xk, xvk, xvn, xvt, xnm⟩, ek⟩ b l E V C code g W) := by
  have HEQ : Hid (Pl.orr (Pl.orr code (Pl.lackC V (Pl.namesN ⟨xk, xvk, xvn, xvt, xnm⟩ ek))) (Pl.twiceC V C nm.data.toList) = Pl.orr code (Pl.chkS ⟨k, nm, wh, ⟨xk, xvk, xvn, xvt, xnm⟩, ek⟩ b l E)) := by
    show _ = _
    rw [Pl.orr_assoc, Pl.chk_flat hb0 hl0, Pl.own_make (by rcases hk with rfl <;> decide) (by rcases hk with rfl <;> decide) (by rcases hk with rfl <;> decide)]
    exact Pl.orr_congr fun h0 => by rw [Pl.lackC_eq (htl h0), Pl.twiceC_eq (htl h0)]
  have HTL : Hid (Pl.orr (Pl.orr code (Pl.lackC V (Pl.namesN ⟨xk, xvk, xvn, xvt, xnm⟩ ek))) (Pl.twiceC V C nm.data.toList) = 0 → Pl.Tells V (C ++ [nm.data.toList]) (Pl.ext ⟨k, nm, wh, ⟨xk, xvk, xvn, xvt, xnm⟩, ek⟩ E)) := by
    refine hide fun h => ?_
    have hm : Pl.mk k = 2 := by rcases hk with rfl <;> decide
    have he : Pl.ext ⟨k, nm, wh, ⟨xk, xvk, xvn, xvt, xnm⟩, ek⟩ E = (nm.data.toList, 2) :: E := by simp [Pl.ext, hm]
    obtain ⟨h1, h2⟩ := Pl.orr_eq_zero h
    have hc : code = 0 := (Pl.orr_eq_zero h1).1
    rw [Pl.twiceC_eq (htl hc)] at h2
    rw [he]
    exact Pl.tells_call (htl hc) _ (Pl.twiceE_zero h2)
  have hgw : g < W.heap.size := by
    obtain ⟨_, _, hbk, _⟩ := hsc
    exact (Array.getElem?_eq_some_iff.1 hbk).1
  have hqu : Hid (∀ W', Below w0.heap.size w0 W' → ScAt W' g V C code → Calls Try.prog 87 #[.pointer (some ⟨g, 0, none⟩), ndV ⟨xk, xvk, xvn, xvt, xnm⟩ ve] W' fun e w' => e = .returned (.tuple #[]) ∧ W'.grownBy w' (some g) ∧ ScAt w' g V C (Pl.orr code (Pl.lackC V (Pl.namesN ⟨xk, xvk, xvn, xvt, xnm⟩ ek)))) := fun W' hW hs => uses_any g V C code ⟨xk, xvk, xvn, xvt, xnm⟩ ek ve W' (by omega) he1 he2 hN (hre.later hW) hs
  have hqv : Hid (∀ W' c', ScAt W' g V C c' → Calls Try.prog 88 #[.pointer (some ⟨g, 0, none⟩), .string nm, .bool false] W' fun e w' => e = .returned (.tuple #[]) ∧ W'.grownBy w' (some g) ∧ ScAt w' g (V ++ [nm.data.toList]) C (Pl.orr c' (Pl.twiceC V C nm.data.toList))) := by
    refine hide fun W' c' hs => ?_
    have := fresh_var g V C c' nm.data.toList W' (by omega) (by omega) hs
    rwa [sv_of] at this
  have hqc : Hid (∀ W' c', ScAt W' g V C c' → Calls Try.prog 88 #[.pointer (some ⟨g, 0, none⟩), .string nm, .bool true] W' fun e w' => e = .returned (.tuple #[]) ∧ W'.grownBy w' (some g) ∧ ScAt w' g V (C ++ [nm.data.toList]) (Pl.orr c' (Pl.twiceC V C nm.data.toList))) := by
    refine hide fun W' c' hs => ?_
    have := fresh_call g V C c' nm.data.toList W' (by omega) (by omega) hs
    rwa [sv_of] at this
  have hqf : Hid (∀ W' c' n, ScAt W' g V C c' → Calls Try.prog 90 #[.pointer (some ⟨g, 0, none⟩), .int .i64 n] W' fun e w' => e = .returned (.tuple #[]) ∧ W'.grownBy w' (some g) ∧ ScAt w' g V C (Pl.orr c' n)) := fun W' c' n hs => fail_any g V C c' n W' hs
  have hqh : Hid (∀ W' L s vL, L.length ≤ 1000000 → TextsAt W' vL L → Calls Try.prog 89 #[vL, .string s] W' fun e w' => e = .returned (.bool (decide (s.data.toList ∈ L))) ∧ w' = W') := by
    refine hide fun W' L s vL hL ht => ?_
    have := l3Has_any L s.data.toList vL (by omega) W' ht
    rwa [sv_of] at this
  obtain ⟨ade, cape, rfl, _, _, _⟩ := hre
  obtain ⟨adb, capb, rfl, _, _, _⟩ := hrb
  obtain ⟨adl, capl, rfl, _, _, _⟩ := hrl
  have HX := hide (Box11.mk (sn := ⟨k, nm, wh, ⟨xk, xvk, xvn, xvt, xnm⟩, ek⟩) (ve := .slice ade ek.len cape) (vb := .slice adb b.len capb) (vl := .slice adl l.len capl) (T := 81) W)
  have HA : Hid (Below W.heap.size W (W.alloc (.cells #[.int .i64 k, .string nm, .string wh, .int .i64 xk, .int .i64 xvk, .int .i64 xvn, .string xvt, .string xnm, .slice ade ek.len cape, .slice adb b.len capb, .slice adl l.len capl] 81))) := (Below.refl _ _).alloc (Nat.le_refl _) _
  have HS0 := hide (hsc.later HA.out)
  have HB0 : Hid (Below w0.heap.size w0 (W.alloc (.cells #[.int .i64 k, .string nm, .string wh, .int .i64 xk, .int .i64 xvk, .int .i64 xvn, .string xvt, .string xnm, .slice ade ek.len cape, .slice adb b.len capb, .slice adl l.len capl] 81))) := hBW.trans (HA.out.mono hBW.size)
  have HG0 : Hid (W.grownBy (W.alloc (.cells #[.int .i64 k, .string nm, .string wh, .int .i64 xk, .int .i64 xvk, .int .i64 xvn, .string xvt, .string xnm, .slice ade ek.len cape, .slice adb b.len capb, .slice adl l.len capl] 81)) (some g)) := grown_below HA.out _
  have hng : W.heap.size ≠ g := by omega
  clear hsc hBW HA he2 hN
  clear hqv hqf hqh hb0 hl0
  subst hk
  go_enter Try.func64, Try.ntmps64
  go_wp2_with fail
  refine (hqu.out _ HB0.out HS0.out).mono ?_
  rintro e w1 ⟨rfl, hg1, hs1⟩
  have HS1 := hide hs1
  have HG1 : Hid (W.grownBy w1 (some g)) := grown_trans HG0.out hg1
  have HB1 : Hid (Below w0.heap.size w0 w1) := below_of_grown HB0.out hg0 hg1
  have HX1 := hide (HX.out.beside hg1 hng)
  clear hg1 hs1 HS0 HG0 HB0 HX
  obtain ⟨_, ⟨x0, x1, x2, x3, x4, x5, x6, x7⟩, x8, x9, x10⟩ := HX1.out
  go_wp2_with fail
  refine (hqc.out _ _ HS1.out).mono ?_
  rintro e w2 ⟨rfl, hg2, hs2⟩
  have HS2 := hide hs2
  have HG2 : Hid (W.grownBy w2 (some g)) := grown_trans HG1.out hg2
  have HB2 : Hid (Below w0.heap.size w0 w2) := below_of_grown HB1.out hg0 hg2
  have HX2 := hide (HX1.out.beside hg2 hng)
  clear hg2 hs2 HS1 HG1 HB1 HX1
  clear x0 x1 x2 x3 x4 x5 x6 x7 x8 x9 x10
  go_wp2
  go_end0
  exact ⟨rfl, HG2.out, V, C ++ [nm.data.toList], by rw [← HEQ.out]; exact HS2.out, fun h => HTL.out (by rw [HEQ.out]; exact h), by simp; omega⟩

set_option maxHeartbeats 3200000 in
set_option maxRecDepth 100000 in
theorem step_J (k : Int) (nm wh : ByteArray) (xk xvk xvn : Int) (xvt xnm : ByteArray) (ek : Fo) (b l : Ps) (E : Pl.En) (ve vb vl : Value) (w0 W : World) (g : Nat) (V C : List (List UInt8)) (code : Int) (hN : (Pl.namesN ⟨xk, xvk, xvn, xvt, xnm⟩ ek).length ≤ 1048576) (he1 : ek.len ≤ 1048576) (he2 : ek.Sm) (hre : RowAt 0 w0 ek ve) (hrb : PRow 0 w0 b vb) (hrl : PRow 0 w0 l vl)
    (hg0 : w0.heap.size ≤ g) (hBW : Below w0.heap.size w0 W) (hsc : ScAt W g V C code) (htl : code = 0 → Pl.Tells V C E) (hVC : V.length + C.length + (b.nodes + l.nodes) ≤ 1000000) (hb0 : b.len = 0) (hl0 : l.len = 0) (hNN : Pl.namesN ⟨xk, xvk, xvn, xvt, xnm⟩ ek = []) (hk : k = 7) :
    Calls Try.prog 64 #[.pointer (some ⟨g, 0, none⟩), .agg #[.int .i64 k, .string nm, .string wh, .int .i64 xk, .int .i64 xvk, .int .i64 xvn, .string xvt, .string xnm, ve, vb, vl]] W (StQ ⟨k, nm, wh, ⟨xk, xvk, xvn, xvt, xnm⟩, ek⟩ b l E V C code g W) := by
  have HEQ : Hid (Pl.orr (Pl.orr code (if wh.data.toList ∈ C then 0 else 4)) (Pl.twiceC V C nm.data.toList) = Pl.orr code (Pl.chkS ⟨k, nm, wh, ⟨xk, xvk, xvn, xvt, xnm⟩, ek⟩ b l E)) := by
    show _ = _
    subst hk
    rw [Pl.orr_assoc, Pl.chk_flat hb0 hl0, Pl.own_join hNN]
    refine Pl.orr_congr fun h0 => ?_
    rw [Pl.twiceC_eq (htl h0)]
    congr 1
    by_cases hm : wh.data.toList ∈ C
    · rw [if_pos hm, if_pos ((htl h0 _).2.1.1 hm)]
    · rw [if_neg hm, if_neg (fun h => hm ((htl h0 _).2.1.2 h))]
  have HTL : Hid (Pl.orr (Pl.orr code (if wh.data.toList ∈ C then 0 else 4)) (Pl.twiceC V C nm.data.toList) = 0 → Pl.Tells (V ++ [nm.data.toList]) C (Pl.ext ⟨k, nm, wh, ⟨xk, xvk, xvn, xvt, xnm⟩, ek⟩ E)) := by
    refine hide fun h => ?_
    have hm : Pl.mk k = 1 := by rcases hk with rfl <;> decide
    have he : Pl.ext ⟨k, nm, wh, ⟨xk, xvk, xvn, xvt, xnm⟩, ek⟩ E = (nm.data.toList, 1) :: E := by simp [Pl.ext, hm]
    obtain ⟨h1, h2⟩ := Pl.orr_eq_zero h
    have hc : code = 0 := (Pl.orr_eq_zero h1).1
    rw [Pl.twiceC_eq (htl hc)] at h2
    rw [he]
    exact Pl.tells_var (htl hc) _ (Pl.twiceE_zero h2)
  have hgw : g < W.heap.size := by
    obtain ⟨_, _, hbk, _⟩ := hsc
    exact (Array.getElem?_eq_some_iff.1 hbk).1
  have hqu : Hid (∀ W', Below w0.heap.size w0 W' → ScAt W' g V C code → Calls Try.prog 87 #[.pointer (some ⟨g, 0, none⟩), ndV ⟨xk, xvk, xvn, xvt, xnm⟩ ve] W' fun e w' => e = .returned (.tuple #[]) ∧ W'.grownBy w' (some g) ∧ ScAt w' g V C (Pl.orr code (Pl.lackC V (Pl.namesN ⟨xk, xvk, xvn, xvt, xnm⟩ ek)))) := fun W' hW hs => uses_any g V C code ⟨xk, xvk, xvn, xvt, xnm⟩ ek ve W' (by omega) he1 he2 hN (hre.later hW) hs
  have hqv : Hid (∀ W' c', ScAt W' g V C c' → Calls Try.prog 88 #[.pointer (some ⟨g, 0, none⟩), .string nm, .bool false] W' fun e w' => e = .returned (.tuple #[]) ∧ W'.grownBy w' (some g) ∧ ScAt w' g (V ++ [nm.data.toList]) C (Pl.orr c' (Pl.twiceC V C nm.data.toList))) := by
    refine hide fun W' c' hs => ?_
    have := fresh_var g V C c' nm.data.toList W' (by omega) (by omega) hs
    rwa [sv_of] at this
  have hqc : Hid (∀ W' c', ScAt W' g V C c' → Calls Try.prog 88 #[.pointer (some ⟨g, 0, none⟩), .string nm, .bool true] W' fun e w' => e = .returned (.tuple #[]) ∧ W'.grownBy w' (some g) ∧ ScAt w' g V (C ++ [nm.data.toList]) (Pl.orr c' (Pl.twiceC V C nm.data.toList))) := by
    refine hide fun W' c' hs => ?_
    have := fresh_call g V C c' nm.data.toList W' (by omega) (by omega) hs
    rwa [sv_of] at this
  have hqf : Hid (∀ W' c' n, ScAt W' g V C c' → Calls Try.prog 90 #[.pointer (some ⟨g, 0, none⟩), .int .i64 n] W' fun e w' => e = .returned (.tuple #[]) ∧ W'.grownBy w' (some g) ∧ ScAt w' g V C (Pl.orr c' n)) := fun W' c' n hs => fail_any g V C c' n W' hs
  have hqh : Hid (∀ W' L s vL, L.length ≤ 1000000 → TextsAt W' vL L → Calls Try.prog 89 #[vL, .string s] W' fun e w' => e = .returned (.bool (decide (s.data.toList ∈ L))) ∧ w' = W') := by
    refine hide fun W' L s vL hL ht => ?_
    have := l3Has_any L s.data.toList vL (by omega) W' ht
    rwa [sv_of] at this
  obtain ⟨ade, cape, rfl, _, _, _⟩ := hre
  obtain ⟨adb, capb, rfl, _, _, _⟩ := hrb
  obtain ⟨adl, capl, rfl, _, _, _⟩ := hrl
  have HX := hide (Box11.mk (sn := ⟨k, nm, wh, ⟨xk, xvk, xvn, xvt, xnm⟩, ek⟩) (ve := .slice ade ek.len cape) (vb := .slice adb b.len capb) (vl := .slice adl l.len capl) (T := 81) W)
  have HA : Hid (Below W.heap.size W (W.alloc (.cells #[.int .i64 k, .string nm, .string wh, .int .i64 xk, .int .i64 xvk, .int .i64 xvn, .string xvt, .string xnm, .slice ade ek.len cape, .slice adb b.len capb, .slice adl l.len capl] 81))) := (Below.refl _ _).alloc (Nat.le_refl _) _
  have HS0 := hide (hsc.later HA.out)
  have HB0 : Hid (Below w0.heap.size w0 (W.alloc (.cells #[.int .i64 k, .string nm, .string wh, .int .i64 xk, .int .i64 xvk, .int .i64 xvn, .string xvt, .string xnm, .slice ade ek.len cape, .slice adb b.len capb, .slice adl l.len capl] 81))) := hBW.trans (HA.out.mono hBW.size)
  have HG0 : Hid (W.grownBy (W.alloc (.cells #[.int .i64 k, .string nm, .string wh, .int .i64 xk, .int .i64 xvk, .int .i64 xvn, .string xvt, .string xnm, .slice ade ek.len cape, .slice adb b.len capb, .slice adl l.len capl] 81)) (some g)) := grown_below HA.out _
  have hng : W.heap.size ≠ g := by omega
  clear hsc hBW HA he2 hN
  clear hqu hqc hb0 hl0 hNN
  subst hk
  go_enter Try.func64, Try.ntmps64
  obtain ⟨vv, vc, hbk, hvv, hvc, _, _⟩ := HS0.out
  have cl := cell_of_block hbk 1
  simp only [List.getElem?_toArray, List.getElem?_cons_zero, List.getElem?_cons_succ] at cl
  have HVL := hide hvc
  have hh : Hid (∀ W', TextsAt W' _ C → Calls Try.prog 89 #[vc, .string wh] W' fun e w' => e = .returned (.bool (decide (wh.data.toList ∈ C))) ∧ w' = W') := hide fun W' ht => hqh.out W' C wh _ (by omega) ht
  obtain ⟨av, cpv, rfl, _⟩ := hvv
  obtain ⟨ac, cpc, rfl, _⟩ := hvc
  clear hbk
  go_wp2_with fail
  go_region_with (go_at_call 89; refine (hh.out _ (HVL.out.later (by first | exact (Below.refl _ _).drew | exact below_drewN (Below.refl _ _) _))).mono ?_; rintro e wq ⟨rfl, rfl⟩)
  all_goals
    have HSd := hide (HS0.out.later (Below.refl _ _).drew)
    have HGd := hide (grown_trans HG0.out (grown_below (Below.refl _ _).drew _))
    have HXd := hide (HX.out.later (Below.refl _ _).drew)
    clear hh hqh
    obtain ⟨_, ⟨z0, z1, z2, z3, z4, z5, z6, z7⟩, z8, z9, z10⟩ := HXd.out
    by_cases hin : wh.data.toList ∈ C
    · rw [if_pos hin] at HEQ HTL
      rw [decide_eq_true hin]
      rw [Pl.orr_zero] at HEQ HTL
      clear hin
      go_wp2_with fail
      refine (hqv.out _ _ HSd.out).mono ?_
      rintro e w9 ⟨rfl, hg9, hs9⟩
      have HS9 := hide hs9
      have HG9 : Hid (W.grownBy w9 (some g)) := grown_trans HGd.out hg9
      clear hg9 hs9 cl z0 z1 z2 z3 z4 z5 z6 z7 z8 z9 z10
      go_wp2
      go_end0
      exact ⟨rfl, HG9.out, V ++ [nm.data.toList], C, by rw [← HEQ.out]; exact HS9.out, fun h => HTL.out (by rw [HEQ.out]; exact h), by simp; omega⟩
    · rw [if_neg hin] at HEQ HTL
      rw [decide_eq_false hin]
      clear hin
      go_wp2_with fail
      refine (hqf.out _ _ _ HSd.out).mono ?_
      rintro e w8 ⟨rfl, hg8, hs8⟩
      have HS8 := hide hs8
      have HG8 : Hid (W.grownBy w8 (some g)) := grown_trans HGd.out hg8
      have HX8 := hide (HXd.out.beside hg8 hng)
      clear hg8 hs8 cl z0 z1 z2 z3 z4 z5 z6 z7 z8 z9 z10
      obtain ⟨_, ⟨x0, x1, x2, x3, x4, x5, x6, x7⟩, x8, x9, x10⟩ := HX8.out
      go_wp2_with fail
      refine (hqv.out _ _ HS8.out).mono ?_
      rintro e w9 ⟨rfl, hg9, hs9⟩
      have HS9 := hide hs9
      have HG9 : Hid (W.grownBy w9 (some g)) := grown_trans HG8.out hg9
      clear hg9 hs9 x0 x1 x2 x3 x4 x5 x6 x7 x8 x9 x10
      go_wp2
      go_end0
      exact ⟨rfl, HG9.out, V ++ [nm.data.toList], C, by rw [← HEQ.out]; exact HS9.out, fun h => HTL.out (by rw [HEQ.out]; exact h), by simp; omega⟩

set_option maxHeartbeats 3200000 in
set_option maxRecDepth 100000 in
theorem step_T (k : Int) (nm wh : ByteArray) (xk xvk xvn : Int) (xvt xnm : ByteArray) (ek : Fo) (b l : Ps) (E : Pl.En) (ve vb vl : Value) (w0 W : World) (g : Nat) (V C : List (List UInt8)) (code : Int) (hN : (Pl.namesN ⟨xk, xvk, xvn, xvt, xnm⟩ ek).length ≤ 1048576) (he1 : ek.len ≤ 1048576) (he2 : ek.Sm) (hre : RowAt 0 w0 ek ve) (hrb : PRow 0 w0 b vb) (hrl : PRow 0 w0 l vl)
    (hg0 : w0.heap.size ≤ g) (hBW : Below w0.heap.size w0 W) (hsc : ScAt W g V C code) (htl : code = 0 → Pl.Tells V C E) (hVC : V.length + C.length + (b.nodes + l.nodes) ≤ 1000000) (hb0 : b.len = 0) (hl0 : l.len = 0) (hNN : Pl.namesN ⟨xk, xvk, xvn, xvt, xnm⟩ ek = []) (hk : k = 9) :
    Calls Try.prog 64 #[.pointer (some ⟨g, 0, none⟩), .agg #[.int .i64 k, .string nm, .string wh, .int .i64 xk, .int .i64 xvk, .int .i64 xvn, .string xvt, .string xnm, ve, vb, vl]] W (StQ ⟨k, nm, wh, ⟨xk, xvk, xvn, xvt, xnm⟩, ek⟩ b l E V C code g W) := by
  have HEQ : Hid (Pl.orr code (Pl.twiceC V C nm.data.toList) = Pl.orr code (Pl.chkS ⟨k, nm, wh, ⟨xk, xvk, xvn, xvt, xnm⟩, ek⟩ b l E)) := by
    show _ = _
    subst hk
    rw [Pl.chk_flat hb0 hl0, Pl.own_wait hNN]
    exact Pl.orr_congr fun h0 => by rw [Pl.twiceC_eq (htl h0)]
  have HTL : Hid (Pl.orr code (Pl.twiceC V C nm.data.toList) = 0 → Pl.Tells (V ++ [nm.data.toList]) C (Pl.ext ⟨k, nm, wh, ⟨xk, xvk, xvn, xvt, xnm⟩, ek⟩ E)) := by
    refine hide fun h => ?_
    have hm : Pl.mk k = 1 := by rcases hk with rfl <;> decide
    have he : Pl.ext ⟨k, nm, wh, ⟨xk, xvk, xvn, xvt, xnm⟩, ek⟩ E = (nm.data.toList, 1) :: E := by simp [Pl.ext, hm]
    obtain ⟨h1, h2⟩ := Pl.orr_eq_zero h
    have hc : code = 0 := h1
    rw [Pl.twiceC_eq (htl hc)] at h2
    rw [he]
    exact Pl.tells_var (htl hc) _ (Pl.twiceE_zero h2)
  have hgw : g < W.heap.size := by
    obtain ⟨_, _, hbk, _⟩ := hsc
    exact (Array.getElem?_eq_some_iff.1 hbk).1
  have hqu : Hid (∀ W', Below w0.heap.size w0 W' → ScAt W' g V C code → Calls Try.prog 87 #[.pointer (some ⟨g, 0, none⟩), ndV ⟨xk, xvk, xvn, xvt, xnm⟩ ve] W' fun e w' => e = .returned (.tuple #[]) ∧ W'.grownBy w' (some g) ∧ ScAt w' g V C (Pl.orr code (Pl.lackC V (Pl.namesN ⟨xk, xvk, xvn, xvt, xnm⟩ ek)))) := fun W' hW hs => uses_any g V C code ⟨xk, xvk, xvn, xvt, xnm⟩ ek ve W' (by omega) he1 he2 hN (hre.later hW) hs
  have hqv : Hid (∀ W' c', ScAt W' g V C c' → Calls Try.prog 88 #[.pointer (some ⟨g, 0, none⟩), .string nm, .bool false] W' fun e w' => e = .returned (.tuple #[]) ∧ W'.grownBy w' (some g) ∧ ScAt w' g (V ++ [nm.data.toList]) C (Pl.orr c' (Pl.twiceC V C nm.data.toList))) := by
    refine hide fun W' c' hs => ?_
    have := fresh_var g V C c' nm.data.toList W' (by omega) (by omega) hs
    rwa [sv_of] at this
  have hqc : Hid (∀ W' c', ScAt W' g V C c' → Calls Try.prog 88 #[.pointer (some ⟨g, 0, none⟩), .string nm, .bool true] W' fun e w' => e = .returned (.tuple #[]) ∧ W'.grownBy w' (some g) ∧ ScAt w' g V (C ++ [nm.data.toList]) (Pl.orr c' (Pl.twiceC V C nm.data.toList))) := by
    refine hide fun W' c' hs => ?_
    have := fresh_call g V C c' nm.data.toList W' (by omega) (by omega) hs
    rwa [sv_of] at this
  have hqf : Hid (∀ W' c' n, ScAt W' g V C c' → Calls Try.prog 90 #[.pointer (some ⟨g, 0, none⟩), .int .i64 n] W' fun e w' => e = .returned (.tuple #[]) ∧ W'.grownBy w' (some g) ∧ ScAt w' g V C (Pl.orr c' n)) := fun W' c' n hs => fail_any g V C c' n W' hs
  have hqh : Hid (∀ W' L s vL, L.length ≤ 1000000 → TextsAt W' vL L → Calls Try.prog 89 #[vL, .string s] W' fun e w' => e = .returned (.bool (decide (s.data.toList ∈ L))) ∧ w' = W') := by
    refine hide fun W' L s vL hL ht => ?_
    have := l3Has_any L s.data.toList vL (by omega) W' ht
    rwa [sv_of] at this
  obtain ⟨ade, cape, rfl, _, _, _⟩ := hre
  obtain ⟨adb, capb, rfl, _, _, _⟩ := hrb
  obtain ⟨adl, capl, rfl, _, _, _⟩ := hrl
  have HX := hide (Box11.mk (sn := ⟨k, nm, wh, ⟨xk, xvk, xvn, xvt, xnm⟩, ek⟩) (ve := .slice ade ek.len cape) (vb := .slice adb b.len capb) (vl := .slice adl l.len capl) (T := 81) W)
  have HA : Hid (Below W.heap.size W (W.alloc (.cells #[.int .i64 k, .string nm, .string wh, .int .i64 xk, .int .i64 xvk, .int .i64 xvn, .string xvt, .string xnm, .slice ade ek.len cape, .slice adb b.len capb, .slice adl l.len capl] 81))) := (Below.refl _ _).alloc (Nat.le_refl _) _
  have HS0 := hide (hsc.later HA.out)
  have HB0 : Hid (Below w0.heap.size w0 (W.alloc (.cells #[.int .i64 k, .string nm, .string wh, .int .i64 xk, .int .i64 xvk, .int .i64 xvn, .string xvt, .string xnm, .slice ade ek.len cape, .slice adb b.len capb, .slice adl l.len capl] 81))) := hBW.trans (HA.out.mono hBW.size)
  have HG0 : Hid (W.grownBy (W.alloc (.cells #[.int .i64 k, .string nm, .string wh, .int .i64 xk, .int .i64 xvk, .int .i64 xvn, .string xvt, .string xnm, .slice ade ek.len cape, .slice adb b.len capb, .slice adl l.len capl] 81)) (some g)) := grown_below HA.out _
  have hng : W.heap.size ≠ g := by omega
  clear hsc hBW HA he2 hN
  clear hqu hqc hqf hqh hb0 hl0 hNN
  subst hk
  go_enter Try.func64, Try.ntmps64
  go_wp2_with fail
  refine (hqv.out _ _ HS0.out).mono ?_
  rintro e w1 ⟨rfl, hg1, hs1⟩
  have HS1 := hide hs1
  have HG1 : Hid (W.grownBy w1 (some g)) := grown_trans HG0.out hg1
  have HB1 : Hid (Below w0.heap.size w0 w1) := below_of_grown HB0.out hg0 hg1
  have HX1 := hide (HX.out.beside hg1 hng)
  clear hg1 hs1 HS0 HG0 HB0 HX
  go_wp2
  go_end0
  exact ⟨rfl, HG1.out, V ++ [nm.data.toList], C, by rw [← HEQ.out]; exact HS1.out, fun h => HTL.out (by rw [HEQ.out]; exact h), by simp; omega⟩

set_option maxHeartbeats 3200000 in
set_option maxRecDepth 100000 in
theorem step_Z (k : Int) (nm wh : ByteArray) (xk xvk xvn : Int) (xvt xnm : ByteArray) (ek : Fo) (b l : Ps) (E : Pl.En) (ve vb vl : Value) (w0 W : World) (g : Nat) (V C : List (List UInt8)) (code : Int) (hN : (Pl.namesN ⟨xk, xvk, xvn, xvt, xnm⟩ ek).length ≤ 1048576) (he1 : ek.len ≤ 1048576) (he2 : ek.Sm) (hre : RowAt 0 w0 ek ve) (hrb : PRow 0 w0 b vb) (hrl : PRow 0 w0 l vl)
    (hg0 : w0.heap.size ≤ g) (hBW : Below w0.heap.size w0 W) (hsc : ScAt W g V C code) (htl : code = 0 → Pl.Tells V C E) (hVC : V.length + C.length + (b.nodes + l.nodes) ≤ 1000000) (hb0 : b.len = 0) (hl0 : l.len = 0) (hk : k = 8 ∨ k = 11 ∨ k = 12 ∨ k = 13) :
    Calls Try.prog 64 #[.pointer (some ⟨g, 0, none⟩), .agg #[.int .i64 k, .string nm, .string wh, .int .i64 xk, .int .i64 xvk, .int .i64 xvn, .string xvt, .string xnm, ve, vb, vl]] W (StQ ⟨k, nm, wh, ⟨xk, xvk, xvn, xvt, xnm⟩, ek⟩ b l E V C code g W) := by
  have HEQ : Hid (Pl.orr code (Pl.lackC V (Pl.namesN ⟨xk, xvk, xvn, xvt, xnm⟩ ek)) = Pl.orr code (Pl.chkS ⟨k, nm, wh, ⟨xk, xvk, xvn, xvt, xnm⟩, ek⟩ b l E)) := by
    show _ = _
    rw [Pl.chk_flat hb0 hl0, Pl.own_bare (by rcases hk with rfl | rfl | rfl | rfl <;> decide) (by rcases hk with rfl | rfl | rfl | rfl <;> decide) (by rcases hk with rfl | rfl | rfl | rfl <;> decide)]
    exact Pl.orr_congr fun h0 => by rw [Pl.lackC_eq (htl h0)]
  have HTL : Hid (Pl.orr code (Pl.lackC V (Pl.namesN ⟨xk, xvk, xvn, xvt, xnm⟩ ek)) = 0 → Pl.Tells V C (Pl.ext ⟨k, nm, wh, ⟨xk, xvk, xvn, xvt, xnm⟩, ek⟩ E)) := by
    refine hide fun h => ?_
    have hm : Pl.mk k = 0 := by rcases hk with rfl | rfl | rfl | rfl <;> decide
    have he : Pl.ext ⟨k, nm, wh, ⟨xk, xvk, xvn, xvt, xnm⟩, ek⟩ E = E := by simp [Pl.ext, hm]
    rw [he]
    exact htl (Pl.orr_eq_zero h).1
  have hgw : g < W.heap.size := by
    obtain ⟨_, _, hbk, _⟩ := hsc
    exact (Array.getElem?_eq_some_iff.1 hbk).1
  have hqu : Hid (∀ W', Below w0.heap.size w0 W' → ScAt W' g V C code → Calls Try.prog 87 #[.pointer (some ⟨g, 0, none⟩), ndV ⟨xk, xvk, xvn, xvt, xnm⟩ ve] W' fun e w' => e = .returned (.tuple #[]) ∧ W'.grownBy w' (some g) ∧ ScAt w' g V C (Pl.orr code (Pl.lackC V (Pl.namesN ⟨xk, xvk, xvn, xvt, xnm⟩ ek)))) := fun W' hW hs => uses_any g V C code ⟨xk, xvk, xvn, xvt, xnm⟩ ek ve W' (by omega) he1 he2 hN (hre.later hW) hs
  have hqv : Hid (∀ W' c', ScAt W' g V C c' → Calls Try.prog 88 #[.pointer (some ⟨g, 0, none⟩), .string nm, .bool false] W' fun e w' => e = .returned (.tuple #[]) ∧ W'.grownBy w' (some g) ∧ ScAt w' g (V ++ [nm.data.toList]) C (Pl.orr c' (Pl.twiceC V C nm.data.toList))) := by
    refine hide fun W' c' hs => ?_
    have := fresh_var g V C c' nm.data.toList W' (by omega) (by omega) hs
    rwa [sv_of] at this
  have hqc : Hid (∀ W' c', ScAt W' g V C c' → Calls Try.prog 88 #[.pointer (some ⟨g, 0, none⟩), .string nm, .bool true] W' fun e w' => e = .returned (.tuple #[]) ∧ W'.grownBy w' (some g) ∧ ScAt w' g V (C ++ [nm.data.toList]) (Pl.orr c' (Pl.twiceC V C nm.data.toList))) := by
    refine hide fun W' c' hs => ?_
    have := fresh_call g V C c' nm.data.toList W' (by omega) (by omega) hs
    rwa [sv_of] at this
  have hqf : Hid (∀ W' c' n, ScAt W' g V C c' → Calls Try.prog 90 #[.pointer (some ⟨g, 0, none⟩), .int .i64 n] W' fun e w' => e = .returned (.tuple #[]) ∧ W'.grownBy w' (some g) ∧ ScAt w' g V C (Pl.orr c' n)) := fun W' c' n hs => fail_any g V C c' n W' hs
  have hqh : Hid (∀ W' L s vL, L.length ≤ 1000000 → TextsAt W' vL L → Calls Try.prog 89 #[vL, .string s] W' fun e w' => e = .returned (.bool (decide (s.data.toList ∈ L))) ∧ w' = W') := by
    refine hide fun W' L s vL hL ht => ?_
    have := l3Has_any L s.data.toList vL (by omega) W' ht
    rwa [sv_of] at this
  obtain ⟨ade, cape, rfl, _, _, _⟩ := hre
  obtain ⟨adb, capb, rfl, _, _, _⟩ := hrb
  obtain ⟨adl, capl, rfl, _, _, _⟩ := hrl
  have HX := hide (Box11.mk (sn := ⟨k, nm, wh, ⟨xk, xvk, xvn, xvt, xnm⟩, ek⟩) (ve := .slice ade ek.len cape) (vb := .slice adb b.len capb) (vl := .slice adl l.len capl) (T := 81) W)
  have HA : Hid (Below W.heap.size W (W.alloc (.cells #[.int .i64 k, .string nm, .string wh, .int .i64 xk, .int .i64 xvk, .int .i64 xvn, .string xvt, .string xnm, .slice ade ek.len cape, .slice adb b.len capb, .slice adl l.len capl] 81))) := (Below.refl _ _).alloc (Nat.le_refl _) _
  have HS0 := hide (hsc.later HA.out)
  have HB0 : Hid (Below w0.heap.size w0 (W.alloc (.cells #[.int .i64 k, .string nm, .string wh, .int .i64 xk, .int .i64 xvk, .int .i64 xvn, .string xvt, .string xnm, .slice ade ek.len cape, .slice adb b.len capb, .slice adl l.len capl] 81))) := hBW.trans (HA.out.mono hBW.size)
  have HG0 : Hid (W.grownBy (W.alloc (.cells #[.int .i64 k, .string nm, .string wh, .int .i64 xk, .int .i64 xvk, .int .i64 xvn, .string xvt, .string xnm, .slice ade ek.len cape, .slice adb b.len capb, .slice adl l.len capl] 81)) (some g)) := grown_below HA.out _
  have hng : W.heap.size ≠ g := by omega
  clear hsc hBW HA he2 hN
  clear hqv hqc hqf hqh hb0 hl0
  rcases hk with rfl | rfl | rfl | rfl
  all_goals
    go_enter Try.func64, Try.ntmps64
    go_wp2_with fail
    refine (hqu.out _ HB0.out HS0.out).mono ?_
    rintro e w1 ⟨rfl, hg1, hs1⟩
    have HS1 := hide hs1
    have HG1 : Hid (W.grownBy w1 (some g)) := grown_trans HG0.out hg1
    have HB1 : Hid (Below w0.heap.size w0 w1) := below_of_grown HB0.out hg0 hg1
    have HX1 := hide (HX.out.beside hg1 hng)
    clear hg1 hs1 HS0 HG0 HB0 HX
    go_wp2
    go_end0
    exact ⟨rfl, HG1.out, V, C, by rw [← HEQ.out]; exact HS1.out, fun h => HTL.out (by rw [HEQ.out]; exact h), by omega⟩

end Go.Proofs.Ytckdpdlkjgjadaa

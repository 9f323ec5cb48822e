/- How large steps are, as the laws count. -/
import Derived.Test.YtnikomgdcddchaaGreatPBx
import Derived.Test.YtnikomgdcddchaaGreatSz
namespace Go.Proofs.YtnikomgdcddchaaGreat
open Go.RowKit
set_option linter.unusedVariables false
namespace Ps
/-- how many steps and expressions there are -/
def wt : Ps → Nat
  | nil => 0
  | cons sn b e r => sn.ek.nodes + b.wt + e.wt + r.wt + 1
/-- those within the first i -/
def kw : Ps → Nat → Nat
  | nil, _ => 0
  | cons _ _ _ _, 0 => 0
  | cons sn b e r, i + 1 => sn.ek.nodes + b.wt + e.wt + r.kw i
theorem kw_zero (F : Ps) : F.kw 0 = 0 := by cases F <;> rfl
theorem kw_succ : ∀ (F : Ps) (i : Nat) (sn : Sn) (b e : Ps), F.get i = some (sn, b, e) → F.kw (i + 1) = F.kw i + (sn.ek.nodes + b.wt + e.wt)
  | nil, i, sn, b, e, h => by simp [get] at h
  | cons sn' b' e' r, 0, sn, b, e, h => by
    simp only [get, Option.some.injEq, Prod.mk.injEq] at h
    obtain ⟨rfl, rfl, rfl⟩ := h
    simp [kw, kw_zero]
  | cons sn' b' e' r, i + 1, sn, b, e, h => by
    have := kw_succ r i sn b e h
    simp only [kw] at this ⊢
    omega
theorem kw_all : ∀ (F : Ps), F.kw F.len + F.len = F.wt
  | nil => rfl
  | cons sn b e r => by
    have := kw_all r
    simp only [kw, len, wt]
    omega
end Ps
def PSzPost (F : Ps) (left : Int) (w : World) (e : Ending) (w' : World) : Prop :=
  ∃ r : Int, e = .returned (.int .i64 r) ∧ -1 ≤ r ∧ r ≤ left ∧ (0 ≤ r → F.len ≤ 1048576 ∧ F.Sm ∧ (r + F.nodes ≤ left ∧ r + F.wt ≤ left)) ∧ Below w.heap.size w w'
def PSzP (F : Ps) : Prop := ∀ (v : Value) (w : World) (left : Int), 0 ≤ left → left ≤ 1048576 → F.Wf → PRow 0 w F v → Calls Tryz.prog 20 #[v, .int .i64 left] w (PSzPost F left w)
def StSzPost (sn : Sn) (b l : Ps) (left : Int) (w : World) (e : Ending) (w' : World) : Prop :=
  ∃ r : Int, e = .returned (.int .i64 r) ∧ -1 ≤ r ∧ r ≤ left ∧ (0 ≤ r → (sn.ek.len ≤ 1048576 ∧ sn.ek.Sm) ∧ (b.len ≤ 1048576 ∧ b.Sm) ∧ (l.len ≤ 1048576 ∧ l.Sm) ∧ (r + (b.nodes + l.nodes) ≤ left ∧ r + (sn.ek.nodes + b.wt + l.wt) ≤ left)) ∧ Below w.heap.size w w'

set_option maxHeartbeats 1600000 in
theorem szStep_of (sn : Sn) (b l : Ps) (hkb : PSzP b) (hkl : PSzP l) (hw1 : sn.nm.size ≤ maxLen) (hw2 : sn.wh.size ≤ maxLen) (hw3 : sn.ex.vt.size ≤ maxLen) (hw4 : sn.ex.nm.size ≤ maxLen) (hw5 : sn.ek.Wf) (hwb : b.Wf) (hwl : l.Wf) (ve vb vl : Value) (w : World) (left : Int) (h0 : 0 ≤ left) (h1 : left ≤ 1048576) (hre : RowAt 0 w sn.ek ve) (hrb : PRow 0 w b vb) (hrl : PRow 0 w l vl) :
    Calls Tryz.prog 41 #[snV sn ve vb vl, .int .i64 left] w (StSzPost sn b l left w) := by
  have hq : Hid (∀ W lf, Below w.heap.size w W → 0 ≤ lf → lf ≤ 1048576 → Calls Tryz.prog 63 #[ndV sn.ex ve, .int .i64 lf] W (SzPost sn.ek lf W)) := fun W lf hW l0 l1 => szExpr_of sn.ex sn.ek (szExprS_any _) hw3 hw4 hw5 ve W lf l0 l1 (hre.later hW)
  have hqb : Hid (∀ W lf, Below w.heap.size w W → 0 ≤ lf → lf ≤ 1048576 → Calls Tryz.prog 20 #[vb, .int .i64 lf] W (PSzPost b lf W)) := fun W lf hW l0 l1 => hkb vb W lf l0 l1 hwb (hrb.later hW)
  have hql : Hid (∀ W lf, Below w.heap.size w W → 0 ≤ lf → lf ≤ 1048576 → Calls Tryz.prog 20 #[vl, .int .i64 lf] W (PSzPost l lf W)) := fun W lf hW l0 l1 => hkl vl W lf l0 l1 hwl (hrl.later hW)
  clear hkb hkl hw3 hw4 hw5 hwb hwl
  obtain ⟨ade, cape, rfl, _, _, _⟩ := hre
  obtain ⟨adb, capb, rfl, _, _, _⟩ := hrb
  obtain ⟨adl, capl, rfl, _, _, _⟩ := hrl
  have HA : Hid (Below w.heap.size w (w.alloc (.cells #[.int .i64 sn.k, .string sn.nm, .string sn.wh, .int .i64 sn.ex.k, .int .i64 sn.ex.vk, .int .i64 sn.ex.vn, .string sn.ex.vt, .string sn.ex.nm, .slice ade sn.ek.len cape, .slice adb b.len capb, .slice adl l.len capl] 77))) := (Below.refl _ _).alloc (Nat.le_refl _) _
  have HX := hide (Box11.mk (sn := sn) (ve := .slice ade sn.ek.len cape) (vb := .slice adb b.len capb) (vl := .slice adl l.len capl) (T := 77) w)
  unfold maxLen at hw1 hw2
  by_cases g1 : left - sn.nm.size < 0
  · go_enter Tryz.func41, Tryz.ntmps41
    go_wp2
    go_ret
    exact ⟨-1, rfl, by omega, by omega, fun h => by omega, HA.out⟩
  by_cases g2 : left - sn.nm.size - sn.wh.size < 0
  · go_enter Tryz.func41, Tryz.ntmps41
    go_wp2
    go_ret
    exact ⟨-1, rfl, by omega, by omega, fun h => by omega, HA.out⟩
  go_enter Tryz.func41, Tryz.ntmps41
  go_wp2_with fail
  refine (hq.out _ _ HA.out (by omega) (by omega)).mono ?_
  rintro e w1 ⟨r1, rfl, ra1, rb1, rc1, hB1⟩
  have HB1 : Hid (Below w.heap.size w w1) := HA.out.trans (hB1.mono (by simp))
  have HX1 := hide (HX.out.later hB1)
  have HC1 := hide rc1
  clear hB1 rc1 HX HA hq
  by_cases g3 : r1 < 0
  · go_wp2
    go_ret
    exact ⟨-1, rfl, by omega, by omega, fun h => by omega, HB1.out⟩
  obtain ⟨_, _, x8, x9, x10⟩ := HX1.out
  go_wp2_with fail
  refine (hqb.out _ _ HB1.out (by omega) (by omega)).mono ?_
  rintro e w2 ⟨r2, rfl, ra2, rb2, rc2, hB2⟩
  have HB2 : Hid (Below w.heap.size w w2) := HB1.out.trans (hB2.mono HB1.out.size)
  have HX2 := hide (HX1.out.later hB2)
  have HC2 := hide rc2
  clear hB2 rc2 HX1 HB1 hqb x8 x9 x10
  by_cases g4 : r2 < 0
  · go_wp2
    go_ret
    exact ⟨-1, rfl, by omega, by omega, fun h => by omega, HB2.out⟩
  obtain ⟨_, _, x8, x9, x10⟩ := HX2.out
  go_wp2_with fail
  refine (hql.out _ _ HB2.out (by omega) (by omega)).mono ?_
  rintro e w3 ⟨r3, rfl, ra3, rb3, rc3, hB3⟩
  have HB3 : Hid (Below w.heap.size w w3) := HB2.out.trans (hB3.mono HB2.out.size)
  have HC3 := hide rc3
  clear hB3 rc3 HX2 HB2 hql x8 x9 x10
  by_cases g5 : r3 < 0
  · go_wp2
    go_ret
    exact ⟨-1, rfl, by omega, by omega, fun h => by omega, HB3.out⟩
  go_wp2
  go_ret
  refine ⟨r3, rfl, by omega, by omega, fun h => ?_, HB3.out⟩
  obtain ⟨a1, a2, a3⟩ := HC1.out (by omega)
  obtain ⟨b1, b2, b3⟩ := HC2.out (by omega)
  obtain ⟨c1, c2, c3⟩ := HC3.out (by omega)
  exact ⟨⟨a1, a2⟩, ⟨b1, b2⟩, ⟨c1, c2⟩, by omega⟩

set_option maxHeartbeats 1600000 in
theorem szStepS_of (F : Ps) (ih : ∀ i sn b e, F.get i = some (sn, b, e) → PSzP b ∧ PSzP e) : PSzP F := by
  intro v w left h0 h1 hwf hr
  obtain ⟨ad, cap, rfl, hc, hm, hx⟩ := hr
  unfold maxLen at hm
  by_cases hl : left - F.len < 0
  · generalize F.len = N at *
    go_enter Tryz.func20, Tryz.ntmps20
    go_wp2
    go_ret
    exact ⟨-1, rfl, by omega, by omega, fun h => by omega, Below.refl _ _⟩
  · have hN : F.len ≤ 1048576 := by omega
    have HX := hide hx
    have IH := hide ih
    have HW := hide hwf
    clear hx ih hwf
    go_enter Tryz.func20, Tryz.ntmps20
    go_wp2_with fail
    go_loopw [1, 5] (fun lv iv wr => ∃ (i : Nat) (r : Int), i ≤ F.len ∧ iv = .int .i64 i ∧ lv = .int .i64 r ∧ 0 ≤ r ∧ r ≤ left ∧ Hid (r + F.kn i + F.len ≤ left) ∧ Hid (r + F.kw i + F.len ≤ left) ∧ Hid (∀ j sn b e, j < i → F.get j = some (sn, b, e) → (sn.ek.len ≤ 1048576 ∧ sn.ek.Sm) ∧ (b.len ≤ 1048576 ∧ b.Sm) ∧ (e.len ≤ 1048576 ∧ e.Sm)) ∧ Below w.heap.size w wr) (fun _ iv _ => F.len - (intOf iv).toNat)
    case atStart => exact ⟨0, left - F.len, by omega, rfl, rfl, by omega, by omega, hide (by rw [F.kn_zero]; omega), hide (by rw [F.kw_zero]; omega), hide (fun j _ _ _ hj => by omega), Below.refl _ _⟩
    case round =>
      obtain ⟨i, r, hi, rfl, rfl, hr0, hr1, HKN, HKW, HS, hB⟩ := hrel
      by_cases hlt : i < F.len
      · obtain ⟨g, off, rfl, _, hg, hfo⟩ := HX.out (by omega)
        obtain ⟨sn, b, e, hget⟩ := F.get_some i hlt
        obtain ⟨ve, vb, vl, hst⟩ := hfo.get hget
        obtain ⟨⟨d0, d1, d2, d3, d4, d5, d6, d7⟩, ⟨d8, q8⟩, ⟨d9, q9⟩, ⟨d10, q10⟩⟩ := hst.later hB hg
        obtain ⟨⟨w1, w2, w3, w4, w5⟩, w6, w7⟩ := HW.out.get hget
        have hq := hide (szStep_of sn b e (IH.out i sn b e hget).1 (IH.out i sn b e hget).2 w1 w2 w3 w4 w5 w6 w7 ve vb vl wr r hr0 (by omega) q8 q9 q10)
        have HG := hide hget
        obtain ⟨_, _, rfl, _, _, _⟩ := q8
        obtain ⟨_, _, rfl, _, _, _⟩ := q9
        obtain ⟨_, _, rfl, _, _, _⟩ := q10
        clear hfo hst hget w3 w4 w5 w6 w7
        have hii : (i : Int) < (F.len : Int) := by omega
        go_wp2_with fail
        refine hq.out.mono ?_
        rintro e' w3 ⟨r', rfl, hs0, hs1, hs2, hB3⟩
        have HS2 := hide hs2
        clear hs2 hq d0 d1 d2 d3 d4 d5 d6 d7 d8 d9 d10
        by_cases h4 : r' < 0
        · go_wp2
          go_ret
          exact ⟨-1, rfl, by omega, by omega, fun h => by omega, hB.trans (hB3.mono hB.size)⟩
        · go_wp2
          go_roundw
          case rel =>
            refine ⟨i + 1, r', by omega, by go_num, rfl, by omega, by omega, hide (by have h1 := (HS2.out (by omega)).2.2.2; have h2 := HKN.out; have h3 := F.kn_succ i sn b e HG.out; omega), hide (by have h1 := (HS2.out (by omega)).2.2.2; have h2 := HKW.out; have h3 := F.kw_succ i sn b e HG.out; omega), hide fun j sn' b' e'' hj hk => ?_, hB.trans (hB3.mono hB.size)⟩
            by_cases hji : j = i
            · subst hji
              rw [HG.out] at hk
              cases hk
              exact ⟨(HS2.out (by omega)).1, (HS2.out (by omega)).2.1, (HS2.out (by omega)).2.2.1⟩
            · exact HS.out j sn' b' e'' (by omega) hk
          case measure => simp [intOf]; omega
      · go_wp2
        go_ret
        have hie : i = F.len := by omega
        refine ⟨r, rfl, by omega, hr1, fun _ => ⟨hN, Ps.Sm.of_get fun j sn b e hj => HS.out j sn b e (by have := Ps.get_lt hj; omega) hj, ⟨by have h2 := HKN.out; have h3 := F.kn_all; rw [hie] at h2; omega, by have h2 := HKW.out; have h3 := F.kw_all; rw [hie] at h2; omega⟩⟩, hB⟩
theorem szStepS_fuel : ∀ (n : Nat) (F : Ps), F.nodes ≤ n → PSzP F
  | 0, F, h => szStepS_of F fun i sn b e hk => by have := F.get_nodes i sn b e hk; omega
  | n + 1, F, h => szStepS_of F fun i sn b e hk => ⟨szStepS_fuel n b (by have := F.get_nodes i sn b e hk; omega), szStepS_fuel n e (by have := F.get_nodes i sn b e hk; omega)⟩
theorem szStepS_any (F : Ps) : PSzP F := szStepS_fuel F.nodes F (Nat.le_refl _)
end Go.Proofs.YtnikomgdcddchaaGreat

/- How large steps are, as the laws count. -/
import Derived.Test.YtckdpdlkjgjadaaPTree
import Derived.Test.YtckdpdlkjgjadaaSz
namespace Go.Proofs.Ytckdpdlkjgjadaa
open Go.RowKit
set_option linter.unusedVariables false
namespace Ps
/-- the steps within the first i -/
def kn : Ps → Nat → Nat
  | nil, _ => 0
  | cons _ _ _ _, 0 => 0
  | cons _ b e r, i + 1 => b.nodes + e.nodes + r.kn i
theorem kn_zero (F : Ps) : F.kn 0 = 0 := by cases F <;> rfl
theorem kn_succ : ∀ (F : Ps) (i : Nat) (sn : Sn) (b e : Ps), F.get i = some (sn, b, e) → F.kn (i + 1) = F.kn i + (b.nodes + e.nodes)
  | nil, i, sn, b, e, h => by simp [get] at h
  | cons sn' b' e' r, 0, sn, b, e, h => by
    simp only [get, Option.some.injEq, Prod.mk.injEq] at h
    obtain ⟨rfl, rfl, rfl⟩ := h
    simp [kn, kn_zero]
  | cons sn' b' e' r, i + 1, sn, b, e, h => by
    have := kn_succ r i sn b e h
    simp only [kn] at this ⊢
    omega
theorem kn_all : ∀ (F : Ps), F.kn F.len + F.len = F.nodes
  | nil => rfl
  | cons sn b e r => by
    have := kn_all r
    simp only [kn, len, nodes]
    omega
theorem kn_le : ∀ (F : Ps) (i : Nat), F.kn i ≤ F.kn F.len
  | nil, i => Nat.le_refl _
  | cons sn b e r, 0 => by simp [kn]
  | cons sn b e r, i + 1 => by
    have := kn_le r i
    simp only [kn, len]
    omega
end Ps
def PSzPost (F : Ps) (left : Int) (w : World) (e : Ending) (w' : World) : Prop :=
  ∃ r : Int, e = .returned (.int .i64 r) ∧ -1 ≤ r ∧ r ≤ left ∧ (0 ≤ r → F.len ≤ 1048576 ∧ F.Sm ∧ r + F.nodes ≤ left) ∧ Below w.heap.size w w'
def PSzP (F : Ps) : Prop := ∀ (v : Value) (w : World) (left : Int), 0 ≤ left → left ≤ 1048576 → F.Wf → PRow 0 w F v → Calls Try.prog 39 #[v, .int .i64 left] w (PSzPost F left w)
def StSzPost (sn : Sn) (b l : Ps) (left : Int) (w : World) (e : Ending) (w' : World) : Prop :=
  ∃ r : Int, e = .returned (.int .i64 r) ∧ -1 ≤ r ∧ r ≤ left ∧ (0 ≤ r → (sn.ek.len ≤ 1048576 ∧ sn.ek.Sm) ∧ (b.len ≤ 1048576 ∧ b.Sm) ∧ (l.len ≤ 1048576 ∧ l.Sm) ∧ r + (b.nodes + l.nodes) ≤ left) ∧ Below w.heap.size w w'

/-- the eleven cells of a boxed step, later too -/
def Box11 (b : Nat) (sn : Sn) (ve vb vl : Value) (W : World) : Prop :=
  b < W.heap.size ∧ StC W b 0 sn ∧ W.cell? ⟨b, 8, none⟩ = some ve ∧ W.cell? ⟨b, 9, none⟩ = some vb ∧ W.cell? ⟨b, 10, none⟩ = some vl
theorem Box11.mk {sn : Sn} {ve vb vl : Value} {T : TypeId} (w : World) : Box11 w.heap.size sn ve vb vl (w.alloc (.cells #[.int .i64 sn.k, .string sn.nm, .string sn.wh, .int .i64 sn.ex.k, .int .i64 sn.ex.vk, .int .i64 sn.ex.vn, .string sn.ex.vt, .string sn.ex.nm, ve, vb, vl] T)) := by
  refine ⟨by simp, ⟨?_, ?_, ?_, ?_, ?_, ?_, ?_, ?_⟩, ?_, ?_, ?_⟩ <;> simp
theorem Box11.later {b : Nat} {sn : Sn} {ve vb vl : Value} {W W1 : World} (h : Box11 b sn ve vb vl W) (hB : Below W.heap.size W W1) : Box11 b sn ve vb vl W1 := by
  obtain ⟨hb, hc, h8, h9, h10⟩ := h
  have C : ∀ o, W1.cell? ⟨b, o, none⟩ = W.cell? ⟨b, o, none⟩ := fun o => hB.cell (p := ⟨b, o, none⟩) hb
  exact ⟨by have := hB.size; omega, hc.later hB hb, (C _).trans h8, (C _).trans h9, (C _).trans h10⟩

set_option maxHeartbeats 1600000 in
theorem szStep_of (sn : Sn) (b l : Ps) (hkb : PSzP b) (hkl : PSzP l) (hw1 : sn.nm.size ≤ maxLen) (hw2 : sn.wh.size ≤ maxLen) (hw3 : sn.ex.vt.size ≤ maxLen) (hw4 : sn.ex.nm.size ≤ maxLen) (hw5 : sn.ek.Wf) (hwb : b.Wf) (hwl : l.Wf) (ve vb vl : Value) (w : World) (left : Int) (h0 : 0 ≤ left) (h1 : left ≤ 1048576) (hre : RowAt 0 w sn.ek ve) (hrb : PRow 0 w b vb) (hrl : PRow 0 w l vl) :
    Calls Try.prog 59 #[snV sn ve vb vl, .int .i64 left] w (StSzPost sn b l left w) := by
  have hq : Hid (∀ W lf, Below w.heap.size w W → 0 ≤ lf → lf ≤ 1048576 → Calls Try.prog 7 #[ndV sn.ex ve, .int .i64 lf] W (SzPost sn.ek lf W)) := fun W lf hW l0 l1 => szExpr_of sn.ex sn.ek (szExprS_any _) hw3 hw4 hw5 ve W lf l0 l1 (hre.later hW)
  have hqb : Hid (∀ W lf, Below w.heap.size w W → 0 ≤ lf → lf ≤ 1048576 → Calls Try.prog 39 #[vb, .int .i64 lf] W (PSzPost b lf W)) := fun W lf hW l0 l1 => hkb vb W lf l0 l1 hwb (hrb.later hW)
  have hql : Hid (∀ W lf, Below w.heap.size w W → 0 ≤ lf → lf ≤ 1048576 → Calls Try.prog 39 #[vl, .int .i64 lf] W (PSzPost l lf W)) := fun W lf hW l0 l1 => hkl vl W lf l0 l1 hwl (hrl.later hW)
  clear hkb hkl hw3 hw4 hw5 hwb hwl
  obtain ⟨ade, cape, rfl, _, _, _⟩ := hre
  obtain ⟨adb, capb, rfl, _, _, _⟩ := hrb
  obtain ⟨adl, capl, rfl, _, _, _⟩ := hrl
  have HA : Hid (Below w.heap.size w (w.alloc (.cells #[.int .i64 sn.k, .string sn.nm, .string sn.wh, .int .i64 sn.ex.k, .int .i64 sn.ex.vk, .int .i64 sn.ex.vn, .string sn.ex.vt, .string sn.ex.nm, .slice ade sn.ek.len cape, .slice adb b.len capb, .slice adl l.len capl] 93))) := (Below.refl _ _).alloc (Nat.le_refl _) _
  have HX := hide (Box11.mk (sn := sn) (ve := .slice ade sn.ek.len cape) (vb := .slice adb b.len capb) (vl := .slice adl l.len capl) (T := 93) w)
  unfold maxLen at hw1 hw2
  by_cases g1 : left - sn.nm.size < 0
  · go_enter Try.func59, Try.ntmps59
    go_wp2
    go_ret
    exact ⟨-1, rfl, by omega, by omega, fun h => by omega, HA.out⟩
  by_cases g2 : left - sn.nm.size - sn.wh.size < 0
  · go_enter Try.func59, Try.ntmps59
    go_wp2
    go_ret
    exact ⟨-1, rfl, by omega, by omega, fun h => by omega, HA.out⟩
  go_enter Try.func59, Try.ntmps59
  go_wp2_with fail
  refine (hq.out _ _ HA.out (by omega) (by omega)).mono ?_
  rintro e w1 ⟨r1, rfl, ra1, rb1, rc1, hB1⟩
  have HB1 : Hid (Below w.heap.size w w1) := HA.out.trans (hB1.mono (by simp))
  have HX1 := hide (HX.out.later hB1)
  have HC1 := hide rc1
  clear hB1 rc1 HX HA hq
  by_cases g3 : r1 < 0
  · go_wp2
    go_ret
    exact ⟨-1, rfl, by omega, by omega, fun h => by omega, HB1.out⟩
  obtain ⟨_, _, x8, x9, x10⟩ := HX1.out
  go_wp2_with fail
  refine (hqb.out _ _ HB1.out (by omega) (by omega)).mono ?_
  rintro e w2 ⟨r2, rfl, ra2, rb2, rc2, hB2⟩
  have HB2 : Hid (Below w.heap.size w w2) := HB1.out.trans (hB2.mono HB1.out.size)
  have HX2 := hide (HX1.out.later hB2)
  have HC2 := hide rc2
  clear hB2 rc2 HX1 HB1 hqb x8 x9 x10
  by_cases g4 : r2 < 0
  · go_wp2
    go_ret
    exact ⟨-1, rfl, by omega, by omega, fun h => by omega, HB2.out⟩
  obtain ⟨_, _, x8, x9, x10⟩ := HX2.out
  go_wp2_with fail
  refine (hql.out _ _ HB2.out (by omega) (by omega)).mono ?_
  rintro e w3 ⟨r3, rfl, ra3, rb3, rc3, hB3⟩
  have HB3 : Hid (Below w.heap.size w w3) := HB2.out.trans (hB3.mono HB2.out.size)
  have HC3 := hide rc3
  clear hB3 rc3 HX2 HB2 hql x8 x9 x10
  by_cases g5 : r3 < 0
  · go_wp2
    go_ret
    exact ⟨-1, rfl, by omega, by omega, fun h => by omega, HB3.out⟩
  go_wp2
  go_ret
  refine ⟨r3, rfl, by omega, by omega, fun h => ?_, HB3.out⟩
  obtain ⟨a1, a2, a3⟩ := HC1.out (by omega)
  obtain ⟨b1, b2, b3⟩ := HC2.out (by omega)
  obtain ⟨c1, c2, c3⟩ := HC3.out (by omega)
  exact ⟨⟨a1, a2⟩, ⟨b1, b2⟩, ⟨c1, c2⟩, by omega⟩

set_option maxHeartbeats 1600000 in
theorem szStepS_of (F : Ps) (ih : ∀ i sn b e, F.get i = some (sn, b, e) → PSzP b ∧ PSzP e) : PSzP F := by
  intro v w left h0 h1 hwf hr
  obtain ⟨ad, cap, rfl, hc, hm, hx⟩ := hr
  unfold maxLen at hm
  by_cases hl : left - F.len < 0
  · generalize F.len = N at *
    go_enter Try.func39, Try.ntmps39
    go_wp2
    go_ret
    exact ⟨-1, rfl, by omega, by omega, fun h => by omega, Below.refl _ _⟩
  · have hN : F.len ≤ 1048576 := by omega
    have HX := hide hx
    have IH := hide ih
    have HW := hide hwf
    clear hx ih hwf
    go_enter Try.func39, Try.ntmps39
    go_wp2_with fail
    go_loopw [1, 5] (fun lv iv wr => ∃ (i : Nat) (r : Int), i ≤ F.len ∧ iv = .int .i64 i ∧ lv = .int .i64 r ∧ 0 ≤ r ∧ r ≤ left ∧ Hid (r + F.kn i + F.len ≤ left) ∧ Hid (∀ j sn b e, j < i → F.get j = some (sn, b, e) → (sn.ek.len ≤ 1048576 ∧ sn.ek.Sm) ∧ (b.len ≤ 1048576 ∧ b.Sm) ∧ (e.len ≤ 1048576 ∧ e.Sm)) ∧ Below w.heap.size w wr) (fun _ iv _ => F.len - (intOf iv).toNat)
    case atStart => exact ⟨0, left - F.len, by omega, rfl, rfl, by omega, by omega, hide (by rw [F.kn_zero]; omega), hide (fun j _ _ _ hj => by omega), Below.refl _ _⟩
    case round =>
      obtain ⟨i, r, hi, rfl, rfl, hr0, hr1, HKN, HS, hB⟩ := hrel
      by_cases hlt : i < F.len
      · obtain ⟨g, off, rfl, _, hg, hfo⟩ := HX.out (by omega)
        obtain ⟨sn, b, e, hget⟩ := F.get_some i hlt
        obtain ⟨ve, vb, vl, hst⟩ := hfo.get hget
        obtain ⟨⟨d0, d1, d2, d3, d4, d5, d6, d7⟩, ⟨d8, q8⟩, ⟨d9, q9⟩, ⟨d10, q10⟩⟩ := hst.later hB hg
        obtain ⟨⟨w1, w2, w3, w4, w5⟩, w6, w7⟩ := HW.out.get hget
        have hq := hide (szStep_of sn b e (IH.out i sn b e hget).1 (IH.out i sn b e hget).2 w1 w2 w3 w4 w5 w6 w7 ve vb vl wr r hr0 (by omega) q8 q9 q10)
        have HG := hide hget
        obtain ⟨_, _, rfl, _, _, _⟩ := q8
        obtain ⟨_, _, rfl, _, _, _⟩ := q9
        obtain ⟨_, _, rfl, _, _, _⟩ := q10
        clear hfo hst hget w3 w4 w5 w6 w7
        have hii : (i : Int) < (F.len : Int) := by omega
        go_wp2_with fail
        refine hq.out.mono ?_
        rintro e' w3 ⟨r', rfl, hs0, hs1, hs2, hB3⟩
        have HS2 := hide hs2
        clear hs2 hq d0 d1 d2 d3 d4 d5 d6 d7 d8 d9 d10
        by_cases h4 : r' < 0
        · go_wp2
          go_ret
          exact ⟨-1, rfl, by omega, by omega, fun h => by omega, hB.trans (hB3.mono hB.size)⟩
        · go_wp2
          go_roundw
          case rel =>
            refine ⟨i + 1, r', by omega, by go_num, rfl, by omega, by omega, hide (by have h1 := (HS2.out (by omega)).2.2.2; have h2 := HKN.out; have h3 := F.kn_succ i sn b e HG.out; omega), hide fun j sn' b' e'' hj hk => ?_, hB.trans (hB3.mono hB.size)⟩
            by_cases hji : j = i
            · subst hji
              rw [HG.out] at hk
              cases hk
              exact ⟨(HS2.out (by omega)).1, (HS2.out (by omega)).2.1, (HS2.out (by omega)).2.2.1⟩
            · exact HS.out j sn' b' e'' (by omega) hk
          case measure => simp [intOf]; omega
      · go_wp2
        go_ret
        have hie : i = F.len := by omega
        refine ⟨r, rfl, by omega, hr1, fun _ => ⟨hN, Ps.Sm.of_get fun j sn b e hj => HS.out j sn b e (by have := Ps.get_lt hj; omega) hj, by have h2 := HKN.out; have h3 := F.kn_all; rw [hie] at h2; omega⟩, hB⟩
theorem szStepS_fuel : ∀ (n : Nat) (F : Ps), F.nodes ≤ n → PSzP F
  | 0, F, h => szStepS_of F fun i sn b e hk => by have := F.get_nodes i sn b e hk; omega
  | n + 1, F, h => szStepS_of F fun i sn b e hk => ⟨szStepS_fuel n b (by have := F.get_nodes i sn b e hk; omega), szStepS_fuel n e (by have := F.get_nodes i sn b e hk; omega)⟩
theorem szStepS_any (F : Ps) : PSzP F := szStepS_fuel F.nodes F (Nat.le_refl _)
end Go.Proofs.Ytckdpdlkjgjadaa

/- Whether steps have their form, as the specification has it: at every kind and depth. -/
import Derived.Test.YtckdpdlkjgjadaaPFm1
import Derived.Test.YtckdpdlkjgjadaaPFm2
import Derived.Test.YtckdpdlkjgjadaaPFm3
namespace Go.Proofs.Ytckdpdlkjgjadaa
open Go.RowKit
set_option linter.unusedVariables false

theorem formBy_bad {k : Int} {nm wh : ByteArray} {ex : Nd} {ek : Fo} {bl el : Nat} {fb fe : Bool} (hok : Pl.okN ex ek 5 = false) (k7 : k ≠ 7) (k9 : k ≠ 9) : Pl.formBy ⟨k, nm, wh, ex, ek⟩ bl el fb fe = false := by
  unfold Pl.formBy
  simp only [hok, k7, k9, Bool.false_and, Bool.and_false, or_self, if_false, ite_self]
theorem l3Form_of (sn : Sn) (b l : Ps) (d : Nat) (hd : 1 ≤ d) (hd4 : d ≤ 4) (hkb : FmP 41 b (d - 1)) (hkl : FmP 41 l (d - 1)) (he : sn.ek.len ≤ 1048576 ∧ sn.ek.Sm) (hb : b.len ≤ 1048576 ∧ b.Sm) (hl : l.len ≤ 1048576 ∧ l.Sm)
    (hw : sn.nm.size ≤ maxLen ∧ sn.wh.size ≤ maxLen ∧ sn.ex.vt.size ≤ maxLen ∧ sn.ex.nm.size ≤ maxLen ∧ sn.ek.Wf) (hwb : b.Wf) (hwl : l.Wf) (ve vb vl : Value) (w : World) (hre : RowAt 0 w sn.ek ve) (hrb : PRow 0 w b vb) (hrl : PRow 0 w l vl) :
    Calls Try.prog 63 #[snV sn ve vb vl, .int .i64 d] w fun e w' => e = .returned (.bool (Pl.formS sn b l d)) ∧ Below w.heap.size w w' := by
  obtain ⟨k, nm, wh, ⟨xk, xvk, xvn, xvt, xnm⟩, ek⟩ := sn
  obtain ⟨w1, w2, w3, w4, w5⟩ := hw
  unfold Pl.formS
  cases hok : Pl.okN ⟨xk, xvk, xvn, xvt, xnm⟩ ek 5
  · by_cases k7 : k = 7
    · subst k7
      exact l3Form_no7 nm wh xk xvk xvn xvt xnm ek b l d hd hd4 he.1 he.2 hb.1 hb.2 hl.1 hl.2 w1 w2 w3 w4 w5 hwb hwl ve vb vl w hre hrb hrl hok
    by_cases k9 : k = 9
    · subst k9
      exact l3Form_no9 nm wh xk xvk xvn xvt xnm ek b l d hd hd4 he.1 he.2 hb.1 hb.2 hl.1 hl.2 w1 w2 w3 w4 w5 hwb hwl ve vb vl w hre hrb hrl hok
    rw [formBy_bad hok k7 k9]
    exact l3Form_bad k nm wh xk xvk xvn xvt xnm ek b l d hd hd4 he.1 he.2 hb.1 hl.1 w1 w2 w3 w4 w5 ve vb vl w hre hrb hrl hok k7 k9
  · by_cases k3 : k = 3
    · subst k3
      exact l3Form_ok3 nm wh xk xvk xvn xvt xnm ek b l d hd hd4 hkb hkl he.1 he.2 hb.1 hb.2 hl.1 hl.2 w1 w2 w3 w4 w5 hwb hwl ve vb vl w hre hrb hrl hok
    by_cases k4 : k = 4
    · subst k4
      exact l3Form_ok4 nm wh xk xvk xvn xvt xnm ek b l d hd hd4 hkb hkl he.1 he.2 hb.1 hb.2 hl.1 hl.2 w1 w2 w3 w4 w5 hwb hwl ve vb vl w hre hrb hrl hok
    exact l3Form_ok k nm wh xk xvk xvn xvt xnm ek b l d hd hd4 he.1 he.2 hb.1 hb.2 hl.1 hl.2 w1 w2 w3 w4 w5 hwb hwl ve vb vl w hre hrb hrl hok k3 k4

set_option maxHeartbeats 1600000 in
theorem l3Body_of (F : Ps) (d : Nat) (hd4 : d ≤ 4) (ih : 1 ≤ d → ∀ i sn b e, F.get i = some (sn, b, e) → FmP 41 b (d - 1) ∧ FmP 41 e (d - 1)) : FmP 41 F d := by
  intro v w hwf hl hs hr
  obtain ⟨ad, cap, rfl, hc, hm, hx⟩ := hr
  unfold maxLen at hm
  have HX := hide hx
  have IH := hide ih
  have HW := hide hwf
  have HS0 := hide hs
  clear hx ih hwf hs
  by_cases hd : 1 ≤ d
  · have dl : ((d : Int) < 1) = False := by simp; omega
    have hin := hide (in_any F.len 1 8)
    by_cases hlen : 1 ≤ F.len ∧ F.len ≤ 8
    · have hN : Hid (Pl.bodyB F d = Pl.formF F d) := by show _ = _; simp [Pl.bodyB, hd, hlen]
      have hi1 : (decide ((1 : Int) ≤ F.len) && decide ((F.len : Int) ≤ 8)) = true := by simp; omega
      rw [hi1] at hin
      clear hi1
      go_enter Try.func41, Try.ntmps41
      go_wp2_with fail
      refine (hin.out _).mono ?_
      rintro e w1 ⟨rfl, rfl⟩
      go_wp2_with fail
      go_loopw [5] (fun iv wr => ∃ i : Nat, i ≤ F.len ∧ iv = .int .i64 i ∧ Hid (∀ j sn b e, j < i → F.get j = some (sn, b, e) → Pl.formS sn b e d = true) ∧ Hid (Below w1.heap.size w1 wr)) (fun iv _ => F.len - (intOf iv).toNat)
      case atStart => exact ⟨0, by omega, rfl, hide (fun j _ _ _ hj => by omega), hide (Below.refl _ _)⟩
      case round =>
        obtain ⟨i, hi, rfl, HS, hB⟩ := hrel
        by_cases hlt : i < F.len
        · obtain ⟨g, off, rfl, _, hg, hfo⟩ := HX.out (by omega)
          obtain ⟨sn, b, e, hget⟩ := F.get_some i hlt
          obtain ⟨ve, vb, vl, hst⟩ := hfo.get hget
          obtain ⟨⟨d0, d1, d2, d3, d4, d5, d6, d7⟩, ⟨d8, q8⟩, ⟨d9, q9⟩, ⟨d10, q10⟩⟩ := hst.later hB.out hg
          obtain ⟨s1, s2, s3⟩ := HS0.out.get hget
          obtain ⟨x1, x2, x3⟩ := HW.out.get hget
          have hq := hide (l3Form_of sn b e d hd hd4 (IH.out hd i sn b e hget).1 (IH.out hd i sn b e hget).2 s1 s2 s3 x1 x2 x3 ve vb vl wr q8 q9 q10)
          have HG := hide hget
          obtain ⟨_, _, rfl, _, _, _⟩ := q8
          obtain ⟨_, _, rfl, _, _, _⟩ := q9
          obtain ⟨_, _, rfl, _, _, _⟩ := q10
          clear hfo hst hget s1 s2 s3 x1 x2 x3
          have hii : (i : Int) < (F.len : Int) := by omega
          go_wp2_with fail
          refine hq.out.mono ?_
          rintro e' w4 ⟨rfl, hB4⟩
          have HB4 : Hid (Below w1.heap.size w1 w4) := hB.out.trans (hB4.mono hB.out.size)
          clear hq d0 d1 d2 d3 d4 d5 d6 d7 d8 d9 d10 hB4
          cases hon : Pl.formS sn b e d
          · have hall : Hid (Pl.formF F d = false) := Pl.formF_not F d i sn b e HG.out hon
            go_wp2
            go_ret
            exact ⟨by rw [hN.out, hall.out]; rfl, HB4.out⟩
          · have HS' : Hid (∀ j sn b e, j < i + 1 → F.get j = some (sn, b, e) → Pl.formS sn b e d = true) := by
              refine hide fun j sn' b' e' hj hk => ?_
              by_cases hji : j = i
              · subst hji
                rw [HG.out] at hk
                cases hk
                exact hon
              · exact HS.out j sn' b' e' (by omega) hk
            clear hon
            go_wp2
            go_roundw
            case rel => exact ⟨i + 1, by omega, by go_num, HS', HB4⟩
            case measure => simp [intOf]; omega
        · have hie : i = F.len := by omega
          have hall : Hid (Pl.formF F d = true) := hide (Pl.formF_all F d fun j sn b e hk => HS.out j sn b e (by have := Ps.get_lt hk; omega) hk)
          go_wp2
          go_ret
          exact ⟨by rw [hN.out, hall.out]; rfl, hB.out⟩
    · have hN : Hid (Pl.bodyB F d = false) := by
        show _ = _
        by_cases h1 : 1 ≤ F.len
        · have h2 : ¬ F.len ≤ 8 := fun h => hlen ⟨h1, h⟩
          simp [Pl.bodyB, h2]
        · simp [Pl.bodyB, h1]
      have hi1 : (decide ((1 : Int) ≤ F.len) && decide ((F.len : Int) ≤ 8)) = false := by
        simp only [Bool.and_eq_false_iff, decide_eq_false_iff_not]
        omega
      rw [hi1] at hin
      clear hi1 hlen
      go_enter Try.func41, Try.ntmps41
      go_wp2_with fail
      refine (hin.out _).mono ?_
      rintro e w1 ⟨rfl, rfl⟩
      go_wp2
      go_ret
      exact ⟨by rw [hN.out]; rfl, Below.refl _ _⟩
  · have hd0 : d = 0 := by omega
    subst hd0
    have hN : Hid (Pl.bodyB F 0 = false) := by show _ = _; simp [Pl.bodyB]
    go_enter Try.func41, Try.ntmps41
    go_wp2
    go_ret
    exact ⟨by rw [hN.out]; rfl, Below.refl _ _⟩
theorem l3Body_any : ∀ (d : Nat) (F : Ps), d ≤ 4 → FmP 41 F d
  | 0, F, h => l3Body_of F 0 h fun h1 => by omega
  | d + 1, F, h => l3Body_of F (d + 1) h fun _ i sn b e _ => ⟨l3Body_any d b (by omega), l3Body_any d e (by omega)⟩
end Go.Proofs.Ytckdpdlkjgjadaa

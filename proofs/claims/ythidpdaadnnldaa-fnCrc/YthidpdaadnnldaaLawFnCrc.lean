/- What DrawCrc draws, and the law on sums, walked. -/
import Derived.Test.YthidpdaadnnldaaCrc2
import Derived.Test.YthidpdaadnnldaaDw1
namespace Go.Proofs.Ythidpdaadnnldaa
open Go.RowKit
set_option linter.unusedVariables false
set_option linter.unusedSimpArgs false
set_option maxHeartbeats 800000 in
/-- many times a short text -/
theorem many_more (s : ByteArray) (n : Nat) (h : s.size * n ≤ 64) (hn : n ≤ 64) (hs : s.size ≤ 64) (W : World) :
    Calls Try.prog 26 #[.string s, .int .i64 n] W fun e W' => (∃ t : ByteArray, t.size ≤ 64 ∧ e = .returned (.string t)) ∧ W' = W := by
  go_enter Try.func26, Try.ntmps26
  go_wp2_with fail
  go_loop [0, 1, 5] (fun sv nv ov => ∃ (m : Nat) (t out : ByteArray), sv = .string t ∧ nv = .int .i64 m ∧ ov = .string out ∧ out.size + t.size * m ≤ 64 ∧ m ≤ 64 ∧ t.size ≤ 128) (fun _ nv _ => (intOf nv).toNat)
  case atStart => exact ⟨n, s, ⟨#[]⟩, rfl, rfl, rfl, by show 0 + s.size * n ≤ 64; omega, hn, by omega⟩
  case round =>
    obtain ⟨m, t, out, rfl, rfl, rfl, h1, h2, h3⟩ := hrel
    have H1 := hide h1
    have ho : out.size ≤ 64 := by omega
    clear h1
    by_cases hm : 0 < m
    · obtain ⟨q, hq | hq⟩ : ∃ q, m = 2 * q ∨ m = 2 * q + 1 := ⟨m / 2, by omega⟩
      · have e1 : (m : Int).tmod 2 = 0 := by rw [Int.tmod_eq_emod_of_nonneg (by omega)]; omega
        have e2 : (m : Int).tdiv 2 = (q : Int) := by rw [Int.tdiv_eq_ediv_of_nonneg (by omega)]; omega
        have hq12 : q ≤ 32 := by omega
        have hw : wrap64 (q : Int) = (q : Int) := by unfold wrap64; omega
        have hx : (t ++ t).size * q = t.size * m := by rw [drawn_sz2, hq, Nat.add_mul, Nat.two_mul, Nat.mul_add]
        have hy : t.size ≤ t.size * m := Nat.le_mul_of_pos_right _ hm
        have HQ := hide hq
        have HX := hide hx
        have HY := hide hy
        clear hq hx hy
        go_wp2
        go_round
        case rel => exact ⟨q, t ++ t, out, rfl, rfl, rfl, by rw [HX.out]; exact H1.out, by have := HQ.out; omega, by rw [drawn_sz2]; have := H1.out; have := HY.out; omega⟩
        case measure => have := HQ.out; simp [intOf]; omega
      · have e1 : (m : Int).tmod 2 = 1 := by rw [Int.tmod_eq_emod_of_nonneg (by omega)]; omega
        have e2 : (m : Int).tdiv 2 = (q : Int) := by rw [Int.tdiv_eq_ediv_of_nonneg (by omega)]; omega
        have hq12 : q ≤ 32 := by omega
        have hw : wrap64 (q : Int) = (q : Int) := by unfold wrap64; omega
        have hx : (t ++ t).size * q + t.size = t.size * m := by rw [drawn_sz2, hq, Nat.add_mul, Nat.mul_add, Nat.two_mul, Nat.mul_add, Nat.mul_one]
        have hy : t.size ≤ t.size * m := Nat.le_mul_of_pos_right _ hm
        have HQ := hide hq
        have HX := hide hx
        have HY := hide hy
        clear hq hx hy
        go_wp2
        go_round
        case rel => exact ⟨q, t ++ t, out ++ t, rfl, rfl, rfl, by rw [drawn_sz2 out t]; have := HX.out; have := H1.out; omega, by have := HQ.out; omega, by rw [drawn_sz2]; have := H1.out; have := HY.out; omega⟩
        case measure => have := HQ.out; simp [intOf]; omega
    · go_wp2
      go_ret
      exact ⟨⟨out, ho, rfl⟩, rfl⟩

def Sh64 (s : ByteArray) : Prop := s.size ≤ 64
set_option maxHeartbeats 1600000 in
theorem drawCrc_any (len : Nat) (c : Value) (W : World) (hc : CodeOk W.heap.size W c len) (hl : len ≤ 1048576) :
    Calls Try.prog 11 #[c] W fun e W' => (∃ s : ByteArray, Sh64 s ∧ e = .returned (.string s)) ∧ Below W.heap.size W W' := by
  have ho := hide (open_code W.heap.size len c W (Nat.le_refl _) hc hl)
  obtain ⟨ad, cap, rfl, hlc, hcm, _⟩ := hc
  unfold maxLen at hcm
  go_enter Try.func11, Try.ntmps11
  go_wp2_with fail
  refine ho.out.mono ?_
  rintro e W1 ⟨br, l2, rfl, hR, hbr, hB⟩
  have HR := hide hR
  have HB := hide hB
  have hlt := hR.lt
  clear hR hB ho
  go_wp2_with fail
  refine (pick_d (Dw.start HR.out) 40 (by omega) (by omega) (by omega)).mono ?_
  rintro e W2 ⟨x, hx, rfl, hD, _⟩
  have HD := hide hD
  have hm := hide (many_more ⟨#[0]⟩ x (by show 1 * x ≤ 64; omega) (by omega) (by decide))
  clear hD
  go_wp2_with fail
  refine (hm.out _).mono ?_
  rintro e W3 ⟨⟨t, ht, rfl⟩, rfl⟩
  have HT := hide ht
  clear hm ht
  have hlt3 := HD.out.lt
  go_wp2_with fail
  refine (of_d (HD.out.alloc _) Sh64 4 W3.heap.size 0 4 (by omega) (by omega) (by omega) (by omega) (among_lit ?_)).mono ?_
  · intro i hi
    have : i = 0 ∨ i = 1 ∨ i = 2 ∨ i = 3 := by omega
    rcases this with rfl | rfl | rfl | rfl
    · exact ⟨_, rfl, by show _ ≤ _; decide⟩
    · exact ⟨_, rfl, by show _ ≤ _; decide⟩
    · exact ⟨_, rfl, by show _ ≤ _; decide⟩
    · exact ⟨t, rfl, HT.out⟩
  · rintro e W4 ⟨s, hs, rfl, hD4, _⟩
    have HD4 := hide hD4
    have HS := hide hs
    clear hD4 hs
    go_wp2
    go_ret
    exact ⟨⟨s, HS.out, rfl⟩, HB.out.trans (gb_to HD4.out.gb (by omega) HB.out.size)⟩
set_option maxHeartbeats 1600000 in
theorem lawFnCrc (len : Nat) (c : Value) (W : World) (hc : CodeOk W.heap.size W c len) :
    Calls Try.prog 4 #[c] W fun e W' => e = .returned (.bool true) ∧ Below W.heap.size W W' := by
  by_cases hbig : 1048576 < len
  · obtain ⟨ad, cap, rfl, hlc, hcm, _⟩ := hc
    unfold maxLen at hcm
    have hb1 : (1048576 : Int) < (len : Int) := by omega
    go_enter Try.func4, Try.ntmps4
    go_wp2
    go_ret
    exact ⟨rfl, Below.refl _ _⟩
  have hd := hide (drawCrc_any len c W hc (by omega))
  obtain ⟨ad, cap, rfl, hlc, hcm, _⟩ := hc
  unfold maxLen at hcm
  have hb1 : ¬ ((1048576 : Int) < (len : Int)) := by omega
  have hk := implCrc_any ⟨#[49, 50, 51, 52, 53, 54, 55, 56, 57]⟩ (by decide)
  rw [Pl.crc_known] at hk
  have h0 := implCrc_any ⟨#[]⟩ (by decide)
  rw [Pl.crc_none] at h0
  have HK := hide hk
  have H0 := hide h0
  clear hk h0
  go_enter Try.func4, Try.ntmps4
  go_wp2_with fail
  refine hd.out.mono ?_
  rintro e W1 ⟨⟨s, hs, rfl⟩, hB1⟩
  have HB1 := hide hB1
  have hms : s.size ≤ maxLen := by unfold Sh64 at hs; unfold maxLen; omega
  have hi := hide (implCrc_any s hms)
  have hp := hide (specCrc_any s hms)
  have hlt := Pl.crc_lt s
  clear hB1 hs hms hd
  generalize Pl.crc s = R at *
  go_wp2_with fail
  refine (hi.out _).mono ?_
  rintro e W2 ⟨rfl, hB2⟩
  have HB2 := hide (HB1.out.trans (hB2.mono HB1.out.size))
  clear hB2 HB1
  go_wp2_with fail
  refine (hp.out _).mono ?_
  rintro e W3 ⟨rfl, rfl⟩
  go_wp2_with fail
  refine (HK.out _).mono ?_
  rintro e W4 ⟨rfl, hB4⟩
  have HB4 := hide (HB2.out.trans (hB4.mono HB2.out.size))
  clear hB4 HB2
  go_wp2_with fail
  refine (H0.out _).mono ?_
  rintro e W5 ⟨rfl, hB5⟩
  have HB5 := hide (HB4.out.trans (hB5.mono HB4.out.size))
  clear hB5 HB4
  have hl1 : (R : Int) ≤ 4294967295 := by omega
  go_wp2
  go_ret
  exact ⟨rfl, HB5.out⟩
end Go.Proofs.Ythidpdaadnnldaa

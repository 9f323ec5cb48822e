/- What was asked for, marked, and held against the marks. -/
import Derived.Test.YthkklmfjdjiafaaCaM0
namespace Go.Proofs.Ythkklmfjdjiafaa
open Go.RowKit
set_option linter.unusedVariables false
set_option linter.unusedSimpArgs false
def mkCms (k : Nat) : List Value := [(.int .i64 ((k + 0 : Nat) : Int) : Value), (.string (Pl.bs (Pl.mark (k + 1))) : Value), (.int .i64 ((k + 2 : Nat) : Int) : Value), (.int .i64 ((k + 3 : Nat) : Int) : Value), (.string (Pl.bs (Pl.mark (k + 4))) : Value)]
theorem nextCms {C : Array Value} {k i n : Nat} {z : Int} (hs : n * 5 ≤ C.size) (hi : i < n) (hz : z = ((k + 5 * i : Nat) : Int)) (hc : ∀ j, j < i → ∀ t u, (mkCms (k + 5 * j))[t]? = some u → C[j * 5 + t]? = some u)
    {a0 a1 a2 a3 a4 : Nat} (e0 : a0 = i * 5 + 0) (e1 : a1 = i * 5 + 1) (e2 : a2 = i * 5 + 2) (e3 : a3 = i * 5 + 3) (e4 : a4 = i * 5 + 4) :
    ∀ j, j < i + 1 → ∀ t u, (mkCms (k + 5 * j))[t]? = some u → (((((C.setIfInBounds a0 ((.int .i64 z : Value))).setIfInBounds a1 ((.string (Pl.bs (Pl.mark (k + 5 * i + 1))) : Value))).setIfInBounds a2 ((.int .i64 (z + 1 + 1) : Value))).setIfInBounds a3 ((.int .i64 (z + 1 + 1 + 1) : Value))).setIfInBounds a4 ((.string (Pl.bs (Pl.mark (k + 5 * i + 4))) : Value)))[j * 5 + t]? = some u := by
  intro j hj t u hu
  subst e0 e1 e2 e3 e4
  by_cases hji : j = i
  · subst hji
    have l0 : j * 5 + 0 < C.size := by omega
    have l1 : j * 5 + 1 < C.size := by omega
    have l2 : j * 5 + 2 < C.size := by omega
    have l3 : j * 5 + 3 < C.size := by omega
    have l4 : j * 5 + 4 < C.size := by omega
    match t, hu with
    | 0, hu =>
      obtain rfl : (.int .i64 ((k + 5 * j + 0 : Nat) : Int) : Value) = u := by simpa [mkCms] using hu
      have hv : (.int .i64 z : Value) = (.int .i64 ((k + 5 * j + 0 : Nat) : Int) : Value) := by rw [hz]; congr 1 <;> omega
      rw [Array.getElem?_setIfInBounds_ne (by omega)]
      rw [Array.getElem?_setIfInBounds_ne (by omega)]
      rw [Array.getElem?_setIfInBounds_ne (by omega)]
      rw [Array.getElem?_setIfInBounds_ne (by omega)]
      rw [Array.getElem?_setIfInBounds_self_of_lt (by simp; omega)]
      rw [hv]
    | 1, hu =>
      obtain rfl : (.string (Pl.bs (Pl.mark (k + 5 * j + 1))) : Value) = u := by simpa [mkCms] using hu
      rw [Array.getElem?_setIfInBounds_ne (by omega)]
      rw [Array.getElem?_setIfInBounds_ne (by omega)]
      rw [Array.getElem?_setIfInBounds_ne (by omega)]
      rw [Array.getElem?_setIfInBounds_self_of_lt (by simp; omega)]
      skip
    | 2, hu =>
      obtain rfl : (.int .i64 ((k + 5 * j + 2 : Nat) : Int) : Value) = u := by simpa [mkCms] using hu
      have hv : (.int .i64 (z + 1 + 1) : Value) = (.int .i64 ((k + 5 * j + 2 : Nat) : Int) : Value) := by rw [hz]; congr 1 <;> omega
      rw [Array.getElem?_setIfInBounds_ne (by omega)]
      rw [Array.getElem?_setIfInBounds_ne (by omega)]
      rw [Array.getElem?_setIfInBounds_self_of_lt (by simp; omega)]
      rw [hv]
    | 3, hu =>
      obtain rfl : (.int .i64 ((k + 5 * j + 3 : Nat) : Int) : Value) = u := by simpa [mkCms] using hu
      have hv : (.int .i64 (z + 1 + 1 + 1) : Value) = (.int .i64 ((k + 5 * j + 3 : Nat) : Int) : Value) := by rw [hz]; congr 1 <;> omega
      rw [Array.getElem?_setIfInBounds_ne (by omega)]
      rw [Array.getElem?_setIfInBounds_self_of_lt (by simp; omega)]
      rw [hv]
    | 4, hu =>
      obtain rfl : (.string (Pl.bs (Pl.mark (k + 5 * j + 4))) : Value) = u := by simpa [mkCms] using hu
      rw [Array.getElem?_setIfInBounds_self_of_lt (by simp; omega)]
      skip
    | t + 5, hu => simp [mkCms] at hu
  · have ht : t < 5 := by
      have := (List.getElem?_eq_some_iff.1 hu).1
      simpa [mkCms] using this
    have hlt : j < i := by omega
    have hlin : j * 5 + 5 ≤ i * 5 := by
      have := Nat.mul_le_mul_right 5 (show j + 1 ≤ i by omega)
      omega
    rw [Array.getElem?_setIfInBounds_ne (by omega)]
    rw [Array.getElem?_setIfInBounds_ne (by omega)]
    rw [Array.getElem?_setIfInBounds_ne (by omega)]
    rw [Array.getElem?_setIfInBounds_ne (by omega)]
    rw [Array.getElem?_setIfInBounds_ne (by omega)]
    exact hc j hlt t u hu
set_option maxRecDepth 100000 in
set_option maxHeartbeats 12800000 in
theorem markCms_any (n : Nat) (a : Option Addr) (c k : Nat) (h1 : 1 ≤ k) (h2 : k + 5 * n ≤ 100000000) (hnc : n ≤ c) (hcm : c ≤ maxLen) (w : World) (hr : RowM 86 5 mkCms k a n 0 w) :
    Calls Try.prog 33 #[.slice a n c, .int .i64 (k : Int)] w fun x w' => x = .returned (.int .i64 ((k + 5 * n : Nat) : Int)) ∧ RowM 86 5 mkCms k a n n w' ∧ w.grownBy w' (ownB a n) := by
  unfold maxLen at hcm
  have HR := hide hr
  clear hr
  go_enter Try.func33, Try.ntmps33
  go_wp2_with fail
  go_loopw [1, 5] (fun kv iv wr => ∃ (i : Nat) (z : Int), i ≤ n ∧ iv = .int .i64 i ∧ kv = .int .i64 z ∧ Hid (z = ((k + 5 * i : Nat) : Int)) ∧ Hid (RowM 86 5 mkCms k a n i wr) ∧ Hid (w.grownBy wr (ownB a n))) (fun _ iv _ => n - (intOf iv).toNat)
  case atStart => exact ⟨0, k, by omega, rfl, rfl, hide (by simp), HR, hide (gb_refl _ _)⟩
  case round =>
    obtain ⟨i, z, hi, rfl, rfl, HZ, HM, HG⟩ := hrel
    by_cases hlt : i < n
    · obtain ⟨b, C, rfl, hb, hs, hcont⟩ := HM.out (by omega)
      have HB0 := hide hb
      have HS := hide hs
      have HC := hide hcont
      have HG0 : Hid (w.grownBy wr (some b)) := by have h := HG.out; rw [ownB_some b (by omega)] at h; exact h
      have hz0 : 1 ≤ z := by have := HZ.out; omega
      have hz1 : z ≤ 100000000 := by have := HZ.out; omega
      have hii : (i : Int) < (n : Int) := by omega
      clear hb hs hcont HM HG HR
      obtain ⟨u0, c0⟩ : ∃ u, wr.cell? ⟨b, i * 5, none⟩ = some u := cell_in HB0.out (by (try simp only [Array.size_setIfInBounds]); have := HS.out; omega)
      have f0 : wr.frozen? ⟨b, i * 5, none⟩ = false := free_of_block HB0.out _
      go_wp2_with fail
      refine (markText_at _ (k + 5 * i + 1) (by have := HZ.out; omega) (by omega) (by omega) _).mono ?_
      rintro x0 Y0 ⟨rfl, hB0⟩
      have hbk := (block_set HB0.out (i * 5) (.int .i64 z : Value))
      have HB1 := hide ((hB0.block b (Array.getElem?_eq_some_iff.1 hbk).1).trans hbk)
      have HG1 := hide (gb_later (gb_set HG0.out) hB0)
      clear hB0 hbk c0 f0
      obtain ⟨u1, c1⟩ : ∃ u, Y0.cell? ⟨b, i * 5 + 1, none⟩ = some u := cell_in HB1.out (by (try simp only [Array.size_setIfInBounds]); have := HS.out; omega)
      have f1 : Y0.frozen? ⟨b, i * 5 + 1, none⟩ = false := free_of_block HB1.out _
      obtain ⟨u2, c2⟩ : ∃ u, Y0.cell? ⟨b, i * 5 + 2, none⟩ = some u := cell_in HB1.out (by (try simp only [Array.size_setIfInBounds]); have := HS.out; omega)
      have f2 : Y0.frozen? ⟨b, i * 5 + 2, none⟩ = false := free_of_block HB1.out _
      obtain ⟨u3, c3⟩ : ∃ u, Y0.cell? ⟨b, i * 5 + 3, none⟩ = some u := cell_in HB1.out (by (try simp only [Array.size_setIfInBounds]); have := HS.out; omega)
      have f3 : Y0.frozen? ⟨b, i * 5 + 3, none⟩ = false := free_of_block HB1.out _
      go_wp2_with fail
      refine (markText_at _ (k + 5 * i + 4) (by have := HZ.out; omega) (by omega) (by omega) _).mono ?_
      rintro x1 Y1 ⟨rfl, hB1⟩
      have hbk := (block_set (block_set (block_set HB1.out (i * 5 + 1) (.string (Pl.bs (Pl.mark (k + 5 * i + 1))) : Value)) (i * 5 + 2) (.int .i64 (z + 1 + 1) : Value)) (i * 5 + 3) (.int .i64 (z + 1 + 1 + 1) : Value))
      have HB2 := hide ((hB1.block b (Array.getElem?_eq_some_iff.1 hbk).1).trans hbk)
      have HG2 := hide (gb_later (gb_set (gb_set (gb_set HG1.out))) hB1)
      clear hB1 hbk c1 f1 c2 f2 c3 f3
      obtain ⟨u4, c4⟩ : ∃ u, Y1.cell? ⟨b, i * 5 + 4, none⟩ = some u := cell_in HB2.out (by (try simp only [Array.size_setIfInBounds]); have := HS.out; omega)
      have f4 : Y1.frozen? ⟨b, i * 5 + 4, none⟩ = false := free_of_block HB2.out _
      go_wp2_with fail
      go_roundw
      case rel => exact ⟨i + 1, _, by omega, by go_num, rfl, hide (by have := HZ.out; omega), hide (fun _ => ⟨b, _, rfl, (block_set HB2.out (i * 5 + 4) (.string (Pl.bs (Pl.mark (k + 5 * i + 4))) : Value)), by simp only [Array.size_setIfInBounds]; exact HS.out, nextCms HS.out hlt HZ.out HC.out (by omega) (by omega) (by omega) (by omega) (by omega)⟩), hide (by rw [ownB_some b (by omega)]; exact (gb_set HG2.out))⟩
      case measure => simp [intOf]; omega
    · have hie : i = n := by omega
      have HE : Hid (z = ((k + 5 * n : Nat) : Int)) := by rw [← hie]; exact HZ
      have HD : Hid (RowM 86 5 mkCms k a n n wr) := by rw [hie] at HM; exact HM
      clear hie
      go_wp2_with fail
      go_ret
      exact ⟨by rw [← HE.out]; rfl, HD.out, HG.out⟩
end Go.Proofs.Ythkklmfjdjiafaa

/- Items of a cache, marked: the walk. -/
import Derived.Test.YthkklmfjdjiafaaCaN
namespace Go.Proofs.Ythkklmfjdjiafaa
open Go.RowKit
set_option linter.unusedVariables false
set_option linter.unusedSimpArgs false
theorem RowM.grown_kind {T T2 : TypeId} {m m2 : Nat} {mk mk2 : Nat → List Value} {k k2 i i2 : Nat} {a a2 : Option Addr} {n n2 : Nat} {w w' : World} (h : RowM T m mk k a n i w) (h2 : RowM T2 m2 mk2 k2 a2 n2 i2 w) (hg : w.grownBy w' (ownB a2 n2)) (hT : T ≠ T2) : RowM T m mk k a n i w' :=
  h.keep (fun g D ha hgb => (Go.Proofs.Ythkklmfjdjiafaa.grown_kind h2 hg hgb hT).trans hgb.symm)
theorem ownB_range {a : Option Addr} {n lo hi : Nat} (h : 0 < n → ∃ b, a = some ⟨b, 0, none⟩ ∧ lo ≤ b ∧ b < hi) : ∀ g, ownB a n = some g → lo ≤ g ∧ g < hi := fun g hg => by
  obtain ⟨b, ha, h1, h2⟩ := h (ownB_pos hg)
  rw [ownB_in hg ha]
  exact ⟨h1, h2⟩
theorem get_set3 {C : Array Value} {i j a0 a1 a2 : Nat} {v0 v1 v2 : Value} (h0 : a0 ≠ j) (h1 : a1 ≠ j) (h2 : a2 ≠ j) : (((C.setIfInBounds a0 v0).setIfInBounds a1 v1).setIfInBounds a2 v2)[j]? = C[j]? := by
  rw [set_gets h2, set_gets h1, set_gets h0]
set_option maxRecDepth 100000 in
set_option maxHeartbeats 12800000 in
theorem markItemS_any (l : List It) (a : Option Addr) (c lo hi k : Nat) (h1 : 1 ≤ k) (h2 : k + itW l ≤ 100000000) (hnc : l.length ≤ c) (hcm : c ≤ maxLen) (w : World)
    (hx : 0 < l.length → ∃ b C s, a = some ⟨b, 0, none⟩ ∧ lo ≤ b ∧ b < hi ∧ lo ≤ s 0 ∧ s l.length ≤ hi ∧ MI l k 0 b C s w) :
    Calls Try.prog 26 #[.slice a l.length c, .int .i64 (k : Int)] w fun x w' => (∃ z : Int, x = .returned (.int .i64 z) ∧ z = ((k + itW l : Nat) : Int)) ∧ Mid lo hi w w' ∧ (0 < l.length → ∃ b C s, a = some ⟨b, 0, none⟩ ∧ lo ≤ b ∧ b < hi ∧ lo ≤ s 0 ∧ s l.length ≤ hi ∧ MI l k l.length b C s w') := by
  unfold maxLen at hcm
  have HX := hide hx
  clear hx
  go_enter Try.func26, Try.ntmps26
  go_wp2_with fail
  go_loopw [1, 5] (fun kv iv wr => ∃ (i : Nat) (z : Int), i ≤ l.length ∧ iv = .int .i64 i ∧ kv = .int .i64 z ∧ Hid (z = ((k + itW (l.take i) : Nat) : Int)) ∧ Hid (0 < l.length → ∃ b C s, a = some ⟨b, 0, none⟩ ∧ lo ≤ b ∧ b < hi ∧ lo ≤ s 0 ∧ s l.length ≤ hi ∧ MI l k i b C s wr) ∧ Hid (Mid lo hi w wr)) (fun _ iv _ => l.length - (intOf iv).toNat)
  case atStart => exact ⟨0, k, by omega, rfl, rfl, hide (by simp [itW]), HX, hide (Mid.refl _ _ _)⟩
  case round =>
    obtain ⟨i, z, hi', rfl, rfl, HZ, HM, HG⟩ := hrel
    by_cases hlt : i < l.length
    · obtain ⟨b, C, s, rfl, g1, g2, g3, g4, hMI⟩ := HM.out (by omega)
      obtain ⟨e, he⟩ : ∃ e, l[i]? = some e := ⟨_, List.getElem?_eq_getElem hlt⟩
      have HE := hide he
      have HMI := hide hMI
      have HBD := hide (And.intro g1 (And.intro g2 (And.intro g3 g4)))
      obtain ⟨hb, hs, hup, hall⟩ := hMI
      obtain ⟨ac, cc, ap, cp, e1, e2, e3, e4, e5, e6, e7, e8, e9, e10, _⟩ := hall i e he
      have hdf : decide (i < i) = false := by simp
      rw [hdf] at e9 e10
      simp only [Bool.false_eq_true, if_false] at e9 e10
      have hnx := itW_next he
      have hle : itW (l.take (i + 1)) ≤ itW l := itW_le
      have hwt : e.wt = 8 + 5 * e.cs.length + 4 * e.ps.length := rfl
      obtain ⟨kk, hkk⟩ : ∃ kk, kk = k + itW (l.take i) := ⟨_, rfl⟩
      rw [← hkk] at e9 e10
      have HZK : Hid (z = ((kk : Nat) : Int)) := by show _ = _; rw [hkk]; exact HZ.out
      have HNX : Hid (k + itW (l.take (i + 1)) = kk + 8 + 5 * e.cs.length + 4 * e.ps.length) := by show _ = _; omega
      have hkb : kk + 8 + 5 * e.cs.length + 4 * e.ps.length ≤ 100000000 := by omega
      have hk1 : 1 ≤ kk := by omega
      have HKK := hide hkk
      have hsz : i * 10 + 10 ≤ C.size := by have := mul_next (m := 10) hlt; omega
      have hz0 : 1 ≤ z := by have := HZK.out; omega
      have hz1 : z + 1 ≤ 100000000 := by have := HZK.out; omega
      have hii : (i : Int) < (l.length : Int) := by omega
      have c2 : wr.cell? ⟨b, i * 10 + 2, none⟩ = some (.slice ac e.cs.length cc) := (cell_of_block hb _).trans e5
      have E5 := hide e5
      have E6 := hide e6
      have E7 := hide e7
      have E8 := hide e8
      have hmx := hide (And.intro e2 e4)
      have HC0 : Hid (∀ v0 v1, RowM 86 5 mkCms (kk + 2) ac e.cs.length 0 ((wr.setCell ⟨b, i * 10, none⟩ v0).setCell ⟨b, i * 10 + 1, none⟩ v1)) := fun v0 v1 => (e9.set_kind hb (by decide)).set_kind (block_set hb _ _) (by decide)
      have HP0 : Hid (∀ v0 v1, RowM 90 4 mkPqs (kk + 7 + 5 * e.cs.length) ap e.ps.length 0 ((wr.setCell ⟨b, i * 10, none⟩ v0).setCell ⟨b, i * 10 + 1, none⟩ v1)) := fun v0 v1 => (e10.set_kind hb (by decide)).set_kind (block_set hb _ _) (by decide)
      have HB0 := hide hb
      obtain ⟨u0, c0⟩ : ∃ u, wr.cell? ⟨b, i * 10, none⟩ = some u := cell_in hb (by (try simp only [Array.size_setIfInBounds]); omega)
      have f0 : wr.frozen? ⟨b, i * 10, none⟩ = false := free_of_block hb _
      obtain ⟨u1, c1⟩ : ∃ u, wr.cell? ⟨b, i * 10 + 1, none⟩ = some u := cell_in hb (by (try simp only [Array.size_setIfInBounds]); omega)
      have f1 : wr.frozen? ⟨b, i * 10 + 1, none⟩ = false := free_of_block hb _
      unfold maxLen at e2 e4
      clear hb hs hup hall HM HX e5 e6 e7 e8 e9 e10 hnx hle hwt hkk he hdf g1 g2 g3 g4
      go_wp2_with fail
      refine (markCms_at _ ac cc (kk + 2) _ (by have := HZK.out; omega) (by omega) (by omega) e1 hmx.out.1 _ (HC0.out _ _)).mono ?_
      rintro x0 Y1 ⟨z1, rfl, hz1e, hm1, hg1⟩
      have hb1 := grown_kind (HC0.out _ _) hg1 (block_set (block_set HB0.out (i * 10) (.int .i64 z)) (i * 10 + 1) (.int .i64 (z + 1))) (by decide)
      have HB1 := hide hb1
      have HZ1 : Hid (z1 = ((kk + 2 + 5 * e.cs.length : Nat) : Int)) := hz1e
      have HC1 : Hid (∀ v3 v4 v5, RowM 86 5 mkCms (kk + 2) ac e.cs.length e.cs.length (((Y1.setCell ⟨b, i * 10 + 3, none⟩ v3).setCell ⟨b, i * 10 + 4, none⟩ v4).setCell ⟨b, i * 10 + 5, none⟩ v5)) := fun v3 v4 v5 => ((hm1.set_kind hb1 (by decide)).set_kind (block_set hb1 _ _) (by decide)).set_kind (block_set (block_set hb1 _ _) _ _) (by decide)
      have hp1 := (HP0.out (.int .i64 z) (.int .i64 (z + 1))).grown_kind (HC0.out _ _) hg1 (by decide)
      have HP1 : Hid (∀ v3 v4 v5, RowM 90 4 mkPqs (kk + 7 + 5 * e.cs.length) ap e.ps.length 0 (((Y1.setCell ⟨b, i * 10 + 3, none⟩ v3).setCell ⟨b, i * 10 + 4, none⟩ v4).setCell ⟨b, i * 10 + 5, none⟩ v5)) := fun v3 v4 v5 => ((hp1.set_kind hb1 (by decide)).set_kind (block_set hb1 _ _) (by decide)).set_kind (block_set (block_set hb1 _ _) _ _) (by decide)
      have HM1 := hide ((((Mid2.refl b (s i) (s (i + 1)) wr).set (i := i * 10) (v := .int .i64 z)).set (i := i * 10 + 1) (v := .int .i64 (z + 1))).grown hg1 (ownB_range E7.out))
      have hz2 : 1 ≤ z1 := by have := HZ1.out; omega
      have hz3 : z1 + 4 ≤ 100000000 := by have := HZ1.out; omega
      clear c0 c1 c2 f0 f1 hm1 hg1 hp1 HC0 HP0 hz1e HB0
      obtain ⟨u3, c3⟩ : ∃ u, Y1.cell? ⟨b, i * 10 + 3, none⟩ = some u := cell_in hb1 (by (try simp only [Array.size_setIfInBounds]); omega)
      have f3 : Y1.frozen? ⟨b, i * 10 + 3, none⟩ = false := free_of_block hb1 _
      obtain ⟨u4, c4⟩ : ∃ u, Y1.cell? ⟨b, i * 10 + 4, none⟩ = some u := cell_in hb1 (by (try simp only [Array.size_setIfInBounds]); omega)
      have f4 : Y1.frozen? ⟨b, i * 10 + 4, none⟩ = false := free_of_block hb1 _
      obtain ⟨u5, c5⟩ : ∃ u, Y1.cell? ⟨b, i * 10 + 5, none⟩ = some u := cell_in hb1 (by (try simp only [Array.size_setIfInBounds]); omega)
      have f5 : Y1.frozen? ⟨b, i * 10 + 5, none⟩ = false := free_of_block hb1 _
      clear hb1
      go_wp2_with fail
      refine (markText_at _ (kk + 5 + 5 * e.cs.length) (by have := HZ1.out; omega) (by omega) (by omega) _).mono ?_
      rintro x1 Y2 ⟨rfl, hB2⟩
      have hbk2 := block_set (block_set (block_set HB1.out (i * 10 + 3) (.int .i64 z1)) (i * 10 + 4) (.int .i64 (z1 + 1))) (i * 10 + 5) (.int .i64 (z1 + 1 + 1))
      have hb2 := (hB2.block b (Array.getElem?_eq_some_iff.1 hbk2).1).trans hbk2
      have HB2 := hide hb2
      have HC2 := hide ((HC1.out _ _ _).later hB2)
      have HP2 := hide ((HP1.out _ _ _).later hB2)
      have HM2 := hide ((((HM1.out.set (i := i * 10 + 3) (v := .int .i64 z1)).set (i := i * 10 + 4) (v := .int .i64 (z1 + 1))).set (i := i * 10 + 5) (v := .int .i64 (z1 + 1 + 1))).later hB2)
      clear c3 c4 c5 f3 f4 f5 hbk2 hB2 HC1 HP1 HM1 HB1
      obtain ⟨u6, c6⟩ : ∃ u, Y2.cell? ⟨b, i * 10 + 6, none⟩ = some u := cell_in hb2 (by (try simp only [Array.size_setIfInBounds]); omega)
      have f6 : Y2.frozen? ⟨b, i * 10 + 6, none⟩ = false := free_of_block hb2 _
      clear hb2
      go_wp2_with fail
      refine (markText_at _ (kk + 6 + 5 * e.cs.length) (by have := HZ1.out; omega) (by omega) (by omega) _).mono ?_
      rintro x2 Y3 ⟨rfl, hB3⟩
      have hbk3 := block_set HB2.out (i * 10 + 6) (.string (Pl.bs (Pl.mark (kk + 5 + 5 * e.cs.length))))
      have hb3 := (hB3.block b (Array.getElem?_eq_some_iff.1 hbk3).1).trans hbk3
      have HB3 := hide hb3
      have HC3 : Hid (∀ v7, RowM 86 5 mkCms (kk + 2) ac e.cs.length e.cs.length (Y3.setCell ⟨b, i * 10 + 7, none⟩ v7)) := fun v7 => ((HC2.out.set_kind HB2.out (by decide)).later hB3).set_kind hb3 (by decide)
      have HP3 : Hid (∀ v7, RowM 90 4 mkPqs (kk + 7 + 5 * e.cs.length) ap e.ps.length 0 (Y3.setCell ⟨b, i * 10 + 7, none⟩ v7)) := fun v7 => ((HP2.out.set_kind HB2.out (by decide)).later hB3).set_kind hb3 (by decide)
      have HM3 := hide ((HM2.out.set (i := i * 10 + 6) (v := .string (Pl.bs (Pl.mark (kk + 5 + 5 * e.cs.length))))).later hB3)
      have c8 : Y3.cell? ⟨b, i * 10 + 8, none⟩ = some (.slice ap e.ps.length cp) := by
        rw [cell_of_block hb3]
        refine Eq.trans ?_ E6.out
        rw [set_gets (by omega), set_gets (by omega), set_gets (by omega), set_gets (by omega), set_gets (by omega), set_gets (by omega)]
      clear c6 f6 hbk3 hB3 HC2 HP2 HM2 HB2
      obtain ⟨u7, c7⟩ : ∃ u, Y3.cell? ⟨b, i * 10 + 7, none⟩ = some u := cell_in hb3 (by (try simp only [Array.size_setIfInBounds]); omega)
      have f7 : Y3.frozen? ⟨b, i * 10 + 7, none⟩ = false := free_of_block hb3 _
      clear hb3
      go_wp2_with fail
      refine (markPqs_at _ ap cp (kk + 7 + 5 * e.cs.length) _ (by have := HZ1.out; omega) (by omega) (by omega) e3 hmx.out.2 _ (HP3.out _)).mono ?_
      rintro x3 Y4 ⟨z2, rfl, hz2e, hm4, hg4⟩
      have hb4 := grown_kind (HP3.out _) hg4 (block_set HB3.out (i * 10 + 7) (.string (Pl.bs (Pl.mark (kk + 6 + 5 * e.cs.length))))) (by decide)
      have HB4 := hide hb4
      have HZ2 : Hid (z2 = ((kk + 7 + 5 * e.cs.length + 4 * e.ps.length : Nat) : Int)) := hz2e
      have HC4 : Hid (RowM 86 5 mkCms (kk + 2) ac e.cs.length e.cs.length (Y4.setCell ⟨b, i * 10 + 9, none⟩ (.int .i64 z2))) := hide (((HC3.out _).grown_kind (HP3.out _) hg4 (by decide)).set_kind hb4 (by decide))
      have HP4 : Hid (RowM 90 4 mkPqs (kk + 7 + 5 * e.cs.length) ap e.ps.length e.ps.length (Y4.setCell ⟨b, i * 10 + 9, none⟩ (.int .i64 z2))) := hide (hm4.set_kind hb4 (by decide))
      have HM4 := hide (((HM3.out.set (i := i * 10 + 7) (v := .string (Pl.bs (Pl.mark (kk + 6 + 5 * e.cs.length))))).grown hg4 (ownB_range E8.out)).set (i := i * 10 + 9) (v := .int .i64 z2))
      have hz4 : 1 ≤ z2 := by have := HZ2.out; omega
      have hz5 : z2 + 1 ≤ 100000000 := by have := HZ2.out; omega
      clear c7 c8 f7 hm4 hg4 HC3 HP3 HM3 hz2e HB3
      obtain ⟨u9, c9⟩ : ∃ u, Y4.cell? ⟨b, i * 10 + 9, none⟩ = some u := cell_in hb4 (by (try simp only [Array.size_setIfInBounds]); omega)
      have f9 : Y4.frozen? ⟨b, i * 10 + 9, none⟩ = false := free_of_block hb4 _
      clear hb4
      have HN := hide (marked_cells (vc := .slice ac e.cs.length cc) (vp := .slice ap e.ps.length cp) hsz HZK.out HZ1.out HZ2.out E5.out E6.out)
      have HBF := hide (block_set HB4.out (i * 10 + 9) (.int .i64 z2))
      have HNEW : Hid (∃ C', MI l k (i + 1) b C' s (Y4.setCell ⟨b, i * 10 + 9, none⟩ (.int .i64 z2))) := hide ⟨_, HMI.out.next HE.out HM4.out HBF.out (by simp only [Array.size_setIfInBounds]) (fun j hj t ht => marked_old hj t ht) ⟨ac, cc, ap, cp, e1, hmx.out.1, e3, hmx.out.2, HN.out 2 _ rfl, HN.out 8 _ rfl, E7.out, E8.out, by rw [← HKK.out]; exact HC4.out, by rw [← HKK.out]; exact HP4.out, fun _ => by rw [← HKK.out]; exact HN.out⟩⟩
      clear HN HBF HMI HC4 HP4 HB4 E5 E6 E7 E8
      go_wp2_with fail
      go_roundw
      case rel =>
        obtain ⟨C', hC'⟩ := HNEW.out
        obtain ⟨g1, g2, g3, g4⟩ := HBD.out
        have hup := hC'.2.2.1
        exact ⟨i + 1, z2 + 1, by omega, by go_num, rfl, hide (by have h5 := HZ2.out; have h6 := HNX.out; omega), hide (fun _ => ⟨b, C', s, rfl, g1, g2, g3, g4, hC'⟩), hide (HG.out.trans (HM4.out.mid g1 g2 (by have := le_s hup (show 0 ≤ i by omega); omega) (by have := le_s hup (show i + 1 ≤ l.length by omega); omega)))⟩
      case measure => simp [intOf]; omega
    · have hie : i = l.length := by omega
      have HE : Hid (z = ((k + itW l : Nat) : Int)) := by
        have h5 := HZ.out
        rw [hie, List.take_length] at h5
        exact h5
      have HD : Hid (0 < l.length → ∃ b C s, a = some ⟨b, 0, none⟩ ∧ lo ≤ b ∧ b < hi ∧ lo ≤ s 0 ∧ s l.length ≤ hi ∧ MI l k l.length b C s wr) := by rw [hie] at HM; exact HM
      clear hie
      go_wp2_with fail
      go_ret
      exact ⟨⟨z, rfl, HE.out⟩, HG.out, HD.out⟩
end Go.Proofs.Ythkklmfjdjiafaa

/- What an expression is, as the specification has it: two values together. -/
import Derived.Test.YtiffgomkhoalpaaGreatDoorEvS7
namespace Go.Proofs.YtiffgomkhoalpaaGreatDoor
open Go.RowKit
set_option linter.unusedVariables false
set_option linter.unusedSimpArgs false
set_option maxHeartbeats 3200000 in
theorem evS_two_two (nk : Int) (hk : 3 ≤ nk ∧ nk ≤ 7) (vt nm : ByteArray) (k : Fo) (v vl : Value) (w : World) (hr : RowAt 0 w k v) (na : Nd) (ka : Fo) (ga : k.get 0 = some (na, ka)) (a : Va) (ca : Part na ka vl w (some a)) (nb : Nd) (kb : Fo) (gb : k.get 1 = some (nb, kb)) (b : Va) (cb : Part nb kb vl w (some b)) (hvl : ∃ a n c, vl = .slice a n c) (hoa : Pl.okA a = true) (hob : Pl.okA b = true) (R : Option Va) (hR : Pl.twoA nk a b = R) :
    Calls Tryz.prog 30 #[ndV ⟨nk, 0, 0, vt, nm⟩ v, vl] w (EvPost R w) := by
  have HR := hide hr
  obtain ⟨ad, cap, rfl, hc, hm, hx⟩ := hr
  obtain ⟨_, _, _, rfl⟩ := hvl
  unfold maxLen at hm
  obtain ⟨g, off, va, rfl, hi, hg, hnd⟩ := part_at HR.out ga
  rw [show off + 0 * 6 = off by omega] at hnd
  obtain ⟨d0, d1, d2, d3, d4, d5, hrow⟩ := hnd
  have HC := hide (fun W (hB : Below w.heap.size w W) => ca va W hB (hrow.later hB))
  have HS := hide (EB.start (w := w) (nd := ⟨nk, 0, 0, vt, nm⟩) (v := .slice (some ⟨g, off, none⟩) k.len cap))
  obtain ⟨_, _, rfl, _⟩ := hrow
  have h2 := hide (l2Two_any nk a b hk hoa hob)
  rw [hR] at h2
  have q1 : (nk == 1) = false := by simp; omega
  have q2 : (nk == 2) = false := by simp; omega
  have q8 : (nk == 8) = false := by simp; omega
  have q9 : (nk == 9) = false := by simp; omega
  have q10 : (nk == 10) = false := by simp; omega
  clear hk hR hoa hob
  obtain ⟨g', off', vb, he', hi1, hg', hnb⟩ := part_at HR.out gb
  obtain ⟨rfl, rfl⟩ : g = g' ∧ off = off' := by cases he'; exact ⟨rfl, rfl⟩
  rw [show off + 1 * 6 = off + 6 by omega] at hnb
  have HNB := hide hnb
  have HB2 := hide (fun W (hB : Below w.heap.size w W) => cb vb W hB (hnb.2.2.2.2.2.2.later hB))
  obtain ⟨ab, cpb, rfl, _⟩ := hnb.2.2.2.2.2.2
  clear hnb he' hx
  go_enter Tryz.func30, Tryz.ntmps30
  go_wp2_with fail
  refine (HC.out _ (two_below _ _ _)).mono ?_
  rintro e w1 ⟨rfl, hB1⟩
  have HX1 := hide (HS.out.later hB1)
  unfold evR
  clear HC HS hB1 d0 d1 d2 d3 d4 d5
  have HE2 := hide (EA.start (x := a) HX1.out)
  obtain ⟨hb0, p0, p5⟩ := HE2.out.1.arg
  obtain ⟨x0, x1, x2, x3, x4, x5, _⟩ := (HNB.out.later HE2.out.1.2.2 hg)
  have hgw : g < (w1.alloc (.cells #[.int .i64 a.k, .int .i64 a.n, .string a.t] 30)).heap.size := by have := HE2.out.1.2.2.size; omega
  go_wp2_with fail
  refine (HB2.out _ HE2.out.1.2.2).mono ?_
  rintro e w3 ⟨rfl, hB3⟩
  have HE3 := hide (HE2.out.later hB3)
  unfold evR
  clear HB2 HE2 hB3 p0 p5 hb0 x0 x1 x2 x3 x4 x5 hgw HNB
  have HC3 := hide (EC.start (y := b) HE3.out)
  obtain ⟨hb0, p0, p5⟩ := HC3.out.1.1.arg
  obtain ⟨hb1, y0, y1, y2⟩ := HC3.out.1.val
  go_wp2_with fail
  refine (h2.out _).mono ?_
  rintro e w4 ⟨⟨x, rfl, hxx⟩, hB4⟩
  have HC4 := hide (HC3.out.later hB4)
  have HXX := hide hxx
  clear HC3 HE3 hB4 h2 p0 p5 hb0 hb1 y0 y1 y2 hxx
  obtain ⟨hb, r0, r1, r2, f0, f1, f2⟩ := HC4.out.1.1.back
  cases R with
  | none =>
    simp only [Option.isSome_none]
    go_wp2
    obtain ⟨m0, m1, m2⟩ := es3 HC4.out.1.1.2.1 (.int .i64 0) (.int .i64 0) (.string ⟨#[]⟩)
    have hsz : ∀ u0 u1 u2, w.heap.size + 1 < (((w4.setCell ⟨w.heap.size + 1, 0, none⟩ u0).setCell ⟨w.heap.size + 1, 1, none⟩ u1).setCell ⟨w.heap.size + 1, 2, none⟩ u2).heap.size := fun u0 u1 u2 => by simpa using hb
    have k0 := (World.cell?_alloc_lt _ (.cells #[.int .i64 x.k, .int .i64 x.n, .string x.t] 30) ⟨w.heap.size + 1, 0, none⟩ (hsz (.int .i64 0) (.int .i64 0) (.string ⟨#[]⟩))).trans m0
    have k1 := (World.cell?_alloc_lt _ (.cells #[.int .i64 x.k, .int .i64 x.n, .string x.t] 30) ⟨w.heap.size + 1, 1, none⟩ (hsz (.int .i64 0) (.int .i64 0) (.string ⟨#[]⟩))).trans m1
    have k2 := (World.cell?_alloc_lt _ (.cells #[.int .i64 x.k, .int .i64 x.n, .string x.t] 30) ⟨w.heap.size + 1, 2, none⟩ (hsz (.int .i64 0) (.int .i64 0) (.string ⟨#[]⟩))).trans m2
    clear m0 m1 m2
    refine bodyPost_ret (v := .tuple #[vaV ⟨0, 0, ⟨#[]⟩⟩, .bool false]) (by simp [results, Tryz.results30, go_sem, k0, k1, k2]) rfl ?_
    have hBB := below_es3 HC4.out.1.1.2.2 (show w.heap.size ≤ w.heap.size + 1 by omega) (.int .i64 0) (.int .i64 0) (.string ⟨#[]⟩)
    exact ⟨rfl, hBB.alloc hBB.size _⟩
  | some y =>
    obtain rfl := HXX.out y rfl
    simp only [Option.isSome_some]
    go_wp2
    obtain ⟨m0, m1, m2⟩ := es3 HC4.out.1.1.2.1 (.int .i64 x.k) (.int .i64 x.n) (.string x.t)
    have hsz : ∀ u0 u1 u2, w.heap.size + 1 < (((w4.setCell ⟨w.heap.size + 1, 0, none⟩ u0).setCell ⟨w.heap.size + 1, 1, none⟩ u1).setCell ⟨w.heap.size + 1, 2, none⟩ u2).heap.size := fun u0 u1 u2 => by simpa using hb
    have k0 := (World.cell?_alloc_lt _ (.cells #[.int .i64 x.k, .int .i64 x.n, .string x.t] 30) ⟨w.heap.size + 1, 0, none⟩ (hsz (.int .i64 x.k) (.int .i64 x.n) (.string x.t))).trans m0
    have k1 := (World.cell?_alloc_lt _ (.cells #[.int .i64 x.k, .int .i64 x.n, .string x.t] 30) ⟨w.heap.size + 1, 1, none⟩ (hsz (.int .i64 x.k) (.int .i64 x.n) (.string x.t))).trans m1
    have k2 := (World.cell?_alloc_lt _ (.cells #[.int .i64 x.k, .int .i64 x.n, .string x.t] 30) ⟨w.heap.size + 1, 2, none⟩ (hsz (.int .i64 x.k) (.int .i64 x.n) (.string x.t))).trans m2
    clear m0 m1 m2
    refine bodyPost_ret (v := .tuple #[vaV x, .bool true]) (by simp [results, Tryz.results30, go_sem, k0, k1, k2]) rfl ?_
    have hBB := below_es3 HC4.out.1.1.2.2 (show w.heap.size ≤ w.heap.size + 1 by omega) (.int .i64 x.k) (.int .i64 x.n) (.string x.t)
    exact ⟨rfl, hBB.alloc hBB.size _⟩
end Go.Proofs.YtiffgomkhoalpaaGreatDoor

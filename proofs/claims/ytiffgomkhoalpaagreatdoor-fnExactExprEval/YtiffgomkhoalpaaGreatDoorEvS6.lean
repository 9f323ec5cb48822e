/- What an expression is, as the specification has it: and, or, by both parts. -/
import Derived.Test.YtiffgomkhoalpaaGreatDoorEvS5
namespace Go.Proofs.YtiffgomkhoalpaaGreatDoor
open Go.RowKit
set_option linter.unusedVariables false
set_option linter.unusedSimpArgs false
/-- two values in boxes of their own -/
def EC (w : World) (nd : Nd) (v : Value) (b1 : Nat) (x : Va) (b2 : Nat) (y : Va) (X : World) : Prop := EA w nd v b1 x X ∧ X.heap[b2]? = some (.cells #[.int .i64 y.k, .int .i64 y.n, .string y.t] 30 (0, 0))
theorem EC.later {w X X1 : World} {nd : Nd} {v : Value} {b1 b2 : Nat} {x y : Va} (h : EC w nd v b1 x b2 y X) (hB : Below X.heap.size X X1) : EC w nd v b1 x b2 y X1 :=
  ⟨h.1.later hB, (hB.block _ (Array.getElem?_eq_some_iff.1 h.2).1).trans h.2⟩
theorem EC.start {w X : World} {nd : Nd} {v : Value} {b1 : Nat} {x y : Va} (h : EA w nd v b1 x X) : EC w nd v b1 x X.heap.size y (X.alloc (.cells #[.int .i64 y.k, .int .i64 y.n, .string y.t] 30)) :=
  ⟨h.later ((Below.refl _ _).alloc (Nat.le_refl _) _), by rw [heap_alloc_at, if_pos rfl]⟩
theorem EC.val {w X : World} {nd : Nd} {v : Value} {b1 b2 : Nat} {x y : Va} (h : EC w nd v b1 x b2 y X) : b2 < X.heap.size ∧ X.cell? ⟨b2, 0, none⟩ = some (.int .i64 y.k) ∧ X.cell? ⟨b2, 1, none⟩ = some (.int .i64 y.n) ∧ X.cell? ⟨b2, 2, none⟩ = some (.string y.t) :=
  ⟨(Array.getElem?_eq_some_iff.1 h.2).1, cell_of_block h.2 0, cell_of_block h.2 1, cell_of_block h.2 2⟩
set_option maxHeartbeats 3200000 in
theorem evS_and2 (vt nm : ByteArray) (k : Fo) (v vl : Value) (w : World) (hr : RowAt 0 w k v) (na : Nd) (ka : Fo) (ga : k.get 0 = some (na, ka)) (a : Va) (ca : Part na ka vl w (some a)) (nb : Nd) (kb : Fo) (gb : k.get 1 = some (nb, kb)) (b : Va) (cb : Part nb kb vl w (some b)) (hvl : ∃ a n c, vl = .slice a n c) (hcb : Pl.countsA a = true) :
    Calls Tryz.prog 30 #[ndV ⟨8, 0, 0, vt, nm⟩ v, vl] w (EvPost (some (Pl.truthA (Pl.countsA b))) w) := by
  have HR := hide hr
  obtain ⟨ad, cap, rfl, hc, hm, hx⟩ := hr
  obtain ⟨_, _, _, rfl⟩ := hvl
  unfold maxLen at hm
  obtain ⟨g, off, va, rfl, hi, hg, hnd⟩ := part_at HR.out ga
  rw [show off + 0 * 6 = off by omega] at hnd
  obtain ⟨d0, d1, d2, d3, d4, d5, hrow⟩ := hnd
  have HC := hide (fun W (hB : Below w.heap.size w W) => ca va W hB (hrow.later hB))
  have HS := hide (EB.start (w := w) (nd := ⟨8, 0, 0, vt, nm⟩) (v := .slice (some ⟨g, off, none⟩) k.len cap))
  obtain ⟨_, _, rfl, _⟩ := hrow
  have ht := hide (l2True_any a)
  rw [hcb] at ht
  have htb := hide (l2True_any b)
  have hb2 := hide (l2Bool_any (Pl.countsA b))
  obtain ⟨g', off', vb, he', hi1, hg', hnb⟩ := part_at HR.out gb
  obtain ⟨rfl, rfl⟩ : g = g' ∧ off = off' := by cases he'; exact ⟨rfl, rfl⟩
  rw [show off + 1 * 6 = off + 6 by omega] at hnb
  have HNB := hide hnb
  have HB2 := hide (fun W (hB : Below w.heap.size w W) => cb vb W hB (hnb.2.2.2.2.2.2.later hB))
  obtain ⟨ab, cpb, rfl, _⟩ := hnb.2.2.2.2.2.2
  clear hnb he' hx
  go_enter Tryz.func30, Tryz.ntmps30
  go_wp2_with fail
  refine (HC.out _ (two_below _ _ _)).mono ?_
  rintro e w1 ⟨rfl, hB1⟩
  have HX1 := hide (HS.out.later hB1)
  unfold evR
  clear HC HS hB1 d0 d1 d2 d3 d4 d5
  have HE1 := hide (EA.start (x := a) HX1.out)
  obtain ⟨hb0, p0, p5⟩ := HE1.out.1.arg
  go_wp2_with fail
  refine (ht.out _).mono ?_
  rintro e w2 ⟨rfl, hB2⟩
  have HE2 := hide (HE1.out.later hB2)
  clear hB2 HE1 ht p0 p5 hb0
  obtain ⟨hb0, p0, p5⟩ := HE2.out.1.arg
  obtain ⟨x0, x1, x2, x3, x4, x5, _⟩ := (HNB.out.later HE2.out.1.2.2 hg)
  have hgw : g < w2.heap.size := by have := HE2.out.1.2.2.size; omega
  go_wp2_with fail
  refine (HB2.out _ HE2.out.1.2.2).mono ?_
  rintro e w3 ⟨rfl, hB3⟩
  have HE3 := hide (HE2.out.later hB3)
  unfold evR
  clear HB2 HE2 hB3 p0 p5 hb0 x0 x1 x2 x3 x4 x5 hgw HNB
  have HC3 := hide (EC.start (y := b) HE3.out)
  obtain ⟨hb0, p0, p5⟩ := HC3.out.1.1.arg
  go_wp2_with fail
  refine (htb.out _).mono ?_
  rintro e w4 ⟨rfl, hB4⟩
  have HC4 := hide (HC3.out.later hB4)
  clear HC3 HE3 hB4 htb p0 p5 hb0
  go_wp2_with fail
  refine (hb2.out _).mono ?_
  rintro e w5 ⟨rfl, hB5⟩
  have HC5 := hide (HC4.out.later hB5)
  clear HC4 hB5 hb2
  obtain ⟨z, hz⟩ : ∃ z : Int, Pl.truthA (Pl.countsA b) = ⟨1, z, ⟨#[]⟩⟩ := ⟨_, rfl⟩
  rw [hz]
  have HZ := hide hz
  clear hz
  obtain ⟨hb, r0, r1, r2, f0, f1, f2⟩ := HC5.out.1.1.back
  go_wp2
  obtain ⟨m0, m1, m2⟩ := es3 HC5.out.1.1.2.1 (.int .i64 1) (.int .i64 z) (.string ⟨#[]⟩)
  refine bodyPost_ret (v := .tuple #[vaV ⟨1, z, ⟨#[]⟩⟩, .bool true]) (by simp [results, Tryz.results30, go_sem, m0, m1, m2]) rfl ?_
  exact ⟨by rw [HZ.out]; rfl, below_es3 HC5.out.1.1.2.2 (by omega) _ _ _⟩
set_option maxHeartbeats 3200000 in
theorem evS_or2 (vt nm : ByteArray) (k : Fo) (v vl : Value) (w : World) (hr : RowAt 0 w k v) (na : Nd) (ka : Fo) (ga : k.get 0 = some (na, ka)) (a : Va) (ca : Part na ka vl w (some a)) (nb : Nd) (kb : Fo) (gb : k.get 1 = some (nb, kb)) (b : Va) (cb : Part nb kb vl w (some b)) (hvl : ∃ a n c, vl = .slice a n c) (hcb : Pl.countsA a = false) :
    Calls Tryz.prog 30 #[ndV ⟨9, 0, 0, vt, nm⟩ v, vl] w (EvPost (some (Pl.truthA (Pl.countsA b))) w) := by
  have HR := hide hr
  obtain ⟨ad, cap, rfl, hc, hm, hx⟩ := hr
  obtain ⟨_, _, _, rfl⟩ := hvl
  unfold maxLen at hm
  obtain ⟨g, off, va, rfl, hi, hg, hnd⟩ := part_at HR.out ga
  rw [show off + 0 * 6 = off by omega] at hnd
  obtain ⟨d0, d1, d2, d3, d4, d5, hrow⟩ := hnd
  have HC := hide (fun W (hB : Below w.heap.size w W) => ca va W hB (hrow.later hB))
  have HS := hide (EB.start (w := w) (nd := ⟨9, 0, 0, vt, nm⟩) (v := .slice (some ⟨g, off, none⟩) k.len cap))
  obtain ⟨_, _, rfl, _⟩ := hrow
  have ht := hide (l2True_any a)
  rw [hcb] at ht
  have htb := hide (l2True_any b)
  have hb2 := hide (l2Bool_any (Pl.countsA b))
  obtain ⟨g', off', vb, he', hi1, hg', hnb⟩ := part_at HR.out gb
  obtain ⟨rfl, rfl⟩ : g = g' ∧ off = off' := by cases he'; exact ⟨rfl, rfl⟩
  rw [show off + 1 * 6 = off + 6 by omega] at hnb
  have HNB := hide hnb
  have HB2 := hide (fun W (hB : Below w.heap.size w W) => cb vb W hB (hnb.2.2.2.2.2.2.later hB))
  obtain ⟨ab, cpb, rfl, _⟩ := hnb.2.2.2.2.2.2
  clear hnb he' hx
  go_enter Tryz.func30, Tryz.ntmps30
  go_wp2_with fail
  refine (HC.out _ (two_below _ _ _)).mono ?_
  rintro e w1 ⟨rfl, hB1⟩
  have HX1 := hide (HS.out.later hB1)
  unfold evR
  clear HC HS hB1 d0 d1 d2 d3 d4 d5
  have HE1 := hide (EA.start (x := a) HX1.out)
  obtain ⟨hb0, p0, p5⟩ := HE1.out.1.arg
  go_wp2_with fail
  refine (ht.out _).mono ?_
  rintro e w2 ⟨rfl, hB2⟩
  have HE2 := hide (HE1.out.later hB2)
  clear hB2 HE1 ht p0 p5 hb0
  obtain ⟨hb0, p0, p5⟩ := HE2.out.1.arg
  obtain ⟨x0, x1, x2, x3, x4, x5, _⟩ := (HNB.out.later HE2.out.1.2.2 hg)
  have hgw : g < w2.heap.size := by have := HE2.out.1.2.2.size; omega
  go_wp2_with fail
  refine (HB2.out _ HE2.out.1.2.2).mono ?_
  rintro e w3 ⟨rfl, hB3⟩
  have HE3 := hide (HE2.out.later hB3)
  unfold evR
  clear HB2 HE2 hB3 p0 p5 hb0 x0 x1 x2 x3 x4 x5 hgw HNB
  have HC3 := hide (EC.start (y := b) HE3.out)
  obtain ⟨hb0, p0, p5⟩ := HC3.out.1.1.arg
  go_wp2_with fail
  refine (htb.out _).mono ?_
  rintro e w4 ⟨rfl, hB4⟩
  have HC4 := hide (HC3.out.later hB4)
  clear HC3 HE3 hB4 htb p0 p5 hb0
  go_wp2_with fail
  refine (hb2.out _).mono ?_
  rintro e w5 ⟨rfl, hB5⟩
  have HC5 := hide (HC4.out.later hB5)
  clear HC4 hB5 hb2
  obtain ⟨z, hz⟩ : ∃ z : Int, Pl.truthA (Pl.countsA b) = ⟨1, z, ⟨#[]⟩⟩ := ⟨_, rfl⟩
  rw [hz]
  have HZ := hide hz
  clear hz
  obtain ⟨hb, r0, r1, r2, f0, f1, f2⟩ := HC5.out.1.1.back
  go_wp2
  obtain ⟨m0, m1, m2⟩ := es3 HC5.out.1.1.2.1 (.int .i64 1) (.int .i64 z) (.string ⟨#[]⟩)
  refine bodyPost_ret (v := .tuple #[vaV ⟨1, z, ⟨#[]⟩⟩, .bool true]) (by simp [results, Tryz.results30, go_sem, m0, m1, m2]) rfl ?_
  exact ⟨by rw [HZ.out]; rfl, below_es3 HC5.out.1.1.2.2 (by omega) _ _ _⟩
end Go.Proofs.YtiffgomkhoalpaaGreatDoor

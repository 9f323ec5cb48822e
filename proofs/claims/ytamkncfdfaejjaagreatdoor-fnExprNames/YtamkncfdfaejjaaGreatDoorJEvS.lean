/- Joined: EvS5 EvS6 EvS7 EvS8 EvS9 EvS10. -/
import Derived.Test.YtamkncfdfaejjaaGreatDoorEvS4
import Derived.Test.YtamkncfdfaejjaaGreatDoorSzV
/- What an expression is, as the specification has it: and, or, by the first part alone. -/
namespace Go.Proofs.YtamkncfdfaejjaaGreatDoor
open Go.RowKit
set_option linter.unusedVariables false
set_option linter.unusedSimpArgs false
set_option maxHeartbeats 1600000 in
theorem evS_and0 (vt nm : ByteArray) (k : Fo) (v vl : Value) (w : World) (hr : RowAt 0 w k v) (na : Nd) (ka : Fo) (ga : k.get 0 = some (na, ka)) (a : Va) (ca : Part na ka vl w (some a)) (hvl : ∃ a n c, vl = .slice a n c) (hcb : Pl.countsA a = false) :
    Calls Tryz.prog 30 #[ndV ⟨8, 0, 0, vt, nm⟩ v, vl] w (EvPost (some (Pl.truthA false)) w) := by
  have HR := hide hr
  obtain ⟨ad, cap, rfl, hc, hm, hx⟩ := hr
  obtain ⟨_, _, _, rfl⟩ := hvl
  unfold maxLen at hm
  obtain ⟨g, off, va, rfl, hi, hg, hnd⟩ := part_at HR.out ga
  rw [show off + 0 * 6 = off by omega] at hnd
  obtain ⟨d0, d1, d2, d3, d4, d5, hrow⟩ := hnd
  have HC := hide (fun W (hB : Below w.heap.size w W) => ca va W hB (hrow.later hB))
  have HS := hide (EB.start (w := w) (nd := ⟨8, 0, 0, vt, nm⟩) (v := .slice (some ⟨g, off, none⟩) k.len cap))
  obtain ⟨_, _, rfl, _⟩ := hrow
  have ht := hide (l2True_any a)
  rw [hcb] at ht
  have hb2 := hide (l2Bool_any false)
  clear hx
  go_enter Tryz.func30, Tryz.ntmps30
  go_wp2_with fail
  refine (HC.out _ (two_below _ _ _)).mono ?_
  rintro e w1 ⟨rfl, hB1⟩
  have HX1 := hide (HS.out.later hB1)
  unfold evR
  clear HC HS hB1 d0 d1 d2 d3 d4 d5
  have HE1 := hide (EA.start (x := a) HX1.out)
  obtain ⟨hb0, p0, p5⟩ := HE1.out.1.arg
  go_wp2_with fail
  refine (ht.out _).mono ?_
  rintro e w2 ⟨rfl, hB2⟩
  have HE2 := hide (HE1.out.later hB2)
  clear hB2 HE1 ht p0 p5 hb0
  go_wp2_with fail
  refine (hb2.out _).mono ?_
  rintro e w3 ⟨rfl, hB3⟩
  have HE3 := hide (HE2.out.later hB3)
  clear hB3 HE2 hb2
  obtain ⟨z, hz⟩ : ∃ z : Int, Pl.truthA false = ⟨1, z, ⟨#[]⟩⟩ := ⟨_, rfl⟩
  rw [hz]
  have HZ := hide hz
  clear hz
  obtain ⟨hb, r0, r1, r2, f0, f1, f2⟩ := HE3.out.1.back
  go_wp2
  obtain ⟨m0, m1, m2⟩ := es3 HE3.out.1.2.1 (.int .i64 1) (.int .i64 z) (.string ⟨#[]⟩)
  refine bodyPost_ret (v := .tuple #[vaV ⟨1, z, ⟨#[]⟩⟩, .bool true]) (by simp [results, Tryz.results30, go_sem, m0, m1, m2]) rfl ?_
  exact ⟨by rw [HZ.out]; rfl, below_es3 HE3.out.1.2.2 (by omega) _ _ _⟩
set_option maxHeartbeats 1600000 in
theorem evS_or1 (vt nm : ByteArray) (k : Fo) (v vl : Value) (w : World) (hr : RowAt 0 w k v) (na : Nd) (ka : Fo) (ga : k.get 0 = some (na, ka)) (a : Va) (ca : Part na ka vl w (some a)) (hvl : ∃ a n c, vl = .slice a n c) (hcb : Pl.countsA a = true) :
    Calls Tryz.prog 30 #[ndV ⟨9, 0, 0, vt, nm⟩ v, vl] w (EvPost (some (Pl.truthA true)) w) := by
  have HR := hide hr
  obtain ⟨ad, cap, rfl, hc, hm, hx⟩ := hr
  obtain ⟨_, _, _, rfl⟩ := hvl
  unfold maxLen at hm
  obtain ⟨g, off, va, rfl, hi, hg, hnd⟩ := part_at HR.out ga
  rw [show off + 0 * 6 = off by omega] at hnd
  obtain ⟨d0, d1, d2, d3, d4, d5, hrow⟩ := hnd
  have HC := hide (fun W (hB : Below w.heap.size w W) => ca va W hB (hrow.later hB))
  have HS := hide (EB.start (w := w) (nd := ⟨9, 0, 0, vt, nm⟩) (v := .slice (some ⟨g, off, none⟩) k.len cap))
  obtain ⟨_, _, rfl, _⟩ := hrow
  have ht := hide (l2True_any a)
  rw [hcb] at ht
  have hb2 := hide (l2Bool_any true)
  clear hx
  go_enter Tryz.func30, Tryz.ntmps30
  go_wp2_with fail
  refine (HC.out _ (two_below _ _ _)).mono ?_
  rintro e w1 ⟨rfl, hB1⟩
  have HX1 := hide (HS.out.later hB1)
  unfold evR
  clear HC HS hB1 d0 d1 d2 d3 d4 d5
  have HE1 := hide (EA.start (x := a) HX1.out)
  obtain ⟨hb0, p0, p5⟩ := HE1.out.1.arg
  go_wp2_with fail
  refine (ht.out _).mono ?_
  rintro e w2 ⟨rfl, hB2⟩
  have HE2 := hide (HE1.out.later hB2)
  clear hB2 HE1 ht p0 p5 hb0
  go_wp2_with fail
  refine (hb2.out _).mono ?_
  rintro e w3 ⟨rfl, hB3⟩
  have HE3 := hide (HE2.out.later hB3)
  clear hB3 HE2 hb2
  obtain ⟨z, hz⟩ : ∃ z : Int, Pl.truthA true = ⟨1, z, ⟨#[]⟩⟩ := ⟨_, rfl⟩
  rw [hz]
  have HZ := hide hz
  clear hz
  obtain ⟨hb, r0, r1, r2, f0, f1, f2⟩ := HE3.out.1.back
  go_wp2
  obtain ⟨m0, m1, m2⟩ := es3 HE3.out.1.2.1 (.int .i64 1) (.int .i64 z) (.string ⟨#[]⟩)
  refine bodyPost_ret (v := .tuple #[vaV ⟨1, z, ⟨#[]⟩⟩, .bool true]) (by simp [results, Tryz.results30, go_sem, m0, m1, m2]) rfl ?_
  exact ⟨by rw [HZ.out]; rfl, below_es3 HE3.out.1.2.2 (by omega) _ _ _⟩
end Go.Proofs.YtamkncfdfaejjaaGreatDoor

/- What an expression is, as the specification has it: and, or, by both parts. -/
namespace Go.Proofs.YtamkncfdfaejjaaGreatDoor
open Go.RowKit
set_option linter.unusedVariables false
set_option linter.unusedSimpArgs false
/-- two values in boxes of their own -/
def EC (w : World) (nd : Nd) (v : Value) (b1 : Nat) (x : Va) (b2 : Nat) (y : Va) (X : World) : Prop := EA w nd v b1 x X ∧ X.heap[b2]? = some (.cells #[.int .i64 y.k, .int .i64 y.n, .string y.t] 30 (0, 0))
theorem EC.later {w X X1 : World} {nd : Nd} {v : Value} {b1 b2 : Nat} {x y : Va} (h : EC w nd v b1 x b2 y X) (hB : Below X.heap.size X X1) : EC w nd v b1 x b2 y X1 :=
  ⟨h.1.later hB, (hB.block _ (Array.getElem?_eq_some_iff.1 h.2).1).trans h.2⟩
theorem EC.start {w X : World} {nd : Nd} {v : Value} {b1 : Nat} {x y : Va} (h : EA w nd v b1 x X) : EC w nd v b1 x X.heap.size y (X.alloc (.cells #[.int .i64 y.k, .int .i64 y.n, .string y.t] 30)) :=
  ⟨h.later ((Below.refl _ _).alloc (Nat.le_refl _) _), by rw [heap_alloc_at, if_pos rfl]⟩
theorem EC.val {w X : World} {nd : Nd} {v : Value} {b1 b2 : Nat} {x y : Va} (h : EC w nd v b1 x b2 y X) : b2 < X.heap.size ∧ X.cell? ⟨b2, 0, none⟩ = some (.int .i64 y.k) ∧ X.cell? ⟨b2, 1, none⟩ = some (.int .i64 y.n) ∧ X.cell? ⟨b2, 2, none⟩ = some (.string y.t) :=
  ⟨(Array.getElem?_eq_some_iff.1 h.2).1, cell_of_block h.2 0, cell_of_block h.2 1, cell_of_block h.2 2⟩
set_option maxHeartbeats 3200000 in
theorem evS_and2 (vt nm : ByteArray) (k : Fo) (v vl : Value) (w : World) (hr : RowAt 0 w k v) (na : Nd) (ka : Fo) (ga : k.get 0 = some (na, ka)) (a : Va) (ca : Part na ka vl w (some a)) (nb : Nd) (kb : Fo) (gb : k.get 1 = some (nb, kb)) (b : Va) (cb : Part nb kb vl w (some b)) (hvl : ∃ a n c, vl = .slice a n c) (hcb : Pl.countsA a = true) :
    Calls Tryz.prog 30 #[ndV ⟨8, 0, 0, vt, nm⟩ v, vl] w (EvPost (some (Pl.truthA (Pl.countsA b))) w) := by
  have HR := hide hr
  obtain ⟨ad, cap, rfl, hc, hm, hx⟩ := hr
  obtain ⟨_, _, _, rfl⟩ := hvl
  unfold maxLen at hm
  obtain ⟨g, off, va, rfl, hi, hg, hnd⟩ := part_at HR.out ga
  rw [show off + 0 * 6 = off by omega] at hnd
  obtain ⟨d0, d1, d2, d3, d4, d5, hrow⟩ := hnd
  have HC := hide (fun W (hB : Below w.heap.size w W) => ca va W hB (hrow.later hB))
  have HS := hide (EB.start (w := w) (nd := ⟨8, 0, 0, vt, nm⟩) (v := .slice (some ⟨g, off, none⟩) k.len cap))
  obtain ⟨_, _, rfl, _⟩ := hrow
  have ht := hide (l2True_any a)
  rw [hcb] at ht
  have htb := hide (l2True_any b)
  have hb2 := hide (l2Bool_any (Pl.countsA b))
  obtain ⟨g', off', vb, he', hi1, hg', hnb⟩ := part_at HR.out gb
  obtain ⟨rfl, rfl⟩ : g = g' ∧ off = off' := by cases he'; exact ⟨rfl, rfl⟩
  rw [show off + 1 * 6 = off + 6 by omega] at hnb
  have HNB := hide hnb
  have HB2 := hide (fun W (hB : Below w.heap.size w W) => cb vb W hB (hnb.2.2.2.2.2.2.later hB))
  obtain ⟨ab, cpb, rfl, _⟩ := hnb.2.2.2.2.2.2
  clear hnb he' hx
  go_enter Tryz.func30, Tryz.ntmps30
  go_wp2_with fail
  refine (HC.out _ (two_below _ _ _)).mono ?_
  rintro e w1 ⟨rfl, hB1⟩
  have HX1 := hide (HS.out.later hB1)
  unfold evR
  clear HC HS hB1 d0 d1 d2 d3 d4 d5
  have HE1 := hide (EA.start (x := a) HX1.out)
  obtain ⟨hb0, p0, p5⟩ := HE1.out.1.arg
  go_wp2_with fail
  refine (ht.out _).mono ?_
  rintro e w2 ⟨rfl, hB2⟩
  have HE2 := hide (HE1.out.later hB2)
  clear hB2 HE1 ht p0 p5 hb0
  obtain ⟨hb0, p0, p5⟩ := HE2.out.1.arg
  obtain ⟨x0, x1, x2, x3, x4, x5, _⟩ := (HNB.out.later HE2.out.1.2.2 hg)
  have hgw : g < w2.heap.size := by have := HE2.out.1.2.2.size; omega
  go_wp2_with fail
  refine (HB2.out _ HE2.out.1.2.2).mono ?_
  rintro e w3 ⟨rfl, hB3⟩
  have HE3 := hide (HE2.out.later hB3)
  unfold evR
  clear HB2 HE2 hB3 p0 p5 hb0 x0 x1 x2 x3 x4 x5 hgw HNB
  have HC3 := hide (EC.start (y := b) HE3.out)
  obtain ⟨hb0, p0, p5⟩ := HC3.out.1.1.arg
  go_wp2_with fail
  refine (htb.out _).mono ?_
  rintro e w4 ⟨rfl, hB4⟩
  have HC4 := hide (HC3.out.later hB4)
  clear HC3 HE3 hB4 htb p0 p5 hb0
  go_wp2_with fail
  refine (hb2.out _).mono ?_
  rintro e w5 ⟨rfl, hB5⟩
  have HC5 := hide (HC4.out.later hB5)
  clear HC4 hB5 hb2
  obtain ⟨z, hz⟩ : ∃ z : Int, Pl.truthA (Pl.countsA b) = ⟨1, z, ⟨#[]⟩⟩ := ⟨_, rfl⟩
  rw [hz]
  have HZ := hide hz
  clear hz
  obtain ⟨hb, r0, r1, r2, f0, f1, f2⟩ := HC5.out.1.1.back
  go_wp2
  obtain ⟨m0, m1, m2⟩ := es3 HC5.out.1.1.2.1 (.int .i64 1) (.int .i64 z) (.string ⟨#[]⟩)
  refine bodyPost_ret (v := .tuple #[vaV ⟨1, z, ⟨#[]⟩⟩, .bool true]) (by simp [results, Tryz.results30, go_sem, m0, m1, m2]) rfl ?_
  exact ⟨by rw [HZ.out]; rfl, below_es3 HC5.out.1.1.2.2 (by omega) _ _ _⟩
set_option maxHeartbeats 3200000 in
theorem evS_or2 (vt nm : ByteArray) (k : Fo) (v vl : Value) (w : World) (hr : RowAt 0 w k v) (na : Nd) (ka : Fo) (ga : k.get 0 = some (na, ka)) (a : Va) (ca : Part na ka vl w (some a)) (nb : Nd) (kb : Fo) (gb : k.get 1 = some (nb, kb)) (b : Va) (cb : Part nb kb vl w (some b)) (hvl : ∃ a n c, vl = .slice a n c) (hcb : Pl.countsA a = false) :
    Calls Tryz.prog 30 #[ndV ⟨9, 0, 0, vt, nm⟩ v, vl] w (EvPost (some (Pl.truthA (Pl.countsA b))) w) := by
  have HR := hide hr
  obtain ⟨ad, cap, rfl, hc, hm, hx⟩ := hr
  obtain ⟨_, _, _, rfl⟩ := hvl
  unfold maxLen at hm
  obtain ⟨g, off, va, rfl, hi, hg, hnd⟩ := part_at HR.out ga
  rw [show off + 0 * 6 = off by omega] at hnd
  obtain ⟨d0, d1, d2, d3, d4, d5, hrow⟩ := hnd
  have HC := hide (fun W (hB : Below w.heap.size w W) => ca va W hB (hrow.later hB))
  have HS := hide (EB.start (w := w) (nd := ⟨9, 0, 0, vt, nm⟩) (v := .slice (some ⟨g, off, none⟩) k.len cap))
  obtain ⟨_, _, rfl, _⟩ := hrow
  have ht := hide (l2True_any a)
  rw [hcb] at ht
  have htb := hide (l2True_any b)
  have hb2 := hide (l2Bool_any (Pl.countsA b))
  obtain ⟨g', off', vb, he', hi1, hg', hnb⟩ := part_at HR.out gb
  obtain ⟨rfl, rfl⟩ : g = g' ∧ off = off' := by cases he'; exact ⟨rfl, rfl⟩
  rw [show off + 1 * 6 = off + 6 by omega] at hnb
  have HNB := hide hnb
  have HB2 := hide (fun W (hB : Below w.heap.size w W) => cb vb W hB (hnb.2.2.2.2.2.2.later hB))
  obtain ⟨ab, cpb, rfl, _⟩ := hnb.2.2.2.2.2.2
  clear hnb he' hx
  go_enter Tryz.func30, Tryz.ntmps30
  go_wp2_with fail
  refine (HC.out _ (two_below _ _ _)).mono ?_
  rintro e w1 ⟨rfl, hB1⟩
  have HX1 := hide (HS.out.later hB1)
  unfold evR
  clear HC HS hB1 d0 d1 d2 d3 d4 d5
  have HE1 := hide (EA.start (x := a) HX1.out)
  obtain ⟨hb0, p0, p5⟩ := HE1.out.1.arg
  go_wp2_with fail
  refine (ht.out _).mono ?_
  rintro e w2 ⟨rfl, hB2⟩
  have HE2 := hide (HE1.out.later hB2)
  clear hB2 HE1 ht p0 p5 hb0
  obtain ⟨hb0, p0, p5⟩ := HE2.out.1.arg
  obtain ⟨x0, x1, x2, x3, x4, x5, _⟩ := (HNB.out.later HE2.out.1.2.2 hg)
  have hgw : g < w2.heap.size := by have := HE2.out.1.2.2.size; omega
  go_wp2_with fail
  refine (HB2.out _ HE2.out.1.2.2).mono ?_
  rintro e w3 ⟨rfl, hB3⟩
  have HE3 := hide (HE2.out.later hB3)
  unfold evR
  clear HB2 HE2 hB3 p0 p5 hb0 x0 x1 x2 x3 x4 x5 hgw HNB
  have HC3 := hide (EC.start (y := b) HE3.out)
  obtain ⟨hb0, p0, p5⟩ := HC3.out.1.1.arg
  go_wp2_with fail
  refine (htb.out _).mono ?_
  rintro e w4 ⟨rfl, hB4⟩
  have HC4 := hide (HC3.out.later hB4)
  clear HC3 HE3 hB4 htb p0 p5 hb0
  go_wp2_with fail
  refine (hb2.out _).mono ?_
  rintro e w5 ⟨rfl, hB5⟩
  have HC5 := hide (HC4.out.later hB5)
  clear HC4 hB5 hb2
  obtain ⟨z, hz⟩ : ∃ z : Int, Pl.truthA (Pl.countsA b) = ⟨1, z, ⟨#[]⟩⟩ := ⟨_, rfl⟩
  rw [hz]
  have HZ := hide hz
  clear hz
  obtain ⟨hb, r0, r1, r2, f0, f1, f2⟩ := HC5.out.1.1.back
  go_wp2
  obtain ⟨m0, m1, m2⟩ := es3 HC5.out.1.1.2.1 (.int .i64 1) (.int .i64 z) (.string ⟨#[]⟩)
  refine bodyPost_ret (v := .tuple #[vaV ⟨1, z, ⟨#[]⟩⟩, .bool true]) (by simp [results, Tryz.results30, go_sem, m0, m1, m2]) rfl ?_
  exact ⟨by rw [HZ.out]; rfl, below_es3 HC5.out.1.1.2.2 (by omega) _ _ _⟩
end Go.Proofs.YtamkncfdfaejjaaGreatDoor

/- What an expression is, as the specification has it: where the second part is nothing. -/
namespace Go.Proofs.YtamkncfdfaejjaaGreatDoor
open Go.RowKit
set_option linter.unusedVariables false
set_option linter.unusedSimpArgs false
set_option maxHeartbeats 3200000 in
theorem evS_and_no (vt nm : ByteArray) (k : Fo) (v vl : Value) (w : World) (hr : RowAt 0 w k v) (na : Nd) (ka : Fo) (ga : k.get 0 = some (na, ka)) (a : Va) (ca : Part na ka vl w (some a)) (nb : Nd) (kb : Fo) (gb : k.get 1 = some (nb, kb)) (cb : Part nb kb vl w none) (hvl : ∃ a n c, vl = .slice a n c) (hcb : Pl.countsA a = true) :
    Calls Tryz.prog 30 #[ndV ⟨8, 0, 0, vt, nm⟩ v, vl] w (EvPost none w) := by
  have HR := hide hr
  obtain ⟨ad, cap, rfl, hc, hm, hx⟩ := hr
  obtain ⟨_, _, _, rfl⟩ := hvl
  unfold maxLen at hm
  obtain ⟨g, off, va, rfl, hi, hg, hnd⟩ := part_at HR.out ga
  rw [show off + 0 * 6 = off by omega] at hnd
  obtain ⟨d0, d1, d2, d3, d4, d5, hrow⟩ := hnd
  have HC := hide (fun W (hB : Below w.heap.size w W) => ca va W hB (hrow.later hB))
  have HS := hide (EB.start (w := w) (nd := ⟨8, 0, 0, vt, nm⟩) (v := .slice (some ⟨g, off, none⟩) k.len cap))
  obtain ⟨_, _, rfl, _⟩ := hrow
  have ht := hide (l2True_any a)
  rw [hcb] at ht
  obtain ⟨g', off', vb, he', hi1, hg', hnb⟩ := part_at HR.out gb
  obtain ⟨rfl, rfl⟩ : g = g' ∧ off = off' := by cases he'; exact ⟨rfl, rfl⟩
  rw [show off + 1 * 6 = off + 6 by omega] at hnb
  have HNB := hide hnb
  have HB2 := hide (fun W (hB : Below w.heap.size w W) => cb vb W hB (hnb.2.2.2.2.2.2.later hB))
  obtain ⟨ab, cpb, rfl, _⟩ := hnb.2.2.2.2.2.2
  clear hnb he' hx
  go_enter Tryz.func30, Tryz.ntmps30
  go_wp2_with fail
  refine (HC.out _ (two_below _ _ _)).mono ?_
  rintro e w1 ⟨rfl, hB1⟩
  have HX1 := hide (HS.out.later hB1)
  unfold evR
  clear HC HS hB1 d0 d1 d2 d3 d4 d5
  have HE1 := hide (EA.start (x := a) HX1.out)
  obtain ⟨hb0, p0, p5⟩ := HE1.out.1.arg
  go_wp2_with fail
  refine (ht.out _).mono ?_
  rintro e w2 ⟨rfl, hB2⟩
  have HE2 := hide (HE1.out.later hB2)
  clear hB2 HE1 ht p0 p5 hb0
  obtain ⟨hb0, p0, p5⟩ := HE2.out.1.arg
  obtain ⟨x0, x1, x2, x3, x4, x5, _⟩ := (HNB.out.later HE2.out.1.2.2 hg)
  have hgw : g < w2.heap.size := by have := HE2.out.1.2.2.size; omega
  go_wp2_with fail
  refine (HB2.out _ HE2.out.1.2.2).mono ?_
  rintro e w3 ⟨rfl, hB3⟩
  have HE3 := hide (HE2.out.later hB3)
  unfold evR
  clear HB2 HE2 hB3 p0 p5 hb0 x0 x1 x2 x3 x4 x5 hgw HNB
  obtain ⟨hb, r0, r1, r2, f0, f1, f2⟩ := HE3.out.1.back
  go_wp2
  obtain ⟨m0, m1, m2⟩ := es3 HE3.out.1.2.1 (.int .i64 0) (.int .i64 0) (.string ⟨#[]⟩)
  have hsz : ∀ u0 u1 u2, w.heap.size + 1 < (((w3.setCell ⟨w.heap.size + 1, 0, none⟩ u0).setCell ⟨w.heap.size + 1, 1, none⟩ u1).setCell ⟨w.heap.size + 1, 2, none⟩ u2).heap.size := fun u0 u1 u2 => by simpa using hb
  have k0 := (World.cell?_alloc_lt _ (.cells #[.int .i64 0, .int .i64 0, .string ⟨#[]⟩] 30) ⟨w.heap.size + 1, 0, none⟩ (hsz (.int .i64 0) (.int .i64 0) (.string ⟨#[]⟩))).trans m0
  have k1 := (World.cell?_alloc_lt _ (.cells #[.int .i64 0, .int .i64 0, .string ⟨#[]⟩] 30) ⟨w.heap.size + 1, 1, none⟩ (hsz (.int .i64 0) (.int .i64 0) (.string ⟨#[]⟩))).trans m1
  have k2 := (World.cell?_alloc_lt _ (.cells #[.int .i64 0, .int .i64 0, .string ⟨#[]⟩] 30) ⟨w.heap.size + 1, 2, none⟩ (hsz (.int .i64 0) (.int .i64 0) (.string ⟨#[]⟩))).trans m2
  clear m0 m1 m2
  refine bodyPost_ret (v := .tuple #[vaV ⟨0, 0, ⟨#[]⟩⟩, .bool false]) (by simp [results, Tryz.results30, go_sem, k0, k1, k2]) rfl ?_
  have hBB := below_es3 HE3.out.1.2.2 (show w.heap.size ≤ w.heap.size + 1 by omega) (.int .i64 0) (.int .i64 0) (.string ⟨#[]⟩)
  exact ⟨rfl, hBB.alloc hBB.size _⟩
set_option maxHeartbeats 3200000 in
theorem evS_or_no (vt nm : ByteArray) (k : Fo) (v vl : Value) (w : World) (hr : RowAt 0 w k v) (na : Nd) (ka : Fo) (ga : k.get 0 = some (na, ka)) (a : Va) (ca : Part na ka vl w (some a)) (nb : Nd) (kb : Fo) (gb : k.get 1 = some (nb, kb)) (cb : Part nb kb vl w none) (hvl : ∃ a n c, vl = .slice a n c) (hcb : Pl.countsA a = false) :
    Calls Tryz.prog 30 #[ndV ⟨9, 0, 0, vt, nm⟩ v, vl] w (EvPost none w) := by
  have HR := hide hr
  obtain ⟨ad, cap, rfl, hc, hm, hx⟩ := hr
  obtain ⟨_, _, _, rfl⟩ := hvl
  unfold maxLen at hm
  obtain ⟨g, off, va, rfl, hi, hg, hnd⟩ := part_at HR.out ga
  rw [show off + 0 * 6 = off by omega] at hnd
  obtain ⟨d0, d1, d2, d3, d4, d5, hrow⟩ := hnd
  have HC := hide (fun W (hB : Below w.heap.size w W) => ca va W hB (hrow.later hB))
  have HS := hide (EB.start (w := w) (nd := ⟨9, 0, 0, vt, nm⟩) (v := .slice (some ⟨g, off, none⟩) k.len cap))
  obtain ⟨_, _, rfl, _⟩ := hrow
  have ht := hide (l2True_any a)
  rw [hcb] at ht
  obtain ⟨g', off', vb, he', hi1, hg', hnb⟩ := part_at HR.out gb
  obtain ⟨rfl, rfl⟩ : g = g' ∧ off = off' := by cases he'; exact ⟨rfl, rfl⟩
  rw [show off + 1 * 6 = off + 6 by omega] at hnb
  have HNB := hide hnb
  have HB2 := hide (fun W (hB : Below w.heap.size w W) => cb vb W hB (hnb.2.2.2.2.2.2.later hB))
  obtain ⟨ab, cpb, rfl, _⟩ := hnb.2.2.2.2.2.2
  clear hnb he' hx
  go_enter Tryz.func30, Tryz.ntmps30
  go_wp2_with fail
  refine (HC.out _ (two_below _ _ _)).mono ?_
  rintro e w1 ⟨rfl, hB1⟩
  have HX1 := hide (HS.out.later hB1)
  unfold evR
  clear HC HS hB1 d0 d1 d2 d3 d4 d5
  have HE1 := hide (EA.start (x := a) HX1.out)
  obtain ⟨hb0, p0, p5⟩ := HE1.out.1.arg
  go_wp2_with fail
  refine (ht.out _).mono ?_
  rintro e w2 ⟨rfl, hB2⟩
  have HE2 := hide (HE1.out.later hB2)
  clear hB2 HE1 ht p0 p5 hb0
  obtain ⟨hb0, p0, p5⟩ := HE2.out.1.arg
  obtain ⟨x0, x1, x2, x3, x4, x5, _⟩ := (HNB.out.later HE2.out.1.2.2 hg)
  have hgw : g < w2.heap.size := by have := HE2.out.1.2.2.size; omega
  go_wp2_with fail
  refine (HB2.out _ HE2.out.1.2.2).mono ?_
  rintro e w3 ⟨rfl, hB3⟩
  have HE3 := hide (HE2.out.later hB3)
  unfold evR
  clear HB2 HE2 hB3 p0 p5 hb0 x0 x1 x2 x3 x4 x5 hgw HNB
  obtain ⟨hb, r0, r1, r2, f0, f1, f2⟩ := HE3.out.1.back
  go_wp2
  obtain ⟨m0, m1, m2⟩ := es3 HE3.out.1.2.1 (.int .i64 0) (.int .i64 0) (.string ⟨#[]⟩)
  have hsz : ∀ u0 u1 u2, w.heap.size + 1 < (((w3.setCell ⟨w.heap.size + 1, 0, none⟩ u0).setCell ⟨w.heap.size + 1, 1, none⟩ u1).setCell ⟨w.heap.size + 1, 2, none⟩ u2).heap.size := fun u0 u1 u2 => by simpa using hb
  have k0 := (World.cell?_alloc_lt _ (.cells #[.int .i64 0, .int .i64 0, .string ⟨#[]⟩] 30) ⟨w.heap.size + 1, 0, none⟩ (hsz (.int .i64 0) (.int .i64 0) (.string ⟨#[]⟩))).trans m0
  have k1 := (World.cell?_alloc_lt _ (.cells #[.int .i64 0, .int .i64 0, .string ⟨#[]⟩] 30) ⟨w.heap.size + 1, 1, none⟩ (hsz (.int .i64 0) (.int .i64 0) (.string ⟨#[]⟩))).trans m1
  have k2 := (World.cell?_alloc_lt _ (.cells #[.int .i64 0, .int .i64 0, .string ⟨#[]⟩] 30) ⟨w.heap.size + 1, 2, none⟩ (hsz (.int .i64 0) (.int .i64 0) (.string ⟨#[]⟩))).trans m2
  clear m0 m1 m2
  refine bodyPost_ret (v := .tuple #[vaV ⟨0, 0, ⟨#[]⟩⟩, .bool false]) (by simp [results, Tryz.results30, go_sem, k0, k1, k2]) rfl ?_
  have hBB := below_es3 HE3.out.1.2.2 (show w.heap.size ≤ w.heap.size + 1 by omega) (.int .i64 0) (.int .i64 0) (.string ⟨#[]⟩)
  exact ⟨rfl, hBB.alloc hBB.size _⟩
set_option maxHeartbeats 3200000 in
theorem evS_two_no (nk : Int) (hk : 3 ≤ nk ∧ nk ≤ 7) (vt nm : ByteArray) (k : Fo) (v vl : Value) (w : World) (hr : RowAt 0 w k v) (na : Nd) (ka : Fo) (ga : k.get 0 = some (na, ka)) (a : Va) (ca : Part na ka vl w (some a)) (nb : Nd) (kb : Fo) (gb : k.get 1 = some (nb, kb)) (cb : Part nb kb vl w none) (hvl : ∃ a n c, vl = .slice a n c) :
    Calls Tryz.prog 30 #[ndV ⟨nk, 0, 0, vt, nm⟩ v, vl] w (EvPost none w) := by
  have HR := hide hr
  obtain ⟨ad, cap, rfl, hc, hm, hx⟩ := hr
  obtain ⟨_, _, _, rfl⟩ := hvl
  unfold maxLen at hm
  obtain ⟨g, off, va, rfl, hi, hg, hnd⟩ := part_at HR.out ga
  rw [show off + 0 * 6 = off by omega] at hnd
  obtain ⟨d0, d1, d2, d3, d4, d5, hrow⟩ := hnd
  have HC := hide (fun W (hB : Below w.heap.size w W) => ca va W hB (hrow.later hB))
  have HS := hide (EB.start (w := w) (nd := ⟨nk, 0, 0, vt, nm⟩) (v := .slice (some ⟨g, off, none⟩) k.len cap))
  obtain ⟨_, _, rfl, _⟩ := hrow
  have q1 : (nk == 1) = false := by simp; omega
  have q2 : (nk == 2) = false := by simp; omega
  have q8 : (nk == 8) = false := by simp; omega
  have q9 : (nk == 9) = false := by simp; omega
  have q10 : (nk == 10) = false := by simp; omega
  clear hk
  obtain ⟨g', off', vb, he', hi1, hg', hnb⟩ := part_at HR.out gb
  obtain ⟨rfl, rfl⟩ : g = g' ∧ off = off' := by cases he'; exact ⟨rfl, rfl⟩
  rw [show off + 1 * 6 = off + 6 by omega] at hnb
  have HNB := hide hnb
  have HB2 := hide (fun W (hB : Below w.heap.size w W) => cb vb W hB (hnb.2.2.2.2.2.2.later hB))
  obtain ⟨ab, cpb, rfl, _⟩ := hnb.2.2.2.2.2.2
  clear hnb he' hx
  go_enter Tryz.func30, Tryz.ntmps30
  go_wp2_with fail
  refine (HC.out _ (two_below _ _ _)).mono ?_
  rintro e w1 ⟨rfl, hB1⟩
  have HX1 := hide (HS.out.later hB1)
  unfold evR
  clear HC HS hB1 d0 d1 d2 d3 d4 d5
  have HE2 := hide (EA.start (x := a) HX1.out)
  obtain ⟨hb0, p0, p5⟩ := HE2.out.1.arg
  obtain ⟨x0, x1, x2, x3, x4, x5, _⟩ := (HNB.out.later HE2.out.1.2.2 hg)
  have hgw : g < (w1.alloc (.cells #[.int .i64 a.k, .int .i64 a.n, .string a.t] 30)).heap.size := by have := HE2.out.1.2.2.size; omega
  go_wp2_with fail
  refine (HB2.out _ HE2.out.1.2.2).mono ?_
  rintro e w3 ⟨rfl, hB3⟩
  have HE3 := hide (HE2.out.later hB3)
  unfold evR
  clear HB2 HE2 hB3 p0 p5 hb0 x0 x1 x2 x3 x4 x5 hgw HNB
  obtain ⟨hb, r0, r1, r2, f0, f1, f2⟩ := HE3.out.1.back
  go_wp2
  obtain ⟨m0, m1, m2⟩ := es3 HE3.out.1.2.1 (.int .i64 0) (.int .i64 0) (.string ⟨#[]⟩)
  have hsz : ∀ u0 u1 u2, w.heap.size + 1 < (((w3.setCell ⟨w.heap.size + 1, 0, none⟩ u0).setCell ⟨w.heap.size + 1, 1, none⟩ u1).setCell ⟨w.heap.size + 1, 2, none⟩ u2).heap.size := fun u0 u1 u2 => by simpa using hb
  have k0 := (World.cell?_alloc_lt _ (.cells #[.int .i64 0, .int .i64 0, .string ⟨#[]⟩] 30) ⟨w.heap.size + 1, 0, none⟩ (hsz (.int .i64 0) (.int .i64 0) (.string ⟨#[]⟩))).trans m0
  have k1 := (World.cell?_alloc_lt _ (.cells #[.int .i64 0, .int .i64 0, .string ⟨#[]⟩] 30) ⟨w.heap.size + 1, 1, none⟩ (hsz (.int .i64 0) (.int .i64 0) (.string ⟨#[]⟩))).trans m1
  have k2 := (World.cell?_alloc_lt _ (.cells #[.int .i64 0, .int .i64 0, .string ⟨#[]⟩] 30) ⟨w.heap.size + 1, 2, none⟩ (hsz (.int .i64 0) (.int .i64 0) (.string ⟨#[]⟩))).trans m2
  clear m0 m1 m2
  refine bodyPost_ret (v := .tuple #[vaV ⟨0, 0, ⟨#[]⟩⟩, .bool false]) (by simp [results, Tryz.results30, go_sem, k0, k1, k2]) rfl ?_
  have hBB := below_es3 HE3.out.1.2.2 (show w.heap.size ≤ w.heap.size + 1 by omega) (.int .i64 0) (.int .i64 0) (.string ⟨#[]⟩)
  exact ⟨rfl, hBB.alloc hBB.size _⟩
end Go.Proofs.YtamkncfdfaejjaaGreatDoor

/- What an expression is, as the specification has it: two values together. -/
namespace Go.Proofs.YtamkncfdfaejjaaGreatDoor
open Go.RowKit
set_option linter.unusedVariables false
set_option linter.unusedSimpArgs false
set_option maxHeartbeats 3200000 in
theorem evS_two_two (nk : Int) (hk : 3 ≤ nk ∧ nk ≤ 7) (vt nm : ByteArray) (k : Fo) (v vl : Value) (w : World) (hr : RowAt 0 w k v) (na : Nd) (ka : Fo) (ga : k.get 0 = some (na, ka)) (a : Va) (ca : Part na ka vl w (some a)) (nb : Nd) (kb : Fo) (gb : k.get 1 = some (nb, kb)) (b : Va) (cb : Part nb kb vl w (some b)) (hvl : ∃ a n c, vl = .slice a n c) (hoa : Pl.okA a = true) (hob : Pl.okA b = true) (R : Option Va) (hR : Pl.twoA nk a b = R) :
    Calls Tryz.prog 30 #[ndV ⟨nk, 0, 0, vt, nm⟩ v, vl] w (EvPost R w) := by
  have HR := hide hr
  obtain ⟨ad, cap, rfl, hc, hm, hx⟩ := hr
  obtain ⟨_, _, _, rfl⟩ := hvl
  unfold maxLen at hm
  obtain ⟨g, off, va, rfl, hi, hg, hnd⟩ := part_at HR.out ga
  rw [show off + 0 * 6 = off by omega] at hnd
  obtain ⟨d0, d1, d2, d3, d4, d5, hrow⟩ := hnd
  have HC := hide (fun W (hB : Below w.heap.size w W) => ca va W hB (hrow.later hB))
  have HS := hide (EB.start (w := w) (nd := ⟨nk, 0, 0, vt, nm⟩) (v := .slice (some ⟨g, off, none⟩) k.len cap))
  obtain ⟨_, _, rfl, _⟩ := hrow
  have h2 := hide (l2Two_any nk a b hk hoa hob)
  rw [hR] at h2
  have q1 : (nk == 1) = false := by simp; omega
  have q2 : (nk == 2) = false := by simp; omega
  have q8 : (nk == 8) = false := by simp; omega
  have q9 : (nk == 9) = false := by simp; omega
  have q10 : (nk == 10) = false := by simp; omega
  clear hk hR hoa hob
  obtain ⟨g', off', vb, he', hi1, hg', hnb⟩ := part_at HR.out gb
  obtain ⟨rfl, rfl⟩ : g = g' ∧ off = off' := by cases he'; exact ⟨rfl, rfl⟩
  rw [show off + 1 * 6 = off + 6 by omega] at hnb
  have HNB := hide hnb
  have HB2 := hide (fun W (hB : Below w.heap.size w W) => cb vb W hB (hnb.2.2.2.2.2.2.later hB))
  obtain ⟨ab, cpb, rfl, _⟩ := hnb.2.2.2.2.2.2
  clear hnb he' hx
  go_enter Tryz.func30, Tryz.ntmps30
  go_wp2_with fail
  refine (HC.out _ (two_below _ _ _)).mono ?_
  rintro e w1 ⟨rfl, hB1⟩
  have HX1 := hide (HS.out.later hB1)
  unfold evR
  clear HC HS hB1 d0 d1 d2 d3 d4 d5
  have HE2 := hide (EA.start (x := a) HX1.out)
  obtain ⟨hb0, p0, p5⟩ := HE2.out.1.arg
  obtain ⟨x0, x1, x2, x3, x4, x5, _⟩ := (HNB.out.later HE2.out.1.2.2 hg)
  have hgw : g < (w1.alloc (.cells #[.int .i64 a.k, .int .i64 a.n, .string a.t] 30)).heap.size := by have := HE2.out.1.2.2.size; omega
  go_wp2_with fail
  refine (HB2.out _ HE2.out.1.2.2).mono ?_
  rintro e w3 ⟨rfl, hB3⟩
  have HE3 := hide (HE2.out.later hB3)
  unfold evR
  clear HB2 HE2 hB3 p0 p5 hb0 x0 x1 x2 x3 x4 x5 hgw HNB
  have HC3 := hide (EC.start (y := b) HE3.out)
  obtain ⟨hb0, p0, p5⟩ := HC3.out.1.1.arg
  obtain ⟨hb1, y0, y1, y2⟩ := HC3.out.1.val
  go_wp2_with fail
  refine (h2.out _).mono ?_
  rintro e w4 ⟨⟨x, rfl, hxx⟩, hB4⟩
  have HC4 := hide (HC3.out.later hB4)
  have HXX := hide hxx
  clear HC3 HE3 hB4 h2 p0 p5 hb0 hb1 y0 y1 y2 hxx
  obtain ⟨hb, r0, r1, r2, f0, f1, f2⟩ := HC4.out.1.1.back
  cases R with
  | none =>
    simp only [Option.isSome_none]
    go_wp2
    obtain ⟨m0, m1, m2⟩ := es3 HC4.out.1.1.2.1 (.int .i64 0) (.int .i64 0) (.string ⟨#[]⟩)
    have hsz : ∀ u0 u1 u2, w.heap.size + 1 < (((w4.setCell ⟨w.heap.size + 1, 0, none⟩ u0).setCell ⟨w.heap.size + 1, 1, none⟩ u1).setCell ⟨w.heap.size + 1, 2, none⟩ u2).heap.size := fun u0 u1 u2 => by simpa using hb
    have k0 := (World.cell?_alloc_lt _ (.cells #[.int .i64 x.k, .int .i64 x.n, .string x.t] 30) ⟨w.heap.size + 1, 0, none⟩ (hsz (.int .i64 0) (.int .i64 0) (.string ⟨#[]⟩))).trans m0
    have k1 := (World.cell?_alloc_lt _ (.cells #[.int .i64 x.k, .int .i64 x.n, .string x.t] 30) ⟨w.heap.size + 1, 1, none⟩ (hsz (.int .i64 0) (.int .i64 0) (.string ⟨#[]⟩))).trans m1
    have k2 := (World.cell?_alloc_lt _ (.cells #[.int .i64 x.k, .int .i64 x.n, .string x.t] 30) ⟨w.heap.size + 1, 2, none⟩ (hsz (.int .i64 0) (.int .i64 0) (.string ⟨#[]⟩))).trans m2
    clear m0 m1 m2
    refine bodyPost_ret (v := .tuple #[vaV ⟨0, 0, ⟨#[]⟩⟩, .bool false]) (by simp [results, Tryz.results30, go_sem, k0, k1, k2]) rfl ?_
    have hBB := below_es3 HC4.out.1.1.2.2 (show w.heap.size ≤ w.heap.size + 1 by omega) (.int .i64 0) (.int .i64 0) (.string ⟨#[]⟩)
    exact ⟨rfl, hBB.alloc hBB.size _⟩
  | some y =>
    obtain rfl := HXX.out y rfl
    simp only [Option.isSome_some]
    go_wp2
    obtain ⟨m0, m1, m2⟩ := es3 HC4.out.1.1.2.1 (.int .i64 x.k) (.int .i64 x.n) (.string x.t)
    have hsz : ∀ u0 u1 u2, w.heap.size + 1 < (((w4.setCell ⟨w.heap.size + 1, 0, none⟩ u0).setCell ⟨w.heap.size + 1, 1, none⟩ u1).setCell ⟨w.heap.size + 1, 2, none⟩ u2).heap.size := fun u0 u1 u2 => by simpa using hb
    have k0 := (World.cell?_alloc_lt _ (.cells #[.int .i64 x.k, .int .i64 x.n, .string x.t] 30) ⟨w.heap.size + 1, 0, none⟩ (hsz (.int .i64 x.k) (.int .i64 x.n) (.string x.t))).trans m0
    have k1 := (World.cell?_alloc_lt _ (.cells #[.int .i64 x.k, .int .i64 x.n, .string x.t] 30) ⟨w.heap.size + 1, 1, none⟩ (hsz (.int .i64 x.k) (.int .i64 x.n) (.string x.t))).trans m1
    have k2 := (World.cell?_alloc_lt _ (.cells #[.int .i64 x.k, .int .i64 x.n, .string x.t] 30) ⟨w.heap.size + 1, 2, none⟩ (hsz (.int .i64 x.k) (.int .i64 x.n) (.string x.t))).trans m2
    clear m0 m1 m2
    refine bodyPost_ret (v := .tuple #[vaV x, .bool true]) (by simp [results, Tryz.results30, go_sem, k0, k1, k2]) rfl ?_
    have hBB := below_es3 HC4.out.1.1.2.2 (show w.heap.size ≤ w.heap.size + 1 by omega) (.int .i64 x.k) (.int .i64 x.n) (.string x.t)
    exact ⟨rfl, hBB.alloc hBB.size _⟩
end Go.Proofs.YtamkncfdfaejjaaGreatDoor

/- What an expression is, as the specification has it: at every depth; names and values that are ok. -/
namespace Go.Proofs.YtamkncfdfaejjaaGreatDoor
open Go.RowKit
set_option linter.unusedVariables false
set_option linter.unusedSimpArgs false
theorem ok_parts {nd : Nd} {k : Fo} {d : Nat} (h : Pl.okN nd k d = true) : 1 ≤ d ∧ (k.len : Int) = Pl.arity nd.k ∧ Pl.valB nd = true ∧ Pl.nmB nd = true ∧ Pl.okF k (d - 1) = true := by
  simp only [Pl.okN, Bool.and_eq_true, decide_eq_true_eq, beq_iff_eq] at h
  exact ⟨h.1.1, h.1.2.1, h.1.2.2.1, h.1.2.2.2, h.2⟩
theorem ok_kind {nd : Nd} {k : Fo} {d : Nat} (h : Pl.okN nd k d = true) : (nd.k = 1 ∧ k.len = 0) ∨ (nd.k = 2 ∧ k.len = 0 ∧ nd.vk = 0 ∧ nd.vn = 0 ∧ nd.vt = ⟨#[]⟩) ∨ (nd.k = 10 ∧ k.len = 1 ∧ nd.vk = 0 ∧ nd.vn = 0) ∨ (3 ≤ nd.k ∧ nd.k ≤ 9 ∧ k.len = 2 ∧ nd.vk = 0 ∧ nd.vn = 0) := by
  obtain ⟨_, ha, hv, _, _⟩ := ok_parts h
  have hz : ¬ nd.k = 1 → nd.vk = 0 ∧ nd.vn = 0 ∧ nd.vt = ⟨#[]⟩ := by
    intro hn
    simp only [Pl.valB, hn, if_false, Bool.and_eq_true, beq_iff_eq] at hv
    refine ⟨hv.1.1, hv.1.2, ?_⟩
    have h1 : nd.vt.toList = [] := by simpa using hv.2
    rw [ByteArray.toList_eq] at h1
    have h2 : nd.vt.data = #[] := by simpa using h1
    cases hq : nd.vt
    rw [hq] at h2
    simp at h2
    rw [h2]
  by_cases h1 : nd.k = 1
  · refine .inl ⟨h1, ?_⟩
    rw [h1] at ha
    simp [Pl.arity] at ha
    omega
  · by_cases h2 : nd.k = 2
    · refine .inr (.inl ⟨h2, ?_, hz h1⟩)
      rw [h2] at ha
      simp [Pl.arity] at ha
      omega
    · by_cases h10 : nd.k = 10
      · refine .inr (.inr (.inl ⟨h10, ?_, (hz h1).1, (hz h1).2.1⟩))
        rw [h10] at ha
        simp [Pl.arity] at ha
        omega
      · by_cases h39 : 3 ≤ nd.k ∧ nd.k ≤ 9
        · refine .inr (.inr (.inr ⟨h39.1, h39.2, ?_, (hz h1).1, (hz h1).2.1⟩))
          simp [Pl.arity, h1, h2, h10, h39] at ha
          omega
        · simp only [Pl.arity, h1, h2, h10, h39, if_false] at ha
          omega
def EvP (d : Nat) : Prop := ∀ (nd : Nd) (k : Fo) (v : Value) (l : List Pl.Pr) (vl : Value) (w : World), Pl.okN nd k d = true → Pl.varsB l = true → RowAt 0 w k v → PrRow w l vl → Calls Tryz.prog 30 #[ndV nd v, vl] w (EvPost (Pl.ev (Pl.lookP l) nd k) w)
theorem l2Eval_step (d : Nat) (ih : 2 ≤ d → EvP (d - 1)) : EvP d := by
  intro nd k v l vl w hok hv hr hl
  have hd1 := (ok_parts hok).1
  have hkf := (ok_parts hok).2.2.2.2
  have hvl : ∃ a n c, vl = .slice a n c := by obtain ⟨ad, cap, rfl, _⟩ := hl; exact ⟨_, _, _, rfl⟩
  have hlo := Pl.look_ok hv
  have hpart : ∀ i na ka, k.get i = some (na, ka) → Pl.okN na ka (d - 1) = true ∧ Part na ka vl w (Pl.ev (Pl.lookP l) na ka) := by
    intro i na ka hg
    have hok' := Pl.okF_get hkf hg
    have hd2 : 2 ≤ d := by have := (ok_parts hok').1; omega
    exact ⟨hok', fun va W hB hra => ih hd2 na ka va l vl W hok' hv hra (hl.later hB)⟩
  obtain ⟨nk, vk, vn, vt, nm⟩ := nd
  rcases ok_kind hok with ⟨h, _⟩ | ⟨h, hz, e1, e2, _⟩ | ⟨h, hz, e1, e2⟩ | ⟨h3, h9, hz, e1, e2⟩
  · simp only at h
    subst h
    rw [Pl.ev_val rfl]
    exact evS_val vk vn vt nm v vl w
  · simp only at h e1 e2
    subst h e1 e2
    rw [Pl.ev_var rfl]
    exact evS_var nm vt l v vl w hl
  · simp only at h e1 e2
    subst h e1 e2
    obtain ⟨na, ka, ga⟩ := k.get_some 0 (by omega)
    rw [Pl.ev_not rfl ga]
    obtain ⟨_, hp⟩ := hpart 0 na ka ga
    cases he : Pl.ev (Pl.lookP l) na ka with
    | none =>
      rw [he] at hp
      exact evS_none 10 (by omega) (by omega) vt nm k v vl w hr na ka ga hp hvl
    | some a =>
      rw [he] at hp
      have := evS_not vt nm k v vl w hr na ka ga a hp hvl
      simpa [Pl.opA] using this
  · simp only at h3 h9 e1 e2
    subst e1 e2
    obtain ⟨na, ka, ga⟩ := k.get_some 0 (by omega)
    obtain ⟨nb, kb, gb⟩ := k.get_some 1 (by omega)
    rw [Pl.ev_op (show ¬ nk = 1 by omega) (show ¬ nk = 2 by omega) ga gb]
    obtain ⟨oa, hp⟩ := hpart 0 na ka ga
    obtain ⟨ob, hq⟩ := hpart 1 nb kb gb
    simp only
    cases he : Pl.ev (Pl.lookP l) na ka with
    | none =>
      rw [he] at hp
      exact evS_none nk (by omega) (by omega) vt nm k v vl w hr na ka ga hp hvl
    | some a =>
      rw [he] at hp
      have hoa := Pl.ev_ok hlo oa he
      by_cases h8 : nk = 8
      · subst h8
        cases hc : Pl.countsA a
        · have := evS_and0 vt nm k v vl w hr na ka ga a hp hvl hc
          simpa [Pl.opA, hc] using this
        · cases hf : Pl.ev (Pl.lookP l) nb kb with
          | none =>
            rw [hf] at hq
            have := evS_and_no vt nm k v vl w hr na ka ga a hp nb kb gb hq hvl hc
            simpa [Pl.opA, hc] using this
          | some b =>
            rw [hf] at hq
            have := evS_and2 vt nm k v vl w hr na ka ga a hp nb kb gb b hq hvl hc
            simpa [Pl.opA, hc] using this
      · by_cases h9' : nk = 9
        · subst h9'
          cases hc : Pl.countsA a
          · cases hf : Pl.ev (Pl.lookP l) nb kb with
            | none =>
              rw [hf] at hq
              have := evS_or_no vt nm k v vl w hr na ka ga a hp nb kb gb hq hvl hc
              simpa [Pl.opA, hc] using this
            | some b =>
              rw [hf] at hq
              have := evS_or2 vt nm k v vl w hr na ka ga a hp nb kb gb b hq hvl hc
              simpa [Pl.opA, hc] using this
          · have := evS_or1 vt nm k v vl w hr na ka ga a hp hvl hc
            simpa [Pl.opA, hc] using this
        · have hk : 3 ≤ nk ∧ nk ≤ 7 := by omega
          have h10 : ¬ nk = 10 := by omega
          cases hf : Pl.ev (Pl.lookP l) nb kb with
          | none =>
            rw [hf] at hq
            have := evS_two_no nk hk vt nm k v vl w hr na ka ga a hp nb kb gb hq hvl
            simpa [Pl.opA, h8, h9', h10] using this
          | some b =>
            rw [hf] at hq
            have := evS_two_two nk hk vt nm k v vl w hr na ka ga a hp nb kb gb b hq hvl hoa (Pl.ev_ok hlo ob hf) _ rfl
            simpa [Pl.opA, h8, h9', h10] using this
theorem l2Eval_any : ∀ (d : Nat), EvP d
  | 0 => l2Eval_step 0 (fun h => by omega)
  | d + 1 => l2Eval_step (d + 1) (fun h => l2Eval_any d)
end Go.Proofs.YtamkncfdfaejjaaGreatDoor

/- Whether names and values are ok, and what an expression is then, as the specification has it. -/
namespace Go.Proofs.YtamkncfdfaejjaaGreatDoor
open Go.RowKit
set_option linter.unusedVariables false
set_option linter.unusedSimpArgs false
namespace Pl
/-- one name with its value is ok, and is not there ahead -/
def varB (l : List Pr) (i : Nat) (p : Pr) : Bool := (nameB p.nm && okA p.v) && !((l.take i).any (fun q => q.nm.data.toList == p.nm.data.toList))
theorem varsB_all {l : List Pr} (h : ∀ i p, l[i]? = some p → varB l i p = true) : varsB l = true := by
  unfold varsB
  rw [List.all_eq_true]
  intro i hi
  cases he : l[i]? with
  | none => rfl
  | some p => exact h i p he
theorem varsB_not {l : List Pr} {i : Nat} {p : Pr} (hi : l[i]? = some p) (h : varB l i p = false) : varsB l = false := by
  unfold varsB
  rw [List.all_eq_false]
  refine ⟨i, List.mem_range.2 (List.getElem?_eq_some_iff.1 hi).1, ?_⟩
  simp only [hi]
  unfold varB at h
  rw [h]
  simp
end Pl
/-- the place found is the own one just if the name is not there ahead -/
theorem var_first {l : List Pl.Pr} {i : Nat} {p : Pl.Pr} {r : Int} (hi : l[i]? = some p) (h : VarIs l p.nm r) : (r = i ↔ (l.take i).any (fun q => q.nm.data.toList == p.nm.data.toList) = false) := by
  constructor
  · intro hr
    rcases h with ⟨h, _⟩ | ⟨i', p', hi', hp', he, hb⟩
    · omega
    · have : i = i' := by omega
      subst this
      rw [List.any_eq_false]
      intro q hq
      obtain ⟨j, hj⟩ := List.mem_iff_getElem?.1 hq
      rw [List.getElem?_take] at hj
      split at hj
      · next hlt =>
        have := hb j q hlt hj
        rw [ByteArray.toList_eq, ByteArray.toList_eq] at this
        simp [this]
      · cases hj
  · intro ha
    rw [List.any_eq_false] at ha
    rcases h with ⟨_, h⟩ | ⟨i', p', hi', hp', he, hb⟩
    · have := h p (List.mem_of_getElem? hi)
      simp at this
    · have h1 : ¬ i' < i := by
        intro hlt
        have := ha p' (List.mem_of_getElem? (show (l.take i)[i']? = some p' by rw [List.getElem?_take, if_pos hlt]; exact hp'))
        rw [ByteArray.toList_eq, ByteArray.toList_eq] at he
        exact this he
      have h2 : ¬ i < i' := by
        intro hlt
        have := hb i p hlt hi
        simp at this
      omega
set_option maxHeartbeats 3200000 in
theorem l2Vars_any (l : List Pl.Pr) (hwf : ∀ p ∈ l, PrWf p) (vl : Value) (w : World) (hr : PrRow w l vl) :
    Calls Tryz.prog 29 #[vl] w fun e w' => e = .returned (.bool (Pl.varsB l)) ∧ Below w.heap.size w w' := by
  have HRW := hide hr
  obtain ⟨ad, cap, rfl, hc, hm, hx⟩ := hr
  unfold maxLen at hm
  have HX := hide hx
  have HW := hide hwf
  clear hx hwf
  go_enter Tryz.func29, Tryz.ntmps29
  go_wp2_with fail
  go_loopw [3] (fun iv wr => ∃ i : Nat, i ≤ l.length ∧ iv = .int .i64 i ∧ Hid (∀ j q, j < i → l[j]? = some q → Pl.varB l j q = true) ∧ Hid (Below w.heap.size w wr)) (fun iv _ => l.length - (intOf iv).toNat)
  case atStart => exact ⟨0, by omega, rfl, hide (fun j q hj => by omega), hide (Below.refl _ _)⟩
  case round =>
    obtain ⟨i, hi, rfl, HN, HB⟩ := hrel
    by_cases hlt : i < l.length
    · obtain ⟨g, off, rfl, hg, hs⟩ := HX.out (by omega)
      obtain ⟨p, hp⟩ : ∃ p, l[i]? = some p := ⟨_, List.getElem?_eq_getElem hlt⟩
      have hwp := HW.out p (List.mem_of_getElem? hp)
      have HP := hide hp
      have HAT := hide (hs i p hp)
      have hnm := hide (l1Name_any p.nm hwp.1)
      have hvo := hide (specValueOk_any p.v.k p.v.n p.v.t hwp.2)
      have hva := hide (fun W hW => l2Var_any l p.nm _ W (HRW.out.later hW))
      have HVB : Hid (Pl.varB l i p = ((Pl.nameB p.nm && Pl.okB p.v.k p.v.n p.v.t) && !((l.take i).any (fun q => q.nm.data.toList == p.nm.data.toList)))) := rfl
      have HNO : Hid (Pl.varB l i p = false → Pl.varsB l = false) := fun h => Pl.varsB_not HP.out h
      have HYES : Hid (Pl.varB l i p = true → ∀ j q, j < i + 1 → l[j]? = some q → Pl.varB l j q = true) := by
        intro h j q hj hq
        by_cases hji : j = i
        · subst hji
          rw [HP.out] at hq
          cases hq
          exact h
        · exact HN.out j q (by omega) hq
      have hii : (i : Int) < (l.length : Int) := by omega
      clear hs hp hwp
      obtain ⟨c0, _, _, _⟩ := HAT.out.later HB.out hg
      have hgr : g < wr.heap.size := by have := HB.out.size; omega
      generalize Pl.nameB p.nm = nb at *
      generalize Pl.okB p.v.k p.v.n p.v.t = ob at *
      go_wp2_with fail
      refine (hnm.out _).mono ?_
      rintro e w1 ⟨rfl, hB1⟩
      have HB1 := hide (HB.out.trans (hB1.mono HB.out.size))
      clear hB1 hnm c0 hgr HB
      cases nb
      · go_wp2
        go_ret
        exact ⟨by rw [HNO.out (by rw [HVB.out]; rfl)]; rfl, HB1.out⟩
      · obtain ⟨c0, c1, c2, c3⟩ := HAT.out.later HB1.out hg
        have hgr : g < w1.heap.size := by have := HB1.out.size; omega
        go_wp2_with fail
        refine (hvo.out _).mono ?_
        rintro e w2 ⟨rfl, hB2⟩
        have HB2 := hide (HB1.out.trans (hB2.mono HB1.out.size))
        clear hB2 hvo c0 c1 c2 c3 hgr HB1
        cases ob
        · go_wp2
          go_ret
          exact ⟨by rw [HNO.out (by rw [HVB.out]; rfl)]; rfl, HB2.out⟩
        · obtain ⟨c0, c1, c2, c3⟩ := HAT.out.later HB2.out hg
          have hgr : g < w2.heap.size := by have := HB2.out.size; omega
          go_wp2_with fail
          refine (hva.out _ HB2.out).mono ?_
          rintro e w3 ⟨r, rfl, hv, hr0, hr1, rfl⟩
          have HF := hide (var_first HP.out hv)
          clear hv hva
          by_cases hri : r = i
          · have hne : (r != (i : Int)) = false := by simp [hri]
            have HO := hide (HYES.out (by rw [HVB.out, HF.out.1 hri]; rfl))
            clear hri HF
            go_wp2
            go_roundw
            case rel => exact ⟨i + 1, by omega, by go_num, HO, HB2⟩
            case measure => simp [intOf]; omega
          · have hne : (r != (i : Int)) = true := by simp [hri]
            have HO := hide (HNO.out (by
              rw [HVB.out]
              cases ha : (l.take i).any (fun q => q.nm.data.toList == p.nm.data.toList)
              · exact absurd (HF.out.2 ha) hri
              · rfl))
            clear hri HF
            go_wp2
            go_ret
            exact ⟨by rw [HO.out]; rfl, HB2.out⟩
    · have HA : Hid (Pl.varsB l = true) := Pl.varsB_all fun j q hq => HN.out j q (by have := (List.getElem?_eq_some_iff.1 hq).1; omega) hq
      go_wp2_with fail
      go_ret
      exact ⟨by rw [HA.out]; rfl, HB.out⟩
/-- what is told of an expression -/
def Pl.evalO (l : List Pl.Pr) (nd : Nd) (k : Fo) : Option Va := if (Pl.okN nd k 5 && Pl.varsB l) = true then Pl.ev (Pl.lookP l) nd k else none
set_option maxHeartbeats 1600000 in
theorem specExprEval_any (nd : Nd) (k : Fo) (v : Value) (l : List Pl.Pr) (hpw : ∀ p ∈ l, PrWf p) (vl : Value) (w : World) (ht : nd.vt.size ≤ maxLen) (hn : nd.nm.size ≤ maxLen) (hwf : k.Wf) (hl : k.len ≤ 1048576) (hs : k.Sm) (hr : RowAt 0 w k v) (hrl : PrRow w l vl) :
    Calls Tryz.prog 11 #[ndV nd v, vl] w (EvPost (Pl.evalO l nd k) w) := by
  have hok := hide (fun W (hW : Below w.heap.size w W) => specExprOk_any nd k v W ht hn hwf hl hs (hr.later hW))
  have hva := hide (fun W (hW : Below w.heap.size w W) => l2Vars_any l hpw vl W (hrl.later hW))
  have hev := hide (fun (h1 : Pl.okN nd k 5 = true) (h2 : Pl.varsB l = true) W (hW : Below w.heap.size w W) => l2Eval_any 5 nd k v l vl W h1 h2 (hr.later hW) (hrl.later hW))
  have hR : Hid (∀ b1 b2, Pl.okN nd k 5 = b1 → Pl.varsB l = b2 → Pl.evalO l nd k = if (b1 && b2) = true then Pl.ev (Pl.lookP l) nd k else none) := by
    intro b1 b2 h1 h2
    subst h1 h2
    rfl
  have HS := hide (EB.start (w := w) (nd := nd) (v := v))
  obtain ⟨ad, cap, rfl, _⟩ := hr
  obtain ⟨a2, c2, rfl, _⟩ := hrl
  obtain ⟨nk, vk, vn, vt, nm⟩ := nd
  have hq : ∃ b1 b2, Pl.okN ⟨nk, vk, vn, vt, nm⟩ k 5 = b1 ∧ Pl.varsB l = b2 := ⟨_, _, rfl, rfl⟩
  obtain ⟨b1, b2, hb1, hb2⟩ := hq
  have hR2 := hide (hR.out b1 b2 hb1 hb2)
  rw [hb1] at hok
  rw [hb2] at hva
  have H1 := hide hb1
  have H2 := hide hb2
  clear ht hn hwf hs hpw hR hb1 hb2
  generalize Pl.evalO l ⟨nk, vk, vn, vt, nm⟩ k = R at *
  generalize Pl.ev (Pl.lookP l) ⟨nk, vk, vn, vt, nm⟩ k = R0 at *
  go_enter Tryz.func11, Tryz.ntmps11
  go_wp2_with fail
  refine (hok.out _ (two_below _ _ _)).mono ?_
  rintro e w1 ⟨rfl, hB1⟩
  have HX1 := hide (HS.out.later hB1)
  clear hB1 HS hok
  cases b1
  · obtain ⟨hb, r0, r1, r2, f0, f1, f2⟩ := HX1.out.back
    go_wp2
    obtain ⟨m0, m1, m2⟩ := es3 HX1.out.2.1 (.int .i64 0) (.int .i64 0) (.string ⟨#[]⟩)
    refine bodyPost_ret (v := .tuple #[vaV ⟨0, 0, ⟨#[]⟩⟩, .bool false]) (by simp [results, Tryz.results11, go_sem, m0, m1, m2]) rfl ?_
    exact ⟨by rw [hR2.out]; rfl, below_es3 HX1.out.2.2 (by omega) _ _ _⟩
  · go_wp2_with fail
    refine (hva.out _ HX1.out.2.2).mono ?_
    rintro e w2 ⟨rfl, hB2⟩
    have HX2 := hide (HX1.out.later hB2)
    clear hB2 HX1 hva
    cases b2
    · obtain ⟨hb, r0, r1, r2, f0, f1, f2⟩ := HX2.out.back
      go_wp2
      obtain ⟨m0, m1, m2⟩ := es3 HX2.out.2.1 (.int .i64 0) (.int .i64 0) (.string ⟨#[]⟩)
      refine bodyPost_ret (v := .tuple #[vaV ⟨0, 0, ⟨#[]⟩⟩, .bool false]) (by simp [results, Tryz.results11, go_sem, m0, m1, m2]) rfl ?_
      exact ⟨by rw [hR2.out]; rfl, below_es3 HX2.out.2.2 (by omega) _ _ _⟩
    · have hbp : w.heap.size < w2.heap.size := (Array.getElem?_eq_some_iff.1 HX2.out.1).1
      have p0 : w2.cell? ⟨w.heap.size, 0, none⟩ = some (.int .i64 nk) := cell_of_block HX2.out.1 0
      have p1 : w2.cell? ⟨w.heap.size, 1, none⟩ = some (.int .i64 vk) := cell_of_block HX2.out.1 1
      have p2 : w2.cell? ⟨w.heap.size, 2, none⟩ = some (.int .i64 vn) := cell_of_block HX2.out.1 2
      have p3 : w2.cell? ⟨w.heap.size, 3, none⟩ = some (.string vt) := cell_of_block HX2.out.1 3
      have p4 : w2.cell? ⟨w.heap.size, 4, none⟩ = some (.string nm) := cell_of_block HX2.out.1 4
      have p5 : w2.cell? ⟨w.heap.size, 5, none⟩ = some (.slice ad k.len cap) := cell_of_block HX2.out.1 5
      have hev' := hide (hev.out H1.out H2.out)
      go_wp2_with fail
      refine (hev'.out _ HX2.out.2.2).mono ?_
      rintro e w3 ⟨rfl, hB3⟩
      have HX3 := hide (HX2.out.later hB3)
      unfold evR
      clear hB3 HX2 hev hev' p0 p1 p2 p3 p4 p5 hbp
      have hRR : Hid (R = R0) := hR2
      clear hR2
      obtain ⟨hb, r0, r1, r2, f0, f1, f2⟩ := HX3.out.back
      cases R0 with
      | none =>
        go_wp2
        obtain ⟨m0, m1, m2⟩ := es3 HX3.out.2.1 (.int .i64 0) (.int .i64 0) (.string ⟨#[]⟩)
        refine bodyPost_ret (v := .tuple #[vaV ⟨0, 0, ⟨#[]⟩⟩, .bool false]) (by simp [results, Tryz.results11, go_sem, m0, m1, m2]) rfl ?_
        exact ⟨by rw [hRR.out]; rfl, below_es3 HX3.out.2.2 (by omega) _ _ _⟩
      | some x =>
        go_wp2
        obtain ⟨m0, m1, m2⟩ := es3 HX3.out.2.1 (.int .i64 x.k) (.int .i64 x.n) (.string x.t)
        refine bodyPost_ret (v := .tuple #[vaV x, .bool true]) (by simp [results, Tryz.results11, go_sem, m0, m1, m2]) rfl ?_
        exact ⟨by rw [hRR.out]; rfl, below_es3 HX3.out.2.2 (by omega) _ _ _⟩
end Go.Proofs.YtamkncfdfaejjaaGreatDoor

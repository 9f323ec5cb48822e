/- What an expression is, as the specification has it: and, or, by the first part alone. -/
import Derived.Test.YtiffgomkhoalpaaGreatDoorEvS4
namespace Go.Proofs.YtiffgomkhoalpaaGreatDoor
open Go.RowKit
set_option linter.unusedVariables false
set_option linter.unusedSimpArgs false
set_option maxHeartbeats 1600000 in
theorem evS_and0 (vt nm : ByteArray) (k : Fo) (v vl : Value) (w : World) (hr : RowAt 0 w k v) (na : Nd) (ka : Fo) (ga : k.get 0 = some (na, ka)) (a : Va) (ca : Part na ka vl w (some a)) (hvl : ∃ a n c, vl = .slice a n c) (hcb : Pl.countsA a = false) :
    Calls Tryz.prog 30 #[ndV ⟨8, 0, 0, vt, nm⟩ v, vl] w (EvPost (some (Pl.truthA false)) w) := by
  have HR := hide hr
  obtain ⟨ad, cap, rfl, hc, hm, hx⟩ := hr
  obtain ⟨_, _, _, rfl⟩ := hvl
  unfold maxLen at hm
  obtain ⟨g, off, va, rfl, hi, hg, hnd⟩ := part_at HR.out ga
  rw [show off + 0 * 6 = off by omega] at hnd
  obtain ⟨d0, d1, d2, d3, d4, d5, hrow⟩ := hnd
  have HC := hide (fun W (hB : Below w.heap.size w W) => ca va W hB (hrow.later hB))
  have HS := hide (EB.start (w := w) (nd := ⟨8, 0, 0, vt, nm⟩) (v := .slice (some ⟨g, off, none⟩) k.len cap))
  obtain ⟨_, _, rfl, _⟩ := hrow
  have ht := hide (l2True_any a)
  rw [hcb] at ht
  have hb2 := hide (l2Bool_any false)
  clear hx
  go_enter Tryz.func30, Tryz.ntmps30
  go_wp2_with fail
  refine (HC.out _ (two_below _ _ _)).mono ?_
  rintro e w1 ⟨rfl, hB1⟩
  have HX1 := hide (HS.out.later hB1)
  unfold evR
  clear HC HS hB1 d0 d1 d2 d3 d4 d5
  have HE1 := hide (EA.start (x := a) HX1.out)
  obtain ⟨hb0, p0, p5⟩ := HE1.out.1.arg
  go_wp2_with fail
  refine (ht.out _).mono ?_
  rintro e w2 ⟨rfl, hB2⟩
  have HE2 := hide (HE1.out.later hB2)
  clear hB2 HE1 ht p0 p5 hb0
  go_wp2_with fail
  refine (hb2.out _).mono ?_
  rintro e w3 ⟨rfl, hB3⟩
  have HE3 := hide (HE2.out.later hB3)
  clear hB3 HE2 hb2
  obtain ⟨z, hz⟩ : ∃ z : Int, Pl.truthA false = ⟨1, z, ⟨#[]⟩⟩ := ⟨_, rfl⟩
  rw [hz]
  have HZ := hide hz
  clear hz
  obtain ⟨hb, r0, r1, r2, f0, f1, f2⟩ := HE3.out.1.back
  go_wp2
  obtain ⟨m0, m1, m2⟩ := es3 HE3.out.1.2.1 (.int .i64 1) (.int .i64 z) (.string ⟨#[]⟩)
  refine bodyPost_ret (v := .tuple #[vaV ⟨1, z, ⟨#[]⟩⟩, .bool true]) (by simp [results, Tryz.results30, go_sem, m0, m1, m2]) rfl ?_
  exact ⟨by rw [HZ.out]; rfl, below_es3 HE3.out.1.2.2 (by omega) _ _ _⟩
set_option maxHeartbeats 1600000 in
theorem evS_or1 (vt nm : ByteArray) (k : Fo) (v vl : Value) (w : World) (hr : RowAt 0 w k v) (na : Nd) (ka : Fo) (ga : k.get 0 = some (na, ka)) (a : Va) (ca : Part na ka vl w (some a)) (hvl : ∃ a n c, vl = .slice a n c) (hcb : Pl.countsA a = true) :
    Calls Tryz.prog 30 #[ndV ⟨9, 0, 0, vt, nm⟩ v, vl] w (EvPost (some (Pl.truthA true)) w) := by
  have HR := hide hr
  obtain ⟨ad, cap, rfl, hc, hm, hx⟩ := hr
  obtain ⟨_, _, _, rfl⟩ := hvl
  unfold maxLen at hm
  obtain ⟨g, off, va, rfl, hi, hg, hnd⟩ := part_at HR.out ga
  rw [show off + 0 * 6 = off by omega] at hnd
  obtain ⟨d0, d1, d2, d3, d4, d5, hrow⟩ := hnd
  have HC := hide (fun W (hB : Below w.heap.size w W) => ca va W hB (hrow.later hB))
  have HS := hide (EB.start (w := w) (nd := ⟨9, 0, 0, vt, nm⟩) (v := .slice (some ⟨g, off, none⟩) k.len cap))
  obtain ⟨_, _, rfl, _⟩ := hrow
  have ht := hide (l2True_any a)
  rw [hcb] at ht
  have hb2 := hide (l2Bool_any true)
  clear hx
  go_enter Tryz.func30, Tryz.ntmps30
  go_wp2_with fail
  refine (HC.out _ (two_below _ _ _)).mono ?_
  rintro e w1 ⟨rfl, hB1⟩
  have HX1 := hide (HS.out.later hB1)
  unfold evR
  clear HC HS hB1 d0 d1 d2 d3 d4 d5
  have HE1 := hide (EA.start (x := a) HX1.out)
  obtain ⟨hb0, p0, p5⟩ := HE1.out.1.arg
  go_wp2_with fail
  refine (ht.out _).mono ?_
  rintro e w2 ⟨rfl, hB2⟩
  have HE2 := hide (HE1.out.later hB2)
  clear hB2 HE1 ht p0 p5 hb0
  go_wp2_with fail
  refine (hb2.out _).mono ?_
  rintro e w3 ⟨rfl, hB3⟩
  have HE3 := hide (HE2.out.later hB3)
  clear hB3 HE2 hb2
  obtain ⟨z, hz⟩ : ∃ z : Int, Pl.truthA true = ⟨1, z, ⟨#[]⟩⟩ := ⟨_, rfl⟩
  rw [hz]
  have HZ := hide hz
  clear hz
  obtain ⟨hb, r0, r1, r2, f0, f1, f2⟩ := HE3.out.1.back
  go_wp2
  obtain ⟨m0, m1, m2⟩ := es3 HE3.out.1.2.1 (.int .i64 1) (.int .i64 z) (.string ⟨#[]⟩)
  refine bodyPost_ret (v := .tuple #[vaV ⟨1, z, ⟨#[]⟩⟩, .bool true]) (by simp [results, Tryz.results30, go_sem, m0, m1, m2]) rfl ?_
  exact ⟨by rw [HZ.out]; rfl, below_es3 HE3.out.1.2.2 (by omega) _ _ _⟩
end Go.Proofs.YtiffgomkhoalpaaGreatDoor

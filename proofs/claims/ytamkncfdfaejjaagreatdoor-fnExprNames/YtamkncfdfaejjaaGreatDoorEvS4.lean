/- What an expression is, as the specification has it: what is made of its parts. -/
import Derived.Test.YtamkncfdfaejjaaGreatDoorEvS3
namespace Go.Proofs.YtamkncfdfaejjaaGreatDoor
open Go.RowKit
set_option linter.unusedVariables false
set_option linter.unusedSimpArgs false
/-- the boxed argument, and what is handed back -/
def EB (w : World) (nd : Nd) (v : Value) (X : World) : Prop :=
  X.heap[w.heap.size]? = some (.cells #[.int .i64 nd.k, .int .i64 nd.vk, .int .i64 nd.vn, .string nd.vt, .string nd.nm, v] 35 (0, 0)) ∧ X.heap[w.heap.size + 1]? = some (.cells #[.int .i64 0, .int .i64 0, .string ⟨#[]⟩] 30 (0, 0)) ∧ Below w.heap.size w X
theorem EB.later {w X X1 : World} {nd : Nd} {v : Value} (h : EB w nd v X) (hB : Below X.heap.size X X1) : EB w nd v X1 := by
  have l0 := (Array.getElem?_eq_some_iff.1 h.1).1
  have l1 := (Array.getElem?_eq_some_iff.1 h.2.1).1
  exact ⟨(hB.block _ l0).trans h.1, (hB.block _ l1).trans h.2.1, h.2.2.trans (hB.mono h.2.2.size)⟩
theorem EB.start {w : World} {nd : Nd} {v : Value} : EB w nd v ((w.alloc (.cells #[.int .i64 nd.k, .int .i64 nd.vk, .int .i64 nd.vn, .string nd.vt, .string nd.nm, v] 35)).alloc (.cells #[.int .i64 0, .int .i64 0, .string ⟨#[]⟩] 30)) := by
  have e1 : (w.alloc (.cells #[.int .i64 nd.k, .int .i64 nd.vk, .int .i64 nd.vn, .string nd.vt, .string nd.nm, v] 35)).heap.size = w.heap.size + 1 := by simp
  refine ⟨?_, ?_, two_below _ _ _⟩
  · rw [heap_alloc_at, if_neg (by omega), heap_alloc_at, if_pos rfl]
  · rw [heap_alloc_at, if_pos (by omega)]
theorem EB.back {w X : World} {nd : Nd} {v : Value} (h : EB w nd v X) : w.heap.size + 1 < X.heap.size ∧ X.cell? ⟨w.heap.size + 1, 0, none⟩ = some (.int .i64 0) ∧ X.cell? ⟨w.heap.size + 1, 1, none⟩ = some (.int .i64 0) ∧ X.cell? ⟨w.heap.size + 1, 2, none⟩ = some (.string ⟨#[]⟩) ∧ X.frozen? ⟨w.heap.size + 1, 0, none⟩ = false ∧ X.frozen? ⟨w.heap.size + 1, 1, none⟩ = false ∧ X.frozen? ⟨w.heap.size + 1, 2, none⟩ = false :=
  ⟨(Array.getElem?_eq_some_iff.1 h.2.1).1, cell_of_block h.2.1 0, cell_of_block h.2.1 1, cell_of_block h.2.1 2, free_of_block h.2.1 0, free_of_block h.2.1 1, free_of_block h.2.1 2⟩
theorem EB.arg {w X : World} {nd : Nd} {v : Value} (h : EB w nd v X) : w.heap.size < X.heap.size ∧ X.cell? ⟨w.heap.size, 0, none⟩ = some (.int .i64 nd.k) ∧ X.cell? ⟨w.heap.size, 5, none⟩ = some v :=
  ⟨(Array.getElem?_eq_some_iff.1 h.1).1, cell_of_block h.1 0, cell_of_block h.1 5⟩
theorem alloc_keep {w : World} {b : Nat} {x o : Obj} (h : w.heap[b]? = some x) : (w.alloc o).heap[b]? = some x := by
  have hl := (Array.getElem?_eq_some_iff.1 h).1
  rw [heap_alloc_at, if_neg (by omega)]
  exact h
/-- beside those, a value in a box of its own -/
def EA (w : World) (nd : Nd) (v : Value) (b : Nat) (x : Va) (X : World) : Prop := EB w nd v X ∧ X.heap[b]? = some (.cells #[.int .i64 x.k, .int .i64 x.n, .string x.t] 30 (0, 0))
theorem EA.later {w X X1 : World} {nd : Nd} {v : Value} {b : Nat} {x : Va} (h : EA w nd v b x X) (hB : Below X.heap.size X X1) : EA w nd v b x X1 :=
  ⟨h.1.later hB, (hB.block _ (Array.getElem?_eq_some_iff.1 h.2).1).trans h.2⟩
theorem EA.start {w X : World} {nd : Nd} {v : Value} {x : Va} (h : EB w nd v X) : EA w nd v X.heap.size x (X.alloc (.cells #[.int .i64 x.k, .int .i64 x.n, .string x.t] 30)) :=
  ⟨h.later ((Below.refl _ _).alloc (Nat.le_refl _) _), by rw [heap_alloc_at, if_pos rfl]⟩
theorem EA.val {w X : World} {nd : Nd} {v : Value} {b : Nat} {x : Va} (h : EA w nd v b x X) : b < X.heap.size ∧ X.cell? ⟨b, 0, none⟩ = some (.int .i64 x.k) ∧ X.cell? ⟨b, 1, none⟩ = some (.int .i64 x.n) ∧ X.cell? ⟨b, 2, none⟩ = some (.string x.t) :=
  ⟨(Array.getElem?_eq_some_iff.1 h.2).1, cell_of_block h.2 0, cell_of_block h.2 1, cell_of_block h.2 2⟩
/-- a part at its place -/
theorem part_at {w : World} {k : Fo} {ad : Option Addr} {cap : Nat} (hr : RowAt 0 w k (.slice ad k.len cap)) {i : Nat} {na : Nd} {ka : Fo} (hg : k.get i = some (na, ka)) :
    ∃ g off va, ad = some ⟨g, off, none⟩ ∧ i < k.len ∧ g < w.heap.size ∧ NdAt 0 w g (off + i * 6) na ka va := by
  have hi : i < k.len := by
    apply Classical.byContradiction
    intro hn
    rw [Fo.get_none k i (by omega)] at hg
    cases hg
  obtain ⟨ad', cap', he, _, _, hx⟩ := hr
  cases he
  obtain ⟨g, off, ha, _, hgl, hfo⟩ := hx (by omega)
  obtain ⟨va, hnd⟩ := hfo.get hg
  exact ⟨g, off, va, ha, hi, hgl, hnd⟩
/-- the part's call -/
def Part (na : Nd) (ka : Fo) (vl : Value) (w : World) (r : Option Va) : Prop := ∀ va W, Below w.heap.size w W → RowAt 0 W ka va → Calls Tryz.prog 30 #[ndV na va, vl] W (EvPost r W)
set_option maxHeartbeats 1600000 in
theorem evS_none (nk : Int) (n1 : ¬ nk = 1) (n2 : ¬ nk = 2) (vt nm : ByteArray) (k : Fo) (v vl : Value) (w : World) (hr : RowAt 0 w k v) (na : Nd) (ka : Fo) (ga : k.get 0 = some (na, ka)) (ca : Part na ka vl w none) (hvl : ∃ a n c, vl = .slice a n c) :
    Calls Tryz.prog 30 #[ndV ⟨nk, 0, 0, vt, nm⟩ v, vl] w (EvPost none w) := by
  have HR := hide hr
  obtain ⟨ad, cap, rfl, hc, hm, hx⟩ := hr
  obtain ⟨_, _, _, rfl⟩ := hvl
  unfold maxLen at hm
  have q1 : (nk == 1) = false := by simp [n1]
  have q2 : (nk == 2) = false := by simp [n2]
  obtain ⟨g, off, va, rfl, hi, hg, hnd⟩ := part_at HR.out ga
  rw [show off + 0 * 6 = off by omega] at hnd
  obtain ⟨d0, d1, d2, d3, d4, d5, hrow⟩ := hnd
  have HC := hide (fun W (hB : Below w.heap.size w W) => ca va W hB (hrow.later hB))
  have HS := hide (EB.start (w := w) (nd := ⟨nk, 0, 0, vt, nm⟩) (v := .slice (some ⟨g, off, none⟩) k.len cap))
  obtain ⟨_, _, rfl, _⟩ := hrow
  clear hx n1 n2
  go_enter Tryz.func30, Tryz.ntmps30
  go_wp2_with fail
  refine (HC.out _ (two_below _ _ _)).mono ?_
  rintro e w1 ⟨rfl, hB1⟩
  have HX1 := hide (HS.out.later hB1)
  unfold evR
  clear HC HS hB1 d0 d1 d2 d3 d4 d5
  obtain ⟨hb, r0, r1, r2, f0, f1, f2⟩ := HX1.out.back
  go_wp2
  obtain ⟨m0, m1, m2⟩ := es3 HX1.out.2.1 (.int .i64 0) (.int .i64 0) (.string ⟨#[]⟩)
  have hsz : ∀ u0 u1 u2, w.heap.size + 1 < (((w1.setCell ⟨w.heap.size + 1, 0, none⟩ u0).setCell ⟨w.heap.size + 1, 1, none⟩ u1).setCell ⟨w.heap.size + 1, 2, none⟩ u2).heap.size := fun u0 u1 u2 => by simpa using hb
  have k0 := (World.cell?_alloc_lt _ (.cells #[.int .i64 0, .int .i64 0, .string ⟨#[]⟩] 30) ⟨w.heap.size + 1, 0, none⟩ (hsz (.int .i64 0) (.int .i64 0) (.string ⟨#[]⟩))).trans m0
  have k1 := (World.cell?_alloc_lt _ (.cells #[.int .i64 0, .int .i64 0, .string ⟨#[]⟩] 30) ⟨w.heap.size + 1, 1, none⟩ (hsz (.int .i64 0) (.int .i64 0) (.string ⟨#[]⟩))).trans m1
  have k2 := (World.cell?_alloc_lt _ (.cells #[.int .i64 0, .int .i64 0, .string ⟨#[]⟩] 30) ⟨w.heap.size + 1, 2, none⟩ (hsz (.int .i64 0) (.int .i64 0) (.string ⟨#[]⟩))).trans m2
  clear m0 m1 m2
  refine bodyPost_ret (v := .tuple #[vaV ⟨0, 0, ⟨#[]⟩⟩, .bool false]) (by simp [results, Tryz.results30, go_sem, k0, k1, k2]) rfl ?_
  have hBB := below_es3 HX1.out.2.2 (show w.heap.size ≤ w.heap.size + 1 by omega) (.int .i64 0) (.int .i64 0) (.string ⟨#[]⟩)
  exact ⟨rfl, hBB.alloc hBB.size _⟩
set_option maxHeartbeats 1600000 in
theorem evS_not (vt nm : ByteArray) (k : Fo) (v vl : Value) (w : World) (hr : RowAt 0 w k v) (na : Nd) (ka : Fo) (ga : k.get 0 = some (na, ka)) (a : Va) (ca : Part na ka vl w (some a)) (hvl : ∃ a n c, vl = .slice a n c) :
    Calls Tryz.prog 30 #[ndV ⟨10, 0, 0, vt, nm⟩ v, vl] w (EvPost (some (Pl.truthA (!Pl.countsA a))) w) := by
  have HR := hide hr
  obtain ⟨ad, cap, rfl, hc, hm, hx⟩ := hr
  obtain ⟨_, _, _, rfl⟩ := hvl
  unfold maxLen at hm
  obtain ⟨g, off, va, rfl, hi, hg, hnd⟩ := part_at HR.out ga
  rw [show off + 0 * 6 = off by omega] at hnd
  obtain ⟨d0, d1, d2, d3, d4, d5, hrow⟩ := hnd
  have HC := hide (fun W (hB : Below w.heap.size w W) => ca va W hB (hrow.later hB))
  have HS := hide (EB.start (w := w) (nd := ⟨10, 0, 0, vt, nm⟩) (v := .slice (some ⟨g, off, none⟩) k.len cap))
  obtain ⟨_, _, rfl, _⟩ := hrow
  have ht := hide (l2True_any a)
  have hb2 := hide (l2Bool_any (!Pl.countsA a))
  generalize Pl.countsA a = cb at *
  clear hx
  go_enter Tryz.func30, Tryz.ntmps30
  go_wp2_with fail
  refine (HC.out _ (two_below _ _ _)).mono ?_
  rintro e w1 ⟨rfl, hB1⟩
  have HX1 := hide (HS.out.later hB1)
  unfold evR
  clear HC HS hB1 d0 d1 d2 d3 d4 d5
  have HE1 := hide (EA.start (x := a) HX1.out)
  obtain ⟨hb0, p0, p5⟩ := HE1.out.1.arg
  go_wp2_with fail
  refine (ht.out _).mono ?_
  rintro e w2 ⟨rfl, hB2⟩
  have HE2 := hide (HE1.out.later hB2)
  clear hB2 HE1 ht p0 p5 hb0
  go_wp2_with fail
  refine (hb2.out _).mono ?_
  rintro e w3 ⟨rfl, hB3⟩
  have HE3 := hide (HE2.out.later hB3)
  clear hB3 HE2 hb2
  obtain ⟨z, hz⟩ : ∃ z : Int, Pl.truthA (!cb) = ⟨1, z, ⟨#[]⟩⟩ := ⟨_, rfl⟩
  rw [hz]
  have HZ := hide hz
  clear hz
  obtain ⟨hb, r0, r1, r2, f0, f1, f2⟩ := HE3.out.1.back
  go_wp2
  obtain ⟨m0, m1, m2⟩ := es3 HE3.out.1.2.1 (.int .i64 1) (.int .i64 z) (.string ⟨#[]⟩)
  refine bodyPost_ret (v := .tuple #[vaV ⟨1, z, ⟨#[]⟩⟩, .bool true]) (by simp [results, Tryz.results30, go_sem, m0, m1, m2]) rfl ?_
  exact ⟨by rw [HZ.out]; rfl, below_es3 HE3.out.1.2.2 (by omega) _ _ _⟩
end Go.Proofs.YtamkncfdfaejjaaGreatDoor

/- A drawn text: one of a list. -/
import Derived.Test.YtamkogkcdmgjoaaDoorDraw
namespace Go.Proofs.YtamkogkcdmgjoaaDoor
open Go.RowKit
set_option linter.unusedVariables false

/-- a list of n short texts that lies in block g -/
def Shorts (n g : Nat) (W : World) : Prop := ∀ i, i < n → ∃ s : ByteArray, W.cell? ⟨g, i, none⟩ = some (.string s) ∧ s.size ≤ 24

/-- a short text was handed back; but for draws the world is W1 -/
def Drawn (W1 : World) (e : Ending) (W' : World) : Prop := ∃ (s : ByteArray) (k : Nat), s.size ≤ 24 ∧ e = .returned (.string s) ∧ W' = World.drewN W1 k
theorem RdAt.next {n₀ br p len : Nat} {W : World} (h : RdAt n₀ br p len W) (k : Nat) : RdAt n₀ br (p + 1) len (World.drewN (W.setCell ⟨br, 1, none⟩ (.int .i64 ((p : Int) + 1))) k) := by
  have := h.set (p + 1) k
  rwa [show ((p + 1 : Nat) : Int) = (p : Int) + 1 from by omega] at this
theorem RdAt.alloc {n₀ br p len : Nat} {W : World} (h : RdAt n₀ br p len W) (o : Obj) : RdAt n₀ br p len (W.alloc o) := by
  obtain ⟨h1, h2, c, h3, h4⟩ := h
  have hlt : br < W.heap.size := (Array.getElem?_eq_some_iff.1 h3).1
  exact ⟨h1, h2, c, (Below.heap_alloc W o br hlt).trans h3, h4.later (((Below.refl _ W).alloc (Nat.le_refl _) o).mono (by omega))⟩
theorem RdAt.lt {n₀ br p len : Nat} {W : World} (h : RdAt n₀ br p len W) : br < W.heap.size := by
  obtain ⟨h1, h2, c, h3, h4⟩ := h
  exact (Array.getElem?_eq_some_iff.1 h3).1
theorem shorts_lit {W : World} {n : Nat} {C : Array Value} {t : TypeId} (h : ∀ i, i < n → ∃ s : ByteArray, C[i]? = some (.string s) ∧ s.size ≤ 24) : Shorts n W.heap.size (W.alloc (.cells C t)) := by
  intro i hi
  obtain ⟨s, h1, h2⟩ := h i hi
  exact ⟨s, (World.cell?_alloc_at _ _ _ _ rfl).trans h1, h2⟩
theorem below_pick {B br : Nat} {W : World} {q : Int} {k : Nat} (h : B ≤ br) : Below B W (World.drewN (W.setCell ⟨br, 1, none⟩ (.int .i64 q)) k) :=
  below_drewN ((Below.refl B W).setCell (p := ⟨br, 1, none⟩) h _) k

set_option maxHeartbeats 800000 in
theorem of_any (n₀ br p len n g cap : Nat) (hn : 1 ≤ n) (hn2 : n ≤ 1000) (hp : p ≤ 1000000) (W : World) (hR : RdAt n₀ br p len W) (hg : g ≠ br) (hS : Shorts n g W) :
    Calls Tryd.prog 23 #[.pointer (some ⟨br, 0, none⟩), .slice (some ⟨g, 0, none⟩) n cap] W (Drawn (W.setCell ⟨br, 1, none⟩ (.int .i64 ((p : Int) + 1)))) := by
  have hpk := hide (pick_any n₀ br p len n hn (by omega) hp W hR)
  go_enter Tryd.func23, Tryd.ntmps23
  go_wp2_with fail
  refine hpk.out.mono ?_
  rintro e W1 ⟨x, k, hx, rfl, rfl⟩
  obtain ⟨s, hc, hs⟩ := hS x hx
  have hc1 : (W.setCell ⟨br, 1, none⟩ (.int .i64 ((p : Int) + 1))).cell? ⟨g, x, none⟩ = some (.string s) := by
    rw [World.cell?_setCell_other _ _ _ _ (by intro h; cases h; exact hg rfl)]; exact hc
  have hxi : (x : Int) < (n : Int) := by omega
  have hS2 := hide hS
  clear hS
  go_wp2
  go_ret
  exact ⟨s, k, hs, rfl, rfl⟩


end Go.Proofs.YtamkogkcdmgjoaaDoor

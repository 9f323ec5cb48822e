/- Rows that are marked. -/
import Derived.Test.YthkklmfjdjiafaaCaE
import Derived.Test.YthkklmfjdjiafaaMark
namespace Go.Proofs.Ythkklmfjdjiafaa
open Go.RowKit
set_option linter.unusedVariables false
set_option linter.unusedSimpArgs false
theorem below_drew' {n : Nat} {a w : World} (h : Below n a w) : Below n a w.drew := h.drew
theorem markText_at (z : Int) (n : Nat) (h : z = n) (h1 : 1 ≤ n) (h2 : n ≤ 1000000000) (w : World) :
    Calls Try.prog 34 #[.int .i64 z] w fun e w' => e = .returned (.string (Pl.bs (Pl.mark n))) ∧ Below w.heap.size w w' := by
  rw [h]; exact markText_any n h1 h2 w
theorem cell_in {W : World} {b j : Nat} {C : Array Value} {T : TypeId} (h : W.heap[b]? = some (.cells C T (0, 0))) (hj : j < C.size) : ∃ u, W.cell? ⟨b, j, none⟩ = some u := by
  rw [cell_of_block h, Array.getElem?_eq_getElem hj]
  exact ⟨_, rfl⟩
theorem gb_set {W X : World} {b i : Nat} {v : Value} (h : W.grownBy X (some b)) : W.grownBy (X.setCell ⟨b, i, none⟩ v) (some b) :=
  ⟨h.os, h.tape, h.output, by have := h.size; simp [World.setCell]; exact this, fun k hk hne => (Below.heap_setCell _ _ _ _ (by simp only; intro e; exact hne (by rw [e]))).trans (h.block k hk hne)⟩
theorem gb_later {W X Y : World} {r : Option Nat} (h : W.grownBy X r) (hB : Below X.heap.size X Y) : W.grownBy Y r :=
  ⟨hB.os.trans h.os, hB.tape.trans h.tape, hB.output.trans h.output, Nat.le_trans h.size hB.size, fun k hk hne => (hB.block k (by have := h.size; omega)).trans (h.block k hk hne)⟩
theorem gb_refl (W : World) (r : Option Nat) : W.grownBy W r := ⟨rfl, rfl, rfl, Nat.le_refl _, fun _ _ _ => rfl⟩
/-- a row whose first i parts are marked -/
def RowM (T : TypeId) (m : Nat) (mk : Nat → List Value) (k : Nat) (a : Option Addr) (n i : Nat) (W : World) : Prop :=
  0 < n → ∃ b C, a = some ⟨b, 0, none⟩ ∧ W.heap[b]? = some (.cells C T (0, 0)) ∧ n * m ≤ C.size ∧ (∀ j, j < i → ∀ t u, (mk (k + m * j))[t]? = some u → C[j * m + t]? = some u)
theorem RowM.later {T : TypeId} {m : Nat} {mk : Nat → List Value} {k : Nat} {a : Option Addr} {n i : Nat} {W W1 : World} (h : RowM T m mk k a n i W) (hB : Below W.heap.size W W1) : RowM T m mk k a n i W1 := by
  intro hn
  obtain ⟨b, C, ha, hb, hs, hc⟩ := h hn
  exact ⟨b, C, ha, (hB.block _ (Array.getElem?_eq_some_iff.1 hb).1).trans hb, hs, hc⟩
theorem RowM.of_own {T : TypeId} {m : Nat} {mk : Nat → List Value} {k base : Nat} {a : Option Addr} {n c : Nat} {xs : List Value} {W : World} (h : W.ownsRow base T m (.slice a n c) n xs) : RowM T m mk k a n 0 W := by
  intro hn
  rcases h.2 with ⟨h1, h0⟩ | ⟨g, cap, cur, hv, hb, hg, hnc, hm, hs, ht⟩
  · omega
  · injection hv with h1 h2 h3
    exact ⟨g, cur, h1, hg, by rw [hs]; exact Nat.mul_le_mul_right _ hnc, fun j hj => by omega⟩
/-- the block that is written, if there is anything to write -/
def ownB (a : Option Addr) (n : Nat) : Option Nat := if n = 0 then none else (Value.slice a n n).ownBlock
theorem ownB_some (b : Nat) {n : Nat} (h : 0 < n) : ownB (some ⟨b, 0, none⟩) n = some b := by
  unfold ownB
  rw [if_neg (by omega)]
  rfl
theorem ownB_in {a : Option Addr} {n g : Nat} (h : ownB a n = some g) {b : Nat} (ha : a = some ⟨b, 0, none⟩) : g = b := by
  unfold ownB at h
  split at h
  · cases h
  · rw [ha] at h
    injection h with h
    exact h.symm
theorem ownB_pos {a : Option Addr} {n g : Nat} (h : ownB a n = some g) : 0 < n := by
  unfold ownB at h
  split at h
  · cases h
  · omega
theorem RowM.keep {T : TypeId} {m : Nat} {mk : Nat → List Value} {k : Nat} {a : Option Addr} {n i : Nat} {W W1 : World} (h : RowM T m mk k a n i W) (hk : ∀ b C, a = some ⟨b, 0, none⟩ → W.heap[b]? = some (.cells C T (0, 0)) → W1.heap[b]? = W.heap[b]?) : RowM T m mk k a n i W1 := by
  intro hn
  obtain ⟨b, C, ha, hb, hs, hc⟩ := h hn
  exact ⟨b, C, ha, (hk b C ha hb).trans hb, hs, hc⟩
theorem RowM.of_blk {α : Type} {T : TypeId} {m : Nat} {f : α → List Value} {mk : Nat → List Value} {k lo hi : Nat} {w : World} {l : List α} {a : Option Addr} {n c : Nat} (h : PBlk T m f lo hi w l (.slice a n c)) (hn : n = l.length) : RowM T m mk k a n 0 w ∧ n ≤ c ∧ c ≤ maxLen ∧ (0 < n → ∃ b, a = some ⟨b, 0, none⟩ ∧ lo ≤ b ∧ b < hi) := by
  obtain ⟨a', c', hv, h1, h2, hx⟩ := h
  injection hv with e1 e2 e3
  subst e1 e3
  subst hn
  refine ⟨fun hp => ?_, h1, h2, fun hp => ?_⟩
  · obtain ⟨b, C, ha, hb, hb2, hc, hs, hcl⟩ := hx hp
    exact ⟨b, C, ha, hc, hs, fun j hj => by omega⟩
  · obtain ⟨b, C, ha, hb, hb2, hc, hs, hcl⟩ := hx hp
    exact ⟨b, ha, hb, hb2⟩
end Go.Proofs.Ythkklmfjdjiafaa

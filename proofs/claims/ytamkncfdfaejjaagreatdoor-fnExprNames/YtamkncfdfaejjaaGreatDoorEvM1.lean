/- A map of values by names, as the program keeps what names are. -/
import Derived.Test.YtamkncfdfaejjaaGreatDoorPlEv2
import Derived.Maps.OwnSet
import Derived.Maps.OwnOps
import Derived.Maps.Views
namespace Go.Proofs.YtamkncfdfaejjaaGreatDoor
open Go.RowKit Go.Maps Go.WideMaps
set_option linter.unusedVariables false
set_option linter.unusedSimpArgs false
theorem keyS : Keyed Tryz.prog 9 := string_keyed Tryz.underlying9
/-- a value as a datum -/
def datA (v : Va) : DataW Unit := .agg [.lit (.int .i64 v.k), .lit (.int .i64 v.n), .lit (.string v.t.data.toList)]
open Classical in
/-- how an element reads -/
noncomputable def valE (v : Value) : Option (DataW Unit × List MemPlace) := if h : ∃ x : Va, v = vaV x then some (datA (Classical.choose h), []) else none
theorem vaV_inj {x y : Va} (h : vaV x = vaV y) : x = y := by
  obtain ⟨a, b, c⟩ := x
  obtain ⟨a', b', c'⟩ := y
  simp [vaV] at h
  obtain ⟨rfl, rfl, rfl⟩ := h
  rfl
theorem datA_inj {x y : Va} (h : datA x = datA y) : x = y := by
  obtain ⟨a, b, c⟩ := x
  obtain ⟨a', b', c'⟩ := y
  simp [datA] at h
  obtain ⟨rfl, rfl, h⟩ := h
  have : c = c' := by
    cases c
    cases c'
    simp at h
    rw [h]
  rw [this]
theorem valE_mk (x : Va) : valE (vaV x) = some (datA x, []) := by
  have h : ∃ y : Va, vaV x = vaV y := ⟨x, rfl⟩
  unfold valE
  rw [dif_pos h]
  have := vaV_inj (Classical.choose_spec h)
  rw [← this]
theorem valE_inv {v : Value} {z : DataW Unit × List MemPlace} (h : valE v = some z) : ∃ x : Va, v = vaV x ∧ z = (datA x, []) := by
  unfold valE at h
  split at h
  · next hx =>
    cases h
    exact ⟨_, Classical.choose_spec hx, rfl⟩
  · cases h
def zeroA : Va := ⟨0, 0, ⟨#[]⟩⟩
theorem zeroVal (w : World) : (zeroValue 30).run Tryz.prog w = .ok (vaV zeroA) w := by kernel_rfl
/-- the map tells what the names are -/
def MapV (W : World) (b n : Nat) (L : Pl.Look) : Prop :=
  ∃ D : DataW Unit, W.ownsMap Tryz.prog 9 valE b n D ∧ IsMap D ∧ (∀ x, Maps.has D (.string x) = (L x).isSome) ∧ (∀ x, D.atKey (.string x) (datA zeroA) = datA ((L x).getD zeroA))
theorem MapV.kept {W W1 : World} {b n : Nat} {L : Pl.Look} {row : Option Nat} (h : MapV W b n L) (hg : W.grownBy W1 row) (hne : some b ≠ row) : MapV W1 b n L := by
  obtain ⟨D, h1, h2⟩ := h
  exact ⟨D, h1.kept hg hne, h2⟩
theorem MapV.later {W W1 : World} {b n : Nat} {L : Pl.Look} (h : MapV W b n L) (hB : Below W.heap.size W W1) : MapV W1 b n L := h.kept ⟨hB.os, hB.tape, hB.output, hB.size, fun k hk _ => hB.block k hk⟩ (row := none) (by simp)
theorem MapV.lt {W : World} {b n : Nat} {L : Pl.Look} (h : MapV W b n L) : b < W.heap.size := by
  obtain ⟨D, h1, _⟩ := h
  exact h1.lt
theorem MapV.start (w : World) : MapV (w.alloc (.map #[] 0)) w.heap.size 0 (fun _ => none) :=
  ⟨_, World.ownsMap_made w _ _ _, ⟨_, rfl⟩, fun _ => rfl, fun _ => rfl⟩
end Go.Proofs.YtamkncfdfaejjaaGreatDoor

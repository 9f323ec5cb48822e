/- What names are, kept in a map: a name more; a look at it. -/
import Derived.Test.YtiffgomkhoalpaaGreatDoorEvM1
import Derived.Test.YtiffgomkhoalpaaGreatDoorEvS10
import Derived.Test.YtiffgomkhoalpaaGreatDoorBx
namespace Go.Proofs.YtiffgomkhoalpaaGreatDoor
open Go.RowKit Go.Maps Go.WideMaps
set_option linter.unusedVariables false
set_option linter.unusedSimpArgs false
theorem MapV.put {W : World} {b n : Nat} {x : List UInt8} {v : Va} {D : DataW Unit} {L : Pl.Look} (h : W.ownsMap Tryz.prog 9 valE b n (D.put (.string x) (datA v))) (hD : IsMap D) (h1 : ∀ y, Maps.has D (.string y) = (L y).isSome) (h2 : ∀ y, D.atKey (.string y) (datA zeroA) = datA ((L y).getD zeroA)) :
    MapV W b n (fun y => if y = x then some v else L y) := by
  refine ⟨_, h, hD.put _ _, fun y => ?_, fun y => ?_⟩
  · by_cases hy : y = x
    · subst hy
      rw [has_put_same hD (show WideAt.IsKeyLit (.string y) from True.intro)]
      simp
    · rw [has_put_other (by intro hh; cases hh; exact hy rfl), h1]
      simp [hy]
  · by_cases hy : y = x
    · subst hy
      rw [atKey_put_same hD (show WideAt.IsKeyLit (.string y) from True.intro)]
      simp
    · rw [atKey_put_other (by intro hh; cases hh; exact hy rfl), h2]
      simp [hy]
theorem MapV.congr {W : World} {b n : Nat} {L L' : Pl.Look} (h : MapV W b n L) (he : ∀ y, L y = L' y) : MapV W b n L' := by
  have : L = L' := funext he
  rw [← this]
  exact h
theorem look_some {l : List Pl.Pr} {x : List UInt8} : (Pl.lookP l x).isSome = l.any (fun q => q.nm.data.toList == x) := by
  unfold Pl.lookP Pl.prAt
  rw [Option.isSome_map]
  induction l with
  | nil => rfl
  | cons p r ih =>
    simp only [List.find?_cons, List.any_cons]
    cases h : p.nm.data.toList == x
    · simpa using ih
    · simp
theorem look_take {l : List Pl.Pr} {i : Nat} {p : Pl.Pr} (hi : l[i]? = some p) (hn : (l.take i).any (fun q => q.nm.data.toList == p.nm.data.toList) = false) (y : List UInt8) :
    (if y = p.nm.data.toList then some p.v else Pl.lookP (l.take i) y) = Pl.lookP (l.take (i + 1)) y := by
  have hl : i < l.length := (List.getElem?_eq_some_iff.1 hi).1
  have he : l.take (i + 1) = l.take i ++ [p] := by
    rw [List.take_add_one, hi]
    rfl
  rw [he]
  unfold Pl.lookP Pl.prAt
  rw [List.find?_append]
  by_cases hy : y = p.nm.data.toList
  · rw [if_pos hy]
    have hf : (l.take i).find? (fun q => q.nm.data.toList == y) = none := by
      rw [List.find?_eq_none]
      intro q hq
      rw [List.any_eq_false] at hn
      rw [hy]
      exact hn q hq
    rw [hf]
    simp [hy]
  · rw [if_neg hy]
    have : ¬ p.nm.data.toList = y := fun h => hy h.symm
    simp [List.find?_cons, this]
/-- a look at a name -/
theorem MapV.look {w : World} {b n : Nat} {L : Pl.Look} (h : MapV w b n L) (nm : ByteArray) (hnm : nm.size ≤ maxLen) :
    (Instr.lookup 64 (.map (some b)) (.string nm) true).run Tryz.prog w = .ok (.tuple #[vaV ((L nm.data.toList).getD zeroA), .bool (L nm.data.toList).isSome]) w := by
  obtain ⟨D, hown, hD, hhas, hat⟩ := h
  have hkey : keyOf Tryz.prog 9 (.string nm) = some (.string nm.data.toList) := Go.WideMaps.keyOf_string_mk Tryz.underlying9 hnm
  obtain ⟨v, ps, hrun, hv⟩ := hown.look_ok keyS Tryz.underlying64 (zeroVal w) (valE_mk zeroA) hkey
  obtain ⟨y, rfl, hy⟩ := valE_inv hv
  rw [hhas] at hrun
  have hxx : (L nm.data.toList).getD zeroA = y := by
    have h1 := congrArg Prod.fst hy
    simp only at h1
    rw [hat] at h1
    exact datA_inj h1
  rw [hxx]
  exact hrun
/-- one more of them, in a block of its own -/
def VP (w : World) (p : Pl.Pr) (X : World) : Prop := X.heap[w.heap.size]? = some (.cells #[.string p.nm, .int .i64 p.v.k, .int .i64 p.v.n, .string p.v.t] 51 (0, 0)) ∧ Below w.heap.size w X
theorem VP.later {w X X1 : World} {p : Pl.Pr} (h : VP w p X) (hB : Below X.heap.size X X1) : VP w p X1 :=
  ⟨(hB.block _ (Array.getElem?_eq_some_iff.1 h.1).1).trans h.1, h.2.trans (hB.mono h.2.size)⟩
theorem VP.start {w : World} {p : Pl.Pr} {o : Obj} : VP w p ((w.alloc (.cells #[.string p.nm, .int .i64 p.v.k, .int .i64 p.v.n, .string p.v.t] 51)).alloc o) := by
  have e1 : (w.alloc (.cells #[.string p.nm, .int .i64 p.v.k, .int .i64 p.v.n, .string p.v.t] 51)).heap.size = w.heap.size + 1 := by simp
  refine ⟨?_, two_below _ _ _⟩
  rw [heap_alloc_at, if_neg (by omega), heap_alloc_at, if_pos rfl]
theorem VP.cells {w X : World} {p : Pl.Pr} (h : VP w p X) : w.heap.size < X.heap.size ∧ X.cell? ⟨w.heap.size, 0, none⟩ = some (.string p.nm) ∧ X.cell? ⟨w.heap.size, 1, none⟩ = some (.int .i64 p.v.k) ∧ X.cell? ⟨w.heap.size, 2, none⟩ = some (.int .i64 p.v.n) ∧ X.cell? ⟨w.heap.size, 3, none⟩ = some (.string p.v.t) :=
  ⟨(Array.getElem?_eq_some_iff.1 h.1).1, cell_of_block h.1 0, cell_of_block h.1 1, cell_of_block h.1 2, cell_of_block h.1 3⟩
end Go.Proofs.YtiffgomkhoalpaaGreatDoor

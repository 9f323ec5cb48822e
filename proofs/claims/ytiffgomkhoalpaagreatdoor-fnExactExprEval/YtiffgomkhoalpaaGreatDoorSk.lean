/- Where the parts of an expression's copy lie. -/
import Derived.Test.YtiffgomkhoalpaaGreatDoorBlk
namespace Go.Proofs.YtiffgomkhoalpaaGreatDoor
open Go.RowKit
set_option linter.unusedVariables false

/-- marks go into the rows from lo to hi alone, and into no slice there -/
def Kept (lo hi : Nat) (w w' : World) : Prop :=
  Below lo w w' ∧ (∀ g, hi ≤ g → g < w.heap.size → w'.heap[g]? = w.heap[g]?) ∧
  (∀ g C, lo ≤ g → g < hi → w.heap[g]? = some (.cells C 35 (0, 0)) → ∃ C', w'.heap[g]? = some (.cells C' 35 (0, 0)) ∧ C'.size = C.size ∧ ∀ j, j % 6 = 5 → C'[j]? = C[j]?)
theorem Kept.refl (lo hi : Nat) (w : World) : Kept lo hi w w := ⟨Below.refl _ _, fun _ _ _ => rfl, fun g C _ _ h => ⟨C, h, rfl, fun _ _ => rfl⟩⟩
theorem Kept.trans {lo hi : Nat} {a b c : World} (h1 : Kept lo hi a b) (h2 : Kept lo hi b c) : Kept lo hi a c := by
  refine ⟨h1.1.trans h2.1, fun g hg hl => ?_, fun g C hl hh hC => ?_⟩
  · rw [h2.2.1 g hg (by have := h1.1.size; omega), h1.2.1 g hg hl]
  · obtain ⟨C1, e1, s1, k1⟩ := h1.2.2 g C hl hh hC
    obtain ⟨C2, e2, s2, k2⟩ := h2.2.2 g C1 hl hh e1
    exact ⟨C2, e2, by omega, fun j hj => (k2 j hj).trans (k1 j hj)⟩
theorem kept_of_below {lo hi : Nat} {a b : World} (hb : Below a.heap.size a b) (hh : hi ≤ a.heap.size) (hl : lo ≤ hi) : Kept lo hi a b :=
  ⟨hb.mono (by omega), fun g _ hg => hb.block g hg, fun g C _ hg hC => ⟨C, by rw [hb.block g (by omega)]; exact hC, rfl, fun _ _ => rfl⟩⟩
theorem kept_set {lo hi : Nat} {w : World} {g o : Nat} (hl : lo ≤ g) (hh : g < hi) (ho : o % 6 ≠ 5) (u : Value) : Kept lo hi w (w.setCell ⟨g, o, none⟩ u) := by
  refine ⟨(Below.refl _ _).setCell (by exact hl) _, fun g' hg' _ => Below.heap_setCell _ _ _ _ (by show g' ≠ g; omega), fun g' C _ _ hC => ?_⟩
  by_cases h : g' = g
  · subst h
    refine ⟨_, block_set hC o u, by simp, fun j hj => ?_⟩
    rw [Array.getElem?_setIfInBounds_ne (by intro e; subst e; exact ho hj)]
  · exact ⟨C, by rw [Below.heap_setCell _ _ _ _ h]; exact hC, rfl, fun _ _ => rfl⟩

/-- where the parts of the forest's nodes lie -/
def SkAt (lo hi : Nat) (w : World) : Fo → Nat → Nat → Prop
  | .nil, _, _ => True
  | .cons nd k r, g, i => (∃ C ad cap, w.heap[g]? = some (.cells C 35 (0, 0)) ∧ i * 6 + 6 ≤ C.size ∧ C[i * 6 + 5]? = some (.slice ad k.len cap) ∧ k.len ≤ cap ∧ cap ≤ maxLen ∧ (0 < k.len → ∃ g', ad = some ⟨g', 0, none⟩ ∧ lo ≤ g' ∧ g' < hi ∧ SkAt lo hi w k g' 0)) ∧ SkAt lo hi w r g (i + 1)
def SkRow (lo hi : Nat) (w : World) (F : Fo) (v : Value) : Prop :=
  ∃ ad cap, v = .slice ad F.len cap ∧ F.len ≤ cap ∧ cap ≤ maxLen ∧ (0 < F.len → ∃ g, ad = some ⟨g, 0, none⟩ ∧ lo ≤ g ∧ g < hi ∧ SkAt lo hi w F g 0)
theorem SkAt.get {lo hi : Nat} {w : World} : ∀ {F : Fo} {g i : Nat} (h : SkAt lo hi w F g i) {j : Nat} {nd : Nd} {k : Fo}, F.get j = some (nd, k) → ∃ C v, w.heap[g]? = some (.cells C 35 (0, 0)) ∧ (i + j) * 6 + 6 ≤ C.size ∧ C[(i + j) * 6 + 5]? = some v ∧ SkRow lo hi w k v
  | .nil, g, i, h, j, nd, k, hk => by simp [Fo.get] at hk
  | .cons nd' k' r, g, i, h, 0, nd, k, hk => by
    simp only [Fo.get, Option.some.injEq, Prod.mk.injEq] at hk
    obtain ⟨rfl, rfl⟩ := hk
    obtain ⟨⟨C, ad, cap, h1, h2, h3, h4, h5, h6⟩, _⟩ := h
    exact ⟨C, _, h1, h2, h3, ad, cap, rfl, h4, h5, h6⟩
  | .cons nd' k' r, g, i, h, j + 1, nd, k, hk => by
    have := SkAt.get (F := r) h.2 hk
    rwa [show i + 1 + j = i + (j + 1) by omega] at this
theorem SkAt.of_get {lo hi : Nat} {w : World} : ∀ {F : Fo} {g i : Nat} (h : ∀ j nd k, F.get j = some (nd, k) → ∃ C v, w.heap[g]? = some (.cells C 35 (0, 0)) ∧ (i + j) * 6 + 6 ≤ C.size ∧ C[(i + j) * 6 + 5]? = some v ∧ SkRow lo hi w k v), SkAt lo hi w F g i
  | .nil, g, i, h => trivial
  | .cons nd k r, g, i, h => by
    obtain ⟨C, v, h1, h2, h3, ad, cap, rfl, h4, h5, h6⟩ := h 0 nd k rfl
    refine ⟨⟨C, ad, cap, h1, h2, h3, h4, h5, h6⟩, SkAt.of_get (F := r) fun j nd' k' hk => ?_⟩
    have := h (j + 1) nd' k' hk
    rwa [show i + (j + 1) = i + 1 + j by omega] at this
theorem SkAt.kept {lo hi : Nat} {w w' : World} (hK : Kept lo hi w w') : ∀ {F : Fo} {g i : Nat} (h : SkAt lo hi w F g i) (hl : lo ≤ g) (hh : g < hi), SkAt lo hi w' F g i
  | .nil, g, i, h, _, _ => trivial
  | .cons nd k r, g, i, h, hl, hh => by
    obtain ⟨⟨C, ad, cap, h1, h2, h3, h4, h5, h6⟩, hr⟩ := h
    obtain ⟨C', e1, s1, k1⟩ := hK.2.2 g C hl hh h1
    refine ⟨⟨C', ad, cap, e1, by omega, (k1 _ (by omega)).trans h3, h4, h5, fun hp => ?_⟩, SkAt.kept hK hr hl hh⟩
    obtain ⟨g', ha, hl', hh', hs⟩ := h6 hp
    exact ⟨g', ha, hl', hh', SkAt.kept hK hs hl' hh'⟩
theorem SkRow.kept {lo hi : Nat} {w w' : World} {F : Fo} {v : Value} (h : SkRow lo hi w F v) (hK : Kept lo hi w w') : SkRow lo hi w' F v := by
  obtain ⟨ad, cap, hv, h4, h5, h6⟩ := h
  refine ⟨ad, cap, hv, h4, h5, fun hp => ?_⟩
  obtain ⟨g', ha, hl', hh', hs⟩ := h6 hp
  exact ⟨g', ha, hl', hh', hs.kept hK hl' hh'⟩
/-- the node's cells may be written -/
theorem SkAt.cells {lo hi : Nat} {w : World} {F : Fo} {g : Nat} (h : SkAt lo hi w F g 0) {j : Nat} {nd : Nd} {k : Fo} (hk : F.get j = some (nd, k)) :
    (∃ u, w.cell? ⟨g, j * 6, none⟩ = some u) ∧ (∃ u, w.cell? ⟨g, j * 6 + 1, none⟩ = some u) ∧ (∃ u, w.cell? ⟨g, j * 6 + 2, none⟩ = some u) ∧ (∃ u, w.cell? ⟨g, j * 6 + 3, none⟩ = some u) ∧ (∃ u, w.cell? ⟨g, j * 6 + 4, none⟩ = some u) ∧ (∃ v, w.cell? ⟨g, j * 6 + 5, none⟩ = some v ∧ SkRow lo hi w k v) ∧ (∀ o, w.frozen? ⟨g, o, none⟩ = false) := by
  obtain ⟨C, v, h1, h2, h3, h4⟩ := h.get hk
  rw [Nat.zero_add] at h2 h3
  have G : ∀ o, o < C.size → ∃ u, w.cell? ⟨g, o, none⟩ = some u := fun o ho => ⟨C[o]'ho, by rw [cell_of_block h1]; exact Array.getElem?_eq_getElem ho⟩
  exact ⟨G _ (by omega), G _ (by omega), G _ (by omega), G _ (by omega), G _ (by omega), ⟨v, by rw [cell_of_block h1]; exact h3, h4⟩, fun o => free_of_block h1 o⟩
theorem SkAt.over {lo hi hi' : Nat} {w w' : World} (hO : ∀ g, lo ≤ g → g < hi → w'.heap[g]? = w.heap[g]?) (hh' : hi ≤ hi') : ∀ {F : Fo} {g i : Nat} (h : SkAt lo hi w F g i) (hl : lo ≤ g) (hh : g < hi), SkAt lo hi' w' F g i
  | .nil, g, i, h, _, _ => trivial
  | .cons nd k r, g, i, h, hl, hh => by
    obtain ⟨⟨C, ad, cap, h1, h2, h3, h4, h5, h6⟩, hr⟩ := h
    refine ⟨⟨C, ad, cap, (hO g hl hh).trans h1, h2, h3, h4, h5, fun hp => ?_⟩, SkAt.over hO hh' hr hl hh⟩
    obtain ⟨g', ha, hl', hg', hs⟩ := h6 hp
    exact ⟨g', ha, hl', by omega, SkAt.over hO hh' hs hl' hg'⟩
theorem SkRow.over {lo hi hi' : Nat} {w w' : World} {F : Fo} {v : Value} (h : SkRow lo hi w F v) (hO : ∀ g, lo ≤ g → g < hi → w'.heap[g]? = w.heap[g]?) (hh' : hi ≤ hi') : SkRow lo hi' w' F v := by
  obtain ⟨ad, cap, hv, h4, h5, h6⟩ := h
  refine ⟨ad, cap, hv, h4, h5, fun hp => ?_⟩
  obtain ⟨g', ha, hl', hg', hs⟩ := h6 hp
  exact ⟨g', ha, hl', by omega, SkAt.over hO hh' hs hl' hg'⟩
theorem SkAt.low {lo lo' hi : Nat} {w : World} (hlo : lo' ≤ lo) : ∀ {F : Fo} {g i : Nat} (h : SkAt lo hi w F g i), SkAt lo' hi w F g i
  | .nil, g, i, h => trivial
  | .cons nd k r, g, i, h => by
    obtain ⟨⟨C, ad, cap, h1, h2, h3, h4, h5, h6⟩, hr⟩ := h
    refine ⟨⟨C, ad, cap, h1, h2, h3, h4, h5, fun hp => ?_⟩, SkAt.low hlo hr⟩
    obtain ⟨g', ha, hl', hg', hs⟩ := h6 hp
    exact ⟨g', ha, by omega, hg', SkAt.low hlo hs⟩
theorem SkRow.low {lo lo' hi : Nat} {w : World} {F : Fo} {v : Value} (h : SkRow lo hi w F v) (hlo : lo' ≤ lo) : SkRow lo' hi w F v := by
  obtain ⟨ad, cap, hv, h4, h5, h6⟩ := h
  refine ⟨ad, cap, hv, h4, h5, fun hp => ?_⟩
  obtain ⟨g', ha, hl', hg', hs⟩ := h6 hp
  exact ⟨g', ha, by omega, hg', hs.low hlo⟩
theorem SkRow.later {lo hi : Nat} {w w' : World} {F : Fo} {v : Value} (h : SkRow lo hi w F v) (hb : Below w.heap.size w w') (hh : hi ≤ w.heap.size) : SkRow lo hi w' F v :=
  h.over (fun g _ hg => hb.block g (by omega)) (Nat.le_refl _)
end Go.Proofs.YtiffgomkhoalpaaGreatDoor

/- A datum of an expression, opened into its node and the forest of its parts. -/
import Derived.Test.YtiffgomkhoalpaaGreatDoorTree
import Derived.ChangeArms
import Derived.DataReads
namespace Go.Proofs.YtiffgomkhoalpaaGreatDoor
open Go.RowKit Go.ChangeShapes
set_option linter.unusedVariables false

/-- a list of nodes as a forest -/
def Fo.of : List (Nd × Fo) → Fo
  | [] => .nil
  | (nd, k) :: l => .cons nd k (Fo.of l)
theorem Fo.of_len : ∀ (l : List (Nd × Fo)), (Fo.of l).len = l.length
  | [] => rfl
  | (nd, k) :: l => by simp [Fo.of, Fo.len, Fo.of_len l]
theorem Fo.of_get : ∀ (l : List (Nd × Fo)) (i : Nat), (Fo.of l).get i = l[i]?
  | [], i => by simp [Fo.of, Fo.get]
  | (nd, k) :: l, 0 => rfl
  | (nd, k) :: l, i + 1 => by simpa [Fo.of, Fo.get] using Fo.of_get l i
theorem Fo.Wf.of_get : ∀ {F : Fo} (h : ∀ i nd k, F.get i = some (nd, k) → nd.vt.size ≤ maxLen ∧ nd.nm.size ≤ maxLen ∧ k.Wf), F.Wf
  | .nil, _ => trivial
  | .cons nd k r, h => ⟨(h 0 nd k rfl).1, (h 0 nd k rfl).2.1, (h 0 nd k rfl).2.2, Fo.Wf.of_get (F := r) (fun i nd' k' hk => h (i + 1) nd' k' hk)⟩
theorem pick_list {α : Type} {P : Nat → α → Prop} : ∀ (n : Nat), (∀ i, i < n → ∃ x, P i x) → ∃ l : List α, l.length = n ∧ ∀ i x, l[i]? = some x → P i x
  | 0, _ => ⟨[], rfl, fun i x h => by simp at h⟩
  | n + 1, h => by
    obtain ⟨l, hl, hp⟩ := pick_list n (fun i hi => h i (by omega))
    obtain ⟨x, hx⟩ := h n (by omega)
    refine ⟨l ++ [x], by simp [hl], fun i y hy => ?_⟩
    by_cases hi : i < n
    · rw [List.getElem?_append_left (by omega)] at hy
      exact hp i y hy
    · have : i = n := by
        apply Classical.byContradiction
        intro hn
        rw [List.getElem?_eq_none (by simp; omega)] at hy
        cases hy
      subst this
      rw [List.getElem?_append_right (by omega), hl, Nat.sub_self] at hy
      simp at hy
      subst hy
      exact hx
theorem add_plain (g off n : Nat) : (⟨g, off, none⟩ : Addr).add n = ⟨g, off + n, none⟩ := by
  unfold Addr.add
  split
  · next h => subst h; rfl
  · rfl
theorem cell_lt {w : World} {g off : Nat} {v : Value} (h : w.cell? ⟨g, off, none⟩ = some v) : g < w.heap.size := by
  apply Classical.byContradiction
  intro hn
  have : w.heap[g]? = none := Array.getElem?_eq_none (by omega)
  simp [World.cell?, this] at h

/-- what is asked of the cells of one expression -/
def ExprCells (w : World) (cs : List Value) (nd : Nd) (k : Fo) (v : Value) : Prop :=
  cs = [.int .i64 nd.k, .int .i64 nd.vk, .int .i64 nd.vn, .string nd.vt, .string nd.nm, v] ∧ nd.vt.size ≤ maxLen ∧ nd.nm.size ≤ maxLen ∧ k.Wf ∧ RowAt 0 w k v

theorem open_parts {H : Type} {enc : TypeId × Value → H} {w : World} {base : Nat} {sp : Nat → Bool} {hd : Bool} (n : Nat)
    (ih : ∀ (m : Nat) (cs : List Value) (x : DataW H × List MemPlace), m < n → DataW.trod enc Tryz.prog w base sp hd m 26 cs = some x → ∃ nd k v, ExprCells w cs nd k v)
    (cs : List Value) (x : DataW H × List MemPlace) (h : DataW.trod enc Tryz.prog w base sp hd n 24 cs = some x) : ∃ (F : Fo) (v : Value), cs = [v] ∧ F.Wf ∧ RowAt 0 w F v := by
  have c6 : Tryz.prog.cellsOf 26 = 6 := by kernel_rfl
  rcases DataW.trod_slice Tryz.underlying24 h with ⟨rfl, _⟩ | ⟨a, len, cap, elems, rest, m, rfl, rfl, _, hb, hl, hm, hlen, hel, _, _⟩
  · exact ⟨.nil, _, rfl, trivial, none, 0, rfl, Nat.le_refl _, by unfold maxLen; omega, fun h => by simp [Fo.len] at h⟩
  · rw [c6] at hel
    have hone : ∀ i, i < len → ∃ p : Nd × Fo, ∃ v cs', w.cells? base (a.add (i * 6)) 6 = some cs' ∧ ExprCells w cs' p.1 p.2 v := by
      intro i hi
      have h1 := hel i hi
      rw [List.getElem?_eq_getElem (by omega)] at h1
      obtain ⟨cs', hc, ht⟩ := Option.bind_eq_some_iff.1 h1
      obtain ⟨nd, k, v, hx⟩ := ih m cs' _ (by omega) ht
      exact ⟨(nd, k), v, cs', hc, hx⟩
    obtain ⟨l, hll, hlp⟩ := pick_list len hone
    refine ⟨Fo.of l, _, rfl, Fo.Wf.of_get fun i nd k hk => ?_, some a, cap, ?_, ?_, hm, fun hpos => ?_⟩
    · rw [Fo.of_get] at hk
      obtain ⟨v, cs', _, _, h1, h2, h3, _⟩ := hlp i _ hk
      exact ⟨h1, h2, h3⟩
    · rw [Fo.of_len, hll]
    · rw [Fo.of_len, hll]; exact hl
    · rw [Fo.of_len, hll] at hpos
      have hspot : a.spot = none := by
        obtain ⟨p, v, cs', hc, hx⟩ := hone 0 hpos
        have h6 := (World.cells?_some hc).2.2 0 (by omega)
        rw [hx.1] at h6
        have := World.cell?_spot h6
        simpa [Addr.add] using this
      obtain ⟨g, off, spot⟩ := a
      simp only at hspot
      subst hspot
      have hcells : ∀ i nd k, l[i]? = some (nd, k) → ∃ v, NdAt 0 w g (off + i * 6) nd k v := by
        intro i nd k hk
        obtain ⟨v, cs', hc, he, _, _, _, hrow⟩ := hlp i _ hk
        subst he
        have h6 := (World.cells?_some hc).2.2
        rw [add_plain] at h6
        have g0 := h6 0 (by omega)
        have g1 := h6 1 (by omega)
        have g2 := h6 2 (by omega)
        have g3 := h6 3 (by omega)
        have g4 := h6 4 (by omega)
        have g5 := h6 5 (by omega)
        rw [add_plain] at g0 g1 g2 g3 g4 g5
        exact ⟨v, g0, g1, g2, g3, g4, g5, hrow⟩
      refine ⟨g, off, rfl, Nat.zero_le _, ?_, FoAt.of_get fun i nd k hk => ?_⟩
      · obtain ⟨p, hp⟩ : ∃ p, l[0]? = some p := ⟨l[0]'(by omega), List.getElem?_eq_getElem (by omega)⟩
        obtain ⟨v, h0, _⟩ := hcells 0 p.1 p.2 hp
        exact cell_lt h0
      · rw [Fo.of_get] at hk
        exact hcells i nd k hk
theorem list6 {α : Type} (l : List α) (h : l.length = 6) : ∃ a b c d e f, l = [a, b, c, d, e, f] := by
  match l, h with
  | [a, b, c, d, e, f], _ => exact ⟨a, b, c, d, e, f, rfl⟩
theorem list4 {α : Type} (l : List α) (h : l.length = 4) : ∃ a b c d, l = [a, b, c, d] := by
  match l, h with
  | [a, b, c, d], _ => exact ⟨a, b, c, d, rfl⟩
theorem list3 {α : Type} (l : List α) (h : l.length = 3) : ∃ a b c, l = [a, b, c] := by
  match l, h with
  | [a, b, c], _ => exact ⟨a, b, c, rfl⟩

theorem open_expr {H : Type} {enc : TypeId × Value → H} {w : World} {base : Nat} {sp : Nat → Bool} {hd : Bool} : ∀ (N fuel : Nat) (cs : List Value) (x : DataW H × List MemPlace), fuel < N →
    DataW.trod enc Tryz.prog w base sp hd fuel 26 cs = some x → ∃ nd k v, ExprCells w cs nd k v
  | 0, _, _, _, h, _ => by omega
  | N + 1, fuel, cs, x, hN, h => by
    have c6 : Tryz.prog.cellsOf 26 = 6 := by kernel_rfl
    have ci : Tryz.prog.cellsOf 3 = 1 := by kernel_rfl
    have cs1 : Tryz.prog.cellsOf 9 = 1 := by kernel_rfl
    have cv : Tryz.prog.cellsOf 23 = 3 := by kernel_rfl
    have cl : Tryz.prog.cellsOf 24 = 1 := by kernel_rfl
    obtain ⟨xs, n, rfl, _, hlen, hxl, hf⟩ := DataW.trod_struct Tryz.underlying26 h
    rw [c6] at hlen
    obtain ⟨a0, a1, a2, a3, a4, a5, rfl⟩ := list6 cs hlen
    obtain ⟨y0, y1, y2, y3, rfl⟩ := list4 xs hxl
    have h0 : DataW.trod enc Tryz.prog w base sp hd n 3 (([a0, a1, a2, a3, a4, a5].drop 0).take (Tryz.prog.cellsOf 3)) = some y0 := hf 0 _ rfl
    have h1 : DataW.trod enc Tryz.prog w base sp hd n 23 (([a0, a1, a2, a3, a4, a5].drop 1).take (Tryz.prog.cellsOf 23)) = some y1 := hf 1 _ rfl
    have h2 : DataW.trod enc Tryz.prog w base sp hd n 9 (([a0, a1, a2, a3, a4, a5].drop 4).take (Tryz.prog.cellsOf 9)) = some y2 := hf 2 _ rfl
    have h3 : DataW.trod enc Tryz.prog w base sp hd n 24 (([a0, a1, a2, a3, a4, a5].drop 5).take (Tryz.prog.cellsOf 24)) = some y3 := hf 3 _ rfl
    rw [ci] at h0
    rw [cv] at h1
    rw [cs1] at h2
    rw [cl] at h3
    replace h0 : DataW.trod enc Tryz.prog w base sp hd n 3 [a0] = some y0 := h0
    replace h1 : DataW.trod enc Tryz.prog w base sp hd n 23 [a1, a2, a3] = some y1 := h1
    replace h2 : DataW.trod enc Tryz.prog w base sp hd n 9 [a4] = some y2 := h2
    replace h3 : DataW.trod enc Tryz.prog w base sp hd n 24 [a5] = some y3 := h3
    obtain ⟨k0, e0, _, _⟩ := DataW.trod_int Tryz.underlying3 h0
    obtain ⟨nm, e2, _, hnm⟩ := DataW.trod_string Tryz.underlying9 h2
    obtain ⟨F, v, e3, hF, hrow⟩ := open_parts n (fun m cs' x' hm ht => open_expr N m cs' x' (by omega) ht) _ _ h3
    obtain ⟨zs, n', rfl, _, _, hzl, hg⟩ := DataW.trod_struct Tryz.underlying23 h1
    obtain ⟨z0, z1, z2, rfl⟩ := list3 zs hzl
    have g0 : DataW.trod enc Tryz.prog w base sp hd n' 3 (([a1, a2, a3].drop 0).take (Tryz.prog.cellsOf 3)) = some z0 := hg 0 _ rfl
    have g1 : DataW.trod enc Tryz.prog w base sp hd n' 3 (([a1, a2, a3].drop 1).take (Tryz.prog.cellsOf 3)) = some z1 := hg 1 _ rfl
    have g2 : DataW.trod enc Tryz.prog w base sp hd n' 9 (([a1, a2, a3].drop 2).take (Tryz.prog.cellsOf 9)) = some z2 := hg 2 _ rfl
    rw [ci] at g0 g1
    rw [cs1] at g2
    replace g0 : DataW.trod enc Tryz.prog w base sp hd n' 3 [a1] = some z0 := g0
    replace g1 : DataW.trod enc Tryz.prog w base sp hd n' 3 [a2] = some z1 := g1
    replace g2 : DataW.trod enc Tryz.prog w base sp hd n' 9 [a3] = some z2 := g2
    obtain ⟨vk, f0, _, _⟩ := DataW.trod_int Tryz.underlying3 g0
    obtain ⟨vn, f1, _, _⟩ := DataW.trod_int Tryz.underlying3 g1
    obtain ⟨vt, f2, _, hvt⟩ := DataW.trod_string Tryz.underlying9 g2
    simp only [List.cons.injEq, and_true] at e0 e2 e3 f0 f1 f2
    subst e0 e2 e3 f0 f1 f2
    exact ⟨⟨k0, vk, vn, vt, nm⟩, F, _, rfl, hvt, hnm, hF, hrow⟩
end Go.Proofs.YtiffgomkhoalpaaGreatDoor

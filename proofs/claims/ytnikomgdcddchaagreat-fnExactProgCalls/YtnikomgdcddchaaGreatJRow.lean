/- Joined: OpenX OpenP RowFnExactProgCalls. -/
import Derived.Test.YtnikomgdcddchaaGreatTree
import Derived.ChangeArms
import Derived.DataReads
import Derived.Test.YtnikomgdcddchaaGreatPTree
import Derived.Test.YtnikomgdcddchaaGreatRows
import Derived.Test.YtnikomgdcddchaaGreatJLaw
import Derived.WalkKit
import Derived.ProofKit
import Derived.OpenShut
import Derived.ShutString
import Derived.Below
import Derived.Lib.SmallJoins
import Derived.ChangeOld
/- A datum of an expression, opened into its node and the forest of its parts. -/
namespace Go.Proofs.YtnikomgdcddchaaGreat
open Go.RowKit Go.ChangeShapes
set_option linter.unusedVariables false

/-- a list of nodes as a forest -/
def Fo.of : List (Nd × Fo) → Fo
  | [] => .nil
  | (nd, k) :: l => .cons nd k (Fo.of l)
theorem Fo.of_len : ∀ (l : List (Nd × Fo)), (Fo.of l).len = l.length
  | [] => rfl
  | (nd, k) :: l => by simp [Fo.of, Fo.len, Fo.of_len l]
theorem Fo.of_get : ∀ (l : List (Nd × Fo)) (i : Nat), (Fo.of l).get i = l[i]?
  | [], i => by simp [Fo.of, Fo.get]
  | (nd, k) :: l, 0 => rfl
  | (nd, k) :: l, i + 1 => by simpa [Fo.of, Fo.get] using Fo.of_get l i
theorem Fo.Wf.of_get : ∀ {F : Fo} (h : ∀ i nd k, F.get i = some (nd, k) → nd.vt.size ≤ maxLen ∧ nd.nm.size ≤ maxLen ∧ k.Wf), F.Wf
  | .nil, _ => trivial
  | .cons nd k r, h => ⟨(h 0 nd k rfl).1, (h 0 nd k rfl).2.1, (h 0 nd k rfl).2.2, Fo.Wf.of_get (F := r) (fun i nd' k' hk => h (i + 1) nd' k' hk)⟩
theorem pick_list {α : Type} {P : Nat → α → Prop} : ∀ (n : Nat), (∀ i, i < n → ∃ x, P i x) → ∃ l : List α, l.length = n ∧ ∀ i x, l[i]? = some x → P i x
  | 0, _ => ⟨[], rfl, fun i x h => by simp at h⟩
  | n + 1, h => by
    obtain ⟨l, hl, hp⟩ := pick_list n (fun i hi => h i (by omega))
    obtain ⟨x, hx⟩ := h n (by omega)
    refine ⟨l ++ [x], by simp [hl], fun i y hy => ?_⟩
    by_cases hi : i < n
    · rw [List.getElem?_append_left (by omega)] at hy
      exact hp i y hy
    · have : i = n := by
        apply Classical.byContradiction
        intro hn
        rw [List.getElem?_eq_none (by simp; omega)] at hy
        cases hy
      subst this
      rw [List.getElem?_append_right (by omega), hl, Nat.sub_self] at hy
      simp at hy
      subst hy
      exact hx
theorem add_plain (g off n : Nat) : (⟨g, off, none⟩ : Addr).add n = ⟨g, off + n, none⟩ := by
  unfold Addr.add
  split
  · next h => subst h; rfl
  · rfl
theorem cell_lt {w : World} {g off : Nat} {v : Value} (h : w.cell? ⟨g, off, none⟩ = some v) : g < w.heap.size := by
  apply Classical.byContradiction
  intro hn
  have : w.heap[g]? = none := Array.getElem?_eq_none (by omega)
  simp [World.cell?, this] at h

/-- what is asked of the cells of one expression -/
def ExprCells (w : World) (cs : List Value) (nd : Nd) (k : Fo) (v : Value) : Prop :=
  cs = [.int .i64 nd.k, .int .i64 nd.vk, .int .i64 nd.vn, .string nd.vt, .string nd.nm, v] ∧ nd.vt.size ≤ maxLen ∧ nd.nm.size ≤ maxLen ∧ k.Wf ∧ RowAt 0 w k v

theorem open_parts {H : Type} {enc : TypeId × Value → H} {w : World} {base : Nat} {sp : Nat → Bool} {hd : Bool} (n : Nat)
    (ih : ∀ (m : Nat) (cs : List Value) (x : DataW H × List MemPlace), m < n → DataW.trod enc Tryz.prog w base sp hd m 75 cs = some x → ∃ nd k v, ExprCells w cs nd k v)
    (cs : List Value) (x : DataW H × List MemPlace) (h : DataW.trod enc Tryz.prog w base sp hd n 73 cs = some x) : ∃ (F : Fo) (v : Value), cs = [v] ∧ F.Wf ∧ RowAt 0 w F v := by
  have c6 : Tryz.prog.cellsOf 75 = 6 := by kernel_rfl
  rcases DataW.trod_slice Tryz.underlying73 h with ⟨rfl, _⟩ | ⟨a, len, cap, elems, rest, m, rfl, rfl, _, hb, hl, hm, hlen, hel, _, _⟩
  · exact ⟨.nil, _, rfl, trivial, none, 0, rfl, Nat.le_refl _, by unfold maxLen; omega, fun h => by simp [Fo.len] at h⟩
  · rw [c6] at hel
    have hone : ∀ i, i < len → ∃ p : Nd × Fo, ∃ v cs', w.cells? base (a.add (i * 6)) 6 = some cs' ∧ ExprCells w cs' p.1 p.2 v := by
      intro i hi
      have h1 := hel i hi
      rw [List.getElem?_eq_getElem (by omega)] at h1
      obtain ⟨cs', hc, ht⟩ := Option.bind_eq_some_iff.1 h1
      obtain ⟨nd, k, v, hx⟩ := ih m cs' _ (by omega) ht
      exact ⟨(nd, k), v, cs', hc, hx⟩
    obtain ⟨l, hll, hlp⟩ := pick_list len hone
    refine ⟨Fo.of l, _, rfl, Fo.Wf.of_get fun i nd k hk => ?_, some a, cap, ?_, ?_, hm, fun hpos => ?_⟩
    · rw [Fo.of_get] at hk
      obtain ⟨v, cs', _, _, h1, h2, h3, _⟩ := hlp i _ hk
      exact ⟨h1, h2, h3⟩
    · rw [Fo.of_len, hll]
    · rw [Fo.of_len, hll]; exact hl
    · rw [Fo.of_len, hll] at hpos
      have hspot : a.spot = none := by
        obtain ⟨p, v, cs', hc, hx⟩ := hone 0 hpos
        have h6 := (World.cells?_some hc).2.2 0 (by omega)
        rw [hx.1] at h6
        have := World.cell?_spot h6
        simpa [Addr.add] using this
      obtain ⟨g, off, spot⟩ := a
      simp only at hspot
      subst hspot
      have hcells : ∀ i nd k, l[i]? = some (nd, k) → ∃ v, NdAt 0 w g (off + i * 6) nd k v := by
        intro i nd k hk
        obtain ⟨v, cs', hc, he, _, _, _, hrow⟩ := hlp i _ hk
        subst he
        have h6 := (World.cells?_some hc).2.2
        rw [add_plain] at h6
        have g0 := h6 0 (by omega)
        have g1 := h6 1 (by omega)
        have g2 := h6 2 (by omega)
        have g3 := h6 3 (by omega)
        have g4 := h6 4 (by omega)
        have g5 := h6 5 (by omega)
        rw [add_plain] at g0 g1 g2 g3 g4 g5
        exact ⟨v, g0, g1, g2, g3, g4, g5, hrow⟩
      refine ⟨g, off, rfl, Nat.zero_le _, ?_, FoAt.of_get fun i nd k hk => ?_⟩
      · obtain ⟨p, hp⟩ : ∃ p, l[0]? = some p := ⟨l[0]'(by omega), List.getElem?_eq_getElem (by omega)⟩
        obtain ⟨v, h0, _⟩ := hcells 0 p.1 p.2 hp
        exact cell_lt h0
      · rw [Fo.of_get] at hk
        exact hcells i nd k hk
theorem list6 {α : Type} (l : List α) (h : l.length = 6) : ∃ a b c d e f, l = [a, b, c, d, e, f] := by
  match l, h with
  | [a, b, c, d, e, f], _ => exact ⟨a, b, c, d, e, f, rfl⟩
theorem list4 {α : Type} (l : List α) (h : l.length = 4) : ∃ a b c d, l = [a, b, c, d] := by
  match l, h with
  | [a, b, c, d], _ => exact ⟨a, b, c, d, rfl⟩
theorem list3 {α : Type} (l : List α) (h : l.length = 3) : ∃ a b c, l = [a, b, c] := by
  match l, h with
  | [a, b, c], _ => exact ⟨a, b, c, rfl⟩

theorem open_expr {H : Type} {enc : TypeId × Value → H} {w : World} {base : Nat} {sp : Nat → Bool} {hd : Bool} : ∀ (N fuel : Nat) (cs : List Value) (x : DataW H × List MemPlace), fuel < N →
    DataW.trod enc Tryz.prog w base sp hd fuel 75 cs = some x → ∃ nd k v, ExprCells w cs nd k v
  | 0, _, _, _, h, _ => by omega
  | N + 1, fuel, cs, x, hN, h => by
    have c6 : Tryz.prog.cellsOf 75 = 6 := by kernel_rfl
    have ci : Tryz.prog.cellsOf 3 = 1 := by kernel_rfl
    have cs1 : Tryz.prog.cellsOf 9 = 1 := by kernel_rfl
    have cv : Tryz.prog.cellsOf 72 = 3 := by kernel_rfl
    have cl : Tryz.prog.cellsOf 73 = 1 := by kernel_rfl
    obtain ⟨xs, n, rfl, _, hlen, hxl, hf⟩ := DataW.trod_struct Tryz.underlying75 h
    rw [c6] at hlen
    obtain ⟨a0, a1, a2, a3, a4, a5, rfl⟩ := list6 cs hlen
    obtain ⟨y0, y1, y2, y3, rfl⟩ := list4 xs hxl
    have h0 : DataW.trod enc Tryz.prog w base sp hd n 3 (([a0, a1, a2, a3, a4, a5].drop 0).take (Tryz.prog.cellsOf 3)) = some y0 := hf 0 _ rfl
    have h1 : DataW.trod enc Tryz.prog w base sp hd n 72 (([a0, a1, a2, a3, a4, a5].drop 1).take (Tryz.prog.cellsOf 72)) = some y1 := hf 1 _ rfl
    have h2 : DataW.trod enc Tryz.prog w base sp hd n 9 (([a0, a1, a2, a3, a4, a5].drop 4).take (Tryz.prog.cellsOf 9)) = some y2 := hf 2 _ rfl
    have h3 : DataW.trod enc Tryz.prog w base sp hd n 73 (([a0, a1, a2, a3, a4, a5].drop 5).take (Tryz.prog.cellsOf 73)) = some y3 := hf 3 _ rfl
    rw [ci] at h0
    rw [cv] at h1
    rw [cs1] at h2
    rw [cl] at h3
    replace h0 : DataW.trod enc Tryz.prog w base sp hd n 3 [a0] = some y0 := h0
    replace h1 : DataW.trod enc Tryz.prog w base sp hd n 72 [a1, a2, a3] = some y1 := h1
    replace h2 : DataW.trod enc Tryz.prog w base sp hd n 9 [a4] = some y2 := h2
    replace h3 : DataW.trod enc Tryz.prog w base sp hd n 73 [a5] = some y3 := h3
    obtain ⟨k0, e0, _, _⟩ := DataW.trod_int Tryz.underlying3 h0
    obtain ⟨nm, e2, _, hnm⟩ := DataW.trod_string Tryz.underlying9 h2
    obtain ⟨F, v, e3, hF, hrow⟩ := open_parts n (fun m cs' x' hm ht => open_expr N m cs' x' (by omega) ht) _ _ h3
    obtain ⟨zs, n', rfl, _, _, hzl, hg⟩ := DataW.trod_struct Tryz.underlying72 h1
    obtain ⟨z0, z1, z2, rfl⟩ := list3 zs hzl
    have g0 : DataW.trod enc Tryz.prog w base sp hd n' 3 (([a1, a2, a3].drop 0).take (Tryz.prog.cellsOf 3)) = some z0 := hg 0 _ rfl
    have g1 : DataW.trod enc Tryz.prog w base sp hd n' 3 (([a1, a2, a3].drop 1).take (Tryz.prog.cellsOf 3)) = some z1 := hg 1 _ rfl
    have g2 : DataW.trod enc Tryz.prog w base sp hd n' 9 (([a1, a2, a3].drop 2).take (Tryz.prog.cellsOf 9)) = some z2 := hg 2 _ rfl
    rw [ci] at g0 g1
    rw [cs1] at g2
    replace g0 : DataW.trod enc Tryz.prog w base sp hd n' 3 [a1] = some z0 := g0
    replace g1 : DataW.trod enc Tryz.prog w base sp hd n' 3 [a2] = some z1 := g1
    replace g2 : DataW.trod enc Tryz.prog w base sp hd n' 9 [a3] = some z2 := g2
    obtain ⟨vk, f0, _, _⟩ := DataW.trod_int Tryz.underlying3 g0
    obtain ⟨vn, f1, _, _⟩ := DataW.trod_int Tryz.underlying3 g1
    obtain ⟨vt, f2, _, hvt⟩ := DataW.trod_string Tryz.underlying9 g2
    simp only [List.cons.injEq, and_true] at e0 e2 e3 f0 f1 f2
    subst e0 e2 e3 f0 f1 f2
    exact ⟨⟨k0, vk, vn, vt, nm⟩, F, _, rfl, hvt, hnm, hF, hrow⟩
end Go.Proofs.YtnikomgdcddchaaGreat

/- A datum of a program, opened into its name and the forest of its steps. -/
namespace Go.Proofs.YtnikomgdcddchaaGreat
open Go.RowKit Go.ChangeShapes
set_option linter.unusedVariables false

/-- a list of steps as a forest -/
def Ps.of : List (Sn × Ps × Ps) → Ps
  | [] => .nil
  | (sn, b, e) :: l => .cons sn b e (Ps.of l)
theorem Ps.of_len : ∀ (l : List (Sn × Ps × Ps)), (Ps.of l).len = l.length
  | [] => rfl
  | (sn, b, e) :: l => by simp [Ps.of, Ps.len, Ps.of_len l]
theorem Ps.of_at : ∀ (l : List (Sn × Ps × Ps)) (i : Nat), (Ps.of l).get i = l[i]?
  | [], i => by simp [Ps.of, Ps.get]
  | (sn, b, e) :: l, 0 => rfl
  | (sn, b, e) :: l, i + 1 => by simpa [Ps.of, Ps.get] using Ps.of_at l i
/-- what is asked of the cells of one step -/
def StepCells (w : World) (cs : List Value) (sn : Sn) (b e : Ps) (ve vb vl : Value) : Prop :=
  cs = [.int .i64 sn.k, .string sn.nm, .string sn.wh, .int .i64 sn.ex.k, .int .i64 sn.ex.vk, .int .i64 sn.ex.vn, .string sn.ex.vt, .string sn.ex.nm, ve, vb, vl] ∧
    ((sn.nm.size ≤ maxLen ∧ sn.wh.size ≤ maxLen ∧ sn.ex.vt.size ≤ maxLen ∧ sn.ex.nm.size ≤ maxLen ∧ sn.ek.Wf) ∧ b.Wf ∧ e.Wf) ∧ RowAt 0 w sn.ek ve ∧ PRow 0 w b vb ∧ PRow 0 w e vl

theorem open_row {H : Type} {enc : TypeId × Value → H} {w : World} {base : Nat} {sp : Nat → Bool} {hd : Bool} (n : Nat)
    (ih : ∀ (m : Nat) (cs : List Value) (x : DataW H × List MemPlace), m < n → DataW.trod enc Tryz.prog w base sp hd m 77 cs = some x → ∃ sn b e ve vb vl, StepCells w cs sn b e ve vb vl)
    (cs : List Value) (x : DataW H × List MemPlace) (h : DataW.trod enc Tryz.prog w base sp hd n 22 cs = some x) : ∃ (F : Ps) (v : Value), cs = [v] ∧ F.Wf ∧ PRow 0 w F v := by
  have c11 : Tryz.prog.cellsOf 77 = 11 := by kernel_rfl
  rcases DataW.trod_slice Tryz.underlying22 h with ⟨rfl, _⟩ | ⟨a, len, cap, elems, rest, m, rfl, rfl, _, hb, hl, hm, hlen, hel, _, _⟩
  · exact ⟨.nil, _, rfl, trivial, none, 0, rfl, Nat.le_refl _, by unfold maxLen; omega, fun h => by simp [Ps.len] at h⟩
  · rw [c11] at hel
    have hone : ∀ i, i < len → ∃ p : Sn × Ps × Ps, ∃ ve vb vl cs', w.cells? base (a.add (i * 11)) 11 = some cs' ∧ StepCells w cs' p.1 p.2.1 p.2.2 ve vb vl := by
      intro i hi
      have h1 := hel i hi
      rw [List.getElem?_eq_getElem (by omega)] at h1
      obtain ⟨cs', hc, ht⟩ := Option.bind_eq_some_iff.1 h1
      obtain ⟨sn, b, e, ve, vb, vl, hx⟩ := ih m cs' _ (by omega) ht
      exact ⟨(sn, b, e), ve, vb, vl, cs', hc, hx⟩
    obtain ⟨l, hll, hlp⟩ := pick_list len hone
    refine ⟨Ps.of l, _, rfl, Ps.Wf.of_get fun i sn b e hk => ?_, some a, cap, ?_, ?_, hm, fun hpos => ?_⟩
    · rw [Ps.of_at] at hk
      obtain ⟨ve, vb, vl, cs', _, _, h1, _⟩ := hlp i _ hk
      exact h1
    · rw [Ps.of_len, hll]
    · rw [Ps.of_len, hll]; exact hl
    · rw [Ps.of_len, hll] at hpos
      have hspot : a.spot = none := by
        obtain ⟨p, ve, vb, vl, cs', hc, hx⟩ := hone 0 hpos
        have h6 := (World.cells?_some hc).2.2 0 (by omega)
        rw [hx.1] at h6
        have := World.cell?_spot h6
        simpa [Addr.add] using this
      obtain ⟨g, off, spot⟩ := a
      simp only at hspot
      subst hspot
      have hcells : ∀ i sn b e, l[i]? = some (sn, b, e) → ∃ ve vb vl, StAt 0 w g (off + i * 11) sn b e ve vb vl := by
        intro i sn b e hk
        obtain ⟨ve, vb, vl, cs', hc, he, _, hr1, hr2, hr3⟩ := hlp i _ hk
        subst he
        have h6 := (World.cells?_some hc).2.2
        rw [add_plain] at h6
        have g0 := h6 0 (by omega)
        have g1 := h6 1 (by omega)
        have g2 := h6 2 (by omega)
        have g3 := h6 3 (by omega)
        have g4 := h6 4 (by omega)
        have g5 := h6 5 (by omega)
        have g6 := h6 6 (by omega)
        have g7 := h6 7 (by omega)
        have g8 := h6 8 (by omega)
        have g9 := h6 9 (by omega)
        have g10 := h6 10 (by omega)
        rw [add_plain] at g0 g1 g2 g3 g4 g5 g6 g7 g8 g9 g10
        exact ⟨ve, vb, vl, ⟨g0, g1, g2, g3, g4, g5, g6, g7⟩, ⟨g8, hr1⟩, ⟨g9, hr2⟩, ⟨g10, hr3⟩⟩
      refine ⟨g, off, rfl, Nat.zero_le _, ?_, PsAt.of_get fun i sn b e hk => ?_⟩
      · obtain ⟨p, hp⟩ : ∃ p, l[0]? = some p := ⟨l[0]'(by omega), List.getElem?_eq_getElem (by omega)⟩
        obtain ⟨ve, vb, vl, ⟨h0, _⟩, _⟩ := hcells 0 p.1 p.2.1 p.2.2 hp
        exact cell_lt h0
      · rw [Ps.of_at] at hk
        exact hcells i sn b e hk
theorem list11' {α : Type} (l : List α) (h : l.length = 11) : ∃ a b c d e f g h' i j k, l = [a, b, c, d, e, f, g, h', i, j, k] := by
  match l, h with
  | [a, b, c, d, e, f, g, h', i, j, k], _ => exact ⟨a, b, c, d, e, f, g, h', i, j, k, rfl⟩
theorem list2 {α : Type} (l : List α) (h : l.length = 2) : ∃ a b, l = [a, b] := by
  match l, h with
  | [a, b], _ => exact ⟨a, b, rfl⟩

theorem open_step {H : Type} {enc : TypeId × Value → H} {w : World} {base : Nat} {sp : Nat → Bool} {hd : Bool} : ∀ (N fuel : Nat) (cs : List Value) (x : DataW H × List MemPlace), fuel < N →
    DataW.trod enc Tryz.prog w base sp hd fuel 77 cs = some x → ∃ sn b e ve vb vl, StepCells w cs sn b e ve vb vl
  | 0, _, _, _, h, _ => by omega
  | N + 1, fuel, cs, x, hN, h => by
    have c11 : Tryz.prog.cellsOf 77 = 11 := by kernel_rfl
    have ci : Tryz.prog.cellsOf 3 = 1 := by kernel_rfl
    have cs1 : Tryz.prog.cellsOf 9 = 1 := by kernel_rfl
    have cx : Tryz.prog.cellsOf 75 = 6 := by kernel_rfl
    have cl : Tryz.prog.cellsOf 22 = 1 := by kernel_rfl
    obtain ⟨xs, n, rfl, _, hlen, hxl, hf⟩ := DataW.trod_struct Tryz.underlying77 h
    rw [c11] at hlen
    obtain ⟨a0, a1, a2, a3, a4, a5, a6, a7, a8, a9, a10, rfl⟩ := list11' cs hlen
    obtain ⟨y0, y1, y2, y3, y4, y5, rfl⟩ := list6 xs hxl
    have h0 : DataW.trod enc Tryz.prog w base sp hd n 3 (([a0, a1, a2, a3, a4, a5, a6, a7, a8, a9, a10].drop 0).take (Tryz.prog.cellsOf 3)) = some y0 := hf 0 _ rfl
    have h1 : DataW.trod enc Tryz.prog w base sp hd n 9 (([a0, a1, a2, a3, a4, a5, a6, a7, a8, a9, a10].drop 1).take (Tryz.prog.cellsOf 9)) = some y1 := hf 1 _ rfl
    have h2 : DataW.trod enc Tryz.prog w base sp hd n 9 (([a0, a1, a2, a3, a4, a5, a6, a7, a8, a9, a10].drop 2).take (Tryz.prog.cellsOf 9)) = some y2 := hf 2 _ rfl
    have h3 : DataW.trod enc Tryz.prog w base sp hd n 75 (([a0, a1, a2, a3, a4, a5, a6, a7, a8, a9, a10].drop 3).take (Tryz.prog.cellsOf 75)) = some y3 := hf 3 _ rfl
    have h4 : DataW.trod enc Tryz.prog w base sp hd n 22 (([a0, a1, a2, a3, a4, a5, a6, a7, a8, a9, a10].drop 9).take (Tryz.prog.cellsOf 22)) = some y4 := hf 4 _ rfl
    have h5 : DataW.trod enc Tryz.prog w base sp hd n 22 (([a0, a1, a2, a3, a4, a5, a6, a7, a8, a9, a10].drop 10).take (Tryz.prog.cellsOf 22)) = some y5 := hf 5 _ rfl
    rw [ci] at h0
    rw [cs1] at h1 h2
    rw [cx] at h3
    rw [cl] at h4 h5
    replace h0 : DataW.trod enc Tryz.prog w base sp hd n 3 [a0] = some y0 := h0
    replace h1 : DataW.trod enc Tryz.prog w base sp hd n 9 [a1] = some y1 := h1
    replace h2 : DataW.trod enc Tryz.prog w base sp hd n 9 [a2] = some y2 := h2
    replace h3 : DataW.trod enc Tryz.prog w base sp hd n 75 [a3, a4, a5, a6, a7, a8] = some y3 := h3
    replace h4 : DataW.trod enc Tryz.prog w base sp hd n 22 [a9] = some y4 := h4
    replace h5 : DataW.trod enc Tryz.prog w base sp hd n 22 [a10] = some y5 := h5
    obtain ⟨k0, e0, _, _⟩ := DataW.trod_int Tryz.underlying3 h0
    obtain ⟨nm, e1, _, hnm⟩ := DataW.trod_string Tryz.underlying9 h1
    obtain ⟨wh, e2, _, hwh⟩ := DataW.trod_string Tryz.underlying9 h2
    obtain ⟨nd, k, v, e3, z1, z2, z3, z4⟩ := open_expr (n + 1) n _ _ (by omega) h3
    obtain ⟨F, vb, e4, hF, hrow⟩ := open_row n (fun m cs' x' hm ht => open_step N m cs' x' (by omega) ht) _ _ h4
    obtain ⟨G, vl, e5, hG, hrow'⟩ := open_row n (fun m cs' x' hm ht => open_step N m cs' x' (by omega) ht) _ _ h5
    simp only [List.cons.injEq, and_true] at e0 e1 e2 e3 e4 e5
    obtain ⟨f0, f1, f2, f3, f4, f5⟩ := e3
    subst e0 e1 e2 e4 e5 f0 f1 f2 f3 f4 f5
    exact ⟨⟨k0, nm, wh, nd, k⟩, F, G, _, _, _, rfl, ⟨⟨hnm, hwh, z1, z2, z3⟩, hF, hG⟩, z4, hrow, hrow'⟩

theorem open_prog {H : Type} {enc : TypeId × Value → H} {w : World} {base : Nat} {sp : Nat → Bool} {hd : Bool} (fuel : Nat) (cs : List Value) (x : DataW H × List MemPlace)
    (h : DataW.trod enc Tryz.prog w base sp hd fuel 24 cs = some x) : ∃ (nm : ByteArray) (F : Ps) (v : Value), cs = [.string nm, v] ∧ nm.size ≤ maxLen ∧ F.Wf ∧ PRow 0 w F v := by
  have c2 : Tryz.prog.cellsOf 24 = 2 := by kernel_rfl
  have cs1 : Tryz.prog.cellsOf 9 = 1 := by kernel_rfl
  have cl : Tryz.prog.cellsOf 22 = 1 := by kernel_rfl
  obtain ⟨xs, n, rfl, _, hlen, hxl, hf⟩ := DataW.trod_struct Tryz.underlying24 h
  rw [c2] at hlen
  obtain ⟨a0, a1, rfl⟩ := list2 cs hlen
  obtain ⟨y0, y1, rfl⟩ := list2 xs hxl
  have h0 : DataW.trod enc Tryz.prog w base sp hd n 9 (([a0, a1].drop 0).take (Tryz.prog.cellsOf 9)) = some y0 := hf 0 _ rfl
  have h1 : DataW.trod enc Tryz.prog w base sp hd n 22 (([a0, a1].drop 1).take (Tryz.prog.cellsOf 22)) = some y1 := hf 1 _ rfl
  rw [cs1] at h0
  rw [cl] at h1
  replace h0 : DataW.trod enc Tryz.prog w base sp hd n 9 [a0] = some y0 := h0
  replace h1 : DataW.trod enc Tryz.prog w base sp hd n 22 [a1] = some y1 := h1
  obtain ⟨nm, e0, _, hnm⟩ := DataW.trod_string Tryz.underlying9 h0
  obtain ⟨F, v, e1, hF, hrow⟩ := open_row n (fun m cs' x' hm ht => open_step (m + 1) m cs' x' (by omega) ht) _ _ h1
  simp only [List.cons.injEq, and_true] at e0 e1
  subst e0 e1
  exact ⟨nm, F, _, rfl, hnm, hF, hrow⟩
end Go.Proofs.YtnikomgdcddchaaGreat

/- At every program ProgCalls answers as the specification, writes into no argument, and its answer owns its memory; no condition.
   The row's step: the statement of FnExactProgCalls out of its walk. -/
namespace Go.Proofs.YtnikomgdcddchaaGreat.fnExactProgCalls
open Go.ChangeShapes Go.WideShapes Go.ChangeAt Go.RowKit Go.Joins
open Go.ChangeMaps (open_string shut_string)
set_option linter.unusedVariables false

theorem own : ownKnob Tryz.prog.godebug = none := by kernel_rfl
theorem laidOut : laidOutB Tryz.prog = true := by kernel_rfl

set_option maxRecDepth 100000 in
theorem lifted (os : Os) (started : os.Started) (H : Type) (enc : TypeId × Value → H) :
    ReturnsInHanded {} Tryz.checked os 3 .any (Rows.fnExactProgCallsSpec.pre6 enc Tryz.prog Tryz.f3 Rows.fnExactProgCallsRow.domain false) (Rows.fnExactProgCallsSpec.post enc Tryz.prog Tryz.f3 false true false false) := by
  refine returnsInHanded_of_change (C := Tryz.checked) own started (by kernel_rfl) Tryz.func3
    (ChangeSpec.witness6 (enc := enc) (C := Tryz.checked) false ⟨#[], #[.agg #[.string ByteArray.empty, .slice none 0 0]], []⟩ 8 (by kernel_rfl) (by kernel_rfl) (by kernel_rfl) (by kernel_rfl)) ?_
  intro W base args ds gs before hval0 hW hcnd _
  have hval : ∀ (j : Nat) t v, Tryz.f3.params[j]? = some t → args[j]? = some v → Value.okWide Tryz.prog W .any base t v := hval0
  have hW' := hW
  obtain ⟨p, q, hA0, hV, rfl, hfz, hnd⟩ := hW
  have hA : DataW.TrodAll enc Tryz.prog W 0 (fun _ => true) true Tryz.f3.params.toList args.toList ds p := hA0
  rw [Tryz.params3] at hA hval
  obtain ⟨v0, vs0, d0, ds0, p0, q0, hargs, rfl, rfl, h0, r0⟩ := trodAll_cons hA
  obtain ⟨rfl, rfl, rfl⟩ := trodAll_nil r0
  obtain rfl : args = #[v0] := by cases args; simp_all
  obtain ⟨rfl, rfl⟩ := trodVars_none hV
  have k0 := h0
  have lt0 : ∀ x ∈ p0, x.block < W.heap.size := by obtain ⟨m, hm⟩ := k0; exact DataW.trod_lt m _ _ _ hm
  have w0 : ∃ nm F v, v0 = .agg #[.string nm, v] ∧ nm.size ≤ maxLen ∧ F.Wf ∧ PRow 0 W F v := by
    obtain ⟨fuel, hf⟩ := h0
    obtain ⟨nm, F, v, hcs, h1, h2, h3⟩ := open_prog fuel _ _ hf
    refine ⟨nm, F, v, ?_, h1, h2, h3⟩
    cases v0 with
    | agg cs =>
      have : cs.toList = _ := hcs
      rw [← this]
    | _ => simp [Value.cells] at hcs
  obtain ⟨nm, F, v, rfl, z1, z2, z3⟩ := w0
  clear hA0 hval0
  refine (lawProgCalls nm F v W z1 z2 z3).mono fun e W' ⟨he, hg⟩ => ?_
  subst he
  exact ⟨_, rfl, _, _, _, [], _, [], hW', trodAll_mk1 (shut_bool Tryz.underlying4 _), (trodAll_cons_mk (Below.trod laidOut (by kernel_rfl) (of_decide_eq_true (by kernel_rfl)) k0 hg lt0) trodAll_mk0), rfl, hg.frame _, fun h => by cases h⟩

theorem over : Rows.fnExactProgCallsRow.holds Tryz.pinned (OpenSpec.ofChange Rows.fnExactProgCallsSpec) :=
  OpenClaim.holds_of_wide 3 Tryz.f3 rfl rfl rfl rfl rfl rfl rfl ⟨rfl, rfl, rfl, rfl, rfl⟩ rfl rfl rfl rfl rfl (by kernel_rfl) Tryz.func3 (by kernel_rfl)
    (of_decide_eq_true (by kernel_rfl)) (by unfold Func.isWrapper; first | (rw [if_pos (by decide +kernel)]; kernel_rfl) | (rw [if_neg (by decide +kernel)]; exact ⟨rfl, rfl⟩))
    (fun os started H enc _ => lifted os started H enc)

end Go.Proofs.YtnikomgdcddchaaGreat.fnExactProgCalls
namespace Go.Proofs.YtnikomgdcddchaaGreat
theorem fnExactProgCalls_holds : Rows.FnExactProgCallsSaid := fnExactProgCalls.over
end Go.Proofs.YtnikomgdcddchaaGreat

/- Joined: OpenX OpenP RowFnExactExprEval. -/
import Derived.Test.YtiffgomkhoalpaaGreatDoorTree
import Derived.ChangeArms
import Derived.DataReads
import Derived.Test.YtiffgomkhoalpaaGreatDoorPlEv2
import Derived.Test.YtiffgomkhoalpaaGreatDoorRows
import Derived.Test.YtiffgomkhoalpaaGreatDoorTie
import Derived.Test.YtiffgomkhoalpaaGreatDoorCards
import Derived.Test.YtiffgomkhoalpaaGreatDoorJLaw
import Derived.WalkKit
import Derived.ProofKit
import Derived.OpenShut
import Derived.ShutString
import Derived.Below
import Derived.Lib.SmallJoins
import Derived.LaidMore
import Derived.LaidHandle
import Derived.Stop.Joined
import Derived.SevenTiedAt
/- A datum of an expression, opened into its node and the forest of its parts. -/
namespace Go.Proofs.YtiffgomkhoalpaaGreatDoor
open Go.RowKit Go.ChangeShapes
set_option linter.unusedVariables false

/-- a list of nodes as a forest -/
def Fo.of : List (Nd × Fo) → Fo
  | [] => .nil
  | (nd, k) :: l => .cons nd k (Fo.of l)
theorem Fo.of_len : ∀ (l : List (Nd × Fo)), (Fo.of l).len = l.length
  | [] => rfl
  | (nd, k) :: l => by simp [Fo.of, Fo.len, Fo.of_len l]
theorem Fo.of_get : ∀ (l : List (Nd × Fo)) (i : Nat), (Fo.of l).get i = l[i]?
  | [], i => by simp [Fo.of, Fo.get]
  | (nd, k) :: l, 0 => rfl
  | (nd, k) :: l, i + 1 => by simpa [Fo.of, Fo.get] using Fo.of_get l i
theorem Fo.Wf.of_get : ∀ {F : Fo} (h : ∀ i nd k, F.get i = some (nd, k) → nd.vt.size ≤ maxLen ∧ nd.nm.size ≤ maxLen ∧ k.Wf), F.Wf
  | .nil, _ => trivial
  | .cons nd k r, h => ⟨(h 0 nd k rfl).1, (h 0 nd k rfl).2.1, (h 0 nd k rfl).2.2, Fo.Wf.of_get (F := r) (fun i nd' k' hk => h (i + 1) nd' k' hk)⟩
theorem pick_list {α : Type} {P : Nat → α → Prop} : ∀ (n : Nat), (∀ i, i < n → ∃ x, P i x) → ∃ l : List α, l.length = n ∧ ∀ i x, l[i]? = some x → P i x
  | 0, _ => ⟨[], rfl, fun i x h => by simp at h⟩
  | n + 1, h => by
    obtain ⟨l, hl, hp⟩ := pick_list n (fun i hi => h i (by omega))
    obtain ⟨x, hx⟩ := h n (by omega)
    refine ⟨l ++ [x], by simp [hl], fun i y hy => ?_⟩
    by_cases hi : i < n
    · rw [List.getElem?_append_left (by omega)] at hy
      exact hp i y hy
    · have : i = n := by
        apply Classical.byContradiction
        intro hn
        rw [List.getElem?_eq_none (by simp; omega)] at hy
        cases hy
      subst this
      rw [List.getElem?_append_right (by omega), hl, Nat.sub_self] at hy
      simp at hy
      subst hy
      exact hx
theorem add_plain (g off n : Nat) : (⟨g, off, none⟩ : Addr).add n = ⟨g, off + n, none⟩ := by
  unfold Addr.add
  split
  · next h => subst h; rfl
  · rfl
theorem cell_lt {w : World} {g off : Nat} {v : Value} (h : w.cell? ⟨g, off, none⟩ = some v) : g < w.heap.size := by
  apply Classical.byContradiction
  intro hn
  have : w.heap[g]? = none := Array.getElem?_eq_none (by omega)
  simp [World.cell?, this] at h

/-- what is asked of the cells of one expression -/
def ExprCells (w : World) (cs : List Value) (nd : Nd) (k : Fo) (v : Value) : Prop :=
  cs = [.int .i64 nd.k, .int .i64 nd.vk, .int .i64 nd.vn, .string nd.vt, .string nd.nm, v] ∧ nd.vt.size ≤ maxLen ∧ nd.nm.size ≤ maxLen ∧ k.Wf ∧ RowAt 0 w k v

theorem open_parts {H : Type} {enc : TypeId × Value → H} {w : World} {base : Nat} {sp : Nat → Bool} {hd : Bool} (n : Nat)
    (ih : ∀ (m : Nat) (cs : List Value) (x : DataW H × List MemPlace), m < n → DataW.trod enc Tryz.prog w base sp hd m 26 cs = some x → ∃ nd k v, ExprCells w cs nd k v)
    (cs : List Value) (x : DataW H × List MemPlace) (h : DataW.trod enc Tryz.prog w base sp hd n 24 cs = some x) : ∃ (F : Fo) (v : Value), cs = [v] ∧ F.Wf ∧ RowAt 0 w F v := by
  have c6 : Tryz.prog.cellsOf 26 = 6 := by kernel_rfl
  rcases DataW.trod_slice Tryz.underlying24 h with ⟨rfl, _⟩ | ⟨a, len, cap, elems, rest, m, rfl, rfl, _, hb, hl, hm, hlen, hel, _, _⟩
  · exact ⟨.nil, _, rfl, trivial, none, 0, rfl, Nat.le_refl _, by unfold maxLen; omega, fun h => by simp [Fo.len] at h⟩
  · rw [c6] at hel
    have hone : ∀ i, i < len → ∃ p : Nd × Fo, ∃ v cs', w.cells? base (a.add (i * 6)) 6 = some cs' ∧ ExprCells w cs' p.1 p.2 v := by
      intro i hi
      have h1 := hel i hi
      rw [List.getElem?_eq_getElem (by omega)] at h1
      obtain ⟨cs', hc, ht⟩ := Option.bind_eq_some_iff.1 h1
      obtain ⟨nd, k, v, hx⟩ := ih m cs' _ (by omega) ht
      exact ⟨(nd, k), v, cs', hc, hx⟩
    obtain ⟨l, hll, hlp⟩ := pick_list len hone
    refine ⟨Fo.of l, _, rfl, Fo.Wf.of_get fun i nd k hk => ?_, some a, cap, ?_, ?_, hm, fun hpos => ?_⟩
    · rw [Fo.of_get] at hk
      obtain ⟨v, cs', _, _, h1, h2, h3, _⟩ := hlp i _ hk
      exact ⟨h1, h2, h3⟩
    · rw [Fo.of_len, hll]
    · rw [Fo.of_len, hll]; exact hl
    · rw [Fo.of_len, hll] at hpos
      have hspot : a.spot = none := by
        obtain ⟨p, v, cs', hc, hx⟩ := hone 0 hpos
        have h6 := (World.cells?_some hc).2.2 0 (by omega)
        rw [hx.1] at h6
        have := World.cell?_spot h6
        simpa [Addr.add] using this
      obtain ⟨g, off, spot⟩ := a
      simp only at hspot
      subst hspot
      have hcells : ∀ i nd k, l[i]? = some (nd, k) → ∃ v, NdAt 0 w g (off + i * 6) nd k v := by
        intro i nd k hk
        obtain ⟨v, cs', hc, he, _, _, _, hrow⟩ := hlp i _ hk
        subst he
        have h6 := (World.cells?_some hc).2.2
        rw [add_plain] at h6
        have g0 := h6 0 (by omega)
        have g1 := h6 1 (by omega)
        have g2 := h6 2 (by omega)
        have g3 := h6 3 (by omega)
        have g4 := h6 4 (by omega)
        have g5 := h6 5 (by omega)
        rw [add_plain] at g0 g1 g2 g3 g4 g5
        exact ⟨v, g0, g1, g2, g3, g4, g5, hrow⟩
      refine ⟨g, off, rfl, Nat.zero_le _, ?_, FoAt.of_get fun i nd k hk => ?_⟩
      · obtain ⟨p, hp⟩ : ∃ p, l[0]? = some p := ⟨l[0]'(by omega), List.getElem?_eq_getElem (by omega)⟩
        obtain ⟨v, h0, _⟩ := hcells 0 p.1 p.2 hp
        exact cell_lt h0
      · rw [Fo.of_get] at hk
        exact hcells i nd k hk
theorem list6 {α : Type} (l : List α) (h : l.length = 6) : ∃ a b c d e f, l = [a, b, c, d, e, f] := by
  match l, h with
  | [a, b, c, d, e, f], _ => exact ⟨a, b, c, d, e, f, rfl⟩
theorem list4 {α : Type} (l : List α) (h : l.length = 4) : ∃ a b c d, l = [a, b, c, d] := by
  match l, h with
  | [a, b, c, d], _ => exact ⟨a, b, c, d, rfl⟩
theorem list3 {α : Type} (l : List α) (h : l.length = 3) : ∃ a b c, l = [a, b, c] := by
  match l, h with
  | [a, b, c], _ => exact ⟨a, b, c, rfl⟩

theorem open_expr {H : Type} {enc : TypeId × Value → H} {w : World} {base : Nat} {sp : Nat → Bool} {hd : Bool} : ∀ (N fuel : Nat) (cs : List Value) (x : DataW H × List MemPlace), fuel < N →
    DataW.trod enc Tryz.prog w base sp hd fuel 26 cs = some x → ∃ nd k v, ExprCells w cs nd k v
  | 0, _, _, _, h, _ => by omega
  | N + 1, fuel, cs, x, hN, h => by
    have c6 : Tryz.prog.cellsOf 26 = 6 := by kernel_rfl
    have ci : Tryz.prog.cellsOf 3 = 1 := by kernel_rfl
    have cs1 : Tryz.prog.cellsOf 9 = 1 := by kernel_rfl
    have cv : Tryz.prog.cellsOf 23 = 3 := by kernel_rfl
    have cl : Tryz.prog.cellsOf 24 = 1 := by kernel_rfl
    obtain ⟨xs, n, rfl, _, hlen, hxl, hf⟩ := DataW.trod_struct Tryz.underlying26 h
    rw [c6] at hlen
    obtain ⟨a0, a1, a2, a3, a4, a5, rfl⟩ := list6 cs hlen
    obtain ⟨y0, y1, y2, y3, rfl⟩ := list4 xs hxl
    have h0 : DataW.trod enc Tryz.prog w base sp hd n 3 (([a0, a1, a2, a3, a4, a5].drop 0).take (Tryz.prog.cellsOf 3)) = some y0 := hf 0 _ rfl
    have h1 : DataW.trod enc Tryz.prog w base sp hd n 23 (([a0, a1, a2, a3, a4, a5].drop 1).take (Tryz.prog.cellsOf 23)) = some y1 := hf 1 _ rfl
    have h2 : DataW.trod enc Tryz.prog w base sp hd n 9 (([a0, a1, a2, a3, a4, a5].drop 4).take (Tryz.prog.cellsOf 9)) = some y2 := hf 2 _ rfl
    have h3 : DataW.trod enc Tryz.prog w base sp hd n 24 (([a0, a1, a2, a3, a4, a5].drop 5).take (Tryz.prog.cellsOf 24)) = some y3 := hf 3 _ rfl
    rw [ci] at h0
    rw [cv] at h1
    rw [cs1] at h2
    rw [cl] at h3
    replace h0 : DataW.trod enc Tryz.prog w base sp hd n 3 [a0] = some y0 := h0
    replace h1 : DataW.trod enc Tryz.prog w base sp hd n 23 [a1, a2, a3] = some y1 := h1
    replace h2 : DataW.trod enc Tryz.prog w base sp hd n 9 [a4] = some y2 := h2
    replace h3 : DataW.trod enc Tryz.prog w base sp hd n 24 [a5] = some y3 := h3
    obtain ⟨k0, e0, _, _⟩ := DataW.trod_int Tryz.underlying3 h0
    obtain ⟨nm, e2, _, hnm⟩ := DataW.trod_string Tryz.underlying9 h2
    obtain ⟨F, v, e3, hF, hrow⟩ := open_parts n (fun m cs' x' hm ht => open_expr N m cs' x' (by omega) ht) _ _ h3
    obtain ⟨zs, n', rfl, _, _, hzl, hg⟩ := DataW.trod_struct Tryz.underlying23 h1
    obtain ⟨z0, z1, z2, rfl⟩ := list3 zs hzl
    have g0 : DataW.trod enc Tryz.prog w base sp hd n' 3 (([a1, a2, a3].drop 0).take (Tryz.prog.cellsOf 3)) = some z0 := hg 0 _ rfl
    have g1 : DataW.trod enc Tryz.prog w base sp hd n' 3 (([a1, a2, a3].drop 1).take (Tryz.prog.cellsOf 3)) = some z1 := hg 1 _ rfl
    have g2 : DataW.trod enc Tryz.prog w base sp hd n' 9 (([a1, a2, a3].drop 2).take (Tryz.prog.cellsOf 9)) = some z2 := hg 2 _ rfl
    rw [ci] at g0 g1
    rw [cs1] at g2
    replace g0 : DataW.trod enc Tryz.prog w base sp hd n' 3 [a1] = some z0 := g0
    replace g1 : DataW.trod enc Tryz.prog w base sp hd n' 3 [a2] = some z1 := g1
    replace g2 : DataW.trod enc Tryz.prog w base sp hd n' 9 [a3] = some z2 := g2
    obtain ⟨vk, f0, _, _⟩ := DataW.trod_int Tryz.underlying3 g0
    obtain ⟨vn, f1, _, _⟩ := DataW.trod_int Tryz.underlying3 g1
    obtain ⟨vt, f2, _, hvt⟩ := DataW.trod_string Tryz.underlying9 g2
    simp only [List.cons.injEq, and_true] at e0 e2 e3 f0 f1 f2
    subst e0 e2 e3 f0 f1 f2
    exact ⟨⟨k0, vk, vn, vt, nm⟩, F, _, rfl, hvt, hnm, hF, hrow⟩
end Go.Proofs.YtiffgomkhoalpaaGreatDoor

/- Names with values, opened. -/
namespace Go.Proofs.YtiffgomkhoalpaaGreatDoor
open Go.RowKit Go.ChangeShapes
set_option linter.unusedVariables false
theorem list2 {α : Type} (l : List α) (h : l.length = 2) : ∃ a b, l = [a, b] := by
  match l, h with
  | [a, b], _ => exact ⟨a, b, rfl⟩
theorem open_pair {H : Type} {enc : TypeId × Value → H} {w : World} {base : Nat} {sp : Nat → Bool} {hd : Bool} (fuel : Nat) (cs : List Value) (x : DataW H × List MemPlace)
    (h : DataW.trod enc Tryz.prog w base sp hd fuel 59 cs = some x) : ∃ p : Pl.Pr, cs = prL p ∧ PrWf p := by
  have c4 : Tryz.prog.cellsOf 59 = 4 := by kernel_rfl
  have ci : Tryz.prog.cellsOf 3 = 1 := by kernel_rfl
  have cs1 : Tryz.prog.cellsOf 9 = 1 := by kernel_rfl
  have cv : Tryz.prog.cellsOf 23 = 3 := by kernel_rfl
  obtain ⟨xs, n, rfl, _, hlen, hxl, hf⟩ := DataW.trod_struct Tryz.underlying59 h
  rw [c4] at hlen
  obtain ⟨a0, a1, a2, a3, rfl⟩ := list4 cs hlen
  obtain ⟨y0, y1, rfl⟩ := list2 xs hxl
  have h0 : DataW.trod enc Tryz.prog w base sp hd n 9 (([a0, a1, a2, a3].drop 0).take (Tryz.prog.cellsOf 9)) = some y0 := hf 0 _ rfl
  have h1 : DataW.trod enc Tryz.prog w base sp hd n 23 (([a0, a1, a2, a3].drop 1).take (Tryz.prog.cellsOf 23)) = some y1 := hf 1 _ rfl
  rw [cs1] at h0
  rw [cv] at h1
  replace h0 : DataW.trod enc Tryz.prog w base sp hd n 9 [a0] = some y0 := h0
  replace h1 : DataW.trod enc Tryz.prog w base sp hd n 23 [a1, a2, a3] = some y1 := h1
  obtain ⟨nm, e0, _, hnm⟩ := DataW.trod_string Tryz.underlying9 h0
  obtain ⟨zs, n', rfl, _, _, hzl, hg⟩ := DataW.trod_struct Tryz.underlying23 h1
  obtain ⟨z0, z1, z2, rfl⟩ := list3 zs hzl
  have g0 : DataW.trod enc Tryz.prog w base sp hd n' 3 (([a1, a2, a3].drop 0).take (Tryz.prog.cellsOf 3)) = some z0 := hg 0 _ rfl
  have g1 : DataW.trod enc Tryz.prog w base sp hd n' 3 (([a1, a2, a3].drop 1).take (Tryz.prog.cellsOf 3)) = some z1 := hg 1 _ rfl
  have g2 : DataW.trod enc Tryz.prog w base sp hd n' 9 (([a1, a2, a3].drop 2).take (Tryz.prog.cellsOf 9)) = some z2 := hg 2 _ rfl
  rw [ci] at g0 g1
  rw [cs1] at g2
  replace g0 : DataW.trod enc Tryz.prog w base sp hd n' 3 [a1] = some z0 := g0
  replace g1 : DataW.trod enc Tryz.prog w base sp hd n' 3 [a2] = some z1 := g1
  replace g2 : DataW.trod enc Tryz.prog w base sp hd n' 9 [a3] = some z2 := g2
  obtain ⟨vk, f0, _, _⟩ := DataW.trod_int Tryz.underlying3 g0
  obtain ⟨vn, f1, _, _⟩ := DataW.trod_int Tryz.underlying3 g1
  obtain ⟨vt, f2, _, hvt⟩ := DataW.trod_string Tryz.underlying9 g2
  simp only [List.cons.injEq, and_true] at e0 f0 f1 f2
  subst e0 f0 f1 f2
  exact ⟨⟨nm, vk, vn, vt⟩, rfl, hnm, hvt⟩
theorem open_pairs {H : Type} {enc : TypeId × Value → H} {w : World} {base : Nat} {sp : Nat → Bool} {hd : Bool} (n : Nat)
    (cs : List Value) (x : DataW H × List MemPlace) (h : DataW.trod enc Tryz.prog w base sp hd n 27 cs = some x) : ∃ (l : List Pl.Pr) (v : Value), cs = [v] ∧ (∀ p ∈ l, PrWf p) ∧ PrRow w l v := by
  have c4 : Tryz.prog.cellsOf 59 = 4 := by kernel_rfl
  rcases DataW.trod_slice Tryz.underlying27 h with ⟨rfl, _⟩ | ⟨a, len, cap, elems, rest, m, rfl, rfl, _, hb, hl, hm, hlen, hel, _, _⟩
  · exact ⟨[], _, rfl, (fun p hp => by cases hp), none, 0, rfl, Nat.le_refl _, by unfold maxLen; omega, fun h => by simp at h⟩
  · rw [c4] at hel
    have hone : ∀ i, i < len → ∃ p : Pl.Pr, ∃ cs', w.cells? base (a.add (i * 4)) 4 = some cs' ∧ cs' = prL p ∧ PrWf p := by
      intro i hi
      have h1 := hel i hi
      rw [List.getElem?_eq_getElem (by omega)] at h1
      obtain ⟨cs', hc, ht⟩ := Option.bind_eq_some_iff.1 h1
      obtain ⟨p, hx, hw⟩ := open_pair m cs' _ ht
      exact ⟨p, cs', hc, hx, hw⟩
    obtain ⟨l, hll, hlp⟩ := pick_list len hone
    refine ⟨l, _, rfl, fun p hp => ?_, some a, cap, ?_, ?_, hm, fun hpos => ?_⟩
    · obtain ⟨i, hi⟩ := List.mem_iff_getElem?.1 hp
      obtain ⟨_, _, _, hw⟩ := hlp i p hi
      exact hw
    · rw [hll]
    · rw [hll]; exact hl
    · rw [hll] at hpos
      have hspot : a.spot = none := by
        obtain ⟨p, cs', hc, hx, _⟩ := hone 0 hpos
        have h4 := (World.cells?_some hc).2.2 0 (by omega)
        rw [hx] at h4
        have := World.cell?_spot h4
        simpa [Addr.add] using this
      obtain ⟨g, off, spot⟩ := a
      simp only at hspot
      subst hspot
      have hcells : ∀ i p, l[i]? = some p → PrAt w g (off + i * 4) p := by
        intro i p hk
        obtain ⟨cs', hc, he, _⟩ := hlp i _ hk
        subst he
        have h6 := (World.cells?_some hc).2.2
        rw [add_plain] at h6
        have g0 := h6 0 (by omega)
        have g1 := h6 1 (by omega)
        have g2 := h6 2 (by omega)
        have g3 := h6 3 (by omega)
        rw [add_plain] at g0 g1 g2 g3
        exact ⟨g0, g1, g2, g3⟩
      refine ⟨g, off, rfl, ?_, hcells⟩
      obtain ⟨p, hp⟩ : ∃ p, l[0]? = some p := ⟨l[0]'(by omega), List.getElem?_eq_getElem (by omega)⟩
      exact cell_lt (hcells 0 p hp).1
end Go.Proofs.YtiffgomkhoalpaaGreatDoor

/- At every expression and row of names with values ExprEval answers as the specification, and writes into no argument; package errors' own variable standing as its text lays it (the card ties that); no other condition.
   The row's step and the card of FnExactExprEval, out of its walk. -/
namespace Go.Proofs.YtiffgomkhoalpaaGreatDoor.fnExactExprEval
open Go.ChangeShapes Go.WideShapes Go.ChangeAt Go.RowKit Go.Joins
open Go.ChangeMaps (open_string shut_string)
set_option linter.unusedVariables false

theorem own : ownKnob Tryz.prog.godebug = none := by kernel_rfl
theorem laidOut : laidOutB Tryz.prog = true := by kernel_rfl
theorem et : Tryz.prog.globalNamed "errors.errorType" = some 0 := by kernel_rfl
theorem rt : (Tryz.prog.cutTypes.find? (·.1 == "internal/reflectlite.rtype")).map (·.2) = some 157 := by kernel_rfl
theorem oneRow : ((List.range Tryz.prog.types.size).filter fun t => Tryz.prog.rowNamed t [101, 114, 114, 111, 114]) = [89] := by kernel_rfl
/-- what the listed variable gives the walk -/
theorem handle_of_laid {W : World} (h : laidMetH Tryz.prog Rows.fnExactExprEvalRow.laid W) : ErrT W := by
  have h' : laidMet Tryz.prog [] W ∧ handlesMet Tryz.prog Rows.fnExactExprEvalRow.laid W := h
  obtain ⟨name, u, ty, e1, e2, e3, e4, e5⟩ := h'.2 _ (List.mem_singleton.2 rfl)
  have en : name = [101, 114, 114, 111, 114] := (Option.some.inj e1).symm
  subst en
  obtain rfl := Option.some.inj (rt.symm.trans e2)
  have hm : ty ∈ (List.range Tryz.prog.types.size).filter fun t => Tryz.prog.rowNamed t [101, 114, 114, 111, 114] := List.mem_filter.2 ⟨List.mem_range.2 e3, e4⟩
  rw [oneRow] at hm
  obtain rfl := List.mem_singleton.1 hm
  have hh : typeHandle Tryz.prog 89 = hdl 89 := by kernel_rfl
  rw [hh] at e5
  show W.cell? ⟨0, 0, none⟩ = _
  simpa using World.var?_cell et e5 0
/-- a world that meets the condition -/
noncomputable def laidWorld (os : Os) : World :=
  let w0 := World.holding Tryz.prog os ⟨#[], #[], []⟩
  { w0 with heap := w0.heap.modify 0 fun
      | .cells _ t frozen => .cells #[rtV 89] t frozen
      | o => o }
theorem laidWorld_met (os : Os) (args : Array Value) : laidMetH Tryz.prog Rows.fnExactExprEvalRow.laid ((laidWorld os).forCall (fun _ _ => 0) ⟨#[], args, []⟩).memory :=
  laidMetH_of_parts (laidMet_nil _ _) (by kernel_rfl)

set_option maxRecDepth 100000 in
theorem lifted (os : Os) (started : os.Started) (H : Type) (enc : TypeId × Value → H) :
    ReturnsInHanded {} Tryz.checked os 3 .any (fun w args => (Rows.fnExactExprEvalSpec.pre enc Tryz.prog Tryz.f3 [] false w args ∧ laidMetH Tryz.prog Rows.fnExactExprEvalRow.laid w) ∧ sizedMet enc Tryz.prog Tryz.f3 (OpenSpec.ofChange Rows.fnExactExprEvalSpec) false w args)
      (Rows.fnExactExprEvalSpec.post enc Tryz.prog Tryz.f3 false true false false) := by
  refine returnsInHanded_of_change_and (C := Tryz.checked) (X := fun w _ => laidMetH Tryz.prog Rows.fnExactExprEvalRow.laid w) (fun _ _ _ hh h => h.of_heap hh) own started (by kernel_rfl) Tryz.func3
    (ChangeSpec.witness_at (enc := enc) (C := Tryz.checked) (os := os) (X := fun w _ => laidMetH Tryz.prog Rows.fnExactExprEvalRow.laid w) false (laidWorld os) #[.agg #[.int .i64 0, .int .i64 0, .int .i64 0, .string ByteArray.empty, .string ByteArray.empty, .slice none 0 0], .slice none 0 0] 8 rfl (by kernel_rfl) (by kernel_rfl) (by kernel_rfl) (by kernel_rfl) (by kernel_rfl) (laidWorld_met os _)) ?_
  intro W base args ds gs before hval0 hW _ _ hL _
  have hval : ∀ (j : Nat) t v, Tryz.f3.params[j]? = some t → args[j]? = some v → Value.okWide Tryz.prog W .any base t v := hval0
  have hW' := hW
  obtain ⟨p, q, hA0, hV, rfl, hfz, hnd⟩ := hW
  have hA : DataW.TrodAll enc Tryz.prog W 0 (fun _ => true) true Tryz.f3.params.toList args.toList ds p := hA0
  rw [Tryz.params3] at hA hval
  obtain ⟨v0, vs0, d0, ds0, p0, q0, hargs, rfl, rfl, h0, r0⟩ := trodAll_cons hA
  obtain ⟨v1, vs1, d1, ds1, p1, q1, rfl, rfl, rfl, h1, r1⟩ := trodAll_cons r0
  obtain ⟨rfl, rfl, rfl⟩ := trodAll_nil r1
  obtain rfl : args = #[v0, v1] := by cases args; simp_all
  obtain ⟨rfl, rfl⟩ := trodVars_none hV
  have k0 := h0
  have k1 := h1
  have lt0 : ∀ x ∈ p0, x.block < W.heap.size := by obtain ⟨m, hm⟩ := k0; exact DataW.trod_lt m _ _ _ hm
  have lt1 : ∀ x ∈ p1, x.block < W.heap.size := by obtain ⟨m, hm⟩ := k1; exact DataW.trod_lt m _ _ _ hm
  have w0 : ∃ nd k v, v0 = ndV nd v ∧ nd.vt.size ≤ maxLen ∧ nd.nm.size ≤ maxLen ∧ k.Wf ∧ RowAt 0 W k v := by
    obtain ⟨fuel, hf⟩ := h0
    obtain ⟨nd, k, v, hcs, h1, h2, h3, h4⟩ := open_expr (fuel + 1) fuel _ _ (by omega) hf
    refine ⟨nd, k, v, ?_, h1, h2, h3, h4⟩
    cases v0 with
    | agg cs =>
      have : cs.toList = _ := hcs
      rw [ndV, ← this]
    | _ => simp [Value.cells] at hcs
  have w1 : ∃ l, (∀ p ∈ l, PrWf p) ∧ PrRow W l v1 := by
    obtain ⟨a1, len1, cap1, rfl⟩ := okWide_slice Tryz.underlying27 (hval 1 27 v1 rfl rfl)
    obtain ⟨fuel, hf⟩ := h1
    obtain ⟨l, u, hcs, h2, h3⟩ := open_pairs fuel _ _ hf
    have hu : u = .slice a1 len1 cap1 := by
      simp [Value.cells] at hcs
      exact hcs.symm
    rw [hu] at h3
    exact ⟨l, h2, h3⟩
  obtain ⟨nd, k, v, rfl, z1, z2, z3, z4⟩ := w0
  obtain ⟨l, z5, z6⟩ := w1
  have hE := handle_of_laid hL
  clear hA0 hval0
  refine (lawExprEval nd k v l z5 v1 W z1 z2 z3 z4 z6 hE).mono fun e W' ⟨he, hg⟩ => ?_
  subst he
  exact ⟨_, rfl, _, _, _, [], _, [], hW', trodAll_mk1 (shut_bool Tryz.underlying4 _), (trodAll_cons_mk (Below.trod laidOut (by kernel_rfl) (of_decide_eq_true (by kernel_rfl)) k0 hg lt0) (trodAll_cons_mk (Below.trod laidOut (by kernel_rfl) (of_decide_eq_true (by kernel_rfl)) k1 hg lt1) trodAll_mk0)), rfl, hg.frame _, fun h => by cases h⟩

theorem over : Rows.FnExactExprEvalSaid :=
  OpenClaim.holds_of_wide 3 Tryz.f3 rfl rfl rfl rfl rfl rfl rfl ⟨rfl, rfl, rfl, rfl, rfl⟩ rfl rfl rfl rfl rfl (by kernel_rfl) Tryz.func3 (by kernel_rfl)
    (of_decide_eq_true (by kernel_rfl)) (by unfold Func.isWrapper; first | (rw [if_pos (by decide +kernel)]; kernel_rfl) | (rw [if_neg (by decide +kernel)]; exact ⟨rfl, rfl⟩))
    (fun os started H enc _ => lifted os started H enc)

theorem carded : Rows.FnExactExprEvalCardSaid :=
  Claim7.holds_tied_plain_at .later [] [.handle] true (true, "0d1ac6e27b6b507ab646b9ce43aa3125ce8f65025fe6a6322b6fe9da882cb2cc") true
    over (fun _ h => by cases h) (by kernel_rfl) (fun _ h => by cases h) fnExactExprEval_row_tie rfl ⟨rfl, rfl⟩ (by kernel_rfl) rfl
    (fun f fn hf hfn => by
      obtain rfl : f = 3 := Option.some.inj ((show Tryz.prog.funcNamed "loop.example/backstitch/laws.FnExactExprEval" = some 3 by kernel_rfl).symm.trans hf) |>.symm
      obtain rfl : fn = Tryz.f3 := (Option.some.inj (Tryz.func3.symm.trans hfn)).symm
      exact ⟨by kernel_rfl, fun j t ht => by
        rw [Tryz.params3] at ht
        have hm : t ∈ [26, 27] := by simpa using Array.mem_of_getElem? ht
        have hall : ([26, 27].all fun u => !Tryz.prog.wantsStandIn u) = true := by kernel_rfl
        exact (show Tryz.prog.wantsStandIn t = false by simpa using List.all_eq_true.1 hall t hm)⟩)
    (by kernel_rfl)
end Go.Proofs.YtiffgomkhoalpaaGreatDoor.fnExactExprEval
namespace Go.Proofs.YtiffgomkhoalpaaGreatDoor
theorem fnExactExprEval_holds : Rows.FnExactExprEvalCardSaid := fnExactExprEval.carded
end Go.Proofs.YtiffgomkhoalpaaGreatDoor

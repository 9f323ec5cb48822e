/- Joined: OpenC OpenE. -/
import Derived.Test.YtobeecopkfgplaaLeafB
import Derived.ChangeArms
import Derived.DataReads
import Derived.Test.YtobeecopkfgplaaEvM
/- A datum of something that is asked for, and of something that came, opened. -/
namespace Go.Proofs.Ytobeecopkfgplaa
open Go.RowKit Go.ChangeShapes
set_option linter.unusedVariables false

theorem cut5 {α : Type} (l : List α) (h : l.length = 5) : ∃ a b c d e, l = [a, b, c, d, e] := by
  match l, h with
  | [a, b, c, d, e], _ => exact ⟨a, b, c, d, e, rfl⟩
theorem cut3 {α : Type} (l : List α) (h : l.length = 3) : ∃ a b c, l = [a, b, c] := by
  match l, h with
  | [a, b, c], _ => exact ⟨a, b, c, rfl⟩
theorem cut7 {α : Type} (l : List α) (h : l.length = 7) : ∃ a b c d e f g, l = [a, b, c, d, e, f, g] := by
  match l, h with
  | [a, b, c, d, e, f, g], _ => exact ⟨a, b, c, d, e, f, g, rfl⟩

theorem open_value {H : Type} {enc : TypeId × Value → H} {w : World} {base : Nat} {sp : Nat → Bool} {hd : Bool} (n : Nat) (a1 a2 a3 : Value) (y1 : DataW H × List MemPlace)
    (h1 : DataW.trod enc Try.prog w base sp hd n 41 [a1, a2, a3] = some y1) : ∃ (vk vn : Int) (vt : ByteArray), a1 = .int .i64 vk ∧ a2 = .int .i64 vn ∧ a3 = .string vt ∧ vt.size ≤ maxLen := by
  have ci : Try.prog.cellsOf 3 = 1 := by kernel_rfl
  have cs1 : Try.prog.cellsOf 9 = 1 := by kernel_rfl
  obtain ⟨zs, n', rfl, _, _, hzl, hg⟩ := DataW.trod_struct Try.underlying41 h1
  obtain ⟨z0, z1, z2, rfl⟩ := cut3 zs hzl
  have g0 : DataW.trod enc Try.prog w base sp hd n' 3 (([a1, a2, a3].drop 0).take (Try.prog.cellsOf 3)) = some z0 := hg 0 _ rfl
  have g1 : DataW.trod enc Try.prog w base sp hd n' 3 (([a1, a2, a3].drop 1).take (Try.prog.cellsOf 3)) = some z1 := hg 1 _ rfl
  have g2 : DataW.trod enc Try.prog w base sp hd n' 9 (([a1, a2, a3].drop 2).take (Try.prog.cellsOf 9)) = some z2 := hg 2 _ rfl
  rw [ci] at g0 g1
  rw [cs1] at g2
  replace g0 : DataW.trod enc Try.prog w base sp hd n' 3 [a1] = some z0 := g0
  replace g1 : DataW.trod enc Try.prog w base sp hd n' 3 [a2] = some z1 := g1
  replace g2 : DataW.trod enc Try.prog w base sp hd n' 9 [a3] = some z2 := g2
  obtain ⟨vk, f0, _, _⟩ := DataW.trod_int Try.underlying3 g0
  obtain ⟨vn, f1, _, _⟩ := DataW.trod_int Try.underlying3 g1
  obtain ⟨vt, f2, _, hvt⟩ := DataW.trod_string Try.underlying9 g2
  simp only [List.cons.injEq, and_true] at f0 f1 f2
  exact ⟨vk, vn, vt, f0, f1, f2, hvt⟩

theorem open_cmd {H : Type} {enc : TypeId × Value → H} {w : World} {base : Nat} {sp : Nat → Bool} {hd : Bool} (fuel : Nat) (cs : List Value) (x : DataW H × List MemPlace)
    (h : DataW.trod enc Try.prog w base sp hd fuel 43 cs = some x) : ∃ (k : Int) (nm : ByteArray) (vk vn : Int) (vt : ByteArray), cs = [.int .i64 k, .string nm, .int .i64 vk, .int .i64 vn, .string vt] ∧ nm.size ≤ maxLen ∧ vt.size ≤ maxLen := by
  have c5 : Try.prog.cellsOf 43 = 5 := by kernel_rfl
  have ci : Try.prog.cellsOf 3 = 1 := by kernel_rfl
  have cs1 : Try.prog.cellsOf 9 = 1 := by kernel_rfl
  have cv : Try.prog.cellsOf 41 = 3 := by kernel_rfl
  obtain ⟨xs, n, rfl, _, hlen, hxl, hf⟩ := DataW.trod_struct Try.underlying43 h
  rw [c5] at hlen
  obtain ⟨a0, a1, a2, a3, a4, rfl⟩ := cut5 cs hlen
  obtain ⟨y0, y1, y2, rfl⟩ := cut3 xs hxl
  have h0 : DataW.trod enc Try.prog w base sp hd n 3 (([a0, a1, a2, a3, a4].drop 0).take (Try.prog.cellsOf 3)) = some y0 := hf 0 _ rfl
  have h1 : DataW.trod enc Try.prog w base sp hd n 9 (([a0, a1, a2, a3, a4].drop 1).take (Try.prog.cellsOf 9)) = some y1 := hf 1 _ rfl
  have h2 : DataW.trod enc Try.prog w base sp hd n 41 (([a0, a1, a2, a3, a4].drop 2).take (Try.prog.cellsOf 41)) = some y2 := hf 2 _ rfl
  rw [ci] at h0
  rw [cs1] at h1
  rw [cv] at h2
  replace h0 : DataW.trod enc Try.prog w base sp hd n 3 [a0] = some y0 := h0
  replace h1 : DataW.trod enc Try.prog w base sp hd n 9 [a1] = some y1 := h1
  replace h2 : DataW.trod enc Try.prog w base sp hd n 41 [a2, a3, a4] = some y2 := h2
  obtain ⟨k, e0, _, _⟩ := DataW.trod_int Try.underlying3 h0
  obtain ⟨nm, e1, _, hnm⟩ := DataW.trod_string Try.underlying9 h1
  obtain ⟨vk, vn, vt, rfl, rfl, rfl, hvt⟩ := open_value n _ _ _ _ h2
  simp only [List.cons.injEq, and_true] at e0 e1
  subst e0 e1
  exact ⟨k, nm, vk, vn, vt, rfl, hnm, hvt⟩

theorem open_came {H : Type} {enc : TypeId × Value → H} {w : World} {base : Nat} {sp : Nat → Bool} {hd : Bool} (fuel : Nat) (cs : List Value) (x : DataW H × List MemPlace)
    (h : DataW.trod enc Try.prog w base sp hd fuel 45 cs = some x) : ∃ (k p : Int) (nm : ByteArray) (o : Bool) (vk vn : Int) (vt : ByteArray), cs = [.int .i64 k, .int .i64 p, .string nm, .bool o, .int .i64 vk, .int .i64 vn, .string vt] ∧ nm.size ≤ maxLen ∧ vt.size ≤ maxLen := by
  have c7 : Try.prog.cellsOf 45 = 7 := by kernel_rfl
  have ci : Try.prog.cellsOf 3 = 1 := by kernel_rfl
  have cb : Try.prog.cellsOf 4 = 1 := by kernel_rfl
  have cs1 : Try.prog.cellsOf 9 = 1 := by kernel_rfl
  have cv : Try.prog.cellsOf 41 = 3 := by kernel_rfl
  obtain ⟨xs, n, rfl, _, hlen, hxl, hf⟩ := DataW.trod_struct Try.underlying45 h
  rw [c7] at hlen
  obtain ⟨a0, a1, a2, a3, a4, a5, a6, rfl⟩ := cut7 cs hlen
  obtain ⟨y0, y1, y2, y3, y4, rfl⟩ := cut5 xs hxl
  have h0 : DataW.trod enc Try.prog w base sp hd n 3 (([a0, a1, a2, a3, a4, a5, a6].drop 0).take (Try.prog.cellsOf 3)) = some y0 := hf 0 _ rfl
  have h1 : DataW.trod enc Try.prog w base sp hd n 3 (([a0, a1, a2, a3, a4, a5, a6].drop 1).take (Try.prog.cellsOf 3)) = some y1 := hf 1 _ rfl
  have h2 : DataW.trod enc Try.prog w base sp hd n 9 (([a0, a1, a2, a3, a4, a5, a6].drop 2).take (Try.prog.cellsOf 9)) = some y2 := hf 2 _ rfl
  have h3 : DataW.trod enc Try.prog w base sp hd n 4 (([a0, a1, a2, a3, a4, a5, a6].drop 3).take (Try.prog.cellsOf 4)) = some y3 := hf 3 _ rfl
  have h4 : DataW.trod enc Try.prog w base sp hd n 41 (([a0, a1, a2, a3, a4, a5, a6].drop 4).take (Try.prog.cellsOf 41)) = some y4 := hf 4 _ rfl
  rw [ci] at h0 h1
  rw [cs1] at h2
  rw [cb] at h3
  rw [cv] at h4
  replace h0 : DataW.trod enc Try.prog w base sp hd n 3 [a0] = some y0 := h0
  replace h1 : DataW.trod enc Try.prog w base sp hd n 3 [a1] = some y1 := h1
  replace h2 : DataW.trod enc Try.prog w base sp hd n 9 [a2] = some y2 := h2
  replace h3 : DataW.trod enc Try.prog w base sp hd n 4 [a3] = some y3 := h3
  replace h4 : DataW.trod enc Try.prog w base sp hd n 41 [a4, a5, a6] = some y4 := h4
  obtain ⟨k, e0, _, _⟩ := DataW.trod_int Try.underlying3 h0
  obtain ⟨p, e1, _, _⟩ := DataW.trod_int Try.underlying3 h1
  obtain ⟨nm, e2, _, hnm⟩ := DataW.trod_string Try.underlying9 h2
  obtain ⟨o, e3, _⟩ := DataW.trod_bool Try.underlying4 h3
  obtain ⟨vk, vn, vt, rfl, rfl, rfl, hvt⟩ := open_value n _ _ _ _ h4
  simp only [List.cons.injEq, and_true] at e0 e1 e2 e3
  subst e0 e1 e2 e3
  exact ⟨k, p, nm, o, vk, vn, vt, rfl, hnm, hvt⟩
end Go.Proofs.Ytobeecopkfgplaa

/- A datum of events, opened. -/
namespace Go.Proofs.Ytobeecopkfgplaa
open Go.RowKit Go.ChangeShapes
set_option linter.unusedVariables false
theorem cut17 {α : Type} (l : List α) (h : l.length = 17) : ∃ a0 a1 a2 a3 a4 a5 a6 a7 a8 a9 a10 a11 a12 a13 a14 a15 a16, l = [a0, a1, a2, a3, a4, a5, a6, a7, a8, a9, a10, a11, a12, a13, a14, a15, a16] := by
  match l, h with
  | [a0, a1, a2, a3, a4, a5, a6, a7, a8, a9, a10, a11, a12, a13, a14, a15, a16], _ => exact ⟨a0, a1, a2, a3, a4, a5, a6, a7, a8, a9, a10, a11, a12, a13, a14, a15, a16, rfl⟩
theorem pick_ev {α : Type} {P : Nat → α → Prop} : ∀ (n : Nat), (∀ i, i < n → ∃ x, P i x) → ∃ l : List α, l.length = n ∧ ∀ i x, l[i]? = some x → P i x
  | 0, _ => ⟨[], rfl, fun i x h => by simp at h⟩
  | n + 1, h => by
    obtain ⟨l, hl, hp⟩ := pick_ev n (fun i hi => h i (by omega))
    obtain ⟨x, hx⟩ := h n (by omega)
    refine ⟨l ++ [x], by simp [hl], fun i y hy => ?_⟩
    by_cases hi : i < n
    · rw [List.getElem?_append_left (by omega)] at hy
      exact hp i y hy
    · have : i = n := by
        apply Classical.byContradiction
        intro hn
        rw [List.getElem?_eq_none (by simp; omega)] at hy
        cases hy
      subst this
      rw [List.getElem?_append_right (by omega), hl, Nat.sub_self] at hy
      simp at hy
      subst hy
      exact hx
theorem add_flat (g off n : Nat) : (⟨g, off, none⟩ : Addr).add n = ⟨g, off + n, none⟩ := by
  unfold Addr.add
  split
  · next h => subst h; rfl
  · rfl
theorem cell_old {w : World} {g o : Nat} {v : Value} (h : w.cell? ⟨g, o, none⟩ = some v) : g < w.heap.size := by
  unfold World.cell? at h
  split at h
  · rename_i hq
    exact (Array.getElem?_eq_some_iff.1 hq).1
  · cases h
theorem spot_none {w : World} {a : Addr} {v : Value} (h : w.cell? a = some v) : a.spot = none := by
  unfold World.cell? at h
  split at h
  · split at h
    · cases h
    · rename_i hs
      cases hq : a.spot
      · rfl
      · rw [hq] at hs; simp at hs
  · cases h
theorem open_event {H : Type} {enc : TypeId × Value → H} {w : World} {base : Nat} {sp : Nat → Bool} {hd : Bool} (fuel : Nat) (cs : List Value) (x : DataW H × List MemPlace)
    (h : DataW.trod enc Try.prog w base sp hd fuel 47 cs = some x) : ∃ e : Ev, cs = evL e ∧ e.Wf := by
  have c17 : Try.prog.cellsOf 47 = 17 := by kernel_rfl
  have ci : Try.prog.cellsOf 3 = 1 := by kernel_rfl
  have cv : Try.prog.cellsOf 41 = 3 := by kernel_rfl
  have cm : Try.prog.cellsOf 43 = 5 := by kernel_rfl
  have ca : Try.prog.cellsOf 45 = 7 := by kernel_rfl
  obtain ⟨xs, n, rfl, _, hlen, hxl, hf⟩ := DataW.trod_struct Try.underlying47 h
  rw [c17] at hlen
  obtain ⟨a0, a1, a2, a3, a4, a5, a6, a7, a8, a9, a10, a11, a12, a13, a14, a15, a16, rfl⟩ := cut17 cs hlen
  obtain ⟨y0, y1, y2, y3, y4, rfl⟩ := cut5 xs hxl
  have h0 : DataW.trod enc Try.prog w base sp hd n 3 (([a0, a1, a2, a3, a4, a5, a6, a7, a8, a9, a10, a11, a12, a13, a14, a15, a16].drop 0).take (Try.prog.cellsOf 3)) = some y0 := hf 0 _ rfl
  have h1 : DataW.trod enc Try.prog w base sp hd n 41 (([a0, a1, a2, a3, a4, a5, a6, a7, a8, a9, a10, a11, a12, a13, a14, a15, a16].drop 1).take (Try.prog.cellsOf 41)) = some y1 := hf 1 _ rfl
  have h2 : DataW.trod enc Try.prog w base sp hd n 3 (([a0, a1, a2, a3, a4, a5, a6, a7, a8, a9, a10, a11, a12, a13, a14, a15, a16].drop 4).take (Try.prog.cellsOf 3)) = some y2 := hf 2 _ rfl
  have h3 : DataW.trod enc Try.prog w base sp hd n 43 (([a0, a1, a2, a3, a4, a5, a6, a7, a8, a9, a10, a11, a12, a13, a14, a15, a16].drop 5).take (Try.prog.cellsOf 43)) = some y3 := hf 3 _ rfl
  have h4 : DataW.trod enc Try.prog w base sp hd n 45 (([a0, a1, a2, a3, a4, a5, a6, a7, a8, a9, a10, a11, a12, a13, a14, a15, a16].drop 10).take (Try.prog.cellsOf 45)) = some y4 := hf 4 _ rfl
  rw [ci] at h0
  replace h0 : DataW.trod enc Try.prog w base sp hd n 3 [a0] = some y0 := h0
  rw [cv] at h1
  replace h1 : DataW.trod enc Try.prog w base sp hd n 41 [a1, a2, a3] = some y1 := h1
  rw [ci] at h2
  replace h2 : DataW.trod enc Try.prog w base sp hd n 3 [a4] = some y2 := h2
  rw [cm] at h3
  replace h3 : DataW.trod enc Try.prog w base sp hd n 43 [a5, a6, a7, a8, a9] = some y3 := h3
  rw [ca] at h4
  replace h4 : DataW.trod enc Try.prog w base sp hd n 45 [a10, a11, a12, a13, a14, a15, a16] = some y4 := h4
  obtain ⟨k, e0, _, _⟩ := DataW.trod_int Try.underlying3 h0
  obtain ⟨vk, vn, vt, rfl, rfl, rfl, hvt⟩ := open_value n _ _ _ _ h1
  obtain ⟨many, e2, _, _⟩ := DataW.trod_int Try.underlying3 h2
  obtain ⟨ck, cn, ak, an, ax, e3, hcn, hax⟩ := open_cmd n _ _ h3
  obtain ⟨ct, mp, mn, mo, wk, wn, wt, e4, hmn, hwt⟩ := open_came n _ _ h4
  simp only [List.cons.injEq, and_true] at e0 e2 e3 e4
  obtain ⟨rfl, rfl, rfl, rfl, rfl⟩ := e3
  obtain ⟨rfl, rfl, rfl, rfl, rfl, rfl, rfl⟩ := e4
  subst e0 e2
  exact ⟨⟨k, vk, vn, vt, many, ck, cn, ak, an, ax, ct, mp, mn, mo, wk, wn, wt⟩, rfl, hvt, hcn, hax, hmn, hwt⟩
theorem open_events {H : Type} {enc : TypeId × Value → H} {w : World} {base : Nat} {sp : Nat → Bool} {hd : Bool} (n : Nat) (cs : List Value) (x : DataW H × List MemPlace)
    (h : DataW.trod enc Try.prog w base sp hd n 22 cs = some x) : ∃ (l : List Ev) (v : Value), cs = [v] ∧ (∀ e ∈ l, e.Wf) ∧ EvRow w l v := by
  have c17 : Try.prog.cellsOf 47 = 17 := by kernel_rfl
  rcases DataW.trod_slice Try.underlying22 h with ⟨rfl, _⟩ | ⟨a, len, cap, elems, rest, m, rfl, rfl, _, hb, hl, hm, hlen, hel, _, _⟩
  · exact ⟨[], _, rfl, by simp, none, 0, rfl, Nat.le_refl _, by unfold maxLen; omega, fun h => by simp at h⟩
  · rw [c17] at hel
    have hone : ∀ i, i < len → ∃ e : Ev, e.Wf ∧ ∃ cs', w.cells? base (a.add (i * 17)) 17 = some cs' ∧ cs' = evL e := by
      intro i hi
      have h1 := hel i hi
      rw [List.getElem?_eq_getElem (by omega)] at h1
      obtain ⟨cs', hc, ht⟩ := Option.bind_eq_some_iff.1 h1
      obtain ⟨e, hx, hw⟩ := open_event m cs' _ ht
      exact ⟨e, hw, cs', hc, hx⟩
    obtain ⟨l, hll, hlp⟩ := pick_ev len hone
    refine ⟨l, _, rfl, fun e he => ?_, some a, cap, by rw [hll], by rw [hll]; exact hl, hm, fun hpos => ?_⟩
    · obtain ⟨i, hi⟩ := List.mem_iff_getElem?.1 he
      exact (hlp i e hi).1
    · rw [hll] at hpos
      have hspot : a.spot = none := by
        obtain ⟨e, _, cs', hc, hx⟩ := hone 0 hpos
        have h6 := (World.cells?_some hc).2.2 0 (by omega)
        rw [hx] at h6
        have := spot_none h6
        simpa [Addr.add] using this
      obtain ⟨g, off, spot⟩ := a
      simp only at hspot
      subst hspot
      have hcells : EvsAt w g off l := by
        intro i e hk j v hv
        obtain ⟨_, cs', hc, he⟩ := hlp i e hk
        subst he
        have hj : j < 17 := by
          have := (List.getElem?_eq_some_iff.1 hv).1
          simpa using this
        have h6 := (World.cells?_some hc).2.2 j hj
        rw [add_flat, add_flat] at h6
        rw [h6]
        exact hv
      refine ⟨g, off, rfl, ?_, hcells⟩
      obtain ⟨e, he⟩ : ∃ e, l[0]? = some e := ⟨l[0]'(by omega), List.getElem?_eq_getElem (by omega)⟩
      exact cell_old (hcells 0 e he 0 _ rfl)
end Go.Proofs.Ytobeecopkfgplaa

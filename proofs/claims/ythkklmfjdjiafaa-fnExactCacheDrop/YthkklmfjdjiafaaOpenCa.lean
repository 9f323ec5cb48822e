/- A datum of a cache, opened. -/
import Derived.Test.YthkklmfjdjiafaaCaI
import Derived.Test.YthkklmfjdjiafaaOpenV
namespace Go.Proofs.Ythkklmfjdjiafaa
open Go.RowKit Go.ChangeShapes
set_option linter.unusedVariables false
theorem pick_list {α : Type} {P : Nat → α → Prop} : ∀ (n : Nat), (∀ i, i < n → ∃ x, P i x) → ∃ l : List α, l.length = n ∧ ∀ i x, l[i]? = some x → P i x
  | 0, _ => ⟨[], rfl, fun i x h => by simp at h⟩
  | n + 1, h => by
    obtain ⟨l, hl, hp⟩ := pick_list n (fun i hi => h i (by omega))
    obtain ⟨x, hx⟩ := h n (by omega)
    refine ⟨l ++ [x], by simp [hl], fun i y hy => ?_⟩
    by_cases hi : i < n
    · rw [List.getElem?_append_left (by omega)] at hy
      exact hp i y hy
    · have : i = n := by
        apply Classical.byContradiction
        intro hn
        rw [List.getElem?_eq_none (by simp; omega)] at hy
        cases hy
      subst this
      rw [List.getElem?_append_right (by omega), hl, Nat.sub_self] at hy
      simp at hy
      subst hy
      exact hx
theorem add_plain (g off n : Nat) : (⟨g, off, none⟩ : Addr).add n = ⟨g, off + n, none⟩ := by
  unfold Addr.add
  split
  · next h => subst h; rfl
  · rfl
theorem cell_lt {w : World} {g off : Nat} {v : Value} (h : w.cell? ⟨g, off, none⟩ = some v) : g < w.heap.size := by
  apply Classical.byContradiction
  intro hn
  have : w.heap[g]? = none := Array.getElem?_eq_none (by omega)
  simp [World.cell?, this] at h

theorem cut2 {α : Type} (l : List α) (h : l.length = 2) : ∃ a b, l = [a, b] := by
  match l, h with
  | [a, b], _ => exact ⟨a, b, rfl⟩
theorem cut4 {α : Type} (l : List α) (h : l.length = 4) : ∃ a b c d, l = [a, b, c, d] := by
  match l, h with
  | [a, b, c, d], _ => exact ⟨a, b, c, d, rfl⟩
theorem cut6 {α : Type} (l : List α) (h : l.length = 6) : ∃ a b c d e f, l = [a, b, c, d, e, f] := by
  match l, h with
  | [a, b, c, d, e, f], _ => exact ⟨a, b, c, d, e, f, rfl⟩
theorem cut10 {α : Type} (l : List α) (h : l.length = 10) : ∃ a b c d e f g p q r, l = [a, b, c, d, e, f, g, p, q, r] := by
  match l, h with
  | [a, b, c, d, e, f, g, p, q, r], _ => exact ⟨a, b, c, d, e, f, g, p, q, r, rfl⟩
theorem open_cm {H : Type} {enc : TypeId × Value → H} {w : World} {base : Nat} {sp : Nat → Bool} {hd : Bool} (fuel : Nat) (cs : List Value) (x : DataW H × List MemPlace)
    (h : DataW.trod enc Try.prog w base sp hd fuel 104 cs = some x) : ∃ e : Cm, cs = cqL e ∧ e.Wf := by
  have c5 : Try.prog.cellsOf 104 = 5 := by kernel_rfl
  have ci : Try.prog.cellsOf 3 = 1 := by kernel_rfl
  have cs1 : Try.prog.cellsOf 9 = 1 := by kernel_rfl
  have cv : Try.prog.cellsOf 68 = 3 := by kernel_rfl
  obtain ⟨xs, n, rfl, _, hlen, hxl, hf⟩ := DataW.trod_struct Try.underlying104 h
  rw [c5] at hlen
  obtain ⟨a0, a1, a2, a3, a4, rfl⟩ := cut5 cs hlen
  obtain ⟨y0, y1, y2, rfl⟩ := cut3 xs hxl
  have h0 : DataW.trod enc Try.prog w base sp hd n 3 (([a0, a1, a2, a3, a4].drop 0).take (Try.prog.cellsOf 3)) = some y0 := hf 0 _ rfl
  have h1 : DataW.trod enc Try.prog w base sp hd n 9 (([a0, a1, a2, a3, a4].drop 1).take (Try.prog.cellsOf 9)) = some y1 := hf 1 _ rfl
  have h2 : DataW.trod enc Try.prog w base sp hd n 68 (([a0, a1, a2, a3, a4].drop 2).take (Try.prog.cellsOf 68)) = some y2 := hf 2 _ rfl
  rw [ci] at h0
  rw [cs1] at h1
  rw [cv] at h2
  replace h0 : DataW.trod enc Try.prog w base sp hd n 3 [a0] = some y0 := h0
  replace h1 : DataW.trod enc Try.prog w base sp hd n 9 [a1] = some y1 := h1
  replace h2 : DataW.trod enc Try.prog w base sp hd n 68 [a2, a3, a4] = some y2 := h2
  obtain ⟨k, e0, _, _⟩ := DataW.trod_int Try.underlying3 h0
  obtain ⟨nm, e1, _, hnm⟩ := DataW.trod_string Try.underlying9 h1
  obtain ⟨vk, vn, vt, rfl, rfl, rfl, hvt⟩ := open_value n _ _ _ _ h2
  simp only [List.cons.injEq, and_true] at e0 e1
  subst e0 e1
  exact ⟨⟨k, nm, vk, vn, vt⟩, rfl, hnm, hvt⟩

theorem open_pq {H : Type} {enc : TypeId × Value → H} {w : World} {base : Nat} {sp : Nat → Bool} {hd : Bool} (fuel : Nat) (cs : List Value) (x : DataW H × List MemPlace)
    (h : DataW.trod enc Try.prog w base sp hd fuel 107 cs = some x) : ∃ p : Pq, cs = pqL p ∧ p.Wf := by
  have c4 : Try.prog.cellsOf 107 = 4 := by kernel_rfl
  have ci : Try.prog.cellsOf 3 = 1 := by kernel_rfl
  have cs1 : Try.prog.cellsOf 9 = 1 := by kernel_rfl
  have cv : Try.prog.cellsOf 68 = 3 := by kernel_rfl
  obtain ⟨xs, n, rfl, _, hlen, hxl, hf⟩ := DataW.trod_struct Try.underlying107 h
  rw [c4] at hlen
  obtain ⟨a0, a1, a2, a3, rfl⟩ := cut4 cs hlen
  obtain ⟨y0, y1, rfl⟩ := cut2 xs hxl
  have h0 : DataW.trod enc Try.prog w base sp hd n 9 (([a0, a1, a2, a3].drop 0).take (Try.prog.cellsOf 9)) = some y0 := hf 0 _ rfl
  have h1 : DataW.trod enc Try.prog w base sp hd n 68 (([a0, a1, a2, a3].drop 1).take (Try.prog.cellsOf 68)) = some y1 := hf 1 _ rfl
  rw [cs1] at h0
  rw [cv] at h1
  replace h0 : DataW.trod enc Try.prog w base sp hd n 9 [a0] = some y0 := h0
  replace h1 : DataW.trod enc Try.prog w base sp hd n 68 [a1, a2, a3] = some y1 := h1
  obtain ⟨nm, e0, _, hnm⟩ := DataW.trod_string Try.underlying9 h0
  obtain ⟨zs, n', rfl, _, _, hzl, hg⟩ := DataW.trod_struct Try.underlying68 h1
  obtain ⟨z0, z1, z2, rfl⟩ := cut3 zs hzl
  have g0 : DataW.trod enc Try.prog w base sp hd n' 3 (([a1, a2, a3].drop 0).take (Try.prog.cellsOf 3)) = some z0 := hg 0 _ rfl
  have g1 : DataW.trod enc Try.prog w base sp hd n' 3 (([a1, a2, a3].drop 1).take (Try.prog.cellsOf 3)) = some z1 := hg 1 _ rfl
  have g2 : DataW.trod enc Try.prog w base sp hd n' 9 (([a1, a2, a3].drop 2).take (Try.prog.cellsOf 9)) = some z2 := hg 2 _ rfl
  rw [ci] at g0 g1
  rw [cs1] at g2
  replace g0 : DataW.trod enc Try.prog w base sp hd n' 3 [a1] = some z0 := g0
  replace g1 : DataW.trod enc Try.prog w base sp hd n' 3 [a2] = some z1 := g1
  replace g2 : DataW.trod enc Try.prog w base sp hd n' 9 [a3] = some z2 := g2
  obtain ⟨vk, f0, _, _⟩ := DataW.trod_int Try.underlying3 g0
  obtain ⟨vn, f1, _, _⟩ := DataW.trod_int Try.underlying3 g1
  obtain ⟨vt, f2, _, hvt⟩ := DataW.trod_string Try.underlying9 g2
  simp only [List.cons.injEq, and_true] at e0 f0 f1 f2
  subst e0 f0 f1 f2
  exact ⟨⟨nm, vk, vn, vt⟩, rfl, hnm, hvt⟩
/-- a datum of a row of parts -/
theorem open_row {α : Type} {T S : TypeId} {m : Nat} {f : α → List Value} {P : α → Prop} (hf : ∀ e, (f e).length = m) (hm0 : 0 < m) (hu : Try.prog.underlying S = some (.slice T)) (hc : Try.prog.cellsOf T = m) {H : Type} {enc : TypeId × Value → H} {w : World} {base : Nat} {sp : Nat → Bool} {hd : Bool}
    (hone : ∀ (k : Nat) (cs : List Value) (x : DataW H × List MemPlace), DataW.trod enc Try.prog w base sp hd k T cs = some x → ∃ e : α, cs = f e ∧ P e) (n : Nat)
    (cs : List Value) (x : DataW H × List MemPlace) (h : DataW.trod enc Try.prog w base sp hd n S cs = some x) : ∃ (l : List α) (v : Value), cs = [v] ∧ (∀ p ∈ l, P p) ∧ PRow m f w.heap.size w l v := by
  rcases DataW.trod_slice hu h with ⟨rfl, _⟩ | ⟨a, len, cap, elems, rest, k, rfl, rfl, _, hb, hl, hm, hlen, hel, _, _⟩
  · exact ⟨[], _, rfl, (fun p hp => by cases hp), none, 0, rfl, Nat.le_refl _, by unfold maxLen; omega, fun h => by simp at h⟩
  · rw [hc] at hel
    have h1 : ∀ i, i < len → ∃ p : α, ∃ cs', w.cells? base (a.add (i * m)) m = some cs' ∧ cs' = f p ∧ P p := by
      intro i hi
      have h1 := hel i hi
      rw [List.getElem?_eq_getElem (by omega)] at h1
      obtain ⟨cs', hc, ht⟩ := Option.bind_eq_some_iff.1 h1
      obtain ⟨p, hx, hw⟩ := hone k cs' _ ht
      exact ⟨p, cs', hc, hx, hw⟩
    obtain ⟨l, hll, hlp⟩ := pick_list len h1
    refine ⟨l, _, rfl, fun p hp => ?_, some a, cap, ?_, ?_, hm, fun hpos => ?_⟩
    · obtain ⟨i, hi⟩ := List.mem_iff_getElem?.1 hp
      obtain ⟨_, _, _, hw⟩ := hlp i p hi
      exact hw
    · rw [hll]
    · rw [hll]; exact hl
    · rw [hll] at hpos
      have hspot : a.spot = none := by
        obtain ⟨p, cs', hc, hx, _⟩ := h1 0 hpos
        have h4 := (World.cells?_some hc).2.2 0 hm0
        rw [hx, List.getElem?_eq_getElem (by rw [hf]; exact hm0)] at h4
        have := World.cell?_spot h4
        simpa [Addr.add] using this
      obtain ⟨g, off, spot⟩ := a
      simp only at hspot
      subst hspot
      have hcells : ∀ i p, l[i]? = some p → ∀ j u, (f p)[j]? = some u → w.cell? ⟨g, off + i * m + j, none⟩ = some u := by
        intro i p hk j u hu
        obtain ⟨cs', hc, he, _⟩ := hlp i _ hk
        subst he
        have h6 := (World.cells?_some hc).2.2 j (by rw [← hf p]; exact (List.getElem?_eq_some_iff.1 hu).1)
        rw [add_plain, add_plain] at h6
        exact h6.trans hu
      refine ⟨g, off, rfl, ?_, hcells⟩
      obtain ⟨p, hp⟩ : ∃ p, l[0]? = some p := ⟨l[0]'(by omega), List.getElem?_eq_getElem (by omega)⟩
      have h7 := hcells 0 p hp 0 _ (List.getElem?_eq_getElem (by rw [hf]; exact hm0))
      exact cell_lt h7
theorem open_out {H : Type} {enc : TypeId × Value → H} {w : World} {base : Nat} {sp : Nat → Bool} {hd : Bool} (fuel : Nat) (a2 a3 a4 a5 a6 a7 a8 a9 : Value) (x : DataW H × List MemPlace)
    (h : DataW.trod enc Try.prog w base sp hd fuel 71 [a2, a3, a4, a5, a6, a7, a8, a9] = some x) : ∃ (cs : List Cm) (vc : Value) (st vk vn : Int) (vt on : ByteArray) (ps : List Pq) (vp : Value) (fu : Int), [a2, a3, a4, a5, a6, a7, a8, a9] = [vc, .int .i64 st, .int .i64 vk, .int .i64 vn, .string vt, .string on, vp, .int .i64 fu] ∧ vt.size ≤ maxLen ∧ on.size ≤ maxLen ∧ (∀ p ∈ cs, p.Wf) ∧ (∀ p ∈ ps, p.Wf) ∧ PRow 5 cqL w.heap.size w cs vc ∧ PRow 4 pqL w.heap.size w ps vp := by
  have ci : Try.prog.cellsOf 3 = 1 := by kernel_rfl
  have cs1 : Try.prog.cellsOf 9 = 1 := by kernel_rfl
  have cv : Try.prog.cellsOf 68 = 3 := by kernel_rfl
  have cc : Try.prog.cellsOf 67 = 1 := by kernel_rfl
  have cp : Try.prog.cellsOf 69 = 1 := by kernel_rfl
  obtain ⟨xs, n, rfl, _, hlen, hxl, hf⟩ := DataW.trod_struct Try.underlying71 h
  obtain ⟨y0, y1, y2, y3, y4, y5, rfl⟩ := cut6 xs hxl
  have h0 : DataW.trod enc Try.prog w base sp hd n 67 (([a2, a3, a4, a5, a6, a7, a8, a9].drop 0).take (Try.prog.cellsOf 67)) = some y0 := hf 0 _ rfl
  have h1 : DataW.trod enc Try.prog w base sp hd n 3 (([a2, a3, a4, a5, a6, a7, a8, a9].drop 1).take (Try.prog.cellsOf 3)) = some y1 := hf 1 _ rfl
  have h2 : DataW.trod enc Try.prog w base sp hd n 68 (([a2, a3, a4, a5, a6, a7, a8, a9].drop 2).take (Try.prog.cellsOf 68)) = some y2 := hf 2 _ rfl
  have h3 : DataW.trod enc Try.prog w base sp hd n 9 (([a2, a3, a4, a5, a6, a7, a8, a9].drop 5).take (Try.prog.cellsOf 9)) = some y3 := hf 3 _ rfl
  have h4 : DataW.trod enc Try.prog w base sp hd n 69 (([a2, a3, a4, a5, a6, a7, a8, a9].drop 6).take (Try.prog.cellsOf 69)) = some y4 := hf 4 _ rfl
  have h5 : DataW.trod enc Try.prog w base sp hd n 3 (([a2, a3, a4, a5, a6, a7, a8, a9].drop 7).take (Try.prog.cellsOf 3)) = some y5 := hf 5 _ rfl
  rw [cc] at h0
  rw [ci] at h1 h5
  rw [cv] at h2
  rw [cs1] at h3
  rw [cp] at h4
  replace h0 : DataW.trod enc Try.prog w base sp hd n 67 [a2] = some y0 := h0
  replace h1 : DataW.trod enc Try.prog w base sp hd n 3 [a3] = some y1 := h1
  replace h2 : DataW.trod enc Try.prog w base sp hd n 68 [a4, a5, a6] = some y2 := h2
  replace h3 : DataW.trod enc Try.prog w base sp hd n 9 [a7] = some y3 := h3
  replace h4 : DataW.trod enc Try.prog w base sp hd n 69 [a8] = some y4 := h4
  replace h5 : DataW.trod enc Try.prog w base sp hd n 3 [a9] = some y5 := h5
  obtain ⟨cs, vc, e0, w0, r0⟩ := open_row (m := 5) (f := cqL) (P := Cm.Wf) (fun _ => rfl) (by decide) Try.underlying67 (by kernel_rfl) (fun k cs x h => open_cm k cs x h) n _ _ h0
  obtain ⟨st, e1, _, _⟩ := DataW.trod_int Try.underlying3 h1
  obtain ⟨vk, vn, vt, rfl, rfl, rfl, hvt⟩ := open_value n _ _ _ _ h2
  obtain ⟨on, e3, _, hon⟩ := DataW.trod_string Try.underlying9 h3
  obtain ⟨ps, vp, e4, w4, r4⟩ := open_row (m := 4) (f := pqL) (P := Pq.Wf) (fun _ => rfl) (by decide) Try.underlying69 (by kernel_rfl) (fun k cs x h => open_pq k cs x h) n _ _ h4
  obtain ⟨fu, e5, _, _⟩ := DataW.trod_int Try.underlying3 h5
  simp only [List.cons.injEq, and_true] at e0 e1 e3 e4 e5
  subst e0 e1 e3 e4 e5
  exact ⟨cs, _, st, vk, vn, vt, on, ps, _, fu, rfl, hvt, hon, w0, w4, r0, r4⟩
abbrev iqM (q : It × Value × Value) : List Value := itL q.1 q.2.1 q.2.2
theorem open_item {H : Type} {enc : TypeId × Value → H} {w : World} {base : Nat} {sp : Nat → Bool} {hd : Bool} (fuel : Nat) (cs : List Value) (x : DataW H × List MemPlace)
    (h : DataW.trod enc Try.prog w base sp hd fuel 73 cs = some x) : ∃ q : It × Value × Value, cs = iqM q ∧ (q.1.Wf ∧ Two w.heap.size w q.1 q.2.1 q.2.2) := by
  have c10 : Try.prog.cellsOf 73 = 10 := by kernel_rfl
  have ci : Try.prog.cellsOf 3 = 1 := by kernel_rfl
  have co : Try.prog.cellsOf 71 = 8 := by kernel_rfl
  obtain ⟨xs, n, rfl, _, hlen, hxl, hf⟩ := DataW.trod_struct Try.underlying73 h
  rw [c10] at hlen
  obtain ⟨a0, a1, a2, a3, a4, a5, a6, a7, a8, a9, rfl⟩ := cut10 cs hlen
  obtain ⟨y0, y1, y2, rfl⟩ := cut3 xs hxl
  have h0 : DataW.trod enc Try.prog w base sp hd n 3 (([a0, a1, a2, a3, a4, a5, a6, a7, a8, a9].drop 0).take (Try.prog.cellsOf 3)) = some y0 := hf 0 _ rfl
  have h1 : DataW.trod enc Try.prog w base sp hd n 3 (([a0, a1, a2, a3, a4, a5, a6, a7, a8, a9].drop 1).take (Try.prog.cellsOf 3)) = some y1 := hf 1 _ rfl
  have h2 : DataW.trod enc Try.prog w base sp hd n 71 (([a0, a1, a2, a3, a4, a5, a6, a7, a8, a9].drop 2).take (Try.prog.cellsOf 71)) = some y2 := hf 2 _ rfl
  rw [ci] at h0 h1
  rw [co] at h2
  replace h0 : DataW.trod enc Try.prog w base sp hd n 3 [a0] = some y0 := h0
  replace h1 : DataW.trod enc Try.prog w base sp hd n 3 [a1] = some y1 := h1
  replace h2 : DataW.trod enc Try.prog w base sp hd n 71 [a2, a3, a4, a5, a6, a7, a8, a9] = some y2 := h2
  obtain ⟨run, e0, _, _⟩ := DataW.trod_int Try.underlying3 h0
  obtain ⟨many, e1, _, _⟩ := DataW.trod_int Try.underlying3 h1
  obtain ⟨cs, vc, st, vk, vn, vt, on, ps, vp, fu, e2, hvt, hon, w0, w4, r0, r4⟩ := open_out n _ _ _ _ _ _ _ _ _ h2
  simp only [List.cons.injEq, and_true] at e0 e1 e2
  obtain ⟨rfl, rfl, rfl, rfl, rfl, rfl, rfl, rfl⟩ := e2
  subst e0 e1
  exact ⟨(⟨run, many, cs, st, vk, vn, vt, on, ps, fu⟩, _, _), rfl, ⟨hvt, hon, w0, w4⟩, r0, r4⟩
theorem open_cache {H : Type} {enc : TypeId × Value → H} {w : World} {base : Nat} {sp : Nat → Bool} {hd : Bool} (fuel : Nat) (cs : List Value) (x : DataW H × List MemPlace)
    (h : DataW.trod enc Try.prog w base sp hd fuel 29 cs = some x) : ∃ (l : List It) (v : Value), cs = [v] ∧ (∀ p ∈ l, p.Wf) ∧ IRow w.heap.size w l v := by
  have c1 : Try.prog.cellsOf 29 = 1 := by kernel_rfl
  have cl : Try.prog.cellsOf 27 = 1 := by kernel_rfl
  obtain ⟨xs, n, rfl, _, hlen, hxl, hf⟩ := DataW.trod_struct Try.underlying29 h
  rw [c1] at hlen
  obtain ⟨a0, rfl⟩ := List.length_eq_one_iff.1 hlen
  obtain ⟨y0, rfl⟩ := List.length_eq_one_iff.1 hxl
  have h0 : DataW.trod enc Try.prog w base sp hd n 27 (([a0].drop 0).take (Try.prog.cellsOf 27)) = some y0 := hf 0 _ rfl
  rw [cl] at h0
  replace h0 : DataW.trod enc Try.prog w base sp hd n 27 [a0] = some y0 := h0
  obtain ⟨L, v, e0, hw, hr⟩ := open_row (m := 10) (f := iqM) (P := fun q => q.1.Wf ∧ Two w.heap.size w q.1 q.2.1 q.2.2) (fun _ => rfl) (by decide) Try.underlying27 (by kernel_rfl) (fun k cs x h => open_item k cs x h) n _ _ h0
  simp only [List.cons.injEq, and_true] at e0
  subst e0
  obtain ⟨ad, cap, hv, h1, h2, hx⟩ := hr
  refine ⟨L.map (·.1), _, rfl, fun p hp => ?_, ad, cap, by rw [List.length_map]; exact hv, by rw [List.length_map]; exact h1, h2, fun hl => ?_⟩
  · obtain ⟨q, hq, rfl⟩ := List.mem_map.1 hp
    exact (hw q hq).1
  · rw [List.length_map] at hl
    obtain ⟨g, off, ha, hg, hs⟩ := hx hl
    refine ⟨g, off, ha, hg, fun i it he => ?_⟩
    rw [List.getElem?_map] at he
    cases hq : L[i]? with
    | none => rw [hq] at he; cases he
    | some q =>
      rw [hq] at he
      obtain rfl : q.1 = it := by simpa using he
      exact ⟨q.2.1, q.2.2, fun j u hu => hs i q hq j u hu, (hw q (List.mem_of_getElem? hq)).2⟩
end Go.Proofs.Ythkklmfjdjiafaa

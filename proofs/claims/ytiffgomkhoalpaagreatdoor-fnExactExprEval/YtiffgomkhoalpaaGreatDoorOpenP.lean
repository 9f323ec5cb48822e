/- Names with values, opened. -/
import Derived.Test.YtiffgomkhoalpaaGreatDoorOpenX
import Derived.Test.YtiffgomkhoalpaaGreatDoorPlEv2
namespace Go.Proofs.YtiffgomkhoalpaaGreatDoor
open Go.RowKit Go.ChangeShapes
set_option linter.unusedVariables false
theorem list2 {α : Type} (l : List α) (h : l.length = 2) : ∃ a b, l = [a, b] := by
  match l, h with
  | [a, b], _ => exact ⟨a, b, rfl⟩
theorem open_pair {H : Type} {enc : TypeId × Value → H} {w : World} {base : Nat} {sp : Nat → Bool} {hd : Bool} (fuel : Nat) (cs : List Value) (x : DataW H × List MemPlace)
    (h : DataW.trod enc Tryz.prog w base sp hd fuel 59 cs = some x) : ∃ p : Pl.Pr, cs = prL p ∧ PrWf p := by
  have c4 : Tryz.prog.cellsOf 59 = 4 := by kernel_rfl
  have ci : Tryz.prog.cellsOf 3 = 1 := by kernel_rfl
  have cs1 : Tryz.prog.cellsOf 9 = 1 := by kernel_rfl
  have cv : Tryz.prog.cellsOf 23 = 3 := by kernel_rfl
  obtain ⟨xs, n, rfl, _, hlen, hxl, hf⟩ := DataW.trod_struct Tryz.underlying59 h
  rw [c4] at hlen
  obtain ⟨a0, a1, a2, a3, rfl⟩ := list4 cs hlen
  obtain ⟨y0, y1, rfl⟩ := list2 xs hxl
  have h0 : DataW.trod enc Tryz.prog w base sp hd n 9 (([a0, a1, a2, a3].drop 0).take (Tryz.prog.cellsOf 9)) = some y0 := hf 0 _ rfl
  have h1 : DataW.trod enc Tryz.prog w base sp hd n 23 (([a0, a1, a2, a3].drop 1).take (Tryz.prog.cellsOf 23)) = some y1 := hf 1 _ rfl
  rw [cs1] at h0
  rw [cv] at h1
  replace h0 : DataW.trod enc Tryz.prog w base sp hd n 9 [a0] = some y0 := h0
  replace h1 : DataW.trod enc Tryz.prog w base sp hd n 23 [a1, a2, a3] = some y1 := h1
  obtain ⟨nm, e0, _, hnm⟩ := DataW.trod_string Tryz.underlying9 h0
  obtain ⟨zs, n', rfl, _, _, hzl, hg⟩ := DataW.trod_struct Tryz.underlying23 h1
  obtain ⟨z0, z1, z2, rfl⟩ := list3 zs hzl
  have g0 : DataW.trod enc Tryz.prog w base sp hd n' 3 (([a1, a2, a3].drop 0).take (Tryz.prog.cellsOf 3)) = some z0 := hg 0 _ rfl
  have g1 : DataW.trod enc Tryz.prog w base sp hd n' 3 (([a1, a2, a3].drop 1).take (Tryz.prog.cellsOf 3)) = some z1 := hg 1 _ rfl
  have g2 : DataW.trod enc Tryz.prog w base sp hd n' 9 (([a1, a2, a3].drop 2).take (Tryz.prog.cellsOf 9)) = some z2 := hg 2 _ rfl
  rw [ci] at g0 g1
  rw [cs1] at g2
  replace g0 : DataW.trod enc Tryz.prog w base sp hd n' 3 [a1] = some z0 := g0
  replace g1 : DataW.trod enc Tryz.prog w base sp hd n' 3 [a2] = some z1 := g1
  replace g2 : DataW.trod enc Tryz.prog w base sp hd n' 9 [a3] = some z2 := g2
  obtain ⟨vk, f0, _, _⟩ := DataW.trod_int Tryz.underlying3 g0
  obtain ⟨vn, f1, _, _⟩ := DataW.trod_int Tryz.underlying3 g1
  obtain ⟨vt, f2, _, hvt⟩ := DataW.trod_string Tryz.underlying9 g2
  simp only [List.cons.injEq, and_true] at e0 f0 f1 f2
  subst e0 f0 f1 f2
  exact ⟨⟨nm, vk, vn, vt⟩, rfl, hnm, hvt⟩
theorem open_pairs {H : Type} {enc : TypeId × Value → H} {w : World} {base : Nat} {sp : Nat → Bool} {hd : Bool} (n : Nat)
    (cs : List Value) (x : DataW H × List MemPlace) (h : DataW.trod enc Tryz.prog w base sp hd n 27 cs = some x) : ∃ (l : List Pl.Pr) (v : Value), cs = [v] ∧ (∀ p ∈ l, PrWf p) ∧ PrRow w l v := by
  have c4 : Tryz.prog.cellsOf 59 = 4 := by kernel_rfl
  rcases DataW.trod_slice Tryz.underlying27 h with ⟨rfl, _⟩ | ⟨a, len, cap, elems, rest, m, rfl, rfl, _, hb, hl, hm, hlen, hel, _, _⟩
  · exact ⟨[], _, rfl, (fun p hp => by cases hp), none, 0, rfl, Nat.le_refl _, by unfold maxLen; omega, fun h => by simp at h⟩
  · rw [c4] at hel
    have hone : ∀ i, i < len → ∃ p : Pl.Pr, ∃ cs', w.cells? base (a.add (i * 4)) 4 = some cs' ∧ cs' = prL p ∧ PrWf p := by
      intro i hi
      have h1 := hel i hi
      rw [List.getElem?_eq_getElem (by omega)] at h1
      obtain ⟨cs', hc, ht⟩ := Option.bind_eq_some_iff.1 h1
      obtain ⟨p, hx, hw⟩ := open_pair m cs' _ ht
      exact ⟨p, cs', hc, hx, hw⟩
    obtain ⟨l, hll, hlp⟩ := pick_list len hone
    refine ⟨l, _, rfl, fun p hp => ?_, some a, cap, ?_, ?_, hm, fun hpos => ?_⟩
    · obtain ⟨i, hi⟩ := List.mem_iff_getElem?.1 hp
      obtain ⟨_, _, _, hw⟩ := hlp i p hi
      exact hw
    · rw [hll]
    · rw [hll]; exact hl
    · rw [hll] at hpos
      have hspot : a.spot = none := by
        obtain ⟨p, cs', hc, hx, _⟩ := hone 0 hpos
        have h4 := (World.cells?_some hc).2.2 0 (by omega)
        rw [hx] at h4
        have := World.cell?_spot h4
        simpa [Addr.add] using this
      obtain ⟨g, off, spot⟩ := a
      simp only at hspot
      subst hspot
      have hcells : ∀ i p, l[i]? = some p → PrAt w g (off + i * 4) p := by
        intro i p hk
        obtain ⟨cs', hc, he, _⟩ := hlp i _ hk
        subst he
        have h6 := (World.cells?_some hc).2.2
        rw [add_plain] at h6
        have g0 := h6 0 (by omega)
        have g1 := h6 1 (by omega)
        have g2 := h6 2 (by omega)
        have g3 := h6 3 (by omega)
        rw [add_plain] at g0 g1 g2 g3
        exact ⟨g0, g1, g2, g3⟩
      refine ⟨g, off, rfl, ?_, hcells⟩
      obtain ⟨p, hp⟩ : ∃ p, l[0]? = some p := ⟨l[0]'(by omega), List.getElem?_eq_getElem (by omega)⟩
      exact cell_lt (hcells 0 p hp).1
end Go.Proofs.YtiffgomkhoalpaaGreatDoor

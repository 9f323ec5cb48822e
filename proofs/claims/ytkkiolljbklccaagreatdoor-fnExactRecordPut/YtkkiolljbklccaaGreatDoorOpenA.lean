/- A datum of an act, opened. -/
import Derived.Test.YtkkiolljbklccaaGreatDoorOpenV
namespace Go.Proofs.YtkkiolljbklccaaGreatDoor
open Go.RowKit Go.ChangeShapes
set_option linter.unusedVariables false

theorem cut9 {α : Type} (l : List α) (h : l.length = 9) : ∃ a b c d e f g i j, l = [a, b, c, d, e, f, g, i, j] := by
  match l, h with
  | [a, b, c, d, e, f, g, i, j], _ => exact ⟨a, b, c, d, e, f, g, i, j, rfl⟩
theorem open_act {H : Type} {enc : TypeId × Value → H} {w : World} {base : Nat} {sp : Nat → Bool} {hd : Bool} (fuel : Nat) (cs : List Value) (x : DataW H × List MemPlace)
    (h : DataW.trod enc Tryz.prog w base sp hd fuel 25 cs = some x) : ∃ (k r p : Int) (nm : ByteArray) (o : Bool) (vk vn : Int) (vt : ByteArray) (m : Int), cs = [.int .i64 k, .int .i64 r, .int .i64 p, .string nm, .bool o, .int .i64 vk, .int .i64 vn, .string vt, .int .i64 m] ∧ nm.size ≤ maxLen ∧ vt.size ≤ maxLen := by
  have c9 : Tryz.prog.cellsOf 25 = 9 := by kernel_rfl
  have ci : Tryz.prog.cellsOf 3 = 1 := by kernel_rfl
  have cb : Tryz.prog.cellsOf 4 = 1 := by kernel_rfl
  have cs1 : Tryz.prog.cellsOf 9 = 1 := by kernel_rfl
  have cv : Tryz.prog.cellsOf 23 = 3 := by kernel_rfl
  obtain ⟨xs, n, rfl, _, hlen, hxl, hf⟩ := DataW.trod_struct Tryz.underlying25 h
  rw [c9] at hlen
  obtain ⟨a0, a1, a2, a3, a4, a5, a6, a7, a8, rfl⟩ := cut9 cs hlen
  obtain ⟨y0, y1, y2, y3, y4, y5, y6, rfl⟩ := cut7 xs hxl
  have h0 : DataW.trod enc Tryz.prog w base sp hd n 3 (([a0, a1, a2, a3, a4, a5, a6, a7, a8].drop 0).take (Tryz.prog.cellsOf 3)) = some y0 := hf 0 _ rfl
  have h1 : DataW.trod enc Tryz.prog w base sp hd n 3 (([a0, a1, a2, a3, a4, a5, a6, a7, a8].drop 1).take (Tryz.prog.cellsOf 3)) = some y1 := hf 1 _ rfl
  have h2 : DataW.trod enc Tryz.prog w base sp hd n 3 (([a0, a1, a2, a3, a4, a5, a6, a7, a8].drop 2).take (Tryz.prog.cellsOf 3)) = some y2 := hf 2 _ rfl
  have h3 : DataW.trod enc Tryz.prog w base sp hd n 9 (([a0, a1, a2, a3, a4, a5, a6, a7, a8].drop 3).take (Tryz.prog.cellsOf 9)) = some y3 := hf 3 _ rfl
  have h4 : DataW.trod enc Tryz.prog w base sp hd n 4 (([a0, a1, a2, a3, a4, a5, a6, a7, a8].drop 4).take (Tryz.prog.cellsOf 4)) = some y4 := hf 4 _ rfl
  have h5 : DataW.trod enc Tryz.prog w base sp hd n 23 (([a0, a1, a2, a3, a4, a5, a6, a7, a8].drop 5).take (Tryz.prog.cellsOf 23)) = some y5 := hf 5 _ rfl
  have h6 : DataW.trod enc Tryz.prog w base sp hd n 3 (([a0, a1, a2, a3, a4, a5, a6, a7, a8].drop 8).take (Tryz.prog.cellsOf 3)) = some y6 := hf 6 _ rfl
  rw [ci] at h0 h1 h2 h6
  rw [cs1] at h3
  rw [cb] at h4
  rw [cv] at h5
  replace h0 : DataW.trod enc Tryz.prog w base sp hd n 3 [a0] = some y0 := h0
  replace h1 : DataW.trod enc Tryz.prog w base sp hd n 3 [a1] = some y1 := h1
  replace h2 : DataW.trod enc Tryz.prog w base sp hd n 3 [a2] = some y2 := h2
  replace h3 : DataW.trod enc Tryz.prog w base sp hd n 9 [a3] = some y3 := h3
  replace h4 : DataW.trod enc Tryz.prog w base sp hd n 4 [a4] = some y4 := h4
  replace h5 : DataW.trod enc Tryz.prog w base sp hd n 23 [a5, a6, a7] = some y5 := h5
  replace h6 : DataW.trod enc Tryz.prog w base sp hd n 3 [a8] = some y6 := h6
  obtain ⟨k, e0, _, _⟩ := DataW.trod_int Tryz.underlying3 h0
  obtain ⟨r, e1, _, _⟩ := DataW.trod_int Tryz.underlying3 h1
  obtain ⟨p, e2, _, _⟩ := DataW.trod_int Tryz.underlying3 h2
  obtain ⟨nm, e3, _, hnm⟩ := DataW.trod_string Tryz.underlying9 h3
  obtain ⟨o, e4, _⟩ := DataW.trod_bool Tryz.underlying4 h4
  obtain ⟨vk, vn, vt, rfl, rfl, rfl, hvt⟩ := open_value n _ _ _ _ h5
  obtain ⟨m, e6, _, _⟩ := DataW.trod_int Tryz.underlying3 h6
  simp only [List.cons.injEq, and_true] at e0 e1 e2 e3 e4 e6
  subst e0 e1 e2 e3 e4 e6
  exact ⟨k, r, p, nm, o, vk, vn, vt, m, rfl, hnm, hvt⟩
end Go.Proofs.YtkkiolljbklccaaGreatDoor

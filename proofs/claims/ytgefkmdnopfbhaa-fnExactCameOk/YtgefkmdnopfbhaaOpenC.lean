/- A datum of something that is asked for, and of something that came, opened. -/
import Derived.Test.YtgefkmdnopfbhaaLeaf
import Derived.ChangeArms
import Derived.DataReads
namespace Go.Proofs.Ytgefkmdnopfbhaa
open Go.RowKit Go.ChangeShapes
set_option linter.unusedVariables false

theorem cut5 {α : Type} (l : List α) (h : l.length = 5) : ∃ a b c d e, l = [a, b, c, d, e] := by
  match l, h with
  | [a, b, c, d, e], _ => exact ⟨a, b, c, d, e, rfl⟩
theorem cut3 {α : Type} (l : List α) (h : l.length = 3) : ∃ a b c, l = [a, b, c] := by
  match l, h with
  | [a, b, c], _ => exact ⟨a, b, c, rfl⟩
theorem cut7 {α : Type} (l : List α) (h : l.length = 7) : ∃ a b c d e f g, l = [a, b, c, d, e, f, g] := by
  match l, h with
  | [a, b, c, d, e, f, g], _ => exact ⟨a, b, c, d, e, f, g, rfl⟩

theorem open_value {H : Type} {enc : TypeId × Value → H} {w : World} {base : Nat} {sp : Nat → Bool} {hd : Bool} (n : Nat) (a1 a2 a3 : Value) (y1 : DataW H × List MemPlace)
    (h1 : DataW.trod enc Try.prog w base sp hd n 23 [a1, a2, a3] = some y1) : ∃ (vk vn : Int) (vt : ByteArray), a1 = .int .i64 vk ∧ a2 = .int .i64 vn ∧ a3 = .string vt ∧ vt.size ≤ maxLen := by
  have ci : Try.prog.cellsOf 3 = 1 := by kernel_rfl
  have cs1 : Try.prog.cellsOf 9 = 1 := by kernel_rfl
  obtain ⟨zs, n', rfl, _, _, hzl, hg⟩ := DataW.trod_struct Try.underlying23 h1
  obtain ⟨z0, z1, z2, rfl⟩ := cut3 zs hzl
  have g0 : DataW.trod enc Try.prog w base sp hd n' 3 (([a1, a2, a3].drop 0).take (Try.prog.cellsOf 3)) = some z0 := hg 0 _ rfl
  have g1 : DataW.trod enc Try.prog w base sp hd n' 3 (([a1, a2, a3].drop 1).take (Try.prog.cellsOf 3)) = some z1 := hg 1 _ rfl
  have g2 : DataW.trod enc Try.prog w base sp hd n' 9 (([a1, a2, a3].drop 2).take (Try.prog.cellsOf 9)) = some z2 := hg 2 _ rfl
  rw [ci] at g0 g1
  rw [cs1] at g2
  replace g0 : DataW.trod enc Try.prog w base sp hd n' 3 [a1] = some z0 := g0
  replace g1 : DataW.trod enc Try.prog w base sp hd n' 3 [a2] = some z1 := g1
  replace g2 : DataW.trod enc Try.prog w base sp hd n' 9 [a3] = some z2 := g2
  obtain ⟨vk, f0, _, _⟩ := DataW.trod_int Try.underlying3 g0
  obtain ⟨vn, f1, _, _⟩ := DataW.trod_int Try.underlying3 g1
  obtain ⟨vt, f2, _, hvt⟩ := DataW.trod_string Try.underlying9 g2
  simp only [List.cons.injEq, and_true] at f0 f1 f2
  exact ⟨vk, vn, vt, f0, f1, f2, hvt⟩

theorem open_cmd {H : Type} {enc : TypeId × Value → H} {w : World} {base : Nat} {sp : Nat → Bool} {hd : Bool} (fuel : Nat) (cs : List Value) (x : DataW H × List MemPlace)
    (h : DataW.trod enc Try.prog w base sp hd fuel 25 cs = some x) : ∃ (k : Int) (nm : ByteArray) (vk vn : Int) (vt : ByteArray), cs = [.int .i64 k, .string nm, .int .i64 vk, .int .i64 vn, .string vt] ∧ nm.size ≤ maxLen ∧ vt.size ≤ maxLen := by
  have c5 : Try.prog.cellsOf 25 = 5 := by kernel_rfl
  have ci : Try.prog.cellsOf 3 = 1 := by kernel_rfl
  have cs1 : Try.prog.cellsOf 9 = 1 := by kernel_rfl
  have cv : Try.prog.cellsOf 23 = 3 := by kernel_rfl
  obtain ⟨xs, n, rfl, _, hlen, hxl, hf⟩ := DataW.trod_struct Try.underlying25 h
  rw [c5] at hlen
  obtain ⟨a0, a1, a2, a3, a4, rfl⟩ := cut5 cs hlen
  obtain ⟨y0, y1, y2, rfl⟩ := cut3 xs hxl
  have h0 : DataW.trod enc Try.prog w base sp hd n 3 (([a0, a1, a2, a3, a4].drop 0).take (Try.prog.cellsOf 3)) = some y0 := hf 0 _ rfl
  have h1 : DataW.trod enc Try.prog w base sp hd n 9 (([a0, a1, a2, a3, a4].drop 1).take (Try.prog.cellsOf 9)) = some y1 := hf 1 _ rfl
  have h2 : DataW.trod enc Try.prog w base sp hd n 23 (([a0, a1, a2, a3, a4].drop 2).take (Try.prog.cellsOf 23)) = some y2 := hf 2 _ rfl
  rw [ci] at h0
  rw [cs1] at h1
  rw [cv] at h2
  replace h0 : DataW.trod enc Try.prog w base sp hd n 3 [a0] = some y0 := h0
  replace h1 : DataW.trod enc Try.prog w base sp hd n 9 [a1] = some y1 := h1
  replace h2 : DataW.trod enc Try.prog w base sp hd n 23 [a2, a3, a4] = some y2 := h2
  obtain ⟨k, e0, _, _⟩ := DataW.trod_int Try.underlying3 h0
  obtain ⟨nm, e1, _, hnm⟩ := DataW.trod_string Try.underlying9 h1
  obtain ⟨vk, vn, vt, rfl, rfl, rfl, hvt⟩ := open_value n _ _ _ _ h2
  simp only [List.cons.injEq, and_true] at e0 e1
  subst e0 e1
  exact ⟨k, nm, vk, vn, vt, rfl, hnm, hvt⟩

theorem open_came {H : Type} {enc : TypeId × Value → H} {w : World} {base : Nat} {sp : Nat → Bool} {hd : Bool} (fuel : Nat) (cs : List Value) (x : DataW H × List MemPlace)
    (h : DataW.trod enc Try.prog w base sp hd fuel 34 cs = some x) : ∃ (k p : Int) (nm : ByteArray) (o : Bool) (vk vn : Int) (vt : ByteArray), cs = [.int .i64 k, .int .i64 p, .string nm, .bool o, .int .i64 vk, .int .i64 vn, .string vt] ∧ nm.size ≤ maxLen ∧ vt.size ≤ maxLen := by
  have c7 : Try.prog.cellsOf 34 = 7 := by kernel_rfl
  have ci : Try.prog.cellsOf 3 = 1 := by kernel_rfl
  have cb : Try.prog.cellsOf 4 = 1 := by kernel_rfl
  have cs1 : Try.prog.cellsOf 9 = 1 := by kernel_rfl
  have cv : Try.prog.cellsOf 23 = 3 := by kernel_rfl
  obtain ⟨xs, n, rfl, _, hlen, hxl, hf⟩ := DataW.trod_struct Try.underlying34 h
  rw [c7] at hlen
  obtain ⟨a0, a1, a2, a3, a4, a5, a6, rfl⟩ := cut7 cs hlen
  obtain ⟨y0, y1, y2, y3, y4, rfl⟩ := cut5 xs hxl
  have h0 : DataW.trod enc Try.prog w base sp hd n 3 (([a0, a1, a2, a3, a4, a5, a6].drop 0).take (Try.prog.cellsOf 3)) = some y0 := hf 0 _ rfl
  have h1 : DataW.trod enc Try.prog w base sp hd n 3 (([a0, a1, a2, a3, a4, a5, a6].drop 1).take (Try.prog.cellsOf 3)) = some y1 := hf 1 _ rfl
  have h2 : DataW.trod enc Try.prog w base sp hd n 9 (([a0, a1, a2, a3, a4, a5, a6].drop 2).take (Try.prog.cellsOf 9)) = some y2 := hf 2 _ rfl
  have h3 : DataW.trod enc Try.prog w base sp hd n 4 (([a0, a1, a2, a3, a4, a5, a6].drop 3).take (Try.prog.cellsOf 4)) = some y3 := hf 3 _ rfl
  have h4 : DataW.trod enc Try.prog w base sp hd n 23 (([a0, a1, a2, a3, a4, a5, a6].drop 4).take (Try.prog.cellsOf 23)) = some y4 := hf 4 _ rfl
  rw [ci] at h0 h1
  rw [cs1] at h2
  rw [cb] at h3
  rw [cv] at h4
  replace h0 : DataW.trod enc Try.prog w base sp hd n 3 [a0] = some y0 := h0
  replace h1 : DataW.trod enc Try.prog w base sp hd n 3 [a1] = some y1 := h1
  replace h2 : DataW.trod enc Try.prog w base sp hd n 9 [a2] = some y2 := h2
  replace h3 : DataW.trod enc Try.prog w base sp hd n 4 [a3] = some y3 := h3
  replace h4 : DataW.trod enc Try.prog w base sp hd n 23 [a4, a5, a6] = some y4 := h4
  obtain ⟨k, e0, _, _⟩ := DataW.trod_int Try.underlying3 h0
  obtain ⟨p, e1, _, _⟩ := DataW.trod_int Try.underlying3 h1
  obtain ⟨nm, e2, _, hnm⟩ := DataW.trod_string Try.underlying9 h2
  obtain ⟨o, e3, _⟩ := DataW.trod_bool Try.underlying4 h3
  obtain ⟨vk, vn, vt, rfl, rfl, rfl, hvt⟩ := open_value n _ _ _ _ h4
  simp only [List.cons.injEq, and_true] at e0 e1 e2 e3
  subst e0 e1 e2 e3
  exact ⟨k, p, nm, o, vk, vn, vt, rfl, hnm, hvt⟩
end Go.Proofs.Ytgefkmdnopfbhaa

/- A datum of a value, opened. -/
import Derived.Test.YthkklmfjdjiafaaLeafB
import Derived.ChangeArms
import Derived.DataReads
namespace Go.Proofs.Ythkklmfjdjiafaa
open Go.RowKit Go.ChangeShapes
set_option linter.unusedVariables false

theorem cut5 {α : Type} (l : List α) (h : l.length = 5) : ∃ a b c d e, l = [a, b, c, d, e] := by
  match l, h with
  | [a, b, c, d, e], _ => exact ⟨a, b, c, d, e, rfl⟩
theorem cut3 {α : Type} (l : List α) (h : l.length = 3) : ∃ a b c, l = [a, b, c] := by
  match l, h with
  | [a, b, c], _ => exact ⟨a, b, c, rfl⟩
theorem cut7 {α : Type} (l : List α) (h : l.length = 7) : ∃ a b c d e f g, l = [a, b, c, d, e, f, g] := by
  match l, h with
  | [a, b, c, d, e, f, g], _ => exact ⟨a, b, c, d, e, f, g, rfl⟩

theorem open_value {H : Type} {enc : TypeId × Value → H} {w : World} {base : Nat} {sp : Nat → Bool} {hd : Bool} (n : Nat) (a1 a2 a3 : Value) (y1 : DataW H × List MemPlace)
    (h1 : DataW.trod enc Try.prog w base sp hd n 68 [a1, a2, a3] = some y1) : ∃ (vk vn : Int) (vt : ByteArray), a1 = .int .i64 vk ∧ a2 = .int .i64 vn ∧ a3 = .string vt ∧ vt.size ≤ maxLen := by
  have ci : Try.prog.cellsOf 3 = 1 := by kernel_rfl
  have cs1 : Try.prog.cellsOf 9 = 1 := by kernel_rfl
  obtain ⟨zs, n', rfl, _, _, hzl, hg⟩ := DataW.trod_struct Try.underlying68 h1
  obtain ⟨z0, z1, z2, rfl⟩ := cut3 zs hzl
  have g0 : DataW.trod enc Try.prog w base sp hd n' 3 (([a1, a2, a3].drop 0).take (Try.prog.cellsOf 3)) = some z0 := hg 0 _ rfl
  have g1 : DataW.trod enc Try.prog w base sp hd n' 3 (([a1, a2, a3].drop 1).take (Try.prog.cellsOf 3)) = some z1 := hg 1 _ rfl
  have g2 : DataW.trod enc Try.prog w base sp hd n' 9 (([a1, a2, a3].drop 2).take (Try.prog.cellsOf 9)) = some z2 := hg 2 _ rfl
  rw [ci] at g0 g1
  rw [cs1] at g2
  replace g0 : DataW.trod enc Try.prog w base sp hd n' 3 [a1] = some z0 := g0
  replace g1 : DataW.trod enc Try.prog w base sp hd n' 3 [a2] = some z1 := g1
  replace g2 : DataW.trod enc Try.prog w base sp hd n' 9 [a3] = some z2 := g2
  obtain ⟨vk, f0, _, _⟩ := DataW.trod_int Try.underlying3 g0
  obtain ⟨vn, f1, _, _⟩ := DataW.trod_int Try.underlying3 g1
  obtain ⟨vt, f2, _, hvt⟩ := DataW.trod_string Try.underlying9 g2
  simp only [List.cons.injEq, and_true] at f0 f1 f2
  exact ⟨vk, vn, vt, f0, f1, f2, hvt⟩

end Go.Proofs.Ythkklmfjdjiafaa

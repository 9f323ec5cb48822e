/- What a value holds, and whether it is ok, as the program has it. -/
import Derived.Test.YtbckbfjnifafaaaGreatDoorVal2a
namespace Go.Proofs.YtbckbfjnifafaaaGreatDoor
open Go.RowKit
set_option linter.unusedVariables false
theorem m_num_fits (n : Int) (w : World) : (method 509 188 (.int .i64 n) "loop.example/backstitch/impl.fits").run Tryz.prog w = .ok (317, .int .i64 n) w := by kernel_rfl
theorem m_text_fits (s : ByteArray) (w : World) : (method 509 189 (.string s) "loop.example/backstitch/impl.fits").run Tryz.prog w = .ok (292, .string s) w := by kernel_rfl
theorem m_none_fits (w : World) : (method 509 187 (.agg #[]) "loop.example/backstitch/impl.fits").run Tryz.prog w = .ok (314, .agg #[]) w := by kernel_rfl
theorem box3 {B : Nat} {w w1 : World} {x y z : Value} {T : TypeId} (hb : Below B (w.alloc (.cells #[x, y, z] T)).drew w1) (h : w.heap.size < B) :
    w1.cell? ⟨w.heap.size, 0, none⟩ = some x ∧ w1.cell? ⟨w.heap.size, 1, none⟩ = some y ∧ w1.cell? ⟨w.heap.size, 2, none⟩ = some z := by
  refine ⟨?_, ?_, ?_⟩
  · rw [hb.cell (p := ⟨w.heap.size, 0, none⟩) h]; simp
  · rw [hb.cell (p := ⟨w.heap.size, 1, none⟩) h]; simp
  · rw [hb.cell (p := ⟨w.heap.size, 2, none⟩) h]; simp
theorem box3' {B B' : Nat} {w w1 w2 : World} {x y z : Value} {T : TypeId} (hb : Below B (w.alloc (.cells #[x, y, z] T)).drew w1) (hb2 : Below B' w1 w2) (h : w.heap.size < B) (h' : w.heap.size < B') :
    w2.cell? ⟨w.heap.size, 0, none⟩ = some x ∧ w2.cell? ⟨w.heap.size, 1, none⟩ = some y ∧ w2.cell? ⟨w.heap.size, 2, none⟩ = some z := by
  obtain ⟨a, b, c⟩ := box3 hb h
  refine ⟨?_, ?_, ?_⟩
  · rw [hb2.cell (p := ⟨w.heap.size, 0, none⟩) h', a]
  · rw [hb2.cell (p := ⟨w.heap.size, 1, none⟩) h', b]
  · rw [hb2.cell (p := ⟨w.heap.size, 2, none⟩) h', c]
theorem below_box {w w1 : World} {o : Obj} (hb : Below (w.alloc o).drew.heap.size (w.alloc o).drew w1) : Below w.heap.size w w1 :=
  ((Below.refl _ _).alloc (Nat.le_refl _) _).drew.trans (hb.mono (by simp))
theorem below_drawn {w : World} {o : Obj} : Below w.heap.size w (w.alloc o).drew :=
  ((Below.refl _ _).alloc (Nat.le_refl _) _).drew

theorem fitsNum_no (n : Int) (h : (decide (-1000000000 ≤ n) && decide (n ≤ 1000000000)) = false) (w : World) :
    Calls Tryz.prog 317 #[.int .i64 n] w fun e w' => e = .returned (.bool false) ∧ w' = w := by
  have := fitsNum_any n w
  rw [h] at this
  exact this
theorem fitsText_at (s : ByteArray) (hs : s.size ≤ maxLen) {b : Bool} (h : Pl.textB s = b) (w : World) :
    Calls Tryz.prog 292 #[.string s] w fun e w' => e = .returned (.bool b) ∧ w' = w := by
  have := fitsText_any s hs w
  rw [h] at this
  exact this

set_option maxHeartbeats 1600000 in
theorem contentOfNum_yes (n : Int) (t : ByteArray) (w : World) (h : -1000000000 ≤ n ∧ n ≤ 1000000000) :
    Calls Tryz.prog 122 #[vAgg 1 n t] w fun e w' => e = .returned (.tuple #[.iface 188 (.int .i64 n), .bool (Pl.okB 1 n t)]) ∧ Below w.heap.size w w' := by
  have hm := m_num_fits
  · obtain ⟨h1, h2⟩ := h
    have he2 : (([] : List UInt8) == t.toList) = t.toList.isEmpty := by cases t.toList <;> rfl
    cases he : t.toList.isEmpty
    · have hf : Hid (Pl.okB 1 n t = false) := by show _ = _; simp [Pl.okB, he]
      rw [he] at he2
      clear he
      go_enter Tryz.func122, Tryz.ntmps122
      go_wp2_with fail
      go_region_with (first | (go_at_call 317; refine (fitsNum_any _ _).mono ?_; rintro e w' ⟨rfl, rfl⟩) | (go_at_call 152; refine (valueOfNum_any _ _).mono ?_; rintro e w' ⟨rfl, hB⟩; obtain ⟨c0, c1, c2⟩ := box3 hB (by simp)))
      all_goals (go_wp2; go_ret2; exact ⟨by rw [hf.out]; rfl, below_box hB⟩)
    · have hf : Hid (Pl.okB 1 n t = true) := by show _ = _; simp [Pl.okB, he, h1, h2]
      rw [he] at he2
      clear he
      go_enter Tryz.func122, Tryz.ntmps122
      go_wp2_with fail
      go_region_with (first | (go_at_call 317; refine (fitsNum_any _ _).mono ?_; rintro e w' ⟨rfl, rfl⟩) | (go_at_call 152; refine (valueOfNum_any _ _).mono ?_; rintro e w' ⟨rfl, hB⟩; obtain ⟨c0, c1, c2⟩ := box3 hB (by simp)))
      all_goals (go_wp2; go_ret2; exact ⟨by rw [hf.out]; rfl, below_box hB⟩)

theorem below_drawnN {w : World} {o : Obj} {k : Nat} : Below w.heap.size w ((w.alloc o).drewN k) :=
  below_drewN ((Below.refl _ _).alloc (Nat.le_refl _) _) k

set_option maxHeartbeats 800000 in
theorem contentOfNum_no (n : Int) (t : ByteArray) (w : World) (hx : (decide (-1000000000 ≤ n) && decide (n ≤ 1000000000)) = false) :
    Calls Tryz.prog 122 #[vAgg 1 n t] w fun e w' => e = .returned (.tuple #[.iface 188 (.int .i64 n), .bool (Pl.okB 1 n t)]) ∧ Below w.heap.size w w' := by
  have hm := m_num_fits
  have hf : Hid (Pl.okB 1 n t = false) := by show _ = _; simp only [Pl.okB, hx]; simp
  have hcall := fun w => fitsNum_no n hx w
  clear hx
  go_enter Tryz.func122, Tryz.ntmps122
  go_wp2_with fail
  go_quiet ((go_at_call 317; exact Calls.quiet_of_same (hcall _)))
  go_wp2
  go_ret2
  exact ⟨by rw [hf.out]; rfl, below_drawnN⟩

theorem contentOfNum_any (n : Int) (t : ByteArray) (w : World) :
    Calls Tryz.prog 122 #[vAgg 1 n t] w fun e w' => e = .returned (.tuple #[.iface 188 (.int .i64 n), .bool (Pl.okB 1 n t)]) ∧ Below w.heap.size w w' := by
  by_cases h : -1000000000 ≤ n ∧ n ≤ 1000000000
  · exact contentOfNum_yes n t w h
  · refine contentOfNum_no n t w ?_
    by_cases h2 : -1000000000 ≤ n <;> by_cases h3 : n ≤ 1000000000 <;> simp [h2, h3]
    exact absurd ⟨h2, h3⟩ h
end Go.Proofs.YtbckbfjnifafaaaGreatDoor

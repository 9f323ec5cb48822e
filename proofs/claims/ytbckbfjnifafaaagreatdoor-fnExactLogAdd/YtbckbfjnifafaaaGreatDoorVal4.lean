/- What a text value holds. -/
import Derived.Test.YtbckbfjnifafaaaGreatDoorVal3
namespace Go.Proofs.YtbckbfjnifafaaaGreatDoor
open Go.RowKit
set_option linter.unusedVariables false

set_option maxHeartbeats 1600000 in
theorem contentOfText_any (n : Int) (t : ByteArray) (ht : t.size ≤ maxLen) (w : World) :
    Calls Tryz.prog 122 #[vAgg 2 n t] w fun e w' => e = .returned (.tuple #[.iface 189 (.string t), .bool (Pl.okB 2 n t)]) ∧ Below w.heap.size w w' := by
  have hm := m_text_fits
  cases hx : Pl.textB t
  · have hf : Hid (Pl.okB 2 n t = false) := by show _ = _; simp [Pl.okB, hx]
    have hcall := fun w => fitsText_at t ht hx w
    clear hx
    go_enter Tryz.func122, Tryz.ntmps122
    go_wp2_with fail
    go_quiet ((go_at_call 292; exact Calls.quiet_of_same (hcall _)))
    go_wp2
    go_ret2
    exact ⟨by rw [hf.out]; rfl, below_drawnN⟩
  · cases he : ((0 : Int) == n)
    · have hf : Hid (Pl.okB 2 n t = false) := by
        show _ = _
        have : ¬ n = 0 := by intro h; subst h; simp at he
        simp [Pl.okB, this]
      go_enter Tryz.func122, Tryz.ntmps122
      go_wp2_with fail
      go_region_with (first | (go_at_call 292; refine (fitsText_at _ ht hx _).mono ?_; rintro e w' ⟨rfl, rfl⟩) | (go_at_call 152; refine (valueOfText_any _ _).mono ?_; rintro e w' ⟨rfl, hB⟩; obtain ⟨c0, c1, c2⟩ := box3 hB (by simp)))
      all_goals (go_wp2; go_ret2; exact ⟨by rw [hf.out]; rfl, below_box hB⟩)
    · have h0 : n = 0 := (beq_iff_eq.1 he).symm
      subst h0
      clear he
      have hf : Hid (Pl.okB 2 0 t = true) := by show _ = _; simp [Pl.okB, hx]
      go_enter Tryz.func122, Tryz.ntmps122
      go_wp2_with fail
      go_region_with (first | (go_at_call 292; refine (fitsText_at _ ht hx _).mono ?_; rintro e w' ⟨rfl, rfl⟩) | (go_at_call 152; refine (valueOfText_any _ _).mono ?_; rintro e w' ⟨rfl, hB⟩; obtain ⟨c0, c1, c2⟩ := box3 hB (by simp)))
      all_goals (go_wp2; go_ret2; exact ⟨by rw [hf.out]; rfl, below_box hB⟩)
end Go.Proofs.YtbckbfjnifafaaaGreatDoor

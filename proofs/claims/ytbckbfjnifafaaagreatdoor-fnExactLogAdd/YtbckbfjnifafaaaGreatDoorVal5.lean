/- What a value without anything holds, or one of no kind; whether a value is ok. -/
import Derived.Test.YtbckbfjnifafaaaGreatDoorVal4
namespace Go.Proofs.YtbckbfjnifafaaaGreatDoor
open Go.RowKit
set_option linter.unusedVariables false

set_option maxHeartbeats 1600000 in
theorem contentOfNone_any (n : Int) (t : ByteArray) (w : World) :
    Calls Tryz.prog 122 #[vAgg 0 n t] w fun e w' => e = .returned (.tuple #[.iface 187 (.agg #[]), .bool (Pl.okB 0 n t)]) ∧ Below w.heap.size w w' := by
  have hm := m_none_fits
  have he2 : (([] : List UInt8) == t.toList) = t.toList.isEmpty := by cases t.toList <;> rfl
  cases hn : ((0 : Int) == n)
  · have hf : Hid (Pl.okB 0 n t = false) := by
      show _ = _
      have : ¬ n = 0 := by intro h; subst h; simp at hn
      simp [Pl.okB, this]
    clear he2
    go_enter Tryz.func122, Tryz.ntmps122
    go_wp2_with fail
    go_region_with (first | (go_at_call 314; refine (fitsNone_any _).mono ?_; rintro e w1 ⟨rfl, hA⟩; obtain ⟨d0, d1, d2⟩ := box3 hA (by simp)) | (go_at_call 152; refine (valueOfNone_any _).mono ?_; rintro e w2 ⟨rfl, hB⟩; obtain ⟨c0, c1, c2⟩ := box3' hA hB (by simp) (by have := hA.size; simp at this; omega)))
    all_goals (go_wp2; go_ret2; exact ⟨by rw [hf.out]; rfl, (below_box hA).trans (hB.mono (by have := hA.size; simp at this; omega))⟩)
  · have h0 : n = 0 := (beq_iff_eq.1 hn).symm
    subst h0
    clear hn
    cases he : t.toList.isEmpty
    · have hf : Hid (Pl.okB 0 0 t = false) := by show _ = _; simp [Pl.okB, he]
      rw [he] at he2
      clear he
      go_enter Tryz.func122, Tryz.ntmps122
      go_wp2_with fail
      go_region_with (first | (go_at_call 314; refine (fitsNone_any _).mono ?_; rintro e w1 ⟨rfl, hA⟩; obtain ⟨d0, d1, d2⟩ := box3 hA (by simp)) | (go_at_call 152; refine (valueOfNone_any _).mono ?_; rintro e w2 ⟨rfl, hB⟩; obtain ⟨c0, c1, c2⟩ := box3' hA hB (by simp) (by have := hA.size; simp at this; omega)))
      all_goals (go_wp2; go_ret2; exact ⟨by rw [hf.out]; rfl, (below_box hA).trans (hB.mono (by have := hA.size; simp at this; omega))⟩)
    · have hf : Hid (Pl.okB 0 0 t = true) := by show _ = _; simp [Pl.okB, he]
      rw [he] at he2
      clear he
      go_enter Tryz.func122, Tryz.ntmps122
      go_wp2_with fail
      go_region_with (first | (go_at_call 314; refine (fitsNone_any _).mono ?_; rintro e w1 ⟨rfl, hA⟩; obtain ⟨d0, d1, d2⟩ := box3 hA (by simp)) | (go_at_call 152; refine (valueOfNone_any _).mono ?_; rintro e w2 ⟨rfl, hB⟩; obtain ⟨c0, c1, c2⟩ := box3' hA hB (by simp) (by have := hA.size; simp at this; omega)))
      all_goals (go_wp2; go_ret2; exact ⟨by rw [hf.out]; rfl, (below_box hA).trans (hB.mono (by have := hA.size; simp at this; omega))⟩)

set_option maxHeartbeats 400000 in
theorem contentOfOther_any (k n : Int) (t : ByteArray) (k0 : (k == 0) = false) (k1 : (k == 1) = false) (k2 : (k == 2) = false) (w : World) :
    Calls Tryz.prog 122 #[vAgg k n t] w fun e w' => e = .returned (.tuple #[.iface 187 (.agg #[]), .bool false]) ∧ Below w.heap.size w w' := by
  go_enter Tryz.func122, Tryz.ntmps122
  go_wp2
  go_ret2
  exact ⟨rfl, (Below.refl _ _).alloc (Nat.le_refl _) _⟩

/-- what a value holds -/
def contV (k n : Int) (t : ByteArray) : Value :=
  if k = 1 then .iface 188 (.int .i64 n) else if k = 2 then .iface 189 (.string t) else .iface 187 (.agg #[])

theorem contentOf_any (k n : Int) (t : ByteArray) (ht : t.size ≤ maxLen) (w : World) :
    Calls Tryz.prog 122 #[vAgg k n t] w fun e w' => e = .returned (.tuple #[contV k n t, .bool (Pl.okB k n t)]) ∧ Below w.heap.size w w' := by
  by_cases k0 : k = 0
  · subst k0; exact contentOfNone_any n t w
  · by_cases k1 : k = 1
    · subst k1; exact contentOfNum_any n t w
    · by_cases k2 : k = 2
      · subst k2; exact contentOfText_any n t ht w
      · have := contentOfOther_any k n t (by simp [k0]) (by simp [k1]) (by simp [k2]) w
        simpa [contV, Pl.okB, k0, k1, k2] using this

set_option maxHeartbeats 400000 in
theorem implValueOk_any (k n : Int) (t : ByteArray) (ht : t.size ≤ maxLen) (w : World) :
    Calls Tryz.prog 107 #[vAgg k n t] w fun e w' => e = .returned (.bool (Pl.okB k n t)) ∧ Below w.heap.size w w' := by
  go_enter Tryz.func107, Tryz.ntmps107
  go_wp2_with (go_at_call 122; refine (contentOf_any _ _ _ ht _).mono ?_; rintro e w' ⟨rfl, hB⟩)
  go_ret
  exact ⟨rfl, ((Below.refl _ _).alloc (Nat.le_refl _) _).trans (hB.mono (by simp))⟩
end Go.Proofs.YtbckbfjnifafaaaGreatDoor

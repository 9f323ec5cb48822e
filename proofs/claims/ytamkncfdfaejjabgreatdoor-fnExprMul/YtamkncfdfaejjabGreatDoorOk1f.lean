/- Whether an expression is ok, as the specification has it: at every kind and depth. -/
import Derived.Test.YtamkncfdfaejjabGreatDoorOk1b
import Derived.Test.YtamkncfdfaejjabGreatDoorOk1c
import Derived.Test.YtamkncfdfaejjabGreatDoorOk1e
namespace Go.Proofs.YtamkncfdfaejjabGreatDoor
open Go.RowKit
set_option linter.unusedVariables false

theorem okN_val_no {nk vk vn : Int} {vt nm : ByteArray} (n1 : ¬ nk = 1) (hz : NotNone vk vn vt) (k : Fo) (d : Nat) : Pl.okN ⟨nk, vk, vn, vt, nm⟩ k d = false := by
  have h : Pl.valB ⟨nk, vk, vn, vt, nm⟩ = false := by
    simp only [Pl.valB, n1, if_false]
    rcases hz with hz | ⟨_, hz⟩ | ⟨_, _, hz⟩ <;> simp only [hz, Bool.false_and, Bool.and_false]
  simp only [Pl.okN, h, Bool.false_and, Bool.and_false]
theorem okN_name_no {nd : Nd} (k : Fo) (d : Nat) (hok : ¬ (1 ≤ d ∧ Pl.nmB nd = true)) : Pl.okN nd k d = false := by
  by_cases h1 : 1 ≤ d
  · cases h : Pl.nmB nd
    · simp only [Pl.okN, h, Bool.and_false, Bool.false_and]
    · exact absurd ⟨h1, h⟩ hok
  · simp only [Pl.okN, decide_eq_false h1, Bool.false_and]

theorem l2Ok_step (d : Nat) (hd : d ≤ 5) (ih : 1 ≤ d → OkP 30 (d - 1)) : OkP 30 d := by
  intro nd k v w ht hn hwf hl hs hr
  obtain ⟨nk, vk, vn, vt, nm⟩ := nd
  by_cases n1 : nk = 1
  · subst n1
    exact l2Ok_val d hd ih vk vn vt nm k v w ht hn hwf hl hs hr
  by_cases n2 : nk = 2
  · subst n2
    rcases notNone_or vk vn vt with hz | ⟨rfl, rfl, hvt⟩
    · rw [okN_val_no (by decide) hz]
      exact l2Ok_var_val d hd vk vn vt nm v w hn hz
    · have hnb : Pl.nmB ⟨2, 0, 0, vt, nm⟩ = Pl.nameB nm := by simp [Pl.nmB]
      by_cases hok : 1 ≤ d ∧ Pl.nameB nm = true
      · exact l2Ok_var d hd (ih hok.1) vt nm hvt hok.2 hok.1 k v w ht hn hwf hl hs hr
      · rw [okN_name_no k d (by rw [hnb]; exact hok)]
        exact l2Ok_var_name d hd vt nm v w hn hvt hok
  · rcases notNone_or vk vn vt with hz | ⟨rfl, rfl, hvt⟩
    · rw [okN_val_no n1 hz]
      exact l2Ok_oth_val d hd nk vk vn n1 n2 vt nm v w hz
    · have hnb : Pl.nmB ⟨nk, 0, 0, vt, nm⟩ = nm.toList.isEmpty := by simp [Pl.nmB, n2]
      by_cases hok : 1 ≤ d ∧ nm.toList.isEmpty = true
      · exact l2Ok_oth d hd (ih hok.1) nk n1 n2 vt nm hvt hok.2 hok.1 k v w ht hn hwf hl hs hr
      · rw [okN_name_no k d (by rw [hnb]; exact hok)]
        exact l2Ok_oth_name d hd nk n1 n2 vt nm v w hvt hok
theorem l2Ok_any : ∀ (d : Nat), d ≤ 5 → OkP 30 d
  | 0, h => l2Ok_step 0 h (fun h => by omega)
  | d + 1, h => l2Ok_step (d + 1) h (fun _ => l2Ok_any d (by omega))

set_option maxHeartbeats 400000 in
theorem specExprOk_any (nd : Nd) (k : Fo) (v : Value) (w : World) (ht : nd.vt.size ≤ maxLen) (hn : nd.nm.size ≤ maxLen) (hwf : k.Wf) (hl : k.len ≤ 1048576) (hs : k.Sm) (hr : RowAt 0 w k v) :
    Calls Tryz.prog 17 #[ndV nd v] w fun e w' => e = .returned (.bool (Pl.okN nd k 5)) ∧ Below w.heap.size w w' := by
  have hq : Hid (∀ W, Below w.heap.size w W → Calls Tryz.prog 30 #[ndV nd v, .int .i64 5] W fun e w' => e = .returned (.bool (Pl.okN nd k 5)) ∧ Below W.heap.size W w') := fun W hW => l2Ok_any 5 (Nat.le_refl _) nd k v W ht hn hwf hl hs (hr.later hW)
  clear hr hwf hs
  go_enter Tryz.func17, Tryz.ntmps17
  go_wp2_with fail
  refine (hq.out _ ((Below.refl _ _).alloc (Nat.le_refl _) _)).mono ?_
  rintro e w1 ⟨rfl, hB1⟩
  go_wp2
  go_ret
  exact ⟨rfl, ((Below.refl _ _).alloc (Nat.le_refl _) _).trans (hB1.mono (by simp))⟩
end Go.Proofs.YtamkncfdfaejjabGreatDoor

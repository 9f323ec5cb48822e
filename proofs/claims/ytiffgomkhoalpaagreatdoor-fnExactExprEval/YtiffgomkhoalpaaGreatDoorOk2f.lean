/- Whether an expression is ok, as the program has it: at every kind and depth. -/
import Derived.Test.YtiffgomkhoalpaaGreatDoorOk2b
import Derived.Test.YtiffgomkhoalpaaGreatDoorOk2c
import Derived.Test.YtiffgomkhoalpaaGreatDoorOk2n
namespace Go.Proofs.YtiffgomkhoalpaaGreatDoor
open Go.RowKit
set_option linter.unusedVariables false

theorem okN_parts_no {nd : Nd} (k : Fo) (d : Nat) (h : ((k.len : Int) == Pl.arity nd.k) = false) : Pl.okN nd k d = false := by
  simp only [Pl.okN, h, Bool.false_and, Bool.and_false]
theorem okN_value_no {nd : Nd} (k : Fo) (d : Nat) (h : Pl.valB nd = false) : Pl.okN nd k d = false := by
  simp only [Pl.okN, h, Bool.false_and, Bool.and_false]
theorem okN_nm_no {nd : Nd} (k : Fo) (d : Nat) (h : Pl.nmB nd = false) : Pl.okN nd k d = false := by
  simp only [Pl.okN, h, Bool.false_and, Bool.and_false]

theorem exprFits_step (d : Nat) (hd : d ≤ 5) (ih : 1 ≤ d → OkP 49 (d - 1)) : OkP 49 d := by
  intro nd k v w ht hn hwf hl hs hr
  by_cases hd1 : 1 ≤ d
  · have hr0 := hr
    obtain ⟨ad, cap, rfl, _, _, _⟩ := hr0
    cases hab : ((k.len : Int) == Pl.arity nd.k)
    · rw [okN_parts_no k d hab]
      exact exprFits_parts d hd1 hd nd k.len ad cap hl hab w
    · obtain ⟨nk, vk, vn, vt, nm⟩ := nd
      simp only at hab ht hn
      by_cases n1 : nk = 1
      · subst n1
        cases hbn : nm.toList.isEmpty
        · rw [okN_nm_no k d (by simp [Pl.nmB, hbn])]
          exact exprFits_name1 d hd1 hd vk vn vt nm k.len ad cap hl hab hbn w
        · cases hbv : Pl.okB vk vn vt
          · rw [okN_value_no k d (by simp [Pl.valB, hbv])]
            exact exprFits_value d hd1 hd vk vn vt nm ht k.len ad cap hl hab hbn hbv w
          · exact exprFits_val d hd hd1 (ih hd1) vk vn vt nm k _ w ht hn hbv hbn hab hwf hl hs hr
      · rcases notNone_or vk vn vt with hz | ⟨rfl, rfl, hvt⟩
        · rw [okN_val_no n1 hz]
          exact exprFits_none d hd1 hd nk vk vn vt nm k.len ad cap hl hab n1 hz w
        · by_cases n2 : nk = 2
          · subst n2
            cases hbn : Pl.nameB nm
            · rw [okN_nm_no k d (by simp [Pl.nmB, hbn])]
              exact exprFits_word d hd1 hd vt nm hn k.len ad cap hl hab hvt hbn w
            · exact exprFits_var d hd hd1 (ih hd1) vt nm k _ w ht hn hvt hbn hab hwf hl hs hr
          · cases hbn : nm.toList.isEmpty
            · rw [okN_nm_no k d (by simp [Pl.nmB, n2, hbn])]
              exact exprFits_nameo d hd1 hd nk n1 n2 vt nm k.len ad cap hl hab hvt hbn w
            · exact exprFits_oth d hd hd1 (ih hd1) nk n1 n2 vt nm k _ w ht hn hvt hbn hab hwf hl hs hr
  · have hd0 : d = 0 := by omega
    subst hd0
    rw [show Pl.okN nd k 0 = false by simp [Pl.okN]]
    exact exprFits_deep nd v w
theorem exprFits_any : ∀ (d : Nat), d ≤ 5 → OkP 49 d
  | 0, h => exprFits_step 0 h (fun h => by omega)
  | d + 1, h => exprFits_step (d + 1) h (fun _ => exprFits_any d (by omega))

set_option maxHeartbeats 400000 in
theorem implExprOk_any (nd : Nd) (k : Fo) (v : Value) (w : World) (ht : nd.vt.size ≤ maxLen) (hn : nd.nm.size ≤ maxLen) (hwf : k.Wf) (hl : k.len ≤ 1048576) (hs : k.Sm) (hr : RowAt 0 w k v) :
    Calls Tryz.prog 24 #[ndV nd v] w fun e w' => e = .returned (.bool (Pl.okN nd k 5)) ∧ Below w.heap.size w w' := by
  have hq : Hid (∀ W, Below w.heap.size w W → Calls Tryz.prog 49 #[ndV nd v, .int .i64 5] W fun e w' => e = .returned (.bool (Pl.okN nd k 5)) ∧ Below W.heap.size W w') := fun W hW => exprFits_any 5 (Nat.le_refl _) nd k v W ht hn hwf hl hs (hr.later hW)
  clear hr hwf hs
  go_enter Tryz.func24, Tryz.ntmps24
  go_wp2_with fail
  refine (hq.out _ ((Below.refl _ _).alloc (Nat.le_refl _) _)).mono ?_
  rintro e w1 ⟨rfl, hB1⟩
  go_wp2
  go_ret
  exact ⟨rfl, ((Below.refl _ _).alloc (Nat.le_refl _) _).trans (hB1.mono (by simp))⟩
end Go.Proofs.YtiffgomkhoalpaaGreatDoor

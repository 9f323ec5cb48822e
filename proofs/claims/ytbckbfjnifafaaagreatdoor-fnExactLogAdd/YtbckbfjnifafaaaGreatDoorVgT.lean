/- A value read, as the specification has it: text. -/
import Derived.Test.YtbckbfjnifafaaaGreatDoorVgG
namespace Go.Proofs.YtbckbfjnifafaaaGreatDoor
open Go.RowKit
set_option linter.unusedVariables false
set_option linter.unusedSimpArgs false

set_option maxRecDepth 100000 in
set_option maxHeartbeats 6400000 in
theorem l1Get_text (s : ByteArray) (hs : s.size ≤ 1048576) (w : World) (h2 : 2 ≤ s.size) (hq0 : (((s[0]'(by omega)).toNat : Int) == 34) = true) (hq1 : (((s[s.size - 1]'(by omega)).toNat : Int) == 34) = true) (hno : (s.toList == [110, 111, 110, 101]) = false) :
    Calls Tryz.prog 101 #[.string s] w fun e w' => e = .returned (.tuple #[vAgg 2 0 (s.extract 1 (s.size - 1)), .bool (Pl.okB 2 0 (s.extract 1 (s.size - 1)) && (Pl.putV 2 0 (s.extract 1 (s.size - 1)) == s.data.toList))]) ∧ Below w.heap.size w w' := by
  have hok : Hid (∀ W, Calls Tryz.prog 54 #[vAgg 2 0 (s.extract 1 (s.size - 1))] W fun e w' => e = .returned (.bool (Pl.okB 2 0 (s.extract 1 (s.size - 1)))) ∧ Below W.heap.size W w') := fun W => specValueOk_any _ _ _ (by simp; unfold maxLen; omega) W
  have hput0 : Hid (Pl.okB 2 0 (s.extract 1 (s.size - 1)) = true → ∀ W, Calls Tryz.prog 69 #[vAgg 2 0 (s.extract 1 (s.size - 1))] W fun e w' => e = .returned (.string (Pl.bs (Pl.putV 2 0 (s.extract 1 (s.size - 1))))) ∧ Below W.heap.size W w') := fun h W => l1Put_any _ _ _ h (by simp; omega) W
  cases hb : Pl.okB 2 0 (s.extract 1 (s.size - 1))
  · rw [hb] at hok
    clear hput0 hb
    have hput : Hid True := trivial
    rw [Bool.false_and]
    go_enter Tryz.func101, Tryz.ntmps101
    go_wp2_with fail
    first | (go_region_with (first
      | (go_at_call 54; refine (hok.out _).mono ?_; rintro e w1 ⟨rfl, hB1⟩; obtain ⟨ba, bb, hbl, hsz⟩ := two_after hB1; have HBA := hide ba; have HBB := hide bb; have HBL := hide hbl; obtain ⟨c0, c1, c2, _, _, _⟩ := C3.mk bb; obtain ⟨r0, r1, r2, f0, f1, f2⟩ := C3.mk ba; clear hB1 ba bb hbl)
      | (go_at_call 69; refine (hput.out _).mono ?_; rintro e w2 ⟨rfl, hB2⟩; have HBA2 := hide ((hB2.block _ (Nat.lt_of_lt_of_le (Nat.lt_succ_of_lt (Nat.lt_succ_self _)) hsz)).trans HBA.out); have HBB2 := hide ((hB2.block _ (Nat.lt_of_lt_of_le (Nat.lt_succ_self _) hsz)).trans HBB.out); have HBL2 := hide (HBL.out.trans (hB2.mono HBL.out.size)); have hsz2 := Nat.le_trans hsz hB2.size; obtain ⟨d0, d1, d2, _, _, _⟩ := C3.mk HBB2.out; obtain ⟨q0, q1, q2, g0, g1, g2⟩ := C3.mk HBA2.out; clear hB2))) | fail
    all_goals
      go_wp2
      obtain ⟨m0, m1, m2⟩ := res3 HBA.out (.int .i64 (2)) (.int .i64 (0)) (.string (s.extract 1 (s.size - 1)))
      refine bodyPost_ret (v := .tuple #[vAgg 2 0 (s.extract 1 (s.size - 1)), .bool false]) (by simp [results, Tryz.results101, go_sem, m0, m1, m2]) rfl ?_
      exact ⟨rfl, below_res3 HBL.out _ _ _⟩
  · have hput := hide (hput0.out hb)
    rw [hb] at hok
    clear hput0 hb
    rw [Bool.true_and]
    have hcmp := cmp_text (Pl.putV 2 0 (s.extract 1 (s.size - 1))) s
    generalize Pl.putV 2 0 (s.extract 1 (s.size - 1)) = P at hput hcmp ⊢
    generalize (P == s.data.toList) = eqb at hcmp ⊢
    cases eqb
    all_goals
      go_enter Tryz.func101, Tryz.ntmps101
      go_wp2_with fail
      first | (go_region_with (first
        | (go_at_call 54; refine (hok.out _).mono ?_; rintro e w1 ⟨rfl, hB1⟩; obtain ⟨ba, bb, hbl, hsz⟩ := two_after hB1; have HBA := hide ba; have HBB := hide bb; have HBL := hide hbl; obtain ⟨c0, c1, c2, _, _, _⟩ := C3.mk bb; obtain ⟨r0, r1, r2, f0, f1, f2⟩ := C3.mk ba; clear hB1 ba bb hbl)
        | (go_at_call 69; refine (hput.out _).mono ?_; rintro e w2 ⟨rfl, hB2⟩; have HBA2 := hide ((hB2.block _ (Nat.lt_of_lt_of_le (Nat.lt_succ_of_lt (Nat.lt_succ_self _)) hsz)).trans HBA.out); have HBB2 := hide ((hB2.block _ (Nat.lt_of_lt_of_le (Nat.lt_succ_self _) hsz)).trans HBB.out); have HBL2 := hide (HBL.out.trans (hB2.mono HBL.out.size)); have hsz2 := Nat.le_trans hsz hB2.size; obtain ⟨d0, d1, d2, _, _, _⟩ := C3.mk HBB2.out; obtain ⟨q0, q1, q2, g0, g1, g2⟩ := C3.mk HBA2.out; clear hB2))) | fail
      all_goals
        go_wp2
        obtain ⟨m0, m1, m2⟩ := res3 HBA2.out (.int .i64 (2)) (.int .i64 (0)) (.string (s.extract 1 (s.size - 1)))
        refine bodyPost_ret (by simp [results, Tryz.results101, go_sem, m0, m1, m2]; rfl) rfl ?_
        exact ⟨rfl, below_res3 HBL2.out _ _ _⟩
end Go.Proofs.YtbckbfjnifafaaaGreatDoor

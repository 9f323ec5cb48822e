/- Whether an expression is ok, as the program has it: what is not. -/
import Derived.Test.YtiffgomkhoalpaaGreatDoorOk2
namespace Go.Proofs.YtiffgomkhoalpaaGreatDoor
open Go.RowKit
set_option linter.unusedVariables false

abbrev FitsNo (nd : Nd) (v : Value) (d : Nat) (w : World) : Prop := Calls Tryz.prog 49 #[ndV nd v, .int .i64 d] w fun e w' => e = .returned (.bool false) ∧ Below w.heap.size w w'

set_option maxHeartbeats 800000 in
theorem exprFits_deep (nd : Nd) (v : Value) (w : World) : FitsNo nd v 0 w := by
  obtain ⟨nk, vk, vn, vt, nm⟩ := nd
  go_enter Tryz.func49, Tryz.ntmps49
  go_wp2_with fail
  go_quiet (fail)
  go_wp2
  go_ret
  exact ⟨rfl, below_drewN ((Below.refl _ _).alloc (Nat.le_refl _) _) _⟩

set_option maxHeartbeats 800000 in
theorem exprFits_parts (d : Nat) (hd1 : 1 ≤ d) (hd : d ≤ 5) (nd : Nd) (n : Nat) (ad : Option Addr) (cap : Nat) (hl : n ≤ 1048576) (hab : ((n : Int) == Pl.arity nd.k) = false) (w : World) : FitsNo nd (.slice ad n cap) d w := by
  obtain ⟨nk, vk, vn, vt, nm⟩ := nd
  have har := hide (exprParts_any nk)
  have dl : ((d : Int) == 0) = false := beq_eq_false_iff_ne.2 (by omega)
  have hne : ((n : Int) != Pl.arity nk) = true := by simp only [bne]; rw [hab]; rfl
  clear hab
  go_enter Tryz.func49, Tryz.ntmps49
  go_wp2_with fail
  go_quiet ((go_at_call 69; exact Calls.quiet_of_same (har.out _)))
  go_wp2
  go_ret
  exact ⟨rfl, below_drewN ((Below.refl _ _).alloc (Nat.le_refl _) _) _⟩

set_option maxHeartbeats 1600000 in
theorem exprFits_none (d : Nat) (hd1 : 1 ≤ d) (hd : d ≤ 5) (nk vk vn : Int) (vt nm : ByteArray) (n : Nat) (ad : Option Addr) (cap : Nat) (hl : n ≤ 1048576) (hab : ((n : Int) == Pl.arity nk) = true) (n1 : ¬ nk = 1) (hz : NotNone vk vn vt) (w : World) : FitsNo ⟨nk, vk, vn, vt, nm⟩ (.slice ad n cap) d w := by
  have har := hide (exprParts_any nk)
  have dl : ((d : Int) == 0) = false := beq_eq_false_iff_ne.2 (by omega)
  have hne : ((n : Int) != Pl.arity nk) = false := by simp only [bne]; rw [hab]; rfl
  have m1 : (nk != 1) = true := by simp [n1]
  clear hab n1
  rcases hz with hz | ⟨rfl, hz⟩ | ⟨rfl, rfl, hz⟩
  all_goals
    go_enter Tryz.func49, Tryz.ntmps49
    go_wp2_with fail
    go_quiet ((go_at_call 69; exact Calls.quiet_of_same (har.out _)))
    go_wp2
    go_ret
    exact ⟨rfl, below_drewN ((Below.refl _ _).alloc (Nat.le_refl _) _) _⟩

set_option maxHeartbeats 1600000 in
theorem exprFits_name1 (d : Nat) (hd1 : 1 ≤ d) (hd : d ≤ 5) (vk vn : Int) (vt nm : ByteArray) (n : Nat) (ad : Option Addr) (cap : Nat) (hl : n ≤ 1048576) (hab : ((n : Int) == Pl.arity 1) = true) (hbn : nm.toList.isEmpty = false) (w : World) : FitsNo ⟨1, vk, vn, vt, nm⟩ (.slice ad n cap) d w := by
  have har := hide (exprParts_any 1)
  have dl : ((d : Int) == 0) = false := beq_eq_false_iff_ne.2 (by omega)
  have hne : ((n : Int) != Pl.arity 1) = false := by simp only [bne]; rw [hab]; rfl
  clear hab
  go_enter Tryz.func49, Tryz.ntmps49
  go_wp2_with fail
  go_quiet ((go_at_call 69; exact Calls.quiet_of_same (har.out _)))
  go_wp2
  go_ret
  exact ⟨rfl, below_drewN ((Below.refl _ _).alloc (Nat.le_refl _) _) _⟩

set_option maxHeartbeats 1600000 in
theorem exprFits_nameo (d : Nat) (hd1 : 1 ≤ d) (hd : d ≤ 5) (nk : Int) (n1 : ¬ nk = 1) (n2 : ¬ nk = 2) (vt nm : ByteArray) (n : Nat) (ad : Option Addr) (cap : Nat) (hl : n ≤ 1048576) (hab : ((n : Int) == Pl.arity nk) = true) (hvt : vt.toList.isEmpty = true) (hbn : nm.toList.isEmpty = false) (w : World) : FitsNo ⟨nk, 0, 0, vt, nm⟩ (.slice ad n cap) d w := by
  have har := hide (exprParts_any nk)
  have dl : ((d : Int) == 0) = false := beq_eq_false_iff_ne.2 (by omega)
  have hne : ((n : Int) != Pl.arity nk) = false := by simp only [bne]; rw [hab]; rfl
  have m1 : (nk != 1) = true := by simp [n1]
  have m2 : (nk != 2) = true := by simp [n2]
  clear hab n1 n2
  go_enter Tryz.func49, Tryz.ntmps49
  go_wp2_with fail
  go_quiet ((go_at_call 69; exact Calls.quiet_of_same (har.out _)))
  go_wp2
  go_ret
  exact ⟨rfl, below_drewN ((Below.refl _ _).alloc (Nat.le_refl _) _) _⟩

set_option maxHeartbeats 1600000 in
theorem exprFits_word (d : Nat) (hd1 : 1 ≤ d) (hd : d ≤ 5) (vt nm : ByteArray) (hn : nm.size ≤ maxLen) (n : Nat) (ad : Option Addr) (cap : Nat) (hl : n ≤ 1048576) (hab : ((n : Int) == Pl.arity 2) = true) (hvt : vt.toList.isEmpty = true) (hbn : Pl.nameB nm = false) (w : World) : FitsNo ⟨2, 0, 0, vt, nm⟩ (.slice ad n cap) d w := by
  have har := hide (exprParts_any 2)
  have hw := hide (implNameOk_any nm hn)
  rw [hbn] at hw
  have dl : ((d : Int) == 0) = false := beq_eq_false_iff_ne.2 (by omega)
  have hne : ((n : Int) != Pl.arity 2) = false := by simp only [bne]; rw [hab]; rfl
  clear hab hbn
  go_enter Tryz.func49, Tryz.ntmps49
  go_wp2_with fail
  go_quiet ((go_at_call 69; exact Calls.quiet_of_same (har.out _)))
  go_wp2_with fail
  refine (hw.out _).mono ?_
  rintro e w0 ⟨rfl, rfl⟩
  go_wp2
  go_ret
  exact ⟨rfl, below_drewN ((Below.refl _ _).alloc (Nat.le_refl _) _) _⟩

set_option maxHeartbeats 1600000 in
theorem exprFits_value (d : Nat) (hd1 : 1 ≤ d) (hd : d ≤ 5) (vk vn : Int) (vt nm : ByteArray) (ht : vt.size ≤ maxLen) (n : Nat) (ad : Option Addr) (cap : Nat) (hl : n ≤ 1048576) (hab : ((n : Int) == Pl.arity 1) = true) (hbn : nm.toList.isEmpty = true) (hbv : Pl.okB vk vn vt = false) (w : World) : FitsNo ⟨1, vk, vn, vt, nm⟩ (.slice ad n cap) d w := by
  have har := hide (exprParts_any 1)
  have hv := hide (implValueOk_any vk vn vt ht)
  rw [hbv] at hv
  have dl : ((d : Int) == 0) = false := beq_eq_false_iff_ne.2 (by omega)
  have hne : ((n : Int) != Pl.arity 1) = false := by simp only [bne]; rw [hab]; rfl
  clear hab hbv
  go_enter Tryz.func49, Tryz.ntmps49
  go_wp2_with fail
  go_quiet ((go_at_call 69; exact Calls.quiet_of_same (har.out _)))
  go_wp2_with fail
  refine (hv.out _).mono ?_
  rintro e w1 ⟨rfl, hB1⟩
  go_wp2
  go_ret
  exact ⟨rfl, (below_drewN ((Below.refl _ _).alloc (Nat.le_refl _) _) _).trans (hB1.mono (by simp))⟩
end Go.Proofs.YtiffgomkhoalpaaGreatDoor

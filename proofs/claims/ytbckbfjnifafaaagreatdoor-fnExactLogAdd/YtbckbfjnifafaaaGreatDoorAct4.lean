/- An act, whether it is ok, as the specification has it. -/
import Derived.Test.YtbckbfjnifafaaaGreatDoorAct1
namespace Go.Proofs.YtbckbfjnifafaaaGreatDoor
open Go.RowKit
set_option linter.unusedVariables false
set_option linter.unusedSimpArgs false
theorem eqlV0 (k n : Int) (t : ByteArray) (W : World) : (binOp .eql 43 (.agg #[.int .i64 k, .int .i64 n, .string t]) (.agg #[.int .i64 0, .int .i64 0, .string ⟨#[]⟩])).run Tryz.prog W = .ok (.bool (Pl.noVal k n t)) W := by
  unfold Pl.noVal
  cases h1 : (k == 0) <;> cases h2 : (n == 0) <;> cases h3 : t.toList.isEmpty <;> go_simp
theorem act_in (n lo hi : Int) {b : Bool} (h : (decide (lo ≤ n) && decide (n ≤ hi)) = b) (w : World) :
    Calls Tryz.prog 50 #[.int .i64 n, .int .i64 lo, .int .i64 hi] w fun e w' => e = .returned (.bool b) ∧ w' = w := by
  have := in_any n lo hi w
  rw [h] at this
  exact this
theorem specV_at (vk vn : Int) (vt : ByteArray) (ht : vt.size ≤ maxLen) {b : Bool} (h : Pl.okB vk vn vt = b) (w : World) :
    Calls Tryz.prog 54 #[vAgg vk vn vt] w fun e w' => e = .returned (.bool b) ∧ Below w.heap.size w w' := by
  have := specValueOk_any vk vn vt ht w
  rw [h] at this
  exact this
set_option maxRecDepth 100000 in
set_option maxHeartbeats 3200000 in
theorem specAct_1 (r p : Int) (nm : ByteArray) (o : Bool) (vk vn : Int) (vt : ByteArray) (m : Int) (hn : nm.size ≤ maxLen) (ht : vt.size ≤ maxLen) (w : World) :
    Calls Tryz.prog 37 #[actV 1 r p nm o vk vn vt m] w fun e w' => e = .returned (.bool (Pl.actB 1 r p nm o vk vn vt m)) ∧ Below w.heap.size w w' := by
  have hE := eqlV0 vk vn vt
  have hx : Hid (∀ b, Pl.nameB nm = b → ∀ w : World, Calls Tryz.prog 53 #[.string nm] w fun e w' => e = .returned (.bool b) ∧ Below w.heap.size w w') := fun b h w => l1Name_at nm hn h w
  have hy : Hid (∀ b, Pl.okB vk vn vt = b → ∀ w : World, Calls Tryz.prog 54 #[vAgg vk vn vt] w fun e w' => e = .returned (.bool b) ∧ Below w.heap.size w w') := fun b h w => specV_at vk vn vt ht h w
  have hz : Hid (∀ w : World, Calls Tryz.prog 50 #[.int .i64 r, .int .i64 0, .int .i64 7] w fun e w' => e = .returned (.bool (Pl.runB r)) ∧ w' = w) := fun w => act_in r 0 7 rfl w
  have HR : Hid (Pl.actB 1 r p nm o vk vn vt m = ((r == 0 && (p == 0 && (o && m == 0))) && (Pl.nameB nm && Pl.okB vk vn vt))) := rfl
  generalize Pl.actB 1 r p nm o vk vn vt m = rb at *
  generalize Pl.noVal vk vn vt = v0 at *
  generalize Pl.nameB nm = nb at *
  generalize Pl.okB vk vn vt = ob at *
  generalize Pl.runB r = ub at *
  have hpl := hide (hx.out nb rfl)
  have hv := hide (hy.out ob rfl)
  clear hx hy hn ht
  cases q1 : (r == 0)
  · rw [q1] at HR
    go_enter Tryz.func37, Tryz.ntmps37
    go_wp2_with fail
    refine (hz.out _).mono ?_
    rintro e w1 ⟨rfl, rfl⟩
    go_wp2
    go_ret
    exact ⟨by rw [HR.out]; rfl, (Below.refl _ _).alloc (Nat.le_refl _) _⟩
  cases q2 : (p == 0)
  · rw [q1, q2] at HR
    go_enter Tryz.func37, Tryz.ntmps37
    go_wp2_with fail
    refine (hz.out _).mono ?_
    rintro e w1 ⟨rfl, rfl⟩
    go_wp2
    go_ret
    exact ⟨by rw [HR.out]; rfl, (Below.refl _ _).alloc (Nat.le_refl _) _⟩
  rw [q1, q2] at HR
  go_enter Tryz.func37, Tryz.ntmps37
  go_wp2_with fail
  refine (hz.out _).mono ?_
  rintro e w1 ⟨rfl, rfl⟩
  go_wp2_with fail
  refine (hpl.out _).mono ?_
  rintro e w1 ⟨rfl, hB1⟩
  obtain ⟨z, c0, c1, c2, c3, c4, c5, c6, c7, c8⟩ := BoxNine.mk hB1
  have HB1 := hide (below_box1 hB1)
  have HX1 := hide (BoxNine.mk hB1)
  clear hB1 hz hpl
  cases nb
  · go_wp2
    go_ret
    exact ⟨by rw [HR.out]; cases o <;> cases (m == 0) <;> rfl, HB1.out⟩
  cases o
  · go_wp2
    go_ret
    exact ⟨by rw [HR.out]; rfl, HB1.out⟩
  go_wp2_with fail
  refine (hv.out _).mono ?_
  rintro e w2 ⟨rfl, hB2⟩
  have HX2 := hide (HX1.out.later hB2)
  have HB2 := hide (HB1.out.trans (hB2.mono HB1.out.size))
  clear hB2 HX1 HB1 z c0 c1 c2 c3 c4 c5 c6 c7 c8
  obtain ⟨z, c0, c1, c2, c3, c4, c5, c6, c7, c8⟩ := HX2.out
  cases q3 : (m == 0) <;> rw [q3] at HR <;> cases ob
  all_goals
    go_wp2
    go_ret
    exact ⟨by rw [HR.out]; rfl, HB2.out⟩
set_option maxRecDepth 100000 in
set_option maxHeartbeats 3200000 in
theorem specAct_2 (r p : Int) (nm : ByteArray) (o : Bool) (vk vn : Int) (vt : ByteArray) (m : Int) (hn : nm.size ≤ maxLen) (ht : vt.size ≤ maxLen) (w : World) :
    Calls Tryz.prog 37 #[actV 2 r p nm o vk vn vt m] w fun e w' => e = .returned (.bool (Pl.actB 2 r p nm o vk vn vt m)) ∧ Below w.heap.size w w' := by
  have hE := eqlV0 vk vn vt
  have hx : Hid (∀ b, Pl.nameB nm = b → ∀ w : World, Calls Tryz.prog 53 #[.string nm] w fun e w' => e = .returned (.bool b) ∧ Below w.heap.size w w') := fun b h w => l1Name_at nm hn h w
  have hy : Hid (∀ b, Pl.okB vk vn vt = b → ∀ w : World, Calls Tryz.prog 54 #[vAgg vk vn vt] w fun e w' => e = .returned (.bool b) ∧ Below w.heap.size w w') := fun b h w => specV_at vk vn vt ht h w
  have hz : Hid (∀ w : World, Calls Tryz.prog 50 #[.int .i64 r, .int .i64 0, .int .i64 7] w fun e w' => e = .returned (.bool (Pl.runB r)) ∧ w' = w) := fun w => act_in r 0 7 rfl w
  have HR : Hid (Pl.actB 2 r p nm o vk vn vt m = ((p == 0 && (o && m == 0)) && (Pl.runB r && (Pl.nameB nm && Pl.okB vk vn vt)))) := rfl
  generalize Pl.actB 2 r p nm o vk vn vt m = rb at *
  generalize Pl.noVal vk vn vt = v0 at *
  generalize Pl.nameB nm = nb at *
  generalize Pl.okB vk vn vt = ob at *
  generalize Pl.runB r = ub at *
  have hpl := hide (hx.out nb rfl)
  have hv := hide (hy.out ob rfl)
  clear hx hy hn ht
  cases ub
  · go_enter Tryz.func37, Tryz.ntmps37
    go_wp2_with fail
    refine (hz.out _).mono ?_
    rintro e w1 ⟨rfl, rfl⟩
    go_wp2
    go_ret
    exact ⟨by rw [HR.out]; cases (p == 0) <;> cases o <;> cases (m == 0) <;> rfl, (Below.refl _ _).alloc (Nat.le_refl _) _⟩
  cases q2 : (p == 0)
  · rw [q2] at HR
    go_enter Tryz.func37, Tryz.ntmps37
    go_wp2_with fail
    refine (hz.out _).mono ?_
    rintro e w1 ⟨rfl, rfl⟩
    go_wp2
    go_ret
    exact ⟨by rw [HR.out]; rfl, (Below.refl _ _).alloc (Nat.le_refl _) _⟩
  rw [q2] at HR
  go_enter Tryz.func37, Tryz.ntmps37
  go_wp2_with fail
  refine (hz.out _).mono ?_
  rintro e w1 ⟨rfl, rfl⟩
  go_wp2_with fail
  refine (hpl.out _).mono ?_
  rintro e w1 ⟨rfl, hB1⟩
  obtain ⟨z, c0, c1, c2, c3, c4, c5, c6, c7, c8⟩ := BoxNine.mk hB1
  have HB1 := hide (below_box1 hB1)
  have HX1 := hide (BoxNine.mk hB1)
  clear hB1 hz hpl
  cases nb
  · go_wp2
    go_ret
    exact ⟨by rw [HR.out]; cases o <;> cases (m == 0) <;> rfl, HB1.out⟩
  cases o
  · go_wp2
    go_ret
    exact ⟨by rw [HR.out]; rfl, HB1.out⟩
  go_wp2_with fail
  refine (hv.out _).mono ?_
  rintro e w2 ⟨rfl, hB2⟩
  have HX2 := hide (HX1.out.later hB2)
  have HB2 := hide (HB1.out.trans (hB2.mono HB1.out.size))
  clear hB2 HX1 HB1 z c0 c1 c2 c3 c4 c5 c6 c7 c8
  obtain ⟨z, c0, c1, c2, c3, c4, c5, c6, c7, c8⟩ := HX2.out
  cases q3 : (m == 0) <;> rw [q3] at HR <;> cases ob
  all_goals
    go_wp2
    go_ret
    exact ⟨by rw [HR.out]; rfl, HB2.out⟩
set_option maxRecDepth 100000 in
set_option maxHeartbeats 3200000 in
theorem specAct_3 (r p : Int) (nm : ByteArray) (o : Bool) (vk vn : Int) (vt : ByteArray) (m : Int) (hn : nm.size ≤ maxLen) (ht : vt.size ≤ maxLen) (w : World) :
    Calls Tryz.prog 37 #[actV 3 r p nm o vk vn vt m] w fun e w' => e = .returned (.bool (Pl.actB 3 r p nm o vk vn vt m)) ∧ Below w.heap.size w w' := by
  have hE := eqlV0 vk vn vt
  have hy : Hid (∀ b, Pl.okB vk vn vt = b → ∀ w : World, Calls Tryz.prog 54 #[vAgg vk vn vt] w fun e w' => e = .returned (.bool b) ∧ Below w.heap.size w w') := fun b h w => specV_at vk vn vt ht h w
  have hz : Hid (∀ w : World, Calls Tryz.prog 50 #[.int .i64 r, .int .i64 0, .int .i64 7] w fun e w' => e = .returned (.bool (Pl.runB r)) ∧ w' = w) := fun w => act_in r 0 7 rfl w
  have hp : Hid (∀ w : World, Calls Tryz.prog 50 #[.int .i64 p, .int .i64 0, .int .i64 39] w fun e w' => e = .returned (.bool (Pl.placeB p)) ∧ w' = w) := fun w => act_in p 0 39 rfl w
  have HR : Hid (Pl.actB 3 r p nm o vk vn vt m = ((nm.toList.isEmpty && m == 0) && (Pl.runB r && (Pl.placeB p && (Pl.okB vk vn vt && (o || Pl.noVal vk vn vt)))))) := rfl
  generalize Pl.actB 3 r p nm o vk vn vt m = rb at *
  generalize Pl.noVal vk vn vt = v0 at *
  generalize Pl.okB vk vn vt = ob at *
  generalize Pl.runB r = ub at *
  generalize Pl.placeB p = pb at *
  have hv := hide (hy.out ob rfl)
  clear hy hn ht
  cases ub
  · go_enter Tryz.func37, Tryz.ntmps37
    go_wp2_with fail
    refine (hz.out _).mono ?_
    rintro e w1 ⟨rfl, rfl⟩
    go_wp2
    go_ret
    exact ⟨by rw [HR.out]; cases nm.toList.isEmpty <;> cases (m == 0) <;> rfl, (Below.refl _ _).alloc (Nat.le_refl _) _⟩
  cases pb
  · go_enter Tryz.func37, Tryz.ntmps37
    go_wp2_with fail
    refine (hz.out _).mono ?_
    rintro e w1 ⟨rfl, rfl⟩
    go_wp2_with fail
    refine (hp.out _).mono ?_
    rintro e w1 ⟨rfl, rfl⟩
    go_wp2
    go_ret
    exact ⟨by rw [HR.out]; cases nm.toList.isEmpty <;> cases (m == 0) <;> rfl, (Below.refl _ _).alloc (Nat.le_refl _) _⟩
  cases q2 : nm.toList.isEmpty
  · rw [q2] at HR
    go_enter Tryz.func37, Tryz.ntmps37
    go_wp2_with fail
    refine (hz.out _).mono ?_
    rintro e w1 ⟨rfl, rfl⟩
    go_wp2_with fail
    refine (hp.out _).mono ?_
    rintro e w1 ⟨rfl, rfl⟩
    go_wp2
    go_ret
    exact ⟨by rw [HR.out]; rfl, (Below.refl _ _).alloc (Nat.le_refl _) _⟩
  rw [q2] at HR
  go_enter Tryz.func37, Tryz.ntmps37
  go_wp2_with fail
  refine (hz.out _).mono ?_
  rintro e w1 ⟨rfl, rfl⟩
  go_wp2_with fail
  refine (hp.out _).mono ?_
  rintro e w1 ⟨rfl, rfl⟩
  go_wp2_with fail
  refine (hv.out _).mono ?_
  rintro e w1 ⟨rfl, hB1⟩
  obtain ⟨z, c0, c1, c2, c3, c4, c5, c6, c7, c8⟩ := BoxNine.mk hB1
  have HB1 := hide (below_box1 hB1)
  clear hB1 hz hp hv
  cases q3 : (m == 0) <;> rw [q3] at HR <;> cases ob <;> cases o <;> cases v0
  all_goals
    go_wp2
    go_ret
    exact ⟨by rw [HR.out]; rfl, HB1.out⟩
set_option maxRecDepth 100000 in
set_option maxHeartbeats 3200000 in
theorem specAct_4 (r p : Int) (nm : ByteArray) (o : Bool) (vk vn : Int) (vt : ByteArray) (m : Int) (w : World) :
    Calls Tryz.prog 37 #[actV 4 r p nm o vk vn vt m] w fun e w' => e = .returned (.bool (Pl.actB 4 r p nm o vk vn vt m)) ∧ Below w.heap.size w w' := by
  have hE := eqlV0 vk vn vt
  have hz : Hid (∀ w : World, Calls Tryz.prog 50 #[.int .i64 r, .int .i64 0, .int .i64 7] w fun e w' => e = .returned (.bool (Pl.runB r)) ∧ w' = w) := fun w => act_in r 0 7 rfl w
  have HR : Hid (Pl.actB 4 r p nm o vk vn vt m = ((p == 0 && (nm.toList.isEmpty && (o && (Pl.noVal vk vn vt && m == 0)))) && Pl.runB r)) := rfl
  generalize Pl.actB 4 r p nm o vk vn vt m = rb at *
  generalize Pl.noVal vk vn vt = v0 at *
  generalize Pl.runB r = ub at *
  cases ub <;> cases q2 : (p == 0) <;> cases q3 : nm.toList.isEmpty <;> rw [q2, q3] at HR <;> cases o <;> cases v0
  all_goals
    go_enter Tryz.func37, Tryz.ntmps37
    go_wp2_with fail
    refine (hz.out _).mono ?_
    rintro e w1 ⟨rfl, rfl⟩
    go_wp2
    go_ret
    exact ⟨by rw [HR.out]; first | rfl | (cases (m == 0) <;> rfl), (Below.refl _ _).alloc (Nat.le_refl _) _⟩
set_option maxRecDepth 100000 in
set_option maxHeartbeats 3200000 in
theorem specAct_5 (r p : Int) (nm : ByteArray) (o : Bool) (vk vn : Int) (vt : ByteArray) (m : Int) (w : World) :
    Calls Tryz.prog 37 #[actV 5 r p nm o vk vn vt m] w fun e w' => e = .returned (.bool (Pl.actB 5 r p nm o vk vn vt m)) ∧ Below w.heap.size w w' := by
  have hE := eqlV0 vk vn vt
  have hz : Hid (∀ w : World, Calls Tryz.prog 50 #[.int .i64 r, .int .i64 0, .int .i64 7] w fun e w' => e = .returned (.bool (Pl.runB r)) ∧ w' = w) := fun w => act_in r 0 7 rfl w
  have hm : Hid (∀ w : World, Calls Tryz.prog 50 #[.int .i64 m, .int .i64 1, .int .i64 1000] w fun e w' => e = .returned (.bool (Pl.tickB m)) ∧ w' = w) := fun w => act_in m 1 1000 rfl w
  have HR : Hid (Pl.actB 5 r p nm o vk vn vt m = ((r == 0 && (p == 0 && (nm.toList.isEmpty && (o && Pl.noVal vk vn vt)))) && Pl.tickB m)) := rfl
  generalize Pl.actB 5 r p nm o vk vn vt m = rb at *
  generalize Pl.noVal vk vn vt = v0 at *
  generalize Pl.runB r = ub at *
  generalize Pl.tickB m = tb at *
  cases q1 : (r == 0) <;> cases q2 : (p == 0) <;> cases q3 : nm.toList.isEmpty <;> rw [q1, q2, q3] at HR <;> cases o <;> cases v0
  all_goals
    go_enter Tryz.func37, Tryz.ntmps37
    go_wp2_with fail
    refine (hz.out _).mono ?_
    rintro e w1 ⟨rfl, rfl⟩
    go_wp2_with (first | (go_at_call 50; refine (hm.out _).mono ?_; rintro e w1 ⟨rfl, rfl⟩))
    go_ret
    exact ⟨by rw [HR.out]; first | rfl | (cases tb <;> rfl), (Below.refl _ _).alloc (Nat.le_refl _) _⟩
set_option maxRecDepth 100000 in
set_option maxHeartbeats 1600000 in
theorem specAct_no (k r p : Int) (nm : ByteArray) (o : Bool) (vk vn : Int) (vt : ByteArray) (m : Int) (hk : ¬ (1 ≤ k ∧ k ≤ 5)) (w : World) :
    Calls Tryz.prog 37 #[actV k r p nm o vk vn vt m] w fun e w' => e = .returned (.bool false) ∧ Below w.heap.size w w' := by
  have hE := eqlV0 vk vn vt
  have hz : Hid (∀ w : World, Calls Tryz.prog 50 #[.int .i64 r, .int .i64 0, .int .i64 7] w fun e w' => e = .returned (.bool (Pl.runB r)) ∧ w' = w) := fun w => act_in r 0 7 rfl w
  generalize Pl.noVal vk vn vt = v0 at *
  generalize Pl.runB r = ub at *
  have q1 : (k == 1) = false := by simp; omega
  have q2 : (k == 2) = false := by simp; omega
  have q3 : (k == 3) = false := by simp; omega
  have q4 : (k == 4) = false := by simp; omega
  have q5 : (k == 5) = false := by simp; omega
  clear hk
  go_enter Tryz.func37, Tryz.ntmps37
  go_wp2_with fail
  refine (hz.out _).mono ?_
  rintro e w1 ⟨rfl, rfl⟩
  go_wp2
  go_ret
  exact ⟨rfl, (Below.refl _ _).alloc (Nat.le_refl _) _⟩
theorem specActOk_any (k r p : Int) (nm : ByteArray) (o : Bool) (vk vn : Int) (vt : ByteArray) (m : Int) (hn : nm.size ≤ maxLen) (ht : vt.size ≤ maxLen) (w : World) :
    Calls Tryz.prog 37 #[actV k r p nm o vk vn vt m] w fun e w' => e = .returned (.bool (Pl.actB k r p nm o vk vn vt m)) ∧ Below w.heap.size w w' := by
  by_cases hk : 1 ≤ k ∧ k ≤ 5
  · have : k = 1 ∨ k = 2 ∨ k = 3 ∨ k = 4 ∨ k = 5 := by omega
    rcases this with rfl | rfl | rfl | rfl | rfl
    · exact specAct_1 r p nm o vk vn vt m hn ht w
    · exact specAct_2 r p nm o vk vn vt m hn ht w
    · exact specAct_3 r p nm o vk vn vt m hn ht w
    · exact specAct_4 r p nm o vk vn vt m w
    · exact specAct_5 r p nm o vk vn vt m w
  · have : Pl.actB k r p nm o vk vn vt m = false := by
      unfold Pl.actB
      rw [if_neg (by omega), if_neg (by omega), if_neg (by omega), if_neg (by omega), if_neg (by omega)]
    rw [this]
    exact specAct_no k r p nm o vk vn vt m hk w
end Go.Proofs.YtbckbfjnifafaaaGreatDoor

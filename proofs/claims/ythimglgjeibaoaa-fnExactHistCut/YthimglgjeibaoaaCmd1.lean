/- Something that is asked for: counted and copied by the laws, and whether it is ok, of model and program. -/
import Derived.Test.YthimglgjeibaoaaNmAt
namespace Go.Proofs.Ythimglgjeibaoaa
open Go.RowKit
set_option linter.unusedVariables false
set_option linter.unusedSimpArgs false

abbrev cmdV (k : Int) (nm : ByteArray) (vk vn : Int) (vt : ByteArray) : Value := .agg #[.int .i64 k, .string nm, .int .i64 vk, .int .i64 vn, .string vt]

/-- whether what is asked for is ok, in plain words -/
def Pl.cmdB (k : Int) (nm : ByteArray) (vk vn : Int) (vt : ByteArray) : Bool :=
  if k = 1 ∨ k = 3 then Pl.nameB nm && Pl.okB vk vn vt
  else if k = 2 then nm.toList.isEmpty && (vk == 1 && (decide (0 ≤ vn) && Pl.okB vk vn vt))
  else if k = 4 ∨ k = 5 ∨ k = 6 then nm.toList.isEmpty && Pl.okB vk vn vt
  else false

set_option maxHeartbeats 800000 in
theorem szCmd_at (k : Int) (nm : ByteArray) (vk vn : Int) (vt : ByteArray) (hn : nm.size ≤ maxLen) (ht : vt.size ≤ maxLen) (left : Int) (h0 : 0 ≤ left) (h1 : left ≤ 1048576) (w : World) :
    Calls Try.prog 24 #[cmdV k nm vk vn vt, .int .i64 left] w fun e w' => (∃ r : Int, e = .returned (.int .i64 r) ∧ -1 ≤ r ∧ r ≤ left) ∧ Below w.heap.size w w' := by
  unfold maxLen at hn
  by_cases h2 : left - nm.size < 0
  · go_enter Try.func24, Try.ntmps24
    go_wp2
    go_ret
    exact ⟨⟨-1, rfl, by omega, by omega⟩, (Below.refl _ _).alloc (Nat.le_refl _) _⟩
  · have hv := hide (szValue_at vk vn vt ht (left - nm.size) (by omega) (by omega))
    go_enter Try.func24, Try.ntmps24
    go_wp2_with fail
    refine (hv.out _).mono ?_
    rintro e w1 ⟨rfl, hB1⟩
    have HB : Below w.heap.size w w1 := ((Below.refl _ _).alloc (Nat.le_refl _) _).trans (hB1.mono (by simp))
    clear hB1 hv
    by_cases h3 : left - nm.size - vt.size < 0
    · rw [if_pos h3]
      go_wp2
      go_ret
      exact ⟨⟨-1, rfl, by omega, by omega⟩, HB⟩
    · rw [if_neg h3]
      go_wp2
      go_ret
      exact ⟨⟨_, rfl, by omega, by omega⟩, HB⟩

set_option maxHeartbeats 800000 in
theorem toCmd_any (k : Int) (nm : ByteArray) (vk vn : Int) (vt : ByteArray) (w : World) :
    Calls Try.prog 31 #[cmdV k nm vk vn vt] w fun e w' => e = .returned (cmdV k nm vk vn vt) ∧ Below w.heap.size w w' := by
  have hv := hide (toValue_any vk vn vt)
  go_enter Try.func31, Try.ntmps31
  go_wp2_with fail
  refine (hv.out _).mono ?_
  rintro e w1 ⟨rfl, hB1⟩
  obtain ⟨b0, b1, b2, hsz, HB⟩ := boxes3 hB1
  clear hB1 hv
  have o0 : w1.cell? ⟨w.heap.size + 1 + 1, 0, none⟩ = some (.int .i64 k) := cell_of_block b2 0
  have o1 : w1.cell? ⟨w.heap.size + 1 + 1, 1, none⟩ = some (.string nm) := cell_of_block b2 1
  have o2 : w1.cell? ⟨w.heap.size + 1 + 1, 2, none⟩ = some (.int .i64 0) := cell_of_block b2 2
  have o3 : w1.cell? ⟨w.heap.size + 1 + 1, 3, none⟩ = some (.int .i64 0) := cell_of_block b2 3
  have o4 : w1.cell? ⟨w.heap.size + 1 + 1, 4, none⟩ = some (.string ⟨#[]⟩) := cell_of_block b2 4
  have f2 := free_of_block b2 2
  have f3 := free_of_block b2 3
  have f4 := free_of_block b2 4
  have p0 : w1.cell? ⟨w.heap.size + 1, 0, none⟩ = some (.int .i64 0) := cell_of_block b1 0
  have p1 : w1.cell? ⟨w.heap.size + 1, 1, none⟩ = some (.string ⟨#[]⟩) := cell_of_block b1 1
  have p2 : w1.cell? ⟨w.heap.size + 1, 2, none⟩ = some (.int .i64 0) := cell_of_block b1 2
  have p3 : w1.cell? ⟨w.heap.size + 1, 3, none⟩ = some (.int .i64 0) := cell_of_block b1 3
  have p4 : w1.cell? ⟨w.heap.size + 1, 4, none⟩ = some (.string ⟨#[]⟩) := cell_of_block b1 4
  have g0 := free_of_block b1 0
  have g1 := free_of_block b1 1
  have g2 := free_of_block b1 2
  have g3 := free_of_block b1 3
  have g4 := free_of_block b1 4
  have HBB := hide HB
  have BB1 := hide b1
  clear b0 b1 b2 HB
  go_wp2
  generalize hW : ((((((((w1.setCell ⟨w.heap.size + 1 + 1, 2, none⟩ (.int .i64 vk)).setCell ⟨w.heap.size + 1 + 1, 3, none⟩ (.int .i64 vn)).setCell ⟨w.heap.size + 1 + 1, 4, none⟩ (.string vt)).setCell ⟨w.heap.size + 1, 0, none⟩ (.int .i64 k)).setCell ⟨w.heap.size + 1, 1, none⟩ (.string nm)).setCell ⟨w.heap.size + 1, 2, none⟩ (.int .i64 vk)).setCell ⟨w.heap.size + 1, 3, none⟩ (.int .i64 vn)).setCell ⟨w.heap.size + 1, 4, none⟩ (.string vt)) = W9
  have hbl : Below w.heap.size w W9 := by
    rw [← hW]
    refine (((((((HBB.out.setCell ?_ _).setCell ?_ _).setCell ?_ _).setCell ?_ _).setCell ?_ _).setCell ?_ _).setCell ?_ _).setCell ?_ _ <;> (simp only; omega)
  have hbk : W9.heap[w.heap.size + 1]? = some (.cells #[.int .i64 k, .string nm, .int .i64 vk, .int .i64 vn, .string vt] 42 (0, 0)) := by
    have h0 : (((w1.setCell ⟨w.heap.size + 1 + 1, 2, none⟩ (.int .i64 vk)).setCell ⟨w.heap.size + 1 + 1, 3, none⟩ (.int .i64 vn)).setCell ⟨w.heap.size + 1 + 1, 4, none⟩ (.string vt)).heap[w.heap.size + 1]? = some (.cells #[.int .i64 0, .string ⟨#[]⟩, .int .i64 0, .int .i64 0, .string ⟨#[]⟩] 42 (0, 0)) := by
      rw [Below.heap_setCell _ _ _ _ (by simp only; omega), Below.heap_setCell _ _ _ _ (by simp only; omega), Below.heap_setCell _ _ _ _ (by simp only; omega)]; exact BB1.out
    rw [← hW, block_set (block_set (block_set (block_set (block_set h0 0 _) 1 _) 2 _) 3 _) 4 _]
    rfl
  clear hW
  have c0 := cell_of_block hbk 0
  have c1 := cell_of_block hbk 1
  have c2 := cell_of_block hbk 2
  have c3 := cell_of_block hbk 3
  have c4 := cell_of_block hbk 4
  simp only [List.getElem?_toArray, List.getElem?_cons_zero, List.getElem?_cons_succ] at c0 c1 c2 c3 c4
  exact bodyPost_ret (v := cmdV k nm vk vn vt) (by simp [results, Try.results31, go_sem, c0, c1, c2, c3, c4]) rfl ⟨rfl, hbl⟩

theorem Pl.ok_range {n : Int} {t : ByteArray} (h : ¬ n ≤ 1000000000) : Pl.okB 1 n t = false := by simp [Pl.okB, h]
theorem Pl.cmd_call {k : Int} (nm : ByteArray) (vk vn : Int) (vt : ByteArray) (h : k = 1 ∨ k = 3) : Pl.cmdB k nm vk vn vt = (Pl.nameB nm && Pl.okB vk vn vt) := by unfold Pl.cmdB; rw [if_pos h]
set_option maxHeartbeats 400000 in
theorem isEnd_any (k : Int) (w : World) :
    Calls Try.prog 56 #[.int .i64 k] w fun e w' => e = .returned (.bool (k == 4 || (k == 5 || k == 6))) ∧ w' = w := by
  cases h4 : (k == 4) <;> cases h5 : (k == 5) <;> cases h6 : (k == 6)
  all_goals
    go_enter Try.func56, Try.ntmps56
    go_wp2
    go_ret
    exact ⟨by simp [h4, h5, h6], rfl⟩

set_option maxHeartbeats 1600000 in
theorem implCmdOk_any (k : Int) (nm : ByteArray) (vk vn : Int) (vt : ByteArray) (hn : nm.size ≤ maxLen) (ht : vt.size ≤ maxLen) (w : World) :
    Calls Try.prog 53 #[cmdV k nm vk vn vt] w fun e w' => e = .returned (.bool (Pl.cmdB k nm vk vn vt)) ∧ Below w.heap.size w w' := by
  have hv := hide (implValueOk_any vk vn vt ht)
  by_cases k13 : k = 1 ∨ k = 3
  · have hx : Hid (∀ b, Pl.nameB nm = b → ∀ w : World, Calls Try.prog 62 #[.string nm] w fun e w' => e = .returned (.bool b) ∧ w' = w) := fun b h w => implName_at nm hn h w
    have hp := hide (Pl.cmd_call nm vk vn vt k13)
    cases hb : Pl.nameB nm
    · have hc := hide (hx.out false hb)
      have HB := hide hb
      clear hb hx
      rcases k13 with rfl | rfl
      all_goals
        go_enter Try.func53, Try.ntmps53
        go_wp2_with fail
        refine (hc.out _).mono ?_
        rintro e w1 ⟨rfl, rfl⟩
        go_wp2
        go_ret
        exact ⟨by rw [hp.out, HB.out]; rfl, (Below.refl _ _).alloc (Nat.le_refl _) _⟩
    · have hc := hide (hx.out true hb)
      have HB := hide hb
      clear hb hx
      rcases k13 with rfl | rfl
      all_goals
        go_enter Try.func53, Try.ntmps53
        go_wp2_with fail
        refine (hc.out _).mono ?_
        rintro e w1 ⟨rfl, rfl⟩
        go_wp2_with fail
        refine (hv.out _).mono ?_
        rintro e w1 ⟨rfl, hB1⟩
        go_wp2
        go_ret
        exact ⟨by rw [hp.out, HB.out]; rfl, below_box1 hB1⟩
  · by_cases k2 : k = 2
    · subst k2
      have hp : Hid (Pl.cmdB 2 nm vk vn vt = (nm.toList.isEmpty && (vk == 1 && (decide (0 ≤ vn) && Pl.okB vk vn vt)))) := by show _ = _; simp [Pl.cmdB]
      clear k13
      cases he : nm.toList.isEmpty
      · go_enter Try.func53, Try.ntmps53
        go_wp2
        go_ret
        exact ⟨by rw [hp.out, he]; rfl, (Below.refl _ _).alloc (Nat.le_refl _) _⟩
      · cases hk : (vk == 1)
        · go_enter Try.func53, Try.ntmps53
          go_wp2
          go_ret
          exact ⟨by rw [hp.out, he, hk]; rfl, (Below.refl _ _).alloc (Nat.le_refl _) _⟩
        · by_cases h0 : 0 ≤ vn
          · go_enter Try.func53, Try.ntmps53
            go_wp2_with fail
            refine (hv.out _).mono ?_
            rintro e w1 ⟨rfl, hB1⟩
            go_wp2
            go_ret
            exact ⟨by rw [hp.out, he, hk]; simp [h0], below_box1 hB1⟩
          · go_enter Try.func53, Try.ntmps53
            go_wp2
            go_ret
            exact ⟨by rw [hp.out, he, hk, show decide (0 ≤ vn) = false from decide_eq_false (by omega)]; rfl, (Below.refl _ _).alloc (Nat.le_refl _) _⟩
    · have q1 : (k == 1) = false := by simp; omega
      have q2 : (k == 2) = false := by simp; omega
      have q3 : (k == 3) = false := by simp; omega
      by_cases k4 : k = 4 ∨ k = 5 ∨ k = 6
      · have hp : Hid (Pl.cmdB k nm vk vn vt = (nm.toList.isEmpty && Pl.okB vk vn vt)) := by show _ = _; rw [Pl.cmdB, if_neg k13, if_neg k2, if_pos k4]
        have hi : Hid (∀ w : World, Calls Try.prog 56 #[.int .i64 k] w fun e w' => e = .returned (.bool true) ∧ w' = w) := by
          intro w
          have := isEnd_any k w
          rwa [show (k == 4 || (k == 5 || k == 6)) = true by rcases k4 with rfl | rfl | rfl <;> rfl] at this
        clear k13 k2 k4
        cases he : nm.toList.isEmpty
        · go_enter Try.func53, Try.ntmps53
          go_wp2_with fail
          refine (hi.out _).mono ?_
          rintro e w1 ⟨rfl, rfl⟩
          go_wp2
          go_ret
          exact ⟨by rw [hp.out, he]; rfl, (Below.refl _ _).alloc (Nat.le_refl _) _⟩
        · go_enter Try.func53, Try.ntmps53
          go_wp2_with fail
          refine (hi.out _).mono ?_
          rintro e w1 ⟨rfl, rfl⟩
          go_wp2_with fail
          refine (hv.out _).mono ?_
          rintro e w1 ⟨rfl, hB1⟩
          go_wp2
          go_ret
          exact ⟨by rw [hp.out, he]; rfl, below_box1 hB1⟩
      · have hp : Hid (Pl.cmdB k nm vk vn vt = false) := by show _ = _; rw [Pl.cmdB, if_neg k13, if_neg k2, if_neg k4]
        have hi : Hid (∀ w : World, Calls Try.prog 56 #[.int .i64 k] w fun e w' => e = .returned (.bool false) ∧ w' = w) := by
          intro w
          have := isEnd_any k w
          rwa [show (k == 4 || (k == 5 || k == 6)) = false by simp; omega] at this
        clear k13 k2 k4
        go_enter Try.func53, Try.ntmps53
        go_wp2_with fail
        refine (hi.out _).mono ?_
        rintro e w1 ⟨rfl, rfl⟩
        go_wp2
        go_ret
        exact ⟨by rw [hp.out]; rfl, (Below.refl _ _).alloc (Nat.le_refl _) _⟩

set_option maxHeartbeats 1600000 in
theorem specCmdOk_any (k : Int) (nm : ByteArray) (vk vn : Int) (vt : ByteArray) (hn : nm.size ≤ maxLen) (ht : vt.size ≤ maxLen) (w : World) :
    Calls Try.prog 44 #[cmdV k nm vk vn vt] w fun e w' => e = .returned (.bool (Pl.cmdB k nm vk vn vt)) ∧ Below w.heap.size w w' := by
  have hv := hide (specValueOk_any vk vn vt ht)
  by_cases k13 : k = 1 ∨ k = 3
  · have hx : Hid (∀ b, Pl.nameB nm = b → ∀ w : World, Calls Try.prog 59 #[.string nm] w fun e w' => e = .returned (.bool b) ∧ Below w.heap.size w w') := fun b h w => l1Name_at nm hn h w
    have hp := hide (Pl.cmd_call nm vk vn vt k13)
    cases hb : Pl.nameB nm
    · have hc := hide (hx.out false hb)
      have HB := hide hb
      clear hb hx
      rcases k13 with rfl | rfl
      all_goals
        go_enter Try.func44, Try.ntmps44
        go_wp2_with fail
        refine (hc.out _).mono ?_
        rintro e w1 ⟨rfl, hB1⟩
        go_wp2
        go_ret
        exact ⟨by rw [hp.out, HB.out]; rfl, below_box1 hB1⟩
    · have hc := hide (hx.out true hb)
      have HB := hide hb
      clear hb hx
      rcases k13 with rfl | rfl
      all_goals
        go_enter Try.func44, Try.ntmps44
        go_wp2_with fail
        refine (hc.out _).mono ?_
        rintro e w1 ⟨rfl, hB1⟩
        obtain ⟨c0, c1, c2, c3, c4⟩ := box5 hB1 (by simp)
        have hs1 : w.heap.size < w1.heap.size := by have := hB1.size; simp at this; omega
        have HB1 := hide hB1
        clear hB1
        go_wp2_with fail
        refine (hv.out _).mono ?_
        rintro e w2 ⟨rfl, hB2⟩
        go_wp2
        go_ret
        exact ⟨by rw [hp.out, HB.out]; rfl, (below_box1 HB1.out).trans (hB2.mono (by omega))⟩
  · by_cases k2 : k = 2
    · subst k2
      have hp : Hid (Pl.cmdB 2 nm vk vn vt = (nm.toList.isEmpty && (vk == 1 && (decide (0 ≤ vn) && Pl.okB vk vn vt)))) := by show _ = _; simp [Pl.cmdB]
      clear k13
      cases he : nm.toList.isEmpty
      · go_enter Try.func44, Try.ntmps44
        go_wp2
        go_ret
        exact ⟨by rw [hp.out, he]; rfl, (Below.refl _ _).alloc (Nat.le_refl _) _⟩
      · cases hk : (vk == 1)
        · go_enter Try.func44, Try.ntmps44
          go_wp2
          go_ret
          exact ⟨by rw [hp.out, he, hk]; rfl, (Below.refl _ _).alloc (Nat.le_refl _) _⟩
        · by_cases h0 : 0 ≤ vn
          · by_cases h1 : vn ≤ 1000000000
            · have hi : Hid (∀ w : World, Calls Try.prog 28 #[.int .i64 vn, .int .i64 0, .int .i64 1000000000] w fun e w' => e = .returned (.bool true) ∧ w' = w) := by
                intro w
                have := in_any vn 0 1000000000 w
                rwa [show (decide (0 ≤ vn) && decide (vn ≤ 1000000000)) = true by simp [h0, h1]] at this
              go_enter Try.func44, Try.ntmps44
              go_wp2_with fail
              refine (hi.out _).mono ?_
              rintro e w1 ⟨rfl, rfl⟩
              go_wp2_with fail
              refine (hv.out _).mono ?_
              rintro e w1 ⟨rfl, hB1⟩
              go_wp2
              go_ret
              exact ⟨by rw [hp.out, he, hk]; simp [h0], below_box1 hB1⟩
            · have hi : Hid (∀ w : World, Calls Try.prog 28 #[.int .i64 vn, .int .i64 0, .int .i64 1000000000] w fun e w' => e = .returned (.bool false) ∧ w' = w) := by
                intro w
                have := in_any vn 0 1000000000 w
                rwa [show (decide (0 ≤ vn) && decide (vn ≤ 1000000000)) = false by simp [h0, h1]] at this
              have hk1 : vk = 1 := by simpa using hk
              have hq : Hid (Pl.okB vk vn vt = false) := by show _ = _; rw [hk1]; exact Pl.ok_range h1
              clear hk1
              go_enter Try.func44, Try.ntmps44
              go_wp2_with fail
              refine (hi.out _).mono ?_
              rintro e w1 ⟨rfl, rfl⟩
              go_wp2
              go_ret
              exact ⟨by rw [hp.out, he, hk, hq.out]; simp, (Below.refl _ _).alloc (Nat.le_refl _) _⟩
          · have hi : Hid (∀ w : World, Calls Try.prog 28 #[.int .i64 vn, .int .i64 0, .int .i64 1000000000] w fun e w' => e = .returned (.bool false) ∧ w' = w) := by
              intro w
              have := in_any vn 0 1000000000 w
              rwa [show (decide (0 ≤ vn) && decide (vn ≤ 1000000000)) = false by simp [h0]] at this
            go_enter Try.func44, Try.ntmps44
            go_wp2_with fail
            refine (hi.out _).mono ?_
            rintro e w1 ⟨rfl, rfl⟩
            go_wp2
            go_ret
            exact ⟨by rw [hp.out, he, hk, show decide (0 ≤ vn) = false from decide_eq_false (by omega)]; rfl, (Below.refl _ _).alloc (Nat.le_refl _) _⟩
    · have q1 : (k == 1) = false := by simp; omega
      have q2 : (k == 2) = false := by simp; omega
      have q3 : (k == 3) = false := by simp; omega
      by_cases k4 : k = 4 ∨ k = 5 ∨ k = 6
      · have hp : Hid (Pl.cmdB k nm vk vn vt = (nm.toList.isEmpty && Pl.okB vk vn vt)) := by show _ = _; rw [Pl.cmdB, if_neg k13, if_neg k2, if_pos k4]
        clear k13 k2
        cases he : nm.toList.isEmpty
        · rcases k4 with rfl | rfl | rfl
          all_goals
            go_enter Try.func44, Try.ntmps44
            go_wp2
            go_ret
            exact ⟨by rw [hp.out, he]; rfl, (Below.refl _ _).alloc (Nat.le_refl _) _⟩
        · rcases k4 with rfl | rfl | rfl
          all_goals
            go_enter Try.func44, Try.ntmps44
            go_wp2_with fail
            refine (hv.out _).mono ?_
            rintro e w1 ⟨rfl, hB1⟩
            go_wp2
            go_ret
            exact ⟨by rw [hp.out, he]; rfl, below_box1 hB1⟩
      · have hp : Hid (Pl.cmdB k nm vk vn vt = false) := by show _ = _; rw [Pl.cmdB, if_neg k13, if_neg k2, if_neg k4]
        have q4 : (k == 4) = false := by simp; omega
        have q5 : (k == 5) = false := by simp; omega
        have q6 : (k == 6) = false := by simp; omega
        clear k13 k2 k4
        go_enter Try.func44, Try.ntmps44
        go_wp2
        go_ret
        exact ⟨by rw [hp.out]; rfl, (Below.refl _ _).alloc (Nat.le_refl _) _⟩
end Go.Proofs.Ythimglgjeibaoaa

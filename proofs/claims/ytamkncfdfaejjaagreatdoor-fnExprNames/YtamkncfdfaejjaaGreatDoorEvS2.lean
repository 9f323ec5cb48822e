/- What an expression is, as the specification has it: two values together. -/
import Derived.Test.YtamkncfdfaejjaaGreatDoorEvS1
import Derived.Test.YtamkncfdfaejjaaGreatDoorTree
import Derived.Test.YtamkncfdfaejjaaGreatDoorBx
import Derived.Deep.RegionWith
import Derived.Deep.QuietTactic
import Derived.BigQuiet
namespace Go.Proofs.YtamkncfdfaejjaaGreatDoor
open Go.RowKit
set_option linter.unusedVariables false
set_option linter.unusedSimpArgs false
theorem eqlTwo (ak an : Int) (at' : ByteArray) (bk bn : Int) (bt : ByteArray) (W : World) : (binOp .eql 30 (.agg #[.int .i64 ak, .int .i64 an, .string at']) (.agg #[.int .i64 bk, .int .i64 bn, .string bt])).run Tryz.prog W = .ok (.bool (Pl.sameA ⟨ak, an, at'⟩ ⟨bk, bn, bt⟩)) W := by
  unfold Pl.sameA
  cases q0 : (ak == bk)
  · go_simp
  cases q1 : (an == bn)
  · go_simp
  cases q2 : (at'.toList == bt.toList)
  · go_simp
  go_simp
def TwoPost (r : Option Va) (w : World) (e : Ending) (w' : World) : Prop := (∃ x : Va, e = .returned (.tuple #[vaV x, .bool r.isSome]) ∧ ∀ v, r = some v → x = v) ∧ Below w.heap.size w w'
theorem es3 {W : World} {b : Nat} {x y z : Value} {T : TypeId} (h : W.heap[b]? = some (.cells #[x, y, z] T (0, 0))) (u0 u1 u2 : Value) :
    (((W.setCell ⟨b, 0, none⟩ u0).setCell ⟨b, 1, none⟩ u1).setCell ⟨b, 2, none⟩ u2).cell? ⟨b, 0, none⟩ = some u0 ∧ (((W.setCell ⟨b, 0, none⟩ u0).setCell ⟨b, 1, none⟩ u1).setCell ⟨b, 2, none⟩ u2).cell? ⟨b, 1, none⟩ = some u1 ∧ (((W.setCell ⟨b, 0, none⟩ u0).setCell ⟨b, 1, none⟩ u1).setCell ⟨b, 2, none⟩ u2).cell? ⟨b, 2, none⟩ = some u2 := by
  have hb := block_set (block_set (block_set h 0 u0) 1 u1) 2 u2
  exact ⟨cell_of_block hb 0, cell_of_block hb 1, cell_of_block hb 2⟩
theorem below_es3 {w W : World} {b : Nat} (h : Below w.heap.size w W) (hb : w.heap.size ≤ b) (u0 u1 u2 : Value) : Below w.heap.size w (((W.setCell ⟨b, 0, none⟩ u0).setCell ⟨b, 1, none⟩ u1).setCell ⟨b, 2, none⟩ u2) :=
  ((h.setCell (p := ⟨b, 0, none⟩) hb _).setCell (p := ⟨b, 1, none⟩) hb _).setCell (p := ⟨b, 2, none⟩) hb _
theorem undr {n : Nat} {W w1 : World} (h : Below n W.drew w1) : Below n W w1 := ⟨h.os, h.tape, h.output, h.size, h.block⟩
theorem boxes4 {w w1 : World} {A B C D : Obj} (hb : Below ((((w.alloc A).alloc B).alloc C).alloc D).heap.size ((((w.alloc A).alloc B).alloc C).alloc D) w1) :
    w1.heap[w.heap.size + 1 + 1]? = some C ∧ w1.heap[w.heap.size + 1 + 1 + 1]? = some D ∧ w.heap.size + 1 + 1 + 1 + 1 ≤ w1.heap.size ∧ Below w.heap.size w w1 := by
  have e1 : (w.alloc A).heap.size = w.heap.size + 1 := by simp
  have e2 : ((w.alloc A).alloc B).heap.size = w.heap.size + 1 + 1 := by simp
  have e3 : (((w.alloc A).alloc B).alloc C).heap.size = w.heap.size + 1 + 1 + 1 := by simp
  have e4 : ((((w.alloc A).alloc B).alloc C).alloc D).heap.size = w.heap.size + 1 + 1 + 1 + 1 := by simp
  have hs := hb.size
  rw [e4] at hs
  refine ⟨?_, ?_, hs, ?_⟩
  · rw [hb.block _ (by omega), heap_alloc_at, if_neg (by omega), heap_alloc_at, if_pos (by omega)]
  · rw [hb.block _ (by omega), heap_alloc_at, if_pos (by omega)]
  · exact (((((Below.refl _ _).alloc (Nat.le_refl _) A).alloc (by omega) B).alloc (by omega) C).alloc (by omega) D).trans (hb.mono (by omega))
/-- what the third and the fourth box hold -/
theorem boxesN {w w1 : World} {A B : Obj} {x0 x1 x2 y0 y1 y2 : Value} {T : TypeId} (hb : Below ((((w.alloc A).alloc B).alloc (.cells #[x0, x1, x2] T)).alloc (.cells #[y0, y1, y2] T)).heap.size ((((w.alloc A).alloc B).alloc (.cells #[x0, x1, x2] T)).alloc (.cells #[y0, y1, y2] T)) w1) :
    (w1.heap[w.heap.size + 1 + 1]? = some (.cells #[x0, x1, x2] T (0, 0)) ∧ Below w.heap.size w w1) ∧ w1.cell? ⟨w.heap.size + 1 + 1, 0, none⟩ = some x0 ∧ w1.cell? ⟨w.heap.size + 1 + 1, 1, none⟩ = some x1 ∧ w1.cell? ⟨w.heap.size + 1 + 1, 2, none⟩ = some x2 ∧ w1.frozen? ⟨w.heap.size + 1 + 1, 0, none⟩ = false ∧ w1.frozen? ⟨w.heap.size + 1 + 1, 1, none⟩ = false ∧ w1.frozen? ⟨w.heap.size + 1 + 1, 2, none⟩ = false ∧
    w1.cell? ⟨w.heap.size + 1 + 1 + 1, 0, none⟩ = some y0 ∧ w1.cell? ⟨w.heap.size + 1 + 1 + 1, 1, none⟩ = some y1 ∧ w1.cell? ⟨w.heap.size + 1 + 1 + 1, 2, none⟩ = some y2 := by
  obtain ⟨hc, hd, hs, hB⟩ := boxes4 hb
  exact ⟨⟨hc, hB⟩, cell_of_block hc 0, cell_of_block hc 1, cell_of_block hc 2, free_of_block hc 0, free_of_block hc 1, free_of_block hc 2, cell_of_block hd 0, cell_of_block hd 1, cell_of_block hd 2⟩
set_option maxHeartbeats 1600000 in
theorem two_same (ak an : Int) (at' : ByteArray) (bk bn : Int) (bt : ByteArray) (w : World) :
    Calls Tryz.prog 56 #[.int .i64 7, vaV ⟨ak, an, at'⟩, vaV ⟨bk, bn, bt⟩] w (TwoPost (Pl.twoA 7 ⟨ak, an, at'⟩ ⟨bk, bn, bt⟩) w) := by
  have hE := eqlTwo ak an at' bk bn bt
  have hR : Pl.twoA 7 ⟨ak, an, at'⟩ ⟨bk, bn, bt⟩ = some (Pl.truthA (Pl.sameA ⟨ak, an, at'⟩ ⟨bk, bn, bt⟩)) := by unfold Pl.twoA; rw [if_pos rfl]
  rw [hR]
  clear hR
  generalize Pl.sameA ⟨ak, an, at'⟩ ⟨bk, bn, bt⟩ = sb at *
  have hb := hide (l2Bool_any sb)
  obtain ⟨z, hz⟩ : ∃ z : Int, Pl.truthA sb = ⟨1, z, ⟨#[]⟩⟩ := ⟨_, rfl⟩
  rw [hz] at hb ⊢
  clear hz
  go_enter Tryz.func56, Tryz.ntmps56
  go_wp2_with fail
  refine (hb.out _).mono ?_
  rintro e w1 ⟨rfl, hB1⟩
  obtain ⟨b0, b1, b2, hsz, HB⟩ := boxes3 hB1
  have r0 := cell_of_block b2 0
  have r1 := cell_of_block b2 1
  have r2 := cell_of_block b2 2
  have f0 := free_of_block b2 0
  have f1 := free_of_block b2 1
  have f2 := free_of_block b2 2
  simp only [List.getElem?_toArray, List.getElem?_cons_zero, List.getElem?_cons_succ] at r0 r1 r2
  have HBK := hide b2
  have HBL := hide HB
  clear hB1 b0 b1 b2 HB hE
  go_wp2
  obtain ⟨m0, m1, m2⟩ := es3 HBK.out (.int .i64 1) (.int .i64 z) (.string ⟨#[]⟩)
  refine bodyPost_ret (v := .tuple #[vaV ⟨1, z, ⟨#[]⟩⟩, .bool true]) (by simp [results, Tryz.results56, go_sem, m0, m1, m2]) rfl ?_
  exact ⟨⟨_, rfl, fun v hv => by cases hv; rfl⟩, below_es3 HBL.out (by omega) _ _ _⟩
set_option maxHeartbeats 1600000 in
theorem two_text (an : Int) (at' : ByteArray) (bn : Int) (bt : ByteArray) (ha : at'.size ≤ 24) (hb : bt.size ≤ 24) (w : World) :
    Calls Tryz.prog 56 #[.int .i64 3, vaV ⟨2, an, at'⟩, vaV ⟨2, bn, bt⟩] w (TwoPost (Pl.textA (at' ++ bt)) w) := by
  have hv := hide (specValueOk_any 2 0 (at' ++ bt) (by unfold maxLen; simp; omega))
  have hR : Hid (Pl.okB 2 0 (at' ++ bt) = (Pl.textA (at' ++ bt)).isSome ∧ ∀ v, Pl.textA (at' ++ bt) = some v → v = ⟨2, 0, at' ++ bt⟩) := by
    refine ⟨?_, fun v h => (Pl.text_ok h).2⟩
    unfold Pl.textA Pl.okB
    rw [if_neg (by decide), if_neg (by decide), if_pos rfl]
    cases Pl.textB (at' ++ bt) <;> rfl
  rw [hR.out.1] at hv
  generalize Pl.textA (at' ++ bt) = R at *
  go_enter Tryz.func56, Tryz.ntmps56
  go_wp2_with fail
  go_region_with (first | (go_at_call 52; refine (hv.out _).mono ?_; rintro e w1 ⟨rfl, hB1⟩; obtain ⟨⟨hbk, hbl⟩, r0, r1, r2, f0, f1, f2, d0, d1, d2⟩ := boxesN (undr hB1); replace hbk := hide hbk; replace hbl := hide hbl; clear hB1))
  all_goals
    go_wp2
    obtain ⟨m0, m1, m2⟩ := es3 hbk.out (.int .i64 2) (.int .i64 0) (.string (at' ++ bt))
    refine bodyPost_ret (v := .tuple #[vaV ⟨2, 0, at' ++ bt⟩, .bool R.isSome]) (by simp [results, Tryz.results56, go_sem, m0, m1, m2]) rfl ?_
    exact ⟨⟨_, rfl, fun v hv => (hR.out.2 v hv).symm⟩, below_es3 hbl.out (by omega) _ _ _⟩
theorem num_is (n : Int) : Pl.okB 1 n ⟨#[]⟩ = (Pl.numA n).isSome ∧ ∀ v, Pl.numA n = some v → v = ⟨1, n, ⟨#[]⟩⟩ := by
  refine ⟨?_, fun v h => (Pl.num_ok h).2⟩
  unfold Pl.numA Pl.okB
  rw [if_neg (by decide), if_pos rfl, Pl.emp_is]
  cases (decide (-1000000000 ≤ n) && decide (n ≤ 1000000000)) <;> rfl
set_option maxHeartbeats 1600000 in
theorem two_add (an : Int) (at' : ByteArray) (bn : Int) (bt : ByteArray) (hr : -2000000000 ≤ an + bn ∧ an + bn ≤ 2000000000) (w : World) :
    Calls Tryz.prog 56 #[.int .i64 3, vaV ⟨1, an, at'⟩, vaV ⟨1, bn, bt⟩] w (TwoPost (Pl.numA (an + bn)) w) := by
  obtain ⟨lo, hi⟩ := hr
  obtain ⟨n, hn⟩ : ∃ n : Int, n = an + bn := ⟨_, rfl⟩
  rw [← hn] at lo hi ⊢
  have hw : IntKind.i64.wrap (an + bn) = n := by rw [IntKind.wrap_i64, ← hn]; omega
  clear hn
  have hv := hide (specValueOk_any 1 n ⟨#[]⟩ (Nat.zero_le _))
  have hR := hide (num_is n)
  rw [hR.out.1] at hv
  generalize Pl.numA n = R at *
  go_enter Tryz.func56, Tryz.ntmps56
  go_wp2_with fail
  go_region_with (first | (go_at_call 52; refine (hv.out _).mono ?_; rintro e w1 ⟨rfl, hB1⟩; obtain ⟨⟨hbk, hbl⟩, r0, r1, r2, f0, f1, f2, d0, d1, d2⟩ := boxesN (undr hB1); replace hbk := hide hbk; replace hbl := hide hbl; clear hB1))
  all_goals
    go_wp2
    obtain ⟨m0, m1, m2⟩ := es3 hbk.out (.int .i64 1) (.int .i64 n) (.string ⟨#[]⟩)
    refine bodyPost_ret (v := .tuple #[vaV ⟨1, n, ⟨#[]⟩⟩, .bool R.isSome]) (by simp [results, Tryz.results56, go_sem, m0, m1, m2]) rfl ?_
    exact ⟨⟨_, rfl, fun v hv => (hR.out.2 v hv).symm⟩, below_es3 hbl.out (by omega) _ _ _⟩
set_option maxHeartbeats 1600000 in
theorem two_sub (an : Int) (at' : ByteArray) (bn : Int) (bt : ByteArray) (hr : -2000000000 ≤ an - bn ∧ an - bn ≤ 2000000000) (w : World) :
    Calls Tryz.prog 56 #[.int .i64 4, vaV ⟨1, an, at'⟩, vaV ⟨1, bn, bt⟩] w (TwoPost (Pl.numA (an - bn)) w) := by
  obtain ⟨lo, hi⟩ := hr
  obtain ⟨n, hn⟩ : ∃ n : Int, n = an - bn := ⟨_, rfl⟩
  rw [← hn] at lo hi ⊢
  have hw : IntKind.i64.wrap (an - bn) = n := by rw [IntKind.wrap_i64, ← hn]; omega
  clear hn
  have hv := hide (specValueOk_any 1 n ⟨#[]⟩ (Nat.zero_le _))
  have hR := hide (num_is n)
  rw [hR.out.1] at hv
  generalize Pl.numA n = R at *
  go_enter Tryz.func56, Tryz.ntmps56
  go_wp2_with fail
  go_region_with (first | (go_at_call 52; refine (hv.out _).mono ?_; rintro e w1 ⟨rfl, hB1⟩; obtain ⟨⟨hbk, hbl⟩, r0, r1, r2, f0, f1, f2, d0, d1, d2⟩ := boxesN (undr hB1); replace hbk := hide hbk; replace hbl := hide hbl; clear hB1))
  all_goals
    go_wp2
    obtain ⟨m0, m1, m2⟩ := es3 hbk.out (.int .i64 1) (.int .i64 n) (.string ⟨#[]⟩)
    refine bodyPost_ret (v := .tuple #[vaV ⟨1, n, ⟨#[]⟩⟩, .bool R.isSome]) (by simp [results, Tryz.results56, go_sem, m0, m1, m2]) rfl ?_
    exact ⟨⟨_, rfl, fun v hv => (hR.out.2 v hv).symm⟩, below_es3 hbl.out (by omega) _ _ _⟩
set_option maxHeartbeats 1600000 in
theorem two_mul (an : Int) (at' : ByteArray) (bn : Int) (bt : ByteArray) (hr : -1000000000000000000 ≤ an * bn ∧ an * bn ≤ 1000000000000000000) (w : World) :
    Calls Tryz.prog 56 #[.int .i64 5, vaV ⟨1, an, at'⟩, vaV ⟨1, bn, bt⟩] w (TwoPost (Pl.numA (an * bn)) w) := by
  obtain ⟨lo, hi⟩ := hr
  obtain ⟨n, hn⟩ : ∃ n : Int, n = an * bn := ⟨_, rfl⟩
  rw [← hn] at lo hi ⊢
  have hw : IntKind.i64.wrap (an * bn) = n := by rw [IntKind.wrap_i64, ← hn]; omega
  clear hn
  have hv := hide (specValueOk_any 1 n ⟨#[]⟩ (Nat.zero_le _))
  have hR := hide (num_is n)
  rw [hR.out.1] at hv
  generalize Pl.numA n = R at *
  go_enter Tryz.func56, Tryz.ntmps56
  go_wp2_with fail
  go_region_with (first | (go_at_call 52; refine (hv.out _).mono ?_; rintro e w1 ⟨rfl, hB1⟩; obtain ⟨⟨hbk, hbl⟩, r0, r1, r2, f0, f1, f2, d0, d1, d2⟩ := boxesN (undr hB1); replace hbk := hide hbk; replace hbl := hide hbl; clear hB1))
  all_goals
    go_wp2
    obtain ⟨m0, m1, m2⟩ := es3 hbk.out (.int .i64 1) (.int .i64 n) (.string ⟨#[]⟩)
    refine bodyPost_ret (v := .tuple #[vaV ⟨1, n, ⟨#[]⟩⟩, .bool R.isSome]) (by simp [results, Tryz.results56, go_sem, m0, m1, m2]) rfl ?_
    exact ⟨⟨_, rfl, fun v hv => (hR.out.2 v hv).symm⟩, below_es3 hbl.out (by omega) _ _ _⟩
set_option maxHeartbeats 1600000 in
theorem two_less (an : Int) (at' : ByteArray) (bn : Int) (bt : ByteArray) (w : World) :
    Calls Tryz.prog 56 #[.int .i64 6, vaV ⟨1, an, at'⟩, vaV ⟨1, bn, bt⟩] w (TwoPost (some (Pl.truthA (decide (an < bn)))) w) := by
  cases hd : decide (an < bn)
  all_goals
    have hb := hide (l2Bool_any (decide (an < bn)))
    rw [hd] at hb
    obtain ⟨z, hz⟩ : ∃ z : Int, Pl.truthA (decide (an < bn)) = ⟨1, z, ⟨#[]⟩⟩ := ⟨_, rfl⟩
    rw [hd] at hz
    rw [hz] at hb ⊢
    have hlt := hd
    simp at hlt
    clear hz
    go_enter Tryz.func56, Tryz.ntmps56
    go_wp2_with fail
    refine (hb.out _).mono ?_
    rintro e w1 ⟨rfl, hB1⟩
    obtain ⟨b0, b1, b2, hsz, HB⟩ := boxes3 hB1
    have r0 := cell_of_block b2 0
    have r1 := cell_of_block b2 1
    have r2 := cell_of_block b2 2
    have f0 := free_of_block b2 0
    have f1 := free_of_block b2 1
    have f2 := free_of_block b2 2
    simp only [List.getElem?_toArray, List.getElem?_cons_zero, List.getElem?_cons_succ] at r0 r1 r2
    have HBK := hide b2
    have HBL := hide HB
    clear hB1 b0 b1 b2 HB
    go_wp2
    obtain ⟨m0, m1, m2⟩ := es3 HBK.out (.int .i64 1) (.int .i64 z) (.string ⟨#[]⟩)
    refine bodyPost_ret (v := .tuple #[vaV ⟨1, z, ⟨#[]⟩⟩, .bool true]) (by simp [results, Tryz.results56, go_sem, m0, m1, m2]) rfl ?_
    exact ⟨⟨_, rfl, fun v hv => by cases hv; rfl⟩, below_es3 HBL.out (by omega) _ _ _⟩
theorem three_below (w : World) (A B C : Obj) : Below w.heap.size w (((w.alloc A).alloc B).alloc C) := (((Below.refl _ _).alloc (Nat.le_refl _) A).alloc (by simp) B).alloc (by simp; omega) C
set_option maxHeartbeats 3200000 in
theorem two_none (kd ak an : Int) (at' : ByteArray) (bk bn : Int) (bt : ByteArray) (h7 : ¬ kd = 7) (ha : ak = 0 ∨ ak = 1 ∨ ak = 2) (hb : bk = 0 ∨ bk = 1 ∨ bk = 2) (h3 : kd = 3 → ¬ (ak = 2 ∧ bk = 2)) (h1 : ¬ (ak = 1 ∧ bk = 1)) (w : World) :
    Calls Tryz.prog 56 #[.int .i64 kd, vaV ⟨ak, an, at'⟩, vaV ⟨bk, bn, bt⟩] w (TwoPost none w) := by
  have q7 : (kd == 7) = false := by simp [h7]
  by_cases k3 : kd = 3
  · subst k3
    rcases ha with rfl | rfl | rfl <;> rcases hb with rfl | rfl | rfl
    all_goals first | (exfalso; exact h1 ⟨rfl, rfl⟩) | (exfalso; exact h3 rfl ⟨rfl, rfl⟩) | skip
    all_goals
      clear h1 h3 h7
      go_enter Tryz.func56, Tryz.ntmps56
      go_wp2
      refine bodyPost_ret (v := .tuple #[vaV ⟨0, 0, ⟨#[]⟩⟩, .bool false]) (by simp [results, Tryz.results56, go_sem]) rfl ?_
      exact ⟨⟨_, rfl, fun v hv => by cases hv⟩, three_below _ _ _ _⟩
  · have q3 : (kd == 3) = false := by simp [k3]
    rcases ha with rfl | rfl | rfl <;> rcases hb with rfl | rfl | rfl
    all_goals first | (exfalso; exact h1 ⟨rfl, rfl⟩) | skip
    all_goals
      clear h1 h3 h7 k3
      go_enter Tryz.func56, Tryz.ntmps56
      go_wp2
      refine bodyPost_ret (v := .tuple #[vaV ⟨0, 0, ⟨#[]⟩⟩, .bool false]) (by simp [results, Tryz.results56, go_sem]) rfl ?_
      exact ⟨⟨_, rfl, fun v hv => by cases hv⟩, three_below _ _ _ _⟩
theorem mul_range {a b : Int} (ha : -1000000000 ≤ a ∧ a ≤ 1000000000) (hb : -1000000000 ≤ b ∧ b ≤ 1000000000) : -1000000000000000000 ≤ a * b ∧ a * b ≤ 1000000000000000000 := by
  have h : (a * b).natAbs ≤ 1000000000 * 1000000000 := by
    rw [Int.natAbs_mul]
    exact Nat.mul_le_mul (by omega) (by omega)
  generalize a * b = c at *
  omega
/-- two values together, as the specification has it -/
theorem l2Two_any (kd : Int) (a b : Va) (hk : 3 ≤ kd ∧ kd ≤ 7) (ha : Pl.okA a = true) (hb : Pl.okA b = true) (w : World) :
    Calls Tryz.prog 56 #[.int .i64 kd, vaV a, vaV b] w (TwoPost (Pl.twoA kd a b) w) := by
  obtain ⟨ak, an, at'⟩ := a
  obtain ⟨bk, bn, bt⟩ := b
  have sa := Pl.okA_size ha
  have sb := Pl.okA_size hb
  have ca := Pl.okA_cases ha
  have cb := Pl.okA_cases hb
  simp only at sa sb ca cb
  by_cases h7 : kd = 7
  · subst h7; exact two_same ak an at' bk bn bt w
  · by_cases ht : kd = 3 ∧ ak = 2 ∧ bk = 2
    · obtain ⟨rfl, rfl, rfl⟩ := ht
      have : Pl.twoA 3 ⟨2, an, at'⟩ ⟨2, bn, bt⟩ = Pl.textA (at' ++ bt) := by unfold Pl.twoA; rw [if_neg (by decide), if_pos ⟨rfl, rfl, rfl⟩]
      rw [this]
      exact two_text an at' bn bt sa sb w
    · by_cases hn : ak = 1 ∧ bk = 1
      · obtain ⟨rfl, rfl⟩ := hn
        have ra : -1000000000 ≤ an ∧ an ≤ 1000000000 := by rcases ca with ⟨h, _⟩ | ⟨_, h1, h2, _⟩ | ⟨h, _⟩ <;> first | exact ⟨h1, h2⟩ | (exfalso; omega)
        have rb : -1000000000 ≤ bn ∧ bn ≤ 1000000000 := by rcases cb with ⟨h, _⟩ | ⟨_, h1, h2, _⟩ | ⟨h, _⟩ <;> first | exact ⟨h1, h2⟩ | (exfalso; omega)
        have hR : Pl.twoA kd ⟨1, an, at'⟩ ⟨1, bn, bt⟩ = if kd = 6 then some (Pl.truthA (decide (an < bn))) else if kd = 3 then Pl.numA (an + bn) else if kd = 4 then Pl.numA (an - bn) else Pl.numA (an * bn) := by
          unfold Pl.twoA
          rw [if_neg h7, if_neg ht, if_neg (by simp)]
        rw [hR]
        have : kd = 3 ∨ kd = 4 ∨ kd = 5 ∨ kd = 6 := by omega
        rcases this with rfl | rfl | rfl | rfl
        · exact two_add an at' bn bt (by omega) w
        · exact two_sub an at' bn bt (by omega) w
        · exact two_mul an at' bn bt (mul_range ra rb) w
        · exact two_less an at' bn bt w
      · have : Pl.twoA kd ⟨ak, an, at'⟩ ⟨bk, bn, bt⟩ = none := by
          unfold Pl.twoA
          rw [if_neg h7, if_neg ht, if_pos hn]
        rw [this]
        exact two_none kd ak an at' bk bn bt h7 (by rcases ca with ⟨h, _⟩ | ⟨h, _⟩ | ⟨h, _⟩ <;> simp [h]) (by rcases cb with ⟨h, _⟩ | ⟨h, _⟩ | ⟨h, _⟩ <;> simp [h]) (fun h3 h => ht ⟨h3, h⟩) hn w
end Go.Proofs.YtamkncfdfaejjaaGreatDoor

/- A value written and read, as the specification has it. -/
import Derived.Test.YtbckbfjnifafaaaGreatDoorVgS
import Derived.Test.YtbckbfjnifafaaaGreatDoorVgN
namespace Go.Proofs.YtbckbfjnifafaaaGreatDoor
open Go.RowKit
set_option linter.unusedVariables false

theorem below_alloc1 {w w1 : World} {o : Obj} (hB : Below (w.alloc o).heap.size (w.alloc o) w1) : Below w.heap.size w w1 := ((Below.refl _ _).alloc (Nat.le_refl _) _).trans (hB.mono (by simp))
theorem ok_num {n : Int} {t : ByteArray} (h : Pl.okB 1 n t = true) : -1000000000 ≤ n ∧ n ≤ 1000000000 := by
  simp [Pl.okB] at h
  exact h.1
set_option maxHeartbeats 800000 in
theorem l1Put_any (k n : Int) (t : ByteArray) (hok : Pl.okB k n t = true) (ht : t.size ≤ 1048576) (w : World) :
    Calls Tryz.prog 69 #[vAgg k n t] w fun e w' => e = .returned (.string (Pl.bs (Pl.putV k n t))) ∧ Below w.heap.size w w' := by
  by_cases k1 : k = 1
  · subst k1
    obtain ⟨h0, h1⟩ := ok_num hok
    have hq := hide (l1Dec_any n h0 h1)
    have HE : Hid (Pl.putV 1 n t = Lib.itoa n) := by show _ = _; simp [Pl.putV]
    generalize Lib.itoa n = D at hq HE
    clear hok
    go_enter Tryz.func69, Tryz.ntmps69
    go_wp2_with fail
    refine (hq.out _).mono ?_
    rintro e w1 ⟨rfl, hB1⟩
    go_wp2
    go_ret
    exact ⟨by rw [HE.out]; rfl, below_alloc1 hB1⟩
  · have k1' : (k == 1) = false := by simp [k1]
    by_cases k2 : k = 2
    · subst k2
      have HE : Hid (Pl.bs (Pl.putV 2 n t) = Pl.bs [34] ++ t ++ Pl.bs [34]) := by
        show _ = _
        rw [show t = Pl.bs t.data.toList from (Pl.bs_of t).symm, bs_append, bs_append]
        simp [Pl.putV, Pl.bs_data]
      clear hok
      have hsum : (Pl.bs [34]).size + t.size ≤ 2000000 := by show 1 + _ ≤ _; omega
      have hsum2 : (Pl.bs [34] ++ t).size + (Pl.bs [34]).size ≤ 2000000 := by
        have : (Pl.bs [34] ++ t).size = 1 + t.size := by simp; rfl
        rw [this]; show _ + 1 ≤ _; omega
      go_enter Tryz.func69, Tryz.ntmps69
      go_wp2
      go_ret
      exact ⟨by rw [HE.out]; rfl, (Below.refl _ _).alloc (Nat.le_refl _) _⟩
    · have k2' : (k == 2) = false := by simp [k2]
      have HE : Hid (Pl.putV k n t = [110, 111, 110, 101]) := by show _ = _; simp [Pl.putV, k1, k2]
      clear hok k1 k2
      go_enter Tryz.func69, Tryz.ntmps69
      go_wp2
      go_ret
      exact ⟨by rw [HE.out]; rfl, (Below.refl _ _).alloc (Nat.le_refl _) _⟩

def C3 (W : World) (b : Nat) (x y z : Value) : Prop := W.cell? ⟨b, 0, none⟩ = some x ∧ W.cell? ⟨b, 1, none⟩ = some y ∧ W.cell? ⟨b, 2, none⟩ = some z ∧ W.frozen? ⟨b, 0, none⟩ = false ∧ W.frozen? ⟨b, 1, none⟩ = false ∧ W.frozen? ⟨b, 2, none⟩ = false
theorem C3.mk {W : World} {b : Nat} {x y z : Value} {T : TypeId} (h : W.heap[b]? = some (.cells #[x, y, z] T (0, 0))) : C3 W b x y z :=
  ⟨cell_of_block h 0, cell_of_block h 1, cell_of_block h 2, free_of_block h 0, free_of_block h 1, free_of_block h 2⟩
theorem res3 {W : World} {b : Nat} {x y z : Value} {T : TypeId} (h : W.heap[b]? = some (.cells #[x, y, z] T (0, 0))) (u0 u1 u2 : Value) :
    (((W.setCell ⟨b, 0, none⟩ u0).setCell ⟨b, 1, none⟩ u1).setCell ⟨b, 2, none⟩ u2).cell? ⟨b, 0, none⟩ = some u0 ∧ (((W.setCell ⟨b, 0, none⟩ u0).setCell ⟨b, 1, none⟩ u1).setCell ⟨b, 2, none⟩ u2).cell? ⟨b, 1, none⟩ = some u1 ∧ (((W.setCell ⟨b, 0, none⟩ u0).setCell ⟨b, 1, none⟩ u1).setCell ⟨b, 2, none⟩ u2).cell? ⟨b, 2, none⟩ = some u2 := by
  have hb := block_set (block_set (block_set h 0 u0) 1 u1) 2 u2
  exact ⟨cell_of_block hb 0, cell_of_block hb 1, cell_of_block hb 2⟩
theorem below_res3 {w W : World} (h : Below w.heap.size w W) (u0 u1 u2 : Value) : Below w.heap.size w (((W.setCell ⟨w.heap.size, 0, none⟩ u0).setCell ⟨w.heap.size, 1, none⟩ u1).setCell ⟨w.heap.size, 2, none⟩ u2) :=
  ((h.setCell (p := ⟨w.heap.size, 0, none⟩) (Nat.le_refl _) _).setCell (p := ⟨w.heap.size, 1, none⟩) (Nat.le_refl _) _).setCell (p := ⟨w.heap.size, 2, none⟩) (Nat.le_refl _) _
theorem two_after {w w1 : World} {A B : Obj} (hb : Below ((w.alloc A).alloc B).drew.heap.size ((w.alloc A).alloc B).drew w1) :
    w1.heap[w.heap.size]? = some A ∧ w1.heap[w.heap.size + 1]? = some B ∧ Below w.heap.size w w1 ∧ w.heap.size + 1 + 1 ≤ w1.heap.size := by
  have e1 : (w.alloc A).heap.size = w.heap.size + 1 := by simp
  have e2 : ((w.alloc A).alloc B).drew.heap.size = w.heap.size + 1 + 1 := by simp
  have hs := hb.size
  rw [e2] at hs
  refine ⟨?_, ?_, ?_, hs⟩
  · rw [hb.block _ (by omega)]
    show ((w.alloc A).alloc B).heap[w.heap.size]? = _
    rw [heap_alloc_at, if_neg (by omega), heap_alloc_at, if_pos rfl]
  · rw [hb.block _ (by omega)]
    show ((w.alloc A).alloc B).heap[w.heap.size + 1]? = _
    rw [heap_alloc_at, if_pos (by omega)]
  · have h0 : Below w.heap.size w ((w.alloc A).alloc B).drew := (((Below.refl _ _).alloc (Nat.le_refl _) A).alloc (by omega) B).drew
    exact h0.trans (hb.mono h0.size)
theorem num10_short : ∀ (l : List UInt8) (acc i v : Nat), Pl.num10 acc i l = some v → i ≤ 10 → i + l.length ≤ 10
  | [], acc, i, v, h, hi => by simpa using hi
  | c :: l, acc, i, v, h, hi => by
    simp only [Pl.num10] at h
    split at h
    · next h1 =>
      have := num10_short l _ _ v h (by omega)
      simp only [List.length_cons]
      omega
    · cases h
theorem numL_range (l : List UInt8) : -1 ≤ Pl.numL l ∧ Pl.numL l < 10000000000 := by
  unfold Pl.numL
  split
  · omega
  · next v hv =>
    have h1 := num10_short l 0 0 v hv (by omega)
    have h2 := Pl.num10_lt l 0 0 v hv
    have h3 : (10 : Nat) ^ l.length ≤ 10 ^ 10 := Nat.pow_le_pow_right (by omega) (by omega)
    have h4 : (10 : Nat) ^ 10 = 10000000000 := by decide
    split
    · omega
    · omega
/-- a candidate held against the text -/
theorem cmp_text (P : List UInt8) (s : ByteArray) : ((Pl.bs P).toList == s.toList) = (P == s.data.toList) := by rw [Pl.bs_toList, Lib.toList_data]
end Go.Proofs.YtbckbfjnifafaaaGreatDoor

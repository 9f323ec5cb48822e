/- Two copies of an expression held against each other. -/
import Derived.Test.YtiffgomkhoalpaaGreatDoorTree
import Derived.Test.YtiffgomkhoalpaaGreatDoorTo
import Derived.Deep.RegionWith
namespace Go.Proofs.YtiffgomkhoalpaaGreatDoor
open Go.RowKit
set_option linter.unusedVariables false

def EqP (F : Fo) : Prop := ∀ (va vb : Value) (w : World), F.len ≤ 1048576 → F.Sm → RowAt 0 w F va → RowAt 0 w F vb → Calls Tryz.prog 36 #[va, vb] w fun e w' => e = .returned (.bool true) ∧ Below w.heap.size w w'

set_option maxHeartbeats 800000 in
theorem eqValue_any (k n : Int) (t : ByteArray) (w : World) :
    Calls Tryz.prog 15 #[vAgg k n t, vAgg k n t] w fun e w' => e = .returned (.bool true) ∧ Below w.heap.size w w' := by
  go_enter Tryz.func15, Tryz.ntmps15
  go_wp2
  go_ret
  exact ⟨rfl, ((Below.refl _ _).alloc (Nat.le_refl _) _).alloc (by simp) _⟩

theorem boxes2 {w w1 : World} {A B : Obj} (hb : Below ((w.alloc A).alloc B).heap.size ((w.alloc A).alloc B) w1) :
    w1.heap[w.heap.size]? = some A ∧ w1.heap[w.heap.size + 1]? = some B ∧ Below w.heap.size w w1 := by
  have e1 : (w.alloc A).heap.size = w.heap.size + 1 := by simp
  have e2 : ((w.alloc A).alloc B).heap.size = w.heap.size + 1 + 1 := by simp
  refine ⟨?_, ?_, ?_⟩
  · rw [hb.block _ (by omega), heap_alloc_at, if_neg (by omega), heap_alloc_at, if_pos rfl]
  · rw [hb.block _ (by omega), heap_alloc_at, if_pos (by omega)]
  · exact (((Below.refl _ _).alloc (Nat.le_refl _) A).alloc (by omega) B).trans (hb.mono (by omega))

set_option maxHeartbeats 800000 in
theorem eqExpr_of (nd : Nd) (k : Fo) (hk : EqP k) (hl : k.len ≤ 1048576) (hs : k.Sm) (va vb : Value) (w : World) (ha : RowAt 0 w k va) (hb : RowAt 0 w k vb) :
    Calls Tryz.prog 16 #[ndV nd va, ndV nd vb] w fun e w' => e = .returned (.bool true) ∧ Below w.heap.size w w' := by
  obtain ⟨nk, vk, vn, vt, nm⟩ := nd
  have hv := hide (eqValue_any vk vn vt)
  have HA := hide ha
  have HB := hide hb
  clear ha hb
  go_enter Tryz.func16, Tryz.ntmps16
  go_wp2_with fail
  refine (hv.out _).mono ?_
  rintro e w1 ⟨rfl, hB1⟩
  obtain ⟨b0, b1, HB1⟩ := boxes2 hB1
  clear hB1 hv
  have a4 : w1.cell? ⟨w.heap.size, 4, none⟩ = some (.string nm) := cell_of_block b0 4
  have a5 : w1.cell? ⟨w.heap.size, 5, none⟩ = some va := cell_of_block b0 5
  have c4 : w1.cell? ⟨w.heap.size + 1, 4, none⟩ = some (.string nm) := cell_of_block b1 4
  have c5 : w1.cell? ⟨w.heap.size + 1, 5, none⟩ = some vb := cell_of_block b1 5
  have hq := hide (hk va vb w1 hl hs (HA.out.later HB1) (HB.out.later HB1))
  have HBB := hide HB1
  clear b0 b1 hk HA HB HB1
  go_wp2_with fail
  refine hq.out.mono ?_
  rintro e w2 ⟨rfl, hB2⟩
  go_wp2
  go_ret
  exact ⟨rfl, HBB.out.trans (hB2.mono HBB.out.size)⟩

set_option maxHeartbeats 800000 in
theorem eqExprS_of (F : Fo) (ih : ∀ i nd k, F.get i = some (nd, k) → EqP k) : EqP F := by
  intro va vb w hN hsm ha hb
  obtain ⟨aa, ca, rfl, hca, hma, hxa⟩ := ha
  obtain ⟨ab, cb, rfl, hcb, hmb, hxb⟩ := hb
  unfold maxLen at hma hmb
  have HXA := hide hxa
  have HXB := hide hxb
  have IH := hide ih
  have HW := hide hsm
  clear hxa hxb ih hsm
  go_enter Tryz.func36, Tryz.ntmps36
  go_wp2_with fail
  go_loopw [5] (fun iv wr => ∃ i : Nat, i ≤ F.len ∧ iv = .int .i64 i ∧ Hid (Below w.heap.size w wr)) (fun iv _ => F.len - (intOf iv).toNat)
  case atStart => exact ⟨0, by omega, rfl, hide (Below.refl _ _)⟩
  case round =>
    obtain ⟨i, hi, rfl, hB⟩ := hrel
    by_cases hlt : i < F.len
    · obtain ⟨ga, oa, rfl, _, hga, hfa⟩ := HXA.out (by omega)
      obtain ⟨gb, ob, rfl, _, hgb, hfb⟩ := HXB.out (by omega)
      obtain ⟨nd, k, hget⟩ := F.get_some i hlt
      obtain ⟨v, hnd⟩ := hfa.get hget
      obtain ⟨u, hnu⟩ := hfb.get hget
      obtain ⟨d0, d1, d2, d3, d4, d5, hrow⟩ := hnd.later hB.out hga
      obtain ⟨f0, f1, f2, f3, f4, f5, hrou⟩ := hnu.later hB.out hgb
      obtain ⟨w1, w2⟩ := HW.out.get hget
      have hq : Hid (∀ W, Below wr.heap.size wr W → Calls Tryz.prog 16 #[ndV nd v, ndV nd u] W fun e w' => e = .returned (.bool true) ∧ Below W.heap.size W w') := fun W hW => eqExpr_of nd k (IH.out i nd k hget) w1 w2 v u W (hrow.later hW) (hrou.later hW)
      clear hfa hfb hnd hnu hrow hrou hget w2
      have hii : (i : Int) < (F.len : Int) := by omega
      go_wp2_with fail
      go_region_with (go_at_call 16; refine (hq.out _ (by first | exact Below.refl _ _ | exact (Below.refl _ _).drew | exact below_drewN (Below.refl _ _) _)).mono ?_; rintro e w3 ⟨rfl, hB3⟩)
      all_goals
        clear d0 d1 d2 d3 d4 d5 f0 f1 f2 f3 f4 f5 hq
        go_wp2
        go_roundw
        case rel => exact ⟨i + 1, by omega, by go_num, hide (hB.out.drew.trans (hB3.mono hB.out.size))⟩
        case measure => simp [intOf]; omega
    · go_wp2
      go_ret
      exact ⟨rfl, hB.out⟩
theorem eqExprS_fuel : ∀ (n : Nat) (F : Fo), F.nodes ≤ n → EqP F
  | 0, F, h => eqExprS_of F fun i nd k hk => by have := F.get_nodes i nd k hk; omega
  | n + 1, F, h => eqExprS_of F fun i nd k hk => eqExprS_fuel n k (by have := F.get_nodes i nd k hk; omega)
theorem eqExprS_any (F : Fo) : EqP F := eqExprS_fuel F.nodes F (Nat.le_refl _)
end Go.Proofs.YtiffgomkhoalpaaGreatDoor

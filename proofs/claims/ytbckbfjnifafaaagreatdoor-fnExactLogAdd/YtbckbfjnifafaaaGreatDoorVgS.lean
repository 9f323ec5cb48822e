/- A number written and read, as the specification has it. -/
import Derived.Test.YtbckbfjnifafaaaGreatDoorPlVg
import Derived.Test.YtbckbfjnifafaaaGreatDoorCv1
import Derived.Test.YtbckbfjnifafaaaGreatDoorVal1
import Derived.Test.YtbckbfjnifafaaaGreatDoorBx
import Derived.Deep.RegionWith
import Derived.Deep.QuietTactic
import Derived.BigQuiet
namespace Go.Proofs.YtbckbfjnifafaaaGreatDoor
open Go.RowKit
set_option linter.unusedVariables false

theorem fig_byte (d : Nat) (h : d < 10) : (48 + (d : Int)).toNat.toUInt8 = UInt8.ofNat (48 + d) := by
  rw [show (48 + (d : Int)).toNat = 48 + d by omega]
theorem dec_size (u : Nat) (hu : u ≤ 1000000000) : (Lib.decDigits u).length ≤ 10 := Pl.dec_len_le 9 u (by omega)

theorem conv1_at (w : World) (k : Nat) (c : Int) (h0 : 0 ≤ c) (h1 : c < 256) (hc1 : w.cell? ⟨k, 0, none⟩ = some (.int .u8 c)) :
    (convert 78 9 (.slice (some ⟨k, 0, none⟩) 1 1)).run Tryz.prog w = .ok (.string (Pl.bs [c.toNat.toUInt8])) w := by
  have hc : ((c.toNat.toUInt8.toNat : Nat) : Int) = c := by
    have : c.toNat.toUInt8.toNat = c.toNat % 256 := by simp
    omega
  refine run_convert_bytes_back _ 78 9 5 ⟨k, 0, none⟩ 1 [c.toNat.toUInt8] Tryz.underlying78 Tryz.underlying5 Tryz.underlying9 ?_
  intro j hj
  have : j = 0 := by simpa using hj
  subst this
  simp only [List.getElem_cons_zero, hc]
  simpa [Addr.add] using hc1
theorem wrap_fig (r : Nat) (h : r < 10) : IntKind.u8.wrap (48 + (r : Int)) = 48 + (r : Int) := by
  have : r = 0 ∨ r = 1 ∨ r = 2 ∨ r = 3 ∨ r = 4 ∨ r = 5 ∨ r = 6 ∨ r = 7 ∨ r = 8 ∨ r = 9 := by omega
  rcases this with rfl | rfl | rfl | rfl | rfl | rfl | rfl | rfl | rfl | rfl <;> rfl
theorem boxed_after {w w1 : World} {c : Value} {T : TypeId} (hB : Below (w.drew.alloc (.cells #[c] T)).heap.size (w.drew.alloc (.cells #[c] T)) w1) : Below w.heap.size w w1 ∧ w1.cell? ⟨w.heap.size, 0, none⟩ = some c := by
  have h0 : Below w.heap.size w (w.drew.alloc (.cells #[c] T)) := (Below.refl _ _).drew.alloc (Nat.le_refl _) _
  refine ⟨h0.trans (hB.mono h0.size), ?_⟩
  have hb := (hB.block w.heap.size (by simp)).trans (heap_alloc_new w.drew _)
  have := cell_of_block hb 0
  simpa using this
def DecP (u : Nat) : Prop := ∀ w : World, Calls Tryz.prog 56 #[.int .i64 u] w fun e w' => e = .returned (.string (Pl.bs (Lib.decDigits u))) ∧ Below w.heap.size w w'
set_option maxRecDepth 100000 in
set_option maxHeartbeats 1600000 in
theorem l1Dec_nat (u : Nat) (hu : u ≤ 1000000000) : DecP u := by
  induction u using Nat.strongRecOn with
  | _ u ih =>
    intro w
    by_cases h : u < 10
    · have hcv := fun W => conv1 W (48 + (u : Int)) (by omega) (by omega)
      rw [fig_byte u h] at hcv
      have HE : Hid (Lib.decDigits u = [UInt8.ofNat (48 + u)]) := Pl.dec_small h
      generalize UInt8.ofNat (48 + u) = d at hcv HE
      clear ih
      go_enter Tryz.func56, Tryz.ntmps56
      go_wp2
      go_ret
      exact ⟨by rw [HE.out]; rfl, (Below.refl _ _).alloc (Nat.le_refl _) _⟩
    · obtain ⟨q, r, hq10, hr10, hqr⟩ : ∃ q r : Nat, u / 10 = q ∧ u % 10 = r ∧ u = 10 * q + r := ⟨u / 10, u % 10, rfl, rfl, by omega⟩
      have hr : r < 10 := by omega
      have hq : Hid (∀ w : World, Calls Tryz.prog 56 #[.int .i64 q] w fun e w' => e = .returned (.string (Pl.bs (Lib.decDigits q))) ∧ Below w.heap.size w w') := ih q (by omega) (by omega)
      have hcv := fun W => conv1 W (48 + (r : Int)) (by omega) (by omega)
      have hcw := hide (fun W k => conv1_at W k (48 + (r : Int)) (by omega) (by omega))
      have hcd := conv1_at (w.alloc (.cells #[.int .u8 (48 + (r : Int))] 5)).drew w.heap.size (48 + (r : Int)) (by omega) (by omega) (by simp)
      rw [fig_byte _ hr] at hcv hcw hcd
      have HE : Hid (Lib.decDigits u = Lib.decDigits q ++ [UInt8.ofNat (48 + r)]) := by
        show _ = _
        rw [Pl.dec_big h, hq10, hr10]
      have hs1 : (Pl.bs (Lib.decDigits q)).size ≤ 10 := dec_size q (by omega)
      generalize UInt8.ofNat (48 + r) = d at hcv hcw hcd HE
      generalize Lib.decDigits q = D at hq HE hs1
      have hsum : (Pl.bs D).size + (Pl.bs [d]).size ≤ 9223372036854775807 := by show _ + 1 ≤ _; omega
      have e1 : (u : Int).tdiv 10 = (q : Int) := by rw [Int.tdiv_eq_ediv_of_nonneg (by omega)]; omega
      have e2 : (u : Int).tmod 10 = (r : Int) := by rw [Int.tmod_eq_emod_of_nonneg (by omega)]; omega
      have hw1 : IntKind.i64.wrap (q : Int) = (q : Int) := by rw [IntKind.wrap_i64]; omega
      have hw2 : IntKind.i64.wrap (48 + (r : Int)) = 48 + (r : Int) := by rw [IntKind.wrap_i64]; omega
      have hw3 : IntKind.u8.wrap (48 + (r : Int)) = 48 + (r : Int) := wrap_fig r hr
      have t1 : decide ((u : Int) < -9223372036854775807) = false := decide_eq_false (by omega)
      have t2 : decide ((u : Int) < 0) = false := decide_eq_false (by omega)
      have t3 : decide ((u : Int) < 10) = false := decide_eq_false (by omega)
      have HUQ := hide hqr
      clear ih hq10 hr10 hqr
      go_enter Tryz.func56, Tryz.ntmps56
      go_wp2_with fail
      go_region_with (first
        | (go_at_call 56; refine (hq.out _).mono ?_; rintro e w1 ⟨rfl, hB1⟩; have HB1 : Hid (Below w.heap.size w w1) := (Below.refl _ _).drew.trans hB1; clear hB1)
        | (go_at_call 56; refine (hq.out _).mono ?_; rintro e w1 ⟨rfl, hB1⟩; obtain ⟨hb, hcell⟩ := boxed_after hB1; have HB1 := hide hb; have hcx := hcw.out w1 w.heap.size hcell; clear hB1 hb))
      all_goals
        go_wp2
        go_ret
        refine ⟨by rw [HE.out, ← bs_append]; rfl, ?_⟩
        first | exact HB1.out | exact HB1.out.alloc HB1.out.size _
set_option maxHeartbeats 800000 in
theorem l1Dec_any (n : Int) (h0 : -1000000000 ≤ n) (h1 : n ≤ 1000000000) (w : World) :
    Calls Tryz.prog 56 #[.int .i64 n] w fun e w' => e = .returned (.string (Pl.bs (Lib.itoa n))) ∧ Below w.heap.size w w' := by
  by_cases hn : n < 0
  · have hq : Hid (∀ w : World, Calls Tryz.prog 56 #[.int .i64 (n.natAbs : Int)] w fun e w' => e = .returned (.string (Pl.bs (Lib.decDigits n.natAbs))) ∧ Below w.heap.size w w') := l1Dec_nat n.natAbs (by omega)
    have HE : Hid (Lib.itoa n = 45 :: Lib.decDigits n.natAbs) := by show _ = _; unfold Lib.itoa; rw [if_pos hn]
    have hs1 : (Pl.bs (Lib.decDigits n.natAbs)).size ≤ 10 := dec_size _ (by omega)
    rw [show ((n.natAbs : Nat) : Int) = -n by omega] at hq
    generalize Lib.decDigits n.natAbs = D at hq HE hs1
    have hsum : (Pl.bs [45]).size + (Pl.bs D).size ≤ 9223372036854775807 := by show 1 + _ ≤ _; omega
    go_enter Tryz.func56, Tryz.ntmps56
    go_wp2_with fail
    refine (hq.out _).mono ?_
    rintro e w1 ⟨rfl, hB1⟩
    go_wp2
    go_ret
    refine ⟨?_, hB1⟩
    rw [HE.out, show (45 :: D) = [45] ++ D from rfl, ← bs_append]; rfl
  · have := l1Dec_nat n.toNat (by omega) w
    have e1 : ((n.toNat : Nat) : Int) = n := by omega
    have e2 : Lib.itoa n = Lib.decDigits n.toNat := by unfold Lib.itoa; rw [if_neg hn]
    rw [e1, ← e2] at this
    exact this
end Go.Proofs.YtbckbfjnifafaaaGreatDoor

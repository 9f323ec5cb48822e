/- Whether a value is ok, as the program has it. -/
import Derived.Test.YtbckbfjnifafaaaGreatDoorVal1
import Derived.Deep.QuietTactic
import Derived.BigQuiet
import Derived.Deep.RegionWith
namespace Go.Proofs.YtbckbfjnifafaaaGreatDoor
open Go.RowKit
set_option linter.unusedVariables false

set_option maxHeartbeats 400000 in
theorem fitsNone_any (w : World) :
    Calls Tryz.prog 314 #[.agg #[]] w fun e w' => e = .returned (.bool true) ∧ Below w.heap.size w w' := by
  go_enter Tryz.func314, Tryz.ntmps314
  go_wp2
  go_ret
  exact ⟨rfl, (Below.refl _ _).alloc (Nat.le_refl _) _⟩

set_option maxHeartbeats 400000 in
theorem fitsNum_any (n : Int) (w : World) :
    Calls Tryz.prog 317 #[.int .i64 n] w fun e w' => e = .returned (.bool (decide (-1000000000 ≤ n) && decide (n ≤ 1000000000))) ∧ w' = w := by
  by_cases h1 : -1000000000 ≤ n <;> by_cases h2 : n ≤ 1000000000
  all_goals
    go_enter Tryz.func317, Tryz.ntmps317
    go_wp2
    go_ret
    exact ⟨by simp [h1, h2], rfl⟩

set_option maxHeartbeats 800000 in
theorem fitsText_any (s : ByteArray) (hs : s.size ≤ maxLen) (w : World) :
    Calls Tryz.prog 292 #[.string s] w fun e w' => e = .returned (.bool (Pl.textB s)) ∧ w' = w := by
  unfold maxLen at hs
  by_cases hbig : s.size ≤ 24
  · go_enter Tryz.func292, Tryz.ntmps292
    go_wp2
    go_loop [9] (fun i => ∃ k : Nat, k ≤ s.size ∧ i = .int .i64 k ∧ ∀ j, j < k → Pl.seenB (Pl.byteAt s j) = true) (fun i => s.size - (intOf i).toNat)
    case atStart => exact ⟨0, by omega, rfl, by intro j hj; omega⟩
    case round =>
      obtain ⟨k, hk, rfl, hno⟩ := hrel
      have HN : Hid (∀ j, j < k → Pl.seenB (Pl.byteAt s j) = true) := hno
      clear hno
      by_cases hlt : k < s.size
      · have hby := Pl.byteAt_eq s k hlt
        generalize hc : Pl.byteAt s k = c at hby
        have HC := hide hc
        clear hc
        by_cases h1 : 32 ≤ c
        · by_cases h2 : c ≤ 126
          · cases h3 : (c == 34)
            · go_wp2
              refine ⟨⟨k + 1, by omega, by go_num, ?_⟩, by simp [intOf]; omega⟩
              exact Pl.next_seen HN.out (by rw [HC.out]; simp only [Pl.seenB, h1, h2, h3]; rfl)
            · have hf : Hid (Pl.textB s = false) := Pl.text_not k hlt (by rw [HC.out]; simp only [Pl.seenB, h1, h2, h3]; rfl)
              go_wp2
              go_ret
              exact ⟨by rw [hf.out]; rfl, rfl⟩
          · have hf : Hid (Pl.textB s = false) := Pl.text_not k hlt (by rw [HC.out]; simp [Pl.seenB, h1, h2])
            go_wp2
            go_ret
            exact ⟨by rw [hf.out]; rfl, rfl⟩
        · have hf : Hid (Pl.textB s = false) := Pl.text_not k hlt (by rw [HC.out]; simp [Pl.seenB, h1])
          go_wp2
          go_ret
          exact ⟨by rw [hf.out]; rfl, rfl⟩
      · have hall := hide (Pl.text_all (s := s) fun j hj => HN.out j (by omega))
        go_wp2
        go_ret
        refine ⟨?_, rfl⟩
        have hf : Pl.textB s = true := by
          unfold Pl.textB; rw [hall.out, Bool.true_and]; exact decide_eq_true hbig
        rw [hf]; rfl
  · have hf := hide (Pl.text_big hbig)
    go_enter Tryz.func292, Tryz.ntmps292
    go_wp2
    go_ret
    exact ⟨by rw [hf.out]; rfl, rfl⟩

theorem ta_num_num (n : Int) (w : World) : (Instr.typeAssert (.iface 188 (.int .i64 n)) 142 188 true).run Tryz.prog w = .ok (.tuple #[.int .i64 n, .bool true]) w := by kernel_rfl
theorem ta_text_num (s : ByteArray) (w : World) : (Instr.typeAssert (.iface 189 (.string s)) 142 188 true).run Tryz.prog w = .ok (.tuple #[.int .i64 0, .bool false]) w := by kernel_rfl
theorem ta_none_num (w : World) : (Instr.typeAssert (.iface 187 (.agg #[])) 142 188 true).run Tryz.prog w = .ok (.tuple #[.int .i64 0, .bool false]) w := by kernel_rfl
theorem ta_text_text (s : ByteArray) (w : World) : (Instr.typeAssert (.iface 189 (.string s)) 142 189 true).run Tryz.prog w = .ok (.tuple #[.string s, .bool true]) w := by kernel_rfl
theorem ta_none_text (w : World) : (Instr.typeAssert (.iface 187 (.agg #[])) 142 189 true).run Tryz.prog w = .ok (.tuple #[.string ⟨#[]⟩, .bool false]) w := by kernel_rfl

set_option maxHeartbeats 400000 in
theorem valueOfNone_any (w : World) :
    Calls Tryz.prog 152 #[.iface 187 (.agg #[])] w fun e w' => e = .returned (vAgg 0 0 ⟨#[]⟩) ∧ Below w.heap.size w w' := by
  have t1 := ta_none_num
  have t2 := ta_none_text
  go_enter Tryz.func152, Tryz.ntmps152
  go_wp2
  refine bodyPost_ret (v := vAgg 0 0 ⟨#[]⟩) (by simp [results, Tryz.results152, go_sem]) rfl ⟨rfl, ?_⟩
  exact (Below.refl _ _).alloc (Nat.le_refl _) _
set_option maxHeartbeats 400000 in
theorem valueOfNum_any (n : Int) (w : World) :
    Calls Tryz.prog 152 #[.iface 188 (.int .i64 n)] w fun e w' => e = .returned (vAgg 1 n ⟨#[]⟩) ∧ Below w.heap.size w w' := by
  have t1 := ta_num_num
  go_enter Tryz.func152, Tryz.ntmps152
  go_wp2
  refine bodyPost_ret (v := vAgg 1 n ⟨#[]⟩) (by simp [results, Tryz.results152, go_sem]) rfl ⟨rfl, ?_⟩
  exact (Below.refl _ _).alloc (Nat.le_refl _) _
set_option maxHeartbeats 400000 in
theorem valueOfText_any (s : ByteArray) (w : World) :
    Calls Tryz.prog 152 #[.iface 189 (.string s)] w fun e w' => e = .returned (vAgg 2 0 s) ∧ Below w.heap.size w w' := by
  have t1 := ta_text_num
  have t2 := ta_text_text
  go_enter Tryz.func152, Tryz.ntmps152
  go_wp2
  refine bodyPost_ret (v := vAgg 2 0 s) (by simp [results, Tryz.results152, go_sem]) rfl ⟨rfl, ?_⟩
  exact (Below.refl _ _).alloc (Nat.le_refl _) _

end Go.Proofs.YtbckbfjnifafaaaGreatDoor

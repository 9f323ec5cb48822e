/- Joined: Val2a Val3 Val4 Val5 Ok2 Ok2b Ok2c Ok2n Ok2f. -/
import Derived.Test.YtnikomgdcddchaaGreatVal1
import Derived.Deep.QuietTactic
import Derived.BigQuiet
import Derived.Deep.RegionWith
import Derived.Test.YtnikomgdcddchaaGreatOk1f
import Derived.Test.YtnikomgdcddchaaGreatName2
/- Whether a value is ok, as the program has it. -/
namespace Go.Proofs.YtnikomgdcddchaaGreat
open Go.RowKit
set_option linter.unusedVariables false

set_option maxHeartbeats 400000 in
theorem fitsNone_any (w : World) :
    Calls Tryz.prog 142 #[.agg #[]] w fun e w' => e = .returned (.bool true) ∧ Below w.heap.size w w' := by
  go_enter Tryz.func142, Tryz.ntmps142
  go_wp2
  go_ret
  exact ⟨rfl, (Below.refl _ _).alloc (Nat.le_refl _) _⟩

set_option maxHeartbeats 400000 in
theorem fitsNum_any (n : Int) (w : World) :
    Calls Tryz.prog 145 #[.int .i64 n] w fun e w' => e = .returned (.bool (decide (-1000000000 ≤ n) && decide (n ≤ 1000000000))) ∧ w' = w := by
  by_cases h1 : -1000000000 ≤ n <;> by_cases h2 : n ≤ 1000000000
  all_goals
    go_enter Tryz.func145, Tryz.ntmps145
    go_wp2
    go_ret
    exact ⟨by simp [h1, h2], rfl⟩

set_option maxHeartbeats 800000 in
theorem fitsText_any (s : ByteArray) (hs : s.size ≤ maxLen) (w : World) :
    Calls Tryz.prog 148 #[.string s] w fun e w' => e = .returned (.bool (Pl.textB s)) ∧ w' = w := by
  unfold maxLen at hs
  by_cases hbig : s.size ≤ 24
  · go_enter Tryz.func148, Tryz.ntmps148
    go_wp2
    go_loop [9] (fun i => ∃ k : Nat, k ≤ s.size ∧ i = .int .i64 k ∧ ∀ j, j < k → Pl.seenB (Pl.byteAt s j) = true) (fun i => s.size - (intOf i).toNat)
    case atStart => exact ⟨0, by omega, rfl, by intro j hj; omega⟩
    case round =>
      obtain ⟨k, hk, rfl, hno⟩ := hrel
      have HN : Hid (∀ j, j < k → Pl.seenB (Pl.byteAt s j) = true) := hno
      clear hno
      by_cases hlt : k < s.size
      · have hby := Pl.byteAt_eq s k hlt
        generalize hc : Pl.byteAt s k = c at hby
        have HC := hide hc
        clear hc
        by_cases h1 : 32 ≤ c
        · by_cases h2 : c ≤ 126
          · cases h3 : (c == 34)
            · go_wp2
              refine ⟨⟨k + 1, by omega, by go_num, ?_⟩, by simp [intOf]; omega⟩
              exact Pl.next_seen HN.out (by rw [HC.out]; simp only [Pl.seenB, h1, h2, h3]; rfl)
            · have hf : Hid (Pl.textB s = false) := Pl.text_not k hlt (by rw [HC.out]; simp only [Pl.seenB, h1, h2, h3]; rfl)
              go_wp2
              go_ret
              exact ⟨by rw [hf.out]; rfl, rfl⟩
          · have hf : Hid (Pl.textB s = false) := Pl.text_not k hlt (by rw [HC.out]; simp [Pl.seenB, h1, h2])
            go_wp2
            go_ret
            exact ⟨by rw [hf.out]; rfl, rfl⟩
        · have hf : Hid (Pl.textB s = false) := Pl.text_not k hlt (by rw [HC.out]; simp [Pl.seenB, h1])
          go_wp2
          go_ret
          exact ⟨by rw [hf.out]; rfl, rfl⟩
      · have hall := hide (Pl.text_all (s := s) fun j hj => HN.out j (by omega))
        go_wp2
        go_ret
        refine ⟨?_, rfl⟩
        have hf : Pl.textB s = true := by
          unfold Pl.textB; rw [hall.out, Bool.true_and]; exact decide_eq_true hbig
        rw [hf]; rfl
  · have hf := hide (Pl.text_big hbig)
    go_enter Tryz.func148, Tryz.ntmps148
    go_wp2
    go_ret
    exact ⟨by rw [hf.out]; rfl, rfl⟩

theorem ta_num_num (n : Int) (w : World) : (Instr.typeAssert (.iface 162 (.int .i64 n)) 157 162 true).run Tryz.prog w = .ok (.tuple #[.int .i64 n, .bool true]) w := by kernel_rfl
theorem ta_text_num (s : ByteArray) (w : World) : (Instr.typeAssert (.iface 163 (.string s)) 157 162 true).run Tryz.prog w = .ok (.tuple #[.int .i64 0, .bool false]) w := by kernel_rfl
theorem ta_none_num (w : World) : (Instr.typeAssert (.iface 161 (.agg #[])) 157 162 true).run Tryz.prog w = .ok (.tuple #[.int .i64 0, .bool false]) w := by kernel_rfl
theorem ta_text_text (s : ByteArray) (w : World) : (Instr.typeAssert (.iface 163 (.string s)) 157 163 true).run Tryz.prog w = .ok (.tuple #[.string s, .bool true]) w := by kernel_rfl
theorem ta_none_text (w : World) : (Instr.typeAssert (.iface 161 (.agg #[])) 157 163 true).run Tryz.prog w = .ok (.tuple #[.string ⟨#[]⟩, .bool false]) w := by kernel_rfl

set_option maxHeartbeats 400000 in
theorem valueOfNone_any (w : World) :
    Calls Tryz.prog 125 #[.iface 161 (.agg #[])] w fun e w' => e = .returned (vAgg 0 0 ⟨#[]⟩) ∧ Below w.heap.size w w' := by
  have t1 := ta_none_num
  have t2 := ta_none_text
  go_enter Tryz.func125, Tryz.ntmps125
  go_wp2
  refine bodyPost_ret (v := vAgg 0 0 ⟨#[]⟩) (by simp [results, Tryz.results125, go_sem]) rfl ⟨rfl, ?_⟩
  exact (Below.refl _ _).alloc (Nat.le_refl _) _
set_option maxHeartbeats 400000 in
theorem valueOfNum_any (n : Int) (w : World) :
    Calls Tryz.prog 125 #[.iface 162 (.int .i64 n)] w fun e w' => e = .returned (vAgg 1 n ⟨#[]⟩) ∧ Below w.heap.size w w' := by
  have t1 := ta_num_num
  go_enter Tryz.func125, Tryz.ntmps125
  go_wp2
  refine bodyPost_ret (v := vAgg 1 n ⟨#[]⟩) (by simp [results, Tryz.results125, go_sem]) rfl ⟨rfl, ?_⟩
  exact (Below.refl _ _).alloc (Nat.le_refl _) _
set_option maxHeartbeats 400000 in
theorem valueOfText_any (s : ByteArray) (w : World) :
    Calls Tryz.prog 125 #[.iface 163 (.string s)] w fun e w' => e = .returned (vAgg 2 0 s) ∧ Below w.heap.size w w' := by
  have t1 := ta_text_num
  have t2 := ta_text_text
  go_enter Tryz.func125, Tryz.ntmps125
  go_wp2
  refine bodyPost_ret (v := vAgg 2 0 s) (by simp [results, Tryz.results125, go_sem]) rfl ⟨rfl, ?_⟩
  exact (Below.refl _ _).alloc (Nat.le_refl _) _

end Go.Proofs.YtnikomgdcddchaaGreat

/- What a value holds, and whether it is ok, as the program has it. -/
namespace Go.Proofs.YtnikomgdcddchaaGreat
open Go.RowKit
set_option linter.unusedVariables false
theorem m_num_fits (n : Int) (w : World) : (method 280 162 (.int .i64 n) "loop.example/backstitch/impl.fits").run Tryz.prog w = .ok (145, .int .i64 n) w := by kernel_rfl
theorem m_text_fits (s : ByteArray) (w : World) : (method 280 163 (.string s) "loop.example/backstitch/impl.fits").run Tryz.prog w = .ok (148, .string s) w := by kernel_rfl
theorem m_none_fits (w : World) : (method 280 161 (.agg #[]) "loop.example/backstitch/impl.fits").run Tryz.prog w = .ok (142, .agg #[]) w := by kernel_rfl
theorem box3 {B : Nat} {w w1 : World} {x y z : Value} {T : TypeId} (hb : Below B (w.alloc (.cells #[x, y, z] T)).drew w1) (h : w.heap.size < B) :
    w1.cell? ⟨w.heap.size, 0, none⟩ = some x ∧ w1.cell? ⟨w.heap.size, 1, none⟩ = some y ∧ w1.cell? ⟨w.heap.size, 2, none⟩ = some z := by
  refine ⟨?_, ?_, ?_⟩
  · rw [hb.cell (p := ⟨w.heap.size, 0, none⟩) h]; simp
  · rw [hb.cell (p := ⟨w.heap.size, 1, none⟩) h]; simp
  · rw [hb.cell (p := ⟨w.heap.size, 2, none⟩) h]; simp
theorem box3' {B B' : Nat} {w w1 w2 : World} {x y z : Value} {T : TypeId} (hb : Below B (w.alloc (.cells #[x, y, z] T)).drew w1) (hb2 : Below B' w1 w2) (h : w.heap.size < B) (h' : w.heap.size < B') :
    w2.cell? ⟨w.heap.size, 0, none⟩ = some x ∧ w2.cell? ⟨w.heap.size, 1, none⟩ = some y ∧ w2.cell? ⟨w.heap.size, 2, none⟩ = some z := by
  obtain ⟨a, b, c⟩ := box3 hb h
  refine ⟨?_, ?_, ?_⟩
  · rw [hb2.cell (p := ⟨w.heap.size, 0, none⟩) h', a]
  · rw [hb2.cell (p := ⟨w.heap.size, 1, none⟩) h', b]
  · rw [hb2.cell (p := ⟨w.heap.size, 2, none⟩) h', c]
theorem below_box {w w1 : World} {o : Obj} (hb : Below (w.alloc o).drew.heap.size (w.alloc o).drew w1) : Below w.heap.size w w1 :=
  ((Below.refl _ _).alloc (Nat.le_refl _) _).drew.trans (hb.mono (by simp))
theorem below_drawn {w : World} {o : Obj} : Below w.heap.size w (w.alloc o).drew :=
  ((Below.refl _ _).alloc (Nat.le_refl _) _).drew

theorem fitsNum_no (n : Int) (h : (decide (-1000000000 ≤ n) && decide (n ≤ 1000000000)) = false) (w : World) :
    Calls Tryz.prog 145 #[.int .i64 n] w fun e w' => e = .returned (.bool false) ∧ w' = w := by
  have := fitsNum_any n w
  rw [h] at this
  exact this
theorem fitsText_at (s : ByteArray) (hs : s.size ≤ maxLen) {b : Bool} (h : Pl.textB s = b) (w : World) :
    Calls Tryz.prog 148 #[.string s] w fun e w' => e = .returned (.bool b) ∧ w' = w := by
  have := fitsText_any s hs w
  rw [h] at this
  exact this

set_option maxHeartbeats 1600000 in
theorem contentOfNum_yes (n : Int) (t : ByteArray) (w : World) (h : -1000000000 ≤ n ∧ n ≤ 1000000000) :
    Calls Tryz.prog 124 #[vAgg 1 n t] w fun e w' => e = .returned (.tuple #[.iface 162 (.int .i64 n), .bool (Pl.okB 1 n t)]) ∧ Below w.heap.size w w' := by
  have hm := m_num_fits
  · obtain ⟨h1, h2⟩ := h
    have he2 : (([] : List UInt8) == t.toList) = t.toList.isEmpty := by cases t.toList <;> rfl
    cases he : t.toList.isEmpty
    · have hf : Hid (Pl.okB 1 n t = false) := by show _ = _; simp [Pl.okB, he]
      rw [he] at he2
      clear he
      go_enter Tryz.func124, Tryz.ntmps124
      go_wp2_with fail
      go_region_with (first | (go_at_call 145; refine (fitsNum_any _ _).mono ?_; rintro e w' ⟨rfl, rfl⟩) | (go_at_call 125; refine (valueOfNum_any _ _).mono ?_; rintro e w' ⟨rfl, hB⟩; obtain ⟨c0, c1, c2⟩ := box3 hB (by simp)))
      all_goals (go_wp2; go_ret2; exact ⟨by rw [hf.out]; rfl, below_box hB⟩)
    · have hf : Hid (Pl.okB 1 n t = true) := by show _ = _; simp [Pl.okB, he, h1, h2]
      rw [he] at he2
      clear he
      go_enter Tryz.func124, Tryz.ntmps124
      go_wp2_with fail
      go_region_with (first | (go_at_call 145; refine (fitsNum_any _ _).mono ?_; rintro e w' ⟨rfl, rfl⟩) | (go_at_call 125; refine (valueOfNum_any _ _).mono ?_; rintro e w' ⟨rfl, hB⟩; obtain ⟨c0, c1, c2⟩ := box3 hB (by simp)))
      all_goals (go_wp2; go_ret2; exact ⟨by rw [hf.out]; rfl, below_box hB⟩)

theorem below_drawnN {w : World} {o : Obj} {k : Nat} : Below w.heap.size w ((w.alloc o).drewN k) :=
  below_drewN ((Below.refl _ _).alloc (Nat.le_refl _) _) k

set_option maxHeartbeats 800000 in
theorem contentOfNum_no (n : Int) (t : ByteArray) (w : World) (hx : (decide (-1000000000 ≤ n) && decide (n ≤ 1000000000)) = false) :
    Calls Tryz.prog 124 #[vAgg 1 n t] w fun e w' => e = .returned (.tuple #[.iface 162 (.int .i64 n), .bool (Pl.okB 1 n t)]) ∧ Below w.heap.size w w' := by
  have hm := m_num_fits
  have hf : Hid (Pl.okB 1 n t = false) := by show _ = _; simp only [Pl.okB, hx]; simp
  have hcall := fun w => fitsNum_no n hx w
  clear hx
  go_enter Tryz.func124, Tryz.ntmps124
  go_wp2_with fail
  go_quiet ((go_at_call 145; exact Calls.quiet_of_same (hcall _)))
  go_wp2
  go_ret2
  exact ⟨by rw [hf.out]; rfl, below_drawnN⟩

theorem contentOfNum_any (n : Int) (t : ByteArray) (w : World) :
    Calls Tryz.prog 124 #[vAgg 1 n t] w fun e w' => e = .returned (.tuple #[.iface 162 (.int .i64 n), .bool (Pl.okB 1 n t)]) ∧ Below w.heap.size w w' := by
  by_cases h : -1000000000 ≤ n ∧ n ≤ 1000000000
  · exact contentOfNum_yes n t w h
  · refine contentOfNum_no n t w ?_
    by_cases h2 : -1000000000 ≤ n <;> by_cases h3 : n ≤ 1000000000 <;> simp [h2, h3]
    exact absurd ⟨h2, h3⟩ h
end Go.Proofs.YtnikomgdcddchaaGreat

/- What a text value holds. -/
namespace Go.Proofs.YtnikomgdcddchaaGreat
open Go.RowKit
set_option linter.unusedVariables false

set_option maxHeartbeats 1600000 in
theorem contentOfText_any (n : Int) (t : ByteArray) (ht : t.size ≤ maxLen) (w : World) :
    Calls Tryz.prog 124 #[vAgg 2 n t] w fun e w' => e = .returned (.tuple #[.iface 163 (.string t), .bool (Pl.okB 2 n t)]) ∧ Below w.heap.size w w' := by
  have hm := m_text_fits
  cases hx : Pl.textB t
  · have hf : Hid (Pl.okB 2 n t = false) := by show _ = _; simp [Pl.okB, hx]
    have hcall := fun w => fitsText_at t ht hx w
    clear hx
    go_enter Tryz.func124, Tryz.ntmps124
    go_wp2_with fail
    go_quiet ((go_at_call 148; exact Calls.quiet_of_same (hcall _)))
    go_wp2
    go_ret2
    exact ⟨by rw [hf.out]; rfl, below_drawnN⟩
  · cases he : ((0 : Int) == n)
    · have hf : Hid (Pl.okB 2 n t = false) := by
        show _ = _
        have : ¬ n = 0 := by intro h; subst h; simp at he
        simp [Pl.okB, this]
      go_enter Tryz.func124, Tryz.ntmps124
      go_wp2_with fail
      go_region_with (first | (go_at_call 148; refine (fitsText_at _ ht hx _).mono ?_; rintro e w' ⟨rfl, rfl⟩) | (go_at_call 125; refine (valueOfText_any _ _).mono ?_; rintro e w' ⟨rfl, hB⟩; obtain ⟨c0, c1, c2⟩ := box3 hB (by simp)))
      all_goals (go_wp2; go_ret2; exact ⟨by rw [hf.out]; rfl, below_box hB⟩)
    · have h0 : n = 0 := (beq_iff_eq.1 he).symm
      subst h0
      clear he
      have hf : Hid (Pl.okB 2 0 t = true) := by show _ = _; simp [Pl.okB, hx]
      go_enter Tryz.func124, Tryz.ntmps124
      go_wp2_with fail
      go_region_with (first | (go_at_call 148; refine (fitsText_at _ ht hx _).mono ?_; rintro e w' ⟨rfl, rfl⟩) | (go_at_call 125; refine (valueOfText_any _ _).mono ?_; rintro e w' ⟨rfl, hB⟩; obtain ⟨c0, c1, c2⟩ := box3 hB (by simp)))
      all_goals (go_wp2; go_ret2; exact ⟨by rw [hf.out]; rfl, below_box hB⟩)
end Go.Proofs.YtnikomgdcddchaaGreat

/- What a value without anything holds, or one of no kind; whether a value is ok. -/
namespace Go.Proofs.YtnikomgdcddchaaGreat
open Go.RowKit
set_option linter.unusedVariables false

set_option maxHeartbeats 1600000 in
theorem contentOfNone_any (n : Int) (t : ByteArray) (w : World) :
    Calls Tryz.prog 124 #[vAgg 0 n t] w fun e w' => e = .returned (.tuple #[.iface 161 (.agg #[]), .bool (Pl.okB 0 n t)]) ∧ Below w.heap.size w w' := by
  have hm := m_none_fits
  have he2 : (([] : List UInt8) == t.toList) = t.toList.isEmpty := by cases t.toList <;> rfl
  cases hn : ((0 : Int) == n)
  · have hf : Hid (Pl.okB 0 n t = false) := by
      show _ = _
      have : ¬ n = 0 := by intro h; subst h; simp at hn
      simp [Pl.okB, this]
    clear he2
    go_enter Tryz.func124, Tryz.ntmps124
    go_wp2_with fail
    go_region_with (first | (go_at_call 142; refine (fitsNone_any _).mono ?_; rintro e w1 ⟨rfl, hA⟩; obtain ⟨d0, d1, d2⟩ := box3 hA (by simp)) | (go_at_call 125; refine (valueOfNone_any _).mono ?_; rintro e w2 ⟨rfl, hB⟩; obtain ⟨c0, c1, c2⟩ := box3' hA hB (by simp) (by have := hA.size; simp at this; omega)))
    all_goals (go_wp2; go_ret2; exact ⟨by rw [hf.out]; rfl, (below_box hA).trans (hB.mono (by have := hA.size; simp at this; omega))⟩)
  · have h0 : n = 0 := (beq_iff_eq.1 hn).symm
    subst h0
    clear hn
    cases he : t.toList.isEmpty
    · have hf : Hid (Pl.okB 0 0 t = false) := by show _ = _; simp [Pl.okB, he]
      rw [he] at he2
      clear he
      go_enter Tryz.func124, Tryz.ntmps124
      go_wp2_with fail
      go_region_with (first | (go_at_call 142; refine (fitsNone_any _).mono ?_; rintro e w1 ⟨rfl, hA⟩; obtain ⟨d0, d1, d2⟩ := box3 hA (by simp)) | (go_at_call 125; refine (valueOfNone_any _).mono ?_; rintro e w2 ⟨rfl, hB⟩; obtain ⟨c0, c1, c2⟩ := box3' hA hB (by simp) (by have := hA.size; simp at this; omega)))
      all_goals (go_wp2; go_ret2; exact ⟨by rw [hf.out]; rfl, (below_box hA).trans (hB.mono (by have := hA.size; simp at this; omega))⟩)
    · have hf : Hid (Pl.okB 0 0 t = true) := by show _ = _; simp [Pl.okB, he]
      rw [he] at he2
      clear he
      go_enter Tryz.func124, Tryz.ntmps124
      go_wp2_with fail
      go_region_with (first | (go_at_call 142; refine (fitsNone_any _).mono ?_; rintro e w1 ⟨rfl, hA⟩; obtain ⟨d0, d1, d2⟩ := box3 hA (by simp)) | (go_at_call 125; refine (valueOfNone_any _).mono ?_; rintro e w2 ⟨rfl, hB⟩; obtain ⟨c0, c1, c2⟩ := box3' hA hB (by simp) (by have := hA.size; simp at this; omega)))
      all_goals (go_wp2; go_ret2; exact ⟨by rw [hf.out]; rfl, (below_box hA).trans (hB.mono (by have := hA.size; simp at this; omega))⟩)

set_option maxHeartbeats 400000 in
theorem contentOfOther_any (k n : Int) (t : ByteArray) (k0 : (k == 0) = false) (k1 : (k == 1) = false) (k2 : (k == 2) = false) (w : World) :
    Calls Tryz.prog 124 #[vAgg k n t] w fun e w' => e = .returned (.tuple #[.iface 161 (.agg #[]), .bool false]) ∧ Below w.heap.size w w' := by
  go_enter Tryz.func124, Tryz.ntmps124
  go_wp2
  go_ret2
  exact ⟨rfl, (Below.refl _ _).alloc (Nat.le_refl _) _⟩

/-- what a value holds -/
def contV (k n : Int) (t : ByteArray) : Value :=
  if k = 1 then .iface 162 (.int .i64 n) else if k = 2 then .iface 163 (.string t) else .iface 161 (.agg #[])

theorem contentOf_any (k n : Int) (t : ByteArray) (ht : t.size ≤ maxLen) (w : World) :
    Calls Tryz.prog 124 #[vAgg k n t] w fun e w' => e = .returned (.tuple #[contV k n t, .bool (Pl.okB k n t)]) ∧ Below w.heap.size w w' := by
  by_cases k0 : k = 0
  · subst k0; exact contentOfNone_any n t w
  · by_cases k1 : k = 1
    · subst k1; exact contentOfNum_any n t w
    · by_cases k2 : k = 2
      · subst k2; exact contentOfText_any n t ht w
      · have := contentOfOther_any k n t (by simp [k0]) (by simp [k1]) (by simp [k2]) w
        simpa [contV, Pl.okB, k0, k1, k2] using this

set_option maxHeartbeats 400000 in
theorem implValueOk_any (k n : Int) (t : ByteArray) (ht : t.size ≤ maxLen) (w : World) :
    Calls Tryz.prog 122 #[vAgg k n t] w fun e w' => e = .returned (.bool (Pl.okB k n t)) ∧ Below w.heap.size w w' := by
  go_enter Tryz.func122, Tryz.ntmps122
  go_wp2_with (go_at_call 124; refine (contentOf_any _ _ _ ht _).mono ?_; rintro e w' ⟨rfl, hB⟩)
  go_ret
  exact ⟨rfl, ((Below.refl _ _).alloc (Nat.le_refl _) _).trans (hB.mono (by simp))⟩
end Go.Proofs.YtnikomgdcddchaaGreat

/- Whether an expression is ok, as the program has it: values. -/
namespace Go.Proofs.YtnikomgdcddchaaGreat
open Go.RowKit
set_option linter.unusedVariables false
theorem boxD {B n : Nat} {w w1 : World} {C : Array Value} {T : TypeId} (hb : Below B ((w.alloc (.cells C T)).drewN n) w1) (h : w.heap.size < B) (i : Nat) : w1.cell? ⟨w.heap.size, i, none⟩ = C[i]? := by
  rw [hb.cell (p := ⟨w.heap.size, i, none⟩) h]
  simp
set_option maxHeartbeats 1600000 in
theorem exprFits_val (d : Nat) (hd : d ≤ 5) (hd1 : 1 ≤ d) (ih : OkP 118 (d - 1)) (vk vn : Int) (vt nm : ByteArray) (k : Fo) (v : Value) (w : World) (ht : vt.size ≤ maxLen) (hn : nm.size ≤ maxLen) (hbv : Pl.okB vk vn vt = true) (hbn : nm.toList.isEmpty = true) (hab : ((k.len : Int) == Pl.arity 1) = true) (hwf : k.Wf) (hl : k.len ≤ 1048576) (hs : k.Sm) (hr : RowAt 0 w k v) :
    Calls Tryz.prog 118 #[ndV ⟨1, vk, vn, vt, nm⟩ v, .int .i64 d] w fun e w' => e = .returned (.bool (Pl.okN ⟨1, vk, vn, vt, nm⟩ k d)) ∧ Below w.heap.size w w' := by
  have hv := hide (implValueOk_any vk vn vt ht)
  rw [hbv] at hv
  have har := hide (exprParts_any 1)
  have hval : Hid (Pl.valB ⟨1, vk, vn, vt, nm⟩ = true) := by show _ = _; simp [Pl.valB, hbv]
  have hnmb : Hid (Pl.nmB ⟨1, vk, vn, vt, nm⟩ = true) := by show _ = _; simp [Pl.nmB, hbn]
  obtain ⟨ad, cap, rfl, hc, hm, hx⟩ := hr
  have HX := hide hx
  have IH := hide ih
  clear hx ih hbv
  unfold maxLen at hm
  have dl : ((d : Int) == 0) = false := beq_eq_false_iff_ne.2 (by omega)
  · have hN : Hid (Pl.okN ⟨1, vk, vn, vt, nm⟩ k d = Pl.okF k (d - 1)) := by show _ = _; simp [Pl.okN, hab, hval.out, hnmb.out, hd1]
    have hne : ((k.len : Int) != Pl.arity 1) = false := by simp only [bne, hab, Bool.not_true]
    clear hab
    go_enter Tryz.func118, Tryz.ntmps118
    go_wp2_with fail
    go_quiet ((go_at_call 121; exact Calls.quiet_of_same (har.out _)))
    go_wp2_with fail
    refine (hv.out _).mono ?_
    rintro e w1 ⟨rfl, hB1⟩
    have c0 : w1.cell? ⟨w.heap.size, 0, none⟩ = some (.int .i64 1) := boxD hB1 (by simp) 0
    have c5 : w1.cell? ⟨w.heap.size, 5, none⟩ = some (.slice ad k.len cap) := boxD hB1 (by simp) 5
    have hsz : w.heap.size < w1.heap.size := by have := hB1.size; simp at this; omega
    have HB : Hid (Below w.heap.size w w1) := (below_drewN ((Below.refl _ _).alloc (Nat.le_refl _) _) _).trans (hB1.mono (by simp))
    clear hB1 hv har
    go_wp2_with fail
    clear hne c0 c5 hbn hval hnmb
    go_loopw [55] (fun iv wr => ∃ i : Nat, i ≤ k.len ∧ iv = .int .i64 i ∧ Hid (∀ j nd k', j < i → k.get j = some (nd, k') → Pl.okN nd k' (d - 1) = true) ∧ Hid (Below w.heap.size w wr)) (fun iv _ => k.len - (intOf iv).toNat)
    case atStart => exact ⟨0, by omega, rfl, hide (fun j _ _ hj => by omega), HB⟩
    case round =>
      obtain ⟨i, hi, rfl, HS, hB⟩ := hrel
      by_cases hlt : i < k.len
      · obtain ⟨g, off, rfl, _, hg, hfo⟩ := HX.out (by omega)
        obtain ⟨nd, k', hget⟩ := k.get_some i hlt
        obtain ⟨v, hnd⟩ := hfo.get hget
        obtain ⟨d0, d1, d2, d3, d4, d5, hrow⟩ := hnd.later hB.out hg
        obtain ⟨w2, w3⟩ := hs.get hget
        obtain ⟨x1, x2, x3⟩ := hwf.get hget
        have hq : Hid (∀ W, Below wr.heap.size wr W → Calls Tryz.prog 118 #[ndV nd v, .int .i64 ((d : Int) - 1)] W fun e w' => e = .returned (.bool (Pl.okN nd k' (d - 1))) ∧ Below W.heap.size W w') := by
          refine hide fun W hW => ?_
          rw [show (d : Int) - 1 = ((d - 1 : Nat) : Int) by omega]
          exact IH.out nd k' v W x1 x2 x3 w2 w3 (hrow.later hW)
        have HG := hide hget
        clear hfo hnd hget
        obtain ⟨ad', cap', rfl, _, _, _⟩ := hrow
        have hii : (i : Int) < (k.len : Int) := by omega
        generalize k'.len = kl at *
        go_wp2_with fail
        refine (hq.out _ ((Below.refl _ _).alloc (Nat.le_refl _) _)).mono ?_
        rintro e w4 ⟨rfl, hB4⟩
        have HB4 : Hid (Below w.heap.size w w4) := (hB.out.alloc hB.out.size _).trans (hB4.mono (by have := hB.out.size; simp; omega))
        clear hq d0 d1 d2 d3 d4 d5 hB4
        cases hon : Pl.okN nd k' (d - 1)
        · have hall : Hid (Pl.okF k (d - 1) = false) := Pl.okF_not k (d - 1) i nd k' HG.out hon
          go_wp2
          go_ret
          exact ⟨by rw [hN.out, hall.out]; rfl, HB4.out⟩
        · have HS' : Hid (∀ j nd k', j < i + 1 → k.get j = some (nd, k') → Pl.okN nd k' (d - 1) = true) := by
            refine hide fun j nd' k'' hj hk => ?_
            by_cases hji : j = i
            · subst hji
              rw [HG.out] at hk
              cases hk
              exact hon
            · exact HS.out j nd' k'' (by omega) hk
          clear hon
          go_wp2
          go_roundw
          case rel => exact ⟨i + 1, by omega, by go_num, HS', HB4⟩
          case measure => simp [intOf]; omega
      · have hie : i = k.len := by omega
        have hall : Hid (Pl.okF k (d - 1) = true) := by
          refine hide (Pl.okF_all k (d - 1) fun j nd k' hk => HS.out j nd k' ?_ hk)
          apply Classical.byContradiction
          intro hx
          rw [Fo.get_none k j (by omega)] at hk
          cases hk
        go_wp2
        go_ret
        exact ⟨by rw [hN.out, hall.out]; rfl, hB.out⟩
end Go.Proofs.YtnikomgdcddchaaGreat

/- Whether an expression is ok, as the program has it: words that are names. -/
namespace Go.Proofs.YtnikomgdcddchaaGreat
open Go.RowKit
set_option linter.unusedVariables false
set_option maxHeartbeats 1600000 in
theorem exprFits_var (d : Nat) (hd : d ≤ 5) (hd1 : 1 ≤ d) (ih : OkP 118 (d - 1)) (vt nm : ByteArray) (k : Fo) (v : Value) (w : World) (ht : vt.size ≤ maxLen) (hn : nm.size ≤ maxLen) (hvt : vt.toList.isEmpty = true) (hbn : Pl.nameB nm = true) (hab : ((k.len : Int) == Pl.arity 2) = true) (hwf : k.Wf) (hl : k.len ≤ 1048576) (hs : k.Sm) (hr : RowAt 0 w k v) :
    Calls Tryz.prog 118 #[ndV ⟨2, 0, 0, vt, nm⟩ v, .int .i64 d] w fun e w' => e = .returned (.bool (Pl.okN ⟨2, 0, 0, vt, nm⟩ k d)) ∧ Below w.heap.size w w' := by
  have hv := hide (implValueOk_any 0 0 vt ht)
  rw [show Pl.okB 0 0 vt = true by simp [Pl.okB, hvt]] at hv
  have hw := hide (implNameOk_any nm hn)
  rw [hbn] at hw
  have har := hide (exprParts_any 2)
  have hval : Hid (Pl.valB ⟨2, 0, 0, vt, nm⟩ = true) := by show _ = _; simp only [Pl.valB, hvt]; rfl
  have hnmb : Hid (Pl.nmB ⟨2, 0, 0, vt, nm⟩ = true) := by show _ = _; simp only [Pl.nmB, hbn]; rfl
  obtain ⟨ad, cap, rfl, hc, hm, hx⟩ := hr
  have HX := hide hx
  have IH := hide ih
  clear hx ih hbn
  unfold maxLen at hm
  have dl : ((d : Int) == 0) = false := beq_eq_false_iff_ne.2 (by omega)
  · have hN : Hid (Pl.okN ⟨2, 0, 0, vt, nm⟩ k d = Pl.okF k (d - 1)) := by show _ = _; simp [Pl.okN, hab, hval.out, hnmb.out, hd1]
    have hne : ((k.len : Int) != Pl.arity 2) = false := by simp only [bne, hab, Bool.not_true]
    clear hab
    go_enter Tryz.func118, Tryz.ntmps118
    go_wp2_with fail
    go_quiet ((go_at_call 121; exact Calls.quiet_of_same (har.out _)))
    go_wp2_with fail
    refine (hw.out _).mono ?_
    rintro e w0 ⟨rfl, rfl⟩
    clear hw
    go_wp2_with fail
    refine (hv.out _).mono ?_
    rintro e w1 ⟨rfl, hB1⟩
    have c0 : w1.cell? ⟨w.heap.size, 0, none⟩ = some (.int .i64 2) := boxD hB1 (by simp) 0
    have c5 : w1.cell? ⟨w.heap.size, 5, none⟩ = some (.slice ad k.len cap) := boxD hB1 (by simp) 5
    have hsz : w.heap.size < w1.heap.size := by have := hB1.size; simp at this; omega
    have HB : Hid (Below w.heap.size w w1) := (below_drewN ((Below.refl _ _).alloc (Nat.le_refl _) _) _).trans (hB1.mono (by simp))
    clear hB1 hv har
    go_wp2_with fail
    clear hne c0 c5 hvt hval hnmb
    go_loopw [55] (fun iv wr => ∃ i : Nat, i ≤ k.len ∧ iv = .int .i64 i ∧ Hid (∀ j nd k', j < i → k.get j = some (nd, k') → Pl.okN nd k' (d - 1) = true) ∧ Hid (Below w.heap.size w wr)) (fun iv _ => k.len - (intOf iv).toNat)
    case atStart => exact ⟨0, by omega, rfl, hide (fun j _ _ hj => by omega), HB⟩
    case round =>
      obtain ⟨i, hi, rfl, HS, hB⟩ := hrel
      by_cases hlt : i < k.len
      · obtain ⟨g, off, rfl, _, hg, hfo⟩ := HX.out (by omega)
        obtain ⟨nd, k', hget⟩ := k.get_some i hlt
        obtain ⟨v, hnd⟩ := hfo.get hget
        obtain ⟨d0, d1, d2, d3, d4, d5, hrow⟩ := hnd.later hB.out hg
        obtain ⟨w2, w3⟩ := hs.get hget
        obtain ⟨x1, x2, x3⟩ := hwf.get hget
        have hq : Hid (∀ W, Below wr.heap.size wr W → Calls Tryz.prog 118 #[ndV nd v, .int .i64 ((d : Int) - 1)] W fun e w' => e = .returned (.bool (Pl.okN nd k' (d - 1))) ∧ Below W.heap.size W w') := by
          refine hide fun W hW => ?_
          rw [show (d : Int) - 1 = ((d - 1 : Nat) : Int) by omega]
          exact IH.out nd k' v W x1 x2 x3 w2 w3 (hrow.later hW)
        have HG := hide hget
        clear hfo hnd hget
        obtain ⟨ad', cap', rfl, _, _, _⟩ := hrow
        have hii : (i : Int) < (k.len : Int) := by omega
        generalize k'.len = kl at *
        go_wp2_with fail
        refine (hq.out _ ((Below.refl _ _).alloc (Nat.le_refl _) _)).mono ?_
        rintro e w4 ⟨rfl, hB4⟩
        have HB4 : Hid (Below w.heap.size w w4) := (hB.out.alloc hB.out.size _).trans (hB4.mono (by have := hB.out.size; simp; omega))
        clear hq d0 d1 d2 d3 d4 d5 hB4
        cases hon : Pl.okN nd k' (d - 1)
        · have hall : Hid (Pl.okF k (d - 1) = false) := Pl.okF_not k (d - 1) i nd k' HG.out hon
          go_wp2
          go_ret
          exact ⟨by rw [hN.out, hall.out]; rfl, HB4.out⟩
        · have HS' : Hid (∀ j nd k', j < i + 1 → k.get j = some (nd, k') → Pl.okN nd k' (d - 1) = true) := by
            refine hide fun j nd' k'' hj hk => ?_
            by_cases hji : j = i
            · subst hji
              rw [HG.out] at hk
              cases hk
              exact hon
            · exact HS.out j nd' k'' (by omega) hk
          clear hon
          go_wp2
          go_roundw
          case rel => exact ⟨i + 1, by omega, by go_num, HS', HB4⟩
          case measure => simp [intOf]; omega
      · have hie : i = k.len := by omega
        have hall : Hid (Pl.okF k (d - 1) = true) := by
          refine hide (Pl.okF_all k (d - 1) fun j nd k' hk => HS.out j nd k' ?_ hk)
          apply Classical.byContradiction
          intro hx
          rw [Fo.get_none k j (by omega)] at hk
          cases hk
        go_wp2
        go_ret
        exact ⟨by rw [hN.out, hall.out]; rfl, hB.out⟩
end Go.Proofs.YtnikomgdcddchaaGreat

/- Whether an expression is ok, as the program has it: the other kinds. -/
namespace Go.Proofs.YtnikomgdcddchaaGreat
open Go.RowKit
set_option linter.unusedVariables false
set_option maxHeartbeats 1600000 in
theorem exprFits_oth (d : Nat) (hd : d ≤ 5) (hd1 : 1 ≤ d) (ih : OkP 118 (d - 1)) (nk : Int) (n1 : ¬ nk = 1) (n2 : ¬ nk = 2) (vt nm : ByteArray) (k : Fo) (v : Value) (w : World) (ht : vt.size ≤ maxLen) (hn : nm.size ≤ maxLen) (hvt : vt.toList.isEmpty = true) (hbn : nm.toList.isEmpty = true) (hab : ((k.len : Int) == Pl.arity nk) = true) (hwf : k.Wf) (hl : k.len ≤ 1048576) (hs : k.Sm) (hr : RowAt 0 w k v) :
    Calls Tryz.prog 118 #[ndV ⟨nk, 0, 0, vt, nm⟩ v, .int .i64 d] w fun e w' => e = .returned (.bool (Pl.okN ⟨nk, 0, 0, vt, nm⟩ k d)) ∧ Below w.heap.size w w' := by
  have k1 : (nk == 1) = false := by simp [n1]
  have k2 : (nk == 2) = false := by simp [n2]
  have m1 : (nk != 1) = true := by simp [n1]
  have m2 : (nk != 2) = true := by simp [n2]
  have hv := hide (implValueOk_any 0 0 vt ht)
  rw [show Pl.okB 0 0 vt = true by simp [Pl.okB, hvt]] at hv
  have har := hide (exprParts_any nk)
  have hval : Hid (Pl.valB ⟨nk, 0, 0, vt, nm⟩ = true) := by show _ = _; simp only [Pl.valB, n1, hvt, if_false]; rfl
  have hnmb : Hid (Pl.nmB ⟨nk, 0, 0, vt, nm⟩ = true) := by show _ = _; simp only [Pl.nmB, n2, hbn, if_false]
  obtain ⟨ad, cap, rfl, hc, hm, hx⟩ := hr
  have HX := hide hx
  have IH := hide ih
  clear hx ih n1 n2
  unfold maxLen at hm
  have dl : ((d : Int) == 0) = false := beq_eq_false_iff_ne.2 (by omega)
  · have hN : Hid (Pl.okN ⟨nk, 0, 0, vt, nm⟩ k d = Pl.okF k (d - 1)) := by show _ = _; simp [Pl.okN, hab, hval.out, hnmb.out, hd1]
    have hne : ((k.len : Int) != Pl.arity nk) = false := by simp only [bne, hab, Bool.not_true]
    clear hab
    go_enter Tryz.func118, Tryz.ntmps118
    go_wp2_with fail
    go_quiet ((go_at_call 121; exact Calls.quiet_of_same (har.out _)))
    go_wp2_with fail
    refine (hv.out _).mono ?_
    rintro e w1 ⟨rfl, hB1⟩
    have c0 : w1.cell? ⟨w.heap.size, 0, none⟩ = some (.int .i64 nk) := boxD hB1 (by simp) 0
    have c5 : w1.cell? ⟨w.heap.size, 5, none⟩ = some (.slice ad k.len cap) := boxD hB1 (by simp) 5
    have hsz : w.heap.size < w1.heap.size := by have := hB1.size; simp at this; omega
    have HB : Hid (Below w.heap.size w w1) := (below_drewN ((Below.refl _ _).alloc (Nat.le_refl _) _) _).trans (hB1.mono (by simp))
    clear hB1 hv har
    go_wp2_with fail
    clear hne c0 c5 hvt hbn hval hnmb k1 k2 m1 m2
    go_loopw [55] (fun iv wr => ∃ i : Nat, i ≤ k.len ∧ iv = .int .i64 i ∧ Hid (∀ j nd k', j < i → k.get j = some (nd, k') → Pl.okN nd k' (d - 1) = true) ∧ Hid (Below w.heap.size w wr)) (fun iv _ => k.len - (intOf iv).toNat)
    case atStart => exact ⟨0, by omega, rfl, hide (fun j _ _ hj => by omega), HB⟩
    case round =>
      obtain ⟨i, hi, rfl, HS, hB⟩ := hrel
      by_cases hlt : i < k.len
      · obtain ⟨g, off, rfl, _, hg, hfo⟩ := HX.out (by omega)
        obtain ⟨nd, k', hget⟩ := k.get_some i hlt
        obtain ⟨v, hnd⟩ := hfo.get hget
        obtain ⟨d0, d1, d2, d3, d4, d5, hrow⟩ := hnd.later hB.out hg
        obtain ⟨w2, w3⟩ := hs.get hget
        obtain ⟨x1, x2, x3⟩ := hwf.get hget
        have hq : Hid (∀ W, Below wr.heap.size wr W → Calls Tryz.prog 118 #[ndV nd v, .int .i64 ((d : Int) - 1)] W fun e w' => e = .returned (.bool (Pl.okN nd k' (d - 1))) ∧ Below W.heap.size W w') := by
          refine hide fun W hW => ?_
          rw [show (d : Int) - 1 = ((d - 1 : Nat) : Int) by omega]
          exact IH.out nd k' v W x1 x2 x3 w2 w3 (hrow.later hW)
        have HG := hide hget
        clear hfo hnd hget
        obtain ⟨ad', cap', rfl, _, _, _⟩ := hrow
        have hii : (i : Int) < (k.len : Int) := by omega
        generalize k'.len = kl at *
        go_wp2_with fail
        refine (hq.out _ ((Below.refl _ _).alloc (Nat.le_refl _) _)).mono ?_
        rintro e w4 ⟨rfl, hB4⟩
        have HB4 : Hid (Below w.heap.size w w4) := (hB.out.alloc hB.out.size _).trans (hB4.mono (by have := hB.out.size; simp; omega))
        clear hq d0 d1 d2 d3 d4 d5 hB4
        cases hon : Pl.okN nd k' (d - 1)
        · have hall : Hid (Pl.okF k (d - 1) = false) := Pl.okF_not k (d - 1) i nd k' HG.out hon
          go_wp2
          go_ret
          exact ⟨by rw [hN.out, hall.out]; rfl, HB4.out⟩
        · have HS' : Hid (∀ j nd k', j < i + 1 → k.get j = some (nd, k') → Pl.okN nd k' (d - 1) = true) := by
            refine hide fun j nd' k'' hj hk => ?_
            by_cases hji : j = i
            · subst hji
              rw [HG.out] at hk
              cases hk
              exact hon
            · exact HS.out j nd' k'' (by omega) hk
          clear hon
          go_wp2
          go_roundw
          case rel => exact ⟨i + 1, by omega, by go_num, HS', HB4⟩
          case measure => simp [intOf]; omega
      · have hie : i = k.len := by omega
        have hall : Hid (Pl.okF k (d - 1) = true) := by
          refine hide (Pl.okF_all k (d - 1) fun j nd k' hk => HS.out j nd k' ?_ hk)
          apply Classical.byContradiction
          intro hx
          rw [Fo.get_none k j (by omega)] at hk
          cases hk
        go_wp2
        go_ret
        exact ⟨by rw [hN.out, hall.out]; rfl, hB.out⟩
end Go.Proofs.YtnikomgdcddchaaGreat

/- Whether an expression is ok, as the program has it: what is not. -/
namespace Go.Proofs.YtnikomgdcddchaaGreat
open Go.RowKit
set_option linter.unusedVariables false

abbrev FitsNo (nd : Nd) (v : Value) (d : Nat) (w : World) : Prop := Calls Tryz.prog 118 #[ndV nd v, .int .i64 d] w fun e w' => e = .returned (.bool false) ∧ Below w.heap.size w w'

set_option maxHeartbeats 800000 in
theorem exprFits_deep (nd : Nd) (v : Value) (w : World) : FitsNo nd v 0 w := by
  obtain ⟨nk, vk, vn, vt, nm⟩ := nd
  go_enter Tryz.func118, Tryz.ntmps118
  go_wp2_with fail
  go_quiet (fail)
  go_wp2
  go_ret
  exact ⟨rfl, below_drewN ((Below.refl _ _).alloc (Nat.le_refl _) _) _⟩

set_option maxHeartbeats 800000 in
theorem exprFits_parts (d : Nat) (hd1 : 1 ≤ d) (hd : d ≤ 5) (nd : Nd) (n : Nat) (ad : Option Addr) (cap : Nat) (hl : n ≤ 1048576) (hab : ((n : Int) == Pl.arity nd.k) = false) (w : World) : FitsNo nd (.slice ad n cap) d w := by
  obtain ⟨nk, vk, vn, vt, nm⟩ := nd
  have har := hide (exprParts_any nk)
  have dl : ((d : Int) == 0) = false := beq_eq_false_iff_ne.2 (by omega)
  have hne : ((n : Int) != Pl.arity nk) = true := by simp only [bne]; rw [hab]; rfl
  clear hab
  go_enter Tryz.func118, Tryz.ntmps118
  go_wp2_with fail
  go_quiet ((go_at_call 121; exact Calls.quiet_of_same (har.out _)))
  go_wp2
  go_ret
  exact ⟨rfl, below_drewN ((Below.refl _ _).alloc (Nat.le_refl _) _) _⟩

set_option maxHeartbeats 1600000 in
theorem exprFits_none (d : Nat) (hd1 : 1 ≤ d) (hd : d ≤ 5) (nk vk vn : Int) (vt nm : ByteArray) (n : Nat) (ad : Option Addr) (cap : Nat) (hl : n ≤ 1048576) (hab : ((n : Int) == Pl.arity nk) = true) (n1 : ¬ nk = 1) (hz : NotNone vk vn vt) (w : World) : FitsNo ⟨nk, vk, vn, vt, nm⟩ (.slice ad n cap) d w := by
  have har := hide (exprParts_any nk)
  have dl : ((d : Int) == 0) = false := beq_eq_false_iff_ne.2 (by omega)
  have hne : ((n : Int) != Pl.arity nk) = false := by simp only [bne]; rw [hab]; rfl
  have m1 : (nk != 1) = true := by simp [n1]
  clear hab n1
  rcases hz with hz | ⟨rfl, hz⟩ | ⟨rfl, rfl, hz⟩
  all_goals
    go_enter Tryz.func118, Tryz.ntmps118
    go_wp2_with fail
    go_quiet ((go_at_call 121; exact Calls.quiet_of_same (har.out _)))
    go_wp2
    go_ret
    exact ⟨rfl, below_drewN ((Below.refl _ _).alloc (Nat.le_refl _) _) _⟩

set_option maxHeartbeats 1600000 in
theorem exprFits_name1 (d : Nat) (hd1 : 1 ≤ d) (hd : d ≤ 5) (vk vn : Int) (vt nm : ByteArray) (n : Nat) (ad : Option Addr) (cap : Nat) (hl : n ≤ 1048576) (hab : ((n : Int) == Pl.arity 1) = true) (hbn : nm.toList.isEmpty = false) (w : World) : FitsNo ⟨1, vk, vn, vt, nm⟩ (.slice ad n cap) d w := by
  have har := hide (exprParts_any 1)
  have dl : ((d : Int) == 0) = false := beq_eq_false_iff_ne.2 (by omega)
  have hne : ((n : Int) != Pl.arity 1) = false := by simp only [bne]; rw [hab]; rfl
  clear hab
  go_enter Tryz.func118, Tryz.ntmps118
  go_wp2_with fail
  go_quiet ((go_at_call 121; exact Calls.quiet_of_same (har.out _)))
  go_wp2
  go_ret
  exact ⟨rfl, below_drewN ((Below.refl _ _).alloc (Nat.le_refl _) _) _⟩

set_option maxHeartbeats 1600000 in
theorem exprFits_nameo (d : Nat) (hd1 : 1 ≤ d) (hd : d ≤ 5) (nk : Int) (n1 : ¬ nk = 1) (n2 : ¬ nk = 2) (vt nm : ByteArray) (n : Nat) (ad : Option Addr) (cap : Nat) (hl : n ≤ 1048576) (hab : ((n : Int) == Pl.arity nk) = true) (hvt : vt.toList.isEmpty = true) (hbn : nm.toList.isEmpty = false) (w : World) : FitsNo ⟨nk, 0, 0, vt, nm⟩ (.slice ad n cap) d w := by
  have har := hide (exprParts_any nk)
  have dl : ((d : Int) == 0) = false := beq_eq_false_iff_ne.2 (by omega)
  have hne : ((n : Int) != Pl.arity nk) = false := by simp only [bne]; rw [hab]; rfl
  have m1 : (nk != 1) = true := by simp [n1]
  have m2 : (nk != 2) = true := by simp [n2]
  clear hab n1 n2
  go_enter Tryz.func118, Tryz.ntmps118
  go_wp2_with fail
  go_quiet ((go_at_call 121; exact Calls.quiet_of_same (har.out _)))
  go_wp2
  go_ret
  exact ⟨rfl, below_drewN ((Below.refl _ _).alloc (Nat.le_refl _) _) _⟩

set_option maxHeartbeats 1600000 in
theorem exprFits_word (d : Nat) (hd1 : 1 ≤ d) (hd : d ≤ 5) (vt nm : ByteArray) (hn : nm.size ≤ maxLen) (n : Nat) (ad : Option Addr) (cap : Nat) (hl : n ≤ 1048576) (hab : ((n : Int) == Pl.arity 2) = true) (hvt : vt.toList.isEmpty = true) (hbn : Pl.nameB nm = false) (w : World) : FitsNo ⟨2, 0, 0, vt, nm⟩ (.slice ad n cap) d w := by
  have har := hide (exprParts_any 2)
  have hw := hide (implNameOk_any nm hn)
  rw [hbn] at hw
  have dl : ((d : Int) == 0) = false := beq_eq_false_iff_ne.2 (by omega)
  have hne : ((n : Int) != Pl.arity 2) = false := by simp only [bne]; rw [hab]; rfl
  clear hab hbn
  go_enter Tryz.func118, Tryz.ntmps118
  go_wp2_with fail
  go_quiet ((go_at_call 121; exact Calls.quiet_of_same (har.out _)))
  go_wp2_with fail
  refine (hw.out _).mono ?_
  rintro e w0 ⟨rfl, rfl⟩
  go_wp2
  go_ret
  exact ⟨rfl, below_drewN ((Below.refl _ _).alloc (Nat.le_refl _) _) _⟩

set_option maxHeartbeats 1600000 in
theorem exprFits_value (d : Nat) (hd1 : 1 ≤ d) (hd : d ≤ 5) (vk vn : Int) (vt nm : ByteArray) (ht : vt.size ≤ maxLen) (n : Nat) (ad : Option Addr) (cap : Nat) (hl : n ≤ 1048576) (hab : ((n : Int) == Pl.arity 1) = true) (hbn : nm.toList.isEmpty = true) (hbv : Pl.okB vk vn vt = false) (w : World) : FitsNo ⟨1, vk, vn, vt, nm⟩ (.slice ad n cap) d w := by
  have har := hide (exprParts_any 1)
  have hv := hide (implValueOk_any vk vn vt ht)
  rw [hbv] at hv
  have dl : ((d : Int) == 0) = false := beq_eq_false_iff_ne.2 (by omega)
  have hne : ((n : Int) != Pl.arity 1) = false := by simp only [bne]; rw [hab]; rfl
  clear hab hbv
  go_enter Tryz.func118, Tryz.ntmps118
  go_wp2_with fail
  go_quiet ((go_at_call 121; exact Calls.quiet_of_same (har.out _)))
  go_wp2_with fail
  refine (hv.out _).mono ?_
  rintro e w1 ⟨rfl, hB1⟩
  go_wp2
  go_ret
  exact ⟨rfl, (below_drewN ((Below.refl _ _).alloc (Nat.le_refl _) _) _).trans (hB1.mono (by simp))⟩
end Go.Proofs.YtnikomgdcddchaaGreat

/- Whether an expression is ok, as the program has it: at every kind and depth. -/
namespace Go.Proofs.YtnikomgdcddchaaGreat
open Go.RowKit
set_option linter.unusedVariables false

theorem okN_parts_no {nd : Nd} (k : Fo) (d : Nat) (h : ((k.len : Int) == Pl.arity nd.k) = false) : Pl.okN nd k d = false := by
  simp only [Pl.okN, h, Bool.false_and, Bool.and_false]
theorem okN_value_no {nd : Nd} (k : Fo) (d : Nat) (h : Pl.valB nd = false) : Pl.okN nd k d = false := by
  simp only [Pl.okN, h, Bool.false_and, Bool.and_false]
theorem okN_nm_no {nd : Nd} (k : Fo) (d : Nat) (h : Pl.nmB nd = false) : Pl.okN nd k d = false := by
  simp only [Pl.okN, h, Bool.false_and, Bool.and_false]

theorem exprFits_step (d : Nat) (hd : d ≤ 5) (ih : 1 ≤ d → OkP 118 (d - 1)) : OkP 118 d := by
  intro nd k v w ht hn hwf hl hs hr
  by_cases hd1 : 1 ≤ d
  · have hr0 := hr
    obtain ⟨ad, cap, rfl, _, _, _⟩ := hr0
    cases hab : ((k.len : Int) == Pl.arity nd.k)
    · rw [okN_parts_no k d hab]
      exact exprFits_parts d hd1 hd nd k.len ad cap hl hab w
    · obtain ⟨nk, vk, vn, vt, nm⟩ := nd
      simp only at hab ht hn
      by_cases n1 : nk = 1
      · subst n1
        cases hbn : nm.toList.isEmpty
        · rw [okN_nm_no k d (by simp [Pl.nmB, hbn])]
          exact exprFits_name1 d hd1 hd vk vn vt nm k.len ad cap hl hab hbn w
        · cases hbv : Pl.okB vk vn vt
          · rw [okN_value_no k d (by simp [Pl.valB, hbv])]
            exact exprFits_value d hd1 hd vk vn vt nm ht k.len ad cap hl hab hbn hbv w
          · exact exprFits_val d hd hd1 (ih hd1) vk vn vt nm k _ w ht hn hbv hbn hab hwf hl hs hr
      · rcases notNone_or vk vn vt with hz | ⟨rfl, rfl, hvt⟩
        · rw [okN_val_no n1 hz]
          exact exprFits_none d hd1 hd nk vk vn vt nm k.len ad cap hl hab n1 hz w
        · by_cases n2 : nk = 2
          · subst n2
            cases hbn : Pl.nameB nm
            · rw [okN_nm_no k d (by simp [Pl.nmB, hbn])]
              exact exprFits_word d hd1 hd vt nm hn k.len ad cap hl hab hvt hbn w
            · exact exprFits_var d hd hd1 (ih hd1) vt nm k _ w ht hn hvt hbn hab hwf hl hs hr
          · cases hbn : nm.toList.isEmpty
            · rw [okN_nm_no k d (by simp [Pl.nmB, n2, hbn])]
              exact exprFits_nameo d hd1 hd nk n1 n2 vt nm k.len ad cap hl hab hvt hbn w
            · exact exprFits_oth d hd hd1 (ih hd1) nk n1 n2 vt nm k _ w ht hn hvt hbn hab hwf hl hs hr
  · have hd0 : d = 0 := by omega
    subst hd0
    rw [show Pl.okN nd k 0 = false by simp [Pl.okN]]
    exact exprFits_deep nd v w
theorem exprFits_any : ∀ (d : Nat), d ≤ 5 → OkP 118 d
  | 0, h => exprFits_step 0 h (fun h => by omega)
  | d + 1, h => exprFits_step (d + 1) h (fun _ => exprFits_any d (by omega))

set_option maxHeartbeats 400000 in
theorem implExprOk_any (nd : Nd) (k : Fo) (v : Value) (w : World) (ht : nd.vt.size ≤ maxLen) (hn : nd.nm.size ≤ maxLen) (hwf : k.Wf) (hl : k.len ≤ 1048576) (hs : k.Sm) (hr : RowAt 0 w k v) :
    Calls Tryz.prog 111 #[ndV nd v] w fun e w' => e = .returned (.bool (Pl.okN nd k 5)) ∧ Below w.heap.size w w' := by
  have hq : Hid (∀ W, Below w.heap.size w W → Calls Tryz.prog 118 #[ndV nd v, .int .i64 5] W fun e w' => e = .returned (.bool (Pl.okN nd k 5)) ∧ Below W.heap.size W w') := fun W hW => exprFits_any 5 (Nat.le_refl _) nd k v W ht hn hwf hl hs (hr.later hW)
  clear hr hwf hs
  go_enter Tryz.func111, Tryz.ntmps111
  go_wp2_with fail
  refine (hq.out _ ((Below.refl _ _).alloc (Nat.le_refl _) _)).mono ?_
  rintro e w1 ⟨rfl, hB1⟩
  go_wp2
  go_ret
  exact ⟨rfl, ((Below.refl _ _).alloc (Nat.le_refl _) _).trans (hB1.mono (by simp))⟩
end Go.Proofs.YtnikomgdcddchaaGreat

/- Contents, as the program has them: whether they count, and worked with, two together. -/
import Derived.Test.YtamkncfdfaejjaaGreatDoorVal5
import Derived.Test.YtamkncfdfaejjaaGreatDoorPlEv2
import Derived.Test.YtamkncfdfaejjaaGreatDoorEvS2
namespace Go.Proofs.YtamkncfdfaejjaaGreatDoor
open Go.RowKit
set_option linter.unusedVariables false
set_option linter.unusedSimpArgs false
/-- what a value holds -/
def cvA (v : Va) : Value := contV v.k v.n v.t
theorem cvA_cases {v : Va} (h : Pl.okA v = true) : (cvA v = .iface 112 (.agg #[]) ∧ v = ⟨0, 0, ⟨#[]⟩⟩) ∨ (∃ n, cvA v = .iface 113 (.int .i64 n) ∧ v = ⟨1, n, ⟨#[]⟩⟩ ∧ -1000000000 ≤ n ∧ n ≤ 1000000000) ∨ (∃ t, cvA v = .iface 114 (.string t) ∧ v = ⟨2, 0, t⟩ ∧ Pl.textB t = true) := by
  obtain ⟨k, n, t⟩ := v
  rcases Pl.okA_cases h with ⟨h0, h1, h2⟩ | ⟨h0, h1, h2, h3⟩ | ⟨h0, h1, h2⟩
  · simp only at h0 h1 h2
    subst h0 h1 h2
    exact .inl ⟨rfl, rfl⟩
  · simp only at h0 h1 h2 h3
    subst h0 h3
    exact .inr (.inl ⟨n, rfl, rfl, h1, h2⟩)
  · simp only at h0 h1 h2
    subst h0 h1
    exact .inr (.inr ⟨t, rfl, rfl, h2⟩)
abbrev cvI (n : Int) : Value := .iface 113 (.int .i64 n)
abbrev cvT (t : ByteArray) : Value := .iface 114 (.string t)
abbrev cvN : Value := .iface 112 (.agg #[])
/-- an error of the program's own -/
abbrev errV (s : ByteArray) : Value := .iface 95 (.agg #[.string s])
theorem ta_num_text (n : Int) (w : World) : (Instr.typeAssert (.iface 113 (.int .i64 n)) 80 114 true).run Tryz.prog w = .ok (.tuple #[.string ⟨#[]⟩, .bool false]) w := by kernel_rfl
theorem m_num_counts (n : Int) (w : World) : (method 312 113 (.int .i64 n) "loop.example/backstitch/impl.counts").run Tryz.prog w = .ok (154, .int .i64 n) w := by kernel_rfl
theorem m_text_counts (s : ByteArray) (w : World) : (method 312 114 (.string s) "loop.example/backstitch/impl.counts").run Tryz.prog w = .ok (157, .string s) w := by kernel_rfl
theorem m_none_counts (w : World) : (method 312 112 (.agg #[]) "loop.example/backstitch/impl.counts").run Tryz.prog w = .ok (151, .agg #[]) w := by kernel_rfl
set_option maxHeartbeats 400000 in
theorem countsNum_any (n : Int) (w : World) : Calls Tryz.prog 154 #[.int .i64 n] w fun e w' => e = .returned (.bool (Pl.countsA ⟨1, n, ⟨#[]⟩⟩)) ∧ Below w.heap.size w w' := by
  unfold Pl.countsA
  simp only [Pl.emp_is]
  cases q1 : (n == 0)
  all_goals
    have q3 : (n != 0) = !(n == 0) := rfl
    rw [q1] at q3
    go_enter Tryz.func154, Tryz.ntmps154
    go_wp2
    go_ret
    exact ⟨by simp [q1], Below.refl _ _⟩
set_option maxHeartbeats 400000 in
theorem countsText_any (t : ByteArray) (w : World) : Calls Tryz.prog 157 #[.string t] w fun e w' => e = .returned (.bool (Pl.countsA ⟨2, 0, t⟩)) ∧ Below w.heap.size w w' := by
  unfold Pl.countsA
  cases q1 : t.toList.isEmpty
  all_goals
    go_enter Tryz.func157, Tryz.ntmps157
    go_wp2
    go_ret
    exact ⟨by simp [q1], Below.refl _ _⟩
set_option maxHeartbeats 400000 in
theorem countsNone_any (w : World) : Calls Tryz.prog 151 #[.agg #[]] w fun e w' => e = .returned (.bool (Pl.countsA ⟨0, 0, ⟨#[]⟩⟩)) ∧ Below w.heap.size w w' := by
  unfold Pl.countsA
  simp only [Pl.emp_is]
  go_enter Tryz.func151, Tryz.ntmps151
  go_wp2
  go_ret
  exact ⟨by simp, (Below.refl _ _).alloc (Nat.le_refl _) _⟩
set_option maxHeartbeats 400000 in
theorem truth_any (b : Bool) (w : World) : Calls Tryz.prog 107 #[.bool b] w fun e w' => e = .returned (cvI (Pl.truthA b).n) ∧ w' = w := by
  cases b
  all_goals
    go_enter Tryz.func107, Tryz.ntmps107
    go_wp2
    go_ret
    exact ⟨rfl, rfl⟩
/-- what a function that works hands back -/
def ResC (r : Option Va) (x : Value) : Prop := match r with
  | some v => x = .tuple #[cvA v, .nilIface]
  | none => ∃ s, x = .tuple #[.nilIface, errV s]
def WorkPost (r : Option Va) (w : World) (e : Ending) (w' : World) : Prop := (∃ x, e = .returned x ∧ ResC r x) ∧ Below w.heap.size w w'
theorem cv_truth (b : Bool) : cvA (Pl.truthA b) = cvI (Pl.truthA b).n := rfl
def bothB (a b : Value) : Prop := ∃ n m, a = cvI n ∧ b = cvI m
set_option maxHeartbeats 800000 in
theorem bothNums_yes (n m : Int) (w : World) : Calls Tryz.prog 130 #[cvI n, cvI m] w fun e w' => e = .returned (.tuple #[.int .i64 n, .int .i64 m, .nilIface]) ∧ w' = w := by
  have t1 := ta_num_num
  go_enter Tryz.func130, Tryz.ntmps130
  go_wp2
  go_ret3
  exact ⟨rfl, rfl⟩
set_option maxHeartbeats 800000 in
theorem bothNums_no (a b : Value) (ha : a = cvN ∨ (∃ n, a = cvI n) ∨ ∃ t, a = cvT t) (hb : b = cvN ∨ (∃ n, b = cvI n) ∨ ∃ t, b = cvT t) (hn : ¬ bothB a b) (w : World) :
    Calls Tryz.prog 130 #[a, b] w fun e w' => (∃ s, e = .returned (.tuple #[.int .i64 0, .int .i64 0, errV s])) ∧ w' = w := by
  have t1 := ta_num_num
  have t2 := ta_text_num
  have t3 := ta_none_num
  rcases ha with rfl | ⟨n, rfl⟩ | ⟨t, rfl⟩ <;> rcases hb with rfl | ⟨m, rfl⟩ | ⟨u, rfl⟩
  all_goals first | (exfalso; exact hn ⟨_, _, rfl, rfl⟩) | skip
  all_goals
    clear hn
    go_enter Tryz.func130, Tryz.ntmps130
    go_wp2
    go_ret3
    exact ⟨⟨_, rfl⟩, rfl⟩
set_option maxHeartbeats 800000 in
theorem less_yes (n m : Int) (w : World) : Calls Tryz.prog 114 #[cvI n, cvI m] w (WorkPost (some (Pl.truthA (decide (n < m)))) w) := by
  have hb := hide (bothNums_yes n m)
  have ht := hide (truth_any (decide (n < m)))
  cases hd : decide (n < m)
  all_goals
    rw [hd] at ht
    have hlt := hd
    simp at hlt
    go_enter Tryz.func114, Tryz.ntmps114
    go_wp2_with fail
    refine (hb.out _).mono ?_
    rintro e w1 ⟨rfl, rfl⟩
    go_wp2_with fail
    refine (ht.out _).mono ?_
    rintro e w1 ⟨rfl, rfl⟩
    go_wp2
    go_ret2
    exact ⟨⟨_, rfl, rfl⟩, Below.refl _ _⟩
set_option maxHeartbeats 800000 in
theorem less_no (a b : Value) (ha : a = cvN ∨ (∃ n, a = cvI n) ∨ ∃ t, a = cvT t) (hb : b = cvN ∨ (∃ n, b = cvI n) ∨ ∃ t, b = cvT t) (hn : ¬ bothB a b) (w : World) : Calls Tryz.prog 114 #[a, b] w (WorkPost none w) := by
  have hb := hide (bothNums_no a b ha hb hn)
  clear ha hn
  go_enter Tryz.func114, Tryz.ntmps114
  go_wp2_with fail
  refine (hb.out _).mono ?_
  rintro e w1 ⟨⟨s, rfl⟩, rfl⟩
  go_wp2
  go_ret2
  exact ⟨⟨_, rfl, s, rfl⟩, Below.refl _ _⟩
end Go.Proofs.YtamkncfdfaejjaaGreatDoor

/- Contents, as the program has them: whether they count, and worked with, two together. -/
import Derived.Test.YtamkncfdfaejjabGreatDoorVal5
import Derived.Test.YtamkncfdfaejjabGreatDoorPlEv2
import Derived.Test.YtamkncfdfaejjabGreatDoorEvS2
namespace Go.Proofs.YtamkncfdfaejjabGreatDoor
open Go.RowKit
set_option linter.unusedVariables false
set_option linter.unusedSimpArgs false
/-- what a value holds -/
def cvA (v : Va) : Value := contV v.k v.n v.t
theorem cvA_cases {v : Va} (h : Pl.okA v = true) : (cvA v = .iface 107 (.agg #[]) ∧ v = ⟨0, 0, ⟨#[]⟩⟩) ∨ (∃ n, cvA v = .iface 100 (.int .i64 n) ∧ v = ⟨1, n, ⟨#[]⟩⟩ ∧ -1000000000 ≤ n ∧ n ≤ 1000000000) ∨ (∃ t, cvA v = .iface 101 (.string t) ∧ v = ⟨2, 0, t⟩ ∧ Pl.textB t = true) := by
  obtain ⟨k, n, t⟩ := v
  rcases Pl.okA_cases h with ⟨h0, h1, h2⟩ | ⟨h0, h1, h2, h3⟩ | ⟨h0, h1, h2⟩
  · simp only at h0 h1 h2
    subst h0 h1 h2
    exact .inl ⟨rfl, rfl⟩
  · simp only at h0 h1 h2 h3
    subst h0 h3
    exact .inr (.inl ⟨n, rfl, rfl, h1, h2⟩)
  · simp only at h0 h1 h2
    subst h0 h1
    exact .inr (.inr ⟨t, rfl, rfl, h2⟩)
abbrev cvI (n : Int) : Value := .iface 100 (.int .i64 n)
abbrev cvT (t : ByteArray) : Value := .iface 101 (.string t)
abbrev cvN : Value := .iface 107 (.agg #[])
/-- an error of the program's own -/
abbrev errV (s : ByteArray) : Value := .iface 67 (.agg #[.string s])
theorem ta_num_text (n : Int) (w : World) : (Instr.typeAssert (.iface 100 (.int .i64 n)) 59 101 true).run Tryz.prog w = .ok (.tuple #[.string ⟨#[]⟩, .bool false]) w := by kernel_rfl
theorem m_num_counts (n : Int) (w : World) : (method 259 100 (.int .i64 n) "loop.example/backstitch/impl.counts").run Tryz.prog w = .ok (106, .int .i64 n) w := by kernel_rfl
theorem m_text_counts (s : ByteArray) (w : World) : (method 259 101 (.string s) "loop.example/backstitch/impl.counts").run Tryz.prog w = .ok (109, .string s) w := by kernel_rfl
theorem m_none_counts (w : World) : (method 259 107 (.agg #[]) "loop.example/backstitch/impl.counts").run Tryz.prog w = .ok (111, .agg #[]) w := by kernel_rfl
set_option maxHeartbeats 400000 in
theorem countsNum_any (n : Int) (w : World) : Calls Tryz.prog 106 #[.int .i64 n] w fun e w' => e = .returned (.bool (Pl.countsA ⟨1, n, ⟨#[]⟩⟩)) ∧ Below w.heap.size w w' := by
  unfold Pl.countsA
  simp only [Pl.emp_is]
  cases q1 : (n == 0)
  all_goals
    have q3 : (n != 0) = !(n == 0) := rfl
    rw [q1] at q3
    go_enter Tryz.func106, Tryz.ntmps106
    go_wp2
    go_ret
    exact ⟨by simp [q1], Below.refl _ _⟩
set_option maxHeartbeats 400000 in
theorem countsText_any (t : ByteArray) (w : World) : Calls Tryz.prog 109 #[.string t] w fun e w' => e = .returned (.bool (Pl.countsA ⟨2, 0, t⟩)) ∧ Below w.heap.size w w' := by
  unfold Pl.countsA
  cases q1 : t.toList.isEmpty
  all_goals
    go_enter Tryz.func109, Tryz.ntmps109
    go_wp2
    go_ret
    exact ⟨by simp [q1], Below.refl _ _⟩
set_option maxHeartbeats 400000 in
theorem countsNone_any (w : World) : Calls Tryz.prog 111 #[.agg #[]] w fun e w' => e = .returned (.bool (Pl.countsA ⟨0, 0, ⟨#[]⟩⟩)) ∧ Below w.heap.size w w' := by
  unfold Pl.countsA
  simp only [Pl.emp_is]
  go_enter Tryz.func111, Tryz.ntmps111
  go_wp2
  go_ret
  exact ⟨by simp, (Below.refl _ _).alloc (Nat.le_refl _) _⟩
set_option maxHeartbeats 400000 in
theorem truth_any (b : Bool) (w : World) : Calls Tryz.prog 65 #[.bool b] w fun e w' => e = .returned (cvI (Pl.truthA b).n) ∧ w' = w := by
  cases b
  all_goals
    go_enter Tryz.func65, Tryz.ntmps65
    go_wp2
    go_ret
    exact ⟨rfl, rfl⟩
/-- what a function that works hands back -/
def ResC (r : Option Va) (x : Value) : Prop := match r with
  | some v => x = .tuple #[cvA v, .nilIface]
  | none => ∃ s, x = .tuple #[.nilIface, errV s]
def WorkPost (r : Option Va) (w : World) (e : Ending) (w' : World) : Prop := (∃ x, e = .returned x ∧ ResC r x) ∧ Below w.heap.size w w'
theorem cv_truth (b : Bool) : cvA (Pl.truthA b) = cvI (Pl.truthA b).n := rfl
def bothB (a b : Value) : Prop := ∃ n m, a = cvI n ∧ b = cvI m
set_option maxHeartbeats 800000 in
theorem bothNums_yes (n m : Int) (w : World) : Calls Tryz.prog 83 #[cvI n, cvI m] w fun e w' => e = .returned (.tuple #[.int .i64 n, .int .i64 m, .nilIface]) ∧ w' = w := by
  have t1 := ta_num_num
  go_enter Tryz.func83, Tryz.ntmps83
  go_wp2
  go_ret3
  exact ⟨rfl, rfl⟩
set_option maxHeartbeats 800000 in
theorem bothNums_no (a b : Value) (ha : a = cvN ∨ (∃ n, a = cvI n) ∨ ∃ t, a = cvT t) (hb : b = cvN ∨ (∃ n, b = cvI n) ∨ ∃ t, b = cvT t) (hn : ¬ bothB a b) (w : World) :
    Calls Tryz.prog 83 #[a, b] w fun e w' => (∃ s, e = .returned (.tuple #[.int .i64 0, .int .i64 0, errV s])) ∧ w' = w := by
  have t1 := ta_num_num
  have t2 := ta_text_num
  have t3 := ta_none_num
  rcases ha with rfl | ⟨n, rfl⟩ | ⟨t, rfl⟩ <;> rcases hb with rfl | ⟨m, rfl⟩ | ⟨u, rfl⟩
  all_goals first | (exfalso; exact hn ⟨_, _, rfl, rfl⟩) | skip
  all_goals
    clear hn
    go_enter Tryz.func83, Tryz.ntmps83
    go_wp2
    go_ret3
    exact ⟨⟨_, rfl⟩, rfl⟩
set_option maxHeartbeats 800000 in
theorem less_yes (n m : Int) (w : World) : Calls Tryz.prog 72 #[cvI n, cvI m] w (WorkPost (some (Pl.truthA (decide (n < m)))) w) := by
  have hb := hide (bothNums_yes n m)
  have ht := hide (truth_any (decide (n < m)))
  cases hd : decide (n < m)
  all_goals
    rw [hd] at ht
    have hlt := hd
    simp at hlt
    go_enter Tryz.func72, Tryz.ntmps72
    go_wp2_with fail
    refine (hb.out _).mono ?_
    rintro e w1 ⟨rfl, rfl⟩
    go_wp2_with fail
    refine (ht.out _).mono ?_
    rintro e w1 ⟨rfl, rfl⟩
    go_wp2
    go_ret2
    exact ⟨⟨_, rfl, rfl⟩, Below.refl _ _⟩
set_option maxHeartbeats 800000 in
theorem less_no (a b : Value) (ha : a = cvN ∨ (∃ n, a = cvI n) ∨ ∃ t, a = cvT t) (hb : b = cvN ∨ (∃ n, b = cvI n) ∨ ∃ t, b = cvT t) (hn : ¬ bothB a b) (w : World) : Calls Tryz.prog 72 #[a, b] w (WorkPost none w) := by
  have hb := hide (bothNums_no a b ha hb hn)
  clear ha hn
  go_enter Tryz.func72, Tryz.ntmps72
  go_wp2_with fail
  refine (hb.out _).mono ?_
  rintro e w1 ⟨⟨s, rfl⟩, rfl⟩
  go_wp2
  go_ret2
  exact ⟨⟨_, rfl, s, rfl⟩, Below.refl _ _⟩
end Go.Proofs.YtamkncfdfaejjabGreatDoor

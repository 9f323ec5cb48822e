/- What the specification counts over events: how many are to come still, news, whether they go on, tasks. -/
import Derived.Test.YtobeecopkfgplaaEvM
import Derived.WalkSpells
import Derived.WalkLawsBesides
import Derived.Test.YtobeecopkfgplaaCmd1
namespace Go.Proofs.Ytobeecopkfgplaa
open Go.RowKit
set_option linter.unusedVariables false
set_option linter.unusedSimpArgs false

theorem Pl.leftOf_take (l : List Ev) (i : Nat) (e : Ev) (h : l[i]? = some e) : Pl.leftOf (l.take (i + 1)) = Pl.leftStep (Pl.leftOf (l.take i)) e := by
  rw [List.take_add_one, h]
  exact Pl.leftOf_snoc _ _
theorem Pl.tasksOf_take (l : List Ev) (i : Nat) (e : Ev) (h : l[i]? = some e) : Pl.tasksOf (l.take (i + 1)) = if e.k = 2 then Pl.tasksOf (l.take i) + 1 else Pl.tasksOf (l.take i) := by
  rw [List.take_add_one, h]
  exact Pl.tasksOf_snoc _ _
/-- what a task tells is in its range -/
def ManyOk (l : List Ev) : Prop := ∀ e ∈ l, e.k = 2 → 0 ≤ e.many ∧ e.many ≤ 40
theorem left_bound (l : List Ev) (hm : ManyOk l) : ∀ i, i ≤ l.length → -(i : Int) ≤ Pl.leftOf (l.take i) ∧ Pl.leftOf (l.take i) ≤ 40
  | 0, _ => by simp [Pl.leftOf]
  | i + 1, h => by
    have ih := left_bound l hm i (by omega)
    have hlt : i < l.length := by omega
    have hget : l[i]? = some l[i] := List.getElem?_eq_getElem hlt
    have hmm := hm l[i] (List.getElem_mem hlt)
    rw [Pl.leftOf_take l i _ hget]
    unfold Pl.leftStep
    split
    · rename_i h2; have := hmm h2; omega
    · split <;> omega

set_option maxHeartbeats 1600000 in
theorem l5Left_any (l : List Ev) (hm : ManyOk l) (hN : l.length ≤ 1048576) (v : Value) (w : World) (hr : EvRow w l v) :
    Calls Try.prog 35 #[v] w fun x w' => x = .returned (.int .i64 (Pl.leftOf l)) ∧ w' = w := by
  obtain ⟨ad, cap, rfl, hc, hmx, hx⟩ := hr
  unfold maxLen at hmx
  have HX := hide hx
  have HM := hide (left_bound l hm)
  clear hx hm
  go_enter Try.func35, Try.ntmps35
  go_wp2_with fail
  go_loop [3, 4] (fun nv iv => ∃ i : Nat, i ≤ l.length ∧ iv = .int .i64 i ∧ nv = .int .i64 (Pl.leftOf (l.take i))) (fun _ iv => l.length - (intOf iv).toNat)
  case atStart => exact ⟨0, by omega, rfl, by simp [Pl.leftOf]⟩
  case round =>
    obtain ⟨i, hi, rfl, rfl⟩ := hrel
    by_cases hlt : i < l.length
    · obtain ⟨g, off, rfl, hg, hs⟩ := HX.out (by omega)
      have hget : l[i]? = some l[i] := List.getElem?_eq_getElem hlt
      obtain ⟨e, he⟩ : ∃ e, l[i]? = some e := ⟨_, hget⟩
      obtain ⟨d0, d1, d2, d3, d4, _⟩ := (hs i e he).cells
      have hb := HM.out i hi
      have HS := hide (Pl.leftOf_take l i e he)
      generalize Pl.leftOf (l.take i) = n at *
      clear hs he hget
      have hii : (i : Int) < (l.length : Int) := by omega
      by_cases k2 : e.k = 2
      · have q2 : (e.k == 2) = true := by simp [k2]
        have HN : Hid (Pl.leftStep n e = e.many) := by show _ = _; simp [Pl.leftStep, k2]
        clear k2
        go_wp2
        exact ⟨⟨i + 1, by omega, by go_num, by rw [HS.out, HN.out]⟩, by simp [intOf]; omega⟩
      · have q2 : (e.k == 2) = false := by simp [k2]
        by_cases k3 : e.k = 3
        · have q3 : (e.k == 3) = true := by simp [k3]
          have HN : Hid (Pl.leftStep n e = n - 1) := by show _ = _; simp [Pl.leftStep, k2, k3]
          clear k2 k3
          go_wp2
          exact ⟨⟨i + 1, by omega, by go_num, by rw [HS.out, HN.out]⟩, by simp [intOf]; omega⟩
        · have q3 : (e.k == 3) = false := by simp [k3]
          have HN : Hid (Pl.leftStep n e = n) := by show _ = _; simp [Pl.leftStep, k2, k3]
          clear k2 k3
          go_wp2
          exact ⟨⟨i + 1, by omega, by go_num, by rw [HS.out, HN.out]⟩, by simp [intOf]; omega⟩
    · have hie : i = l.length := by omega
      go_wp2
      go_ret
      exact ⟨rfl, rfl⟩

set_option maxHeartbeats 1600000 in
theorem l5Tasks_any (l : List Ev) (hN : l.length ≤ 1048576) (v : Value) (w : World) (hr : EvRow w l v) :
    Calls Try.prog 41 #[v] w fun x w' => x = .returned (.int .i64 (Pl.tasksOf l : Nat)) ∧ w' = w := by
  obtain ⟨ad, cap, rfl, hc, hmx, hx⟩ := hr
  unfold maxLen at hmx
  have HX := hide hx
  have HM : Hid (∀ i, Pl.tasksOf (l.take i) ≤ l.length) := fun i => by
    unfold Pl.tasksOf
    refine Nat.le_trans (List.length_filter_le _ _) ?_
    simp [List.length_take]; omega
  clear hx
  go_enter Try.func41, Try.ntmps41
  go_wp2_with fail
  go_loop [3, 4] (fun nv iv => ∃ i : Nat, i ≤ l.length ∧ iv = .int .i64 i ∧ nv = .int .i64 (Pl.tasksOf (l.take i) : Nat)) (fun _ iv => l.length - (intOf iv).toNat)
  case atStart => exact ⟨0, by omega, rfl, by simp [Pl.tasksOf]⟩
  case round =>
    obtain ⟨i, hi, rfl, rfl⟩ := hrel
    by_cases hlt : i < l.length
    · obtain ⟨g, off, rfl, hg, hs⟩ := HX.out (by omega)
      have hget : l[i]? = some l[i] := List.getElem?_eq_getElem hlt
      obtain ⟨e, he⟩ : ∃ e, l[i]? = some e := ⟨_, hget⟩
      obtain ⟨d0, _⟩ := (hs i e he).cells
      have hb := HM.out i
      have HS := hide (Pl.tasksOf_take l i e he)
      generalize Pl.tasksOf (l.take i) = n at *
      clear hs he hget
      have hii : (i : Int) < (l.length : Int) := by omega
      by_cases k2 : e.k = 2
      · have q2 : (e.k == 2) = true := by simp [k2]
        have HN : Hid (Pl.tasksOf (l.take (i + 1)) = n + 1) := by show _ = _; rw [HS.out, if_pos k2]
        clear k2
        go_wp2
        exact ⟨⟨i + 1, by omega, by go_num, by rw [HN.out]; go_num⟩, by simp [intOf]; omega⟩
      · have q2 : (e.k == 2) = false := by simp [k2]
        have HN : Hid (Pl.tasksOf (l.take (i + 1)) = n) := by show _ = _; rw [HS.out, if_neg k2]
        clear k2
        go_wp2
        exact ⟨⟨i + 1, by omega, by go_num, by rw [HN.out]⟩, by simp [intOf]; omega⟩
    · have hie : i = l.length := by omega
      go_wp2
      go_ret
      exact ⟨rfl, rfl⟩

theorem Pl.newsOf_take (l : List Ev) (i : Nat) (e : Ev) (h : l[i]? = some e) : Pl.newsOf (l.take (i + 1)) = Pl.newsStep (Pl.newsOf (l.take i)) e := by
  rw [List.take_add_one, h]
  exact Pl.newsOf_snoc _ _
set_option maxHeartbeats 1600000 in
theorem l5News_any (l : List Ev) (hN : l.length ≤ 1048576) (v : Value) (w : World) (hr : EvRow w l v) :
    Calls Try.prog 40 #[v] w fun x w' => x = .returned (.bool (Pl.newsOf l)) ∧ w' = w := by
  obtain ⟨ad, cap, rfl, hc, hmx, hx⟩ := hr
  unfold maxLen at hmx
  have HX := hide hx
  have HT : Hid (Pl.newsOf (l.take l.length) = Pl.newsOf l) := by show _ = _; rw [List.take_length]
  clear hx
  go_enter Try.func40, Try.ntmps40
  go_wp2_with fail
  go_loop [3] (fun iv => ∃ i : Nat, ∃ z : Int, i ≤ l.length ∧ iv = .int .i64 z ∧ z = (i : Int) - 1 ∧ Hid (Pl.newsOf (l.take i) = Pl.newsOf l)) (fun iv => (intOf iv + 1).toNat)
  case atStart => exact ⟨l.length, _, by omega, rfl, by omega, HT⟩
  case round =>
    obtain ⟨i, z, hi, rfl, hz, HR⟩ := hrel
    cases i with
    | zero =>
      have hz' : z = -1 := by simpa using hz
      subst hz'
      clear hz
      go_wp2
      go_ret
      exact ⟨by rw [← HR.out]; rfl, rfl⟩
    | succ j =>
      have hz' : z = (j : Int) := by omega
      subst hz'
      clear hz
      obtain ⟨g, off, rfl, hg, hs⟩ := HX.out (by omega)
      have hlt : j < l.length := by omega
      have hget : l[j]? = some l[j] := List.getElem?_eq_getElem hlt
      obtain ⟨e, he⟩ : ∃ e, l[j]? = some e := ⟨_, hget⟩
      obtain ⟨d0, _⟩ := (hs j e he).cells
      have HS := hide (Pl.newsOf_take l j e he)
      clear hs he hget
      have hii : (j : Int) < (l.length : Int) := by omega
      by_cases k1 : e.k = 1
      · have q1 : (e.k == 1) = true := by simp [k1]
        have HE : Hid (Pl.newsOf l = true) := by show _ = _; rw [← HR.out, HS.out]; simp [Pl.newsStep, k1]
        clear k1 hi
        go_wp2
        go_ret
        exact ⟨by rw [HE.out]; rfl, rfl⟩
      · have q1 : (e.k == 1) = false := by simp [k1]
        by_cases k4 : e.k = 4
        · have q4 : (e.k == 4) = true := by simp [k4]
          have HE : Hid (Pl.newsOf l = true) := by show _ = _; rw [← HR.out, HS.out]; simp [Pl.newsStep, k4]
          clear k1 k4 hi
          go_wp2
          go_ret
          exact ⟨by rw [HE.out]; rfl, rfl⟩
        · have q4 : (e.k == 4) = false := by simp [k4]
          by_cases k2 : e.k = 2
          · have q2 : (e.k == 2) = true := by simp [k2]
            have HE : Hid (Pl.newsOf l = false) := by show _ = _; rw [← HR.out, HS.out]; simp [Pl.newsStep, k2]
            clear k1 k2 k4 hi
            go_wp2
            go_ret
            exact ⟨by rw [HE.out]; rfl, rfl⟩
          · have q2 : (e.k == 2) = false := by simp [k2]
            have HE : Hid (Pl.newsOf (l.take j) = Pl.newsOf l) := by show _ = _; rw [← HR.out, HS.out]; simp [Pl.newsStep, k1, k2, k4]
            clear k1 k2 k4 hi
            go_wp2
            exact ⟨⟨j, _, by omega, rfl, by go_num, HE⟩, by simp [intOf]⟩
end Go.Proofs.Ytobeecopkfgplaa

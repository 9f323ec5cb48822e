/- Two contents worked with: each kind. -/
import Derived.Test.YtamkncfdfaejjaaGreatDoorEvI2
namespace Go.Proofs.YtamkncfdfaejjaaGreatDoor
open Go.RowKit
set_option linter.unusedVariables false
set_option linter.unusedSimpArgs false
theorem eq_nn (W : World) : (binOp .eql 80 cvN cvN).run Tryz.prog W = .ok (.bool true) W := by kernel_rfl
theorem eq_ni (m : Int) (W : World) : (binOp .eql 80 cvN (cvI m)).run Tryz.prog W = .ok (.bool false) W := by kernel_rfl
theorem eq_nt (u : ByteArray) (W : World) : (binOp .eql 80 cvN (cvT u)).run Tryz.prog W = .ok (.bool false) W := by kernel_rfl
theorem eq_in (n : Int) (W : World) : (binOp .eql 80 (cvI n) cvN).run Tryz.prog W = .ok (.bool false) W := by kernel_rfl
theorem eq_it (n : Int) (u : ByteArray) (W : World) : (binOp .eql 80 (cvI n) (cvT u)).run Tryz.prog W = .ok (.bool false) W := by kernel_rfl
theorem eq_tn (t : ByteArray) (W : World) : (binOp .eql 80 (cvT t) cvN).run Tryz.prog W = .ok (.bool false) W := by kernel_rfl
theorem eq_ti (t : ByteArray) (m : Int) (W : World) : (binOp .eql 80 (cvT t) (cvI m)).run Tryz.prog W = .ok (.bool false) W := by kernel_rfl
theorem eq_ii (n m : Int) (W : World) : (binOp .eql 80 (cvI n) (cvI m)).run Tryz.prog W = .ok (.bool (n == m)) W := by kernel_rfl
theorem eq_tt (t u : ByteArray) (W : World) : (binOp .eql 80 (cvT t) (cvT u)).run Tryz.prog W = .ok (.bool (t.toList == u.toList)) W := by
  have hc : (Tryz.prog.info? 114).map (·.comparable) = some true := by kernel_rfl
  cases hi : Tryz.prog.info? 114 with
  | none => simp [hi] at hc
  | some i =>
    have hcc : i.comparable = true := by simpa [hi] using hc
    have h : ∀ d : Nat, (Op.equalIn (d + 2) 80 (cvT t) (cvT u)).run Tryz.prog W = .ok (t.toList == u.toList) W := fun d => by
      simp [Op.equalIn, run_underlying Tryz.underlying80, run_underlying Tryz.underlying114, typeInfo, hi, hcc, beq_toListBytes]
    simp only [binOp]
    simp [Op.equal, Op.maxDepth, h 9998]
theorem guardC {a b : Va} (ha : Pl.okA a = true) (hb : Pl.okA b = true) (W : World) : (eqGuard .eql 80 (.tmp 6) (.tmp 7) (cvA a) (cvA b)).run Tryz.prog W = .ok () W := by
  rcases cvA_cases ha with ⟨e, _⟩ | ⟨n, e, _⟩ | ⟨t, e, _⟩ <;> rcases cvA_cases hb with ⟨e', _⟩ | ⟨m, e', _⟩ | ⟨u, e', _⟩
  all_goals
    rw [e, e']
    kernel_rfl
theorem eqlC {a b : Va} (ha : Pl.okA a = true) (hb : Pl.okA b = true) (W : World) : (binOp .eql 80 (cvA a) (cvA b)).run Tryz.prog W = .ok (.bool (Pl.sameA a b)) W := by
  rcases cvA_cases ha with ⟨e, rfl⟩ | ⟨n, e, rfl, _, _⟩ | ⟨t, e, rfl, _⟩ <;> rcases cvA_cases hb with ⟨e', rfl⟩ | ⟨m, e', rfl, _, _⟩ | ⟨u, e', rfl, _⟩
  all_goals
    first | rw [e, e'] | rw [e]
    simp only [Pl.sameA]
  · rw [eq_nn]; simp
  · rw [eq_ni]; simp
  · rw [eq_nt]; simp
  · rw [eq_in]; simp
  · rw [eq_ii]; simp
  · rw [eq_it]; simp
  · rw [eq_tn]; simp
  · rw [eq_ti]; simp
  · rw [eq_tt]; simp
def Kinds (x : Value) : Prop := x = cvN ∨ (∃ n, x = cvI n) ∨ ∃ t, x = cvT t
theorem cv_kinds {v : Va} (h : Pl.okA v = true) : Kinds (cvA v) := by
  rcases cvA_cases h with ⟨e, _⟩ | ⟨n, e, _⟩ | ⟨t, e, _⟩
  · exact .inl e
  · exact .inr (.inl ⟨n, e⟩)
  · exact .inr (.inr ⟨t, e⟩)
/-- both are numbers, or not both -/
theorem num_or {a b : Va} (ha : Pl.okA a = true) (hb : Pl.okA b = true) : (∃ n m, cvA a = cvI n ∧ cvA b = cvI m ∧ a = ⟨1, n, ⟨#[]⟩⟩ ∧ b = ⟨1, m, ⟨#[]⟩⟩ ∧ (-1000000000 ≤ n ∧ n ≤ 1000000000) ∧ (-1000000000 ≤ m ∧ m ≤ 1000000000)) ∨ (¬ bothB (cvA a) (cvA b) ∧ ¬ (a.k = 1 ∧ b.k = 1)) := by
  rcases cvA_cases ha with ⟨e, rfl⟩ | ⟨n, e, rfl, n1, n2⟩ | ⟨t, e, rfl, _⟩ <;> rcases cvA_cases hb with ⟨e', rfl⟩ | ⟨m, e', rfl, m1, m2⟩ | ⟨u, e', rfl, _⟩
  all_goals first
    | exact .inl ⟨n, m, e, e', rfl, rfl, ⟨n1, n2⟩, ⟨m1, m2⟩⟩
    | (refine .inr ⟨fun ⟨x, y, h1, h2⟩ => ?_, fun ⟨h1, h2⟩ => ?_⟩
       · first | (rw [e] at h1; cases h1; done) | (rw [e'] at h2; cases h2; done)
       · simp at h1 h2)
theorem two_num {kd : Int} (h7 : ¬ kd = 7) {n m : Int} : Pl.twoA kd ⟨1, n, ⟨#[]⟩⟩ ⟨1, m, ⟨#[]⟩⟩ = if kd = 6 then some (Pl.truthA (decide (n < m))) else if kd = 3 then Pl.numA (n + m) else if kd = 4 then Pl.numA (n - m) else Pl.numA (n * m) := by
  unfold Pl.twoA
  rw [if_neg h7, if_neg (by rintro ⟨_, h, _⟩; simp at h), if_neg (by simp)]
theorem two_none' {kd : Int} (h7 : ¬ kd = 7) {a b : Va} (h3 : ¬ (kd = 3 ∧ a.k = 2 ∧ b.k = 2)) (h : ¬ (a.k = 1 ∧ b.k = 1)) : Pl.twoA kd a b = none := by
  unfold Pl.twoA
  rw [if_neg h7, if_neg h3, if_pos h]
theorem less_any (a b : Va) (ha : Pl.okA a = true) (hb : Pl.okA b = true) (w : World) : Calls Tryz.prog 114 #[cvA a, cvA b] w (WorkPost (Pl.twoA 6 a b) w) := by
  rcases num_or ha hb with ⟨n, m, e1, e2, rfl, rfl, _, _⟩ | ⟨h1, h2⟩
  · rw [e1, e2, two_num (by decide)]
    exact less_yes n m w
  · rw [two_none' (by decide) (fun h => absurd h.1 (by decide)) h2]
    exact less_no _ _ (cv_kinds ha) (cv_kinds hb) h1 w
theorem nums_any (kd : Int) (id : FuncId) (op : Int → Int → Int) (hw : NumW id op) (h7 : ¬ kd = 7) (a b : Va) (ha : Pl.okA a = true) (hb : Pl.okA b = true) (h3 : ¬ (kd = 3 ∧ a.k = 2 ∧ b.k = 2))
    (hop : ∀ n m, Pl.twoA kd ⟨1, n, ⟨#[]⟩⟩ ⟨1, m, ⟨#[]⟩⟩ = Pl.numA (op n m)) (p : Nat) (w : World) (hp : w.cell? ⟨p, 0, none⟩ = some (.func (.func id) #[] #[])) :
    Calls Tryz.prog 129 #[cvA a, cvA b, .pointer (some ⟨p, 0, none⟩)] w (WorkPost (Pl.twoA kd a b) w) := by
  rcases num_or ha hb with ⟨n, m, e1, e2, rfl, rfl, hn, hm⟩ | ⟨h1, h2⟩
  · rw [e1, e2, hop n m]
    exact ofNums_yes id op hw n m hn hm p w hp
  · rw [two_none' h7 h3 h2]
    exact ofNums_no _ _ (cv_kinds ha) (cv_kinds hb) h1 _ w
set_option maxRecDepth 100000 in
set_option maxHeartbeats 800000 in
theorem same_any (a b : Va) (ha : Pl.okA a = true) (hb : Pl.okA b = true) (w : World) : Calls Tryz.prog 115 #[cvA a, cvA b] w (WorkPost (Pl.twoA 7 a b) w) := by
  have hE := eqlC ha hb
  have hG := guardC ha hb
  have hR : Hid (Pl.twoA 7 a b = some (Pl.truthA (Pl.sameA a b))) := by show _ = _; unfold Pl.twoA; rw [if_pos rfl]
  have ht := hide (truth_any (Pl.sameA a b))
  generalize cvA a = x at *
  generalize cvA b = y at *
  go_enter Tryz.func115, Tryz.ntmps115
  go_wp2_with fail
  refine (ht.out _).mono ?_
  rintro e w1 ⟨rfl, rfl⟩
  go_wp2
  go_ret2
  exact ⟨⟨_, rfl, by rw [hR.out]; rfl⟩, Below.refl _ _⟩
set_option maxHeartbeats 800000 in
theorem ofNums_any (id : FuncId) (w : World) : Calls Tryz.prog 111 #[.func (.func id) #[] #[]] w fun e w' => e = .returned (.func (.func 129) #[] #[.pointer (some ⟨w.heap.size, 0, none⟩)]) ∧ w' = w.alloc (.cells #[.func (.func id) #[] #[]] 155) := by
  go_enter Tryz.func111, Tryz.ntmps111
  go_wp2
  go_ret
  exact ⟨rfl, rfl⟩
set_option maxRecDepth 100000 in
set_option maxHeartbeats 1600000 in
theorem add_text (t u : ByteArray) (ht : t.size ≤ 24) (hu : u.size ≤ 24) (w : World) : Calls Tryz.prog 110 #[cvT t, cvT u] w (WorkPost (Pl.textA (t ++ u)) w) := by
  have hf := hide (fitsText_any (t ++ u) (by unfold maxLen; simp; omega))
  have t1 := ta_text_text
  cases hb : Pl.textB (t ++ u)
  · rw [hb] at hf
    have hR : Hid (Pl.textA (t ++ u) = none) := by show _ = _; unfold Pl.textA; rw [hb]; rfl
    clear hb
    go_enter Tryz.func110, Tryz.ntmps110
    go_wp2_with fail
    refine (hf.out _).mono ?_
    rintro e w1 ⟨rfl, rfl⟩
    go_wp2
    go_ret2
    exact ⟨⟨_, rfl, by rw [hR.out]; exact ⟨_, rfl⟩⟩, Below.refl _ _⟩
  · rw [hb] at hf
    have hR : Hid (Pl.textA (t ++ u) = some ⟨2, 0, t ++ u⟩) := by show _ = _; unfold Pl.textA; rw [hb]; rfl
    clear hb
    go_enter Tryz.func110, Tryz.ntmps110
    go_wp2_with fail
    refine (hf.out _).mono ?_
    rintro e w1 ⟨rfl, rfl⟩
    go_wp2
    go_ret2
    exact ⟨⟨_, rfl, by rw [hR.out]; rfl⟩, Below.refl _ _⟩
set_option maxRecDepth 100000 in
set_option maxHeartbeats 1600000 in
theorem add_else (a b : Va) (ha : Pl.okA a = true) (hb : Pl.okA b = true) (hn : ¬ (a.k = 2 ∧ b.k = 2)) (w : World) : Calls Tryz.prog 110 #[cvA a, cvA b] w (WorkPost (Pl.twoA 3 a b) w) := by
  have ho := hide (ofNums_any 127)
  have hq := hide (fun (p : Nat) (W : World) hp => nums_any 3 127 (fun a b => a + b) numw_plus (by decide) a b ha hb (fun h => hn ⟨h.2.1, h.2.2⟩) (fun n m => by rw [two_num (by decide)]; rfl) p W hp)
  have t1 := ta_text_text
  have t2 := ta_num_text
  have t3 := ta_none_text
  have hk : ∀ {v : Va}, Pl.okA v = true → (cvA v = cvN ∧ ¬ v.k = 2) ∨ (∃ n, cvA v = cvI n ∧ ¬ v.k = 2) ∨ (∃ t, cvA v = cvT t ∧ v.k = 2) := by
    intro v hv
    rcases cvA_cases hv with ⟨e, rfl⟩ | ⟨n, e, rfl, _⟩ | ⟨t, e, rfl, _⟩
    · exact .inl ⟨e, by simp⟩
    · exact .inr (.inl ⟨n, e, by simp⟩)
    · exact .inr (.inr ⟨t, e, rfl⟩)
  have h1 := hk ha
  have h2 := hk hb
  clear hk ha hb
  generalize Pl.twoA 3 a b = R at *
  generalize cvA a = x at *
  generalize cvA b = y at *
  rcases h1 with ⟨rfl, k1⟩ | ⟨n, rfl, k1⟩ | ⟨t, rfl, k1⟩ <;> rcases h2 with ⟨rfl, k2⟩ | ⟨m, rfl, k2⟩ | ⟨u, rfl, k2⟩
  all_goals first | (exfalso; exact hn ⟨k1, k2⟩) | skip
  all_goals
    clear hn k1 k2
    go_enter Tryz.func110, Tryz.ntmps110
    go_wp2_with fail
    refine (ho.out _).mono ?_
    rintro e w1 ⟨rfl, rfl⟩
    go_wp2_with fail
    refine (hq.out w.heap.size _ (by simp)).mono ?_
    rintro e w1 ⟨⟨x, rfl, hx⟩, hB1⟩
    have HX := hide hx
    have HB := hide (((Below.refl w.heap.size w).alloc (Nat.le_refl _) _).trans (hB1.mono (by simp)))
    cases R with
    | none =>
      obtain ⟨s, rfl⟩ := hx
      clear hB1
      go_wp2
      go_ret2
      exact ⟨⟨_, rfl, HX.out⟩, HB.out⟩
    | some v =>
      obtain rfl : x = .tuple #[cvA v, .nilIface] := hx
      clear hB1
      go_wp2
      go_ret2
      exact ⟨⟨_, rfl, HX.out⟩, HB.out⟩
theorem add_any (a b : Va) (ha : Pl.okA a = true) (hb : Pl.okA b = true) (w : World) : Calls Tryz.prog 110 #[cvA a, cvA b] w (WorkPost (Pl.twoA 3 a b) w) := by
  by_cases hn : a.k = 2 ∧ b.k = 2
  · have sa := Pl.okA_size ha
    have sb := Pl.okA_size hb
    have hR : Pl.twoA 3 a b = Pl.textA (a.t ++ b.t) := by unfold Pl.twoA; rw [if_neg (by decide), if_pos ⟨rfl, hn⟩]
    rw [hR]
    have ea : cvA a = cvT a.t := by unfold cvA contV; rw [if_neg (by omega), if_pos hn.1]
    have eb : cvA b = cvT b.t := by unfold cvA contV; rw [if_neg (by omega), if_pos hn.2]
    rw [ea, eb]
    exact add_text a.t b.t sa sb w
  · exact add_else a b ha hb hn w
theorem fun_add : Fun 110 := ⟨_, Tryz.func110, by kernel_rfl, by kernel_rfl⟩
theorem fun_less : Fun 114 := ⟨_, Tryz.func114, by kernel_rfl, by kernel_rfl⟩
theorem fun_same : Fun 115 := ⟨_, Tryz.func115, by kernel_rfl, by kernel_rfl⟩
theorem fun_nums : Fun 129 := ⟨_, Tryz.func129, by kernel_rfl, by kernel_rfl⟩
/-- a function that works by a kind -/
def WorkAt (w : World) (f : Value) (kd : Int) : Prop := ∃ id caps, f = .func (.func id) #[] caps ∧ Fun id ∧ ∀ (a b : Va) (W : World), Pl.okA a = true → Pl.okA b = true → Below w.heap.size w W → Calls Tryz.prog id (#[cvA a, cvA b] ++ caps) W (WorkPost (Pl.twoA kd a b) W)
set_option maxHeartbeats 1600000 in
theorem exprWork_any (kd : Int) (hk : 3 ≤ kd ∧ kd ≤ 7) (w : World) : Calls Tryz.prog 83 #[.int .i64 kd] w fun e w' => ∃ f, e = .returned f ∧ WorkAt w' f kd ∧ Below w.heap.size w w' := by
  have : kd = 3 ∨ kd = 4 ∨ kd = 5 ∨ kd = 6 ∨ kd = 7 := by omega
  rcases this with rfl | rfl | rfl | rfl | rfl
  · go_enter Tryz.func83, Tryz.ntmps83
    go_wp2
    go_ret
    exact ⟨_, rfl, ⟨_, _, rfl, fun_add, fun a b W ha hb _ => by simpa using add_any a b ha hb W⟩, Below.refl _ _⟩
  · have ho := hide (ofNums_any 112)
    go_enter Tryz.func83, Tryz.ntmps83
    go_wp2_with fail
    refine (ho.out _).mono ?_
    rintro e w1 ⟨rfl, rfl⟩
    go_wp2
    go_ret
    refine ⟨_, rfl, ⟨_, _, rfl, fun_nums, fun a b W ha hb hB => ?_⟩, (Below.refl _ _).alloc (Nat.le_refl _) _⟩
    exact nums_any 4 112 (fun a b => a - b) numw_sub (by decide) a b ha hb (fun h => absurd h.1 (by decide)) (fun n m => by rw [two_num (by decide)]; rfl) w.heap.size W (by rw [hB.cell (p := ⟨w.heap.size, 0, none⟩) (by simp)]; simp)
  · have ho := hide (ofNums_any 113)
    go_enter Tryz.func83, Tryz.ntmps83
    go_wp2_with fail
    refine (ho.out _).mono ?_
    rintro e w1 ⟨rfl, rfl⟩
    go_wp2
    go_ret
    refine ⟨_, rfl, ⟨_, _, rfl, fun_nums, fun a b W ha hb hB => ?_⟩, (Below.refl _ _).alloc (Nat.le_refl _) _⟩
    exact nums_any 5 113 (fun a b => a * b) numw_mul (by decide) a b ha hb (fun h => absurd h.1 (by decide)) (fun n m => by rw [two_num (by decide)]; rfl) w.heap.size W (by rw [hB.cell (p := ⟨w.heap.size, 0, none⟩) (by simp)]; simp)
  · go_enter Tryz.func83, Tryz.ntmps83
    go_wp2
    go_ret
    exact ⟨_, rfl, ⟨_, _, rfl, fun_less, fun a b W ha hb _ => by simpa using less_any a b ha hb W⟩, Below.refl _ _⟩
  · go_enter Tryz.func83, Tryz.ntmps83
    go_wp2
    go_ret
    exact ⟨_, rfl, ⟨_, _, rfl, fun_same, fun a b W ha hb _ => by simpa using same_any a b ha hb W⟩, Below.refl _ _⟩
end Go.Proofs.YtamkncfdfaejjaaGreatDoor

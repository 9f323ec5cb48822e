/- Joined: SpL SpO SpC SpD SpM SpN SpH. -/
import Derived.Test.YthimglgjeibaoaaEvM
import Derived.WalkSpells
import Derived.WalkLawsBesides
import Derived.Test.YthimglgjeibaoaaCmd1
import Derived.BigQuiet
import Derived.Deep.RegionWith
import Derived.Test.YthimglgjeibaoaaOwn
import Derived.Test.YthimglgjeibaoaaPaM
import Derived.Test.YthimglgjeibaoaaCame1
import Derived.Test.YthimglgjeibaoaaEvL
import Derived.Test.YthimglgjeibaoaaImW
/- What the specification counts over events: how many are to come still, news, whether they go on, tasks. -/
namespace Go.Proofs.Ythimglgjeibaoaa
open Go.RowKit
set_option linter.unusedVariables false
set_option linter.unusedSimpArgs false

theorem Pl.leftOf_take (l : List Ev) (i : Nat) (e : Ev) (h : l[i]? = some e) : Pl.leftOf (l.take (i + 1)) = Pl.leftStep (Pl.leftOf (l.take i)) e := by
  rw [List.take_add_one, h]
  exact Pl.leftOf_snoc _ _
theorem Pl.tasksOf_take (l : List Ev) (i : Nat) (e : Ev) (h : l[i]? = some e) : Pl.tasksOf (l.take (i + 1)) = if e.k = 2 then Pl.tasksOf (l.take i) + 1 else Pl.tasksOf (l.take i) := by
  rw [List.take_add_one, h]
  exact Pl.tasksOf_snoc _ _
/-- what a task tells is in its range -/
def ManyOk (l : List Ev) : Prop := ∀ e ∈ l, e.k = 2 → 0 ≤ e.many ∧ e.many ≤ 40
theorem left_bound (l : List Ev) (hm : ManyOk l) : ∀ i, i ≤ l.length → -(i : Int) ≤ Pl.leftOf (l.take i) ∧ Pl.leftOf (l.take i) ≤ 40
  | 0, _ => by simp [Pl.leftOf]
  | i + 1, h => by
    have ih := left_bound l hm i (by omega)
    have hlt : i < l.length := by omega
    have hget : l[i]? = some l[i] := List.getElem?_eq_getElem hlt
    have hmm := hm l[i] (List.getElem_mem hlt)
    rw [Pl.leftOf_take l i _ hget]
    unfold Pl.leftStep
    split
    · rename_i h2; have := hmm h2; omega
    · split <;> omega

set_option maxHeartbeats 1600000 in
theorem l5Left_any (l : List Ev) (hm : ManyOk l) (hN : l.length ≤ 1048576) (v : Value) (w : World) (hr : EvRow w l v) :
    Calls Try.prog 29 #[v] w fun x w' => x = .returned (.int .i64 (Pl.leftOf l)) ∧ w' = w := by
  obtain ⟨ad, cap, rfl, hc, hmx, hx⟩ := hr
  unfold maxLen at hmx
  have HX := hide hx
  have HM := hide (left_bound l hm)
  clear hx hm
  go_enter Try.func29, Try.ntmps29
  go_wp2_with fail
  go_loop [3, 4] (fun nv iv => ∃ i : Nat, i ≤ l.length ∧ iv = .int .i64 i ∧ nv = .int .i64 (Pl.leftOf (l.take i))) (fun _ iv => l.length - (intOf iv).toNat)
  case atStart => exact ⟨0, by omega, rfl, by simp [Pl.leftOf]⟩
  case round =>
    obtain ⟨i, hi, rfl, rfl⟩ := hrel
    by_cases hlt : i < l.length
    · obtain ⟨g, off, rfl, hg, hs⟩ := HX.out (by omega)
      have hget : l[i]? = some l[i] := List.getElem?_eq_getElem hlt
      obtain ⟨e, he⟩ : ∃ e, l[i]? = some e := ⟨_, hget⟩
      obtain ⟨d0, d1, d2, d3, d4, _⟩ := (hs i e he).cells
      have hb := HM.out i hi
      have HS := hide (Pl.leftOf_take l i e he)
      generalize Pl.leftOf (l.take i) = n at *
      clear hs he hget
      have hii : (i : Int) < (l.length : Int) := by omega
      by_cases k2 : e.k = 2
      · have q2 : (e.k == 2) = true := by simp [k2]
        have HN : Hid (Pl.leftStep n e = e.many) := by show _ = _; simp [Pl.leftStep, k2]
        clear k2
        go_wp2
        exact ⟨⟨i + 1, by omega, by go_num, by rw [HS.out, HN.out]⟩, by simp [intOf]; omega⟩
      · have q2 : (e.k == 2) = false := by simp [k2]
        by_cases k3 : e.k = 3
        · have q3 : (e.k == 3) = true := by simp [k3]
          have HN : Hid (Pl.leftStep n e = n - 1) := by show _ = _; simp [Pl.leftStep, k2, k3]
          clear k2 k3
          go_wp2
          exact ⟨⟨i + 1, by omega, by go_num, by rw [HS.out, HN.out]⟩, by simp [intOf]; omega⟩
        · have q3 : (e.k == 3) = false := by simp [k3]
          have HN : Hid (Pl.leftStep n e = n) := by show _ = _; simp [Pl.leftStep, k2, k3]
          clear k2 k3
          go_wp2
          exact ⟨⟨i + 1, by omega, by go_num, by rw [HS.out, HN.out]⟩, by simp [intOf]; omega⟩
    · have hie : i = l.length := by omega
      go_wp2
      go_ret
      exact ⟨rfl, rfl⟩

theorem Pl.newsOf_take (l : List Ev) (i : Nat) (e : Ev) (h : l[i]? = some e) : Pl.newsOf (l.take (i + 1)) = Pl.newsStep (Pl.newsOf (l.take i)) e := by
  rw [List.take_add_one, h]
  exact Pl.newsOf_snoc _ _
set_option maxHeartbeats 1600000 in
theorem l5News_any (l : List Ev) (hN : l.length ≤ 1048576) (v : Value) (w : World) (hr : EvRow w l v) :
    Calls Try.prog 47 #[v] w fun x w' => x = .returned (.bool (Pl.newsOf l)) ∧ w' = w := by
  obtain ⟨ad, cap, rfl, hc, hmx, hx⟩ := hr
  unfold maxLen at hmx
  have HX := hide hx
  have HT : Hid (Pl.newsOf (l.take l.length) = Pl.newsOf l) := by show _ = _; rw [List.take_length]
  clear hx
  go_enter Try.func47, Try.ntmps47
  go_wp2_with fail
  go_loop [3] (fun iv => ∃ i : Nat, ∃ z : Int, i ≤ l.length ∧ iv = .int .i64 z ∧ z = (i : Int) - 1 ∧ Hid (Pl.newsOf (l.take i) = Pl.newsOf l)) (fun iv => (intOf iv + 1).toNat)
  case atStart => exact ⟨l.length, _, by omega, rfl, by omega, HT⟩
  case round =>
    obtain ⟨i, z, hi, rfl, hz, HR⟩ := hrel
    cases i with
    | zero =>
      have hz' : z = -1 := by simpa using hz
      subst hz'
      clear hz
      go_wp2
      go_ret
      exact ⟨by rw [← HR.out]; rfl, rfl⟩
    | succ j =>
      have hz' : z = (j : Int) := by omega
      subst hz'
      clear hz
      obtain ⟨g, off, rfl, hg, hs⟩ := HX.out (by omega)
      have hlt : j < l.length := by omega
      have hget : l[j]? = some l[j] := List.getElem?_eq_getElem hlt
      obtain ⟨e, he⟩ : ∃ e, l[j]? = some e := ⟨_, hget⟩
      obtain ⟨d0, _⟩ := (hs j e he).cells
      have HS := hide (Pl.newsOf_take l j e he)
      clear hs he hget
      have hii : (j : Int) < (l.length : Int) := by omega
      by_cases k1 : e.k = 1
      · have q1 : (e.k == 1) = true := by simp [k1]
        have HE : Hid (Pl.newsOf l = true) := by show _ = _; rw [← HR.out, HS.out]; simp [Pl.newsStep, k1]
        clear k1 hi
        go_wp2
        go_ret
        exact ⟨by rw [HE.out]; rfl, rfl⟩
      · have q1 : (e.k == 1) = false := by simp [k1]
        by_cases k4 : e.k = 4
        · have q4 : (e.k == 4) = true := by simp [k4]
          have HE : Hid (Pl.newsOf l = true) := by show _ = _; rw [← HR.out, HS.out]; simp [Pl.newsStep, k4]
          clear k1 k4 hi
          go_wp2
          go_ret
          exact ⟨by rw [HE.out]; rfl, rfl⟩
        · have q4 : (e.k == 4) = false := by simp [k4]
          by_cases k2 : e.k = 2
          · have q2 : (e.k == 2) = true := by simp [k2]
            have HE : Hid (Pl.newsOf l = false) := by show _ = _; rw [← HR.out, HS.out]; simp [Pl.newsStep, k2]
            clear k1 k2 k4 hi
            go_wp2
            go_ret
            exact ⟨by rw [HE.out]; rfl, rfl⟩
          · have q2 : (e.k == 2) = false := by simp [k2]
            have HE : Hid (Pl.newsOf (l.take j) = Pl.newsOf l) := by show _ = _; rw [← HR.out, HS.out]; simp [Pl.newsStep, k1, k2, k4]
            clear k1 k2 k4 hi
            go_wp2
            exact ⟨⟨j, _, by omega, rfl, by go_num, HE⟩, by simp [intOf]⟩
end Go.Proofs.Ythimglgjeibaoaa

/- Whether events go on, as the specification asks it. -/
namespace Go.Proofs.Ythimglgjeibaoaa
open Go.RowKit
set_option linter.unusedVariables false
set_option linter.unusedSimpArgs false
set_option maxHeartbeats 800000 in
theorem l5Ends_any (k : Int) (nm : ByteArray) (vk vn : Int) (vt : ByteArray) (w : World) :
    Calls Try.prog 49 #[cmdV k nm vk vn vt] w fun e w' => e = .returned (.bool (Pl.endK k)) ∧ Below w.heap.size w w' := by
  unfold Pl.endK
  cases h4 : (k == 4) <;> cases h5 : (k == 5) <;> cases h6 : (k == 6)
  all_goals
    go_enter Try.func49, Try.ntmps49
    go_wp2
    go_ret
    exact ⟨by simp [h4, h5, h6], (Below.refl _ _).alloc (Nat.le_refl _) _⟩
theorem l5Ends_at (k : Int) (nm : ByteArray) (vk vn : Int) (vt : ByteArray) {b : Bool} (h : Pl.endK k = b) (w : World) :
    Calls Try.prog 49 #[cmdV k nm vk vn vt] w fun e w' => e = .returned (.bool b) ∧ Below w.heap.size w w' := by
  rw [← h]; exact l5Ends_any k nm vk vn vt w
/-- none of the first events shuts -/
def Pl.goesTo (l : List Ev) (i : Nat) : Bool := (l.take i).all (fun e => !Pl.shuts e)
theorem Pl.goesTo_succ (l : List Ev) (i : Nat) (e : Ev) (h : l[i]? = some e) : Pl.goesTo l (i + 1) = (Pl.goesTo l i && !Pl.shuts e) := by
  unfold Pl.goesTo
  rw [List.take_add_one, h]
  simp
theorem Pl.open_not {l : List Ev} {i : Nat} {e : Ev} (h : l[i]? = some e) (hs : Pl.shuts e = true) : Pl.openB l = false := by
  unfold Pl.openB
  have : l.all (fun e => !Pl.shuts e) = false := by
    rw [List.all_eq_false]
    exact ⟨e, List.mem_of_getElem? h, by simp [hs]⟩
  rw [this]; rfl
set_option maxHeartbeats 1600000 in
theorem l5Open_any (l : List Ev) (hN : l.length ≤ 1048576) (v : Value) (w : World) (hr : EvRow w l v) :
    Calls Try.prog 46 #[v] w fun x w' => x = .returned (.bool (Pl.openB l)) ∧ Below w.heap.size w w' := by
  obtain ⟨ad, cap, rfl, hc, hmx, hx⟩ := hr
  unfold maxLen at hmx
  have HX := hide hx
  clear hx
  go_enter Try.func46, Try.ntmps46
  go_wp2_with fail
  go_loopw [3] (fun iv wr => ∃ i : Nat, i ≤ l.length ∧ iv = .int .i64 i ∧ Hid (Pl.goesTo l i = true) ∧ Hid (Below w.heap.size w wr)) (fun iv _ => l.length - (intOf iv).toNat)
  case atStart => exact ⟨0, by omega, rfl, hide (by simp [Pl.goesTo]), hide (Below.refl _ _)⟩
  case round =>
    obtain ⟨i, hi, rfl, HG, HB⟩ := hrel
    by_cases hlt : i < l.length
    · obtain ⟨g, off, rfl, hg, hs⟩ := HX.out (by omega)
      have hget : l[i]? = some l[i] := List.getElem?_eq_getElem hlt
      obtain ⟨e, he⟩ : ∃ e, l[i]? = some e := ⟨_, hget⟩
      obtain ⟨d0, d1, d2, d3, d4, d5, d6, d7, d8, d9, _⟩ := ((hs i e he).later HB.out hg).cells
      have HS := hide (Pl.goesTo_succ l i e he)
      have HE := hide he
      clear hs he hget
      have hii : (i : Int) < (l.length : Int) := by omega
      by_cases k5 : e.k = 5
      · have q5 : (e.k == 5) = true := by simp [k5]
        have HN : Hid (Pl.openB l = false) := Pl.open_not HE.out (by simp [Pl.shuts, k5])
        clear k5
        go_wp2
        go_ret
        exact ⟨by rw [HN.out]; rfl, HB.out⟩
      · have q5 : (e.k == 5) = false := by simp [k5]
        by_cases k3 : e.k = 3
        · have q3 : (e.k == 3) = true := by simp [k3]
          cases hend : Pl.endK e.ck
          · have HN : Hid (Pl.goesTo l (i + 1) = true) := by show _ = _; rw [HS.out, HG.out]; simp [Pl.shuts, k3, hend]
            have hq := hide (l5Ends_at e.ck e.cn e.ak e.an e.ax hend)
            clear k5 k3 hend
            go_wp2_with fail
            refine (hq.out _).mono ?_
            rintro x w2 ⟨rfl, hB2⟩
            have HB2 : Hid (Below w.heap.size w w2) := HB.out.trans (hB2.mono HB.out.size)
            clear hB2 d0 d1 d2 d3 d4 d5 d6 d7 d8 d9
            go_wp2
            go_roundw
            case rel => exact ⟨i + 1, by omega, by go_num, HN, HB2⟩
            case measure => simp [intOf]; omega
          · have HN : Hid (Pl.openB l = false) := Pl.open_not HE.out (by simp [Pl.shuts, k3, hend])
            have hq := hide (l5Ends_at e.ck e.cn e.ak e.an e.ax hend)
            clear k5 k3 hend
            go_wp2_with fail
            refine (hq.out _).mono ?_
            rintro x w2 ⟨rfl, hB2⟩
            have HB2 : Hid (Below w.heap.size w w2) := HB.out.trans (hB2.mono HB.out.size)
            clear hB2 d0 d1 d2 d3 d4 d5 d6 d7 d8 d9
            go_wp2
            go_ret
            exact ⟨by rw [HN.out]; rfl, HB2.out⟩
        · have q3 : (e.k == 3) = false := by simp [k3]
          have HN : Hid (Pl.goesTo l (i + 1) = true) := by show _ = _; rw [HS.out, HG.out]; simp [Pl.shuts, k3, k5]
          clear k5 k3
          go_wp2
          go_roundw
          case rel => exact ⟨i + 1, by omega, by go_num, HN, HB⟩
          case measure => simp [intOf]; omega
    · have hie : i = l.length := by omega
      have HO : Hid (Pl.openB l = decide (0 < l.length)) := by
        show _ = _
        have h := HG.out
        unfold Pl.goesTo at h
        rw [hie, List.take_length] at h
        unfold Pl.openB
        rw [h]
        cases l <;> simp
      by_cases h0 : 0 < l.length
      · have HO2 : Hid (Pl.openB l = true) := by show _ = _; rw [HO.out]; simp [h0]
        have hpos : (0 : Int) < (l.length : Int) := by omega
        clear hie
        go_wp2
        go_ret
        exact ⟨by rw [HO2.out]; first | rfl | simp [hpos], HB.out⟩
      · have HO2 : Hid (Pl.openB l = false) := by show _ = _; rw [HO.out]; simp [h0]
        have hpos : ¬ (0 : Int) < (l.length : Int) := by omega
        clear hie
        go_wp2
        go_ret
        exact ⟨by rw [HO2.out]; first | rfl | simp [hpos], HB.out⟩
end Go.Proofs.Ythimglgjeibaoaa

/- What was asked for, and what came, gathered by the specification. -/
namespace Go.Proofs.Ythimglgjeibaoaa
open Go.RowKit
set_option linter.unusedVariables false
set_option linter.unusedSimpArgs false
theorem own_start (w : World) (T : TypeId) (size : Nat) (h : 0 < size) : (w.alloc (.cells #[] T)).ownsRow w.heap.size T size (.slice (some ⟨w.heap.size, 0, none⟩) 0 0) 0 [] :=
  ⟨by simp, .inr ⟨w.heap.size, 0, #[], rfl, Nat.le_refl _, by rw [heap_alloc_at, if_pos rfl], Nat.le_refl _, by unfold maxLen; omega, by simp, by simp⟩⟩
theorem alloc_le {n : Nat} {w : World} {o : Obj} (h : n ≤ w.heap.size) : n ≤ (w.alloc o).heap.size := by
  have : (w.alloc o).heap.size = w.heap.size + 1 := by simp
  omega
theorem cells_top (V : World) (L : List Value) (T : TypeId) : ∀ j u, L[j]? = some u → (V.alloc (.cells L.toArray T)).cell? ((⟨V.heap.size, 0, none⟩ : Addr).add j) = some u := by
  intro j u hu
  have hadd : (⟨V.heap.size, 0, none⟩ : Addr).add j = ⟨V.heap.size, j, none⟩ := by unfold Addr.add; split <;> simp_all
  rw [hadd, World.cell?_alloc_at _ _ _ _ rfl]
  simpa using hu

theorem infoCmds : (Try.prog.info? 42).map (fun i => (i.zero, i.size, i.bytes)) = some (some (.agg #[.int .i64 0, .string ⟨#[]⟩, .int .i64 0, .int .i64 0, .string ⟨#[]⟩]), 5, 56) := by kernel_rfl
abbrev cmL (e : Ev) : List Value := [.int .i64 e.ck, .string e.cn, .int .i64 e.ak, .int .i64 e.an, .string e.ax]
theorem app_cmd {W : World} {base : Nat} {v : Value} {A : List Ev} (e : Ev) (hv : W.ownsRow base 42 5 v A.length (A.flatMap cmL)) (ad : Addr) (c : Nat) (hu : ∀ j u, (cmL e)[j]? = some u → W.cell? (ad.add j) = some u) (hn : A.length + 1 ≤ 4194304) (hb : base ≤ W.heap.size) :
    ∃ v' w2, (Builtin.append_ #[82, 82] 82 #[v, .slice (some ad) 1 c]).run Try.prog W = .ok v' w2 ∧ w2.ownsRow base 42 5 v' (A ++ [e]).length ((A ++ [e]).flatMap cmL) ∧ W.grownBy w2 v.ownBlock := by
  obtain ⟨i0, hi, hz0, hz1, hz2⟩ := info_parts infoCmds
  obtain ⟨v', w2, hrun, hown, hgrow, _, _⟩ := run_append_own_at (P := Try.prog) W base 82 82 42 i0 _ 5 56 Try.underlying82 hi hz0 hz1 hz2 rfl (by decide) v A.length (A.flatMap cmL) hv ad 1 c (cmL e) rfl hu (fun u hu => by
    simp only [List.mem_cons, List.not_mem_nil, or_false] at hu
    rcases hu with rfl | rfl | rfl | rfl | rfl <;> rfl) (by unfold maxLen; omega) (by omega) hb
  refine ⟨v', w2, hrun, ?_, hgrow⟩
  simpa [List.flatMap_append] using hown
theorem wp_app_cmd {ops : Array Oper} {rest : List Oper} {o : Oper} {a : Act} {W : World} {Q : Exit → Act → World → Prop} (hgd : o.guard = none) (s x : Operand)
    (ho : o.op = .call { callee := .builtin .append, args := #[s, x], argTypes := #[82, 82] }) (hty : o.type = 82) (base : Nat) (A : List Ev) (e : Ev) (v : Value) (ad : Addr) (c : Nat) (hs : a.eval s = v) (hx : a.eval x = .slice (some ad) 1 c)
    (hv : W.ownsRow base 42 5 v A.length (A.flatMap cmL)) (hu : ∀ j u, (cmL e)[j]? = some u → W.cell? (ad.add j) = some u) (hn : A.length + 1 ≤ 4194304) (hb : base ≤ W.heap.size)
    (h : ∀ v' w2, Hid (w2.ownsRow base 42 5 v' (A ++ [e]).length ((A ++ [e]).flatMap cmL)) → Hid (W.grownBy w2 v.ownBlock) → wpList Try.prog ops Q rest (a.put o.dst v') w2) : wpList Try.prog ops Q (o :: rest) a W := by
  refine wpList_plain hgd fun K hK => ?_
  obtain ⟨v', w2, hrun, h1, h2⟩ := app_cmd e hv ad c hu hn hb
  unfold Oper.wp
  simp [execOp, ho, resolve, invoke, builtin, hs, hx, hty, hrun, Result.andThen]
  exact hK _ _ (h _ _ h1 h2)
theorem Pl.cmdsOf_take (l : List Ev) (i : Nat) (e : Ev) (h : l[i]? = some e) : Pl.cmdsOf (l.take (i + 1)) = if e.k = 3 then Pl.cmdsOf (l.take i) ++ [e] else Pl.cmdsOf (l.take i) := by
  rw [List.take_add_one, h]
  exact Pl.cmdsOf_snoc _ _
set_option maxRecDepth 100000 in
set_option maxHeartbeats 1600000 in
theorem l5Cmds_any (l : List Ev) (hN : l.length ≤ 1048576) (v : Value) (w : World) (hr : EvRow w l v) :
    Calls Try.prog 48 #[v] w fun x w' => ∃ v', x = .returned v' ∧ w'.ownsRow w.heap.size 42 5 v' (Pl.cmdsOf l).length ((Pl.cmdsOf l).flatMap cmL) ∧ Below w.heap.size w w' := by
  obtain ⟨ad, cap, rfl, hc, hmx, hx⟩ := hr
  unfold maxLen at hmx
  have HX := hide hx
  have HM : Hid (∀ i, (Pl.cmdsOf (l.take i)).length ≤ l.length) := fun i => by
    unfold Pl.cmdsOf
    refine Nat.le_trans (List.length_filter_le _ _) ?_
    simp [List.length_take]; omega
  clear hx
  go_enter Try.func48, Try.ntmps48
  go_wp2_with fail
  go_loopw [3, 4] (fun ov iv wr => ∃ i : Nat, i ≤ l.length ∧ iv = .int .i64 i ∧ Hid (wr.ownsRow w.heap.size 42 5 ov (Pl.cmdsOf (l.take i)).length ((Pl.cmdsOf (l.take i)).flatMap cmL)) ∧ Hid (Below w.heap.size w wr)) (fun _ iv _ => l.length - (intOf iv).toNat)
  case atStart => exact ⟨0, by omega, rfl, own_start _ _ _ (by decide), (Below.refl _ _).alloc (Nat.le_refl _) _⟩
  case round =>
    obtain ⟨i, hi, rfl, HO, HB⟩ := hrel
    by_cases hlt : i < l.length
    · obtain ⟨g, off, rfl, hg, hs⟩ := HX.out (by omega)
      obtain ⟨e, he⟩ : ∃ e, l[i]? = some e := ⟨_, List.getElem?_eq_getElem hlt⟩
      obtain ⟨d0, _, _, _, _, d5, d6, d7, d8, d9, _, _, _, _, _, _, _⟩ := ((hs i e he).later HB.out hg).cells
      have HT := hide (Pl.cmdsOf_take l i e he)
      have HL := hide (HM.out i)
      obtain ⟨av, cv, hav⟩ := ownsRow_form HO.out
      subst hav
      generalize Pl.cmdsOf (l.take i) = A at *
      clear hs he
      have hii : (i : Int) < (l.length : Int) := by omega
      by_cases k3 : e.k = 3
      · have q3 : (e.k == 3) = true := by simp [k3]
        have HN : Hid (Pl.cmdsOf (l.take (i + 1)) = A ++ [e]) := by show _ = _; rw [HT.out, if_pos k3]
        have hbs : w.heap.size ≤ wr.heap.size := HB.out.size
        have HOW : Hid (∀ C, (wr.alloc (.cells C 42)).ownsRow w.heap.size 42 5 (.slice av A.length cv) A.length (A.flatMap cmL)) := fun C => ownsRow_later HO.out ((Below.refl _ _).alloc (Nat.le_refl _) _)
        have HBS : Hid (∀ C, w.heap.size ≤ (wr.alloc (.cells C 42)).heap.size) := fun C => alloc_le hbs
        have HAN : Hid (A.length + 1 ≤ 4194304) := by show _ ≤ _; have := HL.out; omega
        have HRE : Hid (∀ C w2, (wr.alloc (.cells C 42)).grownBy w2 (Value.slice av A.length cv).ownBlock → Below w.heap.size w w2) := fun C w2 hgr => (HB.out.alloc hbs _).grown hgr (HBS.out C) (fun k hk => by have := (HO.out.lt k hk).1; omega)
        clear k3 hbs
        go_wp2_with (first
          | (with_reducible show wpList _ _ _ (Oper.mk _ (Op.call (Call.mk (.builtin .append) _ _)) _ _ _ _ :: _) _ _; refine wp_app_cmd rfl (.tmp 18) (.tmp 24) rfl rfl w.heap.size A e _ ⟨wr.heap.size, 0, none⟩ 1 rfl rfl (HOW.out _) (cells_top _ _ _) HAN.out (HBS.out _) ?_; intro v2 w2 hv2 hg2))
        exact ⟨⟨i + 1, by omega, by go_num, by rw [HN.out]; exact hv2, HRE.out _ w2 hg2.out⟩, by simp [intOf]; omega⟩
      · have q3 : (e.k == 3) = false := by simp [k3]
        have HN : Hid (Pl.cmdsOf (l.take (i + 1)) = A) := by show _ = _; rw [HT.out, if_neg k3]
        clear k3
        go_wp2
        go_roundw
        case rel => exact ⟨i + 1, by omega, by go_num, by rw [HN.out]; exact HO, HB⟩
        case measure => simp [intOf]; omega
    · have hie : i = l.length := by omega
      have HE : Hid (Pl.cmdsOf (l.take i) = Pl.cmdsOf l) := by show _ = _; rw [hie, List.take_length]
      obtain ⟨av, cv, hav⟩ := ownsRow_form HO.out
      subst hav
      clear hie
      go_wp2
      go_ret
      exact ⟨_, rfl, by rw [← HE.out]; exact HO.out, HB.out⟩
end Go.Proofs.Ythimglgjeibaoaa

/- What was asked for, and what came, gathered by the specification. -/
namespace Go.Proofs.Ythimglgjeibaoaa
open Go.RowKit
set_option linter.unusedVariables false
set_option linter.unusedSimpArgs false

theorem infoComes : (Try.prog.info? 44).map (fun i => (i.zero, i.size, i.bytes)) = some (some (.agg #[.int .i64 0, .int .i64 0, .string ⟨#[]⟩, .bool false, .int .i64 0, .int .i64 0, .string ⟨#[]⟩]), 7, 72) := by kernel_rfl
abbrev caL (e : Ev) : List Value := [.int .i64 e.ct, .int .i64 e.mp, .string e.mn, .bool e.mo, .int .i64 e.wk, .int .i64 e.wn, .string e.wt]
theorem app_came {W : World} {base : Nat} {v : Value} {A : List Ev} (e : Ev) (hv : W.ownsRow base 44 7 v A.length (A.flatMap caL)) (ad : Addr) (c : Nat) (hu : ∀ j u, (caL e)[j]? = some u → W.cell? (ad.add j) = some u) (hn : A.length + 1 ≤ 4194304) (hb : base ≤ W.heap.size) :
    ∃ v' w2, (Builtin.append_ #[85, 85] 85 #[v, .slice (some ad) 1 c]).run Try.prog W = .ok v' w2 ∧ w2.ownsRow base 44 7 v' (A ++ [e]).length ((A ++ [e]).flatMap caL) ∧ W.grownBy w2 v.ownBlock := by
  obtain ⟨i0, hi, hz0, hz1, hz2⟩ := info_parts infoComes
  obtain ⟨v', w2, hrun, hown, hgrow, _, _⟩ := run_append_own_at (P := Try.prog) W base 85 85 44 i0 _ 7 72 Try.underlying85 hi hz0 hz1 hz2 rfl (by decide) v A.length (A.flatMap caL) hv ad 1 c (caL e) rfl hu (fun u hu => by
    simp only [List.mem_cons, List.not_mem_nil, or_false] at hu
    rcases hu with rfl | rfl | rfl | rfl | rfl | rfl | rfl <;> rfl) (by unfold maxLen; omega) (by omega) hb
  refine ⟨v', w2, hrun, ?_, hgrow⟩
  simpa [List.flatMap_append] using hown
theorem wp_app_came {ops : Array Oper} {rest : List Oper} {o : Oper} {a : Act} {W : World} {Q : Exit → Act → World → Prop} (hgd : o.guard = none) (s x : Operand)
    (ho : o.op = .call { callee := .builtin .append, args := #[s, x], argTypes := #[85, 85] }) (hty : o.type = 85) (base : Nat) (A : List Ev) (e : Ev) (v : Value) (ad : Addr) (c : Nat) (hs : a.eval s = v) (hx : a.eval x = .slice (some ad) 1 c)
    (hv : W.ownsRow base 44 7 v A.length (A.flatMap caL)) (hu : ∀ j u, (caL e)[j]? = some u → W.cell? (ad.add j) = some u) (hn : A.length + 1 ≤ 4194304) (hb : base ≤ W.heap.size)
    (h : ∀ v' w2, Hid (w2.ownsRow base 44 7 v' (A ++ [e]).length ((A ++ [e]).flatMap caL)) → Hid (W.grownBy w2 v.ownBlock) → wpList Try.prog ops Q rest (a.put o.dst v') w2) : wpList Try.prog ops Q (o :: rest) a W := by
  refine wpList_plain hgd fun K hK => ?_
  obtain ⟨v', w2, hrun, h1, h2⟩ := app_came e hv ad c hu hn hb
  unfold Oper.wp
  simp [execOp, ho, resolve, invoke, builtin, hs, hx, hty, hrun, Result.andThen]
  exact hK _ _ (h _ _ h1 h2)
theorem Pl.comesOf_take (l : List Ev) (i : Nat) (e : Ev) (h : l[i]? = some e) : Pl.comesOf (l.take (i + 1)) = if e.k = 4 then Pl.comesOf (l.take i) ++ [e] else Pl.comesOf (l.take i) := by
  rw [List.take_add_one, h]
  exact Pl.comesOf_snoc _ _
set_option maxRecDepth 100000 in
set_option maxHeartbeats 1600000 in
theorem l5Comes_any (l : List Ev) (hN : l.length ≤ 1048576) (v : Value) (w : World) (hr : EvRow w l v) :
    Calls Try.prog 51 #[v] w fun x w' => ∃ v', x = .returned v' ∧ w'.ownsRow w.heap.size 44 7 v' (Pl.comesOf l).length ((Pl.comesOf l).flatMap caL) ∧ Below w.heap.size w w' := by
  obtain ⟨ad, cap, rfl, hc, hmx, hx⟩ := hr
  unfold maxLen at hmx
  have HX := hide hx
  have HM : Hid (∀ i, (Pl.comesOf (l.take i)).length ≤ l.length) := fun i => by
    unfold Pl.comesOf
    refine Nat.le_trans (List.length_filter_le _ _) ?_
    simp [List.length_take]; omega
  clear hx
  go_enter Try.func51, Try.ntmps51
  go_wp2_with fail
  go_loopw [3, 4] (fun ov iv wr => ∃ i : Nat, i ≤ l.length ∧ iv = .int .i64 i ∧ Hid (wr.ownsRow w.heap.size 44 7 ov (Pl.comesOf (l.take i)).length ((Pl.comesOf (l.take i)).flatMap caL)) ∧ Hid (Below w.heap.size w wr)) (fun _ iv _ => l.length - (intOf iv).toNat)
  case atStart => exact ⟨0, by omega, rfl, own_start _ _ _ (by decide), (Below.refl _ _).alloc (Nat.le_refl _) _⟩
  case round =>
    obtain ⟨i, hi, rfl, HO, HB⟩ := hrel
    by_cases hlt : i < l.length
    · obtain ⟨g, off, rfl, hg, hs⟩ := HX.out (by omega)
      obtain ⟨e, he⟩ : ∃ e, l[i]? = some e := ⟨_, List.getElem?_eq_getElem hlt⟩
      obtain ⟨d0, _, _, _, _, _, _, _, _, _, d10, d11, d12, d13, d14, d15, d16⟩ := ((hs i e he).later HB.out hg).cells
      have HT := hide (Pl.comesOf_take l i e he)
      have HL := hide (HM.out i)
      obtain ⟨av, cv, hav⟩ := ownsRow_form HO.out
      subst hav
      generalize Pl.comesOf (l.take i) = A at *
      clear hs he
      have hii : (i : Int) < (l.length : Int) := by omega
      by_cases k3 : e.k = 4
      · have q3 : (e.k == 4) = true := by simp [k3]
        have HN : Hid (Pl.comesOf (l.take (i + 1)) = A ++ [e]) := by show _ = _; rw [HT.out, if_pos k3]
        have hbs : w.heap.size ≤ wr.heap.size := HB.out.size
        have HOW : Hid (∀ C, (wr.alloc (.cells C 44)).ownsRow w.heap.size 44 7 (.slice av A.length cv) A.length (A.flatMap caL)) := fun C => ownsRow_later HO.out ((Below.refl _ _).alloc (Nat.le_refl _) _)
        have HBS : Hid (∀ C, w.heap.size ≤ (wr.alloc (.cells C 44)).heap.size) := fun C => alloc_le hbs
        have HAN : Hid (A.length + 1 ≤ 4194304) := by show _ ≤ _; have := HL.out; omega
        have HRE : Hid (∀ C w2, (wr.alloc (.cells C 44)).grownBy w2 (Value.slice av A.length cv).ownBlock → Below w.heap.size w w2) := fun C w2 hgr => (HB.out.alloc hbs _).grown hgr (HBS.out C) (fun k hk => by have := (HO.out.lt k hk).1; omega)
        clear k3 hbs
        go_wp2_with (first
          | (with_reducible show wpList _ _ _ (Oper.mk _ (Op.call (Call.mk (.builtin .append) _ _)) _ _ _ _ :: _) _ _; refine wp_app_came rfl (.tmp 18) (.tmp 24) rfl rfl w.heap.size A e _ ⟨wr.heap.size, 0, none⟩ 1 rfl rfl (HOW.out _) (cells_top _ _ _) HAN.out (HBS.out _) ?_; intro v2 w2 hv2 hg2))
        exact ⟨⟨i + 1, by omega, by go_num, by rw [HN.out]; exact hv2, HRE.out _ w2 hg2.out⟩, by simp [intOf]; omega⟩
      · have q3 : (e.k == 4) = false := by simp [k3]
        have HN : Hid (Pl.comesOf (l.take (i + 1)) = A) := by show _ = _; rw [HT.out, if_neg k3]
        clear k3
        go_wp2
        go_roundw
        case rel => exact ⟨i + 1, by omega, by go_num, by rw [HN.out]; exact HO, HB⟩
        case measure => simp [intOf]; omega
    · have hie : i = l.length := by omega
      have HE : Hid (Pl.comesOf (l.take i) = Pl.comesOf l) := by show _ = _; rw [hie, List.take_length]
      obtain ⟨av, cv, hav⟩ := ownsRow_form HO.out
      subst hav
      clear hie
      go_wp2
      go_ret
      exact ⟨_, rfl, by rw [← HE.out]; exact HO.out, HB.out⟩
end Go.Proofs.Ythimglgjeibaoaa

/- Whether something may come behind events, as the specification asks it. -/
namespace Go.Proofs.Ythimglgjeibaoaa
open Go.RowKit
set_option linter.unusedVariables false
set_option linter.unusedSimpArgs false
set_option maxHeartbeats 400000 in
theorem l4Came_any (k : Int) (w : World) :
    Calls Try.prog 60 #[.int .i64 k] w fun e w' => e = .returned (.int .i64 (Pl.cameS k)) ∧ w' = w := by
  unfold Pl.cameS
  by_cases h1 : k = 1
  · subst h1
    go_enter Try.func60, Try.ntmps60
    go_wp2
    go_ret
    exact ⟨rfl, rfl⟩
  · by_cases h2 : k = 2
    · subst h2
      go_enter Try.func60, Try.ntmps60
      go_wp2
      go_ret
      exact ⟨rfl, rfl⟩
    · have q1 : (k == 1) = false := by simp [h1]
      have q2 : (k == 2) = false := by simp [h2]
      rw [if_neg h1, if_neg h2]
      clear h1 h2
      go_enter Try.func60, Try.ntmps60
      go_wp2
      go_ret
      exact ⟨rfl, rfl⟩
theorem flat_at {f : Ev → List Value} {size : Nat} (hf : ∀ e, (f e).length = size) : ∀ (L : List Ev) (i : Nat) (e : Ev), L[i]? = some e → ∀ j u, (f e)[j]? = some u → (L.flatMap f)[i * size + j]? = some u
  | [], i, e, h => by simp at h
  | a :: r, 0, e, h => fun j u hu => by
    obtain rfl : a = e := by simpa using h
    have hj : j < (f a).length := (List.getElem?_eq_some_iff.1 hu).1
    simp only [List.flatMap_cons, Nat.zero_mul, Nat.zero_add]
    rw [List.getElem?_append_left hj]; exact hu
  | a :: r, i + 1, e, h => fun j u hu => by
    have ih := flat_at hf r i e (by simpa using h) j u hu
    simp only [List.flatMap_cons]
    rw [List.getElem?_append_right (by rw [hf]; rw [Nat.add_mul]; omega), hf]
    rw [show (i + 1) * size + j - size = i * size + j by rw [Nat.add_mul]; omega]
    exact ih
theorem own_cells {w : World} {base : Nat} {T : TypeId} {size : Nat} {a : Option Addr} {n c : Nat} {L : List Ev} {f : Ev → List Value} (hf : ∀ e, (f e).length = size) (h : w.ownsRow base T size (.slice a n c) L.length (L.flatMap f)) {i : Nat} {e : Ev} (he : L[i]? = some e) :
    ∃ g, a = some ⟨g, 0, none⟩ ∧ base ≤ g ∧ g < w.heap.size ∧ ∀ j u, (f e)[j]? = some u → w.cell? ⟨g, i * size + j, none⟩ = some u := by
  obtain ⟨hl, h⟩ := h
  have hi : i < L.length := (List.getElem?_eq_some_iff.1 he).1
  rcases h with ⟨h1, h0⟩ | ⟨g, cap, cur, hv, hb, hg, hnc, hm, hs, ht⟩
  · omega
  · injection hv with h1 h2 h3
    refine ⟨g, h1, hb, (Array.getElem?_eq_some_iff.1 hg).1, fun j u hu => ?_⟩
    have hfl := flat_at hf L i e he j u hu
    rw [← ht, List.getElem?_take] at hfl
    split at hfl
    · simp only [World.cell?, hg]; simpa using hfl
    · cases hfl
theorem own_bound {w : World} {base : Nat} {T : TypeId} {size : Nat} {a : Option Addr} {n c : Nat} {k : Nat} {xs : List Value} (h : w.ownsRow base T size (.slice a n c) k xs) : n = k ∧ n ≤ c ∧ c ≤ maxLen := by
  rcases h.2 with ⟨h1, h0⟩ | ⟨g, cap, cur, hv, hb, hg, hnc, hm, hs, ht⟩
  · injection h1 with h1 h2 h3
    subst h2 h3
    exact ⟨h0.symm, Nat.le_refl _, by unfold maxLen; omega⟩
  · injection hv with h1 h2 h3
    subst h2 h3
    exact ⟨rfl, hnc, hm⟩
/-- whether something of a kind may come for a place -/
def Pl.mayP (l : List Ev) (ct mp : Int) : Bool :=
  ct == 4 || ((decide (0 ≤ mp) && decide (mp ≤ ((Pl.cmdsOf l).length : Int) - 1)) && (match (Pl.cmdsOf l)[mp.toNat]? with
    | some c => !Pl.endK c.ck && ((Pl.cameS c.ck == ct) && Pl.freeB l mp)
    | none => false))
theorem mayB_eq (l : List Ev) (e : Ev) : Pl.mayB l e = Pl.mayP l e.ct e.mp := rfl
theorem seven_box {w w1 : World} {x0 x1 x2 x3 x4 x5 x6 : Value} {T : TypeId} (hB : Below (w.alloc (.cells #[x0, x1, x2, x3, x4, x5, x6] T)).heap.size (w.alloc (.cells #[x0, x1, x2, x3, x4, x5, x6] T)) w1) : w.heap.size < w1.heap.size ∧ w1.cell? ⟨w.heap.size, 0, none⟩ = some x0 ∧ w1.cell? ⟨w.heap.size, 1, none⟩ = some x1 := by
  have e1 : (w.alloc (.cells #[x0, x1, x2, x3, x4, x5, x6] T)).heap.size = w.heap.size + 1 := by simp
  have := hB.size
  refine ⟨by omega, ?_, ?_⟩
  · rw [hB.cell (p := ⟨w.heap.size, 0, none⟩) (by simp only; omega)]; simp
  · rw [hB.cell (p := ⟨w.heap.size, 1, none⟩) (by simp only; omega)]; simp
set_option maxRecDepth 100000 in
set_option maxHeartbeats 3200000 in
theorem l5May_out (l : List Ev) (hN : l.length ≤ 1048576) (v : Value) (ct mp : Int) (mn : ByteArray) (mo : Bool) (wk wn : Int) (wt : ByteArray) (w : World) (hr : EvRow w l v) (h4 : ¬ ct = 4) (hout : (decide (0 ≤ mp) && decide (mp ≤ ((Pl.cmdsOf l).length : Int) - 1)) = false) :
    Calls Try.prog 50 #[v, cameV ct mp mn mo wk wn wt] w fun x w' => x = .returned (.bool false) ∧ Below w.heap.size w w' := by
  have HRW := hide hr
  obtain ⟨ad, cap, rfl, hc, hmx, hx⟩ := hr
  unfold maxLen at hmx
  clear hx
  have hcl := hide (fun W hW => l5Cmds_any l hN (.slice ad l.length cap) W hW)
  have hcs := hide (fun W hW => l5Comes_any l hN (.slice ad l.length cap) W hW)
  have hin := hide (fun W => in_any mp 0 (((Pl.cmdsOf l).length : Int) - 1) W)
  rw [hout] at hin
  have hlen : (Pl.cmdsOf l).length ≤ l.length := by unfold Pl.cmdsOf; exact List.length_filter_le _ _
  have q4 : (ct == 4) = false := by simp [h4]
  clear hout h4
  generalize hn1 : (Pl.cmdsOf l).length = n1 at *
  go_enter Try.func50, Try.ntmps50
  go_wp2_with fail
  refine (hcl.out _ (HRW.out.later ((Below.refl _ _).alloc (Nat.le_refl _) _))).mono ?_
  rintro x1 Y ⟨v1, rfl, ho1, hB1⟩
  obtain ⟨hsz, y0, y1⟩ := seven_box hB1
  have HBY := hide (below_box1 hB1)
  have HO1 := hide ho1
  obtain ⟨a1, c1, hv1⟩ := ownsRow_form ho1
  subst hv1
  clear hB1 ho1
  go_wp2_with fail
  refine (hcs.out _ (HRW.out.later HBY.out)).mono ?_
  rintro x2 X ⟨v2, rfl, ho2, hB2⟩
  have XC := hide ((hB2.cell (p := ⟨w.heap.size, 0, none⟩) hsz).trans y0)
  have XM := hide ((hB2.cell (p := ⟨w.heap.size, 1, none⟩) hsz).trans y1)
  have HSZ : Hid (w.heap.size < X.heap.size) := by show _ < _; have := hB2.size; omega
  have HOX := hide (ownsRow_later HO1.out hB2)
  have HO2 := hide ho2
  have HBX : Hid (Below w.heap.size w X) := HBY.out.trans (hB2.mono HBY.out.size)
  obtain ⟨a2, c2, hv2⟩ := ownsRow_form ho2
  subst hv2
  clear hB2 ho2 hsz y0 y1 HO1 HBY
  go_wp2_with fail
  have hwr : IntKind.i64.wrap ((n1 : Int) - 1) = (n1 : Int) - 1 := by rw [IntKind.wrap_i64]; omega
  refine wp_region_noPanic ?_
  refine wp_region_held_drew (S := fun W => Below X.heap.size X W) (by kernel_rfl) (below_drew' (Below.refl _ _)) (fun hHeld => ?_)
  refine wpAnyH_take (i := 0) (oi := Oper.mk (some 15) _ _ _ _ _) (v := ?_) rfl (by kernel_rfl) (by kernel_rfl) (by kernel_rfl) (fun _ _ _ h => h) (Or.inl ⟨by rfl, ?_⟩) (by assumption) ?_
  rotate_left
  · intro w0 hSw
    clear hSw
    go_simp
    all_goals (with_reducible rfl)
  simp only [Act.put, List.setIfInBounds_toArray, List.set_cons_zero, List.set_cons_succ]
  refine wpAnyH_take (i := 1) (oi := Oper.mk (some 16) _ _ _ _ _) (v := ?_) rfl (by kernel_rfl) (by kernel_rfl) (by kernel_rfl) (fun _ _ _ h => h) (Or.inl ⟨by rfl, ?_⟩) (by assumption) ?_
  rotate_left
  · intro w0 hSw
    have z0 : w0.cell? ⟨w.heap.size, 1, none⟩ = some (.int .i64 mp) := (Below.cell hSw (p := ⟨w.heap.size, 1, none⟩) HSZ.out).trans XM.out
    clear hSw
    go_simp
    all_goals (with_reducible rfl)
  simp only [Act.put, List.setIfInBounds_toArray, List.set_cons_zero, List.set_cons_succ]
  refine wpAnyH_take (i := 2) (oi := Oper.mk (some 17) _ _ _ _ _) (v := ?_) rfl (by kernel_rfl) (by kernel_rfl) (by kernel_rfl) (fun _ _ _ h => h) (Or.inl ⟨by rfl, ?_⟩) (by assumption) ?_
  rotate_left
  · intro w0 hSw
    clear hSw
    go_simp
    all_goals (with_reducible rfl)
  simp only [Act.put, List.setIfInBounds_toArray, List.set_cons_zero, List.set_cons_succ]
  refine wpAnyH_take (i := 3) (oi := Oper.mk (some 18) _ _ _ _ _) (v := ?_) rfl (by kernel_rfl) (by kernel_rfl) (by kernel_rfl) (fun _ _ _ h => h) (Or.inl ⟨by rfl, ?_⟩) (by assumption) ?_
  rotate_left
  · intro w0 hSw
    clear hSw
    go_simp
    all_goals (with_reducible rfl)
  simp only [Act.put, List.setIfInBounds_toArray, List.set_cons_zero, List.set_cons_succ]
  refine wpAnyH_take (i := 4) (oi := Oper.mk (some 19) _ _ _ _ _) (v := ?_) rfl (by kernel_rfl) (by kernel_rfl) (by kernel_rfl) (fun _ _ _ h => h) (Or.inl ⟨by rfl, ?_⟩) (by assumption) ?_
  rotate_left
  · intro w0 hSw
    clear hSw
    go_simp
    all_goals (with_reducible rfl)
  simp only [Act.put, List.setIfInBounds_toArray, List.set_cons_zero, List.set_cons_succ]
  refine wpAnyH_ready (rs := [5]) (by kernel_rfl) (by simp) ?_
  refine AllReadyH.cons (o := Oper.mk (some 20) _ _ _ _ _) rfl (fun K hK => ?_) AllReadyH.nil
  go_simp
  go_at_call 28
  refine (hin.out _).mono ?_
  rintro x0 w0 ⟨rfl, rfl⟩
  go_wp2_with fail
  refine hK.out _ _ hHeld (fun hHeld => ?_)
  clear hK K
  (try simp only [Act.put, List.setIfInBounds_toArray, List.set_cons_zero, List.set_cons_succ])
  refine wpAnyH_take (i := 6) (oi := Oper.mk (some 21) _ _ _ _ _) (v := ?_) rfl (by kernel_rfl) (by kernel_rfl) (by kernel_rfl) (fun _ _ _ h => h) (Or.inl ⟨by rfl, ?_⟩) (by assumption) ?_
  rotate_left
  · intro w0 hSw
    clear hSw
    go_simp
    all_goals (with_reducible rfl)
  simp only [Act.put, List.setIfInBounds_toArray, List.set_cons_zero, List.set_cons_succ]
  refine wpAnyH_take (i := 7) (oi := Oper.mk (some 22) _ _ _ _ _) (v := ?_) rfl (by kernel_rfl) (by kernel_rfl) (by kernel_rfl) (fun _ _ _ h => h) (Or.inl ⟨by rfl, ?_⟩) (by assumption) ?_
  rotate_left
  · intro w0 hSw
    clear hSw
    go_simp
    all_goals (with_reducible rfl)
  simp only [Act.put, List.setIfInBounds_toArray, List.set_cons_zero, List.set_cons_succ]
  refine wpAnyH_take (i := 8) (oi := Oper.mk (some 23) _ _ _ _ _) (v := undef) rfl (by kernel_rfl) (by kernel_rfl) (by kernel_rfl) (fun _ _ _ h => h) (Or.inr ⟨by rfl, rfl⟩) (by assumption) ?_
  simp only [Act.put, List.setIfInBounds_toArray, List.set_cons_zero, List.set_cons_succ]
  refine wpAnyH_take (i := 9) (oi := Oper.mk (some 24) _ _ _ _ _) (v := undef) rfl (by kernel_rfl) (by kernel_rfl) (by kernel_rfl) (fun _ _ _ h => h) (Or.inr ⟨by rfl, rfl⟩) (by assumption) ?_
  simp only [Act.put, List.setIfInBounds_toArray, List.set_cons_zero, List.set_cons_succ]
  refine wpAnyH_take (i := 10) (oi := Oper.mk (some 25) _ _ _ _ _) (v := undef) rfl (by kernel_rfl) (by kernel_rfl) (by kernel_rfl) (fun _ _ _ h => h) (Or.inr ⟨by rfl, rfl⟩) (by assumption) ?_
  simp only [Act.put, List.setIfInBounds_toArray, List.set_cons_zero, List.set_cons_succ]
  refine wpAnyH_take (i := 11) (oi := Oper.mk (some 26) _ _ _ _ _) (v := undef) rfl (by kernel_rfl) (by kernel_rfl) (by kernel_rfl) (fun _ _ _ h => h) (Or.inr ⟨by rfl, rfl⟩) (by assumption) ?_
  simp only [Act.put, List.setIfInBounds_toArray, List.set_cons_zero, List.set_cons_succ]
  refine wpAnyH_take (i := 12) (oi := Oper.mk (some 27) _ _ _ _ _) (v := undef) rfl (by kernel_rfl) (by kernel_rfl) (by kernel_rfl) (fun _ _ _ h => h) (Or.inr ⟨by rfl, rfl⟩) (by assumption) ?_
  simp only [Act.put, List.setIfInBounds_toArray, List.set_cons_zero, List.set_cons_succ]
  refine wpAnyH_take (i := 13) (oi := Oper.mk (some 28) _ _ _ _ _) (v := undef) rfl (by kernel_rfl) (by kernel_rfl) (by kernel_rfl) (fun _ _ _ h => h) (Or.inr ⟨by rfl, rfl⟩) (by assumption) ?_
  simp only [Act.put, List.setIfInBounds_toArray, List.set_cons_zero, List.set_cons_succ]
  refine wpAnyH_take (i := 14) (oi := Oper.mk (some 29) _ _ _ _ _) (v := ?_) rfl (by kernel_rfl) (by kernel_rfl) (by kernel_rfl) (fun _ _ _ h => h) (Or.inl ⟨by rfl, ?_⟩) (by assumption) ?_
  rotate_left
  · intro w0 hSw
    clear hSw
    go_simp
    all_goals (with_reducible rfl)
  simp only [Act.put, List.setIfInBounds_toArray, List.set_cons_zero, List.set_cons_succ]
  refine wpAnyH_take (i := 15) (oi := Oper.mk (some 30) _ _ _ _ _) (v := ?_) rfl (by kernel_rfl) (by kernel_rfl) (by kernel_rfl) (fun _ _ _ h => h) (Or.inl ⟨by rfl, ?_⟩) (by assumption) ?_
  rotate_left
  · intro w0 hSw
    clear hSw
    go_simp
    all_goals (with_reducible rfl)
  simp only [Act.put, List.setIfInBounds_toArray, List.set_cons_zero, List.set_cons_succ]
  refine wpAnyH_take (i := 16) (oi := Oper.mk (some 31) _ _ _ _ _) (v := undef) rfl (by kernel_rfl) (by kernel_rfl) (by kernel_rfl) (fun _ _ _ h => h) (Or.inr ⟨by rfl, rfl⟩) (by assumption) ?_
  simp only [Act.put, List.setIfInBounds_toArray, List.set_cons_zero, List.set_cons_succ]
  refine wpAnyH_take (i := 17) (oi := Oper.mk (some 32) _ _ _ _ _) (v := undef) rfl (by kernel_rfl) (by kernel_rfl) (by kernel_rfl) (fun _ _ _ h => h) (Or.inr ⟨by rfl, rfl⟩) (by assumption) ?_
  simp only [Act.put, List.setIfInBounds_toArray, List.set_cons_zero, List.set_cons_succ]
  refine wpAnyH_take (i := 18) (oi := Oper.mk (some 33) _ _ _ _ _) (v := undef) rfl (by kernel_rfl) (by kernel_rfl) (by kernel_rfl) (fun _ _ _ h => h) (Or.inr ⟨by rfl, rfl⟩) (by assumption) ?_
  simp only [Act.put, List.setIfInBounds_toArray, List.set_cons_zero, List.set_cons_succ]
  refine wpAnyH_take (i := 19) (oi := Oper.mk (some 34) _ _ _ _ _) (v := undef) rfl (by kernel_rfl) (by kernel_rfl) (by kernel_rfl) (fun _ _ _ h => h) (Or.inr ⟨by rfl, rfl⟩) (by assumption) ?_
  simp only [Act.put, List.setIfInBounds_toArray, List.set_cons_zero, List.set_cons_succ]
  refine wpAnyH_take (i := 20) (oi := Oper.mk (some 35) _ _ _ _ _) (v := undef) rfl (by kernel_rfl) (by kernel_rfl) (by kernel_rfl) (fun _ _ _ h => h) (Or.inr ⟨by rfl, rfl⟩) (by assumption) ?_
  simp only [Act.put, List.setIfInBounds_toArray, List.set_cons_zero, List.set_cons_succ]
  refine wpAnyH_take (i := 21) (oi := Oper.mk (some 36) _ _ _ _ _) (v := undef) rfl (by kernel_rfl) (by kernel_rfl) (by kernel_rfl) (fun _ _ _ h => h) (Or.inr ⟨by rfl, rfl⟩) (by assumption) ?_
  simp only [Act.put, List.setIfInBounds_toArray, List.set_cons_zero, List.set_cons_succ]
  refine wpAnyH_take (i := 22) (oi := Oper.mk (some 37) _ _ _ _ _) (v := undef) rfl (by kernel_rfl) (by kernel_rfl) (by kernel_rfl) (fun _ _ _ h => h) (Or.inr ⟨by rfl, rfl⟩) (by assumption) ?_
  simp only [Act.put, List.setIfInBounds_toArray, List.set_cons_zero, List.set_cons_succ]
  refine wpAnyH_take (i := 23) (oi := Oper.mk (some 38) _ _ _ _ _) (v := undef) rfl (by kernel_rfl) (by kernel_rfl) (by kernel_rfl) (fun _ _ _ h => h) (Or.inr ⟨by rfl, rfl⟩) (by assumption) ?_
  simp only [Act.put, List.setIfInBounds_toArray, List.set_cons_zero, List.set_cons_succ]
  refine wpAnyH_take (i := 24) (oi := Oper.mk (some 39) _ _ _ _ _) (v := undef) rfl (by kernel_rfl) (by kernel_rfl) (by kernel_rfl) (fun _ _ _ h => h) (Or.inr ⟨by rfl, rfl⟩) (by assumption) ?_
  simp only [Act.put, List.setIfInBounds_toArray, List.set_cons_zero, List.set_cons_succ]
  refine wpAnyH_take (i := 25) (oi := Oper.mk (some 40) _ _ _ _ _) (v := undef) rfl (by kernel_rfl) (by kernel_rfl) (by kernel_rfl) (fun _ _ _ h => h) (Or.inr ⟨by rfl, rfl⟩) (by assumption) ?_
  simp only [Act.put, List.setIfInBounds_toArray, List.set_cons_zero, List.set_cons_succ]
  refine wpAnyH_take (i := 26) (oi := Oper.mk (some 41) _ _ _ _ _) (v := ?_) rfl (by kernel_rfl) (by kernel_rfl) (by kernel_rfl) (fun _ _ _ h => h) (Or.inl ⟨by rfl, ?_⟩) (by assumption) ?_
  rotate_left
  · intro w0 hSw
    clear hSw
    go_simp
    all_goals (with_reducible rfl)
  simp only [Act.put, List.setIfInBounds_toArray, List.set_cons_zero, List.set_cons_succ]
  refine wpAnyH_done (by kernel_rfl) ?_ _
  refine NoPanic.normal ?_
  go_wp2_with fail
  go_ret
  exact ⟨rfl, HBX.out.trans (hHeld.mono HBX.out.size)⟩
set_option maxRecDepth 100000 in
set_option maxHeartbeats 3200000 in
theorem l5May_end (l : List Ev) (hN : l.length ≤ 1048576) (v : Value) (ct : Int) (p : Nat) (mn : ByteArray) (mo : Bool) (wk wn : Int) (wt : ByteArray) (w : World) (hr : EvRow w l v) (h4 : ¬ ct = 4) (c : Ev) (hcc : (Pl.cmdsOf l)[p]? = some c) (hen : Pl.endK c.ck = true) :
    Calls Try.prog 50 #[v, cameV ct p mn mo wk wn wt] w fun x w' => x = .returned (.bool false) ∧ Below w.heap.size w w' := by
  have HRW := hide hr
  obtain ⟨ad, cap, rfl, hc, hmx, hx⟩ := hr
  unfold maxLen at hmx
  clear hx
  have hcl := hide (fun W hW => l5Cmds_any l hN (.slice ad l.length cap) W hW)
  have hcs := hide (fun W hW => l5Comes_any l hN (.slice ad l.length cap) W hW)
  have hpl : p < (Pl.cmdsOf l).length := (List.getElem?_eq_some_iff.1 hcc).1
  have hlen : (Pl.cmdsOf l).length ≤ l.length := by unfold Pl.cmdsOf; exact List.length_filter_le _ _
  have hin : Hid (∀ W : World, Calls Try.prog 28 #[.int .i64 (p : Int), .int .i64 0, .int .i64 (((Pl.cmdsOf l).length : Int) - 1)] W fun e w' => e = .returned (.bool true) ∧ w' = W) := fun W => by
    have := in_any (p : Int) 0 (((Pl.cmdsOf l).length : Int) - 1) W
    rwa [show (decide ((0 : Int) ≤ (p : Int)) && decide ((p : Int) ≤ ((Pl.cmdsOf l).length : Int) - 1)) = true by simp; omega] at this
  have hend := hide (fun W => l5Ends_any c.ck c.cn c.ak c.an c.ax W)
  rw [hen] at hend
  have hcm := hide (fun W => l4Came_any c.ck W)
  have q4 : (ct == 4) = false := by simp [h4]
  have hpi : (p : Int) < ((Pl.cmdsOf l).length : Int) := by omega
  have HCC := hide hcc
  clear hen h4 hcc
  go_enter Try.func50, Try.ntmps50
  go_wp2_with fail
  refine (hcl.out _ (HRW.out.later ((Below.refl _ _).alloc (Nat.le_refl _) _))).mono ?_
  rintro x1 Y ⟨v1, rfl, ho1, hB1⟩
  obtain ⟨hsz, y0, y1⟩ := seven_box hB1
  have HBY := hide (below_box1 hB1)
  have HO1 := hide ho1
  obtain ⟨a1, c1, hv1⟩ := ownsRow_form ho1
  subst hv1
  clear hB1 ho1
  go_wp2_with fail
  refine (hcs.out _ (HRW.out.later HBY.out)).mono ?_
  rintro x2 X ⟨v2, rfl, ho2, hB2⟩
  have XC := hide ((hB2.cell (p := ⟨w.heap.size, 0, none⟩) hsz).trans y0)
  have XM := hide ((hB2.cell (p := ⟨w.heap.size, 1, none⟩) hsz).trans y1)
  have HSZ : Hid (w.heap.size < X.heap.size) := by show _ < _; have := hB2.size; omega
  have HOX := hide (ownsRow_later HO1.out hB2)
  have HO2 := hide ho2
  have HBX : Hid (Below w.heap.size w X) := HBY.out.trans (hB2.mono HBY.out.size)
  obtain ⟨a2, c2, hv2⟩ := ownsRow_form ho2
  subst hv2
  clear hB2 ho2 hsz y0 y1 HO1 HBY
  go_wp2_with fail
  obtain ⟨g1, ha1, hgb, hg1, hcells⟩ := own_cells (f := cmL) (size := 5) (fun _ => rfl) HOX.out HCC.out
  subst ha1
  have HG1 := hide hg1
  have R0 : Hid (X.cell? ⟨g1, p * 5, none⟩ = some (.int .i64 c.ck)) := hcells 0 _ rfl
  have R1 : Hid (X.cell? ⟨g1, p * 5 + 1, none⟩ = some (.string c.cn)) := hcells 1 _ rfl
  have R2 : Hid (X.cell? ⟨g1, p * 5 + 2, none⟩ = some (.int .i64 c.ak)) := hcells 2 _ rfl
  have R3 : Hid (X.cell? ⟨g1, p * 5 + 3, none⟩ = some (.int .i64 c.an)) := hcells 3 _ rfl
  have R4 : Hid (X.cell? ⟨g1, p * 5 + 4, none⟩ = some (.string c.ax)) := hcells 4 _ rfl
  have hb1 := own_bound HOX.out
  have HB1 := hide hb1
  clear hcells hg1 hgb hb1
  generalize hn1 : (Pl.cmdsOf l).length = n1 at *
  have hwr : IntKind.i64.wrap ((n1 : Int) - 1) = (n1 : Int) - 1 := by rw [IntKind.wrap_i64]; omega
  refine wp_region_noPanic ?_
  refine wp_region_held_drew (S := fun W => Below X.heap.size X W) (by kernel_rfl) (below_drew' (Below.refl _ _)) (fun hHeld => ?_)
  refine wpAnyH_take (i := 0) (oi := Oper.mk (some 15) _ _ _ _ _) (v := ?_) rfl (by kernel_rfl) (by kernel_rfl) (by kernel_rfl) (fun _ _ _ h => h) (Or.inl ⟨by rfl, ?_⟩) (by assumption) ?_
  rotate_left
  · intro w0 hSw
    clear hSw
    go_simp
    all_goals (with_reducible rfl)
  simp only [Act.put, List.setIfInBounds_toArray, List.set_cons_zero, List.set_cons_succ]
  refine wpAnyH_take (i := 1) (oi := Oper.mk (some 16) _ _ _ _ _) (v := ?_) rfl (by kernel_rfl) (by kernel_rfl) (by kernel_rfl) (fun _ _ _ h => h) (Or.inl ⟨by rfl, ?_⟩) (by assumption) ?_
  rotate_left
  · intro w0 hSw
    have z0 : w0.cell? ⟨w.heap.size, 1, none⟩ = some (.int .i64 (p : Int)) := (Below.cell hSw (p := ⟨w.heap.size, 1, none⟩) HSZ.out).trans XM.out
    clear hSw
    go_simp
    all_goals (with_reducible rfl)
  simp only [Act.put, List.setIfInBounds_toArray, List.set_cons_zero, List.set_cons_succ]
  refine wpAnyH_take (i := 2) (oi := Oper.mk (some 17) _ _ _ _ _) (v := ?_) rfl (by kernel_rfl) (by kernel_rfl) (by kernel_rfl) (fun _ _ _ h => h) (Or.inl ⟨by rfl, ?_⟩) (by assumption) ?_
  rotate_left
  · intro w0 hSw
    clear hSw
    go_simp
    all_goals (with_reducible rfl)
  simp only [Act.put, List.setIfInBounds_toArray, List.set_cons_zero, List.set_cons_succ]
  refine wpAnyH_take (i := 3) (oi := Oper.mk (some 18) _ _ _ _ _) (v := ?_) rfl (by kernel_rfl) (by kernel_rfl) (by kernel_rfl) (fun _ _ _ h => h) (Or.inl ⟨by rfl, ?_⟩) (by assumption) ?_
  rotate_left
  · intro w0 hSw
    clear hSw
    go_simp
    all_goals (with_reducible rfl)
  simp only [Act.put, List.setIfInBounds_toArray, List.set_cons_zero, List.set_cons_succ]
  refine wpAnyH_take (i := 4) (oi := Oper.mk (some 19) _ _ _ _ _) (v := ?_) rfl (by kernel_rfl) (by kernel_rfl) (by kernel_rfl) (fun _ _ _ h => h) (Or.inl ⟨by rfl, ?_⟩) (by assumption) ?_
  rotate_left
  · intro w0 hSw
    clear hSw
    go_simp
    all_goals (with_reducible rfl)
  simp only [Act.put, List.setIfInBounds_toArray, List.set_cons_zero, List.set_cons_succ]
  refine wpAnyH_ready (rs := [5]) (by kernel_rfl) (by simp) ?_
  refine AllReadyH.cons (o := Oper.mk (some 20) _ _ _ _ _) rfl (fun K hK => ?_) AllReadyH.nil
  go_simp
  go_at_call 28
  refine (hin.out _).mono ?_
  rintro x0 w0 ⟨rfl, rfl⟩
  go_wp2_with fail
  refine hK.out _ _ hHeld (fun hHeld => ?_)
  clear hK K
  (try simp only [Act.put, List.setIfInBounds_toArray, List.set_cons_zero, List.set_cons_succ])
  refine wpAnyH_take (i := 6) (oi := Oper.mk (some 21) _ _ _ _ _) (v := ?_) rfl (by kernel_rfl) (by kernel_rfl) (by kernel_rfl) (fun _ _ _ h => h) (Or.inl ⟨by rfl, ?_⟩) (by assumption) ?_
  rotate_left
  · intro w0 hSw
    clear hSw
    go_simp
    all_goals (with_reducible rfl)
  simp only [Act.put, List.setIfInBounds_toArray, List.set_cons_zero, List.set_cons_succ]
  refine wpAnyH_take (i := 7) (oi := Oper.mk (some 22) _ _ _ _ _) (v := ?_) rfl (by kernel_rfl) (by kernel_rfl) (by kernel_rfl) (fun _ _ _ h => h) (Or.inl ⟨by rfl, ?_⟩) (by assumption) ?_
  rotate_left
  · intro w0 hSw
    clear hSw
    go_simp
    all_goals (with_reducible rfl)
  simp only [Act.put, List.setIfInBounds_toArray, List.set_cons_zero, List.set_cons_succ]
  refine wpAnyH_take (i := 8) (oi := Oper.mk (some 23) _ _ _ _ _) (v := ?_) rfl (by kernel_rfl) (by kernel_rfl) (by kernel_rfl) (fun _ _ _ h => h) (Or.inl ⟨by rfl, ?_⟩) (by assumption) ?_
  rotate_left
  · intro w0 hSw
    clear hSw
    go_simp
    all_goals (with_reducible rfl)
  simp only [Act.put, List.setIfInBounds_toArray, List.set_cons_zero, List.set_cons_succ]
  refine wpAnyH_take (i := 9) (oi := Oper.mk (some 24) _ _ _ _ _) (v := ?_) rfl (by kernel_rfl) (by kernel_rfl) (by kernel_rfl) (fun _ _ _ h => h) (Or.inl ⟨by rfl, ?_⟩) (by assumption) ?_
  rotate_left
  · intro w0 hSw
    clear hSw
    go_simp
    all_goals (with_reducible rfl)
  simp only [Act.put, List.setIfInBounds_toArray, List.set_cons_zero, List.set_cons_succ]
  refine wpAnyH_take (i := 10) (oi := Oper.mk (some 25) _ _ _ _ _) (v := ?_) rfl (by kernel_rfl) (by kernel_rfl) (by kernel_rfl) (fun _ _ _ h => h) (Or.inl ⟨by rfl, ?_⟩) (by assumption) ?_
  rotate_left
  · intro w0 hSw
    have z0 : w0.cell? ⟨w.heap.size, 1, none⟩ = some (.int .i64 (p : Int)) := (Below.cell hSw (p := ⟨w.heap.size, 1, none⟩) HSZ.out).trans XM.out
    clear hSw
    go_simp
    all_goals (with_reducible rfl)
  simp only [Act.put, List.setIfInBounds_toArray, List.set_cons_zero, List.set_cons_succ]
  refine wpAnyH_take (i := 11) (oi := Oper.mk (some 26) _ _ _ _ _) (v := ?_) rfl (by kernel_rfl) (by kernel_rfl) (by kernel_rfl) (fun _ _ _ h => h) (Or.inl ⟨by rfl, ?_⟩) (by assumption) ?_
  rotate_left
  · intro w0 hSw
    clear hSw
    go_simp
    all_goals (with_reducible rfl)
  simp only [Act.put, List.setIfInBounds_toArray, List.set_cons_zero, List.set_cons_succ]
  refine wpAnyH_take (i := 12) (oi := Oper.mk (some 27) _ _ _ _ _) (v := ?_) rfl (by kernel_rfl) (by kernel_rfl) (by kernel_rfl) (fun _ _ _ h => h) (Or.inl ⟨by rfl, ?_⟩) (by assumption) ?_
  rotate_left
  · intro w0 hSw
    have z0 : w0.cell? ⟨g1, p * 5, none⟩ = some (.int .i64 c.ck) := (Below.cell hSw (p := ⟨g1, p * 5, none⟩) HG1.out).trans R0.out
    have z1 : w0.cell? ⟨g1, p * 5 + 1, none⟩ = some (.string c.cn) := (Below.cell hSw (p := ⟨g1, p * 5 + 1, none⟩) HG1.out).trans R1.out
    have z2 : w0.cell? ⟨g1, p * 5 + 2, none⟩ = some (.int .i64 c.ak) := (Below.cell hSw (p := ⟨g1, p * 5 + 2, none⟩) HG1.out).trans R2.out
    have z3 : w0.cell? ⟨g1, p * 5 + 3, none⟩ = some (.int .i64 c.an) := (Below.cell hSw (p := ⟨g1, p * 5 + 3, none⟩) HG1.out).trans R3.out
    have z4 : w0.cell? ⟨g1, p * 5 + 4, none⟩ = some (.string c.ax) := (Below.cell hSw (p := ⟨g1, p * 5 + 4, none⟩) HG1.out).trans R4.out
    clear hSw
    go_simp
    all_goals (with_reducible rfl)
  simp only [Act.put, List.setIfInBounds_toArray, List.set_cons_zero, List.set_cons_succ]
  refine wpAnyH_ready (rs := [13]) (by kernel_rfl) (by simp) ?_
  refine AllReadyH.cons (o := Oper.mk (some 28) _ _ _ _ _) rfl (fun K hK => ?_) AllReadyH.nil
  go_simp
  go_at_call 49
  refine (hend.out _).mono ?_
  rintro x0 w0 ⟨rfl, hB0⟩
  have hHeld' := Below.trans hHeld (hB0.mono hHeld.size)
  clear hB0 hHeld
  go_wp2_with fail
  refine hK.out _ _ hHeld' (fun hHeld => ?_)
  clear hK K hHeld'
  (try simp only [Act.put, List.setIfInBounds_toArray, List.set_cons_zero, List.set_cons_succ])
  refine wpAnyH_take (i := 14) (oi := Oper.mk (some 29) _ _ _ _ _) (v := ?_) rfl (by kernel_rfl) (by kernel_rfl) (by kernel_rfl) (fun _ _ _ h => h) (Or.inl ⟨by rfl, ?_⟩) (by assumption) ?_
  rotate_left
  · intro w0 hSw
    clear hSw
    go_simp
    all_goals (with_reducible rfl)
  simp only [Act.put, List.setIfInBounds_toArray, List.set_cons_zero, List.set_cons_succ]
  refine wpAnyH_take (i := 15) (oi := Oper.mk (some 30) _ _ _ _ _) (v := ?_) rfl (by kernel_rfl) (by kernel_rfl) (by kernel_rfl) (fun _ _ _ h => h) (Or.inl ⟨by rfl, ?_⟩) (by assumption) ?_
  rotate_left
  · intro w0 hSw
    clear hSw
    go_simp
    all_goals (with_reducible rfl)
  simp only [Act.put, List.setIfInBounds_toArray, List.set_cons_zero, List.set_cons_succ]
  refine wpAnyH_take (i := 16) (oi := Oper.mk (some 31) _ _ _ _ _) (v := undef) rfl (by kernel_rfl) (by kernel_rfl) (by kernel_rfl) (fun _ _ _ h => h) (Or.inr ⟨by rfl, rfl⟩) (by assumption) ?_
  simp only [Act.put, List.setIfInBounds_toArray, List.set_cons_zero, List.set_cons_succ]
  refine wpAnyH_take (i := 17) (oi := Oper.mk (some 32) _ _ _ _ _) (v := undef) rfl (by kernel_rfl) (by kernel_rfl) (by kernel_rfl) (fun _ _ _ h => h) (Or.inr ⟨by rfl, rfl⟩) (by assumption) ?_
  simp only [Act.put, List.setIfInBounds_toArray, List.set_cons_zero, List.set_cons_succ]
  refine wpAnyH_take (i := 18) (oi := Oper.mk (some 33) _ _ _ _ _) (v := undef) rfl (by kernel_rfl) (by kernel_rfl) (by kernel_rfl) (fun _ _ _ h => h) (Or.inr ⟨by rfl, rfl⟩) (by assumption) ?_
  simp only [Act.put, List.setIfInBounds_toArray, List.set_cons_zero, List.set_cons_succ]
  refine wpAnyH_take (i := 19) (oi := Oper.mk (some 34) _ _ _ _ _) (v := undef) rfl (by kernel_rfl) (by kernel_rfl) (by kernel_rfl) (fun _ _ _ h => h) (Or.inr ⟨by rfl, rfl⟩) (by assumption) ?_
  simp only [Act.put, List.setIfInBounds_toArray, List.set_cons_zero, List.set_cons_succ]
  refine wpAnyH_take (i := 20) (oi := Oper.mk (some 35) _ _ _ _ _) (v := undef) rfl (by kernel_rfl) (by kernel_rfl) (by kernel_rfl) (fun _ _ _ h => h) (Or.inr ⟨by rfl, rfl⟩) (by assumption) ?_
  simp only [Act.put, List.setIfInBounds_toArray, List.set_cons_zero, List.set_cons_succ]
  refine wpAnyH_take (i := 21) (oi := Oper.mk (some 36) _ _ _ _ _) (v := undef) rfl (by kernel_rfl) (by kernel_rfl) (by kernel_rfl) (fun _ _ _ h => h) (Or.inr ⟨by rfl, rfl⟩) (by assumption) ?_
  simp only [Act.put, List.setIfInBounds_toArray, List.set_cons_zero, List.set_cons_succ]
  refine wpAnyH_take (i := 22) (oi := Oper.mk (some 37) _ _ _ _ _) (v := undef) rfl (by kernel_rfl) (by kernel_rfl) (by kernel_rfl) (fun _ _ _ h => h) (Or.inr ⟨by rfl, rfl⟩) (by assumption) ?_
  simp only [Act.put, List.setIfInBounds_toArray, List.set_cons_zero, List.set_cons_succ]
  refine wpAnyH_take (i := 23) (oi := Oper.mk (some 38) _ _ _ _ _) (v := undef) rfl (by kernel_rfl) (by kernel_rfl) (by kernel_rfl) (fun _ _ _ h => h) (Or.inr ⟨by rfl, rfl⟩) (by assumption) ?_
  simp only [Act.put, List.setIfInBounds_toArray, List.set_cons_zero, List.set_cons_succ]
  refine wpAnyH_take (i := 24) (oi := Oper.mk (some 39) _ _ _ _ _) (v := undef) rfl (by kernel_rfl) (by kernel_rfl) (by kernel_rfl) (fun _ _ _ h => h) (Or.inr ⟨by rfl, rfl⟩) (by assumption) ?_
  simp only [Act.put, List.setIfInBounds_toArray, List.set_cons_zero, List.set_cons_succ]
  refine wpAnyH_take (i := 25) (oi := Oper.mk (some 40) _ _ _ _ _) (v := undef) rfl (by kernel_rfl) (by kernel_rfl) (by kernel_rfl) (fun _ _ _ h => h) (Or.inr ⟨by rfl, rfl⟩) (by assumption) ?_
  simp only [Act.put, List.setIfInBounds_toArray, List.set_cons_zero, List.set_cons_succ]
  refine wpAnyH_take (i := 26) (oi := Oper.mk (some 41) _ _ _ _ _) (v := ?_) rfl (by kernel_rfl) (by kernel_rfl) (by kernel_rfl) (fun _ _ _ h => h) (Or.inl ⟨by rfl, ?_⟩) (by assumption) ?_
  rotate_left
  · intro w0 hSw
    clear hSw
    go_simp
    all_goals (with_reducible rfl)
  simp only [Act.put, List.setIfInBounds_toArray, List.set_cons_zero, List.set_cons_succ]
  refine wpAnyH_done (by kernel_rfl) ?_ _
  refine NoPanic.normal ?_
  go_wp2_with fail
  go_ret
  exact ⟨rfl, HBX.out.trans (hHeld.mono HBX.out.size)⟩
set_option maxRecDepth 100000 in
set_option maxHeartbeats 3200000 in
theorem l5May_kind (l : List Ev) (hN : l.length ≤ 1048576) (v : Value) (ct : Int) (p : Nat) (mn : ByteArray) (mo : Bool) (wk wn : Int) (wt : ByteArray) (w : World) (hr : EvRow w l v) (h4 : ¬ ct = 4) (c : Ev) (hcc : (Pl.cmdsOf l)[p]? = some c) (hen : Pl.endK c.ck = false) (hct : ¬ Pl.cameS c.ck = ct) :
    Calls Try.prog 50 #[v, cameV ct p mn mo wk wn wt] w fun x w' => x = .returned (.bool false) ∧ Below w.heap.size w w' := by
  have HRW := hide hr
  obtain ⟨ad, cap, rfl, hc, hmx, hx⟩ := hr
  unfold maxLen at hmx
  clear hx
  have hcl := hide (fun W hW => l5Cmds_any l hN (.slice ad l.length cap) W hW)
  have hcs := hide (fun W hW => l5Comes_any l hN (.slice ad l.length cap) W hW)
  have hpl : p < (Pl.cmdsOf l).length := (List.getElem?_eq_some_iff.1 hcc).1
  have hlen : (Pl.cmdsOf l).length ≤ l.length := by unfold Pl.cmdsOf; exact List.length_filter_le _ _
  have hin : Hid (∀ W : World, Calls Try.prog 28 #[.int .i64 (p : Int), .int .i64 0, .int .i64 (((Pl.cmdsOf l).length : Int) - 1)] W fun e w' => e = .returned (.bool true) ∧ w' = W) := fun W => by
    have := in_any (p : Int) 0 (((Pl.cmdsOf l).length : Int) - 1) W
    rwa [show (decide ((0 : Int) ≤ (p : Int)) && decide ((p : Int) ≤ ((Pl.cmdsOf l).length : Int) - 1)) = true by simp; omega] at this
  have hend := hide (fun W => l5Ends_any c.ck c.cn c.ak c.an c.ax W)
  rw [hen] at hend
  have hcm := hide (fun W => l4Came_any c.ck W)
  have q4 : (ct == 4) = false := by simp [h4]
  have hpi : (p : Int) < ((Pl.cmdsOf l).length : Int) := by omega
  have HCC := hide hcc
  clear hen h4 hcc
  go_enter Try.func50, Try.ntmps50
  go_wp2_with fail
  refine (hcl.out _ (HRW.out.later ((Below.refl _ _).alloc (Nat.le_refl _) _))).mono ?_
  rintro x1 Y ⟨v1, rfl, ho1, hB1⟩
  obtain ⟨hsz, y0, y1⟩ := seven_box hB1
  have HBY := hide (below_box1 hB1)
  have HO1 := hide ho1
  obtain ⟨a1, c1, hv1⟩ := ownsRow_form ho1
  subst hv1
  clear hB1 ho1
  go_wp2_with fail
  refine (hcs.out _ (HRW.out.later HBY.out)).mono ?_
  rintro x2 X ⟨v2, rfl, ho2, hB2⟩
  have XC := hide ((hB2.cell (p := ⟨w.heap.size, 0, none⟩) hsz).trans y0)
  have XM := hide ((hB2.cell (p := ⟨w.heap.size, 1, none⟩) hsz).trans y1)
  have HSZ : Hid (w.heap.size < X.heap.size) := by show _ < _; have := hB2.size; omega
  have HOX := hide (ownsRow_later HO1.out hB2)
  have HO2 := hide ho2
  have HBX : Hid (Below w.heap.size w X) := HBY.out.trans (hB2.mono HBY.out.size)
  obtain ⟨a2, c2, hv2⟩ := ownsRow_form ho2
  subst hv2
  clear hB2 ho2 hsz y0 y1 HO1 HBY
  go_wp2_with fail
  obtain ⟨g1, ha1, hgb, hg1, hcells⟩ := own_cells (f := cmL) (size := 5) (fun _ => rfl) HOX.out HCC.out
  subst ha1
  have HG1 := hide hg1
  have R0 : Hid (X.cell? ⟨g1, p * 5, none⟩ = some (.int .i64 c.ck)) := hcells 0 _ rfl
  have R1 : Hid (X.cell? ⟨g1, p * 5 + 1, none⟩ = some (.string c.cn)) := hcells 1 _ rfl
  have R2 : Hid (X.cell? ⟨g1, p * 5 + 2, none⟩ = some (.int .i64 c.ak)) := hcells 2 _ rfl
  have R3 : Hid (X.cell? ⟨g1, p * 5 + 3, none⟩ = some (.int .i64 c.an)) := hcells 3 _ rfl
  have R4 : Hid (X.cell? ⟨g1, p * 5 + 4, none⟩ = some (.string c.ax)) := hcells 4 _ rfl
  have hb1 := own_bound HOX.out
  have HB1 := hide hb1
  clear hcells hg1 hgb hb1
  generalize hn1 : (Pl.cmdsOf l).length = n1 at *
  generalize Pl.cameS c.ck = cs at *
  have qct : (cs != ct) = true := by simp [hct]
  clear hct
  have hwr : IntKind.i64.wrap ((n1 : Int) - 1) = (n1 : Int) - 1 := by rw [IntKind.wrap_i64]; omega
  refine wp_region_noPanic ?_
  refine wp_region_held_drew (S := fun W => Below X.heap.size X W) (by kernel_rfl) (below_drew' (Below.refl _ _)) (fun hHeld => ?_)
  refine wpAnyH_take (i := 0) (oi := Oper.mk (some 15) _ _ _ _ _) (v := ?_) rfl (by kernel_rfl) (by kernel_rfl) (by kernel_rfl) (fun _ _ _ h => h) (Or.inl ⟨by rfl, ?_⟩) (by assumption) ?_
  rotate_left
  · intro w0 hSw
    clear hSw
    go_simp
    all_goals (with_reducible rfl)
  simp only [Act.put, List.setIfInBounds_toArray, List.set_cons_zero, List.set_cons_succ]
  refine wpAnyH_take (i := 1) (oi := Oper.mk (some 16) _ _ _ _ _) (v := ?_) rfl (by kernel_rfl) (by kernel_rfl) (by kernel_rfl) (fun _ _ _ h => h) (Or.inl ⟨by rfl, ?_⟩) (by assumption) ?_
  rotate_left
  · intro w0 hSw
    have z0 : w0.cell? ⟨w.heap.size, 1, none⟩ = some (.int .i64 (p : Int)) := (Below.cell hSw (p := ⟨w.heap.size, 1, none⟩) HSZ.out).trans XM.out
    clear hSw
    go_simp
    all_goals (with_reducible rfl)
  simp only [Act.put, List.setIfInBounds_toArray, List.set_cons_zero, List.set_cons_succ]
  refine wpAnyH_take (i := 2) (oi := Oper.mk (some 17) _ _ _ _ _) (v := ?_) rfl (by kernel_rfl) (by kernel_rfl) (by kernel_rfl) (fun _ _ _ h => h) (Or.inl ⟨by rfl, ?_⟩) (by assumption) ?_
  rotate_left
  · intro w0 hSw
    clear hSw
    go_simp
    all_goals (with_reducible rfl)
  simp only [Act.put, List.setIfInBounds_toArray, List.set_cons_zero, List.set_cons_succ]
  refine wpAnyH_take (i := 3) (oi := Oper.mk (some 18) _ _ _ _ _) (v := ?_) rfl (by kernel_rfl) (by kernel_rfl) (by kernel_rfl) (fun _ _ _ h => h) (Or.inl ⟨by rfl, ?_⟩) (by assumption) ?_
  rotate_left
  · intro w0 hSw
    clear hSw
    go_simp
    all_goals (with_reducible rfl)
  simp only [Act.put, List.setIfInBounds_toArray, List.set_cons_zero, List.set_cons_succ]
  refine wpAnyH_take (i := 4) (oi := Oper.mk (some 19) _ _ _ _ _) (v := ?_) rfl (by kernel_rfl) (by kernel_rfl) (by kernel_rfl) (fun _ _ _ h => h) (Or.inl ⟨by rfl, ?_⟩) (by assumption) ?_
  rotate_left
  · intro w0 hSw
    clear hSw
    go_simp
    all_goals (with_reducible rfl)
  simp only [Act.put, List.setIfInBounds_toArray, List.set_cons_zero, List.set_cons_succ]
  refine wpAnyH_ready (rs := [5]) (by kernel_rfl) (by simp) ?_
  refine AllReadyH.cons (o := Oper.mk (some 20) _ _ _ _ _) rfl (fun K hK => ?_) AllReadyH.nil
  go_simp
  go_at_call 28
  refine (hin.out _).mono ?_
  rintro x0 w0 ⟨rfl, rfl⟩
  go_wp2_with fail
  refine hK.out _ _ hHeld (fun hHeld => ?_)
  clear hK K
  (try simp only [Act.put, List.setIfInBounds_toArray, List.set_cons_zero, List.set_cons_succ])
  refine wpAnyH_take (i := 6) (oi := Oper.mk (some 21) _ _ _ _ _) (v := ?_) rfl (by kernel_rfl) (by kernel_rfl) (by kernel_rfl) (fun _ _ _ h => h) (Or.inl ⟨by rfl, ?_⟩) (by assumption) ?_
  rotate_left
  · intro w0 hSw
    clear hSw
    go_simp
    all_goals (with_reducible rfl)
  simp only [Act.put, List.setIfInBounds_toArray, List.set_cons_zero, List.set_cons_succ]
  refine wpAnyH_take (i := 7) (oi := Oper.mk (some 22) _ _ _ _ _) (v := ?_) rfl (by kernel_rfl) (by kernel_rfl) (by kernel_rfl) (fun _ _ _ h => h) (Or.inl ⟨by rfl, ?_⟩) (by assumption) ?_
  rotate_left
  · intro w0 hSw
    clear hSw
    go_simp
    all_goals (with_reducible rfl)
  simp only [Act.put, List.setIfInBounds_toArray, List.set_cons_zero, List.set_cons_succ]
  refine wpAnyH_take (i := 8) (oi := Oper.mk (some 23) _ _ _ _ _) (v := ?_) rfl (by kernel_rfl) (by kernel_rfl) (by kernel_rfl) (fun _ _ _ h => h) (Or.inl ⟨by rfl, ?_⟩) (by assumption) ?_
  rotate_left
  · intro w0 hSw
    clear hSw
    go_simp
    all_goals (with_reducible rfl)
  simp only [Act.put, List.setIfInBounds_toArray, List.set_cons_zero, List.set_cons_succ]
  refine wpAnyH_take (i := 9) (oi := Oper.mk (some 24) _ _ _ _ _) (v := ?_) rfl (by kernel_rfl) (by kernel_rfl) (by kernel_rfl) (fun _ _ _ h => h) (Or.inl ⟨by rfl, ?_⟩) (by assumption) ?_
  rotate_left
  · intro w0 hSw
    clear hSw
    go_simp
    all_goals (with_reducible rfl)
  simp only [Act.put, List.setIfInBounds_toArray, List.set_cons_zero, List.set_cons_succ]
  refine wpAnyH_take (i := 10) (oi := Oper.mk (some 25) _ _ _ _ _) (v := ?_) rfl (by kernel_rfl) (by kernel_rfl) (by kernel_rfl) (fun _ _ _ h => h) (Or.inl ⟨by rfl, ?_⟩) (by assumption) ?_
  rotate_left
  · intro w0 hSw
    have z0 : w0.cell? ⟨w.heap.size, 1, none⟩ = some (.int .i64 (p : Int)) := (Below.cell hSw (p := ⟨w.heap.size, 1, none⟩) HSZ.out).trans XM.out
    clear hSw
    go_simp
    all_goals (with_reducible rfl)
  simp only [Act.put, List.setIfInBounds_toArray, List.set_cons_zero, List.set_cons_succ]
  refine wpAnyH_take (i := 11) (oi := Oper.mk (some 26) _ _ _ _ _) (v := ?_) rfl (by kernel_rfl) (by kernel_rfl) (by kernel_rfl) (fun _ _ _ h => h) (Or.inl ⟨by rfl, ?_⟩) (by assumption) ?_
  rotate_left
  · intro w0 hSw
    clear hSw
    go_simp
    all_goals (with_reducible rfl)
  simp only [Act.put, List.setIfInBounds_toArray, List.set_cons_zero, List.set_cons_succ]
  refine wpAnyH_take (i := 12) (oi := Oper.mk (some 27) _ _ _ _ _) (v := ?_) rfl (by kernel_rfl) (by kernel_rfl) (by kernel_rfl) (fun _ _ _ h => h) (Or.inl ⟨by rfl, ?_⟩) (by assumption) ?_
  rotate_left
  · intro w0 hSw
    have z0 : w0.cell? ⟨g1, p * 5, none⟩ = some (.int .i64 c.ck) := (Below.cell hSw (p := ⟨g1, p * 5, none⟩) HG1.out).trans R0.out
    have z1 : w0.cell? ⟨g1, p * 5 + 1, none⟩ = some (.string c.cn) := (Below.cell hSw (p := ⟨g1, p * 5 + 1, none⟩) HG1.out).trans R1.out
    have z2 : w0.cell? ⟨g1, p * 5 + 2, none⟩ = some (.int .i64 c.ak) := (Below.cell hSw (p := ⟨g1, p * 5 + 2, none⟩) HG1.out).trans R2.out
    have z3 : w0.cell? ⟨g1, p * 5 + 3, none⟩ = some (.int .i64 c.an) := (Below.cell hSw (p := ⟨g1, p * 5 + 3, none⟩) HG1.out).trans R3.out
    have z4 : w0.cell? ⟨g1, p * 5 + 4, none⟩ = some (.string c.ax) := (Below.cell hSw (p := ⟨g1, p * 5 + 4, none⟩) HG1.out).trans R4.out
    clear hSw
    go_simp
    all_goals (with_reducible rfl)
  simp only [Act.put, List.setIfInBounds_toArray, List.set_cons_zero, List.set_cons_succ]
  refine wpAnyH_ready (rs := [13]) (by kernel_rfl) (by simp) ?_
  refine AllReadyH.cons (o := Oper.mk (some 28) _ _ _ _ _) rfl (fun K hK => ?_) AllReadyH.nil
  go_simp
  go_at_call 49
  refine (hend.out _).mono ?_
  rintro x0 w0 ⟨rfl, hB0⟩
  have hHeld' := Below.trans hHeld (hB0.mono hHeld.size)
  clear hB0 hHeld
  go_wp2_with fail
  refine hK.out _ _ hHeld' (fun hHeld => ?_)
  clear hK K hHeld'
  (try simp only [Act.put, List.setIfInBounds_toArray, List.set_cons_zero, List.set_cons_succ])
  refine wpAnyH_take (i := 14) (oi := Oper.mk (some 29) _ _ _ _ _) (v := ?_) rfl (by kernel_rfl) (by kernel_rfl) (by kernel_rfl) (fun _ _ _ h => h) (Or.inl ⟨by rfl, ?_⟩) (by assumption) ?_
  rotate_left
  · intro w0 hSw
    clear hSw
    go_simp
    all_goals (with_reducible rfl)
  simp only [Act.put, List.setIfInBounds_toArray, List.set_cons_zero, List.set_cons_succ]
  refine wpAnyH_take (i := 15) (oi := Oper.mk (some 30) _ _ _ _ _) (v := ?_) rfl (by kernel_rfl) (by kernel_rfl) (by kernel_rfl) (fun _ _ _ h => h) (Or.inl ⟨by rfl, ?_⟩) (by assumption) ?_
  rotate_left
  · intro w0 hSw
    clear hSw
    go_simp
    all_goals (with_reducible rfl)
  simp only [Act.put, List.setIfInBounds_toArray, List.set_cons_zero, List.set_cons_succ]
  refine wpAnyH_take (i := 16) (oi := Oper.mk (some 31) _ _ _ _ _) (v := ?_) rfl (by kernel_rfl) (by kernel_rfl) (by kernel_rfl) (fun _ _ _ h => h) (Or.inl ⟨by rfl, ?_⟩) (by assumption) ?_
  rotate_left
  · intro w0 hSw
    clear hSw
    go_simp
    all_goals (with_reducible rfl)
  simp only [Act.put, List.setIfInBounds_toArray, List.set_cons_zero, List.set_cons_succ]
  refine wpAnyH_take (i := 17) (oi := Oper.mk (some 32) _ _ _ _ _) (v := ?_) rfl (by kernel_rfl) (by kernel_rfl) (by kernel_rfl) (fun _ _ _ h => h) (Or.inl ⟨by rfl, ?_⟩) (by assumption) ?_
  rotate_left
  · intro w0 hSw
    clear hSw
    go_simp
    all_goals (with_reducible rfl)
  simp only [Act.put, List.setIfInBounds_toArray, List.set_cons_zero, List.set_cons_succ]
  refine wpAnyH_take (i := 18) (oi := Oper.mk (some 33) _ _ _ _ _) (v := ?_) rfl (by kernel_rfl) (by kernel_rfl) (by kernel_rfl) (fun _ _ _ h => h) (Or.inl ⟨by rfl, ?_⟩) (by assumption) ?_
  rotate_left
  · intro w0 hSw
    have z0 : w0.cell? ⟨w.heap.size, 1, none⟩ = some (.int .i64 (p : Int)) := (Below.cell hSw (p := ⟨w.heap.size, 1, none⟩) HSZ.out).trans XM.out
    clear hSw
    go_simp
    all_goals (with_reducible rfl)
  simp only [Act.put, List.setIfInBounds_toArray, List.set_cons_zero, List.set_cons_succ]
  refine wpAnyH_take (i := 19) (oi := Oper.mk (some 34) _ _ _ _ _) (v := ?_) rfl (by kernel_rfl) (by kernel_rfl) (by kernel_rfl) (fun _ _ _ h => h) (Or.inl ⟨by rfl, ?_⟩) (by assumption) ?_
  rotate_left
  · intro w0 hSw
    clear hSw
    go_simp
    all_goals (with_reducible rfl)
  simp only [Act.put, List.setIfInBounds_toArray, List.set_cons_zero, List.set_cons_succ]
  refine wpAnyH_take (i := 20) (oi := Oper.mk (some 35) _ _ _ _ _) (v := ?_) rfl (by kernel_rfl) (by kernel_rfl) (by kernel_rfl) (fun _ _ _ h => h) (Or.inl ⟨by rfl, ?_⟩) (by assumption) ?_
  rotate_left
  · intro w0 hSw
    clear hSw
    go_simp
    all_goals (with_reducible rfl)
  simp only [Act.put, List.setIfInBounds_toArray, List.set_cons_zero, List.set_cons_succ]
  refine wpAnyH_take (i := 21) (oi := Oper.mk (some 36) _ _ _ _ _) (v := ?_) rfl (by kernel_rfl) (by kernel_rfl) (by kernel_rfl) (fun _ _ _ h => h) (Or.inl ⟨by rfl, ?_⟩) (by assumption) ?_
  rotate_left
  · intro w0 hSw
    have z0 : w0.cell? ⟨g1, p * 5, none⟩ = some (.int .i64 c.ck) := (Below.cell hSw (p := ⟨g1, p * 5, none⟩) HG1.out).trans R0.out
    clear hSw
    go_simp
    all_goals (with_reducible rfl)
  simp only [Act.put, List.setIfInBounds_toArray, List.set_cons_zero, List.set_cons_succ]
  refine wpAnyH_take (i := 23) (oi := Oper.mk (some 38) _ _ _ _ _) (v := ?_) rfl (by kernel_rfl) (by kernel_rfl) (by kernel_rfl) (fun _ _ _ h => h) (Or.inl ⟨by rfl, ?_⟩) (by assumption) ?_
  rotate_left
  · intro w0 hSw
    clear hSw
    go_simp
    all_goals (with_reducible rfl)
  simp only [Act.put, List.setIfInBounds_toArray, List.set_cons_zero, List.set_cons_succ]
  refine wpAnyH_take (i := 24) (oi := Oper.mk (some 39) _ _ _ _ _) (v := ?_) rfl (by kernel_rfl) (by kernel_rfl) (by kernel_rfl) (fun _ _ _ h => h) (Or.inl ⟨by rfl, ?_⟩) (by assumption) ?_
  rotate_left
  · intro w0 hSw
    have z0 : w0.cell? ⟨w.heap.size, 0, none⟩ = some (.int .i64 ct) := (Below.cell hSw (p := ⟨w.heap.size, 0, none⟩) HSZ.out).trans XC.out
    clear hSw
    go_simp
    all_goals (with_reducible rfl)
  simp only [Act.put, List.setIfInBounds_toArray, List.set_cons_zero, List.set_cons_succ]
  refine wpAnyH_ready (rs := [22]) (by kernel_rfl) (by simp) ?_
  refine AllReadyH.cons (o := Oper.mk (some 37) _ _ _ _ _) rfl (fun K hK => ?_) AllReadyH.nil
  go_simp
  go_at_call 60
  refine (hcm.out _).mono ?_
  rintro x0 w0 ⟨rfl, rfl⟩
  go_wp2_with fail
  refine hK.out _ _ hHeld (fun hHeld => ?_)
  clear hK K
  (try simp only [Act.put, List.setIfInBounds_toArray, List.set_cons_zero, List.set_cons_succ])
  refine wpAnyH_take (i := 25) (oi := Oper.mk (some 40) _ _ _ _ _) (v := ?_) rfl (by kernel_rfl) (by kernel_rfl) (by kernel_rfl) (fun _ _ _ h => h) (Or.inl ⟨by rfl, ?_⟩) (by assumption) ?_
  rotate_left
  · intro w0 hSw
    clear hSw
    go_simp
    all_goals (with_reducible rfl)
  simp only [Act.put, List.setIfInBounds_toArray, List.set_cons_zero, List.set_cons_succ]
  refine wpAnyH_take (i := 26) (oi := Oper.mk (some 41) _ _ _ _ _) (v := ?_) rfl (by kernel_rfl) (by kernel_rfl) (by kernel_rfl) (fun _ _ _ h => h) (Or.inl ⟨by rfl, ?_⟩) (by assumption) ?_
  rotate_left
  · intro w0 hSw
    clear hSw
    go_simp
    all_goals (with_reducible rfl)
  simp only [Act.put, List.setIfInBounds_toArray, List.set_cons_zero, List.set_cons_succ]
  refine wpAnyH_done (by kernel_rfl) ?_ _
  refine NoPanic.normal ?_
  go_wp2_with fail
  go_ret
  exact ⟨rfl, HBX.out.trans (hHeld.mono HBX.out.size)⟩
set_option maxRecDepth 100000 in
set_option maxHeartbeats 3200000 in
theorem l5May_free (l : List Ev) (hN : l.length ≤ 1048576) (v : Value) (ct : Int) (p : Nat) (mn : ByteArray) (mo : Bool) (wk wn : Int) (wt : ByteArray) (w : World) (hr : EvRow w l v) (h4 : ¬ ct = 4) (c : Ev) (hcc : (Pl.cmdsOf l)[p]? = some c) (hen : Pl.endK c.ck = false) (hct : Pl.cameS c.ck = ct) :
    Calls Try.prog 50 #[v, cameV ct p mn mo wk wn wt] w fun x w' => x = .returned (.bool (Pl.freeB l (p : Int))) ∧ Below w.heap.size w w' := by
  have HRW := hide hr
  obtain ⟨ad, cap, rfl, hc, hmx, hx⟩ := hr
  unfold maxLen at hmx
  clear hx
  have hcl := hide (fun W hW => l5Cmds_any l hN (.slice ad l.length cap) W hW)
  have hcs := hide (fun W hW => l5Comes_any l hN (.slice ad l.length cap) W hW)
  have hpl : p < (Pl.cmdsOf l).length := (List.getElem?_eq_some_iff.1 hcc).1
  have hlen : (Pl.cmdsOf l).length ≤ l.length := by unfold Pl.cmdsOf; exact List.length_filter_le _ _
  have hin : Hid (∀ W : World, Calls Try.prog 28 #[.int .i64 (p : Int), .int .i64 0, .int .i64 (((Pl.cmdsOf l).length : Int) - 1)] W fun e w' => e = .returned (.bool true) ∧ w' = W) := fun W => by
    have := in_any (p : Int) 0 (((Pl.cmdsOf l).length : Int) - 1) W
    rwa [show (decide ((0 : Int) ≤ (p : Int)) && decide ((p : Int) ≤ ((Pl.cmdsOf l).length : Int) - 1)) = true by simp; omega] at this
  have hend := hide (fun W => l5Ends_any c.ck c.cn c.ak c.an c.ax W)
  rw [hen] at hend
  have hcm := hide (fun W => l4Came_any c.ck W)
  have q4 : (ct == 4) = false := by simp [h4]
  have hpi : (p : Int) < ((Pl.cmdsOf l).length : Int) := by omega
  have HCC := hide hcc
  clear hen h4 hcc
  go_enter Try.func50, Try.ntmps50
  go_wp2_with fail
  refine (hcl.out _ (HRW.out.later ((Below.refl _ _).alloc (Nat.le_refl _) _))).mono ?_
  rintro x1 Y ⟨v1, rfl, ho1, hB1⟩
  obtain ⟨hsz, y0, y1⟩ := seven_box hB1
  have HBY := hide (below_box1 hB1)
  have HO1 := hide ho1
  obtain ⟨a1, c1, hv1⟩ := ownsRow_form ho1
  subst hv1
  clear hB1 ho1
  go_wp2_with fail
  refine (hcs.out _ (HRW.out.later HBY.out)).mono ?_
  rintro x2 X ⟨v2, rfl, ho2, hB2⟩
  have XC := hide ((hB2.cell (p := ⟨w.heap.size, 0, none⟩) hsz).trans y0)
  have XM := hide ((hB2.cell (p := ⟨w.heap.size, 1, none⟩) hsz).trans y1)
  have HSZ : Hid (w.heap.size < X.heap.size) := by show _ < _; have := hB2.size; omega
  have HOX := hide (ownsRow_later HO1.out hB2)
  have HO2 := hide ho2
  have HBX : Hid (Below w.heap.size w X) := HBY.out.trans (hB2.mono HBY.out.size)
  obtain ⟨a2, c2, hv2⟩ := ownsRow_form ho2
  subst hv2
  clear hB2 ho2 hsz y0 y1 HO1 HBY
  go_wp2_with fail
  obtain ⟨g1, ha1, hgb, hg1, hcells⟩ := own_cells (f := cmL) (size := 5) (fun _ => rfl) HOX.out HCC.out
  subst ha1
  have HG1 := hide hg1
  have R0 : Hid (X.cell? ⟨g1, p * 5, none⟩ = some (.int .i64 c.ck)) := hcells 0 _ rfl
  have R1 : Hid (X.cell? ⟨g1, p * 5 + 1, none⟩ = some (.string c.cn)) := hcells 1 _ rfl
  have R2 : Hid (X.cell? ⟨g1, p * 5 + 2, none⟩ = some (.int .i64 c.ak)) := hcells 2 _ rfl
  have R3 : Hid (X.cell? ⟨g1, p * 5 + 3, none⟩ = some (.int .i64 c.an)) := hcells 3 _ rfl
  have R4 : Hid (X.cell? ⟨g1, p * 5 + 4, none⟩ = some (.string c.ax)) := hcells 4 _ rfl
  have hb1 := own_bound HOX.out
  have HB1 := hide hb1
  clear hcells hg1 hgb hb1
  generalize hn1 : (Pl.cmdsOf l).length = n1 at *
  generalize Pl.cameS c.ck = cs at *
  have qct : (cs != ct) = false := by simp [hct]
  clear hct
  have hwr : IntKind.i64.wrap ((n1 : Int) - 1) = (n1 : Int) - 1 := by rw [IntKind.wrap_i64]; omega
  refine wp_region_noPanic ?_
  refine wp_region_held_drew (S := fun W => Below X.heap.size X W) (by kernel_rfl) (below_drew' (Below.refl _ _)) (fun hHeld => ?_)
  refine wpAnyH_take (i := 0) (oi := Oper.mk (some 15) _ _ _ _ _) (v := ?_) rfl (by kernel_rfl) (by kernel_rfl) (by kernel_rfl) (fun _ _ _ h => h) (Or.inl ⟨by rfl, ?_⟩) (by assumption) ?_
  rotate_left
  · intro w0 hSw
    clear hSw
    go_simp
    all_goals (with_reducible rfl)
  simp only [Act.put, List.setIfInBounds_toArray, List.set_cons_zero, List.set_cons_succ]
  refine wpAnyH_take (i := 1) (oi := Oper.mk (some 16) _ _ _ _ _) (v := ?_) rfl (by kernel_rfl) (by kernel_rfl) (by kernel_rfl) (fun _ _ _ h => h) (Or.inl ⟨by rfl, ?_⟩) (by assumption) ?_
  rotate_left
  · intro w0 hSw
    have z0 : w0.cell? ⟨w.heap.size, 1, none⟩ = some (.int .i64 (p : Int)) := (Below.cell hSw (p := ⟨w.heap.size, 1, none⟩) HSZ.out).trans XM.out
    clear hSw
    go_simp
    all_goals (with_reducible rfl)
  simp only [Act.put, List.setIfInBounds_toArray, List.set_cons_zero, List.set_cons_succ]
  refine wpAnyH_take (i := 2) (oi := Oper.mk (some 17) _ _ _ _ _) (v := ?_) rfl (by kernel_rfl) (by kernel_rfl) (by kernel_rfl) (fun _ _ _ h => h) (Or.inl ⟨by rfl, ?_⟩) (by assumption) ?_
  rotate_left
  · intro w0 hSw
    clear hSw
    go_simp
    all_goals (with_reducible rfl)
  simp only [Act.put, List.setIfInBounds_toArray, List.set_cons_zero, List.set_cons_succ]
  refine wpAnyH_take (i := 3) (oi := Oper.mk (some 18) _ _ _ _ _) (v := ?_) rfl (by kernel_rfl) (by kernel_rfl) (by kernel_rfl) (fun _ _ _ h => h) (Or.inl ⟨by rfl, ?_⟩) (by assumption) ?_
  rotate_left
  · intro w0 hSw
    clear hSw
    go_simp
    all_goals (with_reducible rfl)
  simp only [Act.put, List.setIfInBounds_toArray, List.set_cons_zero, List.set_cons_succ]
  refine wpAnyH_take (i := 4) (oi := Oper.mk (some 19) _ _ _ _ _) (v := ?_) rfl (by kernel_rfl) (by kernel_rfl) (by kernel_rfl) (fun _ _ _ h => h) (Or.inl ⟨by rfl, ?_⟩) (by assumption) ?_
  rotate_left
  · intro w0 hSw
    clear hSw
    go_simp
    all_goals (with_reducible rfl)
  simp only [Act.put, List.setIfInBounds_toArray, List.set_cons_zero, List.set_cons_succ]
  refine wpAnyH_ready (rs := [5]) (by kernel_rfl) (by simp) ?_
  refine AllReadyH.cons (o := Oper.mk (some 20) _ _ _ _ _) rfl (fun K hK => ?_) AllReadyH.nil
  go_simp
  go_at_call 28
  refine (hin.out _).mono ?_
  rintro x0 w0 ⟨rfl, rfl⟩
  go_wp2_with fail
  refine hK.out _ _ hHeld (fun hHeld => ?_)
  clear hK K
  (try simp only [Act.put, List.setIfInBounds_toArray, List.set_cons_zero, List.set_cons_succ])
  refine wpAnyH_take (i := 6) (oi := Oper.mk (some 21) _ _ _ _ _) (v := ?_) rfl (by kernel_rfl) (by kernel_rfl) (by kernel_rfl) (fun _ _ _ h => h) (Or.inl ⟨by rfl, ?_⟩) (by assumption) ?_
  rotate_left
  · intro w0 hSw
    clear hSw
    go_simp
    all_goals (with_reducible rfl)
  simp only [Act.put, List.setIfInBounds_toArray, List.set_cons_zero, List.set_cons_succ]
  refine wpAnyH_take (i := 7) (oi := Oper.mk (some 22) _ _ _ _ _) (v := ?_) rfl (by kernel_rfl) (by kernel_rfl) (by kernel_rfl) (fun _ _ _ h => h) (Or.inl ⟨by rfl, ?_⟩) (by assumption) ?_
  rotate_left
  · intro w0 hSw
    clear hSw
    go_simp
    all_goals (with_reducible rfl)
  simp only [Act.put, List.setIfInBounds_toArray, List.set_cons_zero, List.set_cons_succ]
  refine wpAnyH_take (i := 8) (oi := Oper.mk (some 23) _ _ _ _ _) (v := ?_) rfl (by kernel_rfl) (by kernel_rfl) (by kernel_rfl) (fun _ _ _ h => h) (Or.inl ⟨by rfl, ?_⟩) (by assumption) ?_
  rotate_left
  · intro w0 hSw
    clear hSw
    go_simp
    all_goals (with_reducible rfl)
  simp only [Act.put, List.setIfInBounds_toArray, List.set_cons_zero, List.set_cons_succ]
  refine wpAnyH_take (i := 9) (oi := Oper.mk (some 24) _ _ _ _ _) (v := ?_) rfl (by kernel_rfl) (by kernel_rfl) (by kernel_rfl) (fun _ _ _ h => h) (Or.inl ⟨by rfl, ?_⟩) (by assumption) ?_
  rotate_left
  · intro w0 hSw
    clear hSw
    go_simp
    all_goals (with_reducible rfl)
  simp only [Act.put, List.setIfInBounds_toArray, List.set_cons_zero, List.set_cons_succ]
  refine wpAnyH_take (i := 10) (oi := Oper.mk (some 25) _ _ _ _ _) (v := ?_) rfl (by kernel_rfl) (by kernel_rfl) (by kernel_rfl) (fun _ _ _ h => h) (Or.inl ⟨by rfl, ?_⟩) (by assumption) ?_
  rotate_left
  · intro w0 hSw
    have z0 : w0.cell? ⟨w.heap.size, 1, none⟩ = some (.int .i64 (p : Int)) := (Below.cell hSw (p := ⟨w.heap.size, 1, none⟩) HSZ.out).trans XM.out
    clear hSw
    go_simp
    all_goals (with_reducible rfl)
  simp only [Act.put, List.setIfInBounds_toArray, List.set_cons_zero, List.set_cons_succ]
  refine wpAnyH_take (i := 11) (oi := Oper.mk (some 26) _ _ _ _ _) (v := ?_) rfl (by kernel_rfl) (by kernel_rfl) (by kernel_rfl) (fun _ _ _ h => h) (Or.inl ⟨by rfl, ?_⟩) (by assumption) ?_
  rotate_left
  · intro w0 hSw
    clear hSw
    go_simp
    all_goals (with_reducible rfl)
  simp only [Act.put, List.setIfInBounds_toArray, List.set_cons_zero, List.set_cons_succ]
  refine wpAnyH_take (i := 12) (oi := Oper.mk (some 27) _ _ _ _ _) (v := ?_) rfl (by kernel_rfl) (by kernel_rfl) (by kernel_rfl) (fun _ _ _ h => h) (Or.inl ⟨by rfl, ?_⟩) (by assumption) ?_
  rotate_left
  · intro w0 hSw
    have z0 : w0.cell? ⟨g1, p * 5, none⟩ = some (.int .i64 c.ck) := (Below.cell hSw (p := ⟨g1, p * 5, none⟩) HG1.out).trans R0.out
    have z1 : w0.cell? ⟨g1, p * 5 + 1, none⟩ = some (.string c.cn) := (Below.cell hSw (p := ⟨g1, p * 5 + 1, none⟩) HG1.out).trans R1.out
    have z2 : w0.cell? ⟨g1, p * 5 + 2, none⟩ = some (.int .i64 c.ak) := (Below.cell hSw (p := ⟨g1, p * 5 + 2, none⟩) HG1.out).trans R2.out
    have z3 : w0.cell? ⟨g1, p * 5 + 3, none⟩ = some (.int .i64 c.an) := (Below.cell hSw (p := ⟨g1, p * 5 + 3, none⟩) HG1.out).trans R3.out
    have z4 : w0.cell? ⟨g1, p * 5 + 4, none⟩ = some (.string c.ax) := (Below.cell hSw (p := ⟨g1, p * 5 + 4, none⟩) HG1.out).trans R4.out
    clear hSw
    go_simp
    all_goals (with_reducible rfl)
  simp only [Act.put, List.setIfInBounds_toArray, List.set_cons_zero, List.set_cons_succ]
  refine wpAnyH_ready (rs := [13]) (by kernel_rfl) (by simp) ?_
  refine AllReadyH.cons (o := Oper.mk (some 28) _ _ _ _ _) rfl (fun K hK => ?_) AllReadyH.nil
  go_simp
  go_at_call 49
  refine (hend.out _).mono ?_
  rintro x0 w0 ⟨rfl, hB0⟩
  have hHeld' := Below.trans hHeld (hB0.mono hHeld.size)
  clear hB0 hHeld
  go_wp2_with fail
  refine hK.out _ _ hHeld' (fun hHeld => ?_)
  clear hK K hHeld'
  (try simp only [Act.put, List.setIfInBounds_toArray, List.set_cons_zero, List.set_cons_succ])
  refine wpAnyH_take (i := 14) (oi := Oper.mk (some 29) _ _ _ _ _) (v := ?_) rfl (by kernel_rfl) (by kernel_rfl) (by kernel_rfl) (fun _ _ _ h => h) (Or.inl ⟨by rfl, ?_⟩) (by assumption) ?_
  rotate_left
  · intro w0 hSw
    clear hSw
    go_simp
    all_goals (with_reducible rfl)
  simp only [Act.put, List.setIfInBounds_toArray, List.set_cons_zero, List.set_cons_succ]
  refine wpAnyH_take (i := 15) (oi := Oper.mk (some 30) _ _ _ _ _) (v := ?_) rfl (by kernel_rfl) (by kernel_rfl) (by kernel_rfl) (fun _ _ _ h => h) (Or.inl ⟨by rfl, ?_⟩) (by assumption) ?_
  rotate_left
  · intro w0 hSw
    clear hSw
    go_simp
    all_goals (with_reducible rfl)
  simp only [Act.put, List.setIfInBounds_toArray, List.set_cons_zero, List.set_cons_succ]
  refine wpAnyH_take (i := 16) (oi := Oper.mk (some 31) _ _ _ _ _) (v := ?_) rfl (by kernel_rfl) (by kernel_rfl) (by kernel_rfl) (fun _ _ _ h => h) (Or.inl ⟨by rfl, ?_⟩) (by assumption) ?_
  rotate_left
  · intro w0 hSw
    clear hSw
    go_simp
    all_goals (with_reducible rfl)
  simp only [Act.put, List.setIfInBounds_toArray, List.set_cons_zero, List.set_cons_succ]
  refine wpAnyH_take (i := 17) (oi := Oper.mk (some 32) _ _ _ _ _) (v := ?_) rfl (by kernel_rfl) (by kernel_rfl) (by kernel_rfl) (fun _ _ _ h => h) (Or.inl ⟨by rfl, ?_⟩) (by assumption) ?_
  rotate_left
  · intro w0 hSw
    clear hSw
    go_simp
    all_goals (with_reducible rfl)
  simp only [Act.put, List.setIfInBounds_toArray, List.set_cons_zero, List.set_cons_succ]
  refine wpAnyH_take (i := 18) (oi := Oper.mk (some 33) _ _ _ _ _) (v := ?_) rfl (by kernel_rfl) (by kernel_rfl) (by kernel_rfl) (fun _ _ _ h => h) (Or.inl ⟨by rfl, ?_⟩) (by assumption) ?_
  rotate_left
  · intro w0 hSw
    have z0 : w0.cell? ⟨w.heap.size, 1, none⟩ = some (.int .i64 (p : Int)) := (Below.cell hSw (p := ⟨w.heap.size, 1, none⟩) HSZ.out).trans XM.out
    clear hSw
    go_simp
    all_goals (with_reducible rfl)
  simp only [Act.put, List.setIfInBounds_toArray, List.set_cons_zero, List.set_cons_succ]
  refine wpAnyH_take (i := 19) (oi := Oper.mk (some 34) _ _ _ _ _) (v := ?_) rfl (by kernel_rfl) (by kernel_rfl) (by kernel_rfl) (fun _ _ _ h => h) (Or.inl ⟨by rfl, ?_⟩) (by assumption) ?_
  rotate_left
  · intro w0 hSw
    clear hSw
    go_simp
    all_goals (with_reducible rfl)
  simp only [Act.put, List.setIfInBounds_toArray, List.set_cons_zero, List.set_cons_succ]
  refine wpAnyH_take (i := 20) (oi := Oper.mk (some 35) _ _ _ _ _) (v := ?_) rfl (by kernel_rfl) (by kernel_rfl) (by kernel_rfl) (fun _ _ _ h => h) (Or.inl ⟨by rfl, ?_⟩) (by assumption) ?_
  rotate_left
  · intro w0 hSw
    clear hSw
    go_simp
    all_goals (with_reducible rfl)
  simp only [Act.put, List.setIfInBounds_toArray, List.set_cons_zero, List.set_cons_succ]
  refine wpAnyH_take (i := 21) (oi := Oper.mk (some 36) _ _ _ _ _) (v := ?_) rfl (by kernel_rfl) (by kernel_rfl) (by kernel_rfl) (fun _ _ _ h => h) (Or.inl ⟨by rfl, ?_⟩) (by assumption) ?_
  rotate_left
  · intro w0 hSw
    have z0 : w0.cell? ⟨g1, p * 5, none⟩ = some (.int .i64 c.ck) := (Below.cell hSw (p := ⟨g1, p * 5, none⟩) HG1.out).trans R0.out
    clear hSw
    go_simp
    all_goals (with_reducible rfl)
  simp only [Act.put, List.setIfInBounds_toArray, List.set_cons_zero, List.set_cons_succ]
  refine wpAnyH_take (i := 23) (oi := Oper.mk (some 38) _ _ _ _ _) (v := ?_) rfl (by kernel_rfl) (by kernel_rfl) (by kernel_rfl) (fun _ _ _ h => h) (Or.inl ⟨by rfl, ?_⟩) (by assumption) ?_
  rotate_left
  · intro w0 hSw
    clear hSw
    go_simp
    all_goals (with_reducible rfl)
  simp only [Act.put, List.setIfInBounds_toArray, List.set_cons_zero, List.set_cons_succ]
  refine wpAnyH_take (i := 24) (oi := Oper.mk (some 39) _ _ _ _ _) (v := ?_) rfl (by kernel_rfl) (by kernel_rfl) (by kernel_rfl) (fun _ _ _ h => h) (Or.inl ⟨by rfl, ?_⟩) (by assumption) ?_
  rotate_left
  · intro w0 hSw
    have z0 : w0.cell? ⟨w.heap.size, 0, none⟩ = some (.int .i64 ct) := (Below.cell hSw (p := ⟨w.heap.size, 0, none⟩) HSZ.out).trans XC.out
    clear hSw
    go_simp
    all_goals (with_reducible rfl)
  simp only [Act.put, List.setIfInBounds_toArray, List.set_cons_zero, List.set_cons_succ]
  refine wpAnyH_ready (rs := [22]) (by kernel_rfl) (by simp) ?_
  refine AllReadyH.cons (o := Oper.mk (some 37) _ _ _ _ _) rfl (fun K hK => ?_) AllReadyH.nil
  go_simp
  go_at_call 60
  refine (hcm.out _).mono ?_
  rintro x0 w0 ⟨rfl, rfl⟩
  go_wp2_with fail
  refine hK.out _ _ hHeld (fun hHeld => ?_)
  clear hK K
  (try simp only [Act.put, List.setIfInBounds_toArray, List.set_cons_zero, List.set_cons_succ])
  refine wpAnyH_take (i := 25) (oi := Oper.mk (some 40) _ _ _ _ _) (v := ?_) rfl (by kernel_rfl) (by kernel_rfl) (by kernel_rfl) (fun _ _ _ h => h) (Or.inl ⟨by rfl, ?_⟩) (by assumption) ?_
  rotate_left
  · intro w0 hSw
    clear hSw
    go_simp
    all_goals (with_reducible rfl)
  simp only [Act.put, List.setIfInBounds_toArray, List.set_cons_zero, List.set_cons_succ]
  refine wpAnyH_take (i := 26) (oi := Oper.mk (some 41) _ _ _ _ _) (v := ?_) rfl (by kernel_rfl) (by kernel_rfl) (by kernel_rfl) (fun _ _ _ h => h) (Or.inl ⟨by rfl, ?_⟩) (by assumption) ?_
  rotate_left
  · intro w0 hSw
    clear hSw
    go_simp
    all_goals (with_reducible rfl)
  simp only [Act.put, List.setIfInBounds_toArray, List.set_cons_zero, List.set_cons_succ]
  refine wpAnyH_done (by kernel_rfl) ?_ _
  refine NoPanic.normal ?_
  refine gen_exit (fun Y => Hid (Below X.heap.size X Y)) hHeld ?_
  intro Y0 HY0
  clear hHeld R0 R1 R2 R3 R4 hwr hin hend hcm qct q4
  have hn2 := own_bound HO2.out
  obtain ⟨_, hn2b, hn2c⟩ := hn2
  have hn2m : (Pl.comesOf l).length ≤ l.length := by unfold Pl.comesOf; exact List.length_filter_le _ _
  unfold maxLen at hn2c
  go_wp2_with fail
  go_loopw [7] (fun iv wr => ∃ i : Nat, i ≤ (Pl.comesOf l).length ∧ iv = .int .i64 i ∧ Hid (((Pl.comesOf l).take i).all (fun c => !(c.ct != 4 && c.mp == (p : Int))) = true) ∧ Hid (Below X.heap.size X wr)) (fun iv _ => (Pl.comesOf l).length - (intOf iv).toNat)
  case atStart => exact ⟨0, by omega, rfl, hide (by simp), HY0⟩
  case round =>
    obtain ⟨i, hi, rfl, HF, HR⟩ := hrel
    by_cases hlt : i < (Pl.comesOf l).length
    · obtain ⟨d, hd⟩ : ∃ d, (Pl.comesOf l)[i]? = some d := ⟨_, List.getElem?_eq_getElem hlt⟩
      obtain ⟨g2, ha2, hgb, hg2, hcells⟩ := own_cells (f := caL) (size := 7) (fun _ => rfl) HO2.out hd
      subst ha2
      have r0 : wr.cell? ⟨g2, i * 7, none⟩ = some (.int .i64 d.ct) := (Below.cell HR.out (p := ⟨g2, i * 7, none⟩) hg2).trans (hcells 0 _ rfl)
      have r1 : wr.cell? ⟨g2, i * 7 + 1, none⟩ = some (.int .i64 d.mp) := (Below.cell HR.out (p := ⟨g2, i * 7 + 1, none⟩) hg2).trans (hcells 1 _ rfl)
      have r2 : wr.cell? ⟨w.heap.size, 1, none⟩ = some (.int .i64 (p : Int)) := (Below.cell HR.out (p := ⟨w.heap.size, 1, none⟩) HSZ.out).trans XM.out
      have HS : Hid (((Pl.comesOf l).take (i + 1)).all (fun c => !(c.ct != 4 && c.mp == (p : Int))) = !(d.ct != 4 && d.mp == (p : Int))) := by
        show _ = _
        rw [List.take_add_one, hd, List.all_append, HF.out]
        simp
      have HNO : Hid ((d.ct != 4 && d.mp == (p : Int)) = true → Pl.freeB l (p : Int) = false) := fun hq => by
        unfold Pl.freeB
        rw [List.all_eq_false]
        exact ⟨d, List.mem_of_getElem? hd, by simp [hq]⟩
      have hii : (i : Int) < ((Pl.comesOf l).length : Int) := by omega
      clear hcells hgb hg2 hd
      cases q1 : (d.ct != 4)
      · go_wp2_with fail
        go_quiet (fail)
        go_wp2_with fail
        go_roundw
        case rel => exact ⟨i + 1, by omega, by go_num, by rw [HS.out, q1]; rfl, below_drewN' HR.out _⟩
        case measure => simp [intOf]; omega
      · cases q2 : (d.mp == (p : Int))
        · go_wp2_with fail
          go_quiet (fail)
          go_wp2_with fail
          go_roundw
          case rel => exact ⟨i + 1, by omega, by go_num, by rw [HS.out, q1, q2]; rfl, below_drewN' HR.out _⟩
          case measure => simp [intOf]; omega
        · have HX2 : Hid (Pl.freeB l (p : Int) = false) := HNO.out (by rw [q1, q2]; rfl)
          go_wp2_with fail
          go_quiet (fail)
          go_wp2_with fail
          go_ret
          exact ⟨by rw [HX2.out]; rfl, HBX.out.trans (Below.mono (below_drewN' HR.out _) HBX.out.size)⟩
    · have hie : i = (Pl.comesOf l).length := by omega
      have HX2 : Hid (Pl.freeB l (p : Int) = true) := by
        show _ = _
        have := HF.out
        rw [hie, List.take_length] at this
        exact this
      clear hie
      go_wp2
      go_ret
      exact ⟨by rw [HX2.out]; rfl, HBX.out.trans (HR.out.mono HBX.out.size)⟩
end Go.Proofs.Ythimglgjeibaoaa

/- Whether an event may stand behind others, as the specification asks it. -/
namespace Go.Proofs.Ythimglgjeibaoaa
open Go.RowKit
set_option linter.unusedVariables false
set_option linter.unusedSimpArgs false
set_option maxHeartbeats 800000 in
theorem l5May_four (l : List Ev) (v : Value) (mp : Int) (mn : ByteArray) (mo : Bool) (wk wn : Int) (wt : ByteArray) (w : World) :
    Calls Try.prog 50 #[v, cameV 4 mp mn mo wk wn wt] w fun x w' => x = .returned (.bool true) ∧ Below w.heap.size w w' := by
  go_enter Try.func50, Try.ntmps50
  go_wp2
  go_ret
  exact ⟨rfl, (Below.refl _ _).alloc (Nat.le_refl _) _⟩
theorem l5May_any (l : List Ev) (hN : l.length ≤ 1048576) (v : Value) (ct mp : Int) (mn : ByteArray) (mo : Bool) (wk wn : Int) (wt : ByteArray) (w : World) (hr : EvRow w l v) :
    Calls Try.prog 50 #[v, cameV ct mp mn mo wk wn wt] w fun x w' => x = .returned (.bool (Pl.mayP l ct mp)) ∧ Below w.heap.size w w' := by
  unfold Pl.mayP
  by_cases h4 : ct = 4
  · subst h4
    exact l5May_four l v mp mn mo wk wn wt w
  · rw [show (ct == 4) = false by simp [h4], Bool.false_or]
    cases hin : (decide (0 ≤ mp) && decide (mp ≤ ((Pl.cmdsOf l).length : Int) - 1))
    · rw [Bool.false_and]
      exact l5May_out l hN v ct mp mn mo wk wn wt w hr h4 hin
    · simp only [Bool.and_eq_true, decide_eq_true_eq] at hin
      rw [Bool.true_and]
      obtain ⟨p, rfl⟩ : ∃ p : Nat, mp = p := ⟨mp.toNat, by omega⟩
      have hp : p < (Pl.cmdsOf l).length := by omega
      obtain ⟨c, hc⟩ : ∃ c, (Pl.cmdsOf l)[p]? = some c := ⟨_, List.getElem?_eq_getElem hp⟩
      rw [Int.toNat_natCast, hc]
      simp only
      cases hen : Pl.endK c.ck
      · by_cases hct : Pl.cameS c.ck = ct
        · rw [show (Pl.cameS c.ck == ct) = true by simp [hct]]
          simpa using l5May_free l hN v ct p mn mo wk wn wt w hr h4 c hc hen hct
        · rw [show (Pl.cameS c.ck == ct) = false by simp [hct]]
          simpa using l5May_kind l hN v ct p mn mo wk wn wt w hr h4 c hc hen hct
      · simpa using l5May_end l hN v ct p mn mo wk wn wt w hr h4 c hc hen
/-- an event in a box, and nothing else turned -/
def BE (w : World) (e : Ev) (X : World) : Prop := X.heap[w.heap.size]? = some (.cells (evL e).toArray 46 (0, 0)) ∧ Below w.heap.size w X
theorem BE.later {w X X1 : World} {e : Ev} (h : BE w e X) (hB : Below X.heap.size X X1) : BE w e X1 := by
  have l0 := (Array.getElem?_eq_some_iff.1 h.1).1
  exact ⟨(hB.block _ l0).trans h.1, h.2.trans (hB.mono h.2.size)⟩
theorem BE.start {w : World} {e : Ev} : BE w e (w.alloc (.cells (evL e).toArray 46)) := ⟨by rw [heap_alloc_at, if_pos rfl], (Below.refl _ _).alloc (Nat.le_refl _) _⟩
theorem BE.lt {w X : World} {e : Ev} (h : BE w e X) : w.heap.size < X.heap.size := (Array.getElem?_eq_some_iff.1 h.1).1
set_option maxHeartbeats 800000 in
theorem next_nil (e : Ev) (v : Value) (w : World) (hr : EvRow w [] v) :
    Calls Try.prog 27 #[v, evV e] w fun x w' => x = .returned (.bool (Pl.nextB [] e)) ∧ Below w.heap.size w w' := by
  obtain ⟨ad, cap, rfl, hc, hmx, hx⟩ := hr
  clear hx
  have HE : Hid (Pl.nextB [] e = (e.k == 1)) := by show _ = _; simp [Pl.nextB]
  go_enter Try.func27, Try.ntmps27
  go_wp2
  go_ret
  exact ⟨by rw [HE.out]; rfl, (Below.refl _ _).alloc (Nat.le_refl _) _⟩
set_option maxRecDepth 100000 in
set_option maxHeartbeats 1600000 in
theorem next_bad (l : List Ev) (hl : l ≠ []) (hM : ManyOk l) (hN : l.length ≤ 1048576) (v : Value) (e : Ev) (w : World) (hr : EvRow w l v) (hbad : Pl.openB l = false ∨ e.k = 1 ∨ decide (0 < Pl.leftOf l) ≠ (e.k == 3)) :
    Calls Try.prog 27 #[v, evV e] w fun x w' => x = .returned (.bool (Pl.nextB l e)) ∧ Below w.heap.size w w' := by
  have HRW := hide hr
  have hlb := left_bound l hM l.length (Nat.le_refl _)
  rw [List.take_length] at hlb
  obtain ⟨ad, cap, rfl, hc, hmx, hx⟩ := hr
  unfold maxLen at hmx
  clear hx
  have hlen0 : 0 < l.length := List.length_pos_iff.2 hl
  have hleft := hide (fun W hW => l5Left_any l hM hN (.slice ad l.length cap) W hW)
  have hopen := hide (fun W hW => l5Open_any l hN (.slice ad l.length cap) W hW)
  have hz0 : ((l.length : Int) == 0) = false := by simp; omega
  have HE : Hid (Pl.nextB l e = false) := by show _ = _; unfold Pl.nextB; rw [if_neg hl, if_pos hbad]
  rw [HE.out]
  have HBAD : Hid ((!Pl.openB l || ((e.k == 1) || (decide (0 < Pl.leftOf l) != (e.k == 3)))) = true) := by
    show _ = _
    rcases hbad with h | h | h
    · simp [h]
    · simp [h]
    · have : (decide (0 < Pl.leftOf l) != (e.k == 3)) = true := by simpa using h
      simp [this]
  clear hbad hM hl
  generalize Pl.openB l = ob at *
  generalize Pl.leftOf l = lf at *
  generalize hk1 : (e.k == 1) = k1 at *
  generalize hk3 : (e.k == 3) = k3 at *
  generalize hlf : decide (0 < lf) = b2 at *
  cases ob
  · go_enter Try.func27, Try.ntmps27
    go_wp2_with fail
    refine (hleft.out _ (HRW.out.later ((Below.refl _ _).alloc (Nat.le_refl _) _))).mono ?_
    rintro x1 w1 ⟨rfl, rfl⟩
    go_wp2_with fail
    refine (hopen.out _ (HRW.out.later ((Below.refl _ _).alloc (Nat.le_refl _) _))).mono ?_
    rintro x2 X ⟨rfl, hB2⟩
    have HBE := hide (BE.start.later hB2)
    have y0 : X.cell? ⟨w.heap.size, 0, none⟩ = some (.int .i64 e.k) := cell_of_block HBE.out.1 0
    clear hB2 hopen hleft
    go_wp2_with fail
    go_ret
    exact ⟨rfl, HBE.out.2⟩
  · cases k1
    · have hmis : (b2 != k3) = true := by simpa using HBAD.out
      cases b2 <;> cases k3
      all_goals first | (exact absurd hmis (by decide)) | skip
      all_goals
        clear hmis
        go_enter Try.func27, Try.ntmps27
        go_wp2_with fail
        refine (hleft.out _ (HRW.out.later ((Below.refl _ _).alloc (Nat.le_refl _) _))).mono ?_
        rintro x1 w1 ⟨rfl, rfl⟩
        go_wp2_with fail
        refine (hopen.out _ (HRW.out.later ((Below.refl _ _).alloc (Nat.le_refl _) _))).mono ?_
        rintro x2 X ⟨rfl, hB2⟩
        have HBE := hide (BE.start.later hB2)
        have y0 : X.cell? ⟨w.heap.size, 0, none⟩ = some (.int .i64 e.k) := cell_of_block HBE.out.1 0
        clear hB2 hopen hleft
        go_wp2_with fail
        go_ret
        exact ⟨rfl, HBE.out.2⟩
    · go_enter Try.func27, Try.ntmps27
      go_wp2_with fail
      refine (hleft.out _ (HRW.out.later ((Below.refl _ _).alloc (Nat.le_refl _) _))).mono ?_
      rintro x1 w1 ⟨rfl, rfl⟩
      go_wp2_with fail
      refine (hopen.out _ (HRW.out.later ((Below.refl _ _).alloc (Nat.le_refl _) _))).mono ?_
      rintro x2 X ⟨rfl, hB2⟩
      have HBE := hide (BE.start.later hB2)
      have y0 : X.cell? ⟨w.heap.size, 0, none⟩ = some (.int .i64 e.k) := cell_of_block HBE.out.1 0
      clear hB2 hopen hleft
      go_wp2_with fail
      go_ret
      exact ⟨rfl, HBE.out.2⟩
set_option maxRecDepth 100000 in
set_option maxHeartbeats 1600000 in
theorem next_task (l : List Ev) (hl : l ≠ []) (hM : ManyOk l) (hN : l.length ≤ 1048576) (v : Value) (e : Ev) (w : World) (hr : EvRow w l v) (hgood : ¬ (Pl.openB l = false ∨ e.k = 1 ∨ decide (0 < Pl.leftOf l) ≠ (e.k == 3))) (hk : e.k = 2) (hm : 0 ≤ e.many ∧ e.many ≤ 40) :
    Calls Try.prog 27 #[v, evV e] w fun x w' => x = .returned (.bool (Pl.nextB l e)) ∧ Below w.heap.size w w' := by
  have HRW := hide hr
  have hlb := left_bound l hM l.length (Nat.le_refl _)
  rw [List.take_length] at hlb
  obtain ⟨ad, cap, rfl, hc, hmx, hx⟩ := hr
  unfold maxLen at hmx
  clear hx
  have hlen0 : 0 < l.length := List.length_pos_iff.2 hl
  have hleft := hide (fun W hW => l5Left_any l hM hN (.slice ad l.length cap) W hW)
  have hopen := hide (fun W hW => l5Open_any l hN (.slice ad l.length cap) W hW)
  have hz0 : ((l.length : Int) == 0) = false := by simp; omega
  have HE : Hid (Pl.nextB l e = (Pl.newsOf l && decide (((Pl.cmdsOf l).length : Int) + e.many ≤ 40))) := by
    show _ = _
    unfold Pl.nextB
    rw [if_neg hl, if_neg hgood]
    rw [if_pos hk]
  rw [HE.out]
  have ho : Pl.openB l = true := by
    cases hb : Pl.openB l
    · exact absurd (Or.inl hb) hgood
    · rfl
  have hk1 : (e.k == 1) = false := by
    have : ¬ e.k = 1 := fun hb => hgood (Or.inr (Or.inl hb))
    simp [this]
  have hb2 : decide (0 < Pl.leftOf l) = (e.k == 3) := Classical.byContradiction fun hb => hgood (Or.inr (Or.inr hb))
  have hnews := hide (fun W hW => l5News_any l hN (.slice ad l.length cap) W hW)
  have hcl := hide (fun W hW => l5Cmds_any l hN (.slice ad l.length cap) W hW)
  have hlc : (Pl.cmdsOf l).length ≤ l.length := by unfold Pl.cmdsOf; exact List.length_filter_le _ _
  generalize Pl.newsOf l = nw at *
  have k2 : (e.k == 2) = true := by simp [hk]
  have k3 : (e.k == 3) = false := by simp [hk]
  rw [k3] at hb2
  clear hk
  clear hgood hM hl
  rw [ho] at hopen
  clear ho
  generalize Pl.leftOf l = lf at *
  go_enter Try.func27, Try.ntmps27
  go_wp2_with fail
  refine (hleft.out _ (HRW.out.later ((Below.refl _ _).alloc (Nat.le_refl _) _))).mono ?_
  rintro x1 w1 ⟨rfl, rfl⟩
  go_wp2_with fail
  refine (hopen.out _ (HRW.out.later ((Below.refl _ _).alloc (Nat.le_refl _) _))).mono ?_
  rintro x2 X ⟨rfl, hB2⟩
  have HBE := hide (BE.start.later hB2)
  have y0 : X.cell? ⟨w.heap.size, 0, none⟩ = some (.int .i64 e.k) := cell_of_block HBE.out.1 0
  clear hB2 hopen hleft
  have YM : Hid (X.cell? ⟨w.heap.size, 4, none⟩ = some (.int .i64 e.many)) := cell_of_block HBE.out.1 4
  go_wp2_with fail
  cases nw
  · refine wp_region_noPanic ?_
    refine wp_region_held_drew (S := fun W => Below X.heap.size X W) (by kernel_rfl) (below_drew' (Below.refl _ _)) (fun hHeld => ?_)
    refine wpAnyH_take (i := 0) (oi := Oper.mk (some 34) _ _ _ _ _) (v := ?_) rfl (by kernel_rfl) (by kernel_rfl) (by kernel_rfl) (fun _ _ _ h => h) (Or.inl ⟨by rfl, ?_⟩) (by assumption) ?_
    rotate_left
    · intro w0 hSw
      clear hSw
      go_simp
      all_goals (with_reducible rfl)
    simp only [Act.put, List.setIfInBounds_toArray, List.set_cons_zero, List.set_cons_succ]
    refine wpAnyH_ready (rs := [1]) (by kernel_rfl) (by simp) ?_
    refine AllReadyH.cons (o := Oper.mk (some 35) _ _ _ _ _) rfl (fun K hK => ?_) AllReadyH.nil
    go_simp
    go_at_call 47
    refine (hnews.out _ (HRW.out.later (HBE.out.2.trans (hHeld.mono HBE.out.2.size)))).mono ?_
    rintro x0 w0 ⟨rfl, rfl⟩
    go_wp2_with fail
    refine hK.out _ _ hHeld (fun hHeld => ?_)
    clear hK K
    (try simp only [Act.put, List.setIfInBounds_toArray, List.set_cons_zero, List.set_cons_succ])
    refine wpAnyH_take (i := 2) (oi := Oper.mk (some 36) _ _ _ _ _) (v := ?_) rfl (by kernel_rfl) (by kernel_rfl) (by kernel_rfl) (fun _ _ _ h => h) (Or.inl ⟨by rfl, ?_⟩) (by assumption) ?_
    rotate_left
    · intro w0 hSw
      clear hSw
      go_simp
      all_goals (with_reducible rfl)
    simp only [Act.put, List.setIfInBounds_toArray, List.set_cons_zero, List.set_cons_succ]
    refine wpAnyH_take (i := 3) (oi := Oper.mk (some 37) _ _ _ _ _) (v := undef) rfl (by kernel_rfl) (by kernel_rfl) (by kernel_rfl) (fun _ _ _ h => h) (Or.inr ⟨by rfl, rfl⟩) (by assumption) ?_
    simp only [Act.put, List.setIfInBounds_toArray, List.set_cons_zero, List.set_cons_succ]
    refine wpAnyH_take (i := 4) (oi := Oper.mk (some 38) _ _ _ _ _) (v := undef) rfl (by kernel_rfl) (by kernel_rfl) (by kernel_rfl) (fun _ _ _ h => h) (Or.inr ⟨by rfl, rfl⟩) (by assumption) ?_
    simp only [Act.put, List.setIfInBounds_toArray, List.set_cons_zero, List.set_cons_succ]
    refine wpAnyH_take (i := 5) (oi := Oper.mk (some 39) _ _ _ _ _) (v := undef) rfl (by kernel_rfl) (by kernel_rfl) (by kernel_rfl) (fun _ _ _ h => h) (Or.inr ⟨by rfl, rfl⟩) (by assumption) ?_
    simp only [Act.put, List.setIfInBounds_toArray, List.set_cons_zero, List.set_cons_succ]
    refine wpAnyH_take (i := 6) (oi := Oper.mk (some 40) _ _ _ _ _) (v := undef) rfl (by kernel_rfl) (by kernel_rfl) (by kernel_rfl) (fun _ _ _ h => h) (Or.inr ⟨by rfl, rfl⟩) (by assumption) ?_
    simp only [Act.put, List.setIfInBounds_toArray, List.set_cons_zero, List.set_cons_succ]
    refine wpAnyH_take (i := 7) (oi := Oper.mk (some 41) _ _ _ _ _) (v := undef) rfl (by kernel_rfl) (by kernel_rfl) (by kernel_rfl) (fun _ _ _ h => h) (Or.inr ⟨by rfl, rfl⟩) (by assumption) ?_
    simp only [Act.put, List.setIfInBounds_toArray, List.set_cons_zero, List.set_cons_succ]
    refine wpAnyH_take (i := 8) (oi := Oper.mk (some 42) _ _ _ _ _) (v := undef) rfl (by kernel_rfl) (by kernel_rfl) (by kernel_rfl) (fun _ _ _ h => h) (Or.inr ⟨by rfl, rfl⟩) (by assumption) ?_
    simp only [Act.put, List.setIfInBounds_toArray, List.set_cons_zero, List.set_cons_succ]
    refine wpAnyH_take (i := 9) (oi := Oper.mk (some 43) _ _ _ _ _) (v := undef) rfl (by kernel_rfl) (by kernel_rfl) (by kernel_rfl) (fun _ _ _ h => h) (Or.inr ⟨by rfl, rfl⟩) (by assumption) ?_
    simp only [Act.put, List.setIfInBounds_toArray, List.set_cons_zero, List.set_cons_succ]
    refine wpAnyH_take (i := 10) (oi := Oper.mk (some 44) _ _ _ _ _) (v := ?_) rfl (by kernel_rfl) (by kernel_rfl) (by kernel_rfl) (fun _ _ _ h => h) (Or.inl ⟨by rfl, ?_⟩) (by assumption) ?_
    rotate_left
    · intro w0 hSw
      clear hSw
      go_simp
      all_goals (with_reducible rfl)
    simp only [Act.put, List.setIfInBounds_toArray, List.set_cons_zero, List.set_cons_succ]
    refine wpAnyH_take (i := 11) (oi := Oper.mk (some 4) _ _ _ _ _) (v := ?_) rfl (by kernel_rfl) (by kernel_rfl) (by kernel_rfl) (fun _ _ _ h => h) (Or.inl ⟨by rfl, ?_⟩) (by assumption) ?_
    rotate_left
    · intro w0 hSw
      clear hSw
      go_simp
      all_goals (with_reducible rfl)
    simp only [Act.put, List.setIfInBounds_toArray, List.set_cons_zero, List.set_cons_succ]
    refine wpAnyH_done (by kernel_rfl) ?_ _
    refine NoPanic.normal ?_
    go_wp2_with fail
    go_ret
    exact ⟨rfl, HBE.out.2.trans (hHeld.mono HBE.out.2.size)⟩
  · have hwr : IntKind.i64.wrap (((Pl.cmdsOf l).length : Int) + e.many) = ((Pl.cmdsOf l).length : Int) + e.many := by rw [IntKind.wrap_i64]; omega
    refine wp_region_noPanic ?_
    refine wp_region_held_drew (S := fun W => Below X.heap.size X W) (by kernel_rfl) (below_drew' (Below.refl _ _)) (fun hHeld => ?_)
    refine wpAnyH_take (i := 0) (oi := Oper.mk (some 34) _ _ _ _ _) (v := ?_) rfl (by kernel_rfl) (by kernel_rfl) (by kernel_rfl) (fun _ _ _ h => h) (Or.inl ⟨by rfl, ?_⟩) (by assumption) ?_
    rotate_left
    · intro w0 hSw
      clear hSw
      go_simp
      all_goals (with_reducible rfl)
    simp only [Act.put, List.setIfInBounds_toArray, List.set_cons_zero, List.set_cons_succ]
    refine wpAnyH_ready (rs := [1]) (by kernel_rfl) (by simp) ?_
    refine AllReadyH.cons (o := Oper.mk (some 35) _ _ _ _ _) rfl (fun K hK => ?_) AllReadyH.nil
    go_simp
    go_at_call 47
    refine (hnews.out _ (HRW.out.later (HBE.out.2.trans (hHeld.mono HBE.out.2.size)))).mono ?_
    rintro x0 w0 ⟨rfl, rfl⟩
    go_wp2_with fail
    refine hK.out _ _ hHeld (fun hHeld => ?_)
    clear hK K
    (try simp only [Act.put, List.setIfInBounds_toArray, List.set_cons_zero, List.set_cons_succ])
    refine wpAnyH_take (i := 2) (oi := Oper.mk (some 36) _ _ _ _ _) (v := ?_) rfl (by kernel_rfl) (by kernel_rfl) (by kernel_rfl) (fun _ _ _ h => h) (Or.inl ⟨by rfl, ?_⟩) (by assumption) ?_
    rotate_left
    · intro w0 hSw
      clear hSw
      go_simp
      all_goals (with_reducible rfl)
    simp only [Act.put, List.setIfInBounds_toArray, List.set_cons_zero, List.set_cons_succ]
    refine wpAnyH_take (i := 3) (oi := Oper.mk (some 37) _ _ _ _ _) (v := ?_) rfl (by kernel_rfl) (by kernel_rfl) (by kernel_rfl) (fun _ _ _ h => h) (Or.inl ⟨by rfl, ?_⟩) (by assumption) ?_
    rotate_left
    · intro w0 hSw
      clear hSw
      go_simp
      all_goals (with_reducible rfl)
    simp only [Act.put, List.setIfInBounds_toArray, List.set_cons_zero, List.set_cons_succ]
    refine wpAnyH_take (i := 6) (oi := Oper.mk (some 40) _ _ _ _ _) (v := ?_) rfl (by kernel_rfl) (by kernel_rfl) (by kernel_rfl) (fun _ _ _ h => h) (Or.inl ⟨by rfl, ?_⟩) (by assumption) ?_
    rotate_left
    · intro w0 hSw
      clear hSw
      go_simp
      all_goals (with_reducible rfl)
    simp only [Act.put, List.setIfInBounds_toArray, List.set_cons_zero, List.set_cons_succ]
    refine wpAnyH_take (i := 7) (oi := Oper.mk (some 41) _ _ _ _ _) (v := ?_) rfl (by kernel_rfl) (by kernel_rfl) (by kernel_rfl) (fun _ _ _ h => h) (Or.inl ⟨by rfl, ?_⟩) (by assumption) ?_
    rotate_left
    · intro w0 hSw
      have z0 : w0.cell? ⟨w.heap.size, 4, none⟩ = some (.int .i64 e.many) := (Below.cell hSw (p := ⟨w.heap.size, 4, none⟩) HBE.out.lt).trans YM.out
      clear hSw
      go_simp
      all_goals (with_reducible rfl)
    simp only [Act.put, List.setIfInBounds_toArray, List.set_cons_zero, List.set_cons_succ]
    refine wpAnyH_ready (rs := [4]) (by kernel_rfl) (by simp) ?_
    refine AllReadyH.cons (o := Oper.mk (some 38) _ _ _ _ _) rfl (fun K hK => ?_) AllReadyH.nil
    go_simp
    go_at_call 48
    refine (hcl.out _ (HRW.out.later (HBE.out.2.trans (hHeld.mono HBE.out.2.size)))).mono ?_
    rintro x0 w0 ⟨v1, rfl, ho1, hB0⟩
    have hHeld' := Below.trans hHeld (hB0.mono hHeld.size)
    obtain ⟨a1, c1, hv1⟩ := ownsRow_form ho1
    subst hv1
    clear ho1
    clear hB0 hHeld
    go_wp2_with fail
    refine hK.out _ _ hHeld' (fun hHeld => ?_)
    clear hK K hHeld'
    (try simp only [Act.put, List.setIfInBounds_toArray, List.set_cons_zero, List.set_cons_succ])
    refine wpAnyH_take (i := 5) (oi := Oper.mk (some 39) _ _ _ _ _) (v := ?_) rfl (by kernel_rfl) (by kernel_rfl) (by kernel_rfl) (fun _ _ _ h => h) (Or.inl ⟨by rfl, ?_⟩) (by assumption) ?_
    rotate_left
    · intro w0 hSw
      clear hSw
      go_simp
      all_goals (with_reducible rfl)
    simp only [Act.put, List.setIfInBounds_toArray, List.set_cons_zero, List.set_cons_succ]
    refine wpAnyH_take (i := 8) (oi := Oper.mk (some 42) _ _ _ _ _) (v := ?_) rfl (by kernel_rfl) (by kernel_rfl) (by kernel_rfl) (fun _ _ _ h => h) (Or.inl ⟨by rfl, ?_⟩) (by assumption) ?_
    rotate_left
    · intro w0 hSw
      clear hSw
      go_simp
      all_goals (with_reducible rfl)
    simp only [Act.put, List.setIfInBounds_toArray, List.set_cons_zero, List.set_cons_succ]
    refine wpAnyH_take (i := 9) (oi := Oper.mk (some 43) _ _ _ _ _) (v := ?_) rfl (by kernel_rfl) (by kernel_rfl) (by kernel_rfl) (fun _ _ _ h => h) (Or.inl ⟨by rfl, ?_⟩) (by assumption) ?_
    rotate_left
    · intro w0 hSw
      clear hSw
      go_simp
      all_goals (with_reducible rfl)
    simp only [Act.put, List.setIfInBounds_toArray, List.set_cons_zero, List.set_cons_succ]
    refine wpAnyH_take (i := 10) (oi := Oper.mk (some 44) _ _ _ _ _) (v := ?_) rfl (by kernel_rfl) (by kernel_rfl) (by kernel_rfl) (fun _ _ _ h => h) (Or.inl ⟨by rfl, ?_⟩) (by assumption) ?_
    rotate_left
    · intro w0 hSw
      clear hSw
      go_simp
      all_goals (with_reducible rfl)
    simp only [Act.put, List.setIfInBounds_toArray, List.set_cons_zero, List.set_cons_succ]
    refine wpAnyH_take (i := 11) (oi := Oper.mk (some 4) _ _ _ _ _) (v := ?_) rfl (by kernel_rfl) (by kernel_rfl) (by kernel_rfl) (fun _ _ _ h => h) (Or.inl ⟨by rfl, ?_⟩) (by assumption) ?_
    rotate_left
    · intro w0 hSw
      clear hSw
      go_simp
      all_goals (with_reducible rfl)
    simp only [Act.put, List.setIfInBounds_toArray, List.set_cons_zero, List.set_cons_succ]
    refine wpAnyH_done (by kernel_rfl) ?_ _
    refine NoPanic.normal ?_
    go_wp2_with fail
    go_ret
    exact ⟨by first | rfl | simp, HBE.out.2.trans (hHeld.mono HBE.out.2.size)⟩
set_option maxRecDepth 100000 in
set_option maxHeartbeats 1600000 in
theorem next_cmd (l : List Ev) (hl : l ≠ []) (hM : ManyOk l) (hN : l.length ≤ 1048576) (v : Value) (e : Ev) (w : World) (hr : EvRow w l v) (hgood : ¬ (Pl.openB l = false ∨ e.k = 1 ∨ decide (0 < Pl.leftOf l) ≠ (e.k == 3))) (hk : e.k = 3) :
    Calls Try.prog 27 #[v, evV e] w fun x w' => x = .returned (.bool (Pl.nextB l e)) ∧ Below w.heap.size w w' := by
  have HRW := hide hr
  have hlb := left_bound l hM l.length (Nat.le_refl _)
  rw [List.take_length] at hlb
  obtain ⟨ad, cap, rfl, hc, hmx, hx⟩ := hr
  unfold maxLen at hmx
  clear hx
  have hlen0 : 0 < l.length := List.length_pos_iff.2 hl
  have hleft := hide (fun W hW => l5Left_any l hM hN (.slice ad l.length cap) W hW)
  have hopen := hide (fun W hW => l5Open_any l hN (.slice ad l.length cap) W hW)
  have hz0 : ((l.length : Int) == 0) = false := by simp; omega
  have HE : Hid (Pl.nextB l e = (!Pl.endK e.ck || (Pl.leftOf l == 1))) := by
    show _ = _
    unfold Pl.nextB
    rw [if_neg hl, if_neg hgood]
    rw [if_neg (by omega), if_pos hk]
  rw [HE.out]
  have ho : Pl.openB l = true := by
    cases hb : Pl.openB l
    · exact absurd (Or.inl hb) hgood
    · rfl
  have hk1 : (e.k == 1) = false := by
    have : ¬ e.k = 1 := fun hb => hgood (Or.inr (Or.inl hb))
    simp [this]
  have hb2 : decide (0 < Pl.leftOf l) = (e.k == 3) := Classical.byContradiction fun hb => hgood (Or.inr (Or.inr hb))
  have hend := hide (fun W => l5Ends_any e.ck e.cn e.ak e.an e.ax W)
  generalize Pl.endK e.ck = en at *
  have k2 : (e.k == 2) = false := by simp [hk]
  have k3 : (e.k == 3) = true := by simp [hk]
  rw [k3] at hb2
  clear hk
  clear hgood hM hl
  rw [ho] at hopen
  clear ho
  generalize Pl.leftOf l = lf at *
  go_enter Try.func27, Try.ntmps27
  go_wp2_with fail
  refine (hleft.out _ (HRW.out.later ((Below.refl _ _).alloc (Nat.le_refl _) _))).mono ?_
  rintro x1 w1 ⟨rfl, rfl⟩
  go_wp2_with fail
  refine (hopen.out _ (HRW.out.later ((Below.refl _ _).alloc (Nat.le_refl _) _))).mono ?_
  rintro x2 X ⟨rfl, hB2⟩
  have HBE := hide (BE.start.later hB2)
  have y0 : X.cell? ⟨w.heap.size, 0, none⟩ = some (.int .i64 e.k) := cell_of_block HBE.out.1 0
  clear hB2 hopen hleft
  have y5 : X.cell? ⟨w.heap.size, 5, none⟩ = some (.int .i64 e.ck) := cell_of_block HBE.out.1 5
  have y6 : X.cell? ⟨w.heap.size, 6, none⟩ = some (.string e.cn) := cell_of_block HBE.out.1 6
  have y7 : X.cell? ⟨w.heap.size, 7, none⟩ = some (.int .i64 e.ak) := cell_of_block HBE.out.1 7
  have y8 : X.cell? ⟨w.heap.size, 8, none⟩ = some (.int .i64 e.an) := cell_of_block HBE.out.1 8
  have y9 : X.cell? ⟨w.heap.size, 9, none⟩ = some (.string e.ax) := cell_of_block HBE.out.1 9
  go_wp2_with fail
  refine (hend.out _).mono ?_
  rintro x3 X3 ⟨rfl, hB3⟩
  have HB3 := hide (HBE.out.later hB3)
  clear hB3 HBE y0 y5 y6 y7 y8 y9
  cases en
  all_goals
    go_wp2_with fail
    go_ret
    exact ⟨by first | rfl | simp, HB3.out.2⟩
set_option maxRecDepth 100000 in
set_option maxHeartbeats 1600000 in
theorem next_came (l : List Ev) (hl : l ≠ []) (hM : ManyOk l) (hN : l.length ≤ 1048576) (v : Value) (e : Ev) (w : World) (hr : EvRow w l v) (hgood : ¬ (Pl.openB l = false ∨ e.k = 1 ∨ decide (0 < Pl.leftOf l) ≠ (e.k == 3))) (hk : e.k = 4) :
    Calls Try.prog 27 #[v, evV e] w fun x w' => x = .returned (.bool (Pl.nextB l e)) ∧ Below w.heap.size w w' := by
  have HRW := hide hr
  have hlb := left_bound l hM l.length (Nat.le_refl _)
  rw [List.take_length] at hlb
  obtain ⟨ad, cap, rfl, hc, hmx, hx⟩ := hr
  unfold maxLen at hmx
  clear hx
  have hlen0 : 0 < l.length := List.length_pos_iff.2 hl
  have hleft := hide (fun W hW => l5Left_any l hM hN (.slice ad l.length cap) W hW)
  have hopen := hide (fun W hW => l5Open_any l hN (.slice ad l.length cap) W hW)
  have hz0 : ((l.length : Int) == 0) = false := by simp; omega
  have HE : Hid (Pl.nextB l e = (Pl.mayP l e.ct e.mp && decide (((Pl.comesOf l).length : Int) < 60))) := by
    show _ = _
    unfold Pl.nextB
    rw [if_neg hl, if_neg hgood]
    rw [if_neg (by omega), if_neg (by omega), if_pos hk, mayB_eq]
  rw [HE.out]
  have ho : Pl.openB l = true := by
    cases hb : Pl.openB l
    · exact absurd (Or.inl hb) hgood
    · rfl
  have hk1 : (e.k == 1) = false := by
    have : ¬ e.k = 1 := fun hb => hgood (Or.inr (Or.inl hb))
    simp [this]
  have hb2 : decide (0 < Pl.leftOf l) = (e.k == 3) := Classical.byContradiction fun hb => hgood (Or.inr (Or.inr hb))
  have hmay := hide (fun W hW => l5May_any l hN (.slice ad l.length cap) e.ct e.mp e.mn e.mo e.wk e.wn e.wt W hW)
  have hcs := hide (fun W hW => l5Comes_any l hN (.slice ad l.length cap) W hW)
  have hlc : (Pl.comesOf l).length ≤ l.length := by unfold Pl.comesOf; exact List.length_filter_le _ _
  generalize Pl.mayP l e.ct e.mp = mb at *
  have k2 : (e.k == 2) = false := by simp [hk]
  have k3 : (e.k == 3) = false := by simp [hk]
  have k4 : (e.k == 4) = true := by simp [hk]
  rw [k3] at hb2
  clear hk
  clear hgood hM hl
  rw [ho] at hopen
  clear ho
  generalize Pl.leftOf l = lf at *
  go_enter Try.func27, Try.ntmps27
  go_wp2_with fail
  refine (hleft.out _ (HRW.out.later ((Below.refl _ _).alloc (Nat.le_refl _) _))).mono ?_
  rintro x1 w1 ⟨rfl, rfl⟩
  go_wp2_with fail
  refine (hopen.out _ (HRW.out.later ((Below.refl _ _).alloc (Nat.le_refl _) _))).mono ?_
  rintro x2 X ⟨rfl, hB2⟩
  have HBE := hide (BE.start.later hB2)
  have y0 : X.cell? ⟨w.heap.size, 0, none⟩ = some (.int .i64 e.k) := cell_of_block HBE.out.1 0
  clear hB2 hopen hleft
  have y10 : X.cell? ⟨w.heap.size, 10, none⟩ = some (.int .i64 e.ct) := cell_of_block HBE.out.1 10
  have y11 : X.cell? ⟨w.heap.size, 11, none⟩ = some (.int .i64 e.mp) := cell_of_block HBE.out.1 11
  have y12 : X.cell? ⟨w.heap.size, 12, none⟩ = some (.string e.mn) := cell_of_block HBE.out.1 12
  have y13 : X.cell? ⟨w.heap.size, 13, none⟩ = some (.bool e.mo) := cell_of_block HBE.out.1 13
  have y14 : X.cell? ⟨w.heap.size, 14, none⟩ = some (.int .i64 e.wk) := cell_of_block HBE.out.1 14
  have y15 : X.cell? ⟨w.heap.size, 15, none⟩ = some (.int .i64 e.wn) := cell_of_block HBE.out.1 15
  have y16 : X.cell? ⟨w.heap.size, 16, none⟩ = some (.string e.wt) := cell_of_block HBE.out.1 16
  go_wp2_with fail
  refine (hmay.out _ (HRW.out.later HBE.out.2)).mono ?_
  rintro x3 X3 ⟨rfl, hB3⟩
  have HB3 := hide (HBE.out.later hB3)
  clear hB3 HBE y0 y10 y11 y12 y13 y14 y15 y16
  cases mb
  · go_wp2_with fail
    go_ret
    exact ⟨by first | rfl | simp, HB3.out.2⟩
  · go_wp2_with fail
    refine (hcs.out _ (HRW.out.later HB3.out.2)).mono ?_
    rintro x4 X4 ⟨v4, rfl, ho4, hB4⟩
    have HB4 := hide (HB3.out.later hB4)
    obtain ⟨a4, c4, hv4⟩ := ownsRow_form ho4
    subst hv4
    clear hB4 HB3 ho4
    go_wp2_with fail
    go_ret
    exact ⟨by first | rfl | simp, HB4.out.2⟩
set_option maxRecDepth 100000 in
set_option maxHeartbeats 1600000 in
theorem next_else (l : List Ev) (hl : l ≠ []) (hM : ManyOk l) (hN : l.length ≤ 1048576) (v : Value) (e : Ev) (w : World) (hr : EvRow w l v) (hgood : ¬ (Pl.openB l = false ∨ e.k = 1 ∨ decide (0 < Pl.leftOf l) ≠ (e.k == 3))) (hk : ¬ e.k = 2 ∧ ¬ e.k = 3 ∧ ¬ e.k = 4) :
    Calls Try.prog 27 #[v, evV e] w fun x w' => x = .returned (.bool (Pl.nextB l e)) ∧ Below w.heap.size w w' := by
  have HRW := hide hr
  have hlb := left_bound l hM l.length (Nat.le_refl _)
  rw [List.take_length] at hlb
  obtain ⟨ad, cap, rfl, hc, hmx, hx⟩ := hr
  unfold maxLen at hmx
  clear hx
  have hlen0 : 0 < l.length := List.length_pos_iff.2 hl
  have hleft := hide (fun W hW => l5Left_any l hM hN (.slice ad l.length cap) W hW)
  have hopen := hide (fun W hW => l5Open_any l hN (.slice ad l.length cap) W hW)
  have hz0 : ((l.length : Int) == 0) = false := by simp; omega
  have HE : Hid (Pl.nextB l e = (true)) := by
    show _ = _
    unfold Pl.nextB
    rw [if_neg hl, if_neg hgood]
    rw [if_neg hk.1, if_neg hk.2.1, if_neg hk.2.2]
  rw [HE.out]
  have ho : Pl.openB l = true := by
    cases hb : Pl.openB l
    · exact absurd (Or.inl hb) hgood
    · rfl
  have hk1 : (e.k == 1) = false := by
    have : ¬ e.k = 1 := fun hb => hgood (Or.inr (Or.inl hb))
    simp [this]
  have hb2 : decide (0 < Pl.leftOf l) = (e.k == 3) := Classical.byContradiction fun hb => hgood (Or.inr (Or.inr hb))
  have k2 : (e.k == 2) = false := by simp [hk.1]
  have k3 : (e.k == 3) = false := by simp [hk.2.1]
  have k4 : (e.k == 4) = false := by simp [hk.2.2]
  rw [k3] at hb2
  clear hk
  clear hgood hM hl
  rw [ho] at hopen
  clear ho
  generalize Pl.leftOf l = lf at *
  go_enter Try.func27, Try.ntmps27
  go_wp2_with fail
  refine (hleft.out _ (HRW.out.later ((Below.refl _ _).alloc (Nat.le_refl _) _))).mono ?_
  rintro x1 w1 ⟨rfl, rfl⟩
  go_wp2_with fail
  refine (hopen.out _ (HRW.out.later ((Below.refl _ _).alloc (Nat.le_refl _) _))).mono ?_
  rintro x2 X ⟨rfl, hB2⟩
  have HBE := hide (BE.start.later hB2)
  have y0 : X.cell? ⟨w.heap.size, 0, none⟩ = some (.int .i64 e.k) := cell_of_block HBE.out.1 0
  clear hB2 hopen hleft
  go_wp2_with fail
  go_ret
  exact ⟨rfl, HBE.out.2⟩
theorem l5Next_any (l : List Ev) (hM : ManyOk l) (hN : l.length ≤ 1048576) (v : Value) (e : Ev) (hm : e.k = 2 → 0 ≤ e.many ∧ e.many ≤ 40) (w : World) (hr : EvRow w l v) :
    Calls Try.prog 27 #[v, evV e] w fun x w' => x = .returned (.bool (Pl.nextB l e)) ∧ Below w.heap.size w w' := by
  by_cases hl : l = []
  · subst hl
    exact next_nil e v w hr
  · by_cases hbad : Pl.openB l = false ∨ e.k = 1 ∨ decide (0 < Pl.leftOf l) ≠ (e.k == 3)
    · exact next_bad l hl hM hN v e w hr hbad
    · by_cases k2 : e.k = 2
      · exact next_task l hl hM hN v e w hr hbad k2 (hm k2)
      · by_cases k3 : e.k = 3
        · exact next_cmd l hl hM hN v e w hr hbad k3
        · by_cases k4 : e.k = 4
          · exact next_came l hl hM hN v e w hr hbad k4
          · exact next_else l hl hM hN v e w hr hbad ⟨k2, k3, k4⟩
end Go.Proofs.Ythimglgjeibaoaa

/- Whether events are a history, as the specification asks it. -/
namespace Go.Proofs.Ythimglgjeibaoaa
open Go.RowKit
set_option linter.unusedVariables false
set_option linter.unusedSimpArgs false
theorem good_many {l : List Ev} {i : Nat} (h : Pl.goodTo Pl.evB l i = true) (hi : i ≤ l.length) : ManyOk (l.take i) := by
  intro e he h2
  obtain ⟨j, hj⟩ := List.mem_iff_getElem?.1 he
  rw [List.getElem?_take] at hj
  split at hj
  · rename_i hlt
    have := Pl.goodTo_mono Pl.evB l (show j + 1 ≤ i by omega) h
    rw [Pl.goodTo_succ Pl.evB l j e hj] at this
    simp only [Bool.and_eq_true] at this
    exact (evB_fit e this.2.1).1 h2
  · cases hj
set_option maxRecDepth 100000 in
set_option maxHeartbeats 3200000 in
theorem specHistOk_any (l : List Ev) (hwf : ∀ e ∈ l, e.Wf) (hN : l.length ≤ 1048576) (v : Value) (w : World) (hr : EvRow w l v) :
    Calls Try.prog 12 #[v] w fun x w' => x = .returned (.bool (Pl.histB Pl.evB l)) ∧ Below w.heap.size w w' := by
  have HRW := hide hr
  obtain ⟨ad, cap, rfl, hc, hmx, hx⟩ := hr
  unfold maxLen at hmx
  have HX := hide hx
  have HW := hide hwf
  clear hx hwf
  go_enter Try.func12, Try.ntmps12
  go_wp2_with fail
  go_loopw [3] (fun iv wr => ∃ i : Nat, i ≤ l.length ∧ iv = .int .i64 i ∧ Hid (Pl.goodTo Pl.evB l i = true) ∧ Hid (Below w.heap.size w wr)) (fun iv _ => l.length - (intOf iv).toNat)
  case atStart => exact ⟨0, by omega, rfl, Pl.goodTo_zero _ _, Below.refl _ _⟩
  case round =>
    obtain ⟨i, hi, rfl, HG, HB⟩ := hrel
    by_cases hlt : i < l.length
    · obtain ⟨g, off, rfl, hg, hs⟩ := HX.out (by omega)
      obtain ⟨e, he⟩ : ∃ e, l[i]? = some e := ⟨_, List.getElem?_eq_getElem hlt⟩
      have HAT := hide ((hs i e he).later HB.out hg)
      have HGX : Hid (g < wr.heap.size) := by show _ < _; have := HB.out.size; omega
      have hev := hide (fun W => l5Event_any e (HW.out e (List.mem_of_getElem? he)) W)
      have HS := hide (Pl.goodTo_succ Pl.evB l i e he)
      have HNO : Hid ((Pl.evB e && Pl.nextB (l.take i) e) = false → Pl.histB Pl.evB l = false) := fun hq => by
        unfold Pl.histB
        rw [Pl.goodB_not he hq]; rfl
      have hii : (i : Int) < (l.length : Int) := by omega
      have hic : (i : Int) ≤ (cap : Int) := by omega
      cases hfe : Pl.evB e
      · rw [hfe] at hev HNO
        clear hs he hfe
        go_wp2_with fail
        refine wp_region_noPanic ?_
        refine wp_region_held_drew (S := fun W => Below wr.heap.size wr W) (by kernel_rfl) (below_drew' (Below.refl _ _)) (fun hHeld => ?_)
        refine wpAnyH_take (i := 0) (oi := Oper.mk (some 10) _ _ _ _ _) (v := ?_) rfl (by kernel_rfl) (by kernel_rfl) (by kernel_rfl) (fun _ _ _ h => h) (Or.inl ⟨by rfl, ?_⟩) (by assumption) ?_
        rotate_left
        · intro w0 hSw
          clear hSw
          go_simp
          all_goals (with_reducible rfl)
        simp only [Act.put, List.setIfInBounds_toArray, List.set_cons_zero, List.set_cons_succ]
        refine wpAnyH_take (i := 1) (oi := Oper.mk (some 11) _ _ _ _ _) (v := ?_) rfl (by kernel_rfl) (by kernel_rfl) (by kernel_rfl) (fun _ _ _ h => h) (Or.inl ⟨by rfl, ?_⟩) (by assumption) ?_
        rotate_left
        · intro w0 hSw
          clear hSw
          go_simp
          all_goals (with_reducible rfl)
        simp only [Act.put, List.setIfInBounds_toArray, List.set_cons_zero, List.set_cons_succ]
        refine wpAnyH_take (i := 2) (oi := Oper.mk (some 12) _ _ _ _ _) (v := ?_) rfl (by kernel_rfl) (by kernel_rfl) (by kernel_rfl) (fun _ _ _ h => h) (Or.inl ⟨by rfl, ?_⟩) (by assumption) ?_
        rotate_left
        · intro w0 hSw
          clear hSw
          go_simp
          all_goals (with_reducible rfl)
        simp only [Act.put, List.setIfInBounds_toArray, List.set_cons_zero, List.set_cons_succ]
        refine wpAnyH_take (i := 3) (oi := Oper.mk (some 13) _ _ _ _ _) (v := evV e) rfl (by kernel_rfl) (by kernel_rfl) (by kernel_rfl) (fun _ _ _ h => h) (yieldsIf_load_mid (by rfl) 46 (.tmp 12) rfl g (off + i * 17) rfl (evL e) _ (fun W hW => HAT.out.later hW HGX.out) Try.underlying46 rfl (by rw [infoEv]; rfl)) (by assumption) ?_
        simp only [Act.put, List.setIfInBounds_toArray, List.set_cons_zero, List.set_cons_succ]
        refine wpAnyH_ready (rs := [4]) (by kernel_rfl) (by simp) ?_
        refine AllReadyH.cons (o := Oper.mk (some 14) _ _ _ _ _) rfl (fun K hK => ?_) AllReadyH.nil
        go_simp
        go_at_call 26
        refine (hev.out _).mono ?_
        rintro x0 w0 ⟨rfl, hB0⟩
        have hHeld' := Below.trans hHeld (hB0.mono hHeld.size)
        clear hB0 hHeld
        go_wp2_with fail
        refine hK.out _ _ hHeld' (fun hHeld => ?_)
        clear hK K hHeld'
        (try simp only [Act.put, List.setIfInBounds_toArray, List.set_cons_zero, List.set_cons_succ])
        refine wpAnyH_take (i := 5) (oi := Oper.mk (some 15) _ _ _ _ _) (v := ?_) rfl (by kernel_rfl) (by kernel_rfl) (by kernel_rfl) (fun _ _ _ h => h) (Or.inl ⟨by rfl, ?_⟩) (by assumption) ?_
        rotate_left
        · intro w0 hSw
          clear hSw
          go_simp
          all_goals (with_reducible rfl)
        simp only [Act.put, List.setIfInBounds_toArray, List.set_cons_zero, List.set_cons_succ]
        refine wpAnyH_take (i := 6) (oi := Oper.mk (some 16) _ _ _ _ _) (v := ?_) rfl (by kernel_rfl) (by kernel_rfl) (by kernel_rfl) (fun _ _ _ h => h) (Or.inl ⟨by rfl, ?_⟩) (by assumption) ?_
        rotate_left
        · intro w0 hSw
          clear hSw
          go_simp
          all_goals (with_reducible rfl)
        simp only [Act.put, List.setIfInBounds_toArray, List.set_cons_zero, List.set_cons_succ]
        refine wpAnyH_take (i := 7) (oi := Oper.mk (some 17) _ _ _ _ _) (v := undef) rfl (by kernel_rfl) (by kernel_rfl) (by kernel_rfl) (fun _ _ _ h => h) (Or.inr ⟨by rfl, rfl⟩) (by assumption) ?_
        simp only [Act.put, List.setIfInBounds_toArray, List.set_cons_zero, List.set_cons_succ]
        refine wpAnyH_take (i := 8) (oi := Oper.mk (some 18) _ _ _ _ _) (v := undef) rfl (by kernel_rfl) (by kernel_rfl) (by kernel_rfl) (fun _ _ _ h => h) (Or.inr ⟨by rfl, rfl⟩) (by assumption) ?_
        simp only [Act.put, List.setIfInBounds_toArray, List.set_cons_zero, List.set_cons_succ]
        refine wpAnyH_take (i := 9) (oi := Oper.mk (some 19) _ _ _ _ _) (v := undef) rfl (by kernel_rfl) (by kernel_rfl) (by kernel_rfl) (fun _ _ _ h => h) (Or.inr ⟨by rfl, rfl⟩) (by assumption) ?_
        simp only [Act.put, List.setIfInBounds_toArray, List.set_cons_zero, List.set_cons_succ]
        refine wpAnyH_take (i := 10) (oi := Oper.mk (some 20) _ _ _ _ _) (v := undef) rfl (by kernel_rfl) (by kernel_rfl) (by kernel_rfl) (fun _ _ _ h => h) (Or.inr ⟨by rfl, rfl⟩) (by assumption) ?_
        simp only [Act.put, List.setIfInBounds_toArray, List.set_cons_zero, List.set_cons_succ]
        refine wpAnyH_take (i := 11) (oi := Oper.mk (some 21) _ _ _ _ _) (v := undef) rfl (by kernel_rfl) (by kernel_rfl) (by kernel_rfl) (fun _ _ _ h => h) (Or.inr ⟨by rfl, rfl⟩) (by assumption) ?_
        simp only [Act.put, List.setIfInBounds_toArray, List.set_cons_zero, List.set_cons_succ]
        refine wpAnyH_take (i := 12) (oi := Oper.mk (some 22) _ _ _ _ _) (v := undef) rfl (by kernel_rfl) (by kernel_rfl) (by kernel_rfl) (fun _ _ _ h => h) (Or.inr ⟨by rfl, rfl⟩) (by assumption) ?_
        simp only [Act.put, List.setIfInBounds_toArray, List.set_cons_zero, List.set_cons_succ]
        refine wpAnyH_take (i := 13) (oi := Oper.mk (some 23) _ _ _ _ _) (v := undef) rfl (by kernel_rfl) (by kernel_rfl) (by kernel_rfl) (fun _ _ _ h => h) (Or.inr ⟨by rfl, rfl⟩) (by assumption) ?_
        simp only [Act.put, List.setIfInBounds_toArray, List.set_cons_zero, List.set_cons_succ]
        refine wpAnyH_take (i := 14) (oi := Oper.mk (some 24) _ _ _ _ _) (v := undef) rfl (by kernel_rfl) (by kernel_rfl) (by kernel_rfl) (fun _ _ _ h => h) (Or.inr ⟨by rfl, rfl⟩) (by assumption) ?_
        simp only [Act.put, List.setIfInBounds_toArray, List.set_cons_zero, List.set_cons_succ]
        refine wpAnyH_take (i := 15) (oi := Oper.mk (some 25) _ _ _ _ _) (v := undef) rfl (by kernel_rfl) (by kernel_rfl) (by kernel_rfl) (fun _ _ _ h => h) (Or.inr ⟨by rfl, rfl⟩) (by assumption) ?_
        simp only [Act.put, List.setIfInBounds_toArray, List.set_cons_zero, List.set_cons_succ]
        refine wpAnyH_take (i := 16) (oi := Oper.mk (some 26) _ _ _ _ _) (v := ?_) rfl (by kernel_rfl) (by kernel_rfl) (by kernel_rfl) (fun _ _ _ h => h) (Or.inl ⟨by rfl, ?_⟩) (by assumption) ?_
        rotate_left
        · intro w0 hSw
          clear hSw
          go_simp
          all_goals (with_reducible rfl)
        simp only [Act.put, List.setIfInBounds_toArray, List.set_cons_zero, List.set_cons_succ]
        refine wpAnyH_done (by kernel_rfl) ?_ _
        refine NoPanic.normal ?_
        have HE : Hid (Pl.histB Pl.evB l = false) := HNO.out rfl
        go_wp2_with fail
        go_ret
        exact ⟨by rw [HE.out]; rfl, HB.out.trans (hHeld.mono HB.out.size)⟩
      · have HTK : Hid (∀ W, Below w.heap.size w W → EvRow W (l.take i) (.slice (some ⟨g, off, none⟩) i cap)) := fun W hW => (HRW.out.later hW).take hi
        have hnx := hide (fun W hW => l5Next_any (l.take i) (good_many HG.out hi) (by rw [List.length_take]; omega) (.slice (some ⟨g, off, none⟩) i cap) e (fun h2 => (evB_fit e hfe).1 h2) W hW)
        rw [hfe] at hev HNO
        have HGN : Hid (Pl.nextB (l.take i) e = true → Pl.goodTo Pl.evB l (i + 1) = true) := fun hq => by rw [HS.out, HG.out, hfe, hq]; rfl
        clear hs he hfe
        generalize Pl.nextB (l.take i) e = nb at *
        cases nb
        · go_wp2_with fail
          refine wp_region_noPanic ?_
          refine wp_region_held_drew (S := fun W => Below wr.heap.size wr W) (by kernel_rfl) (below_drew' (Below.refl _ _)) (fun hHeld => ?_)
          refine wpAnyH_take (i := 0) (oi := Oper.mk (some 10) _ _ _ _ _) (v := ?_) rfl (by kernel_rfl) (by kernel_rfl) (by kernel_rfl) (fun _ _ _ h => h) (Or.inl ⟨by rfl, ?_⟩) (by assumption) ?_
          rotate_left
          · intro w0 hSw
            clear hSw
            go_simp
            all_goals (with_reducible rfl)
          simp only [Act.put, List.setIfInBounds_toArray, List.set_cons_zero, List.set_cons_succ]
          refine wpAnyH_take (i := 1) (oi := Oper.mk (some 11) _ _ _ _ _) (v := ?_) rfl (by kernel_rfl) (by kernel_rfl) (by kernel_rfl) (fun _ _ _ h => h) (Or.inl ⟨by rfl, ?_⟩) (by assumption) ?_
          rotate_left
          · intro w0 hSw
            clear hSw
            go_simp
            all_goals (with_reducible rfl)
          simp only [Act.put, List.setIfInBounds_toArray, List.set_cons_zero, List.set_cons_succ]
          refine wpAnyH_take (i := 2) (oi := Oper.mk (some 12) _ _ _ _ _) (v := ?_) rfl (by kernel_rfl) (by kernel_rfl) (by kernel_rfl) (fun _ _ _ h => h) (Or.inl ⟨by rfl, ?_⟩) (by assumption) ?_
          rotate_left
          · intro w0 hSw
            clear hSw
            go_simp
            all_goals (with_reducible rfl)
          simp only [Act.put, List.setIfInBounds_toArray, List.set_cons_zero, List.set_cons_succ]
          refine wpAnyH_take (i := 3) (oi := Oper.mk (some 13) _ _ _ _ _) (v := evV e) rfl (by kernel_rfl) (by kernel_rfl) (by kernel_rfl) (fun _ _ _ h => h) (yieldsIf_load_mid (by rfl) 46 (.tmp 12) rfl g (off + i * 17) rfl (evL e) _ (fun W hW => HAT.out.later hW HGX.out) Try.underlying46 rfl (by rw [infoEv]; rfl)) (by assumption) ?_
          simp only [Act.put, List.setIfInBounds_toArray, List.set_cons_zero, List.set_cons_succ]
          refine wpAnyH_ready (rs := [4]) (by kernel_rfl) (by simp) ?_
          refine AllReadyH.cons (o := Oper.mk (some 14) _ _ _ _ _) rfl (fun K hK => ?_) AllReadyH.nil
          go_simp
          go_at_call 26
          refine (hev.out _).mono ?_
          rintro x0 w0 ⟨rfl, hB0⟩
          have hHeld' := Below.trans hHeld (hB0.mono hHeld.size)
          clear hB0 hHeld
          go_wp2_with fail
          refine hK.out _ _ hHeld' (fun hHeld => ?_)
          clear hK K hHeld'
          (try simp only [Act.put, List.setIfInBounds_toArray, List.set_cons_zero, List.set_cons_succ])
          refine wpAnyH_take (i := 5) (oi := Oper.mk (some 15) _ _ _ _ _) (v := ?_) rfl (by kernel_rfl) (by kernel_rfl) (by kernel_rfl) (fun _ _ _ h => h) (Or.inl ⟨by rfl, ?_⟩) (by assumption) ?_
          rotate_left
          · intro w0 hSw
            clear hSw
            go_simp
            all_goals (with_reducible rfl)
          simp only [Act.put, List.setIfInBounds_toArray, List.set_cons_zero, List.set_cons_succ]
          refine wpAnyH_take (i := 6) (oi := Oper.mk (some 16) _ _ _ _ _) (v := ?_) rfl (by kernel_rfl) (by kernel_rfl) (by kernel_rfl) (fun _ _ _ h => h) (Or.inl ⟨by rfl, ?_⟩) (by assumption) ?_
          rotate_left
          · intro w0 hSw
            clear hSw
            go_simp
            all_goals (with_reducible rfl)
          simp only [Act.put, List.setIfInBounds_toArray, List.set_cons_zero, List.set_cons_succ]
          refine wpAnyH_take (i := 7) (oi := Oper.mk (some 17) _ _ _ _ _) (v := ?_) rfl (by kernel_rfl) (by kernel_rfl) (by kernel_rfl) (fun _ _ _ h => h) (Or.inl ⟨by rfl, ?_⟩) (by assumption) ?_
          rotate_left
          · intro w0 hSw
            clear hSw
            go_simp
            all_goals (with_reducible rfl)
          simp only [Act.put, List.setIfInBounds_toArray, List.set_cons_zero, List.set_cons_succ]
          refine wpAnyH_take (i := 8) (oi := Oper.mk (some 18) _ _ _ _ _) (v := ?_) rfl (by kernel_rfl) (by kernel_rfl) (by kernel_rfl) (fun _ _ _ h => h) (Or.inl ⟨by rfl, ?_⟩) (by assumption) ?_
          rotate_left
          · intro w0 hSw
            clear hSw
            go_simp
            all_goals (with_reducible rfl)
          simp only [Act.put, List.setIfInBounds_toArray, List.set_cons_zero, List.set_cons_succ]
          refine wpAnyH_take (i := 9) (oi := Oper.mk (some 19) _ _ _ _ _) (v := ?_) rfl (by kernel_rfl) (by kernel_rfl) (by kernel_rfl) (fun _ _ _ h => h) (Or.inl ⟨by rfl, ?_⟩) (by assumption) ?_
          rotate_left
          · intro w0 hSw
            clear hSw
            go_simp
            all_goals (with_reducible rfl)
          simp only [Act.put, List.setIfInBounds_toArray, List.set_cons_zero, List.set_cons_succ]
          refine wpAnyH_take (i := 10) (oi := Oper.mk (some 20) _ _ _ _ _) (v := ?_) rfl (by kernel_rfl) (by kernel_rfl) (by kernel_rfl) (fun _ _ _ h => h) (Or.inl ⟨by rfl, ?_⟩) (by assumption) ?_
          rotate_left
          · intro w0 hSw
            clear hSw
            go_simp
            all_goals (with_reducible rfl)
          simp only [Act.put, List.setIfInBounds_toArray, List.set_cons_zero, List.set_cons_succ]
          refine wpAnyH_take (i := 11) (oi := Oper.mk (some 21) _ _ _ _ _) (v := ?_) rfl (by kernel_rfl) (by kernel_rfl) (by kernel_rfl) (fun _ _ _ h => h) (Or.inl ⟨by rfl, ?_⟩) (by assumption) ?_
          rotate_left
          · intro w0 hSw
            clear hSw
            go_simp
            all_goals (with_reducible rfl)
          simp only [Act.put, List.setIfInBounds_toArray, List.set_cons_zero, List.set_cons_succ]
          refine wpAnyH_take (i := 12) (oi := Oper.mk (some 22) _ _ _ _ _) (v := ?_) rfl (by kernel_rfl) (by kernel_rfl) (by kernel_rfl) (fun _ _ _ h => h) (Or.inl ⟨by rfl, ?_⟩) (by assumption) ?_
          rotate_left
          · intro w0 hSw
            clear hSw
            go_simp
            all_goals (with_reducible rfl)
          simp only [Act.put, List.setIfInBounds_toArray, List.set_cons_zero, List.set_cons_succ]
          refine wpAnyH_take (i := 13) (oi := Oper.mk (some 23) _ _ _ _ _) (v := evV e) rfl (by kernel_rfl) (by kernel_rfl) (by kernel_rfl) (fun _ _ _ h => h) (yieldsIf_load_mid (by rfl) 46 (.tmp 22) rfl g (off + i * 17) rfl (evL e) _ (fun W hW => HAT.out.later hW HGX.out) Try.underlying46 rfl (by rw [infoEv]; rfl)) (by assumption) ?_
          simp only [Act.put, List.setIfInBounds_toArray, List.set_cons_zero, List.set_cons_succ]
          refine wpAnyH_ready (rs := [14]) (by kernel_rfl) (by simp) ?_
          refine AllReadyH.cons (o := Oper.mk (some 24) _ _ _ _ _) rfl (fun K hK => ?_) AllReadyH.nil
          go_simp
          go_at_call 27
          refine (hnx.out _ (HTK.out _ (HB.out.trans (hHeld.mono HB.out.size)))).mono ?_
          rintro x0 w0 ⟨rfl, hB0⟩
          have hHeld' := Below.trans hHeld (hB0.mono hHeld.size)
          clear hB0 hHeld
          go_wp2_with fail
          refine hK.out _ _ hHeld' (fun hHeld => ?_)
          clear hK K hHeld'
          (try simp only [Act.put, List.setIfInBounds_toArray, List.set_cons_zero, List.set_cons_succ])
          refine wpAnyH_take (i := 15) (oi := Oper.mk (some 25) _ _ _ _ _) (v := ?_) rfl (by kernel_rfl) (by kernel_rfl) (by kernel_rfl) (fun _ _ _ h => h) (Or.inl ⟨by rfl, ?_⟩) (by assumption) ?_
          rotate_left
          · intro w0 hSw
            clear hSw
            go_simp
            all_goals (with_reducible rfl)
          simp only [Act.put, List.setIfInBounds_toArray, List.set_cons_zero, List.set_cons_succ]
          refine wpAnyH_take (i := 16) (oi := Oper.mk (some 26) _ _ _ _ _) (v := ?_) rfl (by kernel_rfl) (by kernel_rfl) (by kernel_rfl) (fun _ _ _ h => h) (Or.inl ⟨by rfl, ?_⟩) (by assumption) ?_
          rotate_left
          · intro w0 hSw
            clear hSw
            go_simp
            all_goals (with_reducible rfl)
          simp only [Act.put, List.setIfInBounds_toArray, List.set_cons_zero, List.set_cons_succ]
          refine wpAnyH_done (by kernel_rfl) ?_ _
          refine NoPanic.normal ?_
          have HE : Hid (Pl.histB Pl.evB l = false) := HNO.out rfl
          go_wp2_with fail
          go_ret
          exact ⟨by rw [HE.out]; rfl, HB.out.trans (hHeld.mono HB.out.size)⟩
        · go_wp2_with fail
          refine wp_region_noPanic ?_
          refine wp_region_held_drew (S := fun W => Below wr.heap.size wr W) (by kernel_rfl) (below_drew' (Below.refl _ _)) (fun hHeld => ?_)
          refine wpAnyH_take (i := 0) (oi := Oper.mk (some 10) _ _ _ _ _) (v := ?_) rfl (by kernel_rfl) (by kernel_rfl) (by kernel_rfl) (fun _ _ _ h => h) (Or.inl ⟨by rfl, ?_⟩) (by assumption) ?_
          rotate_left
          · intro w0 hSw
            clear hSw
            go_simp
            all_goals (with_reducible rfl)
          simp only [Act.put, List.setIfInBounds_toArray, List.set_cons_zero, List.set_cons_succ]
          refine wpAnyH_take (i := 1) (oi := Oper.mk (some 11) _ _ _ _ _) (v := ?_) rfl (by kernel_rfl) (by kernel_rfl) (by kernel_rfl) (fun _ _ _ h => h) (Or.inl ⟨by rfl, ?_⟩) (by assumption) ?_
          rotate_left
          · intro w0 hSw
            clear hSw
            go_simp
            all_goals (with_reducible rfl)
          simp only [Act.put, List.setIfInBounds_toArray, List.set_cons_zero, List.set_cons_succ]
          refine wpAnyH_take (i := 2) (oi := Oper.mk (some 12) _ _ _ _ _) (v := ?_) rfl (by kernel_rfl) (by kernel_rfl) (by kernel_rfl) (fun _ _ _ h => h) (Or.inl ⟨by rfl, ?_⟩) (by assumption) ?_
          rotate_left
          · intro w0 hSw
            clear hSw
            go_simp
            all_goals (with_reducible rfl)
          simp only [Act.put, List.setIfInBounds_toArray, List.set_cons_zero, List.set_cons_succ]
          refine wpAnyH_take (i := 3) (oi := Oper.mk (some 13) _ _ _ _ _) (v := evV e) rfl (by kernel_rfl) (by kernel_rfl) (by kernel_rfl) (fun _ _ _ h => h) (yieldsIf_load_mid (by rfl) 46 (.tmp 12) rfl g (off + i * 17) rfl (evL e) _ (fun W hW => HAT.out.later hW HGX.out) Try.underlying46 rfl (by rw [infoEv]; rfl)) (by assumption) ?_
          simp only [Act.put, List.setIfInBounds_toArray, List.set_cons_zero, List.set_cons_succ]
          refine wpAnyH_ready (rs := [4]) (by kernel_rfl) (by simp) ?_
          refine AllReadyH.cons (o := Oper.mk (some 14) _ _ _ _ _) rfl (fun K hK => ?_) AllReadyH.nil
          go_simp
          go_at_call 26
          refine (hev.out _).mono ?_
          rintro x0 w0 ⟨rfl, hB0⟩
          have hHeld' := Below.trans hHeld (hB0.mono hHeld.size)
          clear hB0 hHeld
          go_wp2_with fail
          refine hK.out _ _ hHeld' (fun hHeld => ?_)
          clear hK K hHeld'
          (try simp only [Act.put, List.setIfInBounds_toArray, List.set_cons_zero, List.set_cons_succ])
          refine wpAnyH_take (i := 5) (oi := Oper.mk (some 15) _ _ _ _ _) (v := ?_) rfl (by kernel_rfl) (by kernel_rfl) (by kernel_rfl) (fun _ _ _ h => h) (Or.inl ⟨by rfl, ?_⟩) (by assumption) ?_
          rotate_left
          · intro w0 hSw
            clear hSw
            go_simp
            all_goals (with_reducible rfl)
          simp only [Act.put, List.setIfInBounds_toArray, List.set_cons_zero, List.set_cons_succ]
          refine wpAnyH_take (i := 6) (oi := Oper.mk (some 16) _ _ _ _ _) (v := ?_) rfl (by kernel_rfl) (by kernel_rfl) (by kernel_rfl) (fun _ _ _ h => h) (Or.inl ⟨by rfl, ?_⟩) (by assumption) ?_
          rotate_left
          · intro w0 hSw
            clear hSw
            go_simp
            all_goals (with_reducible rfl)
          simp only [Act.put, List.setIfInBounds_toArray, List.set_cons_zero, List.set_cons_succ]
          refine wpAnyH_take (i := 7) (oi := Oper.mk (some 17) _ _ _ _ _) (v := ?_) rfl (by kernel_rfl) (by kernel_rfl) (by kernel_rfl) (fun _ _ _ h => h) (Or.inl ⟨by rfl, ?_⟩) (by assumption) ?_
          rotate_left
          · intro w0 hSw
            clear hSw
            go_simp
            all_goals (with_reducible rfl)
          simp only [Act.put, List.setIfInBounds_toArray, List.set_cons_zero, List.set_cons_succ]
          refine wpAnyH_take (i := 8) (oi := Oper.mk (some 18) _ _ _ _ _) (v := ?_) rfl (by kernel_rfl) (by kernel_rfl) (by kernel_rfl) (fun _ _ _ h => h) (Or.inl ⟨by rfl, ?_⟩) (by assumption) ?_
          rotate_left
          · intro w0 hSw
            clear hSw
            go_simp
            all_goals (with_reducible rfl)
          simp only [Act.put, List.setIfInBounds_toArray, List.set_cons_zero, List.set_cons_succ]
          refine wpAnyH_take (i := 9) (oi := Oper.mk (some 19) _ _ _ _ _) (v := ?_) rfl (by kernel_rfl) (by kernel_rfl) (by kernel_rfl) (fun _ _ _ h => h) (Or.inl ⟨by rfl, ?_⟩) (by assumption) ?_
          rotate_left
          · intro w0 hSw
            clear hSw
            go_simp
            all_goals (with_reducible rfl)
          simp only [Act.put, List.setIfInBounds_toArray, List.set_cons_zero, List.set_cons_succ]
          refine wpAnyH_take (i := 10) (oi := Oper.mk (some 20) _ _ _ _ _) (v := ?_) rfl (by kernel_rfl) (by kernel_rfl) (by kernel_rfl) (fun _ _ _ h => h) (Or.inl ⟨by rfl, ?_⟩) (by assumption) ?_
          rotate_left
          · intro w0 hSw
            clear hSw
            go_simp
            all_goals (with_reducible rfl)
          simp only [Act.put, List.setIfInBounds_toArray, List.set_cons_zero, List.set_cons_succ]
          refine wpAnyH_take (i := 11) (oi := Oper.mk (some 21) _ _ _ _ _) (v := ?_) rfl (by kernel_rfl) (by kernel_rfl) (by kernel_rfl) (fun _ _ _ h => h) (Or.inl ⟨by rfl, ?_⟩) (by assumption) ?_
          rotate_left
          · intro w0 hSw
            clear hSw
            go_simp
            all_goals (with_reducible rfl)
          simp only [Act.put, List.setIfInBounds_toArray, List.set_cons_zero, List.set_cons_succ]
          refine wpAnyH_take (i := 12) (oi := Oper.mk (some 22) _ _ _ _ _) (v := ?_) rfl (by kernel_rfl) (by kernel_rfl) (by kernel_rfl) (fun _ _ _ h => h) (Or.inl ⟨by rfl, ?_⟩) (by assumption) ?_
          rotate_left
          · intro w0 hSw
            clear hSw
            go_simp
            all_goals (with_reducible rfl)
          simp only [Act.put, List.setIfInBounds_toArray, List.set_cons_zero, List.set_cons_succ]
          refine wpAnyH_take (i := 13) (oi := Oper.mk (some 23) _ _ _ _ _) (v := evV e) rfl (by kernel_rfl) (by kernel_rfl) (by kernel_rfl) (fun _ _ _ h => h) (yieldsIf_load_mid (by rfl) 46 (.tmp 22) rfl g (off + i * 17) rfl (evL e) _ (fun W hW => HAT.out.later hW HGX.out) Try.underlying46 rfl (by rw [infoEv]; rfl)) (by assumption) ?_
          simp only [Act.put, List.setIfInBounds_toArray, List.set_cons_zero, List.set_cons_succ]
          refine wpAnyH_ready (rs := [14]) (by kernel_rfl) (by simp) ?_
          refine AllReadyH.cons (o := Oper.mk (some 24) _ _ _ _ _) rfl (fun K hK => ?_) AllReadyH.nil
          go_simp
          go_at_call 27
          refine (hnx.out _ (HTK.out _ (HB.out.trans (hHeld.mono HB.out.size)))).mono ?_
          rintro x0 w0 ⟨rfl, hB0⟩
          have hHeld' := Below.trans hHeld (hB0.mono hHeld.size)
          clear hB0 hHeld
          go_wp2_with fail
          refine hK.out _ _ hHeld' (fun hHeld => ?_)
          clear hK K hHeld'
          (try simp only [Act.put, List.setIfInBounds_toArray, List.set_cons_zero, List.set_cons_succ])
          refine wpAnyH_take (i := 15) (oi := Oper.mk (some 25) _ _ _ _ _) (v := ?_) rfl (by kernel_rfl) (by kernel_rfl) (by kernel_rfl) (fun _ _ _ h => h) (Or.inl ⟨by rfl, ?_⟩) (by assumption) ?_
          rotate_left
          · intro w0 hSw
            clear hSw
            go_simp
            all_goals (with_reducible rfl)
          simp only [Act.put, List.setIfInBounds_toArray, List.set_cons_zero, List.set_cons_succ]
          refine wpAnyH_take (i := 16) (oi := Oper.mk (some 26) _ _ _ _ _) (v := ?_) rfl (by kernel_rfl) (by kernel_rfl) (by kernel_rfl) (fun _ _ _ h => h) (Or.inl ⟨by rfl, ?_⟩) (by assumption) ?_
          rotate_left
          · intro w0 hSw
            clear hSw
            go_simp
            all_goals (with_reducible rfl)
          simp only [Act.put, List.setIfInBounds_toArray, List.set_cons_zero, List.set_cons_succ]
          refine wpAnyH_done (by kernel_rfl) ?_ _
          refine NoPanic.normal ?_
          have HB2 := hide (HB.out.trans (hHeld.mono HB.out.size))
          have HGI := hide (HGN.out (by first | trivial | rfl))
          clear hHeld
          go_wp2_with fail
          go_roundw
          case rel => exact ⟨i + 1, by omega, by go_num, HGI, HB2⟩
          case measure => simp [intOf]; omega
    · have hie : i = l.length := by omega
      have hgb : Pl.goodB Pl.evB l = true := by have := HG.out; rw [hie] at this; exact this
      have hM : ManyOk l := by
        have := good_many HG.out hi
        rw [hie, List.take_length] at this
        exact this
      have hleft := hide (fun W hW => l5Left_any l hM hN (.slice ad l.length cap) W hW)
      have hin := hide (fun W => in_any (l.length : Int) 1 200 W)
      have HE : Hid (Pl.histB Pl.evB l = ((decide (1 ≤ (l.length : Int)) && decide ((l.length : Int) ≤ 200)) && (Pl.leftOf l == 0))) := by show _ = _; unfold Pl.histB; rw [hgb]; rfl
      clear hgb hM hie
      generalize Pl.leftOf l = lf at *
      generalize (decide (1 ≤ (l.length : Int)) && decide ((l.length : Int) ≤ 200)) = rb at *
      go_wp2_with fail
      refine (hin.out _).mono ?_
      rintro x1 w1 ⟨rfl, rfl⟩
      cases rb
      · go_wp2_with fail
        go_ret
        exact ⟨by rw [HE.out]; rfl, HB.out⟩
      · go_wp2_with fail
        refine (hleft.out _ (HRW.out.later HB.out)).mono ?_
        rintro x2 w2 ⟨rfl, rfl⟩
        go_wp2_with fail
        go_ret
        exact ⟨by rw [HE.out]; first | rfl | simp, HB.out⟩
end Go.Proofs.Ythimglgjeibaoaa

/- What is drawn for the law on values, and a value's text as the specification has it. -/
import Derived.Test.YtamkogkcdmgjoaaDoorDwV
import Derived.Test.YtamkogkcdmgjoaaDoorVgG
import Derived.Test.YtamkogkcdmgjoaaDoorVgI
namespace Go.Proofs.YtamkogkcdmgjoaaDoor
open Go.RowKit
set_option linter.unusedVariables false
set_option linter.unusedSimpArgs false

theorem below_box1 {w w1 : World} {o : Obj} (hB : Below (w.alloc o).heap.size (w.alloc o) w1) : Below w.heap.size w w1 := ((Below.refl _ _).alloc (Nat.le_refl _) _).trans (hB.mono (by simp))
theorem below_blk {n b : Nat} {W W' : World} {o : Obj} (h : Below n W W') (hb : b < n) (hW : W.heap[b]? = some o) : W'.heap[b]? = some o := (h.block b hb).trans hW
set_option maxHeartbeats 1600000 in
theorem drawValuePut_any (len : Nat) (c : Value) (W : World) (hc : CodeOk W.heap.size W c len) (hl : len ≤ 1048576) :
    Calls Tryd.prog 8 #[c] W fun e W' => (∃ (vk vn : Int) (vt : ByteArray), Sh vt ∧ (-1000000001 ≤ vn ∧ vn ≤ 1000000001) ∧ e = .returned (vAgg vk vn vt)) ∧ Below W.heap.size W W' := by
  have ho := hide (fun o => open_code W.heap.size len c (W.alloc o) (by simp) (hc.later ((Below.refl _ W).alloc (Nat.le_refl _) o)) hl)
  clear hc
  go_enter Tryd.func8, Tryd.ntmps8
  go_wp2_with fail
  refine (ho.out _).mono ?_
  rintro e W1 ⟨br, l2, rfl, hR, hbr, hB⟩
  have hbr2 : W.heap.size < br := by simp at hbr; omega
  have hne : W.heap.size ≠ br := by omega
  have HR := hide hR
  have HB := hide (below_box1 hB)
  have HK := hide (below_blk hB (by simp) (heap_alloc_new W _))
  clear hR hB hbr
  go_wp2_with fail
  refine (l12AnyValue_n (Dw.start HR.out) (by omega)).mono ?_
  rintro e W2 ⟨vk, vn, vt, hvt, hnb, rfl, hD, hG⟩
  have HNB := hide hnb
  have HH := hide (HB.out.trans (gb_to hG (by omega) HB.out.size))
  have HK2 := hide (gb_blk hG hne HK.out)
  have hlt : W.heap.size < W2.heap.size := (Array.getElem?_eq_some_iff.1 HK2.out).1
  clear hD hG HB HK hnb
  obtain ⟨r0, r1, r2, f0, f1, f2⟩ := C3.mk HK2.out
  go_wp2
  obtain ⟨m0, m1, m2⟩ := res3 HK2.out (.int .i64 vk) (.int .i64 vn) (.string vt)
  refine bodyPost_ret (v := vAgg vk vn vt) (by simp [results, Tryd.results8, go_sem, m0, m1, m2]) rfl ?_
  exact ⟨⟨vk, vn, vt, hvt, HNB.out, rfl⟩, below_res3 HH.out _ _ _⟩

set_option maxHeartbeats 800000 in
theorem specValuePut_any (k n : Int) (t : ByteArray) (ht : t.size ≤ 1048576) (w : World) :
    Calls Tryd.prog 10 #[vAgg k n t] w fun e w' => e = .returned (.string (Pl.bs (Pl.putB k n t))) ∧ Below w.heap.size w w' := by
  have hok := hide (specValueOk_any k n t (by unfold maxLen; omega))
  cases hb : Pl.okB k n t
  · have HE : Hid (Pl.putB k n t = []) := by show _ = _; simp [Pl.putB, hb]
    rw [hb] at hok
    clear hb
    go_enter Tryd.func10, Tryd.ntmps10
    go_wp2_with fail
    refine (hok.out _).mono ?_
    rintro e w1 ⟨rfl, hB1⟩
    go_wp2
    go_ret
    exact ⟨by rw [HE.out]; rfl, below_box1 hB1⟩
  · have HE : Hid (Pl.putB k n t = Pl.putV k n t) := by show _ = _; simp [Pl.putB, hb]
    have hp := hide (l1Put_any k n t hb ht)
    rw [hb] at hok
    clear hb
    generalize Pl.putV k n t = P at hp HE
    go_enter Tryd.func10, Tryd.ntmps10
    go_wp2_with fail
    refine (hok.out _).mono ?_
    rintro e w1 ⟨rfl, hB1⟩
    have hb1 := below_blk hB1 (by simp) (heap_alloc_new w _)
    have HB1 := hide (below_box1 hB1)
    have hlt : w.heap.size < w1.heap.size := (Array.getElem?_eq_some_iff.1 hb1).1
    obtain ⟨c0, c1, c2, _, _, _⟩ := C3.mk hb1
    clear hB1 hb1
    go_wp2_with fail
    refine (hp.out _).mono ?_
    rintro e w2 ⟨rfl, hB2⟩
    go_wp2
    go_ret
    exact ⟨by rw [HE.out]; rfl, HB1.out.trans (hB2.mono HB1.out.size)⟩
/-- a number's or a text's text is short -/
theorem put_short (k n : Int) (t : ByteArray) (hn : -1000000000 ≤ n ∧ n ≤ 1000000000) (ht : Sh t) : (Pl.putV k n t).length ≤ 40 := by
  unfold Pl.putV
  split
  · unfold Lib.itoa
    split
    · have := dec_size n.natAbs (by omega)
      simp only [List.length_cons]
      omega
    · have := dec_size n.toNat (by omega)
      omega
  · split
    · unfold Sh at ht
      have : t.data.toList.length = t.size := by simp
      simp only [List.length_cons, List.length_append, List.length_nil]
      omega
    · simp
set_option maxHeartbeats 800000 in
/-- l1Put of any value whose number is in range -/
theorem l1Put_in (k n : Int) (t : ByteArray) (hn : -1000000000 ≤ n ∧ n ≤ 1000000000) (ht : t.size ≤ 1048576) (w : World) :
    Calls Tryd.prog 20 #[vAgg k n t] w fun e w' => e = .returned (.string (Pl.bs (Pl.putV k n t))) ∧ Below w.heap.size w w' := by
  by_cases k1 : k = 1
  · subst k1
    have hq := hide (l1Dec_any n hn.1 hn.2)
    have HE : Hid (Pl.putV 1 n t = Lib.itoa n) := by show _ = _; simp [Pl.putV]
    generalize Lib.itoa n = D at hq HE
    go_enter Tryd.func20, Tryd.ntmps20
    go_wp2_with fail
    refine (hq.out _).mono ?_
    rintro e w1 ⟨rfl, hB1⟩
    go_wp2
    go_ret
    exact ⟨by rw [HE.out]; rfl, below_alloc1 hB1⟩
  · have k1' : (k == 1) = false := by simp [k1]
    by_cases k2 : k = 2
    · subst k2
      have HE : Hid (Pl.bs (Pl.putV 2 n t) = Pl.bs [34] ++ t ++ Pl.bs [34]) := by
        show _ = _
        rw [show t = Pl.bs t.data.toList from (Pl.bs_of t).symm, bs_append, bs_append]
        simp [Pl.putV, Pl.bs_data]
      have hsum : (Pl.bs [34]).size + t.size ≤ 2000000 := by show 1 + _ ≤ _; omega
      have hsum2 : (Pl.bs [34] ++ t).size + (Pl.bs [34]).size ≤ 2000000 := by
        have : (Pl.bs [34] ++ t).size = 1 + t.size := by simp; rfl
        rw [this]; show _ + 1 ≤ _; omega
      go_enter Tryd.func20, Tryd.ntmps20
      go_wp2
      go_ret
      exact ⟨by rw [HE.out]; rfl, (Below.refl _ _).alloc (Nat.le_refl _) _⟩
    · have k2' : (k == 2) = false := by simp [k2]
      have HE : Hid (Pl.putV k n t = [110, 111, 110, 101]) := by show _ = _; simp [Pl.putV, k1, k2]
      clear k1 k2
      go_enter Tryd.func20, Tryd.ntmps20
      go_wp2
      go_ret
      exact ⟨by rw [HE.out]; rfl, (Below.refl _ _).alloc (Nat.le_refl _) _⟩
theorem Dw.later {n₀ br len p K : Nat} {W W' W'' : World} (h : Dw n₀ br len p K W W') (hB : Below W'.heap.size W' W'') : Dw n₀ br len p K W W'' := by
  obtain ⟨⟨p', hp, h1, h2, c, h3, h4⟩, hg⟩ := h
  have hlt : br < W'.heap.size := (Array.getElem?_eq_some_iff.1 h3).1
  exact ⟨⟨p', hp, h1, h2, c, (hB.block br hlt).trans h3, h4.later (hB.mono (by omega))⟩, gb_trans hg (gb_below hB)⟩
/-- a text that is short -/
def Sq (s : ByteArray) : Prop := s.size ≤ 40
set_option maxHeartbeats 1600000 in
theorem drawValueGet_any (len : Nat) (c : Value) (W : World) (hc : CodeOk W.heap.size W c len) (hl : len ≤ 1048576) :
    Calls Tryd.prog 13 #[c] W fun e W' => (∃ s : ByteArray, Sq s ∧ e = .returned (.string s)) ∧ Below W.heap.size W W' := by
  have ho := hide (open_code W.heap.size len c W (Nat.le_refl _) hc hl)
  clear hc
  go_enter Tryd.func13, Tryd.ntmps13
  go_wp2_with fail
  refine ho.out.mono ?_
  rintro e W1 ⟨br, l2, rfl, hR, hbr, hB⟩
  have HR := hide hR
  have HB := hide hB
  clear hR hB
  go_wp2_with fail
  refine (l12Value_n (Dw.start HR.out) (by omega)).mono ?_
  rintro e W2 ⟨vk, vn, vt, hvt, hnb, rfl, hD, hG⟩
  have hp := hide (l1Put_in vk vn vt hnb (by unfold Sh at hvt; omega))
  have HSQ : Hid ((Pl.putV vk vn vt).length ≤ 40) := put_short vk vn vt hnb hvt
  have HD := hide hD
  generalize Pl.putV vk vn vt = P at hp HSQ
  clear hD hG hnb hvt
  go_wp2_with fail
  refine (hp.out _).mono ?_
  rintro e W3 ⟨rfl, hB3⟩
  have HD3 := hide (HD.out.later hB3)
  have hlt3 := HD3.out.lt
  have hne3 : W3.heap.size ≠ br := by omega
  clear hB3 HD hp
  go_wp2_with fail
  refine (of_d (HD3.out.alloc _) Sq 10 W3.heap.size 0 10 (by omega) (by omega) (by omega) hne3 (among_lit (by
    intro i hi
    have : i = 0 ∨ i = 1 ∨ i = 2 ∨ i = 3 ∨ i = 4 ∨ i = 5 ∨ i = 6 ∨ i = 7 ∨ i = 8 ∨ i = 9 := by omega
    rcases this with rfl | rfl | rfl | rfl | rfl | rfl | rfl | rfl | rfl | rfl
    · exact ⟨_, rfl, HSQ.out⟩
    all_goals exact ⟨_, rfl, by show _ ≤ _; decide⟩))).mono ?_
  rintro e W4 ⟨z, hz, rfl, hD4, hG4⟩
  have HH := hide (HB.out.trans (gb_to hD4.gb (by omega) HB.out.size))
  clear hD4 hG4 HD3 HB
  go_wp2
  go_ret
  exact ⟨⟨z, hz, rfl⟩, HH.out⟩
end Go.Proofs.YtamkogkcdmgjoaaDoor

/- Joined: PPr PChS PChI LawPCk. -/
import Derived.Test.YtckdpdlkjgjadaaPSz
import Derived.Test.YtckdpdlkjgjadaaPTo
import Derived.Test.YtckdpdlkjgjadaaPEq
import Derived.Test.YtckdpdlkjgjadaaSco5
import Derived.Test.YtckdpdlkjgjadaaJScm
/- A program measured, copied and compared, as the laws do it. -/
namespace Go.Proofs.Ytckdpdlkjgjadaa
open Go.RowKit
set_option linter.unusedVariables false

set_option maxHeartbeats 1600000 in
theorem szProg_any (nm : ByteArray) (F : Ps) (hn : nm.size ≤ maxLen) (hwf : F.Wf) (v : Value) (w : World) (hr : PRow 0 w F v) :
    Calls Try.prog 18 #[.agg #[.string nm, v], .int .i64 1048576] w (PSzPost F 1048576 w) := by
  have hq : Hid (∀ W lf, Below w.heap.size w W → 0 ≤ lf → lf ≤ 1048576 → Calls Try.prog 39 #[v, .int .i64 lf] W (PSzPost F lf W)) := fun W lf hW l0 l1 => szStepS_any F v W lf l0 l1 hwf (hr.later hW)
  have HB : Hid (Below w.heap.size w (w.alloc (.cells #[.string nm, v] 43))) := (Below.refl _ _).alloc (Nat.le_refl _) _
  unfold maxLen at hn
  clear hwf hr
  go_enter Try.func18, Try.ntmps18
  by_cases h3 : (1048576 : Int) - nm.size < 0
  · go_wp2
    go_ret
    exact ⟨-1, rfl, by omega, by omega, fun h => by omega, HB.out⟩
  · go_wp2_with fail
    refine (hq.out _ _ HB.out (by omega) (by omega)).mono ?_
    rintro e w2 ⟨r, rfl, hr0, hr1, hr2, hB2⟩
    have HR2 := hide hr2
    have HB2 : Hid (Below w.heap.size w w2) := HB.out.trans (hB2.mono HB.out.size)
    clear hr2 hq hB2 HB
    by_cases h4 : r < 0
    · go_wp2
      go_ret
      exact ⟨-1, rfl, by omega, by omega, fun h => by omega, HB2.out⟩
    · go_wp2
      go_ret
      exact ⟨r, rfl, by omega, by omega, fun h => ⟨(HR2.out h).1, (HR2.out h).2.1, by have := (HR2.out h).2.2; omega⟩, HB2.out⟩

def PrPost (nm : ByteArray) (F : Ps) (w : World) (e : Ending) (w' : World) : Prop := ∃ v, e = .returned (.agg #[.string nm, v]) ∧ PRow w.heap.size w' F v ∧ Below w.heap.size w w'
set_option maxHeartbeats 1600000 in
theorem toProg_any (nm : ByteArray) (F : Ps) (hl : F.len ≤ 1048576) (hs : F.Sm) (v : Value) (w : World) (hr : PRow 0 w F v) :
    Calls Try.prog 20 #[.agg #[.string nm, v]] w (PrPost nm F w) := by
  have hq : Hid (∀ W, Below w.heap.size w W → Calls Try.prog 43 #[v] W (PToPost F W)) := fun W hW => toStepS_any F v W hl hs (hr.later hW)
  clear hl hs hr
  go_enter Try.func20, Try.ntmps20
  go_wp2_with fail
  refine (hq.out _ ((((Below.refl _ _).alloc (Nat.le_refl _) _).alloc (by simp) _).alloc (by simp; omega) _)).mono ?_
  rintro e w1 ⟨v1, rfl, hr1, hB1⟩
  obtain ⟨b0, b1, b2, hsz, HB⟩ := boxes3 hB1
  have HR1 : Hid (PRow (w.heap.size + 1 + 1 + 1) w1 F v1) := hr1.low (by simp)
  obtain ⟨ad', cap', rfl, _, _, _⟩ := hr1
  have HBB := hide HB
  clear hB1 hq HB
  generalize F.len = fl at *
  have o0 := cell_of_block b2 0
  have o1 := cell_of_block b2 1
  have f1 := free_of_block b2 1
  have p0 := cell_of_block b1 0
  have p1 := cell_of_block b1 1
  have r0 := free_of_block b1 0
  have r1 := free_of_block b1 1
  simp only [List.getElem?_toArray, List.getElem?_cons_zero, List.getElem?_cons_succ] at o0 o1 p0 p1
  have BB1 := hide b1
  clear b0 b1 b2
  go_wp2
  have hov : Hid (Over (w.heap.size + 1 + 1 + 1) w1 ((((w1.setCell ⟨w.heap.size + 1 + 1, 1, none⟩ (.slice ad' fl cap')).setCell ⟨w.heap.size + 1, 0, none⟩ (.string nm)).setCell ⟨w.heap.size + 1, 1, none⟩ (.slice ad' fl cap')))) := by
    refine over_set (over_set (over_set (over_refl _ _) ?_ _) ?_ _) ?_ _ <;> (simp only; omega)
  have hbl : Hid (Below w.heap.size w ((((w1.setCell ⟨w.heap.size + 1 + 1, 1, none⟩ (.slice ad' fl cap')).setCell ⟨w.heap.size + 1, 0, none⟩ (.string nm)).setCell ⟨w.heap.size + 1, 1, none⟩ (.slice ad' fl cap')))) := by
    refine ((HBB.out.setCell ?_ _).setCell ?_ _).setCell ?_ _ <;> (simp only; omega)
  have hbk : ((((w1.setCell ⟨w.heap.size + 1 + 1, 1, none⟩ (.slice ad' fl cap')).setCell ⟨w.heap.size + 1, 0, none⟩ (.string nm)).setCell ⟨w.heap.size + 1, 1, none⟩ (.slice ad' fl cap'))).heap[w.heap.size + 1]? = some (.cells #[.string nm, .slice ad' fl cap'] 48 (0, 0)) := by
    have h0 : (w1.setCell ⟨w.heap.size + 1 + 1, 1, none⟩ (.slice ad' fl cap')).heap[w.heap.size + 1]? = _ := (Below.heap_setCell _ _ _ _ (by simp only; omega)).trans BB1.out
    rw [block_set (block_set h0 0 _) 1 _]
    rfl
  generalize (((w1.setCell ⟨w.heap.size + 1 + 1, 1, none⟩ (.slice ad' fl cap')).setCell ⟨w.heap.size + 1, 0, none⟩ (.string nm)).setCell ⟨w.heap.size + 1, 1, none⟩ (.slice ad' fl cap')) = W9 at hov hbl hbk ⊢
  have c0 := cell_of_block hbk 0
  have c1 := cell_of_block hbk 1
  simp only [List.getElem?_toArray, List.getElem?_cons_zero, List.getElem?_cons_succ] at c0 c1
  refine bodyPost_ret (v := .agg #[.string nm, .slice ad' fl cap']) (by simp [results, Try.results20, go_sem, c0, c1]) rfl ?_
  exact ⟨_, rfl, (HR1.out.over hov.out).low (by omega), hbl.out⟩

set_option maxHeartbeats 1600000 in
theorem eqProg_any (nm : ByteArray) (F : Ps) (hl : F.len ≤ 1048576) (hs : F.Sm) (va vb : Value) (w : World) (ha : PRow 0 w F va) (hb : PRow 0 w F vb) :
    Calls Try.prog 22 #[.agg #[.string nm, va], .agg #[.string nm, vb]] w fun e w' => e = .returned (.bool true) ∧ Below w.heap.size w w' := by
  have hq : Hid (∀ W, Below w.heap.size w W → Calls Try.prog 47 #[va, vb] W fun e w' => e = .returned (.bool true) ∧ Below W.heap.size W w') := fun W hW => eqStepS_any F va vb W hl hs (ha.later hW) (hb.later hW)
  have HB : Hid (Below w.heap.size w ((w.alloc (.cells #[.string nm, va] 48)).alloc (.cells #[.string nm, vb] 48))) := ((Below.refl _ _).alloc (Nat.le_refl _) _).alloc (by simp) _
  clear hl hs ha hb
  go_enter Try.func22, Try.ntmps22
  go_wp2_with fail
  refine (hq.out _ HB.out).mono ?_
  rintro e w2 ⟨rfl, hB2⟩
  go_wp2
  go_ret
  exact ⟨rfl, HB.out.trans (hB2.mono HB.out.size)⟩
end Go.Proofs.Ytckdpdlkjgjadaa

/- ProgCheck, as the specification has it. -/
namespace Go.Proofs.Ytckdpdlkjgjadaa
open Go.RowKit
set_option linter.unusedVariables false
namespace Pl
theorem nodes_by (m : Nat) : ∀ (F : Ps), (∀ i sn b e, F.get i = some (sn, b, e) → b.nodes ≤ m ∧ e.nodes ≤ m) → F.nodes ≤ F.len * (1 + 2 * m)
  | .nil, _ => by simp [Ps.nodes]
  | .cons sn b e r, h => by
    have h1 := h 0 sn b e rfl
    have h2 := nodes_by m r (fun i sn' b' e' hk => h (i + 1) sn' b' e' hk)
    simp only [Ps.nodes, Ps.len, Nat.add_mul, Nat.one_mul] at h2 ⊢
    omega
theorem nil_nodes {F : Ps} (h : F.len = 0) : F.nodes = 0 := by rw [len_nil h]; rfl
theorem body_nodes : ∀ (d : Nat) (F : Ps), bodyB F d = true → F.nodes + 8 ≤ 17 ^ d
  | 0, F, h => by simp [bodyB] at h
  | d + 1, F, h => by
    have hf := body_form h
    have hlen : F.len ≤ 8 := by
      simp only [bodyB, Bool.and_eq_true, decide_eq_true_eq] at h
      exact h.2.1.2
    have hsub : ∀ i sn b e, F.get i = some (sn, b, e) → b.nodes ≤ 17 ^ d - 8 ∧ e.nodes ≤ 17 ^ d - 8 := by
      intro i sn b e hk
      have hs := form_get hf hk
      obtain ⟨k, nm, wh, ex, ek⟩ := sn
      have hbd : ∀ G : Ps, bodyB G (d + 1 - 1) = true → G.nodes ≤ 17 ^ d - 8 := fun G hG => by
        have := body_nodes d G hG
        omega
      rcases form_kinds hs with ⟨_, _, hb0, hl0⟩ | ⟨_, _, hfb, hfl⟩ | ⟨_, _, hfb, hl0⟩ | ⟨_, _, hb0, hl0⟩
      · rw [nil_nodes hb0, nil_nodes hl0]; omega
      · refine ⟨hbd b hfb, ?_⟩
        rcases hfl with h | h
        · rw [nil_nodes h]; omega
        · exact hbd e h
      · rw [nil_nodes hl0]
        exact ⟨hbd b hfb, by omega⟩
      · rw [nil_nodes hb0, nil_nodes hl0]; omega
    have h1 := nodes_by (17 ^ d - 8) F hsub
    have h2 : F.len * (1 + 2 * (17 ^ d - 8)) ≤ 8 * (1 + 2 * (17 ^ d - 8)) := Nat.mul_le_mul_right _ hlen
    have h3 : 17 ^ (d + 1) = 17 * 17 ^ d := by rw [Nat.pow_succ]; omega
    have h4 : 1 ≤ 17 ^ d := Nat.one_le_pow _ _ (by omega)
    by_cases h5 : 17 ^ d ≤ 8
    · have h6 : 17 ^ d - 8 = 0 := by omega
      rw [h6] at h1 h2
      omega
    · omega
def inE : En := [([105, 110], 1)]
def checkP (nm : ByteArray) (F : Ps) : Int := if (nameB nm && bodyB F 4) = true then chkF F inE else 1
theorem tells_in : Tells [[105, 110]] [] inE := by
  intro x
  simp only [inE, look, List.mem_singleton]
  by_cases e : x = [105, 110]
  · subst e; simp
  · have e' : ¬ [105, 110] = x := fun h => e h.symm
    simp [e, e']
end Pl

theorem sc_in (w : World) : ScAt ((w.alloc (.cells #[.string ⟨#[105, 110]⟩] 9)).alloc (.cells #[.slice (some ⟨w.heap.size, 0, none⟩) 1 1, .slice none 0 0, .int .i64 0] 69)) (w.heap.size + 1) [[105, 110]] [] 0 := by
  refine ⟨.slice (some ⟨w.heap.size, 0, none⟩) 1 1, .slice none 0 0, by rw [heap_alloc_at, if_pos (by simp)], ?_, ⟨none, 0, rfl, Nat.le_refl _, by unfold maxLen; omega, fun h => by simp at h, fun _ => rfl⟩, fun j hj => ?_, fun j hj => ?_⟩
  · exact (one_at w [105, 110]).later ((Below.refl _ _).alloc (Nat.le_refl _) _)
  · simp [Value.ownBlock] at hj; omega
  · simp [Value.ownBlock] at hj

set_option maxHeartbeats 1600000 in
theorem specProgCheck_any (nm : ByteArray) (F : Ps) (v : Value) (w : World) (hw : nm.size ≤ maxLen) (hwf : F.Wf) (hl : F.len ≤ 1048576) (hs : F.Sm) (hr : PRow 0 w F v) :
    Calls Try.prog 19 #[.agg #[.string nm, v]] w fun e w' => e = .returned (.int .i64 (Pl.checkP nm F)) ∧ Below w.heap.size w w' := by
  have hq1 := hide (fun W => l1Name_any nm hw W)
  have hq2 : Hid (∀ W, Below w.heap.size w W → Calls Try.prog 41 #[v, .int .i64 4] W fun e w' => e = .returned (.bool (Pl.bodyB F 4)) ∧ Below W.heap.size W w') := fun W hW => l3Body_any 4 F (Nat.le_refl _) v W hwf hl hs (hr.later hW)
  have hq3 : Hid (Pl.bodyB F 4 = true → ∀ (w0 W : World) (g : Nat), Below w.heap.size w w0 → w0.heap.size ≤ g → Below w0.heap.size w0 W → ScAt W g [[105, 110]] [] 0 → Calls Try.prog 42 #[.pointer (some ⟨g, 0, none⟩), v] W fun e w' => e = .returned (.tuple #[]) ∧ W.grownBy w' (some g) ∧ ScAt w' g [[105, 110]] [] (Pl.chkF F Pl.inE)) := by
    refine hide fun hb w0 W g hW0 hg hW hsc => ?_
    have hn := Pl.body_nodes 4 F hb
    have := body_any F 4 Pl.inE v g w0 (Pl.body_form hb) hs hl (hr.later hW0) hg W [[105, 110]] [] 0 hW hsc (fun _ => Pl.tells_in) (by simp; omega)
    rwa [Pl.orr_right] at this
  obtain ⟨ad, cap, rfl, _, _, _⟩ := hr
  clear hwf hs hw
  cases hb1 : Pl.nameB nm
  · rw [hb1] at hq1
    have HE : Hid (Pl.checkP nm F = 1) := by show _ = _; simp [Pl.checkP, hb1]
    clear hb1 hq2 hq3
    go_enter Try.func19, Try.ntmps19
    go_wp2_with fail
    refine (hq1.out _).mono ?_
    rintro e w1 ⟨rfl, hB1⟩
    have HB1 : Hid (Below w.heap.size w w1) := by first | exact hB1 | exact ((Below.refl _ _).alloc (Nat.le_refl _) _).trans (hB1.mono (by simp))
    clear hB1
    go_wp2
    go_ret
    exact ⟨by rw [HE.out]; rfl, HB1.out⟩
  · rw [hb1] at hq1
    go_enter Try.func19, Try.ntmps19
    go_wp2_with fail
    refine (hq1.out _).mono ?_
    rintro e w1 ⟨rfl, hB1⟩
    have HA : Hid (Below w.heap.size w (w.alloc (.cells #[.string nm, .slice ad F.len cap] 48))) := (Below.refl _ _).alloc (Nat.le_refl _) _
    have c1 : w1.cell? ⟨w.heap.size, 1, none⟩ = some (.slice ad F.len cap) := boxC hB1 (by simp) 1
    have hs1 : w.heap.size < w1.heap.size := by have := hB1.size; simp at this; omega
    have HB1 : Hid (Below w.heap.size w w1) := HA.out.trans (hB1.mono (by simp))
    clear hB1 HA hq1
    go_wp2_with fail
    refine (hq2.out _ HB1.out).mono ?_
    rintro e w2 ⟨rfl, hB2⟩
    have c2 : w2.cell? ⟨w.heap.size, 1, none⟩ = some (.slice ad F.len cap) := (hB2.cell (p := ⟨w.heap.size, 1, none⟩) hs1).trans c1
    have hs2 : w.heap.size < w2.heap.size := by have := hB2.size; omega
    have HB2 : Hid (Below w.heap.size w w2) := HB1.out.trans (hB2.mono HB1.out.size)
    clear hB2 hq2 HB1 c1 hs1
    cases hb2 : Pl.bodyB F 4
    · have HE : Hid (Pl.checkP nm F = 1) := by show _ = _; simp [Pl.checkP, hb2]
      clear hb1 hb2 hq3
      go_wp2
      go_ret
      exact ⟨by rw [HE.out]; rfl, HB2.out⟩
    · have HE : Hid (Pl.checkP nm F = Pl.chkF F Pl.inE) := by show _ = _; simp [Pl.checkP, hb1, hb2]
      have HQ := hide (hq3.out hb2)
      clear hb1 hb2 hq3
      have HSC := hide (sc_in w2)
      have HB3 : Hid (Below w2.heap.size w2 ((w2.alloc (.cells #[.string ⟨#[105, 110]⟩] 9)).alloc (.cells #[.slice (some ⟨w2.heap.size, 0, none⟩) 1 1, .slice none 0 0, .int .i64 0] 69))) := ((Below.refl _ _).alloc (Nat.le_refl _) _).alloc (by simp) _
      go_wp2_with fail
      refine (HQ.out w2 _ _ HB2.out (by omega) HB3.out HSC.out).mono ?_
      rintro e w4 ⟨rfl, hg4, hs4⟩
      have HB4 : Hid (Below w.heap.size w w4) := (HB2.out.trans (HB3.out.mono HB2.out.size)).grown hg4 (by have := HB2.out.size; have := HB3.out.size; omega) (fun j e => by cases e; omega)
      obtain ⟨vv, vc, hbk, _⟩ := hs4
      have c4 := cell_of_block hbk 2
      simp only [List.getElem?_toArray, List.getElem?_cons_zero, List.getElem?_cons_succ] at c4
      clear hbk hg4 HQ HSC HB3 c2
      go_wp2
      go_ret
      exact ⟨by rw [HE.out]; rfl, HB4.out⟩
end Go.Proofs.Ytckdpdlkjgjadaa

/- ProgCheck, as the program has it. -/
namespace Go.Proofs.Ytckdpdlkjgjadaa
open Go.RowKit Go.Maps Go.WideMaps
set_option linter.unusedVariables false

set_option maxRecDepth 100000 in
set_option maxHeartbeats 1600000 in
theorem implProgCheck_any (nm : ByteArray) (F : Ps) (v : Value) (w : World) (hw : nm.size ≤ maxLen) (hwf : F.Wf) (hl : F.len ≤ 1048576) (hs : F.Sm) (hr : PRow 0 w F v) :
    Calls Try.prog 21 #[.agg #[.string nm, v]] w fun e w' => e = .returned (.int .i64 (Pl.checkP nm F)) ∧ Below w.heap.size w w' := by
  have hq1 := hide (fun W => implNameOk_any nm hw W)
  have hq2 : Hid (∀ W, Below w.heap.size w W → Calls Try.prog 45 #[v, .int .i64 4] W fun e w' => e = .returned (.bool (Pl.bodyB F 4)) ∧ Below W.heap.size W w') := fun W hW => bodyFits_any 4 F (Nat.le_refl _) v W hwf hl hs (hr.later hW)
  have hq3 : Hid (Pl.bodyB F 4 = true → BcQ F v w) := by
    refine hide fun hb => ?_
    have h8 : F.len ≤ 8 := by
      simp only [Pl.bodyB, Bool.and_eq_true, decide_eq_true_eq] at hb
      exact hb.2.1.2
    exact bodyCheck_any F 4 v w (Pl.body_form hb) hwf hs h8 hr
  obtain ⟨ad, cap, rfl, _, _, _⟩ := hr
  clear hwf hs hw
  cases hb1 : Pl.nameB nm
  · rw [hb1] at hq1
    have HE : Hid (Pl.checkP nm F = 1) := by show _ = _; simp [Pl.checkP, hb1]
    clear hb1 hq2 hq3
    go_enter Try.func21, Try.ntmps21
    go_wp2_with fail
    refine (hq1.out _).mono ?_
    rintro e w1 ⟨rfl, rfl⟩
    go_wp2
    go_ret
    exact ⟨by rw [HE.out]; rfl, (Below.refl _ _).alloc (Nat.le_refl _) _⟩
  · rw [hb1] at hq1
    go_enter Try.func21, Try.ntmps21
    go_wp2_with fail
    refine (hq1.out _).mono ?_
    rintro e w1 ⟨rfl, rfl⟩
    have HB1 : Hid (Below w.heap.size w (w.alloc (.cells #[.string nm, .slice ad F.len cap] 48))) := (Below.refl _ _).alloc (Nat.le_refl _) _
    go_wp2_with fail
    refine (hq2.out _ HB1.out).mono ?_
    rintro e w2 ⟨rfl, hB2⟩
    have c2 : w2.cell? ⟨w.heap.size, 1, none⟩ = some (.slice ad F.len cap) := boxC hB2 (by simp) 1
    have hs2 : w.heap.size < w2.heap.size := by have := hB2.size; simp at this; omega
    have HB2 : Hid (Below w.heap.size w w2) := HB1.out.trans (hB2.mono (by simp))
    clear hB2 hq2 HB1 hq1
    cases hb2 : Pl.bodyB F 4
    · have HE : Hid (Pl.checkP nm F = 1) := by show _ = _; simp [Pl.checkP, hb2]
      clear hb1 hb2 hq3
      go_wp2
      go_ret
      exact ⟨by rw [HE.out]; rfl, HB2.out⟩
    · have HE : Hid (Pl.checkP nm F = Pl.chkF F Pl.inE) := by show _ = _; simp [Pl.checkP, hb1, hb2]
      have HQ := hide (hq3.out hb2)
      clear hb1 hb2 hq3
      have hmm := @run_makeMap Try.prog
      have hkey : keyOf Try.prog 9 (.string { data := #[105, 110] }) = some (.string [105, 110]) := keyOf_string_mk Try.underlying9 (by decide)
      have hmade := World.ownsMap_made w2 Try.prog 9 (plainElem (H := Unit) Try.prog 3)
      obtain ⟨w3, hrun3, hown3, hg3⟩ := hmade.update lawS Try.underlying73 (by decide) hkey (plainElem_int Try.underlying3 (show (Lit.int .i64 1).wf = true by decide))
      have HG3 := hide hg3
      have HO3 := hide hown3
      have HM3 := hide hmade.isMap
      have hs3 : w2.heap.size + 1 ≤ w3.heap.size := by have := hg3.size; simpa using this
      have HB3 : Hid (Below w.heap.size w w3) := by
        have h1 : Below w.heap.size w (w2.alloc (.map #[] 0)) := HB2.out.alloc (by omega) _
        exact h1.grown hg3 h1.size (fun j e => by cases e; omega)
      clear hown3 hg3 hmade hkey
      have c3 : w3.cell? ⟨w.heap.size, 1, none⟩ = some (.slice ad F.len cap) := by
        have hk := HG3.out.block w.heap.size (by simp; omega) (fun e => by have := Option.some.inj e; omega)
        have hk2 : (w2.alloc (.map #[] 0)).heap[w.heap.size]? = w2.heap[w.heap.size]? := by rw [heap_alloc_at, if_neg (by omega)]
        rw [← c2]
        simp only [World.cell?]
        rw [hk, hk2]
      have hs4 : w.heap.size < w3.heap.size := by omega
      have HC3 : Hid (ChAt (w3.alloc (.cells #[.map (some w2.heap.size), .pointer none] 75)) [(w3.heap.size, w2.heap.size, 1, Pl.inE)] (.pointer (some ⟨w3.heap.size, 0, none⟩))) := by
        refine hide ⟨rfl, .pointer none, ⟨by rw [heap_alloc_at, if_pos rfl], ⟨_, HO3.out.alloc _, put_tells HM3.out (fun x => rfl) [105, 110] 1⟩, fun p hp => ?_, by simp [ptrN], fun q hq => by simp at hq⟩, rfl⟩
        simp [Pl.inE] at hp
        subst hp
        decide
      have HB4 : Hid (Below w.heap.size w (w3.alloc (.cells #[.map (some w2.heap.size), .pointer none] 75))) := HB3.out.alloc (by omega) _
      clear c2
      go_wp2_with fail
      refine (HQ.out _ _ _ HB4.out HC3.out).mono ?_
      rintro e w5 ⟨rfl, hB5⟩
      have HB5 : Hid (Below w.heap.size w w5) := HB4.out.trans (hB5.mono HB4.out.size)
      have HE' : Hid (Pl.checkP nm F = Pl.chkF F (flat [(w3.heap.size, w2.heap.size, 1, Pl.inE)])) := by
        show _ = _
        rw [HE.out]
        simp [flat]
      clear hB5 hrun3 hmm
      go_wp2
      go_ret
      exact ⟨by rw [HE'.out]; rfl, HB5.out⟩
end Go.Proofs.Ytckdpdlkjgjadaa

/- The law on ProgCheck, walked. -/
namespace Go.Proofs.Ytckdpdlkjgjadaa
open Go.RowKit
set_option linter.unusedVariables false

/-- the two cells of a boxed program, later too -/
def Box2 (b : Nat) (nm : ByteArray) (v : Value) (W : World) : Prop := b < W.heap.size ∧ W.cell? ⟨b, 0, none⟩ = some (.string nm) ∧ W.cell? ⟨b, 1, none⟩ = some v
theorem Box2.mk {nm : ByteArray} {v : Value} {T : TypeId} (w : World) : Box2 w.heap.size nm v (w.alloc (.cells #[.string nm, v] T)) := by
  refine ⟨by simp, ?_, ?_⟩ <;> simp
theorem Box2.later {b : Nat} {nm : ByteArray} {v : Value} {W W1 : World} (h : Box2 b nm v W) (hB : Below W.heap.size W W1) : Box2 b nm v W1 := by
  obtain ⟨hb, h0, h1⟩ := h
  have C : ∀ o, W1.cell? ⟨b, o, none⟩ = W.cell? ⟨b, o, none⟩ := fun o => hB.cell (p := ⟨b, o, none⟩) hb
  exact ⟨by have := hB.size; omega, (C _).trans h0, (C _).trans h1⟩

set_option maxHeartbeats 1600000 in
theorem lawProgCheck (nm : ByteArray) (F : Ps) (v : Value) (w : World) (hn : nm.size ≤ maxLen) (hwf : F.Wf) (hr : PRow 0 w F v) :
    Calls Try.prog 5 #[.agg #[.string nm, v]] w fun e w' => e = .returned (.bool true) ∧ Below w.heap.size w w' := by
  have hsz : Hid (∀ W, Below w.heap.size w W → Calls Try.prog 18 #[.agg #[.string nm, v], .int .i64 1048576] W (PSzPost F 1048576 W)) := fun W hW => szProg_any nm F hn hwf v W (hr.later hW)
  have hto : Hid (F.len ≤ 1048576 → F.Sm → ∀ W, Below w.heap.size w W → Calls Try.prog 20 #[.agg #[.string nm, v]] W (PrPost nm F W)) := fun h1 h2 W hW => toProg_any nm F h1 h2 v W (hr.later hW)
  have hs1 : Hid (F.len ≤ 1048576 → F.Sm → ∀ W u, PRow 0 W F u → Calls Try.prog 19 #[.agg #[.string nm, u]] W fun e w' => e = .returned (.int .i64 (Pl.checkP nm F)) ∧ Below W.heap.size W w') := fun h1 h2 W u hu => specProgCheck_any nm F u W hn hwf h1 h2 hu
  have hs2 : Hid (F.len ≤ 1048576 → F.Sm → ∀ W u, PRow 0 W F u → Calls Try.prog 21 #[.agg #[.string nm, u]] W fun e w' => e = .returned (.int .i64 (Pl.checkP nm F)) ∧ Below W.heap.size W w') := fun h1 h2 W u hu => implProgCheck_any nm F u W hn hwf h1 h2 hu
  have heq : Hid (F.len ≤ 1048576 → F.Sm → ∀ W u t, PRow 0 W F u → PRow 0 W F t → Calls Try.prog 22 #[.agg #[.string nm, u], .agg #[.string nm, t]] W fun e w' => e = .returned (.bool true) ∧ Below W.heap.size W w') := fun h1 h2 W u t hu hv => eqProg_any nm F h1 h2 u t W hu hv
  generalize Pl.checkP nm F = ok at hs1 hs2
  clear hn hwf hr
  go_enter Try.func5, Try.ntmps5
  go_wp2_with fail
  refine (hsz.out _ ((Below.refl _ _).alloc (Nat.le_refl _) _)).mono ?_
  rintro e w1 ⟨r, rfl, hr0, hr1, hr2, hB1⟩
  have HBox := hide ((Box2.mk (nm := nm) (v := v) (T := 43) w).later hB1)
  have HB1 : Hid (Below w.heap.size w w1) := ((Below.refl _ _).alloc (Nat.le_refl _) _).trans (hB1.mono (by simp))
  clear hB1 hsz
  by_cases hneg : r < 0
  · go_wp2
    go_ret
    exact ⟨rfl, HB1.out⟩
  · obtain ⟨hl, hsm, _⟩ := hr2 (by omega)
    have HTO := hide (hto.out hl hsm)
    have HS1 := hide (hs1.out hl hsm)
    have HS2 := hide (hs2.out hl hsm)
    have HEQ := hide (heq.out hl hsm)
    clear hto hs1 hs2 heq hsm hl hr2
    obtain ⟨_, b0, b1⟩ := HBox.out
    go_wp2_with fail
    refine (HTO.out _ HB1.out).mono ?_
    rintro e w2 ⟨u1, rfl, hu1, hB2⟩
    have HU1 := hide (hu1.low (Nat.zero_le _))
    have HBox2 := hide (HBox.out.later hB2)
    have HB2 : Hid (Below w.heap.size w w2) := HB1.out.trans (hB2.mono HB1.out.size)
    clear hu1 hB2 b0 b1 HBox HB1
    go_wp2_with fail
    refine (HS1.out _ _ HU1.out).mono ?_
    rintro e w3 ⟨rfl, hB3⟩
    have HBox3 := hide (HBox2.out.later hB3)
    have HB3 : Hid (Below w.heap.size w w3) := HB2.out.trans (hB3.mono HB2.out.size)
    clear hB3 HBox2 HB2 HU1 HS1
    obtain ⟨_, b0, b1⟩ := HBox3.out
    go_wp2_with fail
    refine (HTO.out _ HB3.out).mono ?_
    rintro e w4 ⟨u2, rfl, hu2, hB4⟩
    have HU2 := hide (hu2.low (Nat.zero_le _))
    have HBox4 := hide (HBox3.out.later hB4)
    have HB4 : Hid (Below w.heap.size w w4) := HB3.out.trans (hB4.mono HB3.out.size)
    obtain ⟨ad2, cap2, rfl, _, _, _⟩ := hu2
    clear hB4 b0 b1 HBox3 HB3
    generalize F.len = kl at *
    have HX := hide (Box2.mk (nm := nm) (v := .slice ad2 kl cap2) (T := 48) w4)
    have hA4 : Hid (Below w4.heap.size w4 (w4.alloc (.cells #[.string nm, .slice ad2 kl cap2] 48))) := (Below.refl _ _).alloc (Nat.le_refl _) _
    go_wp2_with fail
    refine (HS2.out _ _ (HU2.out.later hA4.out)).mono ?_
    rintro e w5 ⟨rfl, hB5⟩
    have HX5 := hide (HX.out.later hB5)
    have HBox5 := hide ((HBox4.out.later hA4.out).later hB5)
    have HU5 := hide ((HU2.out.later hA4.out).later hB5)
    have HB5 : Hid (Below w.heap.size w w5) := (HB4.out.trans (hA4.out.mono HB4.out.size)).trans (hB5.mono (by have := HB4.out.size; have := hA4.out.size; omega))
    clear hB5 HBox4 HB4 HX hA4 HU2 HS2
    obtain ⟨_, b0, b1⟩ := HBox5.out
    obtain ⟨_, x0, x1⟩ := HX5.out
    have hne : (ok != ok) = false := by simp
    go_wp2_with fail
    go_region_with (first | (go_at_call 20; refine (HTO.out _ HB5.out.drew).mono ?_; rintro e w6 ⟨u3, rfl, hu3, hB6⟩; have hB56 : Hid (Below w5.heap.size w5 w6) := (Below.refl _ _).drew.trans hB6; have HU3 := hide (hu3.low (Nat.zero_le _)); have HU6 := hide (HU5.out.later hB56.out); obtain ⟨_, y0, y1⟩ := HX5.out.later hB56.out; clear hu3 hB6) | (go_at_call 22; refine (HEQ.out _ _ _ HU6.out HU3.out).mono ?_; rintro e w7 ⟨rfl, hB7⟩))
    all_goals
      go_wp2
      go_ret
      exact ⟨rfl, (HB5.out.trans (hB56.out.mono HB5.out.size)).trans (hB7.mono (by have := HB5.out.size; have := hB56.out.size; omega))⟩
end Go.Proofs.Ytckdpdlkjgjadaa

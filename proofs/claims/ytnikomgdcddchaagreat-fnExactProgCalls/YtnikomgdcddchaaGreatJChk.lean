/- Joined: PChS PChI. -/
import Derived.Test.YtnikomgdcddchaaGreatJSco
import Derived.Test.YtnikomgdcddchaaGreatJScm
/- ProgCheck, as the specification has it. -/
namespace Go.Proofs.YtnikomgdcddchaaGreat
open Go.RowKit
set_option linter.unusedVariables false
namespace Pl
theorem nodes_by (m : Nat) : ∀ (F : Ps), (∀ i sn b e, F.get i = some (sn, b, e) → b.nodes ≤ m ∧ e.nodes ≤ m) → F.nodes ≤ F.len * (1 + 2 * m)
  | .nil, _ => by simp [Ps.nodes]
  | .cons sn b e r, h => by
    have h1 := h 0 sn b e rfl
    have h2 := nodes_by m r (fun i sn' b' e' hk => h (i + 1) sn' b' e' hk)
    simp only [Ps.nodes, Ps.len, Nat.add_mul, Nat.one_mul] at h2 ⊢
    omega
theorem nil_nodes {F : Ps} (h : F.len = 0) : F.nodes = 0 := by rw [len_nil h]; rfl
theorem body_nodes : ∀ (d : Nat) (F : Ps), bodyB F d = true → F.nodes + 8 ≤ 17 ^ d
  | 0, F, h => by simp [bodyB] at h
  | d + 1, F, h => by
    have hf := body_form h
    have hlen : F.len ≤ 8 := by
      simp only [bodyB, Bool.and_eq_true, decide_eq_true_eq] at h
      exact h.2.1.2
    have hsub : ∀ i sn b e, F.get i = some (sn, b, e) → b.nodes ≤ 17 ^ d - 8 ∧ e.nodes ≤ 17 ^ d - 8 := by
      intro i sn b e hk
      have hs := form_get hf hk
      obtain ⟨k, nm, wh, ex, ek⟩ := sn
      have hbd : ∀ G : Ps, bodyB G (d + 1 - 1) = true → G.nodes ≤ 17 ^ d - 8 := fun G hG => by
        have := body_nodes d G hG
        omega
      rcases form_kinds hs with ⟨_, _, hb0, hl0⟩ | ⟨_, _, hfb, hfl⟩ | ⟨_, _, hfb, hl0⟩ | ⟨_, _, hb0, hl0⟩
      · rw [nil_nodes hb0, nil_nodes hl0]; omega
      · refine ⟨hbd b hfb, ?_⟩
        rcases hfl with h | h
        · rw [nil_nodes h]; omega
        · exact hbd e h
      · rw [nil_nodes hl0]
        exact ⟨hbd b hfb, by omega⟩
      · rw [nil_nodes hb0, nil_nodes hl0]; omega
    have h1 := nodes_by (17 ^ d - 8) F hsub
    have h2 : F.len * (1 + 2 * (17 ^ d - 8)) ≤ 8 * (1 + 2 * (17 ^ d - 8)) := Nat.mul_le_mul_right _ hlen
    have h3 : 17 ^ (d + 1) = 17 * 17 ^ d := by rw [Nat.pow_succ]; omega
    have h4 : 1 ≤ 17 ^ d := Nat.one_le_pow _ _ (by omega)
    by_cases h5 : 17 ^ d ≤ 8
    · have h6 : 17 ^ d - 8 = 0 := by omega
      rw [h6] at h1 h2
      omega
    · omega
def inE : En := [([105, 110], 1)]
def checkP (nm : ByteArray) (F : Ps) : Int := if (nameB nm && bodyB F 4) = true then chkF F inE else 1
theorem tells_in : Tells [[105, 110]] [] inE := by
  intro x
  simp only [inE, look, List.mem_singleton]
  by_cases e : x = [105, 110]
  · subst e; simp
  · have e' : ¬ [105, 110] = x := fun h => e h.symm
    simp [e, e']
end Pl

theorem sc_in (w : World) : ScAt ((w.alloc (.cells #[.string ⟨#[105, 110]⟩] 9)).alloc (.cells #[.slice (some ⟨w.heap.size, 0, none⟩) 1 1, .slice none 0 0, .int .i64 0] 67)) (w.heap.size + 1) [[105, 110]] [] 0 := by
  refine ⟨.slice (some ⟨w.heap.size, 0, none⟩) 1 1, .slice none 0 0, by rw [heap_alloc_at, if_pos (by simp)], ?_, ⟨none, 0, rfl, Nat.le_refl _, by unfold maxLen; omega, fun h => by simp at h, fun _ => rfl⟩, fun j hj => ?_, fun j hj => ?_⟩
  · exact (one_at w [105, 110]).later ((Below.refl _ _).alloc (Nat.le_refl _) _)
  · simp [Value.ownBlock] at hj; omega
  · simp [Value.ownBlock] at hj

set_option maxHeartbeats 1600000 in
theorem specProgCheck_any (nm : ByteArray) (F : Ps) (v : Value) (w : World) (hw : nm.size ≤ maxLen) (hwf : F.Wf) (hl : F.len ≤ 1048576) (hs : F.Sm) (hr : PRow 0 w F v) :
    Calls Tryz.prog 16 #[.agg #[.string nm, v]] w fun e w' => e = .returned (.int .i64 (Pl.checkP nm F)) ∧ Below w.heap.size w w' := by
  have hq1 := hide (fun W => l1Name_any nm hw W)
  have hq2 : Hid (∀ W, Below w.heap.size w W → Calls Tryz.prog 35 #[v, .int .i64 4] W fun e w' => e = .returned (.bool (Pl.bodyB F 4)) ∧ Below W.heap.size W w') := fun W hW => l3Body_any 4 F (Nat.le_refl _) v W hwf hl hs (hr.later hW)
  have hq3 : Hid (Pl.bodyB F 4 = true → ∀ (w0 W : World) (g : Nat), Below w.heap.size w w0 → w0.heap.size ≤ g → Below w0.heap.size w0 W → ScAt W g [[105, 110]] [] 0 → Calls Tryz.prog 36 #[.pointer (some ⟨g, 0, none⟩), v] W fun e w' => e = .returned (.tuple #[]) ∧ W.grownBy w' (some g) ∧ ScAt w' g [[105, 110]] [] (Pl.chkF F Pl.inE)) := by
    refine hide fun hb w0 W g hW0 hg hW hsc => ?_
    have hn := Pl.body_nodes 4 F hb
    have := body_any F 4 Pl.inE v g w0 (Pl.body_form hb) hs hl (hr.later hW0) hg W [[105, 110]] [] 0 hW hsc (fun _ => Pl.tells_in) (by simp; omega)
    rwa [Pl.orr_right] at this
  obtain ⟨ad, cap, rfl, _, _, _⟩ := hr
  clear hwf hs hw
  cases hb1 : Pl.nameB nm
  · rw [hb1] at hq1
    have HE : Hid (Pl.checkP nm F = 1) := by show _ = _; simp [Pl.checkP, hb1]
    clear hb1 hq2 hq3
    go_enter Tryz.func16, Tryz.ntmps16
    go_wp2_with fail
    refine (hq1.out _).mono ?_
    rintro e w1 ⟨rfl, hB1⟩
    have HB1 : Hid (Below w.heap.size w w1) := by first | exact hB1 | exact ((Below.refl _ _).alloc (Nat.le_refl _) _).trans (hB1.mono (by simp))
    clear hB1
    go_wp2
    go_ret
    exact ⟨by rw [HE.out]; rfl, HB1.out⟩
  · rw [hb1] at hq1
    go_enter Tryz.func16, Tryz.ntmps16
    go_wp2_with fail
    refine (hq1.out _).mono ?_
    rintro e w1 ⟨rfl, hB1⟩
    have HA : Hid (Below w.heap.size w (w.alloc (.cells #[.string nm, .slice ad F.len cap] 30))) := (Below.refl _ _).alloc (Nat.le_refl _) _
    have c1 : w1.cell? ⟨w.heap.size, 1, none⟩ = some (.slice ad F.len cap) := boxC hB1 (by simp) 1
    have hs1 : w.heap.size < w1.heap.size := by have := hB1.size; simp at this; omega
    have HB1 : Hid (Below w.heap.size w w1) := HA.out.trans (hB1.mono (by simp))
    clear hB1 HA hq1
    go_wp2_with fail
    refine (hq2.out _ HB1.out).mono ?_
    rintro e w2 ⟨rfl, hB2⟩
    have c2 : w2.cell? ⟨w.heap.size, 1, none⟩ = some (.slice ad F.len cap) := (hB2.cell (p := ⟨w.heap.size, 1, none⟩) hs1).trans c1
    have hs2 : w.heap.size < w2.heap.size := by have := hB2.size; omega
    have HB2 : Hid (Below w.heap.size w w2) := HB1.out.trans (hB2.mono HB1.out.size)
    clear hB2 hq2 HB1 c1 hs1
    cases hb2 : Pl.bodyB F 4
    · have HE : Hid (Pl.checkP nm F = 1) := by show _ = _; simp [Pl.checkP, hb2]
      clear hb1 hb2 hq3
      go_wp2
      go_ret
      exact ⟨by rw [HE.out]; rfl, HB2.out⟩
    · have HE : Hid (Pl.checkP nm F = Pl.chkF F Pl.inE) := by show _ = _; simp [Pl.checkP, hb1, hb2]
      have HQ := hide (hq3.out hb2)
      clear hb1 hb2 hq3
      have HSC := hide (sc_in w2)
      have HB3 : Hid (Below w2.heap.size w2 ((w2.alloc (.cells #[.string ⟨#[105, 110]⟩] 9)).alloc (.cells #[.slice (some ⟨w2.heap.size, 0, none⟩) 1 1, .slice none 0 0, .int .i64 0] 67))) := ((Below.refl _ _).alloc (Nat.le_refl _) _).alloc (by simp) _
      go_wp2_with fail
      refine (HQ.out w2 _ _ HB2.out (by omega) HB3.out HSC.out).mono ?_
      rintro e w4 ⟨rfl, hg4, hs4⟩
      have HB4 : Hid (Below w.heap.size w w4) := (HB2.out.trans (HB3.out.mono HB2.out.size)).grown hg4 (by have := HB2.out.size; have := HB3.out.size; omega) (fun j e => by cases e; omega)
      obtain ⟨vv, vc, hbk, _⟩ := hs4
      have c4 := cell_of_block hbk 2
      simp only [List.getElem?_toArray, List.getElem?_cons_zero, List.getElem?_cons_succ] at c4
      clear hbk hg4 HQ HSC HB3 c2
      go_wp2
      go_ret
      exact ⟨by rw [HE.out]; rfl, HB4.out⟩
end Go.Proofs.YtnikomgdcddchaaGreat

/- ProgCheck, as the program has it. -/
namespace Go.Proofs.YtnikomgdcddchaaGreat
open Go.RowKit Go.Maps Go.WideMaps
set_option linter.unusedVariables false

set_option maxRecDepth 100000 in
set_option maxHeartbeats 1600000 in
theorem implProgCheck_any (nm : ByteArray) (F : Ps) (v : Value) (w : World) (hw : nm.size ≤ maxLen) (hwf : F.Wf) (hl : F.len ≤ 1048576) (hs : F.Sm) (hr : PRow 0 w F v) :
    Calls Tryz.prog 23 #[.agg #[.string nm, v]] w fun e w' => e = .returned (.int .i64 (Pl.checkP nm F)) ∧ Below w.heap.size w w' := by
  have hq1 := hide (fun W => implNameOk_any nm hw W)
  have hq2 : Hid (∀ W, Below w.heap.size w W → Calls Tryz.prog 44 #[v, .int .i64 4] W fun e w' => e = .returned (.bool (Pl.bodyB F 4)) ∧ Below W.heap.size W w') := fun W hW => bodyFits_any 4 F (Nat.le_refl _) v W hwf hl hs (hr.later hW)
  have hq3 : Hid (Pl.bodyB F 4 = true → BcQ F v w) := by
    refine hide fun hb => ?_
    have h8 : F.len ≤ 8 := by
      simp only [Pl.bodyB, Bool.and_eq_true, decide_eq_true_eq] at hb
      exact hb.2.1.2
    exact bodyCheck_any F 4 v w (Pl.body_form hb) hwf hs h8 hr
  obtain ⟨ad, cap, rfl, _, _, _⟩ := hr
  clear hwf hs hw
  cases hb1 : Pl.nameB nm
  · rw [hb1] at hq1
    have HE : Hid (Pl.checkP nm F = 1) := by show _ = _; simp [Pl.checkP, hb1]
    clear hb1 hq2 hq3
    go_enter Tryz.func23, Tryz.ntmps23
    go_wp2_with fail
    refine (hq1.out _).mono ?_
    rintro e w1 ⟨rfl, rfl⟩
    go_wp2
    go_ret
    exact ⟨by rw [HE.out]; rfl, (Below.refl _ _).alloc (Nat.le_refl _) _⟩
  · rw [hb1] at hq1
    go_enter Tryz.func23, Tryz.ntmps23
    go_wp2_with fail
    refine (hq1.out _).mono ?_
    rintro e w1 ⟨rfl, rfl⟩
    have HB1 : Hid (Below w.heap.size w (w.alloc (.cells #[.string nm, .slice ad F.len cap] 30))) := (Below.refl _ _).alloc (Nat.le_refl _) _
    go_wp2_with fail
    refine (hq2.out _ HB1.out).mono ?_
    rintro e w2 ⟨rfl, hB2⟩
    have c2 : w2.cell? ⟨w.heap.size, 1, none⟩ = some (.slice ad F.len cap) := boxC hB2 (by simp) 1
    have hs2 : w.heap.size < w2.heap.size := by have := hB2.size; simp at this; omega
    have HB2 : Hid (Below w.heap.size w w2) := HB1.out.trans (hB2.mono (by simp))
    clear hB2 hq2 HB1 hq1
    cases hb2 : Pl.bodyB F 4
    · have HE : Hid (Pl.checkP nm F = 1) := by show _ = _; simp [Pl.checkP, hb2]
      clear hb1 hb2 hq3
      go_wp2
      go_ret
      exact ⟨by rw [HE.out]; rfl, HB2.out⟩
    · have HE : Hid (Pl.checkP nm F = Pl.chkF F Pl.inE) := by show _ = _; simp [Pl.checkP, hb1, hb2]
      have HQ := hide (hq3.out hb2)
      clear hb1 hb2 hq3
      have hmm := @run_makeMap Tryz.prog
      have hkey : keyOf Tryz.prog 9 (.string { data := #[105, 110] }) = some (.string [105, 110]) := keyOf_string_mk Tryz.underlying9 (by decide)
      have hmade := World.ownsMap_made w2 Tryz.prog 9 (plainElem (H := Unit) Tryz.prog 3)
      obtain ⟨w3, hrun3, hown3, hg3⟩ := hmade.update lawS Tryz.underlying81 (by decide) hkey (plainElem_int Tryz.underlying3 (show (Lit.int .i64 1).wf = true by decide))
      have HG3 := hide hg3
      have HO3 := hide hown3
      have HM3 := hide hmade.isMap
      have hs3 : w2.heap.size + 1 ≤ w3.heap.size := by have := hg3.size; simpa using this
      have HB3 : Hid (Below w.heap.size w w3) := by
        have h1 : Below w.heap.size w (w2.alloc (.map #[] 0)) := HB2.out.alloc (by omega) _
        exact h1.grown hg3 h1.size (fun j e => by cases e; omega)
      clear hown3 hg3 hmade hkey
      have c3 : w3.cell? ⟨w.heap.size, 1, none⟩ = some (.slice ad F.len cap) := by
        have hk := HG3.out.block w.heap.size (by simp; omega) (fun e => by have := Option.some.inj e; omega)
        have hk2 : (w2.alloc (.map #[] 0)).heap[w.heap.size]? = w2.heap[w.heap.size]? := by rw [heap_alloc_at, if_neg (by omega)]
        rw [← c2]
        simp only [World.cell?]
        rw [hk, hk2]
      have hs4 : w.heap.size < w3.heap.size := by omega
      have HC3 : Hid (ChAt (w3.alloc (.cells #[.map (some w2.heap.size), .pointer none] 83)) [(w3.heap.size, w2.heap.size, 1, Pl.inE)] (.pointer (some ⟨w3.heap.size, 0, none⟩))) := by
        refine hide ⟨rfl, .pointer none, ⟨by rw [heap_alloc_at, if_pos rfl], ⟨_, HO3.out.alloc _, put_tells HM3.out (fun x => rfl) [105, 110] 1⟩, fun p hp => ?_, by simp [ptrN], fun q hq => by simp at hq⟩, rfl⟩
        simp [Pl.inE] at hp
        subst hp
        decide
      have HB4 : Hid (Below w.heap.size w (w3.alloc (.cells #[.map (some w2.heap.size), .pointer none] 83))) := HB3.out.alloc (by omega) _
      clear c2
      go_wp2_with fail
      refine (HQ.out _ _ _ HB4.out HC3.out).mono ?_
      rintro e w5 ⟨rfl, hB5⟩
      have HB5 : Hid (Below w.heap.size w w5) := HB4.out.trans (hB5.mono HB4.out.size)
      have HE' : Hid (Pl.checkP nm F = Pl.chkF F (flat [(w3.heap.size, w2.heap.size, 1, Pl.inE)])) := by
        show _ = _
        rw [HE.out]
        simp [flat]
      clear hB5 hrun3 hmm
      go_wp2
      go_ret
      exact ⟨by rw [HE'.out]; rfl, HB5.out⟩
end Go.Proofs.YtnikomgdcddchaaGreat

/- Whether names and values are ok, and what an expression is then, as the specification has it. -/
import Derived.Test.YtiffgomkhoalpaaGreatDoorEvS9
namespace Go.Proofs.YtiffgomkhoalpaaGreatDoor
open Go.RowKit
set_option linter.unusedVariables false
set_option linter.unusedSimpArgs false
namespace Pl
/-- one name with its value is ok, and is not there ahead -/
def varB (l : List Pr) (i : Nat) (p : Pr) : Bool := (nameB p.nm && okA p.v) && !((l.take i).any (fun q => q.nm.data.toList == p.nm.data.toList))
theorem varsB_all {l : List Pr} (h : ∀ i p, l[i]? = some p → varB l i p = true) : varsB l = true := by
  unfold varsB
  rw [List.all_eq_true]
  intro i hi
  cases he : l[i]? with
  | none => rfl
  | some p => exact h i p he
theorem varsB_not {l : List Pr} {i : Nat} {p : Pr} (hi : l[i]? = some p) (h : varB l i p = false) : varsB l = false := by
  unfold varsB
  rw [List.all_eq_false]
  refine ⟨i, List.mem_range.2 (List.getElem?_eq_some_iff.1 hi).1, ?_⟩
  simp only [hi]
  unfold varB at h
  rw [h]
  simp
end Pl
/-- the place found is the own one just if the name is not there ahead -/
theorem var_first {l : List Pl.Pr} {i : Nat} {p : Pl.Pr} {r : Int} (hi : l[i]? = some p) (h : VarIs l p.nm r) : (r = i ↔ (l.take i).any (fun q => q.nm.data.toList == p.nm.data.toList) = false) := by
  constructor
  · intro hr
    rcases h with ⟨h, _⟩ | ⟨i', p', hi', hp', he, hb⟩
    · omega
    · have : i = i' := by omega
      subst this
      rw [List.any_eq_false]
      intro q hq
      obtain ⟨j, hj⟩ := List.mem_iff_getElem?.1 hq
      rw [List.getElem?_take] at hj
      split at hj
      · next hlt =>
        have := hb j q hlt hj
        rw [ByteArray.toList_eq, ByteArray.toList_eq] at this
        simp [this]
      · cases hj
  · intro ha
    rw [List.any_eq_false] at ha
    rcases h with ⟨_, h⟩ | ⟨i', p', hi', hp', he, hb⟩
    · have := h p (List.mem_of_getElem? hi)
      simp at this
    · have h1 : ¬ i' < i := by
        intro hlt
        have := ha p' (List.mem_of_getElem? (show (l.take i)[i']? = some p' by rw [List.getElem?_take, if_pos hlt]; exact hp'))
        rw [ByteArray.toList_eq, ByteArray.toList_eq] at he
        exact this he
      have h2 : ¬ i < i' := by
        intro hlt
        have := hb i p hlt hi
        simp at this
      omega
set_option maxHeartbeats 3200000 in
theorem l2Vars_any (l : List Pl.Pr) (hwf : ∀ p ∈ l, PrWf p) (vl : Value) (w : World) (hr : PrRow w l vl) :
    Calls Tryz.prog 29 #[vl] w fun e w' => e = .returned (.bool (Pl.varsB l)) ∧ Below w.heap.size w w' := by
  have HRW := hide hr
  obtain ⟨ad, cap, rfl, hc, hm, hx⟩ := hr
  unfold maxLen at hm
  have HX := hide hx
  have HW := hide hwf
  clear hx hwf
  go_enter Tryz.func29, Tryz.ntmps29
  go_wp2_with fail
  go_loopw [3] (fun iv wr => ∃ i : Nat, i ≤ l.length ∧ iv = .int .i64 i ∧ Hid (∀ j q, j < i → l[j]? = some q → Pl.varB l j q = true) ∧ Hid (Below w.heap.size w wr)) (fun iv _ => l.length - (intOf iv).toNat)
  case atStart => exact ⟨0, by omega, rfl, hide (fun j q hj => by omega), hide (Below.refl _ _)⟩
  case round =>
    obtain ⟨i, hi, rfl, HN, HB⟩ := hrel
    by_cases hlt : i < l.length
    · obtain ⟨g, off, rfl, hg, hs⟩ := HX.out (by omega)
      obtain ⟨p, hp⟩ : ∃ p, l[i]? = some p := ⟨_, List.getElem?_eq_getElem hlt⟩
      have hwp := HW.out p (List.mem_of_getElem? hp)
      have HP := hide hp
      have HAT := hide (hs i p hp)
      have hnm := hide (l1Name_any p.nm hwp.1)
      have hvo := hide (specValueOk_any p.v.k p.v.n p.v.t hwp.2)
      have hva := hide (fun W hW => l2Var_any l p.nm _ W (HRW.out.later hW))
      have HVB : Hid (Pl.varB l i p = ((Pl.nameB p.nm && Pl.okB p.v.k p.v.n p.v.t) && !((l.take i).any (fun q => q.nm.data.toList == p.nm.data.toList)))) := rfl
      have HNO : Hid (Pl.varB l i p = false → Pl.varsB l = false) := fun h => Pl.varsB_not HP.out h
      have HYES : Hid (Pl.varB l i p = true → ∀ j q, j < i + 1 → l[j]? = some q → Pl.varB l j q = true) := by
        intro h j q hj hq
        by_cases hji : j = i
        · subst hji
          rw [HP.out] at hq
          cases hq
          exact h
        · exact HN.out j q (by omega) hq
      have hii : (i : Int) < (l.length : Int) := by omega
      clear hs hp hwp
      obtain ⟨c0, _, _, _⟩ := HAT.out.later HB.out hg
      have hgr : g < wr.heap.size := by have := HB.out.size; omega
      generalize Pl.nameB p.nm = nb at *
      generalize Pl.okB p.v.k p.v.n p.v.t = ob at *
      go_wp2_with fail
      refine (hnm.out _).mono ?_
      rintro e w1 ⟨rfl, hB1⟩
      have HB1 := hide (HB.out.trans (hB1.mono HB.out.size))
      clear hB1 hnm c0 hgr HB
      cases nb
      · go_wp2
        go_ret
        exact ⟨by rw [HNO.out (by rw [HVB.out]; rfl)]; rfl, HB1.out⟩
      · obtain ⟨c0, c1, c2, c3⟩ := HAT.out.later HB1.out hg
        have hgr : g < w1.heap.size := by have := HB1.out.size; omega
        go_wp2_with fail
        refine (hvo.out _).mono ?_
        rintro e w2 ⟨rfl, hB2⟩
        have HB2 := hide (HB1.out.trans (hB2.mono HB1.out.size))
        clear hB2 hvo c0 c1 c2 c3 hgr HB1
        cases ob
        · go_wp2
          go_ret
          exact ⟨by rw [HNO.out (by rw [HVB.out]; rfl)]; rfl, HB2.out⟩
        · obtain ⟨c0, c1, c2, c3⟩ := HAT.out.later HB2.out hg
          have hgr : g < w2.heap.size := by have := HB2.out.size; omega
          go_wp2_with fail
          refine (hva.out _ HB2.out).mono ?_
          rintro e w3 ⟨r, rfl, hv, hr0, hr1, rfl⟩
          have HF := hide (var_first HP.out hv)
          clear hv hva
          by_cases hri : r = i
          · have hne : (r != (i : Int)) = false := by simp [hri]
            have HO := hide (HYES.out (by rw [HVB.out, HF.out.1 hri]; rfl))
            clear hri HF
            go_wp2
            go_roundw
            case rel => exact ⟨i + 1, by omega, by go_num, HO, HB2⟩
            case measure => simp [intOf]; omega
          · have hne : (r != (i : Int)) = true := by simp [hri]
            have HO := hide (HNO.out (by
              rw [HVB.out]
              cases ha : (l.take i).any (fun q => q.nm.data.toList == p.nm.data.toList)
              · exact absurd (HF.out.2 ha) hri
              · rfl))
            clear hri HF
            go_wp2
            go_ret
            exact ⟨by rw [HO.out]; rfl, HB2.out⟩
    · have HA : Hid (Pl.varsB l = true) := Pl.varsB_all fun j q hq => HN.out j q (by have := (List.getElem?_eq_some_iff.1 hq).1; omega) hq
      go_wp2_with fail
      go_ret
      exact ⟨by rw [HA.out]; rfl, HB.out⟩
/-- what is told of an expression -/
def Pl.evalO (l : List Pl.Pr) (nd : Nd) (k : Fo) : Option Va := if (Pl.okN nd k 5 && Pl.varsB l) = true then Pl.ev (Pl.lookP l) nd k else none
set_option maxHeartbeats 1600000 in
theorem specExprEval_any (nd : Nd) (k : Fo) (v : Value) (l : List Pl.Pr) (hpw : ∀ p ∈ l, PrWf p) (vl : Value) (w : World) (ht : nd.vt.size ≤ maxLen) (hn : nd.nm.size ≤ maxLen) (hwf : k.Wf) (hl : k.len ≤ 1048576) (hs : k.Sm) (hr : RowAt 0 w k v) (hrl : PrRow w l vl) :
    Calls Tryz.prog 11 #[ndV nd v, vl] w (EvPost (Pl.evalO l nd k) w) := by
  have hok := hide (fun W (hW : Below w.heap.size w W) => specExprOk_any nd k v W ht hn hwf hl hs (hr.later hW))
  have hva := hide (fun W (hW : Below w.heap.size w W) => l2Vars_any l hpw vl W (hrl.later hW))
  have hev := hide (fun (h1 : Pl.okN nd k 5 = true) (h2 : Pl.varsB l = true) W (hW : Below w.heap.size w W) => l2Eval_any 5 nd k v l vl W h1 h2 (hr.later hW) (hrl.later hW))
  have hR : Hid (∀ b1 b2, Pl.okN nd k 5 = b1 → Pl.varsB l = b2 → Pl.evalO l nd k = if (b1 && b2) = true then Pl.ev (Pl.lookP l) nd k else none) := by
    intro b1 b2 h1 h2
    subst h1 h2
    rfl
  have HS := hide (EB.start (w := w) (nd := nd) (v := v))
  obtain ⟨ad, cap, rfl, _⟩ := hr
  obtain ⟨a2, c2, rfl, _⟩ := hrl
  obtain ⟨nk, vk, vn, vt, nm⟩ := nd
  have hq : ∃ b1 b2, Pl.okN ⟨nk, vk, vn, vt, nm⟩ k 5 = b1 ∧ Pl.varsB l = b2 := ⟨_, _, rfl, rfl⟩
  obtain ⟨b1, b2, hb1, hb2⟩ := hq
  have hR2 := hide (hR.out b1 b2 hb1 hb2)
  rw [hb1] at hok
  rw [hb2] at hva
  have H1 := hide hb1
  have H2 := hide hb2
  clear ht hn hwf hs hpw hR hb1 hb2
  generalize Pl.evalO l ⟨nk, vk, vn, vt, nm⟩ k = R at *
  generalize Pl.ev (Pl.lookP l) ⟨nk, vk, vn, vt, nm⟩ k = R0 at *
  go_enter Tryz.func11, Tryz.ntmps11
  go_wp2_with fail
  refine (hok.out _ (two_below _ _ _)).mono ?_
  rintro e w1 ⟨rfl, hB1⟩
  have HX1 := hide (HS.out.later hB1)
  clear hB1 HS hok
  cases b1
  · obtain ⟨hb, r0, r1, r2, f0, f1, f2⟩ := HX1.out.back
    go_wp2
    obtain ⟨m0, m1, m2⟩ := es3 HX1.out.2.1 (.int .i64 0) (.int .i64 0) (.string ⟨#[]⟩)
    refine bodyPost_ret (v := .tuple #[vaV ⟨0, 0, ⟨#[]⟩⟩, .bool false]) (by simp [results, Tryz.results11, go_sem, m0, m1, m2]) rfl ?_
    exact ⟨by rw [hR2.out]; rfl, below_es3 HX1.out.2.2 (by omega) _ _ _⟩
  · go_wp2_with fail
    refine (hva.out _ HX1.out.2.2).mono ?_
    rintro e w2 ⟨rfl, hB2⟩
    have HX2 := hide (HX1.out.later hB2)
    clear hB2 HX1 hva
    cases b2
    · obtain ⟨hb, r0, r1, r2, f0, f1, f2⟩ := HX2.out.back
      go_wp2
      obtain ⟨m0, m1, m2⟩ := es3 HX2.out.2.1 (.int .i64 0) (.int .i64 0) (.string ⟨#[]⟩)
      refine bodyPost_ret (v := .tuple #[vaV ⟨0, 0, ⟨#[]⟩⟩, .bool false]) (by simp [results, Tryz.results11, go_sem, m0, m1, m2]) rfl ?_
      exact ⟨by rw [hR2.out]; rfl, below_es3 HX2.out.2.2 (by omega) _ _ _⟩
    · have hbp : w.heap.size < w2.heap.size := (Array.getElem?_eq_some_iff.1 HX2.out.1).1
      have p0 : w2.cell? ⟨w.heap.size, 0, none⟩ = some (.int .i64 nk) := cell_of_block HX2.out.1 0
      have p1 : w2.cell? ⟨w.heap.size, 1, none⟩ = some (.int .i64 vk) := cell_of_block HX2.out.1 1
      have p2 : w2.cell? ⟨w.heap.size, 2, none⟩ = some (.int .i64 vn) := cell_of_block HX2.out.1 2
      have p3 : w2.cell? ⟨w.heap.size, 3, none⟩ = some (.string vt) := cell_of_block HX2.out.1 3
      have p4 : w2.cell? ⟨w.heap.size, 4, none⟩ = some (.string nm) := cell_of_block HX2.out.1 4
      have p5 : w2.cell? ⟨w.heap.size, 5, none⟩ = some (.slice ad k.len cap) := cell_of_block HX2.out.1 5
      have hev' := hide (hev.out H1.out H2.out)
      go_wp2_with fail
      refine (hev'.out _ HX2.out.2.2).mono ?_
      rintro e w3 ⟨rfl, hB3⟩
      have HX3 := hide (HX2.out.later hB3)
      unfold evR
      clear hB3 HX2 hev hev' p0 p1 p2 p3 p4 p5 hbp
      have hRR : Hid (R = R0) := hR2
      clear hR2
      obtain ⟨hb, r0, r1, r2, f0, f1, f2⟩ := HX3.out.back
      cases R0 with
      | none =>
        go_wp2
        obtain ⟨m0, m1, m2⟩ := es3 HX3.out.2.1 (.int .i64 0) (.int .i64 0) (.string ⟨#[]⟩)
        refine bodyPost_ret (v := .tuple #[vaV ⟨0, 0, ⟨#[]⟩⟩, .bool false]) (by simp [results, Tryz.results11, go_sem, m0, m1, m2]) rfl ?_
        exact ⟨by rw [hRR.out]; rfl, below_es3 HX3.out.2.2 (by omega) _ _ _⟩
      | some x =>
        go_wp2
        obtain ⟨m0, m1, m2⟩ := es3 HX3.out.2.1 (.int .i64 x.k) (.int .i64 x.n) (.string x.t)
        refine bodyPost_ret (v := .tuple #[vaV x, .bool true]) (by simp [results, Tryz.results11, go_sem, m0, m1, m2]) rfl ?_
        exact ⟨by rw [hRR.out]; rfl, below_es3 HX3.out.2.2 (by omega) _ _ _⟩
end Go.Proofs.YtiffgomkhoalpaaGreatDoor

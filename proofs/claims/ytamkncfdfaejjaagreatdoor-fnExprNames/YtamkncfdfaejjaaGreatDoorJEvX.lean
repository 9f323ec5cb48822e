/- Joined: EvV1 EvV2 EvX1. -/
import Derived.Test.YtamkncfdfaejjaaGreatDoorEvM1
import Derived.Test.YtamkncfdfaejjaaGreatDoorJEvS
import Derived.Test.YtamkncfdfaejjaaGreatDoorBx
import Derived.Test.YtamkncfdfaejjaaGreatDoorNmAt
import Derived.Test.YtamkncfdfaejjaaGreatDoorJEvB
import Derived.Test.YtamkncfdfaejjaaGreatDoorJOk2
/- What names are, kept in a map: a name more; a look at it. -/
namespace Go.Proofs.YtamkncfdfaejjaaGreatDoor
open Go.RowKit Go.Maps Go.WideMaps
set_option linter.unusedVariables false
set_option linter.unusedSimpArgs false
theorem MapV.put {W : World} {b n : Nat} {x : List UInt8} {v : Va} {D : DataW Unit} {L : Pl.Look} (h : W.ownsMap Tryz.prog 9 valE b n (D.put (.string x) (datA v))) (hD : IsMap D) (h1 : ∀ y, Maps.has D (.string y) = (L y).isSome) (h2 : ∀ y, D.atKey (.string y) (datA zeroA) = datA ((L y).getD zeroA)) :
    MapV W b n (fun y => if y = x then some v else L y) := by
  refine ⟨_, h, hD.put _ _, fun y => ?_, fun y => ?_⟩
  · by_cases hy : y = x
    · subst hy
      rw [has_put_same hD (show WideAt.IsKeyLit (.string y) from True.intro)]
      simp
    · rw [has_put_other (by intro hh; cases hh; exact hy rfl), h1]
      simp [hy]
  · by_cases hy : y = x
    · subst hy
      rw [atKey_put_same hD (show WideAt.IsKeyLit (.string y) from True.intro)]
      simp
    · rw [atKey_put_other (by intro hh; cases hh; exact hy rfl), h2]
      simp [hy]
theorem MapV.congr {W : World} {b n : Nat} {L L' : Pl.Look} (h : MapV W b n L) (he : ∀ y, L y = L' y) : MapV W b n L' := by
  have : L = L' := funext he
  rw [← this]
  exact h
theorem look_some {l : List Pl.Pr} {x : List UInt8} : (Pl.lookP l x).isSome = l.any (fun q => q.nm.data.toList == x) := by
  unfold Pl.lookP Pl.prAt
  rw [Option.isSome_map]
  induction l with
  | nil => rfl
  | cons p r ih =>
    simp only [List.find?_cons, List.any_cons]
    cases h : p.nm.data.toList == x
    · simpa using ih
    · simp
theorem look_take {l : List Pl.Pr} {i : Nat} {p : Pl.Pr} (hi : l[i]? = some p) (hn : (l.take i).any (fun q => q.nm.data.toList == p.nm.data.toList) = false) (y : List UInt8) :
    (if y = p.nm.data.toList then some p.v else Pl.lookP (l.take i) y) = Pl.lookP (l.take (i + 1)) y := by
  have hl : i < l.length := (List.getElem?_eq_some_iff.1 hi).1
  have he : l.take (i + 1) = l.take i ++ [p] := by
    rw [List.take_add_one, hi]
    rfl
  rw [he]
  unfold Pl.lookP Pl.prAt
  rw [List.find?_append]
  by_cases hy : y = p.nm.data.toList
  · rw [if_pos hy]
    have hf : (l.take i).find? (fun q => q.nm.data.toList == y) = none := by
      rw [List.find?_eq_none]
      intro q hq
      rw [List.any_eq_false] at hn
      rw [hy]
      exact hn q hq
    rw [hf]
    simp [hy]
  · rw [if_neg hy]
    have : ¬ p.nm.data.toList = y := fun h => hy h.symm
    simp [List.find?_cons, this]
/-- a look at a name -/
theorem MapV.look {w : World} {b n : Nat} {L : Pl.Look} (h : MapV w b n L) (nm : ByteArray) (hnm : nm.size ≤ maxLen) :
    (Instr.lookup 64 (.map (some b)) (.string nm) true).run Tryz.prog w = .ok (.tuple #[vaV ((L nm.data.toList).getD zeroA), .bool (L nm.data.toList).isSome]) w := by
  obtain ⟨D, hown, hD, hhas, hat⟩ := h
  have hkey : keyOf Tryz.prog 9 (.string nm) = some (.string nm.data.toList) := Go.WideMaps.keyOf_string_mk Tryz.underlying9 hnm
  obtain ⟨v, ps, hrun, hv⟩ := hown.look_ok keyS Tryz.underlying64 (zeroVal w) (valE_mk zeroA) hkey
  obtain ⟨y, rfl, hy⟩ := valE_inv hv
  rw [hhas] at hrun
  have hxx : (L nm.data.toList).getD zeroA = y := by
    have h1 := congrArg Prod.fst hy
    simp only at h1
    rw [hat] at h1
    exact datA_inj h1
  rw [hxx]
  exact hrun
/-- one more of them, in a block of its own -/
def VP (w : World) (p : Pl.Pr) (X : World) : Prop := X.heap[w.heap.size]? = some (.cells #[.string p.nm, .int .i64 p.v.k, .int .i64 p.v.n, .string p.v.t] 51 (0, 0)) ∧ Below w.heap.size w X
theorem VP.later {w X X1 : World} {p : Pl.Pr} (h : VP w p X) (hB : Below X.heap.size X X1) : VP w p X1 :=
  ⟨(hB.block _ (Array.getElem?_eq_some_iff.1 h.1).1).trans h.1, h.2.trans (hB.mono h.2.size)⟩
theorem VP.start {w : World} {p : Pl.Pr} {o : Obj} : VP w p ((w.alloc (.cells #[.string p.nm, .int .i64 p.v.k, .int .i64 p.v.n, .string p.v.t] 51)).alloc o) := by
  have e1 : (w.alloc (.cells #[.string p.nm, .int .i64 p.v.k, .int .i64 p.v.n, .string p.v.t] 51)).heap.size = w.heap.size + 1 := by simp
  refine ⟨?_, two_below _ _ _⟩
  rw [heap_alloc_at, if_neg (by omega), heap_alloc_at, if_pos rfl]
theorem VP.cells {w X : World} {p : Pl.Pr} (h : VP w p X) : w.heap.size < X.heap.size ∧ X.cell? ⟨w.heap.size, 0, none⟩ = some (.string p.nm) ∧ X.cell? ⟨w.heap.size, 1, none⟩ = some (.int .i64 p.v.k) ∧ X.cell? ⟨w.heap.size, 2, none⟩ = some (.int .i64 p.v.n) ∧ X.cell? ⟨w.heap.size, 3, none⟩ = some (.string p.v.t) :=
  ⟨(Array.getElem?_eq_some_iff.1 h.1).1, cell_of_block h.1 0, cell_of_block h.1 1, cell_of_block h.1 2, cell_of_block h.1 3⟩
end Go.Proofs.YtamkncfdfaejjaaGreatDoor

/- What each name is, as the program has it. -/
namespace Go.Proofs.YtamkncfdfaejjaaGreatDoor
open Go.RowKit Go.Maps Go.WideMaps
set_option linter.unusedVariables false
set_option linter.unusedSimpArgs false
theorem made_map (n : Int) (w : World) : (Instr.makeMap 64 (some (.int .i64 n))).run Tryz.prog w = .ok (.map (some w.heap.size)) (w.alloc (.map #[] 0)) := by kernel_rfl
/-- what is handed back -/
def VarsPost (l : List Pl.Pr) (w : World) (e : Ending) (w' : World) : Prop := Below w.heap.size w w' ∧ ((Pl.varsB l = false ∧ e = .returned (.tuple #[.map none, .bool false])) ∨ (Pl.varsB l = true ∧ ∃ b n, e = .returned (.tuple #[.map (some b), .bool true]) ∧ MapV w' b n (Pl.lookP l)))
set_option maxRecDepth 100000 in
set_option maxHeartbeats 3200000 in
theorem exprVars_any (l : List Pl.Pr) (hwf : ∀ p ∈ l, PrWf p) (vl : Value) (w : World) (hr : PrRow w l vl) :
    Calls Tryz.prog 34 #[vl] w (VarsPost l w) := by
  obtain ⟨ad, cap, rfl, hc, hm, hx⟩ := hr
  have hmm := made_map l.length
  have HM63 : Hid (cap ≤ maxLen) := hm
  unfold maxLen at hm
  have HX := hide hx
  have HW := hide hwf
  clear hx hwf
  go_enter Tryz.func34, Tryz.ntmps34
  go_wp2_with fail
  go_loopw [14] (fun iv wr => ∃ i : Nat, i ≤ l.length ∧ iv = .int .i64 i ∧ Hid (∀ j q, j < i → l[j]? = some q → Pl.varB l j q = true) ∧ Hid (MapV wr w.heap.size i (Pl.lookP (l.take i))) ∧ Hid (Below w.heap.size w wr)) (fun iv _ => l.length - (intOf iv).toNat)
  case atStart => exact ⟨0, by omega, rfl, hide (fun j q hj => by omega), hide (MapV.start w), hide ((Below.refl _ _).alloc (Nat.le_refl _) _)⟩
  case round =>
    obtain ⟨i, hi, rfl, HN, HMV, HB⟩ := hrel
    by_cases hlt : i < l.length
    · obtain ⟨g, off, rfl, hg, hs⟩ := HX.out (by omega)
      obtain ⟨p, hp⟩ : ∃ p, l[i]? = some p := ⟨_, List.getElem?_eq_getElem hlt⟩
      have hwp := HW.out p (List.mem_of_getElem? hp)
      have HP := hide hp
      have HAT := hide (hs i p hp)
      have hii : (i : Int) < (l.length : Int) := by omega
      have hMA := HMV.out.later ((Below.refl _ _).alloc (Nat.le_refl _) (.cells #[.string p.nm, .int .i64 p.v.k, .int .i64 p.v.n, .string p.v.t] 51))
      have hlook := hMA.look p.nm hwp.1
      have HLS : Hid ((Pl.lookP (l.take i) p.nm.data.toList).isSome = (l.take i).any (fun q => q.nm.data.toList == p.nm.data.toList)) := look_some
      rw [HLS.out] at hlook
      generalize (Pl.lookP (l.take i) p.nm.data.toList).getD zeroA = z at hlook
      obtain ⟨zk, zn, zt⟩ := z
      have hnm := hide (fun b (h : Pl.nameB p.nm = b) W => implName_at p.nm hwp.1 h W)
      have hvo := hide (implValueOk_any p.v.k p.v.n p.v.t hwp.2)
      have HSZ : Hid (p.nm.size ≤ maxLen) := hwp.1
      have HVB : Hid (∀ nb ob tw, Pl.nameB p.nm = nb → Pl.okB p.v.k p.v.n p.v.t = ob → (l.take i).any (fun q => q.nm.data.toList == p.nm.data.toList) = tw → Pl.varB l i p = ((nb && ob) && !tw)) := by
        intro nb ob tw h1 h2 h3
        subst h1 h2 h3
        rfl
      have HNO : Hid (Pl.varB l i p = false → Pl.varsB l = false) := fun h => Pl.varsB_not HP.out h
      have HYES : Hid (Pl.varB l i p = true → ∀ j q, j < i + 1 → l[j]? = some q → Pl.varB l j q = true) := by
        intro h j q hj hq
        by_cases hji : j = i
        · subst hji
          rw [HP.out] at hq
          cases hq
          exact h
        · exact HN.out j q (by omega) hq
      have hll : l.length ≤ maxLen := Nat.le_trans hc HM63.out
      have HIM : Hid (i < maxLen) := Nat.lt_of_lt_of_le hlt hll
      have HVP := hide (fun o => VP.start (w := wr) (p := p) (o := o))
      have HWG : Hid (w.heap.size ≤ wr.heap.size) := HB.out.size
      have HLT := hide (fun h => look_take HP.out h)
      clear hs hp hwp hMA HLS hll
      obtain ⟨nb, hnb⟩ : ∃ nb, Pl.nameB p.nm = nb := ⟨_, rfl⟩
      obtain ⟨ob, hob⟩ : ∃ ob, Pl.okB p.v.k p.v.n p.v.t = ob := ⟨_, rfl⟩
      have HTW := hide (rfl : (l.take i).any (fun q => q.nm.data.toList == p.nm.data.toList) = (l.take i).any (fun q => q.nm.data.toList == p.nm.data.toList))
      obtain ⟨tw, htw⟩ : ∃ tw, (l.take i).any (fun q => q.nm.data.toList == p.nm.data.toList) = tw := ⟨_, rfl⟩
      rw [htw] at hlook
      have HVV := hide (HVB.out nb ob tw hnb hob htw)
      replace hnm := hide (hnm.out nb hnb)
      rw [hob] at hvo
      have HT := hide htw
      clear hnb hob htw HVB HTW
      obtain ⟨c0, c1, c2, c3⟩ := HAT.out.later HB.out hg
      have hgr : g < wr.heap.size := by have := HB.out.size; omega
      cases tw
      · go_wp2_with fail
        refine (hnm.out _).mono ?_
        rintro e w1 ⟨rfl, rfl⟩
        have HP1 := hide (HVP.out (.cells #[.int .i64 zk, .int .i64 zn, .string zt] 30))
        generalize (wr.alloc (.cells #[.string p.nm, .int .i64 p.v.k, .int .i64 p.v.n, .string p.v.t] 51)).alloc (.cells #[.int .i64 zk, .int .i64 zn, .string zt] 30) = w1 at *
        clear hnm c0 c1 c2 c3 hgr hlook
        cases nb
        · have HO := hide (HNO.out (by rw [HVV.out]; rfl))
          have HB1 := hide (HB.out.trans (HP1.out.2.mono HB.out.size))
          go_wp2
          go_ret2
          exact ⟨HB1.out, .inl ⟨HO.out, rfl⟩⟩
        · obtain ⟨pb, p0, p1, p2, p3⟩ := HP1.out.cells
          go_wp2_with fail
          refine (hvo.out _).mono ?_
          rintro e w2 ⟨rfl, hB2⟩
          have HP2 := hide (HP1.out.later hB2)
          have HB2 := hide (HB.out.trans (HP2.out.2.mono HB.out.size))
          clear hB2 HP1 hvo pb p0 p1 p2 p3
          cases ob
          · have HO := hide (HNO.out (by rw [HVV.out]; rfl))
            go_wp2
            go_ret2
            exact ⟨HB2.out, .inl ⟨HO.out, rfl⟩⟩
          · have HO := hide (HYES.out (by rw [HVV.out]; rfl))
            obtain ⟨pb, p0, p1, p2, p3⟩ := HP2.out.cells
            obtain ⟨D, hown, hD, hhas, hat⟩ := HMV.out.later HP2.out.2
            have hkey : keyOf Tryz.prog 9 (.string p.nm) = some (.string p.nm.data.toList) := Go.WideMaps.keyOf_string_mk Tryz.underlying9 HSZ.out
            have HD := hide hD
            have HH := hide hhas
            have HA := hide hat
            clear hD hhas hat
            go_wp2_with (first | (at_mapUpdate; refine wpList_mapUpdate_own _ rfl _ _ _ 64 rfl 9 30 keyS Tryz.underlying64 valE _ i D rfl hown HIM.out _ _ _ rfl rfl hkey _ [] (valE_mk p.v) ?_; intro w3 hown3 hgrow3) | fail)
            have HM3 := hide ((MapV.put hown3 HD.out HH.out HA.out).congr (HLT.out HT.out))
            have HB3 : Hid (Below w.heap.size w w3) := HB2.out.trans ⟨hgrow3.os, hgrow3.tape, hgrow3.output, hgrow3.size, fun k hk => hgrow3.block k (by have := HB2.out.size; omega) (by intro h; cases h; omega)⟩
            clear hown3 hgrow3 hown pb p0 p1 p2 p3 HP2
            go_wp2
            go_roundw
            case rel => exact ⟨i + 1, by omega, by go_num, HO, HM3, HB3⟩
            case measure => simp [intOf]; omega
      · have HO := hide (HNO.out (by rw [HVV.out]; simp))
        have HB1 : Hid (Below w.heap.size w ((wr.alloc (.cells #[.string p.nm, .int .i64 p.v.k, .int .i64 p.v.n, .string p.v.t] 51)).alloc (.cells #[.int .i64 zk, .int .i64 zn, .string zt] 30))) := HB.out.trans ((HVP.out _).2.mono HB.out.size)
        go_wp2
        go_ret2
        exact ⟨HB1.out, .inl ⟨HO.out, rfl⟩⟩
    · have HA : Hid (Pl.varsB l = true) := Pl.varsB_all fun j q hq => HN.out j q (by have := (List.getElem?_eq_some_iff.1 hq).1; omega) hq
      have hil : i = l.length := by omega
      have HQ : Hid (MapV wr w.heap.size i (Pl.lookP l)) := by
        have := HMV.out
        rw [hil, List.take_length] at this
        rw [hil]
        exact this
      clear hil
      go_wp2_with fail
      go_ret2
      exact ⟨HB.out, .inr ⟨HA.out, _, _, rfl, HQ.out⟩⟩
end Go.Proofs.YtamkncfdfaejjaaGreatDoor

/- What an expression is, as the program has it. -/
namespace Go.Proofs.YtamkncfdfaejjaaGreatDoor
open Go.RowKit
set_option linter.unusedVariables false
set_option linter.unusedSimpArgs false
set_option maxRecDepth 100000 in
set_option maxHeartbeats 3200000 in
theorem implExprEval_any (nd : Nd) (k : Fo) (v : Value) (l : List Pl.Pr) (hpw : ∀ p ∈ l, PrWf p) (vl : Value) (w : World) (ht : nd.vt.size ≤ maxLen) (hn : nd.nm.size ≤ maxLen) (hwf : k.Wf) (hl : k.len ≤ 1048576) (hs : k.Sm) (hr : RowAt 0 w k v) (hrl : PrRow w l vl) (hE : ErrT w) :
    Calls Tryz.prog 14 #[ndV nd v, vl] w (EvPost (Pl.evalO l nd k) w) := by
  have hok := hide (fun W (hW : Below w.heap.size w W) => implExprOk_any nd k v W ht hn hwf hl hs (hr.later hW))
  have hva := hide (fun W (hW : Below w.heap.size w W) => exprVars_any l hpw vl W (hrl.later hW))
  have hev := hide (fun (h1 : Pl.okN nd k 5 = true) (h2 : Pl.varsB l = true) b n W (hW : Below w.heap.size w W) (hm : MapV W b n (Pl.lookP l)) => exprBy_any 5 nd k v (Pl.lookP l) b n W h1 (Pl.look_ok h2) (hr.later hW) hm (hE.later hW))
  have hR : Hid (∀ b1 b2, Pl.okN nd k 5 = b1 → Pl.varsB l = b2 → Pl.evalO l nd k = if (b1 && b2) = true then Pl.ev (Pl.lookP l) nd k else none) := by
    intro b1 b2 h1 h2
    subst h1 h2
    rfl
  have HS := hide (EB.start (w := w) (nd := nd) (v := v))
  obtain ⟨ad, cap, rfl, _⟩ := hr
  obtain ⟨a2, c2, rfl, _⟩ := hrl
  obtain ⟨nk, vk, vn, vt, nm⟩ := nd
  have hq : ∃ b1 b2, Pl.okN ⟨nk, vk, vn, vt, nm⟩ k 5 = b1 ∧ Pl.varsB l = b2 := ⟨_, _, rfl, rfl⟩
  obtain ⟨b1, b2, hb1, hb2⟩ := hq
  have hR2 := hide (hR.out b1 b2 hb1 hb2)
  rw [hb1] at hok
  unfold VarsPost at hva
  rw [hb2] at hva
  have H1 := hide hb1
  have H2 := hide hb2
  clear ht hn hwf hs hpw hR hb1 hb2 hE
  generalize Pl.evalO l ⟨nk, vk, vn, vt, nm⟩ k = R at *
  generalize Pl.ev (Pl.lookP l) ⟨nk, vk, vn, vt, nm⟩ k = R0 at *
  go_enter Tryz.func14, Tryz.ntmps14
  go_wp2_with fail
  refine (hva.out _ (two_below _ _ _)).mono ?_
  rintro e w1 ⟨hB1, ⟨rfl, rfl⟩ | ⟨rfl, b, n, rfl, hmv⟩⟩
  · have HX1 := hide (HS.out.later hB1)
    clear hB1 HS hok hva hev
    obtain ⟨hb, r0, r1, r2, f0, f1, f2⟩ := HX1.out.back
    go_wp2
    obtain ⟨m0, m1, m2⟩ := es3 HX1.out.2.1 (.int .i64 0) (.int .i64 0) (.string ⟨#[]⟩)
    refine bodyPost_ret (v := .tuple #[vaV ⟨0, 0, ⟨#[]⟩⟩, .bool false]) (by simp [results, Tryz.results14, go_sem, m0, m1, m2]) rfl ?_
    exact ⟨by rw [hR2.out, Bool.and_false]; rfl, below_es3 HX1.out.2.2 (by omega) _ _ _⟩
  · have HX1 := hide (HS.out.later hB1)
    have HM1 := hide hmv
    clear hB1 HS hva hmv
    have hbp : w.heap.size < w1.heap.size := (Array.getElem?_eq_some_iff.1 HX1.out.1).1
    have p0 : w1.cell? ⟨w.heap.size, 0, none⟩ = some (.int .i64 nk) := cell_of_block HX1.out.1 0
    have p1 : w1.cell? ⟨w.heap.size, 1, none⟩ = some (.int .i64 vk) := cell_of_block HX1.out.1 1
    have p2 : w1.cell? ⟨w.heap.size, 2, none⟩ = some (.int .i64 vn) := cell_of_block HX1.out.1 2
    have p3 : w1.cell? ⟨w.heap.size, 3, none⟩ = some (.string vt) := cell_of_block HX1.out.1 3
    have p4 : w1.cell? ⟨w.heap.size, 4, none⟩ = some (.string nm) := cell_of_block HX1.out.1 4
    have p5 : w1.cell? ⟨w.heap.size, 5, none⟩ = some (.slice ad k.len cap) := cell_of_block HX1.out.1 5
    go_wp2_with fail
    refine (hok.out _ HX1.out.2.2).mono ?_
    rintro e w2 ⟨rfl, hB2⟩
    have HX2 := hide (HX1.out.later hB2)
    have HM2 := hide (HM1.out.later hB2)
    clear hB2 HX1 HM1 hok p0 p1 p2 p3 p4 p5 hbp
    cases b1
    · obtain ⟨hb, r0, r1, r2, f0, f1, f2⟩ := HX2.out.back
      go_wp2
      obtain ⟨m0, m1, m2⟩ := es3 HX2.out.2.1 (.int .i64 0) (.int .i64 0) (.string ⟨#[]⟩)
      refine bodyPost_ret (v := .tuple #[vaV ⟨0, 0, ⟨#[]⟩⟩, .bool false]) (by simp [results, Tryz.results14, go_sem, m0, m1, m2]) rfl ?_
      exact ⟨by rw [hR2.out]; rfl, below_es3 HX2.out.2.2 (by omega) _ _ _⟩
    · have hbp : w.heap.size < w2.heap.size := (Array.getElem?_eq_some_iff.1 HX2.out.1).1
      have p0 : w2.cell? ⟨w.heap.size, 0, none⟩ = some (.int .i64 nk) := cell_of_block HX2.out.1 0
      have p1 : w2.cell? ⟨w.heap.size, 1, none⟩ = some (.int .i64 vk) := cell_of_block HX2.out.1 1
      have p2 : w2.cell? ⟨w.heap.size, 2, none⟩ = some (.int .i64 vn) := cell_of_block HX2.out.1 2
      have p3 : w2.cell? ⟨w.heap.size, 3, none⟩ = some (.string vt) := cell_of_block HX2.out.1 3
      have p4 : w2.cell? ⟨w.heap.size, 4, none⟩ = some (.string nm) := cell_of_block HX2.out.1 4
      have p5 : w2.cell? ⟨w.heap.size, 5, none⟩ = some (.slice ad k.len cap) := cell_of_block HX2.out.1 5
      have hev' := hide (hev.out H1.out H2.out b n _ HX2.out.2.2 HM2.out)
      go_wp2_with fail
      refine hev'.out.mono ?_
      rintro e w3 ⟨rfl, hB3⟩
      have HX3 := hide (HX2.out.later hB3)
      unfold evR
      clear hB3 HX2 HM2 hev hev' p0 p1 p2 p3 p4 p5 hbp
      have hRR : Hid (R = R0) := hR2
      clear hR2
      obtain ⟨hb, r0, r1, r2, f0, f1, f2⟩ := HX3.out.back
      cases R0 with
      | none =>
        go_wp2
        obtain ⟨m0, m1, m2⟩ := es3 HX3.out.2.1 (.int .i64 0) (.int .i64 0) (.string ⟨#[]⟩)
        refine bodyPost_ret (v := .tuple #[vaV ⟨0, 0, ⟨#[]⟩⟩, .bool false]) (by simp [results, Tryz.results14, go_sem, m0, m1, m2]) rfl ?_
        exact ⟨by rw [hRR.out]; rfl, below_es3 HX3.out.2.2 (by omega) _ _ _⟩
      | some x =>
        go_wp2
        obtain ⟨m0, m1, m2⟩ := es3 HX3.out.2.1 (.int .i64 x.k) (.int .i64 x.n) (.string x.t)
        refine bodyPost_ret (v := .tuple #[vaV x, .bool true]) (by simp [results, Tryz.results14, go_sem, m0, m1, m2]) rfl ?_
        exact ⟨by rw [hRR.out]; rfl, below_es3 HX3.out.2.2 (by omega) _ _ _⟩
end Go.Proofs.YtamkncfdfaejjaaGreatDoor

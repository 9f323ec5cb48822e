/- What each name is, as the program has it. -/
import Derived.Test.YtiffgomkhoalpaaGreatDoorEvV1
import Derived.Test.YtiffgomkhoalpaaGreatDoorNmAt
namespace Go.Proofs.YtiffgomkhoalpaaGreatDoor
open Go.RowKit Go.Maps Go.WideMaps
set_option linter.unusedVariables false
set_option linter.unusedSimpArgs false
theorem made_map (n : Int) (w : World) : (Instr.makeMap 64 (some (.int .i64 n))).run Tryz.prog w = .ok (.map (some w.heap.size)) (w.alloc (.map #[] 0)) := by kernel_rfl
/-- what is handed back -/
def VarsPost (l : List Pl.Pr) (w : World) (e : Ending) (w' : World) : Prop := Below w.heap.size w w' ∧ ((Pl.varsB l = false ∧ e = .returned (.tuple #[.map none, .bool false])) ∨ (Pl.varsB l = true ∧ ∃ b n, e = .returned (.tuple #[.map (some b), .bool true]) ∧ MapV w' b n (Pl.lookP l)))
set_option maxRecDepth 100000 in
set_option maxHeartbeats 3200000 in
theorem exprVars_any (l : List Pl.Pr) (hwf : ∀ p ∈ l, PrWf p) (vl : Value) (w : World) (hr : PrRow w l vl) :
    Calls Tryz.prog 34 #[vl] w (VarsPost l w) := by
  obtain ⟨ad, cap, rfl, hc, hm, hx⟩ := hr
  have hmm := made_map l.length
  have HM63 : Hid (cap ≤ maxLen) := hm
  unfold maxLen at hm
  have HX := hide hx
  have HW := hide hwf
  clear hx hwf
  go_enter Tryz.func34, Tryz.ntmps34
  go_wp2_with fail
  go_loopw [14] (fun iv wr => ∃ i : Nat, i ≤ l.length ∧ iv = .int .i64 i ∧ Hid (∀ j q, j < i → l[j]? = some q → Pl.varB l j q = true) ∧ Hid (MapV wr w.heap.size i (Pl.lookP (l.take i))) ∧ Hid (Below w.heap.size w wr)) (fun iv _ => l.length - (intOf iv).toNat)
  case atStart => exact ⟨0, by omega, rfl, hide (fun j q hj => by omega), hide (MapV.start w), hide ((Below.refl _ _).alloc (Nat.le_refl _) _)⟩
  case round =>
    obtain ⟨i, hi, rfl, HN, HMV, HB⟩ := hrel
    by_cases hlt : i < l.length
    · obtain ⟨g, off, rfl, hg, hs⟩ := HX.out (by omega)
      obtain ⟨p, hp⟩ : ∃ p, l[i]? = some p := ⟨_, List.getElem?_eq_getElem hlt⟩
      have hwp := HW.out p (List.mem_of_getElem? hp)
      have HP := hide hp
      have HAT := hide (hs i p hp)
      have hii : (i : Int) < (l.length : Int) := by omega
      have hMA := HMV.out.later ((Below.refl _ _).alloc (Nat.le_refl _) (.cells #[.string p.nm, .int .i64 p.v.k, .int .i64 p.v.n, .string p.v.t] 51))
      have hlook := hMA.look p.nm hwp.1
      have HLS : Hid ((Pl.lookP (l.take i) p.nm.data.toList).isSome = (l.take i).any (fun q => q.nm.data.toList == p.nm.data.toList)) := look_some
      rw [HLS.out] at hlook
      generalize (Pl.lookP (l.take i) p.nm.data.toList).getD zeroA = z at hlook
      obtain ⟨zk, zn, zt⟩ := z
      have hnm := hide (fun b (h : Pl.nameB p.nm = b) W => implName_at p.nm hwp.1 h W)
      have hvo := hide (implValueOk_any p.v.k p.v.n p.v.t hwp.2)
      have HSZ : Hid (p.nm.size ≤ maxLen) := hwp.1
      have HVB : Hid (∀ nb ob tw, Pl.nameB p.nm = nb → Pl.okB p.v.k p.v.n p.v.t = ob → (l.take i).any (fun q => q.nm.data.toList == p.nm.data.toList) = tw → Pl.varB l i p = ((nb && ob) && !tw)) := by
        intro nb ob tw h1 h2 h3
        subst h1 h2 h3
        rfl
      have HNO : Hid (Pl.varB l i p = false → Pl.varsB l = false) := fun h => Pl.varsB_not HP.out h
      have HYES : Hid (Pl.varB l i p = true → ∀ j q, j < i + 1 → l[j]? = some q → Pl.varB l j q = true) := by
        intro h j q hj hq
        by_cases hji : j = i
        · subst hji
          rw [HP.out] at hq
          cases hq
          exact h
        · exact HN.out j q (by omega) hq
      have hll : l.length ≤ maxLen := Nat.le_trans hc HM63.out
      have HIM : Hid (i < maxLen) := Nat.lt_of_lt_of_le hlt hll
      have HVP := hide (fun o => VP.start (w := wr) (p := p) (o := o))
      have HWG : Hid (w.heap.size ≤ wr.heap.size) := HB.out.size
      have HLT := hide (fun h => look_take HP.out h)
      clear hs hp hwp hMA HLS hll
      obtain ⟨nb, hnb⟩ : ∃ nb, Pl.nameB p.nm = nb := ⟨_, rfl⟩
      obtain ⟨ob, hob⟩ : ∃ ob, Pl.okB p.v.k p.v.n p.v.t = ob := ⟨_, rfl⟩
      have HTW := hide (rfl : (l.take i).any (fun q => q.nm.data.toList == p.nm.data.toList) = (l.take i).any (fun q => q.nm.data.toList == p.nm.data.toList))
      obtain ⟨tw, htw⟩ : ∃ tw, (l.take i).any (fun q => q.nm.data.toList == p.nm.data.toList) = tw := ⟨_, rfl⟩
      rw [htw] at hlook
      have HVV := hide (HVB.out nb ob tw hnb hob htw)
      replace hnm := hide (hnm.out nb hnb)
      rw [hob] at hvo
      have HT := hide htw
      clear hnb hob htw HVB HTW
      obtain ⟨c0, c1, c2, c3⟩ := HAT.out.later HB.out hg
      have hgr : g < wr.heap.size := by have := HB.out.size; omega
      cases tw
      · go_wp2_with fail
        refine (hnm.out _).mono ?_
        rintro e w1 ⟨rfl, rfl⟩
        have HP1 := hide (HVP.out (.cells #[.int .i64 zk, .int .i64 zn, .string zt] 30))
        generalize (wr.alloc (.cells #[.string p.nm, .int .i64 p.v.k, .int .i64 p.v.n, .string p.v.t] 51)).alloc (.cells #[.int .i64 zk, .int .i64 zn, .string zt] 30) = w1 at *
        clear hnm c0 c1 c2 c3 hgr hlook
        cases nb
        · have HO := hide (HNO.out (by rw [HVV.out]; rfl))
          have HB1 := hide (HB.out.trans (HP1.out.2.mono HB.out.size))
          go_wp2
          go_ret2
          exact ⟨HB1.out, .inl ⟨HO.out, rfl⟩⟩
        · obtain ⟨pb, p0, p1, p2, p3⟩ := HP1.out.cells
          go_wp2_with fail
          refine (hvo.out _).mono ?_
          rintro e w2 ⟨rfl, hB2⟩
          have HP2 := hide (HP1.out.later hB2)
          have HB2 := hide (HB.out.trans (HP2.out.2.mono HB.out.size))
          clear hB2 HP1 hvo pb p0 p1 p2 p3
          cases ob
          · have HO := hide (HNO.out (by rw [HVV.out]; rfl))
            go_wp2
            go_ret2
            exact ⟨HB2.out, .inl ⟨HO.out, rfl⟩⟩
          · have HO := hide (HYES.out (by rw [HVV.out]; rfl))
            obtain ⟨pb, p0, p1, p2, p3⟩ := HP2.out.cells
            obtain ⟨D, hown, hD, hhas, hat⟩ := HMV.out.later HP2.out.2
            have hkey : keyOf Tryz.prog 9 (.string p.nm) = some (.string p.nm.data.toList) := Go.WideMaps.keyOf_string_mk Tryz.underlying9 HSZ.out
            have HD := hide hD
            have HH := hide hhas
            have HA := hide hat
            clear hD hhas hat
            go_wp2_with (first | (at_mapUpdate; refine wpList_mapUpdate_own _ rfl _ _ _ 64 rfl 9 30 keyS Tryz.underlying64 valE _ i D rfl hown HIM.out _ _ _ rfl rfl hkey _ [] (valE_mk p.v) ?_; intro w3 hown3 hgrow3) | fail)
            have HM3 := hide ((MapV.put hown3 HD.out HH.out HA.out).congr (HLT.out HT.out))
            have HB3 : Hid (Below w.heap.size w w3) := HB2.out.trans ⟨hgrow3.os, hgrow3.tape, hgrow3.output, hgrow3.size, fun k hk => hgrow3.block k (by have := HB2.out.size; omega) (by intro h; cases h; omega)⟩
            clear hown3 hgrow3 hown pb p0 p1 p2 p3 HP2
            go_wp2
            go_roundw
            case rel => exact ⟨i + 1, by omega, by go_num, HO, HM3, HB3⟩
            case measure => simp [intOf]; omega
      · have HO := hide (HNO.out (by rw [HVV.out]; simp))
        have HB1 : Hid (Below w.heap.size w ((wr.alloc (.cells #[.string p.nm, .int .i64 p.v.k, .int .i64 p.v.n, .string p.v.t] 51)).alloc (.cells #[.int .i64 zk, .int .i64 zn, .string zt] 30))) := HB.out.trans ((HVP.out _).2.mono HB.out.size)
        go_wp2
        go_ret2
        exact ⟨HB1.out, .inl ⟨HO.out, rfl⟩⟩
    · have HA : Hid (Pl.varsB l = true) := Pl.varsB_all fun j q hq => HN.out j q (by have := (List.getElem?_eq_some_iff.1 hq).1; omega) hq
      have hil : i = l.length := by omega
      have HQ : Hid (MapV wr w.heap.size i (Pl.lookP l)) := by
        have := HMV.out
        rw [hil, List.take_length] at this
        rw [hil]
        exact this
      clear hil
      go_wp2_with fail
      go_ret2
      exact ⟨HB.out, .inr ⟨HA.out, _, _, rfl, HQ.out⟩⟩
end Go.Proofs.YtiffgomkhoalpaaGreatDoor

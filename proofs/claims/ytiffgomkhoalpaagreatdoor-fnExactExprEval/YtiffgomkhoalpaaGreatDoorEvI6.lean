/- What is asked by names: and, or, where the second part is asked; two parts worked with. -/
import Derived.Test.YtiffgomkhoalpaaGreatDoorEvI5
namespace Go.Proofs.YtiffgomkhoalpaaGreatDoor
open Go.RowKit
set_option linter.unusedVariables false
set_option linter.unusedSimpArgs false
set_option maxRecDepth 100000 in
set_option maxHeartbeats 3200000 in
theorem unless_second (s : Bool) (ida : FuncId) (ca : Array Value) (hFa : Fun ida) (idb : FuncId) (cb : Array Value) (hFb : Fun idb) (a : Va) (ha : Pl.okA a = true) (hs : Pl.countsA a = !s) (rb : Option Va) (hrb : ∀ v, rb = some v → Pl.okA v = true) (b p1 p2 p3 : Nat) (W : World) (hc : Caps3 p1 p2 p3 (.func (.func ida) #[] ca) (.bool s) (.func (.func idb) #[] cb) W)
    (h : Calls Tryz.prog ida (#[.map (some b)] ++ ca) W (WorkPost (some a) W)) (h2 : ∀ W', Below W.heap.size W W' → Calls Tryz.prog idb (#[.map (some b)] ++ cb) W' (WorkPost rb W')) :
    Calls Tryz.prog 108 #[.map (some b), .pointer (some ⟨p1, 0, none⟩), .pointer (some ⟨p2, 0, none⟩), .pointer (some ⟨p3, 0, none⟩)] W (WorkPost (rb.map fun v => Pl.truthA (Pl.countsA v)) W) := by
  have H := hide h
  have H2 := hide h2
  have HRB := hide hrb
  have hcf := run_fun hFa
  have HC := hide hc
  obtain ⟨c1, c2, c3⟩ := hc
  obtain ⟨T, x0, F, he, hF, hm, hcnt⟩ := cnt_of ha
  rw [hs] at hcnt
  have hcf2 := run_fun hF
  have HCN := hide hcnt
  have hcf3 := run_fun hFb
  clear h h2 hrb hcnt hs
  go_enter Tryz.func108, Tryz.ntmps108
  go_wp2_with fail
  refine H.out.mono ?_
  rintro e w1 ⟨⟨x, rfl, rfl⟩, hB1⟩
  have HB := hide hB1
  have HC1 := hide (HC.out.later hB1)
  rw [he]
  clear hB1 H hcf c1 c2 c3 he
  obtain ⟨c1, c2, c3⟩ := HC1.out
  have hss : ((!s) != s) = true := by cases s <;> rfl
  go_wp2_with fail
  go_region_with (first | (refine (HCN.out _).mono ?_; rintro e2 w2 ⟨rfl, hB2⟩; have HB2 := hide (HB.out.trans ((undr hB2).mono HB.out.size)); have HC2 := hide (HC1.out.later (undr hB2)); obtain ⟨k1, k2, k3⟩ := HC1.out.later (undr hB2); clear hB2))
  all_goals
    clear hm hcf2 c1 c2 c3 k1 k2
    go_wp2_with fail
    refine (H2.out _ HB2.out).mono ?_
    rintro e3 w3 ⟨⟨y, rfl, hy⟩, hB3⟩
    have HB3 := hide (HB2.out.trans (hB3.mono HB2.out.size))
    clear hB3 hcf3 k3
    rcases fun_res hy with ⟨rfl, s', rfl⟩ | ⟨v, rfl, rfl⟩
    · go_wp2
      go_ret2
      exact ⟨⟨_, rfl, s', rfl⟩, HB3.out⟩
    · obtain ⟨T', x', F', he', hF', hm', hcnt'⟩ := cnt_of (HRB.out v rfl)
      have hcf4 := run_fun hF'
      have HCN' := hide hcnt'
      have ht := hide (truth_any (Pl.countsA v))
      have HR : Hid (Option.map (fun v => Pl.truthA (Pl.countsA v)) (some v) = some (Pl.truthA (Pl.countsA v))) := rfl
      rw [he']
      clear hcnt' he' hy
      generalize Pl.countsA v = c at *
      go_wp2_with fail
      refine (HCN'.out _).mono ?_
      rintro e4 w4 ⟨rfl, hB4⟩
      have HB4 := hide (HB3.out.trans (hB4.mono HB3.out.size))
      clear hB4
      go_wp2_with fail
      refine (ht.out _).mono ?_
      rintro e5 w5 ⟨rfl, rfl⟩
      go_wp2
      go_ret2
      exact ⟨⟨_, rfl, by rw [HR.out]; rfl⟩, HB4.out⟩
theorem un_op {s : Bool} {ra rb : Option Va} : Pl.opA (if s = true then 9 else 8) ra rb = match ra with
    | none => none
    | some a => if Pl.countsA a = s then some (Pl.truthA s) else rb.map fun v => Pl.truthA (Pl.countsA v) := by
  cases ra with
  | none => cases s <;> rfl
  | some a =>
    cases s <;> cases hc : Pl.countsA a <;> cases rb <;> simp [Pl.opA, hc]
/-- what is asked gives values that are ok -/
def Good (g : Pl.Look → Option Va) : Prop := ∀ L : Pl.Look, (∀ x v, L x = some v → Pl.okA v = true) → ∀ v, g L = some v → Pl.okA v = true
theorem caps3 {w : World} {x1 x2 x3 : Value} {T1 T2 T3 : TypeId} {W : World} (hB : Below (((w.alloc (.cells #[x1] T1)).alloc (.cells #[x2] T2)).alloc (.cells #[x3] T3)).heap.size (((w.alloc (.cells #[x1] T1)).alloc (.cells #[x2] T2)).alloc (.cells #[x3] T3)) W) :
    W.cell? ⟨w.heap.size, 0, none⟩ = some x1 ∧ W.cell? ⟨w.heap.size + 1, 0, none⟩ = some x2 ∧ W.cell? ⟨w.heap.size + 1 + 1, 0, none⟩ = some x3 ∧ Below w.heap.size w W := by
  obtain ⟨h0, h1, h2, _, h3⟩ := boxes3 hB
  exact ⟨cell_of_block h0 0, cell_of_block h1 0, cell_of_block h2 0, h3⟩
theorem unless_run (s : Bool) (kd : Int) (hkd : kd = if s = true then 9 else 8) (ida : FuncId) (ca : Array Value) (hFa : Fun ida) (idb : FuncId) (cb : Array Value) (hFb : Fun idb) (ra rb : Option Va) (hra : ∀ v, ra = some v → Pl.okA v = true) (hrb : ∀ v, rb = some v → Pl.okA v = true) (b p1 p2 p3 : Nat) (W : World) (hc : Caps3 p1 p2 p3 (.func (.func ida) #[] ca) (.bool s) (.func (.func idb) #[] cb) W)
    (h : Calls Tryz.prog ida (#[.map (some b)] ++ ca) W (WorkPost ra W)) (h2 : ∀ W', Below W.heap.size W W' → Calls Tryz.prog idb (#[.map (some b)] ++ cb) W' (WorkPost rb W')) :
    Calls Tryz.prog 108 #[.map (some b), .pointer (some ⟨p1, 0, none⟩), .pointer (some ⟨p2, 0, none⟩), .pointer (some ⟨p3, 0, none⟩)] W (WorkPost (Pl.opA kd ra rb) W) := by
  rw [hkd, un_op]
  cases ra with
  | none => exact unless_none s ida ca hFa _ b p1 p2 p3 W hc h
  | some a =>
    simp only
    by_cases hs : Pl.countsA a = s
    · rw [if_pos hs]
      exact unless_first s ida ca hFa _ a (hra a rfl) hs b p1 p2 p3 W hc h
    · rw [if_neg hs]
      exact unless_second s ida ca hFa idb cb hFb a (hra a rfl) (by cases s <;> cases hq : Pl.countsA a <;> simp_all) rb hrb b p1 p2 p3 W hc h h2
set_option maxHeartbeats 1600000 in
theorem askUnless_any (s : Bool) (kd : Int) (hkd : kd = if s = true then 9 else 8) (fa fb : Value) (ga gb : Pl.Look → Option Va) (hga : Good ga) (hgb : Good gb) (w : World) (ha : Asks w fa ga) (hb : Asks w fb gb) :
    Calls Tryz.prog 81 #[.bool s, fa, fb] w fun e w' => ∃ f', e = .returned f' ∧ Asks w' f' (fun L => Pl.opA kd (ga L) (gb L)) ∧ Below w.heap.size w w' := by
  obtain ⟨ida, ca, rfl, hFa, hcalla⟩ := ha
  obtain ⟨idb, cb, rfl, hFb, hcallb⟩ := hb
  have HA := hide hcalla
  have HB := hide hcallb
  have HGA := hide hga
  have HGB := hide hgb
  have HK := hide hkd
  clear hcalla hcallb hga hgb hkd
  go_enter Tryz.func81, Tryz.ntmps81
  go_wp2
  go_ret
  refine ⟨_, rfl, ⟨_, _, rfl, fun_unless, fun L b n W hL hB hm => ?_⟩, three_below _ _ _ _⟩
  obtain ⟨x1, x2, x3, hBW⟩ := caps3 hB
  exact unless_run s kd HK.out ida ca hFa idb cb hFb (ga L) (gb L) (HGA.out L hL) (HGB.out L hL) b (w.heap.size + 1) w.heap.size (w.heap.size + 1 + 1) W ⟨x2, x1, x3⟩ (HA.out L b n W hL hBW hm) (fun W' hW' => HB.out L b n W' hL (hBW.trans (hW'.mono hBW.size)) (hm.later hW'))
theorem both_op {kd : Int} (hk : 3 ≤ kd ∧ kd ≤ 7) {ra rb : Option Va} : Pl.opA kd ra rb = match ra with
    | none => none
    | some a => match rb with
      | none => none
      | some b => Pl.twoA kd a b := by
  cases ra with
  | none => rfl
  | some a =>
    cases rb with
    | none => simp [Pl.opA, show ¬ kd = 10 by omega, show ¬ kd = 8 by omega, show ¬ kd = 9 by omega]
    | some b => simp [Pl.opA, show ¬ kd = 10 by omega, show ¬ kd = 8 by omega, show ¬ kd = 9 by omega]
set_option maxRecDepth 100000 in
set_option maxHeartbeats 3200000 in
theorem both_run (kd : Int) (hk : 3 ≤ kd ∧ kd ≤ 7) (ida : FuncId) (ca : Array Value) (hFa : Fun ida) (idb : FuncId) (cb : Array Value) (hFb : Fun idb) (idw : FuncId) (cw : Array Value) (hFw : Fun idw) (ra rb : Option Va) (hra : ∀ v, ra = some v → Pl.okA v = true) (hrb : ∀ v, rb = some v → Pl.okA v = true) (b p1 p2 p3 : Nat) (W : World) (hc : Caps3 p1 p2 p3 (.func (.func ida) #[] ca) (.func (.func idb) #[] cb) (.func (.func idw) #[] cw) W)
    (h : Calls Tryz.prog ida (#[.map (some b)] ++ ca) W (WorkPost ra W)) (h2 : ∀ W', Below W.heap.size W W' → Calls Tryz.prog idb (#[.map (some b)] ++ cb) W' (WorkPost rb W'))
    (h3 : ∀ (x y : Va) W', Pl.okA x = true → Pl.okA y = true → Below W.heap.size W W' → Calls Tryz.prog idw (#[cvA x, cvA y] ++ cw) W' (WorkPost (Pl.twoA kd x y) W')) :
    Calls Tryz.prog 109 #[.map (some b), .pointer (some ⟨p1, 0, none⟩), .pointer (some ⟨p2, 0, none⟩), .pointer (some ⟨p3, 0, none⟩)] W (WorkPost (Pl.opA kd ra rb) W) := by
  rw [both_op hk]
  have H := hide h
  have H2 := hide h2
  have H3 := hide h3
  have HRA := hide hra
  have HRB := hide hrb
  have HC := hide hc
  have hcf := run_fun hFa
  have hcf2 := run_fun hFb
  have hcf3 := run_fun hFw
  obtain ⟨c1, c2, c3⟩ := hc
  clear h h2 h3 hra hrb hk
  go_enter Tryz.func109, Tryz.ntmps109
  go_wp2_with fail
  refine H.out.mono ?_
  rintro e w1 ⟨⟨x, rfl, hx⟩, hB1⟩
  have HB1 := hide hB1
  have HC1 := hide (HC.out.later hB1)
  clear hB1 H hcf c1 c2 c3
  rcases fun_res hx with ⟨rfl, s', rfl⟩ | ⟨x1, rfl, rfl⟩
  · go_wp2
    go_ret2
    exact ⟨⟨_, rfl, s', rfl⟩, HB1.out⟩
  · obtain ⟨c1, c2, c3⟩ := HC1.out
    have HX := hide (HRA.out x1 rfl)
    go_wp2_with fail
    refine (H2.out _ HB1.out).mono ?_
    rintro e w2 ⟨⟨y, rfl, hy⟩, hB2⟩
    have HB2 := hide (HB1.out.trans (hB2.mono HB1.out.size))
    have HC2 := hide (HC1.out.later hB2)
    clear hB2 H2 hcf2 c1 c2 c3
    rcases fun_res hy with ⟨rfl, s', rfl⟩ | ⟨y1, rfl, rfl⟩
    · go_wp2
      go_ret2
      exact ⟨⟨_, rfl, s', rfl⟩, HB2.out⟩
    · obtain ⟨c1, c2, c3⟩ := HC2.out
      have HY := hide (HRB.out y1 rfl)
      have HQ := hide (H3.out x1 y1 w2 HX.out HY.out HB2.out)
      go_wp2_with fail
      refine HQ.out.mono ?_
      rintro e w3 ⟨⟨z, rfl, hz⟩, hB3⟩
      have HB3 := hide (HB2.out.trans (hB3.mono HB2.out.size))
      have HZ := hide hz
      clear hB3 hcf3 c1 c2 c3 HQ
      rcases fun_res hz with ⟨_, s', rfl⟩ | ⟨z1, _, rfl⟩
      · clear hz
        go_wp2
        go_ret2
        exact ⟨⟨_, rfl, ⟨s', rfl⟩⟩, HB3.out⟩
      · clear hz
        go_wp2
        go_ret2
        exact ⟨⟨_, rfl, rfl⟩, HB3.out⟩
set_option maxHeartbeats 1600000 in
theorem askBoth_any (kd : Int) (hk : 3 ≤ kd ∧ kd ≤ 7) (fw fa fb : Value) (ga gb : Pl.Look → Option Va) (hga : Good ga) (hgb : Good gb) (w : World) (hw : WorkAt w fw kd) (ha : Asks w fa ga) (hb : Asks w fb gb) :
    Calls Tryz.prog 82 #[fw, fa, fb] w fun e w' => ∃ f', e = .returned f' ∧ Asks w' f' (fun L => Pl.opA kd (ga L) (gb L)) ∧ Below w.heap.size w w' := by
  obtain ⟨ida, ca, rfl, hFa, hcalla⟩ := ha
  obtain ⟨idb, cb, rfl, hFb, hcallb⟩ := hb
  obtain ⟨idw, cw, rfl, hFw, hcallw⟩ := hw
  have HA := hide hcalla
  have HB := hide hcallb
  have HW := hide hcallw
  have HGA := hide hga
  have HGB := hide hgb
  have HK := hide hk
  clear hcalla hcallb hcallw hga hgb hk
  go_enter Tryz.func82, Tryz.ntmps82
  go_wp2
  go_ret
  refine ⟨_, rfl, ⟨_, _, rfl, fun_both, fun L b n W hL hB hm => ?_⟩, three_below _ _ _ _⟩
  obtain ⟨x1, x2, x3, hBW⟩ := caps3 hB
  exact both_run kd HK.out ida ca hFa idb cb hFb idw cw hFw (ga L) (gb L) (HGA.out L hL) (HGB.out L hL) b (w.heap.size + 1) (w.heap.size + 1 + 1) w.heap.size W ⟨x2, x3, x1⟩ (HA.out L b n W hL hBW hm) (fun W' hW' => HB.out L b n W' hL (hBW.trans (hW'.mono hBW.size)) (hm.later hW')) (fun x y W' hx hy hW' => HW.out x y W' hx hy (hBW.trans (hW'.mono hBW.size)))
end Go.Proofs.YtiffgomkhoalpaaGreatDoor

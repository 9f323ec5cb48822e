/- Joined: EvI5 EvI6 EvI7 EvI8 EvI9 EvI10. -/
import Derived.Test.YtamkncfdfaejjabGreatDoorEvI4
import Derived.Deep.RegionWith
import Derived.Test.YtamkncfdfaejjabGreatDoorJEvS
import Derived.Deep.RegionHeld3
import Derived.Deep.RegionLaw
/- What is asked by names: and, or; two parts worked with. -/
namespace Go.Proofs.YtamkncfdfaejjabGreatDoor
open Go.RowKit
set_option linter.unusedVariables false
set_option linter.unusedSimpArgs false
/-- whether a content counts can be asked -/
def Cnt (c : Value) (bv : Bool) : Prop := ∃ (T : TypeId) (x : Value) (F : FuncId), c = .iface T x ∧ Fun F ∧ (∀ w : World, (method 259 T x "loop.example/backstitch/impl.counts").run Tryz.prog w = .ok (F, x) w) ∧ ∀ W : World, Calls Tryz.prog F #[x] W fun e w' => e = .returned (.bool bv) ∧ Below W.heap.size W w'
theorem fun_cn : Fun 111 := ⟨_, Tryz.func111, by kernel_rfl, by kernel_rfl⟩
theorem fun_ci : Fun 106 := ⟨_, Tryz.func106, by kernel_rfl, by kernel_rfl⟩
theorem fun_ct : Fun 109 := ⟨_, Tryz.func109, by kernel_rfl, by kernel_rfl⟩
theorem cnt_of {v : Va} (h : Pl.okA v = true) : Cnt (cvA v) (Pl.countsA v) := by
  rcases cvA_cases h with ⟨e, rfl⟩ | ⟨n, e, rfl, _⟩ | ⟨t, e, rfl, _⟩
  · exact ⟨_, _, _, e, fun_cn, m_none_counts, countsNone_any⟩
  · exact ⟨_, _, _, e, fun_ci, m_num_counts n, countsNum_any n⟩
  · exact ⟨_, _, _, e, fun_ct, m_text_counts t, countsText_any t⟩
/-- three captured cells -/
def Caps3 (p1 p2 p3 : Nat) (x1 x2 x3 : Value) (W : World) : Prop := W.cell? ⟨p1, 0, none⟩ = some x1 ∧ W.cell? ⟨p2, 0, none⟩ = some x2 ∧ W.cell? ⟨p3, 0, none⟩ = some x3
theorem Caps3.later {p1 p2 p3 : Nat} {x1 x2 x3 : Value} {W W1 : World} (h : Caps3 p1 p2 p3 x1 x2 x3 W) (hB : Below W.heap.size W W1) : Caps3 p1 p2 p3 x1 x2 x3 W1 := by
  have C : ∀ {p : Nat} {x : Value}, W.cell? ⟨p, 0, none⟩ = some x → W1.cell? ⟨p, 0, none⟩ = some x := fun {p x} hc => (hB.cell (p := ⟨p, 0, none⟩) (World.block_lt_of_cell? W ⟨p, 0, none⟩ hc)).trans hc
  exact ⟨C h.1, C h.2.1, C h.2.2⟩
set_option maxRecDepth 100000 in
set_option maxHeartbeats 3200000 in
theorem unless_none (s : Bool) (ida : FuncId) (ca : Array Value) (hFa : Fun ida) (fb : Value) (b p1 p2 p3 : Nat) (W : World) (hc : Caps3 p1 p2 p3 (.func (.func ida) #[] ca) (.bool s) fb W) (h : Calls Tryz.prog ida (#[.map (some b)] ++ ca) W (WorkPost none W)) :
    Calls Tryz.prog 66 #[.map (some b), .pointer (some ⟨p1, 0, none⟩), .pointer (some ⟨p2, 0, none⟩), .pointer (some ⟨p3, 0, none⟩)] W (WorkPost none W) := by
  have H := hide h
  have hcf := run_fun hFa
  obtain ⟨c1, c2, c3⟩ := hc
  clear h
  go_enter Tryz.func66, Tryz.ntmps66
  go_wp2_with fail
  refine H.out.mono ?_
  rintro e w1 ⟨⟨x, rfl, s', rfl⟩, hB1⟩
  have HB := hide hB1
  clear hB1 H hcf c1 c2 c3
  go_wp2_with fail
  go_quiet (fail)
  go_wp2
  go_ret2
  exact ⟨⟨_, rfl, s', rfl⟩, below_drewN HB.out _⟩
set_option maxRecDepth 100000 in
set_option maxHeartbeats 3200000 in
theorem unless_first (s : Bool) (ida : FuncId) (ca : Array Value) (hFa : Fun ida) (fb : Value) (a : Va) (ha : Pl.okA a = true) (hs : Pl.countsA a = s) (b p1 p2 p3 : Nat) (W : World) (hc : Caps3 p1 p2 p3 (.func (.func ida) #[] ca) (.bool s) fb W) (h : Calls Tryz.prog ida (#[.map (some b)] ++ ca) W (WorkPost (some a) W)) :
    Calls Tryz.prog 66 #[.map (some b), .pointer (some ⟨p1, 0, none⟩), .pointer (some ⟨p2, 0, none⟩), .pointer (some ⟨p3, 0, none⟩)] W (WorkPost (some (Pl.truthA s)) W) := by
  have H := hide h
  have hcf := run_fun hFa
  have HC := hide hc
  obtain ⟨c1, c2, c3⟩ := hc
  obtain ⟨T, x0, F, he, hF, hm, hcnt⟩ := cnt_of ha
  rw [hs] at hcnt
  have hcf2 := run_fun hF
  have HCN := hide hcnt
  have ht := hide (truth_any s)
  clear h hcnt hs
  go_enter Tryz.func66, Tryz.ntmps66
  go_wp2_with fail
  refine H.out.mono ?_
  rintro e w1 ⟨⟨x, rfl, rfl⟩, hB1⟩
  have HB := hide hB1
  have HC1 := hide (HC.out.later hB1)
  rw [he]
  clear hB1 H hcf c1 c2 c3 he
  obtain ⟨c1, c2, c3⟩ := HC1.out
  have hss : (s != s) = false := by simp
  go_wp2_with fail
  go_region_with (first | (refine (HCN.out _).mono ?_; rintro e2 w2 ⟨rfl, hB2⟩; have HB2 := hide (HB.out.trans ((undr hB2).mono HB.out.size)); have HC2 := hide (HC1.out.later (undr hB2)); obtain ⟨k1, k2, k3⟩ := HC1.out.later (undr hB2); clear hB2))
  all_goals
    clear c1 c2 c3 k1 k2 k3
    go_wp2_with fail
    refine (HCN.out _).mono ?_
    rintro e3 w3 ⟨rfl, hB3⟩
    have HB3 := hide (HB2.out.trans (hB3.mono HB2.out.size))
    clear hB3
    go_wp2_with fail
    refine (ht.out _).mono ?_
    rintro e4 w4 ⟨rfl, rfl⟩
    go_wp2
    go_ret2
    exact ⟨⟨_, rfl, rfl⟩, HB3.out⟩
end Go.Proofs.YtamkncfdfaejjabGreatDoor

/- What is asked by names: and, or, where the second part is asked; two parts worked with. -/
namespace Go.Proofs.YtamkncfdfaejjabGreatDoor
open Go.RowKit
set_option linter.unusedVariables false
set_option linter.unusedSimpArgs false
set_option maxRecDepth 100000 in
set_option maxHeartbeats 3200000 in
theorem unless_second (s : Bool) (ida : FuncId) (ca : Array Value) (hFa : Fun ida) (idb : FuncId) (cb : Array Value) (hFb : Fun idb) (a : Va) (ha : Pl.okA a = true) (hs : Pl.countsA a = !s) (rb : Option Va) (hrb : ∀ v, rb = some v → Pl.okA v = true) (b p1 p2 p3 : Nat) (W : World) (hc : Caps3 p1 p2 p3 (.func (.func ida) #[] ca) (.bool s) (.func (.func idb) #[] cb) W)
    (h : Calls Tryz.prog ida (#[.map (some b)] ++ ca) W (WorkPost (some a) W)) (h2 : ∀ W', Below W.heap.size W W' → Calls Tryz.prog idb (#[.map (some b)] ++ cb) W' (WorkPost rb W')) :
    Calls Tryz.prog 66 #[.map (some b), .pointer (some ⟨p1, 0, none⟩), .pointer (some ⟨p2, 0, none⟩), .pointer (some ⟨p3, 0, none⟩)] W (WorkPost (rb.map fun v => Pl.truthA (Pl.countsA v)) W) := by
  have H := hide h
  have H2 := hide h2
  have HRB := hide hrb
  have hcf := run_fun hFa
  have HC := hide hc
  obtain ⟨c1, c2, c3⟩ := hc
  obtain ⟨T, x0, F, he, hF, hm, hcnt⟩ := cnt_of ha
  rw [hs] at hcnt
  have hcf2 := run_fun hF
  have HCN := hide hcnt
  have hcf3 := run_fun hFb
  clear h h2 hrb hcnt hs
  go_enter Tryz.func66, Tryz.ntmps66
  go_wp2_with fail
  refine H.out.mono ?_
  rintro e w1 ⟨⟨x, rfl, rfl⟩, hB1⟩
  have HB := hide hB1
  have HC1 := hide (HC.out.later hB1)
  rw [he]
  clear hB1 H hcf c1 c2 c3 he
  obtain ⟨c1, c2, c3⟩ := HC1.out
  have hss : ((!s) != s) = true := by cases s <;> rfl
  go_wp2_with fail
  go_region_with (first | (refine (HCN.out _).mono ?_; rintro e2 w2 ⟨rfl, hB2⟩; have HB2 := hide (HB.out.trans ((undr hB2).mono HB.out.size)); have HC2 := hide (HC1.out.later (undr hB2)); obtain ⟨k1, k2, k3⟩ := HC1.out.later (undr hB2); clear hB2))
  all_goals
    clear hm hcf2 c1 c2 c3 k1 k2
    go_wp2_with fail
    refine (H2.out _ HB2.out).mono ?_
    rintro e3 w3 ⟨⟨y, rfl, hy⟩, hB3⟩
    have HB3 := hide (HB2.out.trans (hB3.mono HB2.out.size))
    clear hB3 hcf3 k3
    rcases fun_res hy with ⟨rfl, s', rfl⟩ | ⟨v, rfl, rfl⟩
    · go_wp2
      go_ret2
      exact ⟨⟨_, rfl, s', rfl⟩, HB3.out⟩
    · obtain ⟨T', x', F', he', hF', hm', hcnt'⟩ := cnt_of (HRB.out v rfl)
      have hcf4 := run_fun hF'
      have HCN' := hide hcnt'
      have ht := hide (truth_any (Pl.countsA v))
      have HR : Hid (Option.map (fun v => Pl.truthA (Pl.countsA v)) (some v) = some (Pl.truthA (Pl.countsA v))) := rfl
      rw [he']
      clear hcnt' he' hy
      generalize Pl.countsA v = c at *
      go_wp2_with fail
      refine (HCN'.out _).mono ?_
      rintro e4 w4 ⟨rfl, hB4⟩
      have HB4 := hide (HB3.out.trans (hB4.mono HB3.out.size))
      clear hB4
      go_wp2_with fail
      refine (ht.out _).mono ?_
      rintro e5 w5 ⟨rfl, rfl⟩
      go_wp2
      go_ret2
      exact ⟨⟨_, rfl, by rw [HR.out]; rfl⟩, HB4.out⟩
theorem un_op {s : Bool} {ra rb : Option Va} : Pl.opA (if s = true then 9 else 8) ra rb = match ra with
    | none => none
    | some a => if Pl.countsA a = s then some (Pl.truthA s) else rb.map fun v => Pl.truthA (Pl.countsA v) := by
  cases ra with
  | none => cases s <;> rfl
  | some a =>
    cases s <;> cases hc : Pl.countsA a <;> cases rb <;> simp [Pl.opA, hc]
/-- what is asked gives values that are ok -/
def Good (g : Pl.Look → Option Va) : Prop := ∀ L : Pl.Look, (∀ x v, L x = some v → Pl.okA v = true) → ∀ v, g L = some v → Pl.okA v = true
theorem caps3 {w : World} {x1 x2 x3 : Value} {T1 T2 T3 : TypeId} {W : World} (hB : Below (((w.alloc (.cells #[x1] T1)).alloc (.cells #[x2] T2)).alloc (.cells #[x3] T3)).heap.size (((w.alloc (.cells #[x1] T1)).alloc (.cells #[x2] T2)).alloc (.cells #[x3] T3)) W) :
    W.cell? ⟨w.heap.size, 0, none⟩ = some x1 ∧ W.cell? ⟨w.heap.size + 1, 0, none⟩ = some x2 ∧ W.cell? ⟨w.heap.size + 1 + 1, 0, none⟩ = some x3 ∧ Below w.heap.size w W := by
  obtain ⟨h0, h1, h2, _, h3⟩ := boxes3 hB
  exact ⟨cell_of_block h0 0, cell_of_block h1 0, cell_of_block h2 0, h3⟩
theorem unless_run (s : Bool) (kd : Int) (hkd : kd = if s = true then 9 else 8) (ida : FuncId) (ca : Array Value) (hFa : Fun ida) (idb : FuncId) (cb : Array Value) (hFb : Fun idb) (ra rb : Option Va) (hra : ∀ v, ra = some v → Pl.okA v = true) (hrb : ∀ v, rb = some v → Pl.okA v = true) (b p1 p2 p3 : Nat) (W : World) (hc : Caps3 p1 p2 p3 (.func (.func ida) #[] ca) (.bool s) (.func (.func idb) #[] cb) W)
    (h : Calls Tryz.prog ida (#[.map (some b)] ++ ca) W (WorkPost ra W)) (h2 : ∀ W', Below W.heap.size W W' → Calls Tryz.prog idb (#[.map (some b)] ++ cb) W' (WorkPost rb W')) :
    Calls Tryz.prog 66 #[.map (some b), .pointer (some ⟨p1, 0, none⟩), .pointer (some ⟨p2, 0, none⟩), .pointer (some ⟨p3, 0, none⟩)] W (WorkPost (Pl.opA kd ra rb) W) := by
  rw [hkd, un_op]
  cases ra with
  | none => exact unless_none s ida ca hFa _ b p1 p2 p3 W hc h
  | some a =>
    simp only
    by_cases hs : Pl.countsA a = s
    · rw [if_pos hs]
      exact unless_first s ida ca hFa _ a (hra a rfl) hs b p1 p2 p3 W hc h
    · rw [if_neg hs]
      exact unless_second s ida ca hFa idb cb hFb a (hra a rfl) (by cases s <;> cases hq : Pl.countsA a <;> simp_all) rb hrb b p1 p2 p3 W hc h h2
set_option maxHeartbeats 1600000 in
theorem askUnless_any (s : Bool) (kd : Int) (hkd : kd = if s = true then 9 else 8) (fa fb : Value) (ga gb : Pl.Look → Option Va) (hga : Good ga) (hgb : Good gb) (w : World) (ha : Asks w fa ga) (hb : Asks w fb gb) :
    Calls Tryz.prog 45 #[.bool s, fa, fb] w fun e w' => ∃ f', e = .returned f' ∧ Asks w' f' (fun L => Pl.opA kd (ga L) (gb L)) ∧ Below w.heap.size w w' := by
  obtain ⟨ida, ca, rfl, hFa, hcalla⟩ := ha
  obtain ⟨idb, cb, rfl, hFb, hcallb⟩ := hb
  have HA := hide hcalla
  have HB := hide hcallb
  have HGA := hide hga
  have HGB := hide hgb
  have HK := hide hkd
  clear hcalla hcallb hga hgb hkd
  go_enter Tryz.func45, Tryz.ntmps45
  go_wp2
  go_ret
  refine ⟨_, rfl, ⟨_, _, rfl, fun_unless, fun L b n W hL hB hm => ?_⟩, three_below _ _ _ _⟩
  obtain ⟨x1, x2, x3, hBW⟩ := caps3 hB
  exact unless_run s kd HK.out ida ca hFa idb cb hFb (ga L) (gb L) (HGA.out L hL) (HGB.out L hL) b (w.heap.size + 1) w.heap.size (w.heap.size + 1 + 1) W ⟨x2, x1, x3⟩ (HA.out L b n W hL hBW hm) (fun W' hW' => HB.out L b n W' hL (hBW.trans (hW'.mono hBW.size)) (hm.later hW'))
theorem both_op {kd : Int} (hk : 3 ≤ kd ∧ kd ≤ 7) {ra rb : Option Va} : Pl.opA kd ra rb = match ra with
    | none => none
    | some a => match rb with
      | none => none
      | some b => Pl.twoA kd a b := by
  cases ra with
  | none => rfl
  | some a =>
    cases rb with
    | none => simp [Pl.opA, show ¬ kd = 10 by omega, show ¬ kd = 8 by omega, show ¬ kd = 9 by omega]
    | some b => simp [Pl.opA, show ¬ kd = 10 by omega, show ¬ kd = 8 by omega, show ¬ kd = 9 by omega]
set_option maxRecDepth 100000 in
set_option maxHeartbeats 3200000 in
theorem both_run (kd : Int) (hk : 3 ≤ kd ∧ kd ≤ 7) (ida : FuncId) (ca : Array Value) (hFa : Fun ida) (idb : FuncId) (cb : Array Value) (hFb : Fun idb) (idw : FuncId) (cw : Array Value) (hFw : Fun idw) (ra rb : Option Va) (hra : ∀ v, ra = some v → Pl.okA v = true) (hrb : ∀ v, rb = some v → Pl.okA v = true) (b p1 p2 p3 : Nat) (W : World) (hc : Caps3 p1 p2 p3 (.func (.func ida) #[] ca) (.func (.func idb) #[] cb) (.func (.func idw) #[] cw) W)
    (h : Calls Tryz.prog ida (#[.map (some b)] ++ ca) W (WorkPost ra W)) (h2 : ∀ W', Below W.heap.size W W' → Calls Tryz.prog idb (#[.map (some b)] ++ cb) W' (WorkPost rb W'))
    (h3 : ∀ (x y : Va) W', Pl.okA x = true → Pl.okA y = true → Below W.heap.size W W' → Calls Tryz.prog idw (#[cvA x, cvA y] ++ cw) W' (WorkPost (Pl.twoA kd x y) W')) :
    Calls Tryz.prog 67 #[.map (some b), .pointer (some ⟨p1, 0, none⟩), .pointer (some ⟨p2, 0, none⟩), .pointer (some ⟨p3, 0, none⟩)] W (WorkPost (Pl.opA kd ra rb) W) := by
  rw [both_op hk]
  have H := hide h
  have H2 := hide h2
  have H3 := hide h3
  have HRA := hide hra
  have HRB := hide hrb
  have HC := hide hc
  have hcf := run_fun hFa
  have hcf2 := run_fun hFb
  have hcf3 := run_fun hFw
  obtain ⟨c1, c2, c3⟩ := hc
  clear h h2 h3 hra hrb hk
  go_enter Tryz.func67, Tryz.ntmps67
  go_wp2_with fail
  refine H.out.mono ?_
  rintro e w1 ⟨⟨x, rfl, hx⟩, hB1⟩
  have HB1 := hide hB1
  have HC1 := hide (HC.out.later hB1)
  clear hB1 H hcf c1 c2 c3
  rcases fun_res hx with ⟨rfl, s', rfl⟩ | ⟨x1, rfl, rfl⟩
  · go_wp2
    go_ret2
    exact ⟨⟨_, rfl, s', rfl⟩, HB1.out⟩
  · obtain ⟨c1, c2, c3⟩ := HC1.out
    have HX := hide (HRA.out x1 rfl)
    go_wp2_with fail
    refine (H2.out _ HB1.out).mono ?_
    rintro e w2 ⟨⟨y, rfl, hy⟩, hB2⟩
    have HB2 := hide (HB1.out.trans (hB2.mono HB1.out.size))
    have HC2 := hide (HC1.out.later hB2)
    clear hB2 H2 hcf2 c1 c2 c3
    rcases fun_res hy with ⟨rfl, s', rfl⟩ | ⟨y1, rfl, rfl⟩
    · go_wp2
      go_ret2
      exact ⟨⟨_, rfl, s', rfl⟩, HB2.out⟩
    · obtain ⟨c1, c2, c3⟩ := HC2.out
      have HY := hide (HRB.out y1 rfl)
      have HQ := hide (H3.out x1 y1 w2 HX.out HY.out HB2.out)
      go_wp2_with fail
      refine HQ.out.mono ?_
      rintro e w3 ⟨⟨z, rfl, hz⟩, hB3⟩
      have HB3 := hide (HB2.out.trans (hB3.mono HB2.out.size))
      have HZ := hide hz
      clear hB3 hcf3 c1 c2 c3 HQ
      rcases fun_res hz with ⟨_, s', rfl⟩ | ⟨z1, _, rfl⟩
      · clear hz
        go_wp2
        go_ret2
        exact ⟨⟨_, rfl, ⟨s', rfl⟩⟩, HB3.out⟩
      · clear hz
        go_wp2
        go_ret2
        exact ⟨⟨_, rfl, rfl⟩, HB3.out⟩
set_option maxHeartbeats 1600000 in
theorem askBoth_any (kd : Int) (hk : 3 ≤ kd ∧ kd ≤ 7) (fw fa fb : Value) (ga gb : Pl.Look → Option Va) (hga : Good ga) (hgb : Good gb) (w : World) (hw : WorkAt w fw kd) (ha : Asks w fa ga) (hb : Asks w fb gb) :
    Calls Tryz.prog 46 #[fw, fa, fb] w fun e w' => ∃ f', e = .returned f' ∧ Asks w' f' (fun L => Pl.opA kd (ga L) (gb L)) ∧ Below w.heap.size w w' := by
  obtain ⟨ida, ca, rfl, hFa, hcalla⟩ := ha
  obtain ⟨idb, cb, rfl, hFb, hcallb⟩ := hb
  obtain ⟨idw, cw, rfl, hFw, hcallw⟩ := hw
  have HA := hide hcalla
  have HB := hide hcallb
  have HW := hide hcallw
  have HGA := hide hga
  have HGB := hide hgb
  have HK := hide hk
  clear hcalla hcallb hcallw hga hgb hk
  go_enter Tryz.func46, Tryz.ntmps46
  go_wp2
  go_ret
  refine ⟨_, rfl, ⟨_, _, rfl, fun_both, fun L b n W hL hB hm => ?_⟩, three_below _ _ _ _⟩
  obtain ⟨x1, x2, x3, hBW⟩ := caps3 hB
  exact both_run kd HK.out ida ca hFa idb cb hFb idw cw hFw (ga L) (gb L) (HGA.out L hL) (HGB.out L hL) b (w.heap.size + 1) (w.heap.size + 1 + 1) w.heap.size W ⟨x2, x3, x1⟩ (HA.out L b n W hL hBW hm) (fun W' hW' => HB.out L b n W' hL (hBW.trans (hW'.mono hBW.size)) (hm.later hW')) (fun x y W' hx hy hW' => HW.out x y W' hx hy (hBW.trans (hW'.mono hBW.size)))
end Go.Proofs.YtamkncfdfaejjabGreatDoor

/- What is asked, made out of an expression. -/
namespace Go.Proofs.YtamkncfdfaejjabGreatDoor
open Go.RowKit
set_option linter.unusedVariables false
set_option linter.unusedSimpArgs false
/-- made of an expression: what it is by names -/
def MkP (d : Nat) : Prop := ∀ (nd : Nd) (k : Fo) (v : Value) (w : World), Pl.okN nd k d = true → RowAt 0 w k v → Calls Tryz.prog 26 #[ndV nd v] w fun e w' => ∃ f, e = .returned f ∧ Asks w' f (fun L => Pl.ev L nd k) ∧ Below w.heap.size w w'
def MPart (na : Nd) (ka : Fo) (w : World) : Prop := ∀ va W, Below w.heap.size w W → RowAt 0 W ka va → Calls Tryz.prog 26 #[ndV na va] W fun e w' => ∃ f, e = .returned f ∧ Asks w' f (fun L => Pl.ev L na ka) ∧ Below W.heap.size W w'
theorem good_ev {nd : Nd} {k : Fo} {d : Nat} (h : Pl.okN nd k d = true) : Good (fun L => Pl.ev L nd k) := fun L hL v hv => Pl.ev_ok hL h hv
theorem bone {w w1 : World} {o : Obj} (hB : Below (w.alloc o).heap.size (w.alloc o) w1) : Below w.heap.size w w1 := ((Below.refl _ _).alloc (Nat.le_refl _) _).trans (hB.mono (by simp))
set_option maxHeartbeats 1600000 in
theorem mk_val (vk vn : Int) (vt nm : ByteArray) (hv : Pl.okA ⟨vk, vn, vt⟩ = true) (v : Value) (w : World) :
    Calls Tryz.prog 26 #[ndV ⟨1, vk, vn, vt, nm⟩ v] w fun e w' => ∃ f, e = .returned f ∧ Asks w' f (fun _ => some ⟨vk, vn, vt⟩) ∧ Below w.heap.size w w' := by
  have hc := hide (askValue_any ⟨vk, vn, vt⟩ hv)
  clear hv
  go_enter Tryz.func26, Tryz.ntmps26
  go_wp2_with fail
  refine (hc.out _).mono ?_
  rintro e w1 ⟨f, rfl, hA, hB1⟩
  have HA := hide hA
  have HB1 := hide (bone hB1)
  clear hB1 hA
  obtain ⟨id, caps, rfl, hx⟩ := HA.out
  clear hx
  go_wp2
  go_ret
  exact ⟨_, rfl, HA.out, HB1.out⟩
set_option maxHeartbeats 1600000 in
theorem mk_var (vt nm : ByteArray) (hnm : nm.size ≤ 10) (v : Value) (w : World) :
    Calls Tryz.prog 26 #[ndV ⟨2, 0, 0, vt, nm⟩ v] w fun e w' => ∃ f, e = .returned f ∧ Asks w' f (fun L => L nm.data.toList) ∧ Below w.heap.size w w' := by
  have hc := hide (askName_any nm hnm)
  clear hnm
  go_enter Tryz.func26, Tryz.ntmps26
  go_wp2_with fail
  refine (hc.out _).mono ?_
  rintro e w1 ⟨f, rfl, hA, hB1⟩
  have HA := hide hA
  have HB1 := hide (bone hB1)
  clear hB1 hA
  go_wp2
  go_ret
  exact ⟨_, rfl, HA.out, HB1.out⟩
set_option maxHeartbeats 1600000 in
theorem mk_not (vt nm : ByteArray) (k : Fo) (v : Value) (w : World) (hr : RowAt 0 w k v) (na : Nd) (ka : Fo) (ga : k.get 0 = some (na, ka)) (ca : MPart na ka w) (hgood : Good (fun L => Pl.ev L na ka)) :
    Calls Tryz.prog 26 #[ndV ⟨10, 0, 0, vt, nm⟩ v] w fun e w' => ∃ f, e = .returned f ∧ Asks w' f (fun L => Pl.opA 10 (Pl.ev L na ka) none) ∧ Below w.heap.size w w' := by
  have HR := hide hr
  obtain ⟨ad, cap, rfl, hc, hm, hx⟩ := hr
  unfold maxLen at hm
  obtain ⟨g, off, va, rfl, hi, hg, hnd⟩ := part_at HR.out ga
  rw [show off + 0 * 6 = off by omega] at hnd
  obtain ⟨d0, d1, d2, d3, d4, d5, hrow⟩ := hnd
  have HC := hide (fun W (hB : Below w.heap.size w W) => ca va W hB (hrow.later hB))
  obtain ⟨_, _, rfl, _⟩ := hrow
  have HN := hide (fun f W (h : Asks W f (fun L => Pl.ev L na ka)) => askNot_any f _ hgood W h)
  clear hx hgood
  go_enter Tryz.func26, Tryz.ntmps26
  go_wp2_with fail
  refine (HC.out _ ((Below.refl _ _).alloc (Nat.le_refl _) _)).mono ?_
  rintro e w1 ⟨f, rfl, hA, hB1⟩
  have HQ := hide (HN.out f w1 hA)
  have HB1 := hide (bone hB1)
  clear hB1 hA HC HN d0 d1 d2 d3 d4 d5
  go_wp2_with fail
  refine HQ.out.mono ?_
  rintro e w2 ⟨f2, rfl, hA2, hB2⟩
  have HA2 := hide hA2
  have HB2 := hide (HB1.out.trans (hB2.mono HB1.out.size))
  clear hA2 hB2 HQ
  go_wp2
  go_ret
  exact ⟨_, rfl, HA2.out, HB2.out⟩
/-- the boxed argument alone -/
def EP (w : World) (v : Value) (nk : Int) (X : World) : Prop := (w.heap.size < X.heap.size ∧ X.cell? ⟨w.heap.size, 0, none⟩ = some (.int .i64 nk) ∧ X.cell? ⟨w.heap.size, 5, none⟩ = some v) ∧ Below w.heap.size w X
theorem EP.of {w X : World} {x0 x1 x2 x3 x4 v : Value} {nk : Int} (h0 : x0 = .int .i64 nk) (hB : Below (w.alloc (.cells #[x0, x1, x2, x3, x4, v] 27)).heap.size (w.alloc (.cells #[x0, x1, x2, x3, x4, v] 27)) X) : EP w v nk X := by
  subst h0
  have C : ∀ o, X.cell? ⟨w.heap.size, o, none⟩ = (#[.int .i64 nk, x1, x2, x3, x4, v] : Array Value)[o]? := fun o => by rw [hB.cell (p := ⟨w.heap.size, o, none⟩) (by simp)]; simp
  exact ⟨⟨by have := hB.size; simp at this; omega, C 0, C 5⟩, bone hB⟩
theorem EP.later {w X X1 : World} {v : Value} {nk : Int} (h : EP w v nk X) (hB : Below X.heap.size X X1) : EP w v nk X1 :=
  ⟨⟨by have := hB.size; have := h.1.1; omega, (hB.cell (p := ⟨w.heap.size, 0, none⟩) h.1.1).trans h.1.2.1, (hB.cell (p := ⟨w.heap.size, 5, none⟩) h.1.1).trans h.1.2.2⟩, h.2.trans (hB.mono h.2.size)⟩
theorem EP.start {w : World} {x1 x2 x3 x4 v : Value} {nk : Int} : EP w v nk (w.alloc (.cells #[.int .i64 nk, x1, x2, x3, x4, v] 27)) := EP.of rfl (Below.refl _ _)
theorem EP.drew {w X : World} {v : Value} {nk : Int} (h : EP w v nk X) : EP w v nk X.drew := h.later (Below.refl _ _).drew
end Go.Proofs.YtamkncfdfaejjabGreatDoor

/- What is asked, made out of an expression of two parts. -/
namespace Go.Proofs.YtamkncfdfaejjabGreatDoor
open Go.RowKit
set_option linter.unusedVariables false
set_option linter.unusedSimpArgs false
theorem below_dr {n : Nat} {W w1 : World} (h : Below n W w1) : Below n W w1.drew := h.drew
set_option maxRecDepth 100000 in
set_option maxHeartbeats 6400000 in
theorem mk_and (vt nm : ByteArray) (k : Fo) (v : Value) (w : World) (hr : RowAt 0 w k v) (na : Nd) (ka : Fo) (ga : k.get 0 = some (na, ka)) (ca : MPart na ka w) (hga : Good (fun L => Pl.ev L na ka)) (nb : Nd) (kb : Fo) (gb : k.get 1 = some (nb, kb)) (cb : MPart nb kb w) (hgb : Good (fun L => Pl.ev L nb kb)) :
    Calls Tryz.prog 26 #[ndV ⟨8, 0, 0, vt, nm⟩ v] w fun e w' => ∃ f, e = .returned f ∧ Asks w' f (fun L => Pl.opA 8 (Pl.ev L na ka) (Pl.ev L nb kb)) ∧ Below w.heap.size w w' := by
  have HR := hide hr
  obtain ⟨ad, cap, rfl, hc, hm, hx⟩ := hr
  unfold maxLen at hm
  obtain ⟨g, off, va, rfl, hi, hg, hnd⟩ := part_at HR.out ga
  obtain ⟨g', off', vb, he', hi1, hg', hnb⟩ := part_at HR.out gb
  obtain ⟨rfl, rfl⟩ : g = g' ∧ off = off' := by cases he'; exact ⟨rfl, rfl⟩
  rw [show off + 0 * 6 = off by omega] at hnd
  rw [show off + 1 * 6 = off + 6 by omega] at hnb
  have HND := hide hnd
  have HNB := hide hnb
  have HCA := hide (fun W (hB : Below w.heap.size w W) => ca va W hB (hnd.2.2.2.2.2.2.later hB))
  have HCB := hide (fun W (hB : Below w.heap.size w W) => cb vb W hB (hnb.2.2.2.2.2.2.later hB))
  obtain ⟨aa, cpa, rfl, _⟩ := hnd.2.2.2.2.2.2
  obtain ⟨ab, cpb, rfl, _⟩ := hnb.2.2.2.2.2.2
  have HU := hide (fun fa fb W (h1 : Asks W fa (fun L => Pl.ev L na ka)) (h2 : Asks W fb (fun L => Pl.ev L nb kb)) => askUnless_any false 8 rfl fa fb _ _ hga hgb W h1 h2)
  have HE := hide (EP.drew (EP.start (w := w) (v := .slice (some ⟨g, off, none⟩) k.len cap) (nk := 8) (x1 := .int .i64 0) (x2 := .int .i64 0) (x3 := .string vt) (x4 := .string nm)))
  clear hx hga hgb he' hnd hnb
  go_enter Tryz.func26, Tryz.ntmps26
  go_wp2_with fail
  refine wp_region_noPanic ?_
  refine wp_region_held_drew (S := EP w (.slice (some ⟨g, off, none⟩) k.len cap) 8) (by kernel_rfl) HE.out (fun hHeld => ?_)
  refine wpAnyH_take (i := 0) (oi := Oper.mk (some 25) _ _ _ _ _) (v := ?_) rfl (by kernel_rfl) (by kernel_rfl) (by kernel_rfl) (fun _ _ _ h => h) (Or.inl ⟨by rfl, ?_⟩) (by assumption) ?_
  rotate_left
  · intro w0 hSw
    clear hSw
    go_simp
    all_goals (with_reducible rfl)
  simp only [Act.put, List.setIfInBounds_toArray, List.set_cons_zero, List.set_cons_succ]
  refine wpAnyH_take (i := 1) (oi := Oper.mk (some 26) _ _ _ _ _) (v := ?_) rfl (by kernel_rfl) (by kernel_rfl) (by kernel_rfl) (fun _ _ _ h => h) (Or.inl ⟨by rfl, ?_⟩) (by assumption) ?_
  rotate_left
  · intro w0 hSw
    obtain ⟨⟨zl, z0, z5⟩, zB⟩ := id hSw
    clear hSw
    go_simp
    all_goals (with_reducible rfl)
  simp only [Act.put, List.setIfInBounds_toArray, List.set_cons_zero, List.set_cons_succ]
  refine wpAnyH_take (i := 2) (oi := Oper.mk (some 27) _ _ _ _ _) (v := ?_) rfl (by kernel_rfl) (by kernel_rfl) (by kernel_rfl) (fun _ _ _ h => h) (Or.inl ⟨by rfl, ?_⟩) (by assumption) ?_
  rotate_left
  · intro w0 hSw
    clear hSw
    go_simp
    all_goals (with_reducible rfl)
  simp only [Act.put, List.setIfInBounds_toArray, List.set_cons_zero, List.set_cons_succ]
  refine wpAnyH_take (i := 3) (oi := Oper.mk (some 28) _ _ _ _ _) (v := ?_) rfl (by kernel_rfl) (by kernel_rfl) (by kernel_rfl) (fun _ _ _ h => h) (Or.inl ⟨by rfl, ?_⟩) (by assumption) ?_
  rotate_left
  · intro w0 hSw
    have zB := hSw.2
    obtain ⟨d0, d1, d2, d3, d4, d5, _⟩ := HND.out.later zB hg
    have hgw : g < w0.heap.size := Nat.lt_of_lt_of_le hg zB.size
    clear zB
    clear hSw
    go_simp
    all_goals (with_reducible rfl)
  simp only [Act.put, List.setIfInBounds_toArray, List.set_cons_zero, List.set_cons_succ]
  refine wpAnyH_take (i := 5) (oi := Oper.mk (some 30) _ _ _ _ _) (v := ?_) rfl (by kernel_rfl) (by kernel_rfl) (by kernel_rfl) (fun _ _ _ h => h) (Or.inl ⟨by rfl, ?_⟩) (by assumption) ?_
  rotate_left
  · intro w0 hSw
    clear hSw
    go_simp
    all_goals (with_reducible rfl)
  simp only [Act.put, List.setIfInBounds_toArray, List.set_cons_zero, List.set_cons_succ]
  refine wpAnyH_take (i := 6) (oi := Oper.mk (some 31) _ _ _ _ _) (v := ?_) rfl (by kernel_rfl) (by kernel_rfl) (by kernel_rfl) (fun _ _ _ h => h) (Or.inl ⟨by rfl, ?_⟩) (by assumption) ?_
  rotate_left
  · intro w0 hSw
    obtain ⟨⟨zl, z0, z5⟩, zB⟩ := id hSw
    clear hSw
    go_simp
    all_goals (with_reducible rfl)
  simp only [Act.put, List.setIfInBounds_toArray, List.set_cons_zero, List.set_cons_succ]
  refine wpAnyH_take (i := 7) (oi := Oper.mk (some 32) _ _ _ _ _) (v := ?_) rfl (by kernel_rfl) (by kernel_rfl) (by kernel_rfl) (fun _ _ _ h => h) (Or.inl ⟨by rfl, ?_⟩) (by assumption) ?_
  rotate_left
  · intro w0 hSw
    have hz1 : (1 : Int) < (k.len : Int) := by omega
    clear hSw
    go_simp
    all_goals (with_reducible rfl)
  simp only [Act.put, List.setIfInBounds_toArray, List.set_cons_zero, List.set_cons_succ]
  refine wpAnyH_take (i := 8) (oi := Oper.mk (some 33) _ _ _ _ _) (v := ?_) rfl (by kernel_rfl) (by kernel_rfl) (by kernel_rfl) (fun _ _ _ h => h) (Or.inl ⟨by rfl, ?_⟩) (by assumption) ?_
  rotate_left
  · intro w0 hSw
    have zB := hSw.2
    obtain ⟨x0, x1, x2, x3, x4, x5, _⟩ := HNB.out.later zB hg
    have hgw : g < w0.heap.size := Nat.lt_of_lt_of_le hg zB.size
    clear zB
    clear hSw
    go_simp
    all_goals (with_reducible rfl)
  simp only [Act.put, List.setIfInBounds_toArray, List.set_cons_zero, List.set_cons_succ]
  refine wpAnyH_ready (rs := [4]) (by kernel_rfl) (by simp) ?_
  refine AllReadyH.cons (o := Oper.mk (some 29) _ _ _ _ _) rfl (fun K hK => ?_) AllReadyH.nil
  go_simp
  refine (HCA.out _ (And.right hHeld)).mono ?_
  rintro ewa wa ⟨f1, rfl, hAs, hBw⟩
  have HA1 := hide hAs
  have hHeld_wa := EP.later hHeld hBw
  clear hBw hAs
  go_wp2_with fail
  refine hK.out _ _ hHeld_wa (fun hHeld9 => ?_)
  clear hK K
  (try simp only [Act.put, List.setIfInBounds_toArray, List.set_cons_zero, List.set_cons_succ])
  clear hHeld9
  refine wpAnyH_ready (rs := [9]) (by kernel_rfl) (by simp) ?_
  refine AllReadyH.cons (o := Oper.mk (some 34) _ _ _ _ _) rfl (fun K hK => ?_) AllReadyH.nil
  go_simp
  refine (HCB.out _ (And.right hHeld_wa)).mono ?_
  rintro ewb wb ⟨f2, rfl, hAs, hBw⟩
  have HA2 := hide hAs
  replace HA1 := hide (HA1.out.later hBw)
  have hHeld_wb := EP.later hHeld_wa hBw
  clear hBw hAs
  go_wp2_with fail
  refine hK.out _ _ hHeld_wb (fun hHeld9 => ?_)
  clear hK K
  (try simp only [Act.put, List.setIfInBounds_toArray, List.set_cons_zero, List.set_cons_succ])
  refine wpAnyH_take (i := 10) (oi := Oper.mk (some 3) _ _ _ _ _) (v := ?_) rfl (by kernel_rfl) (by kernel_rfl) (by kernel_rfl) (fun _ _ _ h => h) (Or.inl ⟨by rfl, ?_⟩) (by assumption) ?_
  rotate_left
  · intro w0 hSw
    clear hSw
    go_simp
    all_goals (with_reducible rfl)
  simp only [Act.put, List.setIfInBounds_toArray, List.set_cons_zero, List.set_cons_succ]
  refine wpAnyH_take (i := 11) (oi := Oper.mk (some 4) _ _ _ _ _) (v := ?_) rfl (by kernel_rfl) (by kernel_rfl) (by kernel_rfl) (fun _ _ _ h => h) (Or.inl ⟨by rfl, ?_⟩) (by assumption) ?_
  rotate_left
  · intro w0 hSw
    clear hSw
    go_simp
    all_goals (with_reducible rfl)
  simp only [Act.put, List.setIfInBounds_toArray, List.set_cons_zero, List.set_cons_succ]
  refine wpAnyH_done (by kernel_rfl) ?_ _
  refine NoPanic.normal ?_
  have HE2 := hide hHeld_wb
  have HE2b := hide (And.right hHeld_wb)
  clear hHeld hHeld_wa hHeld_wb hHeld9 HE HCA HCB HND HNB
  obtain ⟨⟨hb0, p0, p5⟩, _⟩ := HE2.out
  have HQ := hide (HU.out f1 f2 _ HA1.out HA2.out)
  go_wp2_with fail
  refine HQ.out.mono ?_
  rintro e w9 ⟨f9, rfl, hA9, hB9⟩
  have HA9 := hide hA9
  have HB9 := hide (HE2b.out.trans (hB9.mono HE2b.out.size))
  clear hA9 hB9 HQ HE2 hb0 p0 p5
  go_wp2
  go_ret
  exact ⟨_, rfl, HA9.out, HB9.out⟩
end Go.Proofs.YtamkncfdfaejjabGreatDoor

/- What is asked, made out of an expression of two parts: or, worked with. -/
namespace Go.Proofs.YtamkncfdfaejjabGreatDoor
open Go.RowKit
set_option linter.unusedVariables false
set_option linter.unusedSimpArgs false
set_option maxRecDepth 100000 in
set_option maxHeartbeats 6400000 in
theorem mk_or (vt nm : ByteArray) (k : Fo) (v : Value) (w : World) (hr : RowAt 0 w k v) (na : Nd) (ka : Fo) (ga : k.get 0 = some (na, ka)) (ca : MPart na ka w) (hga : Good (fun L => Pl.ev L na ka)) (nb : Nd) (kb : Fo) (gb : k.get 1 = some (nb, kb)) (cb : MPart nb kb w) (hgb : Good (fun L => Pl.ev L nb kb)) :
    Calls Tryz.prog 26 #[ndV ⟨9, 0, 0, vt, nm⟩ v] w fun e w' => ∃ f, e = .returned f ∧ Asks w' f (fun L => Pl.opA 9 (Pl.ev L na ka) (Pl.ev L nb kb)) ∧ Below w.heap.size w w' := by
  have HR := hide hr
  obtain ⟨ad, cap, rfl, hc, hm, hx⟩ := hr
  unfold maxLen at hm
  obtain ⟨g, off, va, rfl, hi, hg, hnd⟩ := part_at HR.out ga
  obtain ⟨g', off', vb, he', hi1, hg', hnb⟩ := part_at HR.out gb
  obtain ⟨rfl, rfl⟩ : g = g' ∧ off = off' := by cases he'; exact ⟨rfl, rfl⟩
  rw [show off + 0 * 6 = off by omega] at hnd
  rw [show off + 1 * 6 = off + 6 by omega] at hnb
  have HND := hide hnd
  have HNB := hide hnb
  have HCA := hide (fun W (hB : Below w.heap.size w W) => ca va W hB (hnd.2.2.2.2.2.2.later hB))
  have HCB := hide (fun W (hB : Below w.heap.size w W) => cb vb W hB (hnb.2.2.2.2.2.2.later hB))
  obtain ⟨aa, cpa, rfl, _⟩ := hnd.2.2.2.2.2.2
  obtain ⟨ab, cpb, rfl, _⟩ := hnb.2.2.2.2.2.2
  have HU := hide (fun fa fb W (h1 : Asks W fa (fun L => Pl.ev L na ka)) (h2 : Asks W fb (fun L => Pl.ev L nb kb)) => askUnless_any true 9 rfl fa fb _ _ hga hgb W h1 h2)
  have HE := hide (EP.drew (EP.start (w := w) (v := .slice (some ⟨g, off, none⟩) k.len cap) (nk := 9) (x1 := .int .i64 0) (x2 := .int .i64 0) (x3 := .string vt) (x4 := .string nm)))
  clear hx hga hgb he' hnd hnb
  go_enter Tryz.func26, Tryz.ntmps26
  go_wp2_with fail
  refine wp_region_noPanic ?_
  refine wp_region_held_drew (S := EP w (.slice (some ⟨g, off, none⟩) k.len cap) 9) (by kernel_rfl) HE.out (fun hHeld => ?_)
  refine wpAnyH_take (i := 0) (oi := Oper.mk (some 25) _ _ _ _ _) (v := ?_) rfl (by kernel_rfl) (by kernel_rfl) (by kernel_rfl) (fun _ _ _ h => h) (Or.inl ⟨by rfl, ?_⟩) (by assumption) ?_
  rotate_left
  · intro w0 hSw
    clear hSw
    go_simp
    all_goals (with_reducible rfl)
  simp only [Act.put, List.setIfInBounds_toArray, List.set_cons_zero, List.set_cons_succ]
  refine wpAnyH_take (i := 1) (oi := Oper.mk (some 26) _ _ _ _ _) (v := ?_) rfl (by kernel_rfl) (by kernel_rfl) (by kernel_rfl) (fun _ _ _ h => h) (Or.inl ⟨by rfl, ?_⟩) (by assumption) ?_
  rotate_left
  · intro w0 hSw
    obtain ⟨⟨zl, z0, z5⟩, zB⟩ := id hSw
    clear hSw
    go_simp
    all_goals (with_reducible rfl)
  simp only [Act.put, List.setIfInBounds_toArray, List.set_cons_zero, List.set_cons_succ]
  refine wpAnyH_take (i := 2) (oi := Oper.mk (some 27) _ _ _ _ _) (v := ?_) rfl (by kernel_rfl) (by kernel_rfl) (by kernel_rfl) (fun _ _ _ h => h) (Or.inl ⟨by rfl, ?_⟩) (by assumption) ?_
  rotate_left
  · intro w0 hSw
    clear hSw
    go_simp
    all_goals (with_reducible rfl)
  simp only [Act.put, List.setIfInBounds_toArray, List.set_cons_zero, List.set_cons_succ]
  refine wpAnyH_take (i := 3) (oi := Oper.mk (some 28) _ _ _ _ _) (v := ?_) rfl (by kernel_rfl) (by kernel_rfl) (by kernel_rfl) (fun _ _ _ h => h) (Or.inl ⟨by rfl, ?_⟩) (by assumption) ?_
  rotate_left
  · intro w0 hSw
    have zB := hSw.2
    obtain ⟨d0, d1, d2, d3, d4, d5, _⟩ := HND.out.later zB hg
    have hgw : g < w0.heap.size := Nat.lt_of_lt_of_le hg zB.size
    clear zB
    clear hSw
    go_simp
    all_goals (with_reducible rfl)
  simp only [Act.put, List.setIfInBounds_toArray, List.set_cons_zero, List.set_cons_succ]
  refine wpAnyH_take (i := 5) (oi := Oper.mk (some 30) _ _ _ _ _) (v := ?_) rfl (by kernel_rfl) (by kernel_rfl) (by kernel_rfl) (fun _ _ _ h => h) (Or.inl ⟨by rfl, ?_⟩) (by assumption) ?_
  rotate_left
  · intro w0 hSw
    clear hSw
    go_simp
    all_goals (with_reducible rfl)
  simp only [Act.put, List.setIfInBounds_toArray, List.set_cons_zero, List.set_cons_succ]
  refine wpAnyH_take (i := 6) (oi := Oper.mk (some 31) _ _ _ _ _) (v := ?_) rfl (by kernel_rfl) (by kernel_rfl) (by kernel_rfl) (fun _ _ _ h => h) (Or.inl ⟨by rfl, ?_⟩) (by assumption) ?_
  rotate_left
  · intro w0 hSw
    obtain ⟨⟨zl, z0, z5⟩, zB⟩ := id hSw
    clear hSw
    go_simp
    all_goals (with_reducible rfl)
  simp only [Act.put, List.setIfInBounds_toArray, List.set_cons_zero, List.set_cons_succ]
  refine wpAnyH_take (i := 7) (oi := Oper.mk (some 32) _ _ _ _ _) (v := ?_) rfl (by kernel_rfl) (by kernel_rfl) (by kernel_rfl) (fun _ _ _ h => h) (Or.inl ⟨by rfl, ?_⟩) (by assumption) ?_
  rotate_left
  · intro w0 hSw
    have hz1 : (1 : Int) < (k.len : Int) := by omega
    clear hSw
    go_simp
    all_goals (with_reducible rfl)
  simp only [Act.put, List.setIfInBounds_toArray, List.set_cons_zero, List.set_cons_succ]
  refine wpAnyH_take (i := 8) (oi := Oper.mk (some 33) _ _ _ _ _) (v := ?_) rfl (by kernel_rfl) (by kernel_rfl) (by kernel_rfl) (fun _ _ _ h => h) (Or.inl ⟨by rfl, ?_⟩) (by assumption) ?_
  rotate_left
  · intro w0 hSw
    have zB := hSw.2
    obtain ⟨x0, x1, x2, x3, x4, x5, _⟩ := HNB.out.later zB hg
    have hgw : g < w0.heap.size := Nat.lt_of_lt_of_le hg zB.size
    clear zB
    clear hSw
    go_simp
    all_goals (with_reducible rfl)
  simp only [Act.put, List.setIfInBounds_toArray, List.set_cons_zero, List.set_cons_succ]
  refine wpAnyH_ready (rs := [4]) (by kernel_rfl) (by simp) ?_
  refine AllReadyH.cons (o := Oper.mk (some 29) _ _ _ _ _) rfl (fun K hK => ?_) AllReadyH.nil
  go_simp
  refine (HCA.out _ (And.right hHeld)).mono ?_
  rintro ewa wa ⟨f1, rfl, hAs, hBw⟩
  have HA1 := hide hAs
  have hHeld_wa := EP.later hHeld hBw
  clear hBw hAs
  go_wp2_with fail
  refine hK.out _ _ hHeld_wa (fun hHeld9 => ?_)
  clear hK K
  (try simp only [Act.put, List.setIfInBounds_toArray, List.set_cons_zero, List.set_cons_succ])
  clear hHeld9
  refine wpAnyH_ready (rs := [9]) (by kernel_rfl) (by simp) ?_
  refine AllReadyH.cons (o := Oper.mk (some 34) _ _ _ _ _) rfl (fun K hK => ?_) AllReadyH.nil
  go_simp
  refine (HCB.out _ (And.right hHeld_wa)).mono ?_
  rintro ewb wb ⟨f2, rfl, hAs, hBw⟩
  have HA2 := hide hAs
  replace HA1 := hide (HA1.out.later hBw)
  have hHeld_wb := EP.later hHeld_wa hBw
  clear hBw hAs
  go_wp2_with fail
  refine hK.out _ _ hHeld_wb (fun hHeld9 => ?_)
  clear hK K
  (try simp only [Act.put, List.setIfInBounds_toArray, List.set_cons_zero, List.set_cons_succ])
  refine wpAnyH_take (i := 10) (oi := Oper.mk (some 3) _ _ _ _ _) (v := ?_) rfl (by kernel_rfl) (by kernel_rfl) (by kernel_rfl) (fun _ _ _ h => h) (Or.inl ⟨by rfl, ?_⟩) (by assumption) ?_
  rotate_left
  · intro w0 hSw
    clear hSw
    go_simp
    all_goals (with_reducible rfl)
  simp only [Act.put, List.setIfInBounds_toArray, List.set_cons_zero, List.set_cons_succ]
  refine wpAnyH_take (i := 11) (oi := Oper.mk (some 4) _ _ _ _ _) (v := ?_) rfl (by kernel_rfl) (by kernel_rfl) (by kernel_rfl) (fun _ _ _ h => h) (Or.inl ⟨by rfl, ?_⟩) (by assumption) ?_
  rotate_left
  · intro w0 hSw
    clear hSw
    go_simp
    all_goals (with_reducible rfl)
  simp only [Act.put, List.setIfInBounds_toArray, List.set_cons_zero, List.set_cons_succ]
  refine wpAnyH_done (by kernel_rfl) ?_ _
  refine NoPanic.normal ?_
  have HE2 := hide hHeld_wb
  have HE2b := hide (And.right hHeld_wb)
  clear hHeld hHeld_wa hHeld_wb hHeld9 HE HCA HCB HND HNB
  obtain ⟨⟨hb0, p0, p5⟩, _⟩ := HE2.out
  have HQ := hide (HU.out f1 f2 _ HA1.out HA2.out)
  go_wp2_with fail
  refine HQ.out.mono ?_
  rintro e w9 ⟨f9, rfl, hA9, hB9⟩
  have HA9 := hide hA9
  have HB9 := hide (HE2b.out.trans (hB9.mono HE2b.out.size))
  clear hA9 hB9 HQ HE2 hb0 p0 p5
  go_wp2
  go_ret
  exact ⟨_, rfl, HA9.out, HB9.out⟩
set_option maxRecDepth 100000 in
set_option maxHeartbeats 6400000 in
theorem mk_both (nk : Int) (hk : 3 ≤ nk ∧ nk ≤ 7) (vt nm : ByteArray) (k : Fo) (v : Value) (w : World) (hr : RowAt 0 w k v) (na : Nd) (ka : Fo) (ga : k.get 0 = some (na, ka)) (ca : MPart na ka w) (hga : Good (fun L => Pl.ev L na ka)) (nb : Nd) (kb : Fo) (gb : k.get 1 = some (nb, kb)) (cb : MPart nb kb w) (hgb : Good (fun L => Pl.ev L nb kb)) :
    Calls Tryz.prog 26 #[ndV ⟨nk, 0, 0, vt, nm⟩ v] w fun e w' => ∃ f, e = .returned f ∧ Asks w' f (fun L => Pl.opA nk (Pl.ev L na ka) (Pl.ev L nb kb)) ∧ Below w.heap.size w w' := by
  have HR := hide hr
  obtain ⟨ad, cap, rfl, hc, hm, hx⟩ := hr
  unfold maxLen at hm
  obtain ⟨g, off, va, rfl, hi, hg, hnd⟩ := part_at HR.out ga
  obtain ⟨g', off', vb, he', hi1, hg', hnb⟩ := part_at HR.out gb
  obtain ⟨rfl, rfl⟩ : g = g' ∧ off = off' := by cases he'; exact ⟨rfl, rfl⟩
  rw [show off + 0 * 6 = off by omega] at hnd
  rw [show off + 1 * 6 = off + 6 by omega] at hnb
  have HND := hide hnd
  have HNB := hide hnb
  have HCA := hide (fun W (hB : Below w.heap.size w W) => ca va W hB (hnd.2.2.2.2.2.2.later hB))
  have HCB := hide (fun W (hB : Below w.heap.size w W) => cb vb W hB (hnb.2.2.2.2.2.2.later hB))
  obtain ⟨aa, cpa, rfl, _⟩ := hnd.2.2.2.2.2.2
  obtain ⟨ab, cpb, rfl, _⟩ := hnb.2.2.2.2.2.2
  have HW := hide (fun W => exprWork_any nk hk W)
  have HU := hide (fun fw fa fb W (h0 : WorkAt W fw nk) (h1 : Asks W fa (fun L => Pl.ev L na ka)) (h2 : Asks W fb (fun L => Pl.ev L nb kb)) => askBoth_any nk hk fw fa fb _ _ hga hgb W h0 h1 h2)
  have q1 : (nk == 1) = false := by simp; omega
  have q2 : (nk == 2) = false := by simp; omega
  have q8 : (nk == 8) = false := by simp; omega
  have q9 : (nk == 9) = false := by simp; omega
  have q10 : (nk == 10) = false := by simp; omega
  clear hk
  have HE := hide (EP.drew (EP.start (w := w) (v := .slice (some ⟨g, off, none⟩) k.len cap) (nk := nk) (x1 := .int .i64 0) (x2 := .int .i64 0) (x3 := .string vt) (x4 := .string nm)))
  clear hx hga hgb he' hnd hnb
  go_enter Tryz.func26, Tryz.ntmps26
  go_wp2_with fail
  refine wp_region_noPanic ?_
  refine wp_region_held_drew (S := EP w (.slice (some ⟨g, off, none⟩) k.len cap) nk) (by kernel_rfl) HE.out (fun hHeld => ?_)
  refine wpAnyH_take (i := 0) (oi := Oper.mk (some 25) _ _ _ _ _) (v := ?_) rfl (by kernel_rfl) (by kernel_rfl) (by kernel_rfl) (fun _ _ _ h => h) (Or.inl ⟨by rfl, ?_⟩) (by assumption) ?_
  rotate_left
  · intro w0 hSw
    clear hSw
    go_simp
    all_goals (with_reducible rfl)
  simp only [Act.put, List.setIfInBounds_toArray, List.set_cons_zero, List.set_cons_succ]
  refine wpAnyH_take (i := 1) (oi := Oper.mk (some 26) _ _ _ _ _) (v := ?_) rfl (by kernel_rfl) (by kernel_rfl) (by kernel_rfl) (fun _ _ _ h => h) (Or.inl ⟨by rfl, ?_⟩) (by assumption) ?_
  rotate_left
  · intro w0 hSw
    obtain ⟨⟨zl, z0, z5⟩, zB⟩ := id hSw
    clear hSw
    go_simp
    all_goals (with_reducible rfl)
  simp only [Act.put, List.setIfInBounds_toArray, List.set_cons_zero, List.set_cons_succ]
  refine wpAnyH_take (i := 2) (oi := Oper.mk (some 27) _ _ _ _ _) (v := ?_) rfl (by kernel_rfl) (by kernel_rfl) (by kernel_rfl) (fun _ _ _ h => h) (Or.inl ⟨by rfl, ?_⟩) (by assumption) ?_
  rotate_left
  · intro w0 hSw
    clear hSw
    go_simp
    all_goals (with_reducible rfl)
  simp only [Act.put, List.setIfInBounds_toArray, List.set_cons_zero, List.set_cons_succ]
  refine wpAnyH_take (i := 3) (oi := Oper.mk (some 28) _ _ _ _ _) (v := ?_) rfl (by kernel_rfl) (by kernel_rfl) (by kernel_rfl) (fun _ _ _ h => h) (Or.inl ⟨by rfl, ?_⟩) (by assumption) ?_
  rotate_left
  · intro w0 hSw
    have zB := hSw.2
    obtain ⟨d0, d1, d2, d3, d4, d5, _⟩ := HND.out.later zB hg
    have hgw : g < w0.heap.size := Nat.lt_of_lt_of_le hg zB.size
    clear zB
    clear hSw
    go_simp
    all_goals (with_reducible rfl)
  simp only [Act.put, List.setIfInBounds_toArray, List.set_cons_zero, List.set_cons_succ]
  refine wpAnyH_take (i := 5) (oi := Oper.mk (some 30) _ _ _ _ _) (v := ?_) rfl (by kernel_rfl) (by kernel_rfl) (by kernel_rfl) (fun _ _ _ h => h) (Or.inl ⟨by rfl, ?_⟩) (by assumption) ?_
  rotate_left
  · intro w0 hSw
    clear hSw
    go_simp
    all_goals (with_reducible rfl)
  simp only [Act.put, List.setIfInBounds_toArray, List.set_cons_zero, List.set_cons_succ]
  refine wpAnyH_take (i := 6) (oi := Oper.mk (some 31) _ _ _ _ _) (v := ?_) rfl (by kernel_rfl) (by kernel_rfl) (by kernel_rfl) (fun _ _ _ h => h) (Or.inl ⟨by rfl, ?_⟩) (by assumption) ?_
  rotate_left
  · intro w0 hSw
    obtain ⟨⟨zl, z0, z5⟩, zB⟩ := id hSw
    clear hSw
    go_simp
    all_goals (with_reducible rfl)
  simp only [Act.put, List.setIfInBounds_toArray, List.set_cons_zero, List.set_cons_succ]
  refine wpAnyH_take (i := 7) (oi := Oper.mk (some 32) _ _ _ _ _) (v := ?_) rfl (by kernel_rfl) (by kernel_rfl) (by kernel_rfl) (fun _ _ _ h => h) (Or.inl ⟨by rfl, ?_⟩) (by assumption) ?_
  rotate_left
  · intro w0 hSw
    have hz1 : (1 : Int) < (k.len : Int) := by omega
    clear hSw
    go_simp
    all_goals (with_reducible rfl)
  simp only [Act.put, List.setIfInBounds_toArray, List.set_cons_zero, List.set_cons_succ]
  refine wpAnyH_take (i := 8) (oi := Oper.mk (some 33) _ _ _ _ _) (v := ?_) rfl (by kernel_rfl) (by kernel_rfl) (by kernel_rfl) (fun _ _ _ h => h) (Or.inl ⟨by rfl, ?_⟩) (by assumption) ?_
  rotate_left
  · intro w0 hSw
    have zB := hSw.2
    obtain ⟨x0, x1, x2, x3, x4, x5, _⟩ := HNB.out.later zB hg
    have hgw : g < w0.heap.size := Nat.lt_of_lt_of_le hg zB.size
    clear zB
    clear hSw
    go_simp
    all_goals (with_reducible rfl)
  simp only [Act.put, List.setIfInBounds_toArray, List.set_cons_zero, List.set_cons_succ]
  refine wpAnyH_ready (rs := [4]) (by kernel_rfl) (by simp) ?_
  refine AllReadyH.cons (o := Oper.mk (some 29) _ _ _ _ _) rfl (fun K hK => ?_) AllReadyH.nil
  go_simp
  refine (HCA.out _ (And.right hHeld)).mono ?_
  rintro ewa wa ⟨f1, rfl, hAs, hBw⟩
  have HA1 := hide hAs
  have hHeld_wa := EP.later hHeld hBw
  clear hBw hAs
  go_wp2_with fail
  refine hK.out _ _ hHeld_wa (fun hHeld9 => ?_)
  clear hK K
  (try simp only [Act.put, List.setIfInBounds_toArray, List.set_cons_zero, List.set_cons_succ])
  clear hHeld9
  refine wpAnyH_ready (rs := [9]) (by kernel_rfl) (by simp) ?_
  refine AllReadyH.cons (o := Oper.mk (some 34) _ _ _ _ _) rfl (fun K hK => ?_) AllReadyH.nil
  go_simp
  refine (HCB.out _ (And.right hHeld_wa)).mono ?_
  rintro ewb wb ⟨f2, rfl, hAs, hBw⟩
  have HA2 := hide hAs
  replace HA1 := hide (HA1.out.later hBw)
  have hHeld_wb := EP.later hHeld_wa hBw
  clear hBw hAs
  go_wp2_with fail
  refine hK.out _ _ hHeld_wb (fun hHeld9 => ?_)
  clear hK K
  (try simp only [Act.put, List.setIfInBounds_toArray, List.set_cons_zero, List.set_cons_succ])
  refine wpAnyH_take (i := 10) (oi := Oper.mk (some 3) _ _ _ _ _) (v := ?_) rfl (by kernel_rfl) (by kernel_rfl) (by kernel_rfl) (fun _ _ _ h => h) (Or.inl ⟨by rfl, ?_⟩) (by assumption) ?_
  rotate_left
  · intro w0 hSw
    clear hSw
    go_simp
    all_goals (with_reducible rfl)
  simp only [Act.put, List.setIfInBounds_toArray, List.set_cons_zero, List.set_cons_succ]
  refine wpAnyH_take (i := 11) (oi := Oper.mk (some 4) _ _ _ _ _) (v := ?_) rfl (by kernel_rfl) (by kernel_rfl) (by kernel_rfl) (fun _ _ _ h => h) (Or.inl ⟨by rfl, ?_⟩) (by assumption) ?_
  rotate_left
  · intro w0 hSw
    clear hSw
    go_simp
    all_goals (with_reducible rfl)
  simp only [Act.put, List.setIfInBounds_toArray, List.set_cons_zero, List.set_cons_succ]
  refine wpAnyH_done (by kernel_rfl) ?_ _
  refine NoPanic.normal ?_
  have HE2 := hide hHeld_wb
  have HE2b := hide (And.right hHeld_wb)
  clear hHeld hHeld_wa hHeld_wb hHeld9 HE HCA HCB HND HNB
  obtain ⟨⟨hb0, p0, p5⟩, _⟩ := HE2.out
  go_wp2_with fail
  refine (HW.out _).mono ?_
  rintro e w8 ⟨fw, rfl, hW8, hB8⟩
  have HQ := hide (HU.out fw f1 f2 _ hW8 (HA1.out.later hB8) (HA2.out.later hB8))
  have HB8 := hide (HE2b.out.trans (hB8.mono HE2b.out.size))
  clear hW8 hB8 HW HE2 hb0 p0 p5
  go_wp2_with fail
  refine HQ.out.mono ?_
  rintro e w9 ⟨f9, rfl, hA9, hB9⟩
  have HA9 := hide hA9
  have HB9 := hide (HB8.out.trans (hB9.mono HB8.out.size))
  clear hA9 hB9 HQ
  go_wp2
  go_ret
  exact ⟨_, rfl, HA9.out, HB9.out⟩
end Go.Proofs.YtamkncfdfaejjabGreatDoor

/- What is asked, made out of an expression, at every depth. -/
namespace Go.Proofs.YtamkncfdfaejjabGreatDoor
open Go.RowKit
set_option linter.unusedVariables false
set_option linter.unusedSimpArgs false
theorem nm_le10 {s : ByteArray} (h : Pl.nameB s = true) : s.size ≤ 10 := by
  simp only [Pl.nameB, Bool.and_eq_true, decide_eq_true_eq] at h
  exact h.2.2.1
theorem asks_eq {w : World} {f : Value} {g g' : Pl.Look → Option Va} (h : ∀ L, g L = g' L) (ha : Asks w f g) : Asks w f g' := by
  have : g = g' := funext h
  rw [← this]
  exact ha
theorem exprMake_step (d : Nat) (ih : 2 ≤ d → MkP (d - 1)) : MkP d := by
  intro nd k v w hok hr
  have hd1 := (ok_parts hok).1
  have hvb := (ok_parts hok).2.2.1
  have hnb := (ok_parts hok).2.2.2.1
  have hkf := (ok_parts hok).2.2.2.2
  have hpart : ∀ i na ka, k.get i = some (na, ka) → Pl.okN na ka (d - 1) = true ∧ MPart na ka w := by
    intro i na ka hg
    have hok' := Pl.okF_get hkf hg
    have hd2 : 2 ≤ d := by have := (ok_parts hok').1; omega
    exact ⟨hok', fun va W hB hra => ih hd2 na ka va W hok' hra⟩
  obtain ⟨nk, vk, vn, vt, nm⟩ := nd
  have fin : ∀ g : Pl.Look → Option Va, (∀ L, g L = Pl.ev L ⟨nk, vk, vn, vt, nm⟩ k) → (Calls Tryz.prog 26 #[ndV ⟨nk, vk, vn, vt, nm⟩ v] w fun e w' => ∃ f, e = .returned f ∧ Asks w' f g ∧ Below w.heap.size w w') →
      Calls Tryz.prog 26 #[ndV ⟨nk, vk, vn, vt, nm⟩ v] w fun e w' => ∃ f, e = .returned f ∧ Asks w' f (fun L => Pl.ev L ⟨nk, vk, vn, vt, nm⟩ k) ∧ Below w.heap.size w w' :=
    fun g hg hc => hc.mono fun e w' ⟨f, he, ha, hb⟩ => ⟨f, he, asks_eq hg ha, hb⟩
  rcases ok_kind hok with ⟨h, _⟩ | ⟨h, hz, e1, e2, _⟩ | ⟨h, hz, e1, e2⟩ | ⟨h3, h9, hz, e1, e2⟩
  · simp only at h
    subst h
    refine fin _ (fun L => (Pl.ev_val rfl).symm) (mk_val vk vn vt nm ?_ v w)
    simpa [Pl.valB, Pl.okA] using hvb
  · simp only at h e1 e2
    subst h e1 e2
    refine fin _ (fun L => (Pl.ev_var rfl).symm) (mk_var vt nm (nm_le10 ?_) v w)
    simpa [Pl.nmB] using hnb
  · simp only at h e1 e2
    subst h e1 e2
    obtain ⟨na, ka, ga⟩ := k.get_some 0 (by omega)
    obtain ⟨oa, hp⟩ := hpart 0 na ka ga
    exact fin _ (fun L => (Pl.ev_not rfl ga).symm) (mk_not vt nm k v w hr na ka ga hp (good_ev oa))
  · simp only at h3 h9 e1 e2
    subst e1 e2
    obtain ⟨na, ka, ga⟩ := k.get_some 0 (by omega)
    obtain ⟨nb, kb, gb⟩ := k.get_some 1 (by omega)
    obtain ⟨oa, hp⟩ := hpart 0 na ka ga
    obtain ⟨ob, hq⟩ := hpart 1 nb kb gb
    have he : ∀ L, Pl.opA nk (Pl.ev L na ka) (Pl.ev L nb kb) = Pl.ev L ⟨nk, 0, 0, vt, nm⟩ k := fun L => (Pl.ev_op (nd := ⟨nk, 0, 0, vt, nm⟩) (show ¬ nk = 1 by omega) (show ¬ nk = 2 by omega) ga gb).symm
    by_cases h8 : nk = 8
    · subst h8
      exact fin _ he (mk_and vt nm k v w hr na ka ga hp (good_ev oa) nb kb gb hq (good_ev ob))
    · by_cases h9' : nk = 9
      · subst h9'
        exact fin _ he (mk_or vt nm k v w hr na ka ga hp (good_ev oa) nb kb gb hq (good_ev ob))
      · exact fin _ he (mk_both nk (by omega) vt nm k v w hr na ka ga hp (good_ev oa) nb kb gb hq (good_ev ob))
theorem exprMake_any : ∀ (d : Nat), MkP d
  | 0 => exprMake_step 0 (fun h => by omega)
  | d + 1 => exprMake_step (d + 1) (fun h => exprMake_any d)
end Go.Proofs.YtamkncfdfaejjabGreatDoor

/- What is asked by names: and, or; two parts worked with. -/
import Derived.Test.YtiffgomkhoalpaaGreatDoorEvI4
import Derived.Deep.RegionWith
namespace Go.Proofs.YtiffgomkhoalpaaGreatDoor
open Go.RowKit
set_option linter.unusedVariables false
set_option linter.unusedSimpArgs false
/-- whether a content counts can be asked -/
def Cnt (c : Value) (bv : Bool) : Prop := ∃ (T : TypeId) (x : Value) (F : FuncId), c = .iface T x ∧ Fun F ∧ (∀ w : World, (method 312 T x "loop.example/backstitch/impl.counts").run Tryz.prog w = .ok (F, x) w) ∧ ∀ W : World, Calls Tryz.prog F #[x] W fun e w' => e = .returned (.bool bv) ∧ Below W.heap.size W w'
theorem fun_cn : Fun 151 := ⟨_, Tryz.func151, by kernel_rfl, by kernel_rfl⟩
theorem fun_ci : Fun 154 := ⟨_, Tryz.func154, by kernel_rfl, by kernel_rfl⟩
theorem fun_ct : Fun 157 := ⟨_, Tryz.func157, by kernel_rfl, by kernel_rfl⟩
theorem cnt_of {v : Va} (h : Pl.okA v = true) : Cnt (cvA v) (Pl.countsA v) := by
  rcases cvA_cases h with ⟨e, rfl⟩ | ⟨n, e, rfl, _⟩ | ⟨t, e, rfl, _⟩
  · exact ⟨_, _, _, e, fun_cn, m_none_counts, countsNone_any⟩
  · exact ⟨_, _, _, e, fun_ci, m_num_counts n, countsNum_any n⟩
  · exact ⟨_, _, _, e, fun_ct, m_text_counts t, countsText_any t⟩
/-- three captured cells -/
def Caps3 (p1 p2 p3 : Nat) (x1 x2 x3 : Value) (W : World) : Prop := W.cell? ⟨p1, 0, none⟩ = some x1 ∧ W.cell? ⟨p2, 0, none⟩ = some x2 ∧ W.cell? ⟨p3, 0, none⟩ = some x3
theorem Caps3.later {p1 p2 p3 : Nat} {x1 x2 x3 : Value} {W W1 : World} (h : Caps3 p1 p2 p3 x1 x2 x3 W) (hB : Below W.heap.size W W1) : Caps3 p1 p2 p3 x1 x2 x3 W1 := by
  have C : ∀ {p : Nat} {x : Value}, W.cell? ⟨p, 0, none⟩ = some x → W1.cell? ⟨p, 0, none⟩ = some x := fun {p x} hc => (hB.cell (p := ⟨p, 0, none⟩) (World.block_lt_of_cell? W ⟨p, 0, none⟩ hc)).trans hc
  exact ⟨C h.1, C h.2.1, C h.2.2⟩
set_option maxRecDepth 100000 in
set_option maxHeartbeats 3200000 in
theorem unless_none (s : Bool) (ida : FuncId) (ca : Array Value) (hFa : Fun ida) (fb : Value) (b p1 p2 p3 : Nat) (W : World) (hc : Caps3 p1 p2 p3 (.func (.func ida) #[] ca) (.bool s) fb W) (h : Calls Tryz.prog ida (#[.map (some b)] ++ ca) W (WorkPost none W)) :
    Calls Tryz.prog 108 #[.map (some b), .pointer (some ⟨p1, 0, none⟩), .pointer (some ⟨p2, 0, none⟩), .pointer (some ⟨p3, 0, none⟩)] W (WorkPost none W) := by
  have H := hide h
  have hcf := run_fun hFa
  obtain ⟨c1, c2, c3⟩ := hc
  clear h
  go_enter Tryz.func108, Tryz.ntmps108
  go_wp2_with fail
  refine H.out.mono ?_
  rintro e w1 ⟨⟨x, rfl, s', rfl⟩, hB1⟩
  have HB := hide hB1
  clear hB1 H hcf c1 c2 c3
  go_wp2_with fail
  go_quiet (fail)
  go_wp2
  go_ret2
  exact ⟨⟨_, rfl, s', rfl⟩, below_drewN HB.out _⟩
set_option maxRecDepth 100000 in
set_option maxHeartbeats 3200000 in
theorem unless_first (s : Bool) (ida : FuncId) (ca : Array Value) (hFa : Fun ida) (fb : Value) (a : Va) (ha : Pl.okA a = true) (hs : Pl.countsA a = s) (b p1 p2 p3 : Nat) (W : World) (hc : Caps3 p1 p2 p3 (.func (.func ida) #[] ca) (.bool s) fb W) (h : Calls Tryz.prog ida (#[.map (some b)] ++ ca) W (WorkPost (some a) W)) :
    Calls Tryz.prog 108 #[.map (some b), .pointer (some ⟨p1, 0, none⟩), .pointer (some ⟨p2, 0, none⟩), .pointer (some ⟨p3, 0, none⟩)] W (WorkPost (some (Pl.truthA s)) W) := by
  have H := hide h
  have hcf := run_fun hFa
  have HC := hide hc
  obtain ⟨c1, c2, c3⟩ := hc
  obtain ⟨T, x0, F, he, hF, hm, hcnt⟩ := cnt_of ha
  rw [hs] at hcnt
  have hcf2 := run_fun hF
  have HCN := hide hcnt
  have ht := hide (truth_any s)
  clear h hcnt hs
  go_enter Tryz.func108, Tryz.ntmps108
  go_wp2_with fail
  refine H.out.mono ?_
  rintro e w1 ⟨⟨x, rfl, rfl⟩, hB1⟩
  have HB := hide hB1
  have HC1 := hide (HC.out.later hB1)
  rw [he]
  clear hB1 H hcf c1 c2 c3 he
  obtain ⟨c1, c2, c3⟩ := HC1.out
  have hss : (s != s) = false := by simp
  go_wp2_with fail
  go_region_with (first | (refine (HCN.out _).mono ?_; rintro e2 w2 ⟨rfl, hB2⟩; have HB2 := hide (HB.out.trans ((undr hB2).mono HB.out.size)); have HC2 := hide (HC1.out.later (undr hB2)); obtain ⟨k1, k2, k3⟩ := HC1.out.later (undr hB2); clear hB2))
  all_goals
    clear c1 c2 c3 k1 k2 k3
    go_wp2_with fail
    refine (HCN.out _).mono ?_
    rintro e3 w3 ⟨rfl, hB3⟩
    have HB3 := hide (HB2.out.trans (hB3.mono HB2.out.size))
    clear hB3
    go_wp2_with fail
    refine (ht.out _).mono ?_
    rintro e4 w4 ⟨rfl, rfl⟩
    go_wp2
    go_ret2
    exact ⟨⟨_, rfl, rfl⟩, HB3.out⟩
end Go.Proofs.YtiffgomkhoalpaaGreatDoor

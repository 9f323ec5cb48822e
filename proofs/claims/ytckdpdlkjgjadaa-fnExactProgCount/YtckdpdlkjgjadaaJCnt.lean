/- Joined: PCnt PCnL LawPCt. -/
import Derived.Test.YtckdpdlkjgjadaaPSz
import Derived.Test.YtckdpdlkjgjadaaSco4
import Derived.Test.YtckdpdlkjgjadaaJLaw
/- Steps counted, by the specification and by the program. -/
namespace Go.Proofs.Ytckdpdlkjgjadaa
open Go.RowKit
set_option linter.unusedVariables false

def CnP (F : Ps) : Prop := ∀ (v : Value) (w : World), F.nodes ≤ 1048576 → PRow 0 w F v → Calls Try.prog 48 #[v] w fun e w' => e = .returned (.int .i64 (F.nodes : Int)) ∧ Below w.heap.size w w'
theorem kn_room (F : Ps) (i : Nat) (sn : Sn) (b e : Ps) (h : F.get i = some (sn, b, e)) : F.kn i + i + 1 + b.nodes + e.nodes = F.kn (i + 1) + (i + 1) ∧ F.kn (i + 1) + (i + 1) ≤ F.nodes := by
  have h1 := F.kn_succ i sn b e h
  have h2 := F.kn_le (i + 1)
  have h3 := F.kn_all
  have h4 := Ps.get_lt h
  omega
set_option maxRecDepth 100000 in
set_option maxHeartbeats 1600000 in
theorem l3Count_of (F : Ps) (ih : ∀ i sn b e, F.get i = some (sn, b, e) → CnP b ∧ CnP e) : CnP F := by
  intro v w hn hr
  obtain ⟨ad, cap, rfl, hc, hm, hx⟩ := hr
  unfold maxLen at hm
  have HKA := hide F.kn_all
  have hN : F.len ≤ 1048576 := by have := F.kn_all; omega
  have HX := hide hx
  have IH := hide ih
  have HNN := hide hn
  clear hx ih hn
  go_enter Try.func48, Try.ntmps48
  go_wp2_with fail
  go_loopw [3, 4] (fun nv iv wr => ∃ (i m : Nat), i ≤ F.len ∧ iv = .int .i64 i ∧ nv = .int .i64 m ∧ Hid (m = F.kn i + i) ∧ Hid (Below w.heap.size w wr)) (fun _ iv _ => F.len - (intOf iv).toNat)
  case atStart => exact ⟨0, 0, by omega, rfl, rfl, hide (by rw [F.kn_zero]), hide (Below.refl _ _)⟩
  case round =>
    obtain ⟨i, m, hi, rfl, rfl, HM, HB⟩ := hrel
    by_cases hlt : i < F.len
    · obtain ⟨g, off, rfl, _, hg, hfo⟩ := HX.out (by omega)
      obtain ⟨sn, b, e, hget⟩ := F.get_some i hlt
      obtain ⟨ve, vb, vl, hst⟩ := hfo.get hget
      obtain ⟨hrm1, hrm2⟩ := kn_room F i sn b e hget
      have hrm : m + 1 + b.nodes + e.nodes ≤ 1048576 := by have := HM.out; have := HNN.out; omega
      have HRM : Hid (m + 1 + b.nodes + e.nodes = F.kn (i + 1) + (i + 1)) := by have := HM.out; show _ = _; omega
      have HST : Hid (∀ W, Below w.heap.size w W → StAt 0 W g (off + i * 11) sn b e ve vb vl) := fun W hW => hst.later hW hg
      obtain ⟨⟨d0, d1, d2, d3, d4, d5, d6, d7⟩, ⟨d8, q8⟩, ⟨d9, q9⟩, ⟨d10, q10⟩⟩ := HST.out _ HB.out
      have hqb : Hid (∀ W, Below w.heap.size w W → Calls Try.prog 48 #[vb] W fun e w' => e = .returned (.int .i64 (b.nodes : Int)) ∧ Below W.heap.size W w') := fun W hW => (IH.out i sn b e hget).1 vb W (by omega) (HST.out W hW).2.2.1.2
      have hqe : Hid (∀ W, Below w.heap.size w W → Calls Try.prog 48 #[vl] W fun e' w' => e' = .returned (.int .i64 (e.nodes : Int)) ∧ Below W.heap.size W w') := fun W hW => (IH.out i sn b e hget).2 vl W (by omega) (HST.out W hW).2.2.2.2
      obtain ⟨adb, cpb, rfl, _, _, _⟩ := q9
      obtain ⟨adl, cpl, rfl, _, _, _⟩ := q10
      clear hfo hst hget hrm1 hrm2 q8
      generalize b.nodes = nb at *
      generalize e.nodes = ne at *
      have hii : (i : Int) < (F.len : Int) := by omega
      go_wp2_with fail
      go_region_with (first | (go_at_call 48; refine (hqe.out _ HB3.out).mono ?_; rintro e2 w4 ⟨rfl, hB4⟩; have HB4 : Hid (Below w.heap.size w w4) := HB3.out.trans (hB4.mono HB3.out.size)) | (go_at_call 48; refine (hqb.out _ HB.out.drew).mono ?_; rintro e1 w3 ⟨rfl, hB3⟩; have HB3 : Hid (Below w.heap.size w w3) := HB.out.drew.trans (hB3.mono HB.out.size); obtain ⟨_, _, ⟨y9, _⟩, ⟨y10, _⟩⟩ := HST.out _ HB3.out; clear hB3))
      all_goals
        go_wp2
        go_roundw
        case rel => exact ⟨i + 1, m + 1 + nb + ne, by omega, by go_num, by go_num, HRM, HB4⟩
        case measure => simp [intOf]; omega
    · go_wp2
      go_ret
      have hie : i = F.len := by omega
      have hmm : m = F.nodes := by have h1 := HM.out; have h2 := HKA.out; rw [hie] at h1; omega
      exact ⟨by rw [← hmm]; rfl, HB.out⟩
theorem l3Count_fuel : ∀ (n : Nat) (F : Ps), F.nodes ≤ n → CnP F
  | 0, F, h => l3Count_of F fun i sn b e hk => by have := F.get_nodes i sn b e hk; omega
  | n + 1, F, h => l3Count_of F fun i sn b e hk => ⟨l3Count_fuel n b (by have := F.get_nodes i sn b e hk; omega), l3Count_fuel n e (by have := F.get_nodes i sn b e hk; omega)⟩
theorem l3Count_any (F : Ps) : CnP F := l3Count_fuel F.nodes F (Nat.le_refl _)

/-- the cell in which the steps are counted -/
def CtAt (W : World) (g : Nat) (n : Int) : Prop := W.heap[g]? = some (.cells #[.int .i64 n] 3 (0, 0))
theorem CtAt.alloc {W : World} {g : Nat} {n : Int} (h : CtAt W g n) (o : Obj) : CtAt (W.alloc o) g n := by
  have hl := (Array.getElem?_eq_some_iff.1 h).1
  unfold CtAt
  rw [heap_alloc_at, if_neg (by omega)]
  exact h
set_option maxHeartbeats 1600000 in
theorem count1 (sn : Sn) (ve vb vl : Value) (W : World) (g n : Nat) (hn : n < 1048576) (hct : CtAt W g n) :
    Calls Try.prog 50 #[snV sn ve vb vl, .pointer (some ⟨g, 0, none⟩)] W fun e w' => e = .returned (.tuple #[]) ∧ W.grownBy w' (some g) ∧ CtAt w' g (n + 1 : Nat) := by
  have c0 := cell_of_block hct 0
  have f0 := free_of_block hct 0
  have hgl : g < W.heap.size := (Array.getElem?_eq_some_iff.1 hct).1
  have HC := hide hct
  simp only [List.getElem?_toArray, List.getElem?_cons_zero] at c0
  clear hct
  go_enter Try.func50, Try.ntmps50
  go_wp2
  go_end0
  refine ⟨rfl, ?_, ?_⟩
  · exact grown_trans (grown_set _ _ _ _) (grown_below ((Below.refl _ _).alloc (Nat.le_refl _) _) _)
  · exact CtAt.alloc (block_set HC.out 0 _) _
def EsP (F : Ps) : Prop := ∀ (v : Value) (w0 W : World) (g n : Nat), n + F.nodes ≤ 1048576 → PRow 0 w0 F v → Below w0.heap.size w0 W → w0.heap.size ≤ g → CtAt W g n →
  Calls Try.prog 49 #[v, .func (.func 50) #[] #[.pointer (some ⟨g, 0, none⟩)]] W fun e w' => e = .returned (.tuple #[]) ∧ W.grownBy w' (some g) ∧ CtAt w' g (n + F.nodes : Nat)
theorem CtAt.lt {W : World} {g : Nat} {n : Int} (h : CtAt W g n) : g < W.heap.size := (Array.getElem?_eq_some_iff.1 h).1
set_option maxHeartbeats 1600000 in
theorem eachStep_of (F : Ps) (ih : ∀ i sn b e, F.get i = some (sn, b, e) → EsP b ∧ EsP e) : EsP F := by
  intro v w0 W g n hn hr hB hg hct
  obtain ⟨ad, cap, rfl, hc, hm, hx⟩ := hr
  unfold maxLen at hm
  have HKA := hide F.kn_all
  have hN : F.len ≤ 1048576 := by have := F.kn_all; omega
  have HX := hide hx
  have IH := hide ih
  have HNN := hide hn
  have HCT := hide hct
  have HBW := hide hB
  clear hx ih hn hct hB
  go_enter Try.func49, Try.ntmps49
  go_wp2_with fail
  go_loopw [8] (fun iv wr => ∃ (i : Nat), i ≤ F.len ∧ iv = .int .i64 i ∧ Hid (W.grownBy wr (some g)) ∧ Hid (CtAt wr g (n + F.kn i + i : Nat))) (fun iv _ => F.len - (intOf iv).toNat)
  case atStart => exact ⟨0, by omega, rfl, hide (grown_refl _ _), by rw [F.kn_zero]; exact HCT⟩
  case round =>
    obtain ⟨i, hi, rfl, HG, HC⟩ := hrel
    have HBR : Hid (Below w0.heap.size w0 wr) := below_of_grown HBW.out hg HG.out
    by_cases hlt : i < F.len
    · obtain ⟨g1, off, rfl, _, hg1, hfo⟩ := HX.out (by omega)
      obtain ⟨sn, b, e, hget⟩ := F.get_some i hlt
      obtain ⟨ve, vb, vl, hst⟩ := hfo.get hget
      obtain ⟨hrm1, hrm2⟩ := kn_room F i sn b e hget
      have HRM : Hid (n + F.kn i + i + 1 + b.nodes + e.nodes = n + F.kn (i + 1) + (i + 1)) := by show _ = _; omega
      have HRL : Hid (n + F.kn i + i + 1 + b.nodes + e.nodes ≤ 1048576) := by have := HNN.out; show _ ≤ _; omega
      have hst' := hst.later HBR.out hg1
      obtain ⟨_, ⟨_, p8⟩, ⟨_, p9⟩, ⟨_, p10⟩⟩ := hst
      obtain ⟨⟨d0, d1, d2, d3, d4, d5, d6, d7⟩, ⟨d8, _⟩, ⟨d9, _⟩, ⟨d10, _⟩⟩ := hst'
      generalize n + F.kn i + i = m at *
      have hqb : Hid (∀ W', Below w0.heap.size w0 W' → CtAt W' g (m + 1 : Nat) → Calls Try.prog 49 #[vb, .func (.func 50) #[] #[.pointer (some ⟨g, 0, none⟩)]] W' fun e w' => e = .returned (.tuple #[]) ∧ W'.grownBy w' (some g) ∧ CtAt w' g (m + 1 + b.nodes : Nat)) := fun W' hW' hc' => (IH.out i sn b e hget).1 vb w0 W' g (m + 1) (by have := HRL.out; omega) p9 hW' hg hc'
      have hqe : Hid (∀ W', Below w0.heap.size w0 W' → CtAt W' g (m + 1 + b.nodes : Nat) → Calls Try.prog 49 #[vl, .func (.func 50) #[] #[.pointer (some ⟨g, 0, none⟩)]] W' fun e' w' => e' = .returned (.tuple #[]) ∧ W'.grownBy w' (some g) ∧ CtAt w' g (m + 1 + b.nodes + e.nodes : Nat)) := fun W' hW' hc' => (IH.out i sn b e hget).2 vl w0 W' g (m + 1 + b.nodes) (by have := HRL.out; omega) p10 hW' hg hc'
      have hq1 : Hid (∀ W', CtAt W' g m → Calls Try.prog 50 #[snV sn ve vb vl, .pointer (some ⟨g, 0, none⟩)] W' fun e w' => e = .returned (.tuple #[]) ∧ W'.grownBy w' (some g) ∧ CtAt w' g (m + 1 : Nat)) := fun W' hc' => count1 sn ve vb vl W' g m (by have := HRL.out; omega) hc'
      obtain ⟨ade, cpe, rfl, _, _, _⟩ := p8
      obtain ⟨adb, cpb, rfl, _, _, _⟩ := p9
      obtain ⟨adl, cpl, rfl, _, _, _⟩ := p10
      have HX11 := hide (Box11.mk (sn := sn) (ve := .slice ade sn.ek.len cpe) (vb := .slice adb b.len cpb) (vl := .slice adl e.len cpl) (T := 81) wr)
      have hA : Hid (Below wr.heap.size wr (wr.alloc (.cells #[.int .i64 sn.k, .string sn.nm, .string sn.wh, .int .i64 sn.ex.k, .int .i64 sn.ex.vk, .int .i64 sn.ex.vn, .string sn.ex.vt, .string sn.ex.nm, .slice ade sn.ek.len cpe, .slice adb b.len cpb, .slice adl e.len cpl] 81))) := (Below.refl _ _).alloc (Nat.le_refl _) _
      clear hfo hget hrm1 hrm2
      have hii : (i : Int) < (F.len : Int) := by omega
      have hgl : g < wr.heap.size := HC.out.lt
      go_wp2_with fail
      refine (hq1.out _ (HC.out.alloc _)).mono ?_
      rintro e1 w3 ⟨rfl, hg3, hc3⟩
      have HG3 : Hid (W.grownBy w3 (some g)) := grown_trans HG.out (grown_trans (grown_below hA.out _) hg3)
      have HB3 : Hid (Below w0.heap.size w0 w3) := below_of_grown HBW.out hg HG3.out
      have HX3 := hide (HX11.out.beside hg3 (by omega))
      have HC3 := hide hc3
      clear hg3 hc3 HX11 hA hq1 d0 d1 d2 d3 d4 d5 d6 d7 d8 d9 d10
      obtain ⟨_, ⟨x0, x1, x2, x3, x4, x5, x6, x7⟩, x8, x9, x10⟩ := HX3.out
      go_wp2_with fail
      refine (hqb.out _ HB3.out HC3.out).mono ?_
      rintro e1 w4 ⟨rfl, hg4, hc4⟩
      have HG4 : Hid (W.grownBy w4 (some g)) := grown_trans HG3.out hg4
      have HB4 : Hid (Below w0.heap.size w0 w4) := below_of_grown HBW.out hg HG4.out
      have HX4 := hide (HX3.out.beside hg4 (by omega))
      have HC4 := hide hc4
      clear hg4 hc4 HX3 HC3 HG3 HB3 hqb x0 x1 x2 x3 x4 x5 x6 x7 x8 x9 x10
      obtain ⟨_, ⟨x0, x1, x2, x3, x4, x5, x6, x7⟩, x8, x9, x10⟩ := HX4.out
      go_wp2_with fail
      refine (hqe.out _ HB4.out HC4.out).mono ?_
      rintro e1 w5 ⟨rfl, hg5, hc5⟩
      have HG5 : Hid (W.grownBy w5 (some g)) := grown_trans HG4.out hg5
      have HC5 : Hid (CtAt w5 g (n + F.kn (i + 1) + (i + 1) : Nat)) := by rw [← HRM.out]; exact hc5
      clear hg5 hc5 HX4 HC4 HG4 HB4 hqe x0 x1 x2 x3 x4 x5 x6 x7 x8 x9 x10
      go_wp2
      go_roundw
      case rel => exact ⟨i + 1, by omega, by go_num, HG5, HC5⟩
      case measure => simp [intOf]; omega
    · go_wp2
      go_end0
      have hie : i = F.len := by omega
      have hmm : n + F.kn i + i = n + F.nodes := by have h2 := HKA.out; rw [hie]; omega
      exact ⟨rfl, HG.out, by rw [← hmm]; exact HC.out⟩
theorem eachStep_fuel : ∀ (n : Nat) (F : Ps), F.nodes ≤ n → EsP F
  | 0, F, h => eachStep_of F fun i sn b e hk => by have := F.get_nodes i sn b e hk; omega
  | n + 1, F, h => eachStep_of F fun i sn b e hk => ⟨eachStep_fuel n b (by have := F.get_nodes i sn b e hk; omega), eachStep_fuel n e (by have := F.get_nodes i sn b e hk; omega)⟩
theorem eachStep_any (F : Ps) : EsP F := eachStep_fuel F.nodes F (Nat.le_refl _)
end Go.Proofs.Ytckdpdlkjgjadaa

/- ProgCount, as the specification has it and as the program has it. -/
namespace Go.Proofs.Ytckdpdlkjgjadaa
open Go.RowKit
set_option linter.unusedVariables false

def Pl.countP (nm : ByteArray) (F : Ps) : Int := if Pl.checkP nm F = 0 then (F.nodes : Int) else 0
set_option maxHeartbeats 1600000 in
theorem specProgCount_any (nm : ByteArray) (F : Ps) (v : Value) (w : World) (hw : nm.size ≤ maxLen) (hwf : F.Wf) (hl : F.len ≤ 1048576) (hs : F.Sm) (hn : F.nodes ≤ 1048576) (hr : PRow 0 w F v) :
    Calls Try.prog 23 #[.agg #[.string nm, v]] w fun e w' => e = .returned (.int .i64 (Pl.countP nm F)) ∧ Below w.heap.size w w' := by
  have hq1 : Hid (∀ W, Below w.heap.size w W → Calls Try.prog 19 #[.agg #[.string nm, v]] W fun e w' => e = .returned (.int .i64 (Pl.checkP nm F)) ∧ Below W.heap.size W w') := fun W hW => specProgCheck_any nm F v W hw hwf hl hs (hr.later hW)
  have hq2 : Hid (∀ W, Below w.heap.size w W → Calls Try.prog 48 #[v] W fun e w' => e = .returned (.int .i64 (F.nodes : Int)) ∧ Below W.heap.size W w') := fun W hW => l3Count_any F v W hn (hr.later hW)
  have HA : Hid (Below w.heap.size w (w.alloc (.cells #[.string nm, v] 48))) := (Below.refl _ _).alloc (Nat.le_refl _) _
  have HE : Hid (Pl.countP nm F = if Pl.checkP nm F = 0 then (F.nodes : Int) else 0) := rfl
  obtain ⟨ad, cap, rfl, _, _, _⟩ := hr
  clear hw hwf hs hn
  go_enter Try.func23, Try.ntmps23
  go_wp2_with fail
  refine (hq1.out _ HA.out).mono ?_
  rintro e w1 ⟨rfl, hB1⟩
  have c1 : w1.cell? ⟨w.heap.size, 1, none⟩ = some (.slice ad F.len cap) := boxC hB1 (by simp) 1
  have HB1 : Hid (Below w.heap.size w w1) := HA.out.trans (hB1.mono HA.out.size)
  clear hB1 hq1 HA
  by_cases h0 : Pl.checkP nm F = 0
  · rw [if_pos h0] at HE
    have hz : (Pl.checkP nm F != 0) = false := by simp [h0]
    clear h0
    go_wp2_with fail
    refine (hq2.out _ HB1.out).mono ?_
    rintro e w2 ⟨rfl, hB2⟩
    go_wp2
    go_ret
    exact ⟨by rw [HE.out]; rfl, HB1.out.trans (hB2.mono HB1.out.size)⟩
  · rw [if_neg h0] at HE
    have hz : (Pl.checkP nm F != 0) = true := by simp [h0]
    clear h0
    go_wp2
    go_ret
    exact ⟨by rw [HE.out]; rfl, HB1.out⟩
set_option maxHeartbeats 1600000 in
theorem implProgCount_any (nm : ByteArray) (F : Ps) (v : Value) (w : World) (hw : nm.size ≤ maxLen) (hwf : F.Wf) (hl : F.len ≤ 1048576) (hs : F.Sm) (hn : F.nodes ≤ 1048576) (hr : PRow 0 w F v) :
    Calls Try.prog 24 #[.agg #[.string nm, v]] w fun e w' => e = .returned (.int .i64 (Pl.countP nm F)) ∧ Below w.heap.size w w' := by
  have hq1 : Hid (∀ W, Below w.heap.size w W → Calls Try.prog 21 #[.agg #[.string nm, v]] W fun e w' => e = .returned (.int .i64 (Pl.checkP nm F)) ∧ Below W.heap.size W w') := fun W hW => implProgCheck_any nm F v W hw hwf hl hs (hr.later hW)
  have hq2 : Hid (∀ W g, Below w.heap.size w W → w.heap.size ≤ g → CtAt W g 0 → Calls Try.prog 49 #[v, .func (.func 50) #[] #[.pointer (some ⟨g, 0, none⟩)]] W fun e w' => e = .returned (.tuple #[]) ∧ W.grownBy w' (some g) ∧ CtAt w' g F.nodes) := by
    refine hide fun W g hW hg hc => ?_
    have := eachStep_any F v w W g 0 (by omega) hr hW hg hc
    simpa only [Nat.zero_add] using this
  have HA : Hid (Below w.heap.size w (w.alloc (.cells #[.string nm, v] 48))) := (Below.refl _ _).alloc (Nat.le_refl _) _
  have HE : Hid (Pl.countP nm F = if Pl.checkP nm F = 0 then (F.nodes : Int) else 0) := rfl
  obtain ⟨ad, cap, rfl, _, _, _⟩ := hr
  clear hw hwf hs hn
  go_enter Try.func24, Try.ntmps24
  go_wp2_with fail
  refine (hq1.out _ HA.out).mono ?_
  rintro e w1 ⟨rfl, hB1⟩
  have c1 : w1.cell? ⟨w.heap.size, 1, none⟩ = some (.slice ad F.len cap) := boxC hB1 (by simp) 1
  have HB1 : Hid (Below w.heap.size w w1) := HA.out.trans (hB1.mono HA.out.size)
  have hs1 : w.heap.size < w1.heap.size := by have := hB1.size; simp at this; omega
  clear hB1 hq1 HA
  by_cases h0 : Pl.checkP nm F = 0
  · rw [if_pos h0] at HE
    have hz : (Pl.checkP nm F != 0) = false := by simp [h0]
    clear h0
    go_wp2_with fail
    have HB2 : Hid (Below w.heap.size w (w1.alloc (.cells #[.int .i64 0] 3))) := HB1.out.alloc (by omega) _
    refine (hq2.out _ _ HB2.out (by omega) (by unfold CtAt; rw [heap_alloc_at, if_pos rfl])).mono ?_
    rintro e w2 ⟨rfl, hg2, hc2⟩
    have HB3 : Hid (Below w.heap.size w w2) := below_of_grown HB2.out (by omega) hg2
    have c2 := cell_of_block hc2 0
    simp only [List.getElem?_toArray, List.getElem?_cons_zero] at c2
    clear hg2 hc2
    go_wp2
    go_ret
    exact ⟨by rw [HE.out]; rfl, HB3.out⟩
  · rw [if_neg h0] at HE
    have hz : (Pl.checkP nm F != 0) = true := by simp [h0]
    clear h0
    go_wp2
    go_ret
    exact ⟨by rw [HE.out]; rfl, HB1.out⟩
end Go.Proofs.Ytckdpdlkjgjadaa

/- The law on ProgCount, walked. -/
namespace Go.Proofs.Ytckdpdlkjgjadaa
open Go.RowKit
set_option linter.unusedVariables false

set_option maxHeartbeats 1600000 in
theorem lawProgCount (nm : ByteArray) (F : Ps) (v : Value) (w : World) (hn : nm.size ≤ maxLen) (hwf : F.Wf) (hr : PRow 0 w F v) :
    Calls Try.prog 6 #[.agg #[.string nm, v]] w fun e w' => e = .returned (.bool true) ∧ Below w.heap.size w w' := by
  have hsz : Hid (∀ W, Below w.heap.size w W → Calls Try.prog 18 #[.agg #[.string nm, v], .int .i64 1048576] W (PSzPost F 1048576 W)) := fun W hW => szProg_any nm F hn hwf v W (hr.later hW)
  have hto : Hid (F.len ≤ 1048576 → F.Sm → ∀ W, Below w.heap.size w W → Calls Try.prog 20 #[.agg #[.string nm, v]] W (PrPost nm F W)) := fun h1 h2 W hW => toProg_any nm F h1 h2 v W (hr.later hW)
  have hs1 : Hid (F.len ≤ 1048576 → F.Sm → F.nodes ≤ 1048576 → ∀ W u, PRow 0 W F u → Calls Try.prog 23 #[.agg #[.string nm, u]] W fun e w' => e = .returned (.int .i64 (Pl.countP nm F)) ∧ Below W.heap.size W w') := fun h1 h2 h3 W u hu => specProgCount_any nm F u W hn hwf h1 h2 h3 hu
  have hs2 : Hid (F.len ≤ 1048576 → F.Sm → F.nodes ≤ 1048576 → ∀ W u, PRow 0 W F u → Calls Try.prog 24 #[.agg #[.string nm, u]] W fun e w' => e = .returned (.int .i64 (Pl.countP nm F)) ∧ Below W.heap.size W w') := fun h1 h2 h3 W u hu => implProgCount_any nm F u W hn hwf h1 h2 h3 hu
  have heq : Hid (F.len ≤ 1048576 → F.Sm → ∀ W u t, PRow 0 W F u → PRow 0 W F t → Calls Try.prog 22 #[.agg #[.string nm, u], .agg #[.string nm, t]] W fun e w' => e = .returned (.bool true) ∧ Below W.heap.size W w') := fun h1 h2 W u t hu hv => eqProg_any nm F h1 h2 u t W hu hv
  generalize Pl.countP nm F = ok at hs1 hs2
  clear hn hwf hr
  go_enter Try.func6, Try.ntmps6
  go_wp2_with fail
  refine (hsz.out _ ((Below.refl _ _).alloc (Nat.le_refl _) _)).mono ?_
  rintro e w1 ⟨r, rfl, hr0, hr1, hr2, hB1⟩
  have HBox := hide ((Box2.mk (nm := nm) (v := v) (T := 43) w).later hB1)
  have HB1 : Hid (Below w.heap.size w w1) := ((Below.refl _ _).alloc (Nat.le_refl _) _).trans (hB1.mono (by simp))
  clear hB1 hsz
  by_cases hneg : r < 0
  · go_wp2
    go_ret
    exact ⟨rfl, HB1.out⟩
  · obtain ⟨hl, hsm, hnd⟩ := hr2 (by omega)
    have hnd' : F.nodes ≤ 1048576 := by omega
    have HTO := hide (hto.out hl hsm)
    have HS1 := hide (hs1.out hl hsm hnd')
    have HS2 := hide (hs2.out hl hsm hnd')
    have HEQ := hide (heq.out hl hsm)
    clear hto hs1 hs2 heq hsm hl hr2 hnd hnd'
    obtain ⟨_, b0, b1⟩ := HBox.out
    go_wp2_with fail
    refine (HTO.out _ HB1.out).mono ?_
    rintro e w2 ⟨u1, rfl, hu1, hB2⟩
    have HU1 := hide (hu1.low (Nat.zero_le _))
    have HBox2 := hide (HBox.out.later hB2)
    have HB2 : Hid (Below w.heap.size w w2) := HB1.out.trans (hB2.mono HB1.out.size)
    clear hu1 hB2 b0 b1 HBox HB1
    go_wp2_with fail
    refine (HS1.out _ _ HU1.out).mono ?_
    rintro e w3 ⟨rfl, hB3⟩
    have HBox3 := hide (HBox2.out.later hB3)
    have HB3 : Hid (Below w.heap.size w w3) := HB2.out.trans (hB3.mono HB2.out.size)
    clear hB3 HBox2 HB2 HU1 HS1
    obtain ⟨_, b0, b1⟩ := HBox3.out
    go_wp2_with fail
    refine (HTO.out _ HB3.out).mono ?_
    rintro e w4 ⟨u2, rfl, hu2, hB4⟩
    have HU2 := hide (hu2.low (Nat.zero_le _))
    have HBox4 := hide (HBox3.out.later hB4)
    have HB4 : Hid (Below w.heap.size w w4) := HB3.out.trans (hB4.mono HB3.out.size)
    obtain ⟨ad2, cap2, rfl, _, _, _⟩ := hu2
    clear hB4 b0 b1 HBox3 HB3
    generalize F.len = kl at *
    have HX := hide (Box2.mk (nm := nm) (v := .slice ad2 kl cap2) (T := 48) w4)
    have hA4 : Hid (Below w4.heap.size w4 (w4.alloc (.cells #[.string nm, .slice ad2 kl cap2] 48))) := (Below.refl _ _).alloc (Nat.le_refl _) _
    go_wp2_with fail
    refine (HS2.out _ _ (HU2.out.later hA4.out)).mono ?_
    rintro e w5 ⟨rfl, hB5⟩
    have HX5 := hide (HX.out.later hB5)
    have HBox5 := hide ((HBox4.out.later hA4.out).later hB5)
    have HU5 := hide ((HU2.out.later hA4.out).later hB5)
    have HB5 : Hid (Below w.heap.size w w5) := (HB4.out.trans (hA4.out.mono HB4.out.size)).trans (hB5.mono (by have := HB4.out.size; have := hA4.out.size; omega))
    clear hB5 HBox4 HB4 HX hA4 HU2 HS2
    obtain ⟨_, b0, b1⟩ := HBox5.out
    obtain ⟨_, x0, x1⟩ := HX5.out
    have hne : (ok != ok) = false := by simp
    go_wp2_with fail
    go_region_with (first | (go_at_call 20; refine (HTO.out _ HB5.out.drew).mono ?_; rintro e w6 ⟨u3, rfl, hu3, hB6⟩; have hB56 : Hid (Below w5.heap.size w5 w6) := (Below.refl _ _).drew.trans hB6; have HU3 := hide (hu3.low (Nat.zero_le _)); have HU6 := hide (HU5.out.later hB56.out); obtain ⟨_, y0, y1⟩ := HX5.out.later hB56.out; clear hu3 hB6) | (go_at_call 22; refine (HEQ.out _ _ _ HU6.out HU3.out).mono ?_; rintro e w7 ⟨rfl, hB7⟩))
    all_goals
      go_wp2
      go_ret
      exact ⟨rfl, (HB5.out.trans (hB56.out.mono HB5.out.size)).trans (hB7.mono (by have := HB5.out.size; have := hB56.out.size; omega))⟩
end Go.Proofs.Ytckdpdlkjgjadaa

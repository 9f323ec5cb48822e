/- Events counted by the laws. -/
import Derived.Test.YthimglgjeibaoaaEvL
import Derived.Test.YthimglgjeibaoaaCmd1
import Derived.Test.YthimglgjeibaoaaCame1
namespace Go.Proofs.Ythimglgjeibaoaa
open Go.RowKit
set_option linter.unusedVariables false
set_option linter.unusedSimpArgs false
theorem infoLev : (Try.prog.info? 38).map (·.size) = some 17 := by kernel_rfl
theorem we_midL {ops : Array Oper} {rest : List Oper} {o : Oper} {a : Act} {W : World} {Q : Exit → Act → World → Prop} (hgd : o.guard = none) (x : Operand) (ho : o.op = .load 38 x)
    (g off : Nat) (hx : a.eval x = .pointer (some ⟨g, off, none⟩)) (e : Ev) (hc : EvAt W g off e)
    (h : wpList Try.prog ops Q rest (a.put o.dst (evV e)) W) : wpList Try.prog ops Q (o :: rest) a W :=
  wpList_load_mid hgd 38 x ho g off hx (evL e) _ hc Try.underlying38 rfl (by rw [infoLev]; rfl) h
set_option maxHeartbeats 800000 in
theorem szCame_at (k p : Int) (nm : ByteArray) (o : Bool) (vk vn : Int) (vt : ByteArray) (hn : nm.size ≤ maxLen) (ht : vt.size ≤ maxLen) (left : Int) (h0 : 0 ≤ left) (h1 : left ≤ 1048576) (w : World) :
    Calls Try.prog 25 #[cameV k p nm o vk vn vt, .int .i64 left] w fun e w' => (∃ r : Int, e = .returned (.int .i64 r) ∧ -1 ≤ r ∧ r ≤ left) ∧ Below w.heap.size w w' := by
  unfold maxLen at hn
  by_cases h2 : left - nm.size < 0
  · go_enter Try.func25, Try.ntmps25
    go_wp2
    go_ret
    exact ⟨⟨-1, rfl, by omega, by omega⟩, (Below.refl _ _).alloc (Nat.le_refl _) _⟩
  · have hv := hide (szValue_at vk vn vt ht (left - nm.size) (by omega) (by omega))
    go_enter Try.func25, Try.ntmps25
    go_wp2_with fail
    refine (hv.out _).mono ?_
    rintro e w1 ⟨rfl, hB1⟩
    have HB : Below w.heap.size w w1 := ((Below.refl _ _).alloc (Nat.le_refl _) _).trans (hB1.mono (by simp))
    clear hB1 hv
    by_cases h3 : left - nm.size - vt.size < 0
    · rw [if_pos h3]
      go_wp2
      go_ret
      exact ⟨⟨-1, rfl, by omega, by omega⟩, HB⟩
    · rw [if_neg h3]
      go_wp2
      go_ret
      exact ⟨⟨_, rfl, by omega, by omega⟩, HB⟩
/-- an event of the laws in a box -/
def BL (w : World) (e : Ev) (X : World) : Prop := X.heap[w.heap.size]? = some (.cells (evL e).toArray 38 (0, 0)) ∧ Below w.heap.size w X
theorem BL.later {w X X1 : World} {e : Ev} (h : BL w e X) (hB : Below X.heap.size X X1) : BL w e X1 := by
  have l0 := (Array.getElem?_eq_some_iff.1 h.1).1
  exact ⟨(hB.block _ l0).trans h.1, h.2.trans (hB.mono h.2.size)⟩
theorem BL.start {w : World} {e : Ev} : BL w e (w.alloc (.cells (evL e).toArray 38)) := ⟨by rw [heap_alloc_at, if_pos rfl], (Below.refl _ _).alloc (Nat.le_refl _) _⟩
set_option maxRecDepth 100000 in
set_option maxHeartbeats 800000 in
theorem szEvent_at (e : Ev) (hw : e.Wf) (left : Int) (h0 : 0 ≤ left) (h1 : left ≤ 1048576) (w : World) :
    Calls Try.prog 11 #[evV e, .int .i64 left] w fun x w' => (∃ r : Int, x = .returned (.int .i64 r) ∧ -1 ≤ r ∧ r ≤ left) ∧ Below w.heap.size w w' := by
  obtain ⟨t1, t2, t3, t4, t5⟩ := hw
  have hv := hide (szValue_at e.vk e.vn e.vt t1 left h0 h1)
  have hcm := hide (fun (L : Int) (a : 0 ≤ L) (b : L ≤ 1048576) (W : World) => szCmd_at e.ck e.cn e.ak e.an e.ax t2 t3 L a b W)
  have hca := hide (fun (L : Int) (a : 0 ≤ L) (b : L ≤ 1048576) (W : World) => szCame_at e.ct e.mp e.mn e.mo e.wk e.wn e.wt t4 t5 L a b W)
  clear t1 t2 t3 t4 t5
  go_enter Try.func11, Try.ntmps11
  go_wp2_with fail
  refine (hv.out _).mono ?_
  rintro x1 X1 ⟨rfl, hB1⟩
  have HX1 := hide (BL.start.later hB1)
  have hL1 : ∃ L1 : Int, (if left - (e.vt.size : Int) < 0 then -1 else left - (e.vt.size : Int)) = L1 ∧ -1 ≤ L1 ∧ L1 ≤ left := by
    split
    · exact ⟨_, rfl, by omega, by omega⟩
    · exact ⟨_, rfl, by omega, by omega⟩
  obtain ⟨L1, hL1, l0, l1⟩ := hL1
  rw [hL1]
  clear hB1 hL1 hv
  have a5 : X1.cell? ⟨w.heap.size, 5, none⟩ = some (.int .i64 e.ck) := cell_of_block HX1.out.1 5
  have a6 : X1.cell? ⟨w.heap.size, 6, none⟩ = some (.string e.cn) := cell_of_block HX1.out.1 6
  have a7 : X1.cell? ⟨w.heap.size, 7, none⟩ = some (.int .i64 e.ak) := cell_of_block HX1.out.1 7
  have a8 : X1.cell? ⟨w.heap.size, 8, none⟩ = some (.int .i64 e.an) := cell_of_block HX1.out.1 8
  have a9 : X1.cell? ⟨w.heap.size, 9, none⟩ = some (.string e.ax) := cell_of_block HX1.out.1 9
  by_cases n1 : L1 < 0
  · go_wp2_with fail
    go_ret
    exact ⟨⟨-1, rfl, by omega, by omega⟩, HX1.out.2⟩
  · go_wp2_with fail
    refine (hcm.out L1 (by omega) (by omega) _).mono ?_
    rintro x2 X2 ⟨⟨L2, rfl, m0, m1⟩, hB2⟩
    have HX2 := hide (HX1.out.later hB2)
    clear hB2 hcm HX1 a5 a6 a7 a8 a9
    have a10 : X2.cell? ⟨w.heap.size, 10, none⟩ = some (.int .i64 e.ct) := cell_of_block HX2.out.1 10
    have a11 : X2.cell? ⟨w.heap.size, 11, none⟩ = some (.int .i64 e.mp) := cell_of_block HX2.out.1 11
    have a12 : X2.cell? ⟨w.heap.size, 12, none⟩ = some (.string e.mn) := cell_of_block HX2.out.1 12
    have a13 : X2.cell? ⟨w.heap.size, 13, none⟩ = some (.bool e.mo) := cell_of_block HX2.out.1 13
    have a14 : X2.cell? ⟨w.heap.size, 14, none⟩ = some (.int .i64 e.wk) := cell_of_block HX2.out.1 14
    have a15 : X2.cell? ⟨w.heap.size, 15, none⟩ = some (.int .i64 e.wn) := cell_of_block HX2.out.1 15
    have a16 : X2.cell? ⟨w.heap.size, 16, none⟩ = some (.string e.wt) := cell_of_block HX2.out.1 16
    by_cases n2 : L2 < 0
    · go_wp2_with fail
      go_ret
      exact ⟨⟨-1, rfl, by omega, by omega⟩, HX2.out.2⟩
    · go_wp2_with fail
      refine (hca.out L2 (by omega) (by omega) _).mono ?_
      rintro x3 X3 ⟨⟨L3, rfl, p0, p1⟩, hB3⟩
      have HX3 := hide (HX2.out.later hB3)
      clear hB3 hca HX2 a10 a11 a12 a13 a14 a15 a16
      by_cases n3 : L3 < 0
      · go_wp2_with fail
        go_ret
        exact ⟨⟨-1, rfl, by omega, by omega⟩, HX3.out.2⟩
      · go_wp2_with fail
        go_ret
        exact ⟨⟨L3, rfl, by omega, by omega⟩, HX3.out.2⟩
set_option maxRecDepth 100000 in
set_option maxHeartbeats 1600000 in
theorem szEventS_any (l : List Ev) (hwf : ∀ e ∈ l, e.Wf) (v : Value) (w : World) (hr : EvRow w l v) :
    Calls Try.prog 4 #[v, .int .i64 1048576] w fun x w' => (∃ r : Int, x = .returned (.int .i64 r) ∧ (0 ≤ r → l.length ≤ 1048576)) ∧ Below w.heap.size w w' := by
  obtain ⟨ad, cap, rfl, hc, hmx, hx⟩ := hr
  unfold maxLen at hmx
  have HX := hide hx
  have HW := hide hwf
  clear hx hwf
  by_cases hl : 1048576 - (l.length : Int) < 0
  · go_enter Try.func4, Try.ntmps4
    go_wp2_with fail
    go_ret
    exact ⟨⟨-1, rfl, by omega⟩, Below.refl _ _⟩
  · have hN : l.length ≤ 1048576 := by omega
    go_enter Try.func4, Try.ntmps4
    go_wp2_with fail
    go_loopw [1, 5] (fun lv iv wr => ∃ (i : Nat) (L : Int), i ≤ l.length ∧ iv = .int .i64 i ∧ lv = .int .i64 L ∧ 0 ≤ L ∧ L ≤ 1048576 ∧ Hid (Below w.heap.size w wr)) (fun _ iv _ => l.length - (intOf iv).toNat)
    case atStart => exact ⟨0, _, by omega, rfl, rfl, by omega, by omega, Below.refl _ _⟩
    case round =>
      obtain ⟨i, L, hi, rfl, rfl, hL0, hL1, HB⟩ := hrel
      by_cases hlt : i < l.length
      · obtain ⟨g, off, rfl, hg, hs⟩ := HX.out (by omega)
        obtain ⟨e, he⟩ : ∃ e, l[i]? = some e := ⟨_, List.getElem?_eq_getElem hlt⟩
        have HAT := hide ((hs i e he).later HB.out hg)
        have hsz := hide (szEvent_at e (HW.out e (List.mem_of_getElem? he)) L hL0 hL1)
        have hii : (i : Int) < (l.length : Int) := by omega
        clear hs he hl
        go_wp2_with (first
          | (with_reducible show wpList _ _ _ (Oper.mk _ (Op.load 38 _) _ _ _ _ :: _) _ _; refine we_midL rfl (.tmp 20) rfl g (off + i * 17) rfl e HAT.out ?_)
          | fail)
        refine (hsz.out _).mono ?_
        rintro x1 X1 ⟨⟨r, rfl, r0, r1⟩, hB1⟩
        have HB1 := hide (HB.out.trans (hB1.mono HB.out.size))
        clear hB1 hsz HAT
        by_cases n1 : r < 0
        · go_wp2_with fail
          go_ret
          exact ⟨⟨-1, rfl, by omega⟩, HB1.out⟩
        · go_wp2_with fail
          go_roundw
          case rel => exact ⟨i + 1, r, by omega, by go_num, rfl, by omega, by omega, HB1⟩
          case measure => simp [intOf]; omega
      · go_wp2_with fail
        go_ret
        exact ⟨⟨L, rfl, fun _ => hN⟩, HB.out⟩
end Go.Proofs.Ythimglgjeibaoaa

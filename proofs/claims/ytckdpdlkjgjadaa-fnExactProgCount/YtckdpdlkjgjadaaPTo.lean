/- Steps copied, as the laws copy them. -/
import Derived.Test.YtckdpdlkjgjadaaPSz
import Derived.Test.YtckdpdlkjgjadaaTo
namespace Go.Proofs.Ytckdpdlkjgjadaa
open Go.RowKit
set_option linter.unusedVariables false

def PToPost (F : Ps) (w : World) (e : Ending) (w' : World) : Prop := ∃ v, e = .returned v ∧ PRow w.heap.size w' F v ∧ Below w.heap.size w w'
def PToP (F : Ps) : Prop := ∀ (v : Value) (w : World), F.len ≤ 1048576 → F.Sm → PRow 0 w F v → Calls Try.prog 43 #[v] w (PToPost F w)
def StPost (sn : Sn) (b l : Ps) (w : World) (e : Ending) (w' : World) : Prop := ∃ ve vb vl, e = .returned (snV sn ve vb vl) ∧ RowAt w.heap.size w' sn.ek ve ∧ PRow w.heap.size w' b vb ∧ PRow w.heap.size w' l vl ∧ Below w.heap.size w w'

theorem list11 {α : Type} (l : List α) (h : l.length = 11) : ∃ a b c d e f g h' i j k, l = [a, b, c, d, e, f, g, h', i, j, k] := by
  match l, h with
  | [a, b, c, d, e, f, g, h', i, j, k], _ => exact ⟨a, b, c, d, e, f, g, h', i, j, k, rfl⟩
/-- all eleven cells of a block written -/
theorem set11 {w : World} {b : Nat} {C : Array Value} {T : TypeId} (h : w.heap[b]? = some (.cells C T (0, 0))) (hs : C.size = 11) (u0 u1 u2 u3 u4 u5 u6 u7 u8 u9 u10 : Value) :
    (((((((((((w.setCell ⟨b, 0, none⟩ (u0)).setCell ⟨b, 1, none⟩ (u1)).setCell ⟨b, 2, none⟩ (u2)).setCell ⟨b, 3, none⟩ (u3)).setCell ⟨b, 4, none⟩ (u4)).setCell ⟨b, 5, none⟩ (u5)).setCell ⟨b, 6, none⟩ (u6)).setCell ⟨b, 7, none⟩ (u7)).setCell ⟨b, 8, none⟩ (u8)).setCell ⟨b, 9, none⟩ (u9)).setCell ⟨b, 10, none⟩ (u10)).heap[b]? = some (.cells #[u0, u1, u2, u3, u4, u5, u6, u7, u8, u9, u10] T (0, 0)) := by
  obtain ⟨l⟩ := C
  obtain ⟨c0, c1, c2, c3, c4, c5, c6, c7, c8, c9, c10, rfl⟩ := list11 l (by simpa using hs)
  have s0 := block_set h 0 u0
  have s1 := block_set s0 1 u1
  have s2 := block_set s1 2 u2
  have s3 := block_set s2 3 u3
  have s4 := block_set s3 4 u4
  have s5 := block_set s4 5 u5
  have s6 := block_set s5 6 u6
  have s7 := block_set s6 7 u7
  have s8 := block_set s7 8 u8
  have s9 := block_set s8 9 u9
  have s10 := block_set s9 10 u10
  rw [s10]
  simp

set_option maxHeartbeats 3200000 in
theorem toStep_of (sn : Sn) (b l : Ps) (hkb : PToP b) (hkl : PToP l) (he1 : sn.ek.len ≤ 1048576) (he2 : sn.ek.Sm) (hb1 : b.len ≤ 1048576) (hb2 : b.Sm) (hl1 : l.len ≤ 1048576) (hl2 : l.Sm) (ve vb vl : Value) (w : World) (hre : RowAt 0 w sn.ek ve) (hrb : PRow 0 w b vb) (hrl : PRow 0 w l vl) :
    Calls Try.prog 65 #[snV sn ve vb vl] w (StPost sn b l w) := by
  have hqe : Hid (∀ W, Below w.heap.size w W → Calls Try.prog 9 #[ndV sn.ex ve] W (NdPost sn.ex sn.ek W)) := fun W hW => toExpr_of sn.ex sn.ek (toExprS_any _) he1 he2 ve W (hre.later hW)
  have hqb : Hid (∀ W, Below w.heap.size w W → Calls Try.prog 43 #[vb] W (PToPost b W)) := fun W hW => hkb vb W hb1 hb2 (hrb.later hW)
  have hql : Hid (∀ W, Below w.heap.size w W → Calls Try.prog 43 #[vl] W (PToPost l W)) := fun W hW => hkl vl W hl1 hl2 (hrl.later hW)
  obtain ⟨k, nm, wh, ⟨xk, xvk, xvn, xvt, xnm⟩, ek⟩ := sn
  simp only at hqe hqb hql
  obtain ⟨vea, vec, hve, _, _, _⟩ := hre
  obtain ⟨vba, vbc, hvb, _, _, _⟩ := hrb
  obtain ⟨vla, vlc, hvl, _, _, _⟩ := hrl
  clear hkb hkl he1 he2 hb1 hb2 hl1 hl2
  simp only at hve
  have HVS := hide (And.intro hve (And.intro hvb hvl))
  clear hve hvb hvl
  go_enter Try.func65, Try.ntmps65
  go_wp2_with fail
  refine (hqe.out _ ((((Below.refl _ _).alloc (Nat.le_refl _) _).alloc (by simp) _).alloc (by simp; omega) _)).mono ?_
  rintro e w1 ⟨v1, rfl, hr1, _, hB1⟩
  obtain ⟨b0, b1, b2, hsz, HB⟩ := boxes3 hB1
  have HR1 : Hid (RowAt (w.heap.size + 1 + 1 + 1) w1 ek v1) := hr1.low (by simp)
  obtain ⟨ade', cape', rfl, _, _, _⟩ := hr1
  clear hB1 hqe
  generalize ek.len = el at *
  have a9 := cell_of_block b0 9
  have a10 := cell_of_block b0 10
  simp only [List.getElem?_toArray, List.getElem?_cons_zero, List.getElem?_cons_succ] at a9 a10
  have o3 := cell_of_block b2 3
  have f3 := free_of_block b2 3
  have o4 := cell_of_block b2 4
  have f4 := free_of_block b2 4
  have o5 := cell_of_block b2 5
  have f5 := free_of_block b2 5
  have o6 := cell_of_block b2 6
  have f6 := free_of_block b2 6
  have o7 := cell_of_block b2 7
  have f7 := free_of_block b2 7
  have o8 := cell_of_block b2 8
  have f8 := free_of_block b2 8
  simp only [List.getElem?_toArray, List.getElem?_cons_zero, List.getElem?_cons_succ] at o3 o4 o5 o6 o7 o8
  have B0 := hide b0
  have B1 := hide b1
  have B2 := hide b2
  have HBB := hide HB
  clear b0 b1 b2 HB
  have hov2 : Hid (Over (w.heap.size + 1 + 1 + 1) w1 ((((((w1.setCell ⟨w.heap.size + 1 + 1, 3, none⟩ (.int .i64 xk)).setCell ⟨w.heap.size + 1 + 1, 4, none⟩ (.int .i64 xvk)).setCell ⟨w.heap.size + 1 + 1, 5, none⟩ (.int .i64 xvn)).setCell ⟨w.heap.size + 1 + 1, 6, none⟩ (.string xvt)).setCell ⟨w.heap.size + 1 + 1, 7, none⟩ (.string xnm)).setCell ⟨w.heap.size + 1 + 1, 8, none⟩ (.slice ade' el cape'))) := by
    refine over_set (over_set (over_set (over_set (over_set (over_set (over_refl _ _) ?_ _) ?_ _) ?_ _) ?_ _) ?_ _) ?_ _ <;> (simp only; omega)
  have HB2 : Hid (Below w.heap.size w ((((((w1.setCell ⟨w.heap.size + 1 + 1, 3, none⟩ (.int .i64 xk)).setCell ⟨w.heap.size + 1 + 1, 4, none⟩ (.int .i64 xvk)).setCell ⟨w.heap.size + 1 + 1, 5, none⟩ (.int .i64 xvn)).setCell ⟨w.heap.size + 1 + 1, 6, none⟩ (.string xvt)).setCell ⟨w.heap.size + 1 + 1, 7, none⟩ (.string xnm)).setCell ⟨w.heap.size + 1 + 1, 8, none⟩ (.slice ade' el cape'))) := by
    refine (((((HBB.out.setCell ?_ _).setCell ?_ _).setCell ?_ _).setCell ?_ _).setCell ?_ _).setCell ?_ _ <;> (simp only; omega)
  have Q2 : Hid (((((((w1.setCell ⟨w.heap.size + 1 + 1, 3, none⟩ (.int .i64 xk)).setCell ⟨w.heap.size + 1 + 1, 4, none⟩ (.int .i64 xvk)).setCell ⟨w.heap.size + 1 + 1, 5, none⟩ (.int .i64 xvn)).setCell ⟨w.heap.size + 1 + 1, 6, none⟩ (.string xvt)).setCell ⟨w.heap.size + 1 + 1, 7, none⟩ (.string xnm)).setCell ⟨w.heap.size + 1 + 1, 8, none⟩ (.slice ade' el cape')).heap[w.heap.size + 1 + 1]? = some (.cells #[.int .i64 k, .string nm, .string wh, .int .i64 xk, .int .i64 xvk, .int .i64 xvn, .string xvt, .string xnm, .slice ade' el cape', .slice none 0 0, .slice none 0 0] 81 (0, 0))) := by
    show _ = _
    rw [block_set (block_set (block_set (block_set (block_set (block_set B2.out 3 _) 4 _) 5 _) 6 _) 7 _) 8 _]
    rfl
  have Q1 : Hid (((((((w1.setCell ⟨w.heap.size + 1 + 1, 3, none⟩ (.int .i64 xk)).setCell ⟨w.heap.size + 1 + 1, 4, none⟩ (.int .i64 xvk)).setCell ⟨w.heap.size + 1 + 1, 5, none⟩ (.int .i64 xvn)).setCell ⟨w.heap.size + 1 + 1, 6, none⟩ (.string xvt)).setCell ⟨w.heap.size + 1 + 1, 7, none⟩ (.string xnm)).setCell ⟨w.heap.size + 1 + 1, 8, none⟩ (.slice ade' el cape')).heap[w.heap.size + 1]? = w1.heap[w.heap.size + 1]?) := by
    show _ = _
    rw [Below.heap_setCell _ _ _ _ (by simp only; omega), Below.heap_setCell _ _ _ _ (by simp only; omega), Below.heap_setCell _ _ _ _ (by simp only; omega), Below.heap_setCell _ _ _ _ (by simp only; omega), Below.heap_setCell _ _ _ _ (by simp only; omega), Below.heap_setCell _ _ _ _ (by simp only; omega)]
  have Q0 : Hid (((((((w1.setCell ⟨w.heap.size + 1 + 1, 3, none⟩ (.int .i64 xk)).setCell ⟨w.heap.size + 1 + 1, 4, none⟩ (.int .i64 xvk)).setCell ⟨w.heap.size + 1 + 1, 5, none⟩ (.int .i64 xvn)).setCell ⟨w.heap.size + 1 + 1, 6, none⟩ (.string xvt)).setCell ⟨w.heap.size + 1 + 1, 7, none⟩ (.string xnm)).setCell ⟨w.heap.size + 1 + 1, 8, none⟩ (.slice ade' el cape')).heap[w.heap.size]? = w1.heap[w.heap.size]?) := by
    show _ = _
    rw [Below.heap_setCell _ _ _ _ (by simp only; omega), Below.heap_setCell _ _ _ _ (by simp only; omega), Below.heap_setCell _ _ _ _ (by simp only; omega), Below.heap_setCell _ _ _ _ (by simp only; omega), Below.heap_setCell _ _ _ _ (by simp only; omega), Below.heap_setCell _ _ _ _ (by simp only; omega)]
  have hs2 : Hid (w.heap.size + 1 + 1 + 1 ≤ ((((((w1.setCell ⟨w.heap.size + 1 + 1, 3, none⟩ (.int .i64 xk)).setCell ⟨w.heap.size + 1 + 1, 4, none⟩ (.int .i64 xvk)).setCell ⟨w.heap.size + 1 + 1, 5, none⟩ (.int .i64 xvn)).setCell ⟨w.heap.size + 1 + 1, 6, none⟩ (.string xvt)).setCell ⟨w.heap.size + 1 + 1, 7, none⟩ (.string xnm)).setCell ⟨w.heap.size + 1 + 1, 8, none⟩ (.slice ade' el cape')).heap.size) := by
    show _ ≤ _
    have := hov2.out.1
    omega
  go_wp2_with fail
  generalize ((((((w1.setCell ⟨w.heap.size + 1 + 1, 3, none⟩ (.int .i64 xk)).setCell ⟨w.heap.size + 1 + 1, 4, none⟩ (.int .i64 xvk)).setCell ⟨w.heap.size + 1 + 1, 5, none⟩ (.int .i64 xvn)).setCell ⟨w.heap.size + 1 + 1, 6, none⟩ (.string xvt)).setCell ⟨w.heap.size + 1 + 1, 7, none⟩ (.string xnm)).setCell ⟨w.heap.size + 1 + 1, 8, none⟩ (.slice ade' el cape')) = W2 at hov2 HB2 Q2 Q1 Q0 hs2 ⊢
  have HR2 := hide (HR1.out.over hov2.out)
  clear hov2 HR1 a9 a10 o3 o4 o5 o6 o7 o8 f3 f4 f5 f6 f7 f8 HBB hsz
  refine (hqb.out _ HB2.out).mono ?_
  rintro e w3 ⟨v3, rfl, hr3, hB3⟩
  have HP3 : Hid (PRow (w.heap.size + 1 + 1 + 1) w3 b v3) := hr3.low hs2.out
  obtain ⟨adb', capb', rfl, _, _, _⟩ := hr3
  have b0 := (hB3.block w.heap.size (by have := hs2.out; omega)).trans (Q0.out.trans B0.out)
  have b1 := (hB3.block (w.heap.size + 1) (by have := hs2.out; omega)).trans (Q1.out.trans B1.out)
  have b2 := (hB3.block (w.heap.size + 1 + 1) (by have := hs2.out; omega)).trans Q2.out
  have HR3 := hide (HR2.out.later hB3)
  have HB3 : Hid (Below w.heap.size w w3) := HB2.out.trans (hB3.mono HB2.out.size)
  have hs3 : Hid (w.heap.size + 1 + 1 + 1 ≤ w3.heap.size) := by
    show _ ≤ _
    have := hB3.size
    have := hs2.out
    omega
  clear hB3 HB2 Q0 Q1 Q2 hs2 HR2 hqb B0 B1 B2
  generalize b.len = bl at *
  have a10 := cell_of_block b0 10
  have o9 := cell_of_block b2 9
  have f9 := free_of_block b2 9
  simp only [List.getElem?_toArray, List.getElem?_cons_zero, List.getElem?_cons_succ] at a10 o9
  have B1 := hide b1
  have B2 := hide b2
  clear b0 b1 b2
  have hov4 : Hid (Over (w.heap.size + 1 + 1 + 1) w3 (w3.setCell ⟨w.heap.size + 1 + 1, 9, none⟩ (.slice adb' bl capb'))) := over_set (over_refl _ _) (by simp only; omega) _
  have HB4 : Hid (Below w.heap.size w (w3.setCell ⟨w.heap.size + 1 + 1, 9, none⟩ (.slice adb' bl capb'))) := HB3.out.setCell (by simp only; omega) _
  have Q2 : Hid ((w3.setCell ⟨w.heap.size + 1 + 1, 9, none⟩ (.slice adb' bl capb')).heap[w.heap.size + 1 + 1]? = some (.cells #[.int .i64 k, .string nm, .string wh, .int .i64 xk, .int .i64 xvk, .int .i64 xvn, .string xvt, .string xnm, .slice ade' el cape', .slice adb' bl capb', .slice none 0 0] 81 (0, 0))) := by
    show _ = _
    rw [block_set B2.out 9 _]
    rfl
  have Q1 : Hid ((w3.setCell ⟨w.heap.size + 1 + 1, 9, none⟩ (.slice adb' bl capb')).heap[w.heap.size + 1]? = w3.heap[w.heap.size + 1]?) := Below.heap_setCell _ _ _ _ (by simp only; omega)
  go_wp2_with fail
  generalize (w3.setCell ⟨w.heap.size + 1 + 1, 9, none⟩ (.slice adb' bl capb')) = W4 at hov4 HB4 Q2 Q1 ⊢
  have hs4 : Hid (w.heap.size + 1 + 1 + 1 ≤ W4.heap.size) := by
    show _ ≤ _
    have := hov4.out.1
    have := hs3.out
    omega
  have HR4 := hide (HR3.out.over hov4.out)
  have HP4 := hide (HP3.out.over hov4.out)
  clear hov4 HR3 HP3 a10 o9 f9 HB3 hs3
  refine (hql.out _ HB4.out).mono ?_
  rintro e w5 ⟨v5, rfl, hr5, hB5⟩
  have HL5 : Hid (PRow (w.heap.size + 1 + 1 + 1) w5 l v5) := hr5.low hs4.out
  obtain ⟨adl', capl', rfl, _, _, _⟩ := hr5
  have b1 := (hB5.block (w.heap.size + 1) (by have := hs4.out; omega)).trans (Q1.out.trans B1.out)
  have b2 := (hB5.block (w.heap.size + 1 + 1) (by have := hs4.out; omega)).trans Q2.out
  have HR5 := hide (HR4.out.later hB5)
  have HP5 := hide (HP4.out.later hB5)
  have HB5 : Hid (Below w.heap.size w w5) := HB4.out.trans (hB5.mono HB4.out.size)
  have hs5 : Hid (w.heap.size + 1 + 1 + 1 ≤ w5.heap.size) := by
    show _ ≤ _
    have := hB5.size
    have := hs4.out
    omega
  clear hB5 HB4 Q1 Q2 hs4 HR4 HP4 hql B1 B2
  generalize l.len = ll at *
  have o0 := cell_of_block b2 0
  have p0 := cell_of_block b1 0
  have r0 := free_of_block b1 0
  have o1 := cell_of_block b2 1
  have p1 := cell_of_block b1 1
  have r1 := free_of_block b1 1
  have o2 := cell_of_block b2 2
  have p2 := cell_of_block b1 2
  have r2 := free_of_block b1 2
  have o3 := cell_of_block b2 3
  have p3 := cell_of_block b1 3
  have r3 := free_of_block b1 3
  have o4 := cell_of_block b2 4
  have p4 := cell_of_block b1 4
  have r4 := free_of_block b1 4
  have o5 := cell_of_block b2 5
  have p5 := cell_of_block b1 5
  have r5 := free_of_block b1 5
  have o6 := cell_of_block b2 6
  have p6 := cell_of_block b1 6
  have r6 := free_of_block b1 6
  have o7 := cell_of_block b2 7
  have p7 := cell_of_block b1 7
  have r7 := free_of_block b1 7
  have o8 := cell_of_block b2 8
  have p8 := cell_of_block b1 8
  have r8 := free_of_block b1 8
  have o9 := cell_of_block b2 9
  have p9 := cell_of_block b1 9
  have r9 := free_of_block b1 9
  have o10 := cell_of_block b2 10
  have p10 := cell_of_block b1 10
  have r10 := free_of_block b1 10
  have f10 := free_of_block b2 10
  simp only [List.getElem?_toArray, List.getElem?_cons_zero, List.getElem?_cons_succ] at o0 p0 o1 p1 o2 p2 o3 p3 o4 p4 o5 p5 o6 p6 o7 p7 o8 p8 o9 p9 o10 p10
  have BB1 := hide b1
  clear b1 b2
  go_wp2
  have hov : Hid (Over (w.heap.size + 1 + 1 + 1) w5 ((((((((((((w5.setCell ⟨w.heap.size + 1 + 1, 10, none⟩ (.slice adl' ll capl')).setCell ⟨w.heap.size + 1, 0, none⟩ (.int .i64 k)).setCell ⟨w.heap.size + 1, 1, none⟩ (.string nm)).setCell ⟨w.heap.size + 1, 2, none⟩ (.string wh)).setCell ⟨w.heap.size + 1, 3, none⟩ (.int .i64 xk)).setCell ⟨w.heap.size + 1, 4, none⟩ (.int .i64 xvk)).setCell ⟨w.heap.size + 1, 5, none⟩ (.int .i64 xvn)).setCell ⟨w.heap.size + 1, 6, none⟩ (.string xvt)).setCell ⟨w.heap.size + 1, 7, none⟩ (.string xnm)).setCell ⟨w.heap.size + 1, 8, none⟩ (.slice ade' el cape')).setCell ⟨w.heap.size + 1, 9, none⟩ (.slice adb' bl capb')).setCell ⟨w.heap.size + 1, 10, none⟩ (.slice adl' ll capl'))) := by
    refine over_set (over_set (over_set (over_set (over_set (over_set (over_set (over_set (over_set (over_set (over_set (over_set (over_refl _ _) ?_ _) ?_ _) ?_ _) ?_ _) ?_ _) ?_ _) ?_ _) ?_ _) ?_ _) ?_ _) ?_ _) ?_ _ <;> (simp only; omega)
  have hbl : Hid (Below w.heap.size w ((((((((((((w5.setCell ⟨w.heap.size + 1 + 1, 10, none⟩ (.slice adl' ll capl')).setCell ⟨w.heap.size + 1, 0, none⟩ (.int .i64 k)).setCell ⟨w.heap.size + 1, 1, none⟩ (.string nm)).setCell ⟨w.heap.size + 1, 2, none⟩ (.string wh)).setCell ⟨w.heap.size + 1, 3, none⟩ (.int .i64 xk)).setCell ⟨w.heap.size + 1, 4, none⟩ (.int .i64 xvk)).setCell ⟨w.heap.size + 1, 5, none⟩ (.int .i64 xvn)).setCell ⟨w.heap.size + 1, 6, none⟩ (.string xvt)).setCell ⟨w.heap.size + 1, 7, none⟩ (.string xnm)).setCell ⟨w.heap.size + 1, 8, none⟩ (.slice ade' el cape')).setCell ⟨w.heap.size + 1, 9, none⟩ (.slice adb' bl capb')).setCell ⟨w.heap.size + 1, 10, none⟩ (.slice adl' ll capl'))) := by
    refine (((((((((((HB5.out.setCell ?_ _).setCell ?_ _).setCell ?_ _).setCell ?_ _).setCell ?_ _).setCell ?_ _).setCell ?_ _).setCell ?_ _).setCell ?_ _).setCell ?_ _).setCell ?_ _).setCell ?_ _ <;> (simp only; omega)
  have hbk : ((((((((((((w5.setCell ⟨w.heap.size + 1 + 1, 10, none⟩ (.slice adl' ll capl')).setCell ⟨w.heap.size + 1, 0, none⟩ (.int .i64 k)).setCell ⟨w.heap.size + 1, 1, none⟩ (.string nm)).setCell ⟨w.heap.size + 1, 2, none⟩ (.string wh)).setCell ⟨w.heap.size + 1, 3, none⟩ (.int .i64 xk)).setCell ⟨w.heap.size + 1, 4, none⟩ (.int .i64 xvk)).setCell ⟨w.heap.size + 1, 5, none⟩ (.int .i64 xvn)).setCell ⟨w.heap.size + 1, 6, none⟩ (.string xvt)).setCell ⟨w.heap.size + 1, 7, none⟩ (.string xnm)).setCell ⟨w.heap.size + 1, 8, none⟩ (.slice ade' el cape')).setCell ⟨w.heap.size + 1, 9, none⟩ (.slice adb' bl capb')).setCell ⟨w.heap.size + 1, 10, none⟩ (.slice adl' ll capl')).heap[w.heap.size + 1]? = some (.cells #[.int .i64 k, .string nm, .string wh, .int .i64 xk, .int .i64 xvk, .int .i64 xvn, .string xvt, .string xnm, .slice ade' el cape', .slice adb' bl capb', .slice adl' ll capl'] 81 (0, 0)) := by
    have h0 : (w5.setCell ⟨w.heap.size + 1 + 1, 10, none⟩ (.slice adl' ll capl')).heap[w.heap.size + 1]? = _ := (Below.heap_setCell _ _ _ _ (by simp only; omega)).trans BB1.out
    exact set11 h0 rfl _ _ _ _ _ _ _ _ _ _ _
  generalize ((((((((((((w5.setCell ⟨w.heap.size + 1 + 1, 10, none⟩ (.slice adl' ll capl')).setCell ⟨w.heap.size + 1, 0, none⟩ (.int .i64 k)).setCell ⟨w.heap.size + 1, 1, none⟩ (.string nm)).setCell ⟨w.heap.size + 1, 2, none⟩ (.string wh)).setCell ⟨w.heap.size + 1, 3, none⟩ (.int .i64 xk)).setCell ⟨w.heap.size + 1, 4, none⟩ (.int .i64 xvk)).setCell ⟨w.heap.size + 1, 5, none⟩ (.int .i64 xvn)).setCell ⟨w.heap.size + 1, 6, none⟩ (.string xvt)).setCell ⟨w.heap.size + 1, 7, none⟩ (.string xnm)).setCell ⟨w.heap.size + 1, 8, none⟩ (.slice ade' el cape')).setCell ⟨w.heap.size + 1, 9, none⟩ (.slice adb' bl capb')).setCell ⟨w.heap.size + 1, 10, none⟩ (.slice adl' ll capl')) = W9 at hov hbl hbk ⊢
  have c0 := cell_of_block hbk 0
  have c1 := cell_of_block hbk 1
  have c2 := cell_of_block hbk 2
  have c3 := cell_of_block hbk 3
  have c4 := cell_of_block hbk 4
  have c5 := cell_of_block hbk 5
  have c6 := cell_of_block hbk 6
  have c7 := cell_of_block hbk 7
  have c8 := cell_of_block hbk 8
  have c9 := cell_of_block hbk 9
  have c10 := cell_of_block hbk 10
  simp only [List.getElem?_toArray, List.getElem?_cons_zero, List.getElem?_cons_succ] at c0 c1 c2 c3 c4 c5 c6 c7 c8 c9 c10
  refine bodyPost_ret (v := snV ⟨k, nm, wh, ⟨xk, xvk, xvn, xvt, xnm⟩, ek⟩ (.slice ade' el cape') (.slice adb' bl capb') (.slice adl' ll capl')) (by simp [results, Try.results65, go_sem, c0, c1, c2, c3, c4, c5, c6, c7, c8, c9, c10]) rfl ?_
  exact ⟨_, _, _, rfl, (HR5.out.over hov.out).low (by omega), (HP5.out.over hov.out).low (by omega), (HL5.out.over hov.out).low (by omega), hbl.out⟩

theorem infoStep : (Try.prog.info? 81).map (fun i => (i.zero, i.size, i.bytes)) = some (some (.agg #[.int .i64 0, .string ⟨#[]⟩, .string ⟨#[]⟩, .int .i64 0, .int .i64 0, .int .i64 0, .string ⟨#[]⟩, .string ⟨#[]⟩, .slice none 0 0, .slice none 0 0, .slice none 0 0]), 11, 168) := by kernel_rfl
theorem made_step (n : Nat) (hn : n ≤ 1048576) (w : World) : ∃ M : Array Value, M.size = n * 11 ∧
    (Instr.makeSlice 46 (.int .i64 (n : Int)) (.int .i64 (n : Int))).run Try.prog w = .ok (.slice (some ⟨w.heap.size, 0, none⟩) n n) (w.alloc (.cells M 81)) := by
  obtain ⟨i0, hi, hz0, hz1, hz2⟩ := info_parts infoStep
  have hr := run_make (P := Try.prog) w 46 81 i0 _ Try.underlying46 hi hz0 .i64 .i64 n n (by omega) (Int.le_refl _) (by rw [hz2]; omega) (by omega)
  rw [hz1] at hr
  simp only [Int.toNat_natCast] at hr
  exact ⟨_, size_madeCells _ _, hr⟩

/-- the first i steps are copied -/
def PToRel (F : Ps) (w : World) (i : Nat) (wr : World) : Prop :=
  (∃ C, wr.heap[w.heap.size]? = some (.cells C 81 (0, 0)) ∧ C.size = F.len * 11) ∧ (∀ j sn b e, j < i → F.get j = some (sn, b, e) → ∃ ve vb vl, StAt (w.heap.size + 1) wr w.heap.size (j * 11) sn b e ve vb vl) ∧ Below w.heap.size w wr ∧ w.heap.size + 1 ≤ wr.heap.size
theorem PToRel.start {F : Ps} {w : World} {M : Array Value} (h : M.size = F.len * 11) : PToRel F w 0 (w.alloc (.cells M 81)) := by
  refine ⟨⟨M, ?_, h⟩, fun j sn b e hj => by omega, (Below.refl _ _).alloc (Nat.le_refl _) _, by simp⟩
  rw [heap_alloc_at, if_pos rfl]
theorem PToRel.old {F : Ps} {w wr w3 : World} {i : Nat} (h : PToRel F w i wr) (hB : Below wr.heap.size wr w3) (hi : i < F.len) :
    (∃ u, w3.cell? ⟨w.heap.size, i * 11, none⟩ = some u) ∧ (∃ u, w3.cell? ⟨w.heap.size, i * 11 + 1, none⟩ = some u) ∧ (∃ u, w3.cell? ⟨w.heap.size, i * 11 + 2, none⟩ = some u) ∧ (∃ u, w3.cell? ⟨w.heap.size, i * 11 + 3, none⟩ = some u) ∧ (∃ u, w3.cell? ⟨w.heap.size, i * 11 + 4, none⟩ = some u) ∧ (∃ u, w3.cell? ⟨w.heap.size, i * 11 + 5, none⟩ = some u) ∧ (∃ u, w3.cell? ⟨w.heap.size, i * 11 + 6, none⟩ = some u) ∧ (∃ u, w3.cell? ⟨w.heap.size, i * 11 + 7, none⟩ = some u) ∧ (∃ u, w3.cell? ⟨w.heap.size, i * 11 + 8, none⟩ = some u) ∧ (∃ u, w3.cell? ⟨w.heap.size, i * 11 + 9, none⟩ = some u) ∧ (∃ u, w3.cell? ⟨w.heap.size, i * 11 + 10, none⟩ = some u) ∧ (∀ o, w3.frozen? ⟨w.heap.size, o, none⟩ = false) := by
  obtain ⟨⟨C, hC, hs⟩, _, _, hl⟩ := h
  have hb := hB.block w.heap.size (by omega)
  rw [hC] at hb
  have G : ∀ o, o < F.len * 11 → ∃ u, w3.cell? ⟨w.heap.size, o, none⟩ = some u := fun o ho => ⟨C[o]'(by omega), by rw [cell_of_block hb]; exact Array.getElem?_eq_getElem (by omega)⟩
  exact ⟨G _ (by omega), G _ (by omega), G _ (by omega), G _ (by omega), G _ (by omega), G _ (by omega), G _ (by omega), G _ (by omega), G _ (by omega), G _ (by omega), G _ (by omega), fun o => free_of_block hb o⟩
theorem PToRel.next {F : Ps} {w wr w3 W9 : World} {i : Nat} {sn : Sn} {b e : Ps} {ve vb vl : Value} (h : PToRel F w i wr) (hB : Below wr.heap.size wr w3) (hg : F.get i = some (sn, b, e)) (hr : RowAt wr.heap.size w3 sn.ek ve) (hrb : PRow wr.heap.size w3 b vb) (hrl : PRow wr.heap.size w3 e vl)
    (h9 : W9 = (((((((((((w3.setCell ⟨w.heap.size, i * 11, none⟩ (.int .i64 sn.k)).setCell ⟨w.heap.size, i * 11 + 1, none⟩ (.string sn.nm)).setCell ⟨w.heap.size, i * 11 + 2, none⟩ (.string sn.wh)).setCell ⟨w.heap.size, i * 11 + 3, none⟩ (.int .i64 sn.ex.k)).setCell ⟨w.heap.size, i * 11 + 4, none⟩ (.int .i64 sn.ex.vk)).setCell ⟨w.heap.size, i * 11 + 5, none⟩ (.int .i64 sn.ex.vn)).setCell ⟨w.heap.size, i * 11 + 6, none⟩ (.string sn.ex.vt)).setCell ⟨w.heap.size, i * 11 + 7, none⟩ (.string sn.ex.nm)).setCell ⟨w.heap.size, i * 11 + 8, none⟩ ve).setCell ⟨w.heap.size, i * 11 + 9, none⟩ vb).setCell ⟨w.heap.size, i * 11 + 10, none⟩ vl)) : PToRel F w (i + 1) W9 := by
  obtain ⟨⟨C, hC, hs⟩, hn, hb0, hl⟩ := h
  have hil := Ps.get_lt hg
  have hb := hB.block w.heap.size (by omega)
  rw [hC] at hb
  have hs3 := hB.size
  have hov : Over (w.heap.size + 1) w3 W9 := by
    rw [h9]
    refine over_set (over_set (over_set (over_set (over_set (over_set (over_set (over_set (over_set (over_set (over_set (over_refl _ _) ?_ _) ?_ _) ?_ _) ?_ _) ?_ _) ?_ _) ?_ _) ?_ _) ?_ _) ?_ _) ?_ _ <;> (simp only; omega)
  have hbk : W9.heap[w.heap.size]? = some (.cells (((((((((((C.setIfInBounds (i * 11) (.int .i64 sn.k)).setIfInBounds (i * 11 + 1) (.string sn.nm)).setIfInBounds (i * 11 + 2) (.string sn.wh)).setIfInBounds (i * 11 + 3) (.int .i64 sn.ex.k)).setIfInBounds (i * 11 + 4) (.int .i64 sn.ex.vk)).setIfInBounds (i * 11 + 5) (.int .i64 sn.ex.vn)).setIfInBounds (i * 11 + 6) (.string sn.ex.vt)).setIfInBounds (i * 11 + 7) (.string sn.ex.nm)).setIfInBounds (i * 11 + 8) ve).setIfInBounds (i * 11 + 9) vb).setIfInBounds (i * 11 + 10) vl) 81 (0, 0)) := by
    rw [h9]
    exact block_set (block_set (block_set (block_set (block_set (block_set (block_set (block_set (block_set (block_set (block_set hb _ _) _ _) _ _) _ _) _ _) _ _) _ _) _ _) _ _) _ _) _ _
  have hbl : Below w.heap.size w W9 := by
    rw [h9]
    refine (((((((((((hb0.trans (hB.mono (by omega))).setCell ?_ _).setCell ?_ _).setCell ?_ _).setCell ?_ _).setCell ?_ _).setCell ?_ _).setCell ?_ _).setCell ?_ _).setCell ?_ _).setCell ?_ _).setCell ?_ _ <;> (simp only; omega)
  refine ⟨⟨_, hbk, by simp [hs]⟩, fun j sn' b' e' hj hk => ?_, hbl, by have := hov.1; omega⟩
  by_cases hji : j = i
  · subst hji
    rw [hg] at hk
    cases hk
    refine ⟨ve, vb, vl, ⟨?_, ?_, ?_, ?_, ?_, ?_, ?_, ?_⟩, ⟨?_, (hr.low (by omega)).over hov⟩, ⟨?_, (hrb.low (by omega)).over hov⟩, ⟨?_, (hrl.low (by omega)).over hov⟩⟩
    all_goals
      rw [cell_of_block hbk]
      simp [Array.getElem?_setIfInBounds, hs]
      try omega
  · obtain ⟨ve', vb', vl', ⟨d0, d1, d2, d3, d4, d5, d6, d7⟩, ⟨d8, q8⟩, ⟨d9, q9⟩, ⟨d10, q10⟩⟩ := hn j sn' b' e' (by omega) hk
    have E : ∀ o, o < i * 11 → W9.cell? ⟨w.heap.size, o, none⟩ = wr.cell? ⟨w.heap.size, o, none⟩ := by
      intro o ho
      rw [cell_of_block hbk, cell_of_block hC]
      rw [Array.getElem?_setIfInBounds_ne (by omega), Array.getElem?_setIfInBounds_ne (by omega), Array.getElem?_setIfInBounds_ne (by omega), Array.getElem?_setIfInBounds_ne (by omega), Array.getElem?_setIfInBounds_ne (by omega), Array.getElem?_setIfInBounds_ne (by omega), Array.getElem?_setIfInBounds_ne (by omega), Array.getElem?_setIfInBounds_ne (by omega), Array.getElem?_setIfInBounds_ne (by omega), Array.getElem?_setIfInBounds_ne (by omega), Array.getElem?_setIfInBounds_ne (by omega)]
    exact ⟨ve', vb', vl', ⟨(E _ (by omega)).trans d0, (E _ (by omega)).trans d1, (E _ (by omega)).trans d2, (E _ (by omega)).trans d3, (E _ (by omega)).trans d4, (E _ (by omega)).trans d5, (E _ (by omega)).trans d6, (E _ (by omega)).trans d7⟩, ⟨(E _ (by omega)).trans d8, (q8.over (over_of hB _)).over hov⟩, ⟨(E _ (by omega)).trans d9, (q9.over (over_of hB _)).over hov⟩, ⟨(E _ (by omega)).trans d10, (q10.over (over_of hB _)).over hov⟩⟩
theorem PToRel.done {F : Ps} {w wr : World} (h : PToRel F w F.len wr) (hN : F.len ≤ 1048576) : PRow w.heap.size wr F (.slice (some ⟨w.heap.size, 0, none⟩) F.len F.len) := by
  obtain ⟨_, hn, _, hl⟩ := h
  refine ⟨_, _, rfl, Nat.le_refl _, by unfold maxLen; omega, fun _ => ⟨_, _, rfl, Nat.le_refl _, by omega, ?_⟩⟩
  refine (PsAt.of_get fun j sn b e hk => ?_).low (Nat.le_succ _)
  obtain ⟨ve, vb, vl, hv⟩ := hn j sn b e (Ps.get_lt hk) hk
  exact ⟨ve, vb, vl, by rwa [Nat.zero_add]⟩

set_option maxHeartbeats 1600000 in
theorem toStepS_of (F : Ps) (ih : ∀ i sn b e, F.get i = some (sn, b, e) → PToP b ∧ PToP e) : PToP F := by
  intro v w hN hsm hr
  obtain ⟨ad, cap, rfl, hc, hm, hx⟩ := hr
  unfold maxLen at hm
  have HX := hide hx
  have IH := hide ih
  have HW := hide hsm
  clear hx ih hsm
  obtain ⟨M, hMs, hmk⟩ := made_step F.len hN w
  have HMs := hide hMs
  clear hMs
  go_enter Try.func43, Try.ntmps43
  go_wp2_with fail
  go_loopw [4] (fun iv wr => ∃ i : Nat, i ≤ F.len ∧ iv = .int .i64 i ∧ Hid (PToRel F w i wr)) (fun iv _ => F.len - (intOf iv).toNat)
  case atStart => exact ⟨0, by omega, rfl, hide (PToRel.start HMs.out)⟩
  case round =>
    obtain ⟨i, hi, rfl, HT⟩ := hrel
    have hB : Hid (Below w.heap.size w wr) := HT.out.2.2.1
    by_cases hlt : i < F.len
    · obtain ⟨g, off, rfl, _, hg, hfo⟩ := HX.out (by omega)
      obtain ⟨sn, b, e, hget⟩ := F.get_some i hlt
      obtain ⟨ve, vb, vl, hst⟩ := hfo.get hget
      obtain ⟨⟨d0, d1, d2, d3, d4, d5, d6, d7⟩, ⟨d8, q8⟩, ⟨d9, q9⟩, ⟨d10, q10⟩⟩ := hst.later hB.out hg
      obtain ⟨⟨s1, s2⟩, ⟨s3, s4⟩, ⟨s5, s6⟩⟩ := HW.out.get hget
      have hq := hide (toStep_of sn b e (IH.out i sn b e hget).1 (IH.out i sn b e hget).2 s1 s2 s3 s4 s5 s6 ve vb vl wr q8 q9 q10)
      have HG := hide hget
      obtain ⟨_, _, rfl, _, _, _⟩ := q8
      obtain ⟨_, _, rfl, _, _, _⟩ := q9
      obtain ⟨_, _, rfl, _, _, _⟩ := q10
      clear hfo hst hget s2 s4 s6
      have hii : (i : Int) < (F.len : Int) := by omega
      go_wp2_with fail
      refine hq.out.mono ?_
      rintro e' w3 ⟨ve', vb', vl', rfl, hre3, hrb3, hrl3, hB3⟩
      obtain ⟨⟨z0, x0⟩, ⟨z1, x1⟩, ⟨z2, x2⟩, ⟨z3, x3⟩, ⟨z4, x4⟩, ⟨z5, x5⟩, ⟨z6, x6⟩, ⟨z7, x7⟩, ⟨z8, x8⟩, ⟨z9, x9⟩, ⟨z10, x10⟩, hfz⟩ := HT.out.old hB3 hlt
      have y0 := hfz (i * 11)
      have y1 := hfz (i * 11 + 1)
      have y2 := hfz (i * 11 + 2)
      have y3 := hfz (i * 11 + 3)
      have y4 := hfz (i * 11 + 4)
      have y5 := hfz (i * 11 + 5)
      have y6 := hfz (i * 11 + 6)
      have y7 := hfz (i * 11 + 7)
      have y8 := hfz (i * 11 + 8)
      have y9 := hfz (i * 11 + 9)
      have y10 := hfz (i * 11 + 10)
      have hnx := hide (HT.out.next hB3 HG.out hre3 hrb3 hrl3 rfl)
      obtain ⟨_, _, rfl, _, _, _⟩ := hre3
      obtain ⟨_, _, rfl, _, _, _⟩ := hrb3
      obtain ⟨_, _, rfl, _, _, _⟩ := hrl3
      clear hfz hq d0 d1 d2 d3 d4 d5 d6 d7 d8 d9 d10 hB3
      go_wp2
      go_roundw
      case rel => exact ⟨i + 1, by omega, by go_num, hnx⟩
      case measure => simp [intOf]; omega
    · have hie : i = F.len := by omega
      subst hie
      go_wp2
      go_ret
      exact ⟨_, rfl, HT.out.done hN, hB.out⟩
theorem toStepS_fuel : ∀ (n : Nat) (F : Ps), F.nodes ≤ n → PToP F
  | 0, F, h => toStepS_of F fun i sn b e hk => by have := F.get_nodes i sn b e hk; omega
  | n + 1, F, h => toStepS_of F fun i sn b e hk => ⟨toStepS_fuel n b (by have := F.get_nodes i sn b e hk; omega), toStepS_fuel n e (by have := F.get_nodes i sn b e hk; omega)⟩
theorem toStepS_any (F : Ps) : PToP F := toStepS_fuel F.nodes F (Nat.le_refl _)
end Go.Proofs.Ytckdpdlkjgjadaa

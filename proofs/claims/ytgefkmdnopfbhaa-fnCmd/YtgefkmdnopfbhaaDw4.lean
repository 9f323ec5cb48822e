/- What is drawn for the law on things asked for and things that came. -/
import Derived.Test.YtgefkmdnopfbhaaDw3
namespace Go.Proofs.Ytgefkmdnopfbhaa
open Go.RowKit
set_option linter.unusedVariables false
set_option linter.unusedSimpArgs false

theorem below_set7 {n R : Nat} {W W2 : World} (h : Below n W W2) (hR : n ≤ R) (y0 y1 y2 y3 y4 y5 y6 : Value) :
    Below n W (((((((W2.setCell ⟨R, 0, none⟩ y0).setCell ⟨R, 1, none⟩ y1).setCell ⟨R, 2, none⟩ y2).setCell ⟨R, 3, none⟩ y3).setCell ⟨R, 4, none⟩ y4).setCell ⟨R, 5, none⟩ y5).setCell ⟨R, 6, none⟩ y6) :=
  ((((((h.setCell (p := ⟨R, 0, none⟩) hR _).setCell (p := ⟨R, 1, none⟩) hR _).setCell (p := ⟨R, 2, none⟩) hR _).setCell (p := ⟨R, 3, none⟩) hR _).setCell (p := ⟨R, 4, none⟩) hR _).setCell (p := ⟨R, 5, none⟩) hR _).setCell (p := ⟨R, 6, none⟩) hR _
theorem below_set5 {n R : Nat} {W W2 : World} (h : Below n W W2) (hR : n ≤ R) (y0 y1 y2 y3 y4 : Value) :
    Below n W (((((W2.setCell ⟨R, 0, none⟩ y0).setCell ⟨R, 1, none⟩ y1).setCell ⟨R, 2, none⟩ y2).setCell ⟨R, 3, none⟩ y3).setCell ⟨R, 4, none⟩ y4) :=
  ((((h.setCell (p := ⟨R, 0, none⟩) hR _).setCell (p := ⟨R, 1, none⟩) hR _).setCell (p := ⟨R, 2, none⟩) hR _).setCell (p := ⟨R, 3, none⟩) hR _).setCell (p := ⟨R, 4, none⟩) hR _
theorem below_blk {n b : Nat} {W W' : World} {o : Obj} (h : Below n W W') (hb : b < n) (hW : W.heap[b]? = some o) : W'.heap[b]? = some o := (h.block b hb).trans hW
def Cells5 (W : World) (b : Nat) (x0 x1 x2 x3 x4 : Value) : Prop := W.cell? ⟨b, 0, none⟩ = some x0 ∧ W.cell? ⟨b, 1, none⟩ = some x1 ∧ W.cell? ⟨b, 2, none⟩ = some x2 ∧ W.cell? ⟨b, 3, none⟩ = some x3 ∧ W.cell? ⟨b, 4, none⟩ = some x4 ∧ W.frozen? ⟨b, 0, none⟩ = false ∧ W.frozen? ⟨b, 1, none⟩ = false ∧ W.frozen? ⟨b, 2, none⟩ = false ∧ W.frozen? ⟨b, 3, none⟩ = false ∧ W.frozen? ⟨b, 4, none⟩ = false
theorem Cells5.mk {W : World} {b : Nat} {x0 x1 x2 x3 x4 : Value} {T : TypeId} (h : W.heap[b]? = some (.cells #[x0, x1, x2, x3, x4] T (0, 0))) : Cells5 W b x0 x1 x2 x3 x4 :=
  ⟨cell_of_block h 0, cell_of_block h 1, cell_of_block h 2, cell_of_block h 3, cell_of_block h 4, free_of_block h 0, free_of_block h 1, free_of_block h 2, free_of_block h 3, free_of_block h 4⟩
theorem set5 {W : World} {R : Nat} {x0 x1 x2 x3 x4 : Value} {T : TypeId} (h : W.heap[R]? = some (.cells #[x0, x1, x2, x3, x4] T (0, 0))) (y0 y1 y2 y3 y4 : Value) :
    (((((W.setCell ⟨R, 0, none⟩ y0).setCell ⟨R, 1, none⟩ y1).setCell ⟨R, 2, none⟩ y2).setCell ⟨R, 3, none⟩ y3).setCell ⟨R, 4, none⟩ y4).heap[R]? = some (.cells #[y0, y1, y2, y3, y4] T (0, 0)) := by
  rw [block_set (block_set (block_set (block_set (block_set h 0 _) 1 _) 2 _) 3 _) 4 _]
  rfl

set_option maxHeartbeats 1600000 in
theorem drawCameOk_any (len : Nat) (c : Value) (W : World) (hc : CodeOk W.heap.size W c len) (hl : len ≤ 1048576) :
    Calls Try.prog 15 #[c] W fun e W' => (∃ (k pl : Int) (nm : ByteArray) (o : Bool) (vk vn : Int) (vt : ByteArray), Sh nm ∧ Sh vt ∧ e = .returned (cameV k pl nm o vk vn vt)) ∧ Below W.heap.size W W' := by
  have ho := hide (fun o => open_code W.heap.size len c (W.alloc o) (by simp) (hc.later ((Below.refl _ W).alloc (Nat.le_refl _) o)) hl)
  clear hc
  go_enter Try.func15, Try.ntmps15
  go_wp2_with fail
  refine (ho.out _).mono ?_
  rintro e W1 ⟨br, l2, rfl, hR, hbr, hB⟩
  have hbr2 : W.heap.size < br := by simp at hbr; omega
  have hne : W.heap.size ≠ br := by omega
  have HR := hide hR
  have HB := hide (below_box1 hB)
  have HK := hide (below_blk hB (by simp) (heap_alloc_new W _))
  clear hR hB hbr
  go_wp2_with fail
  refine (l12AnyCame_d (Dw.start HR.out) (by omega)).mono ?_
  rintro e W2 ⟨k, pl, nm, o, vk, vn, vt, hnm, hvt, rfl, hD, hG⟩
  have HH := hide (HB.out.trans (gb_to hG (by omega) HB.out.size))
  have HK2 := hide (gb_blk hG hne HK.out)
  have hlt : W.heap.size < W2.heap.size := (Array.getElem?_eq_some_iff.1 HK2.out).1
  clear hD hG HB HK
  obtain ⟨r0, r1, r2, r3, r4, r5, r6, f0, f1, f2, f3, f4, f5, f6⟩ := Cells7.mk HK2.out
  go_wp2
  obtain ⟨d0, d1, d2, d3, d4, d5, d6, h0, h1, h2, h3, h4, h5, h6⟩ := Cells7.mk (set7 HK2.out (.int .i64 k) (.int .i64 pl) (.string nm) (.bool o) (.int .i64 vk) (.int .i64 vn) (.string vt))
  refine bodyPost_ret (v := cameV k pl nm o vk vn vt) (by simp [results, Try.results15, go_sem, d0, d1, d2, d3, d4, d5, d6]) rfl ?_
  exact ⟨⟨k, pl, nm, o, vk, vn, vt, hnm, hvt, rfl⟩, below_set7 HH.out (Nat.le_refl _) _ _ _ _ _ _ _⟩

set_option maxHeartbeats 1600000 in
theorem drawCmdOk_any (len : Nat) (c : Value) (W : World) (hc : CodeOk W.heap.size W c len) (hl : len ≤ 1048576) :
    Calls Try.prog 14 #[c] W fun e W' => (∃ (k : Int) (nm : ByteArray) (vk vn : Int) (vt : ByteArray), Sh nm ∧ Sh vt ∧ e = .returned (cmdV k nm vk vn vt)) ∧ Below W.heap.size W W' := by
  have ho := hide (fun o => open_code W.heap.size len c (W.alloc o) (by simp) (hc.later ((Below.refl _ W).alloc (Nat.le_refl _) o)) hl)
  clear hc
  go_enter Try.func14, Try.ntmps14
  go_wp2_with fail
  refine (ho.out _).mono ?_
  rintro e W1 ⟨br, l2, rfl, hR, hbr, hB⟩
  have hbr2 : W.heap.size < br := by simp at hbr; omega
  have hne : W.heap.size ≠ br := by omega
  have HR := hide hR
  have HB := hide (below_box1 hB)
  have HK := hide (below_blk hB (by simp) (heap_alloc_new W _))
  clear hR hB hbr
  go_wp2_with fail
  refine (pick_d (Dw.start HR.out) 8 (by omega) (by omega) (by omega)).mono ?_
  rintro e W2 ⟨x, hx, rfl, hD2, hG2⟩
  have HD2 := hide hD2
  have HK2 := hide (gb_blk hG2 hne HK.out)
  clear hD2 hG2
  go_wp2_with fail
  refine (l12AnyValue_d HD2.out (by omega)).mono ?_
  rintro e W3 ⟨vk, vn, vt, hvt, rfl, hD3, hG3⟩
  have HV := hide hvt
  have HD3 := hide hD3
  have HK3 := hide (gb_blk hG3 hne HK2.out)
  have hlt3 := hD3.lt
  have hne3 : W3.heap.size ≠ br := by omega
  have hR3 : W.heap.size < W3.heap.size := by omega
  clear hD3 hG3 HD2 HK2 HK hvt
  go_wp2_with fail
  refine (pick_d (HD3.out.alloc _) 2 (by omega) (by omega) (by omega)).mono ?_
  rintro e W4 ⟨y, hy, rfl, hD4, hG4⟩
  have HC4 := hide (gb_blk hG4 hne3 (heap_alloc_new W3 _))
  have HK4 := hide (gb_blk hG4 hne (blk_alloc HK3.out))
  have hlt4 : W3.heap.size < W4.heap.size := (Array.getElem?_eq_some_iff.1 HC4.out).1
  have hltb := hD4.lt
  have HD4 := hide hD4
  clear hD4 hG4 HK3 HD3
  obtain ⟨r0, r1, r2, r3, r4, f0, f1, f2, f3, f4⟩ := Cells5.mk HK4.out
  obtain ⟨c0, c1, c2, c3, c4, g0, g1, g2, g3, g4⟩ := Cells5.mk HC4.out
  by_cases y0 : y = 0
  · subst y0
    clear r0 r1 r2 r3 r4 f0 f1 f2 f3 f4 c0 c1 c2 c3 c4 g0 g1 g2 g3 g4
    go_wp2_with fail
    refine (of_d (HD4.out.alloc _) Sh 3 W4.heap.size 0 3 (by omega) (by omega) (by omega) (by omega) (among_lit (by
      intro i hi
      have : i = 0 ∨ i = 1 ∨ i = 2 := by omega
      rcases this with rfl | rfl | rfl <;> exact ⟨_, rfl, by show _ ≤ _; decide⟩))).mono ?_
    rintro e W5 ⟨z, hz, rfl, hD5, hG5⟩
    have HC5 := hide (gb_blk hG5 hne3 (blk_alloc HC4.out))
    have HK5 := hide (gb_blk hG5 hne (blk_alloc HK4.out))
    have hlt5 : W3.heap.size < W5.heap.size := (Array.getElem?_eq_some_iff.1 HC5.out).1
    have HH := hide (HB.out.trans (gb_to hD5.gb (by omega) HB.out.size))
    have HZ := hide hz
    clear hD5 hG5 HC4 HK4 hz
    obtain ⟨r0, r1, r2, r3, r4, f0, f1, f2, f3, f4⟩ := Cells5.mk HK5.out
    obtain ⟨c0, c1, c2, c3, c4, g0, g1, g2, g3, g4⟩ := Cells5.mk HC5.out
    go_wp2
    obtain ⟨d0, d1, d2, d3, d4, h0, h1, h2, h3, h4⟩ := Cells5.mk (set5 (blk_set HK5.out (g := W3.heap.size) (by omega) 1 (.string z)) (.int .i64 x) (.string z) (.int .i64 vk) (.int .i64 vn) (.string vt))
    refine bodyPost_ret (v := cmdV x z vk vn vt) (by simp [results, Try.results14, go_sem, d0, d1, d2, d3, d4]) rfl ?_
    exact ⟨⟨x, z, vk, vn, vt, HZ.out, HV.out, rfl⟩, below_set5 (HH.out.setCell (p := ⟨W3.heap.size, 1, none⟩) (by show _ ≤ W3.heap.size; omega) _) (Nat.le_refl _) _ _ _ _ _⟩
  · have q0 : ((y : Int) == 0) = false := beq_eq_false_iff_ne.2 (by omega)
    have HH := hide (HB.out.trans (gb_to HD4.out.gb (by omega) HB.out.size))
    go_wp2
    obtain ⟨d0, d1, d2, d3, d4, h0, h1, h2, h3, h4⟩ := Cells5.mk (set5 HK4.out (.int .i64 x) (.string ⟨#[]⟩) (.int .i64 vk) (.int .i64 vn) (.string vt))
    refine bodyPost_ret (v := cmdV x ⟨#[]⟩ vk vn vt) (by simp [results, Try.results14, go_sem, d0, d1, d2, d3, d4]) rfl ?_
    exact ⟨⟨x, ⟨#[]⟩, vk, vn, vt, by show 0 ≤ 25; omega, HV.out, rfl⟩, below_set5 HH.out (Nat.le_refl _) _ _ _ _ _⟩
end Go.Proofs.Ytgefkmdnopfbhaa

/- Drawn values of any kind, things that came or are asked for. -/
import Derived.Test.YtgefkmdnopfbhaaDw2
import Derived.Test.YtgefkmdnopfbhaaCame1
namespace Go.Proofs.Ytgefkmdnopfbhaa
open Go.RowKit
set_option linter.unusedVariables false
set_option linter.unusedSimpArgs false

set_option maxHeartbeats 3200000 in
theorem l12AnyValue_d {n₀ br len p K : Nat} {W0 W : World} (h : Dw n₀ br len p K W0 W) (hp : p + K ≤ 900000) :
    Calls Try.prog 27 #[.pointer (some ⟨br, 0, none⟩)] W (Vd n₀ br len p (K + 4) W0 W) := by
  obtain ⟨⟨p', hp', hr⟩, hg⟩ := h
  have hlt := hr.lt
  have hne : W.heap.size ≠ br := by omega
  have hn₀ : n₀ ≤ W.heap.size := by have := hr.1; omega
  have J : Hid (∀ W2, Dw n₀ br len p' 4 W W2 → Dw n₀ br len p (K + 4) W0 W2 ∧ W.grownBy W2 (some br)) := fun W2 h2 => ⟨h2.join hg hp', h2.gb⟩
  have HR := hide hr
  clear hr hg
  go_enter Try.func27, Try.ntmps27
  go_wp2_with fail
  refine (l12Value_d (Dw.start (HR.out.alloc _)) (by omega)).mono ?_
  rintro e W2 ⟨vk, vn, vt, hvt, rfl, hD, _⟩
  have HD := hide hD
  have hb := hD.box hne
  have HV := hide hvt
  clear hD hvt
  have hlt2 : br < W2.heap.size := HD.out.lt
  have hWs : W.heap.size < W2.heap.size := by have := HD.out.gb.size; simp at this; omega
  have hne2 : W2.heap.size ≠ br := by omega
  have HBK := hide (blk_alloc hb (o2 := .cells #[.int .i64 vk, .int .i64 vn, .string vt] 28))
  clear hb
  go_wp2_with fail
  refine (pick_d (HD.out.alloc _) 16 (by omega) (by omega) (by omega)).mono ?_
  rintro e W3 ⟨x, hx, rfl, hD3, hG3⟩
  have hbR := gb_blk hG3 hne HBK.out
  have hbV := gb_blk hG3 hne2 (heap_alloc_new W2 _)
  have HD3 := hide hD3
  have hlt3 := hD3.lt
  have hW3 : W2.heap.size < W3.heap.size := by have := hG3.size; simp at this; omega
  clear hD3 hG3 HBK HD
  have fin : Hid (∀ (W4 : World) (a b c : Value), W4.heap[W2.heap.size]? = some (.cells #[a, b, c] 28 (0, 0)) → W4.heap[W.heap.size]? = some (.cells #[.int .i64 0, .int .i64 0, .string ⟨#[]⟩] 28 (0, 0)) →
      W4.cell? ⟨W2.heap.size, 0, none⟩ = some a ∧ W4.cell? ⟨W2.heap.size, 1, none⟩ = some b ∧ W4.cell? ⟨W2.heap.size, 2, none⟩ = some c ∧ W4.cell? ⟨W.heap.size, 0, none⟩ = some (.int .i64 0) ∧ W4.cell? ⟨W.heap.size, 1, none⟩ = some (.int .i64 0) ∧ W4.cell? ⟨W.heap.size, 2, none⟩ = some (.string ⟨#[]⟩) ∧ W4.frozen? ⟨W.heap.size, 0, none⟩ = false ∧ W4.frozen? ⟨W.heap.size, 1, none⟩ = false ∧ W4.frozen? ⟨W.heap.size, 2, none⟩ = false ∧ W4.frozen? ⟨W2.heap.size, 0, none⟩ = false ∧ W4.frozen? ⟨W2.heap.size, 1, none⟩ = false ∧ W4.frozen? ⟨W2.heap.size, 2, none⟩ = false) := by
    intro W4 a b c h1 h2
    exact ⟨cell_of_block h1 0, cell_of_block h1 1, cell_of_block h1 2, cell_of_block h2 0, cell_of_block h2 1, cell_of_block h2 2, free_of_block h2 0, free_of_block h2 1, free_of_block h2 2, free_of_block h1 0, free_of_block h1 1, free_of_block h1 2⟩
  have C3 := hide (fin.out W3 _ _ _ hbV hbR)
  have HBR := hide hbR
  have HBV := hide hbV
  clear hbR hbV
  by_cases x0 : x = 0
  · subst x0
    go_wp2_with fail
    refine (one_d (HD3.out.alloc _) (fun _ => True) 3 W3.heap.size 3 (by omega) (by omega) (by omega) (by omega) (ints_lit ?_)).mono ?_
    · intro i hi
      have : i = 0 ∨ i = 1 ∨ i = 2 := by omega
      rcases this with rfl | rfl | rfl <;> exact ⟨_, rfl, trivial⟩
    · rintro e W4 ⟨z, _, rfl, hD4, hG4⟩
      have hbR := gb_blk hG4 hne (blk_alloc HBR.out)
      have hbV := gb_blk hG4 hne2 (blk_alloc HBV.out)
      have C4 := fin.out W4 _ _ _ hbV hbR
      have HD4 := hide hD4
      have HBR4 := hide hbR
      clear hbR hbV hD4 hG4 C3
      obtain ⟨v0, v1, v2, r0, r1, r2, f0, f1, f2, f3, f4, f5⟩ := C4
      go_wp2
      obtain ⟨d0, d1, d2⟩ := cells3 (set3 (blk_set HBR4.out (g := W2.heap.size) (by omega) 1 (.int .i64 z)) (.int .i64 vk) (.int .i64 z) (.string vt))
      refine bodyPost_ret (v := vAgg vk z vt) (by simp [results, Try.results27, go_sem, d0, d1, d2]) rfl ?_
      exact ⟨vk, z, vt, HV.out, rfl, J.out _ ((HD4.out.boxed.set hn₀ (by omega) hne2 1 _).set3 hn₀ (Nat.le_refl _) hne _ _ _)⟩
  · have q0 : ((x : Int) == 0) = false := beq_eq_false_iff_ne.2 (by omega)
    by_cases x1 : x = 1
    · subst x1
      clear q0
      have hm := hide (many_any ⟨#[117]⟩ 25 (by decide) (by decide) (by decide))
      go_wp2_with fail
      refine (hm.out _).mono ?_
      rintro e W3' ⟨⟨t, ht, rfl⟩, rfl⟩
      have HT := hide ht
      clear hm ht
      go_wp2_with fail
      refine (of_d (HD3.out.alloc _) Sh 4 W3'.heap.size 0 4 (by omega) (by omega) (by omega) (by omega) (among_lit ?_)).mono ?_
      · intro i hi
        have : i = 0 ∨ i = 1 ∨ i = 2 ∨ i = 3 := by omega
        rcases this with rfl | rfl | rfl | rfl
        · exact ⟨_, rfl, by show _ ≤ _; decide⟩
        · exact ⟨_, rfl, by show _ ≤ _; decide⟩
        · exact ⟨t, rfl, HT.out⟩
        · exact ⟨_, rfl, by show _ ≤ _; decide⟩
      · rintro e W4 ⟨z, hz, rfl, hD4, hG4⟩
        have hbR := gb_blk hG4 hne (blk_alloc HBR.out)
        have hbV := gb_blk hG4 hne2 (blk_alloc HBV.out)
        have C4 := fin.out W4 _ _ _ hbV hbR
        have HD4 := hide hD4
        have HBR4 := hide hbR
        have HZ := hide hz
        clear hbR hbV hD4 hG4 C3 hz
        obtain ⟨v0, v1, v2, r0, r1, r2, f0, f1, f2, f3, f4, f5⟩ := C4
        go_wp2
        obtain ⟨d0, d1, d2⟩ := cells3 (set3 (blk_set HBR4.out (g := W2.heap.size) (by omega) 2 (.string z)) (.int .i64 vk) (.int .i64 vn) (.string z))
        refine bodyPost_ret (v := vAgg vk vn z) (by simp [results, Try.results27, go_sem, d0, d1, d2]) rfl ?_
        exact ⟨vk, vn, z, HZ.out, rfl, J.out _ ((HD4.out.boxed.set hn₀ (by omega) hne2 2 _).set3 hn₀ (Nat.le_refl _) hne _ _ _)⟩
    · have q1 : ((x : Int) == 1) = false := beq_eq_false_iff_ne.2 (by omega)
      by_cases x2 : x = 2
      · subst x2
        clear q0 q1
        go_wp2_with fail
        refine (pick_d HD3.out 5 (by omega) (by omega) (by omega)).mono ?_
        rintro e W4 ⟨z, hz, rfl, hD4, hG4⟩
        have hbR := gb_blk hG4 hne HBR.out
        have hbV := gb_blk hG4 hne2 HBV.out
        have C4 := fin.out W4 _ _ _ hbV hbR
        have HD4 := hide hD4
        have HBR4 := hide hbR
        clear hbR hbV hD4 hG4 C3
        obtain ⟨v0, v1, v2, r0, r1, r2, f0, f1, f2, f3, f4, f5⟩ := C4
        go_wp2
        obtain ⟨d0, d1, d2⟩ := cells3 (set3 (blk_set HBR4.out (g := W2.heap.size) (by omega) 0 (.int .i64 ((z : Int) - 1))) (.int .i64 ((z : Int) - 1)) (.int .i64 vn) (.string vt))
        refine bodyPost_ret (v := vAgg ((z : Int) - 1) vn vt) (by simp [results, Try.results27, go_sem, d0, d1, d2]) rfl ?_
        exact ⟨(z : Int) - 1, vn, vt, HV.out, rfl, J.out _ ((HD4.out.boxed.set hn₀ (by omega) hne2 0 _).set3 hn₀ (Nat.le_refl _) hne _ _ _)⟩
      · have q2 : ((x : Int) == 2) = false := beq_eq_false_iff_ne.2 (by omega)
        obtain ⟨v0, v1, v2, r0, r1, r2, f0, f1, f2, f3, f4, f5⟩ := C3.out
        go_wp2
        obtain ⟨d0, d1, d2⟩ := cells3 (set3 HBR.out (.int .i64 vk) (.int .i64 vn) (.string vt))
        refine bodyPost_ret (v := vAgg vk vn vt) (by simp [results, Try.results27, go_sem, d0, d1, d2]) rfl ?_
        exact ⟨vk, vn, vt, HV.out, rfl, J.out _ ((HD3.out.boxed.mono (by omega)).set3 hn₀ (Nat.le_refl _) hne _ _ _)⟩

/-- something that came was drawn -/
def Cd (n₀ br len p K : Nat) (W W1 : World) (e : Ending) (W' : World) : Prop := ∃ (k pl : Int) (nm : ByteArray) (o : Bool) (vk vn : Int) (vt : ByteArray), Sh nm ∧ Sh vt ∧ e = .returned (cameV k pl nm o vk vn vt) ∧ Dw n₀ br len p K W W' ∧ W1.grownBy W' (some br)

def Cells7 (W : World) (b : Nat) (x0 x1 x2 x3 x4 x5 x6 : Value) : Prop := W.cell? ⟨b, 0, none⟩ = some x0 ∧ W.cell? ⟨b, 1, none⟩ = some x1 ∧ W.cell? ⟨b, 2, none⟩ = some x2 ∧ W.cell? ⟨b, 3, none⟩ = some x3 ∧ W.cell? ⟨b, 4, none⟩ = some x4 ∧ W.cell? ⟨b, 5, none⟩ = some x5 ∧ W.cell? ⟨b, 6, none⟩ = some x6 ∧ W.frozen? ⟨b, 0, none⟩ = false ∧ W.frozen? ⟨b, 1, none⟩ = false ∧ W.frozen? ⟨b, 2, none⟩ = false ∧ W.frozen? ⟨b, 3, none⟩ = false ∧ W.frozen? ⟨b, 4, none⟩ = false ∧ W.frozen? ⟨b, 5, none⟩ = false ∧ W.frozen? ⟨b, 6, none⟩ = false
theorem Cells7.mk {W : World} {b : Nat} {x0 x1 x2 x3 x4 x5 x6 : Value} {T : TypeId} (h : W.heap[b]? = some (.cells #[x0, x1, x2, x3, x4, x5, x6] T (0, 0))) : Cells7 W b x0 x1 x2 x3 x4 x5 x6 :=
  ⟨cell_of_block h 0, cell_of_block h 1, cell_of_block h 2, cell_of_block h 3, cell_of_block h 4, cell_of_block h 5, cell_of_block h 6, free_of_block h 0, free_of_block h 1, free_of_block h 2, free_of_block h 3, free_of_block h 4, free_of_block h 5, free_of_block h 6⟩
theorem set7 {W : World} {R : Nat} {x0 x1 x2 x3 x4 x5 x6 : Value} {T : TypeId} (h : W.heap[R]? = some (.cells #[x0, x1, x2, x3, x4, x5, x6] T (0, 0))) (y0 y1 y2 y3 y4 y5 y6 : Value) :
    (((((((W.setCell ⟨R, 0, none⟩ y0).setCell ⟨R, 1, none⟩ y1).setCell ⟨R, 2, none⟩ y2).setCell ⟨R, 3, none⟩ y3).setCell ⟨R, 4, none⟩ y4).setCell ⟨R, 5, none⟩ y5).setCell ⟨R, 6, none⟩ y6).heap[R]? = some (.cells #[y0, y1, y2, y3, y4, y5, y6] T (0, 0)) := by
  rw [block_set (block_set (block_set (block_set (block_set (block_set (block_set h 0 _) 1 _) 2 _) 3 _) 4 _) 5 _) 6 _]
  rfl
theorem Dw.set7 {n₀ br len p K R : Nat} {W W2 : World} (h : Dw n₀ br len p K W W2) (hn₀ : n₀ ≤ W.heap.size) (hR : W.heap.size ≤ R) (hne : R ≠ br) (y0 y1 y2 y3 y4 y5 y6 : Value) :
    Dw n₀ br len p K W (((((((W2.setCell ⟨R, 0, none⟩ y0).setCell ⟨R, 1, none⟩ y1).setCell ⟨R, 2, none⟩ y2).setCell ⟨R, 3, none⟩ y3).setCell ⟨R, 4, none⟩ y4).setCell ⟨R, 5, none⟩ y5).setCell ⟨R, 6, none⟩ y6) := by
  exact (((((((h.set hn₀ hR hne 0 _).set hn₀ hR hne 1 _).set hn₀ hR hne 2 _).set hn₀ hR hne 3 _).set hn₀ hR hne 4 _).set hn₀ hR hne 5 _).set hn₀ hR hne 6 _)

set_option maxHeartbeats 3200000 in
theorem l12Came_d {n₀ br len p K : Nat} {W0 W : World} (h : Dw n₀ br len p K W0 W) (hp : p + K ≤ 800000) :
    Calls Try.prog 40 #[.pointer (some ⟨br, 0, none⟩)] W (Cd n₀ br len p (K + 6) W0 W) := by
  obtain ⟨⟨p', hp', hr⟩, hg⟩ := h
  have hlt := hr.lt
  have hne : W.heap.size ≠ br := by omega
  have hn₀ : n₀ ≤ W.heap.size := by have := hr.1; omega
  have J : Hid (∀ W2, Dw n₀ br len p' 6 W W2 → Dw n₀ br len p (K + 6) W0 W2 ∧ W.grownBy W2 (some br)) := fun W2 h2 => ⟨h2.join hg hp', h2.gb⟩
  have HR := hide hr
  clear hr hg
  go_enter Try.func40, Try.ntmps40
  go_wp2_with fail
  have e1 : (W.alloc (.cells #[.int .i64 0, .int .i64 0, .string ⟨#[]⟩, .bool false, .int .i64 0, .int .i64 0, .string ⟨#[]⟩] 38)).heap.size = W.heap.size + 1 := by simp
  refine (one_d ((Dw.start (HR.out.alloc _)).alloc _) (fun z => z = 1 ∨ z = 2 ∨ z = 3 ∨ z = 4) 6 (W.heap.size + 1) 6 (by omega) (by omega) (by omega) (by omega) (by rw [← e1]; exact ints_lit (by
    intro i hi
    have : i = 0 ∨ i = 1 ∨ i = 2 ∨ i = 3 ∨ i = 4 ∨ i = 5 := by omega
    rcases this with rfl | rfl | rfl | rfl | rfl | rfl <;> exact ⟨_, rfl, by simp⟩))).mono ?_
  clear e1
  rintro e W2 ⟨z, hz, rfl, hD, _⟩
  have HD := hide hD
  have HZ := hide hz
  clear hD hz
  go_wp2_with fail
  refine (pick_d HD.out 5 (by omega) (by omega) (by omega)).mono ?_
  rintro e W3 ⟨y, hy, rfl, hD3, _⟩
  have hbR := hD3.box hne
  have hlt3 := hD3.lt
  have hW3 : W.heap.size < W3.heap.size := by have := hD3.gb.size; simp at this; omega
  have hne3 : W3.heap.size ≠ br := by omega
  have HD3 := hide hD3
  have HBR := hide hbR
  clear hD3 hbR HD
  obtain ⟨r0, r1, r2, r3, r4, r5, r6, f0, f1, f2, f3, f4, f5, f6⟩ := Cells7.mk HBR.out
  rcases HZ.out with rfl | rfl | rfl | rfl
  · -- an answer, a child
    go_wp2_with fail
    refine (pick_d (HD3.out.alloc _) 4 (by omega) (by omega) (by omega)).mono ?_
    rintro e W4 ⟨x, hx, rfl, hD4, hG4⟩
    have hb4 := gb_blk hG4 hne (blk_alloc HBR.out)
    have hv4 := gb_blk hG4 hne3 (heap_alloc_new W3 _)
    have hlt4 := hD4.lt
    have hW4 : W3.heap.size < W4.heap.size := by have := hG4.size; simp at this; omega
    have HD4 := hide hD4
    have HB4 := hide hb4
    have HV4 := hide hv4
    clear r0 r1 r2 r3 r4 r5 r6 f0 f1 f2 f3 f4 f5 f6 hD4 hb4 hv4 hG4 HD3 HBR
    obtain ⟨r0, r1, r2, r3, r4, r5, r6, f0, f1, f2, f3, f4, f5, f6⟩ := Cells7.mk HB4.out
    obtain ⟨v0, v1, v2, v3, v4, v5, v6, g0, g1, g2, g3, g4, g5, g6⟩ := Cells7.mk HV4.out
    by_cases x0 : x = 0
    · subst x0
      go_wp2
      obtain ⟨d0, d1, d2, d3, d4, d5, d6, h0, h1, h2, h3, h4, h5, h6⟩ := Cells7.mk (set7 (blk_set HB4.out (g := W3.heap.size) (by omega) 3 (.bool false)) (.int .i64 1) (.int .i64 (y : Int)) (.string ⟨#[]⟩) (.bool false) (.int .i64 0) (.int .i64 0) (.string ⟨#[]⟩))
      refine bodyPost_ret (v := cameV 1 y ⟨#[]⟩ false 0 0 ⟨#[]⟩) (by simp [results, Try.results40, go_sem, d0, d1, d2, d3, d4, d5, d6]) rfl ?_
      exact ⟨1, y, ⟨#[]⟩, false, 0, 0, ⟨#[]⟩, by show 0 ≤ 25; omega, by show 0 ≤ 25; omega, rfl, J.out _ (((HD4.out.boxed.mono (by omega)).set hn₀ (by omega) hne3 3 _).set7 hn₀ (Nat.le_refl _) hne _ _ _ _ _ _ _)⟩
    · have x0' : 0 < x := by omega
      go_wp2_with fail
      refine (l12Value_d (HD4.out.boxed.set hn₀ (show W.heap.size ≤ W3.heap.size by omega) hne3 3 (.bool true)) (by omega)).mono ?_
      rintro e W5 ⟨vk, vn, vt, hvt, rfl, hD5, hG5⟩
      have hb5 := gb_blk hG5 hne (blk_set HB4.out (g := W3.heap.size) (by omega) 3 (.bool true))
      have hv5 := gb_blk hG5 hne3 (block_set HV4.out 3 (.bool true))
      have hlt5 := hD5.lt
      have hW5 : W3.heap.size < W5.heap.size := by have := hG5.size; simp [World.setCell] at this; omega
      have HD5 := hide hD5
      have HB5 := hide hb5
      have HV5 : Hid (W5.heap[W3.heap.size]? = some (.cells #[.int .i64 1, .int .i64 (y : Int), .string ⟨#[]⟩, .bool true, .int .i64 0, .int .i64 0, .string ⟨#[]⟩] 38 (0, 0))) := hv5
      have HVT := hide hvt
      clear r0 r1 r2 r3 r4 r5 r6 f0 f1 f2 f3 f4 f5 f6 v0 v1 v2 v3 v4 v5 v6 g0 g1 g2 g3 g4 g5 g6 hD5 hb5 hv5 hG5 HD4 HB4 HV4 hvt
      obtain ⟨r0, r1, r2, r3, r4, r5, r6, f0, f1, f2, f3, f4, f5, f6⟩ := Cells7.mk HB5.out
      obtain ⟨v0, v1, v2, v3, v4, v5, v6, g0, g1, g2, g3, g4, g5, g6⟩ := Cells7.mk HV5.out
      go_wp2
      have hs5 := blk_set (blk_set (blk_set HB5.out (g := W3.heap.size) (by omega) 4 (.int .i64 vk)) (g := W3.heap.size) (by omega) 5 (.int .i64 vn)) (g := W3.heap.size) (by omega) 6 (.string vt)
      obtain ⟨d0, d1, d2, d3, d4, d5, d6, h0, h1, h2, h3, h4, h5, h6⟩ := Cells7.mk (set7 hs5 (.int .i64 1) (.int .i64 (y : Int)) (.string ⟨#[]⟩) (.bool true) (.int .i64 vk) (.int .i64 vn) (.string vt))
      refine bodyPost_ret (v := cameV 1 y ⟨#[]⟩ true vk vn vt) (by simp [results, Try.results40, go_sem, d0, d1, d2, d3, d4, d5, d6]) rfl ?_
      exact ⟨1, y, ⟨#[]⟩, true, vk, vn, vt, by show 0 ≤ 25; omega, HVT.out, rfl, J.out _ (((((HD5.out.mono (by omega)).set hn₀ (by omega) hne3 4 _).set hn₀ (by omega) hne3 5 _).set hn₀ (by omega) hne3 6 _).set7 hn₀ (Nat.le_refl _) hne _ _ _ _ _ _ _)⟩
  · -- a timer
    go_wp2
    generalize hW : World.alloc _ _ = W9
    have hb9 : W9.heap[W.heap.size]? = some (.cells #[.int .i64 2, .int .i64 (y : Int), .string ⟨#[]⟩, .bool true, .int .i64 0, .int .i64 0, .string ⟨#[]⟩] 38 (0, 0)) := by
      rw [← hW]
      exact blk_alloc (set7 HBR.out (.int .i64 2) (.int .i64 (y : Int)) (.string ⟨#[]⟩) (.bool true) (.int .i64 0) (.int .i64 0) (.string ⟨#[]⟩))
    have hD9 : Dw n₀ br len p' 6 W W9 := by
      rw [← hW]
      exact ((HD3.out.boxed.mono (by omega)).set7 hn₀ (Nat.le_refl _) hne _ _ _ _ _ _ _).alloc _
    obtain ⟨d0, d1, d2, d3, d4, d5, d6, h0, h1, h2, h3, h4, h5, h6⟩ := Cells7.mk hb9
    refine bodyPost_ret (v := cameV 2 y ⟨#[]⟩ true 0 0 ⟨#[]⟩) (by simp [results, Try.results40, go_sem, d0, d1, d2, d3, d4, d5, d6]) rfl ?_
    exact ⟨2, y, ⟨#[]⟩, true, 0, 0, ⟨#[]⟩, by show 0 ≤ 25; omega, by show 0 ≤ 25; omega, rfl, J.out _ hD9⟩
  · -- an answer, a child
    go_wp2_with fail
    refine (pick_d (HD3.out.alloc _) 4 (by omega) (by omega) (by omega)).mono ?_
    rintro e W4 ⟨x, hx, rfl, hD4, hG4⟩
    have hb4 := gb_blk hG4 hne (blk_alloc HBR.out)
    have hv4 := gb_blk hG4 hne3 (heap_alloc_new W3 _)
    have hlt4 := hD4.lt
    have hW4 : W3.heap.size < W4.heap.size := by have := hG4.size; simp at this; omega
    have HD4 := hide hD4
    have HB4 := hide hb4
    have HV4 := hide hv4
    clear r0 r1 r2 r3 r4 r5 r6 f0 f1 f2 f3 f4 f5 f6 hD4 hb4 hv4 hG4 HD3 HBR
    obtain ⟨r0, r1, r2, r3, r4, r5, r6, f0, f1, f2, f3, f4, f5, f6⟩ := Cells7.mk HB4.out
    obtain ⟨v0, v1, v2, v3, v4, v5, v6, g0, g1, g2, g3, g4, g5, g6⟩ := Cells7.mk HV4.out
    by_cases x0 : x = 0
    · subst x0
      go_wp2
      obtain ⟨d0, d1, d2, d3, d4, d5, d6, h0, h1, h2, h3, h4, h5, h6⟩ := Cells7.mk (set7 (blk_set HB4.out (g := W3.heap.size) (by omega) 3 (.bool false)) (.int .i64 3) (.int .i64 (y : Int)) (.string ⟨#[]⟩) (.bool false) (.int .i64 0) (.int .i64 0) (.string ⟨#[]⟩))
      refine bodyPost_ret (v := cameV 3 y ⟨#[]⟩ false 0 0 ⟨#[]⟩) (by simp [results, Try.results40, go_sem, d0, d1, d2, d3, d4, d5, d6]) rfl ?_
      exact ⟨3, y, ⟨#[]⟩, false, 0, 0, ⟨#[]⟩, by show 0 ≤ 25; omega, by show 0 ≤ 25; omega, rfl, J.out _ (((HD4.out.boxed.mono (by omega)).set hn₀ (by omega) hne3 3 _).set7 hn₀ (Nat.le_refl _) hne _ _ _ _ _ _ _)⟩
    · have x0' : 0 < x := by omega
      go_wp2_with fail
      refine (l12Value_d (HD4.out.boxed.set hn₀ (show W.heap.size ≤ W3.heap.size by omega) hne3 3 (.bool true)) (by omega)).mono ?_
      rintro e W5 ⟨vk, vn, vt, hvt, rfl, hD5, hG5⟩
      have hb5 := gb_blk hG5 hne (blk_set HB4.out (g := W3.heap.size) (by omega) 3 (.bool true))
      have hv5 := gb_blk hG5 hne3 (block_set HV4.out 3 (.bool true))
      have hlt5 := hD5.lt
      have hW5 : W3.heap.size < W5.heap.size := by have := hG5.size; simp [World.setCell] at this; omega
      have HD5 := hide hD5
      have HB5 := hide hb5
      have HV5 : Hid (W5.heap[W3.heap.size]? = some (.cells #[.int .i64 3, .int .i64 (y : Int), .string ⟨#[]⟩, .bool true, .int .i64 0, .int .i64 0, .string ⟨#[]⟩] 38 (0, 0))) := hv5
      have HVT := hide hvt
      clear r0 r1 r2 r3 r4 r5 r6 f0 f1 f2 f3 f4 f5 f6 v0 v1 v2 v3 v4 v5 v6 g0 g1 g2 g3 g4 g5 g6 hD5 hb5 hv5 hG5 HD4 HB4 HV4 hvt
      obtain ⟨r0, r1, r2, r3, r4, r5, r6, f0, f1, f2, f3, f4, f5, f6⟩ := Cells7.mk HB5.out
      obtain ⟨v0, v1, v2, v3, v4, v5, v6, g0, g1, g2, g3, g4, g5, g6⟩ := Cells7.mk HV5.out
      go_wp2
      have hs5 := blk_set (blk_set (blk_set HB5.out (g := W3.heap.size) (by omega) 4 (.int .i64 vk)) (g := W3.heap.size) (by omega) 5 (.int .i64 vn)) (g := W3.heap.size) (by omega) 6 (.string vt)
      obtain ⟨d0, d1, d2, d3, d4, d5, d6, h0, h1, h2, h3, h4, h5, h6⟩ := Cells7.mk (set7 hs5 (.int .i64 3) (.int .i64 (y : Int)) (.string ⟨#[]⟩) (.bool true) (.int .i64 vk) (.int .i64 vn) (.string vt))
      refine bodyPost_ret (v := cameV 3 y ⟨#[]⟩ true vk vn vt) (by simp [results, Try.results40, go_sem, d0, d1, d2, d3, d4, d5, d6]) rfl ?_
      exact ⟨3, y, ⟨#[]⟩, true, vk, vn, vt, by show 0 ≤ 25; omega, HVT.out, rfl, J.out _ (((((HD5.out.mono (by omega)).set hn₀ (by omega) hne3 4 _).set hn₀ (by omega) hne3 5 _).set hn₀ (by omega) hne3 6 _).set7 hn₀ (Nat.le_refl _) hne _ _ _ _ _ _ _)⟩
  · -- a signal
    go_wp2_with fail
    have e1 : (W3.alloc (.cells #[.int .i64 4, .int .i64 0, .string ⟨#[]⟩, .bool true, .int .i64 0, .int .i64 0, .string ⟨#[]⟩] 38)).heap.size = W3.heap.size + 1 := by simp
    refine (of_d ((HD3.out.boxed.alloc _).alloc _) Sh 2 (W3.heap.size + 1) 0 2 (by omega) (by omega) (by omega) (by omega) (by rw [← e1]; exact among_lit (by
      intro i hi
      have : i = 0 ∨ i = 1 := by omega
      rcases this with rfl | rfl <;> exact ⟨_, rfl, by show _ ≤ _; decide⟩))).mono ?_
    clear e1
    rintro e W4 ⟨s, hs, rfl, hD4, hG4⟩
    have hb4 := gb_blk hG4 hne (blk_alloc (blk_alloc HBR.out))
    have hv4 := gb_blk hG4 hne3 (blk_alloc (heap_alloc_new W3 _))
    have hlt4 := hD4.lt
    have hW4 : W3.heap.size < W4.heap.size := by have := hG4.size; simp at this; omega
    have HD4 := hide hD4
    have HB4 := hide hb4
    have HV4 := hide hv4
    have HS := hide hs
    clear r0 r1 r2 r3 r4 r5 r6 f0 f1 f2 f3 f4 f5 f6 hD4 hb4 hv4 hG4 HD3 HBR hs
    obtain ⟨r0, r1, r2, r3, r4, r5, r6, f0, f1, f2, f3, f4, f5, f6⟩ := Cells7.mk HB4.out
    obtain ⟨v0, v1, v2, v3, v4, v5, v6, g0, g1, g2, g3, g4, g5, g6⟩ := Cells7.mk HV4.out
    go_wp2_with fail
    refine (l12Value_d (HD4.out.set hn₀ (show W.heap.size ≤ W3.heap.size by omega) hne3 2 (.string s)) (by omega)).mono ?_
    rintro e W5 ⟨vk, vn, vt, hvt, rfl, hD5, hG5⟩
    have hb5 := gb_blk hG5 hne (blk_set HB4.out (g := W3.heap.size) (by omega) 2 (.string s))
    have hv5 := gb_blk hG5 hne3 (block_set HV4.out 2 (.string s))
    have hlt5 := hD5.lt
    have hW5 : W3.heap.size < W5.heap.size := by have := hG5.size; simp [World.setCell] at this; omega
    have HD5 := hide hD5
    have HB5 := hide hb5
    have HV5 : Hid (W5.heap[W3.heap.size]? = some (.cells #[.int .i64 4, .int .i64 0, .string s, .bool true, .int .i64 0, .int .i64 0, .string ⟨#[]⟩] 38 (0, 0))) := hv5
    have HVT := hide hvt
    clear r0 r1 r2 r3 r4 r5 r6 f0 f1 f2 f3 f4 f5 f6 v0 v1 v2 v3 v4 v5 v6 g0 g1 g2 g3 g4 g5 g6 hD5 hb5 hv5 hG5 HD4 HB4 HV4 hvt
    obtain ⟨r0, r1, r2, r3, r4, r5, r6, f0, f1, f2, f3, f4, f5, f6⟩ := Cells7.mk HB5.out
    obtain ⟨v0, v1, v2, v3, v4, v5, v6, g0, g1, g2, g3, g4, g5, g6⟩ := Cells7.mk HV5.out
    go_wp2
    have hs5 := blk_set (blk_set (blk_set HB5.out (g := W3.heap.size) (by omega) 4 (.int .i64 vk)) (g := W3.heap.size) (by omega) 5 (.int .i64 vn)) (g := W3.heap.size) (by omega) 6 (.string vt)
    obtain ⟨d0, d1, d2, d3, d4, d5, d6, h0, h1, h2, h3, h4, h5, h6⟩ := Cells7.mk (set7 hs5 (.int .i64 4) (.int .i64 0) (.string s) (.bool true) (.int .i64 vk) (.int .i64 vn) (.string vt))
    refine bodyPost_ret (v := cameV 4 0 s true vk vn vt) (by simp [results, Try.results40, go_sem, d0, d1, d2, d3, d4, d5, d6]) rfl ?_
    exact ⟨4, 0, s, true, vk, vn, vt, HS.out, HVT.out, rfl, J.out _ (((((HD5.out.mono (by omega)).set hn₀ (by omega) hne3 4 _).set hn₀ (by omega) hne3 5 _).set hn₀ (by omega) hne3 6 _).set7 hn₀ (Nat.le_refl _) hne _ _ _ _ _ _ _)⟩

set_option maxHeartbeats 3200000 in
theorem l12AnyCame_d {n₀ br len p K : Nat} {W0 W : World} (h : Dw n₀ br len p K W0 W) (hp : p + K ≤ 700000) :
    Calls Try.prog 29 #[.pointer (some ⟨br, 0, none⟩)] W (Cd n₀ br len p (K + 11) W0 W) := by
  obtain ⟨⟨p', hp', hr⟩, hg⟩ := h
  have hlt := hr.lt
  have hne : W.heap.size ≠ br := by omega
  have hn₀ : n₀ ≤ W.heap.size := by have := hr.1; omega
  have J : Hid (∀ W2, Dw n₀ br len p' 11 W W2 → Dw n₀ br len p (K + 11) W0 W2 ∧ W.grownBy W2 (some br)) := fun W2 h2 => ⟨h2.join hg hp', h2.gb⟩
  have HR := hide hr
  clear hr hg
  go_enter Try.func29, Try.ntmps29
  go_wp2_with fail
  refine (l12Came_d (Dw.start (HR.out.alloc _)) (by omega)).mono ?_
  rintro e W2 ⟨k, pl, nm, o, vk, vn, vt, hnm, hvt, rfl, hD, _⟩
  have HD := hide hD.boxed
  have hb := hD.box hne
  have HV := hide hvt
  have HN := hide hnm
  have hlt2 : br < W2.heap.size := hD.lt
  have hWs : W.heap.size < W2.heap.size := by have := hD.gb.size; simp at this; omega
  have hne2 : W2.heap.size ≠ br := by omega
  clear hD hvt hnm
  have HBK := hide hb
  clear hb
  go_wp2_with fail
  refine (pick_d (HD.out.alloc _) 14 (by omega) (by omega) (by omega)).mono ?_
  rintro e W3 ⟨x, hx, rfl, hD3, hG3⟩
  have hbR := gb_blk hG3 hne (blk_alloc HBK.out)
  have hbV := gb_blk hG3 hne2 (heap_alloc_new W2 _)
  have hlt3 := hD3.lt
  have hW3 : W2.heap.size < W3.heap.size := by have := hG3.size; simp at this; omega
  have HD3 := hide hD3
  have HBR := hide hbR
  have HBV := hide hbV
  clear hD3 hG3 HBK HD hbR hbV
  by_cases x0 : x = 0
  · subst x0
    go_wp2_with fail
    refine (pick_d HD3.out 6 (by omega) (by omega) (by omega)).mono ?_
    rintro e W4 ⟨z, hz, rfl, hD4, hG4⟩
    have HB4 := hide (gb_blk hG4 hne HBR.out)
    have HV4 := hide (gb_blk hG4 hne2 HBV.out)
    have hlt4 := hD4.lt
    have hW4 : W2.heap.size < W4.heap.size := by have := hG4.size; omega
    have HD4 := hide hD4
    clear hD4 hG4
    obtain ⟨r0, r1, r2, r3, r4, r5, r6, f0, f1, f2, f3, f4, f5, f6⟩ := Cells7.mk HB4.out
    obtain ⟨v0, v1, v2, v3, v4, v5, v6, g0, g1, g2, g3, g4, g5, g6⟩ := Cells7.mk HV4.out
    go_wp2
    obtain ⟨d0, d1, d2, d3, d4, d5, d6, h0, h1, h2, h3, h4, h5, h6⟩ := Cells7.mk (set7 (blk_set HB4.out (g := W2.heap.size) (by omega) 0 (.int .i64 (z : Int))) (.int .i64 (z : Int)) (.int .i64 pl) (.string nm) (.bool o) (.int .i64 vk) (.int .i64 vn) (.string vt))
    refine bodyPost_ret (v := cameV z pl nm o vk vn vt) (by simp [results, Try.results29, go_sem, d0, d1, d2, d3, d4, d5, d6]) rfl ?_
    exact ⟨z, pl, nm, o, vk, vn, vt, HN.out, HV.out, rfl, J.out _ (((HD4.out.mono (by omega)).set hn₀ (by omega) hne2 0 _).set7 hn₀ (Nat.le_refl _) hne _ _ _ _ _ _ _)⟩
  · have q0 : ((x : Int) == 0) = false := beq_eq_false_iff_ne.2 (by omega)
    by_cases x1 : x = 1
    · subst x1
      clear q0
      go_wp2_with fail
      refine (one_d (HD3.out.alloc _) (fun _ => True) 3 W3.heap.size 3 (by omega) (by omega) (by omega) (by omega) (ints_lit (by
        intro i hi
        have : i = 0 ∨ i = 1 ∨ i = 2 := by omega
        rcases this with rfl | rfl | rfl <;> exact ⟨_, rfl, trivial⟩))).mono ?_
      rintro e W4 ⟨z, _, rfl, hD4, hG4⟩
      have HB4 := hide (gb_blk hG4 hne (blk_alloc HBR.out))
      have HV4 := hide (gb_blk hG4 hne2 (blk_alloc HBV.out))
      have hlt4 := hD4.lt
      have hW4 : W2.heap.size < W4.heap.size := by have := hG4.size; simp at this; omega
      have HD4 := hide hD4
      clear hD4 hG4
      obtain ⟨r0, r1, r2, r3, r4, r5, r6, f0, f1, f2, f3, f4, f5, f6⟩ := Cells7.mk HB4.out
      obtain ⟨v0, v1, v2, v3, v4, v5, v6, g0, g1, g2, g3, g4, g5, g6⟩ := Cells7.mk HV4.out
      go_wp2
      obtain ⟨d0, d1, d2, d3, d4, d5, d6, h0, h1, h2, h3, h4, h5, h6⟩ := Cells7.mk (set7 (blk_set HB4.out (g := W2.heap.size) (by omega) 1 (.int .i64 z)) (.int .i64 k) (.int .i64 z) (.string nm) (.bool o) (.int .i64 vk) (.int .i64 vn) (.string vt))
      refine bodyPost_ret (v := cameV k z nm o vk vn vt) (by simp [results, Try.results29, go_sem, d0, d1, d2, d3, d4, d5, d6]) rfl ?_
      exact ⟨k, z, nm, o, vk, vn, vt, HN.out, HV.out, rfl, J.out _ (((HD4.out.mono (by omega)).set hn₀ (by omega) hne2 1 _).set7 hn₀ (Nat.le_refl _) hne _ _ _ _ _ _ _)⟩
    · have q1 : ((x : Int) == 1) = false := beq_eq_false_iff_ne.2 (by omega)
      by_cases x2 : x = 2
      · subst x2
        clear q0 q1
        go_wp2_with fail
        refine (of_d (HD3.out.alloc _) Sh 3 W3.heap.size 0 3 (by omega) (by omega) (by omega) (by omega) (among_lit (by
          intro i hi
          have : i = 0 ∨ i = 1 ∨ i = 2 := by omega
          rcases this with rfl | rfl | rfl <;> exact ⟨_, rfl, by show _ ≤ _; decide⟩))).mono ?_
        rintro e W4 ⟨z, hz, rfl, hD4, hG4⟩
        have HB4 := hide (gb_blk hG4 hne (blk_alloc HBR.out))
        have HV4 := hide (gb_blk hG4 hne2 (blk_alloc HBV.out))
        have hlt4 := hD4.lt
        have hW4 : W2.heap.size < W4.heap.size := by have := hG4.size; simp at this; omega
        have HD4 := hide hD4
        have HZ := hide hz
        clear hD4 hG4 hz
        obtain ⟨r0, r1, r2, r3, r4, r5, r6, f0, f1, f2, f3, f4, f5, f6⟩ := Cells7.mk HB4.out
        obtain ⟨v0, v1, v2, v3, v4, v5, v6, g0, g1, g2, g3, g4, g5, g6⟩ := Cells7.mk HV4.out
        go_wp2
        obtain ⟨d0, d1, d2, d3, d4, d5, d6, h0, h1, h2, h3, h4, h5, h6⟩ := Cells7.mk (set7 (blk_set HB4.out (g := W2.heap.size) (by omega) 2 (.string z)) (.int .i64 k) (.int .i64 pl) (.string z) (.bool o) (.int .i64 vk) (.int .i64 vn) (.string vt))
        refine bodyPost_ret (v := cameV k pl z o vk vn vt) (by simp [results, Try.results29, go_sem, d0, d1, d2, d3, d4, d5, d6]) rfl ?_
        exact ⟨k, pl, z, o, vk, vn, vt, HZ.out, HV.out, rfl, J.out _ (((HD4.out.mono (by omega)).set hn₀ (by omega) hne2 2 _).set7 hn₀ (Nat.le_refl _) hne _ _ _ _ _ _ _)⟩
      · have q2 : ((x : Int) == 2) = false := beq_eq_false_iff_ne.2 (by omega)
        by_cases x3 : x = 3
        · subst x3
          clear q0 q1 q2
          go_wp2_with fail
          refine (l12AnyValue_d HD3.out (by omega)).mono ?_
          rintro e W4 ⟨zk, zn, zt, hzt, rfl, hD4, hG4⟩
          have HB4 := hide (gb_blk hG4 hne HBR.out)
          have HV4 := hide (gb_blk hG4 hne2 HBV.out)
          have hlt4 := hD4.lt
          have hW4 : W2.heap.size < W4.heap.size := by have := hG4.size; omega
          have HD4 := hide hD4
          have HZ := hide hzt
          clear hD4 hG4 hzt
          obtain ⟨r0, r1, r2, r3, r4, r5, r6, f0, f1, f2, f3, f4, f5, f6⟩ := Cells7.mk HB4.out
          obtain ⟨v0, v1, v2, v3, v4, v5, v6, g0, g1, g2, g3, g4, g5, g6⟩ := Cells7.mk HV4.out
          go_wp2
          have hs5 := blk_set (blk_set (blk_set HB4.out (g := W2.heap.size) (by omega) 4 (.int .i64 zk)) (g := W2.heap.size) (by omega) 5 (.int .i64 zn)) (g := W2.heap.size) (by omega) 6 (.string zt)
          obtain ⟨d0, d1, d2, d3, d4, d5, d6, h0, h1, h2, h3, h4, h5, h6⟩ := Cells7.mk (set7 hs5 (.int .i64 k) (.int .i64 pl) (.string nm) (.bool o) (.int .i64 zk) (.int .i64 zn) (.string zt))
          refine bodyPost_ret (v := cameV k pl nm o zk zn zt) (by simp [results, Try.results29, go_sem, d0, d1, d2, d3, d4, d5, d6]) rfl ?_
          exact ⟨k, pl, nm, o, zk, zn, zt, HN.out, HZ.out, rfl, J.out _ (((((HD4.out.mono (by omega)).set hn₀ (by omega) hne2 4 _).set hn₀ (by omega) hne2 5 _).set hn₀ (by omega) hne2 6 _).set7 hn₀ (Nat.le_refl _) hne _ _ _ _ _ _ _)⟩
        · have q3 : ((x : Int) == 3) = false := beq_eq_false_iff_ne.2 (by omega)
          obtain ⟨r0, r1, r2, r3, r4, r5, r6, f0, f1, f2, f3, f4, f5, f6⟩ := Cells7.mk HBR.out
          obtain ⟨v0, v1, v2, v3, v4, v5, v6, g0, g1, g2, g3, g4, g5, g6⟩ := Cells7.mk HBV.out
          go_wp2
          obtain ⟨d0, d1, d2, d3, d4, d5, d6, h0, h1, h2, h3, h4, h5, h6⟩ := Cells7.mk (set7 HBR.out (.int .i64 k) (.int .i64 pl) (.string nm) (.bool o) (.int .i64 vk) (.int .i64 vn) (.string vt))
          refine bodyPost_ret (v := cameV k pl nm o vk vn vt) (by simp [results, Try.results29, go_sem, d0, d1, d2, d3, d4, d5, d6]) rfl ?_
          exact ⟨k, pl, nm, o, vk, vn, vt, HN.out, HV.out, rfl, J.out _ ((HD3.out.mono (by omega)).set7 hn₀ (Nat.le_refl _) hne _ _ _ _ _ _ _)⟩
end Go.Proofs.Ytgefkmdnopfbhaa

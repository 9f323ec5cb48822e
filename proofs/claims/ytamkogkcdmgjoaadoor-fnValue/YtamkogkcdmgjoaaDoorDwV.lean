/- Drawn values of any kind. -/
import Derived.Test.YtamkogkcdmgjoaaDoorDw2
namespace Go.Proofs.YtamkogkcdmgjoaaDoor
open Go.RowKit
set_option linter.unusedVariables false
set_option linter.unusedSimpArgs false

set_option maxHeartbeats 3200000 in
theorem l12AnyValue_n {n₀ br len p K : Nat} {W0 W : World} (h : Dw n₀ br len p K W0 W) (hp : p + K ≤ 900000) :
    Calls Tryd.prog 17 #[.pointer (some ⟨br, 0, none⟩)] W (VdN 1000000001 n₀ br len p (K + 4) W0 W) := by
  obtain ⟨⟨p', hp', hr⟩, hg⟩ := h
  have hlt := hr.lt
  have hne : W.heap.size ≠ br := by omega
  have hn₀ : n₀ ≤ W.heap.size := by have := hr.1; omega
  have J : Hid (∀ W2, Dw n₀ br len p' 4 W W2 → Dw n₀ br len p (K + 4) W0 W2 ∧ W.grownBy W2 (some br)) := fun W2 h2 => ⟨h2.join hg hp', h2.gb⟩
  have HR := hide hr
  clear hr hg
  go_enter Tryd.func17, Tryd.ntmps17
  go_wp2_with fail
  refine (l12Value_n (Dw.start (HR.out.alloc _)) (by omega)).mono ?_
  rintro e W2 ⟨vk, vn, vt, hvt, hnb, rfl, hD, _⟩
  have HNB : Hid (-1000000001 ≤ vn ∧ vn ≤ 1000000001) := ⟨by omega, by omega⟩
  clear hnb
  have HD := hide hD
  have hb := hD.box hne
  have HV := hide hvt
  clear hD hvt
  have hlt2 : br < W2.heap.size := HD.out.lt
  have hWs : W.heap.size < W2.heap.size := by have := HD.out.gb.size; simp at this; omega
  have hne2 : W2.heap.size ≠ br := by omega
  have HBK := hide (blk_alloc hb (o2 := .cells #[.int .i64 vk, .int .i64 vn, .string vt] 23))
  clear hb
  go_wp2_with fail
  refine (pick_d (HD.out.alloc _) 16 (by omega) (by omega) (by omega)).mono ?_
  rintro e W3 ⟨x, hx, rfl, hD3, hG3⟩
  have hbR := gb_blk hG3 hne HBK.out
  have hbV := gb_blk hG3 hne2 (heap_alloc_new W2 _)
  have HD3 := hide hD3
  have hlt3 := hD3.lt
  have hW3 : W2.heap.size < W3.heap.size := by have := hG3.size; simp at this; omega
  clear hD3 hG3 HBK HD
  have fin : Hid (∀ (W4 : World) (a b c : Value), W4.heap[W2.heap.size]? = some (.cells #[a, b, c] 23 (0, 0)) → W4.heap[W.heap.size]? = some (.cells #[.int .i64 0, .int .i64 0, .string ⟨#[]⟩] 23 (0, 0)) →
      W4.cell? ⟨W2.heap.size, 0, none⟩ = some a ∧ W4.cell? ⟨W2.heap.size, 1, none⟩ = some b ∧ W4.cell? ⟨W2.heap.size, 2, none⟩ = some c ∧ W4.cell? ⟨W.heap.size, 0, none⟩ = some (.int .i64 0) ∧ W4.cell? ⟨W.heap.size, 1, none⟩ = some (.int .i64 0) ∧ W4.cell? ⟨W.heap.size, 2, none⟩ = some (.string ⟨#[]⟩) ∧ W4.frozen? ⟨W.heap.size, 0, none⟩ = false ∧ W4.frozen? ⟨W.heap.size, 1, none⟩ = false ∧ W4.frozen? ⟨W.heap.size, 2, none⟩ = false ∧ W4.frozen? ⟨W2.heap.size, 0, none⟩ = false ∧ W4.frozen? ⟨W2.heap.size, 1, none⟩ = false ∧ W4.frozen? ⟨W2.heap.size, 2, none⟩ = false) := by
    intro W4 a b c h1 h2
    exact ⟨cell_of_block h1 0, cell_of_block h1 1, cell_of_block h1 2, cell_of_block h2 0, cell_of_block h2 1, cell_of_block h2 2, free_of_block h2 0, free_of_block h2 1, free_of_block h2 2, free_of_block h1 0, free_of_block h1 1, free_of_block h1 2⟩
  have C3 := hide (fin.out W3 _ _ _ hbV hbR)
  have HBR := hide hbR
  have HBV := hide hbV
  clear hbR hbV
  by_cases x0 : x = 0
  · subst x0
    go_wp2_with fail
    refine (one_d (HD3.out.alloc _) (fun z => -1000000001 ≤ z ∧ z ≤ 1000000001) 3 W3.heap.size 3 (by omega) (by omega) (by omega) (by omega) (ints_lit ?_)).mono ?_
    · intro i hi
      have : i = 0 ∨ i = 1 ∨ i = 2 := by omega
      rcases this with rfl | rfl | rfl <;> exact ⟨_, rfl, by decide⟩
    · rintro e W4 ⟨z, hzb, rfl, hD4, hG4⟩
      have HZB := hide hzb
      clear hzb
      have hbR := gb_blk hG4 hne (blk_alloc HBR.out)
      have hbV := gb_blk hG4 hne2 (blk_alloc HBV.out)
      have C4 := fin.out W4 _ _ _ hbV hbR
      have HD4 := hide hD4
      have HBR4 := hide hbR
      clear hbR hbV hD4 hG4 C3
      obtain ⟨v0, v1, v2, r0, r1, r2, f0, f1, f2, f3, f4, f5⟩ := C4
      go_wp2
      obtain ⟨d0, d1, d2⟩ := cells3 (set3 (blk_set HBR4.out (g := W2.heap.size) (by omega) 1 (.int .i64 z)) (.int .i64 vk) (.int .i64 z) (.string vt))
      refine bodyPost_ret (v := vAgg vk z vt) (by simp [results, Tryd.results17, go_sem, d0, d1, d2]) rfl ?_
      exact ⟨vk, z, vt, HV.out, HZB.out, rfl, J.out _ ((HD4.out.boxed.set hn₀ (by omega) hne2 1 _).set3 hn₀ (Nat.le_refl _) hne _ _ _)⟩
  · have q0 : ((x : Int) == 0) = false := beq_eq_false_iff_ne.2 (by omega)
    by_cases x1 : x = 1
    · subst x1
      clear q0
      have hm := hide (many_any ⟨#[117]⟩ 25 (by decide) (by decide) (by decide))
      go_wp2_with fail
      refine (hm.out _).mono ?_
      rintro e W3' ⟨⟨t, ht, rfl⟩, rfl⟩
      have HT := hide ht
      clear hm ht
      go_wp2_with fail
      refine (of_d (HD3.out.alloc _) Sh 4 W3'.heap.size 0 4 (by omega) (by omega) (by omega) (by omega) (among_lit ?_)).mono ?_
      · intro i hi
        have : i = 0 ∨ i = 1 ∨ i = 2 ∨ i = 3 := by omega
        rcases this with rfl | rfl | rfl | rfl
        · exact ⟨_, rfl, by show _ ≤ _; decide⟩
        · exact ⟨_, rfl, by show _ ≤ _; decide⟩
        · exact ⟨t, rfl, HT.out⟩
        · exact ⟨_, rfl, by show _ ≤ _; decide⟩
      · rintro e W4 ⟨z, hz, rfl, hD4, hG4⟩
        have hbR := gb_blk hG4 hne (blk_alloc HBR.out)
        have hbV := gb_blk hG4 hne2 (blk_alloc HBV.out)
        have C4 := fin.out W4 _ _ _ hbV hbR
        have HD4 := hide hD4
        have HBR4 := hide hbR
        have HZ := hide hz
        clear hbR hbV hD4 hG4 C3 hz
        obtain ⟨v0, v1, v2, r0, r1, r2, f0, f1, f2, f3, f4, f5⟩ := C4
        go_wp2
        obtain ⟨d0, d1, d2⟩ := cells3 (set3 (blk_set HBR4.out (g := W2.heap.size) (by omega) 2 (.string z)) (.int .i64 vk) (.int .i64 vn) (.string z))
        refine bodyPost_ret (v := vAgg vk vn z) (by simp [results, Tryd.results17, go_sem, d0, d1, d2]) rfl ?_
        exact ⟨vk, vn, z, HZ.out, HNB.out, rfl, J.out _ ((HD4.out.boxed.set hn₀ (by omega) hne2 2 _).set3 hn₀ (Nat.le_refl _) hne _ _ _)⟩
    · have q1 : ((x : Int) == 1) = false := beq_eq_false_iff_ne.2 (by omega)
      by_cases x2 : x = 2
      · subst x2
        clear q0 q1
        go_wp2_with fail
        refine (pick_d HD3.out 5 (by omega) (by omega) (by omega)).mono ?_
        rintro e W4 ⟨z, hz, rfl, hD4, hG4⟩
        have hbR := gb_blk hG4 hne HBR.out
        have hbV := gb_blk hG4 hne2 HBV.out
        have C4 := fin.out W4 _ _ _ hbV hbR
        have HD4 := hide hD4
        have HBR4 := hide hbR
        clear hbR hbV hD4 hG4 C3
        obtain ⟨v0, v1, v2, r0, r1, r2, f0, f1, f2, f3, f4, f5⟩ := C4
        go_wp2
        obtain ⟨d0, d1, d2⟩ := cells3 (set3 (blk_set HBR4.out (g := W2.heap.size) (by omega) 0 (.int .i64 ((z : Int) - 1))) (.int .i64 ((z : Int) - 1)) (.int .i64 vn) (.string vt))
        refine bodyPost_ret (v := vAgg ((z : Int) - 1) vn vt) (by simp [results, Tryd.results17, go_sem, d0, d1, d2]) rfl ?_
        exact ⟨(z : Int) - 1, vn, vt, HV.out, HNB.out, rfl, J.out _ ((HD4.out.boxed.set hn₀ (by omega) hne2 0 _).set3 hn₀ (Nat.le_refl _) hne _ _ _)⟩
      · have q2 : ((x : Int) == 2) = false := beq_eq_false_iff_ne.2 (by omega)
        obtain ⟨v0, v1, v2, r0, r1, r2, f0, f1, f2, f3, f4, f5⟩ := C3.out
        go_wp2
        obtain ⟨d0, d1, d2⟩ := cells3 (set3 HBR.out (.int .i64 vk) (.int .i64 vn) (.string vt))
        refine bodyPost_ret (v := vAgg vk vn vt) (by simp [results, Tryd.results17, go_sem, d0, d1, d2]) rfl ?_
        exact ⟨vk, vn, vt, HV.out, HNB.out, rfl, J.out _ ((HD3.out.boxed.mono (by omega)).set3 hn₀ (Nat.le_refl _) hne _ _ _)⟩
theorem l12AnyValue_d {n₀ br len p K : Nat} {W0 W : World} (h : Dw n₀ br len p K W0 W) (hp : p + K ≤ 900000) :
    Calls Tryd.prog 17 #[.pointer (some ⟨br, 0, none⟩)] W (Vd n₀ br len p (K + 4) W0 W) := (l12AnyValue_n h hp).mono fun _ _ h => h.weak
end Go.Proofs.YtamkogkcdmgjoaaDoor

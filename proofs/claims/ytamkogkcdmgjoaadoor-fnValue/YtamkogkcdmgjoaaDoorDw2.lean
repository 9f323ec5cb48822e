/- Drawn values. -/
import Derived.Test.YtamkogkcdmgjoaaDoorDw1
import Derived.Test.YtamkogkcdmgjoaaDoorVal1
import Derived.Test.YtamkogkcdmgjoaaDoorBx
namespace Go.Proofs.YtamkogkcdmgjoaaDoor
open Go.RowKit
set_option linter.unusedVariables false
set_option linter.unusedSimpArgs false

/-- a text that is not too long -/
def Sh (s : ByteArray) : Prop := s.size ≤ 25
def Vd (n₀ br len p K : Nat) (W W1 : World) (e : Ending) (W' : World) : Prop := ∃ (vk vn : Int) (vt : ByteArray), Sh vt ∧ e = .returned (vAgg vk vn vt) ∧ Dw n₀ br len p K W W' ∧ W1.grownBy W' (some br)

/-- the same, its number in a range -/
def VdN (B : Int) (n₀ br len p K : Nat) (W W1 : World) (e : Ending) (W' : World) : Prop := ∃ (vk vn : Int) (vt : ByteArray), Sh vt ∧ (-B ≤ vn ∧ vn ≤ B) ∧ e = .returned (vAgg vk vn vt) ∧ Dw n₀ br len p K W W' ∧ W1.grownBy W' (some br)
theorem VdN.weak {B : Int} {n₀ br len p K : Nat} {W W1 : World} {e : Ending} {W' : World} (h : VdN B n₀ br len p K W W1 e W') : Vd n₀ br len p K W W1 e W' := by
  obtain ⟨vk, vn, vt, h1, _, h2⟩ := h
  exact ⟨vk, vn, vt, h1, h2⟩
theorem set3 {W : World} {R : Nat} {x y z : Value} {T : TypeId} (h : W.heap[R]? = some (.cells #[x, y, z] T (0, 0))) (a b c : Value) :
    (((W.setCell ⟨R, 0, none⟩ a).setCell ⟨R, 1, none⟩ b).setCell ⟨R, 2, none⟩ c).heap[R]? = some (.cells #[a, b, c] T (0, 0)) := by
  rw [block_set (block_set (block_set h 0 _) 1 _) 2 _]
  rfl
theorem Dw.set3 {n₀ br len p K R : Nat} {W W2 : World} (h : Dw n₀ br len p K W W2) (hn₀ : n₀ ≤ W.heap.size) (hR : W.heap.size ≤ R) (hne : R ≠ br) (a b c : Value) :
    Dw n₀ br len p K W (((W2.setCell ⟨R, 0, none⟩ a).setCell ⟨R, 1, none⟩ b).setCell ⟨R, 2, none⟩ c) :=
  ((h.set hn₀ hR hne 0 a).set hn₀ hR hne 1 b).set hn₀ hR hne 2 c
theorem cells3 {W : World} {R : Nat} {x y z : Value} {T : TypeId} (h : W.heap[R]? = some (.cells #[x, y, z] T (0, 0))) : W.cell? ⟨R, 0, none⟩ = some x ∧ W.cell? ⟨R, 1, none⟩ = some y ∧ W.cell? ⟨R, 2, none⟩ = some z :=
  ⟨cell_of_block h 0, cell_of_block h 1, cell_of_block h 2⟩

set_option maxHeartbeats 1600000 in
theorem l12Value_n {n₀ br len p K : Nat} {W0 W : World} (h : Dw n₀ br len p K W0 W) (hp : p + K ≤ 900000) :
    Calls Tryd.prog 24 #[.pointer (some ⟨br, 0, none⟩)] W (VdN 1000000000 n₀ br len p (K + 2) W0 W) := by
  obtain ⟨⟨p', hp', hr⟩, hg⟩ := h
  have hlt := hr.lt
  have hne : W.heap.size ≠ br := by omega
  have hn₀ : n₀ ≤ W.heap.size := by have := hr.1; omega
  have J : Hid (∀ W2, Dw n₀ br len p' 2 W W2 → Dw n₀ br len p (K + 2) W0 W2 ∧ W.grownBy W2 (some br)) := fun W2 h2 => ⟨h2.join hg hp', h2.gb⟩
  have HR := hide hr
  clear hr hg
  go_enter Tryd.func24, Tryd.ntmps24
  go_wp2_with fail
  refine (pick_d (Dw.start (HR.out.alloc _)) 5 (by omega) (by omega) (by omega)).mono ?_
  rintro e W2 ⟨x, hx, rfl, hD, _⟩
  have HD := hide hD
  have hb := hD.box hne
  clear hD
  have hbr := HD.out.lt
  have hWs : W.heap.size < W2.heap.size := by have := HD.out.gb.size; simp at this; omega
  have c0 : W2.cell? ⟨W.heap.size, 0, none⟩ = some (.int .i64 0) := cell_of_block hb 0
  have c1 : W2.cell? ⟨W.heap.size, 1, none⟩ = some (.int .i64 0) := cell_of_block hb 1
  have c2 : W2.cell? ⟨W.heap.size, 2, none⟩ = some (.string ⟨#[]⟩) := cell_of_block hb 2
  have f0 := free_of_block hb 0
  have f1 := free_of_block hb 1
  have f2 := free_of_block hb 2
  have HBK := hide hb
  clear hb
  by_cases x0 : x = 0
  · subst x0
    go_wp2
    obtain ⟨d0, d1, d2⟩ := cells3 (set3 HBK.out (.int .i64 0) (.int .i64 0) (.string ⟨#[]⟩))
    refine bodyPost_ret (v := vAgg 0 0 ⟨#[]⟩) (by simp [results, Tryd.results24, go_sem, d0, d1, d2]) rfl ?_
    exact ⟨0, 0, ⟨#[]⟩, by show 0 ≤ 25; omega, ⟨by omega, by omega⟩, rfl, J.out _ ((HD.out.boxed.mono (by omega)).set3 hn₀ (Nat.le_refl _) hne _ _ _)⟩
  · by_cases x1 : x = 1
    · subst x1
      have hm := hide (many_any ⟨#[116]⟩ 24 (by decide) (by decide) (by decide))
      go_wp2_with fail
      refine (hm.out _).mono ?_
      rintro e W3 ⟨⟨t, ht, rfl⟩, rfl⟩
      have HT := hide ht
      clear hm ht
      go_wp2_with fail
      refine (of_d (HD.out.alloc _) Sh 5 W3.heap.size 0 5 (by omega) (by omega) (by omega) (by omega) (among_lit ?_)).mono ?_
      · intro i hi
        have : i = 0 ∨ i = 1 ∨ i = 2 ∨ i = 3 ∨ i = 4 := by omega
        rcases this with rfl | rfl | rfl | rfl | rfl
        · exact ⟨_, rfl, by show _ ≤ _; decide⟩
        · exact ⟨_, rfl, by show _ ≤ _; decide⟩
        · exact ⟨_, rfl, by show _ ≤ _; decide⟩
        · exact ⟨_, rfl, by show _ ≤ _; decide⟩
        · exact ⟨t, rfl, HT.out⟩
      · rintro e W4 ⟨s, hs, rfl, hD4, _⟩
        have hb4 := hD4.box hne
        have HD4 := hide hD4
        have HS := hide hs
        clear hD4 hs c0 c1 c2 f0 f1 f2 HBK HD hbr hWs
        have hbr := HD4.out.lt
        have hWs : W.heap.size < W4.heap.size := by have := HD4.out.gb.size; simp at this; omega
        have c0 : W4.cell? ⟨W.heap.size, 0, none⟩ = some (.int .i64 0) := cell_of_block hb4 0
        have c1 : W4.cell? ⟨W.heap.size, 1, none⟩ = some (.int .i64 0) := cell_of_block hb4 1
        have c2 : W4.cell? ⟨W.heap.size, 2, none⟩ = some (.string ⟨#[]⟩) := cell_of_block hb4 2
        have f0 := free_of_block hb4 0
        have f1 := free_of_block hb4 1
        have f2 := free_of_block hb4 2
        have HBK := hide hb4
        clear hb4
        go_wp2
        obtain ⟨d0, d1, d2⟩ := cells3 (set3 HBK.out (.int .i64 2) (.int .i64 0) (.string s))
        refine bodyPost_ret (v := vAgg 2 0 s) (by simp [results, Tryd.results24, go_sem, d0, d1, d2]) rfl ?_
        exact ⟨2, 0, s, HS.out, ⟨by omega, by omega⟩, rfl, J.out _ (HD4.out.boxed.set3 hn₀ (Nat.le_refl _) hne _ _ _)⟩
    · have q0 : ((x : Int) == 0) = false := beq_eq_false_iff_ne.2 (by omega)
      have q1 : ((x : Int) == 1) = false := beq_eq_false_iff_ne.2 (by omega)
      go_wp2_with fail
      refine (one_d (HD.out.alloc _) (fun z => -1000000000 ≤ z ∧ z ≤ 1000000000) 8 W2.heap.size 8 (by omega) (by omega) (by omega) (by omega) (ints_lit ?_)).mono ?_
      · intro i hi
        have : i = 0 ∨ i = 1 ∨ i = 2 ∨ i = 3 ∨ i = 4 ∨ i = 5 ∨ i = 6 ∨ i = 7 := by omega
        rcases this with rfl | rfl | rfl | rfl | rfl | rfl | rfl | rfl <;> exact ⟨_, rfl, by decide⟩
      · rintro e W4 ⟨z, hzb, rfl, hD4, _⟩
        have HZB := hide hzb
        clear hzb
        have hb4 := hD4.box hne
        have HD4 := hide hD4
        clear hD4 c0 c1 c2 f0 f1 f2 HBK HD hbr hWs
        have hbr := HD4.out.lt
        have hWs : W.heap.size < W4.heap.size := by have := HD4.out.gb.size; simp at this; omega
        have c0 : W4.cell? ⟨W.heap.size, 0, none⟩ = some (.int .i64 0) := cell_of_block hb4 0
        have c1 : W4.cell? ⟨W.heap.size, 1, none⟩ = some (.int .i64 0) := cell_of_block hb4 1
        have c2 : W4.cell? ⟨W.heap.size, 2, none⟩ = some (.string ⟨#[]⟩) := cell_of_block hb4 2
        have f0 := free_of_block hb4 0
        have f1 := free_of_block hb4 1
        have f2 := free_of_block hb4 2
        have HBK := hide hb4
        clear hb4
        go_wp2
        obtain ⟨d0, d1, d2⟩ := cells3 (set3 HBK.out (.int .i64 1) (.int .i64 z) (.string ⟨#[]⟩))
        refine bodyPost_ret (v := vAgg 1 z ⟨#[]⟩) (by simp [results, Tryd.results24, go_sem, d0, d1, d2]) rfl ?_
        exact ⟨1, z, ⟨#[]⟩, by show 0 ≤ 25; omega, HZB.out, rfl, J.out _ (HD4.out.boxed.set3 hn₀ (Nat.le_refl _) hne _ _ _)⟩

theorem l12Value_d {n₀ br len p K : Nat} {W0 W : World} (h : Dw n₀ br len p K W0 W) (hp : p + K ≤ 900000) :
    Calls Tryd.prog 24 #[.pointer (some ⟨br, 0, none⟩)] W (Vd n₀ br len p (K + 2) W0 W) := (l12Value_n h hp).mono fun _ _ h => h.weak
end Go.Proofs.YtamkogkcdmgjoaaDoor

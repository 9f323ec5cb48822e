/- A value read, as the program has it. -/
import Derived.Test.YtamkogkcdmgjoaaDoorVgI
import Derived.Test.YtamkogkcdmgjoaaDoorBx
import Derived.Lib.AtoiErrMem
namespace Go.Proofs.YtamkogkcdmgjoaaDoor
open Go.RowKit
set_option linter.unusedVariables false
set_option linter.unusedSimpArgs false

/-- the library's two errors stand as interface values -/
def ErrAt (w : World) (g : Nat) : Prop := ∃ ev, w.cell? ⟨g, 0, none⟩ = some ev ∧ (ev = .nilIface ∨ ∃ te pe, ev = .iface te pe)
theorem ErrAt.later {w w1 : World} {g : Nat} (h : ErrAt w g) (hB : Below w.heap.size w w1) : ErrAt w1 g := by
  obtain ⟨ev, hc, he⟩ := h
  exact ⟨ev, (hB.cell (p := ⟨g, 0, none⟩) (World.block_lt_of_cell? w ⟨g, 0, none⟩ hc)).trans hc, he⟩
def Errs (w : World) : Prop := ErrAt w 0 ∧ ErrAt w 1
theorem Errs.later {w w1 : World} (h : Errs w) (hB : Below w.heap.size w w1) : Errs w1 := ⟨h.1.later hB, h.2.later hB⟩

theorem atoi_ok (s : ByteArray) (hs : s.size ≤ 1048576) (v : Int) (h : Lib.atoiAll s.data.toList = .ok v) (w : World) :
    Calls Tryd.prog 26 #[.string s] w fun e w' => e = .returned (.tuple #[.int .i64 v, .nilIface]) ∧ Below w.heap.size w w' := by
  refine (Tryd.strconv_Atoi_ok s (by omega) v h w).mono ?_
  rintro e w' ⟨rfl, h⟩
  refine ⟨rfl, ?_⟩
  rcases h with rfl | ⟨t, rfl⟩
  · exact Below.refl _ _
  · exact Lib.bytesWorld_below _ _ _
theorem atoi_no (s : ByteArray) (hs : s.size ≤ 1048576) (h : ∀ v, Lib.atoiAll s.data.toList ≠ .ok v) (w : World) (hE : Errs w) :
    Calls Tryd.prog 26 #[.string s] w fun e w' => ∃ (x : Int) (N : Nat), e = .returned (.tuple #[.int .i64 x, .iface 70 (.pointer (some ⟨N, 0, none⟩))]) ∧ Below w.heap.size w w' := by
  obtain ⟨⟨e1, hc1, he1⟩, ⟨e2, hc2, he2⟩⟩ := hE
  cases ha : Lib.atoiAll s.data.toList with
  | ok v => exact absurd ha (h v)
  | «syntax» =>
    refine (Tryd.strconv_Atoi_syntax s (by omega) ha e1 w hc1 he1).mono ?_
    rintro e w' ⟨N, rfl, _, _, hB⟩
    exact ⟨_, N, rfl, hB⟩
  | range =>
    refine (Tryd.strconv_Atoi_range s (by omega) ha e2 w hc2 he2).mono ?_
    rintro e w' ⟨N, rfl, _, _, hB⟩
    exact ⟨_, N, rfl, hB⟩

set_option maxHeartbeats 800000 in
theorem like_text (s : ByteArray) (hs : s.size ≤ 1048576) (h2 : 2 ≤ s.size) (hq0 : (((s[0]'(by omega)).toNat : Int) == 34) = true) (w : World) :
    Calls Tryd.prog 15 #[.string s] w fun e w' => e = .returned (vAgg 2 0 (s.extract 1 (s.size - 1))) ∧ Below w.heap.size w w' := by
  go_enter Tryd.func15, Tryd.ntmps15
  go_wp2
  refine bodyPost_ret (v := vAgg 2 0 (s.extract 1 (s.size - 1))) (by simp [results, Tryd.results15, go_sem]) rfl ?_
  exact ⟨rfl, (Below.refl _ _).alloc (Nat.le_refl _) _⟩
/-- the text does not begin as a text in quotes does -/
def NoQ (s : ByteArray) : Prop := (¬ 2 ≤ s.size) ∨ ∃ h : 2 ≤ s.size, (((s[0]'(by omega)).toNat : Int) == 34) = false
theorem box_after {w w1 : World} {A : Obj} (hb : Below (w.alloc A).heap.size (w.alloc A) w1) : w1.heap[w.heap.size]? = some A ∧ Below w.heap.size w w1 ∧ w.heap.size < w1.heap.size := by
  have hs := hb.size
  have e1 : (w.alloc A).heap.size = w.heap.size + 1 := by simp
  refine ⟨?_, ((Below.refl _ _).alloc (Nat.le_refl _) _).trans (hb.mono (by omega)), by omega⟩
  rw [hb.block _ (by omega), heap_alloc_at, if_pos rfl]
theorem box2_after {w w1 : World} {A B : Obj} (hb : Below ((w.alloc A).alloc B).heap.size ((w.alloc A).alloc B) w1) :
    w1.heap[w.heap.size]? = some A ∧ w1.heap[w.heap.size + 1]? = some B ∧ Below w.heap.size w w1 ∧ w.heap.size + 1 + 1 ≤ w1.heap.size := by
  have e1 : (w.alloc A).heap.size = w.heap.size + 1 := by simp
  have e2 : ((w.alloc A).alloc B).heap.size = w.heap.size + 1 + 1 := by simp
  have hs := hb.size
  rw [e2] at hs
  refine ⟨?_, ?_, ?_, hs⟩
  · rw [hb.block _ (by omega), heap_alloc_at, if_neg (by omega), heap_alloc_at, if_pos rfl]
  · rw [hb.block _ (by omega), heap_alloc_at, if_pos (by omega)]
  · have h0 : Below w.heap.size w ((w.alloc A).alloc B) := ((Below.refl _ _).alloc (Nat.le_refl _) A).alloc (by omega) B
    exact h0.trans (hb.mono h0.size)
theorem rs3 {W : World} {b : Nat} {x y z : Value} {T : TypeId} (h : W.heap[b]? = some (.cells #[x, y, z] T (0, 0))) (u0 u1 u2 : Value) :
    (((W.setCell ⟨b, 0, none⟩ u0).setCell ⟨b, 1, none⟩ u1).setCell ⟨b, 2, none⟩ u2).cell? ⟨b, 0, none⟩ = some u0 ∧ (((W.setCell ⟨b, 0, none⟩ u0).setCell ⟨b, 1, none⟩ u1).setCell ⟨b, 2, none⟩ u2).cell? ⟨b, 1, none⟩ = some u1 ∧ (((W.setCell ⟨b, 0, none⟩ u0).setCell ⟨b, 1, none⟩ u1).setCell ⟨b, 2, none⟩ u2).cell? ⟨b, 2, none⟩ = some u2 := by
  have hb := block_set (block_set (block_set h 0 u0) 1 u1) 2 u2
  exact ⟨cell_of_block hb 0, cell_of_block hb 1, cell_of_block hb 2⟩
theorem below_rs3 {w W : World} (h : Below w.heap.size w W) (u0 u1 u2 : Value) : Below w.heap.size w (((W.setCell ⟨w.heap.size, 0, none⟩ u0).setCell ⟨w.heap.size, 1, none⟩ u1).setCell ⟨w.heap.size, 2, none⟩ u2) :=
  ((h.setCell (p := ⟨w.heap.size, 0, none⟩) (Nat.le_refl _) _).setCell (p := ⟨w.heap.size, 1, none⟩) (Nat.le_refl _) _).setCell (p := ⟨w.heap.size, 2, none⟩) (Nat.le_refl _) _
set_option maxHeartbeats 1600000 in
theorem like_num (s : ByteArray) (hs : s.size ≤ 1048576) (hq : NoQ s) (v : Int) (h : Lib.atoiAll s.data.toList = .ok v) (w : World) :
    Calls Tryd.prog 15 #[.string s] w fun e w' => e = .returned (vAgg 1 v ⟨#[]⟩) ∧ Below w.heap.size w w' := by
  have ha := hide (atoi_ok s hs v h)
  clear h
  rcases hq with h2 | ⟨h2, hq0⟩
  all_goals
    go_enter Tryd.func15, Tryd.ntmps15
    go_wp2_with fail
    refine (ha.out _).mono ?_
    rintro e w1 ⟨rfl, hB1⟩
    obtain ⟨bk, hbl, hlt⟩ := box_after hB1
    have r0 := cell_of_block bk 0
    have r1 := cell_of_block bk 1
    have r2 := cell_of_block bk 2
    have f0 := free_of_block bk 0
    have f1 := free_of_block bk 1
    have f2 := free_of_block bk 2
    simp only [List.getElem?_toArray, List.getElem?_cons_zero, List.getElem?_cons_succ] at r0 r1 r2
    have HBK := hide bk
    have HBL := hide hbl
    clear hB1 bk hbl
    go_wp2
    obtain ⟨m0, m1, m2⟩ := rs3 HBK.out (.int .i64 1) (.int .i64 v) (.string ⟨#[]⟩)
    refine bodyPost_ret (v := vAgg 1 v ⟨#[]⟩) (by simp [results, Tryd.results15, go_sem, m0, m1, m2]) rfl ?_
    exact ⟨rfl, below_rs3 HBL.out _ _ _⟩
set_option maxHeartbeats 1600000 in
theorem like_none (s : ByteArray) (hs : s.size ≤ 1048576) (hq : NoQ s) (h : ∀ v, Lib.atoiAll s.data.toList ≠ .ok v) (w : World) (hE : Errs w) :
    Calls Tryd.prog 15 #[.string s] w fun e w' => e = .returned (vAgg 0 0 ⟨#[]⟩) ∧ Below w.heap.size w w' := by
  have ha := hide (fun (W : World) (hW : Below w.heap.size w W) => atoi_no s hs h W (hE.later hW))
  clear h hE
  rcases hq with h2 | ⟨h2, hq0⟩
  all_goals
    go_enter Tryd.func15, Tryd.ntmps15
    go_wp2_with fail
    refine (ha.out _ ((Below.refl _ _).alloc (Nat.le_refl _) _)).mono ?_
    rintro e w1 ⟨x, N, rfl, hB1⟩
    obtain ⟨bk, hbl, hlt⟩ := box_after hB1
    have r0 := cell_of_block bk 0
    have r1 := cell_of_block bk 1
    have r2 := cell_of_block bk 2
    have f0 := free_of_block bk 0
    have f1 := free_of_block bk 1
    have f2 := free_of_block bk 2
    simp only [List.getElem?_toArray, List.getElem?_cons_zero, List.getElem?_cons_succ] at r0 r1 r2
    have HBK := hide bk
    have HBL := hide hbl
    clear hB1 bk hbl
    go_wp2
    obtain ⟨m0, m1, m2⟩ := rs3 HBK.out (.int .i64 0) (.int .i64 0) (.string ⟨#[]⟩)
    refine bodyPost_ret (v := vAgg 0 0 ⟨#[]⟩) (by simp [results, Tryd.results15, go_sem, m0, m1, m2]) rfl ?_
    exact ⟨rfl, below_rs3 HBL.out _ _ _⟩
set_option maxHeartbeats 800000 in
theorem ownValue_any (k n : Int) (t : ByteArray) (ht : t.size ≤ 2000000) (w : World) :
    Calls Tryd.prog 16 #[vAgg k n t] w fun e w' => e = .returned (vAgg k n t) ∧ Below w.heap.size w w' := by
  have hc := hide (clone_any t (by omega))
  go_enter Tryd.func16, Tryd.ntmps16
  go_wp2_with fail
  refine (hc.out _).mono ?_
  rintro e w1 ⟨rfl, hB1⟩
  obtain ⟨ba, bb, hbl, hsz⟩ := box2_after hB1
  have a0 := cell_of_block ba 0
  have a1 := cell_of_block ba 1
  have a2 := cell_of_block ba 2
  have e2 := free_of_block ba 2
  have r0 := cell_of_block bb 0
  have r1 := cell_of_block bb 1
  have r2 := cell_of_block bb 2
  have f0 := free_of_block bb 0
  have f1 := free_of_block bb 1
  have f2 := free_of_block bb 2
  simp only [List.getElem?_toArray, List.getElem?_cons_zero, List.getElem?_cons_succ] at a0 a1 a2 r0 r1 r2
  have HBB := hide bb
  have HBL := hide hbl
  clear hB1 ba bb hbl
  go_wp2
  have hb1 : (w1.setCell ⟨w.heap.size, 2, none⟩ (.string t)).heap[w.heap.size + 1]? = some (.cells #[.int .i64 0, .int .i64 0, .string ⟨#[]⟩] 23 (0, 0)) := (Below.heap_setCell _ _ _ _ (by show w.heap.size + 1 ≠ w.heap.size; omega)).trans HBB.out
  obtain ⟨m0, m1, m2⟩ := rs3 hb1 (.int .i64 k) (.int .i64 n) (.string t)
  refine bodyPost_ret (v := vAgg k n t) (by simp [results, Tryd.results16, go_sem, m0, m1, m2]) rfl ?_
  refine ⟨rfl, ?_⟩
  exact (((HBL.out.setCell (p := ⟨w.heap.size, 2, none⟩) (Nat.le_refl _) _).setCell (p := ⟨w.heap.size + 1, 0, none⟩) (Nat.le_succ _) _).setCell (p := ⟨w.heap.size + 1, 1, none⟩) (Nat.le_succ _) _).setCell (p := ⟨w.heap.size + 1, 2, none⟩) (Nat.le_succ _) _

set_option maxRecDepth 100000 in
set_option maxHeartbeats 1600000 in
theorem implGet_of (s : ByteArray) (k n : Int) (t : ByteArray) (ht : t.size ≤ 2000000) (h0 : -9223372036854775808 ≤ n) (h1 : n ≤ 9223372036854775807) (w : World) (hT : Tab w)
    (hl : ∀ W, Below w.heap.size w W → Calls Tryd.prog 15 #[.string s] W fun e w' => e = .returned (vAgg k n t) ∧ Below W.heap.size W w') :
    Calls Tryd.prog 6 #[.string s] w fun e w' => e = .returned (if Pl.putB k n t = s.data.toList then .tuple #[vAgg k n t, .bool true] else .tuple #[vAgg 0 0 ⟨#[]⟩, .bool false]) ∧ Below w.heap.size w w' := by
  have HL := hide hl
  have hp := hide (fun (W : World) (hW : Below w.heap.size w W) => implValuePut_any k n t ht h0 h1 W (hT.later hW))
  have ho := hide (ownValue_any k n t ht)
  have hcmp : ((Pl.bs (Pl.putB k n t)).toList == s.toList) = (Pl.putB k n t == s.data.toList) := by rw [Pl.bs_toList, Lib.toList_data]
  clear hl
  by_cases he : Pl.putB k n t = s.data.toList
  · rw [if_pos he]
    have heq : (Pl.putB k n t == s.data.toList) = true := beq_iff_eq.2 he
    rw [heq] at hcmp
    clear heq
    generalize Pl.putB k n t = P at hp hcmp
    clear he
    go_enter Tryd.func6, Tryd.ntmps6
    go_wp2_with fail
    refine (HL.out _ ((Below.refl _ _).alloc (Nat.le_refl _) _)).mono ?_
    rintro e w1 ⟨rfl, hB1⟩
    obtain ⟨bk, hbl, hlt⟩ := box_after hB1
    have HBK := hide bk
    have HBL := hide hbl
    clear hB1 bk hbl
    go_wp2_with fail
    refine (hp.out _ (HBL.out.alloc HBL.out.size _)).mono ?_
    rintro e w2 ⟨rfl, hB2⟩
    obtain ⟨bv, hbw, hltv⟩ := box_after hB2
    have HBK2 := hide ((hbw.block _ hlt).trans HBK.out)
    have HBL2 := hide (HBL.out.trans (hbw.mono HBL.out.size))
    have hlt2 : w.heap.size < w2.heap.size := Nat.lt_of_lt_of_le hlt hbw.size
    have v0 := cell_of_block bv 0
    have v1 := cell_of_block bv 1
    have v2 := cell_of_block bv 2
    simp only [List.getElem?_toArray, List.getElem?_cons_zero, List.getElem?_cons_succ] at v0 v1 v2
    clear hB2 bv hbw
    go_wp2_with fail
    refine (ho.out _).mono ?_
    rintro e w3 ⟨rfl, hB3⟩
    have HBK3 := hide ((hB3.block _ hlt2).trans HBK2.out)
    have HBL3 := hide (HBL2.out.trans (hB3.mono HBL2.out.size))
    have hlt3 : w.heap.size < w3.heap.size := Nat.lt_of_lt_of_le hlt2 hB3.size
    clear hB3
    have r0 := cell_of_block HBK3.out 0
    have r1 := cell_of_block HBK3.out 1
    have r2 := cell_of_block HBK3.out 2
    have f0 := free_of_block HBK3.out 0
    have f1 := free_of_block HBK3.out 1
    have f2 := free_of_block HBK3.out 2
    simp only [List.getElem?_toArray, List.getElem?_cons_zero, List.getElem?_cons_succ] at r0 r1 r2
    go_wp2
    obtain ⟨m0, m1, m2⟩ := rs3 HBK3.out (.int .i64 k) (.int .i64 n) (.string t)
    refine bodyPost_ret (v := .tuple #[vAgg k n t, .bool true]) (by simp [results, Tryd.results6, go_sem, m0, m1, m2]) rfl ?_
    exact ⟨rfl, below_rs3 HBL3.out _ _ _⟩
  · rw [if_neg he]
    have hne : (Pl.putB k n t == s.data.toList) = false := beq_eq_false_iff_ne.2 he
    rw [hne] at hcmp
    generalize Pl.putB k n t = P at hp hcmp
    clear he hne
    go_enter Tryd.func6, Tryd.ntmps6
    go_wp2_with fail
    refine (HL.out _ ((Below.refl _ _).alloc (Nat.le_refl _) _)).mono ?_
    rintro e w1 ⟨rfl, hB1⟩
    obtain ⟨bk, hbl, hlt⟩ := box_after hB1
    have HBK := hide bk
    have HBL := hide hbl
    clear hB1 bk hbl
    go_wp2_with fail
    refine (hp.out _ (HBL.out.alloc HBL.out.size _)).mono ?_
    rintro e w2 ⟨rfl, hB2⟩
    obtain ⟨bv, hbw, hltv⟩ := box_after hB2
    have HBK2 := hide ((hbw.block _ hlt).trans HBK.out)
    have HBL2 := hide (HBL.out.trans (hbw.mono HBL.out.size))
    have hlt2 : w.heap.size < w2.heap.size := Nat.lt_of_lt_of_le hlt hbw.size
    have v0 := cell_of_block bv 0
    have v1 := cell_of_block bv 1
    have v2 := cell_of_block bv 2
    simp only [List.getElem?_toArray, List.getElem?_cons_zero, List.getElem?_cons_succ] at v0 v1 v2
    clear hB2 bv hbw
    have r0 := cell_of_block HBK2.out 0
    have r1 := cell_of_block HBK2.out 1
    have r2 := cell_of_block HBK2.out 2
    have f0 := free_of_block HBK2.out 0
    have f1 := free_of_block HBK2.out 1
    have f2 := free_of_block HBK2.out 2
    simp only [List.getElem?_toArray, List.getElem?_cons_zero, List.getElem?_cons_succ] at r0 r1 r2
    go_wp2
    obtain ⟨m0, m1, m2⟩ := rs3 HBK2.out (.int .i64 0) (.int .i64 0) (.string ⟨#[]⟩)
    refine bodyPost_ret (v := .tuple #[vAgg 0 0 ⟨#[]⟩, .bool false]) (by simp [results, Tryd.results6, go_sem, m0, m1, m2]) rfl ?_
    exact ⟨rfl, below_rs3 HBL2.out _ _ _⟩
end Go.Proofs.YtamkogkcdmgjoaaDoor

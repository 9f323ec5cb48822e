/- A value read, as the specification has it, by the one value that the text tells. -/
import Derived.Test.YtamkogkcdmgjoaaDoorVgB0
namespace Go.Proofs.YtamkogkcdmgjoaaDoor
open Go.RowKit
set_option linter.unusedVariables false

theorem rs3a {W : World} {b : Nat} {x y z : Value} {T : TypeId} (hlt : b < W.heap.size) (h : W.heap[b]? = some (.cells #[x, y, z] T (0, 0))) (u0 u1 u2 : Value) (o : Obj) :
    ((((W.setCell ⟨b, 0, none⟩ u0).setCell ⟨b, 1, none⟩ u1).setCell ⟨b, 2, none⟩ u2).alloc o).cell? ⟨b, 0, none⟩ = some u0 ∧ ((((W.setCell ⟨b, 0, none⟩ u0).setCell ⟨b, 1, none⟩ u1).setCell ⟨b, 2, none⟩ u2).alloc o).cell? ⟨b, 1, none⟩ = some u1 ∧ ((((W.setCell ⟨b, 0, none⟩ u0).setCell ⟨b, 1, none⟩ u1).setCell ⟨b, 2, none⟩ u2).alloc o).cell? ⟨b, 2, none⟩ = some u2 := by
  have hb := block_set (block_set (block_set h 0 u0) 1 u1) 2 u2
  have hs : b < (((W.setCell ⟨b, 0, none⟩ u0).setCell ⟨b, 1, none⟩ u1).setCell ⟨b, 2, none⟩ u2).heap.size := (Array.getElem?_eq_some_iff.1 hb).1
  have hb2 := (Below.heap_alloc (((W.setCell ⟨b, 0, none⟩ u0).setCell ⟨b, 1, none⟩ u1).setCell ⟨b, 2, none⟩ u2) o b hs).trans hb
  exact ⟨cell_of_block hb2 0, cell_of_block hb2 1, cell_of_block hb2 2⟩
set_option maxRecDepth 100000 in
set_option maxHeartbeats 1600000 in
theorem specGet_of (s : ByteArray) (k n : Int) (t : ByteArray) (b : Bool) (w : World)
    (hl : ∀ W, Calls Tryd.prog 14 #[.string s] W fun e w' => e = .returned (.tuple #[vAgg k n t, .bool b]) ∧ Below W.heap.size W w') :
    Calls Tryd.prog 5 #[.string s] w fun e w' => e = .returned (if b = true then .tuple #[vAgg k n t, .bool true] else .tuple #[vAgg 0 0 ⟨#[]⟩, .bool false]) ∧ Below w.heap.size w w' := by
  have HL := hide hl
  clear hl
  cases b
  · rw [if_neg (by simp)]
    go_enter Tryd.func5, Tryd.ntmps5
    go_wp2_with fail
    refine (HL.out _).mono ?_
    rintro e w1 ⟨rfl, hB1⟩
    obtain ⟨bk, hbl, hlt⟩ := box_after hB1
    have r0 := cell_of_block bk 0
    have r1 := cell_of_block bk 1
    have r2 := cell_of_block bk 2
    have f0 := free_of_block bk 0
    have f1 := free_of_block bk 1
    have f2 := free_of_block bk 2
    simp only [List.getElem?_toArray, List.getElem?_cons_zero, List.getElem?_cons_succ] at r0 r1 r2
    have HBK := hide bk
    have HBL := hide hbl
    clear hB1 bk hbl
    go_wp2
    obtain ⟨m0, m1, m2⟩ := rs3a hlt HBK.out (.int .i64 0) (.int .i64 0) (.string ⟨#[]⟩) (.cells #[.int .i64 k, .int .i64 n, .string t] 23)
    refine bodyPost_ret (v := .tuple #[vAgg 0 0 ⟨#[]⟩, .bool false]) (by simp [results, Tryd.results5, go_sem, m0, m1, m2]) rfl ?_
    exact ⟨rfl, (below_rs3 HBL.out _ _ _).alloc (below_rs3 HBL.out _ _ _).size _⟩
  · rw [if_pos rfl]
    go_enter Tryd.func5, Tryd.ntmps5
    go_wp2_with fail
    refine (HL.out _).mono ?_
    rintro e w1 ⟨rfl, hB1⟩
    obtain ⟨bk, hbl, hlt⟩ := box_after hB1
    have r0 := cell_of_block bk 0
    have r1 := cell_of_block bk 1
    have r2 := cell_of_block bk 2
    have f0 := free_of_block bk 0
    have f1 := free_of_block bk 1
    have f2 := free_of_block bk 2
    simp only [List.getElem?_toArray, List.getElem?_cons_zero, List.getElem?_cons_succ] at r0 r1 r2
    have HBK := hide bk
    have HBL := hide hbl
    clear hB1 bk hbl
    go_wp2
    obtain ⟨m0, m1, m2⟩ := rs3a hlt HBK.out (.int .i64 k) (.int .i64 n) (.string t) (.cells #[.int .i64 k, .int .i64 n, .string t] 23)
    refine bodyPost_ret (v := .tuple #[vAgg k n t, .bool true]) (by simp [results, Tryd.results5, go_sem, m0, m1, m2]) rfl ?_
    exact ⟨rfl, (below_rs3 HBL.out _ _ _).alloc (below_rs3 HBL.out _ _ _).size _⟩
theorem spec_fin {s : ByteArray} {k n : Int} {t : ByteArray} {w w' : World} {e : Ending} (hc : ∀ k' n' t', Pl.TellsV s k' n' t' → k' = k ∧ n' = n ∧ t' = t)
    (h : e = .returned (if (Pl.okB k n t && (Pl.putV k n t == s.data.toList)) = true then .tuple #[vAgg k n t, .bool true] else .tuple #[vAgg 0 0 ⟨#[]⟩, .bool false]) ∧ Below w.heap.size w w') : VgPost s w e w' := by
  obtain ⟨rfl, hB⟩ := h
  refine ⟨?_, hB⟩
  by_cases hb : (Pl.okB k n t && (Pl.putV k n t == s.data.toList)) = true
  · rw [if_pos hb]
    simp only [Bool.and_eq_true, beq_iff_eq] at hb
    exact .inl ⟨k, n, t, ⟨hb.1, hb.2⟩, rfl⟩
  · rw [if_neg hb]
    refine .inr ⟨fun k' n' t' ht => ?_, rfl⟩
    obtain ⟨rfl, rfl, rfl⟩ := hc _ _ _ ht
    apply hb
    simp only [Bool.and_eq_true, beq_iff_eq]
    exact ⟨ht.1, ht.2⟩
theorem specValueGet_any (s : ByteArray) (hs : s.size ≤ 1048576) (w : World) : Calls Tryd.prog 5 #[.string s] w (VgPost s w) := by
  cases hno : (s.toList == [110, 111, 110, 101])
  · by_cases h2 : 2 ≤ s.size
    · have B0 : ∀ c r, s.data.toList = c :: r → ((s[0]'(by omega)).toNat : Int) = (c.toNat : Int) := fun c r h => Pl.byte0 c r h (by omega)
      cases hq0 : (((s[0]'(by omega)).toNat : Int) == 34)
      · cases hm : (((s[0]'(by omega)).toNat : Int) == 45)
        · have hb0 := beq_int_false hq0
          have hbm := beq_int_false hm
          refine (specGet_of s 1 (Pl.numL s.data.toList) ⟨#[]⟩ _ w (fun W => l1Get_other s hs W h2 hq0 hm hno)).mono fun e w' h => spec_fin (plain_one hno ?_ ?_) h
          · intro t e
            exact hb0 (B0 34 _ e)
          · intro r e
            exact absurd (B0 45 _ e) hbm
        · have hb := beq_int_true hm
          refine (specGet_of s 1 (-Pl.numL (s.extract 1 s.size).data.toList) ⟨#[]⟩ _ w (fun W => l1Get_minus s hs W h2 hq0 hm hno)).mono fun e w' h => spec_fin ?_ h
          intro k' n' t' ht
          rcases Pl.tells_form ht with ⟨_, _, _, e⟩ | ⟨h1, h3, ⟨a, b⟩, e⟩ | ⟨_, _, e⟩
          · rw [B0 110 _ e] at hb
            simp at hb
          · obtain ⟨c, r, hcr⟩ : ∃ c r, s.data.toList = c :: r := by
              obtain ⟨c, r, h4, _⟩ := Pl.itoa_head n'
              exact ⟨c, r, e.trans h4⟩
            have hc45 : c = 45 := by
              rw [B0 c r hcr] at hb
              exact UInt8.toNat_inj.1 (by simp; omega)
            subst hc45
            obtain ⟨h4, h5⟩ := itoa_minus (e.symm.trans hcr)
            refine ⟨h1, ?_, h3⟩
            rw [tail_data s 45 r hcr, h5, Pl.numL_dec _ (by omega)]
            omega
          · rw [B0 34 _ e] at hb
            simp at hb
      · have hb := beq_int_true hq0
        cases hq1 : (((s[s.size - 1]'(by omega)).toNat : Int) == 34)
        · have hm : (((s[0]'(by omega)).toNat : Int) == 45) = false := by rw [hb]; rfl
          have hb1 := beq_int_false hq1
          refine (specGet_of s 1 (Pl.numL s.data.toList) ⟨#[]⟩ _ w (fun W => l1Get_half s hs W h2 hq0 hq1 hm hno)).mono fun e w' h => spec_fin (plain_one hno ?_ ?_) h
          · intro t e
            exact hb1 (Pl.byteL e (by omega))
          · intro r e
            rw [B0 45 _ e] at hb
            simp at hb
        · refine (specGet_of s 2 0 (s.extract 1 (s.size - 1)) _ w (fun W => l1Get_text s hs W h2 hq0 hq1 hno)).mono fun e w' h => spec_fin ?_ h
          intro k' n' t' ht
          rcases Pl.tells_form ht with ⟨_, _, _, e⟩ | ⟨_, _, _, e⟩ | ⟨h1, h3, e⟩
          · rw [B0 110 _ e] at hb
            simp at hb
          · obtain ⟨c, r, e2, hc, _⟩ := Pl.itoa_head n'
            rw [B0 c r (e.trans e2)] at hb
            exact absurd (UInt8.toNat_inj.1 (by simp; omega)) hc
          · exact ⟨h1, h3, (Pl.mid_text e).symm⟩
    · refine (specGet_of s 1 (Pl.numL s.data.toList) ⟨#[]⟩ _ w (fun W => l1Get_short s hs W h2 hno)).mono fun e w' h => spec_fin (plain_one hno ?_ ?_) h
      · intro t e
        exact h2 (Pl.size_ge e)
      · intro r e
        have := len_size s
        rw [e] at this
        simp at this
        exact List.length_eq_zero_iff.1 (by omega)
  · have he : s.data.toList = [110, 111, 110, 101] := by
      rw [Lib.toList_data] at hno
      simpa using hno
    refine (specGet_of s 0 0 ⟨#[]⟩ true w (fun W => l1Get_none s hs hno W)).mono fun e w' h => ?_
    obtain ⟨rfl, hB⟩ := h
    rw [if_pos rfl]
    exact ⟨.inl ⟨0, 0, ⟨#[]⟩, ⟨by simp [Pl.okB], by rw [he]; rfl⟩, rfl⟩, hB⟩
end Go.Proofs.YtamkogkcdmgjoaaDoor

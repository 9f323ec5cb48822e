/- What was asked for, and names with values, copied by the program into memory of their own. -/
import Derived.Test.YthkklmfjdjiafaaCaJ
import Derived.Deep.RegionHeld3
namespace Go.Proofs.Ythkklmfjdjiafaa
open Go.RowKit
set_option linter.unusedVariables false
set_option linter.unusedSimpArgs false
set_option maxRecDepth 100000 in
set_option maxHeartbeats 3200000 in
theorem ownCm_any (p : Cm) (hs : p.Sm) (w : World) :
    Calls Try.prog 43 #[cqV p] w fun e w' => e = .returned (cqV p) ∧ Below w.heap.size w w' := by
  obtain ⟨k, nm, vk, vn, vt⟩ := p
  obtain ⟨hn, ht⟩ := hs
  simp only at hn ht
  have hcl := hide (clone_any nm (by omega))
  have hv := hide (ownVal_any vk vn vt ht)
  clear hn ht
  go_enter Try.func43, Try.ntmps43
  go_wp2_with fail
  refine gen_code (fun X => Hid (OX 86 [.int .i64 k, .string nm, .int .i64 vk, .int .i64 vn, .string vt] w X)) (hide (OX.start 86 [.int .i64 k, .string nm, .int .i64 vk, .int .i64 vn, .string vt] #[.int .i64 0, .string ⟨#[]⟩, .int .i64 0, .int .i64 0, .string ⟨#[]⟩] rfl w)) ?_
  intro X HX
  have hs1 := HX.out.drew
  refine wp_region_noPanic ?_
  refine wp_region_held_drew (S := fun W => OX 86 [.int .i64 k, .string nm, .int .i64 vk, .int .i64 vn, .string vt] w W) (by kernel_rfl) hs1 (fun hHeld => ?_)
  refine wpAnyH_take (i := 0) (oi := Oper.mk (some 3) _ _ _ _ _) (v := ?_) rfl (by kernel_rfl) (by kernel_rfl) (by kernel_rfl) (fun _ _ _ h => h) (Or.inl ⟨by rfl, ?_⟩) (by assumption) ?_
  rotate_left
  · intro w0 hSw
    clear hSw
    go_simp
    all_goals (with_reducible rfl)
  simp only [Act.put, List.setIfInBounds_toArray, List.set_cons_zero, List.set_cons_succ]
  refine wpAnyH_take (i := 1) (oi := Oper.mk (some 4) _ _ _ _ _) (v := ?_) rfl (by kernel_rfl) (by kernel_rfl) (by kernel_rfl) (fun _ _ _ h => h) (Or.inl ⟨by rfl, ?_⟩) (by assumption) ?_
  rotate_left
  · intro w0 hSw
    have z0 := OX.cell hSw 0
    simp only [List.getElem?_cons_zero, List.getElem?_cons_succ] at z0
    clear hSw
    go_simp
    all_goals (with_reducible rfl)
  simp only [Act.put, List.setIfInBounds_toArray, List.set_cons_zero, List.set_cons_succ]
  refine wpAnyH_take (i := 2) (oi := Oper.mk (some 5) _ _ _ _ _) (v := ?_) rfl (by kernel_rfl) (by kernel_rfl) (by kernel_rfl) (fun _ _ _ h => h) (Or.inl ⟨by rfl, ?_⟩) (by assumption) ?_
  rotate_left
  · intro w0 hSw
    clear hSw
    go_simp
    all_goals (with_reducible rfl)
  simp only [Act.put, List.setIfInBounds_toArray, List.set_cons_zero, List.set_cons_succ]
  refine wpAnyH_take (i := 3) (oi := Oper.mk (some 6) _ _ _ _ _) (v := ?_) rfl (by kernel_rfl) (by kernel_rfl) (by kernel_rfl) (fun _ _ _ h => h) (Or.inl ⟨by rfl, ?_⟩) (by assumption) ?_
  rotate_left
  · intro w0 hSw
    have z0 := OX.cell hSw 1
    simp only [List.getElem?_cons_zero, List.getElem?_cons_succ] at z0
    clear hSw
    go_simp
    all_goals (with_reducible rfl)
  simp only [Act.put, List.setIfInBounds_toArray, List.set_cons_zero, List.set_cons_succ]
  refine wpAnyH_take (i := 5) (oi := Oper.mk (some 8) _ _ _ _ _) (v := ?_) rfl (by kernel_rfl) (by kernel_rfl) (by kernel_rfl) (fun _ _ _ h => h) (Or.inl ⟨by rfl, ?_⟩) (by assumption) ?_
  rotate_left
  · intro w0 hSw
    clear hSw
    go_simp
    all_goals (with_reducible rfl)
  simp only [Act.put, List.setIfInBounds_toArray, List.set_cons_zero, List.set_cons_succ]
  refine wpAnyH_take (i := 6) (oi := Oper.mk (some 9) _ _ _ _ _) (v := ?_) rfl (by kernel_rfl) (by kernel_rfl) (by kernel_rfl) (fun _ _ _ h => h) (Or.inl ⟨by rfl, ?_⟩) (by assumption) ?_
  rotate_left
  · intro w0 hSw
    have z0 := OX.cell hSw 2
    have z1 := OX.cell hSw 3
    have z2 := OX.cell hSw 4
    simp only [List.getElem?_cons_zero, List.getElem?_cons_succ] at z0 z1 z2
    clear hSw
    go_simp
    all_goals (with_reducible rfl)
  simp only [Act.put, List.setIfInBounds_toArray, List.set_cons_zero, List.set_cons_succ]
  refine wpAnyH_ready (rs := [4]) (by kernel_rfl) (by simp) ?_
  refine AllReadyH.cons (o := Oper.mk (some 7) _ _ _ _ none) rfl (fun K hK => ?_) AllReadyH.nil
  go_simp
  go_at_call 41
  refine (hcl.out _).mono ?_
  rintro x0 Y1 ⟨rfl, hB0⟩
  have hY1 := OX.later hHeld hB0
  clear hB0
  go_wp2_with fail
  refine hK.out _ _ hY1 (fun hHeld => ?_)
  clear hK K
  (try simp only [Act.put, List.setIfInBounds_toArray, List.set_cons_zero, List.set_cons_succ])
  refine wpAnyH_ready (rs := [7]) (by kernel_rfl) (by simp) ?_
  refine AllReadyH.cons (o := Oper.mk (some 10) _ _ _ _ none) rfl (fun K hK => ?_) AllReadyH.nil
  go_simp
  go_at_call 40
  refine (hv.out _).mono ?_
  rintro x0 Y2 ⟨rfl, hB0⟩
  have hY2 := OX.later hY1 hB0
  clear hB0
  go_wp2_with fail
  refine hK.out _ _ hY2 (fun hHeld => ?_)
  clear hK K
  (try simp only [Act.put, List.setIfInBounds_toArray, List.set_cons_zero, List.set_cons_succ])
  refine wpAnyH_take (i := 8) (oi := Oper.mk (some 11) _ _ _ _ _) (v := ?_) rfl (by kernel_rfl) (by kernel_rfl) (by kernel_rfl) (fun _ _ _ h => h) (Or.inl ⟨by rfl, ?_⟩) (by assumption) ?_
  rotate_left
  · intro w0 hSw
    clear hSw
    go_simp
    all_goals (with_reducible rfl)
  simp only [Act.put, List.setIfInBounds_toArray, List.set_cons_zero, List.set_cons_succ]
  obtain ⟨⟨u0, s0⟩, f0⟩ := OX.spot hY2 (i := 0) (by simp)
  obtain ⟨⟨u1, s1⟩, f1⟩ := OX.spot hY2 (i := 1) (by simp)
  obtain ⟨⟨u2, s2⟩, f2⟩ := OX.spot hY2 (i := 2) (by simp)
  obtain ⟨⟨u3, s3⟩, f3⟩ := OX.spot hY2 (i := 3) (by simp)
  obtain ⟨⟨u4, s4⟩, f4⟩ := OX.spot hY2 (i := 4) (by simp)
  refine wpAnyH_ready (rs := [9]) (by kernel_rfl) (by simp) ?_
  refine AllReadyH.cons (o := Oper.mk none _ _ _ _ none) rfl (fun K hK => ?_) AllReadyH.nil
  go_simp
  refine hK.out _ _ (OX.res (OX.res (OX.res (OX.res (OX.res hY2))))) (fun hHeld2 => ?_)
  clear hK K
  (try simp only [Act.put, List.setIfInBounds_toArray, List.set_cons_zero, List.set_cons_succ])
  refine wpAnyH_done (by kernel_rfl) ?_ _
  refine NoPanic.normal ?_
  clear s0 f0 s1 f1 s2 f2 s3 f3 s4 f4
  have hd : (((((Y2.setCell ⟨w.heap.size + 1, 0, none⟩ (.int .i64 k)).setCell ⟨w.heap.size + 1, 1, none⟩ (.string nm)).setCell ⟨w.heap.size + 1, 2, none⟩ (.int .i64 vk)).setCell ⟨w.heap.size + 1, 3, none⟩ (.int .i64 vn)).setCell ⟨w.heap.size + 1, 4, none⟩ (.string vt)).heap[w.heap.size + 1]? = some (.cells #[.int .i64 k, .string nm, .int .i64 vk, .int .i64 vn, .string vt] 86 (0, 0)) ∧ Below w.heap.size w (((((Y2.setCell ⟨w.heap.size + 1, 0, none⟩ (.int .i64 k)).setCell ⟨w.heap.size + 1, 1, none⟩ (.string nm)).setCell ⟨w.heap.size + 1, 2, none⟩ (.int .i64 vk)).setCell ⟨w.heap.size + 1, 3, none⟩ (.int .i64 vn)).setCell ⟨w.heap.size + 1, 4, none⟩ (.string vt)) := OX.done hY2 [.int .i64 k, .string nm, .int .i64 vk, .int .i64 vn, .string vt] rfl _ rfl
  clear hcl hv HX hHeld2 hY1 hY2 hs1
  go_wp2_with fail
  generalize (((((Y2.setCell ⟨w.heap.size + 1, 0, none⟩ (.int .i64 k)).setCell ⟨w.heap.size + 1, 1, none⟩ (.string nm)).setCell ⟨w.heap.size + 1, 2, none⟩ (.int .i64 vk)).setCell ⟨w.heap.size + 1, 3, none⟩ (.int .i64 vn)).setCell ⟨w.heap.size + 1, 4, none⟩ (.string vt)) = W9 at *
  have c0 := cell_of_block hd.1 0
  have c1 := cell_of_block hd.1 1
  have c2 := cell_of_block hd.1 2
  have c3 := cell_of_block hd.1 3
  have c4 := cell_of_block hd.1 4
  simp only [List.getElem?_toArray, List.getElem?_cons_zero, List.getElem?_cons_succ] at c0 c1 c2 c3 c4
  exact bodyPost_ret (v := cqV ⟨k, nm, vk, vn, vt⟩) (by simp [results, Try.results43, go_sem, c0, c1, c2, c3, c4]) rfl ⟨rfl, hd.2⟩
set_option maxRecDepth 100000 in
set_option maxHeartbeats 3200000 in
theorem ownPq_any (p : Pq) (hs : p.Sm) (w : World) :
    Calls Try.prog 45 #[pqV p] w fun e w' => e = .returned (pqV p) ∧ Below w.heap.size w w' := by
  obtain ⟨nm, vk, vn, vt⟩ := p
  obtain ⟨hn, ht⟩ := hs
  simp only at hn ht
  have hcl := hide (clone_any nm (by omega))
  have hv := hide (ownVal_any vk vn vt ht)
  clear hn ht
  go_enter Try.func45, Try.ntmps45
  go_wp2_with fail
  refine gen_code (fun X => Hid (OX 90 [.string nm, .int .i64 vk, .int .i64 vn, .string vt] w X)) (hide (OX.start 90 [.string nm, .int .i64 vk, .int .i64 vn, .string vt] #[.string ⟨#[]⟩, .int .i64 0, .int .i64 0, .string ⟨#[]⟩] rfl w)) ?_
  intro X HX
  have hs1 := HX.out.drew
  refine wp_region_noPanic ?_
  refine wp_region_held_drew (S := fun W => OX 90 [.string nm, .int .i64 vk, .int .i64 vn, .string vt] w W) (by kernel_rfl) hs1 (fun hHeld => ?_)
  refine wpAnyH_take (i := 0) (oi := Oper.mk (some 3) _ _ _ _ _) (v := ?_) rfl (by kernel_rfl) (by kernel_rfl) (by kernel_rfl) (fun _ _ _ h => h) (Or.inl ⟨by rfl, ?_⟩) (by assumption) ?_
  rotate_left
  · intro w0 hSw
    clear hSw
    go_simp
    all_goals (with_reducible rfl)
  simp only [Act.put, List.setIfInBounds_toArray, List.set_cons_zero, List.set_cons_succ]
  refine wpAnyH_take (i := 1) (oi := Oper.mk (some 4) _ _ _ _ _) (v := ?_) rfl (by kernel_rfl) (by kernel_rfl) (by kernel_rfl) (fun _ _ _ h => h) (Or.inl ⟨by rfl, ?_⟩) (by assumption) ?_
  rotate_left
  · intro w0 hSw
    have z0 := OX.cell hSw 0
    simp only [List.getElem?_cons_zero, List.getElem?_cons_succ] at z0
    clear hSw
    go_simp
    all_goals (with_reducible rfl)
  simp only [Act.put, List.setIfInBounds_toArray, List.set_cons_zero, List.set_cons_succ]
  refine wpAnyH_take (i := 3) (oi := Oper.mk (some 6) _ _ _ _ _) (v := ?_) rfl (by kernel_rfl) (by kernel_rfl) (by kernel_rfl) (fun _ _ _ h => h) (Or.inl ⟨by rfl, ?_⟩) (by assumption) ?_
  rotate_left
  · intro w0 hSw
    clear hSw
    go_simp
    all_goals (with_reducible rfl)
  simp only [Act.put, List.setIfInBounds_toArray, List.set_cons_zero, List.set_cons_succ]
  refine wpAnyH_take (i := 4) (oi := Oper.mk (some 7) _ _ _ _ _) (v := ?_) rfl (by kernel_rfl) (by kernel_rfl) (by kernel_rfl) (fun _ _ _ h => h) (Or.inl ⟨by rfl, ?_⟩) (by assumption) ?_
  rotate_left
  · intro w0 hSw
    have z0 := OX.cell hSw 1
    have z1 := OX.cell hSw 2
    have z2 := OX.cell hSw 3
    simp only [List.getElem?_cons_zero, List.getElem?_cons_succ] at z0 z1 z2
    clear hSw
    go_simp
    all_goals (with_reducible rfl)
  simp only [Act.put, List.setIfInBounds_toArray, List.set_cons_zero, List.set_cons_succ]
  refine wpAnyH_ready (rs := [2]) (by kernel_rfl) (by simp) ?_
  refine AllReadyH.cons (o := Oper.mk (some 5) _ _ _ _ none) rfl (fun K hK => ?_) AllReadyH.nil
  go_simp
  go_at_call 41
  refine (hcl.out _).mono ?_
  rintro x0 Y1 ⟨rfl, hB0⟩
  have hY1 := OX.later hHeld hB0
  clear hB0
  go_wp2_with fail
  refine hK.out _ _ hY1 (fun hHeld => ?_)
  clear hK K
  (try simp only [Act.put, List.setIfInBounds_toArray, List.set_cons_zero, List.set_cons_succ])
  refine wpAnyH_ready (rs := [5]) (by kernel_rfl) (by simp) ?_
  refine AllReadyH.cons (o := Oper.mk (some 8) _ _ _ _ none) rfl (fun K hK => ?_) AllReadyH.nil
  go_simp
  go_at_call 40
  refine (hv.out _).mono ?_
  rintro x0 Y2 ⟨rfl, hB0⟩
  have hY2 := OX.later hY1 hB0
  clear hB0
  go_wp2_with fail
  refine hK.out _ _ hY2 (fun hHeld => ?_)
  clear hK K
  (try simp only [Act.put, List.setIfInBounds_toArray, List.set_cons_zero, List.set_cons_succ])
  refine wpAnyH_take (i := 6) (oi := Oper.mk (some 9) _ _ _ _ _) (v := ?_) rfl (by kernel_rfl) (by kernel_rfl) (by kernel_rfl) (fun _ _ _ h => h) (Or.inl ⟨by rfl, ?_⟩) (by assumption) ?_
  rotate_left
  · intro w0 hSw
    clear hSw
    go_simp
    all_goals (with_reducible rfl)
  simp only [Act.put, List.setIfInBounds_toArray, List.set_cons_zero, List.set_cons_succ]
  obtain ⟨⟨u0, s0⟩, f0⟩ := OX.spot hY2 (i := 0) (by simp)
  obtain ⟨⟨u1, s1⟩, f1⟩ := OX.spot hY2 (i := 1) (by simp)
  obtain ⟨⟨u2, s2⟩, f2⟩ := OX.spot hY2 (i := 2) (by simp)
  obtain ⟨⟨u3, s3⟩, f3⟩ := OX.spot hY2 (i := 3) (by simp)
  refine wpAnyH_ready (rs := [7]) (by kernel_rfl) (by simp) ?_
  refine AllReadyH.cons (o := Oper.mk none _ _ _ _ none) rfl (fun K hK => ?_) AllReadyH.nil
  go_simp
  refine hK.out _ _ (OX.res (OX.res (OX.res (OX.res hY2)))) (fun hHeld2 => ?_)
  clear hK K
  (try simp only [Act.put, List.setIfInBounds_toArray, List.set_cons_zero, List.set_cons_succ])
  refine wpAnyH_done (by kernel_rfl) ?_ _
  refine NoPanic.normal ?_
  clear s0 f0 s1 f1 s2 f2 s3 f3
  have hd : ((((Y2.setCell ⟨w.heap.size + 1, 0, none⟩ (.string nm)).setCell ⟨w.heap.size + 1, 1, none⟩ (.int .i64 vk)).setCell ⟨w.heap.size + 1, 2, none⟩ (.int .i64 vn)).setCell ⟨w.heap.size + 1, 3, none⟩ (.string vt)).heap[w.heap.size + 1]? = some (.cells #[.string nm, .int .i64 vk, .int .i64 vn, .string vt] 90 (0, 0)) ∧ Below w.heap.size w ((((Y2.setCell ⟨w.heap.size + 1, 0, none⟩ (.string nm)).setCell ⟨w.heap.size + 1, 1, none⟩ (.int .i64 vk)).setCell ⟨w.heap.size + 1, 2, none⟩ (.int .i64 vn)).setCell ⟨w.heap.size + 1, 3, none⟩ (.string vt)) := OX.done hY2 [.string nm, .int .i64 vk, .int .i64 vn, .string vt] rfl _ rfl
  clear hcl hv HX hHeld2 hY1 hY2 hs1
  go_wp2_with fail
  generalize ((((Y2.setCell ⟨w.heap.size + 1, 0, none⟩ (.string nm)).setCell ⟨w.heap.size + 1, 1, none⟩ (.int .i64 vk)).setCell ⟨w.heap.size + 1, 2, none⟩ (.int .i64 vn)).setCell ⟨w.heap.size + 1, 3, none⟩ (.string vt)) = W9 at *
  have c0 := cell_of_block hd.1 0
  have c1 := cell_of_block hd.1 1
  have c2 := cell_of_block hd.1 2
  have c3 := cell_of_block hd.1 3
  simp only [List.getElem?_toArray, List.getElem?_cons_zero, List.getElem?_cons_succ] at c0 c1 c2 c3
  exact bodyPost_ret (v := pqV ⟨nm, vk, vn, vt⟩) (by simp [results, Try.results45, go_sem, c0, c1, c2, c3]) rfl ⟨rfl, hd.2⟩
end Go.Proofs.Ythkklmfjdjiafaa

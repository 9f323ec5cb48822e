/- Rows of parts copied by the program into memory of their own. -/
import Derived.Test.YthkklmfjdjiafaaCaJ2
namespace Go.Proofs.Ythkklmfjdjiafaa
open Go.RowKit
set_option linter.unusedVariables false
set_option linter.unusedSimpArgs false
theorem alloc_q {n : Nat} {w : World} {o : Obj} (h : n ≤ w.heap.size) : n ≤ (w.alloc o).heap.size := by
  have : (w.alloc o).heap.size = w.heap.size + 1 := by simp
  omega
theorem cells_q (V : World) (L : List Value) (T : TypeId) : ∀ j u, L[j]? = some u → (V.alloc (.cells L.toArray T)).cell? ((⟨V.heap.size, 0, none⟩ : Addr).add j) = some u := by
  intro j u hu
  have hadd : (⟨V.heap.size, 0, none⟩ : Addr).add j = ⟨V.heap.size, j, none⟩ := by unfold Addr.add; split <;> simp_all
  rw [hadd, World.cell?_alloc_at _ _ _ _ rfl]
  simpa using hu
theorem app_cq {W : World} {base : Nat} {v : Value} {A : List Cm} (B : List Cm) (hv : W.ownsRow base 86 5 v A.length (A.flatMap cqL)) (ad : Addr) (c : Nat) (hu : ∀ j u, (B.flatMap cqL)[j]? = some u → W.cell? (ad.add j) = some u) (hn : A.length + B.length ≤ 4194304) (hb : base ≤ W.heap.size) :
    ∃ v' w2, (Builtin.append_ #[51, 51] 51 #[v, .slice (some ad) B.length c]).run Try.prog W = .ok v' w2 ∧ w2.ownsRow base 86 5 v' (A ++ B).length ((A ++ B).flatMap cqL) ∧ W.grownBy w2 v.ownBlock := by
  obtain ⟨i0, hi, hz0, hz1, hz2⟩ := info_parts infoCm
  obtain ⟨v', w2, hrun, hown, hgrow, _, _⟩ := run_append_own_at (P := Try.prog) W base 51 51 86 i0 _ 5 56 Try.underlying51 hi hz0 hz1 hz2 rfl (by decide) v A.length (A.flatMap cqL) hv ad B.length c (B.flatMap cqL) (lenq cq_len B) hu (fun u hu => by
    obtain ⟨e, _, he⟩ := List.mem_flatMap.1 hu
    simp only [List.mem_cons, List.not_mem_nil, or_false] at he
    rcases he with rfl | rfl | rfl | rfl | rfl <;> rfl) (by unfold maxLen; omega) (by omega) hb
  refine ⟨v', w2, hrun, ?_, hgrow⟩
  simpa [List.flatMap_append] using hown
theorem wp_app_cq {ops : Array Oper} {rest : List Oper} {o : Oper} {a : Act} {W : World} {Q : Exit → Act → World → Prop} (hgd : o.guard = none) (s x : Operand)
    (ho : o.op = .call { callee := .builtin .append, args := #[s, x], argTypes := #[51, 51] }) (hty : o.type = 51) (base : Nat) (A B : List Cm) (v : Value) (ad : Addr) (n c : Nat) (hnB : n = B.length) (hs : a.eval s = v) (hx : a.eval x = .slice (some ad) n c)
    (hv : W.ownsRow base 86 5 v A.length (A.flatMap cqL)) (hu : ∀ j u, (B.flatMap cqL)[j]? = some u → W.cell? (ad.add j) = some u) (hn : A.length + B.length ≤ 4194304) (hb : base ≤ W.heap.size)
    (h : ∀ v' w2, Hid (w2.ownsRow base 86 5 v' (A ++ B).length ((A ++ B).flatMap cqL)) → Hid (W.grownBy w2 v.ownBlock) → wpList Try.prog ops Q rest (a.put o.dst v') w2) : wpList Try.prog ops Q (o :: rest) a W := by
  subst hnB
  refine wpList_plain hgd fun K hK => ?_
  obtain ⟨v', w2, hrun, h1, h2⟩ := app_cq B hv ad c hu hn hb
  unfold Oper.wp
  simp [execOp, ho, resolve, invoke, builtin, hs, hx, hty, hrun, Result.andThen]
  exact hK _ _ (h _ _ h1 h2)
theorem one_cq (V : World) (e : Cm) (T : TypeId) : ∀ j u, ([e].flatMap cqL)[j]? = some u → (V.alloc (.cells (cqL e).toArray T)).cell? ((⟨V.heap.size, 0, none⟩ : Addr).add j) = some u := fun j u hu => cells_q V (cqL e) T j u (by simpa using hu)
set_option maxRecDepth 100000 in
set_option maxHeartbeats 3200000 in
theorem ownListCm_any (l : List Cm) (hsm : ∀ e ∈ l, e.Sm) (hN : l.length ≤ 1048576) (v : Value) (w : World) (hr : PRow 5 cqL w.heap.size w l v) :
    Calls Try.prog 42 #[v, .func (.func 43) #[] #[]] w fun x w' => ∃ a c, x = .returned (.slice a l.length c) ∧ PBlk 86 5 cqL w.heap.size w'.heap.size w' l (.slice a l.length c) ∧ Below w.heap.size w w' := by
  obtain ⟨ad, cap, rfl, hc, hmx, hx⟩ := hr
  unfold maxLen at hmx
  have HX := hide hx
  have HSM := hide hsm
  clear hx hsm
  go_enter Try.func42, Try.ntmps42
  go_wp2_with fail
  go_loopw [5, 10] (fun kv iv wr => ∃ i : Nat, i ≤ l.length ∧ iv = .int .i64 i ∧ Hid (wr.ownsRow w.heap.size 86 5 kv (l.take i).length ((l.take i).flatMap cqL)) ∧ Hid (Below w.heap.size w wr)) (fun _ iv _ => l.length - (intOf iv).toNat)
  case atStart => exact ⟨0, by omega, rfl, ⟨by simp, .inl ⟨rfl, by simp⟩⟩, Below.refl _ _⟩
  case round =>
    obtain ⟨i, hi, rfl, HO, HB⟩ := hrel
    obtain ⟨av, cv, hav⟩ := ownsRow_form HO.out
    subst hav
    by_cases hlt : i < l.length
    · obtain ⟨g, off, rfl, hg, hs⟩ := HX.out (by omega)
      obtain ⟨e, he⟩ : ∃ e, l[i]? = some e := ⟨_, List.getElem?_eq_getElem hlt⟩
      have c0 := (HB.out.cell (p := ⟨g, off + i * 5, none⟩) hg).trans (hs i e he 0 _ rfl)
      have c1 := (HB.out.cell (p := ⟨g, off + i * 5 + 1, none⟩) hg).trans (hs i e he 1 _ rfl)
      have c2 := (HB.out.cell (p := ⟨g, off + i * 5 + 2, none⟩) hg).trans (hs i e he 2 _ rfl)
      have c3 := (HB.out.cell (p := ⟨g, off + i * 5 + 3, none⟩) hg).trans (hs i e he 3 _ rfl)
      have c4 := (HB.out.cell (p := ⟨g, off + i * 5 + 4, none⟩) hg).trans (hs i e he 4 _ rfl)
      have hgr : g < wr.heap.size := by have := HB.out.size; omega
      have hcall := hide (fun W => ownCm_any e (HSM.out e (List.mem_of_getElem? he)) W)
      have HT : Hid (l.take (i + 1) = l.take i ++ [e]) := by show _ = _; rw [List.take_add_one, he]; rfl
      have HAN : Hid ((l.take i).length + [e].length ≤ 4194304) := by show _ ≤ _; simp [List.length_take]; omega
      generalize l.take i = A at *
      clear hs he
      have hii : (i : Int) < (l.length : Int) := by omega
      go_wp2_with fail
      refine (hcall.out _).mono ?_
      rintro x1 X1 ⟨rfl, hB1⟩
      have hB0 : Below w.heap.size w X1 := (HB.out.alloc HB.out.size _).trans (hB1.mono (HB.out.alloc HB.out.size _).size)
      have HOX : X1.ownsRow w.heap.size 86 5 (.slice av A.length cv) A.length (A.flatMap cqL) := ownsRow_later (ownsRow_later HO.out ((Below.refl _ _).alloc (Nat.le_refl _) _)) hB1
      have HOW : Hid (∀ C, (X1.alloc (.cells C 86)).ownsRow w.heap.size 86 5 (.slice av A.length cv) A.length (A.flatMap cqL)) := fun C => ownsRow_later HOX ((Below.refl _ _).alloc (Nat.le_refl _) _)
      have HBS : Hid (∀ C, w.heap.size ≤ (X1.alloc (.cells C 86)).heap.size) := fun C => alloc_q hB0.size
      have HRE : Hid (∀ C w2, (X1.alloc (.cells C 86)).grownBy w2 (Value.slice av A.length cv).ownBlock → Below w.heap.size w w2) := fun C w2 hgr => (hB0.alloc hB0.size _).grown hgr (HBS.out C) (fun k hk => by have := (HO.out.lt k hk).1; omega)
      clear hB1 hB0 HOX hcall HB HX c0 c1 c2 c3 c4 hgr
      go_wp2_with (first
        | (with_reducible show wpList _ _ _ (Oper.mk _ (Op.call (Call.mk (.builtin .append) _ _)) _ _ _ _ :: _) _ _; refine wp_app_cq rfl (.tmp 14) (.tmp 18) rfl rfl w.heap.size A [e] _ ⟨X1.heap.size, 0, none⟩ 1 1 rfl rfl rfl (HOW.out _) (one_cq _ _ _) HAN.out (HBS.out _) ?_; intro v2 w2 hv2 hg2)
        | fail)
      go_roundw
      case rel => exact ⟨i + 1, by omega, by go_num, by rw [HT.out]; exact hv2, HRE.out _ w2 hg2.out⟩
      case measure => simp [intOf]; omega
    · have hie : i = l.length := by omega
      have HE : Hid (l.take i = l) := by show _ = _; rw [hie, List.take_length]
      have HE2 : Hid ((l.take i).length = l.length) := by show _ = _; rw [HE.out]
      clear hie
      go_wp2_with fail
      go_ret
      have ho := HO.out
      have hbo := HB.out
      rw [HE.out] at ho ⊢
      exact ⟨_, _, rfl, (PBlk.of_own cq_len ho), hbo⟩
theorem app_pq {W : World} {base : Nat} {v : Value} {A : List Pq} (B : List Pq) (hv : W.ownsRow base 90 4 v A.length (A.flatMap pqL)) (ad : Addr) (c : Nat) (hu : ∀ j u, (B.flatMap pqL)[j]? = some u → W.cell? (ad.add j) = some u) (hn : A.length + B.length ≤ 4194304) (hb : base ≤ W.heap.size) :
    ∃ v' w2, (Builtin.append_ #[54, 54] 54 #[v, .slice (some ad) B.length c]).run Try.prog W = .ok v' w2 ∧ w2.ownsRow base 90 4 v' (A ++ B).length ((A ++ B).flatMap pqL) ∧ W.grownBy w2 v.ownBlock := by
  obtain ⟨i0, hi, hz0, hz1, hz2⟩ := info_parts infoPq
  obtain ⟨v', w2, hrun, hown, hgrow, _, _⟩ := run_append_own_at (P := Try.prog) W base 54 54 90 i0 _ 4 48 Try.underlying54 hi hz0 hz1 hz2 rfl (by decide) v A.length (A.flatMap pqL) hv ad B.length c (B.flatMap pqL) (lenq pq_len B) hu (fun u hu => by
    obtain ⟨e, _, he⟩ := List.mem_flatMap.1 hu
    simp only [List.mem_cons, List.not_mem_nil, or_false] at he
    rcases he with rfl | rfl | rfl | rfl <;> rfl) (by unfold maxLen; omega) (by omega) hb
  refine ⟨v', w2, hrun, ?_, hgrow⟩
  simpa [List.flatMap_append] using hown
theorem wp_app_pq {ops : Array Oper} {rest : List Oper} {o : Oper} {a : Act} {W : World} {Q : Exit → Act → World → Prop} (hgd : o.guard = none) (s x : Operand)
    (ho : o.op = .call { callee := .builtin .append, args := #[s, x], argTypes := #[54, 54] }) (hty : o.type = 54) (base : Nat) (A B : List Pq) (v : Value) (ad : Addr) (n c : Nat) (hnB : n = B.length) (hs : a.eval s = v) (hx : a.eval x = .slice (some ad) n c)
    (hv : W.ownsRow base 90 4 v A.length (A.flatMap pqL)) (hu : ∀ j u, (B.flatMap pqL)[j]? = some u → W.cell? (ad.add j) = some u) (hn : A.length + B.length ≤ 4194304) (hb : base ≤ W.heap.size)
    (h : ∀ v' w2, Hid (w2.ownsRow base 90 4 v' (A ++ B).length ((A ++ B).flatMap pqL)) → Hid (W.grownBy w2 v.ownBlock) → wpList Try.prog ops Q rest (a.put o.dst v') w2) : wpList Try.prog ops Q (o :: rest) a W := by
  subst hnB
  refine wpList_plain hgd fun K hK => ?_
  obtain ⟨v', w2, hrun, h1, h2⟩ := app_pq B hv ad c hu hn hb
  unfold Oper.wp
  simp [execOp, ho, resolve, invoke, builtin, hs, hx, hty, hrun, Result.andThen]
  exact hK _ _ (h _ _ h1 h2)
theorem one_pq (V : World) (e : Pq) (T : TypeId) : ∀ j u, ([e].flatMap pqL)[j]? = some u → (V.alloc (.cells (pqL e).toArray T)).cell? ((⟨V.heap.size, 0, none⟩ : Addr).add j) = some u := fun j u hu => cells_q V (pqL e) T j u (by simpa using hu)
set_option maxRecDepth 100000 in
set_option maxHeartbeats 3200000 in
theorem ownListPq_any (l : List Pq) (hsm : ∀ e ∈ l, e.Sm) (hN : l.length ≤ 1048576) (v : Value) (w : World) (hr : PRow 4 pqL w.heap.size w l v) :
    Calls Try.prog 44 #[v, .func (.func 45) #[] #[]] w fun x w' => ∃ a c, x = .returned (.slice a l.length c) ∧ PBlk 90 4 pqL w.heap.size w'.heap.size w' l (.slice a l.length c) ∧ Below w.heap.size w w' := by
  obtain ⟨ad, cap, rfl, hc, hmx, hx⟩ := hr
  unfold maxLen at hmx
  have HX := hide hx
  have HSM := hide hsm
  clear hx hsm
  go_enter Try.func44, Try.ntmps44
  go_wp2_with fail
  go_loopw [5, 10] (fun kv iv wr => ∃ i : Nat, i ≤ l.length ∧ iv = .int .i64 i ∧ Hid (wr.ownsRow w.heap.size 90 4 kv (l.take i).length ((l.take i).flatMap pqL)) ∧ Hid (Below w.heap.size w wr)) (fun _ iv _ => l.length - (intOf iv).toNat)
  case atStart => exact ⟨0, by omega, rfl, ⟨by simp, .inl ⟨rfl, by simp⟩⟩, Below.refl _ _⟩
  case round =>
    obtain ⟨i, hi, rfl, HO, HB⟩ := hrel
    obtain ⟨av, cv, hav⟩ := ownsRow_form HO.out
    subst hav
    by_cases hlt : i < l.length
    · obtain ⟨g, off, rfl, hg, hs⟩ := HX.out (by omega)
      obtain ⟨e, he⟩ : ∃ e, l[i]? = some e := ⟨_, List.getElem?_eq_getElem hlt⟩
      have c0 := (HB.out.cell (p := ⟨g, off + i * 4, none⟩) hg).trans (hs i e he 0 _ rfl)
      have c1 := (HB.out.cell (p := ⟨g, off + i * 4 + 1, none⟩) hg).trans (hs i e he 1 _ rfl)
      have c2 := (HB.out.cell (p := ⟨g, off + i * 4 + 2, none⟩) hg).trans (hs i e he 2 _ rfl)
      have c3 := (HB.out.cell (p := ⟨g, off + i * 4 + 3, none⟩) hg).trans (hs i e he 3 _ rfl)
      have hgr : g < wr.heap.size := by have := HB.out.size; omega
      have hcall := hide (fun W => ownPq_any e (HSM.out e (List.mem_of_getElem? he)) W)
      have HT : Hid (l.take (i + 1) = l.take i ++ [e]) := by show _ = _; rw [List.take_add_one, he]; rfl
      have HAN : Hid ((l.take i).length + [e].length ≤ 4194304) := by show _ ≤ _; simp [List.length_take]; omega
      generalize l.take i = A at *
      clear hs he
      have hii : (i : Int) < (l.length : Int) := by omega
      go_wp2_with fail
      refine (hcall.out _).mono ?_
      rintro x1 X1 ⟨rfl, hB1⟩
      have hB0 : Below w.heap.size w X1 := (HB.out.alloc HB.out.size _).trans (hB1.mono (HB.out.alloc HB.out.size _).size)
      have HOX : X1.ownsRow w.heap.size 90 4 (.slice av A.length cv) A.length (A.flatMap pqL) := ownsRow_later (ownsRow_later HO.out ((Below.refl _ _).alloc (Nat.le_refl _) _)) hB1
      have HOW : Hid (∀ C, (X1.alloc (.cells C 90)).ownsRow w.heap.size 90 4 (.slice av A.length cv) A.length (A.flatMap pqL)) := fun C => ownsRow_later HOX ((Below.refl _ _).alloc (Nat.le_refl _) _)
      have HBS : Hid (∀ C, w.heap.size ≤ (X1.alloc (.cells C 90)).heap.size) := fun C => alloc_q hB0.size
      have HRE : Hid (∀ C w2, (X1.alloc (.cells C 90)).grownBy w2 (Value.slice av A.length cv).ownBlock → Below w.heap.size w w2) := fun C w2 hgr => (hB0.alloc hB0.size _).grown hgr (HBS.out C) (fun k hk => by have := (HO.out.lt k hk).1; omega)
      clear hB1 hB0 HOX hcall HB HX c0 c1 c2 c3 hgr
      go_wp2_with (first
        | (with_reducible show wpList _ _ _ (Oper.mk _ (Op.call (Call.mk (.builtin .append) _ _)) _ _ _ _ :: _) _ _; refine wp_app_pq rfl (.tmp 14) (.tmp 18) rfl rfl w.heap.size A [e] _ ⟨X1.heap.size, 0, none⟩ 1 1 rfl rfl rfl (HOW.out _) (one_pq _ _ _) HAN.out (HBS.out _) ?_; intro v2 w2 hv2 hg2)
        | fail)
      go_roundw
      case rel => exact ⟨i + 1, by omega, by go_num, by rw [HT.out]; exact hv2, HRE.out _ w2 hg2.out⟩
      case measure => simp [intOf]; omega
    · have hie : i = l.length := by omega
      have HE : Hid (l.take i = l) := by show _ = _; rw [hie, List.take_length]
      have HE2 : Hid ((l.take i).length = l.length) := by show _ = _; rw [HE.out]
      clear hie
      go_wp2_with fail
      go_ret
      have ho := HO.out
      have hbo := HB.out
      rw [HE.out] at ho ⊢
      exact ⟨_, _, rfl, (PBlk.of_own pq_len ho), hbo⟩
end Go.Proofs.Ythkklmfjdjiafaa

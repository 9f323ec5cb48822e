/- Items of a cache: where they lie, and how large they are as the laws count. -/
import Derived.Test.YthkklmfjdjiafaaCaP
namespace Go.Proofs.Ythkklmfjdjiafaa
open Go.RowKit
set_option linter.unusedVariables false
set_option linter.unusedSimpArgs false
/-- how a run stood -/
structure It where
  run : Int
  many : Int
  cs : List Cm
  st : Int
  vk : Int
  vn : Int
  vt : ByteArray
  on : ByteArray
  ps : List Pq
  fu : Int
abbrev itL (it : It) (vc vp : Value) : List Value := [.int .i64 it.run, .int .i64 it.many, vc, .int .i64 it.st, .int .i64 it.vk, .int .i64 it.vn, .string it.vt, .string it.on, vp, .int .i64 it.fu]
abbrev itV (it : It) (vc vp : Value) : Value := .agg #[.int .i64 it.run, .int .i64 it.many, vc, .int .i64 it.st, .int .i64 it.vk, .int .i64 it.vn, .string it.vt, .string it.on, vp, .int .i64 it.fu]
abbrev otV (it : It) (vc vp : Value) : Value := .agg #[vc, .int .i64 it.st, .int .i64 it.vk, .int .i64 it.vn, .string it.vt, .string it.on, vp, .int .i64 it.fu]
structure It.Wf (it : It) : Prop where
  t : it.vt.size ≤ maxLen
  o : it.on.size ≤ maxLen
  c : ∀ p ∈ it.cs, p.Wf
  p : ∀ p ∈ it.ps, p.Wf
structure It.Sm (it : It) : Prop where
  t : it.vt.size ≤ 1048576
  o : it.on.size ≤ 1048576
  c : ∀ p ∈ it.cs, p.Sm
  p : ∀ p ∈ it.ps, p.Sm
/-- an item's two rows -/
def Two (hi : Nat) (w : World) (it : It) (vc vp : Value) : Prop := PRow 5 cqL hi w it.cs vc ∧ PRow 4 pqL hi w it.ps vp
theorem Two.later {hi : Nat} {w w1 : World} {it : It} {vc vp : Value} (h : Two hi w it vc vp) (hB : Below hi w w1) : Two hi w1 it vc vp := ⟨h.1.later hB, h.2.later hB⟩
theorem Two.up {hi hi' : Nat} {w : World} {it : It} {vc vp : Value} (h : Two hi w it vc vp) (hh : hi ≤ hi') : Two hi' w it vc vp := ⟨h.1.up hh, h.2.up hh⟩
/-- a slice that holds these items -/
def IRow (hi : Nat) (w : World) (l : List It) (v : Value) : Prop :=
  ∃ ad cap, v = .slice ad l.length cap ∧ l.length ≤ cap ∧ cap ≤ maxLen ∧ (0 < l.length → ∃ g off, ad = some ⟨g, off, none⟩ ∧ g < hi ∧ ∀ i it, l[i]? = some it → ∃ vc vp, (∀ j u, (itL it vc vp)[j]? = some u → w.cell? ⟨g, off + i * 10 + j, none⟩ = some u) ∧ Two hi w it vc vp)
theorem IRow.later {hi : Nat} {w w1 : World} {l : List It} {v : Value} (h : IRow hi w l v) (hB : Below hi w w1) : IRow hi w1 l v := by
  obtain ⟨ad, cap, hv, h1, h2, hx⟩ := h
  refine ⟨ad, cap, hv, h1, h2, fun hl => ?_⟩
  obtain ⟨g, off, ha, hg, hs⟩ := hx hl
  refine ⟨g, off, ha, hg, fun i it he => ?_⟩
  obtain ⟨vc, vp, hc, ht⟩ := hs i it he
  exact ⟨vc, vp, fun j u hu => (hB.cell (p := ⟨g, off + i * 10 + j, none⟩) hg).trans (hc j u hu), ht.later hB⟩
theorem IRow.up {hi hi' : Nat} {w : World} {l : List It} {v : Value} (h : IRow hi w l v) (hh : hi ≤ hi') : IRow hi' w l v := by
  obtain ⟨ad, cap, hv, h1, h2, hx⟩ := h
  refine ⟨ad, cap, hv, h1, h2, fun hl => ?_⟩
  obtain ⟨g, off, ha, hg, hs⟩ := hx hl
  refine ⟨g, off, ha, by omega, fun i it he => ?_⟩
  obtain ⟨vc, vp, hc, ht⟩ := hs i it he
  exact ⟨vc, vp, hc, ht.up hh⟩
/-- how many parts items have -/
def itX : List It → Nat
  | [] => 0
  | a :: r => a.cs.length + a.ps.length + itX r
theorem itX_app : ∀ a b : List It, itX (a ++ b) = itX a + itX b
  | [], b => by simp [itX]
  | x :: a, b => by simp only [List.cons_append, itX, itX_app a b]; omega
theorem itX_next {l : List It} {i : Nat} {it : It} (h : l[i]? = some it) : itX (l.take (i + 1)) = itX (l.take i) + (it.cs.length + it.ps.length) := by
  rw [List.take_add_one, h, itX_app]
  simp [itX]
theorem one_q {w w1 : World} {A : Obj} (hb : Below (w.alloc A).heap.size (w.alloc A) w1) : w1.heap[w.heap.size]? = some A ∧ Below w.heap.size w w1 ∧ w.heap.size < w1.heap.size := by
  have hs := hb.size
  have e1 : (w.alloc A).heap.size = w.heap.size + 1 := by simp
  refine ⟨?_, ((Below.refl _ w).alloc (Nat.le_refl _) A).trans (hb.mono (by omega)), by omega⟩
  rw [hb.block _ (by omega), heap_alloc_at, if_pos rfl]
theorem szVal_as (k n : Int) (t : ByteArray) (ht : t.size ≤ maxLen) (left : Int) (h0 : 0 ≤ left) (h1 : left ≤ 1048576) (w : World) :
    Calls Try.prog 48 #[vAgg k n t, .int .i64 left] w fun e w' => (∃ r : Int, e = .returned (.int .i64 r) ∧ r ≤ left ∧ (0 ≤ r → (t.size : Int) ≤ 1048576)) ∧ Below w.heap.size w w' := by
  refine (szValue_at k n t ht left h0 h1 w).mono ?_
  rintro e w' ⟨rfl, hB⟩
  refine ⟨?_, hB⟩
  split
  · exact ⟨_, rfl, by omega, by omega⟩
  · exact ⟨_, rfl, by omega, by omega⟩
set_option maxRecDepth 100000 in
set_option maxHeartbeats 3200000 in
theorem szOut_at (it : It) (hw : it.Wf) (vc vp : Value) (left : Int) (h0 : 0 ≤ left) (h1 : left ≤ 1048576) (w : World) (ht : Two w.heap.size w it vc vp) :
    Calls Try.prog 38 #[otV it vc vp, .int .i64 left] w fun e w' => (∃ r : Int, e = .returned (.int .i64 r) ∧ r ≤ left ∧ (0 ≤ r → r + (it.cs.length : Int) + (it.ps.length : Int) ≤ left ∧ it.Sm)) ∧ Below w.heap.size w w' := by
  obtain ⟨hc, hp⟩ := ht
  obtain ⟨ac, cc, hvc, _⟩ := id hc
  obtain ⟨ap, cp, hvp, _⟩ := id hp
  subst hvc hvp
  obtain ⟨run, many, cs, st, vk, vn, vt, on, ps, fu⟩ := it
  obtain ⟨wt, wo, wc, wp⟩ := hw
  simp only at wt wo wc wp hc hp
  have hwo := wo
  unfold maxLen at hwo
  have hs1 := hide (fun W (hW : Below w.heap.size w W) (L : Int) h0 h1 => szCmS_any cs wc _ W ((hc.later hW).up hW.size) L h0 h1)
  have hs2 := hide (fun (L : Int) h0 h1 W => szVal_as vk vn vt wt L h0 h1 W)
  have hs3 := hide (fun W (hW : Below w.heap.size w W) (L : Int) h0 h1 => szPqS_any ps wp _ W ((hp.later hW).up hW.size) L h0 h1)
  clear wt wo wc wp hc hp
  go_enter Try.func38, Try.ntmps38
  go_wp2_with fail
  refine (hs1.out _ ((Below.refl _ _).alloc (Nat.le_refl _) _) left h0 h1).mono ?_
  rintro e1 w1 ⟨⟨r1, rfl, p1, q1⟩, hB1⟩
  obtain ⟨bx, hB, hlt⟩ := one_q hB1
  have HX1 := hide bx
  have HB1 := hide hB
  have HQ1 := hide q1
  have a2 := cell_of_block bx 2
  have a3 := cell_of_block bx 3
  have a4 := cell_of_block bx 4
  simp only [List.getElem?_toArray, List.getElem?_cons_zero, List.getElem?_cons_succ] at a2 a3 a4
  clear hB1 bx hB hs1 q1
  by_cases n1 : r1 < 0
  · go_wp2
    go_ret
    exact ⟨⟨-1, rfl, by omega, by omega⟩, HB1.out⟩
  · go_wp2_with fail
    refine (hs2.out r1 (by omega) (by omega) _).mono ?_
    rintro e2 w2 ⟨⟨r2, rfl, p2, q2⟩, hB2⟩
    have HX2 := hide ((hB2.block _ hlt).trans HX1.out)
    have HB2 := hide (HB1.out.trans (hB2.mono HB1.out.size))
    have hlt2 : w.heap.size < w2.heap.size := Nat.lt_of_lt_of_le hlt hB2.size
    have HQ2 := hide q2
    have b5 := cell_of_block HX2.out 5
    simp only [List.getElem?_toArray, List.getElem?_cons_zero, List.getElem?_cons_succ] at b5
    clear hB2 a2 a3 a4 HX1 HB1 hs2 q2
    by_cases n2 : r2 < 0
    · go_wp2
      go_ret
      exact ⟨⟨-1, rfl, by omega, by omega⟩, HB2.out⟩
    · by_cases n3 : r2 - on.size < 0
      · go_wp2
        go_ret
        exact ⟨⟨-1, rfl, by omega, by omega⟩, HB2.out⟩
      · have b6 := cell_of_block HX2.out 6
        simp only [List.getElem?_toArray, List.getElem?_cons_zero, List.getElem?_cons_succ] at b6
        go_wp2_with fail
        refine (hs3.out _ HB2.out (r2 - on.size) (by omega) (by omega)).mono ?_
        rintro e3 w3 ⟨⟨r3, rfl, p3, q3⟩, hB3⟩
        have HB3 := hide (HB2.out.trans (hB3.mono HB2.out.size))
        have HQ3 := hide q3
        clear hB3 b5 b6 HX2 HB2 hs3 q3
        by_cases n4 : r3 < 0
        · go_wp2
          go_ret
          exact ⟨⟨-1, rfl, by omega, by omega⟩, HB3.out⟩
        · go_wp2
          go_ret
          obtain ⟨c1, c2⟩ := HQ1.out (by omega)
          obtain ⟨c3, c4⟩ := HQ3.out (by omega)
          have c5 := HQ2.out (by omega)
          exact ⟨⟨r3, rfl, by omega, fun _ => ⟨by omega, ⟨by show vt.size ≤ 1048576; omega, by show on.size ≤ 1048576; omega, c2, c4⟩⟩⟩, HB3.out⟩
set_option maxRecDepth 100000 in
set_option maxHeartbeats 1600000 in
theorem szItem_at (it : It) (hw : it.Wf) (vc vp : Value) (left : Int) (h0 : 0 ≤ left) (h1 : left ≤ 1048576) (w : World) (ht : Two w.heap.size w it vc vp) :
    Calls Try.prog 28 #[itV it vc vp, .int .i64 left] w fun e w' => (∃ r : Int, e = .returned (.int .i64 r) ∧ r ≤ left ∧ (0 ≤ r → r + (it.cs.length : Int) + (it.ps.length : Int) ≤ left ∧ it.Sm)) ∧ Below w.heap.size w w' := by
  have hs1 := hide (fun W (hW : Below w.heap.size w W) => szOut_at it hw vc vp left h0 h1 W ((ht.later hW).up hW.size))
  obtain ⟨ac, cc, hvc, _⟩ := ht.1
  obtain ⟨ap, cp, hvp, _⟩ := ht.2
  subst hvc hvp
  clear ht hw
  go_enter Try.func28, Try.ntmps28
  go_wp2_with fail
  refine (hs1.out _ ((Below.refl _ _).alloc (Nat.le_refl _) _)).mono ?_
  rintro e1 w1 ⟨⟨r1, rfl, p1, q1⟩, hB1⟩
  obtain ⟨bx, hB, hlt⟩ := one_q hB1
  have HB := hide hB
  have HQ := hide q1
  clear hB1 bx hB hs1 q1
  by_cases n1 : r1 < 0
  · go_wp2
    go_ret
    exact ⟨⟨-1, rfl, by omega, by omega⟩, HB.out⟩
  · go_wp2
    go_ret
    exact ⟨⟨r1, rfl, by omega, fun h => HQ.out h⟩, HB.out⟩
set_option maxRecDepth 100000 in
set_option maxHeartbeats 1600000 in
theorem szItemS_any (l : List It) (hwf : ∀ p ∈ l, p.Wf) (v : Value) (w : World) (hr : IRow w.heap.size w l v) (left : Int) (h0 : 0 ≤ left) (h1 : left ≤ 1048576) :
    Calls Try.prog 21 #[v, .int .i64 left] w fun x w' => (∃ r : Int, x = .returned (.int .i64 r) ∧ r ≤ left ∧ (0 ≤ r → r + (l.length : Int) + (itX l : Int) ≤ left ∧ ∀ p ∈ l, p.Sm)) ∧ Below w.heap.size w w' := by
  obtain ⟨ad, cap, rfl, hc, hmx, hx⟩ := hr
  unfold maxLen at hmx
  have HX := hide hx
  have HW := hide hwf
  clear hx hwf
  by_cases hl : left - (l.length : Int) < 0
  · go_enter Try.func21, Try.ntmps21
    go_wp2_with fail
    go_ret
    exact ⟨⟨-1, rfl, by omega, by omega⟩, Below.refl _ _⟩
  · have hN : l.length ≤ 1048576 := by omega
    go_enter Try.func21, Try.ntmps21
    go_wp2_with fail
    go_loopw [1, 5] (fun lv iv wr => ∃ (i : Nat) (L : Int), i ≤ l.length ∧ iv = .int .i64 i ∧ lv = .int .i64 L ∧ 0 ≤ L ∧ L ≤ 1048576 ∧ Hid (L + (l.length : Int) + (itX (l.take i) : Int) ≤ left) ∧ Hid (∀ j p, j < i → l[j]? = some p → p.Sm) ∧ Hid (Below w.heap.size w wr)) (fun _ iv _ => l.length - (intOf iv).toNat)
    case atStart => exact ⟨0, _, by omega, rfl, rfl, by omega, by omega, hide (by simp [itX]), hide (fun j p hj => by omega), Below.refl _ _⟩
    case round =>
      obtain ⟨i, L, hi, rfl, rfl, hL0, hL1, HL, HS, HB⟩ := hrel
      by_cases hlt : i < l.length
      · obtain ⟨g, off, rfl, hg, hs⟩ := HX.out (by omega)
        obtain ⟨e, he⟩ : ∃ e, l[i]? = some e := ⟨_, List.getElem?_eq_getElem hlt⟩
        obtain ⟨vc, vp, hcl, htw⟩ := hs i e he
        obtain ⟨ac, cc, hvc, _⟩ := htw.1
        obtain ⟨ap, cp, hvp, _⟩ := htw.2
        subst hvc hvp
        have c0 := (HB.out.cell (p := ⟨g, off + i * 10, none⟩) hg).trans (hcl 0 _ rfl)
        have c1 := (HB.out.cell (p := ⟨g, off + i * 10 + 1, none⟩) hg).trans (hcl 1 _ rfl)
        have c2 := (HB.out.cell (p := ⟨g, off + i * 10 + 2, none⟩) hg).trans (hcl 2 _ rfl)
        have c3 := (HB.out.cell (p := ⟨g, off + i * 10 + 3, none⟩) hg).trans (hcl 3 _ rfl)
        have c4 := (HB.out.cell (p := ⟨g, off + i * 10 + 4, none⟩) hg).trans (hcl 4 _ rfl)
        have c5 := (HB.out.cell (p := ⟨g, off + i * 10 + 5, none⟩) hg).trans (hcl 5 _ rfl)
        have c6 := (HB.out.cell (p := ⟨g, off + i * 10 + 6, none⟩) hg).trans (hcl 6 _ rfl)
        have c7 := (HB.out.cell (p := ⟨g, off + i * 10 + 7, none⟩) hg).trans (hcl 7 _ rfl)
        have c8 := (HB.out.cell (p := ⟨g, off + i * 10 + 8, none⟩) hg).trans (hcl 8 _ rfl)
        have c9 := (HB.out.cell (p := ⟨g, off + i * 10 + 9, none⟩) hg).trans (hcl 9 _ rfl)
        have hgr : g < wr.heap.size := by have := HB.out.size; omega
        have hsz := hide (szItem_at e (HW.out e (List.mem_of_getElem? he)) _ _ L hL0 hL1 wr ((htw.later HB.out).up HB.out.size))
        have HE := hide he
        have hii : (i : Int) < (l.length : Int) := by omega
        clear hs he hl hcl htw
        go_wp2_with fail
        refine hsz.out.mono ?_
        rintro x1 X1 ⟨⟨r, rfl, r1, r2⟩, hB1⟩
        have HB1 := hide (HB.out.trans (hB1.mono HB.out.size))
        have HR2 := hide r2
        clear hB1 hsz c0 c1 c2 c3 c4 c5 c6 c7 c8 c9 hgr r2
        by_cases n1 : r < 0
        · go_wp2_with fail
          go_ret
          exact ⟨⟨-1, rfl, by omega, by omega⟩, HB1.out⟩
        · have HS2 : Hid (∀ j p, j < i + 1 → l[j]? = some p → p.Sm) := fun j p hj hp => by
            by_cases hji : j = i
            · subst hji
              rw [HE.out] at hp
              obtain rfl := Option.some.inj hp
              exact (HR2.out (by omega)).2
            · exact HS.out j p (by omega) hp
          have HL2 : Hid (r + (l.length : Int) + (itX (l.take (i + 1)) : Int) ≤ left) := by
            show _ ≤ _
            have h3 := (HR2.out (by omega)).1
            have h4 := HL.out
            rw [itX_next HE.out]
            omega
          go_wp2_with fail
          go_roundw
          case rel => exact ⟨i + 1, r, by omega, by go_num, rfl, by omega, by omega, HL2, HS2, HB1⟩
          case measure => simp [intOf]; omega
      · have HA : Hid (∀ p ∈ l, p.Sm) := fun p hp => by
          obtain ⟨j, hj⟩ := List.mem_iff_getElem?.1 hp
          exact HS.out j p (by have := (List.getElem?_eq_some_iff.1 hj).1; omega) hj
        have HL2 : Hid (L + (l.length : Int) + (itX l : Int) ≤ left) := by
          have h4 := HL.out
          rw [show i = l.length by omega, List.take_length] at h4
          exact h4
        go_wp2_with fail
        go_ret
        exact ⟨⟨L, rfl, by have := HL2.out; omega, fun _ => ⟨HL2.out, HA.out⟩⟩, HB.out⟩
abbrev caV (v : Value) : Value := .agg #[v]
set_option maxHeartbeats 800000 in
theorem szCache_any (l : List It) (hwf : ∀ p ∈ l, p.Wf) (v : Value) (w : World) (hr : IRow w.heap.size w l v) :
    Calls Try.prog 9 #[caV v, .int .i64 1048576] w fun x w' => (∃ r : Int, x = .returned (.int .i64 r) ∧ (0 ≤ r → l.length + itX l ≤ 1048576 ∧ ∀ p ∈ l, p.Sm)) ∧ Below w.heap.size w w' := by
  have hs := hide (fun W (hW : Below w.heap.size w W) => szItemS_any l hwf v W ((hr.later hW).up hW.size) 1048576 (by omega) (by omega))
  obtain ⟨ad, cap, hv, _⟩ := hr
  subst hv
  clear hwf
  go_enter Try.func9, Try.ntmps9
  go_wp2_with fail
  refine (hs.out _ ((Below.refl _ _).alloc (Nat.le_refl _) _)).mono ?_
  rintro e1 w1 ⟨⟨r1, rfl, p1, q1⟩, hB1⟩
  obtain ⟨bx, hB, hlt⟩ := one_q hB1
  have HB := hide hB
  have HQ := hide q1
  clear hB1 bx hB hs q1
  by_cases n1 : r1 < 0
  · go_wp2
    go_ret
    exact ⟨⟨-1, rfl, by omega⟩, HB.out⟩
  · go_wp2
    go_ret
    exact ⟨⟨r1, rfl, fun h => ⟨by have := (HQ.out h).1; omega, (HQ.out h).2⟩⟩, HB.out⟩
end Go.Proofs.Ythkklmfjdjiafaa

/- Joined: EvL1 EvL2 EvL4 EvL3 EvL5 LawEval. -/
import Derived.Test.YtiffgomkhoalpaaGreatDoorPlEv2
import Derived.Test.YtiffgomkhoalpaaGreatDoorSzV
import Derived.Test.YtiffgomkhoalpaaGreatDoorBx
import Derived.Deep.MidRow
import Derived.Test.YtiffgomkhoalpaaGreatDoorTo
import Derived.Test.YtiffgomkhoalpaaGreatDoorEqX
import Derived.Deep.RegionHeld3
import Derived.Deep.RegionLaw
import Derived.Test.YtiffgomkhoalpaaGreatDoorJEvX
import Derived.Test.YtiffgomkhoalpaaGreatDoorJEvS
import Derived.Test.YtiffgomkhoalpaaGreatDoorSz
/- Names with values counted by the laws. -/
namespace Go.Proofs.YtiffgomkhoalpaaGreatDoor
open Go.RowKit
set_option linter.unusedVariables false
set_option linter.unusedSimpArgs false
set_option maxHeartbeats 800000 in
theorem szPair_at (p : Pl.Pr) (hw : PrWf p) (left : Int) (h0 : 0 ≤ left) (h1 : left ≤ 1048576) (w : World) :
    Calls Tryz.prog 27 #[.agg #[.string p.nm, .int .i64 p.v.k, .int .i64 p.v.n, .string p.v.t], .int .i64 left] w fun e w' => (∃ r : Int, e = .returned (.int .i64 r) ∧ -1 ≤ r ∧ r ≤ left) ∧ Below w.heap.size w w' := by
  obtain ⟨nm, vk, vn, vt⟩ := p
  obtain ⟨hn, ht⟩ := hw
  unfold maxLen at hn
  simp only at hn ht
  by_cases h2 : left - nm.size < 0
  · go_enter Tryz.func27, Tryz.ntmps27
    go_wp2
    go_ret
    exact ⟨⟨-1, rfl, by omega, by omega⟩, (Below.refl _ _).alloc (Nat.le_refl _) _⟩
  · have hv := hide (szValue_at vk vn vt ht (left - nm.size) (by omega) (by omega))
    go_enter Tryz.func27, Tryz.ntmps27
    go_wp2_with fail
    refine (hv.out _).mono ?_
    rintro e w1 ⟨rfl, hB1⟩
    have HB : Below w.heap.size w w1 := ((Below.refl _ _).alloc (Nat.le_refl _) _).trans (hB1.mono (by simp))
    clear hB1 hv
    by_cases h3 : left - nm.size - vt.size < 0
    · rw [if_pos h3]
      go_wp2
      go_ret
      exact ⟨⟨-1, rfl, by omega, by omega⟩, HB⟩
    · rw [if_neg h3]
      go_wp2
      go_ret
      exact ⟨⟨_, rfl, by omega, by omega⟩, HB⟩
set_option maxRecDepth 100000 in
set_option maxHeartbeats 1600000 in
theorem szPairS_any (l : List Pl.Pr) (hwf : ∀ p ∈ l, PrWf p) (v : Value) (w : World) (hr : PrRow w l v) (left : Int) (h0 : 0 ≤ left) (h1 : left ≤ 1048576) :
    Calls Tryz.prog 10 #[v, .int .i64 left] w fun x w' => (∃ r : Int, x = .returned (.int .i64 r) ∧ (0 ≤ r → l.length ≤ 1048576)) ∧ Below w.heap.size w w' := by
  obtain ⟨ad, cap, rfl, hc, hmx, hx⟩ := hr
  unfold maxLen at hmx
  have HX := hide hx
  have HW := hide hwf
  clear hx hwf
  by_cases hl : left - (l.length : Int) < 0
  · go_enter Tryz.func10, Tryz.ntmps10
    go_wp2_with fail
    go_ret
    exact ⟨⟨-1, rfl, by omega⟩, Below.refl _ _⟩
  · have hN : l.length ≤ 1048576 := by omega
    go_enter Tryz.func10, Tryz.ntmps10
    go_wp2_with fail
    go_loopw [1, 5] (fun lv iv wr => ∃ (i : Nat) (L : Int), i ≤ l.length ∧ iv = .int .i64 i ∧ lv = .int .i64 L ∧ 0 ≤ L ∧ L ≤ 1048576 ∧ Hid (Below w.heap.size w wr)) (fun _ iv _ => l.length - (intOf iv).toNat)
    case atStart => exact ⟨0, _, by omega, rfl, rfl, by omega, by omega, Below.refl _ _⟩
    case round =>
      obtain ⟨i, L, hi, rfl, rfl, hL0, hL1, HB⟩ := hrel
      by_cases hlt : i < l.length
      · obtain ⟨g, off, rfl, hg, hs⟩ := HX.out (by omega)
        obtain ⟨e, he⟩ : ∃ e, l[i]? = some e := ⟨_, List.getElem?_eq_getElem hlt⟩
        obtain ⟨c0, c1, c2, c3⟩ := (hs i e he).later HB.out hg
        have hgr : g < wr.heap.size := by have := HB.out.size; omega
        have hsz := hide (szPair_at e (HW.out e (List.mem_of_getElem? he)) L hL0 hL1)
        have hii : (i : Int) < (l.length : Int) := by omega
        clear hs he hl
        go_wp2_with fail
        refine (hsz.out _).mono ?_
        rintro x1 X1 ⟨⟨r, rfl, r0, r1⟩, hB1⟩
        have HB1 := hide (HB.out.trans (hB1.mono HB.out.size))
        clear hB1 hsz c0 c1 c2 c3 hgr
        by_cases n1 : r < 0
        · go_wp2_with fail
          go_ret
          exact ⟨⟨-1, rfl, by omega⟩, HB1.out⟩
        · go_wp2_with fail
          go_roundw
          case rel => exact ⟨i + 1, r, by omega, by go_num, rfl, by omega, by omega, HB1⟩
          case measure => simp [intOf]; omega
      · go_wp2_with fail
        go_ret
        exact ⟨⟨L, rfl, fun _ => hN⟩, HB.out⟩
end Go.Proofs.YtiffgomkhoalpaaGreatDoor

/- Names with values copied by the laws. -/
namespace Go.Proofs.YtiffgomkhoalpaaGreatDoor
open Go.RowKit
set_option linter.unusedVariables false
set_option linter.unusedSimpArgs false
abbrev prV (p : Pl.Pr) : Value := .agg #[.string p.nm, .int .i64 p.v.k, .int .i64 p.v.n, .string p.v.t]
theorem box3_after {w w1 : World} {A B C : Obj} (hb : Below (((w.alloc A).alloc B).alloc C).heap.size (((w.alloc A).alloc B).alloc C) w1) :
    w1.heap[w.heap.size]? = some A ∧ w1.heap[w.heap.size + 1]? = some B ∧ w1.heap[w.heap.size + 1 + 1]? = some C ∧ Below w.heap.size w w1 := by
  have e1 : (w.alloc A).heap.size = w.heap.size + 1 := by simp
  have e2 : ((w.alloc A).alloc B).heap.size = w.heap.size + 1 + 1 := by simp
  have e3 : (((w.alloc A).alloc B).alloc C).heap.size = w.heap.size + 1 + 1 + 1 := by simp
  have h3 : Below w.heap.size w (((w.alloc A).alloc B).alloc C) := (((Below.refl _ _).alloc (Nat.le_refl _) A).alloc (by omega) B).alloc (by omega) C
  refine ⟨?_, ?_, ?_, h3.trans (hb.mono h3.size)⟩
  · rw [hb.block _ (by omega), heap_alloc_at, if_neg (by omega), heap_alloc_at, if_neg (by omega), heap_alloc_at, if_pos rfl]
  · rw [hb.block _ (by omega), heap_alloc_at, if_neg (by omega), heap_alloc_at, if_pos (by omega)]
  · rw [hb.block _ (by omega), heap_alloc_at, if_pos (by omega)]
set_option maxHeartbeats 1600000 in
theorem toPair_any (p : Pl.Pr) (w : World) :
    Calls Tryz.prog 33 #[prV p] w fun x w' => x = .returned (prV p) ∧ Below w.heap.size w w' := by
  obtain ⟨nm, vk, vn, vt⟩ := p
  have hv := hide (toValue_any vk vn vt)
  go_enter Tryz.func33, Tryz.ntmps33
  go_wp2_with fail
  refine (hv.out _).mono ?_
  rintro e w1 ⟨rfl, hB1⟩
  obtain ⟨ba, bb, bc, hbl⟩ := box3_after hB1
  have HBA := hide ba
  have HBB := hide bb
  have HBC := hide bc
  have HBL := hide hbl
  have hlt : w.heap.size + 1 + 1 < w1.heap.size := (Array.getElem?_eq_some_iff.1 bc).1
  have a0 := cell_of_block bb 0
  have a1 := cell_of_block bb 1
  have a2 := cell_of_block bb 2
  have a3 := cell_of_block bb 3
  have f0 := free_of_block bb 0
  have f1 := free_of_block bb 1
  have f2 := free_of_block bb 2
  have f3 := free_of_block bb 3
  have c0 := cell_of_block bc 0
  have c1 := cell_of_block bc 1
  have c2 := cell_of_block bc 2
  have c3 := cell_of_block bc 3
  have g0 := free_of_block bc 0
  have g1 := free_of_block bc 1
  have g2 := free_of_block bc 2
  have g3 := free_of_block bc 3
  simp only [List.getElem?_toArray, List.getElem?_cons_zero, List.getElem?_cons_succ] at a0 a1 a2 a3 c0 c1 c2 c3
  clear hB1 ba bb bc hbl hv
  go_wp2
  have hb1 : (((w1.setCell ⟨w.heap.size + 1 + 1, 1, none⟩ (.int .i64 vk)).setCell ⟨w.heap.size + 1 + 1, 2, none⟩ (.int .i64 vn)).setCell ⟨w.heap.size + 1 + 1, 3, none⟩ (.string vt)).heap[w.heap.size + 1]? = some (.cells #[.string ⟨#[]⟩, .int .i64 0, .int .i64 0, .string ⟨#[]⟩] 51 (0, 0)) := by
    rw [Below.heap_setCell _ _ _ _ (by show w.heap.size + 1 ≠ w.heap.size + 1 + 1; omega), Below.heap_setCell _ _ _ _ (by show w.heap.size + 1 ≠ w.heap.size + 1 + 1; omega), Below.heap_setCell _ _ _ _ (by show w.heap.size + 1 ≠ w.heap.size + 1 + 1; omega)]
    exact HBB.out
  have hb2 := block_set (block_set (block_set (block_set hb1 0 (.string nm)) 1 (.int .i64 vk)) 2 (.int .i64 vn)) 3 (.string vt)
  have m0 := cell_of_block hb2 0
  have m1 := cell_of_block hb2 1
  have m2 := cell_of_block hb2 2
  have m3 := cell_of_block hb2 3
  simp at m0 m1 m2 m3
  refine bodyPost_ret (v := prV ⟨nm, vk, vn, vt⟩) (by simp [results, Tryz.results33, go_sem, m0, m1, m2, m3]) rfl ?_
  refine ⟨rfl, ?_⟩
  have q1 : w.heap.size ≤ w.heap.size + 1 := Nat.le_succ _
  have q2 : w.heap.size ≤ w.heap.size + 1 + 1 := by omega
  exact ((((((HBL.out.setCell (p := ⟨w.heap.size + 1 + 1, 1, none⟩) q2 _).setCell (p := ⟨w.heap.size + 1 + 1, 2, none⟩) q2 _).setCell (p := ⟨w.heap.size + 1 + 1, 3, none⟩) q2 _).setCell (p := ⟨w.heap.size + 1, 0, none⟩) q1 _).setCell (p := ⟨w.heap.size + 1, 1, none⟩) q1 _).setCell (p := ⟨w.heap.size + 1, 2, none⟩) q1 _).setCell (p := ⟨w.heap.size + 1, 3, none⟩) q1 _
end Go.Proofs.YtiffgomkhoalpaaGreatDoor

/- Rows of names with values copied by the laws. -/
namespace Go.Proofs.YtiffgomkhoalpaaGreatDoor
open Go.RowKit
set_option linter.unusedVariables false
set_option linter.unusedSimpArgs false
theorem infoPr : (Tryz.prog.info? 51).map (fun i => (i.zero, i.size, i.bytes)) = some (some (.agg #[.string ⟨#[]⟩, .int .i64 0, .int .i64 0, .string ⟨#[]⟩]), 4, 48) := by kernel_rfl
theorem infoPrS : (Tryz.prog.info? 51).map (·.size) = some 4 := by kernel_rfl
theorem made_pr (n : Nat) (hn : n ≤ 1048576) (w : World) : ∃ M : Array Value, M.size = n * 4 ∧
    (Instr.makeSlice 37 (.int .i64 (n : Int)) (.int .i64 (n : Int))).run Tryz.prog w = .ok (.slice (some ⟨w.heap.size, 0, none⟩) n n) (w.alloc (.cells M 51)) := by
  obtain ⟨i0, hi, hz0, hz1, hz2⟩ := info_parts infoPr
  have hr := run_make (P := Tryz.prog) w 37 51 i0 _ Tryz.underlying37 hi hz0 .i64 .i64 n n (by omega) (Int.le_refl _) (by rw [hz2]; omega) (by omega)
  rw [hz1] at hr
  simp only [Int.toNat_natCast] at hr
  exact ⟨_, size_madeCells _ _, hr⟩
theorem pset_block {b : Nat} {T : TypeId} : ∀ (vs : List Value) (o : Nat) (w : World) (C : Array Value), w.heap[b]? = some (.cells C T (0, 0)) → ∃ C', (w.setCells b o vs).heap[b]? = some (.cells C' T (0, 0)) ∧ C'.size = C.size
  | [], o, w, C, h => ⟨C, h, rfl⟩
  | v :: r, o, w, C, h => by
    obtain ⟨C', h1, h2⟩ := pset_block r (o + 1) (w.setCell ⟨b, o, none⟩ v) _ (block_set h o v)
    exact ⟨C', h1, by rw [h2]; simp⟩
theorem pset_below {n b : Nat} {a : World} (hb : n ≤ b) : ∀ (vs : List Value) (o : Nat) (w : World), Below n a w → Below n a (w.setCells b o vs)
  | [], o, w, h => h
  | v :: r, o, w, h => pset_below hb r (o + 1) _ (h.setCell (p := ⟨b, o, none⟩) hb v)
theorem pthere {w : World} {b o n : Nat} {C : Array Value} {T : TypeId} (h : w.heap[b]? = some (.cells C T (0, 0))) (hn : o + n ≤ C.size) : w.there b o n := fun j hj => by
  refine ⟨?_, free_of_block h (o + j)⟩
  rw [cell_of_block h]
  simp only [Array.getElem?_eq_getElem (show o + j < C.size by omega), Option.isSome_some]
def PrR (w : World) (g off : Nat) (p : Pl.Pr) : Prop := ∀ j v, (prL p)[j]? = some v → w.cell? ⟨g, off + j, none⟩ = some v
theorem PrR.at {w : World} {g off : Nat} {p : Pl.Pr} (h : PrR w g off p) : PrAt w g off p := ⟨h 0 _ rfl, h 1 _ rfl, h 2 _ rfl, h 3 _ rfl⟩
theorem PrR.later {w w1 : World} {g off : Nat} {p : Pl.Pr} (h : PrR w g off p) (hB : Below w.heap.size w w1) (hg : g < w.heap.size) : PrR w1 g off p := fun j v hv => by
  rw [hB.cell (p := ⟨g, off + j, none⟩) hg]; exact h j v hv
/-- as many as were copied so far -/
def ToQ (l : List Pl.Pr) (w : World) (i : Nat) (wr : World) : Prop :=
  (∃ C, wr.heap[w.heap.size]? = some (.cells C 51 (0, 0)) ∧ C.size = l.length * 4) ∧ (∀ j e, j < i → l[j]? = some e → PrR wr w.heap.size (j * 4) e) ∧ Below w.heap.size w wr
theorem ToQ.start {l : List Pl.Pr} {w : World} {M : Array Value} (h : M.size = l.length * 4) : ToQ l w 0 (w.alloc (.cells M 51)) :=
  ⟨⟨M, by rw [heap_alloc_at, if_pos rfl], h⟩, fun j e hj => by omega, (Below.refl _ _).alloc (Nat.le_refl _) _⟩
theorem ToQ.lt {l : List Pl.Pr} {w wr : World} {i : Nat} (h : ToQ l w i wr) : w.heap.size < wr.heap.size := by
  obtain ⟨⟨C, h0, _⟩, _⟩ := h
  exact (Array.getElem?_eq_some_iff.1 h0).1
theorem ToQ.later {l : List Pl.Pr} {w wr w1 : World} {i : Nat} (h : ToQ l w i wr) (hB : Below wr.heap.size wr w1) : ToQ l w i w1 := by
  have hlt := h.lt
  obtain ⟨⟨C, h0, hC⟩, h1, h2⟩ := h
  exact ⟨⟨C, (hB.block _ hlt).trans h0, hC⟩, fun j e hj he => (h1 j e hj he).later hB hlt, h2.trans (hB.mono h2.size)⟩
theorem ToQ.there {l : List Pl.Pr} {w wr : World} {i : Nat} (h : ToQ l w i wr) (hi : i < l.length) : wr.there w.heap.size (i * 4) 4 := by
  obtain ⟨⟨C, h0, hC⟩, _⟩ := h
  exact pthere h0 (by omega)
theorem ToQ.next {l : List Pl.Pr} {w wr : World} {i : Nat} {e : Pl.Pr} (h : ToQ l w i wr) (he : l[i]? = some e) : ToQ l w (i + 1) (wr.setCells w.heap.size (i * 4) (prL e)) := by
  have hi : i < l.length := (List.getElem?_eq_some_iff.1 he).1
  have ht := h.there hi
  obtain ⟨⟨C, h0, hC⟩, h1, h2⟩ := h
  obtain ⟨C', h3, h4⟩ := pset_block (prL e) (i * 4) wr C h0
  refine ⟨⟨C', h3, by omega⟩, fun j e' hj he' => ?_, pset_below (Nat.le_refl _) _ _ _ h2⟩
  by_cases hji : j = i
  · subst hji
    rw [he] at he'
    obtain rfl := Option.some.inj he'
    exact World.rangeAt_setCells_same wr w.heap.size (j * 4) (prL e) ht
  · exact World.rangeAt_setCells_apart (cs := prL e') (h1 j e' (by omega) he') w.heap.size (i * 4) (prL e) (.inr (.inl (by show j * 4 + 4 ≤ i * 4; omega)))
theorem ToQ.done {l : List Pl.Pr} {w wr : World} (h : ToQ l w l.length wr) (hN : l.length ≤ 1048576) : PrRow wr l (.slice (some ⟨w.heap.size, 0, none⟩) l.length l.length) := by
  have hlt := h.lt
  obtain ⟨⟨C, h0, hC⟩, h1, h2⟩ := h
  refine ⟨_, _, rfl, Nat.le_refl _, by unfold maxLen; omega, fun _ => ⟨_, _, rfl, hlt, fun i e he => ?_⟩⟩
  have := (h1 i e (List.getElem?_eq_some_iff.1 he).1 he).at
  rwa [show 0 + i * 4 = i * 4 by omega]
theorem ws_pr {ops : Array Oper} {rest : List Oper} {o : Oper} {a : Act} {W : World} {Q : Exit → Act → World → Prop} (hgd : o.guard = none) (x y : Operand) (ho : o.op = .store 51 x y)
    (b off : Nat) (hx : a.eval x = .pointer (some ⟨b, off, none⟩)) (e : Pl.Pr) (hy : a.eval y = prV e) (ht : W.there b off 4)
    (h : wpList Tryz.prog ops Q rest (a.put o.dst undef) (W.setCells b off (prL e))) : wpList Tryz.prog ops Q (o :: rest) a W :=
  wpList_store_mid hgd 51 x y ho b off (prL e).toArray hx hy ht infoPrS (by simp [Value.oneCell']) h
set_option maxRecDepth 100000 in
set_option maxHeartbeats 1600000 in
theorem toPairS_any (l : List Pl.Pr) (hN : l.length ≤ 1048576) (v : Value) (w : World) (hr : PrRow w l v) :
    Calls Tryz.prog 13 #[v] w fun x w' => x = .returned (.slice (some ⟨w.heap.size, 0, none⟩) l.length l.length) ∧ ToQ l w l.length w' := by
  obtain ⟨ad, cap, rfl, hc, hmx, hx⟩ := hr
  unfold maxLen at hmx
  have HX := hide hx
  clear hx
  obtain ⟨M, hMs, hmk⟩ := made_pr l.length hN w
  have HMs := hide hMs
  clear hMs
  go_enter Tryz.func13, Tryz.ntmps13
  go_wp2_with fail
  go_loopw [4] (fun iv wr => ∃ i : Nat, i ≤ l.length ∧ iv = .int .i64 i ∧ Hid (ToQ l w i wr)) (fun iv _ => l.length - (intOf iv).toNat)
  case atStart => exact ⟨0, by omega, rfl, hide (ToQ.start HMs.out)⟩
  case round =>
    obtain ⟨i, hi, rfl, HT⟩ := hrel
    by_cases hlt : i < l.length
    · obtain ⟨g, off, rfl, hg, hs⟩ := HX.out (by omega)
      obtain ⟨e, he⟩ : ∃ e, l[i]? = some e := ⟨_, List.getElem?_eq_getElem hlt⟩
      obtain ⟨c0, c1, c2, c3⟩ := (hs i e he).later HT.out.2.2 hg
      have hgr : g < wr.heap.size := by have := HT.out.2.2.size; omega
      have hcall := hide (toPair_any e)
      have HE := hide he
      have hii : (i : Int) < (l.length : Int) := by omega
      clear hs he hmk
      go_wp2_with fail
      refine (hcall.out _).mono ?_
      rintro x1 X1 ⟨rfl, hB1⟩
      have HT1 := hide (HT.out.later hB1)
      have HTH := hide (HT1.out.there hlt)
      have HNX := hide (HT1.out.next HE.out)
      clear hB1 hcall HT HT1 c0 c1 c2 c3 hgr
      go_wp2_with (first
        | (with_reducible show wpList _ _ _ (Oper.mk _ (Op.store 51 _ _) _ _ _ _ :: _) _ _; refine ws_pr rfl (.tmp 21) (.tmp 20) rfl w.heap.size (i * 4) rfl e rfl HTH.out ?_))
      exact ⟨⟨i + 1, by omega, by go_num, HNX⟩, by simp [intOf]; omega⟩
    · have hie : i = l.length := by omega
      have HD : Hid (ToQ l w l.length wr) := by rw [← hie]; exact HT
      clear hie hmk
      go_wp2_with fail
      go_ret
      exact ⟨rfl, HD.out⟩
end Go.Proofs.YtiffgomkhoalpaaGreatDoor

/- Two copies of names with values held against each other. -/
namespace Go.Proofs.YtiffgomkhoalpaaGreatDoor
open Go.RowKit
set_option linter.unusedVariables false
set_option linter.unusedSimpArgs false
theorem two_below' (w : World) (A B : Obj) : Below w.heap.size w ((w.alloc A).alloc B) := ((Below.refl _ _).alloc (Nat.le_refl _) A).alloc (by simp) B
set_option maxHeartbeats 800000 in
theorem eqPair_any (p : Pl.Pr) (w : World) :
    Calls Tryz.prog 37 #[prV p, prV p] w fun e w' => e = .returned (.bool true) ∧ Below w.heap.size w w' := by
  obtain ⟨nm, vk, vn, vt⟩ := p
  have hv := hide (eqValue_any vk vn vt)
  go_enter Tryz.func37, Tryz.ntmps37
  go_wp2_with fail
  refine (hv.out _).mono ?_
  rintro e w1 ⟨rfl, hB1⟩
  have HB := hide ((two_below' w _ _).trans (hB1.mono (two_below' w _ _).size))
  clear hB1 hv
  go_wp2
  go_ret
  exact ⟨rfl, HB.out⟩
end Go.Proofs.YtiffgomkhoalpaaGreatDoor

/- Two copies of rows of names with values held against each other. -/
namespace Go.Proofs.YtiffgomkhoalpaaGreatDoor
open Go.RowKit
set_option linter.unusedVariables false
set_option linter.unusedSimpArgs false
set_option maxHeartbeats 1600000 in
theorem eqPairS_any (l : List Pl.Pr) (hN : l.length ≤ 1048576) (va vb : Value) (w : World) (ha : PrRow w l va) (hb : PrRow w l vb) :
    Calls Tryz.prog 17 #[va, vb] w fun x w' => x = .returned (.bool true) ∧ Below w.heap.size w w' := by
  obtain ⟨aa, ca, rfl, hca, hma, hxa⟩ := ha
  obtain ⟨ab, cb, rfl, hcb, hmb, hxb⟩ := hb
  unfold maxLen at hma hmb
  have HXA := hide hxa
  have HXB := hide hxb
  clear hxa hxb
  go_enter Tryz.func17, Tryz.ntmps17
  go_wp2_with fail
  go_loopw [5] (fun iv wr => ∃ i : Nat, i ≤ l.length ∧ iv = .int .i64 i ∧ Hid (Below w.heap.size w wr)) (fun iv _ => l.length - (intOf iv).toNat)
  case atStart => exact ⟨0, by omega, rfl, hide (Below.refl _ _)⟩
  case round =>
    obtain ⟨i, hi, rfl, hB⟩ := hrel
    by_cases hlt : i < l.length
    · obtain ⟨ga, oa, rfl, hga, hsa⟩ := HXA.out (by omega)
      obtain ⟨gb, ob, rfl, hgb, hsb⟩ := HXB.out (by omega)
      obtain ⟨e, he⟩ : ∃ e, l[i]? = some e := ⟨_, List.getElem?_eq_getElem hlt⟩
      obtain ⟨d0, d1, d2, d3⟩ := (hsa i e he).later hB.out hga
      obtain ⟨f0, f1, f2, f3⟩ := (hsb i e he).later hB.out hgb
      have hga' : ga < wr.heap.size := by have := hB.out.size; omega
      have hgb' : gb < wr.heap.size := by have := hB.out.size; omega
      have hq := hide (eqPair_any e)
      clear hsa hsb he
      have hii : (i : Int) < (l.length : Int) := by omega
      go_wp2_with fail
      go_region_with (go_at_call 37; refine (hq.out _).mono ?_; rintro x w3 ⟨rfl, hB3⟩)
      all_goals
        clear d0 d1 d2 d3 f0 f1 f2 f3 hq
        go_wp2
        go_roundw
        case rel => exact ⟨i + 1, by omega, by go_num, hide (hB.out.drew.trans (hB3.mono hB.out.size))⟩
        case measure => simp [intOf]; omega
    · go_wp2
      go_ret
      exact ⟨rfl, hB.out⟩
end Go.Proofs.YtiffgomkhoalpaaGreatDoor

/- The law on ExprEval, walked. -/
namespace Go.Proofs.YtiffgomkhoalpaaGreatDoor
open Go.RowKit
set_option linter.unusedVariables false
set_option linter.unusedSimpArgs false
/-- a value in a box -/
def V3 (b : Nat) (k n : Int) (t : ByteArray) (W : World) : Prop := W.heap[b]? = some (.cells #[.int .i64 k, .int .i64 n, .string t] 30 (0, 0))
theorem V3.later {b : Nat} {k n : Int} {t : ByteArray} {W W1 : World} (h : V3 b k n t W) (hB : Below W.heap.size W W1) : V3 b k n t W1 := (hB.block _ (Array.getElem?_eq_some_iff.1 h).1).trans h
theorem V3.start {W : World} {k n : Int} {t : ByteArray} : V3 W.heap.size k n t (W.alloc (.cells #[.int .i64 k, .int .i64 n, .string t] 30)) := by
  unfold V3
  rw [heap_alloc_at, if_pos rfl]
theorem V3.cells {b : Nat} {k n : Int} {t : ByteArray} {W : World} (h : V3 b k n t W) : b < W.heap.size ∧ W.cell? ⟨b, 0, none⟩ = some (.int .i64 k) ∧ W.cell? ⟨b, 1, none⟩ = some (.int .i64 n) ∧ W.cell? ⟨b, 2, none⟩ = some (.string t) :=
  ⟨(Array.getElem?_eq_some_iff.1 h).1, cell_of_block h 0, cell_of_block h 1, cell_of_block h 2⟩
theorem nxt {n : Nat} {w X X1 : World} (h : Below n w X) (hn : n ≤ X.heap.size) (hB : Below X.heap.size X X1) : Below n w X1 := h.trans (hB.mono hn)
theorem one_on {X : World} {o : Obj} : Below X.heap.size X (X.alloc o) := (Below.refl _ _).alloc (Nat.le_refl _) _
theorem evR_tuple (r : Option Va) : ∃ (z : Va) (b : Bool), evR r = .tuple #[vaV z, .bool b] := by
  cases r with
  | none => exact ⟨⟨0, 0, ⟨#[]⟩⟩, false, rfl⟩
  | some x => exact ⟨x, true, rfl⟩
set_option maxRecDepth 100000 in
set_option maxHeartbeats 6400000 in
theorem lawExprEval (nd : Nd) (k : Fo) (v : Value) (l : List Pl.Pr) (hpw : ∀ p ∈ l, PrWf p) (vl : Value) (w : World) (ht : nd.vt.size ≤ maxLen) (hn : nd.nm.size ≤ maxLen) (hwf : k.Wf) (hr : RowAt 0 w k v) (hrl : PrRow w l vl) (hE : ErrT w) :
    Calls Tryz.prog 3 #[ndV nd v, vl] w fun e w' => e = .returned (.bool true) ∧ Below w.heap.size w w' := by
  have hsz : Hid (∀ W, Below w.heap.size w W → Calls Tryz.prog 9 #[ndV nd v, .int .i64 1048576] W (SzPost k 1048576 W)) := fun W hW => szExpr_of nd k (szExprS_any k) ht hn hwf v W 1048576 (by omega) (by omega) (hr.later hW)
  have hsp : Hid (∀ (L : Int) W, 0 ≤ L → L ≤ 1048576 → Below w.heap.size w W → Calls Tryz.prog 10 #[vl, .int .i64 L] W fun x w' => (∃ r : Int, x = .returned (.int .i64 r) ∧ (0 ≤ r → l.length ≤ 1048576)) ∧ Below W.heap.size W w') := fun L W h0 h1 hW => szPairS_any l hpw vl W (hrl.later hW) L h0 h1
  have hto : Hid (k.len ≤ 1048576 → k.Sm → ∀ W, Below w.heap.size w W → Calls Tryz.prog 12 #[ndV nd v] W (NdPost nd k W)) := fun h1 h2 W hW => toExpr_of nd k (toExprS_any k) h1 h2 v W (hr.later hW)
  have htp : Hid (l.length ≤ 1048576 → ∀ W, Below w.heap.size w W → Calls Tryz.prog 13 #[vl] W fun x w' => ∃ u, x = .returned u ∧ PrRow w' l u ∧ Below W.heap.size W w') := fun h1 W hW => (toPairS_any l h1 vl W (hrl.later hW)).mono fun x w' ⟨hx, hq⟩ => ⟨_, hx, hq.done h1, hq.2.2⟩
  obtain ⟨z, b, hz⟩ := evR_tuple (Pl.evalO l nd k)
  obtain ⟨zk, zn, zt⟩ := z
  have hs1 : Hid (k.len ≤ 1048576 → k.Sm → ∀ W u lu, RowAt 0 W k u → PrRow W l lu → Calls Tryz.prog 11 #[ndV nd u, lu] W fun e w' => e = .returned (.tuple #[.agg #[.int .i64 zk, .int .i64 zn, .string zt], .bool b]) ∧ Below W.heap.size W w') := fun h1 h2 W u lu hu hl => (specExprEval_any nd k u l hpw lu W ht hn hwf h1 h2 hu hl).mono fun e w' ⟨he, hb⟩ => ⟨by rw [he, hz], hb⟩
  have hs2 : Hid (k.len ≤ 1048576 → k.Sm → ∀ W u lu, RowAt 0 W k u → PrRow W l lu → ErrT W → Calls Tryz.prog 14 #[ndV nd u, lu] W fun e w' => e = .returned (.tuple #[.agg #[.int .i64 zk, .int .i64 zn, .string zt], .bool b]) ∧ Below W.heap.size W w') := fun h1 h2 W u lu hu hl he => (implExprEval_any nd k u l hpw lu W ht hn hwf h1 h2 hu hl he).mono fun e w' ⟨he, hb⟩ => ⟨by rw [he, hz], hb⟩
  have heq : Hid (k.len ≤ 1048576 → k.Sm → ∀ W u t, RowAt 0 W k u → RowAt 0 W k t → Calls Tryz.prog 16 #[ndV nd u, ndV nd t] W fun e w' => e = .returned (.bool true) ∧ Below W.heap.size W w') := fun h1 h2 W u t hu hv => eqExpr_of nd k (eqExprS_any k) h1 h2 u t W hu hv
  have hqp : Hid (l.length ≤ 1048576 → ∀ W u t, PrRow W l u → PrRow W l t → Calls Tryz.prog 17 #[u, t] W fun e w' => e = .returned (.bool true) ∧ Below W.heap.size W w') := fun h1 W u t hu hv => eqPairS_any l h1 u t W hu hv
  have heqv := hide (eqValue_any zk zn zt)
  have HE := hide hE
  obtain ⟨a2, c2, rfl, _⟩ := hrl
  clear ht hn hwf hr hpw hE hz
  go_enter Tryz.func3, Tryz.ntmps3
  go_wp2_with fail
  refine (hsz.out _ ((Below.refl _ _).alloc (Nat.le_refl _) _)).mono ?_
  rintro e w1 ⟨r, rfl, hr0, hr1, hr2, hB1⟩
  have HBox := hide ((Box6.mk (nd := nd) (v := v) (T := 26) w).later hB1)
  have HB1 : Hid (Below w.heap.size w w1) := ((Below.refl _ _).alloc (Nat.le_refl _) _).trans (hB1.mono (by simp))
  clear hB1 hsz
  by_cases hneg : r < 0
  · go_wp2
    go_ret
    exact ⟨rfl, HB1.out⟩
  · obtain ⟨hl, hsm, _⟩ := hr2 (by omega)
    have HTO := hide (hto.out hl hsm)
    have HS1 := hide (hs1.out hl hsm)
    have HS2 := hide (hs2.out hl hsm)
    have HEQ := hide (heq.out hl hsm)
    have HSP := hide (hsp.out r w1 (by omega) (by omega) HB1.out)
    clear hto hs1 hs2 heq hsm hl hr2 hsp
    go_wp2_with fail
    refine HSP.out.mono ?_
    rintro e w2 ⟨⟨r2, rfl, hq⟩, hB2⟩
    have HBox2 := hide (HBox.out.later hB2)
    have HB2 := hide (nxt HB1.out HB1.out.size hB2)
    clear hB2 HSP HBox HB1
    by_cases hneg2 : r2 < 0
    · go_wp2
      go_ret
      exact ⟨rfl, HB2.out⟩
    · have hN := hq (by omega)
      have HTP := hide (htp.out hN)
      have HQP := hide (hqp.out hN)
      clear htp hqp hq
      obtain ⟨_, b0, b1, b2, b3, b4, b5⟩ := HBox2.out
      go_wp2_with fail
      refine (HTO.out _ HB2.out).mono ?_
      rintro e w3 ⟨u1, rfl, hu1, _, hB3⟩
      have HU3 := hide (hu1.low (Nat.zero_le _))
      have HBox3 := hide (HBox2.out.later hB3)
      have HB3 := hide (nxt HB2.out HB2.out.size hB3)
      clear hu1 hB3 b0 b1 b2 b3 b4 b5 HBox2 HB2
      go_wp2_with fail
      refine (HTP.out _ HB3.out).mono ?_
      rintro e w4 ⟨lu1, rfl, hl4, hB4⟩
      have HU4 := hide (HU3.out.later hB4)
      have HL4 := hide hl4
      have HBox4 := hide (HBox3.out.later hB4)
      have HB4 := hide (nxt HB3.out HB3.out.size hB4)
      clear hl4 hB4 HU3 HBox3 HB3
      go_wp2_with fail
      refine (HS1.out _ _ _ HU4.out HL4.out).mono ?_
      rintro e w5 ⟨rfl, hB5⟩
      have HBox5 := hide (HBox4.out.later hB5)
      have HB5 := hide (nxt HB4.out HB4.out.size hB5)
      clear hB5 HU4 HL4 HBox4 HB4 HS1
      have HV5 := hide (V3.start (W := w5) (k := zk) (n := zn) (t := zt))
      have HBox5a := hide (HBox5.out.later (one_on (o := .cells #[.int .i64 zk, .int .i64 zn, .string zt] 30)))
      have HB5a := hide (nxt HB5.out HB5.out.size (one_on (o := .cells #[.int .i64 zk, .int .i64 zn, .string zt] 30)))
      obtain ⟨_, b0, b1, b2, b3, b4, b5⟩ := HBox5.out
      go_wp2_with fail
      refine (HTO.out _ HB5a.out).mono ?_
      rintro e w6 ⟨u2, rfl, hu2, _, hB6⟩
      have HU6 := hide (hu2.low (Nat.zero_le _))
      have HBox6 := hide (HBox5a.out.later hB6)
      have HV6 := hide (HV5.out.later hB6)
      have HB6 := hide (nxt HB5a.out HB5a.out.size hB6)
      obtain ⟨ad2, cap2, rfl, _, _, _⟩ := hu2
      clear hB6 b0 b1 b2 b3 b4 b5 HBox5 HB5 HBox5a HB5a HV5
      generalize k.len = kl at *
      have HX := hide (Box6.mk (nd := nd) (v := .slice ad2 kl cap2) (T := 35) w6)
      have HA6 : Hid (Below w6.heap.size w6 (w6.alloc (.cells #[.int .i64 nd.k, .int .i64 nd.vk, .int .i64 nd.vn, .string nd.vt, .string nd.nm, .slice ad2 kl cap2] 35))) := one_on
      have HB6a := hide (nxt HB6.out HB6.out.size HA6.out)
      go_wp2_with fail
      refine (HTP.out _ HB6a.out).mono ?_
      rintro e w7 ⟨lu2, rfl, hl7, hB7⟩
      have HL7 := hide hl7
      have HX7 := hide (HX.out.later hB7)
      have HU7 := hide ((HU6.out.later HA6.out).later hB7)
      have HBox7 := hide ((HBox6.out.later HA6.out).later hB7)
      have HV7 := hide ((HV6.out.later HA6.out).later hB7)
      have HB7 := hide (nxt HB6a.out HB6a.out.size hB7)
      have HE7 := hide (HE.out.later HB7.out)
      clear hl7 hB7 HX HU6 HBox6 HV6 HB6 HA6 HB6a HE
      obtain ⟨_, x0, x1, x2, x3, x4, x5⟩ := HX7.out
      go_wp2_with fail
      refine (HS2.out _ _ _ HU7.out HL7.out HE7.out).mono ?_
      rintro e w8 ⟨rfl, hB8⟩
      have HX8 := hide (HX7.out.later hB8)
      have HU8 := hide (HU7.out.later hB8)
      have HL8 := hide (HL7.out.later hB8)
      have HBox8 := hide (HBox7.out.later hB8)
      have HV8 := hide (HV7.out.later hB8)
      have HB8 := hide (nxt HB7.out HB7.out.size hB8)
      clear hB8 x0 x1 x2 x3 x4 x5 HX7 HU7 HL7 HBox7 HV7 HB7 HE7 HS2
      obtain ⟨vb, v0, v1, v2⟩ := HV8.out.cells
      have HA8 : Hid (Below w8.heap.size w8 (w8.alloc (.cells #[.int .i64 zk, .int .i64 zn, .string zt] 30))) := one_on
      go_wp2_with fail
      refine (heqv.out _).mono ?_
      rintro e w9 ⟨rfl, hB9⟩
      have HX9 := hide ((HX8.out.later HA8.out).later hB9)
      have HU9 := hide ((HU8.out.later HA8.out).later hB9)
      have HL9 := hide ((HL8.out.later HA8.out).later hB9)
      have HBox9 := hide ((HBox8.out.later HA8.out).later hB9)
      have HB9 := hide (nxt (nxt HB8.out HB8.out.size HA8.out) (HB8.out.trans (HA8.out.mono HB8.out.size)).size hB9)
      clear hB9 vb v0 v1 v2 HX8 HU8 HL8 HBox8 HV8 HB8 HA8 heqv
      have hne : (b != b) = false := by cases b <;> rfl
      obtain ⟨_, b0, b1, b2, b3, b4, b5⟩ := HBox9.out
      obtain ⟨_, x0, x1, x2, x3, x4, x5⟩ := HX9.out
      go_wp2_with fail
      go_region_with (first | (go_at_call 12; refine (HTO.out _ HB9.out.drew).mono ?_; rintro e w10 ⟨u3, rfl, hu3, _, hB10⟩; have hB910 : Hid (Below w9.heap.size w9 w10) := (Below.refl _ _).drew.trans hB10; have HU10 := hide (hu3.low (Nat.zero_le _)); have HU10b := hide (HU9.out.later hB910.out); obtain ⟨_, y0, y1, y2, y3, y4, y5⟩ := HX9.out.later hB910.out; clear hu3 hB10) | (go_at_call 16; refine (HEQ.out _ _ _ HU10b.out HU10.out).mono ?_; rintro e w11 ⟨rfl, hB11⟩))
      all_goals
        have HB10 := hide (nxt HB9.out HB9.out.size hB910.out)
        have HB11 := hide (nxt HB10.out HB10.out.size hB11)
        have HL11 := hide ((HL9.out.later hB910.out).later hB11)
        clear b0 b1 b2 b3 b4 b5 x0 x1 x2 x3 x4 x5 y0 y1 y2 y3 y4 y5 hB11 hB910 HX9 HU9 HL9 HBox9 HB9 HU10 HU10b HB10
        go_wp2_with fail
        refine (HTP.out _ HB11.out).mono ?_
        rintro e w12 ⟨lu3, rfl, hl12, hB12⟩
        have HL12 := hide (HL11.out.later hB12)
        have HLN := hide hl12
        have HB12 := hide (nxt HB11.out HB11.out.size hB12)
        clear hl12 hB12 HL11 HB11
        go_wp2_with fail
        refine (HQP.out _ _ _ HL12.out HLN.out).mono ?_
        rintro e w13 ⟨rfl, hB13⟩
        have HB13 := hide (nxt HB12.out HB12.out.size hB13)
        clear hB13 HL12 HLN HB12
        go_wp2
        go_ret
        exact ⟨rfl, HB13.out⟩
end Go.Proofs.YtiffgomkhoalpaaGreatDoor

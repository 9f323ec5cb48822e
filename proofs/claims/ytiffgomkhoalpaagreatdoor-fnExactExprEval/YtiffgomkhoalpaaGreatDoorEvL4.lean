/- Rows of names with values copied by the laws. -/
import Derived.Test.YtiffgomkhoalpaaGreatDoorEvL2
import Derived.Test.YtiffgomkhoalpaaGreatDoorTo
namespace Go.Proofs.YtiffgomkhoalpaaGreatDoor
open Go.RowKit
set_option linter.unusedVariables false
set_option linter.unusedSimpArgs false
theorem infoPr : (Tryz.prog.info? 51).map (fun i => (i.zero, i.size, i.bytes)) = some (some (.agg #[.string ⟨#[]⟩, .int .i64 0, .int .i64 0, .string ⟨#[]⟩]), 4, 48) := by kernel_rfl
theorem infoPrS : (Tryz.prog.info? 51).map (·.size) = some 4 := by kernel_rfl
theorem made_pr (n : Nat) (hn : n ≤ 1048576) (w : World) : ∃ M : Array Value, M.size = n * 4 ∧
    (Instr.makeSlice 37 (.int .i64 (n : Int)) (.int .i64 (n : Int))).run Tryz.prog w = .ok (.slice (some ⟨w.heap.size, 0, none⟩) n n) (w.alloc (.cells M 51)) := by
  obtain ⟨i0, hi, hz0, hz1, hz2⟩ := info_parts infoPr
  have hr := run_make (P := Tryz.prog) w 37 51 i0 _ Tryz.underlying37 hi hz0 .i64 .i64 n n (by omega) (Int.le_refl _) (by rw [hz2]; omega) (by omega)
  rw [hz1] at hr
  simp only [Int.toNat_natCast] at hr
  exact ⟨_, size_madeCells _ _, hr⟩
theorem pset_block {b : Nat} {T : TypeId} : ∀ (vs : List Value) (o : Nat) (w : World) (C : Array Value), w.heap[b]? = some (.cells C T (0, 0)) → ∃ C', (w.setCells b o vs).heap[b]? = some (.cells C' T (0, 0)) ∧ C'.size = C.size
  | [], o, w, C, h => ⟨C, h, rfl⟩
  | v :: r, o, w, C, h => by
    obtain ⟨C', h1, h2⟩ := pset_block r (o + 1) (w.setCell ⟨b, o, none⟩ v) _ (block_set h o v)
    exact ⟨C', h1, by rw [h2]; simp⟩
theorem pset_below {n b : Nat} {a : World} (hb : n ≤ b) : ∀ (vs : List Value) (o : Nat) (w : World), Below n a w → Below n a (w.setCells b o vs)
  | [], o, w, h => h
  | v :: r, o, w, h => pset_below hb r (o + 1) _ (h.setCell (p := ⟨b, o, none⟩) hb v)
theorem pthere {w : World} {b o n : Nat} {C : Array Value} {T : TypeId} (h : w.heap[b]? = some (.cells C T (0, 0))) (hn : o + n ≤ C.size) : w.there b o n := fun j hj => by
  refine ⟨?_, free_of_block h (o + j)⟩
  rw [cell_of_block h]
  simp only [Array.getElem?_eq_getElem (show o + j < C.size by omega), Option.isSome_some]
def PrR (w : World) (g off : Nat) (p : Pl.Pr) : Prop := ∀ j v, (prL p)[j]? = some v → w.cell? ⟨g, off + j, none⟩ = some v
theorem PrR.at {w : World} {g off : Nat} {p : Pl.Pr} (h : PrR w g off p) : PrAt w g off p := ⟨h 0 _ rfl, h 1 _ rfl, h 2 _ rfl, h 3 _ rfl⟩
theorem PrR.later {w w1 : World} {g off : Nat} {p : Pl.Pr} (h : PrR w g off p) (hB : Below w.heap.size w w1) (hg : g < w.heap.size) : PrR w1 g off p := fun j v hv => by
  rw [hB.cell (p := ⟨g, off + j, none⟩) hg]; exact h j v hv
/-- as many as were copied so far -/
def ToQ (l : List Pl.Pr) (w : World) (i : Nat) (wr : World) : Prop :=
  (∃ C, wr.heap[w.heap.size]? = some (.cells C 51 (0, 0)) ∧ C.size = l.length * 4) ∧ (∀ j e, j < i → l[j]? = some e → PrR wr w.heap.size (j * 4) e) ∧ Below w.heap.size w wr
theorem ToQ.start {l : List Pl.Pr} {w : World} {M : Array Value} (h : M.size = l.length * 4) : ToQ l w 0 (w.alloc (.cells M 51)) :=
  ⟨⟨M, by rw [heap_alloc_at, if_pos rfl], h⟩, fun j e hj => by omega, (Below.refl _ _).alloc (Nat.le_refl _) _⟩
theorem ToQ.lt {l : List Pl.Pr} {w wr : World} {i : Nat} (h : ToQ l w i wr) : w.heap.size < wr.heap.size := by
  obtain ⟨⟨C, h0, _⟩, _⟩ := h
  exact (Array.getElem?_eq_some_iff.1 h0).1
theorem ToQ.later {l : List Pl.Pr} {w wr w1 : World} {i : Nat} (h : ToQ l w i wr) (hB : Below wr.heap.size wr w1) : ToQ l w i w1 := by
  have hlt := h.lt
  obtain ⟨⟨C, h0, hC⟩, h1, h2⟩ := h
  exact ⟨⟨C, (hB.block _ hlt).trans h0, hC⟩, fun j e hj he => (h1 j e hj he).later hB hlt, h2.trans (hB.mono h2.size)⟩
theorem ToQ.there {l : List Pl.Pr} {w wr : World} {i : Nat} (h : ToQ l w i wr) (hi : i < l.length) : wr.there w.heap.size (i * 4) 4 := by
  obtain ⟨⟨C, h0, hC⟩, _⟩ := h
  exact pthere h0 (by omega)
theorem ToQ.next {l : List Pl.Pr} {w wr : World} {i : Nat} {e : Pl.Pr} (h : ToQ l w i wr) (he : l[i]? = some e) : ToQ l w (i + 1) (wr.setCells w.heap.size (i * 4) (prL e)) := by
  have hi : i < l.length := (List.getElem?_eq_some_iff.1 he).1
  have ht := h.there hi
  obtain ⟨⟨C, h0, hC⟩, h1, h2⟩ := h
  obtain ⟨C', h3, h4⟩ := pset_block (prL e) (i * 4) wr C h0
  refine ⟨⟨C', h3, by omega⟩, fun j e' hj he' => ?_, pset_below (Nat.le_refl _) _ _ _ h2⟩
  by_cases hji : j = i
  · subst hji
    rw [he] at he'
    obtain rfl := Option.some.inj he'
    exact World.rangeAt_setCells_same wr w.heap.size (j * 4) (prL e) ht
  · exact World.rangeAt_setCells_apart (cs := prL e') (h1 j e' (by omega) he') w.heap.size (i * 4) (prL e) (.inr (.inl (by show j * 4 + 4 ≤ i * 4; omega)))
theorem ToQ.done {l : List Pl.Pr} {w wr : World} (h : ToQ l w l.length wr) (hN : l.length ≤ 1048576) : PrRow wr l (.slice (some ⟨w.heap.size, 0, none⟩) l.length l.length) := by
  have hlt := h.lt
  obtain ⟨⟨C, h0, hC⟩, h1, h2⟩ := h
  refine ⟨_, _, rfl, Nat.le_refl _, by unfold maxLen; omega, fun _ => ⟨_, _, rfl, hlt, fun i e he => ?_⟩⟩
  have := (h1 i e (List.getElem?_eq_some_iff.1 he).1 he).at
  rwa [show 0 + i * 4 = i * 4 by omega]
theorem ws_pr {ops : Array Oper} {rest : List Oper} {o : Oper} {a : Act} {W : World} {Q : Exit → Act → World → Prop} (hgd : o.guard = none) (x y : Operand) (ho : o.op = .store 51 x y)
    (b off : Nat) (hx : a.eval x = .pointer (some ⟨b, off, none⟩)) (e : Pl.Pr) (hy : a.eval y = prV e) (ht : W.there b off 4)
    (h : wpList Tryz.prog ops Q rest (a.put o.dst undef) (W.setCells b off (prL e))) : wpList Tryz.prog ops Q (o :: rest) a W :=
  wpList_store_mid hgd 51 x y ho b off (prL e).toArray hx hy ht infoPrS (by simp [Value.oneCell']) h
set_option maxRecDepth 100000 in
set_option maxHeartbeats 1600000 in
theorem toPairS_any (l : List Pl.Pr) (hN : l.length ≤ 1048576) (v : Value) (w : World) (hr : PrRow w l v) :
    Calls Tryz.prog 13 #[v] w fun x w' => x = .returned (.slice (some ⟨w.heap.size, 0, none⟩) l.length l.length) ∧ ToQ l w l.length w' := by
  obtain ⟨ad, cap, rfl, hc, hmx, hx⟩ := hr
  unfold maxLen at hmx
  have HX := hide hx
  clear hx
  obtain ⟨M, hMs, hmk⟩ := made_pr l.length hN w
  have HMs := hide hMs
  clear hMs
  go_enter Tryz.func13, Tryz.ntmps13
  go_wp2_with fail
  go_loopw [4] (fun iv wr => ∃ i : Nat, i ≤ l.length ∧ iv = .int .i64 i ∧ Hid (ToQ l w i wr)) (fun iv _ => l.length - (intOf iv).toNat)
  case atStart => exact ⟨0, by omega, rfl, hide (ToQ.start HMs.out)⟩
  case round =>
    obtain ⟨i, hi, rfl, HT⟩ := hrel
    by_cases hlt : i < l.length
    · obtain ⟨g, off, rfl, hg, hs⟩ := HX.out (by omega)
      obtain ⟨e, he⟩ : ∃ e, l[i]? = some e := ⟨_, List.getElem?_eq_getElem hlt⟩
      obtain ⟨c0, c1, c2, c3⟩ := (hs i e he).later HT.out.2.2 hg
      have hgr : g < wr.heap.size := by have := HT.out.2.2.size; omega
      have hcall := hide (toPair_any e)
      have HE := hide he
      have hii : (i : Int) < (l.length : Int) := by omega
      clear hs he hmk
      go_wp2_with fail
      refine (hcall.out _).mono ?_
      rintro x1 X1 ⟨rfl, hB1⟩
      have HT1 := hide (HT.out.later hB1)
      have HTH := hide (HT1.out.there hlt)
      have HNX := hide (HT1.out.next HE.out)
      clear hB1 hcall HT HT1 c0 c1 c2 c3 hgr
      go_wp2_with (first
        | (with_reducible show wpList _ _ _ (Oper.mk _ (Op.store 51 _ _) _ _ _ _ :: _) _ _; refine ws_pr rfl (.tmp 21) (.tmp 20) rfl w.heap.size (i * 4) rfl e rfl HTH.out ?_))
      exact ⟨⟨i + 1, by omega, by go_num, HNX⟩, by simp [intOf]; omega⟩
    · have hie : i = l.length := by omega
      have HD : Hid (ToQ l w l.length wr) := by rw [← hie]; exact HT
      clear hie hmk
      go_wp2_with fail
      go_ret
      exact ⟨rfl, HD.out⟩
end Go.Proofs.YtiffgomkhoalpaaGreatDoor

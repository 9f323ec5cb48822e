/- Rows of events copied by the laws. -/
import Derived.Test.YtobeecopkfgplaaLwT
namespace Go.Proofs.Ytobeecopkfgplaa
open Go.RowKit
set_option linter.unusedVariables false
set_option linter.unusedSimpArgs false
theorem infoEv3 : (Try.prog.info? 55).map (fun i => (i.zero, i.size, i.bytes)) = some (some (.agg #[.int .i64 0, .int .i64 0, .int .i64 0, .string ⟨#[]⟩, .int .i64 0, .int .i64 0, .string ⟨#[]⟩, .int .i64 0, .int .i64 0, .string ⟨#[]⟩, .int .i64 0, .int .i64 0, .string ⟨#[]⟩, .bool false, .int .i64 0, .int .i64 0, .string ⟨#[]⟩]), 17, 176) := by kernel_rfl
theorem made_ev (n : Nat) (hn : n ≤ 1048576) (w : World) : ∃ M : Array Value, M.size = n * 17 ∧
    (Instr.makeSlice 25 (.int .i64 (n : Int)) (.int .i64 (n : Int))).run Try.prog w = .ok (.slice (some ⟨w.heap.size, 0, none⟩) n n) (w.alloc (.cells M 55)) := by
  obtain ⟨i0, hi, hz0, hz1, hz2⟩ := info_parts infoEv3
  have hr := run_make (P := Try.prog) w 25 55 i0 _ Try.underlying25 hi hz0 .i64 .i64 n n (by omega) (Int.le_refl _) (by rw [hz2]; omega) (by omega)
  rw [hz1] at hr
  simp only [Int.toNat_natCast] at hr
  exact ⟨_, size_madeCells _ _, hr⟩

/-- the first i nodes are copied -/
theorem setCells_block {b : Nat} {T : TypeId} : ∀ (vs : List Value) (o : Nat) (w : World) (C : Array Value), w.heap[b]? = some (.cells C T (0, 0)) → ∃ C', (w.setCells b o vs).heap[b]? = some (.cells C' T (0, 0)) ∧ C'.size = C.size
  | [], o, w, C, h => ⟨C, h, rfl⟩
  | v :: r, o, w, C, h => by
    obtain ⟨C', h1, h2⟩ := setCells_block r (o + 1) (w.setCell ⟨b, o, none⟩ v) _ (block_set h o v)
    exact ⟨C', h1, by rw [h2]; simp⟩
theorem setCells_below {n b : Nat} {a : World} (hb : n ≤ b) : ∀ (vs : List Value) (o : Nat) (w : World), Below n a w → Below n a (w.setCells b o vs)
  | [], o, w, h => h
  | v :: r, o, w, h => setCells_below hb r (o + 1) _ (h.setCell (p := ⟨b, o, none⟩) hb v)
theorem setCells_size (b : Nat) : ∀ (vs : List Value) (o : Nat) (w : World), (w.setCells b o vs).heap.size = w.heap.size
  | [], o, w => rfl
  | v :: r, o, w => by
    rw [World.setCells, setCells_size b r (o + 1)]
    simp [World.setCell]
theorem there_block {w : World} {b o n : Nat} {C : Array Value} {T : TypeId} (h : w.heap[b]? = some (.cells C T (0, 0))) (hn : o + n ≤ C.size) : w.there b o n := fun j hj => by
  refine ⟨?_, free_of_block h (o + j)⟩
  rw [cell_of_block h]
  simp only [Array.getElem?_eq_getElem (show o + j < C.size by omega), Option.isSome_some]
/-- as many events as were copied so far -/
def ToE (l : List Ev) (w : World) (i : Nat) (wr : World) : Prop :=
  (∃ C, wr.heap[w.heap.size]? = some (.cells C 55 (0, 0)) ∧ C.size = l.length * 17) ∧ (∀ j e, j < i → l[j]? = some e → EvAt wr w.heap.size (j * 17) e) ∧ Below w.heap.size w wr
theorem ToE.start {l : List Ev} {w : World} {M : Array Value} (h : M.size = l.length * 17) : ToE l w 0 (w.alloc (.cells M 55)) :=
  ⟨⟨M, by rw [heap_alloc_at, if_pos rfl], h⟩, fun j e hj => by omega, (Below.refl _ _).alloc (Nat.le_refl _) _⟩
theorem ToE.lt {l : List Ev} {w wr : World} {i : Nat} (h : ToE l w i wr) : w.heap.size < wr.heap.size := by
  obtain ⟨⟨C, h0, _⟩, _⟩ := h
  exact (Array.getElem?_eq_some_iff.1 h0).1
theorem ToE.later {l : List Ev} {w wr w1 : World} {i : Nat} (h : ToE l w i wr) (hB : Below wr.heap.size wr w1) : ToE l w i w1 := by
  have hlt := h.lt
  obtain ⟨⟨C, h0, hC⟩, h1, h2⟩ := h
  exact ⟨⟨C, (hB.block _ hlt).trans h0, hC⟩, fun j e hj he => (h1 j e hj he).later hB hlt, h2.trans (hB.mono h2.size)⟩
theorem ToE.there {l : List Ev} {w wr : World} {i : Nat} (h : ToE l w i wr) (hi : i < l.length) : wr.there w.heap.size (i * 17) 17 := by
  obtain ⟨⟨C, h0, hC⟩, _⟩ := h
  exact there_block h0 (by omega)
theorem ToE.next {l : List Ev} {w wr : World} {i : Nat} {e : Ev} (h : ToE l w i wr) (he : l[i]? = some e) : ToE l w (i + 1) (wr.setCells w.heap.size (i * 17) (evL e)) := by
  have hi : i < l.length := (List.getElem?_eq_some_iff.1 he).1
  have ht := h.there hi
  obtain ⟨⟨C, h0, hC⟩, h1, h2⟩ := h
  obtain ⟨C', h3, h4⟩ := setCells_block (evL e) (i * 17) wr C h0
  refine ⟨⟨C', h3, by omega⟩, fun j e' hj he' => ?_, setCells_below (Nat.le_refl _) _ _ _ h2⟩
  by_cases hji : j = i
  · subst hji
    rw [he] at he'
    obtain rfl := Option.some.inj he'
    exact World.rangeAt_setCells_same wr w.heap.size (j * 17) (evL e) ht
  · exact World.rangeAt_setCells_apart (cs := evL e') (h1 j e' (by omega) he') w.heap.size (i * 17) (evL e) (.inr (.inl (by show j * 17 + 17 ≤ i * 17; omega)))
theorem ToE.done {l : List Ev} {w wr : World} (h : ToE l w l.length wr) (hN : l.length ≤ 1048576) : EvRow wr l (.slice (some ⟨w.heap.size, 0, none⟩) l.length l.length) := by
  have hlt := h.lt
  obtain ⟨⟨C, h0, hC⟩, h1, h2⟩ := h
  refine ⟨_, _, rfl, Nat.le_refl _, by unfold maxLen; omega, fun _ => ⟨_, _, rfl, hlt, fun i e he => ?_⟩⟩
  have := h1 i e (List.getElem?_eq_some_iff.1 he).1 he
  rwa [show 0 + i * 17 = i * 17 by omega]
theorem ws_mid {ops : Array Oper} {rest : List Oper} {o : Oper} {a : Act} {W : World} {Q : Exit → Act → World → Prop} (hgd : o.guard = none) (x y : Operand) (ho : o.op = .store 55 x y)
    (b off : Nat) (hx : a.eval x = .pointer (some ⟨b, off, none⟩)) (e : Ev) (hy : a.eval y = evV e) (ht : W.there b off 17)
    (h : wpList Try.prog ops Q rest (a.put o.dst undef) (W.setCells b off (evL e))) : wpList Try.prog ops Q (o :: rest) a W :=
  wpList_store_mid hgd 55 x y ho b off (evL e).toArray hx hy ht infoEv (evL_ok e).2 h
set_option maxRecDepth 100000 in
set_option maxHeartbeats 1600000 in
theorem toEventS_any (l : List Ev) (hN : l.length ≤ 1048576) (v : Value) (w : World) (hr : EvRow w l v) :
    Calls Try.prog 11 #[v] w fun x w' => x = .returned (.slice (some ⟨w.heap.size, 0, none⟩) l.length l.length) ∧ ToE l w l.length w' := by
  obtain ⟨ad, cap, rfl, hc, hmx, hx⟩ := hr
  unfold maxLen at hmx
  have HX := hide hx
  clear hx
  obtain ⟨M, hMs, hmk⟩ := made_ev l.length hN w
  have HMs := hide hMs
  clear hMs
  go_enter Try.func11, Try.ntmps11
  go_wp2_with fail
  go_loopw [4] (fun iv wr => ∃ i : Nat, i ≤ l.length ∧ iv = .int .i64 i ∧ Hid (ToE l w i wr)) (fun iv _ => l.length - (intOf iv).toNat)
  case atStart => exact ⟨0, by omega, rfl, hide (ToE.start HMs.out)⟩
  case round =>
    obtain ⟨i, hi, rfl, HT⟩ := hrel
    by_cases hlt : i < l.length
    · obtain ⟨g, off, rfl, hg, hs⟩ := HX.out (by omega)
      obtain ⟨e, he⟩ : ∃ e, l[i]? = some e := ⟨_, List.getElem?_eq_getElem hlt⟩
      have HAT := hide ((hs i e he).later HT.out.2.2 hg)
      have hcall := hide (toEvent_any e)
      have HE := hide he
      have hii : (i : Int) < (l.length : Int) := by omega
      clear hs he hmk
      go_wp2_with (first
        | (with_reducible show wpList _ _ _ (Oper.mk _ (Op.load 47 _) _ _ _ _ :: _) _ _; refine we_midL rfl (.tmp 18) rfl g (off + i * 17) rfl e HAT.out ?_)
        | fail)
      refine (hcall.out _).mono ?_
      rintro x1 X1 ⟨rfl, hB1⟩
      have HT1 := hide (HT.out.later hB1)
      have HTH := hide (HT1.out.there hlt)
      have HNX := hide (HT1.out.next HE.out)
      clear hB1 hcall HAT HT HT1
      go_wp2_with (first
        | (with_reducible show wpList _ _ _ (Oper.mk _ (Op.store 55 _ _) _ _ _ _ :: _) _ _; refine ws_mid rfl (.tmp 21) (.tmp 20) rfl w.heap.size (i * 17) rfl e rfl HTH.out ?_))
      exact ⟨⟨i + 1, by omega, by go_num, HNX⟩, by simp [intOf]; omega⟩
    · have hie : i = l.length := by omega
      have HD : Hid (ToE l w l.length wr) := by rw [← hie]; exact HT
      clear hie hmk
      go_wp2_with fail
      go_ret
      exact ⟨rfl, HD.out⟩
end Go.Proofs.Ytobeecopkfgplaa

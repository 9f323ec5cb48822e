/- Joined: LwR MkQ0 MkE MkV HeV. -/
import Derived.Test.YthimglgjeibaoaaLwT
import Derived.Test.YthimglgjeibaoaaMark
import Derived.Test.YthimglgjeibaoaaLwE
import Derived.Test.YthimglgjeibaoaaJSp
/- Rows of events copied by the laws. -/
namespace Go.Proofs.Ythimglgjeibaoaa
open Go.RowKit
set_option linter.unusedVariables false
set_option linter.unusedSimpArgs false
theorem infoEv3 : (Try.prog.info? 46).map (fun i => (i.zero, i.size, i.bytes)) = some (some (.agg #[.int .i64 0, .int .i64 0, .int .i64 0, .string ⟨#[]⟩, .int .i64 0, .int .i64 0, .string ⟨#[]⟩, .int .i64 0, .int .i64 0, .string ⟨#[]⟩, .int .i64 0, .int .i64 0, .string ⟨#[]⟩, .bool false, .int .i64 0, .int .i64 0, .string ⟨#[]⟩]), 17, 176) := by kernel_rfl
theorem made_ev (n : Nat) (hn : n ≤ 1048576) (w : World) : ∃ M : Array Value, M.size = n * 17 ∧
    (Instr.makeSlice 24 (.int .i64 (n : Int)) (.int .i64 (n : Int))).run Try.prog w = .ok (.slice (some ⟨w.heap.size, 0, none⟩) n n) (w.alloc (.cells M 46)) := by
  obtain ⟨i0, hi, hz0, hz1, hz2⟩ := info_parts infoEv3
  have hr := run_make (P := Try.prog) w 24 46 i0 _ Try.underlying24 hi hz0 .i64 .i64 n n (by omega) (Int.le_refl _) (by rw [hz2]; omega) (by omega)
  rw [hz1] at hr
  simp only [Int.toNat_natCast] at hr
  exact ⟨_, size_madeCells _ _, hr⟩

/-- the first i nodes are copied -/
theorem setCells_block {b : Nat} {T : TypeId} : ∀ (vs : List Value) (o : Nat) (w : World) (C : Array Value), w.heap[b]? = some (.cells C T (0, 0)) → ∃ C', (w.setCells b o vs).heap[b]? = some (.cells C' T (0, 0)) ∧ C'.size = C.size
  | [], o, w, C, h => ⟨C, h, rfl⟩
  | v :: r, o, w, C, h => by
    obtain ⟨C', h1, h2⟩ := setCells_block r (o + 1) (w.setCell ⟨b, o, none⟩ v) _ (block_set h o v)
    exact ⟨C', h1, by rw [h2]; simp⟩
theorem setCells_below {n b : Nat} {a : World} (hb : n ≤ b) : ∀ (vs : List Value) (o : Nat) (w : World), Below n a w → Below n a (w.setCells b o vs)
  | [], o, w, h => h
  | v :: r, o, w, h => setCells_below hb r (o + 1) _ (h.setCell (p := ⟨b, o, none⟩) hb v)
theorem setCells_size (b : Nat) : ∀ (vs : List Value) (o : Nat) (w : World), (w.setCells b o vs).heap.size = w.heap.size
  | [], o, w => rfl
  | v :: r, o, w => by
    rw [World.setCells, setCells_size b r (o + 1)]
    simp [World.setCell]
theorem there_block {w : World} {b o n : Nat} {C : Array Value} {T : TypeId} (h : w.heap[b]? = some (.cells C T (0, 0))) (hn : o + n ≤ C.size) : w.there b o n := fun j hj => by
  refine ⟨?_, free_of_block h (o + j)⟩
  rw [cell_of_block h]
  simp only [Array.getElem?_eq_getElem (show o + j < C.size by omega), Option.isSome_some]
/-- as many events as were copied so far -/
def ToE (l : List Ev) (w : World) (i : Nat) (wr : World) : Prop :=
  (∃ C, wr.heap[w.heap.size]? = some (.cells C 46 (0, 0)) ∧ C.size = l.length * 17) ∧ (∀ j e, j < i → l[j]? = some e → EvAt wr w.heap.size (j * 17) e) ∧ Below w.heap.size w wr
theorem ToE.start {l : List Ev} {w : World} {M : Array Value} (h : M.size = l.length * 17) : ToE l w 0 (w.alloc (.cells M 46)) :=
  ⟨⟨M, by rw [heap_alloc_at, if_pos rfl], h⟩, fun j e hj => by omega, (Below.refl _ _).alloc (Nat.le_refl _) _⟩
theorem ToE.lt {l : List Ev} {w wr : World} {i : Nat} (h : ToE l w i wr) : w.heap.size < wr.heap.size := by
  obtain ⟨⟨C, h0, _⟩, _⟩ := h
  exact (Array.getElem?_eq_some_iff.1 h0).1
theorem ToE.later {l : List Ev} {w wr w1 : World} {i : Nat} (h : ToE l w i wr) (hB : Below wr.heap.size wr w1) : ToE l w i w1 := by
  have hlt := h.lt
  obtain ⟨⟨C, h0, hC⟩, h1, h2⟩ := h
  exact ⟨⟨C, (hB.block _ hlt).trans h0, hC⟩, fun j e hj he => (h1 j e hj he).later hB hlt, h2.trans (hB.mono h2.size)⟩
theorem ToE.there {l : List Ev} {w wr : World} {i : Nat} (h : ToE l w i wr) (hi : i < l.length) : wr.there w.heap.size (i * 17) 17 := by
  obtain ⟨⟨C, h0, hC⟩, _⟩ := h
  exact there_block h0 (by omega)
theorem ToE.next {l : List Ev} {w wr : World} {i : Nat} {e : Ev} (h : ToE l w i wr) (he : l[i]? = some e) : ToE l w (i + 1) (wr.setCells w.heap.size (i * 17) (evL e)) := by
  have hi : i < l.length := (List.getElem?_eq_some_iff.1 he).1
  have ht := h.there hi
  obtain ⟨⟨C, h0, hC⟩, h1, h2⟩ := h
  obtain ⟨C', h3, h4⟩ := setCells_block (evL e) (i * 17) wr C h0
  refine ⟨⟨C', h3, by omega⟩, fun j e' hj he' => ?_, setCells_below (Nat.le_refl _) _ _ _ h2⟩
  by_cases hji : j = i
  · subst hji
    rw [he] at he'
    obtain rfl := Option.some.inj he'
    exact World.rangeAt_setCells_same wr w.heap.size (j * 17) (evL e) ht
  · exact World.rangeAt_setCells_apart (cs := evL e') (h1 j e' (by omega) he') w.heap.size (i * 17) (evL e) (.inr (.inl (by show j * 17 + 17 ≤ i * 17; omega)))
theorem ToE.done {l : List Ev} {w wr : World} (h : ToE l w l.length wr) (hN : l.length ≤ 1048576) : EvRow wr l (.slice (some ⟨w.heap.size, 0, none⟩) l.length l.length) := by
  have hlt := h.lt
  obtain ⟨⟨C, h0, hC⟩, h1, h2⟩ := h
  refine ⟨_, _, rfl, Nat.le_refl _, by unfold maxLen; omega, fun _ => ⟨_, _, rfl, hlt, fun i e he => ?_⟩⟩
  have := h1 i e (List.getElem?_eq_some_iff.1 he).1 he
  rwa [show 0 + i * 17 = i * 17 by omega]
theorem ws_mid {ops : Array Oper} {rest : List Oper} {o : Oper} {a : Act} {W : World} {Q : Exit → Act → World → Prop} (hgd : o.guard = none) (x y : Operand) (ho : o.op = .store 46 x y)
    (b off : Nat) (hx : a.eval x = .pointer (some ⟨b, off, none⟩)) (e : Ev) (hy : a.eval y = evV e) (ht : W.there b off 17)
    (h : wpList Try.prog ops Q rest (a.put o.dst undef) (W.setCells b off (evL e))) : wpList Try.prog ops Q (o :: rest) a W :=
  wpList_store_mid hgd 46 x y ho b off (evL e).toArray hx hy ht infoEv (evL_ok e).2 h
set_option maxRecDepth 100000 in
set_option maxHeartbeats 1600000 in
theorem toEventS_any (l : List Ev) (hN : l.length ≤ 1048576) (v : Value) (w : World) (hr : EvRow w l v) :
    Calls Try.prog 6 #[v] w fun x w' => x = .returned (.slice (some ⟨w.heap.size, 0, none⟩) l.length l.length) ∧ ToE l w l.length w' := by
  obtain ⟨ad, cap, rfl, hc, hmx, hx⟩ := hr
  unfold maxLen at hmx
  have HX := hide hx
  clear hx
  obtain ⟨M, hMs, hmk⟩ := made_ev l.length hN w
  have HMs := hide hMs
  clear hMs
  go_enter Try.func6, Try.ntmps6
  go_wp2_with fail
  go_loopw [4] (fun iv wr => ∃ i : Nat, i ≤ l.length ∧ iv = .int .i64 i ∧ Hid (ToE l w i wr)) (fun iv _ => l.length - (intOf iv).toNat)
  case atStart => exact ⟨0, by omega, rfl, hide (ToE.start HMs.out)⟩
  case round =>
    obtain ⟨i, hi, rfl, HT⟩ := hrel
    by_cases hlt : i < l.length
    · obtain ⟨g, off, rfl, hg, hs⟩ := HX.out (by omega)
      obtain ⟨e, he⟩ : ∃ e, l[i]? = some e := ⟨_, List.getElem?_eq_getElem hlt⟩
      have HAT := hide ((hs i e he).later HT.out.2.2 hg)
      have hcall := hide (toEvent_any e)
      have HE := hide he
      have hii : (i : Int) < (l.length : Int) := by omega
      clear hs he hmk
      go_wp2_with (first
        | (with_reducible show wpList _ _ _ (Oper.mk _ (Op.load 38 _) _ _ _ _ :: _) _ _; refine we_midL rfl (.tmp 18) rfl g (off + i * 17) rfl e HAT.out ?_)
        | fail)
      refine (hcall.out _).mono ?_
      rintro x1 X1 ⟨rfl, hB1⟩
      have HT1 := hide (HT.out.later hB1)
      have HTH := hide (HT1.out.there hlt)
      have HNX := hide (HT1.out.next HE.out)
      clear hB1 hcall HAT HT HT1
      go_wp2_with (first
        | (with_reducible show wpList _ _ _ (Oper.mk _ (Op.store 46 _ _) _ _ _ _ :: _) _ _; refine ws_mid rfl (.tmp 21) (.tmp 20) rfl w.heap.size (i * 17) rfl e rfl HTH.out ?_))
      exact ⟨⟨i + 1, by omega, by go_num, HNX⟩, by simp [intOf]; omega⟩
    · have hie : i = l.length := by omega
      have HD : Hid (ToE l w l.length wr) := by rw [← hie]; exact HT
      clear hie hmk
      go_wp2_with fail
      go_ret
      exact ⟨rfl, HD.out⟩
end Go.Proofs.Ythimglgjeibaoaa

/- Rows that are marked: what the texts on marks share. -/
namespace Go.Proofs.Ythimglgjeibaoaa
open Go.RowKit
set_option linter.unusedVariables false
set_option linter.unusedSimpArgs false
theorem markText_at (z : Int) (n : Nat) (h : z = n) (h1 : 1 ≤ n) (h2 : n ≤ 1000000000) (w : World) :
    Calls Try.prog 22 #[.int .i64 z] w fun e w' => e = .returned (.string (Pl.bs (Pl.mark n))) ∧ Below w.heap.size w w' := by
  rw [h]; exact markText_any n h1 h2 w
theorem cell_in {W : World} {b j : Nat} {C : Array Value} {T : TypeId} (h : W.heap[b]? = some (.cells C T (0, 0))) (hj : j < C.size) : ∃ u, W.cell? ⟨b, j, none⟩ = some u := by
  rw [cell_of_block h, Array.getElem?_eq_getElem hj]
  exact ⟨_, rfl⟩
theorem gb_set {W X : World} {b i : Nat} {v : Value} (h : W.grownBy X (some b)) : W.grownBy (X.setCell ⟨b, i, none⟩ v) (some b) :=
  ⟨h.os, h.tape, h.output, by have := h.size; simp [World.setCell]; exact this, fun k hk hne => (Below.heap_setCell _ _ _ _ (by simp only; intro e; exact hne (by rw [e]))).trans (h.block k hk hne)⟩
theorem gb_later {W X Y : World} {r : Option Nat} (h : W.grownBy X r) (hB : Below X.heap.size X Y) : W.grownBy Y r :=
  ⟨hB.os.trans h.os, hB.tape.trans h.tape, hB.output.trans h.output, Nat.le_trans h.size hB.size, fun k hk hne => (hB.block k (by have := h.size; omega)).trans (h.block k hk hne)⟩
theorem gb_refl (W : World) (r : Option Nat) : W.grownBy W r := ⟨rfl, rfl, rfl, Nat.le_refl _, fun _ _ _ => rfl⟩
/-- a row whose first i parts are marked -/
def RowM (T : TypeId) (m : Nat) (mk : Nat → List Value) (k : Nat) (a : Option Addr) (n i : Nat) (W : World) : Prop :=
  0 < n → ∃ b C, a = some ⟨b, 0, none⟩ ∧ W.heap[b]? = some (.cells C T (0, 0)) ∧ n * m ≤ C.size ∧ (∀ j, j < i → ∀ t u, (mk (k + m * j))[t]? = some u → C[j * m + t]? = some u)
theorem RowM.later {T : TypeId} {m : Nat} {mk : Nat → List Value} {k : Nat} {a : Option Addr} {n i : Nat} {W W1 : World} (h : RowM T m mk k a n i W) (hB : Below W.heap.size W W1) : RowM T m mk k a n i W1 := by
  intro hn
  obtain ⟨b, C, ha, hb, hs, hc⟩ := h hn
  exact ⟨b, C, ha, (hB.block _ (Array.getElem?_eq_some_iff.1 hb).1).trans hb, hs, hc⟩
theorem RowM.of_own {T : TypeId} {m : Nat} {mk : Nat → List Value} {k base : Nat} {a : Option Addr} {n c : Nat} {xs : List Value} {W : World} (h : W.ownsRow base T m (.slice a n c) n xs) : RowM T m mk k a n 0 W := by
  intro hn
  rcases h.2 with ⟨h1, h0⟩ | ⟨g, cap, cur, hv, hb, hg, hnc, hm, hs, ht⟩
  · omega
  · injection hv with h1 h2 h3
    exact ⟨g, cur, h1, hg, by rw [hs]; exact Nat.mul_le_mul_right _ hnc, fun j hj => by omega⟩
end Go.Proofs.Ythimglgjeibaoaa

/- Events marked by the laws: nothing but their own row is written. -/
namespace Go.Proofs.Ythimglgjeibaoaa
open Go.RowKit
set_option linter.unusedVariables false
set_option linter.unusedSimpArgs false
/-- a block of at least so many cells, and nothing else turned -/
def ME (T : TypeId) (b s : Nat) (w X : World) : Prop := (∃ C, X.heap[b]? = some (.cells C T (0, 0)) ∧ s ≤ C.size) ∧ w.grownBy X (some b)
theorem ME.set {T : TypeId} {b s i : Nat} {w X : World} {v : Value} (h : ME T b s w X) : ME T b s w (X.setCell ⟨b, i, none⟩ v) := by
  obtain ⟨⟨C, hb, hs⟩, hg⟩ := h
  exact ⟨⟨_, block_set hb i v, by simpa using hs⟩, gb_set hg⟩
theorem ME.later {T : TypeId} {b s : Nat} {w X Y : World} (h : ME T b s w X) (hB : Below X.heap.size X Y) : ME T b s w Y := by
  obtain ⟨⟨C, hb, hs⟩, hg⟩ := h
  exact ⟨⟨C, (hB.block _ (Array.getElem?_eq_some_iff.1 hb).1).trans hb, hs⟩, gb_later hg hB⟩
theorem ME.cell {T : TypeId} {b s j : Nat} {w X : World} (h : ME T b s w X) (hj : j < s) : (∃ u, X.cell? ⟨b, j, none⟩ = some u) ∧ X.frozen? ⟨b, j, none⟩ = false := by
  obtain ⟨⟨C, hb, hs⟩, hg⟩ := h
  exact ⟨cell_in hb (by omega), free_of_block hb j⟩
set_option maxRecDepth 100000 in
set_option maxHeartbeats 3200000 in
theorem markEventS_any (n : Nat) (b k : Nat) (h1 : 1 ≤ k) (h2 : k + 17 * n ≤ 100000000) (w : World) (C : Array Value) (hb : w.heap[b]? = some (.cells C 46 (0, 0))) (hs : n * 17 ≤ C.size) :
    Calls Try.prog 9 #[.slice (some ⟨b, 0, none⟩) n n, .int .i64 (k : Int)] w fun x w' => x = .returned (.int .i64 ((k + 17 * n : Nat) : Int)) ∧ w.grownBy w' (some b) := by
  have HM : Hid (ME 46 b (n * 17) w w) := ⟨⟨C, hb, hs⟩, gb_refl _ _⟩
  clear hb hs
  go_enter Try.func9, Try.ntmps9
  go_wp2_with fail
  go_loopw [1, 5] (fun kv iv wr => ∃ (i : Nat) (z : Int), i ≤ n ∧ iv = .int .i64 i ∧ kv = .int .i64 z ∧ Hid (z = ((k + 17 * i : Nat) : Int)) ∧ Hid (ME 46 b (n * 17) w wr)) (fun _ iv _ => n - (intOf iv).toNat)
  case atStart => exact ⟨0, k, by omega, rfl, rfl, hide (by simp), HM⟩
  case round =>
    obtain ⟨i, z, hi, rfl, rfl, HZ, HM0⟩ := hrel
    by_cases hlt : i < n
    · have hz0 : 1 ≤ z := by have := HZ.out; omega
      have hz1 : z ≤ 100000000 := by have := HZ.out; omega
      have hii : (i : Int) < (n : Int) := by omega
      obtain ⟨⟨u0, c0⟩, f0⟩ := ME.cell (j := i * 17) HM0.out (by omega)
      obtain ⟨⟨u1, c1⟩, f1⟩ := ME.cell (j := i * 17 + 1) HM0.out (by omega)
      obtain ⟨⟨u2, c2⟩, f2⟩ := ME.cell (j := i * 17 + 2) HM0.out (by omega)
      go_wp2_with fail
      refine (markText_at _ (k + 17 * i + 3) (by have := HZ.out; omega) (by omega) (by omega) _).mono ?_
      rintro x0 Y0 ⟨rfl, hB0⟩
      have HM1 := hide (ME.later (ME.set (ME.set (ME.set HM0.out))) hB0)
      clear hB0 HM0 c0 f0 c1 f1 c2 f2
      obtain ⟨⟨u3, c3⟩, f3⟩ := ME.cell (j := i * 17 + 3) HM1.out (by omega)
      obtain ⟨⟨u4, c4⟩, f4⟩ := ME.cell (j := i * 17 + 4) HM1.out (by omega)
      obtain ⟨⟨u5, c5⟩, f5⟩ := ME.cell (j := i * 17 + 5) HM1.out (by omega)
      go_wp2_with fail
      refine (markText_at _ (k + 17 * i + 6) (by have := HZ.out; omega) (by omega) (by omega) _).mono ?_
      rintro x1 Y1 ⟨rfl, hB1⟩
      have HM2 := hide (ME.later (ME.set (ME.set (ME.set HM1.out))) hB1)
      clear hB1 HM1 c3 f3 c4 f4 c5 f5
      obtain ⟨⟨u6, c6⟩, f6⟩ := ME.cell (j := i * 17 + 6) HM2.out (by omega)
      obtain ⟨⟨u7, c7⟩, f7⟩ := ME.cell (j := i * 17 + 7) HM2.out (by omega)
      obtain ⟨⟨u8, c8⟩, f8⟩ := ME.cell (j := i * 17 + 8) HM2.out (by omega)
      go_wp2_with fail
      refine (markText_at _ (k + 17 * i + 9) (by have := HZ.out; omega) (by omega) (by omega) _).mono ?_
      rintro x2 Y2 ⟨rfl, hB2⟩
      have HM3 := hide (ME.later (ME.set (ME.set (ME.set HM2.out))) hB2)
      clear hB2 HM2 c6 f6 c7 f7 c8 f8
      obtain ⟨⟨u9, c9⟩, f9⟩ := ME.cell (j := i * 17 + 9) HM3.out (by omega)
      obtain ⟨⟨u10, c10⟩, f10⟩ := ME.cell (j := i * 17 + 10) HM3.out (by omega)
      obtain ⟨⟨u11, c11⟩, f11⟩ := ME.cell (j := i * 17 + 11) HM3.out (by omega)
      go_wp2_with fail
      refine (markText_at _ (k + 17 * i + 12) (by have := HZ.out; omega) (by omega) (by omega) _).mono ?_
      rintro x3 Y3 ⟨rfl, hB3⟩
      have HM4 := hide (ME.later (ME.set (ME.set (ME.set HM3.out))) hB3)
      clear hB3 HM3 c9 f9 c10 f10 c11 f11
      obtain ⟨⟨u12, c12⟩, f12⟩ := ME.cell (j := i * 17 + 12) HM4.out (by omega)
      obtain ⟨⟨u13, c13⟩, f13⟩ := ME.cell (j := i * 17 + 13) HM4.out (by omega)
      obtain ⟨⟨u14, c14⟩, f14⟩ := ME.cell (j := i * 17 + 14) HM4.out (by omega)
      obtain ⟨⟨u15, c15⟩, f15⟩ := ME.cell (j := i * 17 + 15) HM4.out (by omega)
      go_wp2_with fail
      refine (markText_at _ (k + 17 * i + 16) (by have := HZ.out; omega) (by omega) (by omega) _).mono ?_
      rintro x4 Y4 ⟨rfl, hB4⟩
      have HM5 := hide (ME.later (ME.set (ME.set (ME.set (ME.set HM4.out)))) hB4)
      clear hB4 HM4 c12 f12 c13 f13 c14 f14 c15 f15
      obtain ⟨⟨u16, c16⟩, f16⟩ := ME.cell (j := i * 17 + 16) HM5.out (by omega)
      go_wp2_with fail
      go_roundw
      case rel => exact ⟨i + 1, _, by omega, by go_num, rfl, hide (by have := HZ.out; omega), (ME.set HM5.out)⟩
      case measure => simp [intOf]; omega
    · have hie : i = n := by omega
      have HE : Hid (z = ((k + 17 * n : Nat) : Int)) := by rw [← hie]; exact HZ
      clear hie
      go_wp2_with fail
      go_ret
      exact ⟨by rw [← HE.out]; rfl, HM0.out.2⟩
end Go.Proofs.Ythimglgjeibaoaa

/- Events, marked, and held against the marks. -/
namespace Go.Proofs.Ythimglgjeibaoaa
open Go.RowKit
set_option linter.unusedVariables false
set_option linter.unusedSimpArgs false
def mkEvs (k : Nat) : List Value := [(.int .i64 ((k + 0 : Nat) : Int) : Value), (.int .i64 ((k + 1 : Nat) : Int) : Value), (.int .i64 ((k + 2 : Nat) : Int) : Value), (.string (Pl.bs (Pl.mark (k + 3))) : Value), (.int .i64 ((k + 4 : Nat) : Int) : Value), (.int .i64 ((k + 5 : Nat) : Int) : Value), (.string (Pl.bs (Pl.mark (k + 6))) : Value), (.int .i64 ((k + 7 : Nat) : Int) : Value), (.int .i64 ((k + 8 : Nat) : Int) : Value), (.string (Pl.bs (Pl.mark (k + 9))) : Value), (.int .i64 ((k + 10 : Nat) : Int) : Value), (.int .i64 ((k + 11 : Nat) : Int) : Value), (.string (Pl.bs (Pl.mark (k + 12))) : Value), (.bool (((k + 13 : Nat) : Int) % 3 == 0) : Value), (.int .i64 ((k + 14 : Nat) : Int) : Value), (.int .i64 ((k + 15 : Nat) : Int) : Value), (.string (Pl.bs (Pl.mark (k + 16))) : Value)]
theorem nextEvs {C : Array Value} {k i n : Nat} {z : Int} (hs : n * 17 ≤ C.size) (hi : i < n) (hz : z = ((k + 17 * i : Nat) : Int)) (hc : ∀ j, j < i → ∀ t u, (mkEvs (k + 17 * j))[t]? = some u → C[j * 17 + t]? = some u)
    {a0 a1 a2 a3 a4 a5 a6 a7 a8 a9 a10 a11 a12 a13 a14 a15 a16 : Nat} (e0 : a0 = i * 17 + 0) (e1 : a1 = i * 17 + 1) (e2 : a2 = i * 17 + 2) (e3 : a3 = i * 17 + 3) (e4 : a4 = i * 17 + 4) (e5 : a5 = i * 17 + 5) (e6 : a6 = i * 17 + 6) (e7 : a7 = i * 17 + 7) (e8 : a8 = i * 17 + 8) (e9 : a9 = i * 17 + 9) (e10 : a10 = i * 17 + 10) (e11 : a11 = i * 17 + 11) (e12 : a12 = i * 17 + 12) (e13 : a13 = i * 17 + 13) (e14 : a14 = i * 17 + 14) (e15 : a15 = i * 17 + 15) (e16 : a16 = i * 17 + 16) :
    ∀ j, j < i + 1 → ∀ t u, (mkEvs (k + 17 * j))[t]? = some u → (((((((((((((((((C.setIfInBounds a0 ((.int .i64 z : Value))).setIfInBounds a1 ((.int .i64 (z + 1) : Value))).setIfInBounds a2 ((.int .i64 (z + 1 + 1) : Value))).setIfInBounds a3 ((.string (Pl.bs (Pl.mark (k + 17 * i + 3))) : Value))).setIfInBounds a4 ((.int .i64 (z + 1 + 1 + 1 + 1) : Value))).setIfInBounds a5 ((.int .i64 (z + 1 + 1 + 1 + 1 + 1) : Value))).setIfInBounds a6 ((.string (Pl.bs (Pl.mark (k + 17 * i + 6))) : Value))).setIfInBounds a7 ((.int .i64 (z + 1 + 1 + 1 + 1 + 1 + 1 + 1) : Value))).setIfInBounds a8 ((.int .i64 (z + 1 + 1 + 1 + 1 + 1 + 1 + 1 + 1) : Value))).setIfInBounds a9 ((.string (Pl.bs (Pl.mark (k + 17 * i + 9))) : Value))).setIfInBounds a10 ((.int .i64 (z + 1 + 1 + 1 + 1 + 1 + 1 + 1 + 1 + 1 + 1) : Value))).setIfInBounds a11 ((.int .i64 (z + 1 + 1 + 1 + 1 + 1 + 1 + 1 + 1 + 1 + 1 + 1) : Value))).setIfInBounds a12 ((.string (Pl.bs (Pl.mark (k + 17 * i + 12))) : Value))).setIfInBounds a13 ((.bool ((z + 1 + 1 + 1 + 1 + 1 + 1 + 1 + 1 + 1 + 1 + 1 + 1 + 1) % 3 == 0) : Value))).setIfInBounds a14 ((.int .i64 (z + 1 + 1 + 1 + 1 + 1 + 1 + 1 + 1 + 1 + 1 + 1 + 1 + 1 + 1) : Value))).setIfInBounds a15 ((.int .i64 (z + 1 + 1 + 1 + 1 + 1 + 1 + 1 + 1 + 1 + 1 + 1 + 1 + 1 + 1 + 1) : Value))).setIfInBounds a16 ((.string (Pl.bs (Pl.mark (k + 17 * i + 16))) : Value)))[j * 17 + t]? = some u := by
  intro j hj t u hu
  subst e0 e1 e2 e3 e4 e5 e6 e7 e8 e9 e10 e11 e12 e13 e14 e15 e16
  by_cases hji : j = i
  · subst hji
    have l0 : j * 17 + 0 < C.size := by omega
    have l1 : j * 17 + 1 < C.size := by omega
    have l2 : j * 17 + 2 < C.size := by omega
    have l3 : j * 17 + 3 < C.size := by omega
    have l4 : j * 17 + 4 < C.size := by omega
    have l5 : j * 17 + 5 < C.size := by omega
    have l6 : j * 17 + 6 < C.size := by omega
    have l7 : j * 17 + 7 < C.size := by omega
    have l8 : j * 17 + 8 < C.size := by omega
    have l9 : j * 17 + 9 < C.size := by omega
    have l10 : j * 17 + 10 < C.size := by omega
    have l11 : j * 17 + 11 < C.size := by omega
    have l12 : j * 17 + 12 < C.size := by omega
    have l13 : j * 17 + 13 < C.size := by omega
    have l14 : j * 17 + 14 < C.size := by omega
    have l15 : j * 17 + 15 < C.size := by omega
    have l16 : j * 17 + 16 < C.size := by omega
    match t, hu with
    | 0, hu =>
      obtain rfl : (.int .i64 ((k + 17 * j + 0 : Nat) : Int) : Value) = u := by simpa [mkEvs] using hu
      have hv : (.int .i64 z : Value) = (.int .i64 ((k + 17 * j + 0 : Nat) : Int) : Value) := by rw [hz]; congr 1 <;> omega
      rw [Array.getElem?_setIfInBounds_ne (by omega)]
      rw [Array.getElem?_setIfInBounds_ne (by omega)]
      rw [Array.getElem?_setIfInBounds_ne (by omega)]
      rw [Array.getElem?_setIfInBounds_ne (by omega)]
      rw [Array.getElem?_setIfInBounds_ne (by omega)]
      rw [Array.getElem?_setIfInBounds_ne (by omega)]
      rw [Array.getElem?_setIfInBounds_ne (by omega)]
      rw [Array.getElem?_setIfInBounds_ne (by omega)]
      rw [Array.getElem?_setIfInBounds_ne (by omega)]
      rw [Array.getElem?_setIfInBounds_ne (by omega)]
      rw [Array.getElem?_setIfInBounds_ne (by omega)]
      rw [Array.getElem?_setIfInBounds_ne (by omega)]
      rw [Array.getElem?_setIfInBounds_ne (by omega)]
      rw [Array.getElem?_setIfInBounds_ne (by omega)]
      rw [Array.getElem?_setIfInBounds_ne (by omega)]
      rw [Array.getElem?_setIfInBounds_ne (by omega)]
      rw [Array.getElem?_setIfInBounds_self_of_lt (by simp; omega)]
      rw [hv]
    | 1, hu =>
      obtain rfl : (.int .i64 ((k + 17 * j + 1 : Nat) : Int) : Value) = u := by simpa [mkEvs] using hu
      have hv : (.int .i64 (z + 1) : Value) = (.int .i64 ((k + 17 * j + 1 : Nat) : Int) : Value) := by rw [hz]; congr 1 <;> omega
      rw [Array.getElem?_setIfInBounds_ne (by omega)]
      rw [Array.getElem?_setIfInBounds_ne (by omega)]
      rw [Array.getElem?_setIfInBounds_ne (by omega)]
      rw [Array.getElem?_setIfInBounds_ne (by omega)]
      rw [Array.getElem?_setIfInBounds_ne (by omega)]
      rw [Array.getElem?_setIfInBounds_ne (by omega)]
      rw [Array.getElem?_setIfInBounds_ne (by omega)]
      rw [Array.getElem?_setIfInBounds_ne (by omega)]
      rw [Array.getElem?_setIfInBounds_ne (by omega)]
      rw [Array.getElem?_setIfInBounds_ne (by omega)]
      rw [Array.getElem?_setIfInBounds_ne (by omega)]
      rw [Array.getElem?_setIfInBounds_ne (by omega)]
      rw [Array.getElem?_setIfInBounds_ne (by omega)]
      rw [Array.getElem?_setIfInBounds_ne (by omega)]
      rw [Array.getElem?_setIfInBounds_ne (by omega)]
      rw [Array.getElem?_setIfInBounds_self_of_lt (by simp; omega)]
      rw [hv]
    | 2, hu =>
      obtain rfl : (.int .i64 ((k + 17 * j + 2 : Nat) : Int) : Value) = u := by simpa [mkEvs] using hu
      have hv : (.int .i64 (z + 1 + 1) : Value) = (.int .i64 ((k + 17 * j + 2 : Nat) : Int) : Value) := by rw [hz]; congr 1 <;> omega
      rw [Array.getElem?_setIfInBounds_ne (by omega)]
      rw [Array.getElem?_setIfInBounds_ne (by omega)]
      rw [Array.getElem?_setIfInBounds_ne (by omega)]
      rw [Array.getElem?_setIfInBounds_ne (by omega)]
      rw [Array.getElem?_setIfInBounds_ne (by omega)]
      rw [Array.getElem?_setIfInBounds_ne (by omega)]
      rw [Array.getElem?_setIfInBounds_ne (by omega)]
      rw [Array.getElem?_setIfInBounds_ne (by omega)]
      rw [Array.getElem?_setIfInBounds_ne (by omega)]
      rw [Array.getElem?_setIfInBounds_ne (by omega)]
      rw [Array.getElem?_setIfInBounds_ne (by omega)]
      rw [Array.getElem?_setIfInBounds_ne (by omega)]
      rw [Array.getElem?_setIfInBounds_ne (by omega)]
      rw [Array.getElem?_setIfInBounds_ne (by omega)]
      rw [Array.getElem?_setIfInBounds_self_of_lt (by simp; omega)]
      rw [hv]
    | 3, hu =>
      obtain rfl : (.string (Pl.bs (Pl.mark (k + 17 * j + 3))) : Value) = u := by simpa [mkEvs] using hu
      rw [Array.getElem?_setIfInBounds_ne (by omega)]
      rw [Array.getElem?_setIfInBounds_ne (by omega)]
      rw [Array.getElem?_setIfInBounds_ne (by omega)]
      rw [Array.getElem?_setIfInBounds_ne (by omega)]
      rw [Array.getElem?_setIfInBounds_ne (by omega)]
      rw [Array.getElem?_setIfInBounds_ne (by omega)]
      rw [Array.getElem?_setIfInBounds_ne (by omega)]
      rw [Array.getElem?_setIfInBounds_ne (by omega)]
      rw [Array.getElem?_setIfInBounds_ne (by omega)]
      rw [Array.getElem?_setIfInBounds_ne (by omega)]
      rw [Array.getElem?_setIfInBounds_ne (by omega)]
      rw [Array.getElem?_setIfInBounds_ne (by omega)]
      rw [Array.getElem?_setIfInBounds_ne (by omega)]
      rw [Array.getElem?_setIfInBounds_self_of_lt (by simp; omega)]
      skip
    | 4, hu =>
      obtain rfl : (.int .i64 ((k + 17 * j + 4 : Nat) : Int) : Value) = u := by simpa [mkEvs] using hu
      have hv : (.int .i64 (z + 1 + 1 + 1 + 1) : Value) = (.int .i64 ((k + 17 * j + 4 : Nat) : Int) : Value) := by rw [hz]; congr 1 <;> omega
      rw [Array.getElem?_setIfInBounds_ne (by omega)]
      rw [Array.getElem?_setIfInBounds_ne (by omega)]
      rw [Array.getElem?_setIfInBounds_ne (by omega)]
      rw [Array.getElem?_setIfInBounds_ne (by omega)]
      rw [Array.getElem?_setIfInBounds_ne (by omega)]
      rw [Array.getElem?_setIfInBounds_ne (by omega)]
      rw [Array.getElem?_setIfInBounds_ne (by omega)]
      rw [Array.getElem?_setIfInBounds_ne (by omega)]
      rw [Array.getElem?_setIfInBounds_ne (by omega)]
      rw [Array.getElem?_setIfInBounds_ne (by omega)]
      rw [Array.getElem?_setIfInBounds_ne (by omega)]
      rw [Array.getElem?_setIfInBounds_ne (by omega)]
      rw [Array.getElem?_setIfInBounds_self_of_lt (by simp; omega)]
      rw [hv]
    | 5, hu =>
      obtain rfl : (.int .i64 ((k + 17 * j + 5 : Nat) : Int) : Value) = u := by simpa [mkEvs] using hu
      have hv : (.int .i64 (z + 1 + 1 + 1 + 1 + 1) : Value) = (.int .i64 ((k + 17 * j + 5 : Nat) : Int) : Value) := by rw [hz]; congr 1 <;> omega
      rw [Array.getElem?_setIfInBounds_ne (by omega)]
      rw [Array.getElem?_setIfInBounds_ne (by omega)]
      rw [Array.getElem?_setIfInBounds_ne (by omega)]
      rw [Array.getElem?_setIfInBounds_ne (by omega)]
      rw [Array.getElem?_setIfInBounds_ne (by omega)]
      rw [Array.getElem?_setIfInBounds_ne (by omega)]
      rw [Array.getElem?_setIfInBounds_ne (by omega)]
      rw [Array.getElem?_setIfInBounds_ne (by omega)]
      rw [Array.getElem?_setIfInBounds_ne (by omega)]
      rw [Array.getElem?_setIfInBounds_ne (by omega)]
      rw [Array.getElem?_setIfInBounds_ne (by omega)]
      rw [Array.getElem?_setIfInBounds_self_of_lt (by simp; omega)]
      rw [hv]
    | 6, hu =>
      obtain rfl : (.string (Pl.bs (Pl.mark (k + 17 * j + 6))) : Value) = u := by simpa [mkEvs] using hu
      rw [Array.getElem?_setIfInBounds_ne (by omega)]
      rw [Array.getElem?_setIfInBounds_ne (by omega)]
      rw [Array.getElem?_setIfInBounds_ne (by omega)]
      rw [Array.getElem?_setIfInBounds_ne (by omega)]
      rw [Array.getElem?_setIfInBounds_ne (by omega)]
      rw [Array.getElem?_setIfInBounds_ne (by omega)]
      rw [Array.getElem?_setIfInBounds_ne (by omega)]
      rw [Array.getElem?_setIfInBounds_ne (by omega)]
      rw [Array.getElem?_setIfInBounds_ne (by omega)]
      rw [Array.getElem?_setIfInBounds_ne (by omega)]
      rw [Array.getElem?_setIfInBounds_self_of_lt (by simp; omega)]
      skip
    | 7, hu =>
      obtain rfl : (.int .i64 ((k + 17 * j + 7 : Nat) : Int) : Value) = u := by simpa [mkEvs] using hu
      have hv : (.int .i64 (z + 1 + 1 + 1 + 1 + 1 + 1 + 1) : Value) = (.int .i64 ((k + 17 * j + 7 : Nat) : Int) : Value) := by rw [hz]; congr 1 <;> omega
      rw [Array.getElem?_setIfInBounds_ne (by omega)]
      rw [Array.getElem?_setIfInBounds_ne (by omega)]
      rw [Array.getElem?_setIfInBounds_ne (by omega)]
      rw [Array.getElem?_setIfInBounds_ne (by omega)]
      rw [Array.getElem?_setIfInBounds_ne (by omega)]
      rw [Array.getElem?_setIfInBounds_ne (by omega)]
      rw [Array.getElem?_setIfInBounds_ne (by omega)]
      rw [Array.getElem?_setIfInBounds_ne (by omega)]
      rw [Array.getElem?_setIfInBounds_ne (by omega)]
      rw [Array.getElem?_setIfInBounds_self_of_lt (by simp; omega)]
      rw [hv]
    | 8, hu =>
      obtain rfl : (.int .i64 ((k + 17 * j + 8 : Nat) : Int) : Value) = u := by simpa [mkEvs] using hu
      have hv : (.int .i64 (z + 1 + 1 + 1 + 1 + 1 + 1 + 1 + 1) : Value) = (.int .i64 ((k + 17 * j + 8 : Nat) : Int) : Value) := by rw [hz]; congr 1 <;> omega
      rw [Array.getElem?_setIfInBounds_ne (by omega)]
      rw [Array.getElem?_setIfInBounds_ne (by omega)]
      rw [Array.getElem?_setIfInBounds_ne (by omega)]
      rw [Array.getElem?_setIfInBounds_ne (by omega)]
      rw [Array.getElem?_setIfInBounds_ne (by omega)]
      rw [Array.getElem?_setIfInBounds_ne (by omega)]
      rw [Array.getElem?_setIfInBounds_ne (by omega)]
      rw [Array.getElem?_setIfInBounds_ne (by omega)]
      rw [Array.getElem?_setIfInBounds_self_of_lt (by simp; omega)]
      rw [hv]
    | 9, hu =>
      obtain rfl : (.string (Pl.bs (Pl.mark (k + 17 * j + 9))) : Value) = u := by simpa [mkEvs] using hu
      rw [Array.getElem?_setIfInBounds_ne (by omega)]
      rw [Array.getElem?_setIfInBounds_ne (by omega)]
      rw [Array.getElem?_setIfInBounds_ne (by omega)]
      rw [Array.getElem?_setIfInBounds_ne (by omega)]
      rw [Array.getElem?_setIfInBounds_ne (by omega)]
      rw [Array.getElem?_setIfInBounds_ne (by omega)]
      rw [Array.getElem?_setIfInBounds_ne (by omega)]
      rw [Array.getElem?_setIfInBounds_self_of_lt (by simp; omega)]
      skip
    | 10, hu =>
      obtain rfl : (.int .i64 ((k + 17 * j + 10 : Nat) : Int) : Value) = u := by simpa [mkEvs] using hu
      have hv : (.int .i64 (z + 1 + 1 + 1 + 1 + 1 + 1 + 1 + 1 + 1 + 1) : Value) = (.int .i64 ((k + 17 * j + 10 : Nat) : Int) : Value) := by rw [hz]; congr 1 <;> omega
      rw [Array.getElem?_setIfInBounds_ne (by omega)]
      rw [Array.getElem?_setIfInBounds_ne (by omega)]
      rw [Array.getElem?_setIfInBounds_ne (by omega)]
      rw [Array.getElem?_setIfInBounds_ne (by omega)]
      rw [Array.getElem?_setIfInBounds_ne (by omega)]
      rw [Array.getElem?_setIfInBounds_ne (by omega)]
      rw [Array.getElem?_setIfInBounds_self_of_lt (by simp; omega)]
      rw [hv]
    | 11, hu =>
      obtain rfl : (.int .i64 ((k + 17 * j + 11 : Nat) : Int) : Value) = u := by simpa [mkEvs] using hu
      have hv : (.int .i64 (z + 1 + 1 + 1 + 1 + 1 + 1 + 1 + 1 + 1 + 1 + 1) : Value) = (.int .i64 ((k + 17 * j + 11 : Nat) : Int) : Value) := by rw [hz]; congr 1 <;> omega
      rw [Array.getElem?_setIfInBounds_ne (by omega)]
      rw [Array.getElem?_setIfInBounds_ne (by omega)]
      rw [Array.getElem?_setIfInBounds_ne (by omega)]
      rw [Array.getElem?_setIfInBounds_ne (by omega)]
      rw [Array.getElem?_setIfInBounds_ne (by omega)]
      rw [Array.getElem?_setIfInBounds_self_of_lt (by simp; omega)]
      rw [hv]
    | 12, hu =>
      obtain rfl : (.string (Pl.bs (Pl.mark (k + 17 * j + 12))) : Value) = u := by simpa [mkEvs] using hu
      rw [Array.getElem?_setIfInBounds_ne (by omega)]
      rw [Array.getElem?_setIfInBounds_ne (by omega)]
      rw [Array.getElem?_setIfInBounds_ne (by omega)]
      rw [Array.getElem?_setIfInBounds_ne (by omega)]
      rw [Array.getElem?_setIfInBounds_self_of_lt (by simp; omega)]
      skip
    | 13, hu =>
      obtain rfl : (.bool (((k + 17 * j + 13 : Nat) : Int) % 3 == 0) : Value) = u := by simpa [mkEvs] using hu
      have hv : (.bool ((z + 1 + 1 + 1 + 1 + 1 + 1 + 1 + 1 + 1 + 1 + 1 + 1 + 1) % 3 == 0) : Value) = (.bool (((k + 17 * j + 13 : Nat) : Int) % 3 == 0) : Value) := by rw [hz]; congr 3 <;> omega
      rw [Array.getElem?_setIfInBounds_ne (by omega)]
      rw [Array.getElem?_setIfInBounds_ne (by omega)]
      rw [Array.getElem?_setIfInBounds_ne (by omega)]
      rw [Array.getElem?_setIfInBounds_self_of_lt (by simp; omega)]
      rw [hv]
    | 14, hu =>
      obtain rfl : (.int .i64 ((k + 17 * j + 14 : Nat) : Int) : Value) = u := by simpa [mkEvs] using hu
      have hv : (.int .i64 (z + 1 + 1 + 1 + 1 + 1 + 1 + 1 + 1 + 1 + 1 + 1 + 1 + 1 + 1) : Value) = (.int .i64 ((k + 17 * j + 14 : Nat) : Int) : Value) := by rw [hz]; congr 1 <;> omega
      rw [Array.getElem?_setIfInBounds_ne (by omega)]
      rw [Array.getElem?_setIfInBounds_ne (by omega)]
      rw [Array.getElem?_setIfInBounds_self_of_lt (by simp; omega)]
      rw [hv]
    | 15, hu =>
      obtain rfl : (.int .i64 ((k + 17 * j + 15 : Nat) : Int) : Value) = u := by simpa [mkEvs] using hu
      have hv : (.int .i64 (z + 1 + 1 + 1 + 1 + 1 + 1 + 1 + 1 + 1 + 1 + 1 + 1 + 1 + 1 + 1) : Value) = (.int .i64 ((k + 17 * j + 15 : Nat) : Int) : Value) := by rw [hz]; congr 1 <;> omega
      rw [Array.getElem?_setIfInBounds_ne (by omega)]
      rw [Array.getElem?_setIfInBounds_self_of_lt (by simp; omega)]
      rw [hv]
    | 16, hu =>
      obtain rfl : (.string (Pl.bs (Pl.mark (k + 17 * j + 16))) : Value) = u := by simpa [mkEvs] using hu
      rw [Array.getElem?_setIfInBounds_self_of_lt (by simp; omega)]
      skip
    | t + 17, hu => simp [mkEvs] at hu
  · have ht : t < 17 := by
      have := (List.getElem?_eq_some_iff.1 hu).1
      simpa [mkEvs] using this
    have hlt : j < i := by omega
    have hlin : j * 17 + 17 ≤ i * 17 := by
      have := Nat.mul_le_mul_right 17 (show j + 1 ≤ i by omega)
      omega
    rw [Array.getElem?_setIfInBounds_ne (by omega)]
    rw [Array.getElem?_setIfInBounds_ne (by omega)]
    rw [Array.getElem?_setIfInBounds_ne (by omega)]
    rw [Array.getElem?_setIfInBounds_ne (by omega)]
    rw [Array.getElem?_setIfInBounds_ne (by omega)]
    rw [Array.getElem?_setIfInBounds_ne (by omega)]
    rw [Array.getElem?_setIfInBounds_ne (by omega)]
    rw [Array.getElem?_setIfInBounds_ne (by omega)]
    rw [Array.getElem?_setIfInBounds_ne (by omega)]
    rw [Array.getElem?_setIfInBounds_ne (by omega)]
    rw [Array.getElem?_setIfInBounds_ne (by omega)]
    rw [Array.getElem?_setIfInBounds_ne (by omega)]
    rw [Array.getElem?_setIfInBounds_ne (by omega)]
    rw [Array.getElem?_setIfInBounds_ne (by omega)]
    rw [Array.getElem?_setIfInBounds_ne (by omega)]
    rw [Array.getElem?_setIfInBounds_ne (by omega)]
    rw [Array.getElem?_setIfInBounds_ne (by omega)]
    exact hc j hlt t u hu
set_option maxRecDepth 100000 in
set_option maxHeartbeats 12800000 in
theorem markEvs_any (n : Nat) (a : Option Addr) (c k : Nat) (h1 : 1 ≤ k) (h2 : k + 17 * n ≤ 100000000) (hnc : n ≤ c) (hcm : c ≤ maxLen) (w : World) (hr : RowM 46 17 mkEvs k a n 0 w) :
    Calls Try.prog 9 #[.slice a n c, .int .i64 (k : Int)] w fun x w' => x = .returned (.int .i64 ((k + 17 * n : Nat) : Int)) ∧ RowM 46 17 mkEvs k a n n w' ∧ w.grownBy w' (Value.slice a n c).ownBlock := by
  unfold maxLen at hcm
  have HR := hide hr
  clear hr
  go_enter Try.func9, Try.ntmps9
  go_wp2_with fail
  go_loopw [1, 5] (fun kv iv wr => ∃ (i : Nat) (z : Int), i ≤ n ∧ iv = .int .i64 i ∧ kv = .int .i64 z ∧ Hid (z = ((k + 17 * i : Nat) : Int)) ∧ Hid (RowM 46 17 mkEvs k a n i wr) ∧ Hid (w.grownBy wr (Value.slice a n c).ownBlock)) (fun _ iv _ => n - (intOf iv).toNat)
  case atStart => exact ⟨0, k, by omega, rfl, rfl, hide (by simp), HR, hide (gb_refl _ _)⟩
  case round =>
    obtain ⟨i, z, hi, rfl, rfl, HZ, HM, HG⟩ := hrel
    by_cases hlt : i < n
    · obtain ⟨b, C, rfl, hb, hs, hcont⟩ := HM.out (by omega)
      have HB0 := hide hb
      have HS := hide hs
      have HC := hide hcont
      have HG0 : Hid (w.grownBy wr (some b)) := HG
      have hz0 : 1 ≤ z := by have := HZ.out; omega
      have hz1 : z ≤ 100000000 := by have := HZ.out; omega
      have hii : (i : Int) < (n : Int) := by omega
      clear hb hs hcont HM HG HR
      obtain ⟨u0, c0⟩ : ∃ u, wr.cell? ⟨b, i * 17, none⟩ = some u := cell_in HB0.out (by (try simp only [Array.size_setIfInBounds]); have := HS.out; omega)
      have f0 : wr.frozen? ⟨b, i * 17, none⟩ = false := free_of_block HB0.out _
      obtain ⟨u1, c1⟩ : ∃ u, wr.cell? ⟨b, i * 17 + 1, none⟩ = some u := cell_in HB0.out (by (try simp only [Array.size_setIfInBounds]); have := HS.out; omega)
      have f1 : wr.frozen? ⟨b, i * 17 + 1, none⟩ = false := free_of_block HB0.out _
      obtain ⟨u2, c2⟩ : ∃ u, wr.cell? ⟨b, i * 17 + 2, none⟩ = some u := cell_in HB0.out (by (try simp only [Array.size_setIfInBounds]); have := HS.out; omega)
      have f2 : wr.frozen? ⟨b, i * 17 + 2, none⟩ = false := free_of_block HB0.out _
      go_wp2_with fail
      refine (markText_at _ (k + 17 * i + 3) (by have := HZ.out; omega) (by omega) (by omega) _).mono ?_
      rintro x0 Y0 ⟨rfl, hB0⟩
      have hbk := (block_set (block_set (block_set HB0.out (i * 17) (.int .i64 z : Value)) (i * 17 + 1) (.int .i64 (z + 1) : Value)) (i * 17 + 2) (.int .i64 (z + 1 + 1) : Value))
      have HB1 := hide ((hB0.block b (Array.getElem?_eq_some_iff.1 hbk).1).trans hbk)
      have HG1 := hide (gb_later (gb_set (gb_set (gb_set HG0.out))) hB0)
      clear hB0 hbk c0 f0 c1 f1 c2 f2
      obtain ⟨u3, c3⟩ : ∃ u, Y0.cell? ⟨b, i * 17 + 3, none⟩ = some u := cell_in HB1.out (by (try simp only [Array.size_setIfInBounds]); have := HS.out; omega)
      have f3 : Y0.frozen? ⟨b, i * 17 + 3, none⟩ = false := free_of_block HB1.out _
      obtain ⟨u4, c4⟩ : ∃ u, Y0.cell? ⟨b, i * 17 + 4, none⟩ = some u := cell_in HB1.out (by (try simp only [Array.size_setIfInBounds]); have := HS.out; omega)
      have f4 : Y0.frozen? ⟨b, i * 17 + 4, none⟩ = false := free_of_block HB1.out _
      obtain ⟨u5, c5⟩ : ∃ u, Y0.cell? ⟨b, i * 17 + 5, none⟩ = some u := cell_in HB1.out (by (try simp only [Array.size_setIfInBounds]); have := HS.out; omega)
      have f5 : Y0.frozen? ⟨b, i * 17 + 5, none⟩ = false := free_of_block HB1.out _
      go_wp2_with fail
      refine (markText_at _ (k + 17 * i + 6) (by have := HZ.out; omega) (by omega) (by omega) _).mono ?_
      rintro x1 Y1 ⟨rfl, hB1⟩
      have hbk := (block_set (block_set (block_set HB1.out (i * 17 + 3) (.string (Pl.bs (Pl.mark (k + 17 * i + 3))) : Value)) (i * 17 + 4) (.int .i64 (z + 1 + 1 + 1 + 1) : Value)) (i * 17 + 5) (.int .i64 (z + 1 + 1 + 1 + 1 + 1) : Value))
      have HB2 := hide ((hB1.block b (Array.getElem?_eq_some_iff.1 hbk).1).trans hbk)
      have HG2 := hide (gb_later (gb_set (gb_set (gb_set HG1.out))) hB1)
      clear hB1 hbk c3 f3 c4 f4 c5 f5
      obtain ⟨u6, c6⟩ : ∃ u, Y1.cell? ⟨b, i * 17 + 6, none⟩ = some u := cell_in HB2.out (by (try simp only [Array.size_setIfInBounds]); have := HS.out; omega)
      have f6 : Y1.frozen? ⟨b, i * 17 + 6, none⟩ = false := free_of_block HB2.out _
      obtain ⟨u7, c7⟩ : ∃ u, Y1.cell? ⟨b, i * 17 + 7, none⟩ = some u := cell_in HB2.out (by (try simp only [Array.size_setIfInBounds]); have := HS.out; omega)
      have f7 : Y1.frozen? ⟨b, i * 17 + 7, none⟩ = false := free_of_block HB2.out _
      obtain ⟨u8, c8⟩ : ∃ u, Y1.cell? ⟨b, i * 17 + 8, none⟩ = some u := cell_in HB2.out (by (try simp only [Array.size_setIfInBounds]); have := HS.out; omega)
      have f8 : Y1.frozen? ⟨b, i * 17 + 8, none⟩ = false := free_of_block HB2.out _
      go_wp2_with fail
      refine (markText_at _ (k + 17 * i + 9) (by have := HZ.out; omega) (by omega) (by omega) _).mono ?_
      rintro x2 Y2 ⟨rfl, hB2⟩
      have hbk := (block_set (block_set (block_set HB2.out (i * 17 + 6) (.string (Pl.bs (Pl.mark (k + 17 * i + 6))) : Value)) (i * 17 + 7) (.int .i64 (z + 1 + 1 + 1 + 1 + 1 + 1 + 1) : Value)) (i * 17 + 8) (.int .i64 (z + 1 + 1 + 1 + 1 + 1 + 1 + 1 + 1) : Value))
      have HB3 := hide ((hB2.block b (Array.getElem?_eq_some_iff.1 hbk).1).trans hbk)
      have HG3 := hide (gb_later (gb_set (gb_set (gb_set HG2.out))) hB2)
      clear hB2 hbk c6 f6 c7 f7 c8 f8
      obtain ⟨u9, c9⟩ : ∃ u, Y2.cell? ⟨b, i * 17 + 9, none⟩ = some u := cell_in HB3.out (by (try simp only [Array.size_setIfInBounds]); have := HS.out; omega)
      have f9 : Y2.frozen? ⟨b, i * 17 + 9, none⟩ = false := free_of_block HB3.out _
      obtain ⟨u10, c10⟩ : ∃ u, Y2.cell? ⟨b, i * 17 + 10, none⟩ = some u := cell_in HB3.out (by (try simp only [Array.size_setIfInBounds]); have := HS.out; omega)
      have f10 : Y2.frozen? ⟨b, i * 17 + 10, none⟩ = false := free_of_block HB3.out _
      obtain ⟨u11, c11⟩ : ∃ u, Y2.cell? ⟨b, i * 17 + 11, none⟩ = some u := cell_in HB3.out (by (try simp only [Array.size_setIfInBounds]); have := HS.out; omega)
      have f11 : Y2.frozen? ⟨b, i * 17 + 11, none⟩ = false := free_of_block HB3.out _
      go_wp2_with fail
      refine (markText_at _ (k + 17 * i + 12) (by have := HZ.out; omega) (by omega) (by omega) _).mono ?_
      rintro x3 Y3 ⟨rfl, hB3⟩
      have hbk := (block_set (block_set (block_set HB3.out (i * 17 + 9) (.string (Pl.bs (Pl.mark (k + 17 * i + 9))) : Value)) (i * 17 + 10) (.int .i64 (z + 1 + 1 + 1 + 1 + 1 + 1 + 1 + 1 + 1 + 1) : Value)) (i * 17 + 11) (.int .i64 (z + 1 + 1 + 1 + 1 + 1 + 1 + 1 + 1 + 1 + 1 + 1) : Value))
      have HB4 := hide ((hB3.block b (Array.getElem?_eq_some_iff.1 hbk).1).trans hbk)
      have HG4 := hide (gb_later (gb_set (gb_set (gb_set HG3.out))) hB3)
      clear hB3 hbk c9 f9 c10 f10 c11 f11
      obtain ⟨u12, c12⟩ : ∃ u, Y3.cell? ⟨b, i * 17 + 12, none⟩ = some u := cell_in HB4.out (by (try simp only [Array.size_setIfInBounds]); have := HS.out; omega)
      have f12 : Y3.frozen? ⟨b, i * 17 + 12, none⟩ = false := free_of_block HB4.out _
      obtain ⟨u13, c13⟩ : ∃ u, Y3.cell? ⟨b, i * 17 + 13, none⟩ = some u := cell_in HB4.out (by (try simp only [Array.size_setIfInBounds]); have := HS.out; omega)
      have f13 : Y3.frozen? ⟨b, i * 17 + 13, none⟩ = false := free_of_block HB4.out _
      obtain ⟨u14, c14⟩ : ∃ u, Y3.cell? ⟨b, i * 17 + 14, none⟩ = some u := cell_in HB4.out (by (try simp only [Array.size_setIfInBounds]); have := HS.out; omega)
      have f14 : Y3.frozen? ⟨b, i * 17 + 14, none⟩ = false := free_of_block HB4.out _
      obtain ⟨u15, c15⟩ : ∃ u, Y3.cell? ⟨b, i * 17 + 15, none⟩ = some u := cell_in HB4.out (by (try simp only [Array.size_setIfInBounds]); have := HS.out; omega)
      have f15 : Y3.frozen? ⟨b, i * 17 + 15, none⟩ = false := free_of_block HB4.out _
      go_wp2_with fail
      refine (markText_at _ (k + 17 * i + 16) (by have := HZ.out; omega) (by omega) (by omega) _).mono ?_
      rintro x4 Y4 ⟨rfl, hB4⟩
      have hbk := (block_set (block_set (block_set (block_set HB4.out (i * 17 + 12) (.string (Pl.bs (Pl.mark (k + 17 * i + 12))) : Value)) (i * 17 + 13) (.bool ((z + 1 + 1 + 1 + 1 + 1 + 1 + 1 + 1 + 1 + 1 + 1 + 1 + 1) % 3 == 0) : Value)) (i * 17 + 14) (.int .i64 (z + 1 + 1 + 1 + 1 + 1 + 1 + 1 + 1 + 1 + 1 + 1 + 1 + 1 + 1) : Value)) (i * 17 + 15) (.int .i64 (z + 1 + 1 + 1 + 1 + 1 + 1 + 1 + 1 + 1 + 1 + 1 + 1 + 1 + 1 + 1) : Value))
      have HB5 := hide ((hB4.block b (Array.getElem?_eq_some_iff.1 hbk).1).trans hbk)
      have HG5 := hide (gb_later (gb_set (gb_set (gb_set (gb_set HG4.out)))) hB4)
      clear hB4 hbk c12 f12 c13 f13 c14 f14 c15 f15
      obtain ⟨u16, c16⟩ : ∃ u, Y4.cell? ⟨b, i * 17 + 16, none⟩ = some u := cell_in HB5.out (by (try simp only [Array.size_setIfInBounds]); have := HS.out; omega)
      have f16 : Y4.frozen? ⟨b, i * 17 + 16, none⟩ = false := free_of_block HB5.out _
      go_wp2_with fail
      go_roundw
      case rel => exact ⟨i + 1, _, by omega, by go_num, rfl, hide (by have := HZ.out; omega), hide (fun _ => ⟨b, _, rfl, (block_set HB5.out (i * 17 + 16) (.string (Pl.bs (Pl.mark (k + 17 * i + 16))) : Value)), by simp only [Array.size_setIfInBounds]; exact HS.out, nextEvs HS.out hlt HZ.out HC.out (by omega) (by omega) (by omega) (by omega) (by omega) (by omega) (by omega) (by omega) (by omega) (by omega) (by omega) (by omega) (by omega) (by omega) (by omega) (by omega) (by omega)⟩), hide ((gb_set HG5.out))⟩
      case measure => simp [intOf]; omega
    · have hie : i = n := by omega
      have HE : Hid (z = ((k + 17 * n : Nat) : Int)) := by rw [← hie]; exact HZ
      have HD : Hid (RowM 46 17 mkEvs k a n n wr) := by rw [hie] at HM; exact HM
      clear hie
      go_wp2_with fail
      go_ret
      exact ⟨by rw [← HE.out]; rfl, HD.out, HG.out⟩
end Go.Proofs.Ythimglgjeibaoaa

/- Events, marked, and held against the marks. -/
namespace Go.Proofs.Ythimglgjeibaoaa
open Go.RowKit
set_option linter.unusedVariables false
set_option linter.unusedSimpArgs false
set_option maxRecDepth 100000 in
set_option maxHeartbeats 12800000 in
theorem heldEvs_any (n : Nat) (a : Option Addr) (c k : Nat) (h1 : 1 ≤ k) (h2 : k + 17 * n ≤ 100000000) (hnc : n ≤ c) (hcm : c ≤ maxLen) (w : World) (hr : RowM 46 17 mkEvs k a n n w) :
    Calls Try.prog 10 #[.slice a n c, .int .i64 (k : Int)] w fun x w' => x = .returned (.int .i64 ((k + 17 * n : Nat) : Int)) ∧ Below w.heap.size w w' := by
  unfold maxLen at hcm
  have HR := hide hr
  clear hr
  go_enter Try.func10, Try.ntmps10
  go_wp2_with fail
  go_loopw [1, 5] (fun kv iv wr => ∃ (i : Nat) (z : Int), i ≤ n ∧ iv = .int .i64 i ∧ kv = .int .i64 z ∧ Hid (z = ((k + 17 * i : Nat) : Int)) ∧ Hid (Below w.heap.size w wr)) (fun _ iv _ => n - (intOf iv).toNat)
  case atStart => exact ⟨0, k, by omega, rfl, rfl, hide (by simp), Below.refl _ _⟩
  case round =>
    obtain ⟨i, z, hi, rfl, rfl, HZ, HB⟩ := hrel
    by_cases hlt : i < n
    · obtain ⟨b, C, rfl, hb, hs, hcont⟩ := HR.out (by omega)
      have hbl : b < w.heap.size := (Array.getElem?_eq_some_iff.1 hb).1
      have HCW : Hid (∀ j u, (mkEvs (k + 17 * i))[j]? = some u → wr.cell? ⟨b, i * 17 + j, none⟩ = some u) := hide fun j u hu => (Below.cell HB.out (p := ⟨b, i * 17 + j, none⟩) hbl).trans ((cell_of_block hb _).trans (hcont i hlt j u hu))
      have HGb : Hid (b < wr.heap.size) := by show _ < _; have := HB.out.size; omega
      have hz0 : 1 ≤ z := by have := HZ.out; omega
      have hz1 : z ≤ 100000000 := by have := HZ.out; omega
      have hii : (i : Int) < (n : Int) := by omega
      clear hb hs hcont HR hbl
      have q0 : wr.cell? ⟨b, i * 17, none⟩ = some (.int .i64 z : Value) := by
        rw [show (.int .i64 z : Value) = (.int .i64 ((k + 17 * i + 0 : Nat) : Int) : Value) by rw [HZ.out]; congr 1 <;> omega]
        exact HCW.out 0 _ rfl
      have q1 : wr.cell? ⟨b, i * 17 + 1, none⟩ = some (.int .i64 (z + 1) : Value) := by
        rw [show (.int .i64 (z + 1) : Value) = (.int .i64 ((k + 17 * i + 1 : Nat) : Int) : Value) by rw [HZ.out]; congr 1 <;> omega]
        exact HCW.out 1 _ rfl
      have q2 : wr.cell? ⟨b, i * 17 + 2, none⟩ = some (.int .i64 (z + 1 + 1) : Value) := by
        rw [show (.int .i64 (z + 1 + 1) : Value) = (.int .i64 ((k + 17 * i + 2 : Nat) : Int) : Value) by rw [HZ.out]; congr 1 <;> omega]
        exact HCW.out 2 _ rfl
      have q3 : wr.cell? ⟨b, i * 17 + 3, none⟩ = some (.string (Pl.bs (Pl.mark (k + 17 * i + 3))) : Value) := HCW.out 3 _ rfl
      have q4 : wr.cell? ⟨b, i * 17 + 4, none⟩ = some (.int .i64 (z + 1 + 1 + 1 + 1) : Value) := by
        rw [show (.int .i64 (z + 1 + 1 + 1 + 1) : Value) = (.int .i64 ((k + 17 * i + 4 : Nat) : Int) : Value) by rw [HZ.out]; congr 1 <;> omega]
        exact HCW.out 4 _ rfl
      have q5 : wr.cell? ⟨b, i * 17 + 5, none⟩ = some (.int .i64 (z + 1 + 1 + 1 + 1 + 1) : Value) := by
        rw [show (.int .i64 (z + 1 + 1 + 1 + 1 + 1) : Value) = (.int .i64 ((k + 17 * i + 5 : Nat) : Int) : Value) by rw [HZ.out]; congr 1 <;> omega]
        exact HCW.out 5 _ rfl
      have q6 : wr.cell? ⟨b, i * 17 + 6, none⟩ = some (.string (Pl.bs (Pl.mark (k + 17 * i + 6))) : Value) := HCW.out 6 _ rfl
      have q7 : wr.cell? ⟨b, i * 17 + 7, none⟩ = some (.int .i64 (z + 1 + 1 + 1 + 1 + 1 + 1 + 1) : Value) := by
        rw [show (.int .i64 (z + 1 + 1 + 1 + 1 + 1 + 1 + 1) : Value) = (.int .i64 ((k + 17 * i + 7 : Nat) : Int) : Value) by rw [HZ.out]; congr 1 <;> omega]
        exact HCW.out 7 _ rfl
      have q8 : wr.cell? ⟨b, i * 17 + 8, none⟩ = some (.int .i64 (z + 1 + 1 + 1 + 1 + 1 + 1 + 1 + 1) : Value) := by
        rw [show (.int .i64 (z + 1 + 1 + 1 + 1 + 1 + 1 + 1 + 1) : Value) = (.int .i64 ((k + 17 * i + 8 : Nat) : Int) : Value) by rw [HZ.out]; congr 1 <;> omega]
        exact HCW.out 8 _ rfl
      have q9 : wr.cell? ⟨b, i * 17 + 9, none⟩ = some (.string (Pl.bs (Pl.mark (k + 17 * i + 9))) : Value) := HCW.out 9 _ rfl
      have q10 : wr.cell? ⟨b, i * 17 + 10, none⟩ = some (.int .i64 (z + 1 + 1 + 1 + 1 + 1 + 1 + 1 + 1 + 1 + 1) : Value) := by
        rw [show (.int .i64 (z + 1 + 1 + 1 + 1 + 1 + 1 + 1 + 1 + 1 + 1) : Value) = (.int .i64 ((k + 17 * i + 10 : Nat) : Int) : Value) by rw [HZ.out]; congr 1 <;> omega]
        exact HCW.out 10 _ rfl
      have q11 : wr.cell? ⟨b, i * 17 + 11, none⟩ = some (.int .i64 (z + 1 + 1 + 1 + 1 + 1 + 1 + 1 + 1 + 1 + 1 + 1) : Value) := by
        rw [show (.int .i64 (z + 1 + 1 + 1 + 1 + 1 + 1 + 1 + 1 + 1 + 1 + 1) : Value) = (.int .i64 ((k + 17 * i + 11 : Nat) : Int) : Value) by rw [HZ.out]; congr 1 <;> omega]
        exact HCW.out 11 _ rfl
      have q12 : wr.cell? ⟨b, i * 17 + 12, none⟩ = some (.string (Pl.bs (Pl.mark (k + 17 * i + 12))) : Value) := HCW.out 12 _ rfl
      have q13 : wr.cell? ⟨b, i * 17 + 13, none⟩ = some (.bool ((z + 1 + 1 + 1 + 1 + 1 + 1 + 1 + 1 + 1 + 1 + 1 + 1 + 1) % 3 == 0) : Value) := by
        rw [show (.bool ((z + 1 + 1 + 1 + 1 + 1 + 1 + 1 + 1 + 1 + 1 + 1 + 1 + 1) % 3 == 0) : Value) = (.bool (((k + 17 * i + 13 : Nat) : Int) % 3 == 0) : Value) by rw [HZ.out]; congr 3 <;> omega]
        exact HCW.out 13 _ rfl
      have q14 : wr.cell? ⟨b, i * 17 + 14, none⟩ = some (.int .i64 (z + 1 + 1 + 1 + 1 + 1 + 1 + 1 + 1 + 1 + 1 + 1 + 1 + 1 + 1) : Value) := by
        rw [show (.int .i64 (z + 1 + 1 + 1 + 1 + 1 + 1 + 1 + 1 + 1 + 1 + 1 + 1 + 1 + 1) : Value) = (.int .i64 ((k + 17 * i + 14 : Nat) : Int) : Value) by rw [HZ.out]; congr 1 <;> omega]
        exact HCW.out 14 _ rfl
      have q15 : wr.cell? ⟨b, i * 17 + 15, none⟩ = some (.int .i64 (z + 1 + 1 + 1 + 1 + 1 + 1 + 1 + 1 + 1 + 1 + 1 + 1 + 1 + 1 + 1) : Value) := by
        rw [show (.int .i64 (z + 1 + 1 + 1 + 1 + 1 + 1 + 1 + 1 + 1 + 1 + 1 + 1 + 1 + 1 + 1) : Value) = (.int .i64 ((k + 17 * i + 15 : Nat) : Int) : Value) by rw [HZ.out]; congr 1 <;> omega]
        exact HCW.out 15 _ rfl
      have q16 : wr.cell? ⟨b, i * 17 + 16, none⟩ = some (.string (Pl.bs (Pl.mark (k + 17 * i + 16))) : Value) := HCW.out 16 _ rfl
      have n0 : ((z) != (z)) = false := by simp
      have n1 : ((z + 1) != (z + 1)) = false := by simp
      have n2 : ((z + 1 + 1) != (z + 1 + 1)) = false := by simp
      have n4 : ((z + 1 + 1 + 1 + 1) != (z + 1 + 1 + 1 + 1)) = false := by simp
      have n5 : ((z + 1 + 1 + 1 + 1 + 1) != (z + 1 + 1 + 1 + 1 + 1)) = false := by simp
      have n7 : ((z + 1 + 1 + 1 + 1 + 1 + 1 + 1) != (z + 1 + 1 + 1 + 1 + 1 + 1 + 1)) = false := by simp
      have n8 : ((z + 1 + 1 + 1 + 1 + 1 + 1 + 1 + 1) != (z + 1 + 1 + 1 + 1 + 1 + 1 + 1 + 1)) = false := by simp
      have n10 : ((z + 1 + 1 + 1 + 1 + 1 + 1 + 1 + 1 + 1 + 1) != (z + 1 + 1 + 1 + 1 + 1 + 1 + 1 + 1 + 1 + 1)) = false := by simp
      have n11 : ((z + 1 + 1 + 1 + 1 + 1 + 1 + 1 + 1 + 1 + 1 + 1) != (z + 1 + 1 + 1 + 1 + 1 + 1 + 1 + 1 + 1 + 1 + 1)) = false := by simp
      have n13 : (((z + 1 + 1 + 1 + 1 + 1 + 1 + 1 + 1 + 1 + 1 + 1 + 1 + 1) % 3 == 0) != ((z + 1 + 1 + 1 + 1 + 1 + 1 + 1 + 1 + 1 + 1 + 1 + 1 + 1) % 3 == 0)) = false := by simp
      have n14 : ((z + 1 + 1 + 1 + 1 + 1 + 1 + 1 + 1 + 1 + 1 + 1 + 1 + 1 + 1) != (z + 1 + 1 + 1 + 1 + 1 + 1 + 1 + 1 + 1 + 1 + 1 + 1 + 1 + 1)) = false := by simp
      have n15 : ((z + 1 + 1 + 1 + 1 + 1 + 1 + 1 + 1 + 1 + 1 + 1 + 1 + 1 + 1 + 1) != (z + 1 + 1 + 1 + 1 + 1 + 1 + 1 + 1 + 1 + 1 + 1 + 1 + 1 + 1 + 1)) = false := by simp
      have HP0 := HB
      go_wp2_with fail
      refine wp_region_noPanic ?_
      refine wp_region_held_drew (S := fun W => Below wr.heap.size wr W) (by kernel_rfl) (below_drew' (Below.refl _ _)) (fun hHeld => ?_)
      refine wpAnyH_take (i := 0) (oi := Oper.mk (some 41) _ _ _ _ _) (v := ?_) rfl (by kernel_rfl) (by kernel_rfl) (by kernel_rfl) (fun _ _ _ h => h) (Or.inl ⟨by rfl, ?_⟩) (by assumption) ?_
      rotate_left
      · intro w0 hSw
        clear hSw
        go_simp
        all_goals (with_reducible rfl)
      simp only [Act.put, List.setIfInBounds_toArray, List.set_cons_zero, List.set_cons_succ]
      refine wpAnyH_take (i := 1) (oi := Oper.mk (some 42) _ _ _ _ _) (v := ?_) rfl (by kernel_rfl) (by kernel_rfl) (by kernel_rfl) (fun _ _ _ h => h) (Or.inl ⟨by rfl, ?_⟩) (by assumption) ?_
      rotate_left
      · intro w0 hSw
        clear hSw
        go_simp
        all_goals (with_reducible rfl)
      simp only [Act.put, List.setIfInBounds_toArray, List.set_cons_zero, List.set_cons_succ]
      refine wpAnyH_take (i := 2) (oi := Oper.mk (some 43) _ _ _ _ _) (v := ?_) rfl (by kernel_rfl) (by kernel_rfl) (by kernel_rfl) (fun _ _ _ h => h) (Or.inl ⟨by rfl, ?_⟩) (by assumption) ?_
      rotate_left
      · intro w0 hSw
        clear hSw
        go_simp
        all_goals (with_reducible rfl)
      simp only [Act.put, List.setIfInBounds_toArray, List.set_cons_zero, List.set_cons_succ]
      refine wpAnyH_take (i := 3) (oi := Oper.mk (some 44) _ _ _ _ _) (v := ?_) rfl (by kernel_rfl) (by kernel_rfl) (by kernel_rfl) (fun _ _ _ h => h) (Or.inl ⟨by rfl, ?_⟩) (by assumption) ?_
      rotate_left
      · intro w0 hSw
        clear hSw
        go_simp
        all_goals (with_reducible rfl)
      simp only [Act.put, List.setIfInBounds_toArray, List.set_cons_zero, List.set_cons_succ]
      refine wpAnyH_take (i := 4) (oi := Oper.mk (some 45) _ _ _ _ _) (v := ?_) rfl (by kernel_rfl) (by kernel_rfl) (by kernel_rfl) (fun _ _ _ h => h) (Or.inl ⟨by rfl, ?_⟩) (by assumption) ?_
      rotate_left
      · intro w0 hSw
        clear hSw
        go_simp
        all_goals (with_reducible rfl)
      simp only [Act.put, List.setIfInBounds_toArray, List.set_cons_zero, List.set_cons_succ]
      refine wpAnyH_take (i := 5) (oi := Oper.mk (some 46) _ _ _ _ _) (v := ?_) rfl (by kernel_rfl) (by kernel_rfl) (by kernel_rfl) (fun _ _ _ h => h) (Or.inl ⟨by rfl, ?_⟩) (by assumption) ?_
      rotate_left
      · intro w0 hSw
        have z0 : w0.cell? ⟨b, i * 17 + 3, none⟩ = some ((.string (Pl.bs (Pl.mark (k + 17 * i + 3))) : Value)) := (Below.cell hSw (p := ⟨b, i * 17 + 3, none⟩) HGb.out).trans q3
        clear hSw
        go_simp
        all_goals (with_reducible rfl)
      simp only [Act.put, List.setIfInBounds_toArray, List.set_cons_zero, List.set_cons_succ]
      refine wpAnyH_take (i := 6) (oi := Oper.mk (some 47) _ _ _ _ _) (v := ?_) rfl (by kernel_rfl) (by kernel_rfl) (by kernel_rfl) (fun _ _ _ h => h) (Or.inl ⟨by rfl, ?_⟩) (by assumption) ?_
      rotate_left
      · intro w0 hSw
        clear hSw
        go_simp
        all_goals (with_reducible rfl)
      simp only [Act.put, List.setIfInBounds_toArray, List.set_cons_zero, List.set_cons_succ]
      refine wpAnyH_ready (rs := [7]) (by kernel_rfl) (by simp) ?_
      refine AllReadyH.cons (o := Oper.mk (some 48) _ _ _ _ _) rfl (fun K hK => ?_) AllReadyH.nil
      go_simp
      go_at_call 22
      refine (markText_at _ (k + 17 * i + 3) (by have := HZ.out; omega) (by omega) (by omega) _).mono ?_
      rintro x0 Y0 ⟨rfl, hB0⟩
      have hHeld' := Below.trans hHeld (hB0.mono hHeld.size)
      clear hB0 hHeld
      go_wp2_with fail
      refine hK.out _ _ hHeld' (fun hHeld => ?_)
      clear hK K hHeld'
      (try simp only [Act.put, List.setIfInBounds_toArray, List.set_cons_zero, List.set_cons_succ])
      refine wpAnyH_take (i := 8) (oi := Oper.mk (some 49) _ _ _ _ _) (v := ?_) rfl (by kernel_rfl) (by kernel_rfl) (by kernel_rfl) (fun _ _ _ h => h) (Or.inl ⟨by rfl, ?_⟩) (by assumption) ?_
      rotate_left
      · intro w0 hSw
        clear hSw
        go_simp
        all_goals (with_reducible rfl)
      simp only [Act.put, List.setIfInBounds_toArray, List.set_cons_zero, List.set_cons_succ]
      refine wpAnyH_done (by kernel_rfl) ?_ _
      refine NoPanic.normal ?_
      replace q0 : Y0.cell? ⟨b, i * 17, none⟩ = some (.int .i64 z : Value) := (Below.cell hHeld (p := ⟨b, i * 17, none⟩) HGb.out).trans q0
      replace q1 : Y0.cell? ⟨b, i * 17 + 1, none⟩ = some (.int .i64 (z + 1) : Value) := (Below.cell hHeld (p := ⟨b, i * 17 + 1, none⟩) HGb.out).trans q1
      replace q2 : Y0.cell? ⟨b, i * 17 + 2, none⟩ = some (.int .i64 (z + 1 + 1) : Value) := (Below.cell hHeld (p := ⟨b, i * 17 + 2, none⟩) HGb.out).trans q2
      replace q3 : Y0.cell? ⟨b, i * 17 + 3, none⟩ = some (.string (Pl.bs (Pl.mark (k + 17 * i + 3))) : Value) := (Below.cell hHeld (p := ⟨b, i * 17 + 3, none⟩) HGb.out).trans q3
      replace q4 : Y0.cell? ⟨b, i * 17 + 4, none⟩ = some (.int .i64 (z + 1 + 1 + 1 + 1) : Value) := (Below.cell hHeld (p := ⟨b, i * 17 + 4, none⟩) HGb.out).trans q4
      replace q5 : Y0.cell? ⟨b, i * 17 + 5, none⟩ = some (.int .i64 (z + 1 + 1 + 1 + 1 + 1) : Value) := (Below.cell hHeld (p := ⟨b, i * 17 + 5, none⟩) HGb.out).trans q5
      replace q6 : Y0.cell? ⟨b, i * 17 + 6, none⟩ = some (.string (Pl.bs (Pl.mark (k + 17 * i + 6))) : Value) := (Below.cell hHeld (p := ⟨b, i * 17 + 6, none⟩) HGb.out).trans q6
      replace q7 : Y0.cell? ⟨b, i * 17 + 7, none⟩ = some (.int .i64 (z + 1 + 1 + 1 + 1 + 1 + 1 + 1) : Value) := (Below.cell hHeld (p := ⟨b, i * 17 + 7, none⟩) HGb.out).trans q7
      replace q8 : Y0.cell? ⟨b, i * 17 + 8, none⟩ = some (.int .i64 (z + 1 + 1 + 1 + 1 + 1 + 1 + 1 + 1) : Value) := (Below.cell hHeld (p := ⟨b, i * 17 + 8, none⟩) HGb.out).trans q8
      replace q9 : Y0.cell? ⟨b, i * 17 + 9, none⟩ = some (.string (Pl.bs (Pl.mark (k + 17 * i + 9))) : Value) := (Below.cell hHeld (p := ⟨b, i * 17 + 9, none⟩) HGb.out).trans q9
      replace q10 : Y0.cell? ⟨b, i * 17 + 10, none⟩ = some (.int .i64 (z + 1 + 1 + 1 + 1 + 1 + 1 + 1 + 1 + 1 + 1) : Value) := (Below.cell hHeld (p := ⟨b, i * 17 + 10, none⟩) HGb.out).trans q10
      replace q11 : Y0.cell? ⟨b, i * 17 + 11, none⟩ = some (.int .i64 (z + 1 + 1 + 1 + 1 + 1 + 1 + 1 + 1 + 1 + 1 + 1) : Value) := (Below.cell hHeld (p := ⟨b, i * 17 + 11, none⟩) HGb.out).trans q11
      replace q12 : Y0.cell? ⟨b, i * 17 + 12, none⟩ = some (.string (Pl.bs (Pl.mark (k + 17 * i + 12))) : Value) := (Below.cell hHeld (p := ⟨b, i * 17 + 12, none⟩) HGb.out).trans q12
      replace q13 : Y0.cell? ⟨b, i * 17 + 13, none⟩ = some (.bool ((z + 1 + 1 + 1 + 1 + 1 + 1 + 1 + 1 + 1 + 1 + 1 + 1 + 1) % 3 == 0) : Value) := (Below.cell hHeld (p := ⟨b, i * 17 + 13, none⟩) HGb.out).trans q13
      replace q14 : Y0.cell? ⟨b, i * 17 + 14, none⟩ = some (.int .i64 (z + 1 + 1 + 1 + 1 + 1 + 1 + 1 + 1 + 1 + 1 + 1 + 1 + 1 + 1) : Value) := (Below.cell hHeld (p := ⟨b, i * 17 + 14, none⟩) HGb.out).trans q14
      replace q15 : Y0.cell? ⟨b, i * 17 + 15, none⟩ = some (.int .i64 (z + 1 + 1 + 1 + 1 + 1 + 1 + 1 + 1 + 1 + 1 + 1 + 1 + 1 + 1 + 1) : Value) := (Below.cell hHeld (p := ⟨b, i * 17 + 15, none⟩) HGb.out).trans q15
      replace q16 : Y0.cell? ⟨b, i * 17 + 16, none⟩ = some (.string (Pl.bs (Pl.mark (k + 17 * i + 16))) : Value) := (Below.cell hHeld (p := ⟨b, i * 17 + 16, none⟩) HGb.out).trans q16
      replace HGb : Hid (b < Y0.heap.size) := by show _ < _; have := HGb.out; have := hHeld.size; omega
      have HP1 := hide (HP0.out.trans (hHeld.mono HP0.out.size))
      clear hHeld
      go_wp2_with fail
      refine wp_region_noPanic ?_
      refine wp_region_held_drew (S := fun W => Below Y0.heap.size Y0 W) (by kernel_rfl) (below_drew' (Below.refl _ _)) (fun hHeld => ?_)
      refine wpAnyH_take (i := 0) (oi := Oper.mk (some 71) _ _ _ _ _) (v := ?_) rfl (by kernel_rfl) (by kernel_rfl) (by kernel_rfl) (fun _ _ _ h => h) (Or.inl ⟨by rfl, ?_⟩) (by assumption) ?_
      rotate_left
      · intro w0 hSw
        clear hSw
        go_simp
        all_goals (with_reducible rfl)
      simp only [Act.put, List.setIfInBounds_toArray, List.set_cons_zero, List.set_cons_succ]
      refine wpAnyH_take (i := 1) (oi := Oper.mk (some 72) _ _ _ _ _) (v := ?_) rfl (by kernel_rfl) (by kernel_rfl) (by kernel_rfl) (fun _ _ _ h => h) (Or.inl ⟨by rfl, ?_⟩) (by assumption) ?_
      rotate_left
      · intro w0 hSw
        clear hSw
        go_simp
        all_goals (with_reducible rfl)
      simp only [Act.put, List.setIfInBounds_toArray, List.set_cons_zero, List.set_cons_succ]
      refine wpAnyH_take (i := 2) (oi := Oper.mk (some 73) _ _ _ _ _) (v := ?_) rfl (by kernel_rfl) (by kernel_rfl) (by kernel_rfl) (fun _ _ _ h => h) (Or.inl ⟨by rfl, ?_⟩) (by assumption) ?_
      rotate_left
      · intro w0 hSw
        clear hSw
        go_simp
        all_goals (with_reducible rfl)
      simp only [Act.put, List.setIfInBounds_toArray, List.set_cons_zero, List.set_cons_succ]
      refine wpAnyH_take (i := 3) (oi := Oper.mk (some 74) _ _ _ _ _) (v := ?_) rfl (by kernel_rfl) (by kernel_rfl) (by kernel_rfl) (fun _ _ _ h => h) (Or.inl ⟨by rfl, ?_⟩) (by assumption) ?_
      rotate_left
      · intro w0 hSw
        clear hSw
        go_simp
        all_goals (with_reducible rfl)
      simp only [Act.put, List.setIfInBounds_toArray, List.set_cons_zero, List.set_cons_succ]
      refine wpAnyH_take (i := 4) (oi := Oper.mk (some 75) _ _ _ _ _) (v := ?_) rfl (by kernel_rfl) (by kernel_rfl) (by kernel_rfl) (fun _ _ _ h => h) (Or.inl ⟨by rfl, ?_⟩) (by assumption) ?_
      rotate_left
      · intro w0 hSw
        clear hSw
        go_simp
        all_goals (with_reducible rfl)
      simp only [Act.put, List.setIfInBounds_toArray, List.set_cons_zero, List.set_cons_succ]
      refine wpAnyH_take (i := 5) (oi := Oper.mk (some 76) _ _ _ _ _) (v := ?_) rfl (by kernel_rfl) (by kernel_rfl) (by kernel_rfl) (fun _ _ _ h => h) (Or.inl ⟨by rfl, ?_⟩) (by assumption) ?_
      rotate_left
      · intro w0 hSw
        have z0 : w0.cell? ⟨b, i * 17 + 6, none⟩ = some ((.string (Pl.bs (Pl.mark (k + 17 * i + 6))) : Value)) := (Below.cell hSw (p := ⟨b, i * 17 + 6, none⟩) HGb.out).trans q6
        clear hSw
        go_simp
        all_goals (with_reducible rfl)
      simp only [Act.put, List.setIfInBounds_toArray, List.set_cons_zero, List.set_cons_succ]
      refine wpAnyH_take (i := 6) (oi := Oper.mk (some 77) _ _ _ _ _) (v := ?_) rfl (by kernel_rfl) (by kernel_rfl) (by kernel_rfl) (fun _ _ _ h => h) (Or.inl ⟨by rfl, ?_⟩) (by assumption) ?_
      rotate_left
      · intro w0 hSw
        clear hSw
        go_simp
        all_goals (with_reducible rfl)
      simp only [Act.put, List.setIfInBounds_toArray, List.set_cons_zero, List.set_cons_succ]
      refine wpAnyH_ready (rs := [7]) (by kernel_rfl) (by simp) ?_
      refine AllReadyH.cons (o := Oper.mk (some 78) _ _ _ _ _) rfl (fun K hK => ?_) AllReadyH.nil
      go_simp
      go_at_call 22
      refine (markText_at _ (k + 17 * i + 6) (by have := HZ.out; omega) (by omega) (by omega) _).mono ?_
      rintro x1 Y1 ⟨rfl, hB0⟩
      have hHeld' := Below.trans hHeld (hB0.mono hHeld.size)
      clear hB0 hHeld
      go_wp2_with fail
      refine hK.out _ _ hHeld' (fun hHeld => ?_)
      clear hK K hHeld'
      (try simp only [Act.put, List.setIfInBounds_toArray, List.set_cons_zero, List.set_cons_succ])
      refine wpAnyH_take (i := 8) (oi := Oper.mk (some 79) _ _ _ _ _) (v := ?_) rfl (by kernel_rfl) (by kernel_rfl) (by kernel_rfl) (fun _ _ _ h => h) (Or.inl ⟨by rfl, ?_⟩) (by assumption) ?_
      rotate_left
      · intro w0 hSw
        clear hSw
        go_simp
        all_goals (with_reducible rfl)
      simp only [Act.put, List.setIfInBounds_toArray, List.set_cons_zero, List.set_cons_succ]
      refine wpAnyH_done (by kernel_rfl) ?_ _
      refine NoPanic.normal ?_
      replace q0 : Y1.cell? ⟨b, i * 17, none⟩ = some (.int .i64 z : Value) := (Below.cell hHeld (p := ⟨b, i * 17, none⟩) HGb.out).trans q0
      replace q1 : Y1.cell? ⟨b, i * 17 + 1, none⟩ = some (.int .i64 (z + 1) : Value) := (Below.cell hHeld (p := ⟨b, i * 17 + 1, none⟩) HGb.out).trans q1
      replace q2 : Y1.cell? ⟨b, i * 17 + 2, none⟩ = some (.int .i64 (z + 1 + 1) : Value) := (Below.cell hHeld (p := ⟨b, i * 17 + 2, none⟩) HGb.out).trans q2
      replace q3 : Y1.cell? ⟨b, i * 17 + 3, none⟩ = some (.string (Pl.bs (Pl.mark (k + 17 * i + 3))) : Value) := (Below.cell hHeld (p := ⟨b, i * 17 + 3, none⟩) HGb.out).trans q3
      replace q4 : Y1.cell? ⟨b, i * 17 + 4, none⟩ = some (.int .i64 (z + 1 + 1 + 1 + 1) : Value) := (Below.cell hHeld (p := ⟨b, i * 17 + 4, none⟩) HGb.out).trans q4
      replace q5 : Y1.cell? ⟨b, i * 17 + 5, none⟩ = some (.int .i64 (z + 1 + 1 + 1 + 1 + 1) : Value) := (Below.cell hHeld (p := ⟨b, i * 17 + 5, none⟩) HGb.out).trans q5
      replace q6 : Y1.cell? ⟨b, i * 17 + 6, none⟩ = some (.string (Pl.bs (Pl.mark (k + 17 * i + 6))) : Value) := (Below.cell hHeld (p := ⟨b, i * 17 + 6, none⟩) HGb.out).trans q6
      replace q7 : Y1.cell? ⟨b, i * 17 + 7, none⟩ = some (.int .i64 (z + 1 + 1 + 1 + 1 + 1 + 1 + 1) : Value) := (Below.cell hHeld (p := ⟨b, i * 17 + 7, none⟩) HGb.out).trans q7
      replace q8 : Y1.cell? ⟨b, i * 17 + 8, none⟩ = some (.int .i64 (z + 1 + 1 + 1 + 1 + 1 + 1 + 1 + 1) : Value) := (Below.cell hHeld (p := ⟨b, i * 17 + 8, none⟩) HGb.out).trans q8
      replace q9 : Y1.cell? ⟨b, i * 17 + 9, none⟩ = some (.string (Pl.bs (Pl.mark (k + 17 * i + 9))) : Value) := (Below.cell hHeld (p := ⟨b, i * 17 + 9, none⟩) HGb.out).trans q9
      replace q10 : Y1.cell? ⟨b, i * 17 + 10, none⟩ = some (.int .i64 (z + 1 + 1 + 1 + 1 + 1 + 1 + 1 + 1 + 1 + 1) : Value) := (Below.cell hHeld (p := ⟨b, i * 17 + 10, none⟩) HGb.out).trans q10
      replace q11 : Y1.cell? ⟨b, i * 17 + 11, none⟩ = some (.int .i64 (z + 1 + 1 + 1 + 1 + 1 + 1 + 1 + 1 + 1 + 1 + 1) : Value) := (Below.cell hHeld (p := ⟨b, i * 17 + 11, none⟩) HGb.out).trans q11
      replace q12 : Y1.cell? ⟨b, i * 17 + 12, none⟩ = some (.string (Pl.bs (Pl.mark (k + 17 * i + 12))) : Value) := (Below.cell hHeld (p := ⟨b, i * 17 + 12, none⟩) HGb.out).trans q12
      replace q13 : Y1.cell? ⟨b, i * 17 + 13, none⟩ = some (.bool ((z + 1 + 1 + 1 + 1 + 1 + 1 + 1 + 1 + 1 + 1 + 1 + 1 + 1) % 3 == 0) : Value) := (Below.cell hHeld (p := ⟨b, i * 17 + 13, none⟩) HGb.out).trans q13
      replace q14 : Y1.cell? ⟨b, i * 17 + 14, none⟩ = some (.int .i64 (z + 1 + 1 + 1 + 1 + 1 + 1 + 1 + 1 + 1 + 1 + 1 + 1 + 1 + 1) : Value) := (Below.cell hHeld (p := ⟨b, i * 17 + 14, none⟩) HGb.out).trans q14
      replace q15 : Y1.cell? ⟨b, i * 17 + 15, none⟩ = some (.int .i64 (z + 1 + 1 + 1 + 1 + 1 + 1 + 1 + 1 + 1 + 1 + 1 + 1 + 1 + 1 + 1) : Value) := (Below.cell hHeld (p := ⟨b, i * 17 + 15, none⟩) HGb.out).trans q15
      replace q16 : Y1.cell? ⟨b, i * 17 + 16, none⟩ = some (.string (Pl.bs (Pl.mark (k + 17 * i + 16))) : Value) := (Below.cell hHeld (p := ⟨b, i * 17 + 16, none⟩) HGb.out).trans q16
      replace HGb : Hid (b < Y1.heap.size) := by show _ < _; have := HGb.out; have := hHeld.size; omega
      have HP2 := hide (HP1.out.trans (hHeld.mono HP1.out.size))
      clear hHeld
      go_wp2_with fail
      refine wp_region_noPanic ?_
      refine wp_region_held_drew (S := fun W => Below Y1.heap.size Y1 W) (by kernel_rfl) (below_drew' (Below.refl _ _)) (fun hHeld => ?_)
      refine wpAnyH_take (i := 0) (oi := Oper.mk (some 104) _ _ _ _ _) (v := ?_) rfl (by kernel_rfl) (by kernel_rfl) (by kernel_rfl) (fun _ _ _ h => h) (Or.inl ⟨by rfl, ?_⟩) (by assumption) ?_
      rotate_left
      · intro w0 hSw
        clear hSw
        go_simp
        all_goals (with_reducible rfl)
      simp only [Act.put, List.setIfInBounds_toArray, List.set_cons_zero, List.set_cons_succ]
      refine wpAnyH_take (i := 1) (oi := Oper.mk (some 105) _ _ _ _ _) (v := ?_) rfl (by kernel_rfl) (by kernel_rfl) (by kernel_rfl) (fun _ _ _ h => h) (Or.inl ⟨by rfl, ?_⟩) (by assumption) ?_
      rotate_left
      · intro w0 hSw
        clear hSw
        go_simp
        all_goals (with_reducible rfl)
      simp only [Act.put, List.setIfInBounds_toArray, List.set_cons_zero, List.set_cons_succ]
      refine wpAnyH_take (i := 2) (oi := Oper.mk (some 106) _ _ _ _ _) (v := ?_) rfl (by kernel_rfl) (by kernel_rfl) (by kernel_rfl) (fun _ _ _ h => h) (Or.inl ⟨by rfl, ?_⟩) (by assumption) ?_
      rotate_left
      · intro w0 hSw
        clear hSw
        go_simp
        all_goals (with_reducible rfl)
      simp only [Act.put, List.setIfInBounds_toArray, List.set_cons_zero, List.set_cons_succ]
      refine wpAnyH_take (i := 3) (oi := Oper.mk (some 107) _ _ _ _ _) (v := ?_) rfl (by kernel_rfl) (by kernel_rfl) (by kernel_rfl) (fun _ _ _ h => h) (Or.inl ⟨by rfl, ?_⟩) (by assumption) ?_
      rotate_left
      · intro w0 hSw
        clear hSw
        go_simp
        all_goals (with_reducible rfl)
      simp only [Act.put, List.setIfInBounds_toArray, List.set_cons_zero, List.set_cons_succ]
      refine wpAnyH_take (i := 4) (oi := Oper.mk (some 108) _ _ _ _ _) (v := ?_) rfl (by kernel_rfl) (by kernel_rfl) (by kernel_rfl) (fun _ _ _ h => h) (Or.inl ⟨by rfl, ?_⟩) (by assumption) ?_
      rotate_left
      · intro w0 hSw
        clear hSw
        go_simp
        all_goals (with_reducible rfl)
      simp only [Act.put, List.setIfInBounds_toArray, List.set_cons_zero, List.set_cons_succ]
      refine wpAnyH_take (i := 5) (oi := Oper.mk (some 109) _ _ _ _ _) (v := ?_) rfl (by kernel_rfl) (by kernel_rfl) (by kernel_rfl) (fun _ _ _ h => h) (Or.inl ⟨by rfl, ?_⟩) (by assumption) ?_
      rotate_left
      · intro w0 hSw
        clear hSw
        go_simp
        all_goals (with_reducible rfl)
      simp only [Act.put, List.setIfInBounds_toArray, List.set_cons_zero, List.set_cons_succ]
      refine wpAnyH_take (i := 6) (oi := Oper.mk (some 110) _ _ _ _ _) (v := ?_) rfl (by kernel_rfl) (by kernel_rfl) (by kernel_rfl) (fun _ _ _ h => h) (Or.inl ⟨by rfl, ?_⟩) (by assumption) ?_
      rotate_left
      · intro w0 hSw
        have z0 : w0.cell? ⟨b, i * 17 + 9, none⟩ = some ((.string (Pl.bs (Pl.mark (k + 17 * i + 9))) : Value)) := (Below.cell hSw (p := ⟨b, i * 17 + 9, none⟩) HGb.out).trans q9
        clear hSw
        go_simp
        all_goals (with_reducible rfl)
      simp only [Act.put, List.setIfInBounds_toArray, List.set_cons_zero, List.set_cons_succ]
      refine wpAnyH_take (i := 7) (oi := Oper.mk (some 111) _ _ _ _ _) (v := ?_) rfl (by kernel_rfl) (by kernel_rfl) (by kernel_rfl) (fun _ _ _ h => h) (Or.inl ⟨by rfl, ?_⟩) (by assumption) ?_
      rotate_left
      · intro w0 hSw
        clear hSw
        go_simp
        all_goals (with_reducible rfl)
      simp only [Act.put, List.setIfInBounds_toArray, List.set_cons_zero, List.set_cons_succ]
      refine wpAnyH_ready (rs := [8]) (by kernel_rfl) (by simp) ?_
      refine AllReadyH.cons (o := Oper.mk (some 112) _ _ _ _ _) rfl (fun K hK => ?_) AllReadyH.nil
      go_simp
      go_at_call 22
      refine (markText_at _ (k + 17 * i + 9) (by have := HZ.out; omega) (by omega) (by omega) _).mono ?_
      rintro x2 Y2 ⟨rfl, hB0⟩
      have hHeld' := Below.trans hHeld (hB0.mono hHeld.size)
      clear hB0 hHeld
      go_wp2_with fail
      refine hK.out _ _ hHeld' (fun hHeld => ?_)
      clear hK K hHeld'
      (try simp only [Act.put, List.setIfInBounds_toArray, List.set_cons_zero, List.set_cons_succ])
      refine wpAnyH_take (i := 9) (oi := Oper.mk (some 113) _ _ _ _ _) (v := ?_) rfl (by kernel_rfl) (by kernel_rfl) (by kernel_rfl) (fun _ _ _ h => h) (Or.inl ⟨by rfl, ?_⟩) (by assumption) ?_
      rotate_left
      · intro w0 hSw
        clear hSw
        go_simp
        all_goals (with_reducible rfl)
      simp only [Act.put, List.setIfInBounds_toArray, List.set_cons_zero, List.set_cons_succ]
      refine wpAnyH_done (by kernel_rfl) ?_ _
      refine NoPanic.normal ?_
      replace q0 : Y2.cell? ⟨b, i * 17, none⟩ = some (.int .i64 z : Value) := (Below.cell hHeld (p := ⟨b, i * 17, none⟩) HGb.out).trans q0
      replace q1 : Y2.cell? ⟨b, i * 17 + 1, none⟩ = some (.int .i64 (z + 1) : Value) := (Below.cell hHeld (p := ⟨b, i * 17 + 1, none⟩) HGb.out).trans q1
      replace q2 : Y2.cell? ⟨b, i * 17 + 2, none⟩ = some (.int .i64 (z + 1 + 1) : Value) := (Below.cell hHeld (p := ⟨b, i * 17 + 2, none⟩) HGb.out).trans q2
      replace q3 : Y2.cell? ⟨b, i * 17 + 3, none⟩ = some (.string (Pl.bs (Pl.mark (k + 17 * i + 3))) : Value) := (Below.cell hHeld (p := ⟨b, i * 17 + 3, none⟩) HGb.out).trans q3
      replace q4 : Y2.cell? ⟨b, i * 17 + 4, none⟩ = some (.int .i64 (z + 1 + 1 + 1 + 1) : Value) := (Below.cell hHeld (p := ⟨b, i * 17 + 4, none⟩) HGb.out).trans q4
      replace q5 : Y2.cell? ⟨b, i * 17 + 5, none⟩ = some (.int .i64 (z + 1 + 1 + 1 + 1 + 1) : Value) := (Below.cell hHeld (p := ⟨b, i * 17 + 5, none⟩) HGb.out).trans q5
      replace q6 : Y2.cell? ⟨b, i * 17 + 6, none⟩ = some (.string (Pl.bs (Pl.mark (k + 17 * i + 6))) : Value) := (Below.cell hHeld (p := ⟨b, i * 17 + 6, none⟩) HGb.out).trans q6
      replace q7 : Y2.cell? ⟨b, i * 17 + 7, none⟩ = some (.int .i64 (z + 1 + 1 + 1 + 1 + 1 + 1 + 1) : Value) := (Below.cell hHeld (p := ⟨b, i * 17 + 7, none⟩) HGb.out).trans q7
      replace q8 : Y2.cell? ⟨b, i * 17 + 8, none⟩ = some (.int .i64 (z + 1 + 1 + 1 + 1 + 1 + 1 + 1 + 1) : Value) := (Below.cell hHeld (p := ⟨b, i * 17 + 8, none⟩) HGb.out).trans q8
      replace q9 : Y2.cell? ⟨b, i * 17 + 9, none⟩ = some (.string (Pl.bs (Pl.mark (k + 17 * i + 9))) : Value) := (Below.cell hHeld (p := ⟨b, i * 17 + 9, none⟩) HGb.out).trans q9
      replace q10 : Y2.cell? ⟨b, i * 17 + 10, none⟩ = some (.int .i64 (z + 1 + 1 + 1 + 1 + 1 + 1 + 1 + 1 + 1 + 1) : Value) := (Below.cell hHeld (p := ⟨b, i * 17 + 10, none⟩) HGb.out).trans q10
      replace q11 : Y2.cell? ⟨b, i * 17 + 11, none⟩ = some (.int .i64 (z + 1 + 1 + 1 + 1 + 1 + 1 + 1 + 1 + 1 + 1 + 1) : Value) := (Below.cell hHeld (p := ⟨b, i * 17 + 11, none⟩) HGb.out).trans q11
      replace q12 : Y2.cell? ⟨b, i * 17 + 12, none⟩ = some (.string (Pl.bs (Pl.mark (k + 17 * i + 12))) : Value) := (Below.cell hHeld (p := ⟨b, i * 17 + 12, none⟩) HGb.out).trans q12
      replace q13 : Y2.cell? ⟨b, i * 17 + 13, none⟩ = some (.bool ((z + 1 + 1 + 1 + 1 + 1 + 1 + 1 + 1 + 1 + 1 + 1 + 1 + 1) % 3 == 0) : Value) := (Below.cell hHeld (p := ⟨b, i * 17 + 13, none⟩) HGb.out).trans q13
      replace q14 : Y2.cell? ⟨b, i * 17 + 14, none⟩ = some (.int .i64 (z + 1 + 1 + 1 + 1 + 1 + 1 + 1 + 1 + 1 + 1 + 1 + 1 + 1 + 1) : Value) := (Below.cell hHeld (p := ⟨b, i * 17 + 14, none⟩) HGb.out).trans q14
      replace q15 : Y2.cell? ⟨b, i * 17 + 15, none⟩ = some (.int .i64 (z + 1 + 1 + 1 + 1 + 1 + 1 + 1 + 1 + 1 + 1 + 1 + 1 + 1 + 1 + 1) : Value) := (Below.cell hHeld (p := ⟨b, i * 17 + 15, none⟩) HGb.out).trans q15
      replace q16 : Y2.cell? ⟨b, i * 17 + 16, none⟩ = some (.string (Pl.bs (Pl.mark (k + 17 * i + 16))) : Value) := (Below.cell hHeld (p := ⟨b, i * 17 + 16, none⟩) HGb.out).trans q16
      replace HGb : Hid (b < Y2.heap.size) := by show _ < _; have := HGb.out; have := hHeld.size; omega
      have HP3 := hide (HP2.out.trans (hHeld.mono HP2.out.size))
      clear hHeld
      go_wp2_with fail
      refine wp_region_noPanic ?_
      refine wp_region_held_drew (S := fun W => Below Y2.heap.size Y2 W) (by kernel_rfl) (below_drew' (Below.refl _ _)) (fun hHeld => ?_)
      refine wpAnyH_take (i := 0) (oi := Oper.mk (some 136) _ _ _ _ _) (v := ?_) rfl (by kernel_rfl) (by kernel_rfl) (by kernel_rfl) (fun _ _ _ h => h) (Or.inl ⟨by rfl, ?_⟩) (by assumption) ?_
      rotate_left
      · intro w0 hSw
        clear hSw
        go_simp
        all_goals (with_reducible rfl)
      simp only [Act.put, List.setIfInBounds_toArray, List.set_cons_zero, List.set_cons_succ]
      refine wpAnyH_take (i := 1) (oi := Oper.mk (some 137) _ _ _ _ _) (v := ?_) rfl (by kernel_rfl) (by kernel_rfl) (by kernel_rfl) (fun _ _ _ h => h) (Or.inl ⟨by rfl, ?_⟩) (by assumption) ?_
      rotate_left
      · intro w0 hSw
        clear hSw
        go_simp
        all_goals (with_reducible rfl)
      simp only [Act.put, List.setIfInBounds_toArray, List.set_cons_zero, List.set_cons_succ]
      refine wpAnyH_take (i := 2) (oi := Oper.mk (some 138) _ _ _ _ _) (v := ?_) rfl (by kernel_rfl) (by kernel_rfl) (by kernel_rfl) (fun _ _ _ h => h) (Or.inl ⟨by rfl, ?_⟩) (by assumption) ?_
      rotate_left
      · intro w0 hSw
        clear hSw
        go_simp
        all_goals (with_reducible rfl)
      simp only [Act.put, List.setIfInBounds_toArray, List.set_cons_zero, List.set_cons_succ]
      refine wpAnyH_take (i := 3) (oi := Oper.mk (some 139) _ _ _ _ _) (v := ?_) rfl (by kernel_rfl) (by kernel_rfl) (by kernel_rfl) (fun _ _ _ h => h) (Or.inl ⟨by rfl, ?_⟩) (by assumption) ?_
      rotate_left
      · intro w0 hSw
        clear hSw
        go_simp
        all_goals (with_reducible rfl)
      simp only [Act.put, List.setIfInBounds_toArray, List.set_cons_zero, List.set_cons_succ]
      refine wpAnyH_take (i := 4) (oi := Oper.mk (some 140) _ _ _ _ _) (v := ?_) rfl (by kernel_rfl) (by kernel_rfl) (by kernel_rfl) (fun _ _ _ h => h) (Or.inl ⟨by rfl, ?_⟩) (by assumption) ?_
      rotate_left
      · intro w0 hSw
        clear hSw
        go_simp
        all_goals (with_reducible rfl)
      simp only [Act.put, List.setIfInBounds_toArray, List.set_cons_zero, List.set_cons_succ]
      refine wpAnyH_take (i := 5) (oi := Oper.mk (some 141) _ _ _ _ _) (v := ?_) rfl (by kernel_rfl) (by kernel_rfl) (by kernel_rfl) (fun _ _ _ h => h) (Or.inl ⟨by rfl, ?_⟩) (by assumption) ?_
      rotate_left
      · intro w0 hSw
        have z0 : w0.cell? ⟨b, i * 17 + 12, none⟩ = some ((.string (Pl.bs (Pl.mark (k + 17 * i + 12))) : Value)) := (Below.cell hSw (p := ⟨b, i * 17 + 12, none⟩) HGb.out).trans q12
        clear hSw
        go_simp
        all_goals (with_reducible rfl)
      simp only [Act.put, List.setIfInBounds_toArray, List.set_cons_zero, List.set_cons_succ]
      refine wpAnyH_take (i := 6) (oi := Oper.mk (some 142) _ _ _ _ _) (v := ?_) rfl (by kernel_rfl) (by kernel_rfl) (by kernel_rfl) (fun _ _ _ h => h) (Or.inl ⟨by rfl, ?_⟩) (by assumption) ?_
      rotate_left
      · intro w0 hSw
        clear hSw
        go_simp
        all_goals (with_reducible rfl)
      simp only [Act.put, List.setIfInBounds_toArray, List.set_cons_zero, List.set_cons_succ]
      refine wpAnyH_ready (rs := [7]) (by kernel_rfl) (by simp) ?_
      refine AllReadyH.cons (o := Oper.mk (some 143) _ _ _ _ _) rfl (fun K hK => ?_) AllReadyH.nil
      go_simp
      go_at_call 22
      refine (markText_at _ (k + 17 * i + 12) (by have := HZ.out; omega) (by omega) (by omega) _).mono ?_
      rintro x3 Y3 ⟨rfl, hB0⟩
      have hHeld' := Below.trans hHeld (hB0.mono hHeld.size)
      clear hB0 hHeld
      go_wp2_with fail
      refine hK.out _ _ hHeld' (fun hHeld => ?_)
      clear hK K hHeld'
      (try simp only [Act.put, List.setIfInBounds_toArray, List.set_cons_zero, List.set_cons_succ])
      refine wpAnyH_take (i := 8) (oi := Oper.mk (some 144) _ _ _ _ _) (v := ?_) rfl (by kernel_rfl) (by kernel_rfl) (by kernel_rfl) (fun _ _ _ h => h) (Or.inl ⟨by rfl, ?_⟩) (by assumption) ?_
      rotate_left
      · intro w0 hSw
        clear hSw
        go_simp
        all_goals (with_reducible rfl)
      simp only [Act.put, List.setIfInBounds_toArray, List.set_cons_zero, List.set_cons_succ]
      refine wpAnyH_done (by kernel_rfl) ?_ _
      refine NoPanic.normal ?_
      replace q0 : Y3.cell? ⟨b, i * 17, none⟩ = some (.int .i64 z : Value) := (Below.cell hHeld (p := ⟨b, i * 17, none⟩) HGb.out).trans q0
      replace q1 : Y3.cell? ⟨b, i * 17 + 1, none⟩ = some (.int .i64 (z + 1) : Value) := (Below.cell hHeld (p := ⟨b, i * 17 + 1, none⟩) HGb.out).trans q1
      replace q2 : Y3.cell? ⟨b, i * 17 + 2, none⟩ = some (.int .i64 (z + 1 + 1) : Value) := (Below.cell hHeld (p := ⟨b, i * 17 + 2, none⟩) HGb.out).trans q2
      replace q3 : Y3.cell? ⟨b, i * 17 + 3, none⟩ = some (.string (Pl.bs (Pl.mark (k + 17 * i + 3))) : Value) := (Below.cell hHeld (p := ⟨b, i * 17 + 3, none⟩) HGb.out).trans q3
      replace q4 : Y3.cell? ⟨b, i * 17 + 4, none⟩ = some (.int .i64 (z + 1 + 1 + 1 + 1) : Value) := (Below.cell hHeld (p := ⟨b, i * 17 + 4, none⟩) HGb.out).trans q4
      replace q5 : Y3.cell? ⟨b, i * 17 + 5, none⟩ = some (.int .i64 (z + 1 + 1 + 1 + 1 + 1) : Value) := (Below.cell hHeld (p := ⟨b, i * 17 + 5, none⟩) HGb.out).trans q5
      replace q6 : Y3.cell? ⟨b, i * 17 + 6, none⟩ = some (.string (Pl.bs (Pl.mark (k + 17 * i + 6))) : Value) := (Below.cell hHeld (p := ⟨b, i * 17 + 6, none⟩) HGb.out).trans q6
      replace q7 : Y3.cell? ⟨b, i * 17 + 7, none⟩ = some (.int .i64 (z + 1 + 1 + 1 + 1 + 1 + 1 + 1) : Value) := (Below.cell hHeld (p := ⟨b, i * 17 + 7, none⟩) HGb.out).trans q7
      replace q8 : Y3.cell? ⟨b, i * 17 + 8, none⟩ = some (.int .i64 (z + 1 + 1 + 1 + 1 + 1 + 1 + 1 + 1) : Value) := (Below.cell hHeld (p := ⟨b, i * 17 + 8, none⟩) HGb.out).trans q8
      replace q9 : Y3.cell? ⟨b, i * 17 + 9, none⟩ = some (.string (Pl.bs (Pl.mark (k + 17 * i + 9))) : Value) := (Below.cell hHeld (p := ⟨b, i * 17 + 9, none⟩) HGb.out).trans q9
      replace q10 : Y3.cell? ⟨b, i * 17 + 10, none⟩ = some (.int .i64 (z + 1 + 1 + 1 + 1 + 1 + 1 + 1 + 1 + 1 + 1) : Value) := (Below.cell hHeld (p := ⟨b, i * 17 + 10, none⟩) HGb.out).trans q10
      replace q11 : Y3.cell? ⟨b, i * 17 + 11, none⟩ = some (.int .i64 (z + 1 + 1 + 1 + 1 + 1 + 1 + 1 + 1 + 1 + 1 + 1) : Value) := (Below.cell hHeld (p := ⟨b, i * 17 + 11, none⟩) HGb.out).trans q11
      replace q12 : Y3.cell? ⟨b, i * 17 + 12, none⟩ = some (.string (Pl.bs (Pl.mark (k + 17 * i + 12))) : Value) := (Below.cell hHeld (p := ⟨b, i * 17 + 12, none⟩) HGb.out).trans q12
      replace q13 : Y3.cell? ⟨b, i * 17 + 13, none⟩ = some (.bool ((z + 1 + 1 + 1 + 1 + 1 + 1 + 1 + 1 + 1 + 1 + 1 + 1 + 1) % 3 == 0) : Value) := (Below.cell hHeld (p := ⟨b, i * 17 + 13, none⟩) HGb.out).trans q13
      replace q14 : Y3.cell? ⟨b, i * 17 + 14, none⟩ = some (.int .i64 (z + 1 + 1 + 1 + 1 + 1 + 1 + 1 + 1 + 1 + 1 + 1 + 1 + 1 + 1) : Value) := (Below.cell hHeld (p := ⟨b, i * 17 + 14, none⟩) HGb.out).trans q14
      replace q15 : Y3.cell? ⟨b, i * 17 + 15, none⟩ = some (.int .i64 (z + 1 + 1 + 1 + 1 + 1 + 1 + 1 + 1 + 1 + 1 + 1 + 1 + 1 + 1 + 1) : Value) := (Below.cell hHeld (p := ⟨b, i * 17 + 15, none⟩) HGb.out).trans q15
      replace q16 : Y3.cell? ⟨b, i * 17 + 16, none⟩ = some (.string (Pl.bs (Pl.mark (k + 17 * i + 16))) : Value) := (Below.cell hHeld (p := ⟨b, i * 17 + 16, none⟩) HGb.out).trans q16
      replace HGb : Hid (b < Y3.heap.size) := by show _ < _; have := HGb.out; have := hHeld.size; omega
      have HP4 := hide (HP3.out.trans (hHeld.mono HP3.out.size))
      clear hHeld
      go_wp2_with fail
      refine wp_region_noPanic ?_
      refine wp_region_held_drew (S := fun W => Below Y3.heap.size Y3 W) (by kernel_rfl) (below_drew' (Below.refl _ _)) (fun hHeld => ?_)
      refine wpAnyH_take (i := 0) (oi := Oper.mk (some 181) _ _ _ _ _) (v := ?_) rfl (by kernel_rfl) (by kernel_rfl) (by kernel_rfl) (fun _ _ _ h => h) (Or.inl ⟨by rfl, ?_⟩) (by assumption) ?_
      rotate_left
      · intro w0 hSw
        clear hSw
        go_simp
        all_goals (with_reducible rfl)
      simp only [Act.put, List.setIfInBounds_toArray, List.set_cons_zero, List.set_cons_succ]
      refine wpAnyH_take (i := 1) (oi := Oper.mk (some 182) _ _ _ _ _) (v := ?_) rfl (by kernel_rfl) (by kernel_rfl) (by kernel_rfl) (fun _ _ _ h => h) (Or.inl ⟨by rfl, ?_⟩) (by assumption) ?_
      rotate_left
      · intro w0 hSw
        clear hSw
        go_simp
        all_goals (with_reducible rfl)
      simp only [Act.put, List.setIfInBounds_toArray, List.set_cons_zero, List.set_cons_succ]
      refine wpAnyH_take (i := 2) (oi := Oper.mk (some 183) _ _ _ _ _) (v := ?_) rfl (by kernel_rfl) (by kernel_rfl) (by kernel_rfl) (fun _ _ _ h => h) (Or.inl ⟨by rfl, ?_⟩) (by assumption) ?_
      rotate_left
      · intro w0 hSw
        clear hSw
        go_simp
        all_goals (with_reducible rfl)
      simp only [Act.put, List.setIfInBounds_toArray, List.set_cons_zero, List.set_cons_succ]
      refine wpAnyH_take (i := 3) (oi := Oper.mk (some 184) _ _ _ _ _) (v := ?_) rfl (by kernel_rfl) (by kernel_rfl) (by kernel_rfl) (fun _ _ _ h => h) (Or.inl ⟨by rfl, ?_⟩) (by assumption) ?_
      rotate_left
      · intro w0 hSw
        clear hSw
        go_simp
        all_goals (with_reducible rfl)
      simp only [Act.put, List.setIfInBounds_toArray, List.set_cons_zero, List.set_cons_succ]
      refine wpAnyH_take (i := 4) (oi := Oper.mk (some 185) _ _ _ _ _) (v := ?_) rfl (by kernel_rfl) (by kernel_rfl) (by kernel_rfl) (fun _ _ _ h => h) (Or.inl ⟨by rfl, ?_⟩) (by assumption) ?_
      rotate_left
      · intro w0 hSw
        clear hSw
        go_simp
        all_goals (with_reducible rfl)
      simp only [Act.put, List.setIfInBounds_toArray, List.set_cons_zero, List.set_cons_succ]
      refine wpAnyH_take (i := 5) (oi := Oper.mk (some 186) _ _ _ _ _) (v := ?_) rfl (by kernel_rfl) (by kernel_rfl) (by kernel_rfl) (fun _ _ _ h => h) (Or.inl ⟨by rfl, ?_⟩) (by assumption) ?_
      rotate_left
      · intro w0 hSw
        clear hSw
        go_simp
        all_goals (with_reducible rfl)
      simp only [Act.put, List.setIfInBounds_toArray, List.set_cons_zero, List.set_cons_succ]
      refine wpAnyH_take (i := 6) (oi := Oper.mk (some 187) _ _ _ _ _) (v := ?_) rfl (by kernel_rfl) (by kernel_rfl) (by kernel_rfl) (fun _ _ _ h => h) (Or.inl ⟨by rfl, ?_⟩) (by assumption) ?_
      rotate_left
      · intro w0 hSw
        have z0 : w0.cell? ⟨b, i * 17 + 16, none⟩ = some ((.string (Pl.bs (Pl.mark (k + 17 * i + 16))) : Value)) := (Below.cell hSw (p := ⟨b, i * 17 + 16, none⟩) HGb.out).trans q16
        clear hSw
        go_simp
        all_goals (with_reducible rfl)
      simp only [Act.put, List.setIfInBounds_toArray, List.set_cons_zero, List.set_cons_succ]
      refine wpAnyH_take (i := 7) (oi := Oper.mk (some 188) _ _ _ _ _) (v := ?_) rfl (by kernel_rfl) (by kernel_rfl) (by kernel_rfl) (fun _ _ _ h => h) (Or.inl ⟨by rfl, ?_⟩) (by assumption) ?_
      rotate_left
      · intro w0 hSw
        clear hSw
        go_simp
        all_goals (with_reducible rfl)
      simp only [Act.put, List.setIfInBounds_toArray, List.set_cons_zero, List.set_cons_succ]
      refine wpAnyH_ready (rs := [8]) (by kernel_rfl) (by simp) ?_
      refine AllReadyH.cons (o := Oper.mk (some 189) _ _ _ _ _) rfl (fun K hK => ?_) AllReadyH.nil
      go_simp
      go_at_call 22
      refine (markText_at _ (k + 17 * i + 16) (by have := HZ.out; omega) (by omega) (by omega) _).mono ?_
      rintro x4 Y4 ⟨rfl, hB0⟩
      have hHeld' := Below.trans hHeld (hB0.mono hHeld.size)
      clear hB0 hHeld
      go_wp2_with fail
      refine hK.out _ _ hHeld' (fun hHeld => ?_)
      clear hK K hHeld'
      (try simp only [Act.put, List.setIfInBounds_toArray, List.set_cons_zero, List.set_cons_succ])
      refine wpAnyH_take (i := 9) (oi := Oper.mk (some 190) _ _ _ _ _) (v := ?_) rfl (by kernel_rfl) (by kernel_rfl) (by kernel_rfl) (fun _ _ _ h => h) (Or.inl ⟨by rfl, ?_⟩) (by assumption) ?_
      rotate_left
      · intro w0 hSw
        clear hSw
        go_simp
        all_goals (with_reducible rfl)
      simp only [Act.put, List.setIfInBounds_toArray, List.set_cons_zero, List.set_cons_succ]
      refine wpAnyH_done (by kernel_rfl) ?_ _
      refine NoPanic.normal ?_
      replace q0 : Y4.cell? ⟨b, i * 17, none⟩ = some (.int .i64 z : Value) := (Below.cell hHeld (p := ⟨b, i * 17, none⟩) HGb.out).trans q0
      replace q1 : Y4.cell? ⟨b, i * 17 + 1, none⟩ = some (.int .i64 (z + 1) : Value) := (Below.cell hHeld (p := ⟨b, i * 17 + 1, none⟩) HGb.out).trans q1
      replace q2 : Y4.cell? ⟨b, i * 17 + 2, none⟩ = some (.int .i64 (z + 1 + 1) : Value) := (Below.cell hHeld (p := ⟨b, i * 17 + 2, none⟩) HGb.out).trans q2
      replace q3 : Y4.cell? ⟨b, i * 17 + 3, none⟩ = some (.string (Pl.bs (Pl.mark (k + 17 * i + 3))) : Value) := (Below.cell hHeld (p := ⟨b, i * 17 + 3, none⟩) HGb.out).trans q3
      replace q4 : Y4.cell? ⟨b, i * 17 + 4, none⟩ = some (.int .i64 (z + 1 + 1 + 1 + 1) : Value) := (Below.cell hHeld (p := ⟨b, i * 17 + 4, none⟩) HGb.out).trans q4
      replace q5 : Y4.cell? ⟨b, i * 17 + 5, none⟩ = some (.int .i64 (z + 1 + 1 + 1 + 1 + 1) : Value) := (Below.cell hHeld (p := ⟨b, i * 17 + 5, none⟩) HGb.out).trans q5
      replace q6 : Y4.cell? ⟨b, i * 17 + 6, none⟩ = some (.string (Pl.bs (Pl.mark (k + 17 * i + 6))) : Value) := (Below.cell hHeld (p := ⟨b, i * 17 + 6, none⟩) HGb.out).trans q6
      replace q7 : Y4.cell? ⟨b, i * 17 + 7, none⟩ = some (.int .i64 (z + 1 + 1 + 1 + 1 + 1 + 1 + 1) : Value) := (Below.cell hHeld (p := ⟨b, i * 17 + 7, none⟩) HGb.out).trans q7
      replace q8 : Y4.cell? ⟨b, i * 17 + 8, none⟩ = some (.int .i64 (z + 1 + 1 + 1 + 1 + 1 + 1 + 1 + 1) : Value) := (Below.cell hHeld (p := ⟨b, i * 17 + 8, none⟩) HGb.out).trans q8
      replace q9 : Y4.cell? ⟨b, i * 17 + 9, none⟩ = some (.string (Pl.bs (Pl.mark (k + 17 * i + 9))) : Value) := (Below.cell hHeld (p := ⟨b, i * 17 + 9, none⟩) HGb.out).trans q9
      replace q10 : Y4.cell? ⟨b, i * 17 + 10, none⟩ = some (.int .i64 (z + 1 + 1 + 1 + 1 + 1 + 1 + 1 + 1 + 1 + 1) : Value) := (Below.cell hHeld (p := ⟨b, i * 17 + 10, none⟩) HGb.out).trans q10
      replace q11 : Y4.cell? ⟨b, i * 17 + 11, none⟩ = some (.int .i64 (z + 1 + 1 + 1 + 1 + 1 + 1 + 1 + 1 + 1 + 1 + 1) : Value) := (Below.cell hHeld (p := ⟨b, i * 17 + 11, none⟩) HGb.out).trans q11
      replace q12 : Y4.cell? ⟨b, i * 17 + 12, none⟩ = some (.string (Pl.bs (Pl.mark (k + 17 * i + 12))) : Value) := (Below.cell hHeld (p := ⟨b, i * 17 + 12, none⟩) HGb.out).trans q12
      replace q13 : Y4.cell? ⟨b, i * 17 + 13, none⟩ = some (.bool ((z + 1 + 1 + 1 + 1 + 1 + 1 + 1 + 1 + 1 + 1 + 1 + 1 + 1) % 3 == 0) : Value) := (Below.cell hHeld (p := ⟨b, i * 17 + 13, none⟩) HGb.out).trans q13
      replace q14 : Y4.cell? ⟨b, i * 17 + 14, none⟩ = some (.int .i64 (z + 1 + 1 + 1 + 1 + 1 + 1 + 1 + 1 + 1 + 1 + 1 + 1 + 1 + 1) : Value) := (Below.cell hHeld (p := ⟨b, i * 17 + 14, none⟩) HGb.out).trans q14
      replace q15 : Y4.cell? ⟨b, i * 17 + 15, none⟩ = some (.int .i64 (z + 1 + 1 + 1 + 1 + 1 + 1 + 1 + 1 + 1 + 1 + 1 + 1 + 1 + 1 + 1) : Value) := (Below.cell hHeld (p := ⟨b, i * 17 + 15, none⟩) HGb.out).trans q15
      replace q16 : Y4.cell? ⟨b, i * 17 + 16, none⟩ = some (.string (Pl.bs (Pl.mark (k + 17 * i + 16))) : Value) := (Below.cell hHeld (p := ⟨b, i * 17 + 16, none⟩) HGb.out).trans q16
      replace HGb : Hid (b < Y4.heap.size) := by show _ < _; have := HGb.out; have := hHeld.size; omega
      have HP5 := hide (HP4.out.trans (hHeld.mono HP4.out.size))
      clear hHeld
      go_wp2_with fail
      go_roundw
      case rel => exact ⟨i + 1, _, by omega, by go_num, rfl, hide (by have := HZ.out; omega), HP5⟩
      case measure => simp [intOf]; omega
    · have hie : i = n := by omega
      have HE : Hid (z = ((k + 17 * n : Nat) : Int)) := by rw [← hie]; exact HZ
      clear hie
      go_wp2_with fail
      go_ret
      exact ⟨by rw [← HE.out]; rfl, HB.out⟩
end Go.Proofs.Ythimglgjeibaoaa

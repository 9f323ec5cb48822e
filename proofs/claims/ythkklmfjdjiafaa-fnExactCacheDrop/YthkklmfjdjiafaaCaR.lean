/- Rows of parts: what was asked for, names with values; where they lie. -/
import Derived.Test.YthkklmfjdjiafaaBx
import Derived.Test.YthkklmfjdjiafaaOwn
import Derived.Test.YthkklmfjdjiafaaSzV
import Derived.Deep.MidRow
namespace Go.Proofs.Ythkklmfjdjiafaa
open Go.RowKit
set_option linter.unusedVariables false
set_option linter.unusedSimpArgs false
/-- something that is asked for -/
structure Cm where
  k : Int
  nm : ByteArray
  vk : Int
  vn : Int
  vt : ByteArray
/-- a name with a value -/
structure Pq where
  nm : ByteArray
  vk : Int
  vn : Int
  vt : ByteArray
abbrev cqL (c : Cm) : List Value := [.int .i64 c.k, .string c.nm, .int .i64 c.vk, .int .i64 c.vn, .string c.vt]
abbrev cqV (c : Cm) : Value := .agg #[.int .i64 c.k, .string c.nm, .int .i64 c.vk, .int .i64 c.vn, .string c.vt]
abbrev pqL (p : Pq) : List Value := [.string p.nm, .int .i64 p.vk, .int .i64 p.vn, .string p.vt]
abbrev pqV (p : Pq) : Value := .agg #[.string p.nm, .int .i64 p.vk, .int .i64 p.vn, .string p.vt]
def Cm.Wf (c : Cm) : Prop := c.nm.size ≤ maxLen ∧ c.vt.size ≤ maxLen
def Pq.Wf (c : Pq) : Prop := c.nm.size ≤ maxLen ∧ c.vt.size ≤ maxLen
/-- texts that are no longer than anything that is ever copied -/
def Cm.Sm (c : Cm) : Prop := c.nm.size ≤ 1048576 ∧ c.vt.size ≤ 1048576
def Pq.Sm (c : Pq) : Prop := c.nm.size ≤ 1048576 ∧ c.vt.size ≤ 1048576
/-- a slice that holds these parts, in a block below this one -/
def PRow {α : Type} (m : Nat) (f : α → List Value) (hi : Nat) (w : World) (l : List α) (v : Value) : Prop :=
  ∃ ad cap, v = .slice ad l.length cap ∧ l.length ≤ cap ∧ cap ≤ maxLen ∧ (0 < l.length → ∃ g off, ad = some ⟨g, off, none⟩ ∧ g < hi ∧ ∀ i e, l[i]? = some e → ∀ j u, (f e)[j]? = some u → w.cell? ⟨g, off + i * m + j, none⟩ = some u)
theorem PRow.later {α : Type} {m : Nat} {f : α → List Value} {hi : Nat} {w w1 : World} {l : List α} {v : Value} (h : PRow m f hi w l v) (hB : Below hi w w1) : PRow m f hi w1 l v := by
  obtain ⟨ad, cap, hv, h1, h2, hx⟩ := h
  refine ⟨ad, cap, hv, h1, h2, fun hl => ?_⟩
  obtain ⟨g, off, ha, hg, hs⟩ := hx hl
  exact ⟨g, off, ha, hg, fun i e he j u hu => (hB.cell (p := ⟨g, off + i * m + j, none⟩) hg).trans (hs i e he j u hu)⟩
theorem PRow.up {α : Type} {m : Nat} {f : α → List Value} {hi hi' : Nat} {w : World} {l : List α} {v : Value} (h : PRow m f hi w l v) (hh : hi ≤ hi') : PRow m f hi' w l v := by
  obtain ⟨ad, cap, hv, h1, h2, hx⟩ := h
  refine ⟨ad, cap, hv, h1, h2, fun hl => ?_⟩
  obtain ⟨g, off, ha, hg, hs⟩ := hx hl
  exact ⟨g, off, ha, by omega, hs⟩
/-- a slice that has a block of its own, within these bounds -/
def PBlk {α : Type} (T : TypeId) (m : Nat) (f : α → List Value) (lo hi : Nat) (w : World) (l : List α) (v : Value) : Prop :=
  ∃ a c, v = .slice a l.length c ∧ l.length ≤ c ∧ c ≤ maxLen ∧ (0 < l.length → ∃ b C, a = some ⟨b, 0, none⟩ ∧ lo ≤ b ∧ b < hi ∧ w.heap[b]? = some (.cells C T (0, 0)) ∧ l.length * m ≤ C.size ∧ ∀ i e, l[i]? = some e → ∀ j u, (f e)[j]? = some u → C[i * m + j]? = some u)
theorem PBlk.row {α : Type} {T : TypeId} {m : Nat} {f : α → List Value} {lo hi : Nat} {w : World} {l : List α} {v : Value} (h : PBlk T m f lo hi w l v) : PRow m f hi w l v := by
  obtain ⟨a, c, hv, h1, h2, hx⟩ := h
  refine ⟨a, c, hv, h1, h2, fun hl => ?_⟩
  obtain ⟨b, C, ha, hb, hb2, hc, hs, hcell⟩ := hx hl
  exact ⟨b, 0, ha, hb2, fun i e he j u hu => by rw [cell_of_block hc, Nat.zero_add]; exact hcell i e he j u hu⟩
theorem PBlk.later {α : Type} {T : TypeId} {m : Nat} {f : α → List Value} {lo hi : Nat} {w w1 : World} {l : List α} {v : Value} (h : PBlk T m f lo hi w l v) (hB : Below hi w w1) : PBlk T m f lo hi w1 l v := by
  obtain ⟨a, c, hv, h1, h2, hx⟩ := h
  refine ⟨a, c, hv, h1, h2, fun hl => ?_⟩
  obtain ⟨b, C, ha, hb, hb2, hc, hs, hcell⟩ := hx hl
  exact ⟨b, C, ha, hb, hb2, (hB.block _ hb2).trans hc, hs, hcell⟩
theorem PBlk.up {α : Type} {T : TypeId} {m : Nat} {f : α → List Value} {lo hi lo' hi' : Nat} {w : World} {l : List α} {v : Value} (h : PBlk T m f lo hi w l v) (h1 : lo' ≤ lo) (h2 : hi ≤ hi') : PBlk T m f lo' hi' w l v := by
  obtain ⟨a, c, hv, e1, e2, hx⟩ := h
  refine ⟨a, c, hv, e1, e2, fun hl => ?_⟩
  obtain ⟨b, C, ha, hb, hb2, hc⟩ := hx hl
  exact ⟨b, C, ha, by omega, by omega, hc⟩
/-- but for what lies within these bounds all is as it was -/
structure Mid (lo hi : Nat) (W W' : World) : Prop where
  os : W'.os = W.os
  tape : W'.tape = W.tape
  output : W'.output = W.output
  size : W.heap.size ≤ W'.heap.size
  block : ∀ k, k < W.heap.size → (k < lo ∨ hi ≤ k) → W'.heap[k]? = W.heap[k]?
theorem Mid.refl (lo hi : Nat) (W : World) : Mid lo hi W W := ⟨rfl, rfl, rfl, Nat.le_refl _, fun _ _ _ => rfl⟩
theorem Mid.trans {lo hi : Nat} {W X Y : World} (h : Mid lo hi W X) (h2 : Mid lo hi X Y) : Mid lo hi W Y :=
  ⟨h2.os.trans h.os, h2.tape.trans h.tape, h2.output.trans h.output, Nat.le_trans h.size h2.size, fun k hk ho => (h2.block k (Nat.lt_of_lt_of_le hk h.size) ho).trans (h.block k hk ho)⟩
theorem Mid.up {lo hi lo' hi' : Nat} {W X : World} (h : Mid lo hi W X) (h1 : lo' ≤ lo) (h2 : hi ≤ hi') : Mid lo' hi' W X :=
  ⟨h.os, h.tape, h.output, h.size, fun k hk ho => h.block k hk (by omega)⟩
theorem Mid.of_below {lo hi : Nat} {W X : World} (h : Below W.heap.size W X) : Mid lo hi W X := ⟨h.os, h.tape, h.output, h.size, fun k hk _ => h.block k hk⟩
theorem Mid.of_grown {lo hi : Nat} {W X : World} {r : Option Nat} (h : W.grownBy X r) (hr : ∀ k, r = some k → lo ≤ k ∧ k < hi) : Mid lo hi W X :=
  ⟨h.os, h.tape, h.output, h.size, fun k hk ho => h.block k hk (fun e => by have := hr k e.symm; omega)⟩
theorem Mid.set {lo hi : Nat} {W X : World} {b i : Nat} {v : Value} (h : Mid lo hi W X) (h1 : lo ≤ b) (h2 : b < hi) : Mid lo hi W (X.setCell ⟨b, i, none⟩ v) :=
  ⟨h.os, h.tape, h.output, by have := h.size; simp [World.setCell]; exact this, fun k hk ho => (Below.heap_setCell _ _ _ _ (by simp only; omega)).trans (h.block k hk ho)⟩
theorem Mid.below {lo hi : Nat} {W X : World} (h : Mid lo hi W X) (hl : lo ≤ W.heap.size) : Below lo W X := ⟨h.os, h.tape, h.output, h.size, fun k hk => h.block k (by omega) (by omega)⟩
theorem PBlk.mid {α : Type} {T : TypeId} {m : Nat} {f : α → List Value} {lo hi lo' hi' : Nat} {w w1 : World} {l : List α} {v : Value} (h : PBlk T m f lo hi w l v) (hB : Mid lo' hi' w w1) (ho : hi ≤ lo' ∨ hi' ≤ lo) : PBlk T m f lo hi w1 l v := by
  obtain ⟨a, c, hv, h1, h2, hx⟩ := h
  refine ⟨a, c, hv, h1, h2, fun hl => ?_⟩
  obtain ⟨b, C, ha, hb, hb2, hc, hs, hcell⟩ := hx hl
  exact ⟨b, C, ha, hb, hb2, (hB.block _ (Array.getElem?_eq_some_iff.1 hc).1 (by omega)).trans hc, hs, hcell⟩
theorem flatq_at {α : Type} {f : α → List Value} {m : Nat} (hf : ∀ e, (f e).length = m) : ∀ (L : List α) (i : Nat) (e : α), L[i]? = some e → ∀ j u, (f e)[j]? = some u → (L.flatMap f)[i * m + j]? = some u
  | [], i, e, h => by simp at h
  | a :: r, 0, e, h => fun j u hu => by
    obtain rfl : a = e := by simpa using h
    have hj : j < (f a).length := (List.getElem?_eq_some_iff.1 hu).1
    simp only [List.flatMap_cons, Nat.zero_mul, Nat.zero_add]
    rw [List.getElem?_append_left hj]; exact hu
  | a :: r, i + 1, e, h => fun j u hu => by
    have ih := flatq_at hf r i e (by simpa using h) j u hu
    simp only [List.flatMap_cons]
    rw [List.getElem?_append_right (by rw [hf]; rw [Nat.add_mul]; omega), hf]
    rw [show (i + 1) * m + j - m = i * m + j by rw [Nat.add_mul]; omega]
    exact ih
theorem lenq {α : Type} {f : α → List Value} {m : Nat} (hf : ∀ e, (f e).length = m) : ∀ L : List α, (L.flatMap f).length = L.length * m
  | [] => by simp
  | a :: r => by
    rw [List.flatMap_cons, List.length_append, hf, lenq hf r, List.length_cons, Nat.add_mul]
    omega
/-- what is owned has a block of its own -/
theorem PBlk.of_own {α : Type} {T : TypeId} {m : Nat} {f : α → List Value} (hf : ∀ e, (f e).length = m) {w : World} {base : Nat} {v : Value} {l : List α} (h : w.ownsRow base T m v l.length (l.flatMap f)) : PBlk T m f base w.heap.size w l v := by
  obtain ⟨hl, h⟩ := h
  rcases h with ⟨h1, h0⟩ | ⟨g, cap, cur, hv, hb, hg, hnc, hm, hs, ht⟩
  · exact ⟨none, 0, by rw [h1, h0], by omega, by unfold maxLen; omega, fun hp => by omega⟩
  · refine ⟨_, cap, hv, hnc, hm, fun hp => ⟨g, cur, rfl, hb, (Array.getElem?_eq_some_iff.1 hg).1, hg, ?_, fun i e he j u hu => ?_⟩⟩
    · rw [hs]; exact Nat.mul_le_mul_right _ hnc
    · have hfl := flatq_at hf l i e he j u hu
      rw [← ht, List.getElem?_take] at hfl
      split at hfl
      · simpa using hfl
      · cases hfl
/-- a piece of memory that was made and filled, part by part -/
def TQ {α : Type} (T : TypeId) (m : Nat) (f : α → List Value) (l : List α) (w : World) (i : Nat) (wr : World) : Prop :=
  (∃ C, wr.heap[w.heap.size]? = some (.cells C T (0, 0)) ∧ C.size = l.length * m ∧ ∀ j e, j < i → l[j]? = some e → ∀ t u, (f e)[t]? = some u → C[j * m + t]? = some u) ∧ Below w.heap.size w wr
theorem TQ.start {α : Type} {T : TypeId} {m : Nat} {f : α → List Value} {l : List α} {w : World} {M : Array Value} (h : M.size = l.length * m) : TQ T m f l w 0 (w.alloc (.cells M T)) :=
  ⟨⟨M, by rw [heap_alloc_at, if_pos rfl], h, fun j e hj => by omega⟩, (Below.refl _ _).alloc (Nat.le_refl _) _⟩
theorem TQ.lt {α : Type} {T : TypeId} {m : Nat} {f : α → List Value} {l : List α} {w wr : World} {i : Nat} (h : TQ T m f l w i wr) : w.heap.size < wr.heap.size := by
  obtain ⟨⟨C, h0, _⟩, _⟩ := h
  exact (Array.getElem?_eq_some_iff.1 h0).1
theorem TQ.later {α : Type} {T : TypeId} {m : Nat} {f : α → List Value} {l : List α} {w wr w1 : World} {i : Nat} (h : TQ T m f l w i wr) (hB : Below wr.heap.size wr w1) : TQ T m f l w i w1 := by
  have hlt := h.lt
  obtain ⟨⟨C, h0, hC, hc⟩, h2⟩ := h
  exact ⟨⟨C, (hB.block _ hlt).trans h0, hC, hc⟩, h2.trans (hB.mono h2.size)⟩
theorem qset_block {b : Nat} {T : TypeId} : ∀ (vs : List Value) (o : Nat) (w : World) (C : Array Value), w.heap[b]? = some (.cells C T (0, 0)) → ∃ C', (w.setCells b o vs).heap[b]? = some (.cells C' T (0, 0)) ∧ C'.size = C.size ∧ (∀ j, j < o ∨ o + vs.length ≤ j → C'[j]? = C[j]?) ∧ (o + vs.length ≤ C.size → ∀ j u, vs[j]? = some u → C'[o + j]? = some u)
  | [], o, w, C, h => ⟨C, h, rfl, fun _ _ => rfl, fun _ j u hu => by simp at hu⟩
  | v :: r, o, w, C, h => by
    obtain ⟨C', h1, h2, h3, h4⟩ := qset_block r (o + 1) (w.setCell ⟨b, o, none⟩ v) _ (block_set h o v)
    simp only [Array.size_setIfInBounds, List.length_cons] at *
    refine ⟨C', h1, h2, fun j hj => ?_, fun hs j u hu => ?_⟩
    · rw [h3 j (by omega), Array.getElem?_setIfInBounds_ne (by omega)]
    · cases j with
      | zero =>
        obtain rfl : v = u := by simpa using hu
        rw [Nat.add_zero, h3 o (by omega), Array.getElem?_setIfInBounds_self_of_lt (by omega)]
      | succ j =>
        rw [show o + (j + 1) = o + 1 + j by omega]
        exact h4 (by omega) j u (by simpa using hu)
theorem qset_below {n b : Nat} {a : World} (hb : n ≤ b) : ∀ (vs : List Value) (o : Nat) (w : World), Below n a w → Below n a (w.setCells b o vs)
  | [], o, w, h => h
  | v :: r, o, w, h => qset_below hb r (o + 1) _ (h.setCell (p := ⟨b, o, none⟩) hb v)
theorem qthere {w : World} {b o n : Nat} {C : Array Value} {T : TypeId} (h : w.heap[b]? = some (.cells C T (0, 0))) (hn : o + n ≤ C.size) : w.there b o n := fun j hj => by
  refine ⟨?_, free_of_block h (o + j)⟩
  rw [cell_of_block h]
  simp only [Array.getElem?_eq_getElem (show o + j < C.size by omega), Option.isSome_some]
theorem mul_next {i n m : Nat} (h : i < n) : i * m + m ≤ n * m := by
  have := Nat.mul_le_mul_right m (show i + 1 ≤ n by omega)
  rw [Nat.add_mul] at this
  omega
theorem TQ.there {α : Type} {T : TypeId} {m : Nat} {f : α → List Value} {l : List α} {w wr : World} {i : Nat} (h : TQ T m f l w i wr) (hi : i < l.length) : wr.there w.heap.size (i * m) m := by
  obtain ⟨⟨C, h0, hC, _⟩, _⟩ := h
  exact qthere h0 (by rw [hC]; exact mul_next hi)
theorem TQ.next {α : Type} {T : TypeId} {m : Nat} {f : α → List Value} (hf : ∀ e, (f e).length = m) {l : List α} {w wr : World} {i : Nat} {e : α} (h : TQ T m f l w i wr) (he : l[i]? = some e) : TQ T m f l w (i + 1) (wr.setCells w.heap.size (i * m) (f e)) := by
  have hi : i < l.length := (List.getElem?_eq_some_iff.1 he).1
  have hmm := mul_next (m := m) hi
  obtain ⟨⟨C, h0, hC, hc⟩, h2⟩ := h
  obtain ⟨C', h3, h4, h5, h6⟩ := qset_block (f e) (i * m) wr C h0
  rw [hf] at h5 h6
  refine ⟨⟨C', h3, by omega, fun j e' hj he' t u hu => ?_⟩, qset_below (Nat.le_refl _) _ _ _ h2⟩
  have ht : t < m := by rw [← hf e']; exact (List.getElem?_eq_some_iff.1 hu).1
  by_cases hji : j = i
  · subst hji
    rw [he] at he'
    obtain rfl := Option.some.inj he'
    exact h6 (by omega) t u hu
  · have := mul_next (m := m) (show j < i by omega)
    rw [h5 _ (by omega)]
    exact hc j e' (by omega) he' t u hu
theorem TQ.done {α : Type} {T : TypeId} {m : Nat} {f : α → List Value} {l : List α} {w wr : World} (h : TQ T m f l w l.length wr) (hN : l.length ≤ 1048576) : PBlk T m f w.heap.size wr.heap.size wr l (.slice (some ⟨w.heap.size, 0, none⟩) l.length l.length) := by
  have hlt := h.lt
  obtain ⟨⟨C, h0, hC, hc⟩, h2⟩ := h
  exact ⟨_, _, rfl, Nat.le_refl _, by unfold maxLen; omega, fun _ => ⟨_, C, rfl, Nat.le_refl _, hlt, h0, by omega, fun i e he => hc i e (List.getElem?_eq_some_iff.1 he).1 he⟩⟩
end Go.Proofs.Ythkklmfjdjiafaa

/- Events in memory: a row of them, a box of one. -/
import Derived.Test.YthimglgjeibaoaaPlEv
import Derived.Test.YthimglgjeibaoaaPl
import Derived.Test.YthimglgjeibaoaaBx
namespace Go.Proofs.Ythimglgjeibaoaa
open Go.RowKit
set_option linter.unusedVariables false
set_option linter.unusedSimpArgs false

/-- an event's cells -/
abbrev evL (e : Ev) : List Value := [.int .i64 e.k, .int .i64 e.vk, .int .i64 e.vn, .string e.vt, .int .i64 e.many, .int .i64 e.ck, .string e.cn, .int .i64 e.ak, .int .i64 e.an, .string e.ax, .int .i64 e.ct, .int .i64 e.mp, .string e.mn, .bool e.mo, .int .i64 e.wk, .int .i64 e.wn, .string e.wt]
abbrev evV (e : Ev) : Value := .agg #[.int .i64 e.k, .int .i64 e.vk, .int .i64 e.vn, .string e.vt, .int .i64 e.many, .int .i64 e.ck, .string e.cn, .int .i64 e.ak, .int .i64 e.an, .string e.ax, .int .i64 e.ct, .int .i64 e.mp, .string e.mn, .bool e.mo, .int .i64 e.wk, .int .i64 e.wn, .string e.wt]
/-- texts are no longer than any -/
def Ev.Wf (e : Ev) : Prop := e.vt.size ≤ maxLen ∧ e.cn.size ≤ maxLen ∧ e.ax.size ≤ maxLen ∧ e.mn.size ≤ maxLen ∧ e.wt.size ≤ maxLen
/-- an event lies there -/
def EvAt (w : World) (g off : Nat) (e : Ev) : Prop := ∀ j v, (evL e)[j]? = some v → w.cell? ⟨g, off + j, none⟩ = some v
theorem EvAt.cells {w : World} {g off : Nat} {e : Ev} (h : EvAt w g off e) :
    w.cell? ⟨g, off, none⟩ = some (.int .i64 e.k) ∧ w.cell? ⟨g, off + 1, none⟩ = some (.int .i64 e.vk) ∧ w.cell? ⟨g, off + 2, none⟩ = some (.int .i64 e.vn) ∧ w.cell? ⟨g, off + 3, none⟩ = some (.string e.vt) ∧ w.cell? ⟨g, off + 4, none⟩ = some (.int .i64 e.many) ∧ w.cell? ⟨g, off + 5, none⟩ = some (.int .i64 e.ck) ∧ w.cell? ⟨g, off + 6, none⟩ = some (.string e.cn) ∧ w.cell? ⟨g, off + 7, none⟩ = some (.int .i64 e.ak) ∧ w.cell? ⟨g, off + 8, none⟩ = some (.int .i64 e.an) ∧ w.cell? ⟨g, off + 9, none⟩ = some (.string e.ax) ∧ w.cell? ⟨g, off + 10, none⟩ = some (.int .i64 e.ct) ∧ w.cell? ⟨g, off + 11, none⟩ = some (.int .i64 e.mp) ∧ w.cell? ⟨g, off + 12, none⟩ = some (.string e.mn) ∧ w.cell? ⟨g, off + 13, none⟩ = some (.bool e.mo) ∧ w.cell? ⟨g, off + 14, none⟩ = some (.int .i64 e.wk) ∧ w.cell? ⟨g, off + 15, none⟩ = some (.int .i64 e.wn) ∧ w.cell? ⟨g, off + 16, none⟩ = some (.string e.wt) :=
  ⟨h 0 _ rfl, h 1 _ rfl, h 2 _ rfl, h 3 _ rfl, h 4 _ rfl, h 5 _ rfl, h 6 _ rfl, h 7 _ rfl, h 8 _ rfl, h 9 _ rfl, h 10 _ rfl, h 11 _ rfl, h 12 _ rfl, h 13 _ rfl, h 14 _ rfl, h 15 _ rfl, h 16 _ rfl⟩
theorem EvAt.later {w w1 : World} {g off : Nat} {e : Ev} (h : EvAt w g off e) (hB : Below w.heap.size w w1) (hg : g < w.heap.size) : EvAt w1 g off e := fun j v hv => by
  rw [hB.cell (p := ⟨g, off + j, none⟩) hg]; exact h j v hv
theorem EvAt.of_block {w : World} {g off : Nat} {e : Ev} {C : Array Value} {T : TypeId} (hb : w.heap[g]? = some (.cells C T (0, 0))) (h : ∀ j v, (evL e)[j]? = some v → C[off + j]? = some v) : EvAt w g off e := fun j v hv => by
  rw [cell_of_block hb]; exact h j v hv
/-- events lie there, one behind the other -/
def EvsAt (w : World) (g off : Nat) (l : List Ev) : Prop := ∀ i e, l[i]? = some e → EvAt w g (off + i * 17) e
/-- a slice that holds the events -/
def EvRow (w : World) (l : List Ev) (v : Value) : Prop :=
  ∃ ad cap, v = .slice ad l.length cap ∧ l.length ≤ cap ∧ cap ≤ maxLen ∧ (0 < l.length → ∃ g off, ad = some ⟨g, off, none⟩ ∧ g < w.heap.size ∧ EvsAt w g off l)
theorem EvRow.later {w w1 : World} {l : List Ev} {v : Value} (h : EvRow w l v) (hB : Below w.heap.size w w1) : EvRow w1 l v := by
  obtain ⟨ad, cap, rfl, hc, hm, hx⟩ := h
  refine ⟨ad, cap, rfl, hc, hm, fun hl => ?_⟩
  obtain ⟨g, off, ha, hg, hs⟩ := hx hl
  exact ⟨g, off, ha, by have := hB.size; omega, fun i e hi => (hs i e hi).later hB hg⟩
theorem EvRow.take {w : World} {l : List Ev} {ad : Option Addr} {n cap : Nat} (h : EvRow w l (.slice ad n cap)) {i : Nat} (hi : i ≤ l.length) : EvRow w (l.take i) (.slice ad i cap) := by
  obtain ⟨ad', cap', he, hc, hm, hx⟩ := h
  obtain ⟨rfl, rfl, rfl⟩ : ad = ad' ∧ n = l.length ∧ cap = cap' := by injection he with a b c; exact ⟨a, b, c⟩
  refine ⟨ad, cap, by simp [Nat.min_eq_left hi], by simp; omega, hm, fun hl => ?_⟩
  obtain ⟨g, off, ha, hg, hs⟩ := hx (by simp at hl; omega)
  refine ⟨g, off, ha, hg, fun j e hj => hs j e ?_⟩
  rw [List.getElem?_take] at hj
  split at hj
  · exact hj
  · cases hj
/-- an event in a box -/
def Box17 (b : Nat) (e : Ev) (W : World) : Prop := b < W.heap.size ∧ EvAt W b 0 e
theorem Box17.mk {e : Ev} {T : TypeId} (w : World) : Box17 w.heap.size e (w.alloc (.cells (evL e).toArray T)) := by
  refine ⟨by simp, fun j v hv => ?_⟩
  rw [World.cell?_alloc_at _ _ _ _ rfl]
  simpa using hv
theorem Box17.later {b : Nat} {e : Ev} {W W1 : World} (h : Box17 b e W) (hB : Below W.heap.size W W1) : Box17 b e W1 :=
  ⟨by have := hB.size; have := h.1; omega, h.2.later hB h.1⟩
theorem Box17.of {B : Nat} {e : Ev} {T : TypeId} {w w1 : World} (hb : Below B (w.alloc (.cells (evL e).toArray T)) w1) (h : w.heap.size < B) : Box17 w.heap.size e w1 := by
  refine ⟨by have := hb.size; simp at this; omega, fun j v hv => ?_⟩
  rw [hb.cell (p := ⟨w.heap.size, 0 + j, none⟩) h]
  exact (Box17.mk (e := e) (T := T) w).2 j v hv
end Go.Proofs.Ythimglgjeibaoaa

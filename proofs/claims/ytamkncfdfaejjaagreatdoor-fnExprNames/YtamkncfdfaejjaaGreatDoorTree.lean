/- Expressions as forests, plain and in memory. -/
import Derived.Test.YtamkncfdfaejjaaGreatDoorLeafB
import Derived.Test.YtamkncfdfaejjaaGreatDoorVal1
namespace Go.Proofs.YtamkncfdfaejjaaGreatDoor
open Go.RowKit
set_option linter.unusedVariables false

/-- what a node holds besides its parts -/
structure Nd where
  k : Int
  vk : Int
  vn : Int
  vt : ByteArray
  nm : ByteArray
/-- nodes side by side, each with the nodes within it -/
inductive Fo where
  | nil
  | cons (nd : Nd) (kids rest : Fo)
namespace Fo
def len : Fo → Nat
  | nil => 0
  | cons _ _ r => r.len + 1
def nodes : Fo → Nat
  | nil => 0
  | cons _ k r => k.nodes + r.nodes + 1
def get : Fo → Nat → Option (Nd × Fo)
  | nil, _ => none
  | cons nd k _, 0 => some (nd, k)
  | cons _ _ r, i + 1 => r.get i
theorem get_some : ∀ (F : Fo) (i : Nat), i < F.len → ∃ nd k, F.get i = some (nd, k)
  | nil, i, h => by simp [len] at h
  | cons nd k r, 0, _ => ⟨nd, k, rfl⟩
  | cons nd k r, i + 1, h => get_some r i (by simp only [len] at h; omega)
theorem get_none : ∀ (F : Fo) (i : Nat), F.len ≤ i → F.get i = none
  | nil, i, h => rfl
  | cons nd k r, 0, h => by simp [len] at h
  | cons nd k r, i + 1, h => get_none r i (by simp only [len] at h; omega)
theorem get_nodes : ∀ (F : Fo) (i : Nat) (nd : Nd) (k : Fo), F.get i = some (nd, k) → k.nodes < F.nodes
  | nil, i, nd, k, h => by simp [get] at h
  | cons nd' k' r, 0, nd, k, h => by
    simp only [get, Option.some.injEq, Prod.mk.injEq] at h
    obtain ⟨rfl, rfl⟩ := h
    simp only [nodes]; omega
  | cons nd' k' r, i + 1, nd, k, h => by
    have := get_nodes r i nd k h
    simp only [nodes]; omega
/-- no list within is longer than what the laws take; texts are no longer than any -/
def Sm : Fo → Prop
  | nil => True
  | cons nd k r => k.len ≤ 1048576 ∧ k.Sm ∧ r.Sm
def Wf : Fo → Prop
  | nil => True
  | cons nd k r => nd.vt.size ≤ maxLen ∧ nd.nm.size ≤ maxLen ∧ k.Wf ∧ r.Wf
theorem Sm.get : ∀ {F : Fo} (h : F.Sm) {i : Nat} {nd : Nd} {k : Fo}, F.get i = some (nd, k) → k.len ≤ 1048576 ∧ k.Sm
  | nil, _, i, nd, k, h => by simp [Fo.get] at h
  | cons nd' k' r, hs, 0, nd, k, h => by
    simp only [Fo.get, Option.some.injEq, Prod.mk.injEq] at h
    obtain ⟨rfl, rfl⟩ := h
    exact ⟨hs.1, hs.2.1⟩
  | cons nd' k' r, hs, i + 1, nd, k, h => Sm.get (F := r) hs.2.2 h
theorem Wf.get : ∀ {F : Fo} (h : F.Wf) {i : Nat} {nd : Nd} {k : Fo}, F.get i = some (nd, k) → nd.vt.size ≤ maxLen ∧ nd.nm.size ≤ maxLen ∧ k.Wf
  | nil, _, i, nd, k, h => by simp [Fo.get] at h
  | cons nd' k' r, hs, 0, nd, k, h => by
    simp only [Fo.get, Option.some.injEq, Prod.mk.injEq] at h
    obtain ⟨rfl, rfl⟩ := h
    exact ⟨hs.1, hs.2.1, hs.2.2.1⟩
  | cons nd' k' r, hs, i + 1, nd, k, h => Wf.get (F := r) hs.2.2.2 h
theorem Sm.of_get : ∀ {F : Fo} (h : ∀ i nd k, F.get i = some (nd, k) → k.len ≤ 1048576 ∧ k.Sm), F.Sm
  | nil, _ => trivial
  | cons nd k r, h => ⟨(h 0 nd k rfl).1, (h 0 nd k rfl).2, Sm.of_get (F := r) (fun i nd' k' hk => h (i + 1) nd' k' hk)⟩
end Fo

namespace Fo
/-- the nodes within the first i -/
def kn : Fo → Nat → Nat
  | nil, _ => 0
  | cons _ _ _, 0 => 0
  | cons _ k r, i + 1 => k.nodes + r.kn i
theorem kn_zero (F : Fo) : F.kn 0 = 0 := by cases F <;> rfl
theorem kn_succ : ∀ (F : Fo) (i : Nat) (nd : Nd) (k : Fo), F.get i = some (nd, k) → F.kn (i + 1) = F.kn i + k.nodes
  | nil, i, nd, k, h => by simp [get] at h
  | cons nd' k' r, 0, nd, k, h => by
    simp only [get, Option.some.injEq, Prod.mk.injEq] at h
    obtain ⟨rfl, rfl⟩ := h
    simp [kn, kn_zero]
  | cons nd' k' r, i + 1, nd, k, h => by
    have := kn_succ r i nd k h
    simp only [kn] at this ⊢
    omega
theorem kn_all : ∀ (F : Fo), F.kn F.len + F.len = F.nodes
  | nil => rfl
  | cons nd k r => by
    have := kn_all r
    simp only [kn, len, nodes]
    omega
theorem kn_le : ∀ (F : Fo) (i : Nat), F.kn i ≤ F.kn F.len
  | nil, i => Nat.le_refl _
  | cons nd k r, 0 => by simp [kn]
  | cons nd k r, i + 1 => by
    have := kn_le r i
    simp only [kn, len]
    omega
end Fo

/-- a node as a value -/
abbrev ndV (nd : Nd) (v : Value) : Value := .agg #[.int .i64 nd.k, .int .i64 nd.vk, .int .i64 nd.vn, .string nd.vt, .string nd.nm, v]

/-- the forest lies in memory from there on -/
def FoAt (lo : Nat) (w : World) : Fo → Nat → Nat → Prop
  | .nil, _, _ => True
  | .cons nd k r, g, off =>
    (w.cell? ⟨g, off, none⟩ = some (.int .i64 nd.k) ∧ w.cell? ⟨g, off + 1, none⟩ = some (.int .i64 nd.vk) ∧ w.cell? ⟨g, off + 2, none⟩ = some (.int .i64 nd.vn) ∧ w.cell? ⟨g, off + 3, none⟩ = some (.string nd.vt) ∧ w.cell? ⟨g, off + 4, none⟩ = some (.string nd.nm) ∧
      ∃ ad cap, w.cell? ⟨g, off + 5, none⟩ = some (.slice ad k.len cap) ∧ k.len ≤ cap ∧ cap ≤ maxLen ∧ (0 < k.len → ∃ g' off', ad = some ⟨g', off', none⟩ ∧ lo ≤ g' ∧ g' < w.heap.size ∧ FoAt lo w k g' off')) ∧ FoAt lo w r g (off + 6)
/-- a slice that holds the forest -/
def RowAt (lo : Nat) (w : World) (F : Fo) (v : Value) : Prop :=
  ∃ ad cap, v = .slice ad F.len cap ∧ F.len ≤ cap ∧ cap ≤ maxLen ∧ (0 < F.len → ∃ g off, ad = some ⟨g, off, none⟩ ∧ lo ≤ g ∧ g < w.heap.size ∧ FoAt lo w F g off)
/-- one node lies there -/
def NdAt (lo : Nat) (w : World) (g off : Nat) (nd : Nd) (k : Fo) (v : Value) : Prop :=
  w.cell? ⟨g, off, none⟩ = some (.int .i64 nd.k) ∧ w.cell? ⟨g, off + 1, none⟩ = some (.int .i64 nd.vk) ∧ w.cell? ⟨g, off + 2, none⟩ = some (.int .i64 nd.vn) ∧ w.cell? ⟨g, off + 3, none⟩ = some (.string nd.vt) ∧ w.cell? ⟨g, off + 4, none⟩ = some (.string nd.nm) ∧ w.cell? ⟨g, off + 5, none⟩ = some v ∧ RowAt lo w k v
theorem FoAt.head {lo : Nat} {w : World} {nd : Nd} {k r : Fo} {g off : Nat} (h : FoAt lo w (.cons nd k r) g off) : ∃ v, NdAt lo w g off nd k v := by
  obtain ⟨⟨h0, h1, h2, h3, h4, ad, cap, h5, hc, hm, hx⟩, _⟩ := h
  exact ⟨_, h0, h1, h2, h3, h4, h5, ad, cap, rfl, hc, hm, hx⟩
theorem FoAt.mk {lo : Nat} {w : World} {nd : Nd} {k r : Fo} {g off : Nat} {v : Value} (h : NdAt lo w g off nd k v) (hr : FoAt lo w r g (off + 6)) : FoAt lo w (.cons nd k r) g off := by
  obtain ⟨h0, h1, h2, h3, h4, h5, ad, cap, rfl, hc, hm, hx⟩ := h
  exact ⟨⟨h0, h1, h2, h3, h4, ad, cap, h5, hc, hm, hx⟩, hr⟩
theorem FoAt.get {lo : Nat} : ∀ {F : Fo} {w : World} {g off : Nat} (h : FoAt lo w F g off) {i : Nat} {nd : Nd} {k : Fo}, F.get i = some (nd, k) → ∃ v, NdAt lo w g (off + i * 6) nd k v
  | .nil, w, g, off, h, i, nd, k, hk => by simp [Fo.get] at hk
  | .cons nd' k' r, w, g, off, h, 0, nd, k, hk => by
    simp only [Fo.get, Option.some.injEq, Prod.mk.injEq] at hk
    obtain ⟨rfl, rfl⟩ := hk
    have := h.head
    rwa [show off + 0 * 6 = off by omega]
  | .cons nd' k' r, w, g, off, h, i + 1, nd, k, hk => by
    have := FoAt.get (F := r) h.2 hk
    rw [show off + (i + 1) * 6 = off + 6 + i * 6 by omega]
    exact this
theorem FoAt.of_get {lo : Nat} : ∀ {F : Fo} {w : World} {g off : Nat} (h : ∀ i nd k, F.get i = some (nd, k) → ∃ v, NdAt lo w g (off + i * 6) nd k v), FoAt lo w F g off
  | .nil, w, g, off, h => trivial
  | .cons nd k r, w, g, off, h => by
    obtain ⟨v, hv⟩ := h 0 nd k rfl
    rw [show off + 0 * 6 = off by omega] at hv
    refine FoAt.mk hv (FoAt.of_get (F := r) fun i nd' k' hk => ?_)
    have := h (i + 1) nd' k' hk
    rwa [show off + (i + 1) * 6 = off + 6 + i * 6 by omega] at this
/-- what lies from lo on is as it was -/
def Over (lo : Nat) (w w1 : World) : Prop := w.heap.size ≤ w1.heap.size ∧ ∀ g o, lo ≤ g → g < w.heap.size → w1.cell? ⟨g, o, none⟩ = w.cell? ⟨g, o, none⟩
theorem over_of {w w1 : World} (hb : Below w.heap.size w w1) (lo : Nat) : Over lo w w1 := ⟨hb.size, fun g o _ hg => hb.cell (p := ⟨g, o, none⟩) hg⟩
theorem FoAt.over {lo : Nat} : ∀ {F : Fo} {w w1 : World} {g off : Nat} (h : FoAt lo w F g off) (hb : Over lo w w1) (hl : lo ≤ g) (hg : g < w.heap.size), FoAt lo w1 F g off
  | .nil, w, w1, g, off, _, _, _, _ => trivial
  | .cons nd k r, w, w1, g, off, h, hb, hl, hg => by
    obtain ⟨⟨h0, h1, h2, h3, h4, ad, cap, h5, hc, hm, hx⟩, hr⟩ := h
    have C : ∀ o, w1.cell? ⟨g, o, none⟩ = w.cell? ⟨g, o, none⟩ := fun o => hb.2 g o hl hg
    refine ⟨⟨(C _).trans h0, (C _).trans h1, (C _).trans h2, (C _).trans h3, (C _).trans h4, ad, cap, (C _).trans h5, hc, hm, fun hl => ?_⟩, FoAt.over hr hb hl hg⟩
    obtain ⟨g', off', ha, hl', hg', hk⟩ := hx hl
    exact ⟨g', off', ha, hl', by have := hb.1; omega, FoAt.over hk hb hl' hg'⟩
theorem RowAt.over {lo : Nat} {F : Fo} {w w1 : World} {v : Value} (h : RowAt lo w F v) (hb : Over lo w w1) : RowAt lo w1 F v := by
  obtain ⟨ad, cap, hv, hc, hm, hx⟩ := h
  refine ⟨ad, cap, hv, hc, hm, fun hl => ?_⟩
  obtain ⟨g', off', ha, hl', hg', hk⟩ := hx hl
  exact ⟨g', off', ha, hl', by have := hb.1; omega, hk.over hb hl' hg'⟩
theorem RowAt.later {lo : Nat} {F : Fo} {w w1 : World} {v : Value} (h : RowAt lo w F v) (hb : Below w.heap.size w w1) : RowAt lo w1 F v := h.over (over_of hb lo)
theorem FoAt.low {lo lo' : Nat} (hlo : lo' ≤ lo) : ∀ {F : Fo} {w : World} {g off : Nat} (h : FoAt lo w F g off), FoAt lo' w F g off
  | .nil, w, g, off, _ => trivial
  | .cons nd k r, w, g, off, h => by
    obtain ⟨⟨h0, h1, h2, h3, h4, ad, cap, h5, hc, hm, hx⟩, hr⟩ := h
    refine ⟨⟨h0, h1, h2, h3, h4, ad, cap, h5, hc, hm, fun hl => ?_⟩, FoAt.low hlo hr⟩
    obtain ⟨g', off', ha, hl', hg', hk⟩ := hx hl
    exact ⟨g', off', ha, by omega, hg', FoAt.low hlo hk⟩
theorem RowAt.low {lo lo' : Nat} {F : Fo} {w : World} {v : Value} (h : RowAt lo w F v) (hlo : lo' ≤ lo) : RowAt lo' w F v := by
  obtain ⟨ad, cap, hv, hc, hm, hx⟩ := h
  refine ⟨ad, cap, hv, hc, hm, fun hl => ?_⟩
  obtain ⟨g', off', ha, hl', hg', hk⟩ := hx hl
  exact ⟨g', off', ha, by omega, hg', hk.low hlo⟩
theorem NdAt.later {lo : Nat} {w w1 : World} {g off : Nat} {nd : Nd} {k : Fo} {v : Value} (h : NdAt lo w g off nd k v) (hb : Below w.heap.size w w1) (hg : g < w.heap.size) : NdAt lo w1 g off nd k v := by
  obtain ⟨h0, h1, h2, h3, h4, h5, hr⟩ := h
  have C : ∀ o, w1.cell? ⟨g, o, none⟩ = w.cell? ⟨g, o, none⟩ := fun o => hb.cell (p := ⟨g, o, none⟩) hg
  exact ⟨(C _).trans h0, (C _).trans h1, (C _).trans h2, (C _).trans h3, (C _).trans h4, (C _).trans h5, hr.later hb⟩
theorem boxC {B : Nat} {w w1 : World} {C : Array Value} {T : TypeId} (hb : Below B (w.alloc (.cells C T)) w1) (h : w.heap.size < B) (i : Nat) : w1.cell? ⟨w.heap.size, i, none⟩ = C[i]? := by
  rw [hb.cell (p := ⟨w.heap.size, i, none⟩) h]
  simp
/-- the six cells of the boxed argument, later too -/
def Box6 (b : Nat) (nd : Nd) (v : Value) (W : World) : Prop :=
  b < W.heap.size ∧ W.cell? ⟨b, 0, none⟩ = some (.int .i64 nd.k) ∧ W.cell? ⟨b, 1, none⟩ = some (.int .i64 nd.vk) ∧ W.cell? ⟨b, 2, none⟩ = some (.int .i64 nd.vn) ∧ W.cell? ⟨b, 3, none⟩ = some (.string nd.vt) ∧ W.cell? ⟨b, 4, none⟩ = some (.string nd.nm) ∧ W.cell? ⟨b, 5, none⟩ = some v
theorem Box6.mk {nd : Nd} {v : Value} {T : TypeId} (w : World) : Box6 w.heap.size nd v (w.alloc (.cells #[.int .i64 nd.k, .int .i64 nd.vk, .int .i64 nd.vn, .string nd.vt, .string nd.nm, v] T)) := by
  refine ⟨by simp, ?_, ?_, ?_, ?_, ?_, ?_⟩ <;> simp
theorem Box6.later {b : Nat} {nd : Nd} {v : Value} {W W1 : World} (h : Box6 b nd v W) (hB : Below W.heap.size W W1) : Box6 b nd v W1 := by
  obtain ⟨hb, h0, h1, h2, h3, h4, h5⟩ := h
  have C : ∀ o, W1.cell? ⟨b, o, none⟩ = W.cell? ⟨b, o, none⟩ := fun o => hB.cell (p := ⟨b, o, none⟩) hb
  exact ⟨by have := hB.size; omega, (C _).trans h0, (C _).trans h1, (C _).trans h2, (C _).trans h3, (C _).trans h4, (C _).trans h5⟩
end Go.Proofs.YtamkncfdfaejjaaGreatDoor

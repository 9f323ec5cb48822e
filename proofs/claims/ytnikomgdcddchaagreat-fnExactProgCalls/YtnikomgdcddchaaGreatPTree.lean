/- Steps as forests, plain and in memory. -/
import Derived.Test.YtnikomgdcddchaaGreatTree
namespace Go.Proofs.YtnikomgdcddchaaGreat
open Go.RowKit
set_option linter.unusedVariables false

/-- what a step holds besides the steps within it -/
structure Sn where
  k : Int
  nm : ByteArray
  wh : ByteArray
  ex : Nd
  ek : Fo
/-- steps side by side, each with its body and what stands behind else -/
inductive Ps where
  | nil
  | cons (sn : Sn) (body els rest : Ps)
namespace Ps
def len : Ps → Nat
  | nil => 0
  | cons _ _ _ r => r.len + 1
def nodes : Ps → Nat
  | nil => 0
  | cons _ b e r => b.nodes + e.nodes + r.nodes + 1
def get : Ps → Nat → Option (Sn × Ps × Ps)
  | nil, _ => none
  | cons sn b e _, 0 => some (sn, b, e)
  | cons _ _ _ r, i + 1 => r.get i
theorem get_some : ∀ (F : Ps) (i : Nat), i < F.len → ∃ sn b e, F.get i = some (sn, b, e)
  | nil, i, h => by simp [len] at h
  | cons sn b e r, 0, _ => ⟨sn, b, e, rfl⟩
  | cons sn b e r, i + 1, h => get_some r i (by simp only [len] at h; omega)
theorem get_none : ∀ (F : Ps) (i : Nat), F.len ≤ i → F.get i = none
  | nil, i, h => rfl
  | cons _ _ _ r, 0, h => by simp [len] at h
  | cons _ _ _ r, i + 1, h => get_none r i (by simp only [len] at h; omega)
theorem get_lt {F : Ps} {i : Nat} {x : Sn × Ps × Ps} (h : F.get i = some x) : i < F.len := by
  apply Classical.byContradiction
  intro hx
  rw [get_none F i (by omega)] at h
  cases h
theorem get_nodes : ∀ (F : Ps) (i : Nat) (sn : Sn) (b e : Ps), F.get i = some (sn, b, e) → b.nodes < F.nodes ∧ e.nodes < F.nodes
  | nil, i, sn, b, e, h => by simp [get] at h
  | cons sn' b' e' r, 0, sn, b, e, h => by
    simp only [get, Option.some.injEq, Prod.mk.injEq] at h
    obtain ⟨rfl, rfl, rfl⟩ := h
    simp only [nodes]; omega
  | cons sn' b' e' r, i + 1, sn, b, e, h => by
    have := get_nodes r i sn b e h
    simp only [nodes]; omega
/-- no list within is longer than what the laws take -/
def Sm : Ps → Prop
  | nil => True
  | cons sn b e r => (sn.ek.len ≤ 1048576 ∧ sn.ek.Sm) ∧ (b.len ≤ 1048576 ∧ b.Sm) ∧ (e.len ≤ 1048576 ∧ e.Sm) ∧ r.Sm
/-- texts are no longer than any -/
def Wf : Ps → Prop
  | nil => True
  | cons sn b e r => (sn.nm.size ≤ maxLen ∧ sn.wh.size ≤ maxLen ∧ sn.ex.vt.size ≤ maxLen ∧ sn.ex.nm.size ≤ maxLen ∧ sn.ek.Wf) ∧ b.Wf ∧ e.Wf ∧ r.Wf
theorem Sm.get : ∀ {F : Ps} (h : F.Sm) {i : Nat} {sn : Sn} {b e : Ps}, F.get i = some (sn, b, e) → (sn.ek.len ≤ 1048576 ∧ sn.ek.Sm) ∧ (b.len ≤ 1048576 ∧ b.Sm) ∧ (e.len ≤ 1048576 ∧ e.Sm)
  | nil, _, i, sn, b, e, h => by simp [Ps.get] at h
  | cons sn' b' e' r, hs, 0, sn, b, e, h => by
    simp only [Ps.get, Option.some.injEq, Prod.mk.injEq] at h
    obtain ⟨rfl, rfl, rfl⟩ := h
    exact ⟨hs.1, hs.2.1, hs.2.2.1⟩
  | cons sn' b' e' r, hs, i + 1, sn, b, e, h => Sm.get (F := r) hs.2.2.2 h
theorem Wf.get : ∀ {F : Ps} (h : F.Wf) {i : Nat} {sn : Sn} {b e : Ps}, F.get i = some (sn, b, e) → (sn.nm.size ≤ maxLen ∧ sn.wh.size ≤ maxLen ∧ sn.ex.vt.size ≤ maxLen ∧ sn.ex.nm.size ≤ maxLen ∧ sn.ek.Wf) ∧ b.Wf ∧ e.Wf
  | nil, _, i, sn, b, e, h => by simp [Ps.get] at h
  | cons sn' b' e' r, hs, 0, sn, b, e, h => by
    simp only [Ps.get, Option.some.injEq, Prod.mk.injEq] at h
    obtain ⟨rfl, rfl, rfl⟩ := h
    exact ⟨hs.1, hs.2.1, hs.2.2.1⟩
  | cons sn' b' e' r, hs, i + 1, sn, b, e, h => Wf.get (F := r) hs.2.2.2 h
theorem Sm.of_get : ∀ {F : Ps} (h : ∀ i sn b e, F.get i = some (sn, b, e) → (sn.ek.len ≤ 1048576 ∧ sn.ek.Sm) ∧ (b.len ≤ 1048576 ∧ b.Sm) ∧ (e.len ≤ 1048576 ∧ e.Sm)), F.Sm
  | nil, _ => trivial
  | cons sn b e r, h => ⟨(h 0 sn b e rfl).1, (h 0 sn b e rfl).2.1, (h 0 sn b e rfl).2.2, Sm.of_get (F := r) (fun i sn' b' e' hk => h (i + 1) sn' b' e' hk)⟩
theorem Wf.of_get : ∀ {F : Ps} (h : ∀ i sn b e, F.get i = some (sn, b, e) → (sn.nm.size ≤ maxLen ∧ sn.wh.size ≤ maxLen ∧ sn.ex.vt.size ≤ maxLen ∧ sn.ex.nm.size ≤ maxLen ∧ sn.ek.Wf) ∧ b.Wf ∧ e.Wf), F.Wf
  | nil, _ => trivial
  | cons sn b e r, h => ⟨(h 0 sn b e rfl).1, (h 0 sn b e rfl).2.1, (h 0 sn b e rfl).2.2, Wf.of_get (F := r) (fun i sn' b' e' hk => h (i + 1) sn' b' e' hk)⟩
end Ps

/-- a step as a value -/
abbrev snV (sn : Sn) (ve vb vl : Value) : Value := .agg #[.int .i64 sn.k, .string sn.nm, .string sn.wh, .int .i64 sn.ex.k, .int .i64 sn.ex.vk, .int .i64 sn.ex.vn, .string sn.ex.vt, .string sn.ex.nm, ve, vb, vl]

/-- the steps lie in memory from there on -/
def PsAt (lo : Nat) (w : World) : Ps → Nat → Nat → Prop
  | .nil, _, _ => True
  | .cons sn b e r, g, off =>
    (w.cell? ⟨g, off, none⟩ = some (.int .i64 sn.k) ∧ w.cell? ⟨g, off + 1, none⟩ = some (.string sn.nm) ∧ w.cell? ⟨g, off + 2, none⟩ = some (.string sn.wh) ∧ w.cell? ⟨g, off + 3, none⟩ = some (.int .i64 sn.ex.k) ∧ w.cell? ⟨g, off + 4, none⟩ = some (.int .i64 sn.ex.vk) ∧ w.cell? ⟨g, off + 5, none⟩ = some (.int .i64 sn.ex.vn) ∧ w.cell? ⟨g, off + 6, none⟩ = some (.string sn.ex.vt) ∧ w.cell? ⟨g, off + 7, none⟩ = some (.string sn.ex.nm) ∧
      (∃ v, w.cell? ⟨g, off + 8, none⟩ = some v ∧ RowAt lo w sn.ek v) ∧
      (∃ ad cap, w.cell? ⟨g, off + 9, none⟩ = some (.slice ad b.len cap) ∧ b.len ≤ cap ∧ cap ≤ maxLen ∧ (0 < b.len → ∃ g' off', ad = some ⟨g', off', none⟩ ∧ lo ≤ g' ∧ g' < w.heap.size ∧ PsAt lo w b g' off')) ∧
      (∃ ad cap, w.cell? ⟨g, off + 10, none⟩ = some (.slice ad e.len cap) ∧ e.len ≤ cap ∧ cap ≤ maxLen ∧ (0 < e.len → ∃ g' off', ad = some ⟨g', off', none⟩ ∧ lo ≤ g' ∧ g' < w.heap.size ∧ PsAt lo w e g' off'))) ∧ PsAt lo w r g (off + 11)
/-- a slice that holds the steps -/
def PRow (lo : Nat) (w : World) (F : Ps) (v : Value) : Prop :=
  ∃ ad cap, v = .slice ad F.len cap ∧ F.len ≤ cap ∧ cap ≤ maxLen ∧ (0 < F.len → ∃ g off, ad = some ⟨g, off, none⟩ ∧ lo ≤ g ∧ g < w.heap.size ∧ PsAt lo w F g off)
/-- the eight cells of a step that are no slices -/
def StC (w : World) (g off : Nat) (sn : Sn) : Prop :=
  w.cell? ⟨g, off, none⟩ = some (.int .i64 sn.k) ∧ w.cell? ⟨g, off + 1, none⟩ = some (.string sn.nm) ∧ w.cell? ⟨g, off + 2, none⟩ = some (.string sn.wh) ∧ w.cell? ⟨g, off + 3, none⟩ = some (.int .i64 sn.ex.k) ∧ w.cell? ⟨g, off + 4, none⟩ = some (.int .i64 sn.ex.vk) ∧ w.cell? ⟨g, off + 5, none⟩ = some (.int .i64 sn.ex.vn) ∧ w.cell? ⟨g, off + 6, none⟩ = some (.string sn.ex.vt) ∧ w.cell? ⟨g, off + 7, none⟩ = some (.string sn.ex.nm)
/-- one step lies there -/
def StAt (lo : Nat) (w : World) (g off : Nat) (sn : Sn) (b e : Ps) (ve vb vl : Value) : Prop :=
  StC w g off sn ∧ (w.cell? ⟨g, off + 8, none⟩ = some ve ∧ RowAt lo w sn.ek ve) ∧ (w.cell? ⟨g, off + 9, none⟩ = some vb ∧ PRow lo w b vb) ∧ (w.cell? ⟨g, off + 10, none⟩ = some vl ∧ PRow lo w e vl)
theorem PsAt.head {lo : Nat} {w : World} {sn : Sn} {b e r : Ps} {g off : Nat} (h : PsAt lo w (.cons sn b e r) g off) : ∃ ve vb vl, StAt lo w g off sn b e ve vb vl := by
  obtain ⟨⟨h0, h1, h2, h3, h4, h5, h6, h7, ⟨v, h8, hr⟩, ⟨ad, cap, h9, hc, hm, hx⟩, ⟨ad', cap', h10, hc', hm', hx'⟩⟩, _⟩ := h
  exact ⟨v, _, _, ⟨h0, h1, h2, h3, h4, h5, h6, h7⟩, ⟨h8, hr⟩, ⟨h9, ad, cap, rfl, hc, hm, hx⟩, ⟨h10, ad', cap', rfl, hc', hm', hx'⟩⟩
theorem PsAt.mk {lo : Nat} {w : World} {sn : Sn} {b e r : Ps} {g off : Nat} {ve vb vl : Value} (h : StAt lo w g off sn b e ve vb vl) (hr : PsAt lo w r g (off + 11)) : PsAt lo w (.cons sn b e r) g off := by
  obtain ⟨⟨h0, h1, h2, h3, h4, h5, h6, h7⟩, ⟨h8, hre⟩, ⟨h9, ad, cap, rfl, hc, hm, hx⟩, ⟨h10, ad', cap', rfl, hc', hm', hx'⟩⟩ := h
  exact ⟨⟨h0, h1, h2, h3, h4, h5, h6, h7, ⟨ve, h8, hre⟩, ⟨ad, cap, h9, hc, hm, hx⟩, ⟨ad', cap', h10, hc', hm', hx'⟩⟩, hr⟩
theorem PsAt.get {lo : Nat} : ∀ {F : Ps} {w : World} {g off : Nat} (h : PsAt lo w F g off) {i : Nat} {sn : Sn} {b e : Ps}, F.get i = some (sn, b, e) → ∃ ve vb vl, StAt lo w g (off + i * 11) sn b e ve vb vl
  | .nil, w, g, off, h, i, sn, b, e, hk => by simp [Ps.get] at hk
  | .cons sn' b' e' r, w, g, off, h, 0, sn, b, e, hk => by
    simp only [Ps.get, Option.some.injEq, Prod.mk.injEq] at hk
    obtain ⟨rfl, rfl, rfl⟩ := hk
    have := h.head
    rwa [show off + 0 * 11 = off by omega]
  | .cons sn' b' e' r, w, g, off, h, i + 1, sn, b, e, hk => by
    have := PsAt.get (F := r) h.2 hk
    rw [show off + (i + 1) * 11 = off + 11 + i * 11 by omega]
    exact this
theorem PsAt.of_get {lo : Nat} : ∀ {F : Ps} {w : World} {g off : Nat} (h : ∀ i sn b e, F.get i = some (sn, b, e) → ∃ ve vb vl, StAt lo w g (off + i * 11) sn b e ve vb vl), PsAt lo w F g off
  | .nil, w, g, off, h => trivial
  | .cons sn b e r, w, g, off, h => by
    obtain ⟨ve, vb, vl, hv⟩ := h 0 sn b e rfl
    rw [show off + 0 * 11 = off by omega] at hv
    refine PsAt.mk hv (PsAt.of_get (F := r) fun i sn' b' e' hk => ?_)
    have := h (i + 1) sn' b' e' hk
    rwa [show off + (i + 1) * 11 = off + 11 + i * 11 by omega] at this
theorem PsAt.over {lo : Nat} : ∀ {F : Ps} {w w1 : World} {g off : Nat} (h : PsAt lo w F g off) (hb : Over lo w w1) (hl : lo ≤ g) (hg : g < w.heap.size), PsAt lo w1 F g off
  | .nil, w, w1, g, off, _, _, _, _ => trivial
  | .cons sn b e r, w, w1, g, off, h, hb, hl, hg => by
    obtain ⟨⟨h0, h1, h2, h3, h4, h5, h6, h7, ⟨v, h8, hr⟩, ⟨ad, cap, h9, hc, hm, hx⟩, ⟨ad', cap', h10, hc', hm', hx'⟩⟩, hrest⟩ := h
    have C : ∀ o, w1.cell? ⟨g, o, none⟩ = w.cell? ⟨g, o, none⟩ := fun o => hb.2 g o hl hg
    refine ⟨⟨(C _).trans h0, (C _).trans h1, (C _).trans h2, (C _).trans h3, (C _).trans h4, (C _).trans h5, (C _).trans h6, (C _).trans h7, ⟨v, (C _).trans h8, hr.over hb⟩, ⟨ad, cap, (C _).trans h9, hc, hm, fun hp => ?_⟩, ⟨ad', cap', (C _).trans h10, hc', hm', fun hp => ?_⟩⟩, PsAt.over hrest hb hl hg⟩
    · obtain ⟨g', off', ha, hl', hg', hk⟩ := hx hp
      exact ⟨g', off', ha, hl', by have := hb.1; omega, PsAt.over hk hb hl' hg'⟩
    · obtain ⟨g', off', ha, hl', hg', hk⟩ := hx' hp
      exact ⟨g', off', ha, hl', by have := hb.1; omega, PsAt.over hk hb hl' hg'⟩
theorem PRow.over {lo : Nat} {F : Ps} {w w1 : World} {v : Value} (h : PRow lo w F v) (hb : Over lo w w1) : PRow lo w1 F v := by
  obtain ⟨ad, cap, hv, hc, hm, hx⟩ := h
  refine ⟨ad, cap, hv, hc, hm, fun hl => ?_⟩
  obtain ⟨g', off', ha, hl', hg', hk⟩ := hx hl
  exact ⟨g', off', ha, hl', by have := hb.1; omega, hk.over hb hl' hg'⟩
theorem PRow.later {lo : Nat} {F : Ps} {w w1 : World} {v : Value} (h : PRow lo w F v) (hb : Below w.heap.size w w1) : PRow lo w1 F v := h.over (over_of hb lo)
theorem PsAt.low {lo lo' : Nat} (hlo : lo' ≤ lo) : ∀ {F : Ps} {w : World} {g off : Nat} (h : PsAt lo w F g off), PsAt lo' w F g off
  | .nil, w, g, off, _ => trivial
  | .cons sn b e r, w, g, off, h => by
    obtain ⟨⟨h0, h1, h2, h3, h4, h5, h6, h7, ⟨v, h8, hr⟩, ⟨ad, cap, h9, hc, hm, hx⟩, ⟨ad', cap', h10, hc', hm', hx'⟩⟩, hrest⟩ := h
    refine ⟨⟨h0, h1, h2, h3, h4, h5, h6, h7, ⟨v, h8, hr.low hlo⟩, ⟨ad, cap, h9, hc, hm, fun hp => ?_⟩, ⟨ad', cap', h10, hc', hm', fun hp => ?_⟩⟩, PsAt.low hlo hrest⟩
    · obtain ⟨g', off', ha, hl', hg', hk⟩ := hx hp
      exact ⟨g', off', ha, by omega, hg', PsAt.low hlo hk⟩
    · obtain ⟨g', off', ha, hl', hg', hk⟩ := hx' hp
      exact ⟨g', off', ha, by omega, hg', PsAt.low hlo hk⟩
theorem PRow.low {lo lo' : Nat} {F : Ps} {w : World} {v : Value} (h : PRow lo w F v) (hlo : lo' ≤ lo) : PRow lo' w F v := by
  obtain ⟨ad, cap, hv, hc, hm, hx⟩ := h
  refine ⟨ad, cap, hv, hc, hm, fun hl => ?_⟩
  obtain ⟨g', off', ha, hl', hg', hk⟩ := hx hl
  exact ⟨g', off', ha, by omega, hg', hk.low hlo⟩
theorem StC.later {w w1 : World} {g off : Nat} {sn : Sn} (h : StC w g off sn) (hb : Below w.heap.size w w1) (hg : g < w.heap.size) : StC w1 g off sn := by
  obtain ⟨h0, h1, h2, h3, h4, h5, h6, h7⟩ := h
  have C : ∀ o, w1.cell? ⟨g, o, none⟩ = w.cell? ⟨g, o, none⟩ := fun o => hb.cell (p := ⟨g, o, none⟩) hg
  exact ⟨(C _).trans h0, (C _).trans h1, (C _).trans h2, (C _).trans h3, (C _).trans h4, (C _).trans h5, (C _).trans h6, (C _).trans h7⟩
theorem StAt.later {lo : Nat} {w w1 : World} {g off : Nat} {sn : Sn} {b e : Ps} {ve vb vl : Value} (h : StAt lo w g off sn b e ve vb vl) (hb : Below w.heap.size w w1) (hg : g < w.heap.size) : StAt lo w1 g off sn b e ve vb vl := by
  obtain ⟨hc, ⟨h8, hr⟩, ⟨h9, hp⟩, ⟨h10, hq⟩⟩ := h
  have C : ∀ o, w1.cell? ⟨g, o, none⟩ = w.cell? ⟨g, o, none⟩ := fun o => hb.cell (p := ⟨g, o, none⟩) hg
  exact ⟨hc.later hb hg, ⟨(C _).trans h8, hr.later hb⟩, ⟨(C _).trans h9, hp.later hb⟩, ⟨(C _).trans h10, hq.later hb⟩⟩
end Go.Proofs.YtnikomgdcddchaaGreat

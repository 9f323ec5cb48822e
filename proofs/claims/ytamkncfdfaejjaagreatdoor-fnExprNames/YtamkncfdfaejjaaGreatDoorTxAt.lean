/- Lists of texts, wherever they lie. -/
import Derived.Test.YtamkncfdfaejjaaGreatDoorOwn
import Derived.Laws.AppendOwnNone
namespace Go.Proofs.YtamkncfdfaejjaaGreatDoor
open Go.RowKit
set_option linter.unusedVariables false

/-- a slice that holds these texts -/
def TextsAt (w : World) (v : Value) (L : List (List UInt8)) : Prop :=
  ∃ ad cap, v = .slice ad L.length cap ∧ L.length ≤ cap ∧ cap ≤ maxLen ∧ (0 < L.length → ∃ g off, ad = some ⟨g, off, none⟩ ∧ g < w.heap.size ∧ ∀ i, i < L.length → w.cell? ⟨g, off + i, none⟩ = some (sv (L[i]?.getD []))) ∧ (ad = none → cap = 0)
theorem TextsAt.later {w w1 : World} {v : Value} {L : List (List UInt8)} (h : TextsAt w v L) (hb : Below w.heap.size w w1) : TextsAt w1 v L := by
  obtain ⟨ad, cap, hv, h1, h2, hc, hn⟩ := h
  refine ⟨ad, cap, hv, h1, h2, fun hl => ?_, hn⟩
  obtain ⟨g, off, ha, hg, hc⟩ := hc hl
  exact ⟨g, off, ha, by have := hb.size; omega, fun i hi => (hb.cell (p := ⟨g, off + i, none⟩) hg).trans (hc i hi)⟩
theorem texts_of_row {w : World} {base : Nat} {v : Value} {L : List (List UInt8)} (h : w.ownsRow base 9 1 v L.length (L.map sv)) : TextsAt w v L := by
  obtain ⟨hl, h⟩ := h
  rcases h with ⟨rfl, h0⟩ | ⟨g, cap, cur, rfl, hb, hg, hnc, hm, hs, ht⟩
  · exact ⟨none, 0, by rw [h0], by omega, by unfold maxLen; omega, fun h => by omega, fun _ => rfl⟩
  · refine ⟨_, cap, rfl, hnc, hm, fun _ => ⟨g, 0, rfl, (Array.getElem?_eq_some_iff.1 hg).1, fun i hi => ?_⟩, fun h => by cases h⟩
    have h1 : (L.map sv)[i]? = cur[i]? := by
      rw [← ht, List.getElem?_take, if_pos (by omega)]; simp
    have h2 : i < cur.size := by omega
    have h3 : cur[i]? = some (sv (L[i]?.getD [])) := by
      rw [← h1]; simp [List.getElem?_map, List.getElem?_eq_getElem hi]
    simp [World.cell?, hg, h3]
theorem TextsAt.head {w : World} {ad : Option Addr} {n cap : Nat} {X Y : List (List UInt8)} (h : TextsAt w (.slice ad n cap) (X ++ Y)) : TextsAt w (.slice ad X.length cap) X := by
  obtain ⟨a', c', hv, h1, h2, h3, h4⟩ := h
  cases hv
  rw [List.length_append] at h1 h3
  refine ⟨ad, cap, rfl, by omega, h2, fun hl => ?_, h4⟩
  obtain ⟨g, off, ha, hg, hc⟩ := h3 (by omega)
  refine ⟨g, off, ha, hg, fun i hi => ?_⟩
  have := hc i (by omega)
  rw [List.getElem?_append_left hi] at this
  exact this
theorem TextsAt.tail {w : World} {ad : Option Addr} {n cap : Nat} {X Y : List (List UInt8)} (h : TextsAt w (.slice ad n cap) (X ++ Y)) : TextsAt w (.slice (Option.map (fun x => x.add X.length) ad) Y.length (cap - X.length)) Y := by
  obtain ⟨a', c', hv, h1, h2, h3, h4⟩ := h
  cases hv
  rw [List.length_append] at h1 h3
  refine ⟨_, _, rfl, by omega, by omega, fun hl => ?_, fun h => ?_⟩
  · skip
    obtain ⟨g', off', ha, hg, hc⟩ := h3 (by omega)
    subst ha
    refine ⟨g', off' + X.length, by unfold Addr.add; simp only [Option.map_some]; split <;> simp_all, hg, fun i hi => ?_⟩
    have := hc (X.length + i) (by omega)
    rw [List.getElem?_append_right (by omega), Nat.add_sub_cancel_left, ← Nat.add_assoc] at this
    exact this
  · cases ad with
    | none => rw [h4 rfl]; omega
    | some a => cases h
theorem TextsAt.none {w : World} {ad : Option Addr} {Y : List (List UInt8)} (h : Y.length = 0) : TextsAt w (.slice ad Y.length 0) Y :=
  ⟨ad, 0, rfl, by omega, by unfold maxLen; omega, fun hl => by omega, fun _ => rfl⟩
theorem TextsAt.grown {w w1 : World} {v : Value} {L : List (List UInt8)} {row : Option Nat} (h : TextsAt w v L) (hb : w.grownBy w1 row) (hne : ∀ g, v.ownBlock = some g → some g ≠ row) : TextsAt w1 v L := by
  obtain ⟨ad, cap, rfl, h1, h2, hc, hn⟩ := h
  refine ⟨ad, cap, rfl, h1, h2, fun hl => ?_, hn⟩
  obtain ⟨g, off, rfl, hg, hc⟩ := hc hl
  refine ⟨g, off, rfl, by have := hb.size; omega, fun i hi => ?_⟩
  have hk := hb.block g hg (hne g rfl)
  have h0 := hc i hi
  simp only [World.cell?] at h0 ⊢
  rw [hk]; exact h0
/-- texts put behind a row of the call's own, whatever slice they lie in -/
theorem app_texts {W : World} {base : Nat} {v u : Value} {A B : List (List UInt8)} (hv : W.ownsRow base 9 1 v A.length (A.map sv)) (hu : TextsAt W u B) (hn : A.length + B.length ≤ 4194304) (hb : base ≤ W.heap.size) :
    ∃ v' w2, (Builtin.append_ #[46, 46] 46 #[v, u]).run Tryz.prog W = .ok v' w2 ∧ w2.ownsRow base 9 1 v' (A ++ B).length ((A ++ B).map sv) ∧ W.grownBy w2 v.ownBlock := by
  obtain ⟨i0, hi, hz0, hz1, hz2⟩ := info_parts infoStr
  obtain ⟨ad, cap, rfl, h1, h2, hc, hnone⟩ := hu
  cases ad with
  | none =>
    have hB : B = [] := by
      apply Classical.byContradiction
      intro h
      obtain ⟨g, off, ha, _⟩ := hc (List.length_pos_iff.2 h)
      cases ha
    subst hB
    have hcap := hnone rfl
    subst hcap
    refine ⟨v, W, run_append_owned_none (P := Tryz.prog) (w := W) base 46 46 9 i0 1 Tryz.underlying46 hi v A.length _ hv, by simpa using hv, ?_⟩
    exact ⟨rfl, rfl, rfl, Nat.le_refl _, fun _ _ _ => rfl⟩
  | some a =>
    obtain ⟨v', w2, hrun, hown, hgrow, _⟩ := run_append_own (P := Tryz.prog) W base 46 46 9 i0 (.string ⟨#[]⟩) 1 16 Tryz.underlying46 hi hz0 hz1 hz2 rfl (by decide) v A.length (A.map sv) hv a B.length cap (B.map sv) (by simp) (fun j x hj => by
      have hjl : j < B.length := by
        have := (List.getElem?_eq_some_iff.1 hj).1
        simpa using this
      obtain ⟨g, off, ha, _, hcell⟩ := hc (by omega)
      cases ha
      have h3 := hcell j hjl
      rw [List.getElem?_map, List.getElem?_eq_getElem hjl, Option.map_some] at hj
      rw [List.getElem?_eq_getElem hjl, Option.getD_some] at h3
      unfold Addr.add
      split
      · next h0 => subst h0; rw [Nat.add_zero] at h3; rw [h3]; exact hj
      · rw [h3]; exact hj) (fun x hx => by
        obtain ⟨y, _, rfl⟩ := List.mem_map.1 hx
        rfl) (by unfold maxLen; omega) (by omega) hb
    exact ⟨v', w2, hrun, by simpa using hown, hgrow⟩
/-- an append inside a region that draws -/
theorem step_app {ops : Array Oper} {o : Oper} {a : Act} {W : World} {K : Act → World → Prop} {Q : Exit → Act → World → Prop} {E : Prop} (hg : o.guard = none) (s x : Operand)
    (hop : o.op = Op.call { callee := Callee.builtin Builtin.append, args := #[s, x], argTypes := #[46, 46] }) (hty : o.type = 46) (base : Nat) (A B : List (List UInt8))
    (hv : W.ownsRow base 9 1 (a.eval s) A.length (A.map sv)) (hu : TextsAt W (a.eval x) B) (hn : A.length + B.length ≤ 4194304) (hb : base ≤ W.heap.size)
    (hK : ∀ v' w2, w2.ownsRow base 9 1 v' (A ++ B).length ((A ++ B).map sv) → W.grownBy w2 (a.eval s).ownBlock → (∀ w0 : World, w0.heap.size ≤ base → Below w0.heap.size w0 W → Below w0.heap.size w0 w2) → K (a.put o.dst v') w2) :
    if Region.wanted o (yielded ops a.tmps) = true then Oper.wp Tryz.prog o a W K Q else E := by
  have hw : Region.wanted o (yielded ops a.tmps) = true := by simp [Region.wanted, hg]
  rw [if_pos hw]
  obtain ⟨v', w2, hrun, h1, h2⟩ := app_texts hv hu hn hb
  rw [← hty] at hrun
  unfold Oper.wp
  simp [execOp, hop, resolve, invoke, builtin, hty, hty ▸ hrun, Result.andThen]
  exact hK _ _ h1 h2 fun w0 h0 hB => hB.grown h2 hB.size (fun k e => by have := (hv.lt k e).1; omega)
theorem own_single (W : World) (base : Nat) (u : Value) (h : base ≤ W.heap.size) : (W.alloc (.cells #[u] 9)).ownsRow base 9 1 (.slice (some ⟨W.heap.size, 0, none⟩) 1 1) 1 [u] :=
  ⟨rfl, .inr ⟨W.heap.size, 1, #[u], rfl, h, by show (W.heap.push _)[W.heap.size]? = _; rw [Array.getElem?_push_size], Nat.le_refl _, by unfold maxLen; omega, rfl, rfl⟩⟩
/-- the same in a plain region -/
theorem wpList_app {ops : Array Oper} {rest : List Oper} {o : Oper} {a : Act} {W : World} {Q : Exit → Act → World → Prop} (hgd : o.guard = none) (s x : Operand)
    (ho : o.op = .call { callee := .builtin .append, args := #[s, x], argTypes := #[46, 46] }) (hty : o.type = 46) (base : Nat) (A B : List (List UInt8)) (v u : Value) (hs : a.eval s = v) (hx : a.eval x = u)
    (hv : W.ownsRow base 9 1 v A.length (A.map sv)) (hu : TextsAt W u B) (hn : A.length + B.length ≤ 4194304) (hb : base ≤ W.heap.size)
    (h : ∀ v' w2, w2.ownsRow base 9 1 v' (A ++ B).length ((A ++ B).map sv) → W.grownBy w2 v.ownBlock → wpList Tryz.prog ops Q rest (a.put o.dst v') w2) : wpList Tryz.prog ops Q (o :: rest) a W := by
  refine wpList_plain hgd fun K hK => ?_
  obtain ⟨v', w2, hrun, h1, h2⟩ := app_texts hv hu hn hb
  unfold Oper.wp
  simp [execOp, ho, resolve, invoke, builtin, hs, hx, hty, hrun, Result.andThen]
  exact hK _ _ (h _ _ h1 h2)
end Go.Proofs.YtamkncfdfaejjaaGreatDoor

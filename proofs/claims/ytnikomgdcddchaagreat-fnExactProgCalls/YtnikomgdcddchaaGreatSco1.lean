/- The names that are there, as the specification keeps them. -/
import Derived.Test.YtnikomgdcddchaaGreatPlCk
import Derived.Test.YtnikomgdcddchaaGreatNamT
import Derived.Test.YtnikomgdcddchaaGreatBlk
namespace Go.Proofs.YtnikomgdcddchaaGreat
open Go.RowKit
set_option linter.unusedVariables false

set_option maxHeartbeats 800000 in
theorem l3Has_any (L : List (List UInt8)) (s : List UInt8) (v : Value) (hL : L.length ≤ 4194304) (w : World) (hv : TextsAt w v L) :
    Calls Tryz.prog 84 #[v, sv s] w fun e w' => e = .returned (.bool (decide (s ∈ L))) ∧ w' = w := by
  obtain ⟨ad, cap, rfl, hc, hm, hx, _⟩ := hv
  unfold maxLen at hm
  have HX := hide hx
  clear hx
  have hss : (Pl.bs s).toList = s := Pl.bs_toList s
  go_enter Tryz.func84, Tryz.ntmps84
  go_wp2_with fail
  go_loopw [5] (fun iv wr => ∃ k : Nat, k ≤ L.length ∧ iv = .int .i64 k ∧ Hid (∀ j, j < k → ¬ L[j]?.getD [] = s) ∧ wr = w) (fun iv _ => L.length - (intOf iv).toNat)
  case atStart => exact ⟨0, by omega, rfl, hide (fun j hj => by omega), rfl⟩
  case round =>
    obtain ⟨k, hk, rfl, HS, rfl⟩ := hrel
    by_cases hlt : k < L.length
    · obtain ⟨g, off, rfl, hg, hcell⟩ := HX.out (by omega)
      have hck := hcell k hlt
      clear hcell
      have hii : (k : Int) < (L.length : Int) := by omega
      have HM : Hid (L[k]?.getD [] ∈ L) := by
        rw [List.getElem?_eq_getElem hlt]
        exact List.getElem_mem hlt
      generalize hX : L[k]?.getD [] = X at hck HM
      have HXX := hide hX
      clear hX
      have hxs : (Pl.bs X).toList = X := Pl.bs_toList X
      by_cases heq : X = s
      · have hb2 : ((Pl.bs X).toList == (Pl.bs s).toList) = true := by rw [hxs, hss]; simp [heq]
        have HEQ := hide heq
        clear hxs hss heq
        go_wp2
        go_ret
        exact ⟨by rw [← HEQ.out, decide_eq_true HM.out]; rfl, rfl⟩
      · have hb2 : ((Pl.bs X).toList == (Pl.bs s).toList) = false := by rw [hxs, hss]; simp [heq]
        clear hxs hss
        go_wp2
        go_roundw
        case rel =>
          refine ⟨k + 1, by omega, by go_num, hide fun j hj => ?_, trivial⟩
          by_cases hjk : j = k
          · subst hjk; rw [HXX.out]; exact heq
          · exact HS.out j (by omega)
        case measure => simp [intOf]; omega
    · have HNM : Hid (¬ s ∈ L) := by
        refine hide fun hmem => ?_
        obtain ⟨j, hj, hjs⟩ := List.mem_iff_getElem.1 hmem
        exact HS.out j (by omega) (by rw [List.getElem?_eq_getElem hj]; exact hjs)
      clear hss
      go_wp2
      go_ret
      exact ⟨by rw [decide_eq_false HNM.out]; rfl, rfl⟩

/-- the specification's names, as they lie in a block -/
def ScAt (W : World) (g : Nat) (V C : List (List UInt8)) (code : Int) : Prop :=
  ∃ vv vc, W.heap[g]? = some (.cells #[vv, vc, .int .i64 code] 67 (0, 0)) ∧ TextsAt W vv V ∧ TextsAt W vc C ∧ (∀ j, vv.ownBlock = some j → j ≠ g) ∧ (∀ j, vc.ownBlock = some j → j ≠ g)

theorem grown_set (W : World) (g o : Nat) (u : Value) : W.grownBy (W.setCell ⟨g, o, none⟩ u) (some g) :=
  ⟨rfl, rfl, rfl, by simp [World.setCell], fun k hk hne => Below.heap_setCell _ _ _ _ (fun e => hne (by rw [e]))⟩
theorem grown_trans {a b c : World} {row : Option Nat} (h1 : a.grownBy b row) (h2 : b.grownBy c row) : a.grownBy c row :=
  ⟨h2.os.trans h1.os, h2.tape.trans h1.tape, h2.output.trans h1.output, Nat.le_trans h1.size h2.size, fun k hk hne => (h2.block k (Nat.lt_of_lt_of_le hk h1.size) hne).trans (h1.block k hk hne)⟩
theorem grown_refl (a : World) (row : Option Nat) : a.grownBy a row := ⟨rfl, rfl, rfl, Nat.le_refl _, fun _ _ _ => rfl⟩
theorem grown_below {w w1 : World} (hb : Below w.heap.size w w1) (row : Option Nat) : w.grownBy w1 row := ⟨hb.os, hb.tape, hb.output, hb.size, fun k hk _ => hb.block k hk⟩
theorem below_of_grown {w0 W w1 : World} {g : Nat} (h0 : Below w0.heap.size w0 W) (hg : w0.heap.size ≤ g) (h : W.grownBy w1 (some g)) : Below w0.heap.size w0 w1 :=
  h0.grown h h0.size (fun k e => by cases e; exact hg)
theorem ScAt.set2 {W : World} {g : Nat} {V C : List (List UInt8)} {code : Int} (h : ScAt W g V C code) (c : Int) : ScAt (W.setCell ⟨g, 2, none⟩ (.int .i64 c)) g V C c := by
  obtain ⟨vv, vc, hb, hv, hc, hnv, hnc⟩ := h
  have hgr := grown_set W g 2 (.int .i64 c)
  exact ⟨vv, vc, block_set hb 2 _, hv.grown hgr (fun j hj e => hnv j hj (by cases e; rfl)), hc.grown hgr (fun j hj e => hnc j hj (by cases e; rfl)), hnv, hnc⟩
theorem ScAt.later {W W1 : World} {g : Nat} {V C : List (List UInt8)} {code : Int} (h : ScAt W g V C code) (hb : Below W.heap.size W W1) : ScAt W1 g V C code := by
  obtain ⟨vv, vc, hbk, hv, hc, hnv, hnc⟩ := h
  exact ⟨vv, vc, (hb.block g (Array.getElem?_eq_some_iff.1 hbk).1).trans hbk, hv.later hb, hc.later hb, hnv, hnc⟩

/-- a list of texts is not the block of the names -/
theorem TextsAt.beside {w w1 : World} {v : Value} {L V C : List (List UInt8)} {g : Nat} {code : Int} (h : TextsAt w v L) (hs : ScAt w g V C code) (hb : w.grownBy w1 (some g)) : TextsAt w1 v L := by
  obtain ⟨ad, cap, rfl, h1, h2, hc, hn⟩ := h
  refine ⟨ad, cap, rfl, h1, h2, fun hl => ?_, hn⟩
  obtain ⟨g', off, rfl, hg, hcell⟩ := hc hl
  have hne : g' ≠ g := by
    intro e
    subst e
    obtain ⟨vv, vc, hbk, ⟨_, _, rfl, _⟩, ⟨_, _, rfl, _⟩, _⟩ := hs
    have h0 := hcell 0 hl
    rw [cell_of_block hbk] at h0
    match off, h0 with
    | 0, h0 => simp at h0
    | 1, h0 => simp at h0
    | 2, h0 => simp at h0
    | n + 3, h0 => simp at h0
  refine ⟨g', off, rfl, by have := hb.size; omega, fun i hi => ?_⟩
  have hk := hb.block g' hg (fun e => hne (by cases e; rfl))
  have h0 := hcell i hi
  simp only [World.cell?] at h0 ⊢
  rw [hk]; exact h0

set_option maxHeartbeats 800000 in
theorem fail_any (g : Nat) (V C : List (List UInt8)) (code c : Int) (W : World) (h : ScAt W g V C code) :
    Calls Tryz.prog 85 #[.pointer (some ⟨g, 0, none⟩), .int .i64 c] W fun e w' => e = .returned (.tuple #[]) ∧ W.grownBy w' (some g) ∧ ScAt w' g V C (Pl.orr code c) := by
  have HSC := hide h
  obtain ⟨vv, vc, hb, hv, hc, hnv, hnc⟩ := h
  have c2 := cell_of_block hb 2
  have f2 := free_of_block hb 2
  simp only [List.getElem?_toArray, List.getElem?_cons_zero, List.getElem?_cons_succ] at c2
  clear hb hv hc
  by_cases h0 : code = 0
  · subst h0
    go_enter Tryz.func85, Tryz.ntmps85
    go_wp2
    go_end0
    exact ⟨rfl, grown_set _ _ _ _, HSC.out.set2 c⟩
  · have hz : (code == 0) = false := by simp [h0]
    go_enter Tryz.func85, Tryz.ntmps85
    go_wp2
    go_end0
    exact ⟨rfl, grown_refl _ _, by rw [Pl.orr_left h0]; exact HSC.out⟩
end Go.Proofs.YtnikomgdcddchaaGreat

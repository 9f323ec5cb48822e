/- Lists of texts: held against each other, marked, and asked whether the marks are held. -/
import Derived.Test.YtckdpdlkjgjadaaMark
import Derived.Deep.RegionWith
import Derived.Deep.QuietTactic
import Derived.BigQuiet
namespace Go.Proofs.Ytckdpdlkjgjadaa
open Go.RowKit
set_option linter.unusedVariables false

/-- the cells of a row of one-cell elements -/
theorem row_open {w : World} {base : Nat} {e : TypeId} {v : Value} {n : Nat} {xs : List Value} (h : w.ownsRow base e 1 v n xs) (hn : 0 < n) :
    ∃ g cap, v = .slice (some ⟨g, 0, none⟩) n cap ∧ base ≤ g ∧ g < w.heap.size ∧ (∀ i, i < n → w.cell? ⟨g, i, none⟩ = some (xs[i]?.getD undef)) ∧ (∀ i, w.frozen? ⟨g, i, none⟩ = false) := by
  obtain ⟨hl, h⟩ := h
  rcases h with ⟨_, h0⟩ | ⟨g, cap, cur, rfl, hb, hg, hnc, hm, hs, ht⟩
  · omega
  · have hlt : g < w.heap.size := (Array.getElem?_eq_some_iff.1 hg).1
    refine ⟨g, cap, rfl, hb, hlt, fun i hi => ?_, fun i => by simp [World.frozen?, hg]⟩
    have h1 : xs[i]? = cur[i]? := by
      rw [← ht, List.getElem?_take, if_pos (by omega)]; simp
    have h2 : i < cur.size := by omega
    rw [h1]
    simp [World.cell?, hg, h2]

/-- one element stored: the row with it -/
theorem row_set {w : World} {base : Nat} {e : TypeId} {g n cap : Nat} {xs : List Value} (h : w.ownsRow base e 1 (.slice (some ⟨g, 0, none⟩) n cap) n xs) (k : Nat) (hk : k < n) (u : Value) :
    (w.setCell ⟨g, k, none⟩ u).ownsRow base e 1 (.slice (some ⟨g, 0, none⟩) n cap) n (xs.set k u) := by
  obtain ⟨hl, h⟩ := h
  rcases h with ⟨h0, _⟩ | ⟨g', cap', cur, hv, hb, hg, hnc, hm, hs, ht⟩
  · cases h0
  · cases hv
    refine ⟨by simpa using hl, .inr ⟨g, cap, cur.setIfInBounds k u, rfl, hb, ?_, hnc, hm, by simpa using hs, ?_⟩⟩
    · simp [World.setCell, Array.getElem?_modify, hg]
    · rw [Array.toList_setIfInBounds, List.take_set, ht]

theorem getD_map (L : List (List UInt8)) (k : Nat) (h : k < L.length) : (L.map sv)[k]?.getD undef = sv (L[k]?.getD []) := by
  simp [List.getElem?_map, List.getElem?_eq_getElem h]

set_option maxHeartbeats 800000 in
theorem eqStringS_same (L : List (List UInt8)) (va vb : Value) (ba bb : Nat) (hL : L.length ≤ 2097152) (w : World) (ha : w.ownsRow ba 9 1 va L.length (L.map sv)) (hb : w.ownsRow bb 9 1 vb L.length (L.map sv)) :
    Calls Try.prog 14 #[va, vb] w fun e w' => e = .returned (.bool true) ∧ Below w.heap.size w w' := by
  by_cases hn : 0 < L.length
  · obtain ⟨ga, ca, rfl, _, hga, hca, _⟩ := row_open ha hn
    obtain ⟨gb, cb, rfl, _, hgb, hcb, _⟩ := row_open hb hn
    clear ha hb
    have HCA := hide hca
    have HCB := hide hcb
    clear hca hcb
    generalize hN : L.length = N at *
    have HN := hide hN
    clear hN
    go_enter Try.func14, Try.ntmps14
    go_wp2
    go_loopw [5] (fun i wr => ∃ k : Nat, k ≤ N ∧ i = .int .i64 k ∧ Below w.heap.size w wr) (fun i _ => N - (intOf i).toNat)
    case atStart => exact ⟨0, by omega, rfl, Below.refl _ _⟩
    case round =>
      obtain ⟨k, hk, rfl, hB⟩ := hrel
      by_cases hlt : k < N
      · have c1 : wr.cell? ⟨ga, k, none⟩ = some (sv (L[k]?.getD [])) := by
          rw [hB.cell (p := ⟨ga, k, none⟩) hga, HCA.out k hlt, getD_map L k (by rw [HN.out]; exact hlt)]
        have c2 : wr.cell? ⟨gb, k, none⟩ = some (sv (L[k]?.getD [])) := by
          rw [hB.cell (p := ⟨gb, k, none⟩) hgb, HCB.out k hlt, getD_map L k (by rw [HN.out]; exact hlt)]
        generalize L[k]?.getD [] = X at c1 c2
        have hki : (k : Int) < (N : Int) := by omega
        go_wp2
        go_quiet (fail)
        go_wp2
        go_roundw
        case rel => exact ⟨k + 1, by omega, by go_num, below_drewN hB _⟩
        case measure => simp [intOf]; omega
      · go_wp2
        go_ret
        exact ⟨rfl, hB⟩
  · have h0 : L.length = 0 := by omega
    rw [h0] at ha hb
    obtain ⟨aa, ca, rfl⟩ := ownsRow_form ha
    obtain ⟨ab, cb, rfl⟩ := ownsRow_form hb
    clear ha hb
    go_enter Try.func14, Try.ntmps14
    go_wp2
    go_loop [5] (fun i => i = .int .i64 0) (fun i => 0)
    case atStart => rfl
    case round =>
      subst hrel
      go_wp2
      go_ret
      exact ⟨rfl, Below.refl _ _⟩

/-- the first i elements marked from 1 on -/
def marks (i : Nat) (xs : List Value) : List Value := (List.range i).map (fun j => sv (Pl.mark (1 + j))) ++ xs.drop i
theorem marks_zero (xs : List Value) : marks 0 xs = xs := by simp [marks]
theorem marks_succ (i : Nat) (xs : List Value) (h : i < xs.length) : (marks i xs).set i (sv (Pl.mark (1 + i))) = marks (i + 1) xs := by
  unfold marks
  rw [List.range_succ, List.map_append, List.set_append_right _ _ (by simp)]
  simp only [List.length_map, List.length_range, Nat.sub_self, List.map_cons, List.map_nil, List.append_assoc, List.singleton_append]
  rw [List.drop_eq_getElem_cons h, List.set_cons_zero]
theorem marks_all (xs : List Value) : marks xs.length xs = (List.range xs.length).map (fun j => sv (Pl.mark (1 + j))) := by simp [marks]
theorem marks_at (n k : Nat) (h : k < n) : ((List.range n).map (fun j => sv (Pl.mark (1 + j))))[k]?.getD undef = sv (Pl.mark (1 + k)) := by
  simp [List.getElem?_map, List.getElem?_range h]

set_option maxHeartbeats 800000 in
theorem markStringS_any (base n : Nat) (xs : List Value) (v : Value) (hn2 : n ≤ 2097152) (w : World) (hown : w.ownsRow base 9 1 v n xs) :
    Calls Try.prog 16 #[v, .int .i64 1] w fun e w' => e = .returned (.int .i64 (1 + n)) ∧ w'.ownsRow base 9 1 v n ((List.range n).map (fun j => sv (Pl.mark (1 + j)))) ∧ Below (min base w.heap.size) w w' := by
  have hxl : xs.length = n := by have := hown.1; omega
  by_cases hn : 0 < n
  · obtain ⟨g, cap, rfl, hbg, hg, _, _⟩ := row_open hown hn
    have HXL := hide hxl
    clear hxl
    have HO := hide hown
    clear hown
    go_enter Try.func16, Try.ntmps16
    go_wp2_with fail
    go_loopw [1, 5] (fun kv i wr => ∃ k : Nat, k ≤ n ∧ i = .int .i64 k ∧ kv = .int .i64 (1 + k) ∧ Hid (wr.ownsRow base 9 1 (.slice (some ⟨g, 0, none⟩) n cap) n (marks k xs)) ∧ Below (min base w.heap.size) w wr ∧ w.heap.size ≤ wr.heap.size) (fun _ i _ => n - (intOf i).toNat)
    case atStart => exact ⟨0, by omega, rfl, by simp, by rw [marks_zero]; exact HO, Below.refl _ _, Nat.le_refl _⟩
    case round =>
      obtain ⟨k, hk, rfl, rfl, HR, hB, hsz⟩ := hrel
      by_cases hlt : k < n
      · have hki : (k : Int) < (n : Int) := by omega
        have hmt := hide (markText_any (1 + k) (by omega) (by omega))
        go_wp2_with fail
        rw [show ((1 : Int) + (k : Int)) = ((1 + k : Nat) : Int) from by omega]
        refine (hmt.out _).mono ?_
        rintro e w1 ⟨rfl, hB1⟩
        have hr1 := ownsRow_later HR.out hB1
        obtain ⟨g', cap', hv', _, hg1, hc1, hf1⟩ := row_open hr1 hn
        cases hv'
        have hc := hc1 k hlt
        have hf := hf1 k
        have HR1 := hide hr1
        clear hc1 hf1 hr1
        go_wp2
        go_roundw
        case rel =>
          refine ⟨k + 1, by omega, by go_num, by go_num, ?_, ?_, ?_⟩
          · have := row_set HR1.out k hlt (sv (Pl.mark (1 + k)))
            rw [marks_succ k xs (by rw [HXL.out]; exact hlt)] at this
            exact this
          · exact (hB.trans (hB1.mono (by omega))).setCell (p := ⟨g, k, none⟩) (by show min base w.heap.size ≤ g; omega) _
          · have := hB1.size
            simp; omega
        case measure => simp [intOf]; omega
      · have hkn : k = n := by omega
        go_wp2
        go_ret
        refine ⟨by rw [hkn]; rfl, ?_, hB⟩
        have h1 := HR.out
        rw [hkn, ← HXL.out, marks_all, HXL.out] at h1
        exact h1
  · have h0 : n = 0 := by omega
    subst h0
    obtain ⟨a, c, rfl⟩ := ownsRow_form hown
    have hxn : xs = [] := List.eq_nil_of_length_eq_zero hxl
    have HO := hide hown
    clear hown hxl
    go_enter Try.func16, Try.ntmps16
    go_wp2_with fail
    go_loop [1, 5] (fun kv i => kv = .int .i64 1 ∧ i = .int .i64 0) (fun _ i => 0)
    case atStart => exact ⟨rfl, rfl⟩
    case round =>
      obtain ⟨rfl, rfl⟩ := hrel
      go_wp2
      go_ret
      exact ⟨by simp, by have h1 := HO.out; rw [hxn] at h1; exact h1, Below.refl _ _⟩

set_option maxHeartbeats 800000 in
theorem heldStringS_any (base n : Nat) (v : Value) (hn2 : n ≤ 2097152) (w : World) (hown : w.ownsRow base 9 1 v n ((List.range n).map (fun j => sv (Pl.mark (1 + j))))) :
    Calls Try.prog 17 #[v, .int .i64 1] w fun e w' => e = .returned (.int .i64 (1 + n)) ∧ Below w.heap.size w w' := by
  by_cases hn : 0 < n
  · obtain ⟨g, cap, rfl, hbg, hg, hcells, _⟩ := row_open hown hn
    clear hown
    have HC := hide hcells
    clear hcells
    go_enter Try.func17, Try.ntmps17
    go_wp2_with fail
    go_loopw [1, 5] (fun kv i wr => ∃ k : Nat, k ≤ n ∧ i = .int .i64 k ∧ kv = .int .i64 (1 + k) ∧ Below w.heap.size w wr) (fun _ i _ => n - (intOf i).toNat)
    case atStart => exact ⟨0, by omega, rfl, by simp, Below.refl _ _⟩
    case round =>
      obtain ⟨k, hk, rfl, rfl, hB⟩ := hrel
      by_cases hlt : k < n
      · have hki : (k : Int) < (n : Int) := by omega
        have hc : wr.cell? ⟨g, k, none⟩ = some (sv (Pl.mark (1 + k))) := by
          rw [hB.cell (p := ⟨g, k, none⟩) hg, HC.out k hlt, marks_at n k hlt]
        have hgr : g < wr.heap.size := by have := hB.size; omega
        have hmt := hide (markText_any (1 + k) (by omega) (by omega))
        generalize Pl.mark (1 + k) = X at hmt hc
        rw [show ((1 + k : Nat) : Int) = (1 : Int) + (k : Int) from by omega] at hmt
        go_wp2_with fail
        go_region_with (go_at_call 38; refine (hmt.out _).mono ?_; rintro e w1 ⟨rfl, hB1⟩; have hc1 : w1.cell? ⟨g, k, none⟩ = some (sv X) := (hB1.cell (p := ⟨g, k, none⟩) hgr).trans hc)
        all_goals
          go_wp2
          go_roundw
          case rel => exact ⟨k + 1, by omega, by go_num, by go_num, hB.drew.trans (hB1.mono hB.size)⟩
          case measure => simp [intOf]; omega
      · have hkn : k = n := by omega
        go_wp2
        go_ret
        exact ⟨by rw [hkn]; rfl, hB⟩
  · have h0 : n = 0 := by omega
    subst h0
    obtain ⟨a, c, rfl⟩ := ownsRow_form hown
    clear hown
    go_enter Try.func17, Try.ntmps17
    go_wp2_with fail
    go_loop [1, 5] (fun kv i => kv = .int .i64 1 ∧ i = .int .i64 0) (fun _ i => 0)
    case atStart => exact ⟨rfl, rfl⟩
    case round =>
      obtain ⟨rfl, rfl⟩ := hrel
      go_wp2
      go_ret
      exact ⟨by simp, Below.refl _ _⟩
end Go.Proofs.Ytckdpdlkjgjadaa

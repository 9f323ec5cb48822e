/- Joined: PlD Mark Lists ListsT LgL LgL2 OpenL RcS LoS LoS2 LawLo. -/
import Derived.Test.YtbckbfjnifafaaaGreatDoorPlT
import Derived.Test.YtbckbfjnifafaaaGreatDoorCv1
import Derived.Deep.RegionWith
import Derived.Deep.QuietTactic
import Derived.BigQuiet
import Derived.Test.YtbckbfjnifafaaaGreatDoorJAg
import Derived.Test.YtbckbfjnifafaaaGreatDoorBx
import Derived.SliceStrings
import Derived.Test.YtbckbfjnifafaaaGreatDoorJLg
import Derived.Test.YtbckbfjnifafaaaGreatDoorJAs
import Derived.Test.YtbckbfjnifafaaaGreatDoorLeafB
import Derived.Deep.RegionHeld3
/- Plain facts on decimals. -/
namespace Go.Proofs.YtbckbfjnifafaaaGreatDoor
open Go.RowKit
namespace Pl
/-- the figures of a number above 0; n: at least as many rounds as it has figures -/
def decF : Nat → Nat → List UInt8
  | 0, _ => []
  | f + 1, n => if n = 0 then [] else decF f (n / 10) ++ [(48 + n % 10).toUInt8]
theorem decF_fuel : ∀ (f g n : Nat), n ≤ f → n ≤ g → decF f n = decF g n
  | 0, g, n, h, _ => by
    have : n = 0 := by omega
    subst this
    cases g <;> simp [decF]
  | f + 1, 0, n, _, h => by
    have : n = 0 := by omega
    subst this
    simp [decF]
  | f + 1, g + 1, n, h, k => by
    by_cases hn : n = 0
    · simp [decF, hn]
    · simp only [decF, if_neg hn]
      rw [decF_fuel f g (n / 10) (by omega) (by omega)]
def dec (n : Nat) : List UInt8 := decF n n
theorem dec_zero : dec 0 = [] := rfl
theorem dec_step (n : Nat) (h : n ≠ 0) : dec n = dec (n / 10) ++ [(48 + n % 10).toUInt8] := by
  unfold dec
  rw [decF_fuel n (n + 1) n (Nat.le_refl _) (by omega)]
  simp only [decF, if_neg h]
  rw [decF_fuel n (n / 10) (n / 10) (by omega) (Nat.le_refl _)]
theorem dec_len (n : Nat) : (dec n).length ≤ n := by
  have : ∀ f n, (decF f n).length ≤ f := by
    intro f
    induction f with
    | zero => simp [decF]
    | succ f ih =>
      intro n
      simp only [decF]
      split
      · simp
      · have := ih (n / 10)
        simp; omega
  exact this n n
/-- a mark -/
def mark (k : Nat) : List UInt8 := 109 :: dec k
end Pl
end Go.Proofs.YtbckbfjnifafaaaGreatDoor

/- Marks, and lists of texts that are held against each other. -/
namespace Go.Proofs.YtbckbfjnifafaaaGreatDoor
open Go.RowKit
set_option linter.unusedVariables false

set_option maxHeartbeats 800000 in
theorem markText_any (k : Nat) (h1 : 1 ≤ k) (h2 : k ≤ 1000000000) (w : World) :
    Calls Tryz.prog 35 #[.int .i64 k] w fun e w' => e = .returned (.string (Pl.bs (Pl.mark k))) ∧ Below w.heap.size w w' := by
  go_enter Tryz.func35, Tryz.ntmps35
  go_wp2
  go_loopw [0, 3] (fun kv ov wr => ∃ (j : Nat) (out : List UInt8), j ≤ k ∧ kv = .int .i64 j ∧ ov = .string (Pl.bs out) ∧ Hid (Pl.dec k = Pl.dec j ++ out) ∧ out.length + j ≤ 2 * k ∧ Below w.heap.size w wr) (fun kv _ _ => (intOf kv).toNat)
  case atStart => exact ⟨k, [], Nat.le_refl _, rfl, rfl, by simp [Hid], by simp; omega, Below.refl _ _⟩
  case round =>
    obtain ⟨j, out, hj, rfl, rfl, HD, hol, hB⟩ := hrel
    have hos : (Pl.bs out).size = out.length := rfl
    by_cases hj0 : 0 < j
    · have hcv := conv1 wr (48 + (j : Int) % 10) (by omega) (by omega)
      generalize hd : (48 + (j : Int) % 10).toNat.toUInt8 = d at hcv
      have HDD := hide hd
      clear hd
      have hds : (Pl.bs [d]).size = 1 := rfl
      go_wp2
      go_roundw
      case rel =>
        refine ⟨j / 10, d :: out, by omega, by go_num, by rw [bs_append]; rfl, ?_, by simp; omega, hB.alloc hB.size _⟩
        show _ = _
        rw [HD.out, Pl.dec_step j (by omega), ← HDD.out, show (48 + (j : Int) % 10).toNat = 48 + j % 10 from by omega]
        simp
      case measure => simp [intOf]; omega
    · go_wp2
      go_ret
      refine ⟨?_, hB⟩
      have hj' : j = 0 := by omega
      have : Pl.mark k = 109 :: out := by unfold Pl.mark; rw [HD.out, hj', Pl.dec_zero]; rfl
      rw [this]
      show Ending.returned (.string (Pl.bs [109] ++ Pl.bs out)) = _
      rw [bs_append]; rfl
end Go.Proofs.YtbckbfjnifafaaaGreatDoor

/- Lists of texts: held against each other, marked, and asked whether the marks are held. -/
namespace Go.Proofs.YtbckbfjnifafaaaGreatDoor
open Go.RowKit
set_option linter.unusedVariables false

/-- the cells of a row of one-cell elements -/
theorem row_open {w : World} {base : Nat} {e : TypeId} {v : Value} {n : Nat} {xs : List Value} (h : w.ownsRow base e 1 v n xs) (hn : 0 < n) :
    ∃ g cap, v = .slice (some ⟨g, 0, none⟩) n cap ∧ base ≤ g ∧ g < w.heap.size ∧ (∀ i, i < n → w.cell? ⟨g, i, none⟩ = some (xs[i]?.getD undef)) ∧ (∀ i, w.frozen? ⟨g, i, none⟩ = false) := by
  obtain ⟨hl, h⟩ := h
  rcases h with ⟨_, h0⟩ | ⟨g, cap, cur, rfl, hb, hg, hnc, hm, hs, ht⟩
  · omega
  · have hlt : g < w.heap.size := (Array.getElem?_eq_some_iff.1 hg).1
    refine ⟨g, cap, rfl, hb, hlt, fun i hi => ?_, fun i => by simp [World.frozen?, hg]⟩
    have h1 : xs[i]? = cur[i]? := by
      rw [← ht, List.getElem?_take, if_pos (by omega)]; simp
    have h2 : i < cur.size := by omega
    rw [h1]
    simp [World.cell?, hg, h2]

/-- one element stored: the row with it -/
theorem row_set {w : World} {base : Nat} {e : TypeId} {g n cap : Nat} {xs : List Value} (h : w.ownsRow base e 1 (.slice (some ⟨g, 0, none⟩) n cap) n xs) (k : Nat) (hk : k < n) (u : Value) :
    (w.setCell ⟨g, k, none⟩ u).ownsRow base e 1 (.slice (some ⟨g, 0, none⟩) n cap) n (xs.set k u) := by
  obtain ⟨hl, h⟩ := h
  rcases h with ⟨h0, _⟩ | ⟨g', cap', cur, hv, hb, hg, hnc, hm, hs, ht⟩
  · cases h0
  · cases hv
    refine ⟨by simpa using hl, .inr ⟨g, cap, cur.setIfInBounds k u, rfl, hb, ?_, hnc, hm, by simpa using hs, ?_⟩⟩
    · simp [World.setCell, Array.getElem?_modify, hg]
    · rw [Array.toList_setIfInBounds, List.take_set, ht]

theorem getD_map (L : List (List UInt8)) (k : Nat) (h : k < L.length) : (L.map sv)[k]?.getD undef = sv (L[k]?.getD []) := by
  simp [List.getElem?_map, List.getElem?_eq_getElem h]

set_option maxHeartbeats 800000 in
theorem eqStringS_same (L : List (List UInt8)) (va vb : Value) (ba bb : Nat) (hL : L.length ≤ 2097152) (w : World) (ha : w.ownsRow ba 9 1 va L.length (L.map sv)) (hb : w.ownsRow bb 9 1 vb L.length (L.map sv)) :
    Calls Tryz.prog 30 #[va, vb] w fun e w' => e = .returned (.bool true) ∧ Below w.heap.size w w' := by
  by_cases hn : 0 < L.length
  · obtain ⟨ga, ca, rfl, _, hga, hca, _⟩ := row_open ha hn
    obtain ⟨gb, cb, rfl, _, hgb, hcb, _⟩ := row_open hb hn
    clear ha hb
    have HCA := hide hca
    have HCB := hide hcb
    clear hca hcb
    generalize hN : L.length = N at *
    have HN := hide hN
    clear hN
    go_enter Tryz.func30, Tryz.ntmps30
    go_wp2
    go_loopw [5] (fun i wr => ∃ k : Nat, k ≤ N ∧ i = .int .i64 k ∧ Below w.heap.size w wr) (fun i _ => N - (intOf i).toNat)
    case atStart => exact ⟨0, by omega, rfl, Below.refl _ _⟩
    case round =>
      obtain ⟨k, hk, rfl, hB⟩ := hrel
      by_cases hlt : k < N
      · have c1 : wr.cell? ⟨ga, k, none⟩ = some (sv (L[k]?.getD [])) := by
          rw [hB.cell (p := ⟨ga, k, none⟩) hga, HCA.out k hlt, getD_map L k (by rw [HN.out]; exact hlt)]
        have c2 : wr.cell? ⟨gb, k, none⟩ = some (sv (L[k]?.getD [])) := by
          rw [hB.cell (p := ⟨gb, k, none⟩) hgb, HCB.out k hlt, getD_map L k (by rw [HN.out]; exact hlt)]
        generalize L[k]?.getD [] = X at c1 c2
        have hki : (k : Int) < (N : Int) := by omega
        go_wp2
        go_quiet (fail)
        go_wp2
        go_roundw
        case rel => exact ⟨k + 1, by omega, by go_num, below_drewN hB _⟩
        case measure => simp [intOf]; omega
      · go_wp2
        go_ret
        exact ⟨rfl, hB⟩
  · have h0 : L.length = 0 := by omega
    rw [h0] at ha hb
    obtain ⟨aa, ca, rfl⟩ := ownsRow_form ha
    obtain ⟨ab, cb, rfl⟩ := ownsRow_form hb
    clear ha hb
    go_enter Tryz.func30, Tryz.ntmps30
    go_wp2
    go_loop [5] (fun i => i = .int .i64 0) (fun i => 0)
    case atStart => rfl
    case round =>
      subst hrel
      go_wp2
      go_ret
      exact ⟨rfl, Below.refl _ _⟩

/-- the first i elements marked from 1 on -/
def marks (i : Nat) (xs : List Value) : List Value := (List.range i).map (fun j => sv (Pl.mark (1 + j))) ++ xs.drop i
theorem marks_zero (xs : List Value) : marks 0 xs = xs := by simp [marks]
theorem marks_succ (i : Nat) (xs : List Value) (h : i < xs.length) : (marks i xs).set i (sv (Pl.mark (1 + i))) = marks (i + 1) xs := by
  unfold marks
  rw [List.range_succ, List.map_append, List.set_append_right _ _ (by simp)]
  simp only [List.length_map, List.length_range, Nat.sub_self, List.map_cons, List.map_nil, List.append_assoc, List.singleton_append]
  rw [List.drop_eq_getElem_cons h, List.set_cons_zero]
theorem marks_all (xs : List Value) : marks xs.length xs = (List.range xs.length).map (fun j => sv (Pl.mark (1 + j))) := by simp [marks]
theorem marks_at (n k : Nat) (h : k < n) : ((List.range n).map (fun j => sv (Pl.mark (1 + j))))[k]?.getD undef = sv (Pl.mark (1 + k)) := by
  simp [List.getElem?_map, List.getElem?_range h]

set_option maxHeartbeats 800000 in
theorem markStringS_any (base n : Nat) (xs : List Value) (v : Value) (hn2 : n ≤ 2097152) (w : World) (hown : w.ownsRow base 9 1 v n xs) :
    Calls Tryz.prog 34 #[v, .int .i64 1] w fun e w' => e = .returned (.int .i64 (1 + n)) ∧ w'.ownsRow base 9 1 v n ((List.range n).map (fun j => sv (Pl.mark (1 + j)))) ∧ Below (min base w.heap.size) w w' := by
  have hxl : xs.length = n := by have := hown.1; omega
  by_cases hn : 0 < n
  · obtain ⟨g, cap, rfl, hbg, hg, _, _⟩ := row_open hown hn
    have HXL := hide hxl
    clear hxl
    have HO := hide hown
    clear hown
    go_enter Tryz.func34, Tryz.ntmps34
    go_wp2_with fail
    go_loopw [1, 5] (fun kv i wr => ∃ k : Nat, k ≤ n ∧ i = .int .i64 k ∧ kv = .int .i64 (1 + k) ∧ Hid (wr.ownsRow base 9 1 (.slice (some ⟨g, 0, none⟩) n cap) n (marks k xs)) ∧ Below (min base w.heap.size) w wr ∧ w.heap.size ≤ wr.heap.size) (fun _ i _ => n - (intOf i).toNat)
    case atStart => exact ⟨0, by omega, rfl, by simp, by rw [marks_zero]; exact HO, Below.refl _ _, Nat.le_refl _⟩
    case round =>
      obtain ⟨k, hk, rfl, rfl, HR, hB, hsz⟩ := hrel
      by_cases hlt : k < n
      · have hki : (k : Int) < (n : Int) := by omega
        have hmt := hide (markText_any (1 + k) (by omega) (by omega))
        go_wp2_with fail
        rw [show ((1 : Int) + (k : Int)) = ((1 + k : Nat) : Int) from by omega]
        refine (hmt.out _).mono ?_
        rintro e w1 ⟨rfl, hB1⟩
        have hr1 := ownsRow_later HR.out hB1
        obtain ⟨g', cap', hv', _, hg1, hc1, hf1⟩ := row_open hr1 hn
        cases hv'
        have hc := hc1 k hlt
        have hf := hf1 k
        have HR1 := hide hr1
        clear hc1 hf1 hr1
        go_wp2
        go_roundw
        case rel =>
          refine ⟨k + 1, by omega, by go_num, by go_num, ?_, ?_, ?_⟩
          · have := row_set HR1.out k hlt (sv (Pl.mark (1 + k)))
            rw [marks_succ k xs (by rw [HXL.out]; exact hlt)] at this
            exact this
          · exact (hB.trans (hB1.mono (by omega))).setCell (p := ⟨g, k, none⟩) (by show min base w.heap.size ≤ g; omega) _
          · have := hB1.size
            simp; omega
        case measure => simp [intOf]; omega
      · have hkn : k = n := by omega
        go_wp2
        go_ret
        refine ⟨by rw [hkn]; rfl, ?_, hB⟩
        have h1 := HR.out
        rw [hkn, ← HXL.out, marks_all, HXL.out] at h1
        exact h1
  · have h0 : n = 0 := by omega
    subst h0
    obtain ⟨a, c, rfl⟩ := ownsRow_form hown
    have hxn : xs = [] := List.eq_nil_of_length_eq_zero hxl
    have HO := hide hown
    clear hown hxl
    go_enter Tryz.func34, Tryz.ntmps34
    go_wp2_with fail
    go_loop [1, 5] (fun kv i => kv = .int .i64 1 ∧ i = .int .i64 0) (fun _ i => 0)
    case atStart => exact ⟨rfl, rfl⟩
    case round =>
      obtain ⟨rfl, rfl⟩ := hrel
      go_wp2
      go_ret
      exact ⟨by simp, by have h1 := HO.out; rw [hxn] at h1; exact h1, Below.refl _ _⟩

set_option maxHeartbeats 800000 in
theorem heldStringS_any (base n : Nat) (v : Value) (hn2 : n ≤ 2097152) (w : World) (hown : w.ownsRow base 9 1 v n ((List.range n).map (fun j => sv (Pl.mark (1 + j))))) :
    Calls Tryz.prog 43 #[v, .int .i64 1] w fun e w' => e = .returned (.int .i64 (1 + n)) ∧ Below w.heap.size w w' := by
  by_cases hn : 0 < n
  · obtain ⟨g, cap, rfl, hbg, hg, hcells, _⟩ := row_open hown hn
    clear hown
    have HC := hide hcells
    clear hcells
    go_enter Tryz.func43, Tryz.ntmps43
    go_wp2_with fail
    go_loopw [1, 5] (fun kv i wr => ∃ k : Nat, k ≤ n ∧ i = .int .i64 k ∧ kv = .int .i64 (1 + k) ∧ Below w.heap.size w wr) (fun _ i _ => n - (intOf i).toNat)
    case atStart => exact ⟨0, by omega, rfl, by simp, Below.refl _ _⟩
    case round =>
      obtain ⟨k, hk, rfl, rfl, hB⟩ := hrel
      by_cases hlt : k < n
      · have hki : (k : Int) < (n : Int) := by omega
        have hc : wr.cell? ⟨g, k, none⟩ = some (sv (Pl.mark (1 + k))) := by
          rw [hB.cell (p := ⟨g, k, none⟩) hg, HC.out k hlt, marks_at n k hlt]
        have hgr : g < wr.heap.size := by have := hB.size; omega
        have hmt := hide (markText_any (1 + k) (by omega) (by omega))
        generalize Pl.mark (1 + k) = X at hmt hc
        rw [show ((1 + k : Nat) : Int) = (1 : Int) + (k : Int) from by omega] at hmt
        go_wp2_with fail
        go_region_with (go_at_call 35; refine (hmt.out _).mono ?_; rintro e w1 ⟨rfl, hB1⟩; have hc1 : w1.cell? ⟨g, k, none⟩ = some (sv X) := (hB1.cell (p := ⟨g, k, none⟩) hgr).trans hc)
        all_goals
          go_wp2
          go_roundw
          case rel => exact ⟨k + 1, by omega, by go_num, by go_num, hB.drew.trans (hB1.mono hB.size)⟩
          case measure => simp [intOf]; omega
      · have hkn : k = n := by omega
        go_wp2
        go_ret
        exact ⟨by rw [hkn]; rfl, hB⟩
  · have h0 : n = 0 := by omega
    subst h0
    obtain ⟨a, c, rfl⟩ := ownsRow_form hown
    clear hown
    go_enter Tryz.func43, Tryz.ntmps43
    go_wp2_with fail
    go_loop [1, 5] (fun kv i => kv = .int .i64 1 ∧ i = .int .i64 0) (fun _ i => 0)
    case atStart => exact ⟨rfl, rfl⟩
    case round =>
      obtain ⟨rfl, rfl⟩ := hrel
      go_wp2
      go_ret
      exact ⟨by simp, Below.refl _ _⟩
end Go.Proofs.YtbckbfjnifafaaaGreatDoor

/- Two lists of texts, wherever they lie, held against each other, as the exact laws do it. -/
namespace Go.Proofs.YtbckbfjnifafaaaGreatDoor
open Go.RowKit
set_option linter.unusedVariables false
set_option maxHeartbeats 800000 in
theorem eqStringS_texts (L : List (List UInt8)) (va vb : Value) (hL : L.length ≤ 4194304) (w : World) (ha : TextsAt w va L) (hb : TextsAt w vb L) :
    Calls Tryz.prog 30 #[va, vb] w fun e w' => e = .returned (.bool true) ∧ Below w.heap.size w w' := by
  obtain ⟨aa, ca, rfl, _, _, hca, _⟩ := ha
  obtain ⟨ab, cb, rfl, _, _, hcb, _⟩ := hb
  by_cases hn : 0 < L.length
  · obtain ⟨ga, oa, rfl, hga, hca⟩ := hca hn
    obtain ⟨gb, ob, rfl, hgb, hcb⟩ := hcb hn
    have HCA := hide hca
    have HCB := hide hcb
    clear hca hcb
    generalize hN : L.length = N at *
    clear hN
    go_enter Tryz.func30, Tryz.ntmps30
    go_wp2
    go_loopw [5] (fun i wr => ∃ k : Nat, k ≤ N ∧ i = .int .i64 k ∧ Below w.heap.size w wr) (fun i _ => N - (intOf i).toNat)
    case atStart => exact ⟨0, by omega, rfl, Below.refl _ _⟩
    case round =>
      obtain ⟨k, hk, rfl, hB⟩ := hrel
      by_cases hlt : k < N
      · have c1 : wr.cell? ⟨ga, oa + k, none⟩ = some (sv (L[k]?.getD [])) := by
          rw [hB.cell (p := ⟨ga, oa + k, none⟩) hga, HCA.out k hlt]
        have c2 : wr.cell? ⟨gb, ob + k, none⟩ = some (sv (L[k]?.getD [])) := by
          rw [hB.cell (p := ⟨gb, ob + k, none⟩) hgb, HCB.out k hlt]
        generalize L[k]?.getD [] = X at c1 c2
        have hki : (k : Int) < (N : Int) := by omega
        go_wp2
        go_quiet (fail)
        go_wp2
        go_roundw
        case rel => exact ⟨k + 1, by omega, by go_num, below_drewN hB _⟩
        case measure => simp [intOf]; omega
      · go_wp2
        go_ret
        exact ⟨rfl, hB⟩
  · have h0 : L.length = 0 := by omega
    rw [h0]
    clear hca hcb
    go_enter Tryz.func30, Tryz.ntmps30
    go_wp2
    go_loop [5] (fun i => i = .int .i64 0) (fun i => 0)
    case atStart => rfl
    case round =>
      subst hrel
      go_wp2
      go_ret
      exact ⟨rfl, Below.refl _ _⟩
end Go.Proofs.YtbckbfjnifafaaaGreatDoor

/- A log's pieces counted, copied and held against each other, as the exact laws do it. -/
namespace Go.Proofs.YtbckbfjnifafaaaGreatDoor
open Go.RowKit
set_option linter.unusedVariables false
set_option linter.unusedSimpArgs false
set_option maxHeartbeats 800000 in
theorem szStringS_any (L : List (List UInt8)) (v : Value) (hz : ∀ x ∈ L, x.length ≤ maxLen) (w : World) (ht : TextsAt w v L) :
    Calls Tryz.prog 25 #[v, .int .i64 1048576] w fun e w' => (∃ z : Int, e = .returned (.int .i64 z) ∧ (¬ z < 0 → L.length ≤ 1048576 ∧ ∀ x ∈ L, x.length ≤ 1048576)) ∧ Below w.heap.size w w' := by
  obtain ⟨ad, cap, rfl, h1, h2, hc, _⟩ := ht
  unfold maxLen at h2
  have HZ : Hid (∀ i, i < L.length → (L[i]?.getD []).length ≤ 9223372036854775807) := fun i hi => by
    rw [List.getElem?_eq_getElem hi]
    have := hz _ (List.getElem_mem hi)
    unfold maxLen at this
    simpa using this
  have HC := hide hc
  clear hc hz
  by_cases hbig : 1048576 < L.length
  · clear HC HZ
    go_enter Tryz.func25, Tryz.ntmps25
    go_wp2
    go_ret
    exact ⟨⟨-1, rfl, by omega⟩, Below.refl _ _⟩
  · go_enter Tryz.func25, Tryz.ntmps25
    go_wp2
    go_loopw [1, 5] (fun lv iv wr => ∃ (i : Nat) (left : Int), i ≤ L.length ∧ iv = .int .i64 i ∧ lv = .int .i64 left ∧ 0 ≤ left ∧ left ≤ 1048576 ∧ Hid (∀ j, j < i → (L[j]?.getD []).length ≤ 1048576) ∧ wr = w) (fun _ iv _ => L.length - (intOf iv).toNat)
    case atStart => exact ⟨0, _, by omega, rfl, rfl, by omega, by omega, (fun j hj => by omega), rfl⟩
    case round =>
      obtain ⟨i, left, hi, rfl, rfl, hl0, hl1, HA, rfl⟩ := hrel
      by_cases hlt : i < L.length
      · obtain ⟨g, off, rfl, hg, hs⟩ := HC.out (by omega)
        have c1 := hs i hlt
        have z1 := HZ.out i hlt
        have hsz := Pl.bs_size (L[i]?.getD [])
        have HAN : Hid ((L[i]?.getD []).length ≤ 1048576 → ∀ j, j < i + 1 → (L[j]?.getD []).length ≤ 1048576) := fun h j hj => by
          by_cases e : j = i
          · rw [e]; exact h
          · exact HA.out j (by omega)
        clear hs
        generalize L[i]?.getD [] = X at *
        have hii : (i : Int) < (L.length : Int) := by omega
        by_cases hneg : left - (X.length : Int) < 0
        · go_wp2
          go_ret
          exact ⟨⟨-1, rfl, by omega⟩, Below.refl _ _⟩
        · go_wp2
          go_roundw
          case rel => exact ⟨i + 1, left - (X.length : Int), by omega, by go_num, rfl, by omega, by omega, HAN.out (by omega), by simp⟩
          case measure => simp [intOf]; omega
      · have hie : i = L.length := by omega
        go_wp2
        go_ret
        refine ⟨⟨left, rfl, fun _ => ⟨by omega, fun x hx => ?_⟩⟩, Below.refl _ _⟩
        obtain ⟨j, hj, rfl⟩ := List.getElem_of_mem hx
        have := HA.out j (by omega)
        rw [List.getElem?_eq_getElem hj] at this
        simpa using this
theorem made_str (n : Nat) (hn : n ≤ 1048576) (w : World) : ∃ M : Array Value, M.size = n ∧
    (Instr.makeSlice 22 (.int .i64 (n : Int)) (.int .i64 (n : Int))).run Tryz.prog w = .ok (.slice (some ⟨w.heap.size, 0, none⟩) n n) (w.alloc (.cells M 9)) := by
  obtain ⟨i0, hi, hz0, hz1, hz2⟩ := info_parts infoStr
  have hr := run_make (P := Tryz.prog) w 22 9 i0 _ Tryz.underlying22 hi hz0 .i64 .i64 n n (by omega) (Int.le_refl _) (by rw [hz2]; omega) (by omega)
  rw [hz1] at hr
  simp only [Int.toNat_natCast] at hr
  exact ⟨_, by rw [size_madeCells]; omega, hr⟩
/-- the first i texts are copied into a row that the call made -/
def ToS (L : List (List UInt8)) (w : World) (i : Nat) (W : World) : Prop :=
  (∃ C : Array Value, W.heap[w.heap.size]? = some (.cells C 9 (0, 0)) ∧ C.size = L.length ∧ ∀ j, j < i → C[j]? = some (sv (L[j]?.getD []))) ∧ Below w.heap.size w W
theorem ToS.next {L : List (List UInt8)} {w W : World} {i : Nat} (h : ToS L w i W) (hi : i < L.length) : ToS L w (i + 1) (W.setCell ⟨w.heap.size, i, none⟩ (sv (L[i]?.getD []))) := by
  obtain ⟨⟨C, h1, h2, h3⟩, hB⟩ := h
  refine ⟨⟨C.setIfInBounds i (sv (L[i]?.getD [])), block_set h1 i _, by simpa using h2, fun j hj => ?_⟩, hB.setCell (p := ⟨w.heap.size, i, none⟩) (Nat.le_refl _) _⟩
  rw [Array.getElem?_setIfInBounds]
  by_cases e : i = j
  · subst e
    rw [if_pos rfl, if_pos (by omega)]
  · rw [if_neg e]
    exact h3 j (by omega)
theorem ToS.at {L : List (List UInt8)} {w W : World} (h : ToS L w L.length W) (hl : L.length ≤ 1048576) : TextsAt W (.slice (some ⟨w.heap.size, 0, none⟩) L.length L.length) L := by
  obtain ⟨⟨C, h1, h2, h3⟩, hB⟩ := h
  refine ⟨_, _, rfl, Nat.le_refl _, by unfold maxLen; omega, fun _ => ⟨w.heap.size, 0, rfl, (Array.getElem?_eq_some_iff.1 h1).1, fun i hi => ?_⟩, fun h => by cases h⟩
  rw [Nat.zero_add, cell_of_block h1 i]
  exact h3 i hi
set_option maxHeartbeats 1600000 in
theorem toStringS_any (L : List (List UInt8)) (hN : L.length ≤ 1048576) (v : Value) (w : World) (ht : TextsAt w v L) :
    Calls Tryz.prog 27 #[v] w fun e w' => e = .returned (.slice (some ⟨w.heap.size, 0, none⟩) L.length L.length) ∧ ToS L w L.length w' := by
  obtain ⟨ad, cap, rfl, h1, h2, hc, _⟩ := ht
  unfold maxLen at h2
  obtain ⟨M, hMs, hmk⟩ := made_str L.length hN w
  have HMs := hide hMs
  have HC := hide hc
  clear hMs hc
  go_enter Tryz.func27, Tryz.ntmps27
  go_wp2_with fail
  go_loopw [4] (fun iv wr => ∃ i : Nat, i ≤ L.length ∧ iv = .int .i64 i ∧ Hid (ToS L w i wr)) (fun iv _ => L.length - (intOf iv).toNat)
  case atStart => exact ⟨0, by omega, rfl, ⟨M, by show (w.heap.push _)[w.heap.size]? = _; rw [Array.getElem?_push_size], HMs.out, fun j hj => by omega⟩, (Below.refl _ _).alloc (Nat.le_refl _) _⟩
  case round =>
    obtain ⟨i, hi, rfl, HT⟩ := hrel
    by_cases hlt : i < L.length
    · obtain ⟨g, off, rfl, hg, hs⟩ := HC.out (by omega)
      have c1 := (HT.out.2.cell (p := ⟨g, off + i, none⟩) hg).trans (hs i hlt)
      have HNX := hide (HT.out.next hlt)
      obtain ⟨⟨C, hb, hCs, _⟩, _⟩ := id HT.out
      obtain ⟨u, hu⟩ : ∃ u, C[i]? = some u := ⟨_, Array.getElem?_eq_getElem (by omega)⟩
      have d1 := (cell_of_block hb i).trans hu
      have f1 := free_of_block hb i
      have hii : (i : Int) < (L.length : Int) := by omega
      clear hs hb hCs hu HT hmk
      generalize L[i]?.getD [] = X at *
      go_wp2
      exact ⟨⟨i + 1, by omega, by go_num, HNX⟩, by simp [intOf]; omega⟩
    · have hie : i = L.length := by omega
      have HD : Hid (ToS L w L.length wr) := by rw [← hie]; exact HT
      clear hie hmk
      go_wp2_with fail
      go_ret
      exact ⟨rfl, HD.out⟩
abbrev logV (v : Value) : Value := .agg #[v]
end Go.Proofs.YtbckbfjnifafaaaGreatDoor

/- A log counted, copied and held against another, as the exact laws do it. -/
namespace Go.Proofs.YtbckbfjnifafaaaGreatDoor
open Go.RowKit
set_option linter.unusedVariables false
set_option linter.unusedSimpArgs false
theorem one_box {w w1 : World} {A : Obj} (hb : Below (w.alloc A).heap.size (w.alloc A) w1) : w1.heap[w.heap.size]? = some A ∧ Below w.heap.size w w1 ∧ w.heap.size < w1.heap.size := by
  have hs := hb.size
  have e1 : (w.alloc A).heap.size = w.heap.size + 1 := by simp
  refine ⟨?_, ((Below.refl _ _).alloc (Nat.le_refl _) _).trans (hb.mono (by omega)), by omega⟩
  rw [hb.block _ (by omega), heap_alloc_at, if_pos rfl]
theorem two_box {w w1 : World} {A B : Obj} (hb : Below ((w.alloc A).alloc B).heap.size ((w.alloc A).alloc B) w1) : w1.heap[w.heap.size]? = some A ∧ w1.heap[w.heap.size + 1]? = some B ∧ Below w.heap.size w w1 ∧ w.heap.size + 2 ≤ w1.heap.size := by
  have hs := hb.size
  have e1 : (w.alloc A).heap.size = w.heap.size + 1 := by simp
  have e2 : ((w.alloc A).alloc B).heap.size = w.heap.size + 1 + 1 := by simp
  refine ⟨?_, ?_, (((Below.refl _ _).alloc (Nat.le_refl _) A).alloc (by omega) B).trans (hb.mono (by omega)), by omega⟩
  · rw [hb.block _ (by omega), heap_alloc_at, if_neg (by omega), heap_alloc_at, if_pos rfl]
  · rw [hb.block _ (by omega), heap_alloc_at, if_pos (by omega)]
theorem three_box {w w1 : World} {A B C : Obj} (hb : Below (((w.alloc A).alloc B).alloc C).heap.size (((w.alloc A).alloc B).alloc C) w1) : w1.heap[w.heap.size + 1]? = some B ∧ w1.heap[w.heap.size + 1 + 1]? = some C ∧ Below w.heap.size w w1 ∧ w.heap.size + 3 ≤ w1.heap.size := by
  obtain ⟨_, h1, h2, h3, h4⟩ := boxes3 hb
  exact ⟨h1, h2, h4, h3⟩
set_option maxHeartbeats 800000 in
theorem szLog_any (L : List (List UInt8)) (v : Value) (hz : ∀ x ∈ L, x.length ≤ maxLen) (w : World) (ht : TextsAt w v L) :
    Calls Tryz.prog 7 #[logV v, .int .i64 1048576] w fun e w' => (∃ z : Int, e = .returned (.int .i64 z) ∧ (¬ z < 0 → L.length ≤ 1048576 ∧ ∀ x ∈ L, x.length ≤ 1048576)) ∧ Below w.heap.size w w' := by
  have hb0 : Below w.heap.size w (w.alloc (.cells #[v] 24)) := (Below.refl _ _).alloc (Nat.le_refl _) _
  have hs := hide (szStringS_any L v hz _ (ht.later hb0))
  clear ht hz hb0
  go_enter Tryz.func7, Tryz.ntmps7
  go_wp2_with fail
  refine hs.out.mono ?_
  rintro e w1 ⟨⟨z, rfl, hz⟩, hB1⟩
  have HB := hide (one_box hB1).2.1
  clear hB1 hs
  by_cases h0 : z < 0
  · go_wp2
    go_ret
    exact ⟨⟨-1, rfl, by omega⟩, HB.out⟩
  · go_wp2
    go_ret
    refine ⟨⟨z, rfl, ?_⟩, HB.out⟩
    first | exact hz | exact fun h => (hz h).2 | exact ⟨fun h => (hz h).1, fun h => (hz h).2⟩
set_option maxHeartbeats 1600000 in
theorem toLog_any (L : List (List UInt8)) (hN : L.length ≤ 1048576) (v : Value) (w : World) (ht : TextsAt w v L) :
    Calls Tryz.prog 9 #[logV v] w fun e w' => (∃ g, e = .returned (logV (.slice (some ⟨g, 0, none⟩) L.length L.length)) ∧ w.heap.size ≤ g ∧ TextsAt w' (.slice (some ⟨g, 0, none⟩) L.length L.length) L) ∧ Below w.heap.size w w' := by
  have hb0 : ∀ O A B, Below w.heap.size w (((w.alloc O).alloc A).alloc B) := fun O A B => (((Below.refl _ _).alloc (Nat.le_refl _) O).alloc (by simp) A).alloc (by simp; omega) B
  have hs := hide (fun O A B => toStringS_any L hN v (((w.alloc O).alloc A).alloc B) (ht.later (hb0 O A B)))
  clear ht hb0
  go_enter Tryz.func9, Tryz.ntmps9
  go_wp2_with fail
  refine (hs.out _ _ _).mono ?_
  rintro e w1 ⟨rfl, hT⟩
  have hB1 := hT.2
  obtain ⟨b1, b2, HB, hsz⟩ := three_box hB1
  have hat := hT.at hN
  have r1 := cell_of_block b1 0
  have f1 := free_of_block b1 0
  have r2 := cell_of_block b2 0
  have f2 := free_of_block b2 0
  simp only [List.getElem?_toArray, List.getElem?_cons_zero] at r1 r2
  have H1 := hide b1
  have H2 := hide b2
  have HT := hide hat
  have HBB := hide HB
  clear hT hB1 b1 b2 hat HB hs
  go_wp2
  have hne : w.heap.size + 1 ≠ w.heap.size + 1 + 1 := by omega
  have hb8 : (w1.setCell ⟨w.heap.size + 1 + 1, 0, none⟩ (.slice (some ⟨w.heap.size + 1 + 1 + 1, 0, none⟩) L.length L.length)).heap[w.heap.size + 1]? = some (.cells #[.slice none 0 0] 27 (0, 0)) := (Below.heap_setCell _ _ _ _ hne).trans H1.out
  have hb9 := block_set hb8 0 (.slice (some ⟨w.heap.size + 1 + 1 + 1, 0, none⟩) L.length L.length)
  have m1 := cell_of_block hb9 0
  simp only [List.setIfInBounds_toArray, List.set_cons_zero, List.getElem?_toArray, List.getElem?_cons_zero] at m1
  refine bodyPost_ret (v := logV (.slice (some ⟨w.heap.size + 1 + 1 + 1, 0, none⟩) L.length L.length)) (by simp [results, Tryz.results9, go_sem, m1]) rfl ?_
  refine ⟨⟨w.heap.size + 1 + 1 + 1, rfl, by omega, ?_⟩, (HBB.out.setCell (p := ⟨w.heap.size + 1 + 1, 0, none⟩) (by show w.heap.size ≤ w.heap.size + 1 + 1; omega) _).setCell (p := ⟨w.heap.size + 1, 0, none⟩) (by show w.heap.size ≤ w.heap.size + 1; omega) _⟩
  have hsz3 : (((w.alloc (.cells #[v] 24)).alloc (.cells #[.slice none 0 0] 27)).alloc (.cells #[.slice none 0 0] 27)).heap.size = w.heap.size + 1 + 1 + 1 := by simp
  have ht := HT.out
  rw [hsz3] at ht
  exact (ht.grown (grownBy_setCell' w1 (w.heap.size + 1 + 1) _) (fun g e h => by cases e; simp at h)).grown (grownBy_setCell' _ (w.heap.size + 1) _) (fun g e h => by cases e; simp at h; omega)
set_option maxHeartbeats 800000 in
theorem eqLog_any (L : List (List UInt8)) (hL : L.length ≤ 1048576) (va vb : Value) (w : World) (ha : TextsAt w va L) (hb : TextsAt w vb L) :
    Calls Tryz.prog 11 #[logV va, logV vb] w fun e w' => e = .returned (.bool true) ∧ Below w.heap.size w w' := by
  have hb0 : ∀ O A, Below w.heap.size w ((w.alloc O).alloc A) := fun O A => ((Below.refl _ _).alloc (Nat.le_refl _) O).alloc (by simp) A
  have hs := hide (fun O A => eqStringS_texts L va vb (by omega) ((w.alloc O).alloc A) (ha.later (hb0 O A)) (hb.later (hb0 O A)))
  clear ha hb hb0
  go_enter Tryz.func11, Tryz.ntmps11
  go_wp2_with fail
  refine (hs.out _ _).mono ?_
  rintro e w1 ⟨rfl, hB1⟩
  have HB := hide (two_box hB1).2.2.1
  clear hB1 hs
  go_wp2
  go_ret
  exact ⟨rfl, HB.out⟩
end Go.Proofs.YtbckbfjnifafaaaGreatDoor

/- A datum of a log, opened. -/
namespace Go.Proofs.YtbckbfjnifafaaaGreatDoor
open Go.RowKit Go.ChangeShapes
set_option linter.unusedVariables false
theorem cut1 {α : Type} (l : List α) (h : l.length = 1) : ∃ a, l = [a] := by
  match l, h with
  | [a], _ => exact ⟨a, rfl⟩
theorem add_at (g off n : Nat) : (⟨g, off, none⟩ : Addr).add n = ⟨g, off + n, none⟩ := by
  unfold Addr.add
  split
  · next h => subst h; simp
  · rfl
theorem spot_no {w : World} {a : Addr} {v : Value} (h : w.cell? a = some v) : a.spot = none := by
  unfold World.cell? at h
  split at h
  · split at h
    · cases h
    · rename_i hs
      cases hq : a.spot
      · rfl
      · rw [hq] at hs; simp at hs
  · cases h
theorem open_segs {H : Type} {enc : TypeId × Value → H} {w : World} {base : Nat} {sp : Nat → Bool} {hd : Bool} (n : Nat) (cs : List Value) (x : DataW H × List MemPlace)
    (h : DataW.trod enc Tryz.prog w base sp hd n 22 cs = some x) : ∃ (L : List (List UInt8)) (v : Value), cs = [v] ∧ (∀ s ∈ L, s.length ≤ maxLen) ∧ TextsAt w v L := by
  have c1 : Tryz.prog.cellsOf 9 = 1 := by kernel_rfl
  rcases open_strings Tryz.underlying22 Tryz.underlying9 c1 h with ⟨rfl, _⟩ | ⟨a, len, cap, ss, rfl, hb, hl, hm, hz, hx, hcell, hsz⟩
  · exact ⟨[], _, rfl, by simp, none, 0, rfl, Nat.le_refl _, by unfold maxLen; omega, fun h => by simp at h, fun _ => rfl⟩
  · have hls : len ≤ ss.length := by rw [hz]; split <;> omega
    have hll : ((ss.take len).map (·.data.toList)).length = len := by simp [hls]
    refine ⟨(ss.take len).map (·.data.toList), _, rfl, fun s hs => ?_, some a, cap, by rw [hll], by rw [hll]; exact hl, hm, fun hpos => ?_, fun h => by cases h⟩
    · obtain ⟨t, ht, rfl⟩ := List.mem_map.1 hs
      have := hsz t (List.mem_of_mem_take ht)
      simpa using this
    · rw [hll] at hpos ⊢
      have h0 := hcell 0 (by omega)
      have hspot : a.spot = none := by
        have := spot_no h0
        simpa [Addr.add] using this
      obtain ⟨g, off, spot⟩ := a
      simp only at hspot
      subst hspot
      refine ⟨g, off, rfl, ?_, fun i hi => ?_⟩
      · have := World.block_lt_of_cell? w _ h0
        rwa [add_at] at this
      · have := hcell i (by omega)
        rw [add_at] at this
        rw [this]
        have hi2 : i < ss.length := by omega
        simp only [List.getElem?_map, List.getElem?_take, if_pos hi, List.getElem?_eq_getElem hi2, Option.map_some, Option.getD_some, List.getD, sv]
        rfl
theorem open_log {H : Type} {enc : TypeId × Value → H} {w : World} {base : Nat} {sp : Nat → Bool} {hd : Bool} (fuel : Nat) (cs : List Value) (x : DataW H × List MemPlace)
    (h : DataW.trod enc Tryz.prog w base sp hd fuel 24 cs = some x) : ∃ (L : List (List UInt8)) (v : Value), cs = [v] ∧ (∀ s ∈ L, s.length ≤ maxLen) ∧ TextsAt w v L := by
  have c1 : Tryz.prog.cellsOf 24 = 1 := by kernel_rfl
  have cs1 : Tryz.prog.cellsOf 22 = 1 := by kernel_rfl
  obtain ⟨xs, n, rfl, _, hlen, hxl, hf⟩ := DataW.trod_struct Tryz.underlying24 h
  rw [c1] at hlen
  obtain ⟨a0, rfl⟩ := cut1 cs hlen
  obtain ⟨y0, rfl⟩ := cut1 xs hxl
  have h0 : DataW.trod enc Tryz.prog w base sp hd n 22 (([a0].drop 0).take (Tryz.prog.cellsOf 22)) = some y0 := hf 0 _ rfl
  rw [cs1] at h0
  replace h0 : DataW.trod enc Tryz.prog w base sp hd n 22 [a0] = some y0 := h0
  exact open_segs n _ _ h0
end Go.Proofs.YtbckbfjnifafaaaGreatDoor

/- The acts of a piece, as the specification tells them: an owned row, and where they end. -/
namespace Go.Proofs.YtbckbfjnifafaaaGreatDoor
open Go.RowKit
set_option linter.unusedVariables false
set_option linter.unusedSimpArgs false
set_option maxRecDepth 100000 in
set_option maxHeartbeats 3200000 in
theorem l8Acts_any (s : List UInt8) (hs : s.length ≤ 1048576) (xs : List Pl.Ac) (hR : Pl.Recs s xs) (w : World) :
    Calls Tryz.prog 44 #[.string (Pl.bs s)] w fun e w' => ∃ v, e = .returned (.tuple #[v, .int .i64 (Pl.endR xs : Int)]) ∧ w'.ownsRow w.heap.size 45 9 v xs.length (xs.flatMap acL) ∧ Below w.heap.size w w' := by
  have hbs := Pl.bs_size s
  have hxm := Pl.recs_many xs s hR
  have HR := hide hR
  clear hR
  go_enter Tryz.func44, Tryz.ntmps44
  go_wp2_with fail
  go_loopw [4, 5] (fun v nv wr => ∃ (done rest : List Pl.Ac), done ++ rest = xs ∧ nv = .int .i64 (Pl.endR done : Int) ∧ Hid (wr.ownsRow w.heap.size 45 9 v done.length (done.flatMap acL)) ∧ Hid (Below w.heap.size w wr)) (fun _ nv _ => s.length + 1 - (intOf nv).toNat)
  case atStart =>
    exact ⟨[], xs, rfl, rfl, World.ownsRow_made _ _ 0 (Nat.le_refl _) (by unfold maxLen; omega) rfl, (Below.refl _ _).alloc (Nat.le_refl _) _⟩
  case round =>
    obtain ⟨done, rest, hx, rfl, HO, HB⟩ := hrel
    obtain ⟨av, cv, rfl⟩ := ownsRow_form HO.out
    have hrest := Pl.recs_app done rest s (by rw [hx]; exact HR.out)
    have hend := Pl.recs_end xs s HR.out
    have hea : Pl.endR xs = Pl.endR done + Pl.endR rest := by rw [← hx, Pl.endR_app]
    have hdl : done.length + rest.length = xs.length := by rw [← hx, List.length_append]
    have hxt : (Pl.bs s).extract (Pl.endR done) (Pl.bs s).size = Pl.bs (s.drop (Pl.endR done)) := Pl.extract_tail (Pl.bs s) (Pl.endR done)
    have hcall := fun W => specRecordGet_any (Pl.bs (s.drop (Pl.endR done))) (by rw [Pl.bs_size, List.length_drop]; omega) W
    cases rest with
    | nil =>
      have hrec : Hid (∀ W, Calls Tryz.prog 61 #[.string ((Pl.bs s).extract (Pl.endR done) (Pl.bs s).size)] W fun e w' => e = .returned (.tuple #[actV 0 0 0 ⟨#[]⟩ false 0 0 ⟨#[]⟩ 0, .int .i64 0]) ∧ Below W.heap.size W w') := fun W => by
        rw [hxt]
        exact (hcall W).mono fun e w' h => Pl.rec_none hrest h
      have HE : Hid (Pl.endR xs = Pl.endR done) := by show _ = _; rw [hea]; rfl
      have HX : Hid (done = xs) := by show _ = _; rw [← hx]; simp
      have hnl : Pl.endR done ≤ (Pl.bs s).size := by omega
      clear hcall hrest hx hxt hea hend hdl
      generalize Pl.endR done = n at *
      go_wp2_with fail
      refine (hrec.out _).mono ?_
      rintro e1 w1 ⟨rfl, hB1⟩
      have HO1 := hide (ownsRow_later HO.out hB1)
      have HB1 := hide (HB.out.trans (hB1.mono HB.out.size))
      clear hB1
      go_wp2_with fail
      go_ret2
      refine ⟨.slice av done.length cv, by rw [HE.out]; rfl, ?_, HB1.out.alloc HB1.out.size _⟩
      rw [← HX.out]
      exact ownsRow_later HO1.out ((Below.refl _ _).alloc (Nat.le_refl _) _)
    | cons a rest =>
      have hrec : Hid (∀ W, Calls Tryz.prog 61 #[.string ((Pl.bs s).extract (Pl.endR done) (Pl.bs s).size)] W fun e w' => e = .returned (.tuple #[actV a.k a.r a.p a.nm a.o a.vk a.vn a.vt a.m, .int .i64 (a.T.length : Int)]) ∧ Below W.heap.size W w') := fun W => by
        rw [hxt]
        exact (hcall W).mono fun e w' h => Pl.rec_next hrest h
      have hT1 := Pl.T_pos a
      have hT2 := Pl.begins_len hrest.1
      rw [List.length_drop] at hT2
      have HX : Hid ((done ++ [a]) ++ rest = xs) := by show _ = _; rw [← hx]; simp
      have HEN : Hid (Pl.endR (done ++ [a]) = Pl.endR done + a.T.length) := by show _ = _; rw [Pl.endR_app]; simp [Pl.endR]
      have hnl : Pl.endR done ≤ (Pl.bs s).size := by omega
      have HDL : Hid (done.length + 1 ≤ 1048577) := by show _ ≤ _; simp only [List.length_cons] at hdl; omega
      clear hcall hrest hx hxt hea hend hdl
      generalize Pl.endR done = n at *
      generalize a.T.length = t at *
      have htz : ((t : Int) == 0) = false := beq_eq_false_iff_ne.2 (by omega)
      go_wp2_with fail
      refine (hrec.out _).mono ?_
      rintro e1 w1 ⟨rfl, hB1⟩
      have HO1 := hide (ownsRow_later HO.out hB1)
      have HB1 := hide (HB.out.trans (hB1.mono HB.out.size))
      clear hB1
      have HOW : Hid (∀ O O', ((w1.alloc O).alloc O').ownsRow w.heap.size 45 9 (.slice av done.length cv) done.length (done.flatMap acL)) := fun O O' => ownsRow_later (ownsRow_later HO1.out ((Below.refl _ _).alloc (Nat.le_refl _) _)) ((Below.refl _ _).alloc (Nat.le_refl _) _)
      have HBS : Hid (∀ O O', w.heap.size ≤ ((w1.alloc O).alloc O').heap.size) := fun O O' => by have := HB1.out.size; simp; omega
      have HCL : Hid (∀ O, ∀ j u, (acL a)[j]? = some u → ((w1.alloc O).alloc (.cells (acL a).toArray 45)).cell? ((⟨w1.heap.size + 1, 0, none⟩ : Addr).add j) = some u) := fun O => by
        have h := cells_new (w1.alloc O) a 45
        have e : (w1.alloc O).heap.size = w1.heap.size + 1 := by simp
        rw [e] at h
        exact h
      have HRE : Hid (∀ O O' w2, ((w1.alloc O).alloc O').grownBy w2 (Value.slice av done.length cv).ownBlock → Below w.heap.size w w2) := fun O O' w2 hg => ((HB1.out.alloc HB1.out.size _).alloc (HB1.out.alloc HB1.out.size _).size _).grown hg (HBS.out O O') (fun k hk => by have := (HO.out.lt k hk).1; omega)
      clear HB HO1 HB1
      go_wp2_with (first
        | (with_reducible show wpList _ _ _ (Oper.mk _ (Op.call (Call.mk (.builtin .append) _ _)) _ _ _ _ :: _) _ _; refine wp_app_act rfl (.tmp 20) (.tmp 22) rfl rfl w.heap.size done a _ ⟨w1.heap.size + 1, 0, none⟩ 1 rfl rfl (HOW.out _ _) (HCL.out _) HDL.out (HBS.out _ _) ?_; intro v2 w2 hv2 hg2)
        | fail)
      go_roundw
      case rel => exact ⟨done ++ [a], rest, HX.out, by rw [HEN.out]; go_num, hv2, HRE.out _ _ w2 hg2.out⟩
      case measure => simp [intOf]; omega
end Go.Proofs.YtbckbfjnifafaaaGreatDoor

/- Whether a log is ok, as the specification has it. -/
namespace Go.Proofs.YtbckbfjnifafaaaGreatDoor
open Go.RowKit
set_option linter.unusedVariables false
set_option linter.unusedSimpArgs false
abbrev lsV (v : Value) : Value := .agg #[v]
/-- where the records of each text end -/
def EndOf (E : List UInt8 → Nat) : Prop := ∀ s, ∃ xs, Pl.Recs s xs ∧ E s = Pl.endR xs
theorem Pl.pieces_no {E : List UInt8 → Nat} {L : List (List UInt8)} {whole : Bool} {i : Nat} (hi : i < L.length) (h : Pl.segN E L whole i = false) : Pl.pieces E L whole = false := by
  unfold Pl.pieces
  have : (List.range L.length).all (Pl.segN E L whole) = false := by rw [List.all_eq_false]; exact ⟨i, List.mem_range.2 hi, by simp [h]⟩
  rw [this]; simp
theorem Pl.pieces_yes {E : List UInt8 → Nat} {L : List (List UInt8)} {whole : Bool} (h : ∀ i, i < L.length → Pl.segN E L whole i = true) : Pl.pieces E L whole = (decide (1 ≤ L.length) && decide (L.length ≤ 20)) := by
  unfold Pl.pieces
  have : (List.range L.length).all (Pl.segN E L whole) = true := by rw [List.all_eq_true]; exact fun i hi => h i (List.mem_range.1 hi)
  rw [this]; simp
set_option maxRecDepth 100000 in
set_option maxHeartbeats 6400000 in
theorem l8Pieces_true (E : List UInt8 → Nat) (hE : EndOf E) (L : List (List UInt8)) (hn : L.length ≤ 1048576) (hz : ∀ x ∈ L, x.length ≤ 1048576) (v : Value) (w : World) (ht : TextsAt w v L) :
    Calls Tryz.prog 26 #[lsV v, .bool true] w fun e w' => e = .returned (.bool (Pl.pieces E L true)) ∧ Below w.heap.size w w' := by
  obtain ⟨ad, cap, rfl, h1, h2, hc, _⟩ := ht
  have HC := hide hc
  have HZ : Hid (∀ i, i < L.length → (L[i]?.getD []).length ≤ 1048576) := fun i hi => by
    rw [List.getElem?_eq_getElem hi]
    simpa using hz _ (List.getElem_mem hi)
  have HE := hide hE
  unfold maxLen at h2
  have hin := hide (fun W => in_any (L.length : Int) 1 20 W)
  clear hc hz hE
  go_enter Tryz.func26, Tryz.ntmps26
  go_wp2_with fail
  go_loopw [5] (fun iv wr => ∃ i : Nat, i ≤ L.length ∧ iv = .int .i64 i ∧ Hid (∀ j, j < i → Pl.segN E L true j = true) ∧ Hid (wr.heap[w.heap.size]? = some (.cells #[.slice ad L.length cap] 27 (0, 0))) ∧ Hid (Below w.heap.size w wr)) (fun iv _ => L.length - (intOf iv).toNat)
  case atStart => exact ⟨0, by omega, rfl, (fun j hj => by omega), by show (w.heap.push _)[w.heap.size]? = _; rw [Array.getElem?_push_size], (Below.refl _ _).alloc (Nat.le_refl _) _⟩
  case round =>
    obtain ⟨i, hi, rfl, HA, HX, HB⟩ := hrel
    have b0 := cell_of_block HX.out 0
    simp only [List.getElem?_toArray, List.getElem?_cons_zero] at b0
    have hlw : w.heap.size < wr.heap.size := (Array.getElem?_eq_some_iff.1 HX.out).1
    by_cases hlt : i < L.length
    · obtain ⟨g, off, rfl, hg, hs⟩ := HC.out (by omega)
      have c1 := (HB.out.cell (p := ⟨g, off + i, none⟩) hg).trans (hs i hlt)
      have z1 := HZ.out i hlt
      have hsz := Pl.bs_size (L[i]?.getD [])
      obtain ⟨xs, hR, hek⟩ := HE.out (L[i]?.getD [])
      have hact := hide (fun W => l8Acts_any (L[i]?.getD []) z1 xs hR W)
      have HSN : Hid (Pl.segN E L true i = !((!(E (L[i]?.getD []) == (L[i]?.getD []).length) && (true || !(i + 1 == L.length))) || ((E (L[i]?.getD []) == 0 && !(i + 1 == L.length)) || decide (400 < (L[i]?.getD []).length)))) := rfl
      have HNO := hide (fun (h : Pl.segN E L true i = false) => Pl.pieces_no hlt h)
      have HNX : Hid (Pl.segN E L true i = true → ∀ j, j < i + 1 → Pl.segN E L true j = true) := fun h j hj => by
        by_cases e : j = i
        · rw [e]; exact h
        · exact HA.out j (by omega)
      have hkm := Pl.recs_end xs _ hR
      rw [hek] at HSN
      generalize Pl.endR xs = k at *
      clear hs hR hek
      generalize L[i]?.getD [] = X at *
      have hii : (i : Int) < (L.length : Int) := by omega
      go_wp2_with fail
      refine (hact.out _).mono ?_
      rintro e w1 ⟨v1, rfl, _, hB1⟩
      have HB1 := hide (HB.out.trans (hB1.mono HB.out.size))
      have HX1 := hide ((hB1.block _ hlw).trans HX.out)
      have b1 := cell_of_block HX1.out 0
      simp only [List.getElem?_toArray, List.getElem?_cons_zero] at b1
      have c2 := (hB1.cell (p := ⟨g, off + i, none⟩) (Nat.lt_of_lt_of_le hg HB.out.size)).trans c1
      clear hB1 hact b0 c1 HX HB
      by_cases hee : k = X.length
      · have be : (k == X.length) = true := beq_iff_eq.2 hee
        have de : ((k : Int) != (X.length : Int)) = false := by simp; omega
        clear hee
        by_cases hll : i + 1 = L.length
        · have bl : (i + 1 == L.length) = true := beq_iff_eq.2 hll
          have dl : ((i : Int) == (L.length : Int) - 1) = true := by rw [beq_iff_eq]; omega
          clear hll
          by_cases hzr : k = 0
          · have bz : (k == 0) = true := beq_iff_eq.2 hzr
            have dz : ((k : Int) == 0) = true := by rw [beq_iff_eq]; omega
            clear hzr
            by_cases hf : 400 < X.length
            · have bf : decide (400 < X.length) = true := decide_eq_true hf
              have df : (400 : Int) < (X.length : Int) := by omega
              have HSG : Hid (Pl.segN E L true i = false) := by show _ = _; rw [HSN.out, be, bl, bz, bf]; rfl
              have HF := hide (HNO.out HSG.out)
              clear HSN HSG HNX HNO HA
              go_wp2_with fail
              go_ret
              exact ⟨by rw [HF.out]; rfl, HB1.out⟩
            · have bf : decide (400 < X.length) = false := decide_eq_false hf
              have df : ¬ (400 : Int) < (X.length : Int) := by omega
              have HSG : Hid (Pl.segN E L true i = true) := by show _ = _; rw [HSN.out, be, bl, bz, bf]; rfl
              have HF := hide (HNX.out HSG.out)
              clear HSN HSG HNX HNO HA
              go_wp2_with fail
              go_roundw
              case rel => exact ⟨i + 1, by omega, by go_num, HF, HX1, HB1⟩
              case measure => simp [intOf]; omega
          · have bz : (k == 0) = false := beq_eq_false_iff_ne.2 hzr
            have dz : ((k : Int) == 0) = false := by rw [beq_eq_false_iff_ne]; omega
            clear hzr
            by_cases hf : 400 < X.length
            · have bf : decide (400 < X.length) = true := decide_eq_true hf
              have df : (400 : Int) < (X.length : Int) := by omega
              have HSG : Hid (Pl.segN E L true i = false) := by show _ = _; rw [HSN.out, be, bl, bz, bf]; rfl
              have HF := hide (HNO.out HSG.out)
              clear HSN HSG HNX HNO HA
              go_wp2_with fail
              go_ret
              exact ⟨by rw [HF.out]; rfl, HB1.out⟩
            · have bf : decide (400 < X.length) = false := decide_eq_false hf
              have df : ¬ (400 : Int) < (X.length : Int) := by omega
              have HSG : Hid (Pl.segN E L true i = true) := by show _ = _; rw [HSN.out, be, bl, bz, bf]; rfl
              have HF := hide (HNX.out HSG.out)
              clear HSN HSG HNX HNO HA
              go_wp2_with fail
              go_roundw
              case rel => exact ⟨i + 1, by omega, by go_num, HF, HX1, HB1⟩
              case measure => simp [intOf]; omega
        · have bl : (i + 1 == L.length) = false := beq_eq_false_iff_ne.2 hll
          have dl : ((i : Int) == (L.length : Int) - 1) = false := by rw [beq_eq_false_iff_ne]; omega
          clear hll
          by_cases hzr : k = 0
          · have bz : (k == 0) = true := beq_iff_eq.2 hzr
            have dz : ((k : Int) == 0) = true := by rw [beq_iff_eq]; omega
            clear hzr
            by_cases hf : 400 < X.length
            · have bf : decide (400 < X.length) = true := decide_eq_true hf
              have df : (400 : Int) < (X.length : Int) := by omega
              have HSG : Hid (Pl.segN E L true i = false) := by show _ = _; rw [HSN.out, be, bl, bz, bf]; rfl
              have HF := hide (HNO.out HSG.out)
              clear HSN HSG HNX HNO HA
              go_wp2_with fail
              go_ret
              exact ⟨by rw [HF.out]; rfl, HB1.out⟩
            · have bf : decide (400 < X.length) = false := decide_eq_false hf
              have df : ¬ (400 : Int) < (X.length : Int) := by omega
              have HSG : Hid (Pl.segN E L true i = false) := by show _ = _; rw [HSN.out, be, bl, bz, bf]; rfl
              have HF := hide (HNO.out HSG.out)
              clear HSN HSG HNX HNO HA
              go_wp2_with fail
              go_ret
              exact ⟨by rw [HF.out]; rfl, HB1.out⟩
          · have bz : (k == 0) = false := beq_eq_false_iff_ne.2 hzr
            have dz : ((k : Int) == 0) = false := by rw [beq_eq_false_iff_ne]; omega
            clear hzr
            by_cases hf : 400 < X.length
            · have bf : decide (400 < X.length) = true := decide_eq_true hf
              have df : (400 : Int) < (X.length : Int) := by omega
              have HSG : Hid (Pl.segN E L true i = false) := by show _ = _; rw [HSN.out, be, bl, bz, bf]; rfl
              have HF := hide (HNO.out HSG.out)
              clear HSN HSG HNX HNO HA
              go_wp2_with fail
              go_ret
              exact ⟨by rw [HF.out]; rfl, HB1.out⟩
            · have bf : decide (400 < X.length) = false := decide_eq_false hf
              have df : ¬ (400 : Int) < (X.length : Int) := by omega
              have HSG : Hid (Pl.segN E L true i = true) := by show _ = _; rw [HSN.out, be, bl, bz, bf]; rfl
              have HF := hide (HNX.out HSG.out)
              clear HSN HSG HNX HNO HA
              go_wp2_with fail
              go_roundw
              case rel => exact ⟨i + 1, by omega, by go_num, HF, HX1, HB1⟩
              case measure => simp [intOf]; omega
      · have be : (k == X.length) = false := beq_eq_false_iff_ne.2 hee
        have de : ((k : Int) != (X.length : Int)) = true := by simp; omega
        clear hee
        by_cases hll : i + 1 = L.length
        · have bl : (i + 1 == L.length) = true := beq_iff_eq.2 hll
          have dl : ((i : Int) == (L.length : Int) - 1) = true := by rw [beq_iff_eq]; omega
          clear hll
          by_cases hzr : k = 0
          · have bz : (k == 0) = true := beq_iff_eq.2 hzr
            have dz : ((k : Int) == 0) = true := by rw [beq_iff_eq]; omega
            clear hzr
            by_cases hf : 400 < X.length
            · have bf : decide (400 < X.length) = true := decide_eq_true hf
              have df : (400 : Int) < (X.length : Int) := by omega
              have HSG : Hid (Pl.segN E L true i = false) := by show _ = _; rw [HSN.out, be, bl, bz, bf]; rfl
              have HF := hide (HNO.out HSG.out)
              clear HSN HSG HNX HNO HA
              go_wp2_with fail
              go_ret
              exact ⟨by rw [HF.out]; rfl, HB1.out⟩
            · have bf : decide (400 < X.length) = false := decide_eq_false hf
              have df : ¬ (400 : Int) < (X.length : Int) := by omega
              have HSG : Hid (Pl.segN E L true i = false) := by show _ = _; rw [HSN.out, be, bl, bz, bf]; rfl
              have HF := hide (HNO.out HSG.out)
              clear HSN HSG HNX HNO HA
              go_wp2_with fail
              go_ret
              exact ⟨by rw [HF.out]; rfl, HB1.out⟩
          · have bz : (k == 0) = false := beq_eq_false_iff_ne.2 hzr
            have dz : ((k : Int) == 0) = false := by rw [beq_eq_false_iff_ne]; omega
            clear hzr
            by_cases hf : 400 < X.length
            · have bf : decide (400 < X.length) = true := decide_eq_true hf
              have df : (400 : Int) < (X.length : Int) := by omega
              have HSG : Hid (Pl.segN E L true i = false) := by show _ = _; rw [HSN.out, be, bl, bz, bf]; rfl
              have HF := hide (HNO.out HSG.out)
              clear HSN HSG HNX HNO HA
              go_wp2_with fail
              go_ret
              exact ⟨by rw [HF.out]; rfl, HB1.out⟩
            · have bf : decide (400 < X.length) = false := decide_eq_false hf
              have df : ¬ (400 : Int) < (X.length : Int) := by omega
              have HSG : Hid (Pl.segN E L true i = false) := by show _ = _; rw [HSN.out, be, bl, bz, bf]; rfl
              have HF := hide (HNO.out HSG.out)
              clear HSN HSG HNX HNO HA
              go_wp2_with fail
              go_ret
              exact ⟨by rw [HF.out]; rfl, HB1.out⟩
        · have bl : (i + 1 == L.length) = false := beq_eq_false_iff_ne.2 hll
          have dl : ((i : Int) == (L.length : Int) - 1) = false := by rw [beq_eq_false_iff_ne]; omega
          clear hll
          by_cases hzr : k = 0
          · have bz : (k == 0) = true := beq_iff_eq.2 hzr
            have dz : ((k : Int) == 0) = true := by rw [beq_iff_eq]; omega
            clear hzr
            by_cases hf : 400 < X.length
            · have bf : decide (400 < X.length) = true := decide_eq_true hf
              have df : (400 : Int) < (X.length : Int) := by omega
              have HSG : Hid (Pl.segN E L true i = false) := by show _ = _; rw [HSN.out, be, bl, bz, bf]; rfl
              have HF := hide (HNO.out HSG.out)
              clear HSN HSG HNX HNO HA
              go_wp2_with fail
              go_ret
              exact ⟨by rw [HF.out]; rfl, HB1.out⟩
            · have bf : decide (400 < X.length) = false := decide_eq_false hf
              have df : ¬ (400 : Int) < (X.length : Int) := by omega
              have HSG : Hid (Pl.segN E L true i = false) := by show _ = _; rw [HSN.out, be, bl, bz, bf]; rfl
              have HF := hide (HNO.out HSG.out)
              clear HSN HSG HNX HNO HA
              go_wp2_with fail
              go_ret
              exact ⟨by rw [HF.out]; rfl, HB1.out⟩
          · have bz : (k == 0) = false := beq_eq_false_iff_ne.2 hzr
            have dz : ((k : Int) == 0) = false := by rw [beq_eq_false_iff_ne]; omega
            clear hzr
            by_cases hf : 400 < X.length
            · have bf : decide (400 < X.length) = true := decide_eq_true hf
              have df : (400 : Int) < (X.length : Int) := by omega
              have HSG : Hid (Pl.segN E L true i = false) := by show _ = _; rw [HSN.out, be, bl, bz, bf]; rfl
              have HF := hide (HNO.out HSG.out)
              clear HSN HSG HNX HNO HA
              go_wp2_with fail
              go_ret
              exact ⟨by rw [HF.out]; rfl, HB1.out⟩
            · have bf : decide (400 < X.length) = false := decide_eq_false hf
              have df : ¬ (400 : Int) < (X.length : Int) := by omega
              have HSG : Hid (Pl.segN E L true i = false) := by show _ = _; rw [HSN.out, be, bl, bz, bf]; rfl
              have HF := hide (HNO.out HSG.out)
              clear HSN HSG HNX HNO HA
              go_wp2_with fail
              go_ret
              exact ⟨by rw [HF.out]; rfl, HB1.out⟩
    · have hie : i = L.length := by omega
      have HF := hide (Pl.pieces_yes (E := E) (L := L) (whole := true) (fun j hj => HA.out j (by omega)))
      have HD : Hid ((decide ((1 : Int) ≤ (L.length : Int)) && decide ((L.length : Int) ≤ 20)) = (decide (1 ≤ L.length) && decide (L.length ≤ 20))) := by
        show _ = _
        rw [Bool.eq_iff_iff]
        simp only [Bool.and_eq_true, decide_eq_true_eq]
        omega
      clear hie
      go_wp2_with fail
      refine (hin.out _).mono ?_
      rintro e w2 ⟨rfl, rfl⟩
      go_wp2_with fail
      go_ret
      exact ⟨by rw [HF.out, ← HD.out]; rfl, HB.out⟩
end Go.Proofs.YtbckbfjnifafaaaGreatDoor

/- Whether a log is ok, as the specification has it: its last step. -/
namespace Go.Proofs.YtbckbfjnifafaaaGreatDoor
open Go.RowKit
set_option linter.unusedVariables false
set_option linter.unusedSimpArgs false
theorem one_bs {w w1 : World} {A : Obj} (hb : Below (w.alloc A).heap.size (w.alloc A) w1) : w1.heap[w.heap.size]? = some A ∧ Below w.heap.size w w1 ∧ w.heap.size < w1.heap.size := by
  have hs := hb.size
  have e1 : (w.alloc A).heap.size = w.heap.size + 1 := by simp
  refine ⟨?_, ((Below.refl _ _).alloc (Nat.le_refl _) _).trans (hb.mono (by omega)), by omega⟩
  rw [hb.block _ (by omega), heap_alloc_at, if_pos rfl]
set_option maxRecDepth 100000 in
set_option maxHeartbeats 1600000 in
theorem specLogOk_any (E : List UInt8 → Nat) (hE : EndOf E) (L : List (List UInt8)) (hN : L.length ≤ 1048576) (hz : ∀ x ∈ L, x.length ≤ 1048576) (v : Value) (w : World) (ht : TextsAt w v L) :
    Calls Tryz.prog 8 #[lsV v] w fun e w' => e = .returned (.bool (Pl.logS E L)) ∧ Below w.heap.size w w' := by
  have hb0 : Below w.heap.size w (w.alloc (.cells #[v] 27)) := (Below.refl _ _).alloc (Nat.le_refl _) _
  have hm := hide (l8Pieces_true E hE L hN hz v _ (ht.later hb0))
  have HI : Hid (Pl.logS E L = (Pl.pieces E L true && (L.length == 1 || !(Pl.lastL L).isEmpty))) := rfl
  cases hmm : Pl.pieces E L true
  · rw [hmm] at hm
    clear ht hz hE hb0
    go_enter Tryz.func8, Tryz.ntmps8
    go_wp2_with fail
    refine hm.out.mono ?_
    rintro e w1 ⟨rfl, hB1⟩
    have HB := hide (one_bs hB1).2.1
    clear hB1 hm
    go_wp2_with fail
    go_ret
    exact ⟨by rw [HI.out, hmm]; rfl, HB.out⟩
  · rw [hmm] at hm
    have hlen : 1 ≤ L.length ∧ L.length ≤ 20 := by
      unfold Pl.pieces at hmm
      simp only [Bool.and_eq_true, decide_eq_true_eq] at hmm
      exact hmm.2
    obtain ⟨ad, cap, rfl, h1, h2, hc, _⟩ := ht
    unfold maxLen at h2
    obtain ⟨g, off, rfl, hg, hs⟩ := hc (by omega)
    obtain ⟨n, hn⟩ : ∃ n, L.length = n + 1 := ⟨L.length - 1, by omega⟩
    have hl : Pl.lastL L = L[n]?.getD [] := by unfold Pl.lastL; rw [hn]; rfl
    have cl := hs n (by omega)
    rw [← hl] at cl
    have heb : (Pl.bs (Pl.lastL L)).toList.isEmpty = (Pl.lastL L).isEmpty := by rw [Pl.bs_toList]
    have HCL : Hid (∀ W, Below w.heap.size w W → W.cell? ⟨g, off + n, none⟩ = some (sv (Pl.lastL L))) := fun W hW => (hW.cell (p := ⟨g, off + n, none⟩) hg).trans cl
    clear hs hc hz hE hb0 cl hl
    generalize Pl.lastL L = X at *
    rw [hn] at HI hm h1 hlen
    have hcap : n + 1 ≤ cap := h1
    rw [hn]
    go_enter Tryz.func8, Tryz.ntmps8
    go_wp2_with fail
    refine hm.out.mono ?_
    rintro e w1 ⟨rfl, hB1⟩
    obtain ⟨bx, hBL, hlw⟩ := one_bs hB1
    have d1 := HCL.out _ hBL
    have b0 := cell_of_block bx 0
    simp only [List.getElem?_toArray, List.getElem?_cons_zero] at b0
    have HB := hide hBL
    have HX := hide bx
    clear hB1 hm hBL bx HCL
    by_cases hn0 : n = 0
    · subst hn0
      have HR : Hid (Pl.logS E L = true) := by show _ = _; rw [HI.out, hmm]; simp
      clear HI heb
      go_wp2_with fail
      go_ret
      exact ⟨by rw [HR.out]; rfl, HB.out⟩
    · have hq : (((n : Int) + 1) == 1) = false := by rw [beq_eq_false_iff_ne]; omega
      have hq2 : ((n + 1 : Nat) == 1) = false := by rw [beq_eq_false_iff_ne]; omega
      have HR : Hid (Pl.logS E L = !X.isEmpty) := by show _ = _; rw [HI.out, hmm, hq2]; simp
      clear HI hq2
      generalize X.isEmpty = b2 at *
      cases b2
      all_goals
        go_wp2_with fail
        go_ret
        exact ⟨by rw [HR.out]; rfl, HB.out⟩
end Go.Proofs.YtbckbfjnifafaaaGreatDoor

/- The law on whether a log is ok, walked. -/
namespace Go.Proofs.YtbckbfjnifafaaaGreatDoor
open Go.RowKit
set_option linter.unusedVariables false
set_option linter.unusedSimpArgs false
/-- where the records of each text end: there is such a number -/
theorem ends_there : ∃ E : List UInt8 → Nat, ∀ s, ∃ xs, Pl.Recs s xs ∧ E s = Pl.endR xs := by
  have h : ∀ s : List UInt8, ∃ n : Nat, ∃ xs, Pl.Recs s xs ∧ n = Pl.endR xs := fun s => by
    obtain ⟨xs, hx, _⟩ := Pl.recs_are s.length s (Nat.le_refl _)
    exact ⟨_, xs, hx, rfl⟩
  exact ⟨fun s => Classical.choose (h s), fun s => Classical.choose_spec (h s)⟩
theorem ends_nil {E : List UInt8 → Nat} (hE : ∀ s, ∃ xs, Pl.Recs s xs ∧ E s = Pl.endR xs) : E [] = 0 := by
  obtain ⟨xs, hx, he⟩ := hE []
  have := Pl.recs_end xs [] hx
  simp at this
  omega
set_option maxRecDepth 100000 in
set_option maxHeartbeats 1600000 in
theorem lawLogOk_any (L : List (List UInt8)) (hz : ∀ x ∈ L, x.length ≤ maxLen) (v : Value) (w : World) (ht : TextsAt w v L) (hG : Glob w) :
    Calls Tryz.prog 3 #[logV v] w fun e w' => e = .returned (.bool true) ∧ Below w.heap.size w w' := by
  have hb0 : Below w.heap.size w (w.alloc (.cells #[v] 24)) := (Below.refl _ _).alloc (Nat.le_refl _) _
  have hs := hide (szLog_any L v hz _ (ht.later hb0))
  have HT := hide ht
  have HG := hide hG
  clear hb0 ht hG hz
  go_enter Tryz.func3, Tryz.ntmps3
  go_wp2_with fail
  refine hs.out.mono ?_
  rintro e1 w1 ⟨⟨z, rfl, hz⟩, hB1⟩
  obtain ⟨bx, hBL, hlw⟩ := one_box hB1
  have HX := hide bx
  have HB := hide hBL
  clear hB1 bx hBL hs
  by_cases h0 : z < 0
  · go_wp2
    go_ret
    exact ⟨rfl, HB.out⟩
  · have hN : L.length ≤ 1048576 := by first | exact (hz (by omega)).1 | omega
    have hZ : ∀ x ∈ L, x.length ≤ 1048576 := by first | exact (hz (by omega)).2 | exact hz (by omega)
    obtain ⟨E, hE⟩ := ends_there
    have HE := hide hE
    have HZ := hide hZ
    have HSI := hide (Pl.log_same E (ends_nil hE) L)
    clear hz hE hZ
    have hto := hide (fun W (hW : Below w.heap.size w W) => toLog_any L hN v W (HT.out.later hW))
    have b0 := cell_of_block HX.out 0
    simp only [List.getElem?_toArray, List.getElem?_cons_zero] at b0
    go_wp2_with fail
    refine (hto.out _ HB.out).mono ?_
    rintro e2 w2 ⟨⟨g2, rfl, _, hT2⟩, hB2⟩
    have HT2 := hide hT2
    have HX2 := hide ((hB2.block _ hlw).trans HX.out)
    have HB2 := hide (HB.out.trans (hB2.mono HB.out.size))
    have hlw2 : w.heap.size < w2.heap.size := Nat.lt_of_lt_of_le hlw hB2.size
    have hso := hide (specLogOk_any E HE.out L hN HZ.out _ w2 hT2)
    clear hB2 hT2 b0 HX HB
    go_wp2_with fail
    refine hso.out.mono ?_
    rintro e3 w3 ⟨rfl, hB3⟩
    have HX3 := hide ((hB3.block _ hlw2).trans HX2.out)
    have HB3 := hide (HB2.out.trans (hB3.mono HB2.out.size))
    have hlw3 : w.heap.size < w3.heap.size := Nat.lt_of_lt_of_le hlw2 hB3.size
    have b3 := cell_of_block HX3.out 0
    simp only [List.getElem?_toArray, List.getElem?_cons_zero] at b3
    clear hB3 hso HX2 HB2 HT2
    rw [HSI.out]
    go_wp2_with fail
    refine (hto.out _ HB3.out).mono ?_
    rintro e4 w4 ⟨⟨g4, rfl, _, hT4⟩, hB4⟩
    have HT4 := hide hT4
    have HX4 := hide ((hB4.block _ hlw3).trans HX3.out)
    have HB4 := hide (HB3.out.trans (hB4.mono HB3.out.size))
    have hlw4 : w.heap.size < w4.heap.size := Nat.lt_of_lt_of_le hlw3 hB4.size
    clear hB4 b3 HX3 HB3
    have hb5 : ∀ O, Below w4.heap.size w4 (w4.alloc O) := fun O => (Below.refl _ _).alloc (Nat.le_refl _) _
    have him := hide (fun O => implLogOk_any E HE.out L HZ.out _ (w4.alloc O) (hT4.later (hb5 O)) (HG.out.later (HB4.out.trans ((hb5 O).mono HB4.out.size))))
    clear hT4 hb5
    go_wp2_with fail
    refine (him.out _).mono ?_
    rintro e5 w5 ⟨rfl, hB5⟩
    obtain ⟨bl, hB5, hl5⟩ := one_box hB5
    have HX5 := hide ((hB5.block _ hlw4).trans HX4.out)
    have HT5 := hide (HT4.out.later hB5)
    have HBl := hide bl
    have HB5 := hide (HB4.out.trans (hB5.mono HB4.out.size))
    have hlw5 : w.heap.size < w5.heap.size := Nat.lt_of_lt_of_le hlw4 hB5.size
    clear hB5 bl him HX4 HB4 HT4
    generalize Pl.logI E L = b at *
    have hbb : (b != b) = false := by cases b <;> rfl
    go_upto_region 10 with fail
    refine wp_region_noPanic ?_
    refine wp_region_held_drew (S := fun W => Below w5.heap.size w5 W) (by kernel_rfl) (below_drew' (Below.refl _ _)) (fun hHeld => ?_)
    refine wpAnyH_take (i := 0) (oi := Oper.mk (some 22) _ _ _ _ _) (v := ?_) rfl (by kernel_rfl) (by kernel_rfl) (by kernel_rfl) (fun _ _ _ h => h) (Or.inl ⟨by rfl, ?_⟩) (by assumption) ?_
    rotate_left
    · intro w0 hSw
      have z0 : w0.cell? ⟨w4.heap.size, 0, none⟩ = some ((.slice (some ⟨g4, 0, none⟩) L.length L.length) : Value) := (Below.cell hSw (p := ⟨w4.heap.size, 0, none⟩) hl5).trans (cell_of_block HBl.out 0)
      clear hSw
      go_simp
      all_goals (with_reducible rfl)
    simp only [Act.put, List.setIfInBounds_toArray, List.set_cons_zero, List.set_cons_succ]
    refine wpAnyH_take (i := 1) (oi := Oper.mk (some 23) _ _ _ _ _) (v := ?_) rfl (by kernel_rfl) (by kernel_rfl) (by kernel_rfl) (fun _ _ _ h => h) (Or.inl ⟨by rfl, ?_⟩) (by assumption) ?_
    rotate_left
    · intro w0 hSw
      have z0 : w0.cell? ⟨w.heap.size, 0, none⟩ = some (v : Value) := (Below.cell hSw (p := ⟨w.heap.size, 0, none⟩) hlw5).trans (cell_of_block HX5.out 0)
      clear hSw
      go_simp
      all_goals (with_reducible rfl)
    simp only [Act.put, List.setIfInBounds_toArray, List.set_cons_zero, List.set_cons_succ]
    refine wpAnyH_ready (rs := [2]) (by kernel_rfl) (by simp) ?_
    refine AllReadyH.cons (o := Oper.mk (some 24) _ _ _ _ _) rfl (fun K hK => ?_) AllReadyH.nil
    go_simp
    go_at_call 9
    refine (hto.out _ (HB5.out.trans (hHeld.mono HB5.out.size))).mono ?_
    rintro x0 w0 ⟨⟨g6, rfl, _, hT6⟩, hB0⟩
    have hHeld' := Below.trans hHeld (hB0.mono hHeld.size)
    have HT6 := hide hT6
    clear hT6
    clear hB0 hHeld
    go_wp2_with fail
    refine hK.out _ _ hHeld' (fun hHeld => ?_)
    clear hK K hHeld'
    (try simp only [Act.put, List.setIfInBounds_toArray, List.set_cons_zero, List.set_cons_succ])
    refine wpAnyH_ready (rs := [3]) (by kernel_rfl) (by simp) ?_
    refine AllReadyH.cons (o := Oper.mk (some 25) _ _ _ _ _) rfl (fun K hK => ?_) AllReadyH.nil
    go_simp
    go_at_call 11
    refine (eqLog_any L hN _ _ _ (HT5.out.later hHeld) HT6.out).mono ?_
    rintro x0 w0 ⟨rfl, hB0⟩
    have hHeld' := Below.trans hHeld (hB0.mono hHeld.size)
    clear hB0 hHeld
    go_wp2_with fail
    refine hK.out _ _ hHeld' (fun hHeld => ?_)
    clear hK K hHeld'
    (try simp only [Act.put, List.setIfInBounds_toArray, List.set_cons_zero, List.set_cons_succ])
    refine wpAnyH_take (i := 4) (oi := Oper.mk (some 26) _ _ _ _ _) (v := ?_) rfl (by kernel_rfl) (by kernel_rfl) (by kernel_rfl) (fun _ _ _ h => h) (Or.inl ⟨by rfl, ?_⟩) (by assumption) ?_
    rotate_left
    · intro w0 hSw
      clear hSw
      go_simp
      all_goals (with_reducible rfl)
    simp only [Act.put, List.setIfInBounds_toArray, List.set_cons_zero, List.set_cons_succ]
    refine wpAnyH_done (by kernel_rfl) ?_ _
    refine NoPanic.normal ?_
    have HF := hide (HB5.out.trans (hHeld.mono HB5.out.size))
    clear hHeld
    go_wp2
    go_ret
    exact ⟨rfl, HF.out⟩
end Go.Proofs.YtbckbfjnifafaaaGreatDoor

/- Joined: Lists ListsT BoxP LawPCa. -/
import Derived.Test.YtnikomgdcddchaaGreatJMk
import Derived.Deep.RegionWith
import Derived.Deep.QuietTactic
import Derived.BigQuiet
import Derived.Test.YtnikomgdcddchaaGreatTxAt
import Derived.Test.YtnikomgdcddchaaGreatLeaf
import Derived.Test.YtnikomgdcddchaaGreatJCal
/- Lists of texts: held against each other, marked, and asked whether the marks are held. -/
namespace Go.Proofs.YtnikomgdcddchaaGreat
open Go.RowKit
set_option linter.unusedVariables false

/-- the cells of a row of one-cell elements -/
theorem row_open {w : World} {base : Nat} {e : TypeId} {v : Value} {n : Nat} {xs : List Value} (h : w.ownsRow base e 1 v n xs) (hn : 0 < n) :
    ∃ g cap, v = .slice (some ⟨g, 0, none⟩) n cap ∧ base ≤ g ∧ g < w.heap.size ∧ (∀ i, i < n → w.cell? ⟨g, i, none⟩ = some (xs[i]?.getD undef)) ∧ (∀ i, w.frozen? ⟨g, i, none⟩ = false) := by
  obtain ⟨hl, h⟩ := h
  rcases h with ⟨_, h0⟩ | ⟨g, cap, cur, rfl, hb, hg, hnc, hm, hs, ht⟩
  · omega
  · have hlt : g < w.heap.size := (Array.getElem?_eq_some_iff.1 hg).1
    refine ⟨g, cap, rfl, hb, hlt, fun i hi => ?_, fun i => by simp [World.frozen?, hg]⟩
    have h1 : xs[i]? = cur[i]? := by
      rw [← ht, List.getElem?_take, if_pos (by omega)]; simp
    have h2 : i < cur.size := by omega
    rw [h1]
    simp [World.cell?, hg, h2]

/-- one element stored: the row with it -/
theorem row_set {w : World} {base : Nat} {e : TypeId} {g n cap : Nat} {xs : List Value} (h : w.ownsRow base e 1 (.slice (some ⟨g, 0, none⟩) n cap) n xs) (k : Nat) (hk : k < n) (u : Value) :
    (w.setCell ⟨g, k, none⟩ u).ownsRow base e 1 (.slice (some ⟨g, 0, none⟩) n cap) n (xs.set k u) := by
  obtain ⟨hl, h⟩ := h
  rcases h with ⟨h0, _⟩ | ⟨g', cap', cur, hv, hb, hg, hnc, hm, hs, ht⟩
  · cases h0
  · cases hv
    refine ⟨by simpa using hl, .inr ⟨g, cap, cur.setIfInBounds k u, rfl, hb, ?_, hnc, hm, by simpa using hs, ?_⟩⟩
    · simp [World.setCell, Array.getElem?_modify, hg]
    · rw [Array.toList_setIfInBounds, List.take_set, ht]

theorem getD_map (L : List (List UInt8)) (k : Nat) (h : k < L.length) : (L.map sv)[k]?.getD undef = sv (L[k]?.getD []) := by
  simp [List.getElem?_map, List.getElem?_eq_getElem h]

set_option maxHeartbeats 800000 in
theorem eqStringS_same (L : List (List UInt8)) (va vb : Value) (ba bb : Nat) (hL : L.length ≤ 2097152) (w : World) (ha : w.ownsRow ba 9 1 va L.length (L.map sv)) (hb : w.ownsRow bb 9 1 vb L.length (L.map sv)) :
    Calls Tryz.prog 9 #[va, vb] w fun e w' => e = .returned (.bool true) ∧ Below w.heap.size w w' := by
  by_cases hn : 0 < L.length
  · obtain ⟨ga, ca, rfl, _, hga, hca, _⟩ := row_open ha hn
    obtain ⟨gb, cb, rfl, _, hgb, hcb, _⟩ := row_open hb hn
    clear ha hb
    have HCA := hide hca
    have HCB := hide hcb
    clear hca hcb
    generalize hN : L.length = N at *
    have HN := hide hN
    clear hN
    go_enter Tryz.func9, Tryz.ntmps9
    go_wp2
    go_loopw [5] (fun i wr => ∃ k : Nat, k ≤ N ∧ i = .int .i64 k ∧ Below w.heap.size w wr) (fun i _ => N - (intOf i).toNat)
    case atStart => exact ⟨0, by omega, rfl, Below.refl _ _⟩
    case round =>
      obtain ⟨k, hk, rfl, hB⟩ := hrel
      by_cases hlt : k < N
      · have c1 : wr.cell? ⟨ga, k, none⟩ = some (sv (L[k]?.getD [])) := by
          rw [hB.cell (p := ⟨ga, k, none⟩) hga, HCA.out k hlt, getD_map L k (by rw [HN.out]; exact hlt)]
        have c2 : wr.cell? ⟨gb, k, none⟩ = some (sv (L[k]?.getD [])) := by
          rw [hB.cell (p := ⟨gb, k, none⟩) hgb, HCB.out k hlt, getD_map L k (by rw [HN.out]; exact hlt)]
        generalize L[k]?.getD [] = X at c1 c2
        have hki : (k : Int) < (N : Int) := by omega
        go_wp2
        go_quiet (fail)
        go_wp2
        go_roundw
        case rel => exact ⟨k + 1, by omega, by go_num, below_drewN hB _⟩
        case measure => simp [intOf]; omega
      · go_wp2
        go_ret
        exact ⟨rfl, hB⟩
  · have h0 : L.length = 0 := by omega
    rw [h0] at ha hb
    obtain ⟨aa, ca, rfl⟩ := ownsRow_form ha
    obtain ⟨ab, cb, rfl⟩ := ownsRow_form hb
    clear ha hb
    go_enter Tryz.func9, Tryz.ntmps9
    go_wp2
    go_loop [5] (fun i => i = .int .i64 0) (fun i => 0)
    case atStart => rfl
    case round =>
      subst hrel
      go_wp2
      go_ret
      exact ⟨rfl, Below.refl _ _⟩

/-- the first i elements marked from 1 on -/
def marks (i : Nat) (xs : List Value) : List Value := (List.range i).map (fun j => sv (Pl.mark (1 + j))) ++ xs.drop i
theorem marks_zero (xs : List Value) : marks 0 xs = xs := by simp [marks]
theorem marks_succ (i : Nat) (xs : List Value) (h : i < xs.length) : (marks i xs).set i (sv (Pl.mark (1 + i))) = marks (i + 1) xs := by
  unfold marks
  rw [List.range_succ, List.map_append, List.set_append_right _ _ (by simp)]
  simp only [List.length_map, List.length_range, Nat.sub_self, List.map_cons, List.map_nil, List.append_assoc, List.singleton_append]
  rw [List.drop_eq_getElem_cons h, List.set_cons_zero]
theorem marks_all (xs : List Value) : marks xs.length xs = (List.range xs.length).map (fun j => sv (Pl.mark (1 + j))) := by simp [marks]
theorem marks_at (n k : Nat) (h : k < n) : ((List.range n).map (fun j => sv (Pl.mark (1 + j))))[k]?.getD undef = sv (Pl.mark (1 + k)) := by
  simp [List.getElem?_map, List.getElem?_range h]

set_option maxHeartbeats 800000 in
theorem markStringS_any (base n : Nat) (xs : List Value) (v : Value) (hn2 : n ≤ 2097152) (w : World) (hown : w.ownsRow base 9 1 v n xs) :
    Calls Tryz.prog 12 #[v, .int .i64 1] w fun e w' => e = .returned (.int .i64 (1 + n)) ∧ w'.ownsRow base 9 1 v n ((List.range n).map (fun j => sv (Pl.mark (1 + j)))) ∧ Below (min base w.heap.size) w w' := by
  have hxl : xs.length = n := by have := hown.1; omega
  by_cases hn : 0 < n
  · obtain ⟨g, cap, rfl, hbg, hg, _, _⟩ := row_open hown hn
    have HXL := hide hxl
    clear hxl
    have HO := hide hown
    clear hown
    go_enter Tryz.func12, Tryz.ntmps12
    go_wp2_with fail
    go_loopw [1, 5] (fun kv i wr => ∃ k : Nat, k ≤ n ∧ i = .int .i64 k ∧ kv = .int .i64 (1 + k) ∧ Hid (wr.ownsRow base 9 1 (.slice (some ⟨g, 0, none⟩) n cap) n (marks k xs)) ∧ Below (min base w.heap.size) w wr ∧ w.heap.size ≤ wr.heap.size) (fun _ i _ => n - (intOf i).toNat)
    case atStart => exact ⟨0, by omega, rfl, by simp, by rw [marks_zero]; exact HO, Below.refl _ _, Nat.le_refl _⟩
    case round =>
      obtain ⟨k, hk, rfl, rfl, HR, hB, hsz⟩ := hrel
      by_cases hlt : k < n
      · have hki : (k : Int) < (n : Int) := by omega
        have hmt := hide (markText_any (1 + k) (by omega) (by omega))
        go_wp2_with fail
        rw [show ((1 : Int) + (k : Int)) = ((1 + k : Nat) : Int) from by omega]
        refine (hmt.out _).mono ?_
        rintro e w1 ⟨rfl, hB1⟩
        have hr1 := ownsRow_later HR.out hB1
        obtain ⟨g', cap', hv', _, hg1, hc1, hf1⟩ := row_open hr1 hn
        cases hv'
        have hc := hc1 k hlt
        have hf := hf1 k
        have HR1 := hide hr1
        clear hc1 hf1 hr1
        go_wp2
        go_roundw
        case rel =>
          refine ⟨k + 1, by omega, by go_num, by go_num, ?_, ?_, ?_⟩
          · have := row_set HR1.out k hlt (sv (Pl.mark (1 + k)))
            rw [marks_succ k xs (by rw [HXL.out]; exact hlt)] at this
            exact this
          · exact (hB.trans (hB1.mono (by omega))).setCell (p := ⟨g, k, none⟩) (by show min base w.heap.size ≤ g; omega) _
          · have := hB1.size
            simp; omega
        case measure => simp [intOf]; omega
      · have hkn : k = n := by omega
        go_wp2
        go_ret
        refine ⟨by rw [hkn]; rfl, ?_, hB⟩
        have h1 := HR.out
        rw [hkn, ← HXL.out, marks_all, HXL.out] at h1
        exact h1
  · have h0 : n = 0 := by omega
    subst h0
    obtain ⟨a, c, rfl⟩ := ownsRow_form hown
    have hxn : xs = [] := List.eq_nil_of_length_eq_zero hxl
    have HO := hide hown
    clear hown hxl
    go_enter Tryz.func12, Tryz.ntmps12
    go_wp2_with fail
    go_loop [1, 5] (fun kv i => kv = .int .i64 1 ∧ i = .int .i64 0) (fun _ i => 0)
    case atStart => exact ⟨rfl, rfl⟩
    case round =>
      obtain ⟨rfl, rfl⟩ := hrel
      go_wp2
      go_ret
      exact ⟨by simp, by have h1 := HO.out; rw [hxn] at h1; exact h1, Below.refl _ _⟩

set_option maxHeartbeats 800000 in
theorem heldStringS_any (base n : Nat) (v : Value) (hn2 : n ≤ 2097152) (w : World) (hown : w.ownsRow base 9 1 v n ((List.range n).map (fun j => sv (Pl.mark (1 + j))))) :
    Calls Tryz.prog 13 #[v, .int .i64 1] w fun e w' => e = .returned (.int .i64 (1 + n)) ∧ Below w.heap.size w w' := by
  by_cases hn : 0 < n
  · obtain ⟨g, cap, rfl, hbg, hg, hcells, _⟩ := row_open hown hn
    clear hown
    have HC := hide hcells
    clear hcells
    go_enter Tryz.func13, Tryz.ntmps13
    go_wp2_with fail
    go_loopw [1, 5] (fun kv i wr => ∃ k : Nat, k ≤ n ∧ i = .int .i64 k ∧ kv = .int .i64 (1 + k) ∧ Below w.heap.size w wr) (fun _ i _ => n - (intOf i).toNat)
    case atStart => exact ⟨0, by omega, rfl, by simp, Below.refl _ _⟩
    case round =>
      obtain ⟨k, hk, rfl, rfl, hB⟩ := hrel
      by_cases hlt : k < n
      · have hki : (k : Int) < (n : Int) := by omega
        have hc : wr.cell? ⟨g, k, none⟩ = some (sv (Pl.mark (1 + k))) := by
          rw [hB.cell (p := ⟨g, k, none⟩) hg, HC.out k hlt, marks_at n k hlt]
        have hgr : g < wr.heap.size := by have := hB.size; omega
        have hmt := hide (markText_any (1 + k) (by omega) (by omega))
        generalize Pl.mark (1 + k) = X at hmt hc
        rw [show ((1 + k : Nat) : Int) = (1 : Int) + (k : Int) from by omega] at hmt
        go_wp2_with fail
        go_region_with (go_at_call 31; refine (hmt.out _).mono ?_; rintro e w1 ⟨rfl, hB1⟩; have hc1 : w1.cell? ⟨g, k, none⟩ = some (sv X) := (hB1.cell (p := ⟨g, k, none⟩) hgr).trans hc)
        all_goals
          go_wp2
          go_roundw
          case rel => exact ⟨k + 1, by omega, by go_num, by go_num, hB.drew.trans (hB1.mono hB.size)⟩
          case measure => simp [intOf]; omega
      · have hkn : k = n := by omega
        go_wp2
        go_ret
        exact ⟨by rw [hkn]; rfl, hB⟩
  · have h0 : n = 0 := by omega
    subst h0
    obtain ⟨a, c, rfl⟩ := ownsRow_form hown
    clear hown
    go_enter Tryz.func13, Tryz.ntmps13
    go_wp2_with fail
    go_loop [1, 5] (fun kv i => kv = .int .i64 1 ∧ i = .int .i64 0) (fun _ i => 0)
    case atStart => exact ⟨rfl, rfl⟩
    case round =>
      obtain ⟨rfl, rfl⟩ := hrel
      go_wp2
      go_ret
      exact ⟨by simp, Below.refl _ _⟩
end Go.Proofs.YtnikomgdcddchaaGreat

/- Two lists of texts, wherever they lie, held against each other, as the exact laws do it. -/
namespace Go.Proofs.YtnikomgdcddchaaGreat
open Go.RowKit
set_option linter.unusedVariables false
set_option maxHeartbeats 800000 in
theorem eqStringS_texts (L : List (List UInt8)) (va vb : Value) (hL : L.length ≤ 4194304) (w : World) (ha : TextsAt w va L) (hb : TextsAt w vb L) :
    Calls Tryz.prog 9 #[va, vb] w fun e w' => e = .returned (.bool true) ∧ Below w.heap.size w w' := by
  obtain ⟨aa, ca, rfl, _, _, hca, _⟩ := ha
  obtain ⟨ab, cb, rfl, _, _, hcb, _⟩ := hb
  by_cases hn : 0 < L.length
  · obtain ⟨ga, oa, rfl, hga, hca⟩ := hca hn
    obtain ⟨gb, ob, rfl, hgb, hcb⟩ := hcb hn
    have HCA := hide hca
    have HCB := hide hcb
    clear hca hcb
    generalize hN : L.length = N at *
    clear hN
    go_enter Tryz.func9, Tryz.ntmps9
    go_wp2
    go_loopw [5] (fun i wr => ∃ k : Nat, k ≤ N ∧ i = .int .i64 k ∧ Below w.heap.size w wr) (fun i _ => N - (intOf i).toNat)
    case atStart => exact ⟨0, by omega, rfl, Below.refl _ _⟩
    case round =>
      obtain ⟨k, hk, rfl, hB⟩ := hrel
      by_cases hlt : k < N
      · have c1 : wr.cell? ⟨ga, oa + k, none⟩ = some (sv (L[k]?.getD [])) := by
          rw [hB.cell (p := ⟨ga, oa + k, none⟩) hga, HCA.out k hlt]
        have c2 : wr.cell? ⟨gb, ob + k, none⟩ = some (sv (L[k]?.getD [])) := by
          rw [hB.cell (p := ⟨gb, ob + k, none⟩) hgb, HCB.out k hlt]
        generalize L[k]?.getD [] = X at c1 c2
        have hki : (k : Int) < (N : Int) := by omega
        go_wp2
        go_quiet (fail)
        go_wp2
        go_roundw
        case rel => exact ⟨k + 1, by omega, by go_num, below_drewN hB _⟩
        case measure => simp [intOf]; omega
      · go_wp2
        go_ret
        exact ⟨rfl, hB⟩
  · have h0 : L.length = 0 := by omega
    rw [h0]
    clear hca hcb
    go_enter Tryz.func9, Tryz.ntmps9
    go_wp2
    go_loop [5] (fun i => i = .int .i64 0) (fun i => 0)
    case atStart => rfl
    case round =>
      subst hrel
      go_wp2
      go_ret
      exact ⟨rfl, Below.refl _ _⟩
end Go.Proofs.YtnikomgdcddchaaGreat

/- A boxed program. -/
namespace Go.Proofs.YtnikomgdcddchaaGreat
open Go.RowKit
set_option linter.unusedVariables false
/-- the two cells of a boxed program, later too -/
def Box2 (b : Nat) (nm : ByteArray) (v : Value) (W : World) : Prop := b < W.heap.size ∧ W.cell? ⟨b, 0, none⟩ = some (.string nm) ∧ W.cell? ⟨b, 1, none⟩ = some v
theorem Box2.mk {nm : ByteArray} {v : Value} {T : TypeId} (w : World) : Box2 w.heap.size nm v (w.alloc (.cells #[.string nm, v] T)) := by
  refine ⟨by simp, ?_, ?_⟩ <;> simp
theorem Box2.later {b : Nat} {nm : ByteArray} {v : Value} {W W1 : World} (h : Box2 b nm v W) (hB : Below W.heap.size W W1) : Box2 b nm v W1 := by
  obtain ⟨hb, h0, h1⟩ := h
  have C : ∀ o, W1.cell? ⟨b, o, none⟩ = W.cell? ⟨b, o, none⟩ := fun o => hB.cell (p := ⟨b, o, none⟩) hb
  exact ⟨by have := hB.size; omega, (C _).trans h0, (C _).trans h1⟩
theorem Box2.low {b B : Nat} {nm : ByteArray} {v : Value} {W W1 : World} (h : Box2 b nm v W) (hB : Below B W W1) (hb : b < B) : Box2 b nm v W1 := by
  obtain ⟨hb0, h0, h1⟩ := h
  have C : ∀ o, W1.cell? ⟨b, o, none⟩ = W.cell? ⟨b, o, none⟩ := fun o => hB.cell (p := ⟨b, o, none⟩) hb
  exact ⟨by have := hB.size; omega, (C _).trans h0, (C _).trans h1⟩
end Go.Proofs.YtnikomgdcddchaaGreat

/- The law on ProgCalls, walked. -/
namespace Go.Proofs.YtnikomgdcddchaaGreat
open Go.RowKit
set_option linter.unusedVariables false

set_option maxHeartbeats 800000 in
theorem markProg_any (nm : ByteArray) (F : Ps) (lo hi : Nat) (v : Value) (w : World) (hs : PSkRow lo hi w F v) (hhw : hi ≤ w.heap.size) (hb : F.wt ≤ 1048576) :
    Calls Tryz.prog 11 #[.agg #[.string nm, v], .int .i64 1] w fun e w' => ∃ q : Nat, e = .returned (.int .i64 q) ∧ Kpt lo hi w w' := by
  have hA : Below w.heap.size w (w.alloc (.cells #[.string nm, v] 30)) := (Below.refl _ _).alloc (Nat.le_refl _) _
  have hq := hide (markStepS_any F lo hi v _ 1 (hs.later hA hhw) (by have := hA.size; omega) (by omega) (by omega))
  have HA := hide (kpt_of_below hA hhw hs.le)
  obtain ⟨ad, cap, rfl, _⟩ := hs
  clear hA
  generalize F.wt = fn at *
  generalize F.len = fl at *
  go_enter Tryz.func11, Tryz.ntmps11
  go_wp2_with fail
  refine hq.out.mono ?_
  rintro e w1 ⟨q, rfl, _, _, hK⟩
  go_wp2
  go_ret
  exact ⟨q, rfl, HA.out.trans hK⟩
theorem own_kpt {lo hi base : Nat} {W W' : World} {e : TypeId} {v : Value} {n : Nat} {xs : List Value} (h : W.ownsRow base e 1 v n xs) (hK : Kpt lo hi W W') (hb : hi ≤ base) : W'.ownsRow base e 1 v n xs := by
  refine ⟨h.1, ?_⟩
  rcases h.2 with hn | ⟨g, cap, cur, rfl, hg, hgg, rest⟩
  · exact .inl hn
  · have hlt : g < W.heap.size := (Array.getElem?_eq_some_iff.1 hgg).1
    exact .inr ⟨g, cap, cur, rfl, hg, (hK.2 g (by omega) hlt).trans hgg, rest⟩

set_option maxHeartbeats 3200000 in
theorem lawProgCalls (nm : ByteArray) (F : Ps) (v : Value) (w : World) (hn : nm.size ≤ maxLen) (hwf : F.Wf) (hr : PRow 0 w F v) :
    Calls Tryz.prog 3 #[.agg #[.string nm, v]] w fun e w' => e = .returned (.bool true) ∧ Below w.heap.size w w' := by
  have hsz : Hid (∀ W, Below w.heap.size w W → Calls Tryz.prog 5 #[.agg #[.string nm, v], .int .i64 1048576] W (PSzPost F 1048576 W)) := fun W hW => szProg_any nm F hn hwf v W (hr.later hW)
  have hto : Hid (F.len ≤ 1048576 → F.Sm → ∀ W, Below w.heap.size w W → Calls Tryz.prog 7 #[.agg #[.string nm, v]] W (PrPostK nm F W)) := fun h1 h2 W hW => toProg_k nm F h1 h2 v W (hr.later hW)
  have hs1 : Hid (F.len ≤ 1048576 → F.Sm → F.nodes ≤ 1048576 → ∀ W u, PRow 0 W F u → Calls Tryz.prog 6 #[.agg #[.string nm, u]] W fun e w' => ∃ v', e = .returned v' ∧ TextsAt w' v' (Pl.callsP nm F) ∧ Below W.heap.size W w') := fun h1 h2 h3 W u hu => specProgCalls_any nm F u W hn hwf h1 h2 h3 hu
  have hs2 : Hid (F.len ≤ 1048576 → F.Sm → F.nodes ≤ 1048576 → ∀ W u, PRow 0 W F u → Calls Tryz.prog 8 #[.agg #[.string nm, u]] W fun e w' => ∃ v', e = .returned v' ∧ w'.ownsRow W.heap.size 9 1 v' (Pl.callsP nm F).length ((Pl.callsP nm F).map sv) ∧ Below W.heap.size W w') := fun h1 h2 h3 W u hu => implProgCalls_any nm F u W hn hwf h1 h2 h3 hu
  have heq : Hid (F.len ≤ 1048576 → F.Sm → ∀ W u t, PRow 0 W F u → PRow 0 W F t → Calls Tryz.prog 10 #[.agg #[.string nm, u], .agg #[.string nm, t]] W fun e w' => e = .returned (.bool true) ∧ Below W.heap.size W w') := fun h1 h2 W u t hu hv => eqProg_any nm F h1 h2 u t W hu hv
  have hmk : Hid (F.wt ≤ 1048576 → ∀ lo hi u W, PSkRow lo hi W F u → hi ≤ W.heap.size → Calls Tryz.prog 11 #[.agg #[.string nm, u], .int .i64 1] W fun e w' => ∃ q : Nat, e = .returned (.int .i64 q) ∧ Kpt lo hi W w') := fun h1 lo hi u W h2 h3 => markProg_any nm F lo hi u W h2 h3 h1
  have hLl0 : F.nodes ≤ 1048576 → (Pl.callsP nm F).length ≤ 2097152 := fun h => by have := Pl.callsP_len nm F h; omega
  generalize Pl.callsP nm F = L at hs1 hs2 hLl0
  clear hn hwf hr
  go_enter Tryz.func3, Tryz.ntmps3
  go_wp2_with fail
  refine (hsz.out _ ((Below.refl _ _).alloc (Nat.le_refl _) _)).mono ?_
  rintro e w1 ⟨r, rfl, hr0, hr1, hr2, hB1⟩
  have HBox := hide ((Box2.mk (nm := nm) (v := v) (T := 24) w).later hB1)
  have HB1 : Hid (Below w.heap.size w w1) := ((Below.refl _ _).alloc (Nat.le_refl _) _).trans (hB1.mono (by simp))
  clear hB1 hsz
  by_cases hneg : r < 0
  · go_wp2
    go_ret
    exact ⟨rfl, HB1.out⟩
  · obtain ⟨hl, hsm, hnod⟩ := hr2 (by omega)
    have hnod' : F.nodes ≤ 1048576 := by omega
    have HTO := hide (hto.out hl hsm)
    have HS1 := hide (hs1.out hl hsm hnod')
    have HS2 := hide (hs2.out hl hsm hnod')
    have HEQ := hide (heq.out hl hsm)
    have HMK := hide (hmk.out (by omega))
    have hLl := hLl0 hnod'
    clear hto hs1 hs2 heq hmk hsm hl hr2 hnod hLl0 hnod'
    obtain ⟨_, b0, b1⟩ := HBox.out
    go_wp2_with fail
    refine (HTO.out _ HB1.out).mono ?_
    rintro e w2 ⟨u1, rfl, hu1, _, hB2⟩
    have HU1 := hide (hu1.low (Nat.zero_le _))
    have HBox2 := hide (HBox.out.later hB2)
    have HB2 : Hid (Below w.heap.size w w2) := HB1.out.trans (hB2.mono HB1.out.size)
    clear hu1 hB2 b0 b1 HBox HB1
    go_wp2_with fail
    refine (HS1.out _ _ HU1.out).mono ?_
    rintro e w3 ⟨vw, rfl, hvw, hB3⟩
    have HVW := hide hvw
    have HBox3 := hide (HBox2.out.later hB3)
    have HB3 : Hid (Below w.heap.size w w3) := HB2.out.trans (hB3.mono HB2.out.size)
    have hw3 := hide HBox3.out.1
    have HBw3 : Hid (Below w.heap.size w w3) := HB3
    clear hB3 HBox2 HB2 HU1 HS1 hvw
    obtain ⟨aw, cw, rfl, _⟩ := HVW.out
    obtain ⟨_, b0, b1⟩ := HBox3.out
    go_wp2_with fail
    refine (HTO.out _ HB3.out).mono ?_
    rintro e w4 ⟨u2, rfl, hu2, hsk2, hB4⟩
    have HU2 := hide (hu2.low (Nat.zero_le _))
    have HSK := hide hsk2
    have H34 := hide hB4
    have HBox4 := hide (HBox3.out.later hB4)
    have HB4 : Hid (Below w.heap.size w w4) := HB3.out.trans (hB4.mono HB3.out.size)
    obtain ⟨ad2, cap2, rfl, _, _, _⟩ := hu2
    clear hB4 b0 b1 HBox3 HB3 hsk2
    generalize F.len = kl at *
    have HX := hide (Box2.mk (nm := nm) (v := .slice ad2 kl cap2) (T := 30) w4)
    have hA4 : Hid (Below w4.heap.size w4 (w4.alloc (.cells #[.string nm, .slice ad2 kl cap2] 30))) := (Below.refl _ _).alloc (Nat.le_refl _) _
    go_wp2_with fail
    refine (HS2.out _ _ (HU2.out.later hA4.out)).mono ?_
    rintro e w5 ⟨vg, rfl, hvg, hB5⟩
    have H45 : Hid (Below w4.heap.size w4 w5) := hA4.out.trans (hB5.mono (by simp))
    have HVG := hide (ownsRow_base hvg (base' := w4.heap.size) (by simp))
    have HX5 := hide (HX.out.later hB5)
    have HBox5 := hide (HBox4.out.later H45.out)
    have HU5 := hide (HU2.out.later H45.out)
    have HB5 : Hid (Below w.heap.size w w5) := HB4.out.trans (H45.out.mono HB4.out.size)
    clear hB5 HBox4 HX hA4 HU2 hvg
    obtain ⟨ag, cg, rfl⟩ := ownsRow_form HVG.out
    have HVW5 := hide ((HVW.out.later H34.out).later H45.out)
    go_wp2_with fail
    refine (eqStringS_texts L _ _ (by omega) _ (texts_of_row HVG.out) HVW5.out).mono ?_
    rintro e w6 ⟨rfl, hB6⟩
    have H46 : Hid (Below w4.heap.size w4 w6) := H45.out.trans (hB6.mono H45.out.size)
    have HVG6 := hide (ownsRow_later HVG.out hB6)
    have HX6 := hide (HX5.out.later hB6)
    have HBox6 := hide (HBox5.out.later hB6)
    have HU6 := hide (HU5.out.later hB6)
    have HB6 : Hid (Below w.heap.size w w6) := HB5.out.trans (hB6.mono HB5.out.size)
    clear hB6 HVG HX5 HBox5 HU5 HB5 HVW5 H45
    obtain ⟨_, b0, b1⟩ := HBox6.out
    obtain ⟨_, x0, x1⟩ := HX6.out
    go_wp2_with fail
    go_region_with (first | (go_at_call 7; refine (HTO.out _ HB6.out.drew).mono ?_; rintro e w7 ⟨u3, rfl, hu3, _, hB7⟩; have hB67 : Hid (Below w6.heap.size w6 w7) := (Below.refl _ _).drew.trans hB7; have HU3 := hide (hu3.low (Nat.zero_le _)); have HU7 := hide (HU6.out.later hB67.out); obtain ⟨_, y0, y1⟩ := HX6.out.later hB67.out; clear hu3 hB7) | (go_at_call 10; refine (HEQ.out _ _ _ HU7.out HU3.out).mono ?_; rintro e w8 ⟨rfl, hB8⟩))
    all_goals
      have H68 : Hid (Below w6.heap.size w6 w8) := hB67.out.trans (hB8.mono hB67.out.size)
      have H48 : Hid (Below w4.heap.size w4 w8) := H46.out.trans (H68.out.mono H46.out.size)
      have HVG8 := hide (ownsRow_later HVG6.out H68.out)
      have HX8 := hide (HX6.out.later H68.out)
      have HBox8 := hide (HBox6.out.later H68.out)
      have HB8 : Hid (Below w.heap.size w w8) := HB6.out.trans (H68.out.mono HB6.out.size)
      have HVW8 := hide ((HVW.out.later H34.out).later H48.out)
      have HSK8 := hide (HSK.out.later H48.out (Nat.le_refl _))
      have h38 : Hid (Below w3.heap.size w3 w8) := H34.out.trans (H48.out.mono H34.out.size)
      clear y0 y1 b0 b1 x0 x1 HU7 HU3 hB8 hB67 HU6 HX6 HBox6 HVG6 HB6 H68 H46 HEQ HSK
      obtain ⟨_, b0, b1⟩ := HBox8.out
      obtain ⟨_, x0, x1⟩ := HX8.out
      go_wp2_with fail
      refine (HMK.out _ _ _ _ HSK8.out H48.out.size).mono ?_
      rintro e w9 ⟨qk, rfl, hK9⟩
      have H89 : Hid (Below w3.heap.size w8 w9) := hK9.1
      have HVG9 := hide (own_kpt HVG8.out hK9 (Nat.le_refl _))
      have h39 : Hid (Below w3.heap.size w3 w9) := h38.out.trans hK9.1
      have HVW9 := hide (HVW.out.later h39.out)
      have HBox9 := hide (HBox8.out.low hK9.1 hw3.out)
      have hs9 : Hid (w4.heap.size ≤ w9.heap.size) := by
        show _ ≤ _
        have := H48.out.size; have := hK9.1.size; omega
      have h34 := hide H34.out.size
      clear hK9 HVG8 HVW8 HBox8 HX8 HSK8 HMK H48 h38 H34 x0 x1 b0 b1 H89
      have hkn : ((qk : Nat) : Int) < 0 ↔ False := by
        constructor
        · intro h; omega
        · intro h; exact h.elim
      go_wp2_with fail
      refine (eqStringS_texts L _ _ (by omega) _ (texts_of_row HVG9.out) HVW9.out).mono ?_
      rintro e w10 ⟨rfl, hB10⟩
      have HVG10 := hide (ownsRow_later HVG9.out hB10)
      have h310 : Hid (Below w3.heap.size w3 w10) := h39.out.trans (hB10.mono h39.out.size)
      have HBox10 := hide (HBox9.out.later hB10)
      have hs10 : Hid (w4.heap.size ≤ w10.heap.size) := by
        show _ ≤ _
        have := hs9.out; have := hB10.size; omega
      clear hB10 HVG9 HBox9 HVW9 h39 hs9 hkn
      go_wp2_with fail
      refine (markStringS_any w4.heap.size L.length _ _ hLl _ HVG10.out).mono ?_
      rintro e w11 ⟨rfl, r11, hB11⟩
      have HVG11 := hide r11
      have h311 : Hid (Below w3.heap.size w3 w11) := h310.out.trans (hB11.mono (by have := hs10.out; have := h34.out; omega))
      have HBox11 := hide (HBox10.out.low (hB11.mono (B' := w3.heap.size) (by have := hs10.out; have := h34.out; omega)) hw3.out)
      have HB11 : Hid (Below w.heap.size w w11) := HBw3.out.trans (h311.out.mono HBw3.out.size)
      clear r11 hB11 HVG10 HBox10 h310
      go_wp2_with fail
      refine (heldStringS_any w4.heap.size L.length _ hLl _ HVG11.out).mono ?_
      rintro e w12 ⟨rfl, hB12⟩
      have HVG12 := hide (ownsRow_later HVG11.out hB12)
      have h312 : Hid (Below w3.heap.size w3 w12) := h311.out.trans (hB12.mono h311.out.size)
      have HBox12 := hide (HBox11.out.later hB12)
      have HB12 : Hid (Below w.heap.size w w12) := HB11.out.trans (hB12.mono HB11.out.size)
      clear hB12 HVG11 HBox11 h311 HB11
      obtain ⟨_, b0, b1⟩ := HBox12.out
      go_wp2_with fail
      refine (HTO.out _ HB12.out).mono ?_
      rintro e w13 ⟨u13, rfl, hu13, _, hB13⟩
      have HU13 := hide (hu13.low (Nat.zero_le _))
      have HVG13 := hide (ownsRow_later HVG12.out hB13)
      have h313 : Hid (Below w3.heap.size w3 w13) := h312.out.trans (hB13.mono h312.out.size)
      have HB13 : Hid (Below w.heap.size w w13) := HB12.out.trans (hB13.mono HB12.out.size)
      clear hB13 HVG12 HBox12 h312 HB12 hu13 b0 b1
      go_wp2_with fail
      refine (HS2.out _ _ HU13.out).mono ?_
      rintro e w14 ⟨vh, rfl, hvh, hB14⟩
      have HVH := hide (texts_of_row hvh)
      obtain ⟨ah, ch, rfl⟩ := ownsRow_form hvh
      have HVG14 := hide (ownsRow_later HVG13.out hB14)
      have h314 : Hid (Below w3.heap.size w3 w14) := h313.out.trans (hB14.mono h313.out.size)
      have HB14 : Hid (Below w.heap.size w w14) := HB13.out.trans (hB14.mono HB13.out.size)
      have HVW14 := hide (HVW.out.later h314.out)
      clear hB14 HVG13 h313 HB13 hvh HU13
      go_wp2_with fail
      refine (eqStringS_texts L _ _ (by omega) _ HVH.out HVW14.out).mono ?_
      rintro e w15 ⟨rfl, hB15⟩
      have HVG15 := hide (ownsRow_later HVG14.out hB15)
      have HB15 : Hid (Below w.heap.size w w15) := HB14.out.trans (hB15.mono HB14.out.size)
      clear hB15 HVG14 HB14 HVW14 HVH h314
      go_wp2_with fail
      refine (heldStringS_any w4.heap.size L.length _ hLl _ HVG15.out).mono ?_
      rintro e w16 ⟨rfl, hB16⟩
      go_wp2
      go_ret
      exact ⟨rfl, HB15.out.trans (hB16.mono HB15.out.size)⟩
end Go.Proofs.YtnikomgdcddchaaGreat

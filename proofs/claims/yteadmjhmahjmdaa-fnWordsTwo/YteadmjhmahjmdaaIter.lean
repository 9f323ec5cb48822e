/- The words of a text, told one by one: the iterator. -/
import Derived.Test.YteadmjhmahjmdaaPass
import Derived.RangeFuncNested
import Derived.RangeFuncBound
import Derived.RangeFuncCalls
import Derived.RangeFuncLeaves
import Derived.Shelf.Abstract
import Derived.OwnWalkIn
import Derived.TacticsInMore
import Derived.RegionIn
import Derived.LoopNIn
import Derived.LoopIn
import Derived.Sort.QuietIn
import Derived.Sort.BigQuietIn
import Derived.Test.YteadmjhmahjmdaaWords1
namespace Go.Proofs.Yteadmjhmahjmdaa
open Go.RowKit Go.Shelf
set_option linter.unusedVariables false
attribute [local go_sem] Oper.semAt_some

/-- how much of the text is left in the iterator's box -/
def leftIn (Bt : Nat) (W : World) : Nat := match W.cell? ⟨Bt, 0, none⟩ with | some (.string t) => t.size | _ => 0
theorem leftIn_eq {Bt : Nat} {W : World} {t : ByteArray} (h : W.cell? ⟨Bt, 0, none⟩ = some (.string t)) : leftIn Bt W = t.size := by simp [leftIn, h]

/-- a box that holds one text -/
abbrev boxT (W : World) (Bt : Nat) (t : ByteArray) : Prop := W.heap[Bt]? = some (.cells #[.string t] 9 (0, 0))
theorem boxT_cell {W : World} {Bt : Nat} {t : ByteArray} (h : boxT W Bt t) : W.cell? ⟨Bt, 0, none⟩ = some (.string t) := by simp [World.cell?, h]
theorem boxT_free {W : World} {Bt : Nat} {t : ByteArray} (h : boxT W Bt t) : W.frozen? ⟨Bt, 0, none⟩ = false := by simp [World.frozen?, h]
theorem boxT_set {W : World} {Bt : Nat} {t u : ByteArray} (h : boxT W Bt t) : boxT (W.setCell ⟨Bt, 0, none⟩ (.string u)) Bt u := by
  unfold boxT at *
  simp [World.setCell, Array.getElem?_modify, h]

set_option maxRecDepth 100000 in
set_option maxHeartbeats 1600000 in
theorem iter_in (n : Nat) (hn : 2 ≤ n) (l Bt : Nat) (s : ByteArray) (hs : s.size ≤ 2097152) (J : List (List UInt8) → World → Prop) (Jx : World → Prop)
    (hJ : ∀ pre W v, J pre W → J pre (W.setCell ⟨Bt, 0, none⟩ v)) (hJd : ∀ pre W k, J pre W → J pre (World.drewN W k))
    (hY1 : ∀ pre x W, x ≠ [] → pre.length < s.size → x.length ≤ s.size → J pre W → YieldAt Fence.wide (n - 1) Try.prog l #[sv x] W fun e W' => e = .returned (.bool true) ∧ J (pre ++ [x]) W' ∧ W'.heap[Bt]? = W.heap[Bt]?)
    (hY0 : ∀ pre W, J pre W → YieldAt Fence.wide (n - 1) Try.prog l #[sv []] W fun e W' => e = .returned (.bool false) ∧ Jx W')
    (W : World) (hB : boxT W Bt s) (h0 : J [] W) :
    CallsIn Fence.wide n Try.prog 23 #[.func (.yield l) #[] #[], .pointer (some ⟨Bt, 0, none⟩)] W fun e W' => (∃ v, e = .returned v) ∧
      (((Pl.tk s.data.toList).2 = true ∧ J (Pl.tk s.data.toList).1 W') ∨ ((Pl.tk s.data.toList).2 = false ∧ Jx W')) := by
  have hF1 : Fence.wide.fn 24 := trivial
  have hF2 : Fence.wide.fn 20 := trivial
  have h1 : 1 ≤ n := by omega
  refine callsIn_of_wp Try.func23 rfl trivial ?_ rfl
  simp only [Try.ntmps23, List.size_toArray, List.length_cons, List.length_nil, Nat.reduceAdd, Nat.reduceSub, Array.replicate_succ, Array.replicate_zero, List.push_toArray, List.append_toArray, List.nil_append, List.cons_append]
  gi_wp2
  gi_loopw [3] (fun _ wr => ∃ (pre : List (List UInt8)) (t : ByteArray), t.size ≤ s.size ∧ boxT wr Bt t ∧ J pre wr ∧ Pl.tk s.data.toList = (pre ++ (Pl.tk t.data.toList).1, (Pl.tk t.data.toList).2))
    (fun _ wr => leftIn Bt wr)
  case atStart =>
    exact ⟨[], s, Nat.le_refl _, hB, h0, by simp⟩
  case round =>
    obtain ⟨pre, t, hts, hbox, hJs, htk⟩ := hrel
    have hcell := boxT_cell hbox
    have hfree := boxT_free hbox
    have HBX := hide hbox
    have HTK := hide htk
    clear hbox htk
    have hmax : t.size ≤ maxLen := by unfold maxLen; omega
    have htl : t.data.toList.length = t.size := by simp
    have HTL := hide htl
    clear htl
    by_cases hz : 1 ≤ t.size
    · have hne : t.toList.isEmpty = false := by
        obtain ⟨c, u, hct, _⟩ := Pl.bytes_cons t hz
        rw [Lib.toList_data, hct]; rfl
      have hnil : Hid (t.data.toList ≠ []) := by
        intro h
        have := HTL.out
        rw [h] at this; simp at this; omega
      have hpl := Pl.passLen_le t.data.toList
      rw [HTL.out] at hpl
      by_cases hp : 0 < Pl.passLen t.data.toList
      · have hnext : Hid (Pl.tk s.data.toList = (pre ++ (Pl.tk (t.data.toList.drop (Pl.passLen t.data.toList).toNat)).1, (Pl.tk (t.data.toList.drop (Pl.passLen t.data.toList).toNat)).2)) := by
          show _ = _
          rw [HTK.out, Pl.tk_pass t.data.toList hnil.out hp]
        have hpc := hide (passLen_any t hmax hz)
        gi_wp2_with (gi_at_call 24; refine (callsIn_wide.2 (hpc.out _)).mono ?_; rintro e w' ⟨rfl, rfl⟩)
        have hbn : boxT (w'.setCell ⟨Bt, 0, none⟩ (.string (t.extract (Pl.passLen t.data.toList).toNat t.size))) Bt (t.extract (Pl.passLen t.data.toList).toNat t.size) := boxT_set HBX.out
        have hszn : (t.extract (Pl.passLen t.data.toList).toNat t.size).size = t.size - (Pl.passLen t.data.toList).toNat := by
          rw [Pl.extract_tail, Pl.bs_size, List.length_drop, HTL.out]
        refine ⟨⟨pre, _, ?_, hbn, hJ _ _ _ hJs, ?_⟩, ?_⟩
        · rw [hszn]; omega
        · rw [Pl.extract_tail, Pl.bs_data]; exact hnext.out
        · rw [leftIn_eq (boxT_cell hbn), leftIn_eq hcell, hszn]; omega
      · have hwl := Pl.wordLen_le t.data.toList
        rw [HTL.out] at hwl
        have hpc := hide (passLen_any t hmax hz)
        have hwc := hide (wordLen_any t hmax hz)
        by_cases hw0 : Pl.wordLen t.data.toList = 0
        · have hbad := hide (Pl.tk_bad t.data.toList hnil.out hp hw0)
          rw [hw0] at hwc
          gi_wp2_with (gi_at_call 24; refine (callsIn_wide.2 (hpc.out _)).mono ?_; rintro e w' ⟨rfl, rfl⟩)
          gi_big_quiet (first | (gi_at_call 20; refine CallsIn.quiet_of_same (callsIn_wide.2 (hwc.out _))))
          have hJq := hJd pre w' nq hJs
          have hYx : YieldAt Fence.wide (n - 1) Try.prog l #[.string ByteArray.empty] (w'.drewN nq) fun e W' => e = .returned (.bool false) ∧ Jx W' := hY0 pre (w'.drewN nq) hJq
          obtain ⟨fn, tmps, assign, body, hy, hR⟩ := hYx
          gi_wp2
          refine hR.mono ?_
          rintro e W3 ⟨rfl, hJ3⟩
          gi_wp2
          refine bodyPost_ret (results_none rfl _ _ _) rfl ?_
          refine ⟨⟨_, rfl⟩, .inr ⟨?_, hJ3⟩⟩
          rw [HTK.out, hbad.out]
        · gi_wp2_with (gi_at_call 24; refine (callsIn_wide.2 (hpc.out _)).mono ?_; rintro e w' ⟨rfl, rfl⟩)
          gi_big_quiet (first | (gi_at_call 20; refine CallsIn.quiet_of_same (callsIn_wide.2 (hwc.out _))))
          have hJq := hJd pre w' nq hJs
          have hlen3 : (t.data.toList.take (Pl.wordLen t.data.toList).toNat).length = (Pl.wordLen t.data.toList).toNat := by
            rw [List.length_take, HTL.out]; omega
          have hpre : (pre ++ (t.data.toList.take (Pl.wordLen t.data.toList).toNat) :: (Pl.tk (t.data.toList.drop (Pl.wordLen t.data.toList).toNat)).1).length ≤ s.size := by
            have h := (Pl.tk_len s.data.toList).1
            rw [HTK.out, Pl.tk_word t.data.toList hnil.out (by omega) hw0] at h
            simpa using h
          have hYx := hY1 pre (t.data.toList.take (Pl.wordLen t.data.toList).toNat) (w'.drewN nq) (by intro h; rw [h] at hlen3; simp at hlen3; omega) (by simp at hpre; omega) (by rw [hlen3]; omega) hJq
          rw [show sv (t.data.toList.take (Pl.wordLen t.data.toList).toNat) = Value.string (t.extract 0 (Pl.wordLen t.data.toList).toNat) from by rw [Pl.extract_head]] at hYx
          have hws : (t.extract 0 (Pl.wordLen t.data.toList).toNat).size = (Pl.wordLen t.data.toList).toNat := by rw [Pl.extract_head, Pl.bs_size, hlen3]
          have hwe : (t.extract 0 (Pl.wordLen t.data.toList).toNat).toList.isEmpty = false := by
            rw [Pl.extract_head, Pl.bs_toList]
            cases h : t.data.toList.take (Pl.wordLen t.data.toList).toNat with
            | nil => rw [h] at hlen3; simp at hlen3; omega
            | cons a b => rfl
          have hnext : Hid (Pl.tk s.data.toList = ((pre ++ [t.data.toList.take (Pl.wordLen t.data.toList).toNat]) ++ (Pl.tk (t.data.toList.drop (Pl.wordLen t.data.toList).toNat)).1, (Pl.tk (t.data.toList.drop (Pl.wordLen t.data.toList).toNat)).2)) := by
            show _ = _
            rw [HTK.out, Pl.tk_word t.data.toList hnil.out (by omega) hw0]; simp
          clear hpre hlen3
          obtain ⟨fn, tmps, assign, body, hy, hR⟩ := hYx
          gi_wp2
          refine hR.mono ?_
          rintro e W3 ⟨rfl, hJ3, hk3⟩
          have hb3 : boxT W3 Bt t := hk3.trans HBX.out
          have hc3 := boxT_cell hb3
          have hf3 := boxT_free hb3
          have HB3 := hide hb3
          clear hb3 hk3
          gi_wp2
          rw [show (max (Pl.wordLen t.data.toList) 0).toNat = (Pl.wordLen t.data.toList).toNat from by omega]
          have hbn : boxT (W3.setCell ⟨Bt, 0, none⟩ (.string (t.extract (Pl.wordLen t.data.toList).toNat t.size))) Bt (t.extract (Pl.wordLen t.data.toList).toNat t.size) := boxT_set HB3.out
          have hszn : (t.extract (Pl.wordLen t.data.toList).toNat t.size).size = t.size - (Pl.wordLen t.data.toList).toNat := by
            rw [Pl.extract_tail, Pl.bs_size, List.length_drop, HTL.out]
          refine ⟨⟨_, _, ?_, hbn, hJ _ _ _ hJ3, ?_⟩, ?_⟩
          · rw [hszn]; omega
          · rw [Pl.extract_tail, Pl.bs_data]; exact hnext.out
          · rw [leftIn_eq (boxT_cell hbn), leftIn_eq hcell, hszn]; omega
    · have hem : t.toList.isEmpty = true := by
        rw [Lib.toList_data, List.isEmpty_iff]
        exact List.eq_nil_of_length_eq_zero (by have := HTL.out; omega)
      gi_wp2
      go_end0
      refine ⟨⟨_, rfl⟩, .inl ?_⟩
      have hd : t.data.toList = [] := List.eq_nil_of_length_eq_zero (by have := HTL.out; omega)
      rw [HTK.out, hd, Pl.tk_nil]
      exact ⟨rfl, by simpa using hJs⟩
end Go.Proofs.Yteadmjhmahjmdaa

/- Joined: VgD3 VgB0 AgV CutA AgS LawAG0 PlRg RgI RgS. -/
import Derived.Test.YtbckbfjnifafaaaGreatDoorVgG
import Derived.Test.YtbckbfjnifafaaaGreatDoorJAg
import Derived.Test.YtbckbfjnifafaaaGreatDoorVgT
import Derived.Test.YtbckbfjnifafaaaGreatDoorVgM
import Derived.Test.YtbckbfjnifafaaaGreatDoorVgD1
import Derived.Test.YtbckbfjnifafaaaGreatDoorVgD2
import Derived.Test.YtbckbfjnifafaaaGreatDoorOwn
import Derived.Test.YtbckbfjnifafaaaGreatDoorAct4
import Derived.Deep.CutRange
import Derived.Test.YtbckbfjnifafaaaGreatDoorJRec
import Derived.Lib.IndexMore
import Derived.Test.YtbckbfjnifafaaaGreatDoorShCut
import Derived.WalkSmall
/- A value read, as the specification has it: other. -/
namespace Go.Proofs.YtbckbfjnifafaaaGreatDoor
open Go.RowKit
set_option linter.unusedVariables false
set_option linter.unusedSimpArgs false

set_option maxRecDepth 100000 in
set_option maxHeartbeats 6400000 in
theorem l1Get_other (s : ByteArray) (hs : s.size ≤ 1048576) (w : World) (h2 : 2 ≤ s.size) (hq0 : (((s[0]'(by omega)).toNat : Int) == 34) = false) (hm : (((s[0]'(by omega)).toNat : Int) == 45) = false) (hno : (s.toList == [110, 111, 110, 101]) = false) :
    Calls Tryz.prog 101 #[.string s] w fun e w' => e = .returned (.tuple #[vAgg 1 (Pl.numL s.data.toList) ⟨#[]⟩, .bool (Pl.okB 1 (Pl.numL s.data.toList) ⟨#[]⟩ && (Pl.putV 1 (Pl.numL s.data.toList) ⟨#[]⟩ == s.data.toList))]) ∧ Below w.heap.size w w' := by
  have hok : Hid (∀ W, Calls Tryz.prog 54 #[vAgg 1 (Pl.numL s.data.toList) ⟨#[]⟩] W fun e w' => e = .returned (.bool (Pl.okB 1 (Pl.numL s.data.toList) ⟨#[]⟩)) ∧ Below W.heap.size W w') := fun W => specValueOk_any _ _ _ (by show 0 ≤ _; unfold maxLen; omega) W
  have hput0 : Hid (Pl.okB 1 (Pl.numL s.data.toList) ⟨#[]⟩ = true → ∀ W, Calls Tryz.prog 69 #[vAgg 1 (Pl.numL s.data.toList) ⟨#[]⟩] W fun e w' => e = .returned (.string (Pl.bs (Pl.putV 1 (Pl.numL s.data.toList) ⟨#[]⟩))) ∧ Below W.heap.size W w') := fun h W => l1Put_any _ _ _ h (by show 0 ≤ _; omega) W
  have hnum := hide (l1Num_any s hs)
  obtain ⟨hr0, hr1⟩ := numL_range s.data.toList
  generalize Pl.numL s.data.toList = N at *
  cases hb : Pl.okB 1 N ⟨#[]⟩
  · rw [hb] at hok
    clear hput0 hb
    have hput : Hid True := trivial
    rw [Bool.false_and]
    go_enter Tryz.func101, Tryz.ntmps101
    go_wp2_with fail
    refine (hnum.out _).mono ?_
    rintro e0 w0 ⟨rfl, rfl⟩
    go_wp2_with fail
    first | (go_region_with (first
      | (go_at_call 54; refine (hok.out _).mono ?_; rintro e w1 ⟨rfl, hB1⟩; obtain ⟨ba, bb, hbl, hsz⟩ := two_after hB1; have HBA := hide ba; have HBB := hide bb; have HBL := hide hbl; obtain ⟨c0, c1, c2, _, _, _⟩ := C3.mk bb; obtain ⟨r0, r1, r2, f0, f1, f2⟩ := C3.mk ba; clear hB1 ba bb hbl)
      | (go_at_call 69; refine (hput.out _).mono ?_; rintro e w2 ⟨rfl, hB2⟩; have HBA2 := hide ((hB2.block _ (Nat.lt_of_lt_of_le (Nat.lt_succ_of_lt (Nat.lt_succ_self _)) hsz)).trans HBA.out); have HBB2 := hide ((hB2.block _ (Nat.lt_of_lt_of_le (Nat.lt_succ_self _) hsz)).trans HBB.out); have HBL2 := hide (HBL.out.trans (hB2.mono HBL.out.size)); have hsz2 := Nat.le_trans hsz hB2.size; obtain ⟨d0, d1, d2, _, _, _⟩ := C3.mk HBB2.out; obtain ⟨q0, q1, q2, g0, g1, g2⟩ := C3.mk HBA2.out; clear hB2))) | fail
    all_goals
      go_wp2
      obtain ⟨m0, m1, m2⟩ := res3 HBA.out (.int .i64 (1)) (.int .i64 (N)) (.string ⟨#[]⟩)
      refine bodyPost_ret (v := .tuple #[vAgg 1 N ⟨#[]⟩, .bool false]) (by simp [results, Tryz.results101, go_sem, m0, m1, m2]) rfl ?_
      exact ⟨rfl, below_res3 HBL.out _ _ _⟩
  · have hput := hide (hput0.out hb)
    rw [hb] at hok
    clear hput0 hb
    rw [Bool.true_and]
    have hcmp := cmp_text (Pl.putV 1 N ⟨#[]⟩) s
    generalize Pl.putV 1 N ⟨#[]⟩ = P at hput hcmp ⊢
    generalize (P == s.data.toList) = eqb at hcmp ⊢
    cases eqb
    all_goals
      go_enter Tryz.func101, Tryz.ntmps101
      go_wp2_with fail
      refine (hnum.out _).mono ?_
      rintro e0 w0 ⟨rfl, rfl⟩
      go_wp2_with fail
      first | (go_region_with (first
        | (go_at_call 54; refine (hok.out _).mono ?_; rintro e w1 ⟨rfl, hB1⟩; obtain ⟨ba, bb, hbl, hsz⟩ := two_after hB1; have HBA := hide ba; have HBB := hide bb; have HBL := hide hbl; obtain ⟨c0, c1, c2, _, _, _⟩ := C3.mk bb; obtain ⟨r0, r1, r2, f0, f1, f2⟩ := C3.mk ba; clear hB1 ba bb hbl)
        | (go_at_call 69; refine (hput.out _).mono ?_; rintro e w2 ⟨rfl, hB2⟩; have HBA2 := hide ((hB2.block _ (Nat.lt_of_lt_of_le (Nat.lt_succ_of_lt (Nat.lt_succ_self _)) hsz)).trans HBA.out); have HBB2 := hide ((hB2.block _ (Nat.lt_of_lt_of_le (Nat.lt_succ_self _) hsz)).trans HBB.out); have HBL2 := hide (HBL.out.trans (hB2.mono HBL.out.size)); have hsz2 := Nat.le_trans hsz hB2.size; obtain ⟨d0, d1, d2, _, _, _⟩ := C3.mk HBB2.out; obtain ⟨q0, q1, q2, g0, g1, g2⟩ := C3.mk HBA2.out; clear hB2))) | fail
      all_goals
        go_wp2
        obtain ⟨m0, m1, m2⟩ := res3 HBA2.out (.int .i64 (1)) (.int .i64 (N)) (.string ⟨#[]⟩)
        refine bodyPost_ret (by simp [results, Tryz.results101, go_sem, m0, m1, m2]; rfl) rfl ?_
        exact ⟨rfl, below_res3 HBL2.out _ _ _⟩
end Go.Proofs.YtbckbfjnifafaaaGreatDoor

/- What a text tells of a value: the facts that the specification's branches share. -/
namespace Go.Proofs.YtbckbfjnifafaaaGreatDoor
open Go.RowKit
set_option linter.unusedVariables false

set_option maxRecDepth 100000 in
set_option maxHeartbeats 1600000 in
theorem l1Get_none (s : ByteArray) (hs : s.size ≤ 1048576) (hno : (s.toList == [110, 111, 110, 101]) = true) (w : World) :
    Calls Tryz.prog 101 #[.string s] w fun e w' => e = .returned (.tuple #[vAgg 0 0 ⟨#[]⟩, .bool true]) ∧ Below w.heap.size w w' := by
  go_enter Tryz.func101, Tryz.ntmps101
  go_wp2
  refine bodyPost_ret (v := .tuple #[vAgg 0 0 ⟨#[]⟩, .bool true]) (by simp [results, Tryz.results101, go_sem]) rfl ?_
  exact ⟨rfl, ((Below.refl _ _).alloc (Nat.le_refl _) _).alloc (by simp) _⟩

theorem itoa_minus {n : Int} {r : List UInt8} (h : Lib.itoa n = 45 :: r) : n < 0 ∧ r = Lib.decDigits n.natAbs := by
  unfold Lib.itoa at h
  split at h
  · next hn =>
    injection h with _ h
    exact ⟨hn, h.symm⟩
  · obtain ⟨c, q, e, h1, _⟩ := Pl.dec_head n.toNat
    rw [e] at h
    injection h with h _
    subst h
    simp at h1
theorem itoa_plus {n : Int} (h : ∀ r, Lib.itoa n ≠ 45 :: r) : 0 ≤ n ∧ Lib.itoa n = Lib.decDigits n.toNat := by
  by_cases hn : n < 0
  · refine absurd ?_ (h (Lib.decDigits n.natAbs))
    unfold Lib.itoa
    rw [if_pos hn]
  · refine ⟨by omega, ?_⟩
    unfold Lib.itoa
    rw [if_neg hn]
theorem len_size (s : ByteArray) : s.data.toList.length = s.size := by simp
theorem tail_data (s : ByteArray) (c : UInt8) (r : List UInt8) (h : s.data.toList = c :: r) : (s.extract 1 s.size).data.toList = r := by
  rw [Lib.extract_data]
  have := len_size s
  rw [h] at this ⊢
  simp at this
  simp only [List.drop_succ_cons, List.drop_zero]
  exact List.take_of_length_le (by omega)
/-- the last case: a number that is not below 0 -/
theorem plain_one {s : ByteArray} (hno : (s.toList == [110, 111, 110, 101]) = false) (hnt : ∀ t : ByteArray, s.data.toList ≠ 34 :: (t.data.toList ++ [34])) (hnm : ∀ r, s.data.toList = 45 :: r → r = []) : ∀ k' n' t', Pl.TellsV s k' n' t' → k' = 1 ∧ n' = Pl.numL s.data.toList ∧ t' = ⟨#[]⟩ := by
  intro k' n' t' ht
  rcases Pl.tells_form ht with ⟨_, _, _, e⟩ | ⟨h1, h2, ⟨a, b⟩, e⟩ | ⟨_, _, e⟩
  · rw [Lib.toList_data, e] at hno
    simp at hno
  · have hm : ∀ r, Lib.itoa n' ≠ 45 :: r := by
      intro r hr
      obtain ⟨_, h4⟩ := itoa_minus hr
      have h5 := hnm r (e.trans hr)
      obtain ⟨c, q, h6, _⟩ := Pl.dec_head n'.natAbs
      rw [← h4, h5] at h6
      cases h6
    obtain ⟨h0, h3⟩ := itoa_plus hm
    rw [h3] at e
    refine ⟨h1, ?_, h2⟩
    rw [e, Pl.numL_dec _ (by omega)]
    omega
  · exact absurd e (hnt t')

end Go.Proofs.YtbckbfjnifafaaaGreatDoor

/- What a text tells of a value, as the specification reads it: the one value that it may be, and whether it is. -/
namespace Go.Proofs.YtbckbfjnifafaaaGreatDoor
open Go.RowKit
set_option linter.unusedVariables false
/-- the one value that a text may tell, and whether it does -/
def Pl.GetB (s : ByteArray) (k n : Int) (t : ByteArray) (b : Bool) : Prop := (∀ k' n' t', Pl.TellsV s k' n' t' → k' = k ∧ n' = n ∧ t' = t) ∧ (b = true ↔ Pl.TellsV s k n t) ∧ t.size ≤ s.size
theorem get_is {s : ByteArray} {k n : Int} {t : ByteArray} (ht : t.size ≤ s.size) (hc : ∀ k' n' t', Pl.TellsV s k' n' t' → k' = k ∧ n' = n ∧ t' = t) : Pl.GetB s k n t (Pl.okB k n t && (Pl.putV k n t == s.data.toList)) :=
  ⟨hc, by simp only [Bool.and_eq_true, beq_iff_eq, Pl.TellsV], ht⟩
theorem l1Get_any (s : ByteArray) (hs : s.size ≤ 1048576) : ∃ k n t b, Pl.GetB s k n t b ∧ ∀ w, Calls Tryz.prog 101 #[.string s] w fun e w' => e = .returned (.tuple #[vAgg k n t, .bool b]) ∧ Below w.heap.size w w' := by
  cases hno : (s.toList == [110, 111, 110, 101])
  · by_cases h2 : 2 ≤ s.size
    · have B0 : ∀ c r, s.data.toList = c :: r → ((s[0]'(by omega)).toNat : Int) = (c.toNat : Int) := fun c r h => Pl.byte0 c r h (by omega)
      cases hq0 : (((s[0]'(by omega)).toNat : Int) == 34)
      · cases hm : (((s[0]'(by omega)).toNat : Int) == 45)
        · have hb0 := beq_int_false hq0
          have hbm := beq_int_false hm
          refine ⟨1, Pl.numL s.data.toList, ⟨#[]⟩, _, get_is (Nat.zero_le _) (plain_one hno ?_ ?_), fun W => l1Get_other s hs W h2 hq0 hm hno⟩
          · intro t e
            exact hb0 (B0 34 _ e)
          · intro r e
            exact absurd (B0 45 _ e) hbm
        · have hb := beq_int_true hm
          refine ⟨1, -Pl.numL (s.extract 1 s.size).data.toList, ⟨#[]⟩, _, get_is (Nat.zero_le _) ?_, fun W => l1Get_minus s hs W h2 hq0 hm hno⟩
          intro k' n' t' ht
          rcases Pl.tells_form ht with ⟨_, _, _, e⟩ | ⟨h1, h3, ⟨a, b⟩, e⟩ | ⟨_, _, e⟩
          · rw [B0 110 _ e] at hb
            simp at hb
          · obtain ⟨c, r, hcr⟩ : ∃ c r, s.data.toList = c :: r := by
              obtain ⟨c, r, h4, _⟩ := Pl.itoa_head n'
              exact ⟨c, r, e.trans h4⟩
            have hc45 : c = 45 := by
              rw [B0 c r hcr] at hb
              exact UInt8.toNat_inj.1 (by simp; omega)
            subst hc45
            obtain ⟨h4, h5⟩ := itoa_minus (e.symm.trans hcr)
            refine ⟨h1, ?_, h3⟩
            rw [tail_data s 45 r hcr, h5, Pl.numL_dec _ (by omega)]
            omega
          · rw [B0 34 _ e] at hb
            simp at hb
      · have hb := beq_int_true hq0
        cases hq1 : (((s[s.size - 1]'(by omega)).toNat : Int) == 34)
        · have hm : (((s[0]'(by omega)).toNat : Int) == 45) = false := by rw [hb]; rfl
          have hb1 := beq_int_false hq1
          refine ⟨1, Pl.numL s.data.toList, ⟨#[]⟩, _, get_is (Nat.zero_le _) (plain_one hno ?_ ?_), fun W => l1Get_half s hs W h2 hq0 hq1 hm hno⟩
          · intro t e
            exact hb1 (Pl.byteL e (by omega))
          · intro r e
            rw [B0 45 _ e] at hb
            simp at hb
        · refine ⟨2, 0, s.extract 1 (s.size - 1), _, get_is (by simp; omega) ?_, fun W => l1Get_text s hs W h2 hq0 hq1 hno⟩
          intro k' n' t' ht
          rcases Pl.tells_form ht with ⟨_, _, _, e⟩ | ⟨_, _, _, e⟩ | ⟨h1, h3, e⟩
          · rw [B0 110 _ e] at hb
            simp at hb
          · obtain ⟨c, r, e2, hc, _⟩ := Pl.itoa_head n'
            rw [B0 c r (e.trans e2)] at hb
            exact absurd (UInt8.toNat_inj.1 (by simp; omega)) hc
          · exact ⟨h1, h3, (Pl.mid_text e).symm⟩
    · refine ⟨1, Pl.numL s.data.toList, ⟨#[]⟩, _, get_is (Nat.zero_le _) (plain_one hno ?_ ?_), fun W => l1Get_short s hs W h2 hno⟩
      · intro t e
        exact h2 (Pl.size_ge e)
      · intro r e
        have := len_size s
        rw [e] at this
        simp at this
        exact List.length_eq_zero_iff.1 (by omega)
  · have he : s.data.toList = [110, 111, 110, 101] := by
      rw [Lib.toList_data] at hno
      simpa using hno
    have h0 : Pl.TellsV s 0 0 ⟨#[]⟩ := ⟨by simp [Pl.okB], by rw [he]; rfl⟩
    refine ⟨0, 0, ⟨#[]⟩, true, ⟨fun k' n' t' ht => ?_, ⟨fun _ => h0, fun _ => rfl⟩, Nat.zero_le _⟩, fun W => l1Get_none s hs hno W⟩
    exact Pl.tells_one ht h0
end Go.Proofs.YtbckbfjnifafaaaGreatDoor

/- A text cut at a byte, as the specification has it: an owned row of the pieces. -/
namespace Go.Proofs.YtbckbfjnifafaaaGreatDoor
open Go.RowKit
set_option linter.unusedVariables false
theorem byte_is {a b : UInt8} : ((a.toNat : Int) = (b.toNat : Int)) ↔ a = b := by
  constructor
  · intro h; exact UInt8.toNat_inj.1 (by omega)
  · rintro rfl; rfl
set_option maxRecDepth 100000 in
set_option maxHeartbeats 1600000 in
theorem l5Cut_any (s : ByteArray) (b : UInt8) (most : Nat) (hs : s.size ≤ 1048576) (hmo : most ≤ 1048577) (w : World) :
    Calls Tryz.prog 74 #[.string s, .int .u8 (b.toNat : Int), .int .i64 (most : Int)] w fun e w' => ∃ v, e = .returned v ∧ w'.ownsRow w.heap.size 9 1 v (Pl.cutG b most [] s.data.toList).length ((Pl.cutG b most [] s.data.toList).map sv) ∧ Below w.heap.size w w' := by
  obtain ⟨i0, hi, hz0, hz1, hz2⟩ := info_parts infoStr
  have hmax : s.size ≤ maxLen := by unfold maxLen; omega
  have hll : s.data.toList.length = s.size := by simp
  have HLL := hide hll
  clear hll
  have hb255 : b.toNat < 256 := UInt8.toNat_lt b
  have hxt : ∀ fr k, s.extract fr k = Pl.bs ((s.data.toList.drop fr).take (k - fr)) := fun fr k => Lib.extract_eq s fr k
  have htl : ∀ fr, s.extract fr s.size = Pl.bs (s.data.toList.drop fr) := fun fr => Pl.extract_tail s fr
  generalize hl : s.data.toList = l at HLL hxt htl
  have HL := hide hl
  have HX := hide hxt
  have HT := hide htl
  clear hl hxt htl
  go_enter Tryz.func74, Tryz.ntmps74
  go_wp2_with fail
  go_loopw [7, 8, 9] (fun v f i wr => ∃ (fr k : Nat) (pre : List (List UInt8)), fr ≤ k ∧ k ≤ s.size ∧ f = .int .i64 fr ∧ i = .int .i64 k ∧ wr.ownsRow w.heap.size 9 1 v pre.length (pre.map sv) ∧ Below w.heap.size w wr ∧ pre.length ≤ k ∧ pre.length ≤ most ∧ Hid (Pl.cutG b most [] l = pre ++ Pl.cutG b (most - pre.length) ((l.drop fr).take (k - fr)) (l.drop k))) (fun _ _ i _ => s.size - (intOf i).toNat)
  case atStart =>
    exact ⟨0, 0, [], by omega, by omega, rfl, rfl, World.ownsRow_made _ _ 0 (Nat.le_refl _) (by unfold maxLen; omega) rfl, (Below.refl _ _).alloc (Nat.le_refl _) _, by simp, by simp, by simp [Hid]⟩
  case round =>
    obtain ⟨fr, k, pre, hfk, hk, rfl, rfl, hown, hB, hpl, hpm, HT0⟩ := hrel
    obtain ⟨av, cv, rfl⟩ := ownsRow_form hown
    by_cases hlt : k < s.size ∧ pre.length < most
    · obtain ⟨hlt, hm2⟩ := hlt
      have hby := Pl.byteAt_eq s k hlt
      have hbl : Hid (Pl.byteAt s k = ((l[k]?.getD 0).toNat : Int)) := by show _ = _; rw [← HL.out]; rfl
      generalize hdd : Pl.byteAt s k = d at hby hbl
      clear hdd
      cases hd : (d == (b.toNat : Int))
      · have hne : l[k]?.getD 0 ≠ b := by
          intro h
          have h1 := hbl.out
          rw [h] at h1
          rw [h1] at hd
          simp at hd
        have hnext := hide (Pl.cutG_by HT0.out (by have := HLL.out; omega) hfk hm2 hne)
        clear hne
        go_wp2_with fail
        go_roundw
        case rel => exact ⟨fr, k + 1, pre, by omega, by omega, rfl, by go_num, hown, hB, by omega, by omega, hnext⟩
        case measure => simp [intOf]; omega
      · have heq : l[k]?.getD 0 = b := byte_is.1 (by rw [← hbl.out]; exact beq_iff_eq.1 hd)
        have hnext := hide (Pl.cutG_on HT0.out (by have := HLL.out; omega) hm2 heq)
        clear heq
        go_wp2_with (at_builtin; refine wpList_append_own _ rfl _ _ 22 rfl w.heap.size 9 i0 (.string ⟨#[]⟩) 1 16 Tryz.underlying22 hi hz0 hz1 hz2 rfl (by decide) _ _ _ rfl (hown.alloc _) ⟨_, 0, none⟩ 1 1 [.string (s.extract fr k)] rfl rfl ?c1 ?c2 ?c3 ?c4 ?c5 ?_)
        case c1 => exact cell_one_new _ _ _
        case c2 => intro u hu; simp at hu; subst hu; rfl
        case c3 => unfold maxLen; omega
        case c4 => omega
        case c5 => have := hB.size; simp; omega
        intro v' w2 hown' hgrow' _
        go_wp2
        go_roundw
        case rel =>
          refine ⟨k + 1, k + 1, pre ++ [(l.drop fr).take (k - fr)], by omega, by omega, by go_num, by go_num, ?_, ?_, by simp; omega, by simp; omega, hnext⟩
          · rw [HX.out] at hown'
            simpa using hown'
          · exact (hB.alloc hB.size _).grown hgrow' (by have := hB.size; simp; omega) (fun j hj => (hown.lt j hj).1)
        case measure => simp [intOf]; omega
    · have hend := hide (Pl.cutG_end HT0.out hfk (by have := HLL.out; omega))
      by_cases hk2 : k < s.size
      · have hm3 : ¬ pre.length < most := fun h => hlt ⟨hk2, h⟩
        clear hlt
        go_wp2_with (at_builtin; refine wpList_append_own _ rfl _ _ 22 rfl w.heap.size 9 i0 (.string ⟨#[]⟩) 1 16 Tryz.underlying22 hi hz0 hz1 hz2 rfl (by decide) _ _ _ rfl (hown.alloc _) ⟨_, 0, none⟩ 1 1 [.string (s.extract fr s.size)] rfl rfl ?c1 ?c2 ?c3 ?c4 ?c5 ?_)
        case c1 => exact cell_one_new _ _ _
        case c2 => intro u hu; simp at hu; subst hu; rfl
        case c3 => unfold maxLen; omega
        case c4 => omega
        case c5 => have := hB.size; simp; omega
        intro v' w2 hown' hgrow' _
        go_wp2
        go_ret
        refine ⟨v', rfl, ?_, ?_⟩
        · rw [hend.out]
          rw [HT.out] at hown'
          simpa using hown'
        · exact (hB.alloc hB.size _).grown hgrow' (by have := hB.size; simp; omega) (fun j hj => (hown.lt j hj).1)
      · clear hlt
        go_wp2_with (at_builtin; refine wpList_append_own _ rfl _ _ 22 rfl w.heap.size 9 i0 (.string ⟨#[]⟩) 1 16 Tryz.underlying22 hi hz0 hz1 hz2 rfl (by decide) _ _ _ rfl (hown.alloc _) ⟨_, 0, none⟩ 1 1 [.string (s.extract fr s.size)] rfl rfl ?c1 ?c2 ?c3 ?c4 ?c5 ?_)
        case c1 => exact cell_one_new _ _ _
        case c2 => intro u hu; simp at hu; subst hu; rfl
        case c3 => unfold maxLen; omega
        case c4 => omega
        case c5 => have := hB.size; simp; omega
        intro v' w2 hown' hgrow' _
        go_wp2
        go_ret
        refine ⟨v', rfl, ?_, ?_⟩
        · rw [hend.out]
          rw [HT.out] at hown'
          simpa using hown'
        · exact (hB.alloc hB.size _).grown hgrow' (by have := hB.size; simp; omega) (fun j hj => (hown.lt j hj).1)
end Go.Proofs.YtbckbfjnifafaaaGreatDoor

/- An act that is read, as the specification has it: the one act that the text tells, or none. -/
namespace Go.Proofs.YtbckbfjnifafaaaGreatDoor
open Go.RowKit
set_option linter.unusedVariables false
set_option linter.unusedSimpArgs false
theorem Pl.cutG_size (b : UInt8) : ∀ (r : List UInt8) (k : Nat) (cur x : List UInt8), x ∈ Pl.cutG b k cur r → x.length ≤ cur.length + r.length
  | [], k, cur, x, h => by
    rw [Pl.cutG_nil] at h
    rw [List.mem_singleton.1 h]
    simp
  | c :: r, 0, cur, x, h => by
    rw [Pl.cutG] at h
    rw [List.mem_singleton.1 h]
    simp
  | c :: r, k + 1, cur, x, h => by
    rw [Pl.cutG] at h
    split at h
    · rcases List.mem_cons.1 h with h | h
      · rw [h]; simp
      · have := Pl.cutG_size b r k [] x h
        simp at this ⊢
        omega
    · have := Pl.cutG_size b r (k + 1) _ x h
      simp at this ⊢
      omega
theorem row7_of {w : World} {base : Nat} {v : Value} {f0 f1 f2 f3 f4 f5 f6 : List UInt8} (h : w.ownsRow base 9 1 v 7 [sv f0, sv f1, sv f2, sv f3, sv f4, sv f5, sv f6]) :
    ∃ g c, v = .slice (some ⟨g, 0, none⟩) 7 c ∧ Row7 w g f0 f1 f2 f3 f4 f5 f6 := by
  obtain ⟨hl, h⟩ := h
  rcases h with ⟨_, h0⟩ | ⟨g, cap, cur, rfl, hb, hg, hnc, hm, hs, ht⟩
  · cases h0
  · refine ⟨g, cap, rfl, (Array.getElem?_eq_some_iff.1 hg).1, ?_⟩
    have hc : ∀ i x, [sv f0, sv f1, sv f2, sv f3, sv f4, sv f5, sv f6][i]? = some x → w.cell? ⟨g, i, none⟩ = some x := fun i x hx => by
      rw [← ht] at hx
      have h2 : cur[i]? = some x := by
        rw [List.getElem?_take] at hx
        split at hx
        · simpa using hx
        · cases hx
      simp [World.cell?, hg, h2]
    exact ⟨hc 0 _ rfl, hc 1 _ rfl, hc 2 _ rfl, hc 3 _ rfl, hc 4 _ rfl, hc 5 _ rfl, hc 6 _ rfl⟩
theorem mid_set {w w2 : World} {b : Nat} {T U : TypeId} {x0 x1 x2 x3 x4 x5 x6 x7 x8 : Value} {Zs : Array Value} (h : w2.heap[b]? = some (.cells #[x0, x1, x2, x3, x4, x5, x6, x7, x8] T (0, 0))) (hz : w2.heap[w.heap.size]? = some (.cells Zs U (0, 0))) (hL : Below w.heap.size w w2) (hne : w.heap.size ≠ b) (hle : w.heap.size ≤ b) (hlt : b < w2.heap.size) (hlw : w.heap.size < w2.heap.size) (u5 u6 u7 : Value) (o : Obj) :
    ((((w2.setCell ⟨b, 5, none⟩ u5).setCell ⟨b, 6, none⟩ u6).setCell ⟨b, 7, none⟩ u7).alloc o).heap[b]? = some (.cells #[x0, x1, x2, x3, x4, u5, u6, u7, x8] T (0, 0)) ∧ ((((w2.setCell ⟨b, 5, none⟩ u5).setCell ⟨b, 6, none⟩ u6).setCell ⟨b, 7, none⟩ u7).alloc o).heap[w.heap.size]? = some (.cells Zs U (0, 0)) ∧ Below w.heap.size w ((((w2.setCell ⟨b, 5, none⟩ u5).setCell ⟨b, 6, none⟩ u6).setCell ⟨b, 7, none⟩ u7).alloc o) ∧ b < ((((w2.setCell ⟨b, 5, none⟩ u5).setCell ⟨b, 6, none⟩ u6).setCell ⟨b, 7, none⟩ u7).alloc o).heap.size := by
  have h1 : (w2.setCell ⟨b, 5, none⟩ u5).heap[b]? = some (.cells #[x0, x1, x2, x3, x4, u5, x6, x7, x8] T (0, 0)) := (block_set h 5 u5).trans (by simp)
  have h2 : ((w2.setCell ⟨b, 5, none⟩ u5).setCell ⟨b, 6, none⟩ u6).heap[b]? = some (.cells #[x0, x1, x2, x3, x4, u5, u6, x7, x8] T (0, 0)) := (block_set h1 6 u6).trans (by simp)
  have h3 : (((w2.setCell ⟨b, 5, none⟩ u5).setCell ⟨b, 6, none⟩ u6).setCell ⟨b, 7, none⟩ u7).heap[b]? = some (.cells #[x0, x1, x2, x3, x4, u5, u6, u7, x8] T (0, 0)) := (block_set h2 7 u7).trans (by simp)
  have k3 : (((w2.setCell ⟨b, 5, none⟩ u5).setCell ⟨b, 6, none⟩ u6).setCell ⟨b, 7, none⟩ u7).heap[w.heap.size]? = some (.cells Zs U (0, 0)) := by
    rw [Below.heap_setCell _ _ _ _ hne, Below.heap_setCell _ _ _ _ hne, Below.heap_setCell _ _ _ _ hne]; exact hz
  have l3 := ((hL.setCell (p := ⟨b, 5, none⟩) hle u5).setCell (p := ⟨b, 6, none⟩) hle u6).setCell (p := ⟨b, 7, none⟩) hle u7
  have b3 := (Array.getElem?_eq_some_iff.1 h3).1
  refine ⟨(Below.heap_alloc _ o _ b3).trans h3, (Below.heap_alloc _ o _ (Array.getElem?_eq_some_iff.1 k3).1).trans k3, l3.alloc l3.size o, ?_⟩
  have : ((((w2.setCell ⟨b, 5, none⟩ u5).setCell ⟨b, 6, none⟩ u6).setCell ⟨b, 7, none⟩ u7).alloc o).heap.size = (((w2.setCell ⟨b, 5, none⟩ u5).setCell ⟨b, 6, none⟩ u6).setCell ⟨b, 7, none⟩ u7).heap.size + 1 := by simp
  omega
set_option maxRecDepth 100000 in
set_option maxHeartbeats 6400000 in
theorem specActGet_seven (s : ByteArray) (hs : s.size ≤ 1048576) (f0 f1 f2 f3 f4 f5 f6 : List UInt8) (hC0 : Pl.cutG 32 6 [] s.data.toList = [f0, f1, f2, f3, f4, f5, f6]) (w : World) : Calls Tryz.prog 75 #[.string s] w (AgPost s w) := by
  have hC := hide hC0
  have hz : ∀ x, x ∈ [f0, f1, f2, f3, f4, f5, f6] → x.length ≤ 1048576 := fun x hx => by
    rw [← hC0] at hx
    have h1 := Pl.cutG_size 32 s.data.toList 6 [] x hx
    have h2 : s.data.toList.length = s.size := by simp
    simp only [List.length_nil] at h1
    omega
  have hc := hide (l5Cut_any s 32 6 hs (by omega))
  have n0 := hide (l1Num_any (Pl.bs f0) (by rw [Pl.bs_size]; exact hz f0 (by simp)))
  have n1 := hide (l1Num_any (Pl.bs f1) (by rw [Pl.bs_size]; exact hz f1 (by simp)))
  have n2 := hide (l1Num_any (Pl.bs f2) (by rw [Pl.bs_size]; exact hz f2 (by simp)))
  have n5 := hide (l1Num_any (Pl.bs f5) (by rw [Pl.bs_size]; exact hz f5 (by simp)))
  rw [Pl.bs_back] at n0 n1 n2 n5
  obtain ⟨vk, vn, vt, vb, hG, hget⟩ := l1Get_any (Pl.bs f6) (by rw [Pl.bs_size]; exact hz f6 (by simp))
  have hvt : vt.size ≤ 1048576 := Nat.le_trans hG.2.2 (by rw [Pl.bs_size]; exact hz f6 (by simp))
  have hnm : (Pl.bs f3).size ≤ 1048576 := by rw [Pl.bs_size]; exact hz f3 (by simp)
  have hg := hide hget
  have q4 : ((Pl.bs f4).toList == [111, 107]) = (f4 == [111, 107]) := by rw [Pl.bs_toList]
  have hone : ∀ k' r' p' nm' o' vk' vn' vt' m', Pl.TellsA s k' r' p' nm' o' vk' vn' vt' m' → (k' = Pl.numL f0 ∧ r' = Pl.numL f1 ∧ p' = Pl.numL f2 ∧ nm' = Pl.bs f3 ∧ o' = (f4 == [111, 107]) ∧ vk' = vk ∧ vn' = vn ∧ vt' = vt ∧ m' = Pl.numL f5) ∧ vb = true := by
    intro k' r' p' nm' o' vk' vn' vt' m' ht
    have hp := Pl.act_cut ht.1
    rw [ht.2, hC0] at hp
    simp only [Pl.actF, List.cons.injEq, and_true] at hp
    obtain ⟨e0, e1, e2, e3, e4, e5, e6⟩ := hp
    obtain ⟨⟨k0, k1⟩, ⟨r0, r1⟩, ⟨p0, p1⟩, ⟨m0, m1⟩, hv⟩ := act_parts ht.1
    have tv := Pl.tells_val ht.1
    rw [← e6] at tv
    obtain ⟨q0, q1, q2⟩ := hG.1 _ _ _ tv
    rw [q0, q1, q2] at tv
    refine ⟨⟨?_, ?_, ?_, ?_, ?_, q0, q1, q2, ?_⟩, hG.2.1.2 tv⟩
    · rw [e0, Pl.numL_itoa (by omega) (by omega)]
    · rw [e1, Pl.numL_itoa (by omega) (by omega)]
    · rw [e2, Pl.numL_itoa (by omega) (by omega)]
    · rw [e3]; rfl
    · rw [e4]
      cases o' <;> rfl
    · rw [e5, Pl.numL_itoa (by omega) (by omega)]
  generalize (f4 == [111, 107]) = o at *
  generalize Pl.numL f0 = k at *
  generalize Pl.numL f1 = r at *
  generalize Pl.numL f2 = p at *
  generalize Pl.numL f5 = m at *
  have HO := hide hone
  have hok := hide (specActOk_any k r p (Pl.bs f3) o vk vn vt m (by unfold maxLen; omega) (by unfold maxLen; omega))
  have hl := hide (fun hb => l8Line_any k r p (Pl.bs f3) o vk vn vt m hb hnm hvt)
  clear hC0 hone hz hG hget
  go_enter Tryz.func75, Tryz.ntmps75
  go_wp2_with fail
  refine (hc.out _).mono ?_
  rintro e1 w1 ⟨v, rfl, hown, hB1⟩
  rw [hC.out] at hown
  obtain ⟨g, cv, rfl, hrow⟩ := row7_of hown
  obtain ⟨bx0, HB1, hlt1⟩ := box_after hB1
  have HBX := hide bx0
  have HBL := hide HB1
  obtain ⟨hlt, c0, c1, c2, c3, c4, c5, c6⟩ := id hrow
  have HR := hide hrow
  clear hB1 bx0 HB1 hown hrow
  go_upto_region 4 with fail
  go_cut [5] from 8 (fun v5 wx => ∃ b, v5 = .pointer (some ⟨b, 0, none⟩) ∧ w1.heap.size ≤ b ∧ wx.heap[b]? = some (.cells #[.int .i64 k, .int .i64 r, .int .i64 p, .string (Pl.bs f3), .bool o, .int .i64 0, .int .i64 0, .string ⟨#[]⟩, .int .i64 m] 45 (0, 0)) ∧ Below w1.heap.size w1 wx)
  case first =>
    refine wp_region_noPanic ?_
    refine wp_region_held_drew (S := fun W => Below w1.heap.size w1 W) (by kernel_rfl) (below_drew' (Below.refl _ _)) (fun hHeld => ?_)
    refine wpAnyH_take (i := 0) (oi := Oper.mk (some 14) _ _ _ _ _) (v := ?_) rfl (by kernel_rfl) (by kernel_rfl) (by kernel_rfl) (fun _ _ _ h => h) (Or.inl ⟨by rfl, ?_⟩) (by assumption) ?_
    rotate_left
    · intro w0 hSw
      clear hSw
      go_simp
      all_goals (with_reducible rfl)
    simp only [Act.put, List.setIfInBounds_toArray, List.set_cons_zero, List.set_cons_succ]
    refine wpAnyH_take (i := 1) (oi := Oper.mk (some 15) _ _ _ _ _) (v := ?_) rfl (by kernel_rfl) (by kernel_rfl) (by kernel_rfl) (fun _ _ _ h => h) (Or.inl ⟨by rfl, ?_⟩) (by assumption) ?_
    rotate_left
    · intro w0 hSw
      clear hSw
      go_simp
      all_goals (with_reducible rfl)
    simp only [Act.put, List.setIfInBounds_toArray, List.set_cons_zero, List.set_cons_succ]
    refine wpAnyH_take (i := 2) (oi := Oper.mk (some 16) _ _ _ _ _) (v := ?_) rfl (by kernel_rfl) (by kernel_rfl) (by kernel_rfl) (fun _ _ _ h => h) (Or.inl ⟨by rfl, ?_⟩) (by assumption) ?_
    rotate_left
    · intro w0 hSw
      have z0 : w0.cell? ⟨g, 0, none⟩ = some (sv f0) := (Below.cell hSw (p := ⟨g, 0, none⟩) hlt).trans c0
      clear hSw
      go_simp
      all_goals (with_reducible rfl)
    simp only [Act.put, List.setIfInBounds_toArray, List.set_cons_zero, List.set_cons_succ]
    refine wpAnyH_take (i := 4) (oi := Oper.mk (some 18) _ _ _ _ _) (v := ?_) rfl (by kernel_rfl) (by kernel_rfl) (by kernel_rfl) (fun _ _ _ h => h) (Or.inl ⟨by rfl, ?_⟩) (by assumption) ?_
    rotate_left
    · intro w0 hSw
      clear hSw
      go_simp
      all_goals (with_reducible rfl)
    simp only [Act.put, List.setIfInBounds_toArray, List.set_cons_zero, List.set_cons_succ]
    refine wpAnyH_take (i := 5) (oi := Oper.mk (some 19) _ _ _ _ _) (v := ?_) rfl (by kernel_rfl) (by kernel_rfl) (by kernel_rfl) (fun _ _ _ h => h) (Or.inl ⟨by rfl, ?_⟩) (by assumption) ?_
    rotate_left
    · intro w0 hSw
      clear hSw
      go_simp
      all_goals (with_reducible rfl)
    simp only [Act.put, List.setIfInBounds_toArray, List.set_cons_zero, List.set_cons_succ]
    refine wpAnyH_take (i := 6) (oi := Oper.mk (some 20) _ _ _ _ _) (v := ?_) rfl (by kernel_rfl) (by kernel_rfl) (by kernel_rfl) (fun _ _ _ h => h) (Or.inl ⟨by rfl, ?_⟩) (by assumption) ?_
    rotate_left
    · intro w0 hSw
      have z0 : w0.cell? ⟨g, 1, none⟩ = some (sv f1) := (Below.cell hSw (p := ⟨g, 1, none⟩) hlt).trans c1
      clear hSw
      go_simp
      all_goals (with_reducible rfl)
    simp only [Act.put, List.setIfInBounds_toArray, List.set_cons_zero, List.set_cons_succ]
    refine wpAnyH_take (i := 8) (oi := Oper.mk (some 22) _ _ _ _ _) (v := ?_) rfl (by kernel_rfl) (by kernel_rfl) (by kernel_rfl) (fun _ _ _ h => h) (Or.inl ⟨by rfl, ?_⟩) (by assumption) ?_
    rotate_left
    · intro w0 hSw
      clear hSw
      go_simp
      all_goals (with_reducible rfl)
    simp only [Act.put, List.setIfInBounds_toArray, List.set_cons_zero, List.set_cons_succ]
    refine wpAnyH_take (i := 9) (oi := Oper.mk (some 23) _ _ _ _ _) (v := ?_) rfl (by kernel_rfl) (by kernel_rfl) (by kernel_rfl) (fun _ _ _ h => h) (Or.inl ⟨by rfl, ?_⟩) (by assumption) ?_
    rotate_left
    · intro w0 hSw
      clear hSw
      go_simp
      all_goals (with_reducible rfl)
    simp only [Act.put, List.setIfInBounds_toArray, List.set_cons_zero, List.set_cons_succ]
    refine wpAnyH_take (i := 10) (oi := Oper.mk (some 24) _ _ _ _ _) (v := ?_) rfl (by kernel_rfl) (by kernel_rfl) (by kernel_rfl) (fun _ _ _ h => h) (Or.inl ⟨by rfl, ?_⟩) (by assumption) ?_
    rotate_left
    · intro w0 hSw
      have z0 : w0.cell? ⟨g, 2, none⟩ = some (sv f2) := (Below.cell hSw (p := ⟨g, 2, none⟩) hlt).trans c2
      clear hSw
      go_simp
      all_goals (with_reducible rfl)
    simp only [Act.put, List.setIfInBounds_toArray, List.set_cons_zero, List.set_cons_succ]
    refine wpAnyH_take (i := 12) (oi := Oper.mk (some 26) _ _ _ _ _) (v := ?_) rfl (by kernel_rfl) (by kernel_rfl) (by kernel_rfl) (fun _ _ _ h => h) (Or.inl ⟨by rfl, ?_⟩) (by assumption) ?_
    rotate_left
    · intro w0 hSw
      clear hSw
      go_simp
      all_goals (with_reducible rfl)
    simp only [Act.put, List.setIfInBounds_toArray, List.set_cons_zero, List.set_cons_succ]
    refine wpAnyH_take (i := 13) (oi := Oper.mk (some 27) _ _ _ _ _) (v := ?_) rfl (by kernel_rfl) (by kernel_rfl) (by kernel_rfl) (fun _ _ _ h => h) (Or.inl ⟨by rfl, ?_⟩) (by assumption) ?_
    rotate_left
    · intro w0 hSw
      clear hSw
      go_simp
      all_goals (with_reducible rfl)
    simp only [Act.put, List.setIfInBounds_toArray, List.set_cons_zero, List.set_cons_succ]
    refine wpAnyH_take (i := 14) (oi := Oper.mk (some 28) _ _ _ _ _) (v := ?_) rfl (by kernel_rfl) (by kernel_rfl) (by kernel_rfl) (fun _ _ _ h => h) (Or.inl ⟨by rfl, ?_⟩) (by assumption) ?_
    rotate_left
    · intro w0 hSw
      have z0 : w0.cell? ⟨g, 3, none⟩ = some (sv f3) := (Below.cell hSw (p := ⟨g, 3, none⟩) hlt).trans c3
      clear hSw
      go_simp
      all_goals (with_reducible rfl)
    simp only [Act.put, List.setIfInBounds_toArray, List.set_cons_zero, List.set_cons_succ]
    refine wpAnyH_take (i := 15) (oi := Oper.mk (some 29) _ _ _ _ _) (v := ?_) rfl (by kernel_rfl) (by kernel_rfl) (by kernel_rfl) (fun _ _ _ h => h) (Or.inl ⟨by rfl, ?_⟩) (by assumption) ?_
    rotate_left
    · intro w0 hSw
      clear hSw
      go_simp
      all_goals (with_reducible rfl)
    simp only [Act.put, List.setIfInBounds_toArray, List.set_cons_zero, List.set_cons_succ]
    refine wpAnyH_take (i := 16) (oi := Oper.mk (some 30) _ _ _ _ _) (v := ?_) rfl (by kernel_rfl) (by kernel_rfl) (by kernel_rfl) (fun _ _ _ h => h) (Or.inl ⟨by rfl, ?_⟩) (by assumption) ?_
    rotate_left
    · intro w0 hSw
      clear hSw
      go_simp
      all_goals (with_reducible rfl)
    simp only [Act.put, List.setIfInBounds_toArray, List.set_cons_zero, List.set_cons_succ]
    refine wpAnyH_take (i := 17) (oi := Oper.mk (some 31) _ _ _ _ _) (v := ?_) rfl (by kernel_rfl) (by kernel_rfl) (by kernel_rfl) (fun _ _ _ h => h) (Or.inl ⟨by rfl, ?_⟩) (by assumption) ?_
    rotate_left
    · intro w0 hSw
      have z0 : w0.cell? ⟨g, 4, none⟩ = some (sv f4) := (Below.cell hSw (p := ⟨g, 4, none⟩) hlt).trans c4
      clear hSw
      go_simp
      all_goals (with_reducible rfl)
    simp only [Act.put, List.setIfInBounds_toArray, List.set_cons_zero, List.set_cons_succ]
    refine wpAnyH_take (i := 18) (oi := Oper.mk (some 32) _ _ _ _ _) (v := ?_) rfl (by kernel_rfl) (by kernel_rfl) (by kernel_rfl) (fun _ _ _ h => h) (Or.inl ⟨by rfl, ?_⟩) (by assumption) ?_
    rotate_left
    · intro w0 hSw
      clear hSw
      go_simp
      all_goals (with_reducible rfl)
    simp only [Act.put, List.setIfInBounds_toArray, List.set_cons_zero, List.set_cons_succ]
    refine wpAnyH_take (i := 19) (oi := Oper.mk (some 33) _ _ _ _ _) (v := ?_) rfl (by kernel_rfl) (by kernel_rfl) (by kernel_rfl) (fun _ _ _ h => h) (Or.inl ⟨by rfl, ?_⟩) (by assumption) ?_
    rotate_left
    · intro w0 hSw
      clear hSw
      go_simp
      all_goals (with_reducible rfl)
    simp only [Act.put, List.setIfInBounds_toArray, List.set_cons_zero, List.set_cons_succ]
    refine wpAnyH_take (i := 20) (oi := Oper.mk (some 34) _ _ _ _ _) (v := ?_) rfl (by kernel_rfl) (by kernel_rfl) (by kernel_rfl) (fun _ _ _ h => h) (Or.inl ⟨by rfl, ?_⟩) (by assumption) ?_
    rotate_left
    · intro w0 hSw
      clear hSw
      go_simp
      all_goals (with_reducible rfl)
    simp only [Act.put, List.setIfInBounds_toArray, List.set_cons_zero, List.set_cons_succ]
    refine wpAnyH_take (i := 21) (oi := Oper.mk (some 35) _ _ _ _ _) (v := ?_) rfl (by kernel_rfl) (by kernel_rfl) (by kernel_rfl) (fun _ _ _ h => h) (Or.inl ⟨by rfl, ?_⟩) (by assumption) ?_
    rotate_left
    · intro w0 hSw
      have z0 : w0.cell? ⟨g, 5, none⟩ = some (sv f5) := (Below.cell hSw (p := ⟨g, 5, none⟩) hlt).trans c5
      clear hSw
      go_simp
      all_goals (with_reducible rfl)
    simp only [Act.put, List.setIfInBounds_toArray, List.set_cons_zero, List.set_cons_succ]
    refine wpAnyH_ready (rs := [3, 24]) (by kernel_rfl) (by simp) ?_
    refine (AllReadyH.cons (o := Oper.mk (some 17) _ _ _ _ _) rfl (fun K hK => ?_) (AllReadyH.cons (o := Oper.mk (some 5) _ _ _ _ _) rfl (fun K hK => ?_) AllReadyH.nil))
    · go_simp
      go_at_call 100
      refine (n0.out _).mono ?_
      rintro x0 w0 ⟨rfl, rfl⟩
      go_wp2_with fail
      refine hK.out _ _ hHeld (fun hHeld => ?_)
      clear hK K
      (try simp only [Act.put, List.setIfInBounds_toArray, List.set_cons_zero, List.set_cons_succ])
      refine wpAnyH_ready (rs := [7, 24]) (by kernel_rfl) (by simp) ?_
      refine (AllReadyH.cons (o := Oper.mk (some 21) _ _ _ _ _) rfl (fun K hK => ?_) (AllReadyH.cons (o := Oper.mk (some 5) _ _ _ _ _) rfl (fun K hK => ?_) AllReadyH.nil))
      · go_simp
        go_at_call 100
        refine (n1.out _).mono ?_
        rintro x0 w0 ⟨rfl, rfl⟩
        go_wp2_with fail
        refine hK.out _ _ hHeld (fun hHeld => ?_)
        clear hK K
        (try simp only [Act.put, List.setIfInBounds_toArray, List.set_cons_zero, List.set_cons_succ])
        refine wpAnyH_ready (rs := [11, 24]) (by kernel_rfl) (by simp) ?_
        refine (AllReadyH.cons (o := Oper.mk (some 25) _ _ _ _ _) rfl (fun K hK => ?_) (AllReadyH.cons (o := Oper.mk (some 5) _ _ _ _ _) rfl (fun K hK => ?_) AllReadyH.nil))
        · go_simp
          go_at_call 100
          refine (n2.out _).mono ?_
          rintro x0 w0 ⟨rfl, rfl⟩
          go_wp2_with fail
          refine hK.out _ _ hHeld (fun hHeld => ?_)
          clear hK K
          (try simp only [Act.put, List.setIfInBounds_toArray, List.set_cons_zero, List.set_cons_succ])
          refine wpAnyH_ready (rs := [22, 24]) (by kernel_rfl) (by simp) ?_
          refine (AllReadyH.cons (o := Oper.mk (some 36) _ _ _ _ _) rfl (fun K hK => ?_) (AllReadyH.cons (o := Oper.mk (some 5) _ _ _ _ _) rfl (fun K hK => ?_) AllReadyH.nil))
          · go_simp
            go_at_call 100
            refine (n5.out _).mono ?_
            rintro x0 w0 ⟨rfl, rfl⟩
            go_wp2_with fail
            refine hK.out _ _ hHeld (fun hHeld => ?_)
            clear hK K
            (try simp only [Act.put, List.setIfInBounds_toArray, List.set_cons_zero, List.set_cons_succ])
            refine wpAnyH_take (i := 23) (oi := Oper.mk (some 37) _ _ _ _ _) (v := ?_) rfl (by kernel_rfl) (by kernel_rfl) (by kernel_rfl) (fun _ _ _ h => h) (Or.inl ⟨by rfl, ?_⟩) (by assumption) ?_
            rotate_left
            · intro w0 hSw
              clear hSw
              go_simp
              all_goals (with_reducible rfl)
            simp only [Act.put, List.setIfInBounds_toArray, List.set_cons_zero, List.set_cons_succ]
            refine wpAnyH_ready (rs := [24]) (by kernel_rfl) (by simp) ?_
            refine (AllReadyH.cons (o := Oper.mk (some 5) _ _ _ _ _) rfl (fun K hK => ?_) AllReadyH.nil)
            go_simp
            have hHeld' := hHeld.alloc hHeld.size (.cells #[.int .i64 0, .int .i64 0, .int .i64 0, .string ⟨#[]⟩, .bool false, .int .i64 0, .int .i64 0, .string ⟨#[]⟩, .int .i64 0] 45)
            refine hK.out _ _ hHeld' (fun hHeld => ?_)
            clear hK K hHeld'
            (try simp only [Act.put, List.setIfInBounds_toArray, List.set_cons_zero, List.set_cons_succ])
            refine wpAnyH_ready (rs := [25]) (by kernel_rfl) (by simp) ?_
            refine AllReadyH.cons (o := Oper.mk none _ _ _ _ _) rfl (fun K hK => ?_) AllReadyH.nil
            go_simp
            have hb9 : ((w1.alloc (.cells #[.int .i64 k, .int .i64 r, .int .i64 p, .string (Pl.bs f3), .bool o, .int .i64 0, .int .i64 0, .string ⟨#[]⟩, .int .i64 m] 45)).drew).heap[w1.heap.size]? = some (.cells #[.int .i64 k, .int .i64 r, .int .i64 p, .string (Pl.bs f3), .bool o, .int .i64 0, .int .i64 0, .string ⟨#[]⟩, .int .i64 m] 45 (0, 0)) := by show (w1.heap.push _)[w1.heap.size]? = _; rw [Array.getElem?_push_size]
            have hB9 : Below w1.heap.size w1 ((w1.alloc (.cells #[.int .i64 k, .int .i64 r, .int .i64 p, .string (Pl.bs f3), .bool o, .int .i64 0, .int .i64 0, .string ⟨#[]⟩, .int .i64 m] 45)).drew) := below_drew' ((Below.refl _ _).alloc (Nat.le_refl _) _)
            refine hK.out _ _ hB9 (fun _ => ?_)
            clear hK K hHeld
            (try simp only [Act.put, List.setIfInBounds_toArray, List.set_cons_zero, List.set_cons_succ])
            refine wpAnyH_done (by kernel_rfl) ?_ _
            refine NoPanic.normal ?_
            go_wp2_with fail
            go_meet
            exact ⟨_, rfl, Nat.le_refl _, hb9, hB9⟩
          · go_simp
            have hHeld' := hHeld.alloc hHeld.size (.cells #[.int .i64 0, .int .i64 0, .int .i64 0, .string ⟨#[]⟩, .bool false, .int .i64 0, .int .i64 0, .string ⟨#[]⟩, .int .i64 0] 45)
            refine hK.out _ _ hHeld' (fun hHeld => ?_)
            clear hK K hHeld'
            (try simp only [Act.put, List.setIfInBounds_toArray, List.set_cons_zero, List.set_cons_succ])
            refine wpAnyH_ready (rs := [22]) (by kernel_rfl) (by simp) ?_
            refine (AllReadyH.cons (o := Oper.mk (some 36) _ _ _ _ _) rfl (fun K hK => ?_) AllReadyH.nil)
            go_simp
            go_at_call 100
            refine (n5.out _).mono ?_
            rintro x0 w0 ⟨rfl, rfl⟩
            go_wp2_with fail
            refine hK.out _ _ hHeld (fun hHeld => ?_)
            clear hK K
            (try simp only [Act.put, List.setIfInBounds_toArray, List.set_cons_zero, List.set_cons_succ])
            refine wpAnyH_take (i := 23) (oi := Oper.mk (some 37) _ _ _ _ _) (v := ?_) rfl (by kernel_rfl) (by kernel_rfl) (by kernel_rfl) (fun _ _ _ h => h) (Or.inl ⟨by rfl, ?_⟩) (by assumption) ?_
            rotate_left
            · intro w0 hSw
              clear hSw
              go_simp
              all_goals (with_reducible rfl)
            simp only [Act.put, List.setIfInBounds_toArray, List.set_cons_zero, List.set_cons_succ]
            refine wpAnyH_ready (rs := [25]) (by kernel_rfl) (by simp) ?_
            refine AllReadyH.cons (o := Oper.mk none _ _ _ _ _) rfl (fun K hK => ?_) AllReadyH.nil
            go_simp
            have hb9 : ((w1.alloc (.cells #[.int .i64 k, .int .i64 r, .int .i64 p, .string (Pl.bs f3), .bool o, .int .i64 0, .int .i64 0, .string ⟨#[]⟩, .int .i64 m] 45)).drew).heap[w1.heap.size]? = some (.cells #[.int .i64 k, .int .i64 r, .int .i64 p, .string (Pl.bs f3), .bool o, .int .i64 0, .int .i64 0, .string ⟨#[]⟩, .int .i64 m] 45 (0, 0)) := by show (w1.heap.push _)[w1.heap.size]? = _; rw [Array.getElem?_push_size]
            have hB9 : Below w1.heap.size w1 ((w1.alloc (.cells #[.int .i64 k, .int .i64 r, .int .i64 p, .string (Pl.bs f3), .bool o, .int .i64 0, .int .i64 0, .string ⟨#[]⟩, .int .i64 m] 45)).drew) := below_drew' ((Below.refl _ _).alloc (Nat.le_refl _) _)
            refine hK.out _ _ hB9 (fun _ => ?_)
            clear hK K hHeld
            (try simp only [Act.put, List.setIfInBounds_toArray, List.set_cons_zero, List.set_cons_succ])
            refine wpAnyH_done (by kernel_rfl) ?_ _
            refine NoPanic.normal ?_
            go_wp2_with fail
            go_meet
            exact ⟨_, rfl, Nat.le_refl _, hb9, hB9⟩
        · go_simp
          have hHeld' := hHeld.alloc hHeld.size (.cells #[.int .i64 0, .int .i64 0, .int .i64 0, .string ⟨#[]⟩, .bool false, .int .i64 0, .int .i64 0, .string ⟨#[]⟩, .int .i64 0] 45)
          refine hK.out _ _ hHeld' (fun hHeld => ?_)
          clear hK K hHeld'
          (try simp only [Act.put, List.setIfInBounds_toArray, List.set_cons_zero, List.set_cons_succ])
          refine wpAnyH_ready (rs := [11]) (by kernel_rfl) (by simp) ?_
          refine (AllReadyH.cons (o := Oper.mk (some 25) _ _ _ _ _) rfl (fun K hK => ?_) AllReadyH.nil)
          go_simp
          go_at_call 100
          refine (n2.out _).mono ?_
          rintro x0 w0 ⟨rfl, rfl⟩
          go_wp2_with fail
          refine hK.out _ _ hHeld (fun hHeld => ?_)
          clear hK K
          (try simp only [Act.put, List.setIfInBounds_toArray, List.set_cons_zero, List.set_cons_succ])
          refine wpAnyH_ready (rs := [22]) (by kernel_rfl) (by simp) ?_
          refine (AllReadyH.cons (o := Oper.mk (some 36) _ _ _ _ _) rfl (fun K hK => ?_) AllReadyH.nil)
          go_simp
          go_at_call 100
          refine (n5.out _).mono ?_
          rintro x0 w0 ⟨rfl, rfl⟩
          go_wp2_with fail
          refine hK.out _ _ hHeld (fun hHeld => ?_)
          clear hK K
          (try simp only [Act.put, List.setIfInBounds_toArray, List.set_cons_zero, List.set_cons_succ])
          refine wpAnyH_take (i := 23) (oi := Oper.mk (some 37) _ _ _ _ _) (v := ?_) rfl (by kernel_rfl) (by kernel_rfl) (by kernel_rfl) (fun _ _ _ h => h) (Or.inl ⟨by rfl, ?_⟩) (by assumption) ?_
          rotate_left
          · intro w0 hSw
            clear hSw
            go_simp
            all_goals (with_reducible rfl)
          simp only [Act.put, List.setIfInBounds_toArray, List.set_cons_zero, List.set_cons_succ]
          refine wpAnyH_ready (rs := [25]) (by kernel_rfl) (by simp) ?_
          refine AllReadyH.cons (o := Oper.mk none _ _ _ _ _) rfl (fun K hK => ?_) AllReadyH.nil
          go_simp
          have hb9 : ((w1.alloc (.cells #[.int .i64 k, .int .i64 r, .int .i64 p, .string (Pl.bs f3), .bool o, .int .i64 0, .int .i64 0, .string ⟨#[]⟩, .int .i64 m] 45)).drew).heap[w1.heap.size]? = some (.cells #[.int .i64 k, .int .i64 r, .int .i64 p, .string (Pl.bs f3), .bool o, .int .i64 0, .int .i64 0, .string ⟨#[]⟩, .int .i64 m] 45 (0, 0)) := by show (w1.heap.push _)[w1.heap.size]? = _; rw [Array.getElem?_push_size]
          have hB9 : Below w1.heap.size w1 ((w1.alloc (.cells #[.int .i64 k, .int .i64 r, .int .i64 p, .string (Pl.bs f3), .bool o, .int .i64 0, .int .i64 0, .string ⟨#[]⟩, .int .i64 m] 45)).drew) := below_drew' ((Below.refl _ _).alloc (Nat.le_refl _) _)
          refine hK.out _ _ hB9 (fun _ => ?_)
          clear hK K hHeld
          (try simp only [Act.put, List.setIfInBounds_toArray, List.set_cons_zero, List.set_cons_succ])
          refine wpAnyH_done (by kernel_rfl) ?_ _
          refine NoPanic.normal ?_
          go_wp2_with fail
          go_meet
          exact ⟨_, rfl, Nat.le_refl _, hb9, hB9⟩
      · go_simp
        have hHeld' := hHeld.alloc hHeld.size (.cells #[.int .i64 0, .int .i64 0, .int .i64 0, .string ⟨#[]⟩, .bool false, .int .i64 0, .int .i64 0, .string ⟨#[]⟩, .int .i64 0] 45)
        refine hK.out _ _ hHeld' (fun hHeld => ?_)
        clear hK K hHeld'
        (try simp only [Act.put, List.setIfInBounds_toArray, List.set_cons_zero, List.set_cons_succ])
        refine wpAnyH_ready (rs := [7]) (by kernel_rfl) (by simp) ?_
        refine (AllReadyH.cons (o := Oper.mk (some 21) _ _ _ _ _) rfl (fun K hK => ?_) AllReadyH.nil)
        go_simp
        go_at_call 100
        refine (n1.out _).mono ?_
        rintro x0 w0 ⟨rfl, rfl⟩
        go_wp2_with fail
        refine hK.out _ _ hHeld (fun hHeld => ?_)
        clear hK K
        (try simp only [Act.put, List.setIfInBounds_toArray, List.set_cons_zero, List.set_cons_succ])
        refine wpAnyH_ready (rs := [11]) (by kernel_rfl) (by simp) ?_
        refine (AllReadyH.cons (o := Oper.mk (some 25) _ _ _ _ _) rfl (fun K hK => ?_) AllReadyH.nil)
        go_simp
        go_at_call 100
        refine (n2.out _).mono ?_
        rintro x0 w0 ⟨rfl, rfl⟩
        go_wp2_with fail
        refine hK.out _ _ hHeld (fun hHeld => ?_)
        clear hK K
        (try simp only [Act.put, List.setIfInBounds_toArray, List.set_cons_zero, List.set_cons_succ])
        refine wpAnyH_ready (rs := [22]) (by kernel_rfl) (by simp) ?_
        refine (AllReadyH.cons (o := Oper.mk (some 36) _ _ _ _ _) rfl (fun K hK => ?_) AllReadyH.nil)
        go_simp
        go_at_call 100
        refine (n5.out _).mono ?_
        rintro x0 w0 ⟨rfl, rfl⟩
        go_wp2_with fail
        refine hK.out _ _ hHeld (fun hHeld => ?_)
        clear hK K
        (try simp only [Act.put, List.setIfInBounds_toArray, List.set_cons_zero, List.set_cons_succ])
        refine wpAnyH_take (i := 23) (oi := Oper.mk (some 37) _ _ _ _ _) (v := ?_) rfl (by kernel_rfl) (by kernel_rfl) (by kernel_rfl) (fun _ _ _ h => h) (Or.inl ⟨by rfl, ?_⟩) (by assumption) ?_
        rotate_left
        · intro w0 hSw
          clear hSw
          go_simp
          all_goals (with_reducible rfl)
        simp only [Act.put, List.setIfInBounds_toArray, List.set_cons_zero, List.set_cons_succ]
        refine wpAnyH_ready (rs := [25]) (by kernel_rfl) (by simp) ?_
        refine AllReadyH.cons (o := Oper.mk none _ _ _ _ _) rfl (fun K hK => ?_) AllReadyH.nil
        go_simp
        have hb9 : ((w1.alloc (.cells #[.int .i64 k, .int .i64 r, .int .i64 p, .string (Pl.bs f3), .bool o, .int .i64 0, .int .i64 0, .string ⟨#[]⟩, .int .i64 m] 45)).drew).heap[w1.heap.size]? = some (.cells #[.int .i64 k, .int .i64 r, .int .i64 p, .string (Pl.bs f3), .bool o, .int .i64 0, .int .i64 0, .string ⟨#[]⟩, .int .i64 m] 45 (0, 0)) := by show (w1.heap.push _)[w1.heap.size]? = _; rw [Array.getElem?_push_size]
        have hB9 : Below w1.heap.size w1 ((w1.alloc (.cells #[.int .i64 k, .int .i64 r, .int .i64 p, .string (Pl.bs f3), .bool o, .int .i64 0, .int .i64 0, .string ⟨#[]⟩, .int .i64 m] 45)).drew) := below_drew' ((Below.refl _ _).alloc (Nat.le_refl _) _)
        refine hK.out _ _ hB9 (fun _ => ?_)
        clear hK K hHeld
        (try simp only [Act.put, List.setIfInBounds_toArray, List.set_cons_zero, List.set_cons_succ])
        refine wpAnyH_done (by kernel_rfl) ?_ _
        refine NoPanic.normal ?_
        go_wp2_with fail
        go_meet
        exact ⟨_, rfl, Nat.le_refl _, hb9, hB9⟩
    · go_simp
      have hHeld' := hHeld.alloc hHeld.size (.cells #[.int .i64 0, .int .i64 0, .int .i64 0, .string ⟨#[]⟩, .bool false, .int .i64 0, .int .i64 0, .string ⟨#[]⟩, .int .i64 0] 45)
      refine hK.out _ _ hHeld' (fun hHeld => ?_)
      clear hK K hHeld'
      (try simp only [Act.put, List.setIfInBounds_toArray, List.set_cons_zero, List.set_cons_succ])
      refine wpAnyH_ready (rs := [3]) (by kernel_rfl) (by simp) ?_
      refine (AllReadyH.cons (o := Oper.mk (some 17) _ _ _ _ _) rfl (fun K hK => ?_) AllReadyH.nil)
      go_simp
      go_at_call 100
      refine (n0.out _).mono ?_
      rintro x0 w0 ⟨rfl, rfl⟩
      go_wp2_with fail
      refine hK.out _ _ hHeld (fun hHeld => ?_)
      clear hK K
      (try simp only [Act.put, List.setIfInBounds_toArray, List.set_cons_zero, List.set_cons_succ])
      refine wpAnyH_ready (rs := [7]) (by kernel_rfl) (by simp) ?_
      refine (AllReadyH.cons (o := Oper.mk (some 21) _ _ _ _ _) rfl (fun K hK => ?_) AllReadyH.nil)
      go_simp
      go_at_call 100
      refine (n1.out _).mono ?_
      rintro x0 w0 ⟨rfl, rfl⟩
      go_wp2_with fail
      refine hK.out _ _ hHeld (fun hHeld => ?_)
      clear hK K
      (try simp only [Act.put, List.setIfInBounds_toArray, List.set_cons_zero, List.set_cons_succ])
      refine wpAnyH_ready (rs := [11]) (by kernel_rfl) (by simp) ?_
      refine (AllReadyH.cons (o := Oper.mk (some 25) _ _ _ _ _) rfl (fun K hK => ?_) AllReadyH.nil)
      go_simp
      go_at_call 100
      refine (n2.out _).mono ?_
      rintro x0 w0 ⟨rfl, rfl⟩
      go_wp2_with fail
      refine hK.out _ _ hHeld (fun hHeld => ?_)
      clear hK K
      (try simp only [Act.put, List.setIfInBounds_toArray, List.set_cons_zero, List.set_cons_succ])
      refine wpAnyH_ready (rs := [22]) (by kernel_rfl) (by simp) ?_
      refine (AllReadyH.cons (o := Oper.mk (some 36) _ _ _ _ _) rfl (fun K hK => ?_) AllReadyH.nil)
      go_simp
      go_at_call 100
      refine (n5.out _).mono ?_
      rintro x0 w0 ⟨rfl, rfl⟩
      go_wp2_with fail
      refine hK.out _ _ hHeld (fun hHeld => ?_)
      clear hK K
      (try simp only [Act.put, List.setIfInBounds_toArray, List.set_cons_zero, List.set_cons_succ])
      refine wpAnyH_take (i := 23) (oi := Oper.mk (some 37) _ _ _ _ _) (v := ?_) rfl (by kernel_rfl) (by kernel_rfl) (by kernel_rfl) (fun _ _ _ h => h) (Or.inl ⟨by rfl, ?_⟩) (by assumption) ?_
      rotate_left
      · intro w0 hSw
        clear hSw
        go_simp
        all_goals (with_reducible rfl)
      simp only [Act.put, List.setIfInBounds_toArray, List.set_cons_zero, List.set_cons_succ]
      refine wpAnyH_ready (rs := [25]) (by kernel_rfl) (by simp) ?_
      refine AllReadyH.cons (o := Oper.mk none _ _ _ _ _) rfl (fun K hK => ?_) AllReadyH.nil
      go_simp
      have hb9 : ((w1.alloc (.cells #[.int .i64 k, .int .i64 r, .int .i64 p, .string (Pl.bs f3), .bool o, .int .i64 0, .int .i64 0, .string ⟨#[]⟩, .int .i64 m] 45)).drew).heap[w1.heap.size]? = some (.cells #[.int .i64 k, .int .i64 r, .int .i64 p, .string (Pl.bs f3), .bool o, .int .i64 0, .int .i64 0, .string ⟨#[]⟩, .int .i64 m] 45 (0, 0)) := by show (w1.heap.push _)[w1.heap.size]? = _; rw [Array.getElem?_push_size]
      have hB9 : Below w1.heap.size w1 ((w1.alloc (.cells #[.int .i64 k, .int .i64 r, .int .i64 p, .string (Pl.bs f3), .bool o, .int .i64 0, .int .i64 0, .string ⟨#[]⟩, .int .i64 m] 45)).drew) := below_drew' ((Below.refl _ _).alloc (Nat.le_refl _) _)
      refine hK.out _ _ hB9 (fun _ => ?_)
      clear hK K hHeld
      (try simp only [Act.put, List.setIfInBounds_toArray, List.set_cons_zero, List.set_cons_succ])
      refine wpAnyH_done (by kernel_rfl) ?_ _
      refine NoPanic.normal ?_
      go_wp2_with fail
      go_meet
      exact ⟨_, rfl, Nat.le_refl _, hb9, hB9⟩
  case rest =>
    obtain ⟨b, rfl, hXb, hbb, hBc⟩ := hcut
    have HBX2 := hide ((hBc.block _ hlt1).trans HBX.out)
    have HBL2 := hide (HBL.out.trans (hBc.mono HBL.out.size))
    have HR2 := hide (HR.out.later hBc)
    have hltb : b < wc.heap.size := (Array.getElem?_eq_some_iff.1 hbb).1
    obtain ⟨hlt', d0, d1, d2, d3, d4, d5, d6⟩ := id HR2.out
    have HBB := hide hbb
    clear hBc hbb HBX HBL HR hlt c0 c1 c2 c3 c4 c5 c6 n0 n1 n2 n5 hc d0 d1 d2 d3 d4 d5
    go_wp2_with fail
    refine (hg.out _).mono ?_
    rintro e2 w2 ⟨rfl, hB2⟩
    have hlt2 : w.heap.size < w2.heap.size := by have := hB2.size; omega
    have hltb2 : b < w2.heap.size := by have := hB2.size; omega
    have hne : w.heap.size ≠ b := by omega
    have hle : w.heap.size ≤ b := by omega
    have HBB2 := hide ((hB2.block b hltb).trans HBB.out)
    have HBX3 := hide ((hB2.block w.heap.size (by omega)).trans HBX2.out)
    have HBL3 := hide (HBL2.out.trans (hB2.mono HBL2.out.size))
    clear hB2 HBB HBX2 HBL2 HR2 hlt' d6 hg hltb hlt1 hXb
    have p0 := cell_of_block HBB2.out 0
    have p1 := cell_of_block HBB2.out 1
    have p2 := cell_of_block HBB2.out 2
    have p3 := cell_of_block HBB2.out 3
    have p4 := cell_of_block HBB2.out 4
    have p5 := cell_of_block HBB2.out 5
    have p6 := cell_of_block HBB2.out 6
    have p7 := cell_of_block HBB2.out 7
    have p8 := cell_of_block HBB2.out 8
    have e0 := free_of_block HBB2.out 0
    have e1 := free_of_block HBB2.out 1
    have e2 := free_of_block HBB2.out 2
    have e3 := free_of_block HBB2.out 3
    have e4 := free_of_block HBB2.out 4
    have e5 := free_of_block HBB2.out 5
    have e6 := free_of_block HBB2.out 6
    have e7 := free_of_block HBB2.out 7
    have e8 := free_of_block HBB2.out 8
    simp only [List.getElem?_toArray, List.getElem?_cons_zero, List.getElem?_cons_succ] at p0 p1 p2 p3 p4 p5 p6 p7 p8
    go_upto_region 7 with fail
    refine act_code (fun X => X.heap[b]? = some (.cells #[.int .i64 k, .int .i64 r, .int .i64 p, .string (Pl.bs f3), .bool o, .int .i64 vk, .int .i64 vn, .string vt, .int .i64 m] 45 (0, 0)) ∧ X.heap[w.heap.size]? = some (.cells #[.int .i64 0, .int .i64 0, .int .i64 0, .string ⟨#[]⟩, .bool false, .int .i64 0, .int .i64 0, .string ⟨#[]⟩, .int .i64 0] 45 (0, 0)) ∧ Below w.heap.size w X ∧ b < X.heap.size) (mid_set HBB2.out HBX3.out HBL3.out hne hle hltb2 hlt2 _ _ _ _) ?_
    rintro X ⟨bB, bX, hXL, hltX⟩
    have HBB := hide bB
    have HBX := hide bX
    have HXL := hide hXL
    have hltw : w.heap.size < X.heap.size := by omega
    clear bB bX hXL HBB2 HBX3 HBL3 hltb2 hlt2 p0 e0 p1 e1 p2 e2 p3 e3 p4 e4 p5 e5 p6 e6 p7 e7 p8 e8
    cases vb
    · have hno : ∀ k r p nm o vk vn vt m, ¬ Pl.TellsA s k r p nm o vk vn vt m := fun k' r' p' nm' o' vk' vn' vt' m' ht => absurd (HO.out _ _ _ _ _ _ _ _ _ ht).2 (by simp)
      have HN := hide hno
      clear hno HO hl hok
      have r0 := cell_of_block HBX.out 0
      have r1 := cell_of_block HBX.out 1
      have r2 := cell_of_block HBX.out 2
      have r3 := cell_of_block HBX.out 3
      have r4 := cell_of_block HBX.out 4
      have r5 := cell_of_block HBX.out 5
      have r6 := cell_of_block HBX.out 6
      have r7 := cell_of_block HBX.out 7
      have r8 := cell_of_block HBX.out 8
      have g0 := free_of_block HBX.out 0
      have g1 := free_of_block HBX.out 1
      have g2 := free_of_block HBX.out 2
      have g3 := free_of_block HBX.out 3
      have g4 := free_of_block HBX.out 4
      have g5 := free_of_block HBX.out 5
      have g6 := free_of_block HBX.out 6
      have g7 := free_of_block HBX.out 7
      have g8 := free_of_block HBX.out 8
      simp only [List.getElem?_toArray, List.getElem?_cons_zero, List.getElem?_cons_succ] at r0 r1 r2 r3 r4 r5 r6 r7 r8
      go_wp2_with fail
      have hb9 := nine_set HBX.out (.int .i64 0) (.int .i64 0) (.int .i64 0) (.string ⟨#[]⟩) (.bool false) (.int .i64 0) (.int .i64 0) (.string ⟨#[]⟩) (.int .i64 0)
      have hB9 := nine_below HXL.out (Nat.le_refl _) (.int .i64 0) (.int .i64 0) (.int .i64 0) (.string ⟨#[]⟩) (.bool false) (.int .i64 0) (.int .i64 0) (.string ⟨#[]⟩) (.int .i64 0)
      clear r0 g0 r1 g1 r2 g2 r3 g3 r4 g4 r5 g5 r6 g6 r7 g7 r8 g8
      generalize (((((((((X.setCell ⟨w.heap.size, 0, none⟩ (.int .i64 0)).setCell ⟨w.heap.size, 1, none⟩ (.int .i64 0)).setCell ⟨w.heap.size, 2, none⟩ (.int .i64 0)).setCell ⟨w.heap.size, 3, none⟩ (.string ⟨#[]⟩)).setCell ⟨w.heap.size, 4, none⟩ (.bool false)).setCell ⟨w.heap.size, 5, none⟩ (.int .i64 0)).setCell ⟨w.heap.size, 6, none⟩ (.int .i64 0)).setCell ⟨w.heap.size, 7, none⟩ (.string ⟨#[]⟩)).setCell ⟨w.heap.size, 8, none⟩ (.int .i64 0)) = W9 at *
      have s0 := cell_of_block hb9 0
      have s1 := cell_of_block hb9 1
      have s2 := cell_of_block hb9 2
      have s3 := cell_of_block hb9 3
      have s4 := cell_of_block hb9 4
      have s5 := cell_of_block hb9 5
      have s6 := cell_of_block hb9 6
      have s7 := cell_of_block hb9 7
      have s8 := cell_of_block hb9 8
      refine bodyPost_ret (v := .tuple #[actV 0 0 0 ⟨#[]⟩ false 0 0 ⟨#[]⟩ 0, .bool false]) (by simp [results, Tryz.results75, go_sem, s0, s1, s2, s3, s4, s5, s6, s7, s8]) rfl ?_
      exact ⟨.inr ⟨HN.out, rfl⟩, hB9⟩
    · cases hb : Pl.actB k r p (Pl.bs f3) o vk vn vt m
      · have hno : ∀ k r p nm o vk vn vt m, ¬ Pl.TellsA s k r p nm o vk vn vt m := fun k' r' p' nm' o' vk' vn' vt' m' ht => by
          obtain ⟨⟨rfl, rfl, rfl, rfl, rfl, rfl, rfl, rfl, rfl⟩, _⟩ := HO.out _ _ _ _ _ _ _ _ _ ht
          rw [ht.1] at hb
          cases hb
        have HN := hide hno
        rw [hb] at hok
        clear hno HO hl hb
        have p0 := cell_of_block HBB.out 0
        have p1 := cell_of_block HBB.out 1
        have p2 := cell_of_block HBB.out 2
        have p3 := cell_of_block HBB.out 3
        have p4 := cell_of_block HBB.out 4
        have p5 := cell_of_block HBB.out 5
        have p6 := cell_of_block HBB.out 6
        have p7 := cell_of_block HBB.out 7
        have p8 := cell_of_block HBB.out 8
        simp only [List.getElem?_toArray, List.getElem?_cons_zero, List.getElem?_cons_succ] at p0 p1 p2 p3 p4 p5 p6 p7 p8
        go_wp2_with fail
        refine (hok.out _).mono ?_
        rintro ew3 w3 ⟨rfl, hBn⟩
        have HBBw3 := hide ((hBn.block b (by omega)).trans HBB.out)
        have HBXw3 := hide ((hBn.block w.heap.size (by omega)).trans HBX.out)
        have HXLw3 := hide (HXL.out.trans (hBn.mono HXL.out.size))
        have hltw3 : b < w3.heap.size := by have := hBn.size; omega
        have hltww3 : w.heap.size < w3.heap.size := by have := hBn.size; omega
        clear hBn
        clear p0 p1 p2 p3 p4 p5 p6 p7 p8
        have r0 := cell_of_block HBXw3.out 0
        have r1 := cell_of_block HBXw3.out 1
        have r2 := cell_of_block HBXw3.out 2
        have r3 := cell_of_block HBXw3.out 3
        have r4 := cell_of_block HBXw3.out 4
        have r5 := cell_of_block HBXw3.out 5
        have r6 := cell_of_block HBXw3.out 6
        have r7 := cell_of_block HBXw3.out 7
        have r8 := cell_of_block HBXw3.out 8
        have g0 := free_of_block HBXw3.out 0
        have g1 := free_of_block HBXw3.out 1
        have g2 := free_of_block HBXw3.out 2
        have g3 := free_of_block HBXw3.out 3
        have g4 := free_of_block HBXw3.out 4
        have g5 := free_of_block HBXw3.out 5
        have g6 := free_of_block HBXw3.out 6
        have g7 := free_of_block HBXw3.out 7
        have g8 := free_of_block HBXw3.out 8
        simp only [List.getElem?_toArray, List.getElem?_cons_zero, List.getElem?_cons_succ] at r0 r1 r2 r3 r4 r5 r6 r7 r8
        go_wp2_with fail
        have hb9 := nine_set HBXw3.out (.int .i64 0) (.int .i64 0) (.int .i64 0) (.string ⟨#[]⟩) (.bool false) (.int .i64 0) (.int .i64 0) (.string ⟨#[]⟩) (.int .i64 0)
        have hB9 := nine_below HXLw3.out (Nat.le_refl _) (.int .i64 0) (.int .i64 0) (.int .i64 0) (.string ⟨#[]⟩) (.bool false) (.int .i64 0) (.int .i64 0) (.string ⟨#[]⟩) (.int .i64 0)
        clear r0 g0 r1 g1 r2 g2 r3 g3 r4 g4 r5 g5 r6 g6 r7 g7 r8 g8
        generalize (((((((((w3.setCell ⟨w.heap.size, 0, none⟩ (.int .i64 0)).setCell ⟨w.heap.size, 1, none⟩ (.int .i64 0)).setCell ⟨w.heap.size, 2, none⟩ (.int .i64 0)).setCell ⟨w.heap.size, 3, none⟩ (.string ⟨#[]⟩)).setCell ⟨w.heap.size, 4, none⟩ (.bool false)).setCell ⟨w.heap.size, 5, none⟩ (.int .i64 0)).setCell ⟨w.heap.size, 6, none⟩ (.int .i64 0)).setCell ⟨w.heap.size, 7, none⟩ (.string ⟨#[]⟩)).setCell ⟨w.heap.size, 8, none⟩ (.int .i64 0)) = W9 at *
        have s0 := cell_of_block hb9 0
        have s1 := cell_of_block hb9 1
        have s2 := cell_of_block hb9 2
        have s3 := cell_of_block hb9 3
        have s4 := cell_of_block hb9 4
        have s5 := cell_of_block hb9 5
        have s6 := cell_of_block hb9 6
        have s7 := cell_of_block hb9 7
        have s8 := cell_of_block hb9 8
        refine bodyPost_ret (v := .tuple #[actV 0 0 0 ⟨#[]⟩ false 0 0 ⟨#[]⟩ 0, .bool false]) (by simp [results, Tryz.results75, go_sem, s0, s1, s2, s3, s4, s5, s6, s7, s8]) rfl ?_
        exact ⟨.inr ⟨HN.out, rfl⟩, hB9⟩
      · have hl := hide (hl.out hb)
        have hcmp : ((Pl.bs (Pl.actT k r p (Pl.bs f3) o vk vn vt m)).toList == s.toList) = (Pl.actT k r p (Pl.bs f3) o vk vn vt m == s.data.toList) := by rw [Pl.bs_toList, Lib.toList_data]
        cases hq : (Pl.actT k r p (Pl.bs f3) o vk vn vt m == s.data.toList)
        · have hno : ∀ k r p nm o vk vn vt m, ¬ Pl.TellsA s k r p nm o vk vn vt m := fun k' r' p' nm' o' vk' vn' vt' m' ht => by
            obtain ⟨⟨rfl, rfl, rfl, rfl, rfl, rfl, rfl, rfl, rfl⟩, _⟩ := HO.out _ _ _ _ _ _ _ _ _ ht
            have h2 := ht.2
            rw [h2] at hq
            simp at hq
          have HN := hide hno
          clear hno HO
          rw [hq] at hcmp
          generalize Pl.actT k r p (Pl.bs f3) o vk vn vt m = AT at *
          rw [hb] at hok
          have p0 := cell_of_block HBB.out 0
          have p1 := cell_of_block HBB.out 1
          have p2 := cell_of_block HBB.out 2
          have p3 := cell_of_block HBB.out 3
          have p4 := cell_of_block HBB.out 4
          have p5 := cell_of_block HBB.out 5
          have p6 := cell_of_block HBB.out 6
          have p7 := cell_of_block HBB.out 7
          have p8 := cell_of_block HBB.out 8
          simp only [List.getElem?_toArray, List.getElem?_cons_zero, List.getElem?_cons_succ] at p0 p1 p2 p3 p4 p5 p6 p7 p8
          go_wp2_with fail
          refine (hok.out _).mono ?_
          rintro ew3 w3 ⟨rfl, hBn⟩
          have HBBw3 := hide ((hBn.block b (by omega)).trans HBB.out)
          have HBXw3 := hide ((hBn.block w.heap.size (by omega)).trans HBX.out)
          have HXLw3 := hide (HXL.out.trans (hBn.mono HXL.out.size))
          have hltw3 : b < w3.heap.size := by have := hBn.size; omega
          have hltww3 : w.heap.size < w3.heap.size := by have := hBn.size; omega
          clear hBn
          clear p0 p1 p2 p3 p4 p5 p6 p7 p8
          have p0 := cell_of_block HBBw3.out 0
          have p1 := cell_of_block HBBw3.out 1
          have p2 := cell_of_block HBBw3.out 2
          have p3 := cell_of_block HBBw3.out 3
          have p4 := cell_of_block HBBw3.out 4
          have p5 := cell_of_block HBBw3.out 5
          have p6 := cell_of_block HBBw3.out 6
          have p7 := cell_of_block HBBw3.out 7
          have p8 := cell_of_block HBBw3.out 8
          simp only [List.getElem?_toArray, List.getElem?_cons_zero, List.getElem?_cons_succ] at p0 p1 p2 p3 p4 p5 p6 p7 p8
          go_wp2_with fail
          refine (hl.out _).mono ?_
          rintro ew4 w4 ⟨rfl, hBn⟩
          have HBBw4 := hide ((hBn.block b (by omega)).trans HBBw3.out)
          have HBXw4 := hide ((hBn.block w.heap.size (by omega)).trans HBXw3.out)
          have HXLw4 := hide (HXLw3.out.trans (hBn.mono HXLw3.out.size))
          have hltw4 : b < w4.heap.size := by have := hBn.size; omega
          have hltww4 : w.heap.size < w4.heap.size := by have := hBn.size; omega
          clear hBn
          clear p0 p1 p2 p3 p4 p5 p6 p7 p8
          have r0 := cell_of_block HBXw4.out 0
          have r1 := cell_of_block HBXw4.out 1
          have r2 := cell_of_block HBXw4.out 2
          have r3 := cell_of_block HBXw4.out 3
          have r4 := cell_of_block HBXw4.out 4
          have r5 := cell_of_block HBXw4.out 5
          have r6 := cell_of_block HBXw4.out 6
          have r7 := cell_of_block HBXw4.out 7
          have r8 := cell_of_block HBXw4.out 8
          have g0 := free_of_block HBXw4.out 0
          have g1 := free_of_block HBXw4.out 1
          have g2 := free_of_block HBXw4.out 2
          have g3 := free_of_block HBXw4.out 3
          have g4 := free_of_block HBXw4.out 4
          have g5 := free_of_block HBXw4.out 5
          have g6 := free_of_block HBXw4.out 6
          have g7 := free_of_block HBXw4.out 7
          have g8 := free_of_block HBXw4.out 8
          simp only [List.getElem?_toArray, List.getElem?_cons_zero, List.getElem?_cons_succ] at r0 r1 r2 r3 r4 r5 r6 r7 r8
          go_wp2_with fail
          have hb9 := nine_set HBXw4.out (.int .i64 0) (.int .i64 0) (.int .i64 0) (.string ⟨#[]⟩) (.bool false) (.int .i64 0) (.int .i64 0) (.string ⟨#[]⟩) (.int .i64 0)
          have hB9 := nine_below HXLw4.out (Nat.le_refl _) (.int .i64 0) (.int .i64 0) (.int .i64 0) (.string ⟨#[]⟩) (.bool false) (.int .i64 0) (.int .i64 0) (.string ⟨#[]⟩) (.int .i64 0)
          clear r0 g0 r1 g1 r2 g2 r3 g3 r4 g4 r5 g5 r6 g6 r7 g7 r8 g8
          generalize (((((((((w4.setCell ⟨w.heap.size, 0, none⟩ (.int .i64 0)).setCell ⟨w.heap.size, 1, none⟩ (.int .i64 0)).setCell ⟨w.heap.size, 2, none⟩ (.int .i64 0)).setCell ⟨w.heap.size, 3, none⟩ (.string ⟨#[]⟩)).setCell ⟨w.heap.size, 4, none⟩ (.bool false)).setCell ⟨w.heap.size, 5, none⟩ (.int .i64 0)).setCell ⟨w.heap.size, 6, none⟩ (.int .i64 0)).setCell ⟨w.heap.size, 7, none⟩ (.string ⟨#[]⟩)).setCell ⟨w.heap.size, 8, none⟩ (.int .i64 0)) = W9 at *
          have s0 := cell_of_block hb9 0
          have s1 := cell_of_block hb9 1
          have s2 := cell_of_block hb9 2
          have s3 := cell_of_block hb9 3
          have s4 := cell_of_block hb9 4
          have s5 := cell_of_block hb9 5
          have s6 := cell_of_block hb9 6
          have s7 := cell_of_block hb9 7
          have s8 := cell_of_block hb9 8
          refine bodyPost_ret (v := .tuple #[actV 0 0 0 ⟨#[]⟩ false 0 0 ⟨#[]⟩ 0, .bool false]) (by simp [results, Tryz.results75, go_sem, s0, s1, s2, s3, s4, s5, s6, s7, s8]) rfl ?_
          exact ⟨.inr ⟨HN.out, rfl⟩, hB9⟩
        · have hyes := hide (show Pl.TellsA s k r p (Pl.bs f3) o vk vn vt m from ⟨hb, eq_of_beq hq⟩)
          clear HO
          rw [hq] at hcmp
          generalize Pl.actT k r p (Pl.bs f3) o vk vn vt m = AT at *
          rw [hb] at hok
          have p0 := cell_of_block HBB.out 0
          have p1 := cell_of_block HBB.out 1
          have p2 := cell_of_block HBB.out 2
          have p3 := cell_of_block HBB.out 3
          have p4 := cell_of_block HBB.out 4
          have p5 := cell_of_block HBB.out 5
          have p6 := cell_of_block HBB.out 6
          have p7 := cell_of_block HBB.out 7
          have p8 := cell_of_block HBB.out 8
          simp only [List.getElem?_toArray, List.getElem?_cons_zero, List.getElem?_cons_succ] at p0 p1 p2 p3 p4 p5 p6 p7 p8
          go_wp2_with fail
          refine (hok.out _).mono ?_
          rintro ew3 w3 ⟨rfl, hBn⟩
          have HBBw3 := hide ((hBn.block b (by omega)).trans HBB.out)
          have HBXw3 := hide ((hBn.block w.heap.size (by omega)).trans HBX.out)
          have HXLw3 := hide (HXL.out.trans (hBn.mono HXL.out.size))
          have hltw3 : b < w3.heap.size := by have := hBn.size; omega
          have hltww3 : w.heap.size < w3.heap.size := by have := hBn.size; omega
          clear hBn
          clear p0 p1 p2 p3 p4 p5 p6 p7 p8
          have p0 := cell_of_block HBBw3.out 0
          have p1 := cell_of_block HBBw3.out 1
          have p2 := cell_of_block HBBw3.out 2
          have p3 := cell_of_block HBBw3.out 3
          have p4 := cell_of_block HBBw3.out 4
          have p5 := cell_of_block HBBw3.out 5
          have p6 := cell_of_block HBBw3.out 6
          have p7 := cell_of_block HBBw3.out 7
          have p8 := cell_of_block HBBw3.out 8
          simp only [List.getElem?_toArray, List.getElem?_cons_zero, List.getElem?_cons_succ] at p0 p1 p2 p3 p4 p5 p6 p7 p8
          go_wp2_with fail
          refine (hl.out _).mono ?_
          rintro ew4 w4 ⟨rfl, hBn⟩
          have HBBw4 := hide ((hBn.block b (by omega)).trans HBBw3.out)
          have HBXw4 := hide ((hBn.block w.heap.size (by omega)).trans HBXw3.out)
          have HXLw4 := hide (HXLw3.out.trans (hBn.mono HXLw3.out.size))
          have hltw4 : b < w4.heap.size := by have := hBn.size; omega
          have hltww4 : w.heap.size < w4.heap.size := by have := hBn.size; omega
          clear hBn
          clear p0 p1 p2 p3 p4 p5 p6 p7 p8
          have r0 := cell_of_block HBXw4.out 0
          have r1 := cell_of_block HBXw4.out 1
          have r2 := cell_of_block HBXw4.out 2
          have r3 := cell_of_block HBXw4.out 3
          have r4 := cell_of_block HBXw4.out 4
          have r5 := cell_of_block HBXw4.out 5
          have r6 := cell_of_block HBXw4.out 6
          have r7 := cell_of_block HBXw4.out 7
          have r8 := cell_of_block HBXw4.out 8
          have g0 := free_of_block HBXw4.out 0
          have g1 := free_of_block HBXw4.out 1
          have g2 := free_of_block HBXw4.out 2
          have g3 := free_of_block HBXw4.out 3
          have g4 := free_of_block HBXw4.out 4
          have g5 := free_of_block HBXw4.out 5
          have g6 := free_of_block HBXw4.out 6
          have g7 := free_of_block HBXw4.out 7
          have g8 := free_of_block HBXw4.out 8
          simp only [List.getElem?_toArray, List.getElem?_cons_zero, List.getElem?_cons_succ] at r0 r1 r2 r3 r4 r5 r6 r7 r8
          have p0 := cell_of_block HBBw4.out 0
          have p1 := cell_of_block HBBw4.out 1
          have p2 := cell_of_block HBBw4.out 2
          have p3 := cell_of_block HBBw4.out 3
          have p4 := cell_of_block HBBw4.out 4
          have p5 := cell_of_block HBBw4.out 5
          have p6 := cell_of_block HBBw4.out 6
          have p7 := cell_of_block HBBw4.out 7
          have p8 := cell_of_block HBBw4.out 8
          simp only [List.getElem?_toArray, List.getElem?_cons_zero, List.getElem?_cons_succ] at p0 p1 p2 p3 p4 p5 p6 p7 p8
          go_wp2_with fail
          clear p0 p1 p2 p3 p4 p5 p6 p7 p8
          have hb9 := nine_set HBXw4.out (.int .i64 k) (.int .i64 r) (.int .i64 p) (.string (Pl.bs f3)) (.bool o) (.int .i64 vk) (.int .i64 vn) (.string vt) (.int .i64 m)
          have hB9 := nine_below HXLw4.out (Nat.le_refl _) (.int .i64 k) (.int .i64 r) (.int .i64 p) (.string (Pl.bs f3)) (.bool o) (.int .i64 vk) (.int .i64 vn) (.string vt) (.int .i64 m)
          clear r0 g0 r1 g1 r2 g2 r3 g3 r4 g4 r5 g5 r6 g6 r7 g7 r8 g8
          generalize (((((((((w4.setCell ⟨w.heap.size, 0, none⟩ (.int .i64 k)).setCell ⟨w.heap.size, 1, none⟩ (.int .i64 r)).setCell ⟨w.heap.size, 2, none⟩ (.int .i64 p)).setCell ⟨w.heap.size, 3, none⟩ (.string (Pl.bs f3))).setCell ⟨w.heap.size, 4, none⟩ (.bool o)).setCell ⟨w.heap.size, 5, none⟩ (.int .i64 vk)).setCell ⟨w.heap.size, 6, none⟩ (.int .i64 vn)).setCell ⟨w.heap.size, 7, none⟩ (.string vt)).setCell ⟨w.heap.size, 8, none⟩ (.int .i64 m)) = W9 at *
          have s0 := cell_of_block hb9 0
          have s1 := cell_of_block hb9 1
          have s2 := cell_of_block hb9 2
          have s3 := cell_of_block hb9 3
          have s4 := cell_of_block hb9 4
          have s5 := cell_of_block hb9 5
          have s6 := cell_of_block hb9 6
          have s7 := cell_of_block hb9 7
          have s8 := cell_of_block hb9 8
          refine bodyPost_ret (v := .tuple #[actV k r p (Pl.bs f3) o vk vn vt m, .bool true]) (by simp [results, Tryz.results75, go_sem, s0, s1, s2, s3, s4, s5, s6, s7, s8]) rfl ?_
          exact ⟨.inl ⟨k, r, p, Pl.bs f3, o, vk, vn, vt, m, hyes.out, rfl⟩, hB9⟩
end Go.Proofs.YtbckbfjnifafaaaGreatDoor

/- An act that is read, as both have it; two acts held against each other. -/
namespace Go.Proofs.YtbckbfjnifafaaaGreatDoor
open Go.RowKit
set_option linter.unusedVariables false
set_option linter.unusedSimpArgs false
set_option maxHeartbeats 400000 in
theorem eqVal_ag (k n : Int) (t : ByteArray) (w : World) :
    Calls Tryz.prog 52 #[vAgg k n t, vAgg k n t] w fun e w' => e = .returned (.bool true) ∧ Below w.heap.size w w' := by
  go_enter Tryz.func52, Tryz.ntmps52
  go_wp2
  go_ret
  exact ⟨rfl, ((Below.refl _ _).alloc (Nat.le_refl _) _).alloc (by simp) _⟩
set_option maxRecDepth 100000 in
set_option maxHeartbeats 1600000 in
theorem eqAct_any (k r p : Int) (nm : ByteArray) (o : Bool) (vk vn : Int) (vt : ByteArray) (m : Int) (w : World) :
    Calls Tryz.prog 33 #[actV k r p nm o vk vn vt m, actV k r p nm o vk vn vt m] w fun e w' => e = .returned (.bool true) ∧ Below w.heap.size w w' := by
  have hv := hide (eqVal_ag vk vn vt)
  have hoo : (o != o) = false := by cases o <;> rfl
  go_enter Tryz.func33, Tryz.ntmps33
  go_wp2_with fail
  refine (hv.out _).mono ?_
  rintro e w1 ⟨rfl, hB1⟩
  obtain ⟨ba, bb, hbl, hsz⟩ := box2_after hB1
  have a8 : w1.cell? ⟨w.heap.size, 8, none⟩ = some (.int .i64 m) := cell_of_block ba 8
  have b8 : w1.cell? ⟨w.heap.size + 1, 8, none⟩ = some (.int .i64 m) := cell_of_block bb 8
  have HBL := hide hbl
  clear hB1 hbl ba bb
  go_wp2
  go_ret
  exact ⟨rfl, HBL.out⟩
theorem seven_list : ∀ l : List (List UInt8), l.length = 7 → ∃ a b c d e f g, l = [a, b, c, d, e, f, g]
  | [a, b, c, d, e, f, g], _ => ⟨a, b, c, d, e, f, g, rfl⟩
set_option maxRecDepth 100000 in
set_option maxHeartbeats 1600000 in
theorem specActGet_any (s : ByteArray) (hs : s.size ≤ 1048576) (w : World) : Calls Tryz.prog 75 #[.string s] w (AgPost s w) := by
  by_cases h7 : (Pl.cutG 32 6 [] s.data.toList).length = 7
  · obtain ⟨f0, f1, f2, f3, f4, f5, f6, hF⟩ := seven_list _ h7
    exact specActGet_seven s hs f0 f1 f2 f3 f4 f5 f6 hF w
  · have hno : ∀ k r p nm o vk vn vt m, ¬ Pl.TellsA s k r p nm o vk vn vt m := fun k r p nm o vk vn vt m ht => by
      have h1 := Pl.act_cut ht.1
      rw [ht.2] at h1
      rw [h1] at h7
      exact h7 rfl
    have HN := hide hno
    have hc := hide (l5Cut_any s 32 6 hs (by omega))
    generalize Pl.cutG 32 6 [] s.data.toList = F at *
    have hlb : (((F.length : Nat) : Int) != 7) = true := by
      rw [bne_iff_ne]
      omega
    clear hno
    go_enter Tryz.func75, Tryz.ntmps75
    go_wp2_with fail
    refine (hc.out _).mono ?_
    rintro e1 w1 ⟨v, rfl, hown, hB1⟩
    obtain ⟨av, cv, rfl⟩ := ownsRow_form hown
    obtain ⟨bx0, HB1, hlt1⟩ := box_after hB1
    have HBX := hide bx0
    have HBL := hide HB1
    clear hB1 bx0 HB1 hown
    have r0 := cell_of_block HBX.out 0
    have r1 := cell_of_block HBX.out 1
    have r2 := cell_of_block HBX.out 2
    have r3 := cell_of_block HBX.out 3
    have r4 := cell_of_block HBX.out 4
    have r5 := cell_of_block HBX.out 5
    have r6 := cell_of_block HBX.out 6
    have r7 := cell_of_block HBX.out 7
    have r8 := cell_of_block HBX.out 8
    have g0 := free_of_block HBX.out 0
    have g1 := free_of_block HBX.out 1
    have g2 := free_of_block HBX.out 2
    have g3 := free_of_block HBX.out 3
    have g4 := free_of_block HBX.out 4
    have g5 := free_of_block HBX.out 5
    have g6 := free_of_block HBX.out 6
    have g7 := free_of_block HBX.out 7
    have g8 := free_of_block HBX.out 8
    simp only [List.getElem?_toArray, List.getElem?_cons_zero, List.getElem?_cons_succ] at r0 r1 r2 r3 r4 r5 r6 r7 r8
    go_wp2_with fail
    have hb9 := nine_set HBX.out (.int .i64 0) (.int .i64 0) (.int .i64 0) (.string ⟨#[]⟩) (.bool false) (.int .i64 0) (.int .i64 0) (.string ⟨#[]⟩) (.int .i64 0)
    have hB9 := nine_below HBL.out (Nat.le_refl _) (.int .i64 0) (.int .i64 0) (.int .i64 0) (.string ⟨#[]⟩) (.bool false) (.int .i64 0) (.int .i64 0) (.string ⟨#[]⟩) (.int .i64 0)
    clear r0 g0 r1 g1 r2 g2 r3 g3 r4 g4 r5 g5 r6 g6 r7 g7 r8 g8
    generalize (((((((((w1.setCell ⟨w.heap.size, 0, none⟩ (.int .i64 0)).setCell ⟨w.heap.size, 1, none⟩ (.int .i64 0)).setCell ⟨w.heap.size, 2, none⟩ (.int .i64 0)).setCell ⟨w.heap.size, 3, none⟩ (.string ⟨#[]⟩)).setCell ⟨w.heap.size, 4, none⟩ (.bool false)).setCell ⟨w.heap.size, 5, none⟩ (.int .i64 0)).setCell ⟨w.heap.size, 6, none⟩ (.int .i64 0)).setCell ⟨w.heap.size, 7, none⟩ (.string ⟨#[]⟩)).setCell ⟨w.heap.size, 8, none⟩ (.int .i64 0)) = W9 at *
    have s0 := cell_of_block hb9 0
    have s1 := cell_of_block hb9 1
    have s2 := cell_of_block hb9 2
    have s3 := cell_of_block hb9 3
    have s4 := cell_of_block hb9 4
    have s5 := cell_of_block hb9 5
    have s6 := cell_of_block hb9 6
    have s7 := cell_of_block hb9 7
    have s8 := cell_of_block hb9 8
    refine bodyPost_ret (v := .tuple #[actV 0 0 0 ⟨#[]⟩ false 0 0 ⟨#[]⟩ 0, .bool false]) (by simp [results, Tryz.results75, go_sem, s0, s1, s2, s3, s4, s5, s6, s7, s8]) rfl ?_
    exact ⟨.inr ⟨HN.out, rfl⟩, hB9⟩
/-- the two answers are one -/
theorem one_act (s : ByteArray) : ∃ (k r p : Int) (nm : ByteArray) (o : Bool) (vk vn : Int) (vt : ByteArray) (m : Int) (b : Bool), (b = true → Pl.TellsA s k r p nm o vk vn vt m) ∧ ∀ (w : World) (e : Ending) (w' : World), AgPost s w e w' → e = .returned (.tuple #[actV k r p nm o vk vn vt m, .bool b]) ∧ Below w.heap.size w w' := by
  by_cases hx : ∃ k r p nm o vk vn vt m, Pl.TellsA s k r p nm o vk vn vt m
  · obtain ⟨k, r, p, nm, o, vk, vn, vt, m, ht⟩ := hx
    refine ⟨k, r, p, nm, o, vk, vn, vt, m, true, fun _ => ht, ?_⟩
    rintro w e w' ⟨h, hB⟩
    rcases h with ⟨k', r', p', nm', o', vk', vn', vt', m', ht', rfl⟩ | ⟨hn, _⟩
    · obtain ⟨rfl, rfl, rfl, rfl, rfl, rfl, rfl, rfl, rfl⟩ := Pl.tells_act_one ht ht'
      exact ⟨rfl, hB⟩
    · exact absurd ht (hn _ _ _ _ _ _ _ _ _)
  · refine ⟨0, 0, 0, ⟨#[]⟩, false, 0, 0, ⟨#[]⟩, 0, false, (fun h => by cases h), ?_⟩
    rintro w e w' ⟨h, hB⟩
    rcases h with ⟨k', r', p', nm', o', vk', vn', vt', m', ht', _⟩ | ⟨_, rfl⟩
    · exact absurd ⟨_, _, _, _, _, _, _, _, _, ht'⟩ hx
    · exact ⟨rfl, hB⟩
end Go.Proofs.YtbckbfjnifafaaaGreatDoor

/- The record that a text begins with: plain facts. -/
namespace Go.Proofs.YtbckbfjnifafaaaGreatDoor
open Go.RowKit
set_option linter.unusedVariables false
set_option linter.unusedSimpArgs false
theorem Pl.dec_low (c : UInt8) (hc : c.toNat < 45) (u : Nat) : c ∉ Lib.decDigits u := by
  induction u using Nat.strongRecOn with
  | _ u ih =>
    by_cases h : u < 10
    · rw [Pl.dec_small h]
      intro e
      have := congrArg UInt8.toNat (List.mem_singleton.1 e)
      rw [Pl.fig_nat h] at this
      omega
    · rw [Pl.dec_big h]
      intro e
      rcases List.mem_append.1 e with e | e
      · exact ih (u / 10) (by omega) e
      · have := congrArg UInt8.toNat (List.mem_singleton.1 e)
        rw [Pl.fig_nat (by omega)] at this
        omega
theorem Pl.itoa_low (c : UInt8) (hc : c.toNat < 45) (n : Int) : c ∉ Lib.itoa n := by
  unfold Lib.itoa
  split
  · intro e
    rcases List.mem_cons.1 e with e | e
    · rw [e] at hc
      simp at hc
    · exact Pl.dec_low c hc _ e
  · exact Pl.dec_low c hc _
theorem Pl.byte_of_mem {t : ByteArray} {c : UInt8} (e : c ∈ t.data.toList) : ∃ j, j < t.size ∧ Pl.byteAt t j = (c.toNat : Int) := by
  obtain ⟨j, hj, he⟩ := List.getElem_of_mem e
  refine ⟨j, by simpa using hj, ?_⟩
  unfold Pl.byteAt
  rw [List.getElem?_eq_getElem hj, he]
  rfl
theorem Pl.name_line {nm : ByteArray} (h : Pl.nameB nm = true) : (10 : UInt8) ∉ nm.data.toList := by
  intro e
  obtain ⟨j, hj, hb⟩ := Pl.byte_of_mem e
  have := Pl.name_not j hj (by rw [hb]; simp [Pl.nameAt, Pl.figB, Pl.letB])
  rw [h] at this
  cases this
theorem Pl.text_line {t : ByteArray} (h : Pl.textB t = true) : (10 : UInt8) ∉ t.data.toList := by
  intro e
  obtain ⟨j, hj, hb⟩ := Pl.byte_of_mem e
  have := Pl.text_not j hj (by rw [hb]; simp [Pl.seenB])
  rw [h] at this
  cases this
theorem Pl.putV_line {k n : Int} {t : ByteArray} (h : Pl.okB k n t = true) : (10 : UInt8) ∉ Pl.putV k n t := by
  unfold Pl.putV
  split
  · exact Pl.itoa_low 10 (by decide) n
  · split
    · rename_i h1 h2
      subst h2
      have ht : Pl.textB t = true := by
        simp only [Pl.okB] at h
        simpa using (by simpa using h : n = 0 ∧ Pl.textB t = true).2
      intro e
      rcases List.mem_cons.1 e with e | e
      · cases e
      · rcases List.mem_append.1 e with e | e
        · exact Pl.text_line ht e
        · cases List.mem_singleton.1 e
    · decide
theorem Pl.act_nm_line {k r p : Int} {nm : ByteArray} {o : Bool} {vk vn : Int} {vt : ByteArray} {m : Int} (h : Pl.actB k r p nm o vk vn vt m = true) : (10 : UInt8) ∉ nm.data.toList := by
  have he : nm.toList.isEmpty = true → (10 : UInt8) ∉ nm.data.toList := fun e => by rw [Pl.empty_of e]; simp
  unfold Pl.actB at h
  split at h
  · simp only [Bool.and_eq_true] at h
    exact Pl.name_line h.2.1
  · split at h
    · simp only [Bool.and_eq_true] at h
      exact Pl.name_line h.2.2.1
    · split at h
      · simp only [Bool.and_eq_true] at h
        exact he h.1.1
      · split at h
        · simp only [Bool.and_eq_true] at h
          exact he h.1.2.1
        · split at h
          · simp only [Bool.and_eq_true] at h
            exact he h.1.2.2.1
          · cases h
theorem Pl.no_app {c b : UInt8} {f r : List UInt8} (hb : c ≠ b) (h1 : c ∉ f) (h2 : c ∉ r) : c ∉ f ++ b :: r := by
  intro e
  rcases List.mem_append.1 e with e | e
  · exact h1 e
  · rcases List.mem_cons.1 e with e | e
    · exact hb e
    · exact h2 e
theorem Pl.act_line {k r p : Int} {nm : ByteArray} {o : Bool} {vk vn : Int} {vt : ByteArray} {m : Int} (h : Pl.actB k r p nm o vk vn vt m = true) : (10 : UInt8) ∉ Pl.actT k r p nm o vk vn vt m := by
  have hi := Pl.itoa_low 10 (by decide)
  have hb : (10 : UInt8) ≠ 32 := by decide
  rw [Pl.act_form]
  exact Pl.no_app hb (hi k) (Pl.no_app hb (hi r) (Pl.no_app hb (hi p) (Pl.no_app hb (Pl.act_nm_line h) (Pl.no_app hb (by cases o <;> decide) (Pl.no_app hb (hi m) (Pl.putV_line (act_parts h).2.2.2.2))))))
theorem Pl.split_one {b : UInt8} : ∀ {f f' r r' : List UInt8}, b ∉ f → b ∉ f' → f ++ b :: r = f' ++ b :: r' → f = f' ∧ r = r'
  | [], [], _, _, _, _, h => by
    simp at h
    exact ⟨rfl, h⟩
  | [], c :: f', _, _, _, h2, h => by
    simp at h
    exact absurd (h.1 ▸ List.mem_cons_self ..) h2
  | c :: f, [], _, _, h1, _, h => by
    simp at h
    exact absurd (h.1 ▸ List.mem_cons_self ..) h1
  | c :: f, c' :: f', _, _, h1, h2, h => by
    simp at h
    obtain ⟨e1, e2⟩ := Pl.split_one (fun e => h1 (List.mem_cons_of_mem _ e)) (fun e => h2 (List.mem_cons_of_mem _ e)) h.2
    exact ⟨by rw [h.1, e1], e2⟩
theorem Pl.cutG_miss (b : UInt8) (k : Nat) : ∀ (l cur : List UInt8), b ∉ l → Pl.cutG b k cur l = [cur ++ l]
  | [], cur, _ => by rw [Pl.cutG_nil]; simp
  | c :: l, cur, h => by
    have hc : ¬ c = b := fun e => h (by rw [e]; exact List.mem_cons_self ..)
    cases k with
    | zero => simp [Pl.cutG]
    | succ k =>
      rw [Pl.cutG, if_neg hc, Pl.cutG_miss b (k + 1) l (cur ++ [c]) (fun e => h (List.mem_cons_of_mem _ e))]
      simp
theorem Pl.indexByte_miss (b : UInt8) : ∀ l : List UInt8, b ∉ l → Lib.indexByte l b = -1
  | [], _ => rfl
  | c :: l, h => by
    have hc : (c == b) = false := beq_eq_false_iff_ne.2 fun e => h (by rw [e]; exact List.mem_cons_self ..)
    rw [Lib.indexByte, hc, Pl.indexByte_miss b l (fun e => h (List.mem_cons_of_mem _ e))]
    simp
/-- a text cut once: at its first such byte, or not at all -/
theorem Pl.cut_form (b : UInt8) (l : List UInt8) : (b ∉ l ∧ Pl.cutG b 1 [] l = [l] ∧ Lib.cut l [b] = (l, [], false)) ∨ ∃ f r, b ∉ f ∧ l = f ++ b :: r ∧ Pl.cutG b 1 [] l = [f, r] ∧ Lib.cut l [b] = (f, r, true) := by
  by_cases h : b ∈ l
  · obtain ⟨f, r, rfl, hf⟩ := List.eq_append_cons_of_mem h
    refine .inr ⟨f, r, hf, rfl, ?_, ?_⟩
    · rw [Pl.cutG_hit b 0 r f [] hf]
      simp [Pl.cutG]
    · have hi : Lib.index (f ++ b :: r) [b] = (f.length : Int) := by rw [Lib.index_one]; exact Pl.indexByte_hit b r f hf
      unfold Lib.cut
      rw [hi, if_pos (by omega)]
      simp
  · refine .inl ⟨h, ?_, ?_⟩
    · rw [Pl.cutG_miss b 1 l [] h]; simp
    · have hi : Lib.index l [b] = -1 := by rw [Lib.index_one]; exact Pl.indexByte_miss b l h
      unfold Lib.cut
      rw [hi, if_neg (by omega)]
/-- a text begins with an act's record -/
def Pl.TellsR (s : ByteArray) (k r p : Int) (nm : ByteArray) (o : Bool) (vk vn : Int) (vt : ByteArray) (m : Int) : Prop := Pl.actB k r p nm o vk vn vt m = true ∧ (Pl.recT (Pl.actT k r p nm o vk vn vt m)) <+: s.data.toList
/-- what stands between the first blank of a text's first line and its end -/
def Pl.told (s : ByteArray) : List UInt8 := (Lib.cut (Lib.cut s.data.toList [10]).1 [32]).2.1
theorem Pl.rec_form (T : List UInt8) : Pl.recT T = (Lib.itoa (Pl.crc (Pl.bs T) : Int) ++ 32 :: T) ++ [10] := by simp [Pl.recT]
theorem Pl.rec_len (T : List UInt8) : (Pl.recT T).length = (Lib.itoa (Pl.crc (Pl.bs T) : Int) ++ 32 :: T).length + 1 := by rw [Pl.rec_form]; simp only [List.length_append, List.length_cons, List.length_nil]
/-- the first line of a text that begins with a record is that record's -/
theorem Pl.rec_line {s : ByteArray} {k r p : Int} {nm : ByteArray} {o : Bool} {vk vn : Int} {vt : ByteArray} {m : Int} (h : Pl.TellsR s k r p nm o vk vn vt m) :
    ∃ rest, s.data.toList = (Lib.itoa (Pl.crc (Pl.bs (Pl.actT k r p nm o vk vn vt m)) : Int) ++ 32 :: Pl.actT k r p nm o vk vn vt m) ++ 10 :: rest ∧ (10 : UInt8) ∉ (Lib.itoa (Pl.crc (Pl.bs (Pl.actT k r p nm o vk vn vt m)) : Int) ++ 32 :: Pl.actT k r p nm o vk vn vt m) := by
  obtain ⟨rest, hr⟩ := h.2
  refine ⟨rest, ?_, Pl.no_app (by decide) (Pl.itoa_low 10 (by decide) _) (Pl.act_line h.1)⟩
  rw [← hr, Pl.rec_form]
  simp
theorem Pl.told_rec {s : ByteArray} {k r p : Int} {nm : ByteArray} {o : Bool} {vk vn : Int} {vt : ByteArray} {m : Int} (h : Pl.TellsR s k r p nm o vk vn vt m) : Pl.told s = Pl.actT k r p nm o vk vn vt m := by
  obtain ⟨rest, hs, hn⟩ := Pl.rec_line h
  unfold Pl.told
  rcases Pl.cut_form 10 s.data.toList with ⟨h1, _, _⟩ | ⟨f, q, hf, he, _, hc⟩
  · exact absurd (by rw [hs]; simp) h1
  · obtain ⟨e1, e2⟩ := Pl.split_one hf hn (he.symm.trans hs)
    rw [hc]
    show (Lib.cut f [32]).2.1 = _
    rw [e1]
    rcases Pl.cut_form 32 (Lib.itoa (Pl.crc (Pl.bs (Pl.actT k r p nm o vk vn vt m)) : Int) ++ 32 :: Pl.actT k r p nm o vk vn vt m) with ⟨h1, _, _⟩ | ⟨f2, q2, hf2, he2, _, hc2⟩
    · exact absurd (by simp) h1
    · obtain ⟨_, e4⟩ := Pl.split_one hf2 (Pl.itoa_noblank _) he2.symm
      rw [hc2]
      exact e4
theorem Pl.told_size (s : ByteArray) : (Pl.told s).length ≤ s.size := by
  have hs : s.data.toList.length = s.size := by simp
  unfold Pl.told
  have h1 : (Lib.cut s.data.toList [10]).1.length ≤ s.size := by
    rcases Pl.cut_form 10 s.data.toList with ⟨_, _, hc⟩ | ⟨f, q, _, he, _, hc⟩
    · rw [hc]; show s.data.toList.length ≤ _; omega
    · rw [hc]
      have := congrArg List.length he
      simp at this ⊢
      omega
  generalize (Lib.cut s.data.toList [10]).1 = l at h1
  rcases Pl.cut_form 32 l with ⟨_, _, hc⟩ | ⟨f, q, _, he, _, hc⟩
  · rw [hc]; simp
  · rw [hc]
    have := congrArg List.length he
    simp at this ⊢
    omega
theorem Pl.tells_sizes {s : ByteArray} {k r p : Int} {nm : ByteArray} {o : Bool} {vk vn : Int} {vt : ByteArray} {m : Int} (h : Pl.TellsA s k r p nm o vk vn vt m) (hs : s.size ≤ 1048576) : nm.size ≤ 1048576 ∧ vt.size ≤ 1048576 := by
  have hl : s.data.toList.length = s.size := by simp
  have h2 := congrArg List.length h.2
  rw [Pl.act_form, hl] at h2
  have hn : nm.data.toList.length = nm.size := by simp
  simp only [List.length_append, List.length_cons] at h2
  refine ⟨by omega, ?_⟩
  exact (show Pl.ValP (Pl.bs (Pl.putV vk vn vt)) vk vn vt from .inl (Pl.tells_val h.1)).size (by rw [Pl.bs_size]; omega)
/-- a record that is read, or none -/
def RgPost (s : ByteArray) (w : World) (e : Ending) (w' : World) : Prop :=
  ((∃ k r p nm o vk vn vt m, Pl.TellsR s k r p nm o vk vn vt m ∧ e = .returned (.tuple #[actV k r p nm o vk vn vt m, .int .i64 ((Pl.recT (Pl.actT k r p nm o vk vn vt m)).length : Int)])) ∨ ((∀ k r p nm o vk vn vt m, ¬ Pl.TellsR s k r p nm o vk vn vt m) ∧ e = .returned (.tuple #[actV 0 0 0 ⟨#[]⟩ false 0 0 ⟨#[]⟩ 0, .int .i64 0]))) ∧ Below w.heap.size w w'
theorem Pl.tells_rec_one {s : ByteArray} {k r p : Int} {nm : ByteArray} {o : Bool} {vk vn : Int} {vt : ByteArray} {m : Int} {k' r' p' : Int} {nm' : ByteArray} {o' : Bool} {vk' vn' : Int} {vt' : ByteArray} {m' : Int}
    (h : Pl.TellsR s k r p nm o vk vn vt m) (h' : Pl.TellsR s k' r' p' nm' o' vk' vn' vt' m') : k = k' ∧ r = r' ∧ p = p' ∧ nm = nm' ∧ o = o' ∧ vk = vk' ∧ vn = vn' ∧ vt = vt' ∧ m = m' := by
  have h1 : Pl.TellsA (Pl.bs (Pl.told s)) k r p nm o vk vn vt m := ⟨h.1, by rw [Pl.bs_back, Pl.told_rec h]⟩
  have h2 : Pl.TellsA (Pl.bs (Pl.told s)) k' r' p' nm' o' vk' vn' vt' m' := ⟨h'.1, by rw [Pl.bs_back, Pl.told_rec h']⟩
  exact Pl.tells_act_one h1 h2
/-- the one answer of whoever reads an act -/
theorem Pl.act_answer (s : ByteArray) : (∃ k r p nm o vk vn vt m, Pl.TellsA s k r p nm o vk vn vt m ∧ ∀ (w : World) (e : Ending) (w' : World), AgPost s w e w' → e = .returned (.tuple #[actV k r p nm o vk vn vt m, .bool true]) ∧ Below w.heap.size w w') ∨
    ((∀ k r p nm o vk vn vt m, ¬ Pl.TellsA s k r p nm o vk vn vt m) ∧ ∀ (w : World) (e : Ending) (w' : World), AgPost s w e w' → e = .returned (.tuple #[actV 0 0 0 ⟨#[]⟩ false 0 0 ⟨#[]⟩ 0, .bool false]) ∧ Below w.heap.size w w') := by
  by_cases hx : ∃ k r p nm o vk vn vt m, Pl.TellsA s k r p nm o vk vn vt m
  · obtain ⟨k, r, p, nm, o, vk, vn, vt, m, ht⟩ := hx
    refine .inl ⟨k, r, p, nm, o, vk, vn, vt, m, ht, ?_⟩
    rintro w e w' ⟨h, hB⟩
    rcases h with ⟨k', r', p', nm', o', vk', vn', vt', m', ht', rfl⟩ | ⟨hn, _⟩
    · obtain ⟨rfl, rfl, rfl, rfl, rfl, rfl, rfl, rfl, rfl⟩ := Pl.tells_act_one ht ht'
      exact ⟨rfl, hB⟩
    · exact absurd ht (hn _ _ _ _ _ _ _ _ _)
  · refine .inr ⟨fun k r p nm o vk vn vt m h => hx ⟨k, r, p, nm, o, vk, vn, vt, m, h⟩, ?_⟩
    rintro w e w' ⟨h, hB⟩
    rcases h with ⟨k', r', p', nm', o', vk', vn', vt', m', ht', _⟩ | ⟨_, rfl⟩
    · exact absurd ⟨_, _, _, _, _, _, _, _, _, ht'⟩ hx
    · exact ⟨rfl, hB⟩
end Go.Proofs.YtbckbfjnifafaaaGreatDoor

/- The record that a text begins with, as the program reads it. -/
namespace Go.Proofs.YtbckbfjnifafaaaGreatDoor
open Go.RowKit
set_option linter.unusedVariables false
set_option linter.unusedSimpArgs false
theorem cut_any (x : ByteArray) (c : UInt8) (hx : x.size ≤ 1048576) (w : World) (hM : MaxAt w) :
    Calls Tryz.prog 77 #[.string x, .string ⟨#[c]⟩] w fun e w' => e = .returned (.tuple #[.string (Pl.bs (Lib.cut x.data.toList [c]).1), .string (Pl.bs (Lib.cut x.data.toList [c]).2.1), .bool (Lib.cut x.data.toList [c]).2.2]) ∧ Below w.heap.size w w' := by
  obtain ⟨m, hm⟩ := hM
  refine (Tryz.strings_Cut x ⟨#[c]⟩ m w (by omega) hm).mono ?_
  rintro e w' ⟨rfl, n, rfl⟩
  exact ⟨rfl, Go.below_drewN (Below.refl _ _) n⟩
theorem line_size (s : ByteArray) : (Lib.cut s.data.toList [10]).1.length ≤ s.size := by
  have hs : s.data.toList.length = s.size := by simp
  rcases Pl.cut_form 10 s.data.toList with ⟨_, _, hc⟩ | ⟨f, q, _, he, _, hc⟩
  · rw [hc]; show s.data.toList.length ≤ _; omega
  · rw [hc]
    have := congrArg List.length he
    simp at this ⊢
    omega
set_option maxRecDepth 100000 in
set_option maxHeartbeats 3200000 in
theorem implRecordGet_any (s : ByteArray) (hs : s.size ≤ 1048576) (w : World) (hTT : Tab w) (hEE : Errs w) (hMM : MaxAt w) : Calls Tryz.prog 65 #[.string s] w (RgPost s w) := by
  have hT := hide hTT
  have hE := hide hEE
  have hM := hide hMM
  have hls := line_size s
  have hts := Pl.told_size s
  have hc1 := hide (cut_any s 10 hs)
  have hc2 : Hid (∀ W, MaxAt W → Calls Tryz.prog 77 #[.string (Pl.bs (Lib.cut s.data.toList [10]).1), .string ⟨#[32]⟩] W fun e w' => e = .returned (.tuple #[.string (Pl.bs (Lib.cut (Lib.cut s.data.toList [10]).1 [32]).1), .string (Pl.bs (Pl.told s)), .bool (Lib.cut (Lib.cut s.data.toList [10]).1 [32]).2.2]) ∧ Below W.heap.size W w') := fun W hW =>
    cut_any (Pl.bs (Lib.cut s.data.toList [10]).1) 32 (by rw [Pl.bs_size]; omega) W hW
  have hg0 := fun W a b c => implActGet_any (Pl.bs (Pl.told s)) (by rw [Pl.bs_size]; omega) W a b c
  clear hTT hEE hMM
  rcases Pl.act_answer (Pl.bs (Pl.told s)) with ⟨k, r, p, nm, o, vk, vn, vt, m, ht, ho⟩ | ⟨hn, ho⟩
  · have hg : Hid (∀ W, Tab W → Errs W → MaxAt W → Calls Tryz.prog 78 #[.string (Pl.bs (Pl.told s))] W fun e w' => e = .returned (.tuple #[actV k r p nm o vk vn vt m, .bool true]) ∧ Below W.heap.size W w') := fun W a b c => (hg0 W a b c).mono fun e w' h => ho _ _ _ h
    obtain ⟨znm, zvt⟩ := Pl.tells_sizes ht (by rw [Pl.bs_size]; omega)
    have hrp := hide (implRecordPut_any k r p nm o vk vn vt m znm zvt)
    have HRE : Hid (Pl.recT (Pl.actT k r p nm o vk vn vt m) = Pl.recP (Pl.actP k r p nm o vk vn vt m)) := by
      show _ = _
      unfold Pl.actP
      rw [if_pos ht.1]
      unfold Pl.recP
      rw [if_neg (actT_ne _ _ _ _ _ _ _ _ _)]
    have hpx := hide (fun W => Tryz.strings_HasPrefix s (Pl.bs (Pl.recP (Pl.actP k r p nm o vk vn vt m))) W)
    have hpr : Hid (Lib.hasPrefix s.data.toList (Pl.bs (Pl.recP (Pl.actP k r p nm o vk vn vt m))).data.toList = true ↔ Pl.TellsR s k r p nm o vk vn vt m) := by
      show _ ↔ _
      rw [Pl.bs_back, ← HRE.out]
      unfold Lib.hasPrefix Pl.TellsR
      rw [List.isPrefixOf_iff_prefix]
      exact ⟨fun h => ⟨ht.1, h⟩, fun h => h.2⟩
    have hone : ∀ k' r' p' nm' o' vk' vn' vt' m', Pl.TellsR s k' r' p' nm' o' vk' vn' vt' m' → Pl.TellsR s k r p nm o vk vn vt m := fun k' r' p' nm' o' vk' vn' vt' m' h => by
      have h1 : Pl.TellsA (Pl.bs (Pl.told s)) k' r' p' nm' o' vk' vn' vt' m' := ⟨h.1, by rw [Pl.bs_back, Pl.told_rec h]⟩
      obtain ⟨rfl, rfl, rfl, rfl, rfl, rfl, rfl, rfl, rfl⟩ := Pl.tells_act_one ht h1
      exact h
    generalize Pl.recP (Pl.actP k r p nm o vk vn vt m) = REC at *
    clear hg0 ho ht
    cases hq : Lib.hasPrefix s.data.toList (Pl.bs REC).data.toList
    · rw [hq] at hpx
      have hno : ∀ k r p nm o vk vn vt m, ¬ Pl.TellsR s k r p nm o vk vn vt m := fun k' r' p' nm' o' vk' vn' vt' m' h => by
        have := hpr.out.2 (hone _ _ _ _ _ _ _ _ _ h)
        rw [hq] at this
        cases this
      have HN := hide hno
      clear hno hone hpr
      go_enter Tryz.func65, Tryz.ntmps65
      go_wp2_with fail
      have hb0 : Below w.heap.size w (w.alloc (.cells #[.int .i64 0, .int .i64 0, .int .i64 0, .string ⟨#[]⟩, .bool false, .int .i64 0, .int .i64 0, .string ⟨#[]⟩, .int .i64 0] 45)) := (Below.refl _ _).alloc (Nat.le_refl _) _
      refine (hc1.out _ (hM.out.later hb0)).mono ?_
      rintro e1 w1 ⟨rfl, hB1⟩
      obtain ⟨bx, hBL, hltw1⟩ := box_after hB1
      have HBXw1 := hide bx
      have HBLw1 := hide hBL
      clear hb0 hB1 bx hBL
      go_wp2_with fail
      refine (hc2.out _ (hM.out.later HBLw1.out)).mono ?_
      rintro e2 w2 ⟨rfl, hBn⟩
      have HBXw2 := hide ((hBn.block w.heap.size hltw1).trans HBXw1.out)
      have HBLw2 := hide (HBLw1.out.trans (hBn.mono HBLw1.out.size))
      have hltw2 : w.heap.size < w2.heap.size := Nat.lt_of_lt_of_le hltw1 hBn.size
      clear hBn
      go_wp2_with fail
      refine (hg.out _ (hT.out.later HBLw2.out) (hE.out.later HBLw2.out) (hM.out.later HBLw2.out)).mono ?_
      rintro e3 w3 ⟨rfl, hBn⟩
      have HBXw3 := hide ((hBn.block w.heap.size hltw2).trans HBXw2.out)
      have HBLw3 := hide (HBLw2.out.trans (hBn.mono HBLw2.out.size))
      have hltw3 : w.heap.size < w3.heap.size := Nat.lt_of_lt_of_le hltw2 hBn.size
      clear hBn
      go_wp2_with fail
      refine (hrp.out _ (hT.out.later (HBLw3.out.alloc HBLw3.out.size _))).mono ?_
      rintro e4 w4 ⟨rfl, hBn⟩
      obtain ⟨ba, hBn, hltn⟩ := box_after hBn
      have HBA := hide ba
      clear ba hltn
      have HBXw4 := hide ((hBn.block w.heap.size hltw3).trans HBXw3.out)
      have HBLw4 := hide (HBLw3.out.trans (hBn.mono HBLw3.out.size))
      have hltw4 : w.heap.size < w4.heap.size := Nat.lt_of_lt_of_le hltw3 hBn.size
      clear hBn
      go_wp2_with fail
      refine (hpx.out _).mono ?_
      rintro e5 w5 ⟨rfl, rfl⟩
      have r0 := cell_of_block HBXw4.out 0
      have r1 := cell_of_block HBXw4.out 1
      have r2 := cell_of_block HBXw4.out 2
      have r3 := cell_of_block HBXw4.out 3
      have r4 := cell_of_block HBXw4.out 4
      have r5 := cell_of_block HBXw4.out 5
      have r6 := cell_of_block HBXw4.out 6
      have r7 := cell_of_block HBXw4.out 7
      have r8 := cell_of_block HBXw4.out 8
      have g0 := free_of_block HBXw4.out 0
      have g1 := free_of_block HBXw4.out 1
      have g2 := free_of_block HBXw4.out 2
      have g3 := free_of_block HBXw4.out 3
      have g4 := free_of_block HBXw4.out 4
      have g5 := free_of_block HBXw4.out 5
      have g6 := free_of_block HBXw4.out 6
      have g7 := free_of_block HBXw4.out 7
      have g8 := free_of_block HBXw4.out 8
      simp only [List.getElem?_toArray, List.getElem?_cons_zero, List.getElem?_cons_succ] at r0 r1 r2 r3 r4 r5 r6 r7 r8
      go_wp2_with fail
      have hb9 := nine_set HBXw4.out (.int .i64 0) (.int .i64 0) (.int .i64 0) (.string ⟨#[]⟩) (.bool false) (.int .i64 0) (.int .i64 0) (.string ⟨#[]⟩) (.int .i64 0)
      have hB9 := nine_below HBLw4.out (Nat.le_refl _) (.int .i64 0) (.int .i64 0) (.int .i64 0) (.string ⟨#[]⟩) (.bool false) (.int .i64 0) (.int .i64 0) (.string ⟨#[]⟩) (.int .i64 0)
      clear r0 r1 r2 r3 r4 r5 r6 r7 r8 g0 g1 g2 g3 g4 g5 g6 g7 g8
      generalize (((((((((w5.setCell ⟨w.heap.size, 0, none⟩ (.int .i64 0)).setCell ⟨w.heap.size, 1, none⟩ (.int .i64 0)).setCell ⟨w.heap.size, 2, none⟩ (.int .i64 0)).setCell ⟨w.heap.size, 3, none⟩ (.string ⟨#[]⟩)).setCell ⟨w.heap.size, 4, none⟩ (.bool false)).setCell ⟨w.heap.size, 5, none⟩ (.int .i64 0)).setCell ⟨w.heap.size, 6, none⟩ (.int .i64 0)).setCell ⟨w.heap.size, 7, none⟩ (.string ⟨#[]⟩)).setCell ⟨w.heap.size, 8, none⟩ (.int .i64 0)) = W9 at *
      have s0 := cell_of_block hb9 0
      have s1 := cell_of_block hb9 1
      have s2 := cell_of_block hb9 2
      have s3 := cell_of_block hb9 3
      have s4 := cell_of_block hb9 4
      have s5 := cell_of_block hb9 5
      have s6 := cell_of_block hb9 6
      have s7 := cell_of_block hb9 7
      have s8 := cell_of_block hb9 8
      refine bodyPost_ret (v := .tuple #[actV 0 0 0 ⟨#[]⟩ false 0 0 ⟨#[]⟩ 0, .int .i64 0]) (by simp [results, Tryz.results65, go_sem, s0, s1, s2, s3, s4, s5, s6, s7, s8]) rfl ?_
      exact ⟨.inr ⟨HN.out, rfl⟩, hB9⟩
    · rw [hq] at hpx
      have HY := hide (hpr.out.1 hq)
      clear hone hpr
      go_enter Tryz.func65, Tryz.ntmps65
      go_wp2_with fail
      have hb0 : Below w.heap.size w (w.alloc (.cells #[.int .i64 0, .int .i64 0, .int .i64 0, .string ⟨#[]⟩, .bool false, .int .i64 0, .int .i64 0, .string ⟨#[]⟩, .int .i64 0] 45)) := (Below.refl _ _).alloc (Nat.le_refl _) _
      refine (hc1.out _ (hM.out.later hb0)).mono ?_
      rintro e1 w1 ⟨rfl, hB1⟩
      obtain ⟨bx, hBL, hltw1⟩ := box_after hB1
      have HBXw1 := hide bx
      have HBLw1 := hide hBL
      clear hb0 hB1 bx hBL
      go_wp2_with fail
      refine (hc2.out _ (hM.out.later HBLw1.out)).mono ?_
      rintro e2 w2 ⟨rfl, hBn⟩
      have HBXw2 := hide ((hBn.block w.heap.size hltw1).trans HBXw1.out)
      have HBLw2 := hide (HBLw1.out.trans (hBn.mono HBLw1.out.size))
      have hltw2 : w.heap.size < w2.heap.size := Nat.lt_of_lt_of_le hltw1 hBn.size
      clear hBn
      go_wp2_with fail
      refine (hg.out _ (hT.out.later HBLw2.out) (hE.out.later HBLw2.out) (hM.out.later HBLw2.out)).mono ?_
      rintro e3 w3 ⟨rfl, hBn⟩
      have HBXw3 := hide ((hBn.block w.heap.size hltw2).trans HBXw2.out)
      have HBLw3 := hide (HBLw2.out.trans (hBn.mono HBLw2.out.size))
      have hltw3 : w.heap.size < w3.heap.size := Nat.lt_of_lt_of_le hltw2 hBn.size
      clear hBn
      go_wp2_with fail
      refine (hrp.out _ (hT.out.later (HBLw3.out.alloc HBLw3.out.size _))).mono ?_
      rintro e4 w4 ⟨rfl, hBn⟩
      obtain ⟨ba, hBn, hltn⟩ := box_after hBn
      have HBA := hide ba
      clear ba hltn
      have HBXw4 := hide ((hBn.block w.heap.size hltw3).trans HBXw3.out)
      have HBLw4 := hide (HBLw3.out.trans (hBn.mono HBLw3.out.size))
      have hltw4 : w.heap.size < w4.heap.size := Nat.lt_of_lt_of_le hltw3 hBn.size
      clear hBn
      go_wp2_with fail
      refine (hpx.out _).mono ?_
      rintro e5 w5 ⟨rfl, rfl⟩
      have r0 := cell_of_block HBXw4.out 0
      have r1 := cell_of_block HBXw4.out 1
      have r2 := cell_of_block HBXw4.out 2
      have r3 := cell_of_block HBXw4.out 3
      have r4 := cell_of_block HBXw4.out 4
      have r5 := cell_of_block HBXw4.out 5
      have r6 := cell_of_block HBXw4.out 6
      have r7 := cell_of_block HBXw4.out 7
      have r8 := cell_of_block HBXw4.out 8
      have g0 := free_of_block HBXw4.out 0
      have g1 := free_of_block HBXw4.out 1
      have g2 := free_of_block HBXw4.out 2
      have g3 := free_of_block HBXw4.out 3
      have g4 := free_of_block HBXw4.out 4
      have g5 := free_of_block HBXw4.out 5
      have g6 := free_of_block HBXw4.out 6
      have g7 := free_of_block HBXw4.out 7
      have g8 := free_of_block HBXw4.out 8
      simp only [List.getElem?_toArray, List.getElem?_cons_zero, List.getElem?_cons_succ] at r0 r1 r2 r3 r4 r5 r6 r7 r8
      have a0 := cell_of_block HBA.out 0
      have a1 := cell_of_block HBA.out 1
      have a2 := cell_of_block HBA.out 2
      have a3 := cell_of_block HBA.out 3
      have a4 := cell_of_block HBA.out 4
      have a5 := cell_of_block HBA.out 5
      have a6 := cell_of_block HBA.out 6
      have a7 := cell_of_block HBA.out 7
      have a8 := cell_of_block HBA.out 8
      simp only [List.getElem?_toArray, List.getElem?_cons_zero, List.getElem?_cons_succ] at a0 a1 a2 a3 a4 a5 a6 a7 a8
      go_wp2_with fail
      clear a0 a1 a2 a3 a4 a5 a6 a7 a8
      have hb9 := nine_set HBXw4.out (.int .i64 k) (.int .i64 r) (.int .i64 p) (.string nm) (.bool o) (.int .i64 vk) (.int .i64 vn) (.string vt) (.int .i64 m)
      have hB9 := nine_below HBLw4.out (Nat.le_refl _) (.int .i64 k) (.int .i64 r) (.int .i64 p) (.string nm) (.bool o) (.int .i64 vk) (.int .i64 vn) (.string vt) (.int .i64 m)
      clear r0 r1 r2 r3 r4 r5 r6 r7 r8 g0 g1 g2 g3 g4 g5 g6 g7 g8
      generalize (((((((((w5.setCell ⟨w.heap.size, 0, none⟩ (.int .i64 k)).setCell ⟨w.heap.size, 1, none⟩ (.int .i64 r)).setCell ⟨w.heap.size, 2, none⟩ (.int .i64 p)).setCell ⟨w.heap.size, 3, none⟩ (.string nm)).setCell ⟨w.heap.size, 4, none⟩ (.bool o)).setCell ⟨w.heap.size, 5, none⟩ (.int .i64 vk)).setCell ⟨w.heap.size, 6, none⟩ (.int .i64 vn)).setCell ⟨w.heap.size, 7, none⟩ (.string vt)).setCell ⟨w.heap.size, 8, none⟩ (.int .i64 m)) = W9 at *
      have s0 := cell_of_block hb9 0
      have s1 := cell_of_block hb9 1
      have s2 := cell_of_block hb9 2
      have s3 := cell_of_block hb9 3
      have s4 := cell_of_block hb9 4
      have s5 := cell_of_block hb9 5
      have s6 := cell_of_block hb9 6
      have s7 := cell_of_block hb9 7
      have s8 := cell_of_block hb9 8
      refine bodyPost_ret (v := .tuple #[actV k r p nm o vk vn vt m, .int .i64 ((Pl.bs REC).size : Int)]) (by simp [results, Tryz.results65, go_sem, s0, s1, s2, s3, s4, s5, s6, s7, s8]) rfl ?_
      exact ⟨.inl ⟨k, r, p, nm, o, vk, vn, vt, m, HY.out, by rw [HRE.out]; rfl⟩, hB9⟩
  · have hg : Hid (∀ W, Tab W → Errs W → MaxAt W → Calls Tryz.prog 78 #[.string (Pl.bs (Pl.told s))] W fun e w' => e = .returned (.tuple #[actV 0 0 0 ⟨#[]⟩ false 0 0 ⟨#[]⟩ 0, .bool false]) ∧ Below W.heap.size W w') := fun W a b c => (hg0 W a b c).mono fun e w' h => ho _ _ _ h
    have hno : ∀ k r p nm o vk vn vt m, ¬ Pl.TellsR s k r p nm o vk vn vt m := fun k' r' p' nm' o' vk' vn' vt' m' h => hn k' r' p' nm' o' vk' vn' vt' m' ⟨h.1, by rw [Pl.bs_back, Pl.told_rec h]⟩
    have HN := hide hno
    clear hg0 ho hno hn
    go_enter Tryz.func65, Tryz.ntmps65
    go_wp2_with fail
    have hb0 : Below w.heap.size w (w.alloc (.cells #[.int .i64 0, .int .i64 0, .int .i64 0, .string ⟨#[]⟩, .bool false, .int .i64 0, .int .i64 0, .string ⟨#[]⟩, .int .i64 0] 45)) := (Below.refl _ _).alloc (Nat.le_refl _) _
    refine (hc1.out _ (hM.out.later hb0)).mono ?_
    rintro e1 w1 ⟨rfl, hB1⟩
    obtain ⟨bx, hBL, hltw1⟩ := box_after hB1
    have HBXw1 := hide bx
    have HBLw1 := hide hBL
    clear hb0 hB1 bx hBL
    go_wp2_with fail
    refine (hc2.out _ (hM.out.later HBLw1.out)).mono ?_
    rintro e2 w2 ⟨rfl, hBn⟩
    have HBXw2 := hide ((hBn.block w.heap.size hltw1).trans HBXw1.out)
    have HBLw2 := hide (HBLw1.out.trans (hBn.mono HBLw1.out.size))
    have hltw2 : w.heap.size < w2.heap.size := Nat.lt_of_lt_of_le hltw1 hBn.size
    clear hBn
    go_wp2_with fail
    refine (hg.out _ (hT.out.later HBLw2.out) (hE.out.later HBLw2.out) (hM.out.later HBLw2.out)).mono ?_
    rintro e3 w3 ⟨rfl, hBn⟩
    have HBXw3 := hide ((hBn.block w.heap.size hltw2).trans HBXw2.out)
    have HBLw3 := hide (HBLw2.out.trans (hBn.mono HBLw2.out.size))
    have hltw3 : w.heap.size < w3.heap.size := Nat.lt_of_lt_of_le hltw2 hBn.size
    clear hBn
    have r0 := cell_of_block HBXw3.out 0
    have r1 := cell_of_block HBXw3.out 1
    have r2 := cell_of_block HBXw3.out 2
    have r3 := cell_of_block HBXw3.out 3
    have r4 := cell_of_block HBXw3.out 4
    have r5 := cell_of_block HBXw3.out 5
    have r6 := cell_of_block HBXw3.out 6
    have r7 := cell_of_block HBXw3.out 7
    have r8 := cell_of_block HBXw3.out 8
    have g0 := free_of_block HBXw3.out 0
    have g1 := free_of_block HBXw3.out 1
    have g2 := free_of_block HBXw3.out 2
    have g3 := free_of_block HBXw3.out 3
    have g4 := free_of_block HBXw3.out 4
    have g5 := free_of_block HBXw3.out 5
    have g6 := free_of_block HBXw3.out 6
    have g7 := free_of_block HBXw3.out 7
    have g8 := free_of_block HBXw3.out 8
    simp only [List.getElem?_toArray, List.getElem?_cons_zero, List.getElem?_cons_succ] at r0 r1 r2 r3 r4 r5 r6 r7 r8
    go_wp2_with fail
    have hb9 := nine_set HBXw3.out (.int .i64 0) (.int .i64 0) (.int .i64 0) (.string ⟨#[]⟩) (.bool false) (.int .i64 0) (.int .i64 0) (.string ⟨#[]⟩) (.int .i64 0)
    have hB9 := nine_below HBLw3.out (Nat.le_refl _) (.int .i64 0) (.int .i64 0) (.int .i64 0) (.string ⟨#[]⟩) (.bool false) (.int .i64 0) (.int .i64 0) (.string ⟨#[]⟩) (.int .i64 0)
    clear r0 r1 r2 r3 r4 r5 r6 r7 r8 g0 g1 g2 g3 g4 g5 g6 g7 g8
    generalize (((((((((w3.setCell ⟨w.heap.size, 0, none⟩ (.int .i64 0)).setCell ⟨w.heap.size, 1, none⟩ (.int .i64 0)).setCell ⟨w.heap.size, 2, none⟩ (.int .i64 0)).setCell ⟨w.heap.size, 3, none⟩ (.string ⟨#[]⟩)).setCell ⟨w.heap.size, 4, none⟩ (.bool false)).setCell ⟨w.heap.size, 5, none⟩ (.int .i64 0)).setCell ⟨w.heap.size, 6, none⟩ (.int .i64 0)).setCell ⟨w.heap.size, 7, none⟩ (.string ⟨#[]⟩)).setCell ⟨w.heap.size, 8, none⟩ (.int .i64 0)) = W9 at *
    have hl9 : w.heap.size < W9.heap.size := (Array.getElem?_eq_some_iff.1 hb9).1
    have hb8 := (Below.heap_alloc W9 (.cells #[.int .i64 0, .int .i64 0, .int .i64 0, .string ⟨#[]⟩, .bool false, .int .i64 0, .int .i64 0, .string ⟨#[]⟩, .int .i64 0] 45) _ hl9).trans hb9
    have s0 := cell_of_block hb8 0
    have s1 := cell_of_block hb8 1
    have s2 := cell_of_block hb8 2
    have s3 := cell_of_block hb8 3
    have s4 := cell_of_block hb8 4
    have s5 := cell_of_block hb8 5
    have s6 := cell_of_block hb8 6
    have s7 := cell_of_block hb8 7
    have s8 := cell_of_block hb8 8
    refine bodyPost_ret (v := .tuple #[actV 0 0 0 ⟨#[]⟩ false 0 0 ⟨#[]⟩ 0, .int .i64 0]) (by simp [results, Tryz.results65, go_sem, s0, s1, s2, s3, s4, s5, s6, s7, s8]) rfl ?_
    exact ⟨.inr ⟨HN.out, rfl⟩, (hB9.alloc hB9.size _)⟩
end Go.Proofs.YtbckbfjnifafaaaGreatDoor

/- The record that a text begins with, as the specification reads it. -/
namespace Go.Proofs.YtbckbfjnifafaaaGreatDoor
open Go.RowKit
set_option linter.unusedVariables false
set_option linter.unusedSimpArgs false
theorem row2_of {w : World} {base : Nat} {v : Value} {f q : List UInt8} (h : w.ownsRow base 9 1 v 2 [sv f, sv q]) :
    ∃ g c, v = .slice (some ⟨g, 0, none⟩) 2 c ∧ base ≤ g ∧ g < w.heap.size ∧ w.cell? ⟨g, 0, none⟩ = some (sv f) ∧ w.cell? ⟨g, 1, none⟩ = some (sv q) := by
  obtain ⟨hl, h⟩ := h
  rcases h with ⟨_, h0⟩ | ⟨g, cap, cur, rfl, hb, hg, hnc, hm, hs, ht⟩
  · cases h0
  · refine ⟨g, cap, rfl, hb, (Array.getElem?_eq_some_iff.1 hg).1, ?_⟩
    have hc : ∀ i x, [sv f, sv q][i]? = some x → w.cell? ⟨g, i, none⟩ = some x := fun i x hx => by
      rw [← ht] at hx
      have h2 : cur[i]? = some x := by
        rw [List.getElem?_take] at hx
        split at hx
        · simpa using hx
        · cases hx
      simp [World.cell?, hg, h2]
    exact ⟨hc 0 _ rfl, hc 1 _ rfl⟩
theorem cell_of_same {w X : World} {g : Nat} (h : w.heap[g]? = X.heap[g]?) (i : Nat) : w.cell? ⟨g, i, none⟩ = X.cell? ⟨g, i, none⟩ := by simp [World.cell?, h]
theorem nine_other {W : World} {b c : Nat} (h : c ≠ b) (u0 u1 u2 u3 u4 u5 u6 u7 u8 : Value) : (((((((((W.setCell ⟨b, 0, none⟩ u0).setCell ⟨b, 1, none⟩ u1).setCell ⟨b, 2, none⟩ u2).setCell ⟨b, 3, none⟩ u3).setCell ⟨b, 4, none⟩ u4).setCell ⟨b, 5, none⟩ u5).setCell ⟨b, 6, none⟩ u6).setCell ⟨b, 7, none⟩ u7).setCell ⟨b, 8, none⟩ u8).heap[c]? = W.heap[c]? := by
  rw [Below.heap_setCell _ _ _ _ h, Below.heap_setCell _ _ _ _ h, Below.heap_setCell _ _ _ _ h, Below.heap_setCell _ _ _ _ h, Below.heap_setCell _ _ _ _ h, Below.heap_setCell _ _ _ _ h, Below.heap_setCell _ _ _ _ h, Below.heap_setCell _ _ _ _ h, Below.heap_setCell _ _ _ _ h]
set_option maxRecDepth 100000 in
set_option maxHeartbeats 3200000 in
theorem specRecordGet_any (s : ByteArray) (hs : s.size ≤ 1048576) (w : World) : Calls Tryz.prog 61 #[.string s] w (RgPost s w) := by
  have hc := hide (l5Cut_any s 10 1 hs (by omega))
  have hll : s.data.toList.length = s.size := by simp
  rcases Pl.cut_form 10 s.data.toList with ⟨h1, hC0, _⟩ | ⟨f, q, hf, hsf, hC0, hL⟩
  · have hC := hide hC0
    have hno : ∀ k r p nm o vk vn vt m, ¬ Pl.TellsR s k r p nm o vk vn vt m := fun k r p nm o vk vn vt m h => by
      obtain ⟨rest, hr, _⟩ := Pl.rec_line h
      exact h1 (by rw [hr]; simp)
    have HN := hide hno
    clear hno h1 hC0 hll
    go_enter Tryz.func61, Tryz.ntmps61
    go_wp2_with fail
    refine (hc.out _).mono ?_
    rintro e1 w1 ⟨v1, rfl, hown1, hB1⟩
    rw [hC.out] at hown1
    obtain ⟨a1, k1, rfl⟩ := ownsRow_form hown1
    obtain ⟨bx, hBL, hltw1⟩ := box_after hB1
    have HBXw1 := hide bx
    have HBLw1 := hide hBL
    clear hB1 bx hBL
    clear hown1
    have r0 := cell_of_block HBXw1.out 0
    have r1 := cell_of_block HBXw1.out 1
    have r2 := cell_of_block HBXw1.out 2
    have r3 := cell_of_block HBXw1.out 3
    have r4 := cell_of_block HBXw1.out 4
    have r5 := cell_of_block HBXw1.out 5
    have r6 := cell_of_block HBXw1.out 6
    have r7 := cell_of_block HBXw1.out 7
    have r8 := cell_of_block HBXw1.out 8
    have g0 := free_of_block HBXw1.out 0
    have g1 := free_of_block HBXw1.out 1
    have g2 := free_of_block HBXw1.out 2
    have g3 := free_of_block HBXw1.out 3
    have g4 := free_of_block HBXw1.out 4
    have g5 := free_of_block HBXw1.out 5
    have g6 := free_of_block HBXw1.out 6
    have g7 := free_of_block HBXw1.out 7
    have g8 := free_of_block HBXw1.out 8
    simp only [List.getElem?_toArray, List.getElem?_cons_zero, List.getElem?_cons_succ] at r0 r1 r2 r3 r4 r5 r6 r7 r8
    go_wp2_with fail
    have hb9 := nine_set HBXw1.out (.int .i64 0) (.int .i64 0) (.int .i64 0) (.string ⟨#[]⟩) (.bool false) (.int .i64 0) (.int .i64 0) (.string ⟨#[]⟩) (.int .i64 0)
    have hB9 := nine_below HBLw1.out (Nat.le_refl _) (.int .i64 0) (.int .i64 0) (.int .i64 0) (.string ⟨#[]⟩) (.bool false) (.int .i64 0) (.int .i64 0) (.string ⟨#[]⟩) (.int .i64 0)
    clear r0 r1 r2 r3 r4 r5 r6 r7 r8 g0 g1 g2 g3 g4 g5 g6 g7 g8
    generalize (((((((((w1.setCell ⟨w.heap.size, 0, none⟩ (.int .i64 0)).setCell ⟨w.heap.size, 1, none⟩ (.int .i64 0)).setCell ⟨w.heap.size, 2, none⟩ (.int .i64 0)).setCell ⟨w.heap.size, 3, none⟩ (.string ⟨#[]⟩)).setCell ⟨w.heap.size, 4, none⟩ (.bool false)).setCell ⟨w.heap.size, 5, none⟩ (.int .i64 0)).setCell ⟨w.heap.size, 6, none⟩ (.int .i64 0)).setCell ⟨w.heap.size, 7, none⟩ (.string ⟨#[]⟩)).setCell ⟨w.heap.size, 8, none⟩ (.int .i64 0)) = W9 at *
    have s0 := cell_of_block hb9 0
    have s1 := cell_of_block hb9 1
    have s2 := cell_of_block hb9 2
    have s3 := cell_of_block hb9 3
    have s4 := cell_of_block hb9 4
    have s5 := cell_of_block hb9 5
    have s6 := cell_of_block hb9 6
    have s7 := cell_of_block hb9 7
    have s8 := cell_of_block hb9 8
    refine bodyPost_ret (v := .tuple #[actV 0 0 0 ⟨#[]⟩ false 0 0 ⟨#[]⟩ 0, .int .i64 0]) (by simp [results, Tryz.results61, go_sem, s0, s1, s2, s3, s4, s5, s6, s7, s8]) rfl ?_
    exact ⟨.inr ⟨HN.out, rfl⟩, hB9⟩
  · have hC := hide hC0
    have hfl : f.length + 1 ≤ s.size := by
      have := congrArg List.length hsf
      simp only [List.length_append, List.length_cons] at this
      omega
    have hc2 := hide (l5Cut_any (Pl.bs f) 32 1 (by rw [Pl.bs_size]; omega) (by omega))
    rw [Pl.bs_back] at hc2
    have hline : ∀ k r p nm o vk vn vt m, Pl.TellsR s k r p nm o vk vn vt m → f = Lib.itoa (Pl.crc (Pl.bs (Pl.actT k r p nm o vk vn vt m)) : Int) ++ 32 :: Pl.actT k r p nm o vk vn vt m := fun k r p nm o vk vn vt m h => by
      obtain ⟨rest, hr, hn⟩ := Pl.rec_line h
      exact (Pl.split_one hf hn (hsf.symm.trans hr)).1
    rcases Pl.cut_form 32 f with ⟨h1, hC1, _⟩ | ⟨h, t, hh, hft, hC1, hL2⟩
    · have hC2 := hide hC1
      have hno : ∀ k r p nm o vk vn vt m, ¬ Pl.TellsR s k r p nm o vk vn vt m := fun k r p nm o vk vn vt m h => h1 (by rw [hline _ _ _ _ _ _ _ _ _ h]; simp)
      have HN := hide hno
      clear hno h1 hC0 hC1 hll hline hf hsf hL hfl
      go_enter Tryz.func61, Tryz.ntmps61
      go_wp2_with fail
      refine (hc.out _).mono ?_
      rintro e1 w1 ⟨v1, rfl, hown1, hB1⟩
      rw [hC.out] at hown1
      obtain ⟨g, k1, rfl, hgb, hgl, d0, d1⟩ := row2_of hown1
      obtain ⟨bx, hBL, hltw1⟩ := box_after hB1
      have HBXw1 := hide bx
      have HBLw1 := hide hBL
      clear hB1 bx hBL
      have hgw : w.heap.size + 1 ≤ g := by simpa using hgb
      clear hown1 hgb d1
      go_wp2_with fail
      refine (hc2.out _).mono ?_
      rintro e2 w2 ⟨v2, rfl, hown2, hB2⟩
      rw [hC2.out] at hown2
      have D0 := hide ((hB2.cell (p := ⟨g, 0, none⟩) hgl).trans d0)
      have hgl2 : g < w2.heap.size := Nat.lt_of_lt_of_le hgl hB2.size
      have HBXw2 := hide ((hB2.block w.heap.size hltw1).trans HBXw1.out)
      have HBLw2 := hide (HBLw1.out.trans (hB2.mono HBLw1.out.size))
      have hltw2 : w.heap.size < w2.heap.size := Nat.lt_of_lt_of_le hltw1 hB2.size
      clear hB2 d0 hgl HBXw1 HBLw1
      obtain ⟨a2, k2, rfl⟩ := ownsRow_form hown2
      clear hown2
      have r0 := cell_of_block HBXw2.out 0
      have r1 := cell_of_block HBXw2.out 1
      have r2 := cell_of_block HBXw2.out 2
      have r3 := cell_of_block HBXw2.out 3
      have r4 := cell_of_block HBXw2.out 4
      have r5 := cell_of_block HBXw2.out 5
      have r6 := cell_of_block HBXw2.out 6
      have r7 := cell_of_block HBXw2.out 7
      have r8 := cell_of_block HBXw2.out 8
      have g0 := free_of_block HBXw2.out 0
      have g1 := free_of_block HBXw2.out 1
      have g2 := free_of_block HBXw2.out 2
      have g3 := free_of_block HBXw2.out 3
      have g4 := free_of_block HBXw2.out 4
      have g5 := free_of_block HBXw2.out 5
      have g6 := free_of_block HBXw2.out 6
      have g7 := free_of_block HBXw2.out 7
      have g8 := free_of_block HBXw2.out 8
      simp only [List.getElem?_toArray, List.getElem?_cons_zero, List.getElem?_cons_succ] at r0 r1 r2 r3 r4 r5 r6 r7 r8
      go_wp2_with fail
      have hb9 := nine_set HBXw2.out (.int .i64 0) (.int .i64 0) (.int .i64 0) (.string ⟨#[]⟩) (.bool false) (.int .i64 0) (.int .i64 0) (.string ⟨#[]⟩) (.int .i64 0)
      have hB9 := nine_below HBLw2.out (Nat.le_refl _) (.int .i64 0) (.int .i64 0) (.int .i64 0) (.string ⟨#[]⟩) (.bool false) (.int .i64 0) (.int .i64 0) (.string ⟨#[]⟩) (.int .i64 0)
      clear r0 r1 r2 r3 r4 r5 r6 r7 r8 g0 g1 g2 g3 g4 g5 g6 g7 g8
      generalize (((((((((w2.setCell ⟨w.heap.size, 0, none⟩ (.int .i64 0)).setCell ⟨w.heap.size, 1, none⟩ (.int .i64 0)).setCell ⟨w.heap.size, 2, none⟩ (.int .i64 0)).setCell ⟨w.heap.size, 3, none⟩ (.string ⟨#[]⟩)).setCell ⟨w.heap.size, 4, none⟩ (.bool false)).setCell ⟨w.heap.size, 5, none⟩ (.int .i64 0)).setCell ⟨w.heap.size, 6, none⟩ (.int .i64 0)).setCell ⟨w.heap.size, 7, none⟩ (.string ⟨#[]⟩)).setCell ⟨w.heap.size, 8, none⟩ (.int .i64 0)) = W9 at *
      have s0 := cell_of_block hb9 0
      have s1 := cell_of_block hb9 1
      have s2 := cell_of_block hb9 2
      have s3 := cell_of_block hb9 3
      have s4 := cell_of_block hb9 4
      have s5 := cell_of_block hb9 5
      have s6 := cell_of_block hb9 6
      have s7 := cell_of_block hb9 7
      have s8 := cell_of_block hb9 8
      refine bodyPost_ret (v := .tuple #[actV 0 0 0 ⟨#[]⟩ false 0 0 ⟨#[]⟩ 0, .int .i64 0]) (by simp [results, Tryz.results61, go_sem, s0, s1, s2, s3, s4, s5, s6, s7, s8]) rfl ?_
      exact ⟨.inr ⟨HN.out, rfl⟩, hB9⟩
    · have hC2 := hide hC1
      have htold : Pl.told s = t := by
        unfold Pl.told
        rw [hL]
        show (Lib.cut f [32]).2.1 = t
        rw [hL2]
      have hts := Pl.told_size s
      rw [htold] at hts
      have hg0 := fun W => specActGet_any (Pl.bs t) (by rw [Pl.bs_size]; omega) W
      have hact : ∀ k r p nm o vk vn vt m, Pl.TellsR s k r p nm o vk vn vt m → Pl.TellsA (Pl.bs t) k r p nm o vk vn vt m := fun k r p nm o vk vn vt m h => ⟨h.1, by rw [Pl.bs_back, ← htold, Pl.told_rec h]⟩
      rcases Pl.act_answer (Pl.bs t) with ⟨k, r, p, nm, o, vk, vn, vt, m, ht, ho⟩ | ⟨hn, ho⟩
      · have hg : Hid (∀ W, Calls Tryz.prog 75 #[.string (Pl.bs t)] W fun e w' => e = .returned (.tuple #[actV k r p nm o vk vn vt m, .bool true]) ∧ Below W.heap.size W w') := fun W => (hg0 W).mono fun e w' h => ho _ _ _ h
        obtain ⟨znm, zvt⟩ := Pl.tells_sizes ht (by rw [Pl.bs_size]; omega)
        have hrec := hide (l8Record_any k r p nm o vk vn vt m ht.1 znm zvt)
        have hiff : Pl.recT (Pl.actT k r p nm o vk vn vt m) = f ++ [10] ↔ Pl.TellsR s k r p nm o vk vn vt m := by
          constructor
          · intro e
            refine ⟨ht.1, q, ?_⟩
            rw [e, hsf]
            simp
          · intro e
            rw [Pl.rec_form, ← hline _ _ _ _ _ _ _ _ _ e]
        have hone : ∀ k' r' p' nm' o' vk' vn' vt' m', Pl.TellsR s k' r' p' nm' o' vk' vn' vt' m' → Pl.TellsR s k r p nm o vk vn vt m := fun k' r' p' nm' o' vk' vn' vt' m' e => by
          obtain ⟨rfl, rfl, rfl, rfl, rfl, rfl, rfl, rfl, rfl⟩ := Pl.tells_act_one ht (hact _ _ _ _ _ _ _ _ _ e)
          exact e
        have hcmp : ((Pl.bs (Pl.recT (Pl.actT k r p nm o vk vn vt m))).toList == (Pl.bs f ++ ⟨#[10]⟩).toList) = (Pl.recT (Pl.actT k r p nm o vk vn vt m) == f ++ [10]) := by
          rw [Pl.bs_toList, show (Pl.bs f ++ ⟨#[10]⟩ : ByteArray) = Pl.bs (f ++ [10]) from (bs_append _ _).symm ▸ rfl, Pl.bs_toList]
        have hfs : (Pl.bs f).size = f.length := Pl.bs_size f
        have hfa : (Pl.bs f).size + (⟨#[10]⟩ : ByteArray).size ≤ 9000000 := by show _ + 1 ≤ _; omega
        clear hg0 ho ht hact hL hL2 hC0 hC1 hll hh hft hline hf hsf htold hts
        cases hq : (Pl.recT (Pl.actT k r p nm o vk vn vt m) == f ++ [10])
        · rw [hq] at hcmp
          have hno : ∀ k r p nm o vk vn vt m, ¬ Pl.TellsR s k r p nm o vk vn vt m := fun k' r' p' nm' o' vk' vn' vt' m' e => by
            rw [hiff.2 (hone _ _ _ _ _ _ _ _ _ e)] at hq
            simp at hq
          have HN := hide hno
          clear hno hone hiff hq
          generalize Pl.recT (Pl.actT k r p nm o vk vn vt m) = REC at *
          go_enter Tryz.func61, Tryz.ntmps61
          go_wp2_with fail
          refine (hc.out _).mono ?_
          rintro e1 w1 ⟨v1, rfl, hown1, hB1⟩
          rw [hC.out] at hown1
          obtain ⟨g, k1, rfl, hgb, hgl, d0, d1⟩ := row2_of hown1
          obtain ⟨bx, hBL, hltw1⟩ := box_after hB1
          have HBXw1 := hide bx
          have HBLw1 := hide hBL
          clear hB1 bx hBL
          have hgw : w.heap.size + 1 ≤ g := by simpa using hgb
          clear hown1 hgb d1
          go_wp2_with fail
          refine (hc2.out _).mono ?_
          rintro e2 w2 ⟨v2, rfl, hown2, hB2⟩
          rw [hC2.out] at hown2
          have D0 := hide ((hB2.cell (p := ⟨g, 0, none⟩) hgl).trans d0)
          have hgl2 : g < w2.heap.size := Nat.lt_of_lt_of_le hgl hB2.size
          have HBXw2 := hide ((hB2.block w.heap.size hltw1).trans HBXw1.out)
          have HBLw2 := hide (HBLw1.out.trans (hB2.mono HBLw1.out.size))
          have hltw2 : w.heap.size < w2.heap.size := Nat.lt_of_lt_of_le hltw1 hB2.size
          clear hB2 d0 hgl HBXw1 HBLw1
          obtain ⟨g2, k2, rfl, hgb2, hgl2', d0', d1'⟩ := row2_of hown2
          clear hown2 hgb2 d0'
          go_wp2_with fail
          refine (hg.out _).mono ?_
          rintro e3 w3 ⟨rfl, hB3⟩
          have D1 := hide ((hB3.cell (p := ⟨g, 0, none⟩) hgl2).trans D0.out)
          have hgl3 : g < w3.heap.size := Nat.lt_of_lt_of_le hgl2 hB3.size
          have HBXw3 := hide ((hB3.block w.heap.size hltw2).trans HBXw2.out)
          have HBLw3 := hide (HBLw2.out.trans (hB3.mono HBLw2.out.size))
          have hltw3 : w.heap.size < w3.heap.size := Nat.lt_of_lt_of_le hltw2 hB3.size
          clear hB3 D0 hgl2 HBXw2 HBLw2 d1' hgl2'
          go_upto_region 8 with fail
          refine act_code (fun X => X.heap[w3.heap.size]? = some (.cells #[.int .i64 k, .int .i64 r, .int .i64 p, .string nm, .bool o, .int .i64 vk, .int .i64 vn, .string vt, .int .i64 m] 45 (0, 0)) ∧ X.cell? ⟨g, 0, none⟩ = some (sv f) ∧ X.heap[w.heap.size]? = some (.cells #[.int .i64 0, .int .i64 0, .int .i64 0, .string ⟨#[]⟩, .bool false, .int .i64 0, .int .i64 0, .string ⟨#[]⟩, .int .i64 0] 45 (0, 0)) ∧ Below w.heap.size w X ∧ X.heap.size = w3.heap.size + 1) ⟨by show (w3.heap.push _)[w3.heap.size]? = _; rw [Array.getElem?_push_size], (World.cell?_alloc_lt _ _ _ hgl3).trans D1.out, (Below.heap_alloc _ _ _ hltw3).trans HBXw3.out, HBLw3.out.alloc HBLw3.out.size _, by simp⟩ ?_
          rintro X ⟨bA, cG, bX, hXL, hXs⟩
          have HBA := hide bA
          have HCG := hide cG
          have HBX := hide bX
          have HXL := hide hXL
          have hlA : w3.heap.size < X.heap.size := by omega
          have hlG : g < X.heap.size := by omega
          have hlX : w.heap.size < X.heap.size := by omega
          clear bA cG bX hXL HBXw3 HBLw3 D1
          refine wp_region_noPanic ?_
          refine wp_region_held_drew (S := fun W => Below X.heap.size X W) (by kernel_rfl) (below_drew' (Below.refl _ _)) (fun hHeld => ?_)
          refine wpAnyH_take (i := 0) (oi := Oper.mk (some 29) _ _ _ _ _) (v := ?_) rfl (by kernel_rfl) (by kernel_rfl) (by kernel_rfl) (fun _ _ _ h => h) (Or.inl ⟨by rfl, ?_⟩) (by assumption) ?_
          rotate_left
          · intro w0 hSw
            clear hSw
            go_simp
            all_goals (with_reducible rfl)
          simp only [Act.put, List.setIfInBounds_toArray, List.set_cons_zero, List.set_cons_succ]
          refine wpAnyH_take (i := 1) (oi := Oper.mk (some 30) _ _ _ _ _) (v := ?_) rfl (by kernel_rfl) (by kernel_rfl) (by kernel_rfl) (fun _ _ _ h => h) (Or.inl ⟨by rfl, ?_⟩) (by assumption) ?_
          rotate_left
          · intro w0 hSw
            clear hSw
            go_simp
            all_goals (with_reducible rfl)
          simp only [Act.put, List.setIfInBounds_toArray, List.set_cons_zero, List.set_cons_succ]
          refine wpAnyH_take (i := 2) (oi := Oper.mk (some 31) _ _ _ _ _) (v := ?_) rfl (by kernel_rfl) (by kernel_rfl) (by kernel_rfl) (fun _ _ _ h => h) (Or.inl ⟨by rfl, ?_⟩) (by assumption) ?_
          rotate_left
          · intro w0 hSw
            clear hSw
            go_simp
            all_goals (with_reducible rfl)
          simp only [Act.put, List.setIfInBounds_toArray, List.set_cons_zero, List.set_cons_succ]
          refine wpAnyH_take (i := 3) (oi := Oper.mk (some 32) _ _ _ _ _) (v := ?_) rfl (by kernel_rfl) (by kernel_rfl) (by kernel_rfl) (fun _ _ _ h => h) (Or.inl ⟨by rfl, ?_⟩) (by assumption) ?_
          rotate_left
          · intro w0 hSw
            have z0 : w0.cell? ⟨w3.heap.size, 0, none⟩ = some (.int .i64 k : Value) := (Below.cell hSw (p := ⟨w3.heap.size, 0, none⟩) hlA).trans (cell_of_block HBA.out 0)
            have z1 : w0.cell? ⟨w3.heap.size, 1, none⟩ = some (.int .i64 r : Value) := (Below.cell hSw (p := ⟨w3.heap.size, 1, none⟩) hlA).trans (cell_of_block HBA.out 1)
            have z2 : w0.cell? ⟨w3.heap.size, 2, none⟩ = some (.int .i64 p : Value) := (Below.cell hSw (p := ⟨w3.heap.size, 2, none⟩) hlA).trans (cell_of_block HBA.out 2)
            have z3 : w0.cell? ⟨w3.heap.size, 3, none⟩ = some (.string nm : Value) := (Below.cell hSw (p := ⟨w3.heap.size, 3, none⟩) hlA).trans (cell_of_block HBA.out 3)
            have z4 : w0.cell? ⟨w3.heap.size, 4, none⟩ = some (.bool o : Value) := (Below.cell hSw (p := ⟨w3.heap.size, 4, none⟩) hlA).trans (cell_of_block HBA.out 4)
            have z5 : w0.cell? ⟨w3.heap.size, 5, none⟩ = some (.int .i64 vk : Value) := (Below.cell hSw (p := ⟨w3.heap.size, 5, none⟩) hlA).trans (cell_of_block HBA.out 5)
            have z6 : w0.cell? ⟨w3.heap.size, 6, none⟩ = some (.int .i64 vn : Value) := (Below.cell hSw (p := ⟨w3.heap.size, 6, none⟩) hlA).trans (cell_of_block HBA.out 6)
            have z7 : w0.cell? ⟨w3.heap.size, 7, none⟩ = some (.string vt : Value) := (Below.cell hSw (p := ⟨w3.heap.size, 7, none⟩) hlA).trans (cell_of_block HBA.out 7)
            have z8 : w0.cell? ⟨w3.heap.size, 8, none⟩ = some (.int .i64 m : Value) := (Below.cell hSw (p := ⟨w3.heap.size, 8, none⟩) hlA).trans (cell_of_block HBA.out 8)
            clear hSw
            go_simp
            all_goals (with_reducible rfl)
          simp only [Act.put, List.setIfInBounds_toArray, List.set_cons_zero, List.set_cons_succ]
          refine wpAnyH_take (i := 5) (oi := Oper.mk (some 34) _ _ _ _ _) (v := ?_) rfl (by kernel_rfl) (by kernel_rfl) (by kernel_rfl) (fun _ _ _ h => h) (Or.inl ⟨by rfl, ?_⟩) (by assumption) ?_
          rotate_left
          · intro w0 hSw
            clear hSw
            go_simp
            all_goals (with_reducible rfl)
          simp only [Act.put, List.setIfInBounds_toArray, List.set_cons_zero, List.set_cons_succ]
          refine wpAnyH_take (i := 6) (oi := Oper.mk (some 35) _ _ _ _ _) (v := ?_) rfl (by kernel_rfl) (by kernel_rfl) (by kernel_rfl) (fun _ _ _ h => h) (Or.inl ⟨by rfl, ?_⟩) (by assumption) ?_
          rotate_left
          · intro w0 hSw
            clear hSw
            go_simp
            all_goals (with_reducible rfl)
          simp only [Act.put, List.setIfInBounds_toArray, List.set_cons_zero, List.set_cons_succ]
          refine wpAnyH_take (i := 7) (oi := Oper.mk (some 36) _ _ _ _ _) (v := ?_) rfl (by kernel_rfl) (by kernel_rfl) (by kernel_rfl) (fun _ _ _ h => h) (Or.inl ⟨by rfl, ?_⟩) (by assumption) ?_
          rotate_left
          · intro w0 hSw
            have z0 : w0.cell? ⟨g, 0, none⟩ = some (sv f : Value) := (Below.cell hSw (p := ⟨g, 0, none⟩) hlG).trans HCG.out
            clear hSw
            go_simp
            all_goals (with_reducible rfl)
          simp only [Act.put, List.setIfInBounds_toArray, List.set_cons_zero, List.set_cons_succ]
          refine wpAnyH_take (i := 8) (oi := Oper.mk (some 37) _ _ _ _ _) (v := ?_) rfl (by kernel_rfl) (by kernel_rfl) (by kernel_rfl) (fun _ _ _ h => h) (Or.inl ⟨by rfl, ?_⟩) (by assumption) ?_
          rotate_left
          · intro w0 hSw
            clear hSw
            go_simp
            rw [if_neg (by omega)]
            all_goals (with_reducible rfl)
          simp only [Act.put, List.setIfInBounds_toArray, List.set_cons_zero, List.set_cons_succ]
          refine wpAnyH_ready (rs := [4]) (by kernel_rfl) (by simp) ?_
          refine AllReadyH.cons (o := Oper.mk (some 33) _ _ _ _ _) rfl (fun K hK => ?_) AllReadyH.nil
          go_simp
          go_at_call 40
          refine (hrec.out _).mono ?_
          rintro x0 Y ⟨rfl, hB0⟩
          have hHeld' := Below.trans hHeld (hB0.mono hHeld.size)
          clear hB0 hHeld
          go_wp2_with fail
          refine hK.out _ _ hHeld' (fun hHeld => ?_)
          clear hK K hHeld'
          (try simp only [Act.put, List.setIfInBounds_toArray, List.set_cons_zero, List.set_cons_succ])
          refine wpAnyH_take (i := 9) (oi := Oper.mk (some 38) _ _ _ _ _) (v := ?_) rfl (by kernel_rfl) (by kernel_rfl) (by kernel_rfl) (fun _ _ _ h => h) (Or.inl ⟨by rfl, ?_⟩) (by assumption) ?_
          rotate_left
          · intro w0 hSw
            clear hSw
            go_simp
            all_goals (with_reducible rfl)
          simp only [Act.put, List.setIfInBounds_toArray, List.set_cons_zero, List.set_cons_succ]
          refine wpAnyH_take (i := 10) (oi := Oper.mk (some 39) _ _ _ _ _) (v := ?_) rfl (by kernel_rfl) (by kernel_rfl) (by kernel_rfl) (fun _ _ _ h => h) (Or.inl ⟨by rfl, ?_⟩) (by assumption) ?_
          rotate_left
          · intro w0 hSw
            clear hSw
            go_simp
            all_goals (with_reducible rfl)
          simp only [Act.put, List.setIfInBounds_toArray, List.set_cons_zero, List.set_cons_succ]
          refine wpAnyH_done (by kernel_rfl) ?_ _
          refine NoPanic.normal ?_
          have HBAy := hide ((hHeld.block w3.heap.size hlA).trans HBA.out)
          have HCGy := hide ((hHeld.cell (p := ⟨g, 0, none⟩) hlG).trans HCG.out)
          have HBXy := hide ((hHeld.block w.heap.size hlX).trans HBX.out)
          have HXLy := hide (HXL.out.trans (hHeld.mono HXL.out.size))
          have hlAy : w3.heap.size < Y.heap.size := Nat.lt_of_lt_of_le hlA hHeld.size
          have hlGy : g < Y.heap.size := Nat.lt_of_lt_of_le hlG hHeld.size
          have hlXy : w.heap.size < Y.heap.size := Nat.lt_of_lt_of_le hlX hHeld.size
          clear hHeld HBA HCG HBX HXL hlA hlG hlX
          have r0 := cell_of_block HBXy.out 0
          have r1 := cell_of_block HBXy.out 1
          have r2 := cell_of_block HBXy.out 2
          have r3 := cell_of_block HBXy.out 3
          have r4 := cell_of_block HBXy.out 4
          have r5 := cell_of_block HBXy.out 5
          have r6 := cell_of_block HBXy.out 6
          have r7 := cell_of_block HBXy.out 7
          have r8 := cell_of_block HBXy.out 8
          have g0 := free_of_block HBXy.out 0
          have g1 := free_of_block HBXy.out 1
          have g2 := free_of_block HBXy.out 2
          have g3 := free_of_block HBXy.out 3
          have g4 := free_of_block HBXy.out 4
          have g5 := free_of_block HBXy.out 5
          have g6 := free_of_block HBXy.out 6
          have g7 := free_of_block HBXy.out 7
          have g8 := free_of_block HBXy.out 8
          simp only [List.getElem?_toArray, List.getElem?_cons_zero, List.getElem?_cons_succ] at r0 r1 r2 r3 r4 r5 r6 r7 r8
          go_wp2_with fail
          have hb9 := nine_set HBXy.out (.int .i64 0) (.int .i64 0) (.int .i64 0) (.string ⟨#[]⟩) (.bool false) (.int .i64 0) (.int .i64 0) (.string ⟨#[]⟩) (.int .i64 0)
          have hB9 := nine_below HXLy.out (Nat.le_refl _) (.int .i64 0) (.int .i64 0) (.int .i64 0) (.string ⟨#[]⟩) (.bool false) (.int .i64 0) (.int .i64 0) (.string ⟨#[]⟩) (.int .i64 0)
          clear r0 r1 r2 r3 r4 r5 r6 r7 r8 g0 g1 g2 g3 g4 g5 g6 g7 g8
          generalize (((((((((Y.setCell ⟨w.heap.size, 0, none⟩ (.int .i64 0)).setCell ⟨w.heap.size, 1, none⟩ (.int .i64 0)).setCell ⟨w.heap.size, 2, none⟩ (.int .i64 0)).setCell ⟨w.heap.size, 3, none⟩ (.string ⟨#[]⟩)).setCell ⟨w.heap.size, 4, none⟩ (.bool false)).setCell ⟨w.heap.size, 5, none⟩ (.int .i64 0)).setCell ⟨w.heap.size, 6, none⟩ (.int .i64 0)).setCell ⟨w.heap.size, 7, none⟩ (.string ⟨#[]⟩)).setCell ⟨w.heap.size, 8, none⟩ (.int .i64 0)) = W9 at *
          have s0 := cell_of_block hb9 0
          have s1 := cell_of_block hb9 1
          have s2 := cell_of_block hb9 2
          have s3 := cell_of_block hb9 3
          have s4 := cell_of_block hb9 4
          have s5 := cell_of_block hb9 5
          have s6 := cell_of_block hb9 6
          have s7 := cell_of_block hb9 7
          have s8 := cell_of_block hb9 8
          refine bodyPost_ret (v := .tuple #[actV 0 0 0 ⟨#[]⟩ false 0 0 ⟨#[]⟩ 0, .int .i64 0]) (by simp [results, Tryz.results61, go_sem, s0, s1, s2, s3, s4, s5, s6, s7, s8]) rfl ?_
          exact ⟨.inr ⟨HN.out, rfl⟩, hB9⟩
        · rw [hq] at hcmp
          have HY := hide (hiff.1 (eq_of_beq hq))
          have HLN : Hid (f.length + 1 = (Pl.recT (Pl.actT k r p nm o vk vn vt m)).length) := by show _ = _; rw [eq_of_beq hq]; simp
          clear hone hiff hq
          generalize hREC : Pl.recT (Pl.actT k r p nm o vk vn vt m) = REC at *
          have HREC := hide hREC
          clear hREC
          go_enter Tryz.func61, Tryz.ntmps61
          go_wp2_with fail
          refine (hc.out _).mono ?_
          rintro e1 w1 ⟨v1, rfl, hown1, hB1⟩
          rw [hC.out] at hown1
          obtain ⟨g, k1, rfl, hgb, hgl, d0, d1⟩ := row2_of hown1
          obtain ⟨bx, hBL, hltw1⟩ := box_after hB1
          have HBXw1 := hide bx
          have HBLw1 := hide hBL
          clear hB1 bx hBL
          have hgw : w.heap.size + 1 ≤ g := by simpa using hgb
          clear hown1 hgb d1
          go_wp2_with fail
          refine (hc2.out _).mono ?_
          rintro e2 w2 ⟨v2, rfl, hown2, hB2⟩
          rw [hC2.out] at hown2
          have D0 := hide ((hB2.cell (p := ⟨g, 0, none⟩) hgl).trans d0)
          have hgl2 : g < w2.heap.size := Nat.lt_of_lt_of_le hgl hB2.size
          have HBXw2 := hide ((hB2.block w.heap.size hltw1).trans HBXw1.out)
          have HBLw2 := hide (HBLw1.out.trans (hB2.mono HBLw1.out.size))
          have hltw2 : w.heap.size < w2.heap.size := Nat.lt_of_lt_of_le hltw1 hB2.size
          clear hB2 d0 hgl HBXw1 HBLw1
          obtain ⟨g2, k2, rfl, hgb2, hgl2', d0', d1'⟩ := row2_of hown2
          clear hown2 hgb2 d0'
          go_wp2_with fail
          refine (hg.out _).mono ?_
          rintro e3 w3 ⟨rfl, hB3⟩
          have D1 := hide ((hB3.cell (p := ⟨g, 0, none⟩) hgl2).trans D0.out)
          have hgl3 : g < w3.heap.size := Nat.lt_of_lt_of_le hgl2 hB3.size
          have HBXw3 := hide ((hB3.block w.heap.size hltw2).trans HBXw2.out)
          have HBLw3 := hide (HBLw2.out.trans (hB3.mono HBLw2.out.size))
          have hltw3 : w.heap.size < w3.heap.size := Nat.lt_of_lt_of_le hltw2 hB3.size
          clear hB3 D0 hgl2 HBXw2 HBLw2 d1' hgl2'
          go_upto_region 8 with fail
          refine act_code (fun X => X.heap[w3.heap.size]? = some (.cells #[.int .i64 k, .int .i64 r, .int .i64 p, .string nm, .bool o, .int .i64 vk, .int .i64 vn, .string vt, .int .i64 m] 45 (0, 0)) ∧ X.cell? ⟨g, 0, none⟩ = some (sv f) ∧ X.heap[w.heap.size]? = some (.cells #[.int .i64 0, .int .i64 0, .int .i64 0, .string ⟨#[]⟩, .bool false, .int .i64 0, .int .i64 0, .string ⟨#[]⟩, .int .i64 0] 45 (0, 0)) ∧ Below w.heap.size w X ∧ X.heap.size = w3.heap.size + 1) ⟨by show (w3.heap.push _)[w3.heap.size]? = _; rw [Array.getElem?_push_size], (World.cell?_alloc_lt _ _ _ hgl3).trans D1.out, (Below.heap_alloc _ _ _ hltw3).trans HBXw3.out, HBLw3.out.alloc HBLw3.out.size _, by simp⟩ ?_
          rintro X ⟨bA, cG, bX, hXL, hXs⟩
          have HBA := hide bA
          have HCG := hide cG
          have HBX := hide bX
          have HXL := hide hXL
          have hlA : w3.heap.size < X.heap.size := by omega
          have hlG : g < X.heap.size := by omega
          have hlX : w.heap.size < X.heap.size := by omega
          clear bA cG bX hXL HBXw3 HBLw3 D1
          refine wp_region_noPanic ?_
          refine wp_region_held_drew (S := fun W => Below X.heap.size X W) (by kernel_rfl) (below_drew' (Below.refl _ _)) (fun hHeld => ?_)
          refine wpAnyH_take (i := 0) (oi := Oper.mk (some 29) _ _ _ _ _) (v := ?_) rfl (by kernel_rfl) (by kernel_rfl) (by kernel_rfl) (fun _ _ _ h => h) (Or.inl ⟨by rfl, ?_⟩) (by assumption) ?_
          rotate_left
          · intro w0 hSw
            clear hSw
            go_simp
            all_goals (with_reducible rfl)
          simp only [Act.put, List.setIfInBounds_toArray, List.set_cons_zero, List.set_cons_succ]
          refine wpAnyH_take (i := 1) (oi := Oper.mk (some 30) _ _ _ _ _) (v := ?_) rfl (by kernel_rfl) (by kernel_rfl) (by kernel_rfl) (fun _ _ _ h => h) (Or.inl ⟨by rfl, ?_⟩) (by assumption) ?_
          rotate_left
          · intro w0 hSw
            clear hSw
            go_simp
            all_goals (with_reducible rfl)
          simp only [Act.put, List.setIfInBounds_toArray, List.set_cons_zero, List.set_cons_succ]
          refine wpAnyH_take (i := 2) (oi := Oper.mk (some 31) _ _ _ _ _) (v := ?_) rfl (by kernel_rfl) (by kernel_rfl) (by kernel_rfl) (fun _ _ _ h => h) (Or.inl ⟨by rfl, ?_⟩) (by assumption) ?_
          rotate_left
          · intro w0 hSw
            clear hSw
            go_simp
            all_goals (with_reducible rfl)
          simp only [Act.put, List.setIfInBounds_toArray, List.set_cons_zero, List.set_cons_succ]
          refine wpAnyH_take (i := 3) (oi := Oper.mk (some 32) _ _ _ _ _) (v := ?_) rfl (by kernel_rfl) (by kernel_rfl) (by kernel_rfl) (fun _ _ _ h => h) (Or.inl ⟨by rfl, ?_⟩) (by assumption) ?_
          rotate_left
          · intro w0 hSw
            have z0 : w0.cell? ⟨w3.heap.size, 0, none⟩ = some (.int .i64 k : Value) := (Below.cell hSw (p := ⟨w3.heap.size, 0, none⟩) hlA).trans (cell_of_block HBA.out 0)
            have z1 : w0.cell? ⟨w3.heap.size, 1, none⟩ = some (.int .i64 r : Value) := (Below.cell hSw (p := ⟨w3.heap.size, 1, none⟩) hlA).trans (cell_of_block HBA.out 1)
            have z2 : w0.cell? ⟨w3.heap.size, 2, none⟩ = some (.int .i64 p : Value) := (Below.cell hSw (p := ⟨w3.heap.size, 2, none⟩) hlA).trans (cell_of_block HBA.out 2)
            have z3 : w0.cell? ⟨w3.heap.size, 3, none⟩ = some (.string nm : Value) := (Below.cell hSw (p := ⟨w3.heap.size, 3, none⟩) hlA).trans (cell_of_block HBA.out 3)
            have z4 : w0.cell? ⟨w3.heap.size, 4, none⟩ = some (.bool o : Value) := (Below.cell hSw (p := ⟨w3.heap.size, 4, none⟩) hlA).trans (cell_of_block HBA.out 4)
            have z5 : w0.cell? ⟨w3.heap.size, 5, none⟩ = some (.int .i64 vk : Value) := (Below.cell hSw (p := ⟨w3.heap.size, 5, none⟩) hlA).trans (cell_of_block HBA.out 5)
            have z6 : w0.cell? ⟨w3.heap.size, 6, none⟩ = some (.int .i64 vn : Value) := (Below.cell hSw (p := ⟨w3.heap.size, 6, none⟩) hlA).trans (cell_of_block HBA.out 6)
            have z7 : w0.cell? ⟨w3.heap.size, 7, none⟩ = some (.string vt : Value) := (Below.cell hSw (p := ⟨w3.heap.size, 7, none⟩) hlA).trans (cell_of_block HBA.out 7)
            have z8 : w0.cell? ⟨w3.heap.size, 8, none⟩ = some (.int .i64 m : Value) := (Below.cell hSw (p := ⟨w3.heap.size, 8, none⟩) hlA).trans (cell_of_block HBA.out 8)
            clear hSw
            go_simp
            all_goals (with_reducible rfl)
          simp only [Act.put, List.setIfInBounds_toArray, List.set_cons_zero, List.set_cons_succ]
          refine wpAnyH_take (i := 5) (oi := Oper.mk (some 34) _ _ _ _ _) (v := ?_) rfl (by kernel_rfl) (by kernel_rfl) (by kernel_rfl) (fun _ _ _ h => h) (Or.inl ⟨by rfl, ?_⟩) (by assumption) ?_
          rotate_left
          · intro w0 hSw
            clear hSw
            go_simp
            all_goals (with_reducible rfl)
          simp only [Act.put, List.setIfInBounds_toArray, List.set_cons_zero, List.set_cons_succ]
          refine wpAnyH_take (i := 6) (oi := Oper.mk (some 35) _ _ _ _ _) (v := ?_) rfl (by kernel_rfl) (by kernel_rfl) (by kernel_rfl) (fun _ _ _ h => h) (Or.inl ⟨by rfl, ?_⟩) (by assumption) ?_
          rotate_left
          · intro w0 hSw
            clear hSw
            go_simp
            all_goals (with_reducible rfl)
          simp only [Act.put, List.setIfInBounds_toArray, List.set_cons_zero, List.set_cons_succ]
          refine wpAnyH_take (i := 7) (oi := Oper.mk (some 36) _ _ _ _ _) (v := ?_) rfl (by kernel_rfl) (by kernel_rfl) (by kernel_rfl) (fun _ _ _ h => h) (Or.inl ⟨by rfl, ?_⟩) (by assumption) ?_
          rotate_left
          · intro w0 hSw
            have z0 : w0.cell? ⟨g, 0, none⟩ = some (sv f : Value) := (Below.cell hSw (p := ⟨g, 0, none⟩) hlG).trans HCG.out
            clear hSw
            go_simp
            all_goals (with_reducible rfl)
          simp only [Act.put, List.setIfInBounds_toArray, List.set_cons_zero, List.set_cons_succ]
          refine wpAnyH_take (i := 8) (oi := Oper.mk (some 37) _ _ _ _ _) (v := ?_) rfl (by kernel_rfl) (by kernel_rfl) (by kernel_rfl) (fun _ _ _ h => h) (Or.inl ⟨by rfl, ?_⟩) (by assumption) ?_
          rotate_left
          · intro w0 hSw
            clear hSw
            go_simp
            rw [if_neg (by omega)]
            all_goals (with_reducible rfl)
          simp only [Act.put, List.setIfInBounds_toArray, List.set_cons_zero, List.set_cons_succ]
          refine wpAnyH_ready (rs := [4]) (by kernel_rfl) (by simp) ?_
          refine AllReadyH.cons (o := Oper.mk (some 33) _ _ _ _ _) rfl (fun K hK => ?_) AllReadyH.nil
          go_simp
          go_at_call 40
          refine (hrec.out _).mono ?_
          rintro x0 Y ⟨rfl, hB0⟩
          have hHeld' := Below.trans hHeld (hB0.mono hHeld.size)
          clear hB0 hHeld
          go_wp2_with fail
          refine hK.out _ _ hHeld' (fun hHeld => ?_)
          clear hK K hHeld'
          (try simp only [Act.put, List.setIfInBounds_toArray, List.set_cons_zero, List.set_cons_succ])
          refine wpAnyH_take (i := 9) (oi := Oper.mk (some 38) _ _ _ _ _) (v := ?_) rfl (by kernel_rfl) (by kernel_rfl) (by kernel_rfl) (fun _ _ _ h => h) (Or.inl ⟨by rfl, ?_⟩) (by assumption) ?_
          rotate_left
          · intro w0 hSw
            clear hSw
            go_simp
            all_goals (with_reducible rfl)
          simp only [Act.put, List.setIfInBounds_toArray, List.set_cons_zero, List.set_cons_succ]
          refine wpAnyH_take (i := 10) (oi := Oper.mk (some 39) _ _ _ _ _) (v := ?_) rfl (by kernel_rfl) (by kernel_rfl) (by kernel_rfl) (fun _ _ _ h => h) (Or.inl ⟨by rfl, ?_⟩) (by assumption) ?_
          rotate_left
          · intro w0 hSw
            clear hSw
            go_simp
            all_goals (with_reducible rfl)
          simp only [Act.put, List.setIfInBounds_toArray, List.set_cons_zero, List.set_cons_succ]
          refine wpAnyH_done (by kernel_rfl) ?_ _
          refine NoPanic.normal ?_
          have HBAy := hide ((hHeld.block w3.heap.size hlA).trans HBA.out)
          have HCGy := hide ((hHeld.cell (p := ⟨g, 0, none⟩) hlG).trans HCG.out)
          have HBXy := hide ((hHeld.block w.heap.size hlX).trans HBX.out)
          have HXLy := hide (HXL.out.trans (hHeld.mono HXL.out.size))
          have hlAy : w3.heap.size < Y.heap.size := Nat.lt_of_lt_of_le hlA hHeld.size
          have hlGy : g < Y.heap.size := Nat.lt_of_lt_of_le hlG hHeld.size
          have hlXy : w.heap.size < Y.heap.size := Nat.lt_of_lt_of_le hlX hHeld.size
          clear hHeld HBA HCG HBX HXL hlA hlG hlX
          go_upto_region 10 with fail
          have hne1 : w3.heap.size ≠ w.heap.size := by omega
          have hne2 : g ≠ w.heap.size := by omega
          have hwr : IntKind.i64.wrap ((f.length : Int) + 1) = (f.length : Int) + 1 := by rw [IntKind.wrap_i64]; omega
          refine wp_region_noPanic ?_
          refine wp_region_held_drew (S := fun W => Below w.heap.size w W ∧ W.heap[w3.heap.size]? = Y.heap[w3.heap.size]? ∧ W.heap[g]? = Y.heap[g]? ∧ ∃ x0 x1 x2 x3 x4 x5 x6 x7 x8, W.heap[w.heap.size]? = some (.cells #[x0, x1, x2, x3, x4, x5, x6, x7, x8] 45 (0, 0))) (by kernel_rfl) ⟨below_drew' HXLy.out, rfl, rfl, _, _, _, _, _, _, _, _, _, HBXy.out⟩ (fun hHeld => ?_)
          refine wpAnyH_take (i := 0) (oi := Oper.mk (some 41) _ _ _ _ _) (v := ?_) rfl (by kernel_rfl) (by kernel_rfl) (by kernel_rfl) (fun _ _ _ h => h) (Or.inl ⟨by rfl, ?_⟩) (by assumption) ?_
          rotate_left
          · intro w0 hSw
            have y := hSw.2.1.trans HBAy.out
            have z0 := cell_of_block y 0
            have z1 := cell_of_block y 1
            have z2 := cell_of_block y 2
            have z3 := cell_of_block y 3
            have z4 := cell_of_block y 4
            have z5 := cell_of_block y 5
            have z6 := cell_of_block y 6
            have z7 := cell_of_block y 7
            have z8 := cell_of_block y 8
            simp only [List.getElem?_toArray, List.getElem?_cons_zero, List.getElem?_cons_succ] at z0 z1 z2 z3 z4 z5 z6 z7 z8
            clear y
            clear hSw
            go_simp
            all_goals (with_reducible rfl)
          simp only [Act.put, List.setIfInBounds_toArray, List.set_cons_zero, List.set_cons_succ]
          refine wpAnyH_take (i := 1) (oi := Oper.mk (some 42) _ _ _ _ _) (v := ?_) rfl (by kernel_rfl) (by kernel_rfl) (by kernel_rfl) (fun _ _ _ h => h) (Or.inl ⟨by rfl, ?_⟩) (by assumption) ?_
          rotate_left
          · intro w0 hSw
            clear hSw
            go_simp
            all_goals (with_reducible rfl)
          simp only [Act.put, List.setIfInBounds_toArray, List.set_cons_zero, List.set_cons_succ]
          refine wpAnyH_take (i := 2) (oi := Oper.mk (some 43) _ _ _ _ _) (v := ?_) rfl (by kernel_rfl) (by kernel_rfl) (by kernel_rfl) (fun _ _ _ h => h) (Or.inl ⟨by rfl, ?_⟩) (by assumption) ?_
          rotate_left
          · intro w0 hSw
            clear hSw
            go_simp
            all_goals (with_reducible rfl)
          simp only [Act.put, List.setIfInBounds_toArray, List.set_cons_zero, List.set_cons_succ]
          refine wpAnyH_take (i := 3) (oi := Oper.mk (some 44) _ _ _ _ _) (v := ?_) rfl (by kernel_rfl) (by kernel_rfl) (by kernel_rfl) (fun _ _ _ h => h) (Or.inl ⟨by rfl, ?_⟩) (by assumption) ?_
          rotate_left
          · intro w0 hSw
            have z0 : w0.cell? ⟨g, 0, none⟩ = some (sv f) := (cell_of_same hSw.2.2.1 0).trans HCGy.out
            clear hSw
            go_simp
            all_goals (with_reducible rfl)
          simp only [Act.put, List.setIfInBounds_toArray, List.set_cons_zero, List.set_cons_succ]
          refine wpAnyH_take (i := 4) (oi := Oper.mk (some 45) _ _ _ _ _) (v := ?_) rfl (by kernel_rfl) (by kernel_rfl) (by kernel_rfl) (fun _ _ _ h => h) (Or.inl ⟨by rfl, ?_⟩) (by assumption) ?_
          rotate_left
          · intro w0 hSw
            clear hSw
            go_simp
            all_goals (with_reducible rfl)
          simp only [Act.put, List.setIfInBounds_toArray, List.set_cons_zero, List.set_cons_succ]
          refine wpAnyH_take (i := 5) (oi := Oper.mk (some 46) _ _ _ _ _) (v := ?_) rfl (by kernel_rfl) (by kernel_rfl) (by kernel_rfl) (fun _ _ _ h => h) (Or.inl ⟨by rfl, ?_⟩) (by assumption) ?_
          rotate_left
          · intro w0 hSw
            clear hSw
            go_simp
            all_goals (with_reducible rfl)
          simp only [Act.put, List.setIfInBounds_toArray, List.set_cons_zero, List.set_cons_succ]
          refine wpAnyH_ready (rs := [6]) (by kernel_rfl) (by simp) ?_
          refine AllReadyH.cons (o := Oper.mk none _ _ _ _ _) rfl (fun K hK => ?_) AllReadyH.nil
          have r0 := cell_of_block HBXy.out 0
          have r1 := cell_of_block HBXy.out 1
          have r2 := cell_of_block HBXy.out 2
          have r3 := cell_of_block HBXy.out 3
          have r4 := cell_of_block HBXy.out 4
          have r5 := cell_of_block HBXy.out 5
          have r6 := cell_of_block HBXy.out 6
          have r7 := cell_of_block HBXy.out 7
          have r8 := cell_of_block HBXy.out 8
          have g0 := free_of_block HBXy.out 0
          have g1 := free_of_block HBXy.out 1
          have g2 := free_of_block HBXy.out 2
          have g3 := free_of_block HBXy.out 3
          have g4 := free_of_block HBXy.out 4
          have g5 := free_of_block HBXy.out 5
          have g6 := free_of_block HBXy.out 6
          have g7 := free_of_block HBXy.out 7
          have g8 := free_of_block HBXy.out 8
          simp only [List.getElem?_toArray, List.getElem?_cons_zero, List.getElem?_cons_succ] at r0 r1 r2 r3 r4 r5 r6 r7 r8
          go_simp
          have hb9 := nine_set HBXy.out (.int .i64 k) (.int .i64 r) (.int .i64 p) (.string nm) (.bool o) (.int .i64 vk) (.int .i64 vn) (.string vt) (.int .i64 m)
          have hB9 := nine_below HXLy.out (Nat.le_refl _) (.int .i64 k) (.int .i64 r) (.int .i64 p) (.string nm) (.bool o) (.int .i64 vk) (.int .i64 vn) (.string vt) (.int .i64 m)
          have hO1 := nine_other (W := Y) hne1 (.int .i64 k) (.int .i64 r) (.int .i64 p) (.string nm) (.bool o) (.int .i64 vk) (.int .i64 vn) (.string vt) (.int .i64 m)
          have hO2 := nine_other (W := Y) hne2 (.int .i64 k) (.int .i64 r) (.int .i64 p) (.string nm) (.bool o) (.int .i64 vk) (.int .i64 vn) (.string vt) (.int .i64 m)
          clear r0 r1 r2 r3 r4 r5 r6 r7 r8 g0 g1 g2 g3 g4 g5 g6 g7 g8
          generalize (((((((((Y.setCell ⟨w.heap.size, 0, none⟩ (.int .i64 k)).setCell ⟨w.heap.size, 1, none⟩ (.int .i64 r)).setCell ⟨w.heap.size, 2, none⟩ (.int .i64 p)).setCell ⟨w.heap.size, 3, none⟩ (.string nm)).setCell ⟨w.heap.size, 4, none⟩ (.bool o)).setCell ⟨w.heap.size, 5, none⟩ (.int .i64 vk)).setCell ⟨w.heap.size, 6, none⟩ (.int .i64 vn)).setCell ⟨w.heap.size, 7, none⟩ (.string vt)).setCell ⟨w.heap.size, 8, none⟩ (.int .i64 m)) = W9 at *
          refine hK.out _ _ ⟨below_drew' hB9, hO1, hO2, _, _, _, _, _, _, _, _, _, hb9⟩ (fun _ => ?_)
          clear hK K hHeld hO1 hO2
          (try simp only [Act.put, List.setIfInBounds_toArray, List.set_cons_zero, List.set_cons_succ])
          refine wpAnyH_take (i := 7) (oi := Oper.mk (some 3) _ _ _ _ _) (v := ?_) rfl (by kernel_rfl) (by kernel_rfl) (by kernel_rfl) (fun _ _ _ h => h) (Or.inl ⟨by rfl, ?_⟩) (by assumption) ?_
          rotate_left
          · intro w0 hSw
            clear hSw
            go_simp
            all_goals (with_reducible rfl)
          simp only [Act.put, List.setIfInBounds_toArray, List.set_cons_zero, List.set_cons_succ]
          refine wpAnyH_done (by kernel_rfl) ?_ _
          refine NoPanic.normal ?_
          have s0 := cell_of_block hb9 0
          have s1 := cell_of_block hb9 1
          have s2 := cell_of_block hb9 2
          have s3 := cell_of_block hb9 3
          have s4 := cell_of_block hb9 4
          have s5 := cell_of_block hb9 5
          have s6 := cell_of_block hb9 6
          have s7 := cell_of_block hb9 7
          have s8 := cell_of_block hb9 8
          go_wp2_with fail
          refine bodyPost_ret (v := .tuple #[actV k r p nm o vk vn vt m, .int .i64 ((f.length : Int) + 1)]) (by simp [results, Tryz.results61, go_sem, s0, s1, s2, s3, s4, s5, s6, s7, s8]) rfl ?_
          have hnum : ((f.length : Int) + 1) = (REC.length : Int) := by have := HLN.out; omega
          exact ⟨.inl ⟨k, r, p, nm, o, vk, vn, vt, m, HY.out, by rw [HREC.out, hnum]⟩, below_drew' hB9⟩
      · have hg : Hid (∀ W, Calls Tryz.prog 75 #[.string (Pl.bs t)] W fun e w' => e = .returned (.tuple #[actV 0 0 0 ⟨#[]⟩ false 0 0 ⟨#[]⟩ 0, .bool false]) ∧ Below W.heap.size W w') := fun W => (hg0 W).mono fun e w' h => ho _ _ _ h
        have hno : ∀ k r p nm o vk vn vt m, ¬ Pl.TellsR s k r p nm o vk vn vt m := fun k r p nm o vk vn vt m h => hn _ _ _ _ _ _ _ _ _ (hact _ _ _ _ _ _ _ _ _ h)
        have HN := hide hno
        clear hg0 ho hno hn hact hL hL2 hC0 hC1 hll hh hft hline hf hsf htold hts
        go_enter Tryz.func61, Tryz.ntmps61
        go_wp2_with fail
        refine (hc.out _).mono ?_
        rintro e1 w1 ⟨v1, rfl, hown1, hB1⟩
        rw [hC.out] at hown1
        obtain ⟨g, k1, rfl, hgb, hgl, d0, d1⟩ := row2_of hown1
        obtain ⟨bx, hBL, hltw1⟩ := box_after hB1
        have HBXw1 := hide bx
        have HBLw1 := hide hBL
        clear hB1 bx hBL
        have hgw : w.heap.size + 1 ≤ g := by simpa using hgb
        clear hown1 hgb d1
        go_wp2_with fail
        refine (hc2.out _).mono ?_
        rintro e2 w2 ⟨v2, rfl, hown2, hB2⟩
        rw [hC2.out] at hown2
        have D0 := hide ((hB2.cell (p := ⟨g, 0, none⟩) hgl).trans d0)
        have hgl2 : g < w2.heap.size := Nat.lt_of_lt_of_le hgl hB2.size
        have HBXw2 := hide ((hB2.block w.heap.size hltw1).trans HBXw1.out)
        have HBLw2 := hide (HBLw1.out.trans (hB2.mono HBLw1.out.size))
        have hltw2 : w.heap.size < w2.heap.size := Nat.lt_of_lt_of_le hltw1 hB2.size
        clear hB2 d0 hgl HBXw1 HBLw1
        obtain ⟨g2, k2, rfl, hgb2, hgl2', d0', d1'⟩ := row2_of hown2
        clear hown2 hgb2 d0'
        go_wp2_with fail
        refine (hg.out _).mono ?_
        rintro e3 w3 ⟨rfl, hB3⟩
        have D1 := hide ((hB3.cell (p := ⟨g, 0, none⟩) hgl2).trans D0.out)
        have hgl3 : g < w3.heap.size := Nat.lt_of_lt_of_le hgl2 hB3.size
        have HBXw3 := hide ((hB3.block w.heap.size hltw2).trans HBXw2.out)
        have HBLw3 := hide (HBLw2.out.trans (hB3.mono HBLw2.out.size))
        have hltw3 : w.heap.size < w3.heap.size := Nat.lt_of_lt_of_le hltw2 hB3.size
        clear hB3 D0 hgl2 HBXw2 HBLw2 d1' hgl2'
        go_upto_region 8 with fail
        refine act_code (fun X => X.heap[w3.heap.size]? = some (.cells #[.int .i64 0, .int .i64 0, .int .i64 0, .string ⟨#[]⟩, .bool false, .int .i64 0, .int .i64 0, .string ⟨#[]⟩, .int .i64 0] 45 (0, 0)) ∧ X.cell? ⟨g, 0, none⟩ = some (sv f) ∧ X.heap[w.heap.size]? = some (.cells #[.int .i64 0, .int .i64 0, .int .i64 0, .string ⟨#[]⟩, .bool false, .int .i64 0, .int .i64 0, .string ⟨#[]⟩, .int .i64 0] 45 (0, 0)) ∧ Below w.heap.size w X ∧ X.heap.size = w3.heap.size + 1) ⟨by show (w3.heap.push _)[w3.heap.size]? = _; rw [Array.getElem?_push_size], (World.cell?_alloc_lt _ _ _ hgl3).trans D1.out, (Below.heap_alloc _ _ _ hltw3).trans HBXw3.out, HBLw3.out.alloc HBLw3.out.size _, by simp⟩ ?_
        rintro X ⟨bA, cG, bX, hXL, hXs⟩
        have HBA := hide bA
        have HCG := hide cG
        have HBX := hide bX
        have HXL := hide hXL
        have hlA : w3.heap.size < X.heap.size := by omega
        have hlG : g < X.heap.size := by omega
        have hlX : w.heap.size < X.heap.size := by omega
        clear bA cG bX hXL HBXw3 HBLw3 D1
        refine wp_region_noPanic ?_
        refine wp_region_held_drew (S := fun W => Below X.heap.size X W) (by kernel_rfl) (below_drew' (Below.refl _ _)) (fun hHeld => ?_)
        refine wpAnyH_take (i := 0) (oi := Oper.mk (some 29) _ _ _ _ _) (v := ?_) rfl (by kernel_rfl) (by kernel_rfl) (by kernel_rfl) (fun _ _ _ h => h) (Or.inl ⟨by rfl, ?_⟩) (by assumption) ?_
        rotate_left
        · intro w0 hSw
          clear hSw
          go_simp
          all_goals (with_reducible rfl)
        simp only [Act.put, List.setIfInBounds_toArray, List.set_cons_zero, List.set_cons_succ]
        refine wpAnyH_take (i := 1) (oi := Oper.mk (some 30) _ _ _ _ _) (v := ?_) rfl (by kernel_rfl) (by kernel_rfl) (by kernel_rfl) (fun _ _ _ h => h) (Or.inl ⟨by rfl, ?_⟩) (by assumption) ?_
        rotate_left
        · intro w0 hSw
          clear hSw
          go_simp
          all_goals (with_reducible rfl)
        simp only [Act.put, List.setIfInBounds_toArray, List.set_cons_zero, List.set_cons_succ]
        refine wpAnyH_take (i := 2) (oi := Oper.mk (some 31) _ _ _ _ _) (v := ?_) rfl (by kernel_rfl) (by kernel_rfl) (by kernel_rfl) (fun _ _ _ h => h) (Or.inl ⟨by rfl, ?_⟩) (by assumption) ?_
        rotate_left
        · intro w0 hSw
          clear hSw
          go_simp
          all_goals (with_reducible rfl)
        simp only [Act.put, List.setIfInBounds_toArray, List.set_cons_zero, List.set_cons_succ]
        refine wpAnyH_take (i := 3) (oi := Oper.mk (some 32) _ _ _ _ _) (v := undef) rfl (by kernel_rfl) (by kernel_rfl) (by kernel_rfl) (fun _ _ _ h => h) (Or.inr ⟨by rfl, rfl⟩) (by assumption) ?_
        simp only [Act.put, List.setIfInBounds_toArray, List.set_cons_zero, List.set_cons_succ]
        refine wpAnyH_take (i := 4) (oi := Oper.mk (some 33) _ _ _ _ _) (v := undef) rfl (by kernel_rfl) (by kernel_rfl) (by kernel_rfl) (fun _ _ _ h => h) (Or.inr ⟨by rfl, rfl⟩) (by assumption) ?_
        simp only [Act.put, List.setIfInBounds_toArray, List.set_cons_zero, List.set_cons_succ]
        refine wpAnyH_take (i := 5) (oi := Oper.mk (some 34) _ _ _ _ _) (v := undef) rfl (by kernel_rfl) (by kernel_rfl) (by kernel_rfl) (fun _ _ _ h => h) (Or.inr ⟨by rfl, rfl⟩) (by assumption) ?_
        simp only [Act.put, List.setIfInBounds_toArray, List.set_cons_zero, List.set_cons_succ]
        refine wpAnyH_take (i := 6) (oi := Oper.mk (some 35) _ _ _ _ _) (v := undef) rfl (by kernel_rfl) (by kernel_rfl) (by kernel_rfl) (fun _ _ _ h => h) (Or.inr ⟨by rfl, rfl⟩) (by assumption) ?_
        simp only [Act.put, List.setIfInBounds_toArray, List.set_cons_zero, List.set_cons_succ]
        refine wpAnyH_take (i := 7) (oi := Oper.mk (some 36) _ _ _ _ _) (v := undef) rfl (by kernel_rfl) (by kernel_rfl) (by kernel_rfl) (fun _ _ _ h => h) (Or.inr ⟨by rfl, rfl⟩) (by assumption) ?_
        simp only [Act.put, List.setIfInBounds_toArray, List.set_cons_zero, List.set_cons_succ]
        refine wpAnyH_take (i := 8) (oi := Oper.mk (some 37) _ _ _ _ _) (v := undef) rfl (by kernel_rfl) (by kernel_rfl) (by kernel_rfl) (fun _ _ _ h => h) (Or.inr ⟨by rfl, rfl⟩) (by assumption) ?_
        simp only [Act.put, List.setIfInBounds_toArray, List.set_cons_zero, List.set_cons_succ]
        refine wpAnyH_take (i := 9) (oi := Oper.mk (some 38) _ _ _ _ _) (v := undef) rfl (by kernel_rfl) (by kernel_rfl) (by kernel_rfl) (fun _ _ _ h => h) (Or.inr ⟨by rfl, rfl⟩) (by assumption) ?_
        simp only [Act.put, List.setIfInBounds_toArray, List.set_cons_zero, List.set_cons_succ]
        refine wpAnyH_take (i := 10) (oi := Oper.mk (some 39) _ _ _ _ _) (v := ?_) rfl (by kernel_rfl) (by kernel_rfl) (by kernel_rfl) (fun _ _ _ h => h) (Or.inl ⟨by rfl, ?_⟩) (by assumption) ?_
        rotate_left
        · intro w0 hSw
          clear hSw
          go_simp
          all_goals (with_reducible rfl)
        simp only [Act.put, List.setIfInBounds_toArray, List.set_cons_zero, List.set_cons_succ]
        refine wpAnyH_done (by kernel_rfl) ?_ _
        refine NoPanic.normal ?_
        clear hHeld
        have r0 := cell_of_block HBX.out 0
        have r1 := cell_of_block HBX.out 1
        have r2 := cell_of_block HBX.out 2
        have r3 := cell_of_block HBX.out 3
        have r4 := cell_of_block HBX.out 4
        have r5 := cell_of_block HBX.out 5
        have r6 := cell_of_block HBX.out 6
        have r7 := cell_of_block HBX.out 7
        have r8 := cell_of_block HBX.out 8
        have g0 := free_of_block HBX.out 0
        have g1 := free_of_block HBX.out 1
        have g2 := free_of_block HBX.out 2
        have g3 := free_of_block HBX.out 3
        have g4 := free_of_block HBX.out 4
        have g5 := free_of_block HBX.out 5
        have g6 := free_of_block HBX.out 6
        have g7 := free_of_block HBX.out 7
        have g8 := free_of_block HBX.out 8
        simp only [List.getElem?_toArray, List.getElem?_cons_zero, List.getElem?_cons_succ] at r0 r1 r2 r3 r4 r5 r6 r7 r8
        go_wp2_with fail
        have hb9 := nine_set HBX.out (.int .i64 0) (.int .i64 0) (.int .i64 0) (.string ⟨#[]⟩) (.bool false) (.int .i64 0) (.int .i64 0) (.string ⟨#[]⟩) (.int .i64 0)
        have hB9 := nine_below HXL.out (Nat.le_refl _) (.int .i64 0) (.int .i64 0) (.int .i64 0) (.string ⟨#[]⟩) (.bool false) (.int .i64 0) (.int .i64 0) (.string ⟨#[]⟩) (.int .i64 0)
        clear r0 r1 r2 r3 r4 r5 r6 r7 r8 g0 g1 g2 g3 g4 g5 g6 g7 g8
        generalize (((((((((X.setCell ⟨w.heap.size, 0, none⟩ (.int .i64 0)).setCell ⟨w.heap.size, 1, none⟩ (.int .i64 0)).setCell ⟨w.heap.size, 2, none⟩ (.int .i64 0)).setCell ⟨w.heap.size, 3, none⟩ (.string ⟨#[]⟩)).setCell ⟨w.heap.size, 4, none⟩ (.bool false)).setCell ⟨w.heap.size, 5, none⟩ (.int .i64 0)).setCell ⟨w.heap.size, 6, none⟩ (.int .i64 0)).setCell ⟨w.heap.size, 7, none⟩ (.string ⟨#[]⟩)).setCell ⟨w.heap.size, 8, none⟩ (.int .i64 0)) = W9 at *
        have s0 := cell_of_block hb9 0
        have s1 := cell_of_block hb9 1
        have s2 := cell_of_block hb9 2
        have s3 := cell_of_block hb9 3
        have s4 := cell_of_block hb9 4
        have s5 := cell_of_block hb9 5
        have s6 := cell_of_block hb9 6
        have s7 := cell_of_block hb9 7
        have s8 := cell_of_block hb9 8
        refine bodyPost_ret (v := .tuple #[actV 0 0 0 ⟨#[]⟩ false 0 0 ⟨#[]⟩ 0, .int .i64 0]) (by simp [results, Tryz.results61, go_sem, s0, s1, s2, s3, s4, s5, s6, s7, s8]) rfl ?_
        exact ⟨.inr ⟨HN.out, rfl⟩, below_drew' hB9⟩
end Go.Proofs.YtbckbfjnifafaaaGreatDoor

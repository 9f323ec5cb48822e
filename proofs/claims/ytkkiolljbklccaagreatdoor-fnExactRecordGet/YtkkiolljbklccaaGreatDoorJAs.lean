/- Joined: VgB0 AgV CutA AgS LawAG. -/
import Derived.Test.YtkkiolljbklccaaGreatDoorJAg
import Derived.Test.YtkkiolljbklccaaGreatDoorVgT
import Derived.Test.YtkkiolljbklccaaGreatDoorVgM
import Derived.Test.YtkkiolljbklccaaGreatDoorVgD1
import Derived.Test.YtkkiolljbklccaaGreatDoorVgD2
import Derived.Test.YtkkiolljbklccaaGreatDoorVgD3
import Derived.Test.YtkkiolljbklccaaGreatDoorOwn
import Derived.Test.YtkkiolljbklccaaGreatDoorAct4
import Derived.Deep.CutRange
/- What a text tells of a value: the facts that the specification's branches share. -/
namespace Go.Proofs.YtkkiolljbklccaaGreatDoor
open Go.RowKit
set_option linter.unusedVariables false

set_option maxRecDepth 100000 in
set_option maxHeartbeats 1600000 in
theorem l1Get_none (s : ByteArray) (hs : s.size ≤ 1048576) (hno : (s.toList == [110, 111, 110, 101]) = true) (w : World) :
    Calls Tryz.prog 29 #[.string s] w fun e w' => e = .returned (.tuple #[vAgg 0 0 ⟨#[]⟩, .bool true]) ∧ Below w.heap.size w w' := by
  go_enter Tryz.func29, Tryz.ntmps29
  go_wp2
  refine bodyPost_ret (v := .tuple #[vAgg 0 0 ⟨#[]⟩, .bool true]) (by simp [results, Tryz.results29, go_sem]) rfl ?_
  exact ⟨rfl, ((Below.refl _ _).alloc (Nat.le_refl _) _).alloc (by simp) _⟩

theorem itoa_minus {n : Int} {r : List UInt8} (h : Lib.itoa n = 45 :: r) : n < 0 ∧ r = Lib.decDigits n.natAbs := by
  unfold Lib.itoa at h
  split at h
  · next hn =>
    injection h with _ h
    exact ⟨hn, h.symm⟩
  · obtain ⟨c, q, e, h1, _⟩ := Pl.dec_head n.toNat
    rw [e] at h
    injection h with h _
    subst h
    simp at h1
theorem itoa_plus {n : Int} (h : ∀ r, Lib.itoa n ≠ 45 :: r) : 0 ≤ n ∧ Lib.itoa n = Lib.decDigits n.toNat := by
  by_cases hn : n < 0
  · refine absurd ?_ (h (Lib.decDigits n.natAbs))
    unfold Lib.itoa
    rw [if_pos hn]
  · refine ⟨by omega, ?_⟩
    unfold Lib.itoa
    rw [if_neg hn]
theorem len_size (s : ByteArray) : s.data.toList.length = s.size := by simp
theorem tail_data (s : ByteArray) (c : UInt8) (r : List UInt8) (h : s.data.toList = c :: r) : (s.extract 1 s.size).data.toList = r := by
  rw [Lib.extract_data]
  have := len_size s
  rw [h] at this ⊢
  simp at this
  simp only [List.drop_succ_cons, List.drop_zero]
  exact List.take_of_length_le (by omega)
/-- the last case: a number that is not below 0 -/
theorem plain_one {s : ByteArray} (hno : (s.toList == [110, 111, 110, 101]) = false) (hnt : ∀ t : ByteArray, s.data.toList ≠ 34 :: (t.data.toList ++ [34])) (hnm : ∀ r, s.data.toList = 45 :: r → r = []) : ∀ k' n' t', Pl.TellsV s k' n' t' → k' = 1 ∧ n' = Pl.numL s.data.toList ∧ t' = ⟨#[]⟩ := by
  intro k' n' t' ht
  rcases Pl.tells_form ht with ⟨_, _, _, e⟩ | ⟨h1, h2, ⟨a, b⟩, e⟩ | ⟨_, _, e⟩
  · rw [Lib.toList_data, e] at hno
    simp at hno
  · have hm : ∀ r, Lib.itoa n' ≠ 45 :: r := by
      intro r hr
      obtain ⟨_, h4⟩ := itoa_minus hr
      have h5 := hnm r (e.trans hr)
      obtain ⟨c, q, h6, _⟩ := Pl.dec_head n'.natAbs
      rw [← h4, h5] at h6
      cases h6
    obtain ⟨h0, h3⟩ := itoa_plus hm
    rw [h3] at e
    refine ⟨h1, ?_, h2⟩
    rw [e, Pl.numL_dec _ (by omega)]
    omega
  · exact absurd e (hnt t')

end Go.Proofs.YtkkiolljbklccaaGreatDoor

/- What a text tells of a value, as the specification reads it: the one value that it may be, and whether it is. -/
namespace Go.Proofs.YtkkiolljbklccaaGreatDoor
open Go.RowKit
set_option linter.unusedVariables false
/-- the one value that a text may tell, and whether it does -/
def Pl.GetB (s : ByteArray) (k n : Int) (t : ByteArray) (b : Bool) : Prop := (∀ k' n' t', Pl.TellsV s k' n' t' → k' = k ∧ n' = n ∧ t' = t) ∧ (b = true ↔ Pl.TellsV s k n t) ∧ t.size ≤ s.size
theorem get_is {s : ByteArray} {k n : Int} {t : ByteArray} (ht : t.size ≤ s.size) (hc : ∀ k' n' t', Pl.TellsV s k' n' t' → k' = k ∧ n' = n ∧ t' = t) : Pl.GetB s k n t (Pl.okB k n t && (Pl.putV k n t == s.data.toList)) :=
  ⟨hc, by simp only [Bool.and_eq_true, beq_iff_eq, Pl.TellsV], ht⟩
theorem l1Get_any (s : ByteArray) (hs : s.size ≤ 1048576) : ∃ k n t b, Pl.GetB s k n t b ∧ ∀ w, Calls Tryz.prog 29 #[.string s] w fun e w' => e = .returned (.tuple #[vAgg k n t, .bool b]) ∧ Below w.heap.size w w' := by
  cases hno : (s.toList == [110, 111, 110, 101])
  · by_cases h2 : 2 ≤ s.size
    · have B0 : ∀ c r, s.data.toList = c :: r → ((s[0]'(by omega)).toNat : Int) = (c.toNat : Int) := fun c r h => Pl.byte0 c r h (by omega)
      cases hq0 : (((s[0]'(by omega)).toNat : Int) == 34)
      · cases hm : (((s[0]'(by omega)).toNat : Int) == 45)
        · have hb0 := beq_int_false hq0
          have hbm := beq_int_false hm
          refine ⟨1, Pl.numL s.data.toList, ⟨#[]⟩, _, get_is (Nat.zero_le _) (plain_one hno ?_ ?_), fun W => l1Get_other s hs W h2 hq0 hm hno⟩
          · intro t e
            exact hb0 (B0 34 _ e)
          · intro r e
            exact absurd (B0 45 _ e) hbm
        · have hb := beq_int_true hm
          refine ⟨1, -Pl.numL (s.extract 1 s.size).data.toList, ⟨#[]⟩, _, get_is (Nat.zero_le _) ?_, fun W => l1Get_minus s hs W h2 hq0 hm hno⟩
          intro k' n' t' ht
          rcases Pl.tells_form ht with ⟨_, _, _, e⟩ | ⟨h1, h3, ⟨a, b⟩, e⟩ | ⟨_, _, e⟩
          · rw [B0 110 _ e] at hb
            simp at hb
          · obtain ⟨c, r, hcr⟩ : ∃ c r, s.data.toList = c :: r := by
              obtain ⟨c, r, h4, _⟩ := Pl.itoa_head n'
              exact ⟨c, r, e.trans h4⟩
            have hc45 : c = 45 := by
              rw [B0 c r hcr] at hb
              exact UInt8.toNat_inj.1 (by simp; omega)
            subst hc45
            obtain ⟨h4, h5⟩ := itoa_minus (e.symm.trans hcr)
            refine ⟨h1, ?_, h3⟩
            rw [tail_data s 45 r hcr, h5, Pl.numL_dec _ (by omega)]
            omega
          · rw [B0 34 _ e] at hb
            simp at hb
      · have hb := beq_int_true hq0
        cases hq1 : (((s[s.size - 1]'(by omega)).toNat : Int) == 34)
        · have hm : (((s[0]'(by omega)).toNat : Int) == 45) = false := by rw [hb]; rfl
          have hb1 := beq_int_false hq1
          refine ⟨1, Pl.numL s.data.toList, ⟨#[]⟩, _, get_is (Nat.zero_le _) (plain_one hno ?_ ?_), fun W => l1Get_half s hs W h2 hq0 hq1 hm hno⟩
          · intro t e
            exact hb1 (Pl.byteL e (by omega))
          · intro r e
            rw [B0 45 _ e] at hb
            simp at hb
        · refine ⟨2, 0, s.extract 1 (s.size - 1), _, get_is (by simp; omega) ?_, fun W => l1Get_text s hs W h2 hq0 hq1 hno⟩
          intro k' n' t' ht
          rcases Pl.tells_form ht with ⟨_, _, _, e⟩ | ⟨_, _, _, e⟩ | ⟨h1, h3, e⟩
          · rw [B0 110 _ e] at hb
            simp at hb
          · obtain ⟨c, r, e2, hc, _⟩ := Pl.itoa_head n'
            rw [B0 c r (e.trans e2)] at hb
            exact absurd (UInt8.toNat_inj.1 (by simp; omega)) hc
          · exact ⟨h1, h3, (Pl.mid_text e).symm⟩
    · refine ⟨1, Pl.numL s.data.toList, ⟨#[]⟩, _, get_is (Nat.zero_le _) (plain_one hno ?_ ?_), fun W => l1Get_short s hs W h2 hno⟩
      · intro t e
        exact h2 (Pl.size_ge e)
      · intro r e
        have := len_size s
        rw [e] at this
        simp at this
        exact List.length_eq_zero_iff.1 (by omega)
  · have he : s.data.toList = [110, 111, 110, 101] := by
      rw [Lib.toList_data] at hno
      simpa using hno
    have h0 : Pl.TellsV s 0 0 ⟨#[]⟩ := ⟨by simp [Pl.okB], by rw [he]; rfl⟩
    refine ⟨0, 0, ⟨#[]⟩, true, ⟨fun k' n' t' ht => ?_, ⟨fun _ => h0, fun _ => rfl⟩, Nat.zero_le _⟩, fun W => l1Get_none s hs hno W⟩
    exact Pl.tells_one ht h0
end Go.Proofs.YtkkiolljbklccaaGreatDoor

/- A text cut at a byte, as the specification has it: an owned row of the pieces. -/
namespace Go.Proofs.YtkkiolljbklccaaGreatDoor
open Go.RowKit
set_option linter.unusedVariables false
theorem byte_is {a b : UInt8} : ((a.toNat : Int) = (b.toNat : Int)) ↔ a = b := by
  constructor
  · intro h; exact UInt8.toNat_inj.1 (by omega)
  · rintro rfl; rfl
set_option maxRecDepth 100000 in
set_option maxHeartbeats 1600000 in
theorem l5Cut_any (s : ByteArray) (b : UInt8) (most : Nat) (hs : s.size ≤ 1048576) (hmo : most ≤ 1048577) (w : World) :
    Calls Tryz.prog 27 #[.string s, .int .u8 (b.toNat : Int), .int .i64 (most : Int)] w fun e w' => ∃ v, e = .returned v ∧ w'.ownsRow w.heap.size 9 1 v (Pl.cutG b most [] s.data.toList).length ((Pl.cutG b most [] s.data.toList).map sv) ∧ Below w.heap.size w w' := by
  obtain ⟨i0, hi, hz0, hz1, hz2⟩ := info_parts infoStr
  have hmax : s.size ≤ maxLen := by unfold maxLen; omega
  have hll : s.data.toList.length = s.size := by simp
  have HLL := hide hll
  clear hll
  have hb255 : b.toNat < 256 := UInt8.toNat_lt b
  have hxt : ∀ fr k, s.extract fr k = Pl.bs ((s.data.toList.drop fr).take (k - fr)) := fun fr k => Lib.extract_eq s fr k
  have htl : ∀ fr, s.extract fr s.size = Pl.bs (s.data.toList.drop fr) := fun fr => Pl.extract_tail s fr
  generalize hl : s.data.toList = l at HLL hxt htl
  have HL := hide hl
  have HX := hide hxt
  have HT := hide htl
  clear hl hxt htl
  go_enter Tryz.func27, Tryz.ntmps27
  go_wp2_with fail
  go_loopw [7, 8, 9] (fun v f i wr => ∃ (fr k : Nat) (pre : List (List UInt8)), fr ≤ k ∧ k ≤ s.size ∧ f = .int .i64 fr ∧ i = .int .i64 k ∧ wr.ownsRow w.heap.size 9 1 v pre.length (pre.map sv) ∧ Below w.heap.size w wr ∧ pre.length ≤ k ∧ pre.length ≤ most ∧ Hid (Pl.cutG b most [] l = pre ++ Pl.cutG b (most - pre.length) ((l.drop fr).take (k - fr)) (l.drop k))) (fun _ _ i _ => s.size - (intOf i).toNat)
  case atStart =>
    exact ⟨0, 0, [], by omega, by omega, rfl, rfl, World.ownsRow_made _ _ 0 (Nat.le_refl _) (by unfold maxLen; omega) rfl, (Below.refl _ _).alloc (Nat.le_refl _) _, by simp, by simp, by simp [Hid]⟩
  case round =>
    obtain ⟨fr, k, pre, hfk, hk, rfl, rfl, hown, hB, hpl, hpm, HT0⟩ := hrel
    obtain ⟨av, cv, rfl⟩ := ownsRow_form hown
    by_cases hlt : k < s.size ∧ pre.length < most
    · obtain ⟨hlt, hm2⟩ := hlt
      have hby := Pl.byteAt_eq s k hlt
      have hbl : Hid (Pl.byteAt s k = ((l[k]?.getD 0).toNat : Int)) := by show _ = _; rw [← HL.out]; rfl
      generalize hdd : Pl.byteAt s k = d at hby hbl
      clear hdd
      cases hd : (d == (b.toNat : Int))
      · have hne : l[k]?.getD 0 ≠ b := by
          intro h
          have h1 := hbl.out
          rw [h] at h1
          rw [h1] at hd
          simp at hd
        have hnext := hide (Pl.cutG_by HT0.out (by have := HLL.out; omega) hfk hm2 hne)
        clear hne
        go_wp2_with fail
        go_roundw
        case rel => exact ⟨fr, k + 1, pre, by omega, by omega, rfl, by go_num, hown, hB, by omega, by omega, hnext⟩
        case measure => simp [intOf]; omega
      · have heq : l[k]?.getD 0 = b := byte_is.1 (by rw [← hbl.out]; exact beq_iff_eq.1 hd)
        have hnext := hide (Pl.cutG_on HT0.out (by have := HLL.out; omega) hm2 heq)
        clear heq
        go_wp2_with (at_builtin; refine wpList_append_own _ rfl _ _ 45 rfl w.heap.size 9 i0 (.string ⟨#[]⟩) 1 16 Tryz.underlying45 hi hz0 hz1 hz2 rfl (by decide) _ _ _ rfl (hown.alloc _) ⟨_, 0, none⟩ 1 1 [.string (s.extract fr k)] rfl rfl ?c1 ?c2 ?c3 ?c4 ?c5 ?_)
        case c1 => exact cell_one_new _ _ _
        case c2 => intro u hu; simp at hu; subst hu; rfl
        case c3 => unfold maxLen; omega
        case c4 => omega
        case c5 => have := hB.size; simp; omega
        intro v' w2 hown' hgrow' _
        go_wp2
        go_roundw
        case rel =>
          refine ⟨k + 1, k + 1, pre ++ [(l.drop fr).take (k - fr)], by omega, by omega, by go_num, by go_num, ?_, ?_, by simp; omega, by simp; omega, hnext⟩
          · rw [HX.out] at hown'
            simpa using hown'
          · exact (hB.alloc hB.size _).grown hgrow' (by have := hB.size; simp; omega) (fun j hj => (hown.lt j hj).1)
        case measure => simp [intOf]; omega
    · have hend := hide (Pl.cutG_end HT0.out hfk (by have := HLL.out; omega))
      by_cases hk2 : k < s.size
      · have hm3 : ¬ pre.length < most := fun h => hlt ⟨hk2, h⟩
        clear hlt
        go_wp2_with (at_builtin; refine wpList_append_own _ rfl _ _ 45 rfl w.heap.size 9 i0 (.string ⟨#[]⟩) 1 16 Tryz.underlying45 hi hz0 hz1 hz2 rfl (by decide) _ _ _ rfl (hown.alloc _) ⟨_, 0, none⟩ 1 1 [.string (s.extract fr s.size)] rfl rfl ?c1 ?c2 ?c3 ?c4 ?c5 ?_)
        case c1 => exact cell_one_new _ _ _
        case c2 => intro u hu; simp at hu; subst hu; rfl
        case c3 => unfold maxLen; omega
        case c4 => omega
        case c5 => have := hB.size; simp; omega
        intro v' w2 hown' hgrow' _
        go_wp2
        go_ret
        refine ⟨v', rfl, ?_, ?_⟩
        · rw [hend.out]
          rw [HT.out] at hown'
          simpa using hown'
        · exact (hB.alloc hB.size _).grown hgrow' (by have := hB.size; simp; omega) (fun j hj => (hown.lt j hj).1)
      · clear hlt
        go_wp2_with (at_builtin; refine wpList_append_own _ rfl _ _ 45 rfl w.heap.size 9 i0 (.string ⟨#[]⟩) 1 16 Tryz.underlying45 hi hz0 hz1 hz2 rfl (by decide) _ _ _ rfl (hown.alloc _) ⟨_, 0, none⟩ 1 1 [.string (s.extract fr s.size)] rfl rfl ?c1 ?c2 ?c3 ?c4 ?c5 ?_)
        case c1 => exact cell_one_new _ _ _
        case c2 => intro u hu; simp at hu; subst hu; rfl
        case c3 => unfold maxLen; omega
        case c4 => omega
        case c5 => have := hB.size; simp; omega
        intro v' w2 hown' hgrow' _
        go_wp2
        go_ret
        refine ⟨v', rfl, ?_, ?_⟩
        · rw [hend.out]
          rw [HT.out] at hown'
          simpa using hown'
        · exact (hB.alloc hB.size _).grown hgrow' (by have := hB.size; simp; omega) (fun j hj => (hown.lt j hj).1)
end Go.Proofs.YtkkiolljbklccaaGreatDoor

/- An act that is read, as the specification has it: the one act that the text tells, or none. -/
namespace Go.Proofs.YtkkiolljbklccaaGreatDoor
open Go.RowKit
set_option linter.unusedVariables false
set_option linter.unusedSimpArgs false
theorem Pl.cutG_size (b : UInt8) : ∀ (r : List UInt8) (k : Nat) (cur x : List UInt8), x ∈ Pl.cutG b k cur r → x.length ≤ cur.length + r.length
  | [], k, cur, x, h => by
    rw [Pl.cutG_nil] at h
    rw [List.mem_singleton.1 h]
    simp
  | c :: r, 0, cur, x, h => by
    rw [Pl.cutG] at h
    rw [List.mem_singleton.1 h]
    simp
  | c :: r, k + 1, cur, x, h => by
    rw [Pl.cutG] at h
    split at h
    · rcases List.mem_cons.1 h with h | h
      · rw [h]; simp
      · have := Pl.cutG_size b r k [] x h
        simp at this ⊢
        omega
    · have := Pl.cutG_size b r (k + 1) _ x h
      simp at this ⊢
      omega
theorem row7_of {w : World} {base : Nat} {v : Value} {f0 f1 f2 f3 f4 f5 f6 : List UInt8} (h : w.ownsRow base 9 1 v 7 [sv f0, sv f1, sv f2, sv f3, sv f4, sv f5, sv f6]) :
    ∃ g c, v = .slice (some ⟨g, 0, none⟩) 7 c ∧ Row7 w g f0 f1 f2 f3 f4 f5 f6 := by
  obtain ⟨hl, h⟩ := h
  rcases h with ⟨_, h0⟩ | ⟨g, cap, cur, rfl, hb, hg, hnc, hm, hs, ht⟩
  · cases h0
  · refine ⟨g, cap, rfl, (Array.getElem?_eq_some_iff.1 hg).1, ?_⟩
    have hc : ∀ i x, [sv f0, sv f1, sv f2, sv f3, sv f4, sv f5, sv f6][i]? = some x → w.cell? ⟨g, i, none⟩ = some x := fun i x hx => by
      rw [← ht] at hx
      have h2 : cur[i]? = some x := by
        rw [List.getElem?_take] at hx
        split at hx
        · simpa using hx
        · cases hx
      simp [World.cell?, hg, h2]
    exact ⟨hc 0 _ rfl, hc 1 _ rfl, hc 2 _ rfl, hc 3 _ rfl, hc 4 _ rfl, hc 5 _ rfl, hc 6 _ rfl⟩
theorem mid_set {w w2 : World} {b : Nat} {T U : TypeId} {x0 x1 x2 x3 x4 x5 x6 x7 x8 : Value} {Zs : Array Value} (h : w2.heap[b]? = some (.cells #[x0, x1, x2, x3, x4, x5, x6, x7, x8] T (0, 0))) (hz : w2.heap[w.heap.size]? = some (.cells Zs U (0, 0))) (hL : Below w.heap.size w w2) (hne : w.heap.size ≠ b) (hle : w.heap.size ≤ b) (hlt : b < w2.heap.size) (hlw : w.heap.size < w2.heap.size) (u5 u6 u7 : Value) (o : Obj) :
    ((((w2.setCell ⟨b, 5, none⟩ u5).setCell ⟨b, 6, none⟩ u6).setCell ⟨b, 7, none⟩ u7).alloc o).heap[b]? = some (.cells #[x0, x1, x2, x3, x4, u5, u6, u7, x8] T (0, 0)) ∧ ((((w2.setCell ⟨b, 5, none⟩ u5).setCell ⟨b, 6, none⟩ u6).setCell ⟨b, 7, none⟩ u7).alloc o).heap[w.heap.size]? = some (.cells Zs U (0, 0)) ∧ Below w.heap.size w ((((w2.setCell ⟨b, 5, none⟩ u5).setCell ⟨b, 6, none⟩ u6).setCell ⟨b, 7, none⟩ u7).alloc o) ∧ b < ((((w2.setCell ⟨b, 5, none⟩ u5).setCell ⟨b, 6, none⟩ u6).setCell ⟨b, 7, none⟩ u7).alloc o).heap.size := by
  have h1 : (w2.setCell ⟨b, 5, none⟩ u5).heap[b]? = some (.cells #[x0, x1, x2, x3, x4, u5, x6, x7, x8] T (0, 0)) := (block_set h 5 u5).trans (by simp)
  have h2 : ((w2.setCell ⟨b, 5, none⟩ u5).setCell ⟨b, 6, none⟩ u6).heap[b]? = some (.cells #[x0, x1, x2, x3, x4, u5, u6, x7, x8] T (0, 0)) := (block_set h1 6 u6).trans (by simp)
  have h3 : (((w2.setCell ⟨b, 5, none⟩ u5).setCell ⟨b, 6, none⟩ u6).setCell ⟨b, 7, none⟩ u7).heap[b]? = some (.cells #[x0, x1, x2, x3, x4, u5, u6, u7, x8] T (0, 0)) := (block_set h2 7 u7).trans (by simp)
  have k3 : (((w2.setCell ⟨b, 5, none⟩ u5).setCell ⟨b, 6, none⟩ u6).setCell ⟨b, 7, none⟩ u7).heap[w.heap.size]? = some (.cells Zs U (0, 0)) := by
    rw [Below.heap_setCell _ _ _ _ hne, Below.heap_setCell _ _ _ _ hne, Below.heap_setCell _ _ _ _ hne]; exact hz
  have l3 := ((hL.setCell (p := ⟨b, 5, none⟩) hle u5).setCell (p := ⟨b, 6, none⟩) hle u6).setCell (p := ⟨b, 7, none⟩) hle u7
  have b3 := (Array.getElem?_eq_some_iff.1 h3).1
  refine ⟨(Below.heap_alloc _ o _ b3).trans h3, (Below.heap_alloc _ o _ (Array.getElem?_eq_some_iff.1 k3).1).trans k3, l3.alloc l3.size o, ?_⟩
  have : ((((w2.setCell ⟨b, 5, none⟩ u5).setCell ⟨b, 6, none⟩ u6).setCell ⟨b, 7, none⟩ u7).alloc o).heap.size = (((w2.setCell ⟨b, 5, none⟩ u5).setCell ⟨b, 6, none⟩ u6).setCell ⟨b, 7, none⟩ u7).heap.size + 1 := by simp
  omega
set_option maxRecDepth 100000 in
set_option maxHeartbeats 6400000 in
theorem specActGet_seven (s : ByteArray) (hs : s.size ≤ 1048576) (f0 f1 f2 f3 f4 f5 f6 : List UInt8) (hC0 : Pl.cutG 32 6 [] s.data.toList = [f0, f1, f2, f3, f4, f5, f6]) (w : World) : Calls Tryz.prog 11 #[.string s] w (AgPost s w) := by
  have hC := hide hC0
  have hz : ∀ x, x ∈ [f0, f1, f2, f3, f4, f5, f6] → x.length ≤ 1048576 := fun x hx => by
    rw [← hC0] at hx
    have h1 := Pl.cutG_size 32 s.data.toList 6 [] x hx
    have h2 : s.data.toList.length = s.size := by simp
    simp only [List.length_nil] at h1
    omega
  have hc := hide (l5Cut_any s 32 6 hs (by omega))
  have n0 := hide (l1Num_any (Pl.bs f0) (by rw [Pl.bs_size]; exact hz f0 (by simp)))
  have n1 := hide (l1Num_any (Pl.bs f1) (by rw [Pl.bs_size]; exact hz f1 (by simp)))
  have n2 := hide (l1Num_any (Pl.bs f2) (by rw [Pl.bs_size]; exact hz f2 (by simp)))
  have n5 := hide (l1Num_any (Pl.bs f5) (by rw [Pl.bs_size]; exact hz f5 (by simp)))
  rw [Pl.bs_back] at n0 n1 n2 n5
  obtain ⟨vk, vn, vt, vb, hG, hget⟩ := l1Get_any (Pl.bs f6) (by rw [Pl.bs_size]; exact hz f6 (by simp))
  have hvt : vt.size ≤ 1048576 := Nat.le_trans hG.2.2 (by rw [Pl.bs_size]; exact hz f6 (by simp))
  have hnm : (Pl.bs f3).size ≤ 1048576 := by rw [Pl.bs_size]; exact hz f3 (by simp)
  have hg := hide hget
  have q4 : ((Pl.bs f4).toList == [111, 107]) = (f4 == [111, 107]) := by rw [Pl.bs_toList]
  have hone : ∀ k' r' p' nm' o' vk' vn' vt' m', Pl.TellsA s k' r' p' nm' o' vk' vn' vt' m' → (k' = Pl.numL f0 ∧ r' = Pl.numL f1 ∧ p' = Pl.numL f2 ∧ nm' = Pl.bs f3 ∧ o' = (f4 == [111, 107]) ∧ vk' = vk ∧ vn' = vn ∧ vt' = vt ∧ m' = Pl.numL f5) ∧ vb = true := by
    intro k' r' p' nm' o' vk' vn' vt' m' ht
    have hp := Pl.act_cut ht.1
    rw [ht.2, hC0] at hp
    simp only [Pl.actF, List.cons.injEq, and_true] at hp
    obtain ⟨e0, e1, e2, e3, e4, e5, e6⟩ := hp
    obtain ⟨⟨k0, k1⟩, ⟨r0, r1⟩, ⟨p0, p1⟩, ⟨m0, m1⟩, hv⟩ := act_parts ht.1
    have tv := Pl.tells_val ht.1
    rw [← e6] at tv
    obtain ⟨q0, q1, q2⟩ := hG.1 _ _ _ tv
    rw [q0, q1, q2] at tv
    refine ⟨⟨?_, ?_, ?_, ?_, ?_, q0, q1, q2, ?_⟩, hG.2.1.2 tv⟩
    · rw [e0, Pl.numL_itoa (by omega) (by omega)]
    · rw [e1, Pl.numL_itoa (by omega) (by omega)]
    · rw [e2, Pl.numL_itoa (by omega) (by omega)]
    · rw [e3]; rfl
    · rw [e4]
      cases o' <;> rfl
    · rw [e5, Pl.numL_itoa (by omega) (by omega)]
  generalize (f4 == [111, 107]) = o at *
  generalize Pl.numL f0 = k at *
  generalize Pl.numL f1 = r at *
  generalize Pl.numL f2 = p at *
  generalize Pl.numL f5 = m at *
  have HO := hide hone
  have hok := hide (specActOk_any k r p (Pl.bs f3) o vk vn vt m (by unfold maxLen; omega) (by unfold maxLen; omega))
  have hl := hide (fun hb => l8Line_any k r p (Pl.bs f3) o vk vn vt m hb hnm hvt)
  clear hC0 hone hz hG hget
  go_enter Tryz.func11, Tryz.ntmps11
  go_wp2_with fail
  refine (hc.out _).mono ?_
  rintro e1 w1 ⟨v, rfl, hown, hB1⟩
  rw [hC.out] at hown
  obtain ⟨g, cv, rfl, hrow⟩ := row7_of hown
  obtain ⟨bx0, HB1, hlt1⟩ := box_after hB1
  have HBX := hide bx0
  have HBL := hide HB1
  obtain ⟨hlt, c0, c1, c2, c3, c4, c5, c6⟩ := id hrow
  have HR := hide hrow
  clear hB1 bx0 HB1 hown hrow
  go_upto_region 4 with fail
  go_cut [5] from 8 (fun v5 wx => ∃ b, v5 = .pointer (some ⟨b, 0, none⟩) ∧ w1.heap.size ≤ b ∧ wx.heap[b]? = some (.cells #[.int .i64 k, .int .i64 r, .int .i64 p, .string (Pl.bs f3), .bool o, .int .i64 0, .int .i64 0, .string ⟨#[]⟩, .int .i64 m] 30 (0, 0)) ∧ Below w1.heap.size w1 wx)
  case first =>
    refine wp_region_noPanic ?_
    refine wp_region_held_drew (S := fun W => Below w1.heap.size w1 W) (by kernel_rfl) (below_drew' (Below.refl _ _)) (fun hHeld => ?_)
    refine wpAnyH_take (i := 0) (oi := Oper.mk (some 14) _ _ _ _ _) (v := ?_) rfl (by kernel_rfl) (by kernel_rfl) (by kernel_rfl) (fun _ _ _ h => h) (Or.inl ⟨by rfl, ?_⟩) (by assumption) ?_
    rotate_left
    · intro w0 hSw
      clear hSw
      go_simp
      all_goals (with_reducible rfl)
    simp only [Act.put, List.setIfInBounds_toArray, List.set_cons_zero, List.set_cons_succ]
    refine wpAnyH_take (i := 1) (oi := Oper.mk (some 15) _ _ _ _ _) (v := ?_) rfl (by kernel_rfl) (by kernel_rfl) (by kernel_rfl) (fun _ _ _ h => h) (Or.inl ⟨by rfl, ?_⟩) (by assumption) ?_
    rotate_left
    · intro w0 hSw
      clear hSw
      go_simp
      all_goals (with_reducible rfl)
    simp only [Act.put, List.setIfInBounds_toArray, List.set_cons_zero, List.set_cons_succ]
    refine wpAnyH_take (i := 2) (oi := Oper.mk (some 16) _ _ _ _ _) (v := ?_) rfl (by kernel_rfl) (by kernel_rfl) (by kernel_rfl) (fun _ _ _ h => h) (Or.inl ⟨by rfl, ?_⟩) (by assumption) ?_
    rotate_left
    · intro w0 hSw
      have z0 : w0.cell? ⟨g, 0, none⟩ = some (sv f0) := (Below.cell hSw (p := ⟨g, 0, none⟩) hlt).trans c0
      clear hSw
      go_simp
      all_goals (with_reducible rfl)
    simp only [Act.put, List.setIfInBounds_toArray, List.set_cons_zero, List.set_cons_succ]
    refine wpAnyH_take (i := 4) (oi := Oper.mk (some 18) _ _ _ _ _) (v := ?_) rfl (by kernel_rfl) (by kernel_rfl) (by kernel_rfl) (fun _ _ _ h => h) (Or.inl ⟨by rfl, ?_⟩) (by assumption) ?_
    rotate_left
    · intro w0 hSw
      clear hSw
      go_simp
      all_goals (with_reducible rfl)
    simp only [Act.put, List.setIfInBounds_toArray, List.set_cons_zero, List.set_cons_succ]
    refine wpAnyH_take (i := 5) (oi := Oper.mk (some 19) _ _ _ _ _) (v := ?_) rfl (by kernel_rfl) (by kernel_rfl) (by kernel_rfl) (fun _ _ _ h => h) (Or.inl ⟨by rfl, ?_⟩) (by assumption) ?_
    rotate_left
    · intro w0 hSw
      clear hSw
      go_simp
      all_goals (with_reducible rfl)
    simp only [Act.put, List.setIfInBounds_toArray, List.set_cons_zero, List.set_cons_succ]
    refine wpAnyH_take (i := 6) (oi := Oper.mk (some 20) _ _ _ _ _) (v := ?_) rfl (by kernel_rfl) (by kernel_rfl) (by kernel_rfl) (fun _ _ _ h => h) (Or.inl ⟨by rfl, ?_⟩) (by assumption) ?_
    rotate_left
    · intro w0 hSw
      have z0 : w0.cell? ⟨g, 1, none⟩ = some (sv f1) := (Below.cell hSw (p := ⟨g, 1, none⟩) hlt).trans c1
      clear hSw
      go_simp
      all_goals (with_reducible rfl)
    simp only [Act.put, List.setIfInBounds_toArray, List.set_cons_zero, List.set_cons_succ]
    refine wpAnyH_take (i := 8) (oi := Oper.mk (some 22) _ _ _ _ _) (v := ?_) rfl (by kernel_rfl) (by kernel_rfl) (by kernel_rfl) (fun _ _ _ h => h) (Or.inl ⟨by rfl, ?_⟩) (by assumption) ?_
    rotate_left
    · intro w0 hSw
      clear hSw
      go_simp
      all_goals (with_reducible rfl)
    simp only [Act.put, List.setIfInBounds_toArray, List.set_cons_zero, List.set_cons_succ]
    refine wpAnyH_take (i := 9) (oi := Oper.mk (some 23) _ _ _ _ _) (v := ?_) rfl (by kernel_rfl) (by kernel_rfl) (by kernel_rfl) (fun _ _ _ h => h) (Or.inl ⟨by rfl, ?_⟩) (by assumption) ?_
    rotate_left
    · intro w0 hSw
      clear hSw
      go_simp
      all_goals (with_reducible rfl)
    simp only [Act.put, List.setIfInBounds_toArray, List.set_cons_zero, List.set_cons_succ]
    refine wpAnyH_take (i := 10) (oi := Oper.mk (some 24) _ _ _ _ _) (v := ?_) rfl (by kernel_rfl) (by kernel_rfl) (by kernel_rfl) (fun _ _ _ h => h) (Or.inl ⟨by rfl, ?_⟩) (by assumption) ?_
    rotate_left
    · intro w0 hSw
      have z0 : w0.cell? ⟨g, 2, none⟩ = some (sv f2) := (Below.cell hSw (p := ⟨g, 2, none⟩) hlt).trans c2
      clear hSw
      go_simp
      all_goals (with_reducible rfl)
    simp only [Act.put, List.setIfInBounds_toArray, List.set_cons_zero, List.set_cons_succ]
    refine wpAnyH_take (i := 12) (oi := Oper.mk (some 26) _ _ _ _ _) (v := ?_) rfl (by kernel_rfl) (by kernel_rfl) (by kernel_rfl) (fun _ _ _ h => h) (Or.inl ⟨by rfl, ?_⟩) (by assumption) ?_
    rotate_left
    · intro w0 hSw
      clear hSw
      go_simp
      all_goals (with_reducible rfl)
    simp only [Act.put, List.setIfInBounds_toArray, List.set_cons_zero, List.set_cons_succ]
    refine wpAnyH_take (i := 13) (oi := Oper.mk (some 27) _ _ _ _ _) (v := ?_) rfl (by kernel_rfl) (by kernel_rfl) (by kernel_rfl) (fun _ _ _ h => h) (Or.inl ⟨by rfl, ?_⟩) (by assumption) ?_
    rotate_left
    · intro w0 hSw
      clear hSw
      go_simp
      all_goals (with_reducible rfl)
    simp only [Act.put, List.setIfInBounds_toArray, List.set_cons_zero, List.set_cons_succ]
    refine wpAnyH_take (i := 14) (oi := Oper.mk (some 28) _ _ _ _ _) (v := ?_) rfl (by kernel_rfl) (by kernel_rfl) (by kernel_rfl) (fun _ _ _ h => h) (Or.inl ⟨by rfl, ?_⟩) (by assumption) ?_
    rotate_left
    · intro w0 hSw
      have z0 : w0.cell? ⟨g, 3, none⟩ = some (sv f3) := (Below.cell hSw (p := ⟨g, 3, none⟩) hlt).trans c3
      clear hSw
      go_simp
      all_goals (with_reducible rfl)
    simp only [Act.put, List.setIfInBounds_toArray, List.set_cons_zero, List.set_cons_succ]
    refine wpAnyH_take (i := 15) (oi := Oper.mk (some 29) _ _ _ _ _) (v := ?_) rfl (by kernel_rfl) (by kernel_rfl) (by kernel_rfl) (fun _ _ _ h => h) (Or.inl ⟨by rfl, ?_⟩) (by assumption) ?_
    rotate_left
    · intro w0 hSw
      clear hSw
      go_simp
      all_goals (with_reducible rfl)
    simp only [Act.put, List.setIfInBounds_toArray, List.set_cons_zero, List.set_cons_succ]
    refine wpAnyH_take (i := 16) (oi := Oper.mk (some 30) _ _ _ _ _) (v := ?_) rfl (by kernel_rfl) (by kernel_rfl) (by kernel_rfl) (fun _ _ _ h => h) (Or.inl ⟨by rfl, ?_⟩) (by assumption) ?_
    rotate_left
    · intro w0 hSw
      clear hSw
      go_simp
      all_goals (with_reducible rfl)
    simp only [Act.put, List.setIfInBounds_toArray, List.set_cons_zero, List.set_cons_succ]
    refine wpAnyH_take (i := 17) (oi := Oper.mk (some 31) _ _ _ _ _) (v := ?_) rfl (by kernel_rfl) (by kernel_rfl) (by kernel_rfl) (fun _ _ _ h => h) (Or.inl ⟨by rfl, ?_⟩) (by assumption) ?_
    rotate_left
    · intro w0 hSw
      have z0 : w0.cell? ⟨g, 4, none⟩ = some (sv f4) := (Below.cell hSw (p := ⟨g, 4, none⟩) hlt).trans c4
      clear hSw
      go_simp
      all_goals (with_reducible rfl)
    simp only [Act.put, List.setIfInBounds_toArray, List.set_cons_zero, List.set_cons_succ]
    refine wpAnyH_take (i := 18) (oi := Oper.mk (some 32) _ _ _ _ _) (v := ?_) rfl (by kernel_rfl) (by kernel_rfl) (by kernel_rfl) (fun _ _ _ h => h) (Or.inl ⟨by rfl, ?_⟩) (by assumption) ?_
    rotate_left
    · intro w0 hSw
      clear hSw
      go_simp
      all_goals (with_reducible rfl)
    simp only [Act.put, List.setIfInBounds_toArray, List.set_cons_zero, List.set_cons_succ]
    refine wpAnyH_take (i := 19) (oi := Oper.mk (some 33) _ _ _ _ _) (v := ?_) rfl (by kernel_rfl) (by kernel_rfl) (by kernel_rfl) (fun _ _ _ h => h) (Or.inl ⟨by rfl, ?_⟩) (by assumption) ?_
    rotate_left
    · intro w0 hSw
      clear hSw
      go_simp
      all_goals (with_reducible rfl)
    simp only [Act.put, List.setIfInBounds_toArray, List.set_cons_zero, List.set_cons_succ]
    refine wpAnyH_take (i := 20) (oi := Oper.mk (some 34) _ _ _ _ _) (v := ?_) rfl (by kernel_rfl) (by kernel_rfl) (by kernel_rfl) (fun _ _ _ h => h) (Or.inl ⟨by rfl, ?_⟩) (by assumption) ?_
    rotate_left
    · intro w0 hSw
      clear hSw
      go_simp
      all_goals (with_reducible rfl)
    simp only [Act.put, List.setIfInBounds_toArray, List.set_cons_zero, List.set_cons_succ]
    refine wpAnyH_take (i := 21) (oi := Oper.mk (some 35) _ _ _ _ _) (v := ?_) rfl (by kernel_rfl) (by kernel_rfl) (by kernel_rfl) (fun _ _ _ h => h) (Or.inl ⟨by rfl, ?_⟩) (by assumption) ?_
    rotate_left
    · intro w0 hSw
      have z0 : w0.cell? ⟨g, 5, none⟩ = some (sv f5) := (Below.cell hSw (p := ⟨g, 5, none⟩) hlt).trans c5
      clear hSw
      go_simp
      all_goals (with_reducible rfl)
    simp only [Act.put, List.setIfInBounds_toArray, List.set_cons_zero, List.set_cons_succ]
    refine wpAnyH_ready (rs := [3, 24]) (by kernel_rfl) (by simp) ?_
    refine (AllReadyH.cons (o := Oper.mk (some 17) _ _ _ _ _) rfl (fun K hK => ?_) (AllReadyH.cons (o := Oper.mk (some 5) _ _ _ _ _) rfl (fun K hK => ?_) AllReadyH.nil))
    · go_simp
      go_at_call 28
      refine (n0.out _).mono ?_
      rintro x0 w0 ⟨rfl, rfl⟩
      go_wp2_with fail
      refine hK.out _ _ hHeld (fun hHeld => ?_)
      clear hK K
      (try simp only [Act.put, List.setIfInBounds_toArray, List.set_cons_zero, List.set_cons_succ])
      refine wpAnyH_ready (rs := [7, 24]) (by kernel_rfl) (by simp) ?_
      refine (AllReadyH.cons (o := Oper.mk (some 21) _ _ _ _ _) rfl (fun K hK => ?_) (AllReadyH.cons (o := Oper.mk (some 5) _ _ _ _ _) rfl (fun K hK => ?_) AllReadyH.nil))
      · go_simp
        go_at_call 28
        refine (n1.out _).mono ?_
        rintro x0 w0 ⟨rfl, rfl⟩
        go_wp2_with fail
        refine hK.out _ _ hHeld (fun hHeld => ?_)
        clear hK K
        (try simp only [Act.put, List.setIfInBounds_toArray, List.set_cons_zero, List.set_cons_succ])
        refine wpAnyH_ready (rs := [11, 24]) (by kernel_rfl) (by simp) ?_
        refine (AllReadyH.cons (o := Oper.mk (some 25) _ _ _ _ _) rfl (fun K hK => ?_) (AllReadyH.cons (o := Oper.mk (some 5) _ _ _ _ _) rfl (fun K hK => ?_) AllReadyH.nil))
        · go_simp
          go_at_call 28
          refine (n2.out _).mono ?_
          rintro x0 w0 ⟨rfl, rfl⟩
          go_wp2_with fail
          refine hK.out _ _ hHeld (fun hHeld => ?_)
          clear hK K
          (try simp only [Act.put, List.setIfInBounds_toArray, List.set_cons_zero, List.set_cons_succ])
          refine wpAnyH_ready (rs := [22, 24]) (by kernel_rfl) (by simp) ?_
          refine (AllReadyH.cons (o := Oper.mk (some 36) _ _ _ _ _) rfl (fun K hK => ?_) (AllReadyH.cons (o := Oper.mk (some 5) _ _ _ _ _) rfl (fun K hK => ?_) AllReadyH.nil))
          · go_simp
            go_at_call 28
            refine (n5.out _).mono ?_
            rintro x0 w0 ⟨rfl, rfl⟩
            go_wp2_with fail
            refine hK.out _ _ hHeld (fun hHeld => ?_)
            clear hK K
            (try simp only [Act.put, List.setIfInBounds_toArray, List.set_cons_zero, List.set_cons_succ])
            refine wpAnyH_take (i := 23) (oi := Oper.mk (some 37) _ _ _ _ _) (v := ?_) rfl (by kernel_rfl) (by kernel_rfl) (by kernel_rfl) (fun _ _ _ h => h) (Or.inl ⟨by rfl, ?_⟩) (by assumption) ?_
            rotate_left
            · intro w0 hSw
              clear hSw
              go_simp
              all_goals (with_reducible rfl)
            simp only [Act.put, List.setIfInBounds_toArray, List.set_cons_zero, List.set_cons_succ]
            refine wpAnyH_ready (rs := [24]) (by kernel_rfl) (by simp) ?_
            refine (AllReadyH.cons (o := Oper.mk (some 5) _ _ _ _ _) rfl (fun K hK => ?_) AllReadyH.nil)
            go_simp
            have hHeld' := hHeld.alloc hHeld.size (.cells #[.int .i64 0, .int .i64 0, .int .i64 0, .string ⟨#[]⟩, .bool false, .int .i64 0, .int .i64 0, .string ⟨#[]⟩, .int .i64 0] 30)
            refine hK.out _ _ hHeld' (fun hHeld => ?_)
            clear hK K hHeld'
            (try simp only [Act.put, List.setIfInBounds_toArray, List.set_cons_zero, List.set_cons_succ])
            refine wpAnyH_ready (rs := [25]) (by kernel_rfl) (by simp) ?_
            refine AllReadyH.cons (o := Oper.mk none _ _ _ _ _) rfl (fun K hK => ?_) AllReadyH.nil
            go_simp
            have hb9 : ((w1.alloc (.cells #[.int .i64 k, .int .i64 r, .int .i64 p, .string (Pl.bs f3), .bool o, .int .i64 0, .int .i64 0, .string ⟨#[]⟩, .int .i64 m] 30)).drew).heap[w1.heap.size]? = some (.cells #[.int .i64 k, .int .i64 r, .int .i64 p, .string (Pl.bs f3), .bool o, .int .i64 0, .int .i64 0, .string ⟨#[]⟩, .int .i64 m] 30 (0, 0)) := by show (w1.heap.push _)[w1.heap.size]? = _; rw [Array.getElem?_push_size]
            have hB9 : Below w1.heap.size w1 ((w1.alloc (.cells #[.int .i64 k, .int .i64 r, .int .i64 p, .string (Pl.bs f3), .bool o, .int .i64 0, .int .i64 0, .string ⟨#[]⟩, .int .i64 m] 30)).drew) := below_drew' ((Below.refl _ _).alloc (Nat.le_refl _) _)
            refine hK.out _ _ hB9 (fun _ => ?_)
            clear hK K hHeld
            (try simp only [Act.put, List.setIfInBounds_toArray, List.set_cons_zero, List.set_cons_succ])
            refine wpAnyH_done (by kernel_rfl) ?_ _
            refine NoPanic.normal ?_
            go_wp2_with fail
            go_meet
            exact ⟨_, rfl, Nat.le_refl _, hb9, hB9⟩
          · go_simp
            have hHeld' := hHeld.alloc hHeld.size (.cells #[.int .i64 0, .int .i64 0, .int .i64 0, .string ⟨#[]⟩, .bool false, .int .i64 0, .int .i64 0, .string ⟨#[]⟩, .int .i64 0] 30)
            refine hK.out _ _ hHeld' (fun hHeld => ?_)
            clear hK K hHeld'
            (try simp only [Act.put, List.setIfInBounds_toArray, List.set_cons_zero, List.set_cons_succ])
            refine wpAnyH_ready (rs := [22]) (by kernel_rfl) (by simp) ?_
            refine (AllReadyH.cons (o := Oper.mk (some 36) _ _ _ _ _) rfl (fun K hK => ?_) AllReadyH.nil)
            go_simp
            go_at_call 28
            refine (n5.out _).mono ?_
            rintro x0 w0 ⟨rfl, rfl⟩
            go_wp2_with fail
            refine hK.out _ _ hHeld (fun hHeld => ?_)
            clear hK K
            (try simp only [Act.put, List.setIfInBounds_toArray, List.set_cons_zero, List.set_cons_succ])
            refine wpAnyH_take (i := 23) (oi := Oper.mk (some 37) _ _ _ _ _) (v := ?_) rfl (by kernel_rfl) (by kernel_rfl) (by kernel_rfl) (fun _ _ _ h => h) (Or.inl ⟨by rfl, ?_⟩) (by assumption) ?_
            rotate_left
            · intro w0 hSw
              clear hSw
              go_simp
              all_goals (with_reducible rfl)
            simp only [Act.put, List.setIfInBounds_toArray, List.set_cons_zero, List.set_cons_succ]
            refine wpAnyH_ready (rs := [25]) (by kernel_rfl) (by simp) ?_
            refine AllReadyH.cons (o := Oper.mk none _ _ _ _ _) rfl (fun K hK => ?_) AllReadyH.nil
            go_simp
            have hb9 : ((w1.alloc (.cells #[.int .i64 k, .int .i64 r, .int .i64 p, .string (Pl.bs f3), .bool o, .int .i64 0, .int .i64 0, .string ⟨#[]⟩, .int .i64 m] 30)).drew).heap[w1.heap.size]? = some (.cells #[.int .i64 k, .int .i64 r, .int .i64 p, .string (Pl.bs f3), .bool o, .int .i64 0, .int .i64 0, .string ⟨#[]⟩, .int .i64 m] 30 (0, 0)) := by show (w1.heap.push _)[w1.heap.size]? = _; rw [Array.getElem?_push_size]
            have hB9 : Below w1.heap.size w1 ((w1.alloc (.cells #[.int .i64 k, .int .i64 r, .int .i64 p, .string (Pl.bs f3), .bool o, .int .i64 0, .int .i64 0, .string ⟨#[]⟩, .int .i64 m] 30)).drew) := below_drew' ((Below.refl _ _).alloc (Nat.le_refl _) _)
            refine hK.out _ _ hB9 (fun _ => ?_)
            clear hK K hHeld
            (try simp only [Act.put, List.setIfInBounds_toArray, List.set_cons_zero, List.set_cons_succ])
            refine wpAnyH_done (by kernel_rfl) ?_ _
            refine NoPanic.normal ?_
            go_wp2_with fail
            go_meet
            exact ⟨_, rfl, Nat.le_refl _, hb9, hB9⟩
        · go_simp
          have hHeld' := hHeld.alloc hHeld.size (.cells #[.int .i64 0, .int .i64 0, .int .i64 0, .string ⟨#[]⟩, .bool false, .int .i64 0, .int .i64 0, .string ⟨#[]⟩, .int .i64 0] 30)
          refine hK.out _ _ hHeld' (fun hHeld => ?_)
          clear hK K hHeld'
          (try simp only [Act.put, List.setIfInBounds_toArray, List.set_cons_zero, List.set_cons_succ])
          refine wpAnyH_ready (rs := [11]) (by kernel_rfl) (by simp) ?_
          refine (AllReadyH.cons (o := Oper.mk (some 25) _ _ _ _ _) rfl (fun K hK => ?_) AllReadyH.nil)
          go_simp
          go_at_call 28
          refine (n2.out _).mono ?_
          rintro x0 w0 ⟨rfl, rfl⟩
          go_wp2_with fail
          refine hK.out _ _ hHeld (fun hHeld => ?_)
          clear hK K
          (try simp only [Act.put, List.setIfInBounds_toArray, List.set_cons_zero, List.set_cons_succ])
          refine wpAnyH_ready (rs := [22]) (by kernel_rfl) (by simp) ?_
          refine (AllReadyH.cons (o := Oper.mk (some 36) _ _ _ _ _) rfl (fun K hK => ?_) AllReadyH.nil)
          go_simp
          go_at_call 28
          refine (n5.out _).mono ?_
          rintro x0 w0 ⟨rfl, rfl⟩
          go_wp2_with fail
          refine hK.out _ _ hHeld (fun hHeld => ?_)
          clear hK K
          (try simp only [Act.put, List.setIfInBounds_toArray, List.set_cons_zero, List.set_cons_succ])
          refine wpAnyH_take (i := 23) (oi := Oper.mk (some 37) _ _ _ _ _) (v := ?_) rfl (by kernel_rfl) (by kernel_rfl) (by kernel_rfl) (fun _ _ _ h => h) (Or.inl ⟨by rfl, ?_⟩) (by assumption) ?_
          rotate_left
          · intro w0 hSw
            clear hSw
            go_simp
            all_goals (with_reducible rfl)
          simp only [Act.put, List.setIfInBounds_toArray, List.set_cons_zero, List.set_cons_succ]
          refine wpAnyH_ready (rs := [25]) (by kernel_rfl) (by simp) ?_
          refine AllReadyH.cons (o := Oper.mk none _ _ _ _ _) rfl (fun K hK => ?_) AllReadyH.nil
          go_simp
          have hb9 : ((w1.alloc (.cells #[.int .i64 k, .int .i64 r, .int .i64 p, .string (Pl.bs f3), .bool o, .int .i64 0, .int .i64 0, .string ⟨#[]⟩, .int .i64 m] 30)).drew).heap[w1.heap.size]? = some (.cells #[.int .i64 k, .int .i64 r, .int .i64 p, .string (Pl.bs f3), .bool o, .int .i64 0, .int .i64 0, .string ⟨#[]⟩, .int .i64 m] 30 (0, 0)) := by show (w1.heap.push _)[w1.heap.size]? = _; rw [Array.getElem?_push_size]
          have hB9 : Below w1.heap.size w1 ((w1.alloc (.cells #[.int .i64 k, .int .i64 r, .int .i64 p, .string (Pl.bs f3), .bool o, .int .i64 0, .int .i64 0, .string ⟨#[]⟩, .int .i64 m] 30)).drew) := below_drew' ((Below.refl _ _).alloc (Nat.le_refl _) _)
          refine hK.out _ _ hB9 (fun _ => ?_)
          clear hK K hHeld
          (try simp only [Act.put, List.setIfInBounds_toArray, List.set_cons_zero, List.set_cons_succ])
          refine wpAnyH_done (by kernel_rfl) ?_ _
          refine NoPanic.normal ?_
          go_wp2_with fail
          go_meet
          exact ⟨_, rfl, Nat.le_refl _, hb9, hB9⟩
      · go_simp
        have hHeld' := hHeld.alloc hHeld.size (.cells #[.int .i64 0, .int .i64 0, .int .i64 0, .string ⟨#[]⟩, .bool false, .int .i64 0, .int .i64 0, .string ⟨#[]⟩, .int .i64 0] 30)
        refine hK.out _ _ hHeld' (fun hHeld => ?_)
        clear hK K hHeld'
        (try simp only [Act.put, List.setIfInBounds_toArray, List.set_cons_zero, List.set_cons_succ])
        refine wpAnyH_ready (rs := [7]) (by kernel_rfl) (by simp) ?_
        refine (AllReadyH.cons (o := Oper.mk (some 21) _ _ _ _ _) rfl (fun K hK => ?_) AllReadyH.nil)
        go_simp
        go_at_call 28
        refine (n1.out _).mono ?_
        rintro x0 w0 ⟨rfl, rfl⟩
        go_wp2_with fail
        refine hK.out _ _ hHeld (fun hHeld => ?_)
        clear hK K
        (try simp only [Act.put, List.setIfInBounds_toArray, List.set_cons_zero, List.set_cons_succ])
        refine wpAnyH_ready (rs := [11]) (by kernel_rfl) (by simp) ?_
        refine (AllReadyH.cons (o := Oper.mk (some 25) _ _ _ _ _) rfl (fun K hK => ?_) AllReadyH.nil)
        go_simp
        go_at_call 28
        refine (n2.out _).mono ?_
        rintro x0 w0 ⟨rfl, rfl⟩
        go_wp2_with fail
        refine hK.out _ _ hHeld (fun hHeld => ?_)
        clear hK K
        (try simp only [Act.put, List.setIfInBounds_toArray, List.set_cons_zero, List.set_cons_succ])
        refine wpAnyH_ready (rs := [22]) (by kernel_rfl) (by simp) ?_
        refine (AllReadyH.cons (o := Oper.mk (some 36) _ _ _ _ _) rfl (fun K hK => ?_) AllReadyH.nil)
        go_simp
        go_at_call 28
        refine (n5.out _).mono ?_
        rintro x0 w0 ⟨rfl, rfl⟩
        go_wp2_with fail
        refine hK.out _ _ hHeld (fun hHeld => ?_)
        clear hK K
        (try simp only [Act.put, List.setIfInBounds_toArray, List.set_cons_zero, List.set_cons_succ])
        refine wpAnyH_take (i := 23) (oi := Oper.mk (some 37) _ _ _ _ _) (v := ?_) rfl (by kernel_rfl) (by kernel_rfl) (by kernel_rfl) (fun _ _ _ h => h) (Or.inl ⟨by rfl, ?_⟩) (by assumption) ?_
        rotate_left
        · intro w0 hSw
          clear hSw
          go_simp
          all_goals (with_reducible rfl)
        simp only [Act.put, List.setIfInBounds_toArray, List.set_cons_zero, List.set_cons_succ]
        refine wpAnyH_ready (rs := [25]) (by kernel_rfl) (by simp) ?_
        refine AllReadyH.cons (o := Oper.mk none _ _ _ _ _) rfl (fun K hK => ?_) AllReadyH.nil
        go_simp
        have hb9 : ((w1.alloc (.cells #[.int .i64 k, .int .i64 r, .int .i64 p, .string (Pl.bs f3), .bool o, .int .i64 0, .int .i64 0, .string ⟨#[]⟩, .int .i64 m] 30)).drew).heap[w1.heap.size]? = some (.cells #[.int .i64 k, .int .i64 r, .int .i64 p, .string (Pl.bs f3), .bool o, .int .i64 0, .int .i64 0, .string ⟨#[]⟩, .int .i64 m] 30 (0, 0)) := by show (w1.heap.push _)[w1.heap.size]? = _; rw [Array.getElem?_push_size]
        have hB9 : Below w1.heap.size w1 ((w1.alloc (.cells #[.int .i64 k, .int .i64 r, .int .i64 p, .string (Pl.bs f3), .bool o, .int .i64 0, .int .i64 0, .string ⟨#[]⟩, .int .i64 m] 30)).drew) := below_drew' ((Below.refl _ _).alloc (Nat.le_refl _) _)
        refine hK.out _ _ hB9 (fun _ => ?_)
        clear hK K hHeld
        (try simp only [Act.put, List.setIfInBounds_toArray, List.set_cons_zero, List.set_cons_succ])
        refine wpAnyH_done (by kernel_rfl) ?_ _
        refine NoPanic.normal ?_
        go_wp2_with fail
        go_meet
        exact ⟨_, rfl, Nat.le_refl _, hb9, hB9⟩
    · go_simp
      have hHeld' := hHeld.alloc hHeld.size (.cells #[.int .i64 0, .int .i64 0, .int .i64 0, .string ⟨#[]⟩, .bool false, .int .i64 0, .int .i64 0, .string ⟨#[]⟩, .int .i64 0] 30)
      refine hK.out _ _ hHeld' (fun hHeld => ?_)
      clear hK K hHeld'
      (try simp only [Act.put, List.setIfInBounds_toArray, List.set_cons_zero, List.set_cons_succ])
      refine wpAnyH_ready (rs := [3]) (by kernel_rfl) (by simp) ?_
      refine (AllReadyH.cons (o := Oper.mk (some 17) _ _ _ _ _) rfl (fun K hK => ?_) AllReadyH.nil)
      go_simp
      go_at_call 28
      refine (n0.out _).mono ?_
      rintro x0 w0 ⟨rfl, rfl⟩
      go_wp2_with fail
      refine hK.out _ _ hHeld (fun hHeld => ?_)
      clear hK K
      (try simp only [Act.put, List.setIfInBounds_toArray, List.set_cons_zero, List.set_cons_succ])
      refine wpAnyH_ready (rs := [7]) (by kernel_rfl) (by simp) ?_
      refine (AllReadyH.cons (o := Oper.mk (some 21) _ _ _ _ _) rfl (fun K hK => ?_) AllReadyH.nil)
      go_simp
      go_at_call 28
      refine (n1.out _).mono ?_
      rintro x0 w0 ⟨rfl, rfl⟩
      go_wp2_with fail
      refine hK.out _ _ hHeld (fun hHeld => ?_)
      clear hK K
      (try simp only [Act.put, List.setIfInBounds_toArray, List.set_cons_zero, List.set_cons_succ])
      refine wpAnyH_ready (rs := [11]) (by kernel_rfl) (by simp) ?_
      refine (AllReadyH.cons (o := Oper.mk (some 25) _ _ _ _ _) rfl (fun K hK => ?_) AllReadyH.nil)
      go_simp
      go_at_call 28
      refine (n2.out _).mono ?_
      rintro x0 w0 ⟨rfl, rfl⟩
      go_wp2_with fail
      refine hK.out _ _ hHeld (fun hHeld => ?_)
      clear hK K
      (try simp only [Act.put, List.setIfInBounds_toArray, List.set_cons_zero, List.set_cons_succ])
      refine wpAnyH_ready (rs := [22]) (by kernel_rfl) (by simp) ?_
      refine (AllReadyH.cons (o := Oper.mk (some 36) _ _ _ _ _) rfl (fun K hK => ?_) AllReadyH.nil)
      go_simp
      go_at_call 28
      refine (n5.out _).mono ?_
      rintro x0 w0 ⟨rfl, rfl⟩
      go_wp2_with fail
      refine hK.out _ _ hHeld (fun hHeld => ?_)
      clear hK K
      (try simp only [Act.put, List.setIfInBounds_toArray, List.set_cons_zero, List.set_cons_succ])
      refine wpAnyH_take (i := 23) (oi := Oper.mk (some 37) _ _ _ _ _) (v := ?_) rfl (by kernel_rfl) (by kernel_rfl) (by kernel_rfl) (fun _ _ _ h => h) (Or.inl ⟨by rfl, ?_⟩) (by assumption) ?_
      rotate_left
      · intro w0 hSw
        clear hSw
        go_simp
        all_goals (with_reducible rfl)
      simp only [Act.put, List.setIfInBounds_toArray, List.set_cons_zero, List.set_cons_succ]
      refine wpAnyH_ready (rs := [25]) (by kernel_rfl) (by simp) ?_
      refine AllReadyH.cons (o := Oper.mk none _ _ _ _ _) rfl (fun K hK => ?_) AllReadyH.nil
      go_simp
      have hb9 : ((w1.alloc (.cells #[.int .i64 k, .int .i64 r, .int .i64 p, .string (Pl.bs f3), .bool o, .int .i64 0, .int .i64 0, .string ⟨#[]⟩, .int .i64 m] 30)).drew).heap[w1.heap.size]? = some (.cells #[.int .i64 k, .int .i64 r, .int .i64 p, .string (Pl.bs f3), .bool o, .int .i64 0, .int .i64 0, .string ⟨#[]⟩, .int .i64 m] 30 (0, 0)) := by show (w1.heap.push _)[w1.heap.size]? = _; rw [Array.getElem?_push_size]
      have hB9 : Below w1.heap.size w1 ((w1.alloc (.cells #[.int .i64 k, .int .i64 r, .int .i64 p, .string (Pl.bs f3), .bool o, .int .i64 0, .int .i64 0, .string ⟨#[]⟩, .int .i64 m] 30)).drew) := below_drew' ((Below.refl _ _).alloc (Nat.le_refl _) _)
      refine hK.out _ _ hB9 (fun _ => ?_)
      clear hK K hHeld
      (try simp only [Act.put, List.setIfInBounds_toArray, List.set_cons_zero, List.set_cons_succ])
      refine wpAnyH_done (by kernel_rfl) ?_ _
      refine NoPanic.normal ?_
      go_wp2_with fail
      go_meet
      exact ⟨_, rfl, Nat.le_refl _, hb9, hB9⟩
  case rest =>
    obtain ⟨b, rfl, hXb, hbb, hBc⟩ := hcut
    have HBX2 := hide ((hBc.block _ hlt1).trans HBX.out)
    have HBL2 := hide (HBL.out.trans (hBc.mono HBL.out.size))
    have HR2 := hide (HR.out.later hBc)
    have hltb : b < wc.heap.size := (Array.getElem?_eq_some_iff.1 hbb).1
    obtain ⟨hlt', d0, d1, d2, d3, d4, d5, d6⟩ := id HR2.out
    have HBB := hide hbb
    clear hBc hbb HBX HBL HR hlt c0 c1 c2 c3 c4 c5 c6 n0 n1 n2 n5 hc d0 d1 d2 d3 d4 d5
    go_wp2_with fail
    refine (hg.out _).mono ?_
    rintro e2 w2 ⟨rfl, hB2⟩
    have hlt2 : w.heap.size < w2.heap.size := by have := hB2.size; omega
    have hltb2 : b < w2.heap.size := by have := hB2.size; omega
    have hne : w.heap.size ≠ b := by omega
    have hle : w.heap.size ≤ b := by omega
    have HBB2 := hide ((hB2.block b hltb).trans HBB.out)
    have HBX3 := hide ((hB2.block w.heap.size (by omega)).trans HBX2.out)
    have HBL3 := hide (HBL2.out.trans (hB2.mono HBL2.out.size))
    clear hB2 HBB HBX2 HBL2 HR2 hlt' d6 hg hltb hlt1 hXb
    have p0 := cell_of_block HBB2.out 0
    have p1 := cell_of_block HBB2.out 1
    have p2 := cell_of_block HBB2.out 2
    have p3 := cell_of_block HBB2.out 3
    have p4 := cell_of_block HBB2.out 4
    have p5 := cell_of_block HBB2.out 5
    have p6 := cell_of_block HBB2.out 6
    have p7 := cell_of_block HBB2.out 7
    have p8 := cell_of_block HBB2.out 8
    have e0 := free_of_block HBB2.out 0
    have e1 := free_of_block HBB2.out 1
    have e2 := free_of_block HBB2.out 2
    have e3 := free_of_block HBB2.out 3
    have e4 := free_of_block HBB2.out 4
    have e5 := free_of_block HBB2.out 5
    have e6 := free_of_block HBB2.out 6
    have e7 := free_of_block HBB2.out 7
    have e8 := free_of_block HBB2.out 8
    simp only [List.getElem?_toArray, List.getElem?_cons_zero, List.getElem?_cons_succ] at p0 p1 p2 p3 p4 p5 p6 p7 p8
    go_upto_region 7 with fail
    refine act_code (fun X => X.heap[b]? = some (.cells #[.int .i64 k, .int .i64 r, .int .i64 p, .string (Pl.bs f3), .bool o, .int .i64 vk, .int .i64 vn, .string vt, .int .i64 m] 30 (0, 0)) ∧ X.heap[w.heap.size]? = some (.cells #[.int .i64 0, .int .i64 0, .int .i64 0, .string ⟨#[]⟩, .bool false, .int .i64 0, .int .i64 0, .string ⟨#[]⟩, .int .i64 0] 30 (0, 0)) ∧ Below w.heap.size w X ∧ b < X.heap.size) (mid_set HBB2.out HBX3.out HBL3.out hne hle hltb2 hlt2 _ _ _ _) ?_
    rintro X ⟨bB, bX, hXL, hltX⟩
    have HBB := hide bB
    have HBX := hide bX
    have HXL := hide hXL
    have hltw : w.heap.size < X.heap.size := by omega
    clear bB bX hXL HBB2 HBX3 HBL3 hltb2 hlt2 p0 e0 p1 e1 p2 e2 p3 e3 p4 e4 p5 e5 p6 e6 p7 e7 p8 e8
    cases vb
    · have hno : ∀ k r p nm o vk vn vt m, ¬ Pl.TellsA s k r p nm o vk vn vt m := fun k' r' p' nm' o' vk' vn' vt' m' ht => absurd (HO.out _ _ _ _ _ _ _ _ _ ht).2 (by simp)
      have HN := hide hno
      clear hno HO hl hok
      have r0 := cell_of_block HBX.out 0
      have r1 := cell_of_block HBX.out 1
      have r2 := cell_of_block HBX.out 2
      have r3 := cell_of_block HBX.out 3
      have r4 := cell_of_block HBX.out 4
      have r5 := cell_of_block HBX.out 5
      have r6 := cell_of_block HBX.out 6
      have r7 := cell_of_block HBX.out 7
      have r8 := cell_of_block HBX.out 8
      have g0 := free_of_block HBX.out 0
      have g1 := free_of_block HBX.out 1
      have g2 := free_of_block HBX.out 2
      have g3 := free_of_block HBX.out 3
      have g4 := free_of_block HBX.out 4
      have g5 := free_of_block HBX.out 5
      have g6 := free_of_block HBX.out 6
      have g7 := free_of_block HBX.out 7
      have g8 := free_of_block HBX.out 8
      simp only [List.getElem?_toArray, List.getElem?_cons_zero, List.getElem?_cons_succ] at r0 r1 r2 r3 r4 r5 r6 r7 r8
      go_wp2_with fail
      have hb9 := nine_set HBX.out (.int .i64 0) (.int .i64 0) (.int .i64 0) (.string ⟨#[]⟩) (.bool false) (.int .i64 0) (.int .i64 0) (.string ⟨#[]⟩) (.int .i64 0)
      have hB9 := nine_below HXL.out (Nat.le_refl _) (.int .i64 0) (.int .i64 0) (.int .i64 0) (.string ⟨#[]⟩) (.bool false) (.int .i64 0) (.int .i64 0) (.string ⟨#[]⟩) (.int .i64 0)
      clear r0 g0 r1 g1 r2 g2 r3 g3 r4 g4 r5 g5 r6 g6 r7 g7 r8 g8
      generalize (((((((((X.setCell ⟨w.heap.size, 0, none⟩ (.int .i64 0)).setCell ⟨w.heap.size, 1, none⟩ (.int .i64 0)).setCell ⟨w.heap.size, 2, none⟩ (.int .i64 0)).setCell ⟨w.heap.size, 3, none⟩ (.string ⟨#[]⟩)).setCell ⟨w.heap.size, 4, none⟩ (.bool false)).setCell ⟨w.heap.size, 5, none⟩ (.int .i64 0)).setCell ⟨w.heap.size, 6, none⟩ (.int .i64 0)).setCell ⟨w.heap.size, 7, none⟩ (.string ⟨#[]⟩)).setCell ⟨w.heap.size, 8, none⟩ (.int .i64 0)) = W9 at *
      have s0 := cell_of_block hb9 0
      have s1 := cell_of_block hb9 1
      have s2 := cell_of_block hb9 2
      have s3 := cell_of_block hb9 3
      have s4 := cell_of_block hb9 4
      have s5 := cell_of_block hb9 5
      have s6 := cell_of_block hb9 6
      have s7 := cell_of_block hb9 7
      have s8 := cell_of_block hb9 8
      refine bodyPost_ret (v := .tuple #[actV 0 0 0 ⟨#[]⟩ false 0 0 ⟨#[]⟩ 0, .bool false]) (by simp [results, Tryz.results11, go_sem, s0, s1, s2, s3, s4, s5, s6, s7, s8]) rfl ?_
      exact ⟨.inr ⟨HN.out, rfl⟩, hB9⟩
    · cases hb : Pl.actB k r p (Pl.bs f3) o vk vn vt m
      · have hno : ∀ k r p nm o vk vn vt m, ¬ Pl.TellsA s k r p nm o vk vn vt m := fun k' r' p' nm' o' vk' vn' vt' m' ht => by
          obtain ⟨⟨rfl, rfl, rfl, rfl, rfl, rfl, rfl, rfl, rfl⟩, _⟩ := HO.out _ _ _ _ _ _ _ _ _ ht
          rw [ht.1] at hb
          cases hb
        have HN := hide hno
        rw [hb] at hok
        clear hno HO hl hb
        have p0 := cell_of_block HBB.out 0
        have p1 := cell_of_block HBB.out 1
        have p2 := cell_of_block HBB.out 2
        have p3 := cell_of_block HBB.out 3
        have p4 := cell_of_block HBB.out 4
        have p5 := cell_of_block HBB.out 5
        have p6 := cell_of_block HBB.out 6
        have p7 := cell_of_block HBB.out 7
        have p8 := cell_of_block HBB.out 8
        simp only [List.getElem?_toArray, List.getElem?_cons_zero, List.getElem?_cons_succ] at p0 p1 p2 p3 p4 p5 p6 p7 p8
        go_wp2_with fail
        refine (hok.out _).mono ?_
        rintro ew3 w3 ⟨rfl, hBn⟩
        have HBBw3 := hide ((hBn.block b (by omega)).trans HBB.out)
        have HBXw3 := hide ((hBn.block w.heap.size (by omega)).trans HBX.out)
        have HXLw3 := hide (HXL.out.trans (hBn.mono HXL.out.size))
        have hltw3 : b < w3.heap.size := by have := hBn.size; omega
        have hltww3 : w.heap.size < w3.heap.size := by have := hBn.size; omega
        clear hBn
        clear p0 p1 p2 p3 p4 p5 p6 p7 p8
        have r0 := cell_of_block HBXw3.out 0
        have r1 := cell_of_block HBXw3.out 1
        have r2 := cell_of_block HBXw3.out 2
        have r3 := cell_of_block HBXw3.out 3
        have r4 := cell_of_block HBXw3.out 4
        have r5 := cell_of_block HBXw3.out 5
        have r6 := cell_of_block HBXw3.out 6
        have r7 := cell_of_block HBXw3.out 7
        have r8 := cell_of_block HBXw3.out 8
        have g0 := free_of_block HBXw3.out 0
        have g1 := free_of_block HBXw3.out 1
        have g2 := free_of_block HBXw3.out 2
        have g3 := free_of_block HBXw3.out 3
        have g4 := free_of_block HBXw3.out 4
        have g5 := free_of_block HBXw3.out 5
        have g6 := free_of_block HBXw3.out 6
        have g7 := free_of_block HBXw3.out 7
        have g8 := free_of_block HBXw3.out 8
        simp only [List.getElem?_toArray, List.getElem?_cons_zero, List.getElem?_cons_succ] at r0 r1 r2 r3 r4 r5 r6 r7 r8
        go_wp2_with fail
        have hb9 := nine_set HBXw3.out (.int .i64 0) (.int .i64 0) (.int .i64 0) (.string ⟨#[]⟩) (.bool false) (.int .i64 0) (.int .i64 0) (.string ⟨#[]⟩) (.int .i64 0)
        have hB9 := nine_below HXLw3.out (Nat.le_refl _) (.int .i64 0) (.int .i64 0) (.int .i64 0) (.string ⟨#[]⟩) (.bool false) (.int .i64 0) (.int .i64 0) (.string ⟨#[]⟩) (.int .i64 0)
        clear r0 g0 r1 g1 r2 g2 r3 g3 r4 g4 r5 g5 r6 g6 r7 g7 r8 g8
        generalize (((((((((w3.setCell ⟨w.heap.size, 0, none⟩ (.int .i64 0)).setCell ⟨w.heap.size, 1, none⟩ (.int .i64 0)).setCell ⟨w.heap.size, 2, none⟩ (.int .i64 0)).setCell ⟨w.heap.size, 3, none⟩ (.string ⟨#[]⟩)).setCell ⟨w.heap.size, 4, none⟩ (.bool false)).setCell ⟨w.heap.size, 5, none⟩ (.int .i64 0)).setCell ⟨w.heap.size, 6, none⟩ (.int .i64 0)).setCell ⟨w.heap.size, 7, none⟩ (.string ⟨#[]⟩)).setCell ⟨w.heap.size, 8, none⟩ (.int .i64 0)) = W9 at *
        have s0 := cell_of_block hb9 0
        have s1 := cell_of_block hb9 1
        have s2 := cell_of_block hb9 2
        have s3 := cell_of_block hb9 3
        have s4 := cell_of_block hb9 4
        have s5 := cell_of_block hb9 5
        have s6 := cell_of_block hb9 6
        have s7 := cell_of_block hb9 7
        have s8 := cell_of_block hb9 8
        refine bodyPost_ret (v := .tuple #[actV 0 0 0 ⟨#[]⟩ false 0 0 ⟨#[]⟩ 0, .bool false]) (by simp [results, Tryz.results11, go_sem, s0, s1, s2, s3, s4, s5, s6, s7, s8]) rfl ?_
        exact ⟨.inr ⟨HN.out, rfl⟩, hB9⟩
      · have hl := hide (hl.out hb)
        have hcmp : ((Pl.bs (Pl.actT k r p (Pl.bs f3) o vk vn vt m)).toList == s.toList) = (Pl.actT k r p (Pl.bs f3) o vk vn vt m == s.data.toList) := by rw [Pl.bs_toList, Lib.toList_data]
        cases hq : (Pl.actT k r p (Pl.bs f3) o vk vn vt m == s.data.toList)
        · have hno : ∀ k r p nm o vk vn vt m, ¬ Pl.TellsA s k r p nm o vk vn vt m := fun k' r' p' nm' o' vk' vn' vt' m' ht => by
            obtain ⟨⟨rfl, rfl, rfl, rfl, rfl, rfl, rfl, rfl, rfl⟩, _⟩ := HO.out _ _ _ _ _ _ _ _ _ ht
            have h2 := ht.2
            rw [h2] at hq
            simp at hq
          have HN := hide hno
          clear hno HO
          rw [hq] at hcmp
          generalize Pl.actT k r p (Pl.bs f3) o vk vn vt m = AT at *
          rw [hb] at hok
          have p0 := cell_of_block HBB.out 0
          have p1 := cell_of_block HBB.out 1
          have p2 := cell_of_block HBB.out 2
          have p3 := cell_of_block HBB.out 3
          have p4 := cell_of_block HBB.out 4
          have p5 := cell_of_block HBB.out 5
          have p6 := cell_of_block HBB.out 6
          have p7 := cell_of_block HBB.out 7
          have p8 := cell_of_block HBB.out 8
          simp only [List.getElem?_toArray, List.getElem?_cons_zero, List.getElem?_cons_succ] at p0 p1 p2 p3 p4 p5 p6 p7 p8
          go_wp2_with fail
          refine (hok.out _).mono ?_
          rintro ew3 w3 ⟨rfl, hBn⟩
          have HBBw3 := hide ((hBn.block b (by omega)).trans HBB.out)
          have HBXw3 := hide ((hBn.block w.heap.size (by omega)).trans HBX.out)
          have HXLw3 := hide (HXL.out.trans (hBn.mono HXL.out.size))
          have hltw3 : b < w3.heap.size := by have := hBn.size; omega
          have hltww3 : w.heap.size < w3.heap.size := by have := hBn.size; omega
          clear hBn
          clear p0 p1 p2 p3 p4 p5 p6 p7 p8
          have p0 := cell_of_block HBBw3.out 0
          have p1 := cell_of_block HBBw3.out 1
          have p2 := cell_of_block HBBw3.out 2
          have p3 := cell_of_block HBBw3.out 3
          have p4 := cell_of_block HBBw3.out 4
          have p5 := cell_of_block HBBw3.out 5
          have p6 := cell_of_block HBBw3.out 6
          have p7 := cell_of_block HBBw3.out 7
          have p8 := cell_of_block HBBw3.out 8
          simp only [List.getElem?_toArray, List.getElem?_cons_zero, List.getElem?_cons_succ] at p0 p1 p2 p3 p4 p5 p6 p7 p8
          go_wp2_with fail
          refine (hl.out _).mono ?_
          rintro ew4 w4 ⟨rfl, hBn⟩
          have HBBw4 := hide ((hBn.block b (by omega)).trans HBBw3.out)
          have HBXw4 := hide ((hBn.block w.heap.size (by omega)).trans HBXw3.out)
          have HXLw4 := hide (HXLw3.out.trans (hBn.mono HXLw3.out.size))
          have hltw4 : b < w4.heap.size := by have := hBn.size; omega
          have hltww4 : w.heap.size < w4.heap.size := by have := hBn.size; omega
          clear hBn
          clear p0 p1 p2 p3 p4 p5 p6 p7 p8
          have r0 := cell_of_block HBXw4.out 0
          have r1 := cell_of_block HBXw4.out 1
          have r2 := cell_of_block HBXw4.out 2
          have r3 := cell_of_block HBXw4.out 3
          have r4 := cell_of_block HBXw4.out 4
          have r5 := cell_of_block HBXw4.out 5
          have r6 := cell_of_block HBXw4.out 6
          have r7 := cell_of_block HBXw4.out 7
          have r8 := cell_of_block HBXw4.out 8
          have g0 := free_of_block HBXw4.out 0
          have g1 := free_of_block HBXw4.out 1
          have g2 := free_of_block HBXw4.out 2
          have g3 := free_of_block HBXw4.out 3
          have g4 := free_of_block HBXw4.out 4
          have g5 := free_of_block HBXw4.out 5
          have g6 := free_of_block HBXw4.out 6
          have g7 := free_of_block HBXw4.out 7
          have g8 := free_of_block HBXw4.out 8
          simp only [List.getElem?_toArray, List.getElem?_cons_zero, List.getElem?_cons_succ] at r0 r1 r2 r3 r4 r5 r6 r7 r8
          go_wp2_with fail
          have hb9 := nine_set HBXw4.out (.int .i64 0) (.int .i64 0) (.int .i64 0) (.string ⟨#[]⟩) (.bool false) (.int .i64 0) (.int .i64 0) (.string ⟨#[]⟩) (.int .i64 0)
          have hB9 := nine_below HXLw4.out (Nat.le_refl _) (.int .i64 0) (.int .i64 0) (.int .i64 0) (.string ⟨#[]⟩) (.bool false) (.int .i64 0) (.int .i64 0) (.string ⟨#[]⟩) (.int .i64 0)
          clear r0 g0 r1 g1 r2 g2 r3 g3 r4 g4 r5 g5 r6 g6 r7 g7 r8 g8
          generalize (((((((((w4.setCell ⟨w.heap.size, 0, none⟩ (.int .i64 0)).setCell ⟨w.heap.size, 1, none⟩ (.int .i64 0)).setCell ⟨w.heap.size, 2, none⟩ (.int .i64 0)).setCell ⟨w.heap.size, 3, none⟩ (.string ⟨#[]⟩)).setCell ⟨w.heap.size, 4, none⟩ (.bool false)).setCell ⟨w.heap.size, 5, none⟩ (.int .i64 0)).setCell ⟨w.heap.size, 6, none⟩ (.int .i64 0)).setCell ⟨w.heap.size, 7, none⟩ (.string ⟨#[]⟩)).setCell ⟨w.heap.size, 8, none⟩ (.int .i64 0)) = W9 at *
          have s0 := cell_of_block hb9 0
          have s1 := cell_of_block hb9 1
          have s2 := cell_of_block hb9 2
          have s3 := cell_of_block hb9 3
          have s4 := cell_of_block hb9 4
          have s5 := cell_of_block hb9 5
          have s6 := cell_of_block hb9 6
          have s7 := cell_of_block hb9 7
          have s8 := cell_of_block hb9 8
          refine bodyPost_ret (v := .tuple #[actV 0 0 0 ⟨#[]⟩ false 0 0 ⟨#[]⟩ 0, .bool false]) (by simp [results, Tryz.results11, go_sem, s0, s1, s2, s3, s4, s5, s6, s7, s8]) rfl ?_
          exact ⟨.inr ⟨HN.out, rfl⟩, hB9⟩
        · have hyes := hide (show Pl.TellsA s k r p (Pl.bs f3) o vk vn vt m from ⟨hb, eq_of_beq hq⟩)
          clear HO
          rw [hq] at hcmp
          generalize Pl.actT k r p (Pl.bs f3) o vk vn vt m = AT at *
          rw [hb] at hok
          have p0 := cell_of_block HBB.out 0
          have p1 := cell_of_block HBB.out 1
          have p2 := cell_of_block HBB.out 2
          have p3 := cell_of_block HBB.out 3
          have p4 := cell_of_block HBB.out 4
          have p5 := cell_of_block HBB.out 5
          have p6 := cell_of_block HBB.out 6
          have p7 := cell_of_block HBB.out 7
          have p8 := cell_of_block HBB.out 8
          simp only [List.getElem?_toArray, List.getElem?_cons_zero, List.getElem?_cons_succ] at p0 p1 p2 p3 p4 p5 p6 p7 p8
          go_wp2_with fail
          refine (hok.out _).mono ?_
          rintro ew3 w3 ⟨rfl, hBn⟩
          have HBBw3 := hide ((hBn.block b (by omega)).trans HBB.out)
          have HBXw3 := hide ((hBn.block w.heap.size (by omega)).trans HBX.out)
          have HXLw3 := hide (HXL.out.trans (hBn.mono HXL.out.size))
          have hltw3 : b < w3.heap.size := by have := hBn.size; omega
          have hltww3 : w.heap.size < w3.heap.size := by have := hBn.size; omega
          clear hBn
          clear p0 p1 p2 p3 p4 p5 p6 p7 p8
          have p0 := cell_of_block HBBw3.out 0
          have p1 := cell_of_block HBBw3.out 1
          have p2 := cell_of_block HBBw3.out 2
          have p3 := cell_of_block HBBw3.out 3
          have p4 := cell_of_block HBBw3.out 4
          have p5 := cell_of_block HBBw3.out 5
          have p6 := cell_of_block HBBw3.out 6
          have p7 := cell_of_block HBBw3.out 7
          have p8 := cell_of_block HBBw3.out 8
          simp only [List.getElem?_toArray, List.getElem?_cons_zero, List.getElem?_cons_succ] at p0 p1 p2 p3 p4 p5 p6 p7 p8
          go_wp2_with fail
          refine (hl.out _).mono ?_
          rintro ew4 w4 ⟨rfl, hBn⟩
          have HBBw4 := hide ((hBn.block b (by omega)).trans HBBw3.out)
          have HBXw4 := hide ((hBn.block w.heap.size (by omega)).trans HBXw3.out)
          have HXLw4 := hide (HXLw3.out.trans (hBn.mono HXLw3.out.size))
          have hltw4 : b < w4.heap.size := by have := hBn.size; omega
          have hltww4 : w.heap.size < w4.heap.size := by have := hBn.size; omega
          clear hBn
          clear p0 p1 p2 p3 p4 p5 p6 p7 p8
          have r0 := cell_of_block HBXw4.out 0
          have r1 := cell_of_block HBXw4.out 1
          have r2 := cell_of_block HBXw4.out 2
          have r3 := cell_of_block HBXw4.out 3
          have r4 := cell_of_block HBXw4.out 4
          have r5 := cell_of_block HBXw4.out 5
          have r6 := cell_of_block HBXw4.out 6
          have r7 := cell_of_block HBXw4.out 7
          have r8 := cell_of_block HBXw4.out 8
          have g0 := free_of_block HBXw4.out 0
          have g1 := free_of_block HBXw4.out 1
          have g2 := free_of_block HBXw4.out 2
          have g3 := free_of_block HBXw4.out 3
          have g4 := free_of_block HBXw4.out 4
          have g5 := free_of_block HBXw4.out 5
          have g6 := free_of_block HBXw4.out 6
          have g7 := free_of_block HBXw4.out 7
          have g8 := free_of_block HBXw4.out 8
          simp only [List.getElem?_toArray, List.getElem?_cons_zero, List.getElem?_cons_succ] at r0 r1 r2 r3 r4 r5 r6 r7 r8
          have p0 := cell_of_block HBBw4.out 0
          have p1 := cell_of_block HBBw4.out 1
          have p2 := cell_of_block HBBw4.out 2
          have p3 := cell_of_block HBBw4.out 3
          have p4 := cell_of_block HBBw4.out 4
          have p5 := cell_of_block HBBw4.out 5
          have p6 := cell_of_block HBBw4.out 6
          have p7 := cell_of_block HBBw4.out 7
          have p8 := cell_of_block HBBw4.out 8
          simp only [List.getElem?_toArray, List.getElem?_cons_zero, List.getElem?_cons_succ] at p0 p1 p2 p3 p4 p5 p6 p7 p8
          go_wp2_with fail
          clear p0 p1 p2 p3 p4 p5 p6 p7 p8
          have hb9 := nine_set HBXw4.out (.int .i64 k) (.int .i64 r) (.int .i64 p) (.string (Pl.bs f3)) (.bool o) (.int .i64 vk) (.int .i64 vn) (.string vt) (.int .i64 m)
          have hB9 := nine_below HXLw4.out (Nat.le_refl _) (.int .i64 k) (.int .i64 r) (.int .i64 p) (.string (Pl.bs f3)) (.bool o) (.int .i64 vk) (.int .i64 vn) (.string vt) (.int .i64 m)
          clear r0 g0 r1 g1 r2 g2 r3 g3 r4 g4 r5 g5 r6 g6 r7 g7 r8 g8
          generalize (((((((((w4.setCell ⟨w.heap.size, 0, none⟩ (.int .i64 k)).setCell ⟨w.heap.size, 1, none⟩ (.int .i64 r)).setCell ⟨w.heap.size, 2, none⟩ (.int .i64 p)).setCell ⟨w.heap.size, 3, none⟩ (.string (Pl.bs f3))).setCell ⟨w.heap.size, 4, none⟩ (.bool o)).setCell ⟨w.heap.size, 5, none⟩ (.int .i64 vk)).setCell ⟨w.heap.size, 6, none⟩ (.int .i64 vn)).setCell ⟨w.heap.size, 7, none⟩ (.string vt)).setCell ⟨w.heap.size, 8, none⟩ (.int .i64 m)) = W9 at *
          have s0 := cell_of_block hb9 0
          have s1 := cell_of_block hb9 1
          have s2 := cell_of_block hb9 2
          have s3 := cell_of_block hb9 3
          have s4 := cell_of_block hb9 4
          have s5 := cell_of_block hb9 5
          have s6 := cell_of_block hb9 6
          have s7 := cell_of_block hb9 7
          have s8 := cell_of_block hb9 8
          refine bodyPost_ret (v := .tuple #[actV k r p (Pl.bs f3) o vk vn vt m, .bool true]) (by simp [results, Tryz.results11, go_sem, s0, s1, s2, s3, s4, s5, s6, s7, s8]) rfl ?_
          exact ⟨.inl ⟨k, r, p, Pl.bs f3, o, vk, vn, vt, m, hyes.out, rfl⟩, hB9⟩
end Go.Proofs.YtkkiolljbklccaaGreatDoor

/- The law on an act that is read, walked. -/
namespace Go.Proofs.YtkkiolljbklccaaGreatDoor
open Go.RowKit
set_option linter.unusedVariables false
set_option linter.unusedSimpArgs false
set_option maxHeartbeats 400000 in
theorem eqVal_ag (k n : Int) (t : ByteArray) (w : World) :
    Calls Tryz.prog 32 #[vAgg k n t, vAgg k n t] w fun e w' => e = .returned (.bool true) ∧ Below w.heap.size w w' := by
  go_enter Tryz.func32, Tryz.ntmps32
  go_wp2
  go_ret
  exact ⟨rfl, ((Below.refl _ _).alloc (Nat.le_refl _) _).alloc (by simp) _⟩
set_option maxRecDepth 100000 in
set_option maxHeartbeats 1600000 in
theorem eqAct_any (k r p : Int) (nm : ByteArray) (o : Bool) (vk vn : Int) (vt : ByteArray) (m : Int) (w : World) :
    Calls Tryz.prog 13 #[actV k r p nm o vk vn vt m, actV k r p nm o vk vn vt m] w fun e w' => e = .returned (.bool true) ∧ Below w.heap.size w w' := by
  have hv := hide (eqVal_ag vk vn vt)
  have hoo : (o != o) = false := by cases o <;> rfl
  go_enter Tryz.func13, Tryz.ntmps13
  go_wp2_with fail
  refine (hv.out _).mono ?_
  rintro e w1 ⟨rfl, hB1⟩
  obtain ⟨ba, bb, hbl, hsz⟩ := box2_after hB1
  have a8 : w1.cell? ⟨w.heap.size, 8, none⟩ = some (.int .i64 m) := cell_of_block ba 8
  have b8 : w1.cell? ⟨w.heap.size + 1, 8, none⟩ = some (.int .i64 m) := cell_of_block bb 8
  have HBL := hide hbl
  clear hB1 hbl ba bb
  go_wp2
  go_ret
  exact ⟨rfl, HBL.out⟩
theorem seven_list : ∀ l : List (List UInt8), l.length = 7 → ∃ a b c d e f g, l = [a, b, c, d, e, f, g]
  | [a, b, c, d, e, f, g], _ => ⟨a, b, c, d, e, f, g, rfl⟩
set_option maxRecDepth 100000 in
set_option maxHeartbeats 1600000 in
theorem specActGet_any (s : ByteArray) (hs : s.size ≤ 1048576) (w : World) : Calls Tryz.prog 11 #[.string s] w (AgPost s w) := by
  by_cases h7 : (Pl.cutG 32 6 [] s.data.toList).length = 7
  · obtain ⟨f0, f1, f2, f3, f4, f5, f6, hF⟩ := seven_list _ h7
    exact specActGet_seven s hs f0 f1 f2 f3 f4 f5 f6 hF w
  · have hno : ∀ k r p nm o vk vn vt m, ¬ Pl.TellsA s k r p nm o vk vn vt m := fun k r p nm o vk vn vt m ht => by
      have h1 := Pl.act_cut ht.1
      rw [ht.2] at h1
      rw [h1] at h7
      exact h7 rfl
    have HN := hide hno
    have hc := hide (l5Cut_any s 32 6 hs (by omega))
    generalize Pl.cutG 32 6 [] s.data.toList = F at *
    have hlb : (((F.length : Nat) : Int) != 7) = true := by
      rw [bne_iff_ne]
      omega
    clear hno
    go_enter Tryz.func11, Tryz.ntmps11
    go_wp2_with fail
    refine (hc.out _).mono ?_
    rintro e1 w1 ⟨v, rfl, hown, hB1⟩
    obtain ⟨av, cv, rfl⟩ := ownsRow_form hown
    obtain ⟨bx0, HB1, hlt1⟩ := box_after hB1
    have HBX := hide bx0
    have HBL := hide HB1
    clear hB1 bx0 HB1 hown
    have r0 := cell_of_block HBX.out 0
    have r1 := cell_of_block HBX.out 1
    have r2 := cell_of_block HBX.out 2
    have r3 := cell_of_block HBX.out 3
    have r4 := cell_of_block HBX.out 4
    have r5 := cell_of_block HBX.out 5
    have r6 := cell_of_block HBX.out 6
    have r7 := cell_of_block HBX.out 7
    have r8 := cell_of_block HBX.out 8
    have g0 := free_of_block HBX.out 0
    have g1 := free_of_block HBX.out 1
    have g2 := free_of_block HBX.out 2
    have g3 := free_of_block HBX.out 3
    have g4 := free_of_block HBX.out 4
    have g5 := free_of_block HBX.out 5
    have g6 := free_of_block HBX.out 6
    have g7 := free_of_block HBX.out 7
    have g8 := free_of_block HBX.out 8
    simp only [List.getElem?_toArray, List.getElem?_cons_zero, List.getElem?_cons_succ] at r0 r1 r2 r3 r4 r5 r6 r7 r8
    go_wp2_with fail
    have hb9 := nine_set HBX.out (.int .i64 0) (.int .i64 0) (.int .i64 0) (.string ⟨#[]⟩) (.bool false) (.int .i64 0) (.int .i64 0) (.string ⟨#[]⟩) (.int .i64 0)
    have hB9 := nine_below HBL.out (Nat.le_refl _) (.int .i64 0) (.int .i64 0) (.int .i64 0) (.string ⟨#[]⟩) (.bool false) (.int .i64 0) (.int .i64 0) (.string ⟨#[]⟩) (.int .i64 0)
    clear r0 g0 r1 g1 r2 g2 r3 g3 r4 g4 r5 g5 r6 g6 r7 g7 r8 g8
    generalize (((((((((w1.setCell ⟨w.heap.size, 0, none⟩ (.int .i64 0)).setCell ⟨w.heap.size, 1, none⟩ (.int .i64 0)).setCell ⟨w.heap.size, 2, none⟩ (.int .i64 0)).setCell ⟨w.heap.size, 3, none⟩ (.string ⟨#[]⟩)).setCell ⟨w.heap.size, 4, none⟩ (.bool false)).setCell ⟨w.heap.size, 5, none⟩ (.int .i64 0)).setCell ⟨w.heap.size, 6, none⟩ (.int .i64 0)).setCell ⟨w.heap.size, 7, none⟩ (.string ⟨#[]⟩)).setCell ⟨w.heap.size, 8, none⟩ (.int .i64 0)) = W9 at *
    have s0 := cell_of_block hb9 0
    have s1 := cell_of_block hb9 1
    have s2 := cell_of_block hb9 2
    have s3 := cell_of_block hb9 3
    have s4 := cell_of_block hb9 4
    have s5 := cell_of_block hb9 5
    have s6 := cell_of_block hb9 6
    have s7 := cell_of_block hb9 7
    have s8 := cell_of_block hb9 8
    refine bodyPost_ret (v := .tuple #[actV 0 0 0 ⟨#[]⟩ false 0 0 ⟨#[]⟩ 0, .bool false]) (by simp [results, Tryz.results11, go_sem, s0, s1, s2, s3, s4, s5, s6, s7, s8]) rfl ?_
    exact ⟨.inr ⟨HN.out, rfl⟩, hB9⟩
/-- the two answers are one -/
theorem one_act (s : ByteArray) : ∃ (k r p : Int) (nm : ByteArray) (o : Bool) (vk vn : Int) (vt : ByteArray) (m : Int) (b : Bool), (b = true → Pl.TellsA s k r p nm o vk vn vt m) ∧ ∀ (w : World) (e : Ending) (w' : World), AgPost s w e w' → e = .returned (.tuple #[actV k r p nm o vk vn vt m, .bool b]) ∧ Below w.heap.size w w' := by
  by_cases hx : ∃ k r p nm o vk vn vt m, Pl.TellsA s k r p nm o vk vn vt m
  · obtain ⟨k, r, p, nm, o, vk, vn, vt, m, ht⟩ := hx
    refine ⟨k, r, p, nm, o, vk, vn, vt, m, true, fun _ => ht, ?_⟩
    rintro w e w' ⟨h, hB⟩
    rcases h with ⟨k', r', p', nm', o', vk', vn', vt', m', ht', rfl⟩ | ⟨hn, _⟩
    · obtain ⟨rfl, rfl, rfl, rfl, rfl, rfl, rfl, rfl, rfl⟩ := Pl.tells_act_one ht ht'
      exact ⟨rfl, hB⟩
    · exact absurd ht (hn _ _ _ _ _ _ _ _ _)
  · refine ⟨0, 0, 0, ⟨#[]⟩, false, 0, 0, ⟨#[]⟩, 0, false, (fun h => by cases h), ?_⟩
    rintro w e w' ⟨h, hB⟩
    rcases h with ⟨k', r', p', nm', o', vk', vn', vt', m', ht', _⟩ | ⟨_, rfl⟩
    · exact absurd ⟨_, _, _, _, _, _, _, _, _, ht'⟩ hx
    · exact ⟨rfl, hB⟩
set_option maxRecDepth 100000 in
set_option maxHeartbeats 1600000 in
theorem lawActGet (s : ByteArray) (hs : s.size ≤ maxLen) (w : World) (hT : Tab w) (hE : Errs w) (hM : MaxAt w) :
    Calls Tryz.prog 4 #[.string s] w fun e w' => e = .returned (.bool true) ∧ Below w.heap.size w w' := by
  unfold maxLen at hs
  by_cases hbig : 1048576 < s.size
  · go_enter Tryz.func4, Tryz.ntmps4
    go_wp2
    go_ret
    exact ⟨rfl, Below.refl _ _⟩
  · obtain ⟨k, r, p, nm, o, vk, vn, vt, m, b, _, ho⟩ := one_act s
    have h1 : Hid (∀ W, Calls Tryz.prog 11 #[.string s] W fun e w' => e = .returned (.tuple #[actV k r p nm o vk vn vt m, .bool b]) ∧ Below W.heap.size W w') := fun W => (specActGet_any s (by omega) W).mono fun e w' h => ho _ _ _ h
    have h2 : Hid (∀ W, Below w.heap.size w W → Calls Tryz.prog 12 #[.string s] W fun e w' => e = .returned (.tuple #[actV k r p nm o vk vn vt m, .bool b]) ∧ Below W.heap.size W w') := fun W hW => (implActGet_any s (by omega) W (hT.later hW) (hE.later hW) (hM.later hW)).mono fun e w' h => ho _ _ _ h
    have h3 := hide (eqAct_any k r p nm o vk vn vt m)
    clear hT hE hM ho
    have hbb : (b != b) = false := by cases b <;> rfl
    go_enter Tryz.func4, Tryz.ntmps4
    go_wp2_with fail
    refine (h1.out _).mono ?_
    rintro e w1 ⟨rfl, hB1⟩
    have HB1 := hide hB1
    clear hB1
    go_wp2_with fail
    refine (h2.out _ (HB1.out.alloc HB1.out.size _)).mono ?_
    rintro e w2 ⟨rfl, hB2⟩
    obtain ⟨bv, hbw, hltv⟩ := box_after hB2
    have v0 := cell_of_block bv 0
    have v1 := cell_of_block bv 1
    have v2 := cell_of_block bv 2
    have v3 := cell_of_block bv 3
    have v4 := cell_of_block bv 4
    have v5 := cell_of_block bv 5
    have v6 := cell_of_block bv 6
    have v7 := cell_of_block bv 7
    have v8 := cell_of_block bv 8
    simp only [List.getElem?_toArray, List.getElem?_cons_zero, List.getElem?_cons_succ] at v0 v1 v2 v3 v4 v5 v6 v7 v8
    have HB2 := hide (HB1.out.trans (hbw.mono HB1.out.size))
    clear hB2 bv hbw
    go_wp2_with fail
    refine (h3.out _).mono ?_
    rintro e w3 ⟨rfl, hB3⟩
    have HB3 := hide (HB2.out.trans ((box_after hB3).2.1.mono HB2.out.size))
    clear hB3
    cases b
    all_goals
      go_wp2
      go_ret
      exact ⟨rfl, HB3.out⟩
end Go.Proofs.YtkkiolljbklccaaGreatDoor

/- The words of a text, as the model has it. -/
import Derived.Test.YteadmjhmahjmdaaWord1
import Derived.Maps.AppendAt
import Derived.RangeFuncBox
namespace Go.Proofs.Yteadmjhmahjmdaa
open Go.RowKit
set_option linter.unusedVariables false

/-- a word as a cell holds it -/
abbrev sv (x : List UInt8) : Value := .string (Pl.bs x)
theorem infoStr : (Try.prog.info? 9).map (fun i => (i.zero, i.size, i.bytes)) = some (some (.string ⟨#[]⟩), 1, 16) := by kernel_rfl

theorem below_grown {w w1 : World} (hb : Below w.heap.size w w1) : w.grownBy w1 none := ⟨hb.os, hb.tape, hb.output, hb.size, fun k hk _ => hb.block k hk⟩
theorem ownsRow_later {w w1 : World} {base : Nat} {e : TypeId} {size : Nat} {v : Value} {n : Nat} {xs : List Value} (h : w.ownsRow base e size v n xs) (hb : Below w.heap.size w w1) : w1.ownsRow base e size v n xs :=
  h.kept (below_grown hb) (by cases hv : v.ownBlock <;> simp)

set_option maxRecDepth 100000 in
set_option maxHeartbeats 1600000 in
theorem specWords_any (s : ByteArray) (hs : s.size ≤ 2097152) (w : World) :
    Calls Try.prog 8 #[.string s] w fun e w' => ∃ v, e = .returned (.tuple #[v, .bool (Pl.tk s.data.toList).2]) ∧ w'.ownsRow w.heap.size 9 1 v (Pl.wordsL s.data.toList).length ((Pl.wordsL s.data.toList).map sv) ∧ Below w.heap.size w w' := by
  obtain ⟨i0, hi, hz0, hz1, hz2⟩ := info_parts infoStr
  have hmax : s.size ≤ maxLen := by unfold maxLen; omega
  have hll : s.data.toList.length = s.size := by simp
  have HLL := hide hll
  clear hll
  generalize hl : s.data.toList = l at HLL
  have HL := hide hl
  clear hl
  go_enter Try.func8, Try.ntmps8
  go_wp2_with fail
  go_loopw [4, 5] (fun v i wr => ∃ (k : Nat) (pre : List (List UInt8)), k ≤ s.size ∧ i = .int .i64 k ∧ wr.ownsRow w.heap.size 9 1 v pre.length (pre.map sv) ∧ Below w.heap.size w wr ∧ pre.length ≤ k ∧ Hid (Pl.tk l = (pre ++ (Pl.tk (l.drop k)).1, (Pl.tk (l.drop k)).2))) (fun _ i _ => s.size - (intOf i).toNat)
  case atStart =>
    exact ⟨0, [], by omega, rfl, World.ownsRow_made _ _ 0 (Nat.le_refl _) (by unfold maxLen; omega) rfl, (Below.refl _ _).alloc (Nat.le_refl _) _, by simp, by simp [Hid]⟩
  case round =>
    obtain ⟨k, pre, hk, rfl, hown, hB, hpl, HT⟩ := hrel
    by_cases hlt : k < s.size
    · have hby := Pl.byteAt_eq s k hlt
      have hbl : Hid (Pl.byteAt s k = ((l[k]?.getD 0).toNat : Int)) := by show _ = _; rw [byteAt_u, HL.out]
      have hcons : Hid (l.drop k = (l[k]?.getD 0) :: l.drop (k + 1)) := Pl.drop_cons l k (by have := HLL.out; omega)
      generalize hcc : l[k]?.getD 0 = c at hbl hcons
      have HCC := hide hcc
      clear hcc
      generalize hdd : Pl.byteAt s k = d at hby hbl
      clear hdd
      by_cases hbk : d = 32 ∨ d = 10 ∨ d = 9
      · have hpass : Hid (Pl.passLen (l.drop k) = ((k + 1 - k : Nat) : Int)) := by
          show _ = _
          rw [hcons.out, Pl.passLen_blank c _ (by
            have := hbl.out
            rcases hbk with h | h | h
            · exact .inl (byte_eq.1 (by rw [← this, h]; rfl))
            · exact .inr (.inr (byte_eq.1 (by rw [← this, h]; rfl)))
            · exact .inr (.inl (byte_eq.1 (by rw [← this, h]; rfl))))]
          omega
        have hnext : Hid (Pl.tk l = (pre ++ (Pl.tk (l.drop (k + 1))).1, (Pl.tk (l.drop (k + 1))).2)) := Pl.tk_on_pass HT.out (by omega) (by have := HLL.out; omega) hpass.out
        have h3 : ((d == 32) = true) ∨ ((d == 32) = false ∧ (d == 10) = true) ∨ ((d == 32) = false ∧ (d == 10) = false ∧ (d == 9) = true) := by
          rcases hbk with h | h | h <;> subst h <;> simp
        clear hbk hpass hbl
        rcases h3 with h32 | ⟨h32, h10⟩ | ⟨h32, h10, h9⟩
        all_goals
          go_wp2_with fail
          go_roundw
          case rel => exact ⟨k + 1, pre, by omega, by go_num, hown, hB, by omega, hnext⟩
          case measure => simp [intOf]; omega
      · have h32 : (d == 32) = false := beq_eq_false_iff_ne.2 (fun h => hbk (.inl h))
        have h10 : (d == 10) = false := beq_eq_false_iff_ne.2 (fun h => hbk (.inr (.inl h)))
        have h9 : (d == 9) = false := beq_eq_false_iff_ne.2 (fun h => hbk (.inr (.inr h)))
        by_cases h35 : d = 35
        · have h35' : (d == 35) = true := by simp [h35]
          have hc35 : Hid (l[k]?.getD 0 = 35) := by show _ = _; rw [HCC.out]; exact byte_eq.1 (by rw [← hbl.out, h35]; rfl)
          clear hbk h35 hbl
          go_wp2_with fail
          go_loop [5] (fun i => ∃ m : Nat, k ≤ m ∧ m ≤ s.size ∧ i = .int .i64 m ∧ ∀ j, k ≤ j → j < m → l[j]?.getD 0 ≠ 10) (fun i => s.size - (intOf i).toNat)
          case atStart => exact ⟨k, by omega, by omega, rfl, by intro j h1 h2; omega⟩
          case round =>
            obtain ⟨m, hkm, hm, rfl, hno⟩ := hrel
            have HN := hide hno
            clear hno
            by_cases hlt2 : m < s.size
            · have hby2 := Pl.byteAt_eq s m hlt2
              have hbl2 : Hid (Pl.byteAt s m = ((l[m]?.getD 0).toNat : Int)) := by show _ = _; rw [byteAt_u, HL.out]
              generalize hdd : Pl.byteAt s m = d2 at hby2 hbl2
              clear hdd
              cases h2 : (d2 != 10)
              · have hend : Hid (l[m]?.getD 0 = 10) := byte_eq.1 (by rw [← hbl2.out]; simpa using h2)
                have hkm2 : k < m := by
                  have hne : k ≠ m := by
                    intro h
                    have h1 := hc35.out
                    rw [h, hend.out] at h1
                    exact absurd h1 (by decide)
                  omega
                have hnext : Hid (Pl.tk l = (pre ++ (Pl.tk (l.drop m)).1, (Pl.tk (l.drop m)).2)) :=
                  Pl.tk_on_pass HT.out hkm2 (by have := HLL.out; omega) (Pl.passLen_note l k m hkm2 (by have := HLL.out; omega) hc35.out HN.out (fun _ => hend.out))
                go_wp2_with fail
                go_roundw
                case rel => exact ⟨m, pre, by omega, rfl, hown, hB, by omega, hnext⟩
                case measure => simp [intOf]; omega
              · have hne : Hid (l[m]?.getD 0 ≠ 10) := by
                  intro h
                  have : d2 = 10 := by rw [hbl2.out, h]; rfl
                  simp [this] at h2
                go_wp2_with fail
                refine ⟨⟨m + 1, by omega, by omega, by go_num, ?_⟩, by simp [intOf]; omega⟩
                intro j h1 h2
                by_cases hjm : j = m
                · subst hjm; exact hne.out
                · exact HN.out j h1 (by omega)
            · have hnext : Hid (Pl.tk l = (pre ++ (Pl.tk (l.drop m)).1, (Pl.tk (l.drop m)).2)) :=
                Pl.tk_on_pass HT.out (by omega) (by have := HLL.out; omega) (Pl.passLen_note l k m (by omega) (by have := HLL.out; omega) hc35.out HN.out (fun h => absurd h (by have := HLL.out; omega)))
              go_wp2_with fail
              go_roundw
              case rel => exact ⟨m, pre, by omega, rfl, hown, hB, by omega, hnext⟩
              case measure => simp [intOf]; omega
        · have h35' : (d == 35) = false := by simp [h35]
          have hp0 : Hid (Pl.passLen (l.drop k) = 0) := by
            show _ = _
            rw [hcons.out]
            have hc : ∀ n : UInt8, c = n → d = (n.toNat : Int) := fun n h => by rw [hbl.out, h]
            refine Pl.passLen_none c _ ?_ (fun h => h35 (hc _ h))
            rintro (h | h | h)
            · exact hbk (.inl (hc _ h))
            · exact hbk (.inr (.inr (hc _ h)))
            · exact hbk (.inr (.inl (hc _ h)))
          clear hbk h35 hbl
          have hex : (s.extract k s.size).data.toList = l.drop k := by rw [Pl.extract_tail, Pl.bs_data, HL.out]
          have hexs : (s.extract k s.size).size = s.size - k := by
            have h1 := congrArg List.length hex
            rw [List.length_drop, HLL.out] at h1
            exact h1
          have hword := fun W => l1Word_any (s.extract k s.size) (by rw [hexs]; omega) (by rw [hexs]; omega) W
          rw [hex] at hword
          have hwl := Pl.wordLen_le (l.drop k)
          rw [List.length_drop, HLL.out] at hwl
          have hXl : ((l.drop k).take (Pl.wordLen (l.drop k)).toNat).length = (Pl.wordLen (l.drop k)).toNat := by
            rw [List.length_take, List.length_drop, HLL.out]; omega
          clear hex hexs
          by_cases hw0 : Pl.wordLen (l.drop k) = 0
          · have hbad := hide (Pl.tk_on_bad HT.out (by have := HLL.out; omega) hp0.out hw0)
            rw [hw0] at hword
            have HW := hide hword
            have hE' : (Pl.bs []).toList.isEmpty = true := by rw [Pl.bs_toList]; rfl
            clear hwl hXl hw0 hword
            go_wp2_with (go_at_call 18; refine (HW.out _).mono ?_; rintro e w1 ⟨rfl, hB1⟩)
            go_ret2
            have hWL : Pl.wordsL l = [] := by unfold Pl.wordsL; rw [hbad.out]; rfl
            refine ⟨.slice (some ⟨w1.heap.size, 0, none⟩) 0 0, ?_, ?_, ?_⟩
            · rw [hbad.out]; rfl
            · rw [hWL]
              exact World.ownsRow_made _ _ 0 (by have := hB.size; have := hB1.size; omega) (by unfold maxLen; omega) rfl
            · exact (hB.trans (hB1.mono hB.size)).alloc (by have := hB.size; have := hB1.size; omega) _
          · have hnext := hide (Pl.tk_on_word HT.out (by have := HLL.out; omega) hp0.out hw0)
            generalize hX : (l.drop k).take (Pl.wordLen (l.drop k)).toNat = X at hword hXl hnext
            generalize hn : (Pl.wordLen (l.drop k)).toNat = n at hXl hnext
            have hn1 : 1 ≤ n := by omega
            have hn2 : n ≤ s.size - k := by omega
            have hXe : (Pl.bs X).toList.isEmpty = false := by
              rw [Pl.bs_toList]; cases X with
              | nil => simp at hXl; omega
              | cons a b => rfl
            have hXs : (Pl.bs X).size = n := by rw [Pl.bs_size, hXl]
            have HW := hide hword
            clear hwl hXl hw0 hX hn hword
            go_wp2_with (first | (go_at_call 18; refine (HW.out _).mono ?_; rintro e w1 ⟨rfl, hB1⟩) | (at_builtin; refine wpList_append_own _ rfl _ _ 24 rfl w.heap.size 9 i0 (.string ⟨#[]⟩) 1 16 Try.underlying24 hi hz0 hz1 hz2 rfl (by decide) _ _ _ rfl ((ownsRow_later hown hB1).alloc _) ⟨w1.heap.size, 0, none⟩ 1 1 [.string (Pl.bs X)] rfl rfl ?c1 ?c2 ?c3 ?c4 ?c5 ?_))
            case c1 => exact cell_one_new _ _ _
            case c2 => intro u hu; simp at hu; subst hu; rfl
            case c3 => unfold maxLen; omega
            case c4 => omega
            case c5 => have := hB.size; have := hB1.size; simp; omega
            intro v' w2 hown' hgrow' _
            go_wp2
            go_roundw
            case rel =>
              refine ⟨k + n, pre ++ [X], by omega, by go_num, by simpa using hown', ?_, by simp; omega, hnext⟩
              have hs1 := hB.size
              have hs2 := hB1.size
              have q : Below w.heap.size w (w1.alloc (Obj.cells #[Value.string (Pl.bs X)] 9)) := (hB.trans (hB1.mono hs1)).alloc (by omega) _
              exact q.grown hgrow' (by simp; omega) (fun j hj => (hown.lt j hj).1)
            case measure => simp [intOf]; omega
    · have hend := hide (Pl.tk_on_end HT.out (by have := HLL.out; omega))
      go_wp2_with fail
      go_ret2
      refine ⟨u4, ?_, ?_, hB⟩
      · rw [hend.out]; rfl
      · have : Pl.wordsL l = pre := by unfold Pl.wordsL; rw [hend.out]; rfl
        rw [this]
        exact hown
end Go.Proofs.Yteadmjhmahjmdaa

/- ExprNames, on both sides. -/
import Derived.Test.YtckdpdlkjgjadaaNamT
import Derived.Test.YtckdpdlkjgjadaaNamI
import Derived.Test.YtckdpdlkjgjadaaShSort
import Derived.Lib.OwnBridge
import Derived.Sort.OwnSorted
namespace Go.Proofs.Ytckdpdlkjgjadaa
open Go.RowKit
set_option linter.unusedVariables false
namespace Pl
def exprNames (nd : Nd) (k : Fo) : List (List UInt8) := if okN nd k 5 = true then insAll (namesN nd k) [] else []
theorem namesN_len {nd : Nd} {k : Fo} (h : okN nd k 5 = true) : (namesN nd k).length ≤ 63 := by
  have h1 := okN_nodes (Nat.le_refl _) h
  have h2 := names_le_nodes k
  have h3 := ownNm_le nd
  simp only [namesN, List.length_append]
  omega
theorem exprNames_len (nd : Nd) (k : Fo) : (exprNames nd k).length ≤ 63 := by
  unfold exprNames
  split
  · next h =>
    have h1 := namesN_len h
    have h2 := insAll_len (namesN nd k) []
    simp only [List.length_nil] at h2
    omega
  · simp
end Pl
theorem texts_nil (w : World) (ad : Option Addr) (h : ad ≠ none) : TextsAt w (.slice ad 0 0) [] := ⟨ad, 0, rfl, Nat.le_refl _, by unfold maxLen; omega, fun h => by simp at h, fun _ => rfl⟩

set_option maxHeartbeats 800000 in
theorem specExprNames_any (nd : Nd) (k : Fo) (v : Value) (w : World) (ht : nd.vt.size ≤ maxLen) (hn : nd.nm.size ≤ maxLen) (hwf : k.Wf) (hl : k.len ≤ 1048576) (hs : k.Sm) (hr : RowAt 0 w k v) :
    Calls Try.prog 12 #[ndV nd v] w fun e w' => ∃ v', e = .returned v' ∧ TextsAt w' v' (Pl.exprNames nd k) ∧ Below w.heap.size w w' := by
  have hok : Hid (∀ W, Below w.heap.size w W → Calls Try.prog 8 #[ndV nd v] W fun e w' => e = .returned (.bool (Pl.okN nd k 5)) ∧ Below W.heap.size W w') := fun W hW => specExprOk_any nd k v W ht hn hwf hl hs (hr.later hW)
  have hnm : Hid ((Pl.namesN nd k).length ≤ 1048576 → ∀ W vo, Below w.heap.size w W → TextsAt W vo [] → Calls Try.prog 33 #[ndV nd v, vo] W fun e w' => ∃ v', e = .returned v' ∧ TextsAt w' v' (Pl.insAll (Pl.namesN nd k) []) ∧ Below W.heap.size W w') := fun hb W vo hW ho => l2Names_any k hl hs nd v W [] vo (by simpa using hb) (hr.later hW) ho
  have hA : Hid (Below w.heap.size w (w.alloc (.cells #[.int .i64 nd.k, .int .i64 nd.vk, .int .i64 nd.vn, .string nd.vt, .string nd.nm, v] 32))) := (Below.refl _ _).alloc (Nat.le_refl _) _
  have HX := hide (Box6.mk (nd := nd) (v := v) (T := 32) w)
  have hvs := hr
  obtain ⟨ad, cap, rfl, _, _, _⟩ := hvs
  clear hr hwf hs
  cases hokb : Pl.okN nd k 5
  · have HE : Hid (Pl.exprNames nd k = []) := by show _ = _; simp [Pl.exprNames, hokb]
    rw [hokb] at hok
    clear hokb
    generalize k.len = kl at *
    go_enter Try.func12, Try.ntmps12
    go_wp2_with fail
    refine (hok.out _ hA.out).mono ?_
    rintro e w1 ⟨rfl, hB1⟩
    have HB1 : Hid (Below w.heap.size w w1) := hA.out.trans (hB1.mono (by simp))
    clear hB1 hok
    go_wp2
    go_ret
    refine ⟨_, rfl, ?_, HB1.out.alloc HB1.out.size _⟩
    rw [HE.out]
    exact texts_nil _ _ (by simp)
  · have HE : Hid (Pl.exprNames nd k = Pl.insAll (Pl.namesN nd k) []) := by show _ = _; simp [Pl.exprNames, hokb]
    have hb := Pl.namesN_len hokb
    have HNM := hide (hnm.out (by omega))
    rw [hokb] at hok
    clear hokb hnm hb
    generalize k.len = kl at *
    go_enter Try.func12, Try.ntmps12
    go_wp2_with fail
    refine (hok.out _ hA.out).mono ?_
    rintro e w1 ⟨rfl, hB1⟩
    have HB1 : Hid (Below w.heap.size w w1) := hA.out.trans (hB1.mono (by simp))
    obtain ⟨_, x0, x1, x2, x3, x4, x5⟩ := HX.out.later hB1
    clear hB1 hok
    have HB2 : Hid (Below w.heap.size w (w1.alloc (.cells #[] 9))) := HB1.out.alloc HB1.out.size _
    go_wp2_with fail
    refine (HNM.out _ _ HB2.out (texts_nil _ _ (by simp))).mono ?_
    rintro e w2 ⟨v2, rfl, ht2, hB2⟩
    have HT2 := hide ht2
    obtain ⟨a2, c2, rfl, _⟩ := HT2.out
    clear ht2
    have HB3 : Hid (Below w.heap.size w w2) := HB2.out.trans (hB2.mono HB2.out.size)
    clear hB2 x0 x1 x2 x3 x4 x5
    go_wp2
    go_ret
    refine ⟨_, rfl, ?_, HB3.out⟩
    rw [HE.out]
    exact HT2.out

set_option maxHeartbeats 1600000 in
theorem implExprNames_any (nd : Nd) (k : Fo) (v : Value) (w : World) (ht : nd.vt.size ≤ maxLen) (hn : nd.nm.size ≤ maxLen) (hwf : k.Wf) (hl : k.len ≤ 1048576) (hs : k.Sm) (hr : RowAt 0 w k v) :
    Calls Try.prog 13 #[ndV nd v] w fun e w' => ∃ v', e = .returned v' ∧ w'.ownsRow w.heap.size 9 1 v' (Pl.exprNames nd k).length ((Pl.exprNames nd k).map sv) ∧ Below w.heap.size w w' := by
  have hok : Hid (∀ W, Below w.heap.size w W → Calls Try.prog 10 #[ndV nd v] W fun e w' => e = .returned (.bool (Pl.okN nd k 5)) ∧ Below W.heap.size W w') := fun W hW => implExprOk_any nd k v W ht hn hwf hl hs (hr.later hW)
  have hnm : Hid (Pl.okN nd k 5 = true → ∀ W, Below w.heap.size w W → Calls Try.prog 34 #[ndV nd v] W fun e w' => ∃ v', e = .returned v' ∧ w'.ownsRow W.heap.size 9 1 v' (Pl.namesN nd k).length ((Pl.namesN nd k).map sv) ∧ Below W.heap.size W w') := fun h W hW => exprNames_any k hl hs nd v W (Pl.okN_vl h).1 (Pl.okN_vl h).2 (by have := Pl.namesN_len h; omega) (hr.later hW)
  have hA : Hid (Below w.heap.size w (w.alloc (.cells #[.int .i64 nd.k, .int .i64 nd.vk, .int .i64 nd.vn, .string nd.vt, .string nd.nm, v] 32))) := (Below.refl _ _).alloc (Nat.le_refl _) _
  have HX := hide (Box6.mk (nd := nd) (v := v) (T := 32) w)
  have hvs := hr
  obtain ⟨ad, cap, rfl, _, _, _⟩ := hvs
  clear hr hwf hs
  cases hokb : Pl.okN nd k 5
  · have HE : Hid (Pl.exprNames nd k = []) := by show _ = _; simp [Pl.exprNames, hokb]
    rw [hokb] at hok
    clear hokb
    generalize k.len = kl at *
    go_enter Try.func13, Try.ntmps13
    go_wp2_with fail
    refine (hok.out _ hA.out).mono ?_
    rintro e w1 ⟨rfl, hB1⟩
    have HB1 : Hid (Below w.heap.size w w1) := hA.out.trans (hB1.mono (by simp))
    clear hB1 hok
    go_wp2
    go_ret
    refine ⟨_, rfl, ?_, HB1.out⟩
    rw [HE.out]
    exact ⟨rfl, .inl ⟨rfl, rfl⟩⟩
  · have HE : Hid (Pl.exprNames nd k = Lib.compact ((Pl.namesN nd k).mergeSort fun x y => decide (x ≤ y))) := by show _ = _; rw [Pl.compact_sort]; simp [Pl.exprNames, hokb]
    have hb := Pl.namesN_len hokb
    have HNM := hide (hnm.out hokb)
    rw [hokb] at hok
    clear hokb hnm
    generalize Pl.namesN nd k = N at *
    generalize k.len = kl at *
    go_enter Try.func13, Try.ntmps13
    go_wp2_with fail
    refine (hok.out _ hA.out).mono ?_
    rintro e w1 ⟨rfl, hB1⟩
    have HB1 : Hid (Below w.heap.size w w1) := hA.out.trans (hB1.mono (by simp))
    obtain ⟨_, x0, x1, x2, x3, x4, x5⟩ := HX.out.later hB1
    clear hB1 hok
    go_wp2_with fail
    refine (HNM.out _ HB1.out).mono ?_
    rintro e w2 ⟨v2, rfl, hr2, hB2⟩
    have HB2 : Hid (Below w.heap.size w w2) := HB1.out.trans (hB2.mono HB1.out.size)
    have HR2 := hide (ownsRow_base hr2 HB1.out.size)
    clear hr2 hB2 x0 x1 x2 x3 x4 x5
    by_cases h0 : v2 = .slice none 0 0
    · subst h0
      have hN : N = [] := by
        rcases HR2.out.2 with ⟨_, h⟩ | ⟨g, cap, cur, h, _⟩
        · exact List.length_eq_zero_iff.1 h
        · cases h
      subst hN
      go_wp2_with fail
      refine (Try.sort_str_none none 0 w2).mono ?_
      rintro e w3 ⟨rfl, rfl⟩
      go_wp2_with fail
      refine (Try.compact_str_empty none 0 w3).mono ?_
      rintro e w4 ⟨rfl, rfl⟩
      go_wp2
      go_ret
      refine ⟨_, rfl, ?_, HB2.out⟩
      have e0 : Lib.compact (([] : List (List UInt8)).mergeSort fun x y => decide (x ≤ y)) = [] := by rw [Pl.compact_sort]; rfl
      rw [HE.out, e0]
      exact HR2.out
    · obtain ⟨g, cap2, rfl, hbg, hgl, hnc, hcm, _, hH⟩ := Lib.holds_of_ownsRow (enc := encStr) (zs := N) HR2.out h0
      clear h0
      have hsort := hide (Try.sort_str g 0 cap2 N w2 hH hgl (by omega))
      have hown3 : Hid (∀ n os, (Sort.grow (Sort.putRow encStr (Sort.ahead w2 n) g 0 (N.mergeSort fun x y => decide (x ≤ y)).toArray) os).ownsRow w.heap.size 9 1 (.slice (some ⟨g, 0, none⟩) N.length cap2) N.length ((N.mergeSort fun x y => decide (x ≤ y)).map encStr)) := by
        refine hide fun n os => ?_
        rcases HR2.out.2 with ⟨h, _⟩ | ⟨g', cap', cur, h, hbase, hb', h1, h2, h3, h4⟩
        · cases h
        · cases h
          exact ownsRow_sorted (ss := N) (by simp) hbase hb' h1 h2 h3
      have hbel3 : Hid (∀ n os, Below w.heap.size w (Sort.grow (Sort.putRow encStr (Sort.ahead w2 n) g 0 (N.mergeSort fun x y => decide (x ≤ y)).toArray) os)) := by
        refine hide fun n os => ?_
        exact HB2.out.grown (grownBy_sorted _) HB2.out.size (fun j hj => by cases hj; exact hbg)
      have hlen : (N.mergeSort fun x y => decide (x ≤ y)).length = N.length := by simp
      have hcl := Lib.compact_length_le (N.mergeSort fun x y => decide (x ≤ y))
      generalize (N.mergeSort fun x y => decide (x ≤ y)) = M at hsort hown3 hbel3 hlen hcl HE
      have HLN := hide hlen
      clear hH hlen
      go_wp2_with fail
      refine hsort.out.mono ?_
      rintro e w3 ⟨rfl, n3, os3, h3⟩
      have HR3 := hide (hown3.out n3 os3)
      have HB3 := hide (hbel3.out n3 os3)
      rw [← h3] at HR3 HB3
      clear h3 hsort hown3 hbel3
      obtain ⟨g', cap', hv3, _, _, _, _, _, hH3⟩ := Lib.holds_of_ownsRow (enc := encStr) (zs := M) HR3.out (by simp)
      cases hv3
      have hcomp := hide (Try.compact_str g 0 cap2 M w3 hH3 (by have := HLN.out; unfold maxLen at hcm; omega) (by have := HLN.out; omega))
      rw [HLN.out] at hcomp
      have hown4 : Hid (∀ q, (Sort.putRow encStr (Sort.ahead w3 q) g 0 (Lib.compact M ++ List.replicate (N.length - (Lib.compact M).length) []).toArray).ownsRow w.heap.size 9 1 (.slice (some ⟨g, 0, none⟩) (Lib.compact M).length cap2) (Lib.compact M).length ((Lib.compact M).map sv)) := by
        refine hide fun q => ?_
        have h := Lib.ownsRow_putRow (enc := encStr) (q := q) (k := (Lib.compact M).length) (ys := Lib.compact M ++ List.replicate (N.length - (Lib.compact M).length) []) HR3.out (by simp; have := HLN.out; omega) (by have := HLN.out; omega)
        rw [List.take_left] at h
        exact h
      have hbel4 : Hid (∀ q, Below w.heap.size w (Sort.putRow encStr (Sort.ahead w3 q) g 0 (Lib.compact M ++ List.replicate (N.length - (Lib.compact M).length) []).toArray)) := hide fun q => Lib.below_putRow HB3.out hbg
      clear hH3
      go_wp2_with fail
      refine hcomp.out.mono ?_
      rintro e w4 ⟨rfl, q4, h4⟩
      have HR4 := hide (hown4.out q4)
      have HB4 := hide (hbel4.out q4)
      rw [← h4] at HR4 HB4
      clear h4 hcomp hown4 hbel4
      go_wp2
      go_ret
      refine ⟨_, rfl, ?_, HB4.out⟩
      rw [HE.out]
      exact HR4.out
end Go.Proofs.Ytckdpdlkjgjadaa

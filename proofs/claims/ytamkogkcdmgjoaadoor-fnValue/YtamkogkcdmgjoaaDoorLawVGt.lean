/- The law on ValueGet, walked. -/
import Derived.Test.YtamkogkcdmgjoaaDoorVgB
import Derived.Deep.QuietTactic
namespace Go.Proofs.YtamkogkcdmgjoaaDoor
open Go.RowKit
set_option linter.unusedVariables false

set_option maxHeartbeats 400000 in
theorem eqVal_any (k n : Int) (t : ByteArray) (w : World) :
    Calls Tryd.prog 7 #[vAgg k n t, vAgg k n t] w fun e w' => e = .returned (.bool true) ∧ Below w.heap.size w w' := by
  go_enter Tryd.func7, Tryd.ntmps7
  go_wp2
  go_ret
  exact ⟨rfl, ((Below.refl _ _).alloc (Nat.le_refl _) _).alloc (by simp) _⟩
/-- the two answers are one -/
theorem one_answer (s : ByteArray) : ∃ (k n : Int) (t : ByteArray) (b : Bool), ∀ (w : World) (e : Ending) (w' : World), VgPost s w e w' → e = .returned (.tuple #[vAgg k n t, .bool b]) ∧ Below w.heap.size w w' := by
  by_cases hx : ∃ k n t, Pl.TellsV s k n t
  · obtain ⟨k, n, t, ht⟩ := hx
    refine ⟨k, n, t, true, ?_⟩
    rintro w e w' ⟨h, hB⟩
    rcases h with ⟨k', n', t', ht', rfl⟩ | ⟨hn, _⟩
    · obtain ⟨rfl, rfl, rfl⟩ := Pl.tells_one ht ht'
      exact ⟨rfl, hB⟩
    · exact absurd ht (hn _ _ _)
  · refine ⟨0, 0, ⟨#[]⟩, false, ?_⟩
    rintro w e w' ⟨h, hB⟩
    rcases h with ⟨k', n', t', ht', _⟩ | ⟨_, rfl⟩
    · exact absurd ⟨_, _, _, ht'⟩ hx
    · exact ⟨rfl, hB⟩
set_option maxRecDepth 100000 in
set_option maxHeartbeats 1600000 in
theorem lawValueGet (s : ByteArray) (hs : s.size ≤ maxLen) (w : World) (hT : Tab w) (hE : Errs w) :
    Calls Tryd.prog 3 #[.string s] w fun e w' => e = .returned (.bool true) ∧ Below w.heap.size w w' := by
  unfold maxLen at hs
  by_cases hbig : 1048576 < s.size
  · go_enter Tryd.func3, Tryd.ntmps3
    go_wp2
    go_ret
    exact ⟨rfl, Below.refl _ _⟩
  · obtain ⟨k, n, t, b, ho⟩ := one_answer s
    have h1 : Hid (∀ W, Calls Tryd.prog 5 #[.string s] W fun e w' => e = .returned (.tuple #[vAgg k n t, .bool b]) ∧ Below W.heap.size W w') := fun W => (specValueGet_any s (by omega) W).mono fun e w' h => ho _ _ _ h
    have h2 : Hid (∀ W, Below w.heap.size w W → Calls Tryd.prog 6 #[.string s] W fun e w' => e = .returned (.tuple #[vAgg k n t, .bool b]) ∧ Below W.heap.size W w') := fun W hW => (implValueGet_any s (by omega) W (hT.later hW) (hE.later hW)).mono fun e w' h => ho _ _ _ h
    have h3 := hide (eqVal_any k n t)
    clear hT hE ho
    have hbb : (b != b) = false := by cases b <;> rfl
    go_enter Tryd.func3, Tryd.ntmps3
    go_wp2_with fail
    refine (h1.out _).mono ?_
    rintro e w1 ⟨rfl, hB1⟩
    have HB1 := hide hB1
    clear hB1
    go_wp2_with fail
    refine (h2.out _ (HB1.out.alloc HB1.out.size _)).mono ?_
    rintro e w2 ⟨rfl, hB2⟩
    obtain ⟨bv, hbw, hltv⟩ := box_after hB2
    have v0 := cell_of_block bv 0
    have v1 := cell_of_block bv 1
    have v2 := cell_of_block bv 2
    simp only [List.getElem?_toArray, List.getElem?_cons_zero, List.getElem?_cons_succ] at v0 v1 v2
    have HB2 := hide (HB1.out.trans (hbw.mono HB1.out.size))
    clear hB2 bv hbw
    go_wp2_with fail
    refine (h3.out _).mono ?_
    rintro e w3 ⟨rfl, hB3⟩
    have HB3 := hide (HB2.out.trans ((box_after hB3).2.1.mono HB2.out.size))
    clear hB3
    cases b
    all_goals
      go_wp2
      go_ret
      exact ⟨rfl, HB3.out⟩
end Go.Proofs.YtamkogkcdmgjoaaDoor

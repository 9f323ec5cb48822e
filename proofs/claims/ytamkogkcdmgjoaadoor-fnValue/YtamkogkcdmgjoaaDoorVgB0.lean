/- What a text tells of a value: the facts that the specification's branches share. -/
import Derived.Test.YtamkogkcdmgjoaaDoorVgA
import Derived.Test.YtamkogkcdmgjoaaDoorVgT
import Derived.Test.YtamkogkcdmgjoaaDoorVgM
import Derived.Test.YtamkogkcdmgjoaaDoorVgD1
import Derived.Test.YtamkogkcdmgjoaaDoorVgD2
import Derived.Test.YtamkogkcdmgjoaaDoorVgD3
namespace Go.Proofs.YtamkogkcdmgjoaaDoor
open Go.RowKit
set_option linter.unusedVariables false

set_option maxRecDepth 100000 in
set_option maxHeartbeats 1600000 in
theorem l1Get_none (s : ByteArray) (hs : s.size ≤ 1048576) (hno : (s.toList == [110, 111, 110, 101]) = true) (w : World) :
    Calls Tryd.prog 14 #[.string s] w fun e w' => e = .returned (.tuple #[vAgg 0 0 ⟨#[]⟩, .bool true]) ∧ Below w.heap.size w w' := by
  go_enter Tryd.func14, Tryd.ntmps14
  go_wp2
  refine bodyPost_ret (v := .tuple #[vAgg 0 0 ⟨#[]⟩, .bool true]) (by simp [results, Tryd.results14, go_sem]) rfl ?_
  exact ⟨rfl, ((Below.refl _ _).alloc (Nat.le_refl _) _).alloc (by simp) _⟩

theorem itoa_minus {n : Int} {r : List UInt8} (h : Lib.itoa n = 45 :: r) : n < 0 ∧ r = Lib.decDigits n.natAbs := by
  unfold Lib.itoa at h
  split at h
  · next hn =>
    injection h with _ h
    exact ⟨hn, h.symm⟩
  · obtain ⟨c, q, e, h1, _⟩ := Pl.dec_head n.toNat
    rw [e] at h
    injection h with h _
    subst h
    simp at h1
theorem itoa_plus {n : Int} (h : ∀ r, Lib.itoa n ≠ 45 :: r) : 0 ≤ n ∧ Lib.itoa n = Lib.decDigits n.toNat := by
  by_cases hn : n < 0
  · refine absurd ?_ (h (Lib.decDigits n.natAbs))
    unfold Lib.itoa
    rw [if_pos hn]
  · refine ⟨by omega, ?_⟩
    unfold Lib.itoa
    rw [if_neg hn]
theorem len_size (s : ByteArray) : s.data.toList.length = s.size := by simp
theorem tail_data (s : ByteArray) (c : UInt8) (r : List UInt8) (h : s.data.toList = c :: r) : (s.extract 1 s.size).data.toList = r := by
  rw [Lib.extract_data]
  have := len_size s
  rw [h] at this ⊢
  simp at this
  simp only [List.drop_succ_cons, List.drop_zero]
  exact List.take_of_length_le (by omega)
/-- the last case: a number that is not below 0 -/
theorem plain_one {s : ByteArray} (hno : (s.toList == [110, 111, 110, 101]) = false) (hnt : ∀ t : ByteArray, s.data.toList ≠ 34 :: (t.data.toList ++ [34])) (hnm : ∀ r, s.data.toList = 45 :: r → r = []) : ∀ k' n' t', Pl.TellsV s k' n' t' → k' = 1 ∧ n' = Pl.numL s.data.toList ∧ t' = ⟨#[]⟩ := by
  intro k' n' t' ht
  rcases Pl.tells_form ht with ⟨_, _, _, e⟩ | ⟨h1, h2, ⟨a, b⟩, e⟩ | ⟨_, _, e⟩
  · rw [Lib.toList_data, e] at hno
    simp at hno
  · have hm : ∀ r, Lib.itoa n' ≠ 45 :: r := by
      intro r hr
      obtain ⟨_, h4⟩ := itoa_minus hr
      have h5 := hnm r (e.trans hr)
      obtain ⟨c, q, h6, _⟩ := Pl.dec_head n'.natAbs
      rw [← h4, h5] at h6
      cases h6
    obtain ⟨h0, h3⟩ := itoa_plus hm
    rw [h3] at e
    refine ⟨h1, ?_, h2⟩
    rw [e, Pl.numL_dec _ (by omega)]
    omega
  · exact absurd e (hnt t')

end Go.Proofs.YtamkogkcdmgjoaaDoor

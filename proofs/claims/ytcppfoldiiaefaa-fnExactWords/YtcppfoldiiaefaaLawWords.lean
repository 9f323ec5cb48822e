/- The law on Words, walked. -/
import Derived.Test.YtcppfoldiiaefaaLists
namespace Go.Proofs.Ytcppfoldiiaefaa
open Go.RowKit
set_option linter.unusedVariables false

theorem ownsRow_low {w w1 : World} {base B : Nat} {e : TypeId} {size : Nat} {v : Value} {n : Nat} {xs : List Value} (h : w.ownsRow base e size v n xs) (hb : Below B w w1) (hv : ∀ k, v.ownBlock = some k → k < B) : w1.ownsRow base e size v n xs := by
  refine ⟨h.1, ?_⟩
  rcases h.2 with hn | ⟨g, cap, cur, rfl, hg, hgg, rest⟩
  · exact .inl hn
  · exact .inr ⟨g, cap, cur, rfl, hg, (hb.block g (hv g rfl)).trans hgg, rest⟩

set_option maxHeartbeats 1600000 in
theorem lawWords_any (s : ByteArray) (hs : s.size ≤ maxLen) (w : World) :
    Calls Try.prog 5 #[.string s] w fun e w' => e = .returned (.bool true) ∧ Below w.heap.size w w' := by
  by_cases hbig : 1048576 < s.size
  · go_enter Try.func5, Try.ntmps5
    go_wp2
    go_ret
    exact ⟨rfl, Below.refl _ _⟩
  · have hw1 := hide (specWords_any s (by omega))
    have hw2 := hide (implWords_any s (by omega))
    have hLl : (Pl.wordsL s.data.toList).length ≤ 2097152 := by
      have h1 := (Pl.tk_len s.data.toList).1
      have h2 : s.data.toList.length = s.size := by simp
      unfold Pl.wordsL
      split
      · omega
      · simp
    generalize Pl.wordsL s.data.toList = L at hw1 hw2 hLl
    generalize (Pl.tk s.data.toList).2 = ok at hw1 hw2
    go_enter Try.func5, Try.ntmps5
    go_wp2_with fail
    refine (hw1.out _).mono ?_
    rintro e w1 ⟨v0, rfl, r0, hB1⟩
    obtain ⟨a0, c0, rfl⟩ := ownsRow_form r0
    have R0 := hide r0
    have l0 := hide r0.lt
    clear r0
    go_wp2_with fail
    refine (hw2.out _).mono ?_
    rintro e w2 ⟨v1, rfl, r1, hB2⟩
    obtain ⟨a1, c1, rfl⟩ := ownsRow_form r1
    have R1 := hide r1
    clear r1
    go_wp2_with fail
    refine (eqStringS_same L _ _ _ _ hLl _ R1.out (ownsRow_later R0.out hB2)).mono ?_
    rintro e w3 ⟨rfl, hB3⟩
    go_wp2_with fail
    refine (markStringS_any w1.heap.size L.length _ _ hLl _ (ownsRow_later R1.out hB3)).mono ?_
    rintro e w4 ⟨rfl, r4, hB4⟩
    have R4 := hide r4
    clear r4
    go_wp2_with fail
    refine (heldStringS_any w1.heap.size L.length _ hLl _ R4.out).mono ?_
    rintro e w5 ⟨rfl, hB5⟩
    go_wp2_with fail
    refine (hw2.out _).mono ?_
    rintro e w6 ⟨v2, rfl, r6, hB6⟩
    obtain ⟨a2, c2, rfl⟩ := ownsRow_form r6
    have R6 := hide r6
    clear r6
    have s2 := hB2.size
    have s3 := hB3.size
    have R04 : Hid (w4.ownsRow w.heap.size 9 1 (.slice a0 L.length c0) L.length (L.map sv)) := ownsRow_low (ownsRow_later (ownsRow_later R0.out hB2) hB3) hB4 (fun k hk => by have := (l0.out k hk).2; omega)
    go_wp2_with fail
    refine (eqStringS_same L _ _ _ _ hLl _ R6.out (ownsRow_later (ownsRow_later R04.out hB5) hB6)).mono ?_
    rintro e w7 ⟨rfl, hB7⟩
    go_wp2_with fail
    refine (heldStringS_any w1.heap.size L.length _ hLl _ (ownsRow_later (ownsRow_later (ownsRow_later R4.out hB5) hB6) hB7)).mono ?_
    rintro e w8 ⟨rfl, hB8⟩
    go_wp2
    go_ret
    refine ⟨rfl, ?_⟩
    have s1 := hB1.size
    have s4 := hB4.size
    have s5 := hB5.size
    have s6 := hB6.size
    have s7 := hB7.size
    exact ((((((hB1.trans (hB2.mono s1)).trans (hB3.mono (by omega))).trans (hB4.mono (by omega))).trans (hB5.mono (by omega))).trans (hB6.mono (by omega))).trans (hB7.mono (by omega))).trans (hB8.mono (by omega))
end Go.Proofs.Ytcppfoldiiaefaa

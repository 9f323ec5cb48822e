/- Names of an expression, as the program has it. -/
import Derived.Test.YtckdpdlkjgjadaaPlNm
import Derived.Test.YtckdpdlkjgjadaaTxAt
import Derived.Test.YtckdpdlkjgjadaaCln
import Derived.Test.YtckdpdlkjgjadaaOk2f
namespace Go.Proofs.Ytckdpdlkjgjadaa
open Go.RowKit
set_option linter.unusedVariables false

def NamIP (k : Fo) : Prop := ∀ (nd : Nd) (v : Value) (w : World), (nd.k = 2 → k.len = 0 ∧ nd.nm.size ≤ 10) → Pl.Vl k → (Pl.namesN nd k).length ≤ 1048576 → RowAt 0 w k v →
  Calls Try.prog 34 #[ndV nd v] w fun e w' => ∃ v', e = .returned v' ∧ w'.ownsRow w.heap.size 9 1 v' (Pl.namesN nd k).length ((Pl.namesN nd k).map sv) ∧ Below w.heap.size w w'

set_option maxHeartbeats 1600000 in
theorem exprNames_of (k : Fo) (hkl : k.len ≤ 1048576) (ih : ∀ i nd k', k.get i = some (nd, k') → NamIP k') : NamIP k := by
  intro nd v w h2 hvl hb hr
  obtain ⟨nk, vk, vn, vt, nm⟩ := nd
  obtain ⟨ad, cap, rfl, hc, hm, hx⟩ := hr
  unfold maxLen at hm
  have HX := hide hx
  have IH := hide ih
  have HVL := hide hvl
  clear hx ih hvl
  simp only at h2
  by_cases n2 : nk = 2
  · subst n2
    obtain ⟨hk0, hn10⟩ := h2 rfl
    have hcl := hide (clone_any nm (by omega))
    go_enter Try.func34, Try.ntmps34
    go_wp2_with fail
    refine (hcl.out _).mono ?_
    rintro e w1 ⟨rfl, hB1⟩
    clear hcl
    have HB : Hid (Below w.heap.size w w1) := ((Below.refl _ _).alloc (Nat.le_refl _) _).trans (hB1.mono (by simp))
    have hsz : w.heap.size ≤ w1.heap.size := HB.out.size
    have HN : Hid (Pl.namesN ⟨2, vk, vn, vt, nm⟩ k = [nm.data.toList]) := by
      show _ = _
      have : k = .nil := by cases k <;> simp [Fo.len] at hk0 ⊢
      subst this
      simp [Pl.namesN, Pl.ownNm, Pl.namesF]
    clear hB1
    go_wp2
    go_ret
    refine ⟨_, rfl, ?_, HB.out.alloc HB.out.size _⟩
    rw [HN.out]
    exact own_single w1 _ _ hsz
  · have k2 : (nk == 2) = false := by simp [n2]
    clear n2 h2
    go_enter Try.func34, Try.ntmps34
    have HN : Hid (Pl.namesN ⟨nk, vk, vn, vt, nm⟩ k = Pl.namesF k) := by
      show _ = _
      have h0 := beq_eq_false_iff_ne.1 k2
      simp [Pl.namesN, Pl.ownNm, h0]
    rw [HN.out] at hb
    go_wp2_with fail
    go_loopw [3, 16] (fun lv iv wr => ∃ i : Nat, i ≤ k.len ∧ iv = .int .i64 i ∧ Hid (wr.ownsRow w.heap.size 9 1 lv (Pl.namesTo k i).length ((Pl.namesTo k i).map sv)) ∧ Hid (Below w.heap.size w wr)) (fun _ iv _ => k.len - (intOf iv).toNat)
    case atStart => exact ⟨0, by omega, rfl, hide (by rw [Pl.namesTo_zero]; exact ⟨rfl, .inl ⟨rfl, rfl⟩⟩), (Below.refl _ _).alloc (Nat.le_refl _) _⟩
    case round =>
      obtain ⟨i, hi, rfl, HO, hB⟩ := hrel
      by_cases hlt : i < k.len
      · obtain ⟨g, off, rfl, _, hg, hfo⟩ := HX.out (by omega)
        obtain ⟨nd, k', hget⟩ := k.get_some i hlt
        obtain ⟨v, hnd⟩ := hfo.get hget
        obtain ⟨d0, d1, d2, d3, d4, d5, hrow⟩ := hnd.later hB.out hg
        have hpart := Pl.names_part hget
        obtain ⟨x1, x2⟩ := HVL.out.get hget
        have hq : Hid (∀ W, Below wr.heap.size wr W → Calls Try.prog 34 #[ndV nd v] W fun e w' => ∃ v', e = .returned v' ∧ w'.ownsRow W.heap.size 9 1 v' (Pl.namesN nd k').length ((Pl.namesN nd k').map sv) ∧ Below W.heap.size W w') := fun W hW => IH.out i nd k' hget nd v W x1 x2 (by omega) (hrow.later hW)
        have HS := hide (Pl.namesTo_succ k i nd k' hget)
        clear hfo hnd hget x1 x2
        obtain ⟨ad', cap', rfl, _, _, _⟩ := hrow
        have hii : (i : Int) < (k.len : Int) := by omega
        generalize k'.len = kl at *
        obtain ⟨al, cl, rfl⟩ := ownsRow_form HO.out
        go_wp2_with fail
        refine (hq.out _ (by first | exact Below.refl _ _ | exact (Below.refl _ _).alloc (Nat.le_refl _) _)).mono ?_
        rintro e w4 ⟨v4, rfl, hr4, hB4⟩
        have hB4' : Hid (Below wr.heap.size wr w4) := by first | exact hB4 | exact ((Below.refl _ _).alloc (Nat.le_refl _) _).trans (hB4.mono (by simp))
        have HT4 := hide (texts_of_row hr4)
        have HO4 := hide (ownsRow_later HO.out hB4'.out)
        have hsz4 : Hid (w.heap.size ≤ w4.heap.size) := by
          show _ ≤ _
          have := hB.out.size; have := hB4'.out.size; omega
        have HB4 : Hid (Below w.heap.size w w4) := hB.out.trans (hB4'.out.mono hB.out.size)
        obtain ⟨a4, c4, rfl⟩ := ownsRow_form hr4
        clear hq d0 d1 d2 d3 d4 d5 hB4 hr4 HO hB4'
        go_wp2_with (at_builtin; refine wpList_app rfl _ _ rfl rfl w.heap.size (Pl.namesTo k i) (Pl.namesN nd k') _ _ rfl rfl HO4.out HT4.out (by omega) hsz4.out ?_)
        intro v5 w5 h5 hg5
        rw [← List.length_append, ← List.map_append, ← HS.out] at h5
        have H5 := hide h5
        have HB5 : Hid (Below w.heap.size w w5) := HB4.out.grown hg5 hsz4.out (fun j hj => (HO4.out.lt j hj).1)
        obtain ⟨a5, c5, rfl⟩ := ownsRow_form h5
        clear h5 hg5 HO4 HB4 HT4
        go_wp2
        go_roundw
        case rel => exact ⟨i + 1, by omega, by go_num, H5, HB5⟩
        case measure => simp [intOf]; omega
      · have hie : i = k.len := by omega
        obtain ⟨al, cl, rfl⟩ := ownsRow_form HO.out
        go_wp2
        go_ret
        refine ⟨_, rfl, ?_, hB.out⟩
        have e1 : Pl.namesTo k i = Pl.namesF k := by rw [hie, Pl.namesTo_all]
        rw [HN.out, ← e1]
        exact HO.out
theorem exprNames_fuel : ∀ (n : Nat) (F : Fo), F.nodes ≤ n → F.len ≤ 1048576 → F.Sm → NamIP F
  | 0, F, h, hl, hs => exprNames_of F hl fun i nd k hk => by have := F.get_nodes i nd k hk; omega
  | n + 1, F, h, hl, hs => exprNames_of F hl fun i nd k hk => exprNames_fuel n k (by have := F.get_nodes i nd k hk; omega) (hs.get hk).1 (hs.get hk).2
theorem exprNames_any (F : Fo) (hl : F.len ≤ 1048576) (hs : F.Sm) : NamIP F := exprNames_fuel F.nodes F (Nat.le_refl _) hl hs
end Go.Proofs.Ytckdpdlkjgjadaa

/- What is asked, made out of an expression, at every depth. -/
import Derived.Test.YtiffgomkhoalpaaGreatDoorEvI8
import Derived.Test.YtiffgomkhoalpaaGreatDoorEvI9
namespace Go.Proofs.YtiffgomkhoalpaaGreatDoor
open Go.RowKit
set_option linter.unusedVariables false
set_option linter.unusedSimpArgs false
theorem nm_le10 {s : ByteArray} (h : Pl.nameB s = true) : s.size ≤ 10 := by
  simp only [Pl.nameB, Bool.and_eq_true, decide_eq_true_eq] at h
  exact h.2.2.1
theorem asks_eq {w : World} {f : Value} {g g' : Pl.Look → Option Va} (h : ∀ L, g L = g' L) (ha : Asks w f g) : Asks w f g' := by
  have : g = g' := funext h
  rw [← this]
  exact ha
theorem exprMake_step (d : Nat) (ih : 2 ≤ d → MkP (d - 1)) : MkP d := by
  intro nd k v w hok hr
  have hd1 := (ok_parts hok).1
  have hvb := (ok_parts hok).2.2.1
  have hnb := (ok_parts hok).2.2.2.1
  have hkf := (ok_parts hok).2.2.2.2
  have hpart : ∀ i na ka, k.get i = some (na, ka) → Pl.okN na ka (d - 1) = true ∧ MPart na ka w := by
    intro i na ka hg
    have hok' := Pl.okF_get hkf hg
    have hd2 : 2 ≤ d := by have := (ok_parts hok').1; omega
    exact ⟨hok', fun va W hB hra => ih hd2 na ka va W hok' hra⟩
  obtain ⟨nk, vk, vn, vt, nm⟩ := nd
  have fin : ∀ g : Pl.Look → Option Va, (∀ L, g L = Pl.ev L ⟨nk, vk, vn, vt, nm⟩ k) → (Calls Tryz.prog 58 #[ndV ⟨nk, vk, vn, vt, nm⟩ v] w fun e w' => ∃ f, e = .returned f ∧ Asks w' f g ∧ Below w.heap.size w w') →
      Calls Tryz.prog 58 #[ndV ⟨nk, vk, vn, vt, nm⟩ v] w fun e w' => ∃ f, e = .returned f ∧ Asks w' f (fun L => Pl.ev L ⟨nk, vk, vn, vt, nm⟩ k) ∧ Below w.heap.size w w' :=
    fun g hg hc => hc.mono fun e w' ⟨f, he, ha, hb⟩ => ⟨f, he, asks_eq hg ha, hb⟩
  rcases ok_kind hok with ⟨h, _⟩ | ⟨h, hz, e1, e2, _⟩ | ⟨h, hz, e1, e2⟩ | ⟨h3, h9, hz, e1, e2⟩
  · simp only at h
    subst h
    refine fin _ (fun L => (Pl.ev_val rfl).symm) (mk_val vk vn vt nm ?_ v w)
    simpa [Pl.valB, Pl.okA] using hvb
  · simp only at h e1 e2
    subst h e1 e2
    refine fin _ (fun L => (Pl.ev_var rfl).symm) (mk_var vt nm (nm_le10 ?_) v w)
    simpa [Pl.nmB] using hnb
  · simp only at h e1 e2
    subst h e1 e2
    obtain ⟨na, ka, ga⟩ := k.get_some 0 (by omega)
    obtain ⟨oa, hp⟩ := hpart 0 na ka ga
    exact fin _ (fun L => (Pl.ev_not rfl ga).symm) (mk_not vt nm k v w hr na ka ga hp (good_ev oa))
  · simp only at h3 h9 e1 e2
    subst e1 e2
    obtain ⟨na, ka, ga⟩ := k.get_some 0 (by omega)
    obtain ⟨nb, kb, gb⟩ := k.get_some 1 (by omega)
    obtain ⟨oa, hp⟩ := hpart 0 na ka ga
    obtain ⟨ob, hq⟩ := hpart 1 nb kb gb
    have he : ∀ L, Pl.opA nk (Pl.ev L na ka) (Pl.ev L nb kb) = Pl.ev L ⟨nk, 0, 0, vt, nm⟩ k := fun L => (Pl.ev_op (nd := ⟨nk, 0, 0, vt, nm⟩) (show ¬ nk = 1 by omega) (show ¬ nk = 2 by omega) ga gb).symm
    by_cases h8 : nk = 8
    · subst h8
      exact fin _ he (mk_and vt nm k v w hr na ka ga hp (good_ev oa) nb kb gb hq (good_ev ob))
    · by_cases h9' : nk = 9
      · subst h9'
        exact fin _ he (mk_or vt nm k v w hr na ka ga hp (good_ev oa) nb kb gb hq (good_ev ob))
      · exact fin _ he (mk_both nk (by omega) vt nm k v w hr na ka ga hp (good_ev oa) nb kb gb hq (good_ev ob))
theorem exprMake_any : ∀ (d : Nat), MkP d
  | 0 => exprMake_step 0 (fun h => by omega)
  | d + 1 => exprMake_step (d + 1) (fun h => exprMake_any d)
end Go.Proofs.YtiffgomkhoalpaaGreatDoor

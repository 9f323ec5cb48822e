/- What an expression is, as the specification has it: at every depth; names and values that are ok. -/
import Derived.Test.YtiffgomkhoalpaaGreatDoorEvS8
import Derived.Test.YtiffgomkhoalpaaGreatDoorSzV
namespace Go.Proofs.YtiffgomkhoalpaaGreatDoor
open Go.RowKit
set_option linter.unusedVariables false
set_option linter.unusedSimpArgs false
theorem ok_parts {nd : Nd} {k : Fo} {d : Nat} (h : Pl.okN nd k d = true) : 1 ≤ d ∧ (k.len : Int) = Pl.arity nd.k ∧ Pl.valB nd = true ∧ Pl.nmB nd = true ∧ Pl.okF k (d - 1) = true := by
  simp only [Pl.okN, Bool.and_eq_true, decide_eq_true_eq, beq_iff_eq] at h
  exact ⟨h.1.1, h.1.2.1, h.1.2.2.1, h.1.2.2.2, h.2⟩
theorem ok_kind {nd : Nd} {k : Fo} {d : Nat} (h : Pl.okN nd k d = true) : (nd.k = 1 ∧ k.len = 0) ∨ (nd.k = 2 ∧ k.len = 0 ∧ nd.vk = 0 ∧ nd.vn = 0 ∧ nd.vt = ⟨#[]⟩) ∨ (nd.k = 10 ∧ k.len = 1 ∧ nd.vk = 0 ∧ nd.vn = 0) ∨ (3 ≤ nd.k ∧ nd.k ≤ 9 ∧ k.len = 2 ∧ nd.vk = 0 ∧ nd.vn = 0) := by
  obtain ⟨_, ha, hv, _, _⟩ := ok_parts h
  have hz : ¬ nd.k = 1 → nd.vk = 0 ∧ nd.vn = 0 ∧ nd.vt = ⟨#[]⟩ := by
    intro hn
    simp only [Pl.valB, hn, if_false, Bool.and_eq_true, beq_iff_eq] at hv
    refine ⟨hv.1.1, hv.1.2, ?_⟩
    have h1 : nd.vt.toList = [] := by simpa using hv.2
    rw [ByteArray.toList_eq] at h1
    have h2 : nd.vt.data = #[] := by simpa using h1
    cases hq : nd.vt
    rw [hq] at h2
    simp at h2
    rw [h2]
  by_cases h1 : nd.k = 1
  · refine .inl ⟨h1, ?_⟩
    rw [h1] at ha
    simp [Pl.arity] at ha
    omega
  · by_cases h2 : nd.k = 2
    · refine .inr (.inl ⟨h2, ?_, hz h1⟩)
      rw [h2] at ha
      simp [Pl.arity] at ha
      omega
    · by_cases h10 : nd.k = 10
      · refine .inr (.inr (.inl ⟨h10, ?_, (hz h1).1, (hz h1).2.1⟩))
        rw [h10] at ha
        simp [Pl.arity] at ha
        omega
      · by_cases h39 : 3 ≤ nd.k ∧ nd.k ≤ 9
        · refine .inr (.inr (.inr ⟨h39.1, h39.2, ?_, (hz h1).1, (hz h1).2.1⟩))
          simp [Pl.arity, h1, h2, h10, h39] at ha
          omega
        · simp only [Pl.arity, h1, h2, h10, h39, if_false] at ha
          omega
def EvP (d : Nat) : Prop := ∀ (nd : Nd) (k : Fo) (v : Value) (l : List Pl.Pr) (vl : Value) (w : World), Pl.okN nd k d = true → Pl.varsB l = true → RowAt 0 w k v → PrRow w l vl → Calls Tryz.prog 30 #[ndV nd v, vl] w (EvPost (Pl.ev (Pl.lookP l) nd k) w)
theorem l2Eval_step (d : Nat) (ih : 2 ≤ d → EvP (d - 1)) : EvP d := by
  intro nd k v l vl w hok hv hr hl
  have hd1 := (ok_parts hok).1
  have hkf := (ok_parts hok).2.2.2.2
  have hvl : ∃ a n c, vl = .slice a n c := by obtain ⟨ad, cap, rfl, _⟩ := hl; exact ⟨_, _, _, rfl⟩
  have hlo := Pl.look_ok hv
  have hpart : ∀ i na ka, k.get i = some (na, ka) → Pl.okN na ka (d - 1) = true ∧ Part na ka vl w (Pl.ev (Pl.lookP l) na ka) := by
    intro i na ka hg
    have hok' := Pl.okF_get hkf hg
    have hd2 : 2 ≤ d := by have := (ok_parts hok').1; omega
    exact ⟨hok', fun va W hB hra => ih hd2 na ka va l vl W hok' hv hra (hl.later hB)⟩
  obtain ⟨nk, vk, vn, vt, nm⟩ := nd
  rcases ok_kind hok with ⟨h, _⟩ | ⟨h, hz, e1, e2, _⟩ | ⟨h, hz, e1, e2⟩ | ⟨h3, h9, hz, e1, e2⟩
  · simp only at h
    subst h
    rw [Pl.ev_val rfl]
    exact evS_val vk vn vt nm v vl w
  · simp only at h e1 e2
    subst h e1 e2
    rw [Pl.ev_var rfl]
    exact evS_var nm vt l v vl w hl
  · simp only at h e1 e2
    subst h e1 e2
    obtain ⟨na, ka, ga⟩ := k.get_some 0 (by omega)
    rw [Pl.ev_not rfl ga]
    obtain ⟨_, hp⟩ := hpart 0 na ka ga
    cases he : Pl.ev (Pl.lookP l) na ka with
    | none =>
      rw [he] at hp
      exact evS_none 10 (by omega) (by omega) vt nm k v vl w hr na ka ga hp hvl
    | some a =>
      rw [he] at hp
      have := evS_not vt nm k v vl w hr na ka ga a hp hvl
      simpa [Pl.opA] using this
  · simp only at h3 h9 e1 e2
    subst e1 e2
    obtain ⟨na, ka, ga⟩ := k.get_some 0 (by omega)
    obtain ⟨nb, kb, gb⟩ := k.get_some 1 (by omega)
    rw [Pl.ev_op (show ¬ nk = 1 by omega) (show ¬ nk = 2 by omega) ga gb]
    obtain ⟨oa, hp⟩ := hpart 0 na ka ga
    obtain ⟨ob, hq⟩ := hpart 1 nb kb gb
    simp only
    cases he : Pl.ev (Pl.lookP l) na ka with
    | none =>
      rw [he] at hp
      exact evS_none nk (by omega) (by omega) vt nm k v vl w hr na ka ga hp hvl
    | some a =>
      rw [he] at hp
      have hoa := Pl.ev_ok hlo oa he
      by_cases h8 : nk = 8
      · subst h8
        cases hc : Pl.countsA a
        · have := evS_and0 vt nm k v vl w hr na ka ga a hp hvl hc
          simpa [Pl.opA, hc] using this
        · cases hf : Pl.ev (Pl.lookP l) nb kb with
          | none =>
            rw [hf] at hq
            have := evS_and_no vt nm k v vl w hr na ka ga a hp nb kb gb hq hvl hc
            simpa [Pl.opA, hc] using this
          | some b =>
            rw [hf] at hq
            have := evS_and2 vt nm k v vl w hr na ka ga a hp nb kb gb b hq hvl hc
            simpa [Pl.opA, hc] using this
      · by_cases h9' : nk = 9
        · subst h9'
          cases hc : Pl.countsA a
          · cases hf : Pl.ev (Pl.lookP l) nb kb with
            | none =>
              rw [hf] at hq
              have := evS_or_no vt nm k v vl w hr na ka ga a hp nb kb gb hq hvl hc
              simpa [Pl.opA, hc] using this
            | some b =>
              rw [hf] at hq
              have := evS_or2 vt nm k v vl w hr na ka ga a hp nb kb gb b hq hvl hc
              simpa [Pl.opA, hc] using this
          · have := evS_or1 vt nm k v vl w hr na ka ga a hp hvl hc
            simpa [Pl.opA, hc] using this
        · have hk : 3 ≤ nk ∧ nk ≤ 7 := by omega
          have h10 : ¬ nk = 10 := by omega
          cases hf : Pl.ev (Pl.lookP l) nb kb with
          | none =>
            rw [hf] at hq
            have := evS_two_no nk hk vt nm k v vl w hr na ka ga a hp nb kb gb hq hvl
            simpa [Pl.opA, h8, h9', h10] using this
          | some b =>
            rw [hf] at hq
            have := evS_two_two nk hk vt nm k v vl w hr na ka ga a hp nb kb gb b hq hvl hoa (Pl.ev_ok hlo ob hf) _ rfl
            simpa [Pl.opA, h8, h9', h10] using this
theorem l2Eval_any : ∀ (d : Nat), EvP d
  | 0 => l2Eval_step 0 (fun h => by omega)
  | d + 1 => l2Eval_step (d + 1) (fun h => l2Eval_any d)
end Go.Proofs.YtiffgomkhoalpaaGreatDoor

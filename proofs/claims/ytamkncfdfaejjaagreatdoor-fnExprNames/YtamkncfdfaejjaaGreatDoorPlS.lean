/- Plain facts on texts put in order, each once. -/
import Derived.Lib.SlicesCompact
namespace Go.Proofs.YtamkncfdfaejjaaGreatDoor
set_option linter.unusedVariables false
namespace Pl
/-- a text put among others, ascending, once -/
def ins (s : List UInt8) : List (List UInt8) → List (List UInt8)
  | [] => [s]
  | x :: l => if x < s then x :: ins s l else if x = s then x :: l else s :: x :: l
def Asc (L : List (List UInt8)) : Prop := L.Pairwise (· < ·)
theorem lt_trans' {a b c : List UInt8} (h1 : a < b) (h2 : b < c) : a < c := List.lt_trans h1 h2
theorem lt_irr (a : List UInt8) : ¬ a < a := List.lt_irrefl a
theorem lt_of_not {a b : List UInt8} (h1 : ¬ a < b) (h2 : ¬ a = b) : b < a := by
  have h3 : b ≤ a := List.not_lt.1 h1
  rcases List.le_iff_lt_or_eq.1 h3 with h | h
  · exact h
  · exact absurd h.symm h2
theorem mem_ins (s y : List UInt8) : ∀ L, y ∈ ins s L ↔ y = s ∨ y ∈ L
  | [] => by simp [ins]
  | x :: l => by
    unfold ins
    split
    · simp only [List.mem_cons, mem_ins s y l]
      constructor
      · rintro (h | h | h)
        · exact .inr (.inl h)
        · exact .inl h
        · exact .inr (.inr h)
      · rintro (h | h | h)
        · exact .inr (.inl h)
        · exact .inl h
        · exact .inr (.inr h)
    · split
      · next h => subst h; simp
      · simp
theorem asc_ins (s : List UInt8) : ∀ L, Asc L → Asc (ins s L)
  | [], _ => by simp [ins, Asc]
  | x :: l, h => by
    unfold Asc at h
    rw [List.pairwise_cons] at h
    unfold ins
    split
    · next hx =>
      unfold Asc
      rw [List.pairwise_cons]
      refine ⟨fun y hy => ?_, asc_ins s l h.2⟩
      rcases (mem_ins s y l).1 hy with rfl | hy
      · exact hx
      · exact h.1 y hy
    · split
      · unfold Asc; rw [List.pairwise_cons]; exact h
      · next h1 h2 =>
        have hlt : s < x := lt_of_not h1 h2
        unfold Asc
        rw [List.pairwise_cons, List.pairwise_cons]
        refine ⟨fun y hy => ?_, h⟩
        rcases List.mem_cons.1 hy with rfl | hy
        · exact hlt
        · exact lt_trans' hlt (h.1 y hy)
theorem asc_unique : ∀ (A B : List (List UInt8)), Asc A → Asc B → (∀ y, y ∈ A ↔ y ∈ B) → A = B
  | [], [], _, _, _ => rfl
  | [], b :: B, _, _, h => absurd ((h b).2 (List.mem_cons_self ..)) (by simp)
  | a :: A, [], _, _, h => absurd ((h a).1 (List.mem_cons_self ..)) (by simp)
  | a :: A, b :: B, hA, hB, h => by
    unfold Asc at hA hB
    rw [List.pairwise_cons] at hA hB
    have hab : a = b := by
      have h1 := (h a).1 (List.mem_cons_self ..)
      have h2 := (h b).2 (List.mem_cons_self ..)
      rcases List.mem_cons.1 h1 with h1 | h1
      · exact h1
      · rcases List.mem_cons.1 h2 with h2 | h2
        · exact h2.symm
        · exact absurd (lt_trans' (hB.1 a h1) (hA.1 b h2)) (lt_irr _)
    subst hab
    rw [asc_unique A B hA.2 hB.2 fun y => ?_]
    constructor
    · intro hy
      rcases List.mem_cons.1 ((h y).1 (List.mem_cons_of_mem _ hy)) with e | e
      · subst e; exact absurd (hA.1 _ hy) (lt_irr _)
      · exact e
    · intro hy
      rcases List.mem_cons.1 ((h y).2 (List.mem_cons_of_mem _ hy)) with e | e
      · subst e; exact absurd (hB.1 _ hy) (lt_irr _)
      · exact e
/-- all of X put in, the first first -/
def insAll : List (List UInt8) → List (List UInt8) → List (List UInt8)
  | [], L => L
  | x :: X, L => insAll X (ins x L)
theorem insAll_append : ∀ X Y L, insAll (X ++ Y) L = insAll Y (insAll X L)
  | [], Y, L => rfl
  | x :: X, Y, L => insAll_append X Y (ins x L)
theorem mem_insAll (y : List UInt8) : ∀ X L, y ∈ insAll X L ↔ y ∈ X ∨ y ∈ L
  | [], L => by simp [insAll]
  | x :: X, L => by
    simp only [insAll, mem_insAll y X, mem_ins, List.mem_cons]
    constructor
    · rintro (h | h | h)
      · exact .inl (.inr h)
      · exact .inl (.inl h)
      · exact .inr h
    · rintro ((h | h) | h)
      · exact .inr (.inl h)
      · exact .inl h
      · exact .inr (.inr h)
theorem asc_insAll : ∀ X L, Asc L → Asc (insAll X L)
  | [], L, h => h
  | x :: X, L, h => asc_insAll X _ (asc_ins x L h)
theorem asc_nil : Asc [] := List.Pairwise.nil

/-- compact: of a list one behind the other -/
theorem keeps_cons0 {α : Type} [Inhabited α] [DecidableEq α] (zs : List α) : ∀ j, j < zs.length → (Lib.keeps zs.toArray j = true ∨ (0 < j ∧ zs[j]? = zs[j - 1]?)) := by
  intro j hj
  by_cases h0 : j = 0
  · subst h0; left; simp [Lib.keeps]
  · by_cases h : zs.toArray[j]! = zs.toArray[j - 1]!
    · right
      refine ⟨by omega, ?_⟩
      rw [getElem!_pos zs.toArray j (by simpa using hj), getElem!_pos zs.toArray (j - 1) (by simp; omega)] at h
      simp only [List.getElem_toArray] at h
      rw [List.getElem?_eq_getElem hj, List.getElem?_eq_getElem (by omega), h]
    · left; exact Lib.keeps_pos h
theorem mem_compact_upTo {α : Type} [Inhabited α] [DecidableEq α] (zs : List α) : ∀ m, m ≤ zs.length → ∀ x, x ∈ Lib.compactUpTo zs.toArray m ↔ x ∈ zs.take m
  | 0, _, x => by simp [Lib.compactUpTo]
  | m + 1, hm, x => by
    rw [Lib.compactUpTo_succ, List.mem_append, mem_compact_upTo zs m (by omega) x]
    have hg : zs.toArray[m]! = zs[m]'(by omega) := by rw [getElem!_pos zs.toArray m (by simp; omega)]; simp
    rw [List.take_add_one, List.getElem?_eq_getElem (by omega), List.mem_append, hg]
    rcases keeps_cons0 zs m (by omega) with h | ⟨h0, he⟩
    · rw [h]; simp
    · rw [List.getElem?_eq_getElem (by omega), List.getElem?_eq_getElem (by omega), Option.some.injEq] at he
      have hin : zs[m]'(by omega) ∈ zs.take m := by
        rw [he, List.mem_take_iff_getElem]
        exact ⟨m - 1, by omega, rfl⟩
      constructor
      · rintro (h | h)
        · exact .inl h
        · split at h
          · exact .inr (by simpa using h)
          · simp at h
      · rintro (h | h)
        · exact .inl h
        · simp only [Option.toList_some, List.mem_singleton] at h
          subst h; exact .inl hin
theorem asc_compact_upTo (zs : List (List UInt8)) (hs : zs.Pairwise (fun a b => a ≤ b)) : ∀ m, m ≤ zs.length → Asc (Lib.compactUpTo zs.toArray m)
  | 0, _ => by simp [Lib.compactUpTo, Asc]
  | m + 1, hm => by
    rw [Lib.compactUpTo_succ]
    unfold Asc
    rw [List.pairwise_append]
    refine ⟨asc_compact_upTo zs hs m (by omega), by split <;> simp, fun a ha b hb => ?_⟩
    have hg : zs.toArray[m]! = zs[m]'(by omega) := by rw [getElem!_pos zs.toArray m (by simp; omega)]; simp
    split at hb
    · next hk =>
      simp only [List.mem_singleton] at hb
      subst hb
      rw [hg]
      have ha' := (mem_compact_upTo zs m (by omega) a).1 ha
      rw [List.mem_take_iff_getElem] at ha'
      obtain ⟨i, hi, rfl⟩ := ha'
      have hm0 : m ≠ 0 := by omega
      have hne : zs.toArray[m]! ≠ zs.toArray[m - 1]! := by
        simp only [Lib.keeps, decide_eq_true_eq] at hk
        rcases hk with hk | hk
        · exact absurd hk hm0
        · exact hk
      rw [hg, getElem!_pos zs.toArray (m - 1) (by simp; omega)] at hne
      simp only [List.getElem_toArray] at hne
      have hp := List.pairwise_iff_getElem.1 hs
      have h1 : zs[m - 1]'(by omega) ≤ zs[m]'(by omega) := hp (m - 1) m (by omega) (by omega) (by omega)
      have h1' : zs[m - 1]'(by omega) < zs[m]'(by omega) := by
        rcases List.le_iff_lt_or_eq.1 h1 with h | h
        · exact h
        · exact absurd h.symm hne
      by_cases hi1 : i = m - 1
      · subst hi1; exact h1'
      · have h2 : zs[i]'(by omega) ≤ zs[m - 1]'(by omega) := hp i (m - 1) (by omega) (by omega) (by omega)
        exact List.lt_of_le_of_lt h2 h1'
    · simp at hb
/-- sorted, and each once: as put in one by one -/
theorem compact_sort (X : List (List UInt8)) : Lib.compact (X.mergeSort fun x y => decide (x ≤ y)) = insAll X [] := by
  have hsort : (X.mergeSort fun x y => decide (x ≤ y)).Pairwise (fun a b => a ≤ b) := by
    have h := List.pairwise_mergeSort (le := fun (x y : List UInt8) => decide (x ≤ y)) (fun a b c h1 h2 => by simp only [decide_eq_true_eq] at *; exact List.le_trans h1 h2) (fun a b => by simp only [Bool.or_eq_true, decide_eq_true_eq]; exact List.le_total a b) X
    exact h.imp fun h => by simpa using h
  apply asc_unique
  · exact asc_compact_upTo _ hsort _ (Nat.le_refl _)
  · exact asc_insAll X [] asc_nil
  · intro y
    unfold Lib.compact
    rw [mem_compact_upTo _ _ (Nat.le_refl _), List.take_length, mem_insAll]
    simp
theorem ins_there (s : List UInt8) : ∀ (L : List (List UInt8)) (k : Nat), (∀ j, j < k → L[j]?.getD [] < s) → k < L.length → L[k]?.getD [] = s → ins s L = L
  | [], k, _, h, _ => by simp at h
  | x :: l, 0, _, _, he => by
    simp at he
    subst he
    unfold ins
    rw [if_neg (lt_irr _), if_pos rfl]
  | x :: l, k + 1, hlt, hk, he => by
    have h0 := hlt 0 (by omega)
    simp at h0
    unfold ins
    rw [if_pos h0, ins_there s l k (fun j hj => by simpa using hlt (j + 1) (by omega)) (by simpa using hk) (by simpa using he)]
theorem ins_new (s : List UInt8) : ∀ (L : List (List UInt8)) (k : Nat), k ≤ L.length → (∀ j, j < k → L[j]?.getD [] < s) → (k < L.length → ¬ L[k]?.getD [] < s ∧ L[k]?.getD [] ≠ s) → ins s L = L.take k ++ s :: L.drop k
  | [], k, hk, _, _ => by simp [ins]
  | x :: l, 0, _, _, h => by
    obtain ⟨h1, h2⟩ := h (by simp)
    simp at h1 h2
    unfold ins
    rw [if_neg (List.not_lt.2 h1), if_neg h2]
    rfl
  | x :: l, k + 1, hk, hlt, h => by
    have h0 := hlt 0 (by omega)
    simp at h0
    unfold ins
    rw [if_pos h0, ins_new s l k (by simpa using hk) (fun j hj => by simpa using hlt (j + 1) (by omega)) (fun hl => by simpa using h (by simpa using hl))]
    rfl
end Pl
end Go.Proofs.YtamkncfdfaejjaaGreatDoor

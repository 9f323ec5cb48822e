/- A range over an iterator that keeps what is left of its text in a box of its own: a round for each word, and at an empty word the body returns. -/
import Derived.Test.YteadmjhmahjmdaaIter
namespace Go.Proofs.Yteadmjhmahjmdaa
open Go.RowKit Go.Shelf
set_option linter.unusedVariables false

/-- what the iterator owes, whatever holds between two rounds -/
def IterOwes (n : Nat) (P : Program) (gf : Nat) (lb : Array Value) (Bt : Nat) (N : Nat) (ok : Bool) (xs : List (List UInt8)) (w : World) : Prop :=
  ∀ (l : Nat) (J : List (List UInt8) → World → Prop) (Jx : World → Prop) (W : World),
    (∀ pre W v, J pre W → J pre (W.setCell ⟨Bt, 0, none⟩ v)) → (∀ pre W k, J pre W → J pre (World.drewN W k)) →
    (∀ pre x W, x ≠ [] → pre.length < N → x.length ≤ N → J pre W → YieldAt Fence.wide (n - 1) P l #[sv x] W fun e W' => e = .returned (.bool true) ∧ J (pre ++ [x]) W' ∧ W'.heap[Bt]? = W.heap[Bt]?) →
    (∀ pre W, J pre W → YieldAt Fence.wide (n - 1) P l #[sv []] W fun e W' => e = .returned (.bool false) ∧ Jx W') →
    W.heap[Bt]? = w.heap[Bt]? → J [] W →
    CallsIn Fence.wide n P gf (#[.func (.yield l) #[] #[]] ++ lb) W fun e W' => (∃ v, e = .returned v) ∧ ((ok = true ∧ J xs W') ∨ (ok = false ∧ Jx W'))

theorem set_other {W : World} {Bt k : Nat} (h : k ≠ Bt) (v : Value) : (W.setCell ⟨Bt, 0, none⟩ v).heap[k]? = W.heap[k]? := Below.heap_setCell W ⟨Bt, 0, none⟩ v k h

theorem rf_words {n : Nat} {P : Program} {g : Operand} {ps : Array Tmp} {assign body : Code} {Q : Exit → Act → World → Prop} {a : Act} {w : World}
    {gf : Nat} {lb : Array Value} (hg : a.eval g = .func (.func gf) #[] lb) (eg : ∀ args w, (callFunc gf args).run P w = .ok (.enter gf args) w) (hps : ps.size = 1)
    {Bt N : Nat} {ok : Bool} {xs : List (List UInt8)} (hBt : Bt < w.heap.size) (hit : IterOwes (n - 1) P gf lb Bt N ok xs w)
    (I : List (List UInt8) → World → Prop) (Ix : World → Prop)
    (iAlloc : ∀ pre W o, I pre W → I pre (W.alloc o))
    (iPut : ∀ pre W k o o', w.heap.size ≤ k → W.heap[k]? = some o' → o'.isCells = false → I pre W → I pre (W.putObj k o))
    (xPut : ∀ W k o o', w.heap.size ≤ k → W.heap[k]? = some o' → o'.isCells = false → Ix W → Ix (W.putObj k o))
    (iSet : ∀ pre W v, I pre W → I pre (W.setCell ⟨Bt, 0, none⟩ v)) (iDrew : ∀ pre W k, I pre W → I pre (World.drewN W k)) (h0 : I [] w)
    (a₁ : List UInt8 → Act)
    (hassign : ∀ (l : Nat) (x : List UInt8) (W : World) (K : Act → World → Prop), K (a₁ x) W →
      assign.wpIn (Fence.wide.inRound l) (n - 1 - 1) P (Exit.then K (fun _ _ _ => False)) { tmps := (ps.zip #[sv x]).foldl (fun t (p, v) => t.setIfInBounds p v) a.tmps, defers := [] } W)
    (hbody1 : ∀ (l : Nat) (pre : List (List UInt8)) (x : List UInt8) (W : World), x ≠ [] → pre.length < N → x.length ≤ N → I pre W →
      body.wpIn (Fence.wide.inRound l) (n - 1 - 1) P (fun e _ W' => e = .normal ∧ KeepsFrom w.heap.size W W' ∧ W'.heap[Bt]? = W.heap[Bt]? ∧ I (pre ++ [x]) W') (a₁ x) W)
    (hbody0 : ∀ (l : Nat) (pre : List (List UInt8)) (W : World), I pre W →
      body.wpIn (Fence.wide.inRound l) (n - 1 - 1) P (fun e _ W' => e = .ret ∧ KeepsFrom w.heap.size W W' ∧ Ix W') (a₁ []) W)
    (hdone : ∀ (D : Nat) (W : World), w.heap.size ≤ D → ok = true → I xs W → W.heap[D]? = some (.deferred (some [])) → Q .normal { a with defers := { target := .collected D, args := #[] } :: a.defers } W)
    (hstop : ∀ (D : Nat) (W : World), w.heap.size ≤ D → ok = false → Ix W → W.heap[D]? = some (.deferred (some [])) → Code.ret.wpIn Fence.wide n P Q { a with defers := { target := .collected D, args := #[] } :: a.defers } W) :
    (Code.rangeFunc g ps assign body).wpIn Fence.wide n P Q a w := by
  refine wpIn_rangeFunc ?_
  intro fn hfn
  obtain ⟨rc, hrc⟩ : ∃ rc : LoopState → Option Code → Loop, rc = fun st pe => { state := st, pending := pe, fn, tmps := a.tmps, params := ps, assign, body, defers := w.heap.size } := ⟨_, rfl⟩
  have rcS : ∀ st pe, (rc st pe).state = st := by intro st pe; rw [hrc]
  have rcN : ∀ st pe st' pe', { rc st pe with state := st', pending := pe' } = rc st' pe' := by intro st pe st' pe'; rw [hrc]
  have rcB : ∀ st pe st', { rc st pe with state := st' } = rc st' pe := by intro st pe st'; rw [hrc]
  obtain ⟨W1, hW1⟩ : ∃ W1, W1 = (w.alloc (.deferred (some []))).alloc (.loop (rc .ready none)) := ⟨_, rfl⟩
  have hL1 : W1.heap[w.heap.size + 1]? = some (.loop (rc .ready none)) := by
    rw [hW1]; have := World.alloc_heap_new (w.alloc (.deferred (some []))) (.loop (rc .ready none)); rwa [World.size_alloc] at this
  have hD1 : W1.heap[w.heap.size]? = some (.deferred (some [])) := by
    rw [hW1]; exact (Below.heap_alloc _ _ _ (by simp)).trans (World.alloc_heap_new w _)
  have hT1 : W1.heap[Bt]? = w.heap[Bt]? := by
    rw [hW1]; exact (Below.heap_alloc _ _ _ (by simp; omega)).trans (Below.heap_alloc _ _ _ hBt)
  have hI1 : I [] W1 := by rw [hW1]; exact iAlloc _ _ _ (iAlloc _ _ _ h0)
  refine ⟨w.heap.size + 1, [{ target := .collected w.heap.size, args := #[] }], W1, { target := .fn (.func gf) lb, args := #[.func (.yield (w.heap.size + 1)) #[] #[]] }, W1, gf,
    #[.func (.yield (w.heap.size + 1)) #[] #[]] ++ lb, W1, ?_, ?_, fun _ _ => trivial, ?_, fun h => (by cases h), ?_⟩
  · rw [hW1, hrc]; exact run_enterLoop_outer _ _ _ _ _
  · simp only [resolve, hg]
    simp [go_sem]
  · simp [invoke, go_sem, eg]
  · -- between two rounds: what the caller says, and the two blocks of book-keeping
    have hround : ∀ (x : List UInt8) (W : World) (R : Ending → World → Prop), W.heap[w.heap.size + 1]? = some (.loop (rc .ready none)) →
        body.wpIn (Fence.wide.inRound (w.heap.size + 1)) (n - 1 - 1) P (roundPost P (w.heap.size + 1) R) (a₁ x) (W.putObj (w.heap.size + 1) (.loop (rc .busy none))) →
        YieldAt Fence.wide (n - 1 - 1) P (w.heap.size + 1) #[sv x] W R := by
      intro x W R hl hb
      have hy := run_yield (P := P) (args := #[sv x]) hl (by rw [hrc]; exact hps.symm)
      rw [hrc] at hy
      refine ⟨fn, _, assign, body, hy, roundIn_of_wpIn hfn (hassign _ x W _ ?_)⟩
      exact ⟨_, run_beginRound hl (rcS _ _), by rw [rcB]; exact hb⟩
    refine (hit (w.heap.size + 1)
      (fun pre W => I pre W ∧ W.heap[w.heap.size + 1]? = some (.loop (rc .ready none)) ∧ W.heap[w.heap.size]? = some (.deferred (some [])))
      (fun W => Ix W ∧ W.heap[w.heap.size + 1]? = some (.loop (rc .done (some .ret))) ∧ W.heap[w.heap.size]? = some (.deferred (some [])))
      W1 ?_ ?_ ?_ ?_ hT1 ⟨hI1, hL1, hD1⟩).mono ?_
    · rintro pre W v ⟨hi, hl, hd⟩
      exact ⟨iSet _ _ _ hi, (set_other (by omega) v).trans hl, (set_other (by omega) v).trans hd⟩
    · rintro pre W k ⟨hi, hl, hd⟩
      exact ⟨iDrew _ _ _ hi, hl, hd⟩
    · rintro pre x W hx hpl hxl ⟨hi, hl, hd⟩
      have hlt : w.heap.size + 1 < W.heap.size := (Array.getElem?_eq_some_iff.1 hl).1
      refine hround x W _ hl ?_
      refine Go.wpIn_mono (hbody1 _ pre x _ hx hpl hxl (iPut _ _ _ _ _ (by omega) hl rfl hi)) ?_
      rintro e a3 W3 ⟨rfl, hk, hbt, hi3⟩
      have hl3 := hk.same (w.heap.size + 1) _ (by omega) (World.putObj_heap_same hlt) rfl
      have hd3 := hk.same w.heap.size _ (Nat.le_refl _) ((World.putObj_heap_other (by omega)).trans hd) rfl
      refine ⟨_, _, run_endRound none hl3, rfl, ⟨iPut _ _ _ _ _ (by omega) hl3 rfl hi3, ?_, ?_⟩, ?_⟩
      · rw [World.putObj_heap_same (Array.getElem?_eq_some_iff.1 hl3).1, rcN]; rfl
      · exact (World.putObj_heap_other (by omega)).trans hd3
      · rw [World.putObj_heap_other (by omega), hbt, World.putObj_heap_other (by omega)]
    · rintro pre W ⟨hi, hl, hd⟩
      have hlt : w.heap.size + 1 < W.heap.size := (Array.getElem?_eq_some_iff.1 hl).1
      refine hround [] W _ hl ?_
      refine Go.wpIn_mono (hbody0 _ pre _ (iPut _ _ _ _ _ (by omega) hl rfl hi)) ?_
      rintro e a3 W3 ⟨rfl, hk, hi3⟩
      have hl3 := hk.same (w.heap.size + 1) _ (by omega) (World.putObj_heap_same hlt) rfl
      have hd3 := hk.same w.heap.size _ (Nat.le_refl _) ((World.putObj_heap_other (by omega)).trans hd) rfl
      refine ⟨_, _, run_endRound (some .ret) hl3, rfl, xPut _ _ _ _ (by omega) hl3 rfl hi3, ?_, ?_⟩
      · rw [World.putObj_heap_same (Array.getElem?_eq_some_iff.1 hl3).1, rcN]; rfl
      · exact (World.putObj_heap_other (by omega)).trans hd3
    · rintro e W2 ⟨⟨v, rfl⟩, (⟨hok, hi, hl, hd⟩ | ⟨hok, hi, hl, hd⟩)⟩
      · refine ⟨none, _, (run_endLoop hl (by rw [rcS]; simp)).trans (by rw [hrc]), ?_⟩
        exact hdone _ _ (Nat.le_refl _) hok (iPut _ _ _ _ _ (by omega) hl rfl hi) ((World.putObj_heap_other (by omega)).trans hd)
      · refine ⟨some .ret, _, (run_endLoop hl (by rw [rcS]; simp)).trans (by rw [hrc]), ?_⟩
        exact hstop _ _ (Nat.le_refl _) hok (xPut _ _ _ _ (by omega) hl rfl hi) ((World.putObj_heap_other (by omega)).trans hd)

/-- the words of a text, told one by one, owe just this -/
theorem iter_owes (n : Nat) (hn : 2 ≤ n) (Bt : Nat) (s : ByteArray) (hs : s.size ≤ 2097152) (w : World) (hB : boxT w Bt s) :
    IterOwes n Try.prog 23 #[.pointer (some ⟨Bt, 0, none⟩)] Bt s.size (Pl.tk s.data.toList).2 (Pl.tk s.data.toList).1 w :=
  fun l J Jx W hJ hJd hY1 hY0 hW h0 => iter_in n hn l Bt s hs J Jx hJ hJd hY1 hY0 W (hW.trans hB) h0
end Go.Proofs.Yteadmjhmahjmdaa

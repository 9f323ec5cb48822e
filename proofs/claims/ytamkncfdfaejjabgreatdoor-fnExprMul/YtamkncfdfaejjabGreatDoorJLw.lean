/- Joined: PlLw LwX1. -/
import Derived.Test.YtamkncfdfaejjabGreatDoorJEvS
import Derived.Test.YtamkncfdfaejjabGreatDoorJDx
import Derived.Test.YtamkncfdfaejjabGreatDoorJEvX
/- Plain: expressions around an expression, and what they are. -/
namespace Go.Proofs.YtamkncfdfaejjabGreatDoor
open Go.RowKit
set_option linter.unusedVariables false
set_option linter.unusedSimpArgs false
/-- a node that holds parts alone -/
abbrev opNd (kd : Int) : Nd := ⟨kd, 0, 0, ⟨#[]⟩, ⟨#[]⟩⟩
abbrev one1 (nd : Nd) (k : Fo) : Fo := .cons nd k .nil
abbrev two2 (nd : Nd) (k : Fo) (nd2 : Nd) (k2 : Fo) : Fo := .cons nd k (.cons nd2 k2 .nil)
namespace Pl
theorem ob_and {a b : Bool} : (a && b) = true ↔ a = true ∧ b = true := by cases a <;> cases b <;> simp
theorem op_shape (kd : Int) (h1 : ¬ kd = 1) (h2 : ¬ kd = 2) : (valB (opNd kd) && nmB (opNd kd)) = true := by
  unfold valB nmB
  rw [if_neg h1, if_neg h2]
  simp [emp_is]
theorem okN_one {nd : Nd} {k : Fo} {d : Nat} : okN (opNd 10) (one1 nd k) (d + 1) = okN nd k d := by
  have h := op_shape 10 (by decide) (by decide)
  unfold okN
  rw [h, show ((((one1 nd k).len : Nat) : Int) == arity (opNd 10).k) = true from rfl]
  simp only [okF, Bool.and_true, Bool.true_and, Nat.add_sub_cancel]
  rw [decide_eq_true (by omega : 1 ≤ d + 1), Bool.true_and]
theorem okN_two {kd : Int} (h3 : 3 ≤ kd) (h9 : kd ≤ 9) {nd nd2 : Nd} {k k2 : Fo} {d : Nat} : okN (opNd kd) (two2 nd k nd2 k2) (d + 1) = (okN nd k d && okN nd2 k2 d) := by
  have h := op_shape kd (by omega) (by omega)
  have ha : arity (opNd kd).k = 2 := by
    unfold arity
    rw [if_neg (by show ¬ kd = 1; omega), if_neg (by show ¬ kd = 2; omega), if_neg (by show ¬ kd = 10; omega), if_pos ⟨h3, h9⟩]
  unfold okN
  rw [h, ha, show ((((two2 nd k nd2 k2).len : Nat) : Int) == 2) = true from rfl]
  simp only [okF, Bool.and_true, Bool.true_and, Nat.add_sub_cancel]
  rw [decide_eq_true (by omega : 1 ≤ d + 1), Bool.true_and]
theorem okN_up {nd : Nd} {k : Fo} {d : Nat} (h : okN nd k d = true) : okN nd k (d + 1) = true := by
  have hF : ∀ (F : Fo) (d : Nat), okF F d = true → okF F (d + 1) = true := by
    intro F
    induction F with
    | nil => intro d _; rfl
    | cons nd k r ihk ihr =>
      intro d h
      simp only [okF, ob_and, decide_eq_true_eq] at h ⊢
      obtain ⟨⟨⟨h1, h2⟩, h3⟩, h4⟩ := h
      refine ⟨⟨⟨by omega, h2⟩, ?_⟩, ihr d h4⟩
      have := ihk (d - 1) h3
      rwa [show d - 1 + 1 = d + 1 - 1 by omega] at this
  simp only [okN, ob_and, decide_eq_true_eq] at h ⊢
  obtain ⟨⟨h1, h2⟩, h3⟩ := h
  refine ⟨⟨by omega, h2⟩, ?_⟩
  have := hF k (d - 1) h3
  rwa [show d - 1 + 1 = d + 1 - 1 by omega] at this
/-- what is known of an expression that is something -/
theorem evalO_some {l : List Pr} {nd : Nd} {k : Fo} {x : Va} (h : evalO l nd k = some x) : okN nd k 5 = true ∧ varsB l = true ∧ ev (lookP l) nd k = some x ∧ okA x = true := by
  unfold evalO at h
  split at h
  · next hb =>
    rw [ob_and] at hb
    exact ⟨hb.1, hb.2, h, ev_ok (look_ok hb.2) hb.1 h⟩
  · cases h
theorem evalO_if {l : List Pr} {nd : Nd} {k : Fo} (hv : varsB l = true) : evalO l nd k = if okN nd k 5 = true then ev (lookP l) nd k else none := by
  unfold evalO
  rw [hv, Bool.and_true]
theorem ev_one {look : Look} {nd : Nd} {k : Fo} : ev look (opNd 10) (one1 nd k) = opA 10 (ev look nd k) none := ev_not rfl rfl
theorem ev_two {look : Look} {kd : Int} (h3 : 3 ≤ kd) {nd nd2 : Nd} {k k2 : Fo} : ev look (opNd kd) (two2 nd k nd2 k2) = opA kd (ev look nd k) (ev look nd2 k2) :=
  ev_op (nd := opNd kd) (by show ¬ kd = 1; omega) (by show ¬ kd = 2; omega) rfl rfl
theorem counts_truth (b : Bool) : countsA (truthA b) = b := by
  cases b
  all_goals
    unfold countsA truthA
    simp only [emp_is]
    decide
/-- not, once and twice -/
theorem law_not {l : List Pr} {nd : Nd} {k : Fo} {x : Va} (h : evalO l nd k = some x) :
    (evalO l (opNd 10) (one1 nd k) = none ∧ evalO l (opNd 10) (one1 (opNd 10) (one1 nd k)) = none) ∨
    (evalO l (opNd 10) (one1 nd k) = some (truthA (!countsA x)) ∧ (evalO l (opNd 10) (one1 (opNd 10) (one1 nd k)) = none ∨ evalO l (opNd 10) (one1 (opNd 10) (one1 nd k)) = some (truthA (countsA x)))) := by
  obtain ⟨h1, h2, h3, h4⟩ := evalO_some h
  rw [evalO_if h2, evalO_if h2, okN_one, okN_one, ev_one, h3, show opA 10 (some x) none = some (truthA (!countsA x)) from rfl, ev_one, ev_one, h3, show opA 10 (some x) none = some (truthA (!countsA x)) from rfl, show opA 10 (some (truthA (!countsA x))) none = some (truthA (!countsA (truthA (!countsA x)))) from rfl, counts_truth, Bool.not_not]
  cases ha : okN nd k 4
  · left
    have hb : okN (opNd 10) (one1 nd k) 4 = false := by
      cases hc : okN (opNd 10) (one1 nd k) 4
      · rfl
      · rw [okN_one] at hc
        rw [okN_up hc] at ha
        cases ha
    rw [hb]
    exact ⟨rfl, rfl⟩
  · right
    refine ⟨rfl, ?_⟩
    cases okN (opNd 10) (one1 nd k) 4
    · exact .inl rfl
    · exact .inr rfl
theorem same_self (x : Va) : sameA x x = true := by unfold sameA; simp
/-- the same as itself, and not less -/
theorem law_same {l : List Pr} {nd : Nd} {k : Fo} {x : Va} (h : evalO l nd k = some x) :
    (okN (opNd 7) (two2 nd k nd k) 5 = false ∧ evalO l (opNd 7) (two2 nd k nd k) = none ∧ evalO l (opNd 6) (two2 nd k nd k) = none) ∨
    (okN (opNd 7) (two2 nd k nd k) 5 = true ∧ evalO l (opNd 7) (two2 nd k nd k) = some (truthA true) ∧ ((x.k = 1 ∧ evalO l (opNd 6) (two2 nd k nd k) = some (truthA false)) ∨ (¬ x.k = 1 ∧ evalO l (opNd 6) (two2 nd k nd k) = none))) := by
  obtain ⟨h1, h2, h3, h4⟩ := evalO_some h
  rw [evalO_if h2, evalO_if h2, okN_two (by decide) (by decide), okN_two (by decide) (by decide), ev_two (by decide), ev_two (by decide), h3]
  cases okN nd k 4
  · exact .inl ⟨rfl, rfl, rfl⟩
  · right
    have e7 : opA 7 (some x) (some x) = some (truthA true) := by simp [opA, twoA, same_self]
    have e6 : opA 6 (some x) (some x) = twoA 6 x x := by simp [opA]
    rw [e7, e6]
    refine ⟨rfl, rfl, ?_⟩
    by_cases hk : x.k = 1
    · left
      refine ⟨hk, ?_⟩
      simp [twoA, hk]
    · right
      refine ⟨hk, ?_⟩
      simp [twoA, hk]
theorem ev_gone {l : List Pr} {nm : ByteArray} (hn : ∀ p ∈ l, ¬ p.nm.data.toList = nm.data.toList) {vk vn : Int} {vt : ByteArray} : ev (lookP l) ⟨2, vk, vn, vt, nm⟩ .nil = none := by
  rw [ev_var rfl]
  unfold lookP prAt
  rw [List.find?_eq_none.2 (by intro p hp; simpa using hn p hp)]
  rfl
/-- the second part is asked only if it must be -/
theorem law_and {l : List Pr} {nd gn : Nd} {k : Fo} {x : Va} (h : evalO l nd k = some x) (hg : ev (lookP l) gn .nil = none) (hgo : okN gn .nil 4 = true) :
    (okN (opNd 8) (two2 nd k gn .nil) 5 = false ∧ evalO l (opNd 8) (two2 nd k gn .nil) = none ∧ evalO l (opNd 9) (two2 nd k gn .nil) = none) ∨
    (okN (opNd 8) (two2 nd k gn .nil) 5 = true ∧ ((countsA x = false ∧ evalO l (opNd 8) (two2 nd k gn .nil) = some (truthA false) ∧ evalO l (opNd 9) (two2 nd k gn .nil) = none) ∨ (countsA x = true ∧ evalO l (opNd 8) (two2 nd k gn .nil) = none ∧ evalO l (opNd 9) (two2 nd k gn .nil) = some (truthA true)))) := by
  obtain ⟨h1, h2, h3, h4⟩ := evalO_some h
  rw [evalO_if h2, evalO_if h2, okN_two (by decide) (by decide), okN_two (by decide) (by decide), ev_two (by decide), ev_two (by decide), h3, hg, hgo, Bool.and_true]
  cases okN nd k 4
  · exact .inl ⟨rfl, rfl, rfl⟩
  · right
    refine ⟨rfl, ?_⟩
    cases hc : countsA x
    · left
      refine ⟨rfl, ?_, ?_⟩
      · simp [opA, hc]
      · simp [opA, hc]
    · right
      refine ⟨rfl, ?_, ?_⟩
      · simp [opA, hc]
      · simp [opA, hc]
abbrev numNd (n : Int) : Nd := ⟨1, 1, n, ⟨#[]⟩, ⟨#[]⟩⟩
theorem ev_num {look : Look} (n : Int) : ev look (numNd n) .nil = some ⟨1, n, ⟨#[]⟩⟩ := ev_val rfl
theorem okN_num (n : Int) (h : -1000000000 ≤ n ∧ n ≤ 1000000000) (d : Nat) : okN (numNd n) .nil (d + 1) = true := by
  have h1 : valB (numNd n) = true := by
    unfold valB
    rw [if_pos rfl]
    unfold okB
    rw [if_neg (by show ¬ (1 : Int) = 0; decide), if_pos rfl, emp_is, decide_eq_true h.1, decide_eq_true h.2]
    rfl
  have h2 : nmB (numNd n) = true := by
    unfold nmB
    rw [if_neg (by show ¬ (1 : Int) = 2; decide)]
    exact emp_is
  unfold okN
  rw [h1, h2, show ((((Fo.nil).len : Nat) : Int) == arity (numNd n).k) = true from rfl, decide_eq_true (by omega : 1 ≤ d + 1)]
  rfl
theorem op_num {kd a b : Int} (h : kd = 3 ∨ kd = 4 ∨ kd = 5) : opA kd (some ⟨1, a, ⟨#[]⟩⟩) (some ⟨1, b, ⟨#[]⟩⟩) = numA (if kd = 3 then a + b else if kd = 4 then a - b else a * b) := by
  rcases h with rfl | rfl | rfl <;> simp [opA, twoA]
theorem num_is {n : Int} (h : -1000000000 ≤ n ∧ n ≤ 1000000000) : numA n = some ⟨1, n, ⟨#[]⟩⟩ := by
  unfold numA
  rw [decide_eq_true h.1, decide_eq_true h.2]
  rfl
theorem num_form {x : Va} (h : okA x = true) (hk : x.k = 1) : x = ⟨1, x.n, ⟨#[]⟩⟩ ∧ -1000000000 ≤ x.n ∧ x.n ≤ 1000000000 := by
  rcases okA_cases h with ⟨h0, _⟩ | ⟨_, h1, h2, h3⟩ | ⟨h0, _⟩
  · omega
  · refine ⟨?_, h1, h2⟩
    cases x
    simp only at hk h3
    rw [hk, h3]
  · omega
/-- one more, and one less again -/
theorem law_plus {l : List Pr} {nd : Nd} {k : Fo} {x : Va} (h : evalO l nd k = some x) (hk : x.k = 1) (hn : x.n < 1000000000) :
    evalO l (opNd 3) (two2 nd k (numNd 1) .nil) = (if okN (opNd 3) (two2 nd k (numNd 1) .nil) 5 = true then some ⟨1, x.n + 1, ⟨#[]⟩⟩ else none) ∧
    evalO l (opNd 4) (two2 (opNd 3) (two2 nd k (numNd 1) .nil) (numNd 1) .nil) = (if okN (opNd 4) (two2 (opNd 3) (two2 nd k (numNd 1) .nil) (numNd 1) .nil) 5 = true then some x else none) := by
  obtain ⟨h1, h2, h3, h4⟩ := evalO_some h
  obtain ⟨hx, hlo, hhi⟩ := num_form h4 hk
  rw [evalO_if h2, evalO_if h2]
  have ea : ev (lookP l) (opNd 3) (two2 nd k (numNd 1) .nil) = some ⟨1, x.n + 1, ⟨#[]⟩⟩ := by
    rw [ev_two (by decide), h3, ev_num, hx, op_num (.inl rfl), if_pos rfl, num_is ⟨by omega, by omega⟩]
  have eb : ev (lookP l) (opNd 4) (two2 (opNd 3) (two2 nd k (numNd 1) .nil) (numNd 1) .nil) = some x := by
    rw [ev_two (by decide), ea, ev_num, op_num (.inr (.inl rfl)), if_neg (by decide), if_pos rfl, Int.add_sub_cancel, num_is ⟨hlo, hhi⟩, ← hx]
  rw [ea, eb]
  exact ⟨rfl, rfl⟩
/-- once, and no times -/
theorem law_mul {l : List Pr} {nd : Nd} {k : Fo} {x : Va} (h : evalO l nd k = some x) (hk : x.k = 1) :
    evalO l (opNd 5) (two2 nd k (numNd 1) .nil) = (if okN (opNd 5) (two2 nd k (numNd 1) .nil) 5 = true then some x else none) ∧
    evalO l (opNd 5) (two2 (numNd 0) .nil nd k) = (if okN (opNd 5) (two2 nd k (numNd 1) .nil) 5 = true then some ⟨1, 0, ⟨#[]⟩⟩ else none) := by
  obtain ⟨h1, h2, h3, h4⟩ := evalO_some h
  obtain ⟨hx, hlo, hhi⟩ := num_form h4 hk
  rw [evalO_if h2, evalO_if h2]
  have ea : ev (lookP l) (opNd 5) (two2 nd k (numNd 1) .nil) = some x := by
    rw [ev_two (by decide), h3, ev_num, hx, op_num (.inr (.inr rfl)), if_neg (by decide), if_neg (by decide), Int.mul_one, num_is ⟨hlo, hhi⟩]
  have eb : ev (lookP l) (opNd 5) (two2 (numNd 0) .nil nd k) = some ⟨1, 0, ⟨#[]⟩⟩ := by
    rw [ev_two (by decide), h3, ev_num, hx, op_num (.inr (.inr rfl)), if_neg (by decide), if_neg (by decide), Int.zero_mul, num_is (by decide)]
  have eo : okN (opNd 5) (two2 (numNd 0) .nil nd k) 5 = okN (opNd 5) (two2 nd k (numNd 1) .nil) 5 := by
    rw [okN_two (by decide) (by decide), okN_two (by decide) (by decide), okN_num 0 (by decide) 3, okN_num 1 (by decide) 3, Bool.and_true, Bool.true_and]
  rw [ea, eb, eo]
  exact ⟨rfl, rfl⟩
end Pl
end Go.Proofs.YtamkncfdfaejjabGreatDoor

/- What the laws over drawn expressions share. -/
namespace Go.Proofs.YtamkncfdfaejjabGreatDoor
open Go.RowKit
set_option linter.unusedVariables false
set_option linter.unusedSimpArgs false
theorem Sh.max {s : ByteArray} (h : Sh s) : s.size ≤ maxLen := by unfold Sh at h; unfold maxLen; omega
theorem prd_wf {l : List Pl.Pr} (h : ∀ p ∈ l, PrD p) : ∀ p ∈ l, PrWf p := fun p hp => ⟨(h p hp).1.sh.max, (h p hp).2.max⟩
theorem implEv {nd : Nd} {k : Fo} {v : Value} {l : List Pl.Pr} {vl : Value} {w : World} (ht : NdTx nd k) (hp : ∀ p ∈ l, PrD p) (hr : RowAt 0 w k v) (hrl : PrRow w l vl) (hE : ErrT w) :
    Calls Tryz.prog 6 #[ndV nd v, vl] w (EvPost (Pl.evalO l nd k) w) :=
  implExprEval_any nd k v l (prd_wf hp) vl w ht.1.max ht.2.1.max ht.2.2.2.wf (by have := ht.2.2.1; omega) ht.2.2.2.sm hr hrl hE
theorem specEv {nd : Nd} {k : Fo} {v : Value} {l : List Pl.Pr} {vl : Value} {w : World} (ht : NdTx nd k) (hp : ∀ p ∈ l, PrD p) (hr : RowAt 0 w k v) (hrl : PrRow w l vl) :
    Calls Tryz.prog 7 #[ndV nd v, vl] w (EvPost (Pl.evalO l nd k) w) :=
  specExprEval_any nd k v l (prd_wf hp) vl w ht.1.max ht.2.1.max ht.2.2.2.wf (by have := ht.2.2.1; omega) ht.2.2.2.sm hr hrl
theorem implOkX {nd : Nd} {k : Fo} {v : Value} {w : World} (ht : NdTx nd k) (hr : RowAt 0 w k v) :
    Calls Tryz.prog 8 #[ndV nd v] w fun e w' => e = .returned (.bool (Pl.okN nd k 5)) ∧ Below w.heap.size w w' :=
  implExprOk_any nd k v w ht.1.max ht.2.1.max ht.2.2.2.wf (by have := ht.2.2.1; omega) ht.2.2.2.sm hr
theorem tx_one {nd : Nd} {k : Fo} (ht : NdTx nd k) (kd : Int) : NdTx (opNd kd) (one1 nd k) := ⟨sh_nil, sh_nil, by simp [Fo.len], ht.1, ht.2.1, ht.2.2.1, ht.2.2.2, trivial⟩
theorem tx_two {nd nd2 : Nd} {k k2 : Fo} (ht : NdTx nd k) (ht2 : NdTx nd2 k2) (kd : Int) : NdTx (opNd kd) (two2 nd k nd2 k2) := ⟨sh_nil, sh_nil, by simp [Fo.len], ht.1, ht.2.1, ht.2.2.1, ht.2.2.2, ht2.1, ht2.2.1, ht2.2.2.1, ht2.2.2.2, trivial⟩
theorem row_of_one {lo g : Nat} {w : World} {nd : Nd} {k : Fo} {v : Value} (hl : lo ≤ g) (hw : w.heap[g]? = some (.cells #[.int .i64 nd.k, .int .i64 nd.vk, .int .i64 nd.vn, .string nd.vt, .string nd.nm, v] 27 (0, 0))) (hr : RowAt lo w k v) :
    RowAt lo w (one1 nd k) (.slice (some ⟨g, 0, none⟩) 1 1) := by
  refine ⟨some ⟨g, 0, none⟩, 1, rfl, Nat.le_refl _, by unfold maxLen; omega, fun _ => ⟨g, 0, rfl, hl, (Array.getElem?_eq_some_iff.1 hw).1, ?_⟩⟩
  obtain ⟨c0, c1, c2, c3, c4, c5⟩ := cells6 hw
  exact FoAt.mk ⟨c0, c1, c2, c3, c4, c5, hr⟩ trivial
theorem row_of_two {lo g : Nat} {w : World} {nd nd2 : Nd} {k k2 : Fo} {v v2 : Value} (hl : lo ≤ g) (hw : w.heap[g]? = some (.cells #[.int .i64 nd.k, .int .i64 nd.vk, .int .i64 nd.vn, .string nd.vt, .string nd.nm, v, .int .i64 nd2.k, .int .i64 nd2.vk, .int .i64 nd2.vn, .string nd2.vt, .string nd2.nm, v2] 27 (0, 0))) (hr : RowAt lo w k v) (hr2 : RowAt lo w k2 v2) :
    RowAt lo w (two2 nd k nd2 k2) (.slice (some ⟨g, 0, none⟩) 2 2) := by
  refine ⟨some ⟨g, 0, none⟩, 2, rfl, Nat.le_refl _, by unfold maxLen; omega, fun _ => ⟨g, 0, rfl, hl, (Array.getElem?_eq_some_iff.1 hw).1, ?_⟩⟩
  have C : ∀ i, w.cell? ⟨g, i, none⟩ = _ := cell_of_block hw
  exact FoAt.mk ⟨C 0, C 1, C 2, C 3, C 4, C 5, hr⟩ (FoAt.mk ⟨C 6, C 7, C 8, C 9, C 10, C 11, hr2⟩ trivial)
/-- a block stays -/
theorem blk_on {b : Nat} {o : Obj} {W W1 : World} (h : W.heap[b]? = some o) (hB : Below W.heap.size W W1) : W1.heap[b]? = some o := (hB.block _ (Array.getElem?_eq_some_iff.1 h).1).trans h
theorem blk_lt {b : Nat} {o : Obj} {W : World} (h : W.heap[b]? = some o) : b < W.heap.size := (Array.getElem?_eq_some_iff.1 h).1
theorem on_alloc {n : Nat} {w X : World} (h : Below n w X) (hn : n ≤ w.heap.size) (o : Obj) : Below n w (X.alloc o) := h.alloc (Nat.le_trans hn h.size) o
theorem counts_of {x : Va} {a b : Bool} (h1 : (x.n == 0) = a) (h2 : x.t.toList.isEmpty = b) : Pl.countsA x = (!a || !b) := by unfold Pl.countsA; rw [h1, h2]
theorem alloc_top {w : World} {o : Obj} {n : Nat} (h : n = w.heap.size) : (w.alloc o).heap[n]? = some o := by subst h; exact heap_alloc_new w o
/-- a value in a box -/
def VBox (b : Nat) (x : Va) (W : World) : Prop := W.heap[b]? = some (.cells #[.int .i64 x.k, .int .i64 x.n, .string x.t] 24 (0, 0))
theorem VBox.later {b : Nat} {x : Va} {W W1 : World} (h : VBox b x W) (hB : Below W.heap.size W W1) : VBox b x W1 := blk_on h hB
theorem VBox.start (x : Va) (W : World) : VBox W.heap.size x (W.alloc (.cells #[.int .i64 x.k, .int .i64 x.n, .string x.t] 24)) := heap_alloc_new W _
theorem VBox.cells {b : Nat} {x : Va} {W : World} (h : VBox b x W) : b < W.heap.size ∧ W.cell? ⟨b, 0, none⟩ = some (.int .i64 x.k) ∧ W.cell? ⟨b, 1, none⟩ = some (.int .i64 x.n) ∧ W.cell? ⟨b, 2, none⟩ = some (.string x.t) :=
  ⟨blk_lt h, cell_of_block h 0, cell_of_block h 1, cell_of_block h 2⟩
/-- an expression in a box -/
def XBox (b : Nat) (nd : Nd) (v : Value) (W : World) : Prop := W.heap[b]? = some (.cells #[.int .i64 nd.k, .int .i64 nd.vk, .int .i64 nd.vn, .string nd.vt, .string nd.nm, v] 27 (0, 0))
theorem XBox.later {b : Nat} {nd : Nd} {v : Value} {W W1 : World} (h : XBox b nd v W) (hB : Below W.heap.size W W1) : XBox b nd v W1 := blk_on h hB
theorem XBox.start (nd : Nd) (v : Value) (W : World) : XBox W.heap.size nd v (W.alloc (.cells #[.int .i64 nd.k, .int .i64 nd.vk, .int .i64 nd.vn, .string nd.vt, .string nd.nm, v] 27)) := heap_alloc_new W _
/-- where the law stands: what was drawn, and how memory came to be so -/
structure EvSt (W : World) (b : Nat) (nd : Nd) (k : Fo) (v : Value) (l : List Pl.Pr) (vl : Value) (X : World) : Prop where
  box : XBox b nd v X
  row : RowAt 0 X k v
  prs : PrRow X l vl
  err : ErrT X
  low : Below W.heap.size W X
theorem EvSt.later {W : World} {b : Nat} {nd : Nd} {k : Fo} {v : Value} {l : List Pl.Pr} {vl : Value} {X X1 : World} (h : EvSt W b nd k v l vl X) (hB : Below X.heap.size X X1) : EvSt W b nd k v l vl X1 :=
  ⟨h.box.later hB, h.row.later hB, h.prs.later hB, h.err.later hB, h.low.trans (hB.mono h.low.size)⟩
theorem one_up (X : World) (o : Obj) : Below X.heap.size X (X.alloc o) := (Below.refl _ _).alloc (Nat.le_refl _) _
theorem EvSt.start {W W1 : World} {nd : Nd} {k : Fo} {v : Value} {l : List Pl.Pr} {vl : Value} (hr : RowAt 0 W1 k v) (hp : PrRow W1 l vl) (he : ErrT W1) (hb : Below W.heap.size W W1) : EvSt W W1.heap.size nd k v l vl (W1.alloc (.cells #[.int .i64 nd.k, .int .i64 nd.vk, .int .i64 nd.vn, .string nd.vt, .string nd.nm, v] 27)) :=
  ⟨XBox.start nd v W1, hr.later (one_up _ _), hp.later (one_up _ _), he.later (one_up _ _), hb.trans ((one_up _ _).mono hb.size)⟩
/-- what an expression is, told as the walk reads it -/
def Tells (f : FuncId) (nd : Nd) (v : Value) (vl : Value) (x : Va) (b : Bool) (X : World) : Prop :=
  Calls Tryz.prog f #[ndV nd v, vl] X fun e w' => e = .returned (.tuple #[.agg #[.int .i64 x.k, .int .i64 x.n, .string x.t], .bool b]) ∧ Below X.heap.size X w'
theorem impl_none {nd : Nd} {k : Fo} {v : Value} {l : List Pl.Pr} {vl : Value} {X : World} (ht : NdTx nd k) (hp : ∀ p ∈ l, PrD p) (hr : RowAt 0 X k v) (hrl : PrRow X l vl) (hE : ErrT X) (hq : Pl.evalO l nd k = none) : Tells 6 nd v vl ⟨0, 0, ⟨#[]⟩⟩ false X := by
  have h := implEv ht hp hr hrl hE
  rw [hq] at h
  exact h
theorem impl_some {nd : Nd} {k : Fo} {v : Value} {l : List Pl.Pr} {vl : Value} {X : World} (ht : NdTx nd k) (hp : ∀ p ∈ l, PrD p) (hr : RowAt 0 X k v) (hrl : PrRow X l vl) (hE : ErrT X) {x : Va} (hq : Pl.evalO l nd k = some x) : Tells 6 nd v vl x true X := by
  have h := implEv ht hp hr hrl hE
  rw [hq] at h
  exact h
theorem spec_none {nd : Nd} {k : Fo} {v : Value} {l : List Pl.Pr} {vl : Value} {X : World} (ht : NdTx nd k) (hp : ∀ p ∈ l, PrD p) (hr : RowAt 0 X k v) (hrl : PrRow X l vl) (hq : Pl.evalO l nd k = none) : Tells 7 nd v vl ⟨0, 0, ⟨#[]⟩⟩ false X := by
  have h := specEv ht hp hr hrl
  rw [hq] at h
  exact h
theorem spec_some {nd : Nd} {k : Fo} {v : Value} {l : List Pl.Pr} {vl : Value} {X : World} (ht : NdTx nd k) (hp : ∀ p ∈ l, PrD p) (hr : RowAt 0 X k v) (hrl : PrRow X l vl) {x : Va} (hq : Pl.evalO l nd k = some x) : Tells 7 nd v vl x true X := by
  have h := specEv ht hp hr hrl
  rw [hq] at h
  exact h
end Go.Proofs.YtamkncfdfaejjabGreatDoor

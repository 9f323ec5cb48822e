/- Joined: PlOrd PlFew Texts BkT LawNames RowFnExprNames. -/
import Derived.Test.YtamkncfdfaejjaaGreatDoorJEvS
import Derived.Test.YtamkncfdfaejjaaGreatDoorJLw
import Derived.Test.YtamkncfdfaejjaaGreatDoorJNam
import Derived.Test.YtamkncfdfaejjaaGreatDoorTxAt
import Derived.Deep.QuietTactic
import Derived.BigQuiet
import Derived.Test.YtamkncfdfaejjaaGreatDoorRows
import Derived.Test.YtamkncfdfaejjaaGreatDoorTie
import Derived.Test.YtamkncfdfaejjaaGreatDoorCards
import Derived.Test.YtamkncfdfaejjaaGreatDoorJCode
import Derived.ChangeOld
import Derived.WalkKit
import Derived.ProofKit
import Derived.OpenShut
import Derived.ShutString
import Derived.Below
import Derived.Lib.SmallJoins
import Derived.LaidMore
import Derived.LaidHandle
import Derived.Stop.Joined
import Derived.SevenTiedAt
/- Plain: names in another order are the same. -/
namespace Go.Proofs.YtamkncfdfaejjaaGreatDoor
open Go.RowKit
set_option linter.unusedVariables false
namespace Pl
def nameL (p : Pr) : List UInt8 := p.nm.data.toList
/-- all are ok and no name is there twice, told without places -/
theorem varsB_iff (l : List Pr) : varsB l = true ↔ (∀ p ∈ l, (nameB p.nm && okA p.v) = true) ∧ l.Pairwise (fun a b => ¬ nameL a = nameL b) := by
  constructor
  · intro h
    constructor
    · intro p hp
      obtain ⟨i, hi⟩ := List.mem_iff_getElem?.1 hp
      obtain ⟨h1, h2, _⟩ := varsB_get h hi
      rw [h1, h2]
      rfl
    · rw [List.pairwise_iff_getElem]
      intro i j hi hj hij e
      obtain ⟨_, _, h3⟩ := varsB_get h (i := j) (p := l[j]) (List.getElem?_eq_getElem hj)
      rw [List.any_eq_false] at h3
      refine h3 l[i] ?_ ?_
      · rw [List.mem_take_iff_getElem]
        exact ⟨i, by omega, rfl⟩
      · have e2 : l[i].nm.data.toList = l[j].nm.data.toList := e
        simp [e2]
  · rintro ⟨h1, h2⟩
    refine varsB_all fun i p hp => ?_
    have hi := (List.getElem?_eq_some_iff.1 hp).1
    unfold varB
    rw [h1 p (List.mem_of_getElem? hp), Bool.true_and, Bool.not_eq_true']
    rw [List.any_eq_false]
    intro q hq he
    rw [List.mem_take_iff_getElem] at hq
    obtain ⟨j, hj, rfl⟩ := hq
    rw [List.pairwise_iff_getElem] at h2
    have hp' : l[i] = p := (List.getElem?_eq_some_iff.1 hp).2
    refine h2 j i (by omega) hi (by omega) ?_
    rw [hp']
    exact by simpa [nameL] using he
theorem prAt_of {l : List Pr} (h : l.Pairwise (fun a b => ¬ nameL a = nameL b)) {p : Pr} (hp : p ∈ l) : prAt l (nameL p) = some p := by
  induction l with
  | nil => cases hp
  | cons q l ih =>
    rw [List.pairwise_cons] at h
    unfold prAt
    rw [List.find?_cons]
    rcases List.mem_cons.1 hp with rfl | hp'
    · simp [nameL]
    · have hne : ¬ q.nm.data.toList = nameL p := h.1 p hp'
      have : (q.nm.data.toList == nameL p) = false := by simpa using hne
      rw [this]
      exact ih h.2 hp'
theorem prAt_none {l : List Pr} {x : List UInt8} (h : ∀ p ∈ l, ¬ nameL p = x) : prAt l x = none := by
  unfold prAt
  rw [List.find?_eq_none]
  intro p hp
  have := h p hp
  simpa [nameL] using this
/-- rows of the same pairs tell the same, if no name is there twice -/
theorem look_same {l m : List Pr} (hm : ∀ p, p ∈ l ↔ p ∈ m) (h : l.Pairwise (fun a b => ¬ nameL a = nameL b)) (h2 : m.Pairwise (fun a b => ¬ nameL a = nameL b)) : lookP l = lookP m := by
  funext x
  unfold lookP
  by_cases hx : ∃ p ∈ l, nameL p = x
  · obtain ⟨p, hp, rfl⟩ := hx
    rw [prAt_of h hp, prAt_of h2 ((hm p).1 hp)]
  · rw [prAt_none (fun p hp e => hx ⟨p, hp, e⟩), prAt_none (fun p hp e => hx ⟨p, (hm p).2 hp, e⟩)]
theorem varsB_rev (l : List Pr) : varsB l.reverse = varsB l := by
  rw [Bool.eq_iff_iff, varsB_iff, varsB_iff, List.pairwise_reverse]
  constructor
  · rintro ⟨h1, h2⟩
    exact ⟨fun p hp => h1 p (by simpa using hp), h2.imp fun h e => h e.symm⟩
  · rintro ⟨h1, h2⟩
    exact ⟨fun p hp => h1 p (by simpa using hp), h2.imp fun h e => h e.symm⟩
theorem evalO_rev (l : List Pr) (nd : Nd) (k : Fo) : evalO l.reverse nd k = evalO l nd k := by
  unfold evalO
  rw [varsB_rev]
  cases hv : varsB l
  · rw [Bool.and_false]; rfl
  · have h1 := ((varsB_iff l).1 hv).2
    have h2 := ((varsB_iff l.reverse).1 (by rw [varsB_rev]; exact hv)).2
    rw [look_same (l := l.reverse) (m := l) (fun p => by simp) h2 h1]
end Pl
end Go.Proofs.YtamkncfdfaejjaaGreatDoor

/- Plain: an expression asks for no names but its own. -/
namespace Go.Proofs.YtamkncfdfaejjaaGreatDoor
open Go.RowKit
set_option linter.unusedVariables false
namespace Pl
theorem evs_congr {a b : Look} : ∀ (F : Fo), (∀ x ∈ namesF F, a x = b x) → evs a F = evs b F
  | .nil, _ => rfl
  | .cons nd k r, h => by
    have h1 : evs a k = evs b k := evs_congr k fun x hx => h x (by simp only [namesF, List.mem_append]; exact .inl (.inr hx))
    have h2 : evs a r = evs b r := evs_congr r fun x hx => h x (by simp only [namesF, List.mem_append]; exact .inr hx)
    show ev1 a nd (evs a k) :: evs a r = ev1 b nd (evs b k) :: evs b r
    rw [h1, h2]
    congr 1
    unfold ev1
    split
    · rfl
    · split
      · next hk => exact h _ (by simp only [namesF, List.mem_append, ownNm, if_pos hk, List.mem_singleton]; exact .inl (.inl trivial))
      · rfl
theorem ev_congr {a b : Look} {nd : Nd} {k : Fo} (h : ∀ x ∈ namesN nd k, a x = b x) : ev a nd k = ev b nd k := by
  have h1 : evs a k = evs b k := evs_congr k fun x hx => h x (by simp only [namesN, List.mem_append]; exact .inr hx)
  unfold ev
  rw [h1]
  unfold ev1
  split
  · rfl
  · split
    · next hk => exact h _ (by simp only [namesN, List.mem_append, ownNm, if_pos hk, List.mem_singleton]; exact .inl trivial)
    · rfl
/-- the pairs whose name is among these -/
def few (N : List (List UInt8)) (l : List Pr) : List Pr := l.filter (fun p => N.any (· == p.nm.data.toList))
theorem few_snoc (N : List (List UInt8)) (l : List Pr) (p : Pr) : few N (l ++ [p]) = if N.any (· == p.nm.data.toList) = true then few N l ++ [p] else few N l := by
  unfold few
  rw [List.filter_append, List.filter_cons]
  split <;> simp
theorem few_len (N : List (List UInt8)) (l : List Pr) : (few N l).length ≤ l.length := List.length_filter_le _ _
theorem look_few {N : List (List UInt8)} {l : List Pr} {x : List UInt8} (hx : x ∈ N) : lookP (few N l) x = lookP l x := by
  unfold lookP prAt few
  rw [List.find?_filter]
  congr 2
  funext p
  cases hp : (p.nm.data.toList == x)
  · simp
  · have : p.nm.data.toList = x := by simpa using hp
    have h2 : N.any (· == p.nm.data.toList) = true := by
      rw [List.any_eq_true]
      exact ⟨x, hx, by simp [this]⟩
    rw [h2]
    rfl
theorem evalO_few {l : List Pr} {nd : Nd} {k : Fo} {x : Va} (h : evalO l nd k = some x) : evalO (few (exprNames nd k) l) nd k = some x := by
  obtain ⟨h1, h2, h3, _⟩ := evalO_some h
  have hv : varsB (few (exprNames nd k) l) = true := by
    rw [varsB_iff] at h2 ⊢
    exact ⟨fun p hp => h2.1 p (List.mem_filter.1 (show p ∈ l.filter _ from hp)).1, h2.2.filter _⟩
  unfold evalO
  rw [h1, hv]
  show ev (lookP (few (exprNames nd k) l)) nd k = some x
  rw [← h3]
  refine ev_congr fun y hy => look_few ?_
  unfold exprNames
  rw [if_pos h1]
  exact (mem_insAll y _ _).2 (.inl hy)
theorem names_asc (nd : Nd) (k : Fo) : Asc (exprNames nd k) := by
  unfold exprNames
  split
  · exact asc_insAll _ _ List.Pairwise.nil
  · exact List.Pairwise.nil
end Pl
end Go.Proofs.YtamkncfdfaejjaaGreatDoor

/- Lists of texts, wherever they lie, held against each other. -/
namespace Go.Proofs.YtamkncfdfaejjaaGreatDoor
open Go.RowKit
set_option linter.unusedVariables false

set_option maxHeartbeats 800000 in
theorem bkTexts_same (L : List (List UInt8)) (va vb : Value) (hL : L.length ≤ 4194304) (w : World) (ha : TextsAt w va L) (hb : TextsAt w vb L) :
    Calls Tryz.prog 20 #[va, vb] w fun e w' => e = .returned (.bool true) ∧ Below w.heap.size w w' := by
  obtain ⟨aa, ca, rfl, _, _, hca, _⟩ := ha
  obtain ⟨ab, cb, rfl, _, _, hcb, _⟩ := hb
  by_cases hn : 0 < L.length
  · obtain ⟨ga, oa, rfl, hga, hca⟩ := hca hn
    obtain ⟨gb, ob, rfl, hgb, hcb⟩ := hcb hn
    have HCA := hide hca
    have HCB := hide hcb
    clear hca hcb
    generalize hN : L.length = N at *
    clear hN
    go_enter Tryz.func20, Tryz.ntmps20
    go_wp2
    go_loopw [5] (fun i wr => ∃ k : Nat, k ≤ N ∧ i = .int .i64 k ∧ Below w.heap.size w wr) (fun i _ => N - (intOf i).toNat)
    case atStart => exact ⟨0, by omega, rfl, Below.refl _ _⟩
    case round =>
      obtain ⟨k, hk, rfl, hB⟩ := hrel
      by_cases hlt : k < N
      · have c1 : wr.cell? ⟨ga, oa + k, none⟩ = some (sv (L[k]?.getD [])) := by
          rw [hB.cell (p := ⟨ga, oa + k, none⟩) hga, HCA.out k hlt]
        have c2 : wr.cell? ⟨gb, ob + k, none⟩ = some (sv (L[k]?.getD [])) := by
          rw [hB.cell (p := ⟨gb, ob + k, none⟩) hgb, HCB.out k hlt]
        generalize L[k]?.getD [] = X at c1 c2
        have hki : (k : Int) < (N : Int) := by omega
        go_wp2
        go_quiet (fail)
        go_wp2
        go_roundw
        case rel => exact ⟨k + 1, by omega, by go_num, below_drewN hB _⟩
        case measure => simp [intOf]; omega
      · go_wp2
        go_ret
        exact ⟨rfl, hB⟩
  · have h0 : L.length = 0 := by omega
    rw [h0]
    clear hca hcb
    go_enter Tryz.func20, Tryz.ntmps20
    go_wp2
    go_loop [5] (fun i => i = .int .i64 0) (fun i => 0)
    case atStart => rfl
    case round =>
      subst hrel
      go_wp2
      go_ret
      exact ⟨rfl, Below.refl _ _⟩
end Go.Proofs.YtamkncfdfaejjaaGreatDoor

/- Is a text among others. -/
namespace Go.Proofs.YtamkncfdfaejjaaGreatDoor
open Go.RowKit
set_option linter.unusedVariables false
theorem any_at {L : List (List UInt8)} {x : List UInt8} {k : Nat} (h : k < L.length) (he : L[k]?.getD [] = x) : L.any (· == x) = true := by
  rw [List.any_eq_true]
  rw [List.getElem?_eq_getElem h, Option.getD_some] at he
  exact ⟨L[k], List.getElem_mem h, by simp [he]⟩
theorem any_none {L : List (List UInt8)} {x : List UInt8} (h : ∀ j, j < L.length → ¬ L[j]?.getD [] = x) : L.any (· == x) = false := by
  rw [List.any_eq_false]
  intro y hy he
  obtain ⟨j, hj, rfl⟩ := List.mem_iff_getElem.1 hy
  refine h j hj ?_
  rw [List.getElem?_eq_getElem hj, Option.getD_some]
  simpa using he
set_option maxHeartbeats 800000 in
theorem bkHas_any (L : List (List UInt8)) (v : Value) (s : ByteArray) (hL : L.length ≤ 4194304) (w : World) (hv : TextsAt w v L) :
    Calls Tryz.prog 22 #[v, .string s] w fun e w' => e = .returned (.bool (L.any (· == s.data.toList))) ∧ w' = w := by
  obtain ⟨a, c, rfl, _, _, hc, _⟩ := hv
  have HC := hide hc
  clear hc
  have HY : Hid (∀ k, k < L.length → L[k]?.getD [] = s.data.toList → L.any (· == s.data.toList) = true) := fun k h1 h2 => any_at h1 h2
  have HN : Hid ((∀ j, j < L.length → ¬ L[j]?.getD [] = s.data.toList) → L.any (· == s.data.toList) = false) := fun h => any_none h
  generalize L.any (· == s.data.toList) = R at *
  generalize hl : L.length = N at *
  have HLN := hide hl
  clear hl
  go_enter Tryz.func22, Tryz.ntmps22
  go_wp2
  go_loop [5] (fun i => ∃ k : Nat, k ≤ N ∧ i = .int .i64 k ∧ ∀ j, j < k → ¬ L[j]?.getD [] = s.data.toList) (fun i => N - (intOf i).toNat)
  case atStart => exact ⟨0, by omega, rfl, fun j hj => by omega⟩
  case round =>
    obtain ⟨k, hk, rfl, hno⟩ := hrel
    have HNO : Hid (∀ j, j < k → ¬ L[j]?.getD [] = s.data.toList) := hno
    clear hno
    by_cases hlt : k < N
    · obtain ⟨g, o, rfl, hg, hcell⟩ := HC.out (by omega)
      have c1 := hcell k hlt
      have HX : Hid (∀ X, L[k]?.getD [] = X → X = s.data.toList → R = true) := fun X h1 h2 => HY.out k hlt (h1.trans h2)
      have HW : Hid (∀ X, L[k]?.getD [] = X → ¬ X = s.data.toList → ∀ j, j < k + 1 → ¬ L[j]?.getD [] = s.data.toList) := fun X h1 h2 j hj => by
        by_cases hjk : j = k
        · subst hjk; rw [h1]; exact h2
        · exact HNO.out j (by omega)
      clear hcell
      generalize hXX : L[k]?.getD [] = X at c1
      have HXX := hide hXX
      clear hXX
      have hki : (k : Int) < (N : Int) := by omega
      by_cases hx : X = s.data.toList
      · have ht : ((Pl.bs X).toList == s.toList) = true := by rw [hx, Pl.bs_of]; simp
        have HR := hide (HX.out X HXX.out hx)
        clear hx
        go_wp2
        go_ret
        exact ⟨congrArg (fun b => Ending.returned (.bool b)) HR.out.symm, rfl⟩
      · have ht : ((Pl.bs X).toList == s.toList) = false := by
          rw [Pl.bs_toList, Lib.toList_data]
          simpa using hx
        have HW2 := hide (HW.out X HXX.out hx)
        clear hx
        go_wp2
        go_round
        case rel => exact ⟨k + 1, by omega, by go_num, HW2.out⟩
        case measure => simp [intOf]; omega
    · have HR := hide (HN.out (fun j hj => HNO.out j (by omega)))
      go_wp2
      go_ret
      exact ⟨congrArg (fun b => Ending.returned (.bool b)) HR.out.symm, rfl⟩
end Go.Proofs.YtamkncfdfaejjaaGreatDoor

/- The law that an expression asks for no names but its own, walked. -/
namespace Go.Proofs.YtamkncfdfaejjaaGreatDoor
open Go.RowKit
set_option linter.unusedVariables false
set_option linter.unusedSimpArgs false
theorem evR_is {r : Option Va} {x : Va} (h : evR r = .tuple #[.agg #[.int .i64 x.k, .int .i64 x.n, .string x.t], .bool true]) : r = some x := by
  cases r with
  | none => simp [evR] at h
  | some y =>
    obtain ⟨k, n, t⟩ := x
    obtain ⟨k', n', t'⟩ := y
    unfold evR at h
    simp only [Value.tuple.injEq, Array.mk.injEq, List.cons.injEq, Value.agg.injEq, Value.int.injEq, Value.string.injEq, true_and, and_true] at h
    obtain ⟨h1, h2, h3⟩ := h
    rw [h1, h2, h3]
theorem implNames {nd : Nd} {k : Fo} {v : Value} {w : World} (ht : NdTx nd k) (hr : RowAt 0 w k v) :
    Calls Tryz.prog 19 #[ndV nd v] w fun e w' => ∃ v', e = .returned v' ∧ TextsAt w' v' (Pl.exprNames nd k) ∧ Below w.heap.size w w' :=
  (implExprNames_any nd k v w ht.1.max ht.2.1.max ht.2.2.2.wf (by have := ht.2.2.1; omega) ht.2.2.2.sm hr).mono fun e w' ⟨v', h1, h2, h3⟩ => ⟨v', h1, texts_of_row h2, h3⟩
theorem specNames {nd : Nd} {k : Fo} {v : Value} {w : World} (ht : NdTx nd k) (hr : RowAt 0 w k v) :
    Calls Tryz.prog 21 #[ndV nd v] w fun e w' => ∃ v', e = .returned v' ∧ TextsAt w' v' (Pl.exprNames nd k) ∧ Below w.heap.size w w' :=
  specExprNames_any nd k v w ht.1.max ht.2.1.max ht.2.2.2.wf (by have := ht.2.2.1; omega) ht.2.2.2.sm hr
set_option maxRecDepth 100000 in
set_option maxHeartbeats 6400000 in
theorem lawFnExprNames (len : Nat) (c : Value) (W : World) (hc : CodeOk W.heap.size W c len) (hE : ErrT W) :
    Calls Tryz.prog 4 #[c] W fun e W' => e = .returned (.bool true) ∧ Below W.heap.size W W' := by
  by_cases hbig : 1048576 < len
  · obtain ⟨ad, cap, rfl, hlc, hcm, _⟩ := hc
    unfold maxLen at hcm
    have hb1 : (1048576 : Int) < (len : Int) := by omega
    go_enter Tryz.func4, Tryz.ntmps4
    go_wp2
    go_ret
    exact ⟨rfl, Below.refl _ _⟩
  have hd := hide (drawExprEval_any len c W hc (by omega))
  obtain ⟨ad, cap, rfl, hlc, hcm, _⟩ := hc
  unfold maxLen at hcm
  have hb1 : ¬ ((1048576 : Int) < (len : Int)) := by omega
  have HE := hide hE
  clear hE
  go_enter Tryz.func4, Tryz.ntmps4
  go_wp2_with fail
  refine hd.out.mono ?_
  rintro e W1 ⟨⟨nd, k, v, l, vl, ht, hp, _, rfl, hr, hrl⟩, hB⟩
  have HT := hide ht
  have HP := hide hp
  have HS1 := hide (EvSt.start (W := W) (nd := nd) hr hrl (HE.out.later hB) hB)
  obtain ⟨av, cv, rfl, _, _, _⟩ := hr
  obtain ⟨al, cl, rfl, _, _, _⟩ := hrl
  clear ht hp hB hd HE
  have hz := evR_two (Pl.evalO l nd k)
  obtain ⟨x, bb, hz⟩ := hz
  have HZ := hide hz
  have hNL := Pl.exprNames_len nd k
  clear hz
  go_wp2_with fail
  refine (implNames HT.out HS1.out.row).mono ?_
  rintro e WA ⟨vn, rfl, hn, hBA⟩
  have HSA := hide (HS1.out.later hBA)
  have HNA := hide hn
  obtain ⟨an, cn, rfl, _⟩ := hn
  clear hBA HS1
  obtain ⟨c0, c1, c2, c3, c4, c5⟩ := cells6 HSA.out.box
  have hbx := blk_lt HSA.out.box
  go_wp2_with fail
  refine (impl_tell HT.out HP.out HSA.out.row HSA.out.prs HSA.out.err HZ.out).mono ?_
  rintro e W2 ⟨rfl, hB2⟩
  have HSa := hide (HSA.out.later hB2)
  have HS2 := hide (HSa.out.later (one_up W2 (.cells #[.int .i64 x.k, .int .i64 x.n, .string x.t] 30)))
  have HN2 := hide ((HNA.out.later hB2).later (one_up W2 (.cells #[.int .i64 x.k, .int .i64 x.n, .string x.t] 30)))
  have HV2 : Hid (VBox W2.heap.size x (W2.alloc (.cells #[.int .i64 x.k, .int .i64 x.n, .string x.t] 30))) := VBox.start x W2
  clear hB2 HSA HNA c0 c1 c2 c3 c4 c5 hbx
  obtain ⟨c0, c1, c2, c3, c4, c5⟩ := cells6 HSa.out.box
  have hbx := blk_lt HSa.out.box
  go_wp2_with fail
  refine (spec_tell HT.out HP.out HS2.out.row HS2.out.prs HZ.out).mono ?_
  rintro e W3 ⟨rfl, hB3⟩
  have HS3 := hide (HS2.out.later hB3)
  have HS4 := hide (HS3.out.later (one_up W3 (.cells #[.int .i64 x.k, .int .i64 x.n, .string x.t] 30)))
  have HN4 := hide ((HN2.out.later hB3).later (one_up W3 (.cells #[.int .i64 x.k, .int .i64 x.n, .string x.t] 30)))
  have HV4 := hide ((HV2.out.later hB3).later (one_up W3 (.cells #[.int .i64 x.k, .int .i64 x.n, .string x.t] 30)))
  have HU4 : Hid (VBox W3.heap.size x (W3.alloc (.cells #[.int .i64 x.k, .int .i64 x.n, .string x.t] 30))) := VBox.start x W3
  clear hB3 HS2 HV2 HN2 c0 c1 c2 c3 c4 c5 hbx HSa
  obtain ⟨c0, c1, c2, c3, c4, c5⟩ := cells6 HS3.out.box
  have hbx := blk_lt HS3.out.box
  generalize hnn : (Pl.exprNames nd k).length = nN at *
  have HNN := hide hnn
  clear hnn
  go_wp2_with fail
  refine (specNames HT.out HS4.out.row).mono ?_
  rintro e W5 ⟨vs, rfl, hn5, hB5⟩
  have HS5 := hide (HS4.out.later hB5)
  have HN5 := hide (HN4.out.later hB5)
  have HV5 := hide (HV4.out.later hB5)
  have HU5 := hide (HU4.out.later hB5)
  have HM5 := hide hn5
  clear hB5 HS3 HS4 HV4 HN4 HU4 hn5 c0 c1 c2 c3 c4 c5 hbx
  go_wp2_with fail
  refine (bkTexts_same (Pl.exprNames nd k) _ _ (by rw [HNN.out]; omega) _ HN5.out HM5.out).mono ?_
  rintro e W6 ⟨rfl, hB6⟩
  have HS6 := hide (HS5.out.later hB6)
  have HN6 := hide (HN5.out.later hB6)
  have HV6 := hide (HV5.out.later hB6)
  have HU6 := hide (HU5.out.later hB6)
  clear hB6 HS5 HV5 HN5 HU5 HM5
  obtain ⟨h0, v0, v1, v2⟩ := HV6.out.cells
  obtain ⟨i0, w0, w1, w2⟩ := HU6.out.cells
  obtain ⟨c0, c1, c2, c3, c4, c5⟩ := cells6 HS6.out.box
  have hbx := blk_lt HS6.out.box
  cases bb with
  | false =>
    go_wp2_with fail
    refine (specNames HT.out HS6.out.row).mono ?_
    rintro e W7 ⟨vs2, rfl, hn7, hB7⟩
    have HS7 := hide (HS6.out.later hB7)
    have HN7 := hide (HN6.out.later hB7)
    have HV7 := hide (HV6.out.later hB7)
    have HU7 := hide (HU6.out.later hB7)
    clear hB7 HS6 HV6 HN6 HU6 h0 v0 v1 v2 i0 w0 w1 w2 c0 c1 c2 c3 c4 c5 hbx
    go_wp2_with fail
    refine (bkTexts_same (Pl.exprNames nd k) _ _ (by rw [HNN.out]; omega) _ HN7.out hn7).mono ?_
    rintro e W8 ⟨rfl, hB8⟩
    have HS8 := hide (HS7.out.later hB8)
    obtain ⟨h0, v0, v1, v2⟩ := (HV7.out.later hB8).cells
    obtain ⟨i0, w0, w1, w2⟩ := (HU7.out.later hB8).cells
    clear hB8 HS7 HV7 HN7 HU7 hn7
    go_wp2
    go_ret
    exact ⟨rfl, HS8.out.low⟩
  | true =>
    have HQ := hide (evR_is HZ.out)
    have HEO : Hid (Pl.evalO (Pl.few (Pl.exprNames nd k) l) nd k = some x) := Pl.evalO_few HQ.out
    have HVO := hide (Pl.evalO_some HQ.out).2.2.2
    have HPF : Hid (∀ p ∈ Pl.few (Pl.exprNames nd k) l, PrD p) := fun p hp => HP.out p (List.mem_filter.1 (show p ∈ l.filter _ from hp)).1
    have HASC := hide (Pl.names_asc nd k)
    have HFL := hide (fun i => Pl.few_len (Pl.exprNames nd k) (l.take i))
    have HFS := hide (fun i p (h : l[i]? = some p) => (by rw [List.take_add_one, h]; exact Pl.few_snoc _ _ _ : Pl.few (Pl.exprNames nd k) (l.take (i + 1)) = if (Pl.exprNames nd k).any (· == p.nm.data.toList) = true then Pl.few (Pl.exprNames nd k) (l.take i) ++ [p] else Pl.few (Pl.exprNames nd k) (l.take i)))
    have hll : l.length ≤ 4 := by assumption
    have HN1 : Hid ((Pl.exprNames nd k).length ≤ 4194304) := by show _ ≤ _; rw [HNN.out]; omega
    generalize Pl.exprNames nd k = NL at *
    go_wp2_with fail
    go_loopw [10, 11] (fun ov iv wr => ∃ i : Nat, i ≤ l.length ∧ iv = .int .i64 i ∧ Hid (Below W6.heap.size W6 wr) ∧ Hid (wr.ownsRow W6.heap.size 51 4 ov (Pl.few NL (l.take i)).length ((Pl.few NL (l.take i)).flatMap prL))) (fun _ iv _ => l.length - (intOf iv).toNat)
    case atStart =>
      refine ⟨0, by omega, rfl, one_up _ _, ?_⟩
      exact ⟨rfl, .inr ⟨W6.heap.size, 0, #[], rfl, Nat.le_refl _, heap_alloc_new W6 _, Nat.le_refl _, by unfold maxLen; omega, rfl, rfl⟩⟩
    case round =>
      obtain ⟨i, hi, rfl, HB7, HO7⟩ := hrel
      have HS7 : Hid (EvSt W W1.heap.size nd k (.slice av k.len cv) l (.slice al l.length cl) wr) := HS6.out.later HB7.out
      have HN7 : Hid (TextsAt wr (.slice an nN cn) NL) := HN6.out.later HB7.out
      have h7s : W6.heap.size ≤ wr.heap.size := HB7.out.size
      obtain ⟨ar, cr, har⟩ := ownsRow_form HO7.out
      subst har
      clear h0 v0 v1 v2 i0 w0 w1 w2 c0 c1 c2 c3 c4 c5 hbx
      by_cases hlt : i < l.length
      · obtain ⟨p, hp⟩ : ∃ p, l[i]? = some p := ⟨_, List.getElem?_eq_getElem hlt⟩
        have HF := hide (HFS.out i p hp)
        have hfl := HFL.out i
        obtain ⟨ad1, cap1, hv1, _, hcm1, hx1⟩ := HS7.out.prs
        injection hv1 with e1 e2 e3
        subst e1 e3
        obtain ⟨g, off, rfl, hg, hs⟩ := hx1 (by omega)
        obtain ⟨d0, d1, d2, d3⟩ := hs i p hp
        have hii : (i : Int) < (l.length : Int) := by omega
        have hfl4 : (Pl.few NL (l.take i)).length ≤ 4 := by
          have : (l.take i).length ≤ l.length := by simp; omega
          omega
        clear hs hx1 hp hfl
        have HBK := hide (bkHas_any NL (.slice an nN cn) p.nm HN1.out wr HN7.out)
        generalize NL.any (· == p.nm.data.toList) = hb at HF HBK
        go_wp2_with fail
        refine HBK.out.mono ?_
        rintro e w8 ⟨rfl, rfl⟩
        cases hb
        · have HF2 : Hid (Pl.few NL (l.take (i + 1)) = Pl.few NL (l.take i)) := HF.out
          go_wp2
          go_roundw
          case rel => exact ⟨i + 1, by omega, by go_num, HB7, by rw [HF2.out]; exact HO7⟩
          case measure => simp [intOf]; omega
        · have HF2 : Hid (Pl.few NL (l.take (i + 1)) = Pl.few NL (l.take i) ++ [p]) := HF.out
          have HOW : Hid ((w8.alloc (.cells #[.string p.nm, .int .i64 p.v.k, .int .i64 p.v.n, .string p.v.t] 51)).ownsRow W6.heap.size 51 4 (.slice ar (Pl.few NL (l.take i)).length cr) (Pl.few NL (l.take i)).length ((Pl.few NL (l.take i)).flatMap prL)) := ownsRow_later HO7.out (one_up _ _)
          have HUU : Hid (∀ j u, (prL p)[j]? = some u → (w8.alloc (.cells #[.string p.nm, .int .i64 p.v.k, .int .i64 p.v.n, .string p.v.t] 51)).cell? ((⟨w8.heap.size, 0, none⟩ : Addr).add j) = some u) := cells_one w8 (prL p) 51
          have HBS : Hid (W6.heap.size ≤ (w8.alloc (.cells #[.string p.nm, .int .i64 p.v.k, .int .i64 p.v.n, .string p.v.t] 51)).heap.size) := by
            show _ ≤ _
            simp; omega
          have HRE : Hid (∀ w2, (w8.alloc (.cells #[.string p.nm, .int .i64 p.v.k, .int .i64 p.v.n, .string p.v.t] 51)).grownBy w2 (Value.slice ar (Pl.few NL (l.take i)).length cr).ownBlock → Below W6.heap.size W6 w2) := fun w2 hgr => (HB7.out.alloc h7s _).grown hgr HBS.out (fun k hk => by have := (HO7.out.lt k hk).1; omega)
          have HAN : Hid ((Pl.few NL (l.take i)).length + 1 ≤ 1048576) := by show _ ≤ _; omega
          generalize hA : Pl.few NL (l.take i) = A at *
          clear hA HO7 HS7 HN7 HF
          go_wp2_with (first
            | (with_reducible show wpList _ _ _ (Oper.mk _ (Op.call (Call.mk (.builtin .append) _ _)) _ _ _ _ :: _) _ _; refine wp_app_pr rfl (.tmp 84) (.tmp 89) rfl rfl W6.heap.size A.length (A.flatMap prL) p (.slice ar A.length cr) ⟨w8.heap.size, 0, none⟩ 1 rfl rfl HOW.out HUU.out HAN.out HBS.out ?_; intro v' w2 hv2 hg2 hb2))
          exact ⟨⟨i + 1, by omega, by go_num, HRE.out w2 hg2.out, hide (by rw [HF2.out]; simpa [List.flatMap_append] using hv2.out)⟩, by simp [intOf]; omega⟩
      · have hie : i = l.length := by omega
        have HEE : Hid (Pl.few NL (l.take i) = Pl.few NL l) := by show _ = _; rw [hie, List.take_length]
        have HPRW : Hid (PrRow wr (Pl.few NL l) (.slice ar (Pl.few NL (l.take i)).length cr)) := by
          have h := pr_of_own HO7.out
          rw [HEE.out] at h
          show PrRow _ _ _
          rw [HEE.out]
          exact h
        have HV7 := hide (HV6.out.later HB7.out)
        clear hie HO7
        generalize (Pl.few NL (l.take i)).length = nr at *
        obtain ⟨c0, c1, c2, c3, c4, c5⟩ := cells6 HS7.out.box
        have hbx := blk_lt HS7.out.box
        go_wp2_with fail
        refine (impl_some HT.out HPF.out HS7.out.row HPRW.out HS7.out.err HEO.out).mono ?_
        rintro e W9 ⟨rfl, hB9⟩
        have HS9 := hide ((HS7.out.later hB9).later (one_up W9 (.cells #[.int .i64 x.k, .int .i64 x.n, .string x.t] 30)))
        have HN9 := hide ((HN7.out.later hB9).later (one_up W9 (.cells #[.int .i64 x.k, .int .i64 x.n, .string x.t] 30)))
        have HV9 := hide ((HV7.out.later hB9).later (one_up W9 (.cells #[.int .i64 x.k, .int .i64 x.n, .string x.t] 30)))
        have HW9 : Hid (VBox W9.heap.size x (W9.alloc (.cells #[.int .i64 x.k, .int .i64 x.n, .string x.t] 30))) := VBox.start x W9
        clear hB9 HS7 HN7 HV7 HPRW c0 c1 c2 c3 c4 c5 hbx HB7 HEE
        go_wp2_with fail
        generalize W9.alloc (.cells #[.int .i64 x.k, .int .i64 x.n, .string x.t] 30) = X at *
        have hAt : Hid (∀ q wr, Below X.heap.size X wr → q + 1 < nN → ∃ g off A B, an = some ⟨g, off, none⟩ ∧ g < wr.heap.size ∧ wr.cell? ⟨g, off + q, none⟩ = some (sv A) ∧ wr.cell? ⟨g, off + (q + 1), none⟩ = some (sv B) ∧ Op.bytesLess (Pl.bs A).toList (Pl.bs B).toList = true) := by
          intro q wr hB hq
          obtain ⟨a, c, hv, _, _, hx, _⟩ := HN9.out
          injection hv with e1 e2 e3
          subst e1
          obtain ⟨g, off, hg0, hg, hs⟩ := hx (by rw [HNN.out]; omega)
          have hq1 : q < NL.length := by rw [HNN.out]; omega
          have hq2 : q + 1 < NL.length := by rw [HNN.out]; omega
          refine ⟨g, off, NL[q], NL[q + 1], hg0, by have := hB.size; omega, ?_, ?_, ?_⟩
          · rw [hB.cell (p := ⟨g, off + q, none⟩) hg, hs q hq1, List.getElem?_eq_getElem hq1, Option.getD_some]
          · rw [hB.cell (p := ⟨g, off + (q + 1), none⟩) hg, hs (q + 1) hq2, List.getElem?_eq_getElem hq2, Option.getD_some]
          · rw [Pl.bs_toList, Pl.bs_toList, bytesLess_lt, decide_eq_true_eq]
            have h := HASC.out
            unfold Pl.Asc at h
            rw [List.pairwise_iff_getElem] at h
            exact h q (q + 1) hq1 hq2 (by omega)
        go_loopw [14] (fun iv wr => ∃ q : Nat, q ≤ nN ∧ iv = .int .i64 ((q : Int) + 1) ∧ Hid (Below X.heap.size X wr)) (fun iv _ => nN + 1 - (intOf iv).toNat)
        case atStart => exact ⟨0, by omega, rfl, Below.refl _ _⟩
        case round =>
          obtain ⟨q, hq, rfl, HBX⟩ := hrel
          by_cases hqn : q + 1 < nN
          · obtain ⟨g, off, A, B, rfl, hg, d0, d1, hbl⟩ := hAt.out q wr HBX.out hqn
            have hwd : IntKind.i64.wrap (q : Int) = (q : Int) := by rw [IntKind.wrap_i64]; omega
            have hqi : (q : Int) < (nN : Int) := by omega
            have hqj : (q : Int) + 1 < (nN : Int) := by omega
            go_wp2
            go_quiet (fail)
            go_wp2
            exact ⟨⟨q + 1, by omega, by go_num, hide (below_drewN HBX.out _)⟩, by simp [intOf]; omega⟩
          · have hqj : ¬ ((q : Int) + 1 < (nN : Int)) := by omega
            have HSX := hide (HS9.out.later HBX.out)
            obtain ⟨h0, v0, v1, v2⟩ := (HV9.out.later HBX.out).cells
            obtain ⟨i0, w0, w1, w2⟩ := (HW9.out.later HBX.out).cells
            have hvo := implValueOk_any x.k x.n x.t (by have := Pl.okA_size HVO.out; unfold maxLen; omega)
            rw [show Pl.okB x.k x.n x.t = true from HVO.out] at hvo
            have HVO2 := hide hvo
            clear hvo
            go_wp2_with fail
            refine (HVO2.out _).mono ?_
            rintro e WE ⟨rfl, hBE⟩
            have HSE := hide (HSX.out.later hBE)
            clear hBE
            go_wp2
            go_ret
            exact ⟨rfl, HSE.out.low⟩
end Go.Proofs.YtamkncfdfaejjaaGreatDoor

/- Of every code: what is drawn asks for no names but its own, which stand in order, and what it tells is ok, told as the specification tells it; package errors' own variable standing as its text lays it (the card ties that); no other condition.
   The row's step and the card of FnExprNames, out of its walk. -/
namespace Go.Proofs.YtamkncfdfaejjaaGreatDoor.fnExprNames
open Go.ChangeShapes Go.WideShapes Go.ChangeAt Go.RowKit Go.Joins
open Go.ChangeMaps (open_string shut_string)
set_option linter.unusedVariables false

theorem own : ownKnob Tryz.prog.godebug = none := by kernel_rfl
theorem laidOut : laidOutB Tryz.prog = true := by kernel_rfl
theorem et : Tryz.prog.globalNamed "errors.errorType" = some 0 := by kernel_rfl
theorem rt : (Tryz.prog.cutTypes.find? (·.1 == "internal/reflectlite.rtype")).map (·.2) = some 157 := by kernel_rfl
theorem oneRow : ((List.range Tryz.prog.types.size).filter fun t => Tryz.prog.rowNamed t [101, 114, 114, 111, 114]) = [89] := by kernel_rfl
/-- what the listed variable gives the walk -/
theorem handle_of_laid {W : World} (h : laidMetH Tryz.prog Rows.fnExprNamesRow.laid W) : ErrT W := by
  have h' : laidMet Tryz.prog [] W ∧ handlesMet Tryz.prog Rows.fnExprNamesRow.laid W := h
  obtain ⟨name, u, ty, e1, e2, e3, e4, e5⟩ := h'.2 _ (List.mem_singleton.2 rfl)
  have en : name = [101, 114, 114, 111, 114] := (Option.some.inj e1).symm
  subst en
  obtain rfl := Option.some.inj (rt.symm.trans e2)
  have hm : ty ∈ (List.range Tryz.prog.types.size).filter fun t => Tryz.prog.rowNamed t [101, 114, 114, 111, 114] := List.mem_filter.2 ⟨List.mem_range.2 e3, e4⟩
  rw [oneRow] at hm
  obtain rfl := List.mem_singleton.1 hm
  have hh : typeHandle Tryz.prog 89 = hdl 89 := by kernel_rfl
  rw [hh] at e5
  show W.cell? ⟨0, 0, none⟩ = _
  simpa using World.var?_cell et e5 0
/-- a world that meets the condition -/
noncomputable def laidWorld (os : Os) : World :=
  let w0 := World.holding Tryz.prog os ⟨#[], #[], []⟩
  { w0 with heap := w0.heap.modify 0 fun
      | .cells _ t frozen => .cells #[rtV 89] t frozen
      | o => o }
theorem laidWorld_met (os : Os) (args : Array Value) : laidMetH Tryz.prog Rows.fnExprNamesRow.laid ((laidWorld os).forCall (fun _ _ => 0) ⟨#[], args, []⟩).memory :=
  laidMetH_of_parts (laidMet_nil _ _) (by kernel_rfl)

set_option maxRecDepth 100000 in
theorem lifted (os : Os) (started : os.Started) (H : Type) (enc : TypeId × Value → H) :
    ReturnsInHanded {} Tryz.checked os 4 .any (fun w args => (Rows.fnExprNamesSpec.pre enc Tryz.prog Tryz.f4 [] false w args ∧ laidMetH Tryz.prog Rows.fnExprNamesRow.laid w) ∧ sizedMet enc Tryz.prog Tryz.f4 (OpenSpec.ofChange Rows.fnExprNamesSpec) false w args)
      (Rows.fnExprNamesSpec.post enc Tryz.prog Tryz.f4 false true false false) := by
  refine returnsInHanded_of_change_and (C := Tryz.checked) (X := fun w _ => laidMetH Tryz.prog Rows.fnExprNamesRow.laid w) (fun _ _ _ hh h => h.of_heap hh) own started (by kernel_rfl) Tryz.func4
    (ChangeSpec.witness_at (enc := enc) (C := Tryz.checked) (os := os) (X := fun w _ => laidMetH Tryz.prog Rows.fnExprNamesRow.laid w) false (laidWorld os) #[.slice none 0 0] 8 rfl (by kernel_rfl) (by kernel_rfl) (by kernel_rfl) (by kernel_rfl) (by kernel_rfl) (laidWorld_met os _)) ?_
  intro W base args ds gs before hval0 hW _ _ hL _
  have hval : ∀ (j : Nat) t v, Tryz.f4.params[j]? = some t → args[j]? = some v → Value.okWide Tryz.prog W .any base t v := hval0
  have hW' := hW
  obtain ⟨p, q, hA0, hV, rfl, hfz, hnd⟩ := hW
  have hA : DataW.TrodAll enc Tryz.prog W 0 (fun _ => true) true Tryz.f4.params.toList args.toList ds p := hA0
  rw [Tryz.params4] at hA hval
  obtain ⟨v0, vs0, d0, ds0, p0, q0, hargs, rfl, rfl, h0, r0⟩ := trodAll_cons hA
  obtain ⟨rfl, rfl, rfl⟩ := trodAll_nil r0
  obtain rfl : args = #[v0] := by cases args; simp_all
  obtain ⟨rfl, rfl⟩ := trodVars_none hV
  obtain ⟨a0, len0, cap0, rfl⟩ := okWide_slice Tryz.underlying43 (hval 0 43 v0 rfl rfl)
  have k0 := h0
  have lt0 : ∀ x ∈ p0, x.block < W.heap.size := by obtain ⟨m, hm⟩ := k0; exact DataW.trod_lt m _ _ _ hm
  have w0 : CodeOk W.heap.size W (.slice a0 len0 cap0) len0 := by
    obtain ⟨fuel, hf⟩ := h0
    rcases open_ints Tryz.underlying43 Tryz.underlying5 (by kernel_rfl) hf with ⟨hcs, _⟩ | ⟨x, l, c, zs, hcs, _, hl, hm, hz, _, hcell, hwz⟩
    · simp [Value.cells] at hcs
      obtain ⟨rfl, rfl, rfl⟩ := hcs
      exact code_nil W
    · simp [Value.cells] at hcs
      obtain ⟨rfl, rfl, rfl⟩ := hcs
      exact code_row hl hm (by simpa using hz) hcell hwz
  have hE := handle_of_laid hL
  clear hA0 hval0
  refine (lawFnExprNames len0 _ W w0 hE).mono fun e W' ⟨he, hg⟩ => ?_
  subst he
  exact ⟨_, rfl, _, _, _, [], _, [], hW', trodAll_mk1 (shut_bool Tryz.underlying4 _), (trodAll_cons_mk (Below.trod laidOut (by kernel_rfl) (of_decide_eq_true (by kernel_rfl)) k0 hg lt0) trodAll_mk0), rfl, hg.frame _, fun h => by cases h⟩

theorem over : Rows.FnExprNamesSaid :=
  OpenClaim.holds_of_wide 4 Tryz.f4 rfl rfl rfl rfl rfl rfl rfl ⟨rfl, rfl, rfl, rfl, rfl⟩ rfl rfl rfl rfl rfl (by kernel_rfl) Tryz.func4 (by kernel_rfl)
    (of_decide_eq_true (by kernel_rfl)) (by unfold Func.isWrapper; first | (rw [if_pos (by decide +kernel)]; kernel_rfl) | (rw [if_neg (by decide +kernel)]; exact ⟨rfl, rfl⟩))
    (fun os started H enc _ => lifted os started H enc)

theorem carded : Rows.FnExprNamesCardSaid :=
  Claim7.holds_tied_plain_at .later [] [.handle] true (true, "0d1ac6e27b6b507ab646b9ce43aa3125ce8f65025fe6a6322b6fe9da882cb2cc") true
    over (fun _ h => by cases h) (by kernel_rfl) (fun _ h => by cases h) fnExprNames_row_tie rfl ⟨rfl, rfl⟩ (by kernel_rfl) rfl
    (fun f fn hf hfn => by
      obtain rfl : f = 4 := Option.some.inj ((show Tryz.prog.funcNamed "loop.example/backstitch/laws.FnExprNames" = some 4 by kernel_rfl).symm.trans hf) |>.symm
      obtain rfl : fn = Tryz.f4 := (Option.some.inj (Tryz.func4.symm.trans hfn)).symm
      exact ⟨by kernel_rfl, fun j t ht => by
        rw [Tryz.params4] at ht
        have hm : t ∈ [43] := by simpa using Array.mem_of_getElem? ht
        have hall : ([43].all fun u => !Tryz.prog.wantsStandIn u) = true := by kernel_rfl
        exact (show Tryz.prog.wantsStandIn t = false by simpa using List.all_eq_true.1 hall t hm)⟩)
    (by kernel_rfl)
end Go.Proofs.YtamkncfdfaejjaaGreatDoor.fnExprNames
namespace Go.Proofs.YtamkncfdfaejjaaGreatDoor
theorem fnExprNames_holds : Rows.FnExprNamesCardSaid := fnExprNames.carded
end Go.Proofs.YtamkncfdfaejjaaGreatDoor

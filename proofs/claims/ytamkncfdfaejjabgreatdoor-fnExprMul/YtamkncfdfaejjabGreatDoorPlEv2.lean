/- Plain: what an expression is, by names. -/
import Derived.Test.YtamkncfdfaejjabGreatDoorOk1f
namespace Go.Proofs.YtamkncfdfaejjabGreatDoor
open Go.RowKit
set_option linter.unusedVariables false
set_option linter.unusedSimpArgs false
/-- a value -/
structure Va where
  k : Int
  n : Int
  t : ByteArray
namespace Pl
/-- what a name is, if it is there -/
abbrev Look := List UInt8 → Option Va
def truthA (b : Bool) : Va := ⟨1, if b = true then 1 else 0, ⟨#[]⟩⟩
def countsA (v : Va) : Bool := !(v.n == 0) || !v.t.toList.isEmpty
def okA (v : Va) : Bool := okB v.k v.n v.t
def sameA (a b : Va) : Bool := a.k == b.k && (a.n == b.n && a.t.toList == b.t.toList)
def numA (n : Int) : Option Va := if (decide (-1000000000 ≤ n) && decide (n ≤ 1000000000)) = true then some ⟨1, n, ⟨#[]⟩⟩ else none
def textA (t : ByteArray) : Option Va := if textB t = true then some ⟨2, 0, t⟩ else none
/-- what two values are together -/
def twoA (kd : Int) (a b : Va) : Option Va :=
  if kd = 7 then some (truthA (sameA a b))
  else if kd = 3 ∧ a.k = 2 ∧ b.k = 2 then textA (a.t ++ b.t)
  else if ¬ (a.k = 1 ∧ b.k = 1) then none
  else if kd = 6 then some (truthA (decide (a.n < b.n)))
  else if kd = 3 then numA (a.n + b.n) else if kd = 4 then numA (a.n - b.n) else numA (a.n * b.n)
/-- what a node of two parts or one is, by what these are -/
def opA (kd : Int) (x y : Option Va) : Option Va :=
  match x with
  | none => none
  | some a =>
    if kd = 10 then some (truthA (!countsA a))
    else if kd = 8 ∧ countsA a = false then some (truthA false)
    else if kd = 9 ∧ countsA a = true then some (truthA true)
    else match y with
      | none => none
      | some b => if kd = 8 ∨ kd = 9 then some (truthA (countsA b)) else twoA kd a b
def ev1 (look : Look) (nd : Nd) (L : List (Option Va)) : Option Va :=
  if nd.k = 1 then some ⟨nd.vk, nd.vn, nd.vt⟩
  else if nd.k = 2 then look nd.nm.data.toList
  else opA nd.k (L[0]?.getD none) (L[1]?.getD none)
def evs (look : Look) : Fo → List (Option Va)
  | .nil => []
  | .cons nd k r => ev1 look nd (evs look k) :: evs look r
/-- what an expression is -/
def ev (look : Look) (nd : Nd) (k : Fo) : Option Va := ev1 look nd (evs look k)
theorem evs_get (look : Look) : ∀ (F : Fo) (i : Nat) (nd : Nd) (k : Fo), F.get i = some (nd, k) → (evs look F)[i]?.getD none = ev look nd k
  | .nil, i, nd, k, h => by simp [Fo.get] at h
  | .cons nd' k' r, 0, nd, k, h => by
    simp only [Fo.get, Option.some.injEq, Prod.mk.injEq] at h
    obtain ⟨rfl, rfl⟩ := h
    simp [evs, ev]
  | .cons nd' k' r, i + 1, nd, k, h => by
    have := evs_get look r i nd k h
    simpa [evs] using this
theorem ev_both {look : Look} {nd : Nd} {k : Fo} (h1 : ¬ nd.k = 1) (h2 : ¬ nd.k = 2) : ev look nd k = opA nd.k ((evs look k)[0]?.getD none) ((evs look k)[1]?.getD none) := by
  unfold ev ev1
  rw [if_neg h1, if_neg h2]
theorem ev_op {look : Look} {nd : Nd} {k : Fo} (h1 : ¬ nd.k = 1) (h2 : ¬ nd.k = 2) {na nb : Nd} {ka kb : Fo} (ha : k.get 0 = some (na, ka)) (hb : k.get 1 = some (nb, kb)) : ev look nd k = opA nd.k (ev look na ka) (ev look nb kb) := by
  rw [ev_both h1 h2, evs_get look k 0 na ka ha, evs_get look k 1 nb kb hb]
theorem op_not (x y : Option Va) : opA 10 x y = opA 10 x none := by
  cases x with
  | none => rfl
  | some a => simp [opA]
theorem ev_not {look : Look} {nd : Nd} {k : Fo} (h : nd.k = 10) {na : Nd} {ka : Fo} (ha : k.get 0 = some (na, ka)) : ev look nd k = opA 10 (ev look na ka) none := by
  rw [ev_both (by omega) (by omega), evs_get look k 0 na ka ha, h, op_not]
theorem ev_val {look : Look} {nd : Nd} {k : Fo} (h : nd.k = 1) : ev look nd k = some ⟨nd.vk, nd.vn, nd.vt⟩ := by
  unfold ev ev1
  rw [if_pos h]
theorem ev_var {look : Look} {nd : Nd} {k : Fo} (h : nd.k = 2) : ev look nd k = look nd.nm.data.toList := by
  unfold ev ev1
  rw [if_neg (by omega), if_pos h]

/-- a value that is ok is nothing, a number or a text -/
theorem okA_cases {v : Va} (h : okA v = true) : (v.k = 0 ∧ v.n = 0 ∧ v.t = ⟨#[]⟩) ∨ (v.k = 1 ∧ -1000000000 ≤ v.n ∧ v.n ≤ 1000000000 ∧ v.t = ⟨#[]⟩) ∨ (v.k = 2 ∧ v.n = 0 ∧ textB v.t = true) := by
  have he : ∀ {t : ByteArray}, t.toList.isEmpty = true → t = ⟨#[]⟩ := by
    intro t ht
    have h1 : t.toList = [] := by simpa using ht
    rw [ByteArray.toList_eq] at h1
    have : t.data = #[] := by simpa using h1
    cases t
    simp at this
    rw [this]
  unfold okA okB at h
  split at h
  · next h0 => simp only [Bool.and_eq_true, beq_iff_eq] at h; exact .inl ⟨h0, h.1, he h.2⟩
  · split at h
    · next h1 => simp only [Bool.and_eq_true, decide_eq_true_eq] at h; exact .inr (.inl ⟨h1, h.1.1, h.1.2, he h.2⟩)
    · split at h
      · next h2 => simp only [Bool.and_eq_true, beq_iff_eq] at h; exact .inr (.inr ⟨h2, h.1, h.2⟩)
      · cases h
theorem emp_is : (⟨#[]⟩ : ByteArray).toList.isEmpty = true := by rw [ByteArray.toList_eq]; rfl
theorem truth_ok (b : Bool) : okA (truthA b) = true := by
  cases b
  all_goals
    unfold okA truthA okB
    simp only [emp_is]
    decide
theorem num_ok {n : Int} {v : Va} (h : numA n = some v) : okA v = true ∧ v = ⟨1, n, ⟨#[]⟩⟩ := by
  unfold numA at h
  split at h
  · next hr =>
    cases h
    refine ⟨?_, rfl⟩
    show okB 1 n ⟨#[]⟩ = true
    unfold okB
    rw [if_neg (by decide), if_pos rfl, hr, emp_is]
    rfl
  · cases h
theorem text_ok {t : ByteArray} {v : Va} (h : textA t = some v) : okA v = true ∧ v = ⟨2, 0, t⟩ := by
  unfold textA at h
  split at h
  · next hr =>
    cases h
    refine ⟨?_, rfl⟩
    show okB 2 0 t = true
    unfold okB
    rw [if_neg (by decide), if_neg (by decide), if_pos rfl, hr]
    rfl
  · cases h
theorem two_ok {kd : Int} {a b v : Va} (h : twoA kd a b = some v) : okA v = true := by
  unfold twoA at h
  split at h
  · cases h; exact truth_ok _
  · split at h
    · exact (text_ok h).1
    · split at h
      · cases h
      · split at h
        · cases h; exact truth_ok _
        · split at h
          · exact (num_ok h).1
          · split at h
            · exact (num_ok h).1
            · exact (num_ok h).1
theorem op_ok {kd : Int} {x y : Option Va} {v : Va} (h : opA kd x y = some v) : okA v = true := by
  unfold opA at h
  cases x with
  | none => cases h
  | some a =>
    simp only at h
    split at h
    · cases h; exact truth_ok _
    · split at h
      · cases h; exact truth_ok _
      · split at h
        · cases h; exact truth_ok _
        · cases y with
          | none => cases h
          | some b =>
            simp only at h
            split at h
            · cases h; exact truth_ok _
            · exact two_ok h
theorem ev_ok {look : Look} (hl : ∀ x v, look x = some v → okA v = true) {nd : Nd} {k : Fo} {d : Nat} (hok : okN nd k d = true) {v : Va} (h : ev look nd k = some v) : okA v = true := by
  unfold ev ev1 at h
  split at h
  · next h1 =>
    cases h
    simp only [okN, Bool.and_eq_true] at hok
    have := hok.1.2.2.1
    unfold valB at this
    rw [if_pos h1] at this
    exact this
  · split at h
    · exact hl _ _ h
    · exact op_ok h
theorem okA_size {v : Va} (h : okA v = true) : v.t.size ≤ 24 := by
  rcases okA_cases h with ⟨_, _, h⟩ | ⟨_, _, _, h⟩ | ⟨_, _, h⟩
  · rw [h]; decide
  · rw [h]; decide
  · simp only [textB, Bool.and_eq_true, decide_eq_true_eq] at h; exact h.2
theorem okF_get : ∀ {F : Fo} {d : Nat} {i : Nat} {nd : Nd} {k : Fo}, okF F d = true → F.get i = some (nd, k) → okN nd k d = true := by
  intro F d i nd k h hg
  cases h1 : okN nd k d
  · rw [okF_not F d i nd k hg h1] at h; cases h
  · rfl

/-- a name with its value -/
structure Pr where
  nm : ByteArray
  v : Va
/-- where a name is first -/
def prAt (l : List Pr) (x : List UInt8) : Option Pr := l.find? (fun p => p.nm.data.toList == x)
def lookP (l : List Pr) : Look := fun x => (prAt l x).map (·.v)
/-- names and values are ok, none there twice -/
def varsB (l : List Pr) : Bool := (List.range l.length).all (fun i => match l[i]? with
  | some p => (nameB p.nm && okA p.v) && !((l.take i).any (fun q => q.nm.data.toList == p.nm.data.toList))
  | none => true)
theorem varsB_get {l : List Pr} (h : varsB l = true) {i : Nat} {p : Pr} (hi : l[i]? = some p) : nameB p.nm = true ∧ okA p.v = true ∧ (l.take i).any (fun q => q.nm.data.toList == p.nm.data.toList) = false := by
  unfold varsB at h
  rw [List.all_eq_true] at h
  have := h i (List.mem_range.2 (List.getElem?_eq_some_iff.1 hi).1)
  simp only [hi, Bool.and_eq_true, Bool.not_eq_true'] at this
  exact ⟨this.1.1, this.1.2, this.2⟩
theorem look_ok {l : List Pr} (h : varsB l = true) : ∀ x v, lookP l x = some v → okA v = true := by
  intro x v hv
  unfold lookP prAt at hv
  simp only [Option.map_eq_some_iff] at hv
  obtain ⟨p, hp, rfl⟩ := hv
  have hm := List.mem_of_find?_eq_some hp
  obtain ⟨i, hi⟩ := List.mem_iff_getElem?.1 hm
  exact (varsB_get h hi).2.1
end Pl
/-- names with their values, in memory -/
abbrev prL (p : Pl.Pr) : List Value := [.string p.nm, .int .i64 p.v.k, .int .i64 p.v.n, .string p.v.t]
abbrev vaV (v : Va) : Value := .agg #[.int .i64 v.k, .int .i64 v.n, .string v.t]
def PrAt (w : World) (g off : Nat) (p : Pl.Pr) : Prop := w.cell? ⟨g, off, none⟩ = some (.string p.nm) ∧ w.cell? ⟨g, off + 1, none⟩ = some (.int .i64 p.v.k) ∧ w.cell? ⟨g, off + 2, none⟩ = some (.int .i64 p.v.n) ∧ w.cell? ⟨g, off + 3, none⟩ = some (.string p.v.t)
theorem PrAt.later {w w1 : World} {g off : Nat} {p : Pl.Pr} (h : PrAt w g off p) (hB : Below w.heap.size w w1) (hg : g < w.heap.size) : PrAt w1 g off p := by
  have C : ∀ o, w1.cell? ⟨g, o, none⟩ = w.cell? ⟨g, o, none⟩ := fun o => hB.cell (p := ⟨g, o, none⟩) hg
  exact ⟨(C _).trans h.1, (C _).trans h.2.1, (C _).trans h.2.2.1, (C _).trans h.2.2.2⟩
def PrWf (p : Pl.Pr) : Prop := p.nm.size ≤ maxLen ∧ p.v.t.size ≤ maxLen
/-- a slice that holds them -/
def PrRow (w : World) (l : List Pl.Pr) (v : Value) : Prop :=
  ∃ ad cap, v = .slice ad l.length cap ∧ l.length ≤ cap ∧ cap ≤ maxLen ∧ (0 < l.length → ∃ g off, ad = some ⟨g, off, none⟩ ∧ g < w.heap.size ∧ ∀ i p, l[i]? = some p → PrAt w g (off + i * 4) p)
theorem PrRow.later {w w1 : World} {l : List Pl.Pr} {v : Value} (h : PrRow w l v) (hB : Below w.heap.size w w1) : PrRow w1 l v := by
  obtain ⟨ad, cap, rfl, hc, hm, hx⟩ := h
  refine ⟨ad, cap, rfl, hc, hm, fun hl => ?_⟩
  obtain ⟨g, off, ha, hg, hs⟩ := hx hl
  exact ⟨g, off, ha, by have := hB.size; omega, fun i p hi => (hs i p hi).later hB hg⟩
end Go.Proofs.YtamkncfdfaejjabGreatDoor

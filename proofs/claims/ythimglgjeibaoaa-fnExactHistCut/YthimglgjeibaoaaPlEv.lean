/- Plain: events, what a history is as the specification has it, event by event, and as the program goes through it; both are one. -/
import Derived.WalkKit
namespace Go.Proofs.Ythimglgjeibaoaa
set_option linter.unusedVariables false
set_option linter.unusedSimpArgs false
/-- an event -/
structure Ev where
  k : Int
  vk : Int
  vn : Int
  vt : ByteArray
  many : Int
  ck : Int
  cn : ByteArray
  ak : Int
  an : Int
  ax : ByteArray
  ct : Int
  mp : Int
  mn : ByteArray
  mo : Bool
  wk : Int
  wn : Int
  wt : ByteArray
namespace Pl
def endK (k : Int) : Bool := k == 4 || (k == 5 || k == 6)
/-- of what kind that is which comes, as the specification has it -/
def cameS (k : Int) : Int := if k = 1 then 1 else if k = 2 then 2 else 3
/-- and as the program has it -/
def cameI (k : Int) : Int := if k = 1 then 1 else if k = 2 then 2 else if k = 3 then 3 else 0
def cmdsOf (l : List Ev) : List Ev := l.filter (·.k == 3)
def comesOf (l : List Ev) : List Ev := l.filter (·.k == 4)
def shuts (e : Ev) : Bool := e.k == 5 || (e.k == 3 && endK e.ck)
def openB (l : List Ev) : Bool := l.all (fun e => !shuts e) && !l.isEmpty
def leftStep (n : Int) (e : Ev) : Int := if e.k = 2 then e.many else if e.k = 3 then n - 1 else n
def leftOf (l : List Ev) : Int := l.foldl leftStep 0
def newsStep (b : Bool) (e : Ev) : Bool := if e.k = 1 ∨ e.k = 4 then true else if e.k = 2 then false else b
def newsOf (l : List Ev) : Bool := l.foldl newsStep false
def tasksOf (l : List Ev) : Nat := (l.filter (·.k == 2)).length
/-- nothing came for the place -/
def freeB (l : List Ev) (p : Int) : Bool := (comesOf l).all (fun c => !(c.ct != 4 && c.mp == p))
def mayB (l : List Ev) (e : Ev) : Bool :=
  e.ct == 4 || ((decide (0 ≤ e.mp) && decide (e.mp ≤ ((cmdsOf l).length : Int) - 1)) && (match (cmdsOf l)[e.mp.toNat]? with
    | some c => !endK c.ck && ((cameS c.ck == e.ct) && freeB l e.mp)
    | none => false))
def nextB (l : List Ev) (e : Ev) : Bool :=
  if l = [] then e.k == 1
  else if openB l = false ∨ e.k = 1 ∨ decide (0 < leftOf l) ≠ (e.k == 3) then false
  else if e.k = 2 then newsOf l && decide (((cmdsOf l).length : Int) + e.many ≤ 40)
  else if e.k = 3 then !endK e.ck || leftOf l == 1
  else if e.k = 4 then mayB l e && decide (((comesOf l).length : Int) < 60)
  else true
/-- how far a history goes on well -/
def goodTo (fits : Ev → Bool) (l : List Ev) (i : Nat) : Bool := (List.range i).all (fun j => match l[j]? with
  | some e => fits e && nextB (l.take j) e
  | none => true)
def goodB (fits : Ev → Bool) (l : List Ev) : Bool := goodTo fits l l.length
theorem goodTo_zero (fits : Ev → Bool) (l : List Ev) : goodTo fits l 0 = true := rfl
theorem goodTo_succ (fits : Ev → Bool) (l : List Ev) (i : Nat) (e : Ev) (h : l[i]? = some e) : goodTo fits l (i + 1) = (goodTo fits l i && (fits e && nextB (l.take i) e)) := by
  unfold goodTo
  rw [List.range_succ, List.all_append]
  simp [h]
theorem goodTo_mono (fits : Ev → Bool) (l : List Ev) {i j : Nat} (h : i ≤ j) (hj : goodTo fits l j = true) : goodTo fits l i = true := by
  unfold goodTo at *
  rw [List.all_eq_true] at *
  intro x hx
  exact hj x (List.mem_range.2 (by have := List.mem_range.1 hx; omega))
theorem goodB_not {fits : Ev → Bool} {l : List Ev} {i : Nat} {e : Ev} (h : l[i]? = some e) (hb : (fits e && nextB (l.take i) e) = false) : goodB fits l = false := by
  have hi : i < l.length := (List.getElem?_eq_some_iff.1 h).1
  cases hg : goodB fits l
  · rfl
  · have := goodTo_mono fits l (show i + 1 ≤ l.length by omega) hg
    rw [goodTo_succ fits l i e h, hb] at this
    simp at this
def histB (fits : Ev → Bool) (l : List Ev) : Bool := goodB fits l && ((decide (1 ≤ (l.length : Int)) && decide ((l.length : Int) ≤ 200)) && leftOf l == 0)

theorem cmdsOf_snoc (l : List Ev) (e : Ev) : cmdsOf (l ++ [e]) = if e.k = 3 then cmdsOf l ++ [e] else cmdsOf l := by
  unfold cmdsOf; rw [List.filter_append]; by_cases h : e.k = 3 <;> simp [h]
theorem comesOf_snoc (l : List Ev) (e : Ev) : comesOf (l ++ [e]) = if e.k = 4 then comesOf l ++ [e] else comesOf l := by
  unfold comesOf; rw [List.filter_append]; by_cases h : e.k = 4 <;> simp [h]
theorem leftOf_snoc (l : List Ev) (e : Ev) : leftOf (l ++ [e]) = leftStep (leftOf l) e := by
  unfold leftOf; rw [List.foldl_append]; rfl
theorem newsOf_snoc (l : List Ev) (e : Ev) : newsOf (l ++ [e]) = newsStep (newsOf l) e := by
  unfold newsOf; rw [List.foldl_append]; rfl
theorem tasksOf_snoc (l : List Ev) (e : Ev) : tasksOf (l ++ [e]) = if e.k = 2 then tasksOf l + 1 else tasksOf l := by
  unfold tasksOf; rw [List.filter_append]; by_cases h : e.k = 2 <;> simp [h]
theorem openB_snoc (l : List Ev) (e : Ev) : openB (l ++ [e]) = ((l.all (fun e => !shuts e)) && !shuts e) := by
  unfold openB; simp
theorem freeB_snoc (l : List Ev) (e : Ev) (p : Int) : freeB (l ++ [e]) p = (freeB l p && (!(e.k == 4) || !(e.ct != 4 && e.mp == p))) := by
  unfold freeB
  rw [comesOf_snoc]
  by_cases h : e.k = 4 <;> simp [h, List.all_append]

/-- what is known of the events so far -/
structure Past where
  events : Int
  tasks : Int
  came : Int
  asked : Int
  due : Int
  opn : List Int
  news : Bool
  over : Bool
def Past.none : Past := ⟨0, 0, 0, 0, 0, List.replicate 40 0, false, false⟩
def withTask (h : Past) (many : Int) : Past × Bool := ({ h with tasks := h.tasks + 1, due := many, news := false }, h.news && decide (h.asked + many ≤ 40))
def withCmd (h : Past) (ck : Int) : Past × Bool :=
  ({ h with opn := h.opn.set h.asked.toNat (cameI ck), asked := h.asked + 1, due := h.due - 1, over := endK ck }, !endK ck || (h.due - 1 == 0))
def withCame (h : Past) (ct mp : Int) : Past × Bool :=
  if ct = 4 then ({ h with came := h.came + 1, news := true }, decide (h.came < 60))
  else ({ h with came := h.came + 1, news := true, opn := h.opn.set mp.toNat 0 }, decide (h.came < 60) && (h.opn[mp.toNat]?.getD 0 == ct))
/-- it may not stand there, by what can be told ahead -/
def stopB (fits : Ev → Bool) (h : Past) (e : Ev) : Bool := h.over || (!fits e || (((h.events == 0) != (e.k == 1)) || (decide (0 < h.due) != (e.k == 3))))
def pwith (fits : Ev → Bool) (h : Past) (e : Ev) : Past × Bool :=
  if stopB fits h e = true then (h, false)
  else if e.k = 2 then withTask { h with events := h.events + 1 } e.many
  else if e.k = 3 then withCmd { h with events := h.events + 1 } e.ck
  else if e.k = 4 then withCame { h with events := h.events + 1 } e.ct e.mp
  else ({ h with events := h.events + 1, news := e.k == 1, over := e.k == 5 }, true)
def walkP (fits : Ev → Bool) (h : Past) : List Ev → Past × Bool
  | [] => (h, true)
  | e :: r => if (pwith fits h e).2 = true then walkP fits (pwith fits h e).1 r else ((pwith fits h e).1, false)
def pastB (fits : Ev → Bool) (l : List Ev) : Past × Bool :=
  if 200 < l.length then (Past.none, false) else ((walkP fits Past.none l).1, (walkP fits Past.none l).2 && (decide (0 < (walkP fits Past.none l).1.events) && ((walkP fits Past.none l).1.due == 0)))

/-- what an event that fits has -/
def Fit (fits : Ev → Bool) : Prop := ∀ e, fits e = true → (e.k = 2 → 0 ≤ e.many ∧ e.many ≤ 40) ∧ (e.k = 3 → 1 ≤ e.ck ∧ e.ck ≤ 6) ∧ (e.k = 4 → e.ct = 4 ∨ (1 ≤ e.ct ∧ e.ct ≤ 3 ∧ 0 ≤ e.mp ∧ e.mp ≤ 39)) ∧ 1 ≤ e.k ∧ e.k ≤ 5

/-- what the program knows of the events so far is as these are -/
structure Rel (l : List Ev) (h : Past) : Prop where
  events : h.events = l.length
  tasks : h.tasks = tasksOf l
  came : h.came = (comesOf l).length
  asked : h.asked = (cmdsOf l).length
  due : h.due = leftOf l
  due0 : 0 ≤ h.due
  room : h.asked + h.due ≤ 40
  news : h.over = false → h.news = newsOf l
  over : h.over = !(l.all (fun e => !shuts e))
  size : h.opn.length = 40
  opn : ∀ p : Nat, p < 40 → h.opn[p]?.getD 0 = (match (cmdsOf l)[p]? with
    | some c => if freeB l p then cameI c.ck else 0
    | none => 0)
  kinds : ∀ c ∈ cmdsOf l, 1 ≤ c.ck ∧ c.ck ≤ 6
  fresh : ∀ p : Nat, (cmdsOf l).length ≤ p → freeB l p = true
theorem Rel.none : Rel [] Past.none := by
  refine ⟨rfl, rfl, rfl, rfl, rfl, by simp [Past.none], by simp [Past.none], fun _ => rfl, rfl, by simp [Past.none], fun p hp => ?_, by simp [cmdsOf], fun _ _ => rfl⟩
  show (List.replicate 40 (0 : Int))[p]?.getD 0 = _
  rw [List.getElem?_replicate]
  simp only [hp, if_true, Option.getD_some]
  rfl
theorem cameI_end {k : Int} (h0 : 1 ≤ k) (h1 : k ≤ 6) : (endK k = true ∧ cameI k = 0) ∨ (endK k = false ∧ cameI k = cameS k) := by
  have : k = 1 ∨ k = 2 ∨ k = 3 ∨ k = 4 ∨ k = 5 ∨ k = 6 := by omega
  rcases this with rfl | rfl | rfl | rfl | rfl | rfl <;> simp [endK, cameI, cameS]
theorem may_rel {l : List Ev} {h : Past} (R : Rel l h) {e : Ev} (h4 : ¬ e.ct = 4) (h1 : 1 ≤ e.ct) (h3 : e.ct ≤ 3) (hp0 : 0 ≤ e.mp) (hp1 : e.mp ≤ 39) : (h.opn[e.mp.toNat]?.getD 0 == e.ct) = mayB l e := by
  have hlt : e.mp.toNat < 40 := by omega
  have hq := R.opn e.mp.toNat hlt
  have hcast : ((e.mp.toNat : Nat) : Int) = e.mp := by omega
  unfold mayB
  rw [show (e.ct == 4) = false by simp [h4], hq]
  cases hc : (cmdsOf l)[e.mp.toNat]? with
  | none =>
    simp only [Bool.false_or, Bool.and_false]
    have : ¬ (0 : Int) = e.ct := by omega
    simp [this]
  | some c =>
    have hin : e.mp.toNat < (cmdsOf l).length := (List.getElem?_eq_some_iff.1 hc).1
    have hk := R.kinds c (List.mem_of_getElem? hc)
    simp only [Bool.false_or, hcast]
    rw [show decide (0 ≤ e.mp) = true from decide_eq_true hp0, show decide (e.mp ≤ ((cmdsOf l).length : Int) - 1) = true from decide_eq_true (by omega)]
    have hz : ¬ (0 : Int) = e.ct := by omega
    rcases cameI_end hk.1 hk.2 with ⟨he, hi⟩ | ⟨he, hi⟩
    · simp [he, hi, hz]
    · cases hf : freeB l e.mp
      · simp [he, hz]
      · simp [he, hi]
theorem over_open {l : List Ev} (hl : l ≠ []) : openB l = l.all (fun e => !shuts e) := by
  unfold openB
  cases l with
  | nil => exact absurd rfl hl
  | cons a b => simp
theorem step_rel {fits : Ev → Bool} (hF : Fit fits) {l : List Ev} {h : Past} (R : Rel l h) (e : Ev) :
    (pwith fits h e).2 = (fits e && nextB l e) ∧ ((pwith fits h e).2 = true → Rel (l ++ [e]) (pwith fits h e).1) := by
  cases hf : fits e
  · have hs : stopB fits h e = true := by simp [stopB, hf]
    simp [pwith, hs]
  · obtain ⟨hk2, hk3, hk4, hk, hk5⟩ := hF e hf
    have hev : (h.events == 0) = decide (l = []) := by
      rw [R.events]
      cases l with
      | nil => simp
      | cons a b => simp; omega
    by_cases hl : l = []
    · subst hl
      have hov : h.over = false := by rw [R.over]; rfl
      have hdue : h.due = 0 := by rw [R.due]; rfl
      have hn : nextB [] e = (e.k == 1) := by simp [nextB]
      by_cases h1 : e.k = 1
      · have hs : stopB fits h e = false := by simp [stopB, hf, hev, hov, hdue, h1]
        have he : pwith fits h e = ({ h with events := h.events + 1, news := true, over := false }, true) := by simp [pwith, hs, h1]
        refine ⟨by rw [he, hn]; simp [h1], fun _ => ?_⟩
        rw [he]
        have h2 : ¬ e.k = 2 := by omega
        have h3 : ¬ e.k = 3 := by omega
        have h4 : ¬ e.k = 4 := by omega
        have h5 : ¬ e.k = 5 := by omega
        refine ⟨by simp [R.events], by simp only [tasksOf_snoc, h2, if_false]; exact R.tasks, by simp only [comesOf_snoc, h4, if_false]; exact R.came, by simp only [cmdsOf_snoc, h3, if_false]; exact R.asked, by simp only [leftOf_snoc, leftStep, h2, h3, if_false]; exact R.due, R.due0, R.room, fun _ => by rw [newsOf_snoc]; simp [newsStep, h1], by simp [shuts, h3, h5], R.size, fun p hp => ?_, by simp only [cmdsOf_snoc, h3, if_false]; exact R.kinds, fun p hp => ?_⟩
        · have := R.opn p hp
          simp only [cmdsOf_snoc, h3, if_false, freeB_snoc]
          rw [show (e.k == 4) = false by simp [h4]]
          simpa using this
        · rw [freeB_snoc, R.fresh p (by rw [cmdsOf_snoc, if_neg h3] at hp; exact hp)]; simp [h4]
      · have hs : stopB fits h e = true := by simp [stopB, hf, hev, h1]
        refine ⟨by simp [pwith, hs, hn, h1], by simp [pwith, hs]⟩
    · have hopen := over_open hl
      have hov : h.over = !openB l := by rw [R.over, hopen]
      rw [show decide (l = []) = false by simp [hl]] at hev
      by_cases hbad : openB l = false ∨ e.k = 1 ∨ decide (0 < leftOf l) ≠ (e.k == 3)
      · have hs : stopB fits h e = true := by
          rcases hbad with hb | hb | hb
          · simp [stopB, hov, hb]
          · simp [stopB, hev, hb]
          · have : (decide (0 < h.due) != (e.k == 3)) = true := by rw [R.due]; simpa using hb
            simp [stopB, this]
        refine ⟨by simp [pwith, hs, nextB, hl, hbad], by simp [pwith, hs]⟩
      · have ho : openB l = true := by
          cases hb : openB l
          · exact absurd (Or.inl hb) hbad
          · rfl
        have h1 : ¬ e.k = 1 := fun hb => hbad (Or.inr (Or.inl hb))
        have hd : decide (0 < leftOf l) = (e.k == 3) := Classical.byContradiction fun hb => hbad (Or.inr (Or.inr hb))
        have hd' : (decide (0 < h.due) != (e.k == 3)) = false := by rw [R.due, hd]; simp
        have hs : stopB fits h e = false := by simp [stopB, hf, hov, ho, hev, h1, hd']
        have hall : l.all (fun e => !shuts e) = true := by rw [← hopen]; exact ho
        have hx : nextB l e = (if e.k = 2 then newsOf l && decide (((cmdsOf l).length : Int) + e.many ≤ 40) else if e.k = 3 then !endK e.ck || leftOf l == 1 else if e.k = 4 then mayB l e && decide (((comesOf l).length : Int) < 60) else true) := by
          unfold nextB; rw [if_neg hl, if_neg hbad]
        rw [hx]
        simp only [Bool.true_and]
        have hfr : ¬ e.k = 4 → ∀ p, freeB (l ++ [e]) p = freeB l p := fun h4 p => by rw [freeB_snoc]; simp [h4]
        have e0 := R.events; have e1 := R.tasks; have e2 := R.came; have e3 := R.asked; have e4 := R.due; have e5 := R.due0; have e6 := R.room; have e7 := R.news (by rw [hov, ho]; rfl)
        by_cases h2 : e.k = 2
        · have he : pwith fits h e = withTask { h with events := h.events + 1 } e.many := by simp [pwith, hs, h2]
          rw [he, if_pos h2]
          have hm := hk2 h2
          have h3 : ¬ e.k = 3 := by omega
          have h4 : ¬ e.k = 4 := by omega
          have h5 : ¬ e.k = 5 := by omega
          refine ⟨by simp [withTask, e7, e3], fun hok => ?_⟩
          have hok' : h.asked + e.many ≤ 40 := by simp [withTask] at hok; exact hok.2
          refine ⟨by simp [withTask, e0], by simp [withTask, tasksOf_snoc, h2, e1], by simp [withTask, comesOf_snoc, h4, e2], by simp [withTask, cmdsOf_snoc, h3, e3], by simp [withTask, leftOf_snoc, leftStep, h2], by simp [withTask]; omega, by simpa [withTask] using hok', fun _ => by simp [withTask, newsOf_snoc, newsStep, h2], ?_, R.size, fun p hp => ?_, by simp only [cmdsOf_snoc, h3, if_false]; exact R.kinds, fun p hp => ?_⟩
          · simp only [withTask, List.all_append, hall]; rw [hov, ho]; simp [shuts, h3, h5]
          · have := R.opn p hp
            rw [cmdsOf_snoc, if_neg h3, hfr h4]
            exact this
          · rw [freeB_snoc, R.fresh p (by rw [cmdsOf_snoc, if_neg h3] at hp; exact hp)]; simp [h4]
        · rw [if_neg h2]
          by_cases h3 : e.k = 3
          · have he : pwith fits h e = withCmd { h with events := h.events + 1 } e.ck := by simp [pwith, hs, h3]
            rw [he, if_pos h3]
            have hc := hk3 h3
            have hpos : 0 < h.due := by
              rw [R.due]; have : decide (0 < leftOf l) = true := by rw [hd]; simp [h3]
              simpa using this
            have h4 : ¬ e.k = 4 := by omega
            have h5 : ¬ e.k = 5 := by omega
            refine ⟨?_, fun hok => ?_⟩
            · simp only [withCmd]
              rw [show (h.due - 1 == 0) = (leftOf l == 1) by rw [R.due, Bool.eq_iff_iff]; simp; omega]
            · have hn : h.asked.toNat = (cmdsOf l).length := by omega
              refine ⟨by simp [withCmd, e0], by simp [withCmd, tasksOf_snoc, h2, e1], by simp [withCmd, comesOf_snoc, h4, e2], by simp [withCmd, cmdsOf_snoc, h3, e3], by simp [withCmd, leftOf_snoc, leftStep, h2, h3, e4], by simp only [withCmd]; omega, by simp only [withCmd]; omega, fun _ => by simp [withCmd, newsOf_snoc, newsStep, h1, h4, h2, e7], ?_, by simp [withCmd, R.size], fun p hp => ?_, ?_, fun p hp => ?_⟩
              · simp only [withCmd, List.all_append, hall]; simp [shuts, h3, h5]
              · have := R.opn p hp
                rw [cmdsOf_snoc, if_pos h3, hfr h4]
                simp only [withCmd]
                rw [hn, List.getElem?_set]
                by_cases hpe : (cmdsOf l).length = p
                · subst hpe
                  rw [if_pos rfl, if_pos (by rw [R.size]; exact hp), List.getElem?_append_right (Nat.le_refl _)]
                  have hfree := R.fresh _ (Nat.le_refl (cmdsOf l).length)
                  simp [hfree]
                · rw [if_neg hpe, this]
                  by_cases hlt : p < (cmdsOf l).length
                  · rw [List.getElem?_append_left hlt]
                  · rw [List.getElem?_append_right (by omega), List.getElem?_eq_none (by omega : (cmdsOf l).length ≤ p), List.getElem?_eq_none (by simp; omega)]
              · rw [cmdsOf_snoc, if_pos h3]
                intro c hm
                rcases List.mem_append.1 hm with hm | hm
                · exact R.kinds c hm
                · have : c = e := by simpa using hm
                  subst this; exact hc
              · rw [freeB_snoc, R.fresh p (by rw [cmdsOf_snoc, if_pos h3] at hp; simp at hp; omega)]; simp [h4]
          · rw [if_neg h3]
            by_cases h4 : e.k = 4
            · rw [if_pos h4]
              have he : pwith fits h e = withCame { h with events := h.events + 1 } e.ct e.mp := by simp [pwith, hs, h4]
              rw [he]
              have h5 : ¬ e.k = 5 := by omega
              by_cases hm : e.ct = 4
              · have hw : withCame { h with events := h.events + 1 } e.ct e.mp = ({ h with events := h.events + 1, came := h.came + 1, news := true }, decide (h.came < 60)) := by simp [withCame, hm]
                rw [hw]
                refine ⟨by simp [mayB, hm, e2], fun _ => ?_⟩
                refine ⟨by simp [e0], by simp [tasksOf_snoc, h2, e1], by simp [comesOf_snoc, h4, e2], by simp [cmdsOf_snoc, h3, e3], by simp [leftOf_snoc, leftStep, h2, h3, e4], e5, e6, fun _ => by simp [newsOf_snoc, newsStep, h4], ?_, R.size, fun p hp => ?_, by simp only [cmdsOf_snoc, h3, if_false]; exact R.kinds, fun p hp => ?_⟩
                · simp only [List.all_append, hall]; rw [hov, ho]; simp [shuts, h3, h5]
                · have := R.opn p hp
                  rw [cmdsOf_snoc, if_neg h3, show freeB (l ++ [e]) p = freeB l p by rw [freeB_snoc]; simp [hm]]
                  exact this
                · rw [freeB_snoc, R.fresh p (by rw [cmdsOf_snoc, if_neg h3] at hp; exact hp)]; simp [hm]
              · have hw : withCame { h with events := h.events + 1 } e.ct e.mp = ({ h with events := h.events + 1, came := h.came + 1, news := true, opn := h.opn.set e.mp.toNat 0 }, decide (h.came < 60) && (h.opn[e.mp.toNat]?.getD 0 == e.ct)) := by simp [withCame, hm]
                rw [hw]
                obtain ⟨m1, m3, p0, p1⟩ := (hk4 h4).resolve_left hm
                have hmay := may_rel R hm m1 m3 p0 p1
                refine ⟨by simp only [hmay]; rw [e2, Bool.and_comm], fun hok => ?_⟩
                have hy : mayB l e = true := by
                  rw [← hmay]
                  have := hok
                  simp only [Bool.and_eq_true] at this
                  exact this.2
                have hlt : e.mp.toNat < (cmdsOf l).length := by
                  unfold mayB at hy
                  rw [show (e.ct == 4) = false by simp [hm]] at hy
                  simp only [Bool.false_or, Bool.and_eq_true, decide_eq_true_eq] at hy
                  omega
                refine ⟨by simp [e0], by simp [tasksOf_snoc, h2, e1], by simp [comesOf_snoc, h4, e2], by simp [cmdsOf_snoc, h3, e3], by simp [leftOf_snoc, leftStep, h2, h3, e4], e5, e6, fun _ => by simp [newsOf_snoc, newsStep, h4], ?_, by simp [R.size], fun p hp => ?_, by simp only [cmdsOf_snoc, h3, if_false]; exact R.kinds, fun p hp => ?_⟩
                · simp only [List.all_append, hall]; rw [hov, ho]; simp [shuts, h3, h5]
                · have := R.opn p hp
                  rw [cmdsOf_snoc, if_neg h3, freeB_snoc, List.getElem?_set, show (e.ct != 4) = true by simp [hm], show (e.k == 4) = true by simp [h4]]
                  by_cases hpe : e.mp.toNat = p
                  · have hpi : (e.mp == (p : Int)) = true := by simp; omega
                    rw [if_pos hpe, if_pos (by rw [R.size]; omega), hpi]
                    cases (cmdsOf l)[p]? <;> simp
                  · have hpi : (e.mp == (p : Int)) = false := by simp; omega
                    rw [if_neg hpe, this, hpi]
                    simp
                · have hp' : (cmdsOf l).length ≤ p := by rw [cmdsOf_snoc, if_neg h3] at hp; exact hp
                  rw [freeB_snoc, R.fresh p hp']
                  have hpi : (e.mp == (p : Int)) = false := by simp; omega
                  simp [hpi]
            · rw [if_neg h4]
              have h5 : e.k = 5 := by omega
              have he : pwith fits h e = ({ h with events := h.events + 1, news := false, over := true }, true) := by simp [pwith, hs, h2, h3, h4, h5]
              rw [he]
              refine ⟨rfl, fun _ => ?_⟩
              refine ⟨by simp [e0], by simp [tasksOf_snoc, h2, e1], by simp [comesOf_snoc, h4, e2], by simp [cmdsOf_snoc, h3, e3], by simp [leftOf_snoc, leftStep, h2, h3, e4], e5, e6, fun hq => by simp at hq, ?_, R.size, fun p hp => ?_, by simp only [cmdsOf_snoc, h3, if_false]; exact R.kinds, fun p hp => ?_⟩
              · simp [List.all_append, shuts, h5]
              · have := R.opn p hp
                rw [cmdsOf_snoc, if_neg h3, hfr h4]
                exact this
              · rw [freeB_snoc, R.fresh p (by rw [cmdsOf_snoc, if_neg h3] at hp; exact hp)]; simp [h4]
theorem walk_rel {fits : Ev → Bool} (hF : Fit fits) (L : List Ev) : ∀ (r l : List Ev) (h : Past), L = l ++ r → Rel l h → goodTo fits L l.length = true →
    (walkP fits h r).2 = goodB fits L ∧ ((walkP fits h r).2 = true → Rel L (walkP fits h r).1)
  | [], l, h, hL, R, hg => by
    have : L = l := by simpa using hL
    subst this
    exact ⟨by simp only [walkP]; exact hg.symm, fun _ => R⟩
  | e :: r, l, h, hL, R, hg => by
    have hget : L[l.length]? = some e := by rw [hL]; simp
    have htk : L.take l.length = l := by rw [hL]; simp
    obtain ⟨s1, s2⟩ := step_rel hF R e
    cases hs : (pwith fits h e).2
    · have hb : (fits e && nextB (L.take l.length) e) = false := by rw [htk, ← s1, hs]
      simp only [walkP, hs]
      exact ⟨by simpa using (goodB_not hget hb).symm, by simp⟩
    · have hg' : goodTo fits L (l ++ [e]).length = true := by
        rw [List.length_append, List.length_singleton, goodTo_succ fits L _ e hget, hg, htk, ← s1, hs]; rfl
      have := walk_rel hF L r (l ++ [e]) _ (by rw [hL]; simp) (s2 hs) hg'
      simp only [walkP, hs, if_true]
      exact this
theorem past_hist {fits : Ev → Bool} (hF : Fit fits) (l : List Ev) : (pastB fits l).2 = histB fits l ∧ ((pastB fits l).2 = true → Rel l (pastB fits l).1 ∧ l ≠ []) := by
  unfold pastB histB
  by_cases hl : 200 < l.length
  · rw [if_pos hl]
    refine ⟨?_, by simp⟩
    have : decide ((l.length : Int) ≤ 200) = false := decide_eq_false (by omega)
    simp [this]
  · rw [if_neg hl]
    obtain ⟨w1, w2⟩ := walk_rel hF l l [] Past.none rfl Rel.none (goodTo_zero _ _)
    cases hg : (walkP fits Past.none l).2
    · rw [hg] at w1
      simp [← w1]
    · rw [hg] at w1
      have R := w2 hg
      refine ⟨?_, fun hq => ⟨R, fun hnil => ?_⟩⟩
      · simp only [← w1, R.events, R.due, Bool.true_and]
        have : decide ((l.length : Int) ≤ 200) = true := decide_eq_true (by omega)
        rw [this, Bool.and_true]
        congr 1
      · subst hnil
        simp [walkP, Past.none] at hq
/-- open, with news, how many tasks: of a history -/
theorem hist_open {fits : Ev → Bool} (hF : Fit fits) (l : List Ev) : ((pastB fits l).2 && !(pastB fits l).1.over) = (histB fits l && openB l) := by
  obtain ⟨h1, h2⟩ := past_hist hF l
  cases hb : (pastB fits l).2
  · rw [← h1, hb]; rfl
  · obtain ⟨R, hl⟩ := h2 hb
    rw [← h1, hb, R.over, over_open hl]; simp
theorem hist_news {fits : Ev → Bool} (hF : Fit fits) (l : List Ev) : ((pastB fits l).2 && ((pastB fits l).1.news && !(pastB fits l).1.over)) = ((histB fits l && openB l) && newsOf l) := by
  obtain ⟨h1, h2⟩ := past_hist hF l
  cases hb : (pastB fits l).2
  · rw [← h1, hb]; rfl
  · obtain ⟨R, hl⟩ := h2 hb
    rw [← h1, hb, over_open hl]
    have ho := R.over
    cases hov : (pastB fits l).1.over
    · rw [R.news hov]
      rw [hov] at ho
      have : l.all (fun e => !shuts e) = true := by simpa using ho.symm
      rw [this]; simp
    · rw [hov] at ho
      have : l.all (fun e => !shuts e) = false := by simpa using ho.symm
      rw [this]; simp
theorem hist_tasks {fits : Ev → Bool} (hF : Fit fits) (l : List Ev) (hb : (pastB fits l).2 = true) : (pastB fits l).1.tasks = tasksOf l := ((past_hist hF l).2 hb).1.tasks
end Pl
end Go.Proofs.Ythimglgjeibaoaa

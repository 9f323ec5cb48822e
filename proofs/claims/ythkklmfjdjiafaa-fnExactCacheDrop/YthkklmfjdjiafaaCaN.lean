/- Items of a cache, marked. -/
import Derived.Test.YthkklmfjdjiafaaCaM1
import Derived.Test.YthkklmfjdjiafaaCaM2
namespace Go.Proofs.Ythkklmfjdjiafaa
open Go.RowKit
set_option linter.unusedVariables false
set_option linter.unusedSimpArgs false
/-- how many marks an item takes -/
def It.wt (it : It) : Nat := 8 + 5 * it.cs.length + 4 * it.ps.length
def itW : List It → Nat
  | [] => 0
  | a :: r => a.wt + itW r
theorem itW_app : ∀ a b : List It, itW (a ++ b) = itW a + itW b
  | [], b => by simp [itW]
  | x :: a, b => by simp only [List.cons_append, itW, itW_app a b]; omega
theorem itW_next {l : List It} {i : Nat} {it : It} (h : l[i]? = some it) : itW (l.take (i + 1)) = itW (l.take i) + it.wt := by
  rw [List.take_add_one, h, itW_app]
  simp [itW]
theorem itW_le {l : List It} {i : Nat} : itW (l.take i) ≤ itW l := by
  have h : itW l = itW (l.take i) + itW (l.drop i) := by rw [← itW_app, List.take_append_drop]
  omega
theorem itW_few : ∀ l : List It, itW l ≤ 8 * (l.length + itX l)
  | [] => by simp [itW]
  | a :: r => by
    have := itW_few r
    simp only [itW, itX, It.wt, List.length_cons]
    omega
/-- an item that is marked from this number on -/
def mkIt (k : Nat) (it : It) (vc vp : Value) : List Value :=
  [.int .i64 ((k : Nat) : Int), .int .i64 ((k + 1 : Nat) : Int), vc, .int .i64 ((k + 2 + 5 * it.cs.length : Nat) : Int), .int .i64 ((k + 3 + 5 * it.cs.length : Nat) : Int), .int .i64 ((k + 4 + 5 * it.cs.length : Nat) : Int), .string (Pl.bs (Pl.mark (k + 5 + 5 * it.cs.length))), .string (Pl.bs (Pl.mark (k + 6 + 5 * it.cs.length))), vp, .int .i64 ((k + 7 + 5 * it.cs.length + 4 * it.ps.length : Nat) : Int)]
/-- one item, marked or not yet -/
def MIt (C : Array Value) (lo hi : Nat) (k : Nat) (w : World) (j : Nat) (it : It) (d : Bool) : Prop :=
  ∃ ac cc ap cp, it.cs.length ≤ cc ∧ cc ≤ maxLen ∧ it.ps.length ≤ cp ∧ cp ≤ maxLen ∧ C[j * 10 + 2]? = some (.slice ac it.cs.length cc) ∧ C[j * 10 + 8]? = some (.slice ap it.ps.length cp)
    ∧ (0 < it.cs.length → ∃ b, ac = some ⟨b, 0, none⟩ ∧ lo ≤ b ∧ b < hi) ∧ (0 < it.ps.length → ∃ b, ap = some ⟨b, 0, none⟩ ∧ lo ≤ b ∧ b < hi)
    ∧ RowM 86 5 mkCms (k + 2) ac it.cs.length (if d then it.cs.length else 0) w ∧ RowM 90 4 mkPqs (k + 7 + 5 * it.cs.length) ap it.ps.length (if d then it.ps.length else 0) w
    ∧ (d = true → ∀ t u, (mkIt k it (.slice ac it.cs.length cc) (.slice ap it.ps.length cp))[t]? = some u → C[j * 10 + t]? = some u)
/-- all items, the first i of them marked -/
def MI (l : List It) (k i b : Nat) (C : Array Value) (s : Nat → Nat) (w : World) : Prop :=
  w.heap[b]? = some (.cells C 58 (0, 0)) ∧ l.length * 10 ≤ C.size ∧ (∀ j, s j ≤ s (j + 1)) ∧ ∀ j it, l[j]? = some it → MIt C (s j) (s (j + 1)) (k + itW (l.take j)) w j it (decide (j < i))
theorem MI.of_blk {l : List It} {k b lo hi : Nat} {C : Array Value} {s : Nat → Nat} {w : World} (hb : w.heap[b]? = some (.cells C 58 (0, 0))) (hs : l.length * 10 ≤ C.size) (h : IIn C s l.length w l) : MI l k 0 b C s w := by
  refine ⟨hb, hs, h.1, fun j it hj => ?_⟩
  obtain ⟨vc, vp, hc, ho⟩ := h.2 j it (List.getElem?_eq_some_iff.1 hj).1 hj
  obtain ⟨⟨ac, cc, hvc⟩, ⟨ap, cp, hvp⟩⟩ := own2_form ho
  subst hvc hvp
  obtain ⟨r1, r2, r3, r4⟩ := RowM.of_blk (mk := mkCms) (k := k + itW (l.take j) + 2) ho.1 rfl
  obtain ⟨r5, r6, r7, r8⟩ := RowM.of_blk (mk := mkPqs) (k := k + itW (l.take j) + 7 + 5 * it.cs.length) ho.2 rfl
  exact ⟨ac, cc, ap, cp, r2, r3, r6, r7, hc 2 _ rfl, hc 8 _ rfl, r4, r8, by simpa using r1, by simpa using r5, fun h => by simp at h⟩
/-- but for this block and what lies within these bounds all is as it was -/
structure Mid2 (b lo hi : Nat) (W W' : World) : Prop where
  os : W'.os = W.os
  tape : W'.tape = W.tape
  output : W'.output = W.output
  size : W.heap.size ≤ W'.heap.size
  block : ∀ k, k < W.heap.size → k ≠ b → (k < lo ∨ hi ≤ k) → W'.heap[k]? = W.heap[k]?
theorem Mid2.refl (b lo hi : Nat) (W : World) : Mid2 b lo hi W W := ⟨rfl, rfl, rfl, Nat.le_refl _, fun _ _ _ _ => rfl⟩
theorem Mid2.set {b lo hi : Nat} {W X : World} {i : Nat} {v : Value} (h : Mid2 b lo hi W X) : Mid2 b lo hi W (X.setCell ⟨b, i, none⟩ v) :=
  ⟨h.os, h.tape, h.output, by have := h.size; simp [World.setCell]; exact this, fun k hk hb ho => (Below.heap_setCell _ _ _ _ (by simp only; exact hb)).trans (h.block k hk hb ho)⟩
theorem Mid2.later {b lo hi : Nat} {W X Y : World} (h : Mid2 b lo hi W X) (hB : Below X.heap.size X Y) : Mid2 b lo hi W Y :=
  ⟨hB.os.trans h.os, hB.tape.trans h.tape, hB.output.trans h.output, Nat.le_trans h.size hB.size, fun k hk hb ho => (hB.block k (Nat.lt_of_lt_of_le hk h.size)).trans (h.block k hk hb ho)⟩
theorem Mid2.grown {b lo hi : Nat} {W X Y : World} {r : Option Nat} (h : Mid2 b lo hi W X) (hg : X.grownBy Y r) (hr : ∀ k, r = some k → lo ≤ k ∧ k < hi) : Mid2 b lo hi W Y :=
  ⟨hg.os.trans h.os, hg.tape.trans h.tape, hg.output.trans h.output, Nat.le_trans h.size hg.size, fun k hk hb ho => (hg.block k (Nat.lt_of_lt_of_le hk h.size) (fun e => by have := hr k e.symm; omega)).trans (h.block k hk hb ho)⟩
theorem Mid2.mid {b lo hi lo' hi' : Nat} {W X : World} (h : Mid2 b lo hi W X) (h1 : lo' ≤ b) (h2 : b < hi') (h3 : lo' ≤ lo) (h4 : hi ≤ hi') : Mid lo' hi' W X :=
  ⟨h.os, h.tape, h.output, h.size, fun k hk ho => h.block k hk (by omega) (by omega)⟩
/-- a block of another kind -/
theorem other_kind {W : World} {b g : Nat} {C D : Array Value} {T T' : TypeId} (h : W.heap[b]? = some (.cells C T (0, 0))) (h' : W.heap[g]? = some (.cells D T' (0, 0))) (hT : T ≠ T') : g ≠ b := by
  intro e
  subst e
  rw [h] at h'
  simp at h'
  exact hT h'.2
theorem ownB_kind {T : TypeId} {m : Nat} {mk : Nat → List Value} {k i : Nat} {a : Option Addr} {n : Nat} {w : World} (h : RowM T m mk k a n i w) {g : Nat} (hg : ownB a n = some g) : ∃ D, w.heap[g]? = some (.cells D T (0, 0)) := by
  obtain ⟨b, C, ha, hb, _⟩ := h (ownB_pos hg)
  rw [ownB_in hg ha]
  exact ⟨C, hb⟩
/-- a block of another kind stays when a row is marked -/
theorem grown_kind {T T' : TypeId} {m : Nat} {mk : Nat → List Value} {k i : Nat} {a : Option Addr} {n : Nat} {w w' : World} (h : RowM T m mk k a n i w) (hg : w.grownBy w' (ownB a n)) {b : Nat} {C : Array Value} (hb : w.heap[b]? = some (.cells C T' (0, 0))) (hT : T' ≠ T) : w'.heap[b]? = some (.cells C T' (0, 0)) :=
  (hg.block b (Array.getElem?_eq_some_iff.1 hb).1 (fun e => by
    obtain ⟨D, hD⟩ := ownB_kind h e.symm
    exact other_kind hD hb (fun e => hT e.symm) rfl)).trans hb
theorem RowM.set_kind {T T' : TypeId} {m : Nat} {mk : Nat → List Value} {k i : Nat} {a : Option Addr} {n : Nat} {w : World} {b j : Nat} {C : Array Value} {v : Value} (h : RowM T m mk k a n i w) (hb : w.heap[b]? = some (.cells C T' (0, 0))) (hT : T' ≠ T) : RowM T m mk k a n i (w.setCell ⟨b, j, none⟩ v) :=
  h.keep (fun g D _ hg => Below.heap_setCell _ _ _ _ (by simp only; exact other_kind hb hg hT))
theorem out_s {s : Nat → Nat} (h : ∀ j, s j ≤ s (j + 1)) {i j : Nat} (hji : j ≠ i) : s (j + 1) ≤ s i ∨ s (i + 1) ≤ s j := by
  rcases Nat.lt_or_gt_of_ne hji with h1 | h1
  · exact .inl (le_s h h1)
  · exact .inr (le_s h h1)
/-- one more item is marked -/
theorem MI.next {l : List It} {k i b : Nat} {C C' : Array Value} {s : Nat → Nat} {w Y : World} {it : It} (h : MI l k i b C s w) (he : l[i]? = some it) (hM : Mid2 b (s i) (s (i + 1)) w Y) (hb : Y.heap[b]? = some (.cells C' 58 (0, 0))) (hs : C'.size = C.size)
    (hold : ∀ j, j ≠ i → ∀ t, t < 10 → C'[j * 10 + t]? = C[j * 10 + t]?) (hn : MIt C' (s i) (s (i + 1)) (k + itW (l.take i)) Y i it true) : MI l k (i + 1) b C' s Y := by
  obtain ⟨h1, h2, h3, h4⟩ := h
  refine ⟨hb, by omega, h3, fun j it' hj => ?_⟩
  by_cases hji : j = i
  · subst hji
    rw [he] at hj
    obtain rfl := Option.some.inj hj
    rw [decide_eq_true (by omega)]
    exact hn
  · have hd : decide (j < i + 1) = decide (j < i) := decide_eq_decide.2 (by omega)
    rw [hd]
    obtain ⟨ac, cc, ap, cp, e1, e2, e3, e4, e5, e6, e7, e8, e9, e10, e11⟩ := h4 j it' hj
    have hout : ∀ g, s j ≤ g → g < s (j + 1) → g < s i ∨ s (i + 1) ≤ g := fun g hg1 hg2 => by
      rcases out_s h3 hji with h5 | h5
      · exact .inl (Nat.lt_of_lt_of_le hg2 h5)
      · exact .inr (Nat.le_trans h5 hg1)
    refine ⟨ac, cc, ap, cp, e1, e2, e3, e4, by rw [hold j hji 2 (by omega)]; exact e5, by rw [hold j hji 8 (by omega)]; exact e6, e7, e8, ?_, ?_, fun hd t u hu => ?_⟩
    · intro hn
      obtain ⟨g, D, ha, hg, hr⟩ := e9 hn
      obtain ⟨g', ha', hg1, hg2⟩ := e7 hn
      have hgg : g = g' := by rw [ha] at ha'; injection ha' with h5; injection h5
      subst hgg
      exact ⟨g, D, ha, (hM.block g (Array.getElem?_eq_some_iff.1 hg).1 (other_kind h1 hg (by decide)) (hout g hg1 hg2)).trans hg, hr⟩
    · intro hn
      obtain ⟨g, D, ha, hg, hr⟩ := e10 hn
      obtain ⟨g', ha', hg1, hg2⟩ := e8 hn
      have hgg : g = g' := by rw [ha] at ha'; injection ha' with h5; injection h5
      subst hgg
      exact ⟨g, D, ha, (hM.block g (Array.getElem?_eq_some_iff.1 hg).1 (other_kind h1 hg (by decide)) (hout g hg1 hg2)).trans hg, hr⟩
    · have ht : t < 10 := by have := (List.getElem?_eq_some_iff.1 hu).1; simpa [mkIt] using this
      rw [hold j hji t ht]
      exact e11 hd t u hu
theorem markCms_at (n : Nat) (a : Option Addr) (c k : Nat) (z : Int) (hz : z = ((k : Nat) : Int)) (h1 : 1 ≤ k) (h2 : k + 5 * n ≤ 100000000) (hnc : n ≤ c) (hcm : c ≤ maxLen) (w : World) (hr : RowM 86 5 mkCms k a n 0 w) :
    Calls Try.prog 33 #[.slice a n c, .int .i64 z] w fun x w' => ∃ z' : Int, x = .returned (.int .i64 z') ∧ z' = ((k + 5 * n : Nat) : Int) ∧ RowM 86 5 mkCms k a n n w' ∧ w.grownBy w' (ownB a n) := by
  subst hz
  refine (markCms_any n a c k h1 h2 hnc hcm w hr).mono ?_
  rintro e w' ⟨rfl, hm, hg⟩
  exact ⟨_, rfl, rfl, hm, hg⟩
theorem markPqs_at (n : Nat) (a : Option Addr) (c k : Nat) (z : Int) (hz : z = ((k : Nat) : Int)) (h1 : 1 ≤ k) (h2 : k + 4 * n ≤ 100000000) (hnc : n ≤ c) (hcm : c ≤ maxLen) (w : World) (hr : RowM 90 4 mkPqs k a n 0 w) :
    Calls Try.prog 35 #[.slice a n c, .int .i64 z] w fun x w' => ∃ z' : Int, x = .returned (.int .i64 z') ∧ z' = ((k + 4 * n : Nat) : Int) ∧ RowM 90 4 mkPqs k a n n w' ∧ w.grownBy w' (ownB a n) := by
  subst hz
  refine (markPqs_any n a c k h1 h2 hnc hcm w hr).mono ?_
  rintro e w' ⟨rfl, hm, hg⟩
  exact ⟨_, rfl, rfl, hm, hg⟩
theorem set_gets {C : Array Value} {i j : Nat} {v : Value} (h : i ≠ j) : (C.setIfInBounds i v)[j]? = C[j]? := Array.getElem?_setIfInBounds_ne h
/-- the cells of an item that was marked -/
theorem marked_cells {C : Array Value} {i k : Nat} {it : It} {vc vp : Value} {z z1 z2 : Int} (hs : i * 10 + 10 ≤ C.size) (hz : z = ((k : Nat) : Int)) (hz1 : z1 = ((k + 2 + 5 * it.cs.length : Nat) : Int)) (hz2 : z2 = ((k + 7 + 5 * it.cs.length + 4 * it.ps.length : Nat) : Int)) (hc : C[i * 10 + 2]? = some vc) (hp : C[i * 10 + 8]? = some vp) :
    ∀ t u, (mkIt k it vc vp)[t]? = some u → ((((((((C.setIfInBounds (i * 10) (.int .i64 z)).setIfInBounds (i * 10 + 1) (.int .i64 (z + 1))).setIfInBounds (i * 10 + 3) (.int .i64 z1)).setIfInBounds (i * 10 + 4) (.int .i64 (z1 + 1))).setIfInBounds (i * 10 + 5) (.int .i64 (z1 + 1 + 1))).setIfInBounds (i * 10 + 6) (.string (Pl.bs (Pl.mark (k + 5 + 5 * it.cs.length))))).setIfInBounds (i * 10 + 7) (.string (Pl.bs (Pl.mark (k + 6 + 5 * it.cs.length))))).setIfInBounds (i * 10 + 9) (.int .i64 z2))[i * 10 + t]? = some u := by
  intro t u hu
  match t, hu with
  | 0, hu =>
    obtain rfl : (.int .i64 ((k : Nat) : Int) : Value) = u := by simpa [mkIt] using hu
    rw [set_gets (by omega), set_gets (by omega), set_gets (by omega), set_gets (by omega), set_gets (by omega), set_gets (by omega), set_gets (by omega)]
    rw [Nat.add_zero, Array.getElem?_setIfInBounds_self_of_lt (by omega), hz]
  | 1, hu =>
    obtain rfl : (.int .i64 ((k + 1 : Nat) : Int) : Value) = u := by simpa [mkIt] using hu
    rw [set_gets (by omega), set_gets (by omega), set_gets (by omega), set_gets (by omega), set_gets (by omega), set_gets (by omega)]
    rw [Array.getElem?_setIfInBounds_self_of_lt (by simp; omega), hz]
    simp
  | 2, hu =>
    obtain rfl : vc = u := by simpa [mkIt] using hu
    rw [set_gets (by omega), set_gets (by omega), set_gets (by omega), set_gets (by omega), set_gets (by omega), set_gets (by omega), set_gets (by omega), set_gets (by omega)]
    exact hc
  | 3, hu =>
    obtain rfl : (.int .i64 ((k + 2 + 5 * it.cs.length : Nat) : Int) : Value) = u := by simpa [mkIt] using hu
    rw [set_gets (by omega), set_gets (by omega), set_gets (by omega), set_gets (by omega), set_gets (by omega)]
    rw [Array.getElem?_setIfInBounds_self_of_lt (by simp; omega), hz1]
  | 4, hu =>
    obtain rfl : (.int .i64 ((k + 3 + 5 * it.cs.length : Nat) : Int) : Value) = u := by simpa [mkIt] using hu
    rw [set_gets (by omega), set_gets (by omega), set_gets (by omega), set_gets (by omega)]
    rw [Array.getElem?_setIfInBounds_self_of_lt (by simp; omega), hz1]
    congr 2; omega
  | 5, hu =>
    obtain rfl : (.int .i64 ((k + 4 + 5 * it.cs.length : Nat) : Int) : Value) = u := by simpa [mkIt] using hu
    rw [set_gets (by omega), set_gets (by omega), set_gets (by omega)]
    rw [Array.getElem?_setIfInBounds_self_of_lt (by simp; omega), hz1]
    congr 2; omega
  | 6, hu =>
    obtain rfl : (.string (Pl.bs (Pl.mark (k + 5 + 5 * it.cs.length))) : Value) = u := by simpa [mkIt] using hu
    rw [set_gets (by omega), set_gets (by omega)]
    rw [Array.getElem?_setIfInBounds_self_of_lt (by simp; omega)]
  | 7, hu =>
    obtain rfl : (.string (Pl.bs (Pl.mark (k + 6 + 5 * it.cs.length))) : Value) = u := by simpa [mkIt] using hu
    rw [set_gets (by omega)]
    rw [Array.getElem?_setIfInBounds_self_of_lt (by simp; omega)]
  | 8, hu =>
    obtain rfl : vp = u := by simpa [mkIt] using hu
    rw [set_gets (by omega), set_gets (by omega), set_gets (by omega), set_gets (by omega), set_gets (by omega), set_gets (by omega), set_gets (by omega), set_gets (by omega)]
    exact hp
  | 9, hu =>
    obtain rfl : (.int .i64 ((k + 7 + 5 * it.cs.length + 4 * it.ps.length : Nat) : Int) : Value) = u := by simpa [mkIt] using hu
    rw [Array.getElem?_setIfInBounds_self_of_lt (by simp; omega), hz2]
  | t + 10, hu => simp [mkIt] at hu
theorem marked_old {C : Array Value} {i j : Nat} {v0 v1 v3 v4 v5 v6 v7 v9 : Value} (hji : j ≠ i) (t : Nat) (ht : t < 10) :
    ((((((((C.setIfInBounds (i * 10) v0).setIfInBounds (i * 10 + 1) v1).setIfInBounds (i * 10 + 3) v3).setIfInBounds (i * 10 + 4) v4).setIfInBounds (i * 10 + 5) v5).setIfInBounds (i * 10 + 6) v6).setIfInBounds (i * 10 + 7) v7).setIfInBounds (i * 10 + 9) v9)[j * 10 + t]? = C[j * 10 + t]? := by
  have hne : ∀ q, q < 10 → i * 10 + q ≠ j * 10 + t := fun q hq => by omega
  rw [set_gets (hne 9 (by omega)), set_gets (hne 7 (by omega)), set_gets (hne 6 (by omega)), set_gets (hne 5 (by omega)), set_gets (hne 4 (by omega)), set_gets (hne 3 (by omega)), set_gets (hne 1 (by omega)), set_gets (by have := hne 0 (by omega); omega)]
end Go.Proofs.Ythkklmfjdjiafaa

/- Joined: PlAg TxAt VgJ VgA AgI AgL AgM. -/
import Derived.Test.YtbckbfjnifafaaaGreatDoorActA
import Derived.Test.YtbckbfjnifafaaaGreatDoorPlVc
import Derived.Test.YtbckbfjnifafaaaGreatDoorPlT
import Derived.Test.YtbckbfjnifafaaaGreatDoorVgN
import Derived.Lib.Split
import Derived.Lib.IndexBytes
import Derived.Test.YtbckbfjnifafaaaGreatDoorOwn
import Derived.Laws.AppendOwnNone
import Derived.Test.YtbckbfjnifafaaaGreatDoorVgI
import Derived.Test.YtbckbfjnifafaaaGreatDoorBx
import Derived.Lib.AtoiErrMem
import Derived.Test.YtbckbfjnifafaaaGreatDoorCln
import Derived.Test.YtbckbfjnifafaaaGreatDoorJRec
import Derived.Deep.RegionHeld3
import Derived.Test.YtbckbfjnifafaaaGreatDoorShSplit
/- A text cut at a byte, so often at most; the one act that a text tells: plain facts. -/
namespace Go.Proofs.YtbckbfjnifafaaaGreatDoor
open Go.RowKit
set_option linter.unusedVariables false
set_option linter.unusedSimpArgs false
/-- a text cut at a byte, so often at most: what stands ahead of the next cut so far, and what is left -/
def Pl.cutG (b : UInt8) : Nat → List UInt8 → List UInt8 → List (List UInt8)
  | 0, cur, rest => [cur ++ rest]
  | _ + 1, cur, [] => [cur]
  | k + 1, cur, c :: rest => if c = b then cur :: Pl.cutG b k [] rest else Pl.cutG b (k + 1) (cur ++ [c]) rest
theorem Pl.cutG_nil (b : UInt8) (k : Nat) (cur : List UInt8) : Pl.cutG b k cur [] = [cur] := by
  cases k
  · simp [Pl.cutG]
  · simp [Pl.cutG]
theorem Pl.cutG_hit (b : UInt8) (k : Nat) (r : List UInt8) : ∀ (f cur : List UInt8), b ∉ f → Pl.cutG b (k + 1) cur (f ++ b :: r) = (cur ++ f) :: Pl.cutG b k [] r
  | [], cur, _ => by simp [Pl.cutG]
  | c :: f, cur, h => by
    have hc : ¬ c = b := fun e => h (by rw [e]; exact List.mem_cons_self ..)
    rw [List.cons_append, Pl.cutG, if_neg hc, Pl.cutG_hit b k r f (cur ++ [c]) (fun e => h (List.mem_cons_of_mem _ e))]
    simp
theorem Pl.cutG_len (b : UInt8) : ∀ (r : List UInt8) (k : Nat) (cur : List UInt8), (Pl.cutG b k cur r).length ≤ k + 1
  | [], k, cur => by rw [Pl.cutG_nil]; simp
  | c :: r, 0, cur => by simp [Pl.cutG]
  | c :: r, k + 1, cur => by
    rw [Pl.cutG]
    split
    · have := Pl.cutG_len b r k []
      simp; omega
    · exact Pl.cutG_len b r (k + 1) _
theorem Pl.cutG_on {b : UInt8} {most : Nat} {l : List UInt8} {pre : List (List UInt8)} {fr k : Nat} (h : Pl.cutG b most [] l = pre ++ Pl.cutG b (most - pre.length) ((l.drop fr).take (k - fr)) (l.drop k))
    (hk : k < l.length) (hm : pre.length < most) (hc : l[k]?.getD 0 = b) :
    Pl.cutG b most [] l = (pre ++ [(l.drop fr).take (k - fr)]) ++ Pl.cutG b (most - (pre ++ [(l.drop fr).take (k - fr)]).length) ((l.drop (k + 1)).take (k + 1 - (k + 1))) (l.drop (k + 1)) := by
  rw [Pl.drop_cons l k hk, hc] at h
  obtain ⟨n, hn⟩ : ∃ n, most - pre.length = n + 1 := ⟨most - pre.length - 1, by omega⟩
  rw [hn, Pl.cutG, if_pos rfl] at h
  have hn2 : most - (pre ++ [(l.drop fr).take (k - fr)]).length = n := by simp; omega
  rw [hn2, h, Nat.sub_self, List.take_zero]
  simp
theorem Pl.cutG_by {b : UInt8} {most : Nat} {l : List UInt8} {pre : List (List UInt8)} {fr k : Nat} (h : Pl.cutG b most [] l = pre ++ Pl.cutG b (most - pre.length) ((l.drop fr).take (k - fr)) (l.drop k))
    (hk : k < l.length) (hf : fr ≤ k) (hm : pre.length < most) (hc : l[k]?.getD 0 ≠ b) :
    Pl.cutG b most [] l = pre ++ Pl.cutG b (most - pre.length) ((l.drop fr).take (k + 1 - fr)) (l.drop (k + 1)) := by
  obtain ⟨n, hn⟩ : ∃ n, most - pre.length = n + 1 := ⟨most - pre.length - 1, by omega⟩
  rw [Pl.drop_cons l k hk, hn, Pl.cutG, if_neg hc] at h
  rw [h, hn]
  have e : k + 1 - fr = (k - fr) + 1 := by omega
  have e2 : (l.drop fr)[k - fr]? = l[k]? := by rw [List.getElem?_drop]; congr 1; omega
  have e3 : (l.drop fr).take (k + 1 - fr) = (l.drop fr).take (k - fr) ++ [l[k]?.getD 0] := by
    rw [e, List.take_add_one, e2, List.getElem?_eq_getElem hk]
    simp
  rw [e3]
theorem Pl.cutG_end {b : UInt8} {most : Nat} {l : List UInt8} {pre : List (List UInt8)} {fr k : Nat} (h : Pl.cutG b most [] l = pre ++ Pl.cutG b (most - pre.length) ((l.drop fr).take (k - fr)) (l.drop k))
    (hf : fr ≤ k) (he : l.length ≤ k ∨ most ≤ pre.length) : Pl.cutG b most [] l = pre ++ [l.drop fr] := by
  rw [h]
  congr 1
  have hs : (l.drop fr).take (k - fr) ++ l.drop k = l.drop fr := by
    have h1 := List.take_append_drop (k - fr) (l.drop fr)
    rw [List.drop_drop, show fr + (k - fr) = k by omega] at h1
    exact h1
  rcases he with he | he
  · have : l.drop k = [] := List.drop_eq_nil_of_le he
    rw [this, List.append_nil] at hs
    rw [this, Pl.cutG_nil, hs]
  · rw [show most - pre.length = 0 by omega, Pl.cutG, hs]
theorem Pl.indexByte_hit (b : UInt8) (r : List UInt8) : ∀ f : List UInt8, b ∉ f → Lib.indexByte (f ++ b :: r) b = (f.length : Int)
  | [], _ => by simp [Lib.indexByte]
  | c :: f, h => by
    have hc : (c == b) = false := beq_eq_false_iff_ne.2 fun e => h (by rw [e]; exact List.mem_cons_self ..)
    have ih := Pl.indexByte_hit b r f (fun e => h (List.mem_cons_of_mem _ e))
    rw [List.cons_append, Lib.indexByte, hc, ih]
    have : ¬ ((f.length : Int) == -1) = true := by
      intro e
      have := beq_iff_eq.1 e
      omega
    simp [this]
theorem Pl.splitK_hit (b : UInt8) (k : Nat) (f r : List UInt8) (h : b ∉ f) : Lib.splitK [b] 0 (k + 1) (f ++ b :: r) = f :: Lib.splitK [b] 0 k r := by
  have hi : Lib.index (f ++ b :: r) [b] = (f.length : Int) := by rw [Lib.index_one]; exact Pl.indexByte_hit b r f h
  have hn : ¬ (Lib.index (f ++ b :: r) [b] == -1) = true := by
    rw [hi]
    intro e
    have := beq_iff_eq.1 e
    omega
  rw [Lib.splitK, if_neg hn, hi]
  simp
theorem Pl.dec_noblank (u : Nat) : (32 : UInt8) ∉ Lib.decDigits u := by
  induction u using Nat.strongRecOn with
  | _ u ih =>
    by_cases h : u < 10
    · rw [Pl.dec_small h]
      intro e
      have := congrArg UInt8.toNat (List.mem_singleton.1 e)
      rw [Pl.fig_nat h] at this
      simp at this
      omega
    · rw [Pl.dec_big h]
      intro e
      rcases List.mem_append.1 e with e | e
      · exact ih (u / 10) (by omega) e
      · have := congrArg UInt8.toNat (List.mem_singleton.1 e)
        rw [Pl.fig_nat (by omega)] at this
        simp at this
        omega
theorem Pl.itoa_noblank (n : Int) : (32 : UInt8) ∉ Lib.itoa n := by
  unfold Lib.itoa
  split
  · intro e
    rcases List.mem_cons.1 e with e | e
    · cases e
    · exact Pl.dec_noblank _ e
  · exact Pl.dec_noblank _
theorem Pl.okL_noblank (o : Bool) : (32 : UInt8) ∉ Pl.okL o := by cases o <;> decide
theorem Pl.name_noblank {nm : ByteArray} (h : Pl.nameB nm = true) : (32 : UInt8) ∉ nm.data.toList := by
  intro e
  obtain ⟨j, hj, he⟩ := List.getElem_of_mem e
  have hl : j < nm.size := by simpa using hj
  have hb : Pl.byteAt nm j = 32 := by
    obtain ⟨c, hc, hc2⟩ := Pl.drop_byte nm j hl
    rw [hc2]
    have h3 : nm.data.toList.drop j = nm.data.toList[j] :: nm.data.toList.drop (j + 1) := List.drop_eq_getElem_cons hj
    rw [h3] at hc
    injection hc with hc _
    rw [← hc, he]
    rfl
  have := Pl.name_not j hl (by rw [hb]; simp [Pl.nameAt, Pl.figB, Pl.letB])
  rw [h] at this
  cases this
theorem Pl.act_name {k r p : Int} {nm : ByteArray} {o : Bool} {vk vn : Int} {vt : ByteArray} {m : Int} (h : Pl.actB k r p nm o vk vn vt m = true) : (32 : UInt8) ∉ nm.data.toList := by
  have he : nm.toList.isEmpty = true → (32 : UInt8) ∉ nm.data.toList := fun e => by rw [Pl.empty_of e]; simp
  unfold Pl.actB at h
  split at h
  · simp only [Bool.and_eq_true] at h
    exact Pl.name_noblank h.2.1
  · split at h
    · simp only [Bool.and_eq_true] at h
      exact Pl.name_noblank h.2.2.1
    · split at h
      · simp only [Bool.and_eq_true] at h
        exact he h.1.1
      · split at h
        · simp only [Bool.and_eq_true] at h
          exact he h.1.2.1
        · split at h
          · simp only [Bool.and_eq_true] at h
            exact he h.1.2.2.1
          · cases h
/-- the seven parts of an act's line -/
def Pl.actF (k r p : Int) (nm : ByteArray) (o : Bool) (vk vn : Int) (vt : ByteArray) (m : Int) : List (List UInt8) :=
  [Lib.itoa k, Lib.itoa r, Lib.itoa p, nm.data.toList, Pl.okL o, Lib.itoa m, Pl.putV vk vn vt]
theorem Pl.act_form (k r p : Int) (nm : ByteArray) (o : Bool) (vk vn : Int) (vt : ByteArray) (m : Int) :
    Pl.actT k r p nm o vk vn vt m = Lib.itoa k ++ 32 :: (Lib.itoa r ++ 32 :: (Lib.itoa p ++ 32 :: (nm.data.toList ++ 32 :: (Pl.okL o ++ 32 :: (Lib.itoa m ++ 32 :: Pl.putV vk vn vt))))) := by
  simp [Pl.actT]
theorem Pl.act_cut {k r p : Int} {nm : ByteArray} {o : Bool} {vk vn : Int} {vt : ByteArray} {m : Int} (h : Pl.actB k r p nm o vk vn vt m = true) : Pl.cutG 32 6 [] (Pl.actT k r p nm o vk vn vt m) = Pl.actF k r p nm o vk vn vt m := by
  rw [Pl.act_form, Pl.cutG_hit _ _ _ _ _ (Pl.itoa_noblank k), Pl.cutG_hit _ _ _ _ _ (Pl.itoa_noblank r), Pl.cutG_hit _ _ _ _ _ (Pl.itoa_noblank p), Pl.cutG_hit _ _ _ _ _ (Pl.act_name h), Pl.cutG_hit _ _ _ _ _ (Pl.okL_noblank o), Pl.cutG_hit _ _ _ _ _ (Pl.itoa_noblank m)]
  simp [Pl.cutG, Pl.actF]
theorem Pl.act_split {k r p : Int} {nm : ByteArray} {o : Bool} {vk vn : Int} {vt : ByteArray} {m : Int} (h : Pl.actB k r p nm o vk vn vt m = true) : Lib.splitK [32] 0 6 (Pl.actT k r p nm o vk vn vt m) = Pl.actF k r p nm o vk vn vt m := by
  rw [Pl.act_form, Pl.splitK_hit _ _ _ _ (Pl.itoa_noblank k), Pl.splitK_hit _ _ _ _ (Pl.itoa_noblank r), Pl.splitK_hit _ _ _ _ (Pl.itoa_noblank p), Pl.splitK_hit _ _ _ _ (Pl.act_name h), Pl.splitK_hit _ _ _ _ (Pl.okL_noblank o), Pl.splitK_hit _ _ _ _ (Pl.itoa_noblank m)]
  rfl
theorem Pl.act_long (k r p : Int) (nm : ByteArray) (o : Bool) (vk vn : Int) (vt : ByteArray) (m : Int) : 6 ≤ (Pl.actT k r p nm o vk vn vt m).length := by
  rw [Pl.act_form]
  simp only [List.length_append, List.length_cons]
  omega
/-- a text tells an act -/
def Pl.TellsA (s : ByteArray) (k r p : Int) (nm : ByteArray) (o : Bool) (vk vn : Int) (vt : ByteArray) (m : Int) : Prop := Pl.actB k r p nm o vk vn vt m = true ∧ Pl.actT k r p nm o vk vn vt m = s.data.toList
theorem Pl.bs_back (l : List UInt8) : (Pl.bs l).data.toList = l := by rw [← Lib.toList_data, Pl.bs_toList]
theorem Pl.tells_val {k r p : Int} {nm : ByteArray} {o : Bool} {vk vn : Int} {vt : ByteArray} {m : Int} (h : Pl.actB k r p nm o vk vn vt m = true) : Pl.TellsV (Pl.bs (Pl.putV vk vn vt)) vk vn vt :=
  ⟨(act_parts h).2.2.2.2, (Pl.bs_back _).symm⟩
theorem Pl.numL_itoa {n : Int} (h0 : 0 ≤ n) (h1 : n ≤ 1000) : Pl.numL (Lib.itoa n) = n := by
  obtain ⟨u, rfl⟩ : ∃ u : Nat, n = (u : Int) := ⟨n.toNat, by omega⟩
  have : Lib.itoa (u : Int) = Lib.decDigits u := by unfold Lib.itoa; rw [if_neg (by omega)]; simp
  rw [this, Pl.numL_dec u (by omega)]
theorem Pl.okL_beq (o : Bool) : (Pl.okL o == [111, 107]) = o := by cases o <;> decide
theorem Pl.bs_of_data (nm : ByteArray) : Pl.bs nm.data.toList = nm := rfl
theorem Pl.tells_act_one {s : ByteArray} {k r p : Int} {nm : ByteArray} {o : Bool} {vk vn : Int} {vt : ByteArray} {m : Int} {k' r' p' : Int} {nm' : ByteArray} {o' : Bool} {vk' vn' : Int} {vt' : ByteArray} {m' : Int}
    (h : Pl.TellsA s k r p nm o vk vn vt m) (h' : Pl.TellsA s k' r' p' nm' o' vk' vn' vt' m') : k = k' ∧ r = r' ∧ p = p' ∧ nm = nm' ∧ o = o' ∧ vk = vk' ∧ vn = vn' ∧ vt = vt' ∧ m = m' := by
  have e : Pl.actF k r p nm o vk vn vt m = Pl.actF k' r' p' nm' o' vk' vn' vt' m' := by
    rw [← Pl.act_cut h.1, ← Pl.act_cut h'.1, h.2, h'.2]
  obtain ⟨⟨k0, k1⟩, ⟨r0, r1⟩, ⟨p0, p1⟩, ⟨m0, m1⟩, hv⟩ := act_parts h.1
  obtain ⟨⟨k0', k1'⟩, ⟨r0', r1'⟩, ⟨p0', p1'⟩, ⟨m0', m1'⟩, hv'⟩ := act_parts h'.1
  simp only [Pl.actF, List.cons.injEq, and_true] at e
  obtain ⟨e0, e1, e2, e3, e4, e5, e6⟩ := e
  have t1 : Pl.TellsV (Pl.bs (Pl.putV vk vn vt)) vk vn vt := Pl.tells_val h.1
  have t2 : Pl.TellsV (Pl.bs (Pl.putV vk vn vt)) vk' vn' vt' := by rw [e6]; exact Pl.tells_val h'.1
  obtain ⟨q0, q1, q2⟩ := Pl.tells_one t1 t2
  refine ⟨?_, ?_, ?_, ?_, ?_, q0, q1, q2, ?_⟩
  · rw [← Pl.numL_itoa (n := k) (by omega) (by omega), e0, Pl.numL_itoa (by omega) (by omega)]
  · rw [← Pl.numL_itoa (n := r) (by omega) (by omega), e1, Pl.numL_itoa (by omega) (by omega)]
  · rw [← Pl.numL_itoa (n := p) (by omega) (by omega), e2, Pl.numL_itoa (by omega) (by omega)]
  · rw [← Pl.bs_of_data nm, e3]; rfl
  · rw [← Pl.okL_beq o, e4, Pl.okL_beq]
  · rw [← Pl.numL_itoa (n := m) (by omega) (by omega), e5, Pl.numL_itoa (by omega) (by omega)]
/-- an act that is read, or none -/
def AgPost (s : ByteArray) (w : World) (e : Ending) (w' : World) : Prop :=
  ((∃ k r p nm o vk vn vt m, Pl.TellsA s k r p nm o vk vn vt m ∧ e = .returned (.tuple #[actV k r p nm o vk vn vt m, .bool true])) ∨ ((∀ k r p nm o vk vn vt m, ¬ Pl.TellsA s k r p nm o vk vn vt m) ∧ e = .returned (.tuple #[actV 0 0 0 ⟨#[]⟩ false 0 0 ⟨#[]⟩ 0, .bool false]))) ∧ Below w.heap.size w w'
end Go.Proofs.YtbckbfjnifafaaaGreatDoor

/- Lists of texts, wherever they lie. -/
namespace Go.Proofs.YtbckbfjnifafaaaGreatDoor
open Go.RowKit
set_option linter.unusedVariables false

/-- a slice that holds these texts -/
def TextsAt (w : World) (v : Value) (L : List (List UInt8)) : Prop :=
  ∃ ad cap, v = .slice ad L.length cap ∧ L.length ≤ cap ∧ cap ≤ maxLen ∧ (0 < L.length → ∃ g off, ad = some ⟨g, off, none⟩ ∧ g < w.heap.size ∧ ∀ i, i < L.length → w.cell? ⟨g, off + i, none⟩ = some (sv (L[i]?.getD []))) ∧ (ad = none → cap = 0)
theorem TextsAt.later {w w1 : World} {v : Value} {L : List (List UInt8)} (h : TextsAt w v L) (hb : Below w.heap.size w w1) : TextsAt w1 v L := by
  obtain ⟨ad, cap, hv, h1, h2, hc, hn⟩ := h
  refine ⟨ad, cap, hv, h1, h2, fun hl => ?_, hn⟩
  obtain ⟨g, off, ha, hg, hc⟩ := hc hl
  exact ⟨g, off, ha, by have := hb.size; omega, fun i hi => (hb.cell (p := ⟨g, off + i, none⟩) hg).trans (hc i hi)⟩
theorem texts_of_row {w : World} {base : Nat} {v : Value} {L : List (List UInt8)} (h : w.ownsRow base 9 1 v L.length (L.map sv)) : TextsAt w v L := by
  obtain ⟨hl, h⟩ := h
  rcases h with ⟨rfl, h0⟩ | ⟨g, cap, cur, rfl, hb, hg, hnc, hm, hs, ht⟩
  · exact ⟨none, 0, by rw [h0], by omega, by unfold maxLen; omega, fun h => by omega, fun _ => rfl⟩
  · refine ⟨_, cap, rfl, hnc, hm, fun _ => ⟨g, 0, rfl, (Array.getElem?_eq_some_iff.1 hg).1, fun i hi => ?_⟩, fun h => by cases h⟩
    have h1 : (L.map sv)[i]? = cur[i]? := by
      rw [← ht, List.getElem?_take, if_pos (by omega)]; simp
    have h2 : i < cur.size := by omega
    have h3 : cur[i]? = some (sv (L[i]?.getD [])) := by
      rw [← h1]; simp [List.getElem?_map, List.getElem?_eq_getElem hi]
    simp [World.cell?, hg, h3]
theorem TextsAt.head {w : World} {ad : Option Addr} {n cap : Nat} {X Y : List (List UInt8)} (h : TextsAt w (.slice ad n cap) (X ++ Y)) : TextsAt w (.slice ad X.length cap) X := by
  obtain ⟨a', c', hv, h1, h2, h3, h4⟩ := h
  cases hv
  rw [List.length_append] at h1 h3
  refine ⟨ad, cap, rfl, by omega, h2, fun hl => ?_, h4⟩
  obtain ⟨g, off, ha, hg, hc⟩ := h3 (by omega)
  refine ⟨g, off, ha, hg, fun i hi => ?_⟩
  have := hc i (by omega)
  rw [List.getElem?_append_left hi] at this
  exact this
theorem TextsAt.tail {w : World} {ad : Option Addr} {n cap : Nat} {X Y : List (List UInt8)} (h : TextsAt w (.slice ad n cap) (X ++ Y)) : TextsAt w (.slice (Option.map (fun x => x.add X.length) ad) Y.length (cap - X.length)) Y := by
  obtain ⟨a', c', hv, h1, h2, h3, h4⟩ := h
  cases hv
  rw [List.length_append] at h1 h3
  refine ⟨_, _, rfl, by omega, by omega, fun hl => ?_, fun h => ?_⟩
  · skip
    obtain ⟨g', off', ha, hg, hc⟩ := h3 (by omega)
    subst ha
    refine ⟨g', off' + X.length, by unfold Addr.add; simp only [Option.map_some]; split <;> simp_all, hg, fun i hi => ?_⟩
    have := hc (X.length + i) (by omega)
    rw [List.getElem?_append_right (by omega), Nat.add_sub_cancel_left, ← Nat.add_assoc] at this
    exact this
  · cases ad with
    | none => rw [h4 rfl]; omega
    | some a => cases h
theorem TextsAt.none {w : World} {ad : Option Addr} {Y : List (List UInt8)} (h : Y.length = 0) : TextsAt w (.slice ad Y.length 0) Y :=
  ⟨ad, 0, rfl, by omega, by unfold maxLen; omega, fun hl => by omega, fun _ => rfl⟩
theorem TextsAt.grown {w w1 : World} {v : Value} {L : List (List UInt8)} {row : Option Nat} (h : TextsAt w v L) (hb : w.grownBy w1 row) (hne : ∀ g, v.ownBlock = some g → some g ≠ row) : TextsAt w1 v L := by
  obtain ⟨ad, cap, rfl, h1, h2, hc, hn⟩ := h
  refine ⟨ad, cap, rfl, h1, h2, fun hl => ?_, hn⟩
  obtain ⟨g, off, rfl, hg, hc⟩ := hc hl
  refine ⟨g, off, rfl, by have := hb.size; omega, fun i hi => ?_⟩
  have hk := hb.block g hg (hne g rfl)
  have h0 := hc i hi
  simp only [World.cell?] at h0 ⊢
  rw [hk]; exact h0
/-- texts put behind a row of the call's own, whatever slice they lie in -/
theorem app_texts {W : World} {base : Nat} {v u : Value} {A B : List (List UInt8)} (hv : W.ownsRow base 9 1 v A.length (A.map sv)) (hu : TextsAt W u B) (hn : A.length + B.length ≤ 4194304) (hb : base ≤ W.heap.size) :
    ∃ v' w2, (Builtin.append_ #[22, 22] 22 #[v, u]).run Tryz.prog W = .ok v' w2 ∧ w2.ownsRow base 9 1 v' (A ++ B).length ((A ++ B).map sv) ∧ W.grownBy w2 v.ownBlock := by
  obtain ⟨i0, hi, hz0, hz1, hz2⟩ := info_parts infoStr
  obtain ⟨ad, cap, rfl, h1, h2, hc, hnone⟩ := hu
  cases ad with
  | none =>
    have hB : B = [] := by
      apply Classical.byContradiction
      intro h
      obtain ⟨g, off, ha, _⟩ := hc (List.length_pos_iff.2 h)
      cases ha
    subst hB
    have hcap := hnone rfl
    subst hcap
    refine ⟨v, W, run_append_owned_none (P := Tryz.prog) (w := W) base 22 22 9 i0 1 Tryz.underlying22 hi v A.length _ hv, by simpa using hv, ?_⟩
    exact ⟨rfl, rfl, rfl, Nat.le_refl _, fun _ _ _ => rfl⟩
  | some a =>
    obtain ⟨v', w2, hrun, hown, hgrow, _⟩ := run_append_own (P := Tryz.prog) W base 22 22 9 i0 (.string ⟨#[]⟩) 1 16 Tryz.underlying22 hi hz0 hz1 hz2 rfl (by decide) v A.length (A.map sv) hv a B.length cap (B.map sv) (by simp) (fun j x hj => by
      have hjl : j < B.length := by
        have := (List.getElem?_eq_some_iff.1 hj).1
        simpa using this
      obtain ⟨g, off, ha, _, hcell⟩ := hc (by omega)
      cases ha
      have h3 := hcell j hjl
      rw [List.getElem?_map, List.getElem?_eq_getElem hjl, Option.map_some] at hj
      rw [List.getElem?_eq_getElem hjl, Option.getD_some] at h3
      unfold Addr.add
      split
      · next h0 => subst h0; rw [Nat.add_zero] at h3; rw [h3]; exact hj
      · rw [h3]; exact hj) (fun x hx => by
        obtain ⟨y, _, rfl⟩ := List.mem_map.1 hx
        rfl) (by unfold maxLen; omega) (by omega) hb
    exact ⟨v', w2, hrun, by simpa using hown, hgrow⟩
/-- an append inside a region that draws -/
theorem step_app {ops : Array Oper} {o : Oper} {a : Act} {W : World} {K : Act → World → Prop} {Q : Exit → Act → World → Prop} {E : Prop} (hg : o.guard = none) (s x : Operand)
    (hop : o.op = Op.call { callee := Callee.builtin Builtin.append, args := #[s, x], argTypes := #[22, 22] }) (hty : o.type = 22) (base : Nat) (A B : List (List UInt8))
    (hv : W.ownsRow base 9 1 (a.eval s) A.length (A.map sv)) (hu : TextsAt W (a.eval x) B) (hn : A.length + B.length ≤ 4194304) (hb : base ≤ W.heap.size)
    (hK : ∀ v' w2, w2.ownsRow base 9 1 v' (A ++ B).length ((A ++ B).map sv) → W.grownBy w2 (a.eval s).ownBlock → (∀ w0 : World, w0.heap.size ≤ base → Below w0.heap.size w0 W → Below w0.heap.size w0 w2) → K (a.put o.dst v') w2) :
    if Region.wanted o (yielded ops a.tmps) = true then Oper.wp Tryz.prog o a W K Q else E := by
  have hw : Region.wanted o (yielded ops a.tmps) = true := by simp [Region.wanted, hg]
  rw [if_pos hw]
  obtain ⟨v', w2, hrun, h1, h2⟩ := app_texts hv hu hn hb
  rw [← hty] at hrun
  unfold Oper.wp
  simp [execOp, hop, resolve, invoke, builtin, hty, hty ▸ hrun, Result.andThen]
  exact hK _ _ h1 h2 fun w0 h0 hB => hB.grown h2 hB.size (fun k e => by have := (hv.lt k e).1; omega)
theorem own_single (W : World) (base : Nat) (u : Value) (h : base ≤ W.heap.size) : (W.alloc (.cells #[u] 9)).ownsRow base 9 1 (.slice (some ⟨W.heap.size, 0, none⟩) 1 1) 1 [u] :=
  ⟨rfl, .inr ⟨W.heap.size, 1, #[u], rfl, h, by show (W.heap.push _)[W.heap.size]? = _; rw [Array.getElem?_push_size], Nat.le_refl _, by unfold maxLen; omega, rfl, rfl⟩⟩
/-- the same in a plain region -/
theorem wpList_app {ops : Array Oper} {rest : List Oper} {o : Oper} {a : Act} {W : World} {Q : Exit → Act → World → Prop} (hgd : o.guard = none) (s x : Operand)
    (ho : o.op = .call { callee := .builtin .append, args := #[s, x], argTypes := #[22, 22] }) (hty : o.type = 22) (base : Nat) (A B : List (List UInt8)) (v u : Value) (hs : a.eval s = v) (hx : a.eval x = u)
    (hv : W.ownsRow base 9 1 v A.length (A.map sv)) (hu : TextsAt W u B) (hn : A.length + B.length ≤ 4194304) (hb : base ≤ W.heap.size)
    (h : ∀ v' w2, w2.ownsRow base 9 1 v' (A ++ B).length ((A ++ B).map sv) → W.grownBy w2 v.ownBlock → wpList Tryz.prog ops Q rest (a.put o.dst v') w2) : wpList Tryz.prog ops Q (o :: rest) a W := by
  refine wpList_plain hgd fun K hK => ?_
  obtain ⟨v', w2, hrun, h1, h2⟩ := app_texts hv hu hn hb
  unfold Oper.wp
  simp [execOp, ho, resolve, invoke, builtin, hs, hx, hty, hrun, Result.andThen]
  exact hK _ _ (h _ _ h1 h2)
end Go.Proofs.YtbckbfjnifafaaaGreatDoor

/- A value read, as the program has it. -/
namespace Go.Proofs.YtbckbfjnifafaaaGreatDoor
open Go.RowKit
set_option linter.unusedVariables false
set_option linter.unusedSimpArgs false

/-- the library's two errors stand as interface values -/
def ErrAt (w : World) (g : Nat) : Prop := ∃ ev, w.cell? ⟨g, 0, none⟩ = some ev ∧ (ev = .nilIface ∨ ∃ te pe, ev = .iface te pe)
theorem ErrAt.later {w w1 : World} {g : Nat} (h : ErrAt w g) (hB : Below w.heap.size w w1) : ErrAt w1 g := by
  obtain ⟨ev, hc, he⟩ := h
  exact ⟨ev, (hB.cell (p := ⟨g, 0, none⟩) (World.block_lt_of_cell? w ⟨g, 0, none⟩ hc)).trans hc, he⟩
def Errs (w : World) : Prop := ErrAt w 4 ∧ ErrAt w 5
theorem Errs.later {w w1 : World} (h : Errs w) (hB : Below w.heap.size w w1) : Errs w1 := ⟨h.1.later hB, h.2.later hB⟩

theorem atoi_ok (s : ByteArray) (hs : s.size ≤ 1048576) (v : Int) (h : Lib.atoiAll s.data.toList = .ok v) (w : World) :
    Calls Tryz.prog 163 #[.string s] w fun e w' => e = .returned (.tuple #[.int .i64 v, .nilIface]) ∧ Below w.heap.size w w' := by
  refine (Tryz.strconv_Atoi_ok s (by omega) v h w).mono ?_
  rintro e w' ⟨rfl, h⟩
  refine ⟨rfl, ?_⟩
  rcases h with rfl | ⟨t, rfl⟩
  · exact Below.refl _ _
  · exact Lib.bytesWorld_below _ _ _
theorem atoi_no (s : ByteArray) (hs : s.size ≤ 1048576) (h : ∀ v, Lib.atoiAll s.data.toList ≠ .ok v) (w : World) (hE : Errs w) :
    Calls Tryz.prog 163 #[.string s] w fun e w' => ∃ (x : Int) (N : Nat), e = .returned (.tuple #[.int .i64 x, .iface 244 (.pointer (some ⟨N, 0, none⟩))]) ∧ Below w.heap.size w w' := by
  obtain ⟨⟨e1, hc1, he1⟩, ⟨e2, hc2, he2⟩⟩ := hE
  cases ha : Lib.atoiAll s.data.toList with
  | ok v => exact absurd ha (h v)
  | «syntax» =>
    refine (Tryz.strconv_Atoi_syntax s (by omega) ha e1 w hc1 he1).mono ?_
    rintro e w' ⟨N, rfl, _, _, hB⟩
    exact ⟨_, N, rfl, hB⟩
  | range =>
    refine (Tryz.strconv_Atoi_range s (by omega) ha e2 w hc2 he2).mono ?_
    rintro e w' ⟨N, rfl, _, _, hB⟩
    exact ⟨_, N, rfl, hB⟩

set_option maxHeartbeats 800000 in
theorem like_text (s : ByteArray) (hs : s.size ≤ 1048576) (h2 : 2 ≤ s.size) (hq0 : (((s[0]'(by omega)).toNat : Int) == 34) = true) (w : World) :
    Calls Tryz.prog 195 #[.string s] w fun e w' => e = .returned (vAgg 2 0 (s.extract 1 (s.size - 1))) ∧ Below w.heap.size w w' := by
  go_enter Tryz.func195, Tryz.ntmps195
  go_wp2
  refine bodyPost_ret (v := vAgg 2 0 (s.extract 1 (s.size - 1))) (by simp [results, Tryz.results195, go_sem]) rfl ?_
  exact ⟨rfl, (Below.refl _ _).alloc (Nat.le_refl _) _⟩
/-- the text does not begin as a text in quotes does -/
def NoQ (s : ByteArray) : Prop := (¬ 2 ≤ s.size) ∨ ∃ h : 2 ≤ s.size, (((s[0]'(by omega)).toNat : Int) == 34) = false
theorem box_after {w w1 : World} {A : Obj} (hb : Below (w.alloc A).heap.size (w.alloc A) w1) : w1.heap[w.heap.size]? = some A ∧ Below w.heap.size w w1 ∧ w.heap.size < w1.heap.size := by
  have hs := hb.size
  have e1 : (w.alloc A).heap.size = w.heap.size + 1 := by simp
  refine ⟨?_, ((Below.refl _ _).alloc (Nat.le_refl _) _).trans (hb.mono (by omega)), by omega⟩
  rw [hb.block _ (by omega), heap_alloc_at, if_pos rfl]
theorem box2_after {w w1 : World} {A B : Obj} (hb : Below ((w.alloc A).alloc B).heap.size ((w.alloc A).alloc B) w1) :
    w1.heap[w.heap.size]? = some A ∧ w1.heap[w.heap.size + 1]? = some B ∧ Below w.heap.size w w1 ∧ w.heap.size + 1 + 1 ≤ w1.heap.size := by
  have e1 : (w.alloc A).heap.size = w.heap.size + 1 := by simp
  have e2 : ((w.alloc A).alloc B).heap.size = w.heap.size + 1 + 1 := by simp
  have hs := hb.size
  rw [e2] at hs
  refine ⟨?_, ?_, ?_, hs⟩
  · rw [hb.block _ (by omega), heap_alloc_at, if_neg (by omega), heap_alloc_at, if_pos rfl]
  · rw [hb.block _ (by omega), heap_alloc_at, if_pos (by omega)]
  · have h0 : Below w.heap.size w ((w.alloc A).alloc B) := ((Below.refl _ _).alloc (Nat.le_refl _) A).alloc (by omega) B
    exact h0.trans (hb.mono h0.size)
theorem rs3 {W : World} {b : Nat} {x y z : Value} {T : TypeId} (h : W.heap[b]? = some (.cells #[x, y, z] T (0, 0))) (u0 u1 u2 : Value) :
    (((W.setCell ⟨b, 0, none⟩ u0).setCell ⟨b, 1, none⟩ u1).setCell ⟨b, 2, none⟩ u2).cell? ⟨b, 0, none⟩ = some u0 ∧ (((W.setCell ⟨b, 0, none⟩ u0).setCell ⟨b, 1, none⟩ u1).setCell ⟨b, 2, none⟩ u2).cell? ⟨b, 1, none⟩ = some u1 ∧ (((W.setCell ⟨b, 0, none⟩ u0).setCell ⟨b, 1, none⟩ u1).setCell ⟨b, 2, none⟩ u2).cell? ⟨b, 2, none⟩ = some u2 := by
  have hb := block_set (block_set (block_set h 0 u0) 1 u1) 2 u2
  exact ⟨cell_of_block hb 0, cell_of_block hb 1, cell_of_block hb 2⟩
theorem below_rs3 {w W : World} (h : Below w.heap.size w W) (u0 u1 u2 : Value) : Below w.heap.size w (((W.setCell ⟨w.heap.size, 0, none⟩ u0).setCell ⟨w.heap.size, 1, none⟩ u1).setCell ⟨w.heap.size, 2, none⟩ u2) :=
  ((h.setCell (p := ⟨w.heap.size, 0, none⟩) (Nat.le_refl _) _).setCell (p := ⟨w.heap.size, 1, none⟩) (Nat.le_refl _) _).setCell (p := ⟨w.heap.size, 2, none⟩) (Nat.le_refl _) _
set_option maxHeartbeats 1600000 in
theorem like_num (s : ByteArray) (hs : s.size ≤ 1048576) (hq : NoQ s) (v : Int) (h : Lib.atoiAll s.data.toList = .ok v) (w : World) :
    Calls Tryz.prog 195 #[.string s] w fun e w' => e = .returned (vAgg 1 v ⟨#[]⟩) ∧ Below w.heap.size w w' := by
  have ha := hide (atoi_ok s hs v h)
  clear h
  rcases hq with h2 | ⟨h2, hq0⟩
  all_goals
    go_enter Tryz.func195, Tryz.ntmps195
    go_wp2_with fail
    refine (ha.out _).mono ?_
    rintro e w1 ⟨rfl, hB1⟩
    obtain ⟨bk, hbl, hlt⟩ := box_after hB1
    have r0 := cell_of_block bk 0
    have r1 := cell_of_block bk 1
    have r2 := cell_of_block bk 2
    have f0 := free_of_block bk 0
    have f1 := free_of_block bk 1
    have f2 := free_of_block bk 2
    simp only [List.getElem?_toArray, List.getElem?_cons_zero, List.getElem?_cons_succ] at r0 r1 r2
    have HBK := hide bk
    have HBL := hide hbl
    clear hB1 bk hbl
    go_wp2
    obtain ⟨m0, m1, m2⟩ := rs3 HBK.out (.int .i64 1) (.int .i64 v) (.string ⟨#[]⟩)
    refine bodyPost_ret (v := vAgg 1 v ⟨#[]⟩) (by simp [results, Tryz.results195, go_sem, m0, m1, m2]) rfl ?_
    exact ⟨rfl, below_rs3 HBL.out _ _ _⟩
set_option maxHeartbeats 1600000 in
theorem like_none (s : ByteArray) (hs : s.size ≤ 1048576) (hq : NoQ s) (h : ∀ v, Lib.atoiAll s.data.toList ≠ .ok v) (w : World) (hE : Errs w) :
    Calls Tryz.prog 195 #[.string s] w fun e w' => e = .returned (vAgg 0 0 ⟨#[]⟩) ∧ Below w.heap.size w w' := by
  have ha := hide (fun (W : World) (hW : Below w.heap.size w W) => atoi_no s hs h W (hE.later hW))
  clear h hE
  rcases hq with h2 | ⟨h2, hq0⟩
  all_goals
    go_enter Tryz.func195, Tryz.ntmps195
    go_wp2_with fail
    refine (ha.out _ ((Below.refl _ _).alloc (Nat.le_refl _) _)).mono ?_
    rintro e w1 ⟨x, N, rfl, hB1⟩
    obtain ⟨bk, hbl, hlt⟩ := box_after hB1
    have r0 := cell_of_block bk 0
    have r1 := cell_of_block bk 1
    have r2 := cell_of_block bk 2
    have f0 := free_of_block bk 0
    have f1 := free_of_block bk 1
    have f2 := free_of_block bk 2
    simp only [List.getElem?_toArray, List.getElem?_cons_zero, List.getElem?_cons_succ] at r0 r1 r2
    have HBK := hide bk
    have HBL := hide hbl
    clear hB1 bk hbl
    go_wp2
    obtain ⟨m0, m1, m2⟩ := rs3 HBK.out (.int .i64 0) (.int .i64 0) (.string ⟨#[]⟩)
    refine bodyPost_ret (v := vAgg 0 0 ⟨#[]⟩) (by simp [results, Tryz.results195, go_sem, m0, m1, m2]) rfl ?_
    exact ⟨rfl, below_rs3 HBL.out _ _ _⟩
set_option maxHeartbeats 800000 in
theorem ownValue_any (k n : Int) (t : ByteArray) (ht : t.size ≤ 2000000) (w : World) :
    Calls Tryz.prog 136 #[vAgg k n t] w fun e w' => e = .returned (vAgg k n t) ∧ Below w.heap.size w w' := by
  have hc := hide (clone_any t (by omega))
  go_enter Tryz.func136, Tryz.ntmps136
  go_wp2_with fail
  refine (hc.out _).mono ?_
  rintro e w1 ⟨rfl, hB1⟩
  obtain ⟨ba, bb, hbl, hsz⟩ := box2_after hB1
  have a0 := cell_of_block ba 0
  have a1 := cell_of_block ba 1
  have a2 := cell_of_block ba 2
  have e2 := free_of_block ba 2
  have r0 := cell_of_block bb 0
  have r1 := cell_of_block bb 1
  have r2 := cell_of_block bb 2
  have f0 := free_of_block bb 0
  have f1 := free_of_block bb 1
  have f2 := free_of_block bb 2
  simp only [List.getElem?_toArray, List.getElem?_cons_zero, List.getElem?_cons_succ] at a0 a1 a2 r0 r1 r2
  have HBB := hide bb
  have HBL := hide hbl
  clear hB1 ba bb hbl
  go_wp2
  have hb1 : (w1.setCell ⟨w.heap.size, 2, none⟩ (.string t)).heap[w.heap.size + 1]? = some (.cells #[.int .i64 0, .int .i64 0, .string ⟨#[]⟩] 43 (0, 0)) := (Below.heap_setCell _ _ _ _ (by show w.heap.size + 1 ≠ w.heap.size; omega)).trans HBB.out
  obtain ⟨m0, m1, m2⟩ := rs3 hb1 (.int .i64 k) (.int .i64 n) (.string t)
  refine bodyPost_ret (v := vAgg k n t) (by simp [results, Tryz.results136, go_sem, m0, m1, m2]) rfl ?_
  refine ⟨rfl, ?_⟩
  exact (((HBL.out.setCell (p := ⟨w.heap.size, 2, none⟩) (Nat.le_refl _) _).setCell (p := ⟨w.heap.size + 1, 0, none⟩) (Nat.le_succ _) _).setCell (p := ⟨w.heap.size + 1, 1, none⟩) (Nat.le_succ _) _).setCell (p := ⟨w.heap.size + 1, 2, none⟩) (Nat.le_succ _) _

set_option maxRecDepth 100000 in
set_option maxHeartbeats 1600000 in
theorem implGet_of (s : ByteArray) (k n : Int) (t : ByteArray) (ht : t.size ≤ 2000000) (h0 : -9223372036854775808 ≤ n) (h1 : n ≤ 9223372036854775807) (w : World) (hT : Tab w)
    (hl : ∀ W, Below w.heap.size w W → Calls Tryz.prog 195 #[.string s] W fun e w' => e = .returned (vAgg k n t) ∧ Below W.heap.size W w') :
    Calls Tryz.prog 164 #[.string s] w fun e w' => e = .returned (if Pl.putB k n t = s.data.toList then .tuple #[vAgg k n t, .bool true] else .tuple #[vAgg 0 0 ⟨#[]⟩, .bool false]) ∧ Below w.heap.size w w' := by
  have HL := hide hl
  have hp := hide (fun (W : World) (hW : Below w.heap.size w W) => implValuePut_any k n t ht h0 h1 W (hT.later hW))
  have ho := hide (ownValue_any k n t ht)
  have hcmp : ((Pl.bs (Pl.putB k n t)).toList == s.toList) = (Pl.putB k n t == s.data.toList) := by rw [Pl.bs_toList, Lib.toList_data]
  clear hl
  by_cases he : Pl.putB k n t = s.data.toList
  · rw [if_pos he]
    have heq : (Pl.putB k n t == s.data.toList) = true := beq_iff_eq.2 he
    rw [heq] at hcmp
    clear heq
    generalize Pl.putB k n t = P at hp hcmp
    clear he
    go_enter Tryz.func164, Tryz.ntmps164
    go_wp2_with fail
    refine (HL.out _ ((Below.refl _ _).alloc (Nat.le_refl _) _)).mono ?_
    rintro e w1 ⟨rfl, hB1⟩
    obtain ⟨bk, hbl, hlt⟩ := box_after hB1
    have HBK := hide bk
    have HBL := hide hbl
    clear hB1 bk hbl
    go_wp2_with fail
    refine (hp.out _ (HBL.out.alloc HBL.out.size _)).mono ?_
    rintro e w2 ⟨rfl, hB2⟩
    obtain ⟨bv, hbw, hltv⟩ := box_after hB2
    have HBK2 := hide ((hbw.block _ hlt).trans HBK.out)
    have HBL2 := hide (HBL.out.trans (hbw.mono HBL.out.size))
    have hlt2 : w.heap.size < w2.heap.size := Nat.lt_of_lt_of_le hlt hbw.size
    have v0 := cell_of_block bv 0
    have v1 := cell_of_block bv 1
    have v2 := cell_of_block bv 2
    simp only [List.getElem?_toArray, List.getElem?_cons_zero, List.getElem?_cons_succ] at v0 v1 v2
    clear hB2 bv hbw
    go_wp2_with fail
    refine (ho.out _).mono ?_
    rintro e w3 ⟨rfl, hB3⟩
    have HBK3 := hide ((hB3.block _ hlt2).trans HBK2.out)
    have HBL3 := hide (HBL2.out.trans (hB3.mono HBL2.out.size))
    have hlt3 : w.heap.size < w3.heap.size := Nat.lt_of_lt_of_le hlt2 hB3.size
    clear hB3
    have r0 := cell_of_block HBK3.out 0
    have r1 := cell_of_block HBK3.out 1
    have r2 := cell_of_block HBK3.out 2
    have f0 := free_of_block HBK3.out 0
    have f1 := free_of_block HBK3.out 1
    have f2 := free_of_block HBK3.out 2
    simp only [List.getElem?_toArray, List.getElem?_cons_zero, List.getElem?_cons_succ] at r0 r1 r2
    go_wp2
    obtain ⟨m0, m1, m2⟩ := rs3 HBK3.out (.int .i64 k) (.int .i64 n) (.string t)
    refine bodyPost_ret (v := .tuple #[vAgg k n t, .bool true]) (by simp [results, Tryz.results164, go_sem, m0, m1, m2]) rfl ?_
    exact ⟨rfl, below_rs3 HBL3.out _ _ _⟩
  · rw [if_neg he]
    have hne : (Pl.putB k n t == s.data.toList) = false := beq_eq_false_iff_ne.2 he
    rw [hne] at hcmp
    generalize Pl.putB k n t = P at hp hcmp
    clear he hne
    go_enter Tryz.func164, Tryz.ntmps164
    go_wp2_with fail
    refine (HL.out _ ((Below.refl _ _).alloc (Nat.le_refl _) _)).mono ?_
    rintro e w1 ⟨rfl, hB1⟩
    obtain ⟨bk, hbl, hlt⟩ := box_after hB1
    have HBK := hide bk
    have HBL := hide hbl
    clear hB1 bk hbl
    go_wp2_with fail
    refine (hp.out _ (HBL.out.alloc HBL.out.size _)).mono ?_
    rintro e w2 ⟨rfl, hB2⟩
    obtain ⟨bv, hbw, hltv⟩ := box_after hB2
    have HBK2 := hide ((hbw.block _ hlt).trans HBK.out)
    have HBL2 := hide (HBL.out.trans (hbw.mono HBL.out.size))
    have hlt2 : w.heap.size < w2.heap.size := Nat.lt_of_lt_of_le hlt hbw.size
    have v0 := cell_of_block bv 0
    have v1 := cell_of_block bv 1
    have v2 := cell_of_block bv 2
    simp only [List.getElem?_toArray, List.getElem?_cons_zero, List.getElem?_cons_succ] at v0 v1 v2
    clear hB2 bv hbw
    have r0 := cell_of_block HBK2.out 0
    have r1 := cell_of_block HBK2.out 1
    have r2 := cell_of_block HBK2.out 2
    have f0 := free_of_block HBK2.out 0
    have f1 := free_of_block HBK2.out 1
    have f2 := free_of_block HBK2.out 2
    simp only [List.getElem?_toArray, List.getElem?_cons_zero, List.getElem?_cons_succ] at r0 r1 r2
    go_wp2
    obtain ⟨m0, m1, m2⟩ := rs3 HBK2.out (.int .i64 0) (.int .i64 0) (.string ⟨#[]⟩)
    refine bodyPost_ret (v := .tuple #[vAgg 0 0 ⟨#[]⟩, .bool false]) (by simp [results, Tryz.results164, go_sem, m0, m1, m2]) rfl ?_
    exact ⟨rfl, below_rs3 HBL2.out _ _ _⟩
end Go.Proofs.YtbckbfjnifafaaaGreatDoor

/- A value read: the program and the specification answer by the one value that the text tells. -/
namespace Go.Proofs.YtbckbfjnifafaaaGreatDoor
open Go.RowKit
set_option linter.unusedVariables false

def VgPost (s : ByteArray) (w : World) (e : Ending) (w' : World) : Prop :=
  ((∃ k n t, Pl.TellsV s k n t ∧ e = .returned (.tuple #[vAgg k n t, .bool true])) ∨ ((∀ k n t, ¬ Pl.TellsV s k n t) ∧ e = .returned (.tuple #[vAgg 0 0 ⟨#[]⟩, .bool false]))) ∧ Below w.heap.size w w'
theorem atoi_range {l : List UInt8} {v : Int} (h : Lib.atoiAll l = .ok v) : -9223372036854775808 ≤ v ∧ v ≤ 9223372036854775807 := by
  unfold Lib.atoiAll at h
  split at h
  · cases h
  · simp only at h
    split at h
    · cases h
    · cases h
    · split at h
      · cases h
      · split at h
        · cases h
        · next u _ h1 h2 =>
          injection h with h
          rw [← h]
          split <;> omega
theorem impl_fin {s : ByteArray} {k n : Int} {t : ByteArray} {w w' : World} {e : Ending} (hc : ∀ k' n' t', Pl.TellsV s k' n' t' → k' = k ∧ n' = n ∧ t' = t) (hne : Pl.okB k n t = false → s.data.toList ≠ [])
    (h : e = .returned (if Pl.putB k n t = s.data.toList then .tuple #[vAgg k n t, .bool true] else .tuple #[vAgg 0 0 ⟨#[]⟩, .bool false]) ∧ Below w.heap.size w w') : VgPost s w e w' := by
  obtain ⟨rfl, hB⟩ := h
  refine ⟨?_, hB⟩
  cases hb : Pl.okB k n t
  · have hp : ¬ Pl.putB k n t = s.data.toList := by
      unfold Pl.putB
      rw [hb]
      simp only [Bool.false_eq_true, if_false]
      exact fun h => hne hb h.symm
    rw [if_neg hp]
    refine .inr ⟨fun k' n' t' ht => ?_, rfl⟩
    obtain ⟨rfl, rfl, rfl⟩ := hc _ _ _ ht
    rw [ht.1] at hb
    cases hb
  · have hpv : Pl.putB k n t = Pl.putV k n t := by unfold Pl.putB; rw [if_pos hb]
    rw [hpv]
    by_cases hp : Pl.putV k n t = s.data.toList
    · rw [if_pos hp]
      exact .inl ⟨k, n, t, ⟨hb, hp⟩, rfl⟩
    · rw [if_neg hp]
      refine .inr ⟨fun k' n' t' ht => ?_, rfl⟩
      obtain ⟨rfl, rfl, rfl⟩ := hc _ _ _ ht
      exact hp ht.2
theorem beq_int_true {x y : Int} (h : (x == y) = true) : x = y := by simpa using h
theorem beq_int_false {x y : Int} (h : (x == y) = false) : ¬ x = y := by simpa using h
theorem noq_text {s t : ByteArray} (hq : NoQ s) (h : s.data.toList = 34 :: (t.data.toList ++ [34])) : False := by
  have h2 := Pl.size_ge h
  rcases hq with h' | ⟨h', hb⟩
  · exact h' h2
  · have := Pl.byte0 34 _ h (by omega)
    exact beq_int_false hb this
theorem none_no : Lib.atoiAll [110, 111, 110, 101] = .«syntax» := by decide

theorem implValueGet_any (s : ByteArray) (hs : s.size ≤ 1048576) (w : World) (hT : Tab w) (hE : Errs w) : Calls Tryz.prog 164 #[.string s] w (VgPost s w) := by
  by_cases hq : ∃ h : 2 ≤ s.size, (((s[0]'(by omega)).toNat : Int) == 34) = true
  · obtain ⟨h2, hq0⟩ := hq
    refine (implGet_of s 2 0 (s.extract 1 (s.size - 1)) (by simp; omega) (by omega) (by omega) w hT (fun W _ => like_text s hs h2 hq0 W)).mono fun e w' h => impl_fin ?_ ?_ h
    · intro k' n' t' ht
      have hb := beq_int_true hq0
      rcases Pl.tells_form ht with ⟨_, _, _, e⟩ | ⟨_, _, _, e⟩ | ⟨h1, h2, e⟩
      · rw [Pl.byte0 110 _ e (by omega)] at hb
        simp at hb
      · obtain ⟨c, r, e2, hc, _⟩ := Pl.itoa_head n'
        rw [Pl.byte0 c r (e.trans e2) (by omega)] at hb
        exact absurd (UInt8.toNat_inj.1 (by simp; omega)) hc
      · exact ⟨h1, h2, (Pl.mid_text e).symm⟩
    · intro _ h
      have : s.data.toList.length = s.size := by simp
      rw [h] at this
      simp at this
      omega
  · have hn : NoQ s := by
      by_cases h2 : 2 ≤ s.size
      · refine .inr ⟨h2, ?_⟩
        cases hb : (((s[0]'(by omega)).toNat : Int) == 34)
        · rfl
        · exact absurd ⟨h2, hb⟩ hq
      · exact .inl h2
    by_cases ha : ∃ v, Lib.atoiAll s.data.toList = .ok v
    · obtain ⟨v, hv⟩ := ha
      obtain ⟨r0, r1⟩ := atoi_range hv
      refine (implGet_of s 1 v ⟨#[]⟩ (by show 0 ≤ _; omega) r0 r1 w hT (fun W _ => like_num s hs hn v hv W)).mono fun e w' h => impl_fin ?_ ?_ h
      · intro k' n' t' ht
        rcases Pl.tells_form ht with ⟨_, _, _, e⟩ | ⟨h1, h2, ⟨a, b⟩, e⟩ | ⟨_, _, e⟩
        · rw [e, none_no] at hv
          cases hv
        · rw [e, Pl.atoi_itoa n' a b] at hv
          injection hv with hv
          exact ⟨h1, hv, h2⟩
        · exact (noq_text hn e).elim
      · intro _ h
        rw [h] at hv
        cases hv
    · have ha' : ∀ v, Lib.atoiAll s.data.toList ≠ .ok v := fun v h => ha ⟨v, h⟩
      refine (implGet_of s 0 0 ⟨#[]⟩ (by show 0 ≤ _; omega) (by omega) (by omega) w hT (fun W hW => like_none s hs hn ha' W (hE.later hW))).mono fun e w' h => impl_fin ?_ ?_ h
      · intro k' n' t' ht
        rcases Pl.tells_form ht with ⟨h1, h2, h3, _⟩ | ⟨_, _, ⟨a, b⟩, e⟩ | ⟨_, _, e⟩
        · exact ⟨h1, h2, h3⟩
        · exact absurd (by rw [e]; exact Pl.atoi_itoa n' a b) (ha' n')
        · exact (noq_text hn e).elim
      · intro h
        have : Pl.okB 0 0 ⟨#[]⟩ = true := by simp [Pl.okB]
        rw [this] at h
        cases h
end Go.Proofs.YtbckbfjnifafaaaGreatDoor

/- What a part of an act's line tells, as the program reads it: numbers, values. -/
namespace Go.Proofs.YtbckbfjnifafaaaGreatDoor
open Go.RowKit
set_option linter.unusedVariables false
set_option linter.unusedSimpArgs false
/-- the number that the library reads -/
def Pl.numA (l : List UInt8) : Int := match Lib.atoiAll l with | .ok v => v | .«syntax» => 0 | .range => Lib.atoiSat l
theorem atoi_val (s : ByteArray) (hs : s.size ≤ 1048576) (w : World) (hE : Errs w) :
    Calls Tryz.prog 163 #[.string s] w fun e w' => (∃ x : Value, e = .returned (.tuple #[.int .i64 (Pl.numA s.data.toList), x]) ∧ (x = .nilIface ∨ ∃ N, x = .iface 244 (.pointer (some ⟨N, 0, none⟩)))) ∧ Below w.heap.size w w' := by
  unfold Pl.numA
  cases ha : Lib.atoiAll s.data.toList with
  | ok v =>
    refine (atoi_ok s hs v ha w).mono ?_
    rintro e w' ⟨rfl, hB⟩
    exact ⟨⟨_, rfl, .inl rfl⟩, hB⟩
  | «syntax» =>
    obtain ⟨⟨e1, hc1, he1⟩, ⟨e2, hc2, he2⟩⟩ := hE
    refine (Tryz.strconv_Atoi_syntax s (by omega) ha e1 w hc1 he1).mono ?_
    rintro e w' ⟨N, rfl, _, _, hB⟩
    exact ⟨⟨_, rfl, .inr ⟨N, rfl⟩⟩, hB⟩
  | range =>
    obtain ⟨⟨e1, hc1, he1⟩, ⟨e2, hc2, he2⟩⟩ := hE
    refine (Tryz.strconv_Atoi_range s (by omega) ha e2 w hc2 he2).mono ?_
    rintro e w' ⟨N, rfl, _, _, hB⟩
    exact ⟨⟨_, rfl, .inr ⟨N, rfl⟩⟩, hB⟩
set_option maxHeartbeats 800000 in
theorem numIn_any (s : ByteArray) (hs : s.size ≤ 1048576) (w : World) (hE : Errs w) :
    Calls Tryz.prog 128 #[.string s] w fun e w' => e = .returned (.int .i64 (Pl.numA s.data.toList)) ∧ Below w.heap.size w w' := by
  have ha := hide (atoi_val s hs w hE)
  clear hE
  generalize Pl.numA s.data.toList = v at *
  go_enter Tryz.func128, Tryz.ntmps128
  go_wp2_with fail
  refine (ha.out).mono ?_
  rintro e w1 ⟨⟨x, rfl, hx⟩, hB1⟩
  rcases hx with rfl | ⟨N, rfl⟩
  all_goals
    go_wp2
    go_ret
    exact ⟨rfl, hB1⟩
/-- what is read of a value: the value that the text tells; nothing else -/
def Pl.ValP (s : ByteArray) (k n : Int) (t : ByteArray) : Prop := Pl.TellsV s k n t ∨ ((∀ k n t, ¬ Pl.TellsV s k n t) ∧ k = 0 ∧ n = 0 ∧ t = ⟨#[]⟩)
theorem Pl.ValP.size {s : ByteArray} {k n : Int} {t : ByteArray} (h : Pl.ValP s k n t) (hs : s.size ≤ 1048576) : t.size ≤ 1048576 := by
  rcases h with h | ⟨_, _, _, rfl⟩
  · rcases Pl.tells_form h with ⟨_, _, h3, _⟩ | ⟨_, h2, _⟩ | ⟨_, _, e⟩
    · rw [h3]; exact Nat.zero_le _
    · rw [h2]; exact Nat.zero_le _
    · have := congrArg List.length e
      simp at this
      omega
  · exact Nat.zero_le _
theorem rs3b {W : World} {b : Nat} {x y z : Value} {T : TypeId} (hlt : b < W.heap.size) (h : W.heap[b]? = some (.cells #[x, y, z] T (0, 0))) (u0 u1 u2 : Value) (o : Obj) :
    ((((W.setCell ⟨b, 0, none⟩ u0).setCell ⟨b, 1, none⟩ u1).setCell ⟨b, 2, none⟩ u2).alloc o).cell? ⟨b, 0, none⟩ = some u0 ∧ ((((W.setCell ⟨b, 0, none⟩ u0).setCell ⟨b, 1, none⟩ u1).setCell ⟨b, 2, none⟩ u2).alloc o).cell? ⟨b, 1, none⟩ = some u1 ∧ ((((W.setCell ⟨b, 0, none⟩ u0).setCell ⟨b, 1, none⟩ u1).setCell ⟨b, 2, none⟩ u2).alloc o).cell? ⟨b, 2, none⟩ = some u2 := by
  have hb := block_set (block_set (block_set h 0 u0) 1 u1) 2 u2
  have hs : b < (((W.setCell ⟨b, 0, none⟩ u0).setCell ⟨b, 1, none⟩ u1).setCell ⟨b, 2, none⟩ u2).heap.size := (Array.getElem?_eq_some_iff.1 hb).1
  have hb2 := (Below.heap_alloc (((W.setCell ⟨b, 0, none⟩ u0).setCell ⟨b, 1, none⟩ u1).setCell ⟨b, 2, none⟩ u2) o b hs).trans hb
  exact ⟨cell_of_block hb2 0, cell_of_block hb2 1, cell_of_block hb2 2⟩
set_option maxHeartbeats 800000 in
theorem valueIn_of (s : ByteArray) (k n : Int) (t : ByteArray) (b : Bool) (w : World)
    (hg : ∀ W, Below w.heap.size w W → Calls Tryz.prog 164 #[.string s] W fun e w' => e = .returned (.tuple #[vAgg k n t, .bool b]) ∧ Below W.heap.size W w') :
    Calls Tryz.prog 129 #[.string s] w fun e w' => e = .returned (vAgg k n t) ∧ Below w.heap.size w w' := by
  have HG := hide hg
  clear hg
  go_enter Tryz.func129, Tryz.ntmps129
  go_wp2_with fail
  refine (HG.out _ ((Below.refl _ _).alloc (Nat.le_refl _) _)).mono ?_
  rintro e w1 ⟨rfl, hB1⟩
  obtain ⟨bk, hbl, hlt⟩ := box_after hB1
  have r0 := cell_of_block bk 0
  have r1 := cell_of_block bk 1
  have r2 := cell_of_block bk 2
  have f0 := free_of_block bk 0
  have f1 := free_of_block bk 1
  have f2 := free_of_block bk 2
  simp only [List.getElem?_toArray, List.getElem?_cons_zero, List.getElem?_cons_succ] at r0 r1 r2
  have HBK := hide bk
  have HBL := hide hbl
  clear hB1 bk hbl
  go_wp2
  obtain ⟨m0, m1, m2⟩ := rs3b hlt HBK.out (.int .i64 k) (.int .i64 n) (.string t) (.cells #[.int .i64 k, .int .i64 n, .string t] 43)
  refine bodyPost_ret (v := vAgg k n t) (by simp [results, Tryz.results129, go_sem, m0, m1, m2]) rfl ?_
  exact ⟨rfl, (below_rs3 HBL.out _ _ _).alloc (below_rs3 HBL.out _ _ _).size _⟩
theorem valueIn_get (s : ByteArray) (hs : s.size ≤ 1048576) : ∃ k n t, Pl.ValP s k n t ∧ ∀ w, Tab w → Errs w → Calls Tryz.prog 129 #[.string s] w fun e w' => e = .returned (vAgg k n t) ∧ Below w.heap.size w w' := by
  by_cases hx : ∃ k n t, Pl.TellsV s k n t
  · obtain ⟨k, n, t, h⟩ := hx
    refine ⟨k, n, t, .inl h, fun w hT hE => valueIn_of s k n t true w fun W hW => ?_⟩
    refine (implValueGet_any s hs W (hT.later hW) (hE.later hW)).mono ?_
    rintro e w' ⟨⟨k', n', t', h', rfl⟩ | ⟨h', _⟩, hB⟩
    · obtain ⟨rfl, rfl, rfl⟩ := Pl.tells_one h h'
      exact ⟨rfl, hB⟩
    · exact absurd h (h' _ _ _)
  · refine ⟨0, 0, ⟨#[]⟩, .inr ⟨fun k n t h => hx ⟨k, n, t, h⟩, rfl, rfl, rfl⟩, fun w hT hE => valueIn_of s 0 0 ⟨#[]⟩ false w fun W hW => ?_⟩
    refine (implValueGet_any s hs W (hT.later hW) (hE.later hW)).mono ?_
    rintro e w' ⟨⟨k', n', t', h', rfl⟩ | ⟨h', rfl⟩, hB⟩
    · exact absurd ⟨_, _, _, h'⟩ hx
    · exact ⟨rfl, hB⟩
end Go.Proofs.YtbckbfjnifafaaaGreatDoor

/- An act out of the seven parts of a line, as the program has it. -/
namespace Go.Proofs.YtbckbfjnifafaaaGreatDoor
open Go.RowKit
set_option linter.unusedVariables false
set_option linter.unusedSimpArgs false
/-- seven texts in a row -/
def Row7 (w : World) (g : Nat) (f0 f1 f2 f3 f4 f5 f6 : List UInt8) : Prop :=
  g < w.heap.size ∧ w.cell? ⟨g, 0, none⟩ = some (sv f0) ∧ w.cell? ⟨g, 1, none⟩ = some (sv f1) ∧ w.cell? ⟨g, 2, none⟩ = some (sv f2) ∧ w.cell? ⟨g, 3, none⟩ = some (sv f3) ∧ w.cell? ⟨g, 4, none⟩ = some (sv f4) ∧ w.cell? ⟨g, 5, none⟩ = some (sv f5) ∧ w.cell? ⟨g, 6, none⟩ = some (sv f6)
theorem Row7.later {w w1 : World} {g : Nat} {f0 f1 f2 f3 f4 f5 f6 : List UInt8} (h : Row7 w g f0 f1 f2 f3 f4 f5 f6) (hB : Below w.heap.size w w1) : Row7 w1 g f0 f1 f2 f3 f4 f5 f6 := by
  obtain ⟨hb, h0, h1, h2, h3, h4, h5, h6⟩ := h
  have C : ∀ o, w1.cell? ⟨g, o, none⟩ = w.cell? ⟨g, o, none⟩ := fun o => hB.cell (p := ⟨g, o, none⟩) hb
  exact ⟨by have := hB.size; omega, (C _).trans h0, (C _).trans h1, (C _).trans h2, (C _).trans h3, (C _).trans h4, (C _).trans h5, (C _).trans h6⟩
theorem nine_set {W : World} {b : Nat} {T : TypeId} {x0 x1 x2 x3 x4 x5 x6 x7 x8 : Value} (h : W.heap[b]? = some (.cells #[x0, x1, x2, x3, x4, x5, x6, x7, x8] T (0, 0))) (u0 u1 u2 u3 u4 u5 u6 u7 u8 : Value) :
    (((((((((W.setCell ⟨b, 0, none⟩ u0).setCell ⟨b, 1, none⟩ u1).setCell ⟨b, 2, none⟩ u2).setCell ⟨b, 3, none⟩ u3).setCell ⟨b, 4, none⟩ u4).setCell ⟨b, 5, none⟩ u5).setCell ⟨b, 6, none⟩ u6).setCell ⟨b, 7, none⟩ u7).setCell ⟨b, 8, none⟩ u8).heap[b]? = some (.cells #[u0, u1, u2, u3, u4, u5, u6, u7, u8] T (0, 0)) := by
  have h1 : (W.setCell ⟨b, 0, none⟩ u0).heap[b]? = some (.cells #[u0, x1, x2, x3, x4, x5, x6, x7, x8] T (0, 0)) := (block_set h 0 u0).trans (by simp)
  have h2 : ((W.setCell ⟨b, 0, none⟩ u0).setCell ⟨b, 1, none⟩ u1).heap[b]? = some (.cells #[u0, u1, x2, x3, x4, x5, x6, x7, x8] T (0, 0)) := (block_set h1 1 u1).trans (by simp)
  have h3 : (((W.setCell ⟨b, 0, none⟩ u0).setCell ⟨b, 1, none⟩ u1).setCell ⟨b, 2, none⟩ u2).heap[b]? = some (.cells #[u0, u1, u2, x3, x4, x5, x6, x7, x8] T (0, 0)) := (block_set h2 2 u2).trans (by simp)
  have h4 : ((((W.setCell ⟨b, 0, none⟩ u0).setCell ⟨b, 1, none⟩ u1).setCell ⟨b, 2, none⟩ u2).setCell ⟨b, 3, none⟩ u3).heap[b]? = some (.cells #[u0, u1, u2, u3, x4, x5, x6, x7, x8] T (0, 0)) := (block_set h3 3 u3).trans (by simp)
  have h5 : (((((W.setCell ⟨b, 0, none⟩ u0).setCell ⟨b, 1, none⟩ u1).setCell ⟨b, 2, none⟩ u2).setCell ⟨b, 3, none⟩ u3).setCell ⟨b, 4, none⟩ u4).heap[b]? = some (.cells #[u0, u1, u2, u3, u4, x5, x6, x7, x8] T (0, 0)) := (block_set h4 4 u4).trans (by simp)
  have h6 : ((((((W.setCell ⟨b, 0, none⟩ u0).setCell ⟨b, 1, none⟩ u1).setCell ⟨b, 2, none⟩ u2).setCell ⟨b, 3, none⟩ u3).setCell ⟨b, 4, none⟩ u4).setCell ⟨b, 5, none⟩ u5).heap[b]? = some (.cells #[u0, u1, u2, u3, u4, u5, x6, x7, x8] T (0, 0)) := (block_set h5 5 u5).trans (by simp)
  have h7 : (((((((W.setCell ⟨b, 0, none⟩ u0).setCell ⟨b, 1, none⟩ u1).setCell ⟨b, 2, none⟩ u2).setCell ⟨b, 3, none⟩ u3).setCell ⟨b, 4, none⟩ u4).setCell ⟨b, 5, none⟩ u5).setCell ⟨b, 6, none⟩ u6).heap[b]? = some (.cells #[u0, u1, u2, u3, u4, u5, u6, x7, x8] T (0, 0)) := (block_set h6 6 u6).trans (by simp)
  have h8 : ((((((((W.setCell ⟨b, 0, none⟩ u0).setCell ⟨b, 1, none⟩ u1).setCell ⟨b, 2, none⟩ u2).setCell ⟨b, 3, none⟩ u3).setCell ⟨b, 4, none⟩ u4).setCell ⟨b, 5, none⟩ u5).setCell ⟨b, 6, none⟩ u6).setCell ⟨b, 7, none⟩ u7).heap[b]? = some (.cells #[u0, u1, u2, u3, u4, u5, u6, u7, x8] T (0, 0)) := (block_set h7 7 u7).trans (by simp)
  have h9 : (((((((((W.setCell ⟨b, 0, none⟩ u0).setCell ⟨b, 1, none⟩ u1).setCell ⟨b, 2, none⟩ u2).setCell ⟨b, 3, none⟩ u3).setCell ⟨b, 4, none⟩ u4).setCell ⟨b, 5, none⟩ u5).setCell ⟨b, 6, none⟩ u6).setCell ⟨b, 7, none⟩ u7).setCell ⟨b, 8, none⟩ u8).heap[b]? = some (.cells #[u0, u1, u2, u3, u4, u5, u6, u7, u8] T (0, 0)) := (block_set h8 8 u8).trans (by simp)
  exact h9
theorem nine_below {B : Nat} {w W : World} {b : Nat} (h : Below B w W) (hb : B ≤ b) (u0 u1 u2 u3 u4 u5 u6 u7 u8 : Value) : Below B w (((((((((W.setCell ⟨b, 0, none⟩ u0).setCell ⟨b, 1, none⟩ u1).setCell ⟨b, 2, none⟩ u2).setCell ⟨b, 3, none⟩ u3).setCell ⟨b, 4, none⟩ u4).setCell ⟨b, 5, none⟩ u5).setCell ⟨b, 6, none⟩ u6).setCell ⟨b, 7, none⟩ u7).setCell ⟨b, 8, none⟩ u8) :=
  (((((((((h.setCell (p := ⟨b, 0, none⟩) hb _).setCell (p := ⟨b, 1, none⟩) hb _).setCell (p := ⟨b, 2, none⟩) hb _).setCell (p := ⟨b, 3, none⟩) hb _).setCell (p := ⟨b, 4, none⟩) hb _).setCell (p := ⟨b, 5, none⟩) hb _).setCell (p := ⟨b, 6, none⟩) hb _).setCell (p := ⟨b, 7, none⟩) hb _).setCell (p := ⟨b, 8, none⟩) hb _)
/-- what holds within the region that writes an act into its box -/
def SB9 (w W : World) : Prop := Below w.heap.size w W ∧ ∃ x0 x1 x2 x3 x4 x5 x6 x7 x8, W.heap[w.heap.size]? = some (.cells #[x0, x1, x2, x3, x4, x5, x6, x7, x8] 45 (0, 0))
theorem SB9.on {w W W1 : World} (h : SB9 w W) (hB : Below W.heap.size W W1) : SB9 w W1 := by
  obtain ⟨h1, x0, x1, x2, x3, x4, x5, x6, x7, x8, h2⟩ := h
  have hl : w.heap.size < W.heap.size := (Array.getElem?_eq_some_iff.1 h2).1
  exact ⟨h1.trans (hB.mono h1.size), x0, x1, x2, x3, x4, x5, x6, x7, x8, (hB.block _ hl).trans h2⟩
theorem SB9.drew {w W : World} (h : SB9 w W) : SB9 w W.drew := ⟨below_drew' h.1, h.2⟩
set_option maxRecDepth 100000 in
set_option maxHeartbeats 3200000 in
theorem actLike_seven (g c : Nat) (f0 f1 f2 f3 f4 f5 f6 : List UInt8) (z0 : f0.length ≤ 1048576) (z1 : f1.length ≤ 1048576) (z2 : f2.length ≤ 1048576) (z3 : f3.length ≤ 1048576) (z5 : f5.length ≤ 1048576)
    (vk vn : Int) (vt : ByteArray) (hval : ∀ w, Tab w → Errs w → Calls Tryz.prog 129 #[.string (Pl.bs f6)] w fun e w' => e = .returned (vAgg vk vn vt) ∧ Below w.heap.size w w') (w : World) (hTT : Tab w) (hEE : Errs w) (hR : Row7 w g f0 f1 f2 f3 f4 f5 f6) :
    Calls Tryz.prog 103 #[.slice (some ⟨g, 0, none⟩) 7 c] w fun e w' => e = .returned (actV (Pl.numA f0) (Pl.numA f1) (Pl.numA f2) (Pl.bs f3) (f4 == Pl.okL true) vk vn vt (Pl.numA f5)) ∧ Below w.heap.size w w' := by
  have hT := hide hTT
  have hE := hide hEE
  have hv := hide hval
  have n0 := hide (numIn_any (Pl.bs f0) (by rw [Pl.bs_size]; exact z0))
  have n1 := hide (numIn_any (Pl.bs f1) (by rw [Pl.bs_size]; exact z1))
  have n2 := hide (numIn_any (Pl.bs f2) (by rw [Pl.bs_size]; exact z2))
  have n5 := hide (numIn_any (Pl.bs f5) (by rw [Pl.bs_size]; exact z5))
  have hc := hide (clone_any (Pl.bs f3) (by rw [Pl.bs_size]; omega))
  have ho := hide (okWord_any true)
  have q4 : ((Pl.bs f4).toList == (Pl.bs (Pl.okL true)).toList) = (f4 == Pl.okL true) := by rw [Pl.bs_toList, Pl.bs_toList]
  rw [Pl.bs_back] at n0 n1 n2 n5
  generalize Pl.okL true = OK at *
  generalize (f4 == OK) = o4 at *
  generalize Pl.numA f0 = k0 at *
  generalize Pl.numA f1 = k1 at *
  generalize Pl.numA f2 = k2 at *
  generalize Pl.numA f5 = k5 at *
  clear hTT hEE hval z0 z1 z2 z3 z5
  obtain ⟨hlt, c0, c1, c2, c3, c4, c5, c6⟩ := hR
  go_enter Tryz.func103, Tryz.ntmps103
  go_wp2_with fail
  have hS0 : SB9 w (w.alloc (.cells #[.int .i64 0, .int .i64 0, .int .i64 0, .string ⟨#[]⟩, .bool false, .int .i64 0, .int .i64 0, .string ⟨#[]⟩, .int .i64 0] 45)) := ⟨(Below.refl _ _).alloc (Nat.le_refl _) _, _, _, _, _, _, _, _, _, _, by show (w.heap.push _)[w.heap.size]? = _; rw [Array.getElem?_push_size]⟩
  refine wp_region_noPanic ?_
  refine wp_region_held_drew (S := SB9 w) (by kernel_rfl) (SB9.drew hS0) (fun hHeld => ?_)
  refine wpAnyH_take (i := 0) (oi := Oper.mk (some 7) _ _ _ _ _) (v := ?_) rfl (by kernel_rfl) (by kernel_rfl) (by kernel_rfl) (fun _ _ _ h => h) (Or.inl ⟨by rfl, ?_⟩) (by assumption) ?_
  rotate_left
  · intro w0 hSw
    clear hSw
    go_simp
    all_goals (with_reducible rfl)
  simp only [Act.put, List.setIfInBounds_toArray, List.set_cons_zero, List.set_cons_succ]
  refine wpAnyH_take (i := 1) (oi := Oper.mk (some 8) _ _ _ _ _) (v := ?_) rfl (by kernel_rfl) (by kernel_rfl) (by kernel_rfl) (fun _ _ _ h => h) (Or.inl ⟨by rfl, ?_⟩) (by assumption) ?_
  rotate_left
  · intro w0 hSw
    clear hSw
    go_simp
    all_goals (with_reducible rfl)
  simp only [Act.put, List.setIfInBounds_toArray, List.set_cons_zero, List.set_cons_succ]
  refine wpAnyH_take (i := 2) (oi := Oper.mk (some 9) _ _ _ _ _) (v := ?_) rfl (by kernel_rfl) (by kernel_rfl) (by kernel_rfl) (fun _ _ _ h => h) (Or.inl ⟨by rfl, ?_⟩) (by assumption) ?_
  rotate_left
  · intro w0 hSw
    have z0 : w0.cell? ⟨g, 0, none⟩ = some (sv f0) := (Below.cell hSw.1 (p := ⟨g, 0, none⟩) hlt).trans c0
    clear hSw
    go_simp
    all_goals (with_reducible rfl)
  simp only [Act.put, List.setIfInBounds_toArray, List.set_cons_zero, List.set_cons_succ]
  refine wpAnyH_take (i := 4) (oi := Oper.mk (some 11) _ _ _ _ _) (v := ?_) rfl (by kernel_rfl) (by kernel_rfl) (by kernel_rfl) (fun _ _ _ h => h) (Or.inl ⟨by rfl, ?_⟩) (by assumption) ?_
  rotate_left
  · intro w0 hSw
    clear hSw
    go_simp
    all_goals (with_reducible rfl)
  simp only [Act.put, List.setIfInBounds_toArray, List.set_cons_zero, List.set_cons_succ]
  refine wpAnyH_take (i := 5) (oi := Oper.mk (some 12) _ _ _ _ _) (v := ?_) rfl (by kernel_rfl) (by kernel_rfl) (by kernel_rfl) (fun _ _ _ h => h) (Or.inl ⟨by rfl, ?_⟩) (by assumption) ?_
  rotate_left
  · intro w0 hSw
    clear hSw
    go_simp
    all_goals (with_reducible rfl)
  simp only [Act.put, List.setIfInBounds_toArray, List.set_cons_zero, List.set_cons_succ]
  refine wpAnyH_take (i := 6) (oi := Oper.mk (some 13) _ _ _ _ _) (v := ?_) rfl (by kernel_rfl) (by kernel_rfl) (by kernel_rfl) (fun _ _ _ h => h) (Or.inl ⟨by rfl, ?_⟩) (by assumption) ?_
  rotate_left
  · intro w0 hSw
    have z0 : w0.cell? ⟨g, 1, none⟩ = some (sv f1) := (Below.cell hSw.1 (p := ⟨g, 1, none⟩) hlt).trans c1
    clear hSw
    go_simp
    all_goals (with_reducible rfl)
  simp only [Act.put, List.setIfInBounds_toArray, List.set_cons_zero, List.set_cons_succ]
  refine wpAnyH_take (i := 8) (oi := Oper.mk (some 15) _ _ _ _ _) (v := ?_) rfl (by kernel_rfl) (by kernel_rfl) (by kernel_rfl) (fun _ _ _ h => h) (Or.inl ⟨by rfl, ?_⟩) (by assumption) ?_
  rotate_left
  · intro w0 hSw
    clear hSw
    go_simp
    all_goals (with_reducible rfl)
  simp only [Act.put, List.setIfInBounds_toArray, List.set_cons_zero, List.set_cons_succ]
  refine wpAnyH_take (i := 9) (oi := Oper.mk (some 16) _ _ _ _ _) (v := ?_) rfl (by kernel_rfl) (by kernel_rfl) (by kernel_rfl) (fun _ _ _ h => h) (Or.inl ⟨by rfl, ?_⟩) (by assumption) ?_
  rotate_left
  · intro w0 hSw
    clear hSw
    go_simp
    all_goals (with_reducible rfl)
  simp only [Act.put, List.setIfInBounds_toArray, List.set_cons_zero, List.set_cons_succ]
  refine wpAnyH_take (i := 10) (oi := Oper.mk (some 17) _ _ _ _ _) (v := ?_) rfl (by kernel_rfl) (by kernel_rfl) (by kernel_rfl) (fun _ _ _ h => h) (Or.inl ⟨by rfl, ?_⟩) (by assumption) ?_
  rotate_left
  · intro w0 hSw
    have z0 : w0.cell? ⟨g, 2, none⟩ = some (sv f2) := (Below.cell hSw.1 (p := ⟨g, 2, none⟩) hlt).trans c2
    clear hSw
    go_simp
    all_goals (with_reducible rfl)
  simp only [Act.put, List.setIfInBounds_toArray, List.set_cons_zero, List.set_cons_succ]
  refine wpAnyH_take (i := 12) (oi := Oper.mk (some 19) _ _ _ _ _) (v := ?_) rfl (by kernel_rfl) (by kernel_rfl) (by kernel_rfl) (fun _ _ _ h => h) (Or.inl ⟨by rfl, ?_⟩) (by assumption) ?_
  rotate_left
  · intro w0 hSw
    clear hSw
    go_simp
    all_goals (with_reducible rfl)
  simp only [Act.put, List.setIfInBounds_toArray, List.set_cons_zero, List.set_cons_succ]
  refine wpAnyH_take (i := 13) (oi := Oper.mk (some 20) _ _ _ _ _) (v := ?_) rfl (by kernel_rfl) (by kernel_rfl) (by kernel_rfl) (fun _ _ _ h => h) (Or.inl ⟨by rfl, ?_⟩) (by assumption) ?_
  rotate_left
  · intro w0 hSw
    clear hSw
    go_simp
    all_goals (with_reducible rfl)
  simp only [Act.put, List.setIfInBounds_toArray, List.set_cons_zero, List.set_cons_succ]
  refine wpAnyH_take (i := 14) (oi := Oper.mk (some 21) _ _ _ _ _) (v := ?_) rfl (by kernel_rfl) (by kernel_rfl) (by kernel_rfl) (fun _ _ _ h => h) (Or.inl ⟨by rfl, ?_⟩) (by assumption) ?_
  rotate_left
  · intro w0 hSw
    have z0 : w0.cell? ⟨g, 3, none⟩ = some (sv f3) := (Below.cell hSw.1 (p := ⟨g, 3, none⟩) hlt).trans c3
    clear hSw
    go_simp
    all_goals (with_reducible rfl)
  simp only [Act.put, List.setIfInBounds_toArray, List.set_cons_zero, List.set_cons_succ]
  refine wpAnyH_take (i := 16) (oi := Oper.mk (some 23) _ _ _ _ _) (v := ?_) rfl (by kernel_rfl) (by kernel_rfl) (by kernel_rfl) (fun _ _ _ h => h) (Or.inl ⟨by rfl, ?_⟩) (by assumption) ?_
  rotate_left
  · intro w0 hSw
    clear hSw
    go_simp
    all_goals (with_reducible rfl)
  simp only [Act.put, List.setIfInBounds_toArray, List.set_cons_zero, List.set_cons_succ]
  refine wpAnyH_take (i := 17) (oi := Oper.mk (some 24) _ _ _ _ _) (v := ?_) rfl (by kernel_rfl) (by kernel_rfl) (by kernel_rfl) (fun _ _ _ h => h) (Or.inl ⟨by rfl, ?_⟩) (by assumption) ?_
  rotate_left
  · intro w0 hSw
    clear hSw
    go_simp
    all_goals (with_reducible rfl)
  simp only [Act.put, List.setIfInBounds_toArray, List.set_cons_zero, List.set_cons_succ]
  refine wpAnyH_take (i := 18) (oi := Oper.mk (some 25) _ _ _ _ _) (v := ?_) rfl (by kernel_rfl) (by kernel_rfl) (by kernel_rfl) (fun _ _ _ h => h) (Or.inl ⟨by rfl, ?_⟩) (by assumption) ?_
  rotate_left
  · intro w0 hSw
    have z0 : w0.cell? ⟨g, 4, none⟩ = some (sv f4) := (Below.cell hSw.1 (p := ⟨g, 4, none⟩) hlt).trans c4
    clear hSw
    go_simp
    all_goals (with_reducible rfl)
  simp only [Act.put, List.setIfInBounds_toArray, List.set_cons_zero, List.set_cons_succ]
  refine wpAnyH_take (i := 21) (oi := Oper.mk (some 28) _ _ _ _ _) (v := ?_) rfl (by kernel_rfl) (by kernel_rfl) (by kernel_rfl) (fun _ _ _ h => h) (Or.inl ⟨by rfl, ?_⟩) (by assumption) ?_
  rotate_left
  · intro w0 hSw
    clear hSw
    go_simp
    all_goals (with_reducible rfl)
  simp only [Act.put, List.setIfInBounds_toArray, List.set_cons_zero, List.set_cons_succ]
  refine wpAnyH_take (i := 22) (oi := Oper.mk (some 29) _ _ _ _ _) (v := ?_) rfl (by kernel_rfl) (by kernel_rfl) (by kernel_rfl) (fun _ _ _ h => h) (Or.inl ⟨by rfl, ?_⟩) (by assumption) ?_
  rotate_left
  · intro w0 hSw
    clear hSw
    go_simp
    all_goals (with_reducible rfl)
  simp only [Act.put, List.setIfInBounds_toArray, List.set_cons_zero, List.set_cons_succ]
  refine wpAnyH_take (i := 23) (oi := Oper.mk (some 30) _ _ _ _ _) (v := ?_) rfl (by kernel_rfl) (by kernel_rfl) (by kernel_rfl) (fun _ _ _ h => h) (Or.inl ⟨by rfl, ?_⟩) (by assumption) ?_
  rotate_left
  · intro w0 hSw
    have z0 : w0.cell? ⟨g, 5, none⟩ = some (sv f5) := (Below.cell hSw.1 (p := ⟨g, 5, none⟩) hlt).trans c5
    clear hSw
    go_simp
    all_goals (with_reducible rfl)
  simp only [Act.put, List.setIfInBounds_toArray, List.set_cons_zero, List.set_cons_succ]
  refine wpAnyH_take (i := 25) (oi := Oper.mk (some 32) _ _ _ _ _) (v := ?_) rfl (by kernel_rfl) (by kernel_rfl) (by kernel_rfl) (fun _ _ _ h => h) (Or.inl ⟨by rfl, ?_⟩) (by assumption) ?_
  rotate_left
  · intro w0 hSw
    clear hSw
    go_simp
    all_goals (with_reducible rfl)
  simp only [Act.put, List.setIfInBounds_toArray, List.set_cons_zero, List.set_cons_succ]
  refine wpAnyH_take (i := 26) (oi := Oper.mk (some 33) _ _ _ _ _) (v := ?_) rfl (by kernel_rfl) (by kernel_rfl) (by kernel_rfl) (fun _ _ _ h => h) (Or.inl ⟨by rfl, ?_⟩) (by assumption) ?_
  rotate_left
  · intro w0 hSw
    clear hSw
    go_simp
    all_goals (with_reducible rfl)
  simp only [Act.put, List.setIfInBounds_toArray, List.set_cons_zero, List.set_cons_succ]
  refine wpAnyH_take (i := 27) (oi := Oper.mk (some 34) _ _ _ _ _) (v := ?_) rfl (by kernel_rfl) (by kernel_rfl) (by kernel_rfl) (fun _ _ _ h => h) (Or.inl ⟨by rfl, ?_⟩) (by assumption) ?_
  rotate_left
  · intro w0 hSw
    have z0 : w0.cell? ⟨g, 6, none⟩ = some (sv f6) := (Below.cell hSw.1 (p := ⟨g, 6, none⟩) hlt).trans c6
    clear hSw
    go_simp
    all_goals (with_reducible rfl)
  simp only [Act.put, List.setIfInBounds_toArray, List.set_cons_zero, List.set_cons_succ]
  refine wpAnyH_ready (rs := [3]) (by kernel_rfl) (by simp) ?_
  refine AllReadyH.cons (o := Oper.mk (some 10) _ _ _ _ _) rfl (fun K hK => ?_) AllReadyH.nil
  go_simp
  go_at_call 128
  refine (n0.out _ (hE.out.later hHeld.1)).mono ?_
  rintro x0 w0 ⟨rfl, hB0⟩
  have hHeld' := SB9.on hHeld hB0
  clear hB0 hHeld
  go_wp2_with fail
  refine hK.out _ _ hHeld' (fun hHeld => ?_)
  clear hK K hHeld'
  (try simp only [Act.put, List.setIfInBounds_toArray, List.set_cons_zero, List.set_cons_succ])
  refine wpAnyH_ready (rs := [7]) (by kernel_rfl) (by simp) ?_
  refine AllReadyH.cons (o := Oper.mk (some 14) _ _ _ _ _) rfl (fun K hK => ?_) AllReadyH.nil
  go_simp
  go_at_call 128
  refine (n1.out _ (hE.out.later hHeld.1)).mono ?_
  rintro x0 w0 ⟨rfl, hB0⟩
  have hHeld' := SB9.on hHeld hB0
  clear hB0 hHeld
  go_wp2_with fail
  refine hK.out _ _ hHeld' (fun hHeld => ?_)
  clear hK K hHeld'
  (try simp only [Act.put, List.setIfInBounds_toArray, List.set_cons_zero, List.set_cons_succ])
  refine wpAnyH_ready (rs := [11]) (by kernel_rfl) (by simp) ?_
  refine AllReadyH.cons (o := Oper.mk (some 18) _ _ _ _ _) rfl (fun K hK => ?_) AllReadyH.nil
  go_simp
  go_at_call 128
  refine (n2.out _ (hE.out.later hHeld.1)).mono ?_
  rintro x0 w0 ⟨rfl, hB0⟩
  have hHeld' := SB9.on hHeld hB0
  clear hB0 hHeld
  go_wp2_with fail
  refine hK.out _ _ hHeld' (fun hHeld => ?_)
  clear hK K hHeld'
  (try simp only [Act.put, List.setIfInBounds_toArray, List.set_cons_zero, List.set_cons_succ])
  refine wpAnyH_ready (rs := [15]) (by kernel_rfl) (by simp) ?_
  refine AllReadyH.cons (o := Oper.mk (some 22) _ _ _ _ _) rfl (fun K hK => ?_) AllReadyH.nil
  go_simp
  go_at_call 63
  refine (hc.out _).mono ?_
  rintro x0 w0 ⟨rfl, hB0⟩
  have hHeld' := SB9.on hHeld hB0
  clear hB0 hHeld
  go_wp2_with fail
  refine hK.out _ _ hHeld' (fun hHeld => ?_)
  clear hK K hHeld'
  (try simp only [Act.put, List.setIfInBounds_toArray, List.set_cons_zero, List.set_cons_succ])
  refine wpAnyH_ready (rs := [19]) (by kernel_rfl) (by simp) ?_
  refine AllReadyH.cons (o := Oper.mk (some 26) _ _ _ _ _) rfl (fun K hK => ?_) AllReadyH.nil
  go_simp
  go_at_call 95
  refine (ho.out _).mono ?_
  rintro x0 w0 ⟨rfl, hB0⟩
  have hHeld' := SB9.on hHeld hB0
  clear hB0 hHeld
  go_wp2_with fail
  refine hK.out _ _ hHeld' (fun hHeld => ?_)
  clear hK K hHeld'
  (try simp only [Act.put, List.setIfInBounds_toArray, List.set_cons_zero, List.set_cons_succ])
  refine wpAnyH_take (i := 20) (oi := Oper.mk (some 27) _ _ _ _ _) (v := ?_) rfl (by kernel_rfl) (by kernel_rfl) (by kernel_rfl) (fun _ _ _ h => h) (Or.inl ⟨by rfl, ?_⟩) (by assumption) ?_
  rotate_left
  · intro w0 hSw
    clear hSw
    go_simp
    all_goals (with_reducible rfl)
  simp only [Act.put, List.setIfInBounds_toArray, List.set_cons_zero, List.set_cons_succ]
  refine wpAnyH_ready (rs := [24]) (by kernel_rfl) (by simp) ?_
  refine AllReadyH.cons (o := Oper.mk (some 31) _ _ _ _ _) rfl (fun K hK => ?_) AllReadyH.nil
  go_simp
  go_at_call 128
  refine (n5.out _ (hE.out.later hHeld.1)).mono ?_
  rintro x0 w0 ⟨rfl, hB0⟩
  have hHeld' := SB9.on hHeld hB0
  clear hB0 hHeld
  go_wp2_with fail
  refine hK.out _ _ hHeld' (fun hHeld => ?_)
  clear hK K hHeld'
  (try simp only [Act.put, List.setIfInBounds_toArray, List.set_cons_zero, List.set_cons_succ])
  refine wpAnyH_ready (rs := [28]) (by kernel_rfl) (by simp) ?_
  refine AllReadyH.cons (o := Oper.mk (some 35) _ _ _ _ _) rfl (fun K hK => ?_) AllReadyH.nil
  go_simp
  go_at_call 129
  refine (hv.out _ (hT.out.later hHeld.1) (hE.out.later hHeld.1)).mono ?_
  rintro x0 Y ⟨rfl, hB0⟩
  have hHeld' := SB9.on hHeld hB0
  clear hB0 hHeld
  go_wp2_with fail
  refine hK.out _ _ hHeld' (fun hHeld => ?_)
  clear hK K hHeld'
  (try simp only [Act.put, List.setIfInBounds_toArray, List.set_cons_zero, List.set_cons_succ])
  refine wpAnyH_take (i := 29) (oi := Oper.mk (some 36) _ _ _ _ _) (v := ?_) rfl (by kernel_rfl) (by kernel_rfl) (by kernel_rfl) (fun _ _ _ h => h) (Or.inl ⟨by rfl, ?_⟩) (by assumption) ?_
  rotate_left
  · intro w0 hSw
    clear hSw
    go_simp
    all_goals (with_reducible rfl)
  simp only [Act.put, List.setIfInBounds_toArray, List.set_cons_zero, List.set_cons_succ]
  refine wpAnyH_ready (rs := [30]) (by kernel_rfl) (by simp) ?_
  refine AllReadyH.cons (o := Oper.mk none _ _ _ _ _) rfl (fun K hK => ?_) AllReadyH.nil
  obtain ⟨hYB, y0, y1, y2, y3, y4, y5, y6, y7, y8, hbx⟩ := id hHeld
  have r0 := cell_of_block hbx 0
  have r1 := cell_of_block hbx 1
  have r2 := cell_of_block hbx 2
  have r3 := cell_of_block hbx 3
  have r4 := cell_of_block hbx 4
  have r5 := cell_of_block hbx 5
  have r6 := cell_of_block hbx 6
  have r7 := cell_of_block hbx 7
  have r8 := cell_of_block hbx 8
  have g0 := free_of_block hbx 0
  have g1 := free_of_block hbx 1
  have g2 := free_of_block hbx 2
  have g3 := free_of_block hbx 3
  have g4 := free_of_block hbx 4
  have g5 := free_of_block hbx 5
  have g6 := free_of_block hbx 6
  have g7 := free_of_block hbx 7
  have g8 := free_of_block hbx 8
  simp only [List.getElem?_toArray, List.getElem?_cons_zero, List.getElem?_cons_succ] at r0 r1 r2 r3 r4 r5 r6 r7 r8
  go_simp
  have hb9 := nine_set hbx (.int .i64 k0) (.int .i64 k1) (.int .i64 k2) (.string (Pl.bs f3)) (.bool o4) (.int .i64 vk) (.int .i64 vn) (.string vt) (.int .i64 k5)
  have hB9 := nine_below hYB (Nat.le_refl _) (.int .i64 k0) (.int .i64 k1) (.int .i64 k2) (.string (Pl.bs f3)) (.bool o4) (.int .i64 vk) (.int .i64 vn) (.string vt) (.int .i64 k5)
  generalize (((((((((Y.setCell ⟨w.heap.size, 0, none⟩ (.int .i64 k0)).setCell ⟨w.heap.size, 1, none⟩ (.int .i64 k1)).setCell ⟨w.heap.size, 2, none⟩ (.int .i64 k2)).setCell ⟨w.heap.size, 3, none⟩ (.string (Pl.bs f3))).setCell ⟨w.heap.size, 4, none⟩ (.bool o4)).setCell ⟨w.heap.size, 5, none⟩ (.int .i64 vk)).setCell ⟨w.heap.size, 6, none⟩ (.int .i64 vn)).setCell ⟨w.heap.size, 7, none⟩ (.string vt)).setCell ⟨w.heap.size, 8, none⟩ (.int .i64 k5)) = W9 at *
  refine hK.out _ _ ⟨hB9, _, _, _, _, _, _, _, _, _, hb9⟩ (fun _ => ?_)
  clear hK K r0 g0 r1 g1 r2 g2 r3 g3 r4 g4 r5 g5 r6 g6 r7 g7 r8 g8 hbx hHeld hYB
  (try simp only [Act.put, List.setIfInBounds_toArray, List.set_cons_zero, List.set_cons_succ])
  refine wpAnyH_done (by kernel_rfl) ?_ _
  refine NoPanic.normal ?_
  have HB9 := hide hB9
  have r0 := cell_of_block hb9 0
  have r1 := cell_of_block hb9 1
  have r2 := cell_of_block hb9 2
  have r3 := cell_of_block hb9 3
  have r4 := cell_of_block hb9 4
  have r5 := cell_of_block hb9 5
  have r6 := cell_of_block hb9 6
  have r7 := cell_of_block hb9 7
  have r8 := cell_of_block hb9 8
  have g0 := free_of_block hb9 0
  have g1 := free_of_block hb9 1
  have g2 := free_of_block hb9 2
  have g3 := free_of_block hb9 3
  have g4 := free_of_block hb9 4
  have g5 := free_of_block hb9 5
  have g6 := free_of_block hb9 6
  have g7 := free_of_block hb9 7
  have g8 := free_of_block hb9 8
  simp only [List.getElem?_toArray, List.getElem?_cons_zero, List.getElem?_cons_succ] at r0 r1 r2 r3 r4 r5 r6 r7 r8
  clear hB9 hb9
  go_wp2_with fail
  refine bodyPost_ret (v := actV k0 k1 k2 (Pl.bs f3) o4 vk vn vt k5) (by simp [results, Tryz.results103, go_sem, r0, r1, r2, r3, r4, r5, r6, r7, r8]) rfl ?_
  exact ⟨rfl, HB9.out⟩
end Go.Proofs.YtbckbfjnifafaaaGreatDoor

/- An act that is read, as the program has it: the one act that the text tells, or none. -/
namespace Go.Proofs.YtbckbfjnifafaaaGreatDoor
open Go.RowKit
set_option linter.unusedVariables false
set_option linter.unusedSimpArgs false
/-- a variable of the library's holds some number -/
def MaxAt (w : World) : Prop := ∃ m : Int, w.cell? ⟨0, 0, none⟩ = some (.int .i64 m)
theorem MaxAt.later {w w1 : World} (h : MaxAt w) (hB : Below w.heap.size w w1) : MaxAt w1 := by
  obtain ⟨m, hc⟩ := h
  exact ⟨m, (hB.cell (p := ⟨0, 0, none⟩) (World.block_lt_of_cell? w ⟨0, 0, none⟩ hc)).trans hc⟩
set_option maxHeartbeats 1600000 in
theorem actLike_short (ad : Option Addr) (n c : Nat) (hn : n < 7) (w : World) :
    Calls Tryz.prog 103 #[.slice ad n c] w fun e w' => e = .returned (actV 0 0 0 ⟨#[]⟩ false 0 0 ⟨#[]⟩ 0) ∧ Below w.heap.size w w' := by
  go_enter Tryz.func103, Tryz.ntmps103
  go_wp2
  refine bodyPost_ret (v := actV 0 0 0 ⟨#[]⟩ false 0 0 ⟨#[]⟩ 0) (by simp [results, Tryz.results103, go_sem]) rfl ?_
  exact ⟨rfl, (Below.refl _ _).alloc (Nat.le_refl _) _⟩
/-- the pieces that the library cuts a text into -/
def Pl.partsB (s : ByteArray) : List ByteArray := Lib.splitB ⟨#[32]⟩ 0 (min 7 (s.size + 1) - 1) s
theorem Pl.parts_of {s : ByteArray} {k r p : Int} {nm : ByteArray} {o : Bool} {vk vn : Int} {vt : ByteArray} {m : Int} (h : Pl.TellsA s k r p nm o vk vn vt m) : (Pl.partsB s).map (·.data.toList) = Pl.actF k r p nm o vk vn vt m := by
  have hl := Pl.act_long k r p nm o vk vn vt m
  rw [h.2] at hl
  have hs : s.data.toList.length = s.size := by simp
  rw [hs] at hl
  have hN : min 7 (s.size + 1) - 1 = 6 := by omega
  unfold Pl.partsB
  rw [Lib.splitB_data, hN, ← h.2]
  exact Pl.act_split h.1
theorem Pl.split_size : ∀ (k : Nat) (s x : ByteArray), x ∈ Lib.splitB ⟨#[32]⟩ 0 k s → x.size ≤ s.size
  | 0, s, x, h => by
    rw [Lib.splitB_zero] at h
    rw [List.mem_singleton.1 h]
    exact Nat.le_refl _
  | k + 1, s, x, h => by
    rw [Lib.splitB] at h
    split at h
    · rw [List.mem_singleton.1 h]
      exact Nat.le_refl _
    · rcases List.mem_cons.1 h with h | h
      · rw [h]; simp; omega
      · have := Pl.split_size k _ x h
        simp at this
        omega
theorem Pl.numA_itoa {n : Int} (h0 : 0 ≤ n) (h1 : n ≤ 1000) : Pl.numA (Lib.itoa n) = n := by
  unfold Pl.numA
  rw [Pl.atoi_itoa n (by omega) (by omega)]
theorem seven_of : ∀ l : List ByteArray, l.length = 7 → ∃ a b c d e f g, l = [a, b, c, d, e, f, g]
  | [a, b, c, d, e, f, g], _ => ⟨a, b, c, d, e, f, g, rfl⟩
theorem parts_like (s : ByteArray) (hs : s.size ≤ 1048576) : ∃ k r p nm o vk vn vt m,
    (∀ k' r' p' nm' o' vk' vn' vt' m', Pl.TellsA s k' r' p' nm' o' vk' vn' vt' m' → k' = k ∧ r' = r ∧ p' = p ∧ nm' = nm ∧ o' = o ∧ vk' = vk ∧ vn' = vn ∧ vt' = vt ∧ m' = m) ∧ nm.size ≤ 1048576 ∧ vt.size ≤ 1048576 ∧
    ∀ (g : Nat) (w : World), Tab w → Errs w → w.heap[g]? = some (.cells (Lib.cellsOf (Pl.partsB s) (min 7 (s.size + 1))) 9 (0, 0)) →
      Calls Tryz.prog 103 #[.slice (some ⟨g, 0, none⟩) (Pl.partsB s).length (min 7 (s.size + 1))] w fun e w' => e = .returned (actV k r p nm o vk vn vt m) ∧ Below w.heap.size w w' := by
  have hle : (Pl.partsB s).length ≤ (min 7 (s.size + 1) - 1) + 1 := Lib.splitB_length_le _ _ _ _
  by_cases h7 : (Pl.partsB s).length = 7
  · obtain ⟨a, b, c, d, e, f, g, hF⟩ := seven_of _ h7
    have hz : ∀ x, x ∈ [a, b, c, d, e, f, g] → x.size ≤ 1048576 := fun x hx => by
      rw [← hF] at hx
      have := Pl.split_size _ _ _ hx
      omega
    have hN : min 7 (s.size + 1) = 7 := by omega
    obtain ⟨vk, vn, vt, hV, hcv⟩ := valueIn_get g (hz g (by simp))
    have hzl : ∀ x : ByteArray, x.data.toList.length = x.size := fun x => by simp
    refine ⟨Pl.numA a.data.toList, Pl.numA b.data.toList, Pl.numA c.data.toList, d, (e.data.toList == Pl.okL true), vk, vn, vt, Pl.numA f.data.toList, ?_, ?_, hV.size (hz g (by simp)), fun q w hT hE hq => ?_⟩
    rotate_left
    rotate_left
    · rw [h7, hN]
      rw [hF, hN] at hq
      have hq' : w.heap[q]? = some (.cells #[.string a, .string b, .string c, .string d, .string e, .string f, .string g] 9 (0, 0)) := hq
      refine actLike_seven q 7 a.data.toList b.data.toList c.data.toList d.data.toList e.data.toList f.data.toList g.data.toList (by rw [hzl]; exact hz a (by simp)) (by rw [hzl]; exact hz b (by simp)) (by rw [hzl]; exact hz c (by simp)) (by rw [hzl]; exact hz d (by simp)) (by rw [hzl]; exact hz f (by simp)) vk vn vt hcv w hT hE ?_
      exact ⟨(Array.getElem?_eq_some_iff.1 hq').1, cell_of_block hq' 0, cell_of_block hq' 1, cell_of_block hq' 2, cell_of_block hq' 3, cell_of_block hq' 4, cell_of_block hq' 5, cell_of_block hq' 6⟩
    · intro k' r' p' nm' o' vk' vn' vt' m' ht
      have hp := Pl.parts_of ht
      rw [hF] at hp
      simp only [List.map_cons, List.map_nil, Pl.actF, List.cons.injEq, and_true] at hp
      obtain ⟨e0, e1, e2, e3, e4, e5, e6⟩ := hp
      obtain ⟨⟨k0, k1⟩, ⟨r0, r1⟩, ⟨p0, p1⟩, ⟨m0, m1⟩, hv⟩ := act_parts ht.1
      have tv := Pl.tells_val ht.1
      rw [← e6, Pl.bs_of] at tv
      have hvv : vk' = vk ∧ vn' = vn ∧ vt' = vt := by
        rcases hV with hV | ⟨hV, _⟩
        · exact Pl.tells_one tv hV
        · exact absurd tv (hV _ _ _)
      refine ⟨?_, ?_, ?_, ?_, ?_, hvv.1, hvv.2.1, hvv.2.2, ?_⟩
      · rw [e0, Pl.numA_itoa (by omega) (by omega)]
      · rw [e1, Pl.numA_itoa (by omega) (by omega)]
      · rw [e2, Pl.numA_itoa (by omega) (by omega)]
      · exact (Pl.eq_of_data e3).symm
      · rw [e4]
        cases o' <;> rfl
      · rw [e5, Pl.numA_itoa (by omega) (by omega)]
    · show d.size ≤ _
      exact hz d (by simp)
  · refine ⟨0, 0, 0, ⟨#[]⟩, false, 0, 0, ⟨#[]⟩, 0, ?_, Nat.zero_le _, Nat.zero_le _, fun q w hT hE hq => actLike_short _ _ _ (by omega) w⟩
    intro k' r' p' nm' o' vk' vn' vt' m' ht
    have hp := congrArg List.length (Pl.parts_of ht)
    simp [Pl.actF] at hp
    exact absurd hp h7
set_option maxRecDepth 100000 in
set_option maxHeartbeats 3200000 in
theorem implActGet_any (s : ByteArray) (hs : s.size ≤ 1048576) (w : World) (hTT : Tab w) (hEE : Errs w) (hMM : MaxAt w) : Calls Tryz.prog 78 #[.string s] w (AgPost s w) := by
  obtain ⟨k, r, p, nm, o, vk, vn, vt, m, hone, znm, zvt, hlike⟩ := parts_like s hs
  have hT := hide hTT
  have hE := hide hEE
  have hM := hide hMM
  have HO := hide hone
  have HK := hide hlike
  have hput := hide (implActPut_any k r p nm o vk vn vt m znm zvt)
  have hsp : Hid (∀ W, MaxAt W → Calls Tryz.prog 104 #[.string s, .string ⟨#[32]⟩, .int .i64 7] W fun e w' =>
      e = .returned (.slice (some ⟨W.heap.size, 0, none⟩) (Pl.partsB s).length (min 7 (s.size + 1))) ∧ w' = W.alloc (.cells (Lib.cellsOf (Pl.partsB s) (min 7 (s.size + 1))) 9)) := fun W ⟨x, hx⟩ =>
    Tryz.strings_SplitN s ⟨#[32]⟩ 7 x W (by omega) hx (by decide) (by omega) (by omega)
  have hcmp : ((Pl.bs (Pl.actP k r p nm o vk vn vt m)).toList == s.toList) = (Pl.actP k r p nm o vk vn vt m == s.data.toList) := by rw [Pl.bs_toList, Lib.toList_data]
  have hpe : Hid (Pl.actP k r p nm o vk vn vt m = if Pl.actB k r p nm o vk vn vt m = true then Pl.actT k r p nm o vk vn vt m else []) := rfl
  generalize Pl.actP k r p nm o vk vn vt m = AP at *
  clear hTT hEE hMM hone hlike
  generalize Lib.cellsOf (Pl.partsB s) (min 7 (s.size + 1)) = CS at *
  generalize (Pl.partsB s).length = n0 at *
  have hnone : s.toList.isEmpty = true ∨ (AP == s.data.toList) = false → ∀ k r p nm o vk vn vt m, ¬ Pl.TellsA s k r p nm o vk vn vt m := by
    intro h k' r' p' nm' o' vk' vn' vt' m' ht
    rcases h with h | h
    · have h6 := Pl.act_long k' r' p' nm' o' vk' vn' vt' m'
      rw [ht.2, Pl.empty_of h] at h6
      simp at h6
    · obtain ⟨rfl, rfl, rfl, rfl, rfl, rfl, rfl, rfl, rfl⟩ := HO.out _ _ _ _ _ _ _ _ _ ht
      have h2 := hpe.out
      rw [if_pos ht.1, ht.2] at h2
      rw [h2] at h
      simp at h
  have HN := hide hnone
  have hyes : s.toList.isEmpty = false → (AP == s.data.toList) = true → Pl.TellsA s k r p nm o vk vn vt m := by
    intro h1 h2
    have h2 := eq_of_beq h2
    have h3 := hpe.out
    by_cases hb : Pl.actB k r p nm o vk vn vt m = true
    · rw [if_pos hb, h2] at h3
      exact ⟨hb, h3.symm⟩
    · rw [if_neg hb, h2] at h3
      rw [Lib.toList_data, h3] at h1
      simp at h1
  have HY := hide hyes
  clear hnone hyes
  cases he : s.toList.isEmpty
  · cases hq : (AP == s.data.toList)
    · rw [hq] at hcmp
      go_enter Tryz.func78, Tryz.ntmps78
      go_wp2_with fail
      have hb0 : Below w.heap.size w (w.alloc (.cells #[.int .i64 0, .int .i64 0, .int .i64 0, .string ⟨#[]⟩, .bool false, .int .i64 0, .int .i64 0, .string ⟨#[]⟩, .int .i64 0] 45)) := (Below.refl _ _).alloc (Nat.le_refl _) _
      refine (hsp.out _ (hM.out.later hb0)).mono ?_
      rintro e1 W1 ⟨rfl, rfl⟩
      have hb1 := hb0.alloc hb0.size (.cells CS 9)
      go_wp2_with fail
      refine (HK.out _ _ (hT.out.later hb1) (hE.out.later hb1) (by rw [heap_alloc_at, if_pos (by simp)])).mono ?_
      rintro e2 w2 ⟨rfl, hB2⟩
      obtain ⟨bx, _, HB2, hsz⟩ := box2_after hB2
      have hlt2 : w.heap.size < w2.heap.size := by omega
      have HBX := hide bx
      have HBL := hide HB2
      clear hb0 hb1 hB2 bx HB2 hsz
      go_wp2_with fail
      refine (hput.out _ (hT.out.later (HBL.out.alloc HBL.out.size _))).mono ?_
      rintro e3 w3 ⟨rfl, hB3⟩
      obtain ⟨ba, HB3, hlt3⟩ := box_after hB3
      have HBX3 := hide ((HB3.block _ hlt2).trans HBX.out)
      have HBL3 := hide (HBL.out.trans (HB3.mono HBL.out.size))
      have hlt4 : w.heap.size < w3.heap.size := Nat.lt_of_lt_of_le hlt2 HB3.size
      have HBA := hide ba
      clear hB3 HB3 ba
      have r0 := cell_of_block HBX3.out 0
      have r1 := cell_of_block HBX3.out 1
      have r2 := cell_of_block HBX3.out 2
      have r3 := cell_of_block HBX3.out 3
      have r4 := cell_of_block HBX3.out 4
      have r5 := cell_of_block HBX3.out 5
      have r6 := cell_of_block HBX3.out 6
      have r7 := cell_of_block HBX3.out 7
      have r8 := cell_of_block HBX3.out 8
      have g0 := free_of_block HBX3.out 0
      have g1 := free_of_block HBX3.out 1
      have g2 := free_of_block HBX3.out 2
      have g3 := free_of_block HBX3.out 3
      have g4 := free_of_block HBX3.out 4
      have g5 := free_of_block HBX3.out 5
      have g6 := free_of_block HBX3.out 6
      have g7 := free_of_block HBX3.out 7
      have g8 := free_of_block HBX3.out 8
      simp only [List.getElem?_toArray, List.getElem?_cons_zero, List.getElem?_cons_succ] at r0 r1 r2 r3 r4 r5 r6 r7 r8
      go_wp2_with fail
      have hb9 := nine_set HBX3.out (.int .i64 0) (.int .i64 0) (.int .i64 0) (.string ⟨#[]⟩) (.bool false) (.int .i64 0) (.int .i64 0) (.string ⟨#[]⟩) (.int .i64 0)
      have hB9 := nine_below HBL3.out (Nat.le_refl _) (.int .i64 0) (.int .i64 0) (.int .i64 0) (.string ⟨#[]⟩) (.bool false) (.int .i64 0) (.int .i64 0) (.string ⟨#[]⟩) (.int .i64 0)
      clear r0 g0 r1 g1 r2 g2 r3 g3 r4 g4 r5 g5 r6 g6 r7 g7 r8 g8
      generalize (((((((((w3.setCell ⟨w.heap.size, 0, none⟩ (.int .i64 0)).setCell ⟨w.heap.size, 1, none⟩ (.int .i64 0)).setCell ⟨w.heap.size, 2, none⟩ (.int .i64 0)).setCell ⟨w.heap.size, 3, none⟩ (.string ⟨#[]⟩)).setCell ⟨w.heap.size, 4, none⟩ (.bool false)).setCell ⟨w.heap.size, 5, none⟩ (.int .i64 0)).setCell ⟨w.heap.size, 6, none⟩ (.int .i64 0)).setCell ⟨w.heap.size, 7, none⟩ (.string ⟨#[]⟩)).setCell ⟨w.heap.size, 8, none⟩ (.int .i64 0)) = W9 at *
      have s0 := cell_of_block hb9 0
      have s1 := cell_of_block hb9 1
      have s2 := cell_of_block hb9 2
      have s3 := cell_of_block hb9 3
      have s4 := cell_of_block hb9 4
      have s5 := cell_of_block hb9 5
      have s6 := cell_of_block hb9 6
      have s7 := cell_of_block hb9 7
      have s8 := cell_of_block hb9 8
      refine bodyPost_ret (v := .tuple #[actV 0 0 0 ⟨#[]⟩ false 0 0 ⟨#[]⟩ 0, .bool false]) (by simp [results, Tryz.results78, go_sem, s0, s1, s2, s3, s4, s5, s6, s7, s8]) rfl ?_
      exact ⟨.inr ⟨HN.out (.inr hq), rfl⟩, hB9⟩
    · rw [hq] at hcmp
      go_enter Tryz.func78, Tryz.ntmps78
      go_wp2_with fail
      have hb0 : Below w.heap.size w (w.alloc (.cells #[.int .i64 0, .int .i64 0, .int .i64 0, .string ⟨#[]⟩, .bool false, .int .i64 0, .int .i64 0, .string ⟨#[]⟩, .int .i64 0] 45)) := (Below.refl _ _).alloc (Nat.le_refl _) _
      refine (hsp.out _ (hM.out.later hb0)).mono ?_
      rintro e1 W1 ⟨rfl, rfl⟩
      have hb1 := hb0.alloc hb0.size (.cells CS 9)
      go_wp2_with fail
      refine (HK.out _ _ (hT.out.later hb1) (hE.out.later hb1) (by rw [heap_alloc_at, if_pos (by simp)])).mono ?_
      rintro e2 w2 ⟨rfl, hB2⟩
      obtain ⟨bx, _, HB2, hsz⟩ := box2_after hB2
      have hlt2 : w.heap.size < w2.heap.size := by omega
      have HBX := hide bx
      have HBL := hide HB2
      clear hb0 hb1 hB2 bx HB2 hsz
      go_wp2_with fail
      refine (hput.out _ (hT.out.later (HBL.out.alloc HBL.out.size _))).mono ?_
      rintro e3 w3 ⟨rfl, hB3⟩
      obtain ⟨ba, HB3, hlt3⟩ := box_after hB3
      have HBX3 := hide ((HB3.block _ hlt2).trans HBX.out)
      have HBL3 := hide (HBL.out.trans (HB3.mono HBL.out.size))
      have hlt4 : w.heap.size < w3.heap.size := Nat.lt_of_lt_of_le hlt2 HB3.size
      have HBA := hide ba
      clear hB3 HB3 ba
      have r0 := cell_of_block HBX3.out 0
      have r1 := cell_of_block HBX3.out 1
      have r2 := cell_of_block HBX3.out 2
      have r3 := cell_of_block HBX3.out 3
      have r4 := cell_of_block HBX3.out 4
      have r5 := cell_of_block HBX3.out 5
      have r6 := cell_of_block HBX3.out 6
      have r7 := cell_of_block HBX3.out 7
      have r8 := cell_of_block HBX3.out 8
      have g0 := free_of_block HBX3.out 0
      have g1 := free_of_block HBX3.out 1
      have g2 := free_of_block HBX3.out 2
      have g3 := free_of_block HBX3.out 3
      have g4 := free_of_block HBX3.out 4
      have g5 := free_of_block HBX3.out 5
      have g6 := free_of_block HBX3.out 6
      have g7 := free_of_block HBX3.out 7
      have g8 := free_of_block HBX3.out 8
      have a0 := cell_of_block HBA.out 0
      have a1 := cell_of_block HBA.out 1
      have a2 := cell_of_block HBA.out 2
      have a3 := cell_of_block HBA.out 3
      have a4 := cell_of_block HBA.out 4
      have a5 := cell_of_block HBA.out 5
      have a6 := cell_of_block HBA.out 6
      have a7 := cell_of_block HBA.out 7
      have a8 := cell_of_block HBA.out 8
      simp only [List.getElem?_toArray, List.getElem?_cons_zero, List.getElem?_cons_succ] at r0 a0 r1 a1 r2 a2 r3 a3 r4 a4 r5 a5 r6 a6 r7 a7 r8 a8
      go_wp2_with fail
      have hb9 := nine_set HBX3.out (.int .i64 k) (.int .i64 r) (.int .i64 p) (.string nm) (.bool o) (.int .i64 vk) (.int .i64 vn) (.string vt) (.int .i64 m)
      have hB9 := nine_below HBL3.out (Nat.le_refl _) (.int .i64 k) (.int .i64 r) (.int .i64 p) (.string nm) (.bool o) (.int .i64 vk) (.int .i64 vn) (.string vt) (.int .i64 m)
      clear r0 g0 r1 g1 r2 g2 r3 g3 r4 g4 r5 g5 r6 g6 r7 g7 r8 g8 a0 a1 a2 a3 a4 a5 a6 a7 a8
      generalize (((((((((w3.setCell ⟨w.heap.size, 0, none⟩ (.int .i64 k)).setCell ⟨w.heap.size, 1, none⟩ (.int .i64 r)).setCell ⟨w.heap.size, 2, none⟩ (.int .i64 p)).setCell ⟨w.heap.size, 3, none⟩ (.string nm)).setCell ⟨w.heap.size, 4, none⟩ (.bool o)).setCell ⟨w.heap.size, 5, none⟩ (.int .i64 vk)).setCell ⟨w.heap.size, 6, none⟩ (.int .i64 vn)).setCell ⟨w.heap.size, 7, none⟩ (.string vt)).setCell ⟨w.heap.size, 8, none⟩ (.int .i64 m)) = W9 at *
      have s0 := cell_of_block hb9 0
      have s1 := cell_of_block hb9 1
      have s2 := cell_of_block hb9 2
      have s3 := cell_of_block hb9 3
      have s4 := cell_of_block hb9 4
      have s5 := cell_of_block hb9 5
      have s6 := cell_of_block hb9 6
      have s7 := cell_of_block hb9 7
      have s8 := cell_of_block hb9 8
      refine bodyPost_ret (v := .tuple #[actV k r p nm o vk vn vt m, .bool true]) (by simp [results, Tryz.results78, go_sem, s0, s1, s2, s3, s4, s5, s6, s7, s8]) rfl ?_
      exact ⟨.inl ⟨k, r, p, nm, o, vk, vn, vt, m, HY.out he hq, rfl⟩, hB9⟩
  · go_enter Tryz.func78, Tryz.ntmps78
    go_wp2_with fail
    have hb0 : Below w.heap.size w (w.alloc (.cells #[.int .i64 0, .int .i64 0, .int .i64 0, .string ⟨#[]⟩, .bool false, .int .i64 0, .int .i64 0, .string ⟨#[]⟩, .int .i64 0] 45)) := (Below.refl _ _).alloc (Nat.le_refl _) _
    refine (hsp.out _ (hM.out.later hb0)).mono ?_
    rintro e1 W1 ⟨rfl, rfl⟩
    have hb1 := hb0.alloc hb0.size (.cells CS 9)
    go_wp2_with fail
    refine (HK.out _ _ (hT.out.later hb1) (hE.out.later hb1) (by rw [heap_alloc_at, if_pos (by simp)])).mono ?_
    rintro e2 w2 ⟨rfl, hB2⟩
    obtain ⟨bx, _, HB2, hsz⟩ := box2_after hB2
    have hlt2 : w.heap.size < w2.heap.size := by omega
    have HBX := hide bx
    have HBL := hide HB2
    clear hb0 hb1 hB2 bx HB2 hsz
    have r0 := cell_of_block HBX.out 0
    have r1 := cell_of_block HBX.out 1
    have r2 := cell_of_block HBX.out 2
    have r3 := cell_of_block HBX.out 3
    have r4 := cell_of_block HBX.out 4
    have r5 := cell_of_block HBX.out 5
    have r6 := cell_of_block HBX.out 6
    have r7 := cell_of_block HBX.out 7
    have r8 := cell_of_block HBX.out 8
    have g0 := free_of_block HBX.out 0
    have g1 := free_of_block HBX.out 1
    have g2 := free_of_block HBX.out 2
    have g3 := free_of_block HBX.out 3
    have g4 := free_of_block HBX.out 4
    have g5 := free_of_block HBX.out 5
    have g6 := free_of_block HBX.out 6
    have g7 := free_of_block HBX.out 7
    have g8 := free_of_block HBX.out 8
    simp only [List.getElem?_toArray, List.getElem?_cons_zero, List.getElem?_cons_succ] at r0 r1 r2 r3 r4 r5 r6 r7 r8
    go_wp2_with fail
    have hb9 := nine_set HBX.out (.int .i64 0) (.int .i64 0) (.int .i64 0) (.string ⟨#[]⟩) (.bool false) (.int .i64 0) (.int .i64 0) (.string ⟨#[]⟩) (.int .i64 0)
    have hB9 := nine_below HBL.out (Nat.le_refl _) (.int .i64 0) (.int .i64 0) (.int .i64 0) (.string ⟨#[]⟩) (.bool false) (.int .i64 0) (.int .i64 0) (.string ⟨#[]⟩) (.int .i64 0)
    clear r0 g0 r1 g1 r2 g2 r3 g3 r4 g4 r5 g5 r6 g6 r7 g7 r8 g8
    generalize (((((((((w2.setCell ⟨w.heap.size, 0, none⟩ (.int .i64 0)).setCell ⟨w.heap.size, 1, none⟩ (.int .i64 0)).setCell ⟨w.heap.size, 2, none⟩ (.int .i64 0)).setCell ⟨w.heap.size, 3, none⟩ (.string ⟨#[]⟩)).setCell ⟨w.heap.size, 4, none⟩ (.bool false)).setCell ⟨w.heap.size, 5, none⟩ (.int .i64 0)).setCell ⟨w.heap.size, 6, none⟩ (.int .i64 0)).setCell ⟨w.heap.size, 7, none⟩ (.string ⟨#[]⟩)).setCell ⟨w.heap.size, 8, none⟩ (.int .i64 0)) = W9 at *
    have hl9 : w.heap.size < W9.heap.size := (Array.getElem?_eq_some_iff.1 hb9).1
    have hb8 := (Below.heap_alloc W9 (.cells #[.int .i64 k, .int .i64 r, .int .i64 p, .string nm, .bool o, .int .i64 vk, .int .i64 vn, .string vt, .int .i64 m] 45) _ hl9).trans hb9
    have s0 := cell_of_block hb8 0
    have s1 := cell_of_block hb8 1
    have s2 := cell_of_block hb8 2
    have s3 := cell_of_block hb8 3
    have s4 := cell_of_block hb8 4
    have s5 := cell_of_block hb8 5
    have s6 := cell_of_block hb8 6
    have s7 := cell_of_block hb8 7
    have s8 := cell_of_block hb8 8
    refine bodyPost_ret (v := .tuple #[actV 0 0 0 ⟨#[]⟩ false 0 0 ⟨#[]⟩ 0, .bool false]) (by simp [results, Tryz.results78, go_sem, s0, s1, s2, s3, s4, s5, s6, s7, s8]) rfl ?_
    exact ⟨.inr ⟨HN.out (.inl he), rfl⟩, (hB9.alloc hB9.size _)⟩
end Go.Proofs.YtbckbfjnifafaaaGreatDoor

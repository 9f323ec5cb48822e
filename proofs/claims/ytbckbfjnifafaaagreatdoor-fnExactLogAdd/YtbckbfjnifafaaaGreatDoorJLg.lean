/- Joined: PlLg LgR RcI RcE LoI LoI2. -/
import Derived.Test.YtbckbfjnifafaaaGreatDoorJAs
import Derived.Test.YtbckbfjnifafaaaGreatDoorOwn
import Derived.Maps.AppendAt
import Derived.RangeFuncNested
import Derived.RangeFuncBound
import Derived.RangeFuncCalls
import Derived.RangeFuncLeaves
import Derived.Shelf.Abstract
import Derived.Shelf.RegionOpen
import Derived.OwnWalkIn
import Derived.TacticsInMore
import Derived.RegionIn
import Derived.LoopNIn
import Derived.LoopIn
import Derived.Sort.QuietIn
import Derived.Sort.BigQuietIn
import Derived.RangeFuncBox
import Derived.Test.YtbckbfjnifafaaaGreatDoorJAg
/- The records that a text is, and whether a log is ok: plain facts. -/
namespace Go.Proofs.YtbckbfjnifafaaaGreatDoor
open Go.RowKit
set_option linter.unusedVariables false
set_option linter.unusedSimpArgs false
/-- an act -/
structure Pl.Ac where
  k : Int
  r : Int
  p : Int
  nm : ByteArray
  o : Bool
  vk : Int
  vn : Int
  vt : ByteArray
  m : Int
/-- its value, and its record -/
def Pl.Ac.V (a : Pl.Ac) : Value := actV a.k a.r a.p a.nm a.o a.vk a.vn a.vt a.m
def Pl.Ac.T (a : Pl.Ac) : List UInt8 := Pl.recT (Pl.actT a.k a.r a.p a.nm a.o a.vk a.vn a.vt a.m)
def Pl.begins (s : List UInt8) (a : Pl.Ac) : Prop := Pl.TellsR (Pl.bs s) a.k a.r a.p a.nm a.o a.vk a.vn a.vt a.m
/-- the records that a text begins with -/
def Pl.Recs : List UInt8 → List Pl.Ac → Prop
  | s, [] => ∀ a, ¬ Pl.begins s a
  | s, a :: xs => Pl.begins s a ∧ Pl.Recs (s.drop a.T.length) xs
/-- where they end -/
def Pl.endR : List Pl.Ac → Nat
  | [] => 0
  | a :: xs => a.T.length + Pl.endR xs
theorem Pl.T_pos (a : Pl.Ac) : 1 ≤ a.T.length := by
  unfold Pl.Ac.T
  rw [Pl.rec_len]
  omega
theorem Pl.begins_len {s : List UInt8} {a : Pl.Ac} (h : Pl.begins s a) : a.T.length ≤ s.length := by
  obtain ⟨rest, hr⟩ := h.2
  have := congrArg List.length hr
  rw [List.length_append] at this
  rw [Pl.bs_back] at this
  unfold Pl.Ac.T
  omega
theorem Pl.recs_are : ∀ (n : Nat) (s : List UInt8), s.length ≤ n → ∃ xs, Pl.Recs s xs ∧ Pl.endR xs ≤ s.length
  | 0, s, h => by
    refine ⟨[], fun a ha => ?_, Nat.zero_le _⟩
    have := Pl.begins_len ha
    have := Pl.T_pos a
    omega
  | n + 1, s, h => by
    by_cases hx : ∃ a, Pl.begins s a
    · obtain ⟨a, ha⟩ := hx
      have h1 := Pl.begins_len ha
      have h2 := Pl.T_pos a
      obtain ⟨xs, h3, h4⟩ := Pl.recs_are n (s.drop a.T.length) (by rw [List.length_drop]; omega)
      refine ⟨a :: xs, ⟨ha, h3⟩, ?_⟩
      rw [List.length_drop] at h4
      simp only [Pl.endR]
      omega
    · exact ⟨[], fun a ha => hx ⟨a, ha⟩, Nat.zero_le _⟩
theorem Pl.recs_end : ∀ (xs : List Pl.Ac) (s : List UInt8), Pl.Recs s xs → Pl.endR xs ≤ s.length
  | [], s, _ => Nat.zero_le _
  | a :: xs, s, h => by
    have h1 := Pl.begins_len h.1
    have h2 := Pl.recs_end xs _ h.2
    rw [List.length_drop] at h2
    simp only [Pl.endR]
    omega
theorem Pl.recs_many : ∀ (xs : List Pl.Ac) (s : List UInt8), Pl.Recs s xs → xs.length ≤ s.length
  | [], s, _ => Nat.zero_le _
  | a :: xs, s, h => by
    have h1 := Pl.begins_len h.1
    have h0 := Pl.T_pos a
    have h2 := Pl.recs_many xs _ h.2
    rw [List.length_drop] at h2
    simp only [List.length_cons]
    omega
theorem Pl.begins_one {s : List UInt8} {a b : Pl.Ac} (h : Pl.begins s a) (h' : Pl.begins s b) : a = b := by
  obtain ⟨h1, h2, h3, h4, h5, h6, h7, h8, h9⟩ := Pl.tells_rec_one h h'
  cases a
  cases b
  simp only at *
  subst h1 h2 h3 h4 h5 h6 h7 h8 h9
  rfl
/-- who reads a record reads the next one, or none -/
theorem Pl.rec_none {s : List UInt8} (h : Pl.Recs s []) {w : World} {e : Ending} {w' : World} (hp : RgPost (Pl.bs s) w e w') : e = .returned (.tuple #[actV 0 0 0 ⟨#[]⟩ false 0 0 ⟨#[]⟩ 0, .int .i64 0]) ∧ Below w.heap.size w w' := by
  obtain ⟨hp, hB⟩ := hp
  rcases hp with ⟨k, r, p, nm, o, vk, vn, vt, m, ht, _⟩ | ⟨_, rfl⟩
  · exact absurd ht (h ⟨k, r, p, nm, o, vk, vn, vt, m⟩)
  · exact ⟨rfl, hB⟩
theorem Pl.rec_next {s : List UInt8} {a : Pl.Ac} {xs : List Pl.Ac} (h : Pl.Recs s (a :: xs)) {w : World} {e : Ending} {w' : World} (hp : RgPost (Pl.bs s) w e w') : e = .returned (.tuple #[a.V, .int .i64 (a.T.length : Int)]) ∧ Below w.heap.size w w' := by
  obtain ⟨hp, hB⟩ := hp
  rcases hp with ⟨k, r, p, nm, o, vk, vn, vt, m, ht, rfl⟩ | ⟨hn, _⟩
  · have := Pl.begins_one h.1 (show Pl.begins s ⟨k, r, p, nm, o, vk, vn, vt, m⟩ from ht)
    subst this
    exact ⟨rfl, hB⟩
  · exact absurd h.1 (hn _ _ _ _ _ _ _ _ _)
theorem Pl.recs_app : ∀ (done rest : List Pl.Ac) (s : List UInt8), Pl.Recs s (done ++ rest) → Pl.Recs (s.drop (Pl.endR done)) rest
  | [], rest, s, h => by simpa [Pl.endR] using h
  | a :: done, rest, s, h => by
    have := Pl.recs_app done rest _ h.2
    rw [List.drop_drop] at this
    exact this
theorem Pl.endR_app (a b : List Pl.Ac) : Pl.endR (a ++ b) = Pl.endR a + Pl.endR b := by
  induction a with
  | nil => simp [Pl.endR]
  | cons x a ih => simp only [List.cons_append, Pl.endR, ih]; omega
/-- one piece, xs the specification tests it -/
def Pl.segN (E : List UInt8 → Nat) (L : List (List UInt8)) (whole : Bool) (i : Nat) : Bool :=
  !((!(E (L[i]?.getD []) == (L[i]?.getD []).length) && (whole || !(i + 1 == L.length))) || ((E (L[i]?.getD []) == 0 && !(i + 1 == L.length)) || decide (400 < (L[i]?.getD []).length)))
def Pl.pieces (E : List UInt8 → Nat) (L : List (List UInt8)) (whole : Bool) : Bool := (List.range L.length).all (Pl.segN E L whole) && (decide (1 ≤ L.length) && decide (L.length ≤ 20))
/-- whole records, and one at least -/
def Pl.isRec (E : List UInt8 → Nat) (s : List UInt8) : Bool := !s.isEmpty && E s == s.length
/-- one piece, xs the program tests it -/
def Pl.segM (E : List UInt8 → Nat) (L : List (List UInt8)) (i : Nat) : Bool := !(decide (400 < (L[i]?.getD []).length) || (decide (i + 1 < L.length) && !Pl.isRec E (L[i]?.getD [])))
def Pl.mends (E : List UInt8 → Nat) (L : List (List UInt8)) : Bool := (decide (1 ≤ L.length) && decide (L.length ≤ 20)) && (List.range L.length).all (Pl.segM E L)
def Pl.lastL (L : List (List UInt8)) : List UInt8 := L[L.length - 1]?.getD []
def Pl.logS (E : List UInt8 → Nat) (L : List (List UInt8)) : Bool := Pl.pieces E L true && (L.length == 1 || !(Pl.lastL L).isEmpty)
def Pl.logI (E : List UInt8 → Nat) (L : List (List UInt8)) : Bool := Pl.mends E L && (Pl.isRec E (Pl.lastL L) || (L.length == 1 && (L[0]?.getD []).isEmpty))
theorem Pl.seg_mid (E : List UInt8 → Nat) (L : List (List UInt8)) (whole : Bool) (i : Nat) (h : i + 1 < L.length) : Pl.segN E L whole i = Pl.segM E L i := by
  unfold Pl.segN Pl.segM Pl.isRec
  have h1 : (i + 1 == L.length) = false := beq_eq_false_iff_ne.2 (by omega)
  have h2 : decide (i + 1 < L.length) = true := decide_eq_true h
  rw [h1, h2]
  generalize L[i]?.getD [] = s
  by_cases he : E s = s.length
  · cases s with
    | nil => simp at he; simp [he]
    | cons c s => simp [he]
  · have hb : (E s == s.length) = false := beq_eq_false_iff_ne.2 he
    simp [hb]
theorem Pl.seg_last (E : List UInt8 → Nat) (L : List (List UInt8)) (i : Nat) (h : i + 1 = L.length) : Pl.segN E L true i = (Pl.segM E L i && (E (L[i]?.getD []) == (L[i]?.getD []).length)) := by
  unfold Pl.segN Pl.segM
  have h1 : (i + 1 == L.length) = true := beq_iff_eq.2 h
  have h2 : decide (i + 1 < L.length) = false := decide_eq_false (by omega)
  rw [h1, h2]
  generalize L[i]?.getD [] = s
  by_cases he : E s = s.length
  · simp [he]
  · have hb : (E s == s.length) = false := beq_eq_false_iff_ne.2 he
    simp [hb]
theorem Pl.all_last (n : Nat) (f g : Nat → Bool) (h : ∀ i, i < n → f i = g i) : (List.range (n + 1)).all f = ((List.range n).all g && f n) := by
  have he : (List.range n).all f = (List.range n).all g := by
    rw [Bool.eq_iff_iff]
    simp only [List.all_eq_true, List.mem_range]
    exact ⟨fun hh i hi => (h i hi) ▸ hh i hi, fun hh i hi => (h i hi).symm ▸ hh i hi⟩
  rw [List.range_succ, List.all_append, he]
  simp
theorem Pl.log_same (E : List UInt8 → Nat) (h0 : E [] = 0) (L : List (List UInt8)) : Pl.logS E L = Pl.logI E L := by
  unfold Pl.logS Pl.logI Pl.pieces Pl.mends
  by_cases hl : 1 ≤ L.length
  · obtain ⟨n, hn⟩ : ∃ n, L.length = n + 1 := ⟨L.length - 1, by omega⟩
    have hlast : Pl.lastL L = L[n]?.getD [] := by unfold Pl.lastL; rw [hn]; rfl
    have e1 : (List.range L.length).all (Pl.segN E L true) = ((List.range n).all (Pl.segM E L) && Pl.segN E L true n) := by
      rw [hn]
      exact Pl.all_last n _ _ fun i hi => Pl.seg_mid E L true i (by omega)
    have e2 : (List.range L.length).all (Pl.segM E L) = ((List.range n).all (Pl.segM E L) && Pl.segM E L n) := by
      rw [hn]
      exact Pl.all_last n _ _ fun i hi => rfl
    rw [e1, e2, Pl.seg_last E L n hn.symm, hlast]
    have h00 : L.length = 1 → L[0]?.getD [] = L[n]?.getD [] := fun h => by
      have : n = 0 := by omega
      rw [this]
    generalize L[n]?.getD [] = s at *
    unfold Pl.isRec
    cases (List.range n).all (Pl.segM E L)
    · simp
    · cases Pl.segM E L n
      · simp
      · by_cases h1 : L.length = 1
        · rw [h00 h1]
          cases s with
          | nil => simp [h0, h1]
          | cons c s => simp [h1]
        · have hb : (L.length == 1) = false := beq_eq_false_iff_ne.2 h1
          rw [hb]
          cases s with
          | nil => simp
          | cons c s => simp [Bool.and_comm]
  · have : decide (1 ≤ L.length) = false := decide_eq_false hl
    rw [this]
    simp
end Go.Proofs.YtbckbfjnifafaaaGreatDoor

/- Rows of acts that the call itself has made; texts in a row, wherever they lie. -/
namespace Go.Proofs.YtbckbfjnifafaaaGreatDoor
open Go.RowKit
set_option linter.unusedVariables false
set_option linter.unusedSimpArgs false
abbrev acL (a : Pl.Ac) : List Value := actL a.k a.r a.p a.nm a.o a.vk a.vn a.vt a.m
theorem acL_len (a : Pl.Ac) : (acL a).length = 9 := rfl
theorem acs_len : ∀ l : List Pl.Ac, (l.flatMap acL).length = l.length * 9
  | [] => rfl
  | a :: l => by
    have ih := acs_len l
    rw [List.flatMap_cons, List.length_append, ih, acL_len, List.length_cons]
    omega
theorem infoAct : (Tryz.prog.info? 45).map (fun i => (i.zero, i.size, i.bytes)) = some (some (.agg #[.int .i64 0, .int .i64 0, .int .i64 0, .string ⟨#[]⟩, .bool false, .int .i64 0, .int .i64 0, .string ⟨#[]⟩, .int .i64 0]), 9, 88) := by kernel_rfl
theorem act_row_nil (W : World) (base : Nat) : W.ownsRow base 45 9 (.slice none 0 0) 0 [] := ⟨rfl, .inl ⟨rfl, rfl⟩⟩
theorem app_act {W : World} {base : Nat} {v : Value} {A : List Pl.Ac} (e : Pl.Ac) (hv : W.ownsRow base 45 9 v A.length (A.flatMap acL)) (ad : Addr) (c : Nat) (hu : ∀ j u, (acL e)[j]? = some u → W.cell? (ad.add j) = some u) (hn : A.length + 1 ≤ 1048577) (hb : base ≤ W.heap.size) :
    ∃ v' w2, (Builtin.append_ #[31, 31] 31 #[v, .slice (some ad) 1 c]).run Tryz.prog W = .ok v' w2 ∧ w2.ownsRow base 45 9 v' (A ++ [e]).length ((A ++ [e]).flatMap acL) ∧ W.grownBy w2 v.ownBlock := by
  obtain ⟨i0, hi, hz0, hz1, hz2⟩ := info_parts infoAct
  obtain ⟨v', w2, hrun, hown, hgrow, _, _⟩ := run_append_own_at (P := Tryz.prog) W base 31 31 45 i0 _ 9 88 Tryz.underlying31 hi hz0 hz1 hz2 rfl (by decide) v A.length (A.flatMap acL) hv ad 1 c (acL e) rfl hu (fun u hu => by
    simp only [List.mem_cons, List.not_mem_nil, or_false] at hu
    rcases hu with rfl | rfl | rfl | rfl | rfl | rfl | rfl | rfl | rfl <;> rfl) (by unfold maxLen; omega) (by omega) hb
  refine ⟨v', w2, hrun, ?_, hgrow⟩
  simpa [List.flatMap_append] using hown
theorem wp_app_act {ops : Array Oper} {rest : List Oper} {o : Oper} {a : Act} {W : World} {Q : Exit → Act → World → Prop} (hgd : o.guard = none) (s x : Operand)
    (ho : o.op = .call { callee := .builtin .append, args := #[s, x], argTypes := #[31, 31] }) (hty : o.type = 31) (base : Nat) (A : List Pl.Ac) (e : Pl.Ac) (v : Value) (ad : Addr) (c : Nat) (hs : a.eval s = v) (hx : a.eval x = .slice (some ad) 1 c)
    (hv : W.ownsRow base 45 9 v A.length (A.flatMap acL)) (hu : ∀ j u, (acL e)[j]? = some u → W.cell? (ad.add j) = some u) (hn : A.length + 1 ≤ 1048577) (hb : base ≤ W.heap.size)
    (h : ∀ v' w2, Hid (w2.ownsRow base 45 9 v' (A ++ [e]).length ((A ++ [e]).flatMap acL)) → Hid (W.grownBy w2 v.ownBlock) → wpList Tryz.prog ops Q rest (a.put o.dst v') w2) : wpList Tryz.prog ops Q (o :: rest) a W := by
  refine wpList_plain hgd fun K hK => ?_
  obtain ⟨v', w2, hrun, h1, h2⟩ := app_act e hv ad c hu hn hb
  unfold Oper.wp
  simp [execOp, ho, resolve, invoke, builtin, hs, hx, hty, hrun, Result.andThen]
  exact hK _ _ (h _ _ h1 h2)
theorem cells_new (V : World) (e : Pl.Ac) (T : TypeId) : ∀ j u, (acL e)[j]? = some u → (V.alloc (.cells (acL e).toArray T)).cell? ((⟨V.heap.size, 0, none⟩ : Addr).add j) = some u := by
  intro j u hu
  have hadd : (⟨V.heap.size, 0, none⟩ : Addr).add j = ⟨V.heap.size, j, none⟩ := by unfold Addr.add; split <;> simp_all
  rw [hadd, World.cell?_alloc_at _ _ _ _ rfl]
  simpa using hu
/-- a slice that holds these texts, wherever it lies -/
def SegsAt (w : World) (v : Value) (L : List (List UInt8)) : Prop :=
  ∃ ad cap, v = .slice ad L.length cap ∧ L.length ≤ cap ∧ (0 < L.length → ∃ g off, ad = some ⟨g, off, none⟩ ∧ g < w.heap.size ∧ ∀ i x, L[i]? = some x → w.cell? ⟨g, off + i, none⟩ = some (sv x))
theorem SegsAt.later {w w1 : World} {v : Value} {L : List (List UInt8)} (h : SegsAt w v L) (hb : Below w.heap.size w w1) : SegsAt w1 v L := by
  obtain ⟨ad, cap, hv, h1, hc⟩ := h
  refine ⟨ad, cap, hv, h1, fun hl => ?_⟩
  obtain ⟨g, off, ha, hg, hc⟩ := hc hl
  exact ⟨g, off, ha, Nat.lt_of_lt_of_le hg hb.size, fun i x hx => (hb.cell (p := ⟨g, off + i, none⟩) hg).trans (hc i x hx)⟩
end Go.Proofs.YtbckbfjnifafaaaGreatDoor

/- The records that a text begins with, told one by one: the iterator. -/
namespace Go.Proofs.YtbckbfjnifafaaaGreatDoor
open Go.RowKit Go.Shelf
set_option linter.unusedVariables false
set_option linter.unusedSimpArgs false
attribute [local go_sem] Oper.semAt_some
/-- what the library's reading wants of the variables -/
def Glob (w : World) : Prop := Tab w ∧ Errs w ∧ MaxAt w
theorem Glob.later {w w1 : World} (h : Glob w) (hB : Below w.heap.size w w1) : Glob w1 := ⟨h.1.later hB, h.2.1.later hB, h.2.2.later hB⟩
/-- all these variables lie below a place -/
def GLow (n : Nat) : Prop := 1 < n ∧ 4 < n ∧ 5 < n ∧ 0 < n
theorem Glob.lie {w : World} (h : Glob w) : GLow w.heap.size := by
  obtain ⟨h1, ⟨⟨e1, c1, _⟩, ⟨e2, c2, _⟩⟩, ⟨m, c3⟩⟩ := h
  exact ⟨World.block_lt_of_cell? w ⟨1, 0, none⟩ (Lib.TabIs.cell h1 gPow 0 (by decide)), World.block_lt_of_cell? w ⟨4, 0, none⟩ c1, World.block_lt_of_cell? w ⟨5, 0, none⟩ c2, World.block_lt_of_cell? w ⟨0, 0, none⟩ c3⟩
theorem Glob.low {n : Nat} {w w1 : World} (h : Glob w) (hn : GLow n) (hB : Below n w w1) : Glob w1 := by
  obtain ⟨h1, ⟨⟨e1, c1, d1⟩, ⟨e2, c2, d2⟩⟩, ⟨m, c3⟩⟩ := h
  refine ⟨?_, ⟨⟨e1, (hB.cell (p := ⟨4, 0, none⟩) hn.2.1).trans c1, d1⟩, ⟨e2, (hB.cell (p := ⟨5, 0, none⟩) hn.2.2.1).trans c2, d2⟩⟩, ⟨m, (hB.cell (p := ⟨0, 0, none⟩) hn.2.2.2).trans c3⟩⟩
  unfold Tab Lib.TabIs at h1 ⊢
  simp only [World.var?, gPow, Option.bind_some] at h1 ⊢
  rw [hB.block _ hn.1]
  exact h1
theorem GLow.mono {n m : Nat} (h : GLow n) (hm : n ≤ m) : GLow m := ⟨by have := h.1; omega, by have := h.2.1; omega, by have := h.2.2.1; omega, by have := h.2.2.2; omega⟩
/-- a box that holds one text -/
abbrev boxS (W : World) (Bt : Nat) (t : ByteArray) : Prop := W.heap[Bt]? = some (.cells #[.string t] 9 (0, 0))
theorem boxS_cell {W : World} {Bt : Nat} {t : ByteArray} (h : boxS W Bt t) : W.cell? ⟨Bt, 0, none⟩ = some (.string t) := by simp [World.cell?, h]
/-- each act, and where its record ends -/
def Pl.ends : Nat → List Pl.Ac → List (Pl.Ac × Nat)
  | _, [] => []
  | n, a :: xs => (a, n + a.T.length) :: Pl.ends (n + a.T.length) xs
theorem Pl.ends_len : ∀ (xs : List Pl.Ac) (n : Nat), (Pl.ends n xs).length = xs.length
  | [], _ => rfl
  | a :: xs, n => by simp only [Pl.ends, List.length_cons, Pl.ends_len xs]
theorem Pl.ends_app : ∀ (xs : List Pl.Ac) (a : Pl.Ac) (n : Nat), Pl.ends n (xs ++ [a]) = Pl.ends n xs ++ [(a, n + Pl.endR xs + a.T.length)]
  | [], a, n => by simp [Pl.ends, Pl.endR]
  | x :: xs, a, n => by
    simp only [List.cons_append, Pl.ends, Pl.endR, Pl.ends_app xs a]
    congr 4
    omega
/-- what a round is handed -/
def encR (x : Pl.Ac × Nat) : Array Value := #[actV x.1.k x.1.r x.1.p x.1.nm x.1.o x.1.vk x.1.vn x.1.vt x.1.m, .int .i64 (x.2 : Int)]
/-- what a round keeps -/
def KpR (n₀ Bt : Nat) (W W' : World) : Prop := Below n₀ W W' ∧ W'.heap[Bt]? = W.heap[Bt]?
theorem recordsOf_in (n : Nat) (s : ByteArray) (w : World) :
    CallsIn Fence.wide n Tryz.prog 51 #[.string s] w fun e w' => e = .returned (.func (.func 64) #[] #[.pointer (some ⟨w.heap.size, 0, none⟩)]) ∧ w' = w.alloc (.cells #[.string s] 9) := by
  refine callsIn_of_wp Tryz.func51 rfl trivial ?_ rfl
  simp only [Tryz.ntmps51, List.size_toArray, List.length_cons, List.length_nil, Nat.reduceAdd, Nat.reduceSub, Array.replicate_succ, Array.replicate_zero, List.push_toArray, List.append_toArray, List.nil_append, List.cons_append]
  gi_wp2
  go_ret
  exact ⟨rfl, rfl⟩
set_option maxRecDepth 100000 in
set_option maxHeartbeats 1600000 in
theorem recs_stops (n : Nat) (hn : 2 ≤ n) (n₀ Bt : Nat) (s : List UInt8) (hs : s.length ≤ 1048576) (xs : List Pl.Ac) (hR : Pl.Recs s xs) (w : World) (hG : Glob w) (hL : GLow n₀) (hn0 : n₀ ≤ w.heap.size) (hbt : boxS w Bt (Pl.bs s)) :
    SeqStopsK Fence.wide n Tryz.prog 64 #[.pointer (some ⟨Bt, 0, none⟩)] encR (KpR n₀ Bt) (fun ys => ys = Pl.ends 0 xs) (fun _ => True) xs.length w := by
  intro l J Jx W hBW hJ hJx hY h0
  have hbtl : Bt < w.heap.size := (Array.getElem?_eq_some_iff.1 hbt).1
  have hBox : boxS W Bt (Pl.bs s) := (hBW.block Bt hbtl).trans hbt
  have hGW : Glob W := hG.later hBW
  have hsW := hBW.size
  have h1 : 1 ≤ n := by omega
  have hF : Fence.wide.fn 65 := trivial
  have hbs := Pl.bs_size s
  have HR := hide hR
  clear hG hbt hBW hR
  refine callsIn_of_wp Tryz.func64 rfl trivial ?_ rfl
  simp only [Tryz.ntmps64, List.size_toArray, List.length_cons, List.length_nil, Nat.reduceAdd, Nat.reduceSub, Array.replicate_succ, Array.replicate_zero, List.push_toArray, List.append_toArray, List.nil_append, List.cons_append]
  gi_wp2_with fail
  gi_loopw [3] (fun ev wr => ∃ done rest : List Pl.Ac, done ++ rest = xs ∧ ev = .int .i64 (Pl.endR done : Int) ∧ boxS wr Bt (Pl.bs s) ∧ Hid (Glob wr) ∧ n₀ ≤ wr.heap.size ∧ J (Pl.ends 0 done) wr) (fun ev _ => s.length + 1 - (intOf ev).toNat)
  case atStart => exact ⟨[], xs, rfl, rfl, hBox, hGW, by omega, h0⟩
  case round =>
    obtain ⟨done, rest, hx, rfl, hbox, HG, hnw, hJs⟩ := hrel
    have hcell := boxS_cell hbox
    have HBX := hide hbox
    have hbl : Bt < wr.heap.size := (Array.getElem?_eq_some_iff.1 hbox).1
    have hrest := Pl.recs_app done rest s (by rw [hx]; exact HR.out)
    have hend := Pl.recs_end xs s HR.out
    have hea : Pl.endR xs = Pl.endR done + Pl.endR rest := by rw [← hx, Pl.endR_app]
    have hdl : done.length + rest.length = xs.length := by rw [← hx, List.length_append]
    have hxt : (Pl.bs s).extract (Pl.endR done) (Pl.bs s).size = Pl.bs (s.drop (Pl.endR done)) := Pl.extract_tail (Pl.bs s) (Pl.endR done)
    have hcall := fun W (g : Glob W) => implRecordGet_any (Pl.bs (s.drop (Pl.endR done))) (by rw [Pl.bs_size, List.length_drop]; omega) W g.1 g.2.1 g.2.2
    clear hbox
    cases rest with
    | nil =>
      have hrec : Hid (∀ W, Glob W → Calls Tryz.prog 65 #[.string ((Pl.bs s).extract (Pl.endR done) (Pl.bs s).size)] W fun e w' => e = .returned (.tuple #[actV 0 0 0 ⟨#[]⟩ false 0 0 ⟨#[]⟩ 0, .int .i64 0]) ∧ Below W.heap.size W w') := fun W g => by
        rw [hxt]
        exact (hcall W g).mono fun e w' h => Pl.rec_none hrest h
      have HX : Hid (done = xs) := by show _ = _; rw [← hx]; simp
      have hnl : Pl.endR done ≤ (Pl.bs s).size := by omega
      clear hcall hrest hx hxt hea hend hdl
      generalize Pl.endR done = m at *
      gi_wp2_with (gi_at_call 65; refine (callsIn_wide.2 (hrec.out _ HG.out)).mono ?_; rintro e w1 ⟨rfl, hB1⟩)
      refine ⟨fun _ h => (by cases h), ?_⟩
      gi_wp2
      refine bodyPost_ret (results_none rfl _ _ _) rfl ?_
      refine ⟨⟨_, rfl⟩, .inl ⟨_, rfl, ?_⟩⟩
      rw [← HX.out]
      have hB2 := hB1.alloc hB1.size (.cells #[.int .i64 0, .int .i64 0, .int .i64 0, .string ⟨#[]⟩, .bool false, .int .i64 0, .int .i64 0, .string ⟨#[]⟩, .int .i64 0] 45)
      exact hJ _ wr _ none hJs ⟨hB2.os, hB2.tape, hB2.output, hB2.size, fun k hk _ => hB2.block k hk⟩ (fun r e => by cases e)
    | cons a rest =>
      have hrec : Hid (∀ W, Glob W → Calls Tryz.prog 65 #[.string ((Pl.bs s).extract (Pl.endR done) (Pl.bs s).size)] W fun e w' => e = .returned (.tuple #[actV a.k a.r a.p a.nm a.o a.vk a.vn a.vt a.m, .int .i64 (a.T.length : Int)]) ∧ Below W.heap.size W w') := fun W g => by
        rw [hxt]
        exact (hcall W g).mono fun e w' h => Pl.rec_next hrest h
      have hT1 := Pl.T_pos a
      have hT2 := Pl.begins_len hrest.1
      rw [List.length_drop] at hT2
      have HX : Hid ((done ++ [a]) ++ rest = xs) := by show _ = _; rw [← hx]; simp
      have HEN : Hid (Pl.endR (done ++ [a]) = Pl.endR done + a.T.length) := by show _ = _; rw [Pl.endR_app]; simp [Pl.endR]
      have hes : Pl.ends 0 (done ++ [a]) = Pl.ends 0 done ++ [(a, Pl.endR done + a.T.length)] := by rw [Pl.ends_app]; simp
      have hpl : (Pl.ends 0 done).length < xs.length := by rw [Pl.ends_len]; simp only [List.length_cons] at hdl; omega
      have hnl : Pl.endR done ≤ (Pl.bs s).size := by omega
      have HYF : Hid (∀ w1, Below wr.heap.size wr w1 → YieldAt Fence.wide (n - 1) Tryz.prog l #[actV a.k a.r a.p a.nm a.o a.vk a.vn a.vt a.m, .int .i64 ((Pl.endR done : Int) + (a.T.length : Int))] (w1.alloc (.cells #[.int .i64 a.k, .int .i64 a.r, .int .i64 a.p, .string a.nm, .bool a.o, .int .i64 a.vk, .int .i64 a.vn, .string a.vt, .int .i64 a.m] 45)) fun e W' =>
          (e = .returned (.bool true) ∧ J (Pl.ends 0 (done ++ [a])) W' ∧ boxS W' Bt (Pl.bs s) ∧ Glob W' ∧ n₀ ≤ W'.heap.size) ∨ (e = .returned (.bool false) ∧ ∃ pre, Jx pre W')) := fun w1 hB1 => by
        have hB2 := hB1.alloc hB1.size (.cells #[.int .i64 a.k, .int .i64 a.r, .int .i64 a.p, .string a.nm, .bool a.o, .int .i64 a.vk, .int .i64 a.vn, .string a.vt, .int .i64 a.m] 45)
        have hj := hJ _ wr _ none hJs ⟨hB2.os, hB2.tape, hB2.output, hB2.size, fun k hk _ => hB2.block k hk⟩ (fun r e => by cases e)
        have hy := hY (Pl.ends 0 done) (a, Pl.endR done + a.T.length) _ hj hpl
        have hen : encR (a, Pl.endR done + a.T.length) = #[actV a.k a.r a.p a.nm a.o a.vk a.vn a.vt a.m, .int .i64 ((Pl.endR done : Int) + (a.T.length : Int))] := by simp [encR]
        rw [hen] at hy
        refine hy.mono ?_
        rintro e W' (⟨rfl, h2, h3⟩ | ⟨rfl, h2⟩)
        · refine .inl ⟨rfl, by rw [hes]; exact h2, h3.2.trans ((hB2.block Bt hbl).trans HBX.out), (HG.out.later hB2).low hL h3.1, ?_⟩
          have := h3.1.size
          have := hB2.size
          omega
        · exact .inr ⟨rfl, _, h2⟩
      clear hcall hrest hx hxt hea hend hdl hes hpl
      generalize Pl.endR done = m at *
      generalize a.T.length = t at *
      have htz : ((t : Int) == 0) = false := beq_eq_false_iff_ne.2 (by omega)
      gi_wp2_with (gi_at_call 65; refine (callsIn_wide.2 (hrec.out _ HG.out)).mono ?_; rintro e w1 ⟨rfl, hB1⟩; have hYx := HYF.out w1 hB1; obtain ⟨fn, tmps, assign, body, hy, hR⟩ := hYx)
      refine hR.mono ?_
      rintro e W3 (⟨rfl, hJ3, hb3, hG3, hn3⟩ | ⟨rfl, pre, hx3⟩)
      · have HG3 := hide hG3
        have HB3 := hide hb3
        clear hG3 hb3 hy
        gi_wp2
        exact ⟨⟨done ++ [a], rest, HX.out, by rw [HEN.out]; go_num, HB3.out, HG3, hn3, hJ3⟩, by simp [intOf]; omega⟩
      · clear hy
        gi_wp2
        refine bodyPost_ret (results_none rfl _ _ _) rfl ?_
        exact ⟨⟨_, rfl⟩, .inr ⟨_, trivial, hx3⟩⟩
end Go.Proofs.YtbckbfjnifafaaaGreatDoor

/- Where the records end that a text begins with, as the program has it. -/
namespace Go.Proofs.YtbckbfjnifafaaaGreatDoor
open Go.RowKit Go.Shelf
set_option linter.unusedVariables false
set_option linter.unusedSimpArgs false
attribute [local go_sem] Oper.semAt_some
/-- the end that was told last -/
def Pl.lastE (l : List (Pl.Ac × Nat)) : Nat := (l.getLast?.map (·.2)).getD 0
theorem Pl.lastE_app (l : List (Pl.Ac × Nat)) (x : Pl.Ac × Nat) : Pl.lastE (l ++ [x]) = x.2 := by simp [Pl.lastE]
theorem Pl.lastE_ends (xs : List Pl.Ac) : Pl.lastE (Pl.ends 0 xs) = Pl.endR xs := by
  rcases List.eq_nil_or_concat xs with rfl | ⟨ys, a, rfl⟩
  · rfl
  · rw [List.concat_eq_append, Pl.ends_app, Pl.lastE_app, Pl.endR_app]
    simp [Pl.endR]
set_option maxRecDepth 100000 in
set_option maxHeartbeats 2000000 in
theorem recordsEnd_any (s : List UInt8) (hs : s.length ≤ 1048576) (xs : List Pl.Ac) (hR : Pl.Recs s xs) (w : World) (hG : Glob w) :
    Calls Tryz.prog 47 #[.string (Pl.bs s)] w fun e w' => e = .returned (.int .i64 (Pl.endR xs : Int)) ∧ Below w.heap.size w w' := by
  refine (callsIn_wide (n := 6)).1 ?_
  have hF1 : Fence.wide.fn 51 := trivial
  refine callsIn_of_wp_marks Tryz.func47 rfl trivial ?_ rfl
  simp only [Tryz.ntmps47, List.size_toArray, List.length_cons, List.length_nil, Nat.reduceAdd, Nat.reduceSub, Array.replicate_succ, Array.replicate_zero, List.push_toArray, List.append_toArray, List.nil_append, List.cons_append]
  gi_wp2_with (gi_at_call 51; refine (recordsOf_in _ _ _).mono ?_; rintro e w' ⟨rfl, rfl⟩)
  obtain ⟨W0, hW0⟩ : ∃ W0, W0 = (w.alloc (Obj.cells #[Value.int .i64 0] 3)).alloc (Obj.cells #[Value.string (Pl.bs s)] 9) := ⟨_, rfl⟩
  have hsz : W0.heap.size = w.heap.size + 2 := by rw [hW0]; simp
  have hB0 : Below w.heap.size w W0 := by rw [hW0]; exact ((Below.refl _ w).alloc (Nat.le_refl _) _).alloc (by simp) _
  have hbox : boxS W0 (w.heap.size + 1) (Pl.bs s) := by
    have := Boxed.new (w.alloc (Obj.cells #[Value.int .i64 0] 3)) 9 (.string (Pl.bs s))
    simp only [World.size_alloc] at this
    rw [hW0]; exact this
  have hb1 : Boxed W0 w.heap.size 3 (.int .i64 0) := by
    rw [hW0]
    exact (Boxed.new w 3 (.int .i64 0)).alloc _
  have hst := recs_stops (6 - 1) (by decide) w.heap.size (w.heap.size + 1) s hs xs hR W0 (hG.later hB0) hG.lie (by omega) hbox
  rw [← hW0]
  have HW0 := hide hW0
  clear hW0
  refine wpIn_rangeFunc_ownF rfl (by decide) (gf := 64) (lb := #[.pointer (some ⟨w.heap.size + 1, 0, none⟩)]) rfl trivial (enters_of Tryz.func64 (by kernel_rfl) rfl)
    hst (fun h k => ⟨h.1.trans k.1, k.2.trans h.2⟩) (fun W l o o' hl h hc hwk => ⟨belowK_b (w := W0) (by omega) W l o o' hl h hc hwk, World.putObj_heap_other (by omega)⟩) (Below.refl _ _) (fun _ => rfl)
    (fun pre W => Boxed W w.heap.size 3 (.int .i64 (Pl.lastE pre : Int)) ∧ Below w.heap.size w W)
    (fun _ _ _ => False)
    (fun st A B row hs hg hr => ⟨hs.1.kept hg (fun e => by have := (hr _ e.symm).1; omega), hs.2.grown hg hs.2.size (fun k e => by have := (hr k e).1; omega)⟩)
    (fun _ _ _ _ _ hs _ _ => hs)
    ⟨hb1, hB0⟩
    (fun x => { tmps := #[.string (Pl.bs s), undef, .int .i64 0, .pointer (some ⟨w.heap.size, 0, none⟩), undef, .int .i64 (x.2 : Int), .string (Pl.bs s), .func (.func 64) #[] #[.pointer (some ⟨w.heap.size + 1, 0, none⟩)], actV x.1.k x.1.r x.1.p x.1.nm x.1.o x.1.vk x.1.vn x.1.vt x.1.m, .int .i64 (x.2 : Int), undef, undef], defers := [] }) ?assign ?body ?done ?stop
  case assign =>
    intro l x W K hK
    simp only [encR]
    gi_wp2
    exact hK
  case body =>
    rintro l pre x W ⟨hb, hB⟩ _
    have hc := hb.cell
    have hf := hb.frozen
    have hlt := hb.lt
    gi_wp2
    exact ⟨KeepsOthers.setCell _ _ _, ⟨(Below.refl w.heap.size W).setCell (p := ⟨w.heap.size, 0, none⟩) (Nat.le_refl _) _, Below.heap_setCell _ _ _ _ (by show w.heap.size + 1 ≠ w.heap.size; omega)⟩, by rw [Pl.lastE_app]; exact hb.set _, hB.setCell (p := ⟨w.heap.size, 0, none⟩) (Nat.le_refl _) _⟩
  case done =>
    rintro D ys W hD rfl ⟨hb, hB⟩ hK
    have hc := hb.cell
    gi_wp2
    refine ⟨by simp, .inl ⟨_, _, rfl, run_takeDeferred hK, ?_⟩⟩
    exact ⟨_, results_tmp rfl _ _ _, by rw [Pl.lastE_ends]; rfl, hB.trans (belowK_b (w := w) (Nat.le_refl _) W D _ _ (by omega) hK rfl rfl)⟩
  case stop =>
    rintro D c pre W _ _ h _
    exact h.elim
end Go.Proofs.YtbckbfjnifafaaaGreatDoor

/- Whether a log is ok, as the program has it. -/
namespace Go.Proofs.YtbckbfjnifafaaaGreatDoor
open Go.RowKit
set_option linter.unusedVariables false
set_option linter.unusedSimpArgs false
abbrev lgV (v : Value) : Value := .agg #[v]
/-- where the records of each text end -/
def EndIs (E : List UInt8 → Nat) : Prop := ∀ s, ∃ xs, Pl.Recs s xs ∧ E s = Pl.endR xs
theorem one_bx {w w1 : World} {A : Obj} (hb : Below (w.alloc A).heap.size (w.alloc A) w1) : w1.heap[w.heap.size]? = some A ∧ Below w.heap.size w w1 ∧ w.heap.size < w1.heap.size := by
  have hs := hb.size
  have e1 : (w.alloc A).heap.size = w.heap.size + 1 := by simp
  refine ⟨?_, ((Below.refl _ _).alloc (Nat.le_refl _) _).trans (hb.mono (by omega)), by omega⟩
  rw [hb.block _ (by omega), heap_alloc_at, if_pos rfl]
theorem int_beq (a b : Nat) : (((a : Int)) == ((b : Int))) = (a == b) := by
  rw [Bool.eq_iff_iff]
  simp only [beq_iff_eq]
  omega
set_option maxHeartbeats 800000 in
theorem isRecords_any (E : List UInt8 → Nat) (hE : EndIs E) (s : List UInt8) (hs : s.length ≤ 1048576) (w : World) (hG : Glob w) :
    Calls Tryz.prog 29 #[.string (Pl.bs s)] w fun e w' => e = .returned (.bool (Pl.isRec E s)) ∧ Below w.heap.size w w' := by
  obtain ⟨xs, hR, he⟩ := hE s
  have hend := hide (recordsEnd_any s hs xs hR w hG)
  have hte : (Pl.bs s).toList.isEmpty = s.isEmpty := by rw [Pl.bs_toList]
  have hq : ((Pl.endR xs : Int) == ((Pl.bs s).size : Int)) = (E s == s.length) := by rw [int_beq, Pl.bs_size, he]
  have HI : Hid (Pl.isRec E s = (!s.isEmpty && E s == s.length)) := rfl
  clear hE hR he hG
  generalize (E s == s.length) = b at *
  cases hx : s.isEmpty
  · rw [hx] at hte
    go_enter Tryz.func29, Tryz.ntmps29
    go_wp2_with fail
    refine hend.out.mono ?_
    rintro e w1 ⟨rfl, hB1⟩
    have HB := hide hB1
    clear hB1 hend
    go_wp2_with fail
    go_ret
    exact ⟨by rw [HI.out, hx]; rfl, HB.out⟩
  · rw [hx] at hte
    clear hend
    go_enter Tryz.func29, Tryz.ntmps29
    go_wp2_with fail
    go_ret
    exact ⟨by rw [HI.out, hx]; rfl, Below.refl _ _⟩
theorem Pl.mends_no {E : List UInt8 → Nat} {L : List (List UInt8)} {i : Nat} (hi : i < L.length) (h : Pl.segM E L i = false) : Pl.mends E L = false := by
  unfold Pl.mends
  have : (List.range L.length).all (Pl.segM E L) = false := by rw [List.all_eq_false]; exact ⟨i, List.mem_range.2 hi, by simp [h]⟩
  rw [this]; simp
theorem Pl.mends_yes {E : List UInt8 → Nat} {L : List (List UInt8)} (h1 : 1 ≤ L.length) (h2 : L.length ≤ 20) (h : ∀ i, i < L.length → Pl.segM E L i = true) : Pl.mends E L = true := by
  unfold Pl.mends
  have : (List.range L.length).all (Pl.segM E L) = true := by rw [List.all_eq_true]; exact fun i hi => h i (List.mem_range.1 hi)
  rw [this]; simp [h1, h2]
set_option maxRecDepth 100000 in
set_option maxHeartbeats 1600000 in
theorem logMends_any (E : List UInt8 → Nat) (hE : EndIs E) (L : List (List UInt8)) (hz : ∀ x ∈ L, x.length ≤ 1048576) (v : Value) (w : World) (ht : TextsAt w v L) (hG : Glob w) :
    Calls Tryz.prog 28 #[lgV v] w fun e w' => e = .returned (.bool (Pl.mends E L)) ∧ Below w.heap.size w w' := by
  obtain ⟨ad, cap, rfl, h1, h2, hc, _⟩ := ht
  have HG := hide hG
  have HC := hide hc
  have HZ : Hid (∀ i, i < L.length → (L[i]?.getD []).length ≤ 1048576) := fun i hi => by
    rw [List.getElem?_eq_getElem hi]
    simpa using hz _ (List.getElem_mem hi)
  unfold maxLen at h2
  clear hG hc hz
  by_cases hr : 1 ≤ L.length ∧ L.length ≤ 20
  · obtain ⟨hr1, hr2⟩ := hr
    have hz0 : ((L.length : Int) == 0) = false := beq_eq_false_iff_ne.2 (by omega)
    have hdz : ¬ (20 : Int) < (L.length : Int) := by omega
    go_enter Tryz.func28, Tryz.ntmps28
    go_wp2_with fail
    go_loopw [18] (fun iv wr => ∃ i : Nat, i ≤ L.length ∧ iv = .int .i64 i ∧ Hid (∀ j, j < i → Pl.segM E L j = true) ∧ Hid (wr.heap[w.heap.size]? = some (.cells #[.slice ad L.length cap] 27 (0, 0))) ∧ Hid (Below w.heap.size w wr)) (fun iv _ => L.length - (intOf iv).toNat)
    case atStart => exact ⟨0, by omega, rfl, (fun j hj => by omega), by show (w.heap.push _)[w.heap.size]? = _; rw [Array.getElem?_push_size], (Below.refl _ _).alloc (Nat.le_refl _) _⟩
    case round =>
      obtain ⟨i, hi, rfl, HA, HX, HB⟩ := hrel
      have b0 := cell_of_block HX.out 0
      simp only [List.getElem?_toArray, List.getElem?_cons_zero] at b0
      have hlw : w.heap.size < wr.heap.size := (Array.getElem?_eq_some_iff.1 HX.out).1
      by_cases hlt : i < L.length
      · obtain ⟨g, off, rfl, hg, hs⟩ := HC.out (by omega)
        have c1 := (HB.out.cell (p := ⟨g, off + i, none⟩) hg).trans (hs i hlt)
        have z1 := HZ.out i hlt
        have hsz := Pl.bs_size (L[i]?.getD [])
        have hrec := hide (fun W (hW : Below w.heap.size w W) => isRecords_any E hE (L[i]?.getD []) z1 W (HG.out.later hW))
        have HSM : Hid (Pl.segM E L i = !(decide (400 < (L[i]?.getD []).length) || (decide (i + 1 < L.length) && !Pl.isRec E (L[i]?.getD [])))) := rfl
        have HNO := hide (fun (h : Pl.segM E L i = false) => Pl.mends_no hlt h)
        have HNX : Hid (Pl.segM E L i = true → ∀ j, j < i + 1 → Pl.segM E L j = true) := fun h j hj => by
          by_cases e : j = i
          · rw [e]; exact h
          · exact HA.out j (by omega)
        clear hs
        generalize L[i]?.getD [] = X at *
        have hii : (i : Int) < (L.length : Int) := by omega
        by_cases h4 : 400 < X.length
        · have HF := hide (HNO.out (by rw [HSM.out, decide_eq_true h4]; rfl))
          have h4' : (400 : Int) < (X.length : Int) := by omega
          clear hrec HSM HNO HNX HA
          go_wp2_with fail
          go_ret
          exact ⟨by rw [HF.out]; rfl, HB.out⟩
        · have h4' : ¬ (400 : Int) < (X.length : Int) := by omega
          by_cases hl : i + 1 < L.length
          · have hl' : (i : Int) < (L.length : Int) - 1 := by omega
            cases hb : Pl.isRec E X
            · rw [hb] at hrec
              have HF := hide (HNO.out (by rw [HSM.out, decide_eq_false h4, decide_eq_true hl, hb]; rfl))
              clear HSM HNO HNX HA
              go_wp2_with fail
              refine (hrec.out _ HB.out).mono ?_
              rintro e w1 ⟨rfl, hB1⟩
              have HB1 := hide (HB.out.trans (hB1.mono HB.out.size))
              clear hB1 hrec
              go_wp2_with fail
              go_ret
              exact ⟨by rw [HF.out]; rfl, HB1.out⟩
            · rw [hb] at hrec
              have HF := hide (HNX.out (by rw [HSM.out, decide_eq_false h4, decide_eq_true hl, hb]; rfl))
              clear HSM HNO HNX HA
              go_wp2_with fail
              refine (hrec.out _ HB.out).mono ?_
              rintro e w1 ⟨rfl, hB1⟩
              have HB1 := hide (HB.out.trans (hB1.mono HB.out.size))
              have HX1 := hide ((hB1.block _ hlw).trans HX.out)
              clear hB1 hrec
              go_wp2_with fail
              go_roundw
              case rel => exact ⟨i + 1, by omega, by go_num, HF, HX1, HB1⟩
              case measure => simp [intOf]; omega
          · have hl' : ¬ (i : Int) < (L.length : Int) - 1 := by omega
            have HF := hide (HNX.out (by rw [HSM.out, decide_eq_false h4, decide_eq_false hl]; rfl))
            clear HSM HNO HNX HA hrec
            go_wp2_with fail
            go_roundw
            case rel => exact ⟨i + 1, by omega, by go_num, HF, HX, HB⟩
            case measure => simp [intOf]; omega
      · have hie : i = L.length := by omega
        have HF := hide (Pl.mends_yes (E := E) (L := L) hr1 hr2 (fun j hj => HA.out j (by omega)))
        go_wp2_with fail
        go_ret
        exact ⟨by rw [HF.out]; rfl, HB.out⟩
  · have HF : Hid (Pl.mends E L = false) := by
      show _ = _
      unfold Pl.mends
      by_cases h : 1 ≤ L.length
      · rw [decide_eq_false (p := L.length ≤ 20) (by omega)]; simp
      · rw [decide_eq_false h]; simp
    by_cases h0 : L.length = 0
    · rw [h0]
      clear HC HZ hE HG
      go_enter Tryz.func28, Tryz.ntmps28
      go_wp2_with fail
      go_ret
      exact ⟨by rw [HF.out]; rfl, (Below.refl _ _).alloc (Nat.le_refl _) _⟩
    · have hz0 : ((L.length : Int) == 0) = false := beq_eq_false_iff_ne.2 (by omega)
      have hdz : (20 : Int) < (L.length : Int) := by omega
      clear HC HZ hE HG
      go_enter Tryz.func28, Tryz.ntmps28
      go_wp2_with fail
      go_ret
      exact ⟨by rw [HF.out]; rfl, (Below.refl _ _).alloc (Nat.le_refl _) _⟩
end Go.Proofs.YtbckbfjnifafaaaGreatDoor

/- Whether a log is ok, as the program has it: its last step. -/
namespace Go.Proofs.YtbckbfjnifafaaaGreatDoor
open Go.RowKit
set_option linter.unusedVariables false
set_option linter.unusedSimpArgs false
set_option maxRecDepth 100000 in
set_option maxHeartbeats 1600000 in
theorem implLogOk_any (E : List UInt8 → Nat) (hE : EndIs E) (L : List (List UInt8)) (hz : ∀ x ∈ L, x.length ≤ 1048576) (v : Value) (w : World) (ht : TextsAt w v L) (hG : Glob w) :
    Calls Tryz.prog 10 #[lgV v] w fun e w' => e = .returned (.bool (Pl.logI E L)) ∧ Below w.heap.size w w' := by
  have hb0 : Below w.heap.size w (w.alloc (.cells #[v] 27)) := (Below.refl _ _).alloc (Nat.le_refl _) _
  have hm := hide (logMends_any E hE L hz v _ (ht.later hb0) (hG.later hb0))
  have HI : Hid (Pl.logI E L = (Pl.mends E L && (Pl.isRec E (Pl.lastL L) || (L.length == 1 && (L[0]?.getD []).isEmpty)))) := rfl
  cases hmm : Pl.mends E L
  · rw [hmm] at hm
    clear ht hz hE hG hb0
    go_enter Tryz.func10, Tryz.ntmps10
    go_wp2_with fail
    refine hm.out.mono ?_
    rintro e w1 ⟨rfl, hB1⟩
    have HB := hide (((Below.refl w.heap.size w).alloc (Nat.le_refl _) (.cells #[v] 27)).trans (hB1.mono (by simp)))
    clear hB1 hm
    go_wp2_with fail
    go_ret
    exact ⟨by rw [HI.out, hmm]; rfl, HB.out⟩
  · rw [hmm] at hm
    have hlen : 1 ≤ L.length ∧ L.length ≤ 20 := by
      unfold Pl.mends at hmm
      simp only [Bool.and_eq_true, decide_eq_true_eq] at hmm
      exact hmm.1
    obtain ⟨ad, cap, rfl, h1, h2, hc, _⟩ := ht
    unfold maxLen at h2
    obtain ⟨g, off, rfl, hg, hs⟩ := hc (by omega)
    obtain ⟨n, hn⟩ : ∃ n, L.length = n + 1 := ⟨L.length - 1, by omega⟩
    have hl : Pl.lastL L = L[n]?.getD [] := by unfold Pl.lastL; rw [hn]; rfl
    have cl := hs n (by omega)
    have c0 := hs 0 (by omega)
    rw [← hl] at cl
    rw [Nat.add_zero] at c0
    have hzl : (Pl.lastL L).length ≤ 1048576 := by
      rw [hl, List.getElem?_eq_getElem (by omega)]
      simpa using hz _ (List.getElem_mem (by omega))
    have hrec := hide (fun W (hW : Below w.heap.size w W) => isRecords_any E hE (Pl.lastL L) hzl W (hG.later hW))
    have h1b : (((L.length : Nat) : Int) == 1) = (L.length == 1) := by rw [show (1 : Int) = ((1 : Nat) : Int) from rfl, int_beq]
    have heb : (Pl.bs (L[0]?.getD [])).toList.isEmpty = (L[0]?.getD []).isEmpty := by rw [Pl.bs_toList]
    have HB0 := hide hb0
    have HCL : Hid (∀ W, Below w.heap.size w W → W.cell? ⟨g, off + n, none⟩ = some (sv (Pl.lastL L)) ∧ W.cell? ⟨g, off, none⟩ = some (sv (L[0]?.getD []))) := fun W hW => ⟨(hW.cell (p := ⟨g, off + n, none⟩) hg).trans cl, (hW.cell (p := ⟨g, off, none⟩) hg).trans c0⟩
    have HNE : Hid (L.length ≠ 1 → (L.length == 1) = false) := fun h => beq_eq_false_iff_ne.2 h
    clear hs hc hz hE hG hb0 cl c0 hl hzl
    generalize Pl.lastL L = X at *
    generalize L[0]?.getD [] = Y at *
    rw [hn] at h1b HI hm h1 hlen
    generalize hb1 : ((n + 1 : Nat) == 1) = b1 at *
    generalize hb2 : Y.isEmpty = b2 at *
    have hcap : n + 1 ≤ cap := h1
    clear HNE
    cases hb : Pl.isRec E X
    · rw [hb] at hrec
      rw [hn]
      go_enter Tryz.func10, Tryz.ntmps10
      go_wp2_with fail
      refine hm.out.mono ?_
      rintro e w1 ⟨rfl, hB1⟩
      obtain ⟨bx, hBL, hlw⟩ := one_bx hB1
      obtain ⟨d1, d0⟩ := HCL.out _ hBL
      have b0 := cell_of_block bx 0
      simp only [List.getElem?_toArray, List.getElem?_cons_zero] at b0
      have HB := hide hBL
      have HX := hide bx
      clear hB1 hm hBL bx
      go_wp2_with fail
      refine (hrec.out _ HB.out).mono ?_
      rintro e2 w2 ⟨rfl, hB2⟩
      have HB2 := hide (HB.out.trans (hB2.mono HB.out.size))
      obtain ⟨q1, q0⟩ := HCL.out _ HB2.out
      have HX2 := hide ((hB2.block _ hlw).trans HX.out)
      have p0 := cell_of_block HX2.out 0
      simp only [List.getElem?_toArray, List.getElem?_cons_zero] at p0
      clear hB2 hrec d1 d0 b0 HX HB HCL
      by_cases hn0 : n = 0
      · subst hn0
        obtain rfl : b1 = true := by rw [← hb1]; rfl
        have HR : Hid (Pl.logI E L = b2) := by show _ = _; rw [HI.out, hmm, hb]; simp
        clear HI hb1 hb2
        cases b2
        all_goals
          go_wp2_with fail
          go_ret
          exact ⟨by rw [HR.out]; rfl, HB2.out⟩
      · have hq : (((n : Int) + 1) == 1) = false := by rw [beq_eq_false_iff_ne]; omega
        obtain rfl : b1 = false := by rw [← hb1, beq_eq_false_iff_ne]; omega
        have HR : Hid (Pl.logI E L = false) := by show _ = _; rw [HI.out, hmm, hb]; simp
        clear HI hb1 hb2
        go_wp2_with fail
        go_ret
        exact ⟨by rw [HR.out]; rfl, HB2.out⟩
    · rw [hb] at hrec
      rw [hn]
      go_enter Tryz.func10, Tryz.ntmps10
      go_wp2_with fail
      refine hm.out.mono ?_
      rintro e w1 ⟨rfl, hB1⟩
      obtain ⟨bx, hBL, hlw⟩ := one_bx hB1
      obtain ⟨d1, d0⟩ := HCL.out _ hBL
      have b0 := cell_of_block bx 0
      simp only [List.getElem?_toArray, List.getElem?_cons_zero] at b0
      have HB := hide hBL
      have HX := hide bx
      clear hB1 hm hBL bx
      go_wp2_with fail
      refine (hrec.out _ HB.out).mono ?_
      rintro e2 w2 ⟨rfl, hB2⟩
      have HB2 := hide (HB.out.trans (hB2.mono HB.out.size))
      obtain ⟨q1, q0⟩ := HCL.out _ HB2.out
      have HX2 := hide ((hB2.block _ hlw).trans HX.out)
      have p0 := cell_of_block HX2.out 0
      simp only [List.getElem?_toArray, List.getElem?_cons_zero] at p0
      clear hB2 hrec d1 d0 b0 HX HB HCL
      have HR : Hid (Pl.logI E L = true) := by show _ = _; rw [HI.out, hmm, hb]; simp
      clear HI hb1 hb2
      go_wp2_with fail
      go_ret
      exact ⟨by rw [HR.out]; rfl, HB2.out⟩
end Go.Proofs.YtbckbfjnifafaaaGreatDoor

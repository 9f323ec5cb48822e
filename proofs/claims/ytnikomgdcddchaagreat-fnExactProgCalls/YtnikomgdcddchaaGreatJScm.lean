/- Joined: NamI Scm1 Scm2 Scm3. -/
import Derived.Test.YtnikomgdcddchaaGreatPlNm
import Derived.Test.YtnikomgdcddchaaGreatTxAt
import Derived.Test.YtnikomgdcddchaaGreatCln
import Derived.Test.YtnikomgdcddchaaGreatJOk2
import Derived.Test.YtnikomgdcddchaaGreatPlCk2
import Derived.Maps.OwnSet
import Derived.Maps.OwnOps
import Derived.Maps.Views
import Derived.Test.YtnikomgdcddchaaGreatPBx
import Derived.Test.YtnikomgdcddchaaGreatJSco
import Derived.Test.YtnikomgdcddchaaGreatJPFi
/- Names of an expression, as the program has it. -/
namespace Go.Proofs.YtnikomgdcddchaaGreat
open Go.RowKit
set_option linter.unusedVariables false

def NamIP (k : Fo) : Prop := ∀ (nd : Nd) (v : Value) (w : World), (nd.k = 2 → k.len = 0 ∧ nd.nm.size ≤ 10) → Pl.Vl k → (Pl.namesN nd k).length ≤ 1048576 → RowAt 0 w k v →
  Calls Tryz.prog 95 #[ndV nd v] w fun e w' => ∃ v', e = .returned v' ∧ w'.ownsRow w.heap.size 9 1 v' (Pl.namesN nd k).length ((Pl.namesN nd k).map sv) ∧ Below w.heap.size w w'

set_option maxHeartbeats 1600000 in
theorem exprNames_of (k : Fo) (hkl : k.len ≤ 1048576) (ih : ∀ i nd k', k.get i = some (nd, k') → NamIP k') : NamIP k := by
  intro nd v w h2 hvl hb hr
  obtain ⟨nk, vk, vn, vt, nm⟩ := nd
  obtain ⟨ad, cap, rfl, hc, hm, hx⟩ := hr
  unfold maxLen at hm
  have HX := hide hx
  have IH := hide ih
  have HVL := hide hvl
  clear hx ih hvl
  simp only at h2
  by_cases n2 : nk = 2
  · subst n2
    obtain ⟨hk0, hn10⟩ := h2 rfl
    have hcl := hide (clone_any nm (by omega))
    go_enter Tryz.func95, Tryz.ntmps95
    go_wp2_with fail
    refine (hcl.out _).mono ?_
    rintro e w1 ⟨rfl, hB1⟩
    clear hcl
    have HB : Hid (Below w.heap.size w w1) := ((Below.refl _ _).alloc (Nat.le_refl _) _).trans (hB1.mono (by simp))
    have hsz : w.heap.size ≤ w1.heap.size := HB.out.size
    have HN : Hid (Pl.namesN ⟨2, vk, vn, vt, nm⟩ k = [nm.data.toList]) := by
      show _ = _
      have : k = .nil := by cases k <;> simp [Fo.len] at hk0 ⊢
      subst this
      simp [Pl.namesN, Pl.ownNm, Pl.namesF]
    clear hB1
    go_wp2
    go_ret
    refine ⟨_, rfl, ?_, HB.out.alloc HB.out.size _⟩
    rw [HN.out]
    exact own_single w1 _ _ hsz
  · have k2 : (nk == 2) = false := by simp [n2]
    clear n2 h2
    go_enter Tryz.func95, Tryz.ntmps95
    have HN : Hid (Pl.namesN ⟨nk, vk, vn, vt, nm⟩ k = Pl.namesF k) := by
      show _ = _
      have h0 := beq_eq_false_iff_ne.1 k2
      simp [Pl.namesN, Pl.ownNm, h0]
    rw [HN.out] at hb
    go_wp2_with fail
    go_loopw [3, 16] (fun lv iv wr => ∃ i : Nat, i ≤ k.len ∧ iv = .int .i64 i ∧ Hid (wr.ownsRow w.heap.size 9 1 lv (Pl.namesTo k i).length ((Pl.namesTo k i).map sv)) ∧ Hid (Below w.heap.size w wr)) (fun _ iv _ => k.len - (intOf iv).toNat)
    case atStart => exact ⟨0, by omega, rfl, hide (by rw [Pl.namesTo_zero]; exact ⟨rfl, .inl ⟨rfl, rfl⟩⟩), (Below.refl _ _).alloc (Nat.le_refl _) _⟩
    case round =>
      obtain ⟨i, hi, rfl, HO, hB⟩ := hrel
      by_cases hlt : i < k.len
      · obtain ⟨g, off, rfl, _, hg, hfo⟩ := HX.out (by omega)
        obtain ⟨nd, k', hget⟩ := k.get_some i hlt
        obtain ⟨v, hnd⟩ := hfo.get hget
        obtain ⟨d0, d1, d2, d3, d4, d5, hrow⟩ := hnd.later hB.out hg
        have hpart := Pl.names_part hget
        obtain ⟨x1, x2⟩ := HVL.out.get hget
        have hq : Hid (∀ W, Below wr.heap.size wr W → Calls Tryz.prog 95 #[ndV nd v] W fun e w' => ∃ v', e = .returned v' ∧ w'.ownsRow W.heap.size 9 1 v' (Pl.namesN nd k').length ((Pl.namesN nd k').map sv) ∧ Below W.heap.size W w') := fun W hW => IH.out i nd k' hget nd v W x1 x2 (by omega) (hrow.later hW)
        have HS := hide (Pl.namesTo_succ k i nd k' hget)
        clear hfo hnd hget x1 x2
        obtain ⟨ad', cap', rfl, _, _, _⟩ := hrow
        have hii : (i : Int) < (k.len : Int) := by omega
        generalize k'.len = kl at *
        obtain ⟨al, cl, rfl⟩ := ownsRow_form HO.out
        go_wp2_with fail
        refine (hq.out _ (by first | exact Below.refl _ _ | exact (Below.refl _ _).alloc (Nat.le_refl _) _)).mono ?_
        rintro e w4 ⟨v4, rfl, hr4, hB4⟩
        have hB4' : Hid (Below wr.heap.size wr w4) := by first | exact hB4 | exact ((Below.refl _ _).alloc (Nat.le_refl _) _).trans (hB4.mono (by simp))
        have HT4 := hide (texts_of_row hr4)
        have HO4 := hide (ownsRow_later HO.out hB4'.out)
        have hsz4 : Hid (w.heap.size ≤ w4.heap.size) := by
          show _ ≤ _
          have := hB.out.size; have := hB4'.out.size; omega
        have HB4 : Hid (Below w.heap.size w w4) := hB.out.trans (hB4'.out.mono hB.out.size)
        obtain ⟨a4, c4, rfl⟩ := ownsRow_form hr4
        clear hq d0 d1 d2 d3 d4 d5 hB4 hr4 HO hB4'
        go_wp2_with (at_builtin; refine wpList_app rfl _ _ rfl rfl w.heap.size (Pl.namesTo k i) (Pl.namesN nd k') _ _ rfl rfl HO4.out HT4.out (by omega) hsz4.out ?_)
        intro v5 w5 h5 hg5
        rw [← List.length_append, ← List.map_append, ← HS.out] at h5
        have H5 := hide h5
        have HB5 : Hid (Below w.heap.size w w5) := HB4.out.grown hg5 hsz4.out (fun j hj => (HO4.out.lt j hj).1)
        obtain ⟨a5, c5, rfl⟩ := ownsRow_form h5
        clear h5 hg5 HO4 HB4 HT4
        go_wp2
        go_roundw
        case rel => exact ⟨i + 1, by omega, by go_num, H5, HB5⟩
        case measure => simp [intOf]; omega
      · have hie : i = k.len := by omega
        obtain ⟨al, cl, rfl⟩ := ownsRow_form HO.out
        go_wp2
        go_ret
        refine ⟨_, rfl, ?_, hB.out⟩
        have e1 : Pl.namesTo k i = Pl.namesF k := by rw [hie, Pl.namesTo_all]
        rw [HN.out, ← e1]
        exact HO.out
theorem exprNames_fuel : ∀ (n : Nat) (F : Fo), F.nodes ≤ n → F.len ≤ 1048576 → F.Sm → NamIP F
  | 0, F, h, hl, hs => exprNames_of F hl fun i nd k hk => by have := F.get_nodes i nd k hk; omega
  | n + 1, F, h, hl, hs => exprNames_of F hl fun i nd k hk => exprNames_fuel n k (by have := F.get_nodes i nd k hk; omega) (hs.get hk).1 (hs.get hk).2
theorem exprNames_any (F : Fo) (hl : F.len ≤ 1048576) (hs : F.Sm) : NamIP F := exprNames_fuel F.nodes F (Nat.le_refl _) hl hs
end Go.Proofs.YtnikomgdcddchaaGreat

/- The names that are there, as the program keeps them: a linked list of maps. -/
namespace Go.Proofs.YtnikomgdcddchaaGreat
open Go.RowKit Go.Maps Go.WideMaps
set_option linter.unusedVariables false
namespace Pl
theorem look_append {A B : En} (h : ∀ p ∈ A, p.2 ≠ 0) (x : List UInt8) : look (A ++ B) x = if look A x = 0 then look B x else look A x := by
  induction A with
  | nil => simp [look]
  | cons p A ih =>
    obtain ⟨y, u⟩ := p
    have hu : u ≠ 0 := h (y, u) (List.mem_cons_self ..)
    simp only [List.cons_append, look]
    by_cases e : y = x
    · simp [e, hu]
    · simp only [if_neg e]
      exact ih fun p hp => h p (List.mem_cons_of_mem _ hp)
end Pl
theorem lit_int {a b : Int} (h : (DataW.lit (.int .i64 a) : DataW Unit) = .lit (.int .i64 b)) : a = b := by
  injection h with h
  injection h
theorem lawS : Keyed Tryz.prog 9 := string_keyed Tryz.underlying9
theorem zeroI (w : World) : (zeroValue 3).run Tryz.prog w = .ok (.int .i64 0) w := by kernel_rfl

/-- a map that tells what names are for -/
def MapAt (W : World) (m n : Nat) (E : Pl.En) : Prop :=
  ∃ D : DataW Unit, W.ownsMap Tryz.prog 9 (plainElem Tryz.prog 3) m n D ∧ ∀ x, D.atKey (.string x) (.lit (.int .i64 0)) = .lit (.int .i64 (Pl.look E x))
def ptrN : Value → Nat
  | .pointer (some a) => a.block + 1
  | _ => 0
/-- a scope: its block, its map's, how many names at most, the names; then those around it -/
def ChAt (W : World) : List (Nat × Nat × Nat × Pl.En) → Value → Prop
  | [], v => v = .pointer none
  | (s, m, n, E) :: r, v => v = .pointer (some ⟨s, 0, none⟩) ∧ ∃ vr, (W.heap[s]? = some (.cells #[.map (some m), vr] 83 (0, 0)) ∧ MapAt W m n E ∧ (∀ p ∈ E, p.2 ≠ 0) ∧ ptrN vr ≤ s ∧ (∀ q ∈ r, q.2.1 < m)) ∧ ChAt W r vr
def flat : List (Nat × Nat × Nat × Pl.En) → Pl.En
  | [] => []
  | (_, _, _, E) :: r => E ++ flat r
theorem MapAt.kept {W W1 : World} {m n : Nat} {E : Pl.En} {row : Option Nat} (h : MapAt W m n E) (hg : W.grownBy W1 row) (hne : some m ≠ row) : MapAt W1 m n E := by
  obtain ⟨D, h1, h2⟩ := h
  exact ⟨D, h1.kept hg hne, h2⟩
theorem ChAt.later {W W1 : World} (hb : Below W.heap.size W W1) : ∀ {L : List (Nat × Nat × Nat × Pl.En)} {v : Value}, ChAt W L v → ChAt W1 L v
  | [], v, h => h
  | (s, m, n, E) :: r, v, h => by
    obtain ⟨hv, vr, ⟨h1, h2, h3, h4, h4'⟩, h5⟩ := h
    exact ⟨hv, vr, ⟨(hb.block s (Array.getElem?_eq_some_iff.1 h1).1).trans h1, h2.kept (grown_below hb none) (by simp), h3, h4, h4'⟩, ChAt.later hb h5⟩
/-- another map written leaves the scopes as they are -/
theorem ChAt.beside {W W1 : World} {m0 : Nat} {es : Array MapEntry} {ck : Nat} (hm : W.heap[m0]? = some (.map es ck)) (hb : W.grownBy W1 (some m0)) : ∀ {L : List (Nat × Nat × Nat × Pl.En)} {v : Value}, (∀ q ∈ L, q.2.1 ≠ m0) → ChAt W L v → ChAt W1 L v
  | [], v, _, h => h
  | (s, m, n, E) :: r, v, hne, h => by
    obtain ⟨hv, vr, ⟨h1, h2, h3, h4, h4'⟩, h5⟩ := h
    have hs : s ≠ m0 := by
      intro e
      subst e
      rw [hm] at h1
      cases h1
    have hmm : m ≠ m0 := hne (s, m, n, E) (List.mem_cons_self ..)
    exact ⟨hv, vr, ⟨(hb.block s (Array.getElem?_eq_some_iff.1 h1).1 (fun e => hs (by cases e; rfl))).trans h1, h2.kept hb (fun e => hmm (by cases e; rfl)), h3, h4, h4'⟩, ChAt.beside hm hb (fun q hq => hne q (List.mem_cons_of_mem _ hq)) h5⟩
theorem MapAt.block {W : World} {m n : Nat} {E : Pl.En} (h : MapAt W m n E) : ∃ es ck, W.heap[m]? = some (.map es ck) := by
  obtain ⟨D, ⟨es, ck, hb, _⟩, _⟩ := h
  exact ⟨es, ck, hb⟩
theorem put_tells {D : DataW Unit} {E : Pl.En} (hD : IsMap D) (h : ∀ x, D.atKey (.string x) (.lit (.int .i64 0)) = .lit (.int .i64 (Pl.look E x))) (s : List UInt8) (u : Int) : ∀ x, (D.put (.string s) (.lit (.int .i64 u))).atKey (.string x) (.lit (.int .i64 0)) = .lit (.int .i64 (Pl.look ((s, u) :: E) x)) := by
  intro x
  by_cases e : s = x
  · subst e
    rw [atKey_put_same (k := .string s) hD (show WideAt.IsKeyLit (.string s) from trivial)]
    simp [Pl.look]
  · rw [atKey_put_other (fun h => e (by cases h; rfl)), h x]
    simp [Pl.look, e]

set_option maxHeartbeats 1600000 in
theorem find_any (L : List (Nat × Nat × Nat × Pl.En)) (v : Value) (s : ByteArray) (hs : s.size ≤ maxLen) (W : World) (h : ChAt W L v) :
    Calls Tryz.prog 96 #[v, .string s] W fun e w' => e = .returned (.int .i64 (Pl.look (flat L) s.data.toList)) ∧ Below W.heap.size W w' := by
  have hkey : keyOf Tryz.prog 9 (.string s) = some (.string s.data.toList) := keyOf_string_mk Tryz.underlying9 hs
  have HCH := hide h
  have hvp : ∃ o, v = .pointer o := by
    cases L with
    | nil => exact ⟨_, h⟩
    | cons p r => exact ⟨_, h.1⟩
  obtain ⟨o, rfl⟩ := hvp
  clear h hs
  go_enter Tryz.func96, Tryz.ntmps96
  go_wp2_with fail
  go_loopw [0] (fun pv wr => ∃ (R : List (Nat × Nat × Nat × Pl.En)) (o' : Option Addr), pv = .pointer o' ∧ Hid (ChAt wr R pv) ∧ Hid (Pl.look (flat L) s.data.toList = Pl.look (flat R) s.data.toList) ∧ wr = W) (fun pv _ => ptrN pv)
  case atStart => exact ⟨L, o, rfl, HCH, hide rfl, rfl⟩
  case round =>
    obtain ⟨R, o', rfl, HR, HL, rfl⟩ := hrel
    cases R with
    | nil =>
      have hnil : o' = none := by
        have h := HR.out
        simpa [ChAt] using h
      subst hnil
      go_wp2
      go_ret
      exact ⟨by rw [HL.out]; rfl, Below.refl _ _⟩
    | cons p R' =>
      obtain ⟨s1, m1, n1, E1⟩ := p
      obtain ⟨hv, vr, ⟨hbk, hmap, hnz, hpt, _⟩, hrest⟩ := HR.out
      cases hv
      obtain ⟨D, hown, hat⟩ := hmap
      have c0 := cell_of_block hbk 0
      have c1 := cell_of_block hbk 1
      simp only [List.getElem?_toArray, List.getElem?_cons_zero, List.getElem?_cons_succ] at c0 c1
      have HAT := hide hat
      have HNZ := hide hnz
      have HRS := hide hrest
      have hvr : ∃ o2, vr = .pointer o2 := by
        cases R' with
        | nil => exact ⟨_, hrest⟩
        | cons p r => exact ⟨_, hrest.1⟩
      obtain ⟨o2, rfl⟩ := hvr
      have HPT := hide hpt
      clear hbk hat hnz hrest hpt
      go_wp2_with (at_lookup; refine wpList_lookup_own_int _ rfl _ _ 81 rfl 9 3 .i64 lawS Tryz.underlying81 Tryz.underlying3 (zeroI _) m1 n1 _ rfl hown _ _ rfl hkey ?_)
      intro c hc hwc
      have hce : c = Pl.look E1 s.data.toList := by
        have h1 := hc.symm.trans (HAT.out s.data.toList)
        exact lit_int h1
      have HLA : Hid (Pl.look (flat ((s1, m1, n1, E1) :: R')) s.data.toList = if c = 0 then Pl.look (flat R') s.data.toList else c) := by
        show _ = _
        rw [hce]
        exact Pl.look_append HNZ.out _
      clear hce hc hwc hown
      by_cases h0 : c = 0
      · have hz : (c != 0) = false := by simp [h0]
        have HLB : Hid (Pl.look (flat L) s.data.toList = Pl.look (flat R') s.data.toList) := by
          show _ = _
          rw [HL.out, HLA.out, if_pos h0]
        clear h0 HLA HL
        go_wp2
        go_roundw
        case rel => exact ⟨R', o2, rfl, HRS, HLB, trivial⟩
        case measure =>
          have := HPT.out
          simp only [ptrN] at this ⊢
          omega
      · have hz : (c != 0) = true := by simp [h0]
        have HLB : Hid (Pl.look (flat L) s.data.toList = c) := by
          show _ = _
          rw [HL.out, HLA.out, if_neg h0]
        clear h0 HLA HL
        go_wp2
        go_ret
        exact ⟨by rw [HLB.out]; rfl, Below.refl _ _⟩
end Go.Proofs.YtnikomgdcddchaaGreat

/- A step's names, as the program looks at them. -/
namespace Go.Proofs.YtnikomgdcddchaaGreat
open Go.RowKit Go.Maps Go.WideMaps
set_option linter.unusedVariables false
namespace Pl
theorem names_short : ∀ (F : Fo), Vl F → ∀ x ∈ namesF F, x.length ≤ 10
  | .nil, _, x, h => by simp [namesF] at h
  | .cons nd k r, hv, x, h => by
    simp only [namesF, List.mem_append] at h
    rcases h with (h | h) | h
    · unfold ownNm at h
      split at h
      · next h2 =>
        simp only [List.mem_singleton] at h
        subst h
        have := (hv.1 h2).2
        simpa using this
      · simp at h
    · exact names_short k hv.2.1 x h
    · exact names_short r hv.2.2 x h
theorem namesN_short {nd : Nd} {k : Fo} (hv : (nd.k = 2 → k.len = 0 ∧ nd.nm.size ≤ 10) ∧ Vl k) : ∀ x ∈ namesN nd k, x.length ≤ 10 := by
  intro x h
  simp only [namesN, List.mem_append] at h
  rcases h with h | h
  · unfold ownNm at h
    split at h
    · next h2 =>
      simp only [List.mem_singleton] at h
      subst h
      have := (hv.1 h2).2
      simpa using this
    · simp at h
  · exact names_short k hv.2 x h
theorem none_vl {ex : Nd} {ek : Fo} (h : noneB ex ek = true) : (ex.k = 2 → ek.len = 0 ∧ ex.nm.size ≤ 10) ∧ Vl ek := by
  simp only [noneB, Bool.and_eq_true, beq_iff_eq] at h
  have hk : ek = .nil := by
    cases ek with
    | nil => rfl
    | cons _ _ r => simp [Fo.len] at h
  subst hk
  exact ⟨fun h2 => by have := h.1; omega, trivial⟩
theorem mk_12 {k : Int} (h : mk k ≠ 0) : mk k = 1 ∨ mk k = 2 := by
  unfold mk at h ⊢
  by_cases h1 : k = 1 ∨ k = 5 ∨ k = 7 ∨ k = 9 ∨ k = 10
  · simp [h1]
  · by_cases h2 : k = 6
    · simp [h2]
    · simp [h1, h2] at h
end Pl

theorem ch_more {W : World} {s m n : Nat} {E : Pl.En} {R : List (Nat × Nat × Nat × Pl.En)} {v : Value} (h : ChAt W ((s, m, n, E) :: R) v) : ChAt W ((s, m, n + 1, E) :: R) v := by
  obtain ⟨hv, vr, ⟨h1, ⟨D, h2, h2'⟩, h3⟩, h5⟩ := h
  exact ⟨hv, vr, ⟨h1, ⟨D, h2.mono (Nat.le_succ _), h2'⟩, h3⟩, h5⟩
set_option maxHeartbeats 800000 in
theorem makesName_any (k : Int) (w : World) : Calls Tryz.prog 97 #[.int .i64 k] w fun e w' => e = .returned (.int .i64 (Pl.mk k)) ∧ w' = w := by
  go_enter Tryz.func97, Tryz.ntmps97
  go_wp2
  all_goals
    go_ret
    refine ⟨?_, rfl⟩
    simp_all [Pl.mk]
/-- what the steps within are found to be -/
def BcQ (b : Ps) (vb : Value) (w0 : World) : Prop := ∀ (W : World) (L : List (Nat × Nat × Nat × Pl.En)) (p : Value), Below w0.heap.size w0 W → ChAt W L p → Calls Tryz.prog 45 #[vb, p] W fun e w' => e = .returned (.int .i64 (Pl.chkF b (flat L))) ∧ Below W.heap.size W w'
def ScQ (sn : Sn) (b l : Ps) (s1 m1 n1 : Nat) (E1 : Pl.En) (R : List (Nat × Nat × Nat × Pl.En)) (W : World) (e : Ending) (w' : World) : Prop :=
  e = .returned (.int .i64 (Pl.chkS sn b l (flat ((s1, m1, n1, E1) :: R)))) ∧ W.grownBy w' (some m1) ∧ (Pl.chkS sn b l (flat ((s1, m1, n1, E1) :: R)) = 0 → ∃ E1', ChAt w' ((s1, m1, n1 + 1, E1') :: R) (.pointer (some ⟨s1, 0, none⟩)) ∧ flat ((s1, m1, n1 + 1, E1') :: R) = Pl.ext sn (flat ((s1, m1, n1, E1) :: R)))

set_option maxHeartbeats 3200000 in
set_option maxRecDepth 100000 in
theorem stepCheck_x (k : Int) (nm wh : ByteArray) (xk xvk xvn : Int) (xvt xnm : ByteArray) (ek : Fo) (b l : Ps) (ve vb vl : Value) (w0 W : World) (s1 m1 n1 : Nat) (E1 : Pl.En) (R : List (Nat × Nat × Nat × Pl.En)) (hvl : (xk = 2 → ek.len = 0 ∧ xnm.size ≤ 10) ∧ Pl.Vl ek) (hN : (Pl.namesN ⟨xk, xvk, xvn, xvt, xnm⟩ ek).length ≤ 1000000) (he1 : ek.len ≤ 1048576) (he2 : ek.Sm) (hw1 : nm.size ≤ maxLen) (hw2 : wh.size ≤ maxLen) (hre : RowAt 0 w0 ek ve) (hrb : PRow 0 w0 b vb) (hrl : PRow 0 w0 l vl)
    (hBW : Below w0.heap.size w0 W) (hm0 : w0.heap.size ≤ m1) (hn1 : n1 ≤ 1000) (hch : ChAt W ((s1, m1, n1, E1) :: R) (.pointer (some ⟨s1, 0, none⟩))) (hbb : BcQ b vb w0) (hbl : BcQ l vl w0) (hk : k = 2) :
    Calls Tryz.prog 66 #[.agg #[.int .i64 k, .string nm, .string wh, .int .i64 xk, .int .i64 xvk, .int .i64 xvn, .string xvt, .string xnm, ve, vb, vl], .pointer (some ⟨s1, 0, none⟩)] W (ScQ ⟨k, nm, wh, ⟨xk, xvk, xvn, xvt, xnm⟩, ek⟩ b l s1 m1 n1 E1 R W) := by
  have hqn : Hid (∀ W', Below w0.heap.size w0 W' → Calls Tryz.prog 95 #[ndV ⟨xk, xvk, xvn, xvt, xnm⟩ ve] W' fun e w' => ∃ v', e = .returned v' ∧ w'.ownsRow W'.heap.size 9 1 v' (Pl.namesN ⟨xk, xvk, xvn, xvt, xnm⟩ ek).length ((Pl.namesN ⟨xk, xvk, xvn, xvt, xnm⟩ ek).map sv) ∧ Below W'.heap.size W' w') := fun W' hW => exprNames_any ek he1 he2 ⟨xk, xvk, xvn, xvt, xnm⟩ ve W' hvl.1 hvl.2 (by omega) (hre.later hW)
  have HSH : Hid (∀ x ∈ Pl.namesN ⟨xk, xvk, xvn, xvt, xnm⟩ ek, x.length ≤ maxLen) := by
    refine hide fun x hx => ?_
    have := Pl.namesN_short (nd := ⟨xk, xvk, xvn, xvt, xnm⟩) (k := ek) hvl x hx
    unfold maxLen
    omega
  have hqf : Hid (∀ W' s, s.size ≤ maxLen → ChAt W' ((s1, m1, n1, E1) :: R) (.pointer (some ⟨s1, 0, none⟩)) → Calls Tryz.prog 96 #[.pointer (some ⟨s1, 0, none⟩), .string s] W' fun e w' => e = .returned (.int .i64 (Pl.look (flat ((s1, m1, n1, E1) :: R)) s.data.toList)) ∧ Below W'.heap.size W' w') := fun W' s hs hc => find_any _ _ s hs W' hc
  have hmn := hide (makesName_any k)
  have HCH := hide hch
  have HBB := hide hbb
  have HBL := hide hbl
  have HW1 := hide hw1
  have HW2 := hide hw2
  have HOW := hide (rfl : Pl.own ⟨k, nm, wh, ⟨xk, xvk, xvn, xvt, xnm⟩, ek⟩ = Pl.own ⟨k, nm, wh, ⟨xk, xvk, xvn, xvt, xnm⟩, ek⟩)
  clear HOW
  have HOB : Hid (∀ E, (Pl.namesN ⟨xk, xvk, xvn, xvt, xnm⟩ ek ++ [nm.data.toList]).any (fun x => !(Pl.look E x == 1)) = true → Pl.own ⟨k, nm, wh, ⟨xk, xvk, xvn, xvt, xnm⟩, ek⟩ E = 3) := by
    refine hide fun E h => ?_
    subst hk
    rw [Pl.own_set]
    unfold Pl.needE Pl.orr
    rw [List.any_append, Bool.or_eq_true] at h
    by_cases h1 : (Pl.namesN ⟨xk, xvk, xvn, xvt, xnm⟩ ek).any (fun x => !(Pl.look E x == 1)) = true
    · simp [h1]
    · have h2 : ¬ Pl.look E nm.data.toList = 1 := by
        rcases h with h | h
        · exact absurd h h1
        · simpa using h
      simp [h1, h2]
  have HOG : Hid (∀ E, (Pl.namesN ⟨xk, xvk, xvn, xvt, xnm⟩ ek ++ [nm.data.toList]).any (fun x => !(Pl.look E x == 1)) = false → Pl.own ⟨k, nm, wh, ⟨xk, xvk, xvn, xvt, xnm⟩, ek⟩ E = 0) := by
    refine hide fun E h => ?_
    subst hk
    rw [Pl.own_set]
    unfold Pl.needE Pl.orr
    rw [List.any_append, Bool.or_eq_false_iff] at h
    have h2 : Pl.look E nm.data.toList = 1 := by simpa using h.2
    simp [h.1, h2]
  have hmk : Pl.mk k = 0 := by subst hk; decide
  have kk : (k == 2) = true := by simp [hk]
  have k7 : (k == 7) = false := by simp [hk]
  have HK := hide hk
  obtain ⟨ade, cape, rfl, _, _, _⟩ := hre
  obtain ⟨adb, capb, rfl, _, _, _⟩ := hrb
  obtain ⟨adl, capl, rfl, _, _, _⟩ := hrl
  generalize Pl.namesN ⟨xk, xvk, xvn, xvt, xnm⟩ ek = N at *
  have HX := hide (Box11.mk (sn := ⟨k, nm, wh, ⟨xk, xvk, xvn, xvt, xnm⟩, ek⟩) (ve := .slice ade ek.len cape) (vb := .slice adb b.len capb) (vl := .slice adl l.len capl) (T := 47) W)
  have HA : Hid (Below W.heap.size W (W.alloc (.cells #[.int .i64 k, .string nm, .string wh, .int .i64 xk, .int .i64 xvk, .int .i64 xvn, .string xvt, .string xnm, .slice ade ek.len cape, .slice adb b.len capb, .slice adl l.len capl] 47))) := (Below.refl _ _).alloc (Nat.le_refl _) _
  clear hvl he2 hw1 hw2 hch hbb hbl hk
  go_enter Tryz.func66, Tryz.ntmps66
  go_wp2_with fail
  refine (hqn.out _ (hBW.trans (HA.out.mono hBW.size))).mono ?_
  rintro e w1 ⟨v1, rfl, hr1, hB1⟩
  have HB1 : Hid (Below W.heap.size W w1) := HA.out.trans (hB1.mono (by simp))
  have HX1 := hide (HX.out.later hB1)
  have HR1 := hide (ownsRow_base hr1 (base' := W.heap.size) (by simp))
  have HNEB : Hid (∀ j, v1.ownBlock = some j → j ≠ W.heap.size) := by
    refine hide fun j hj => ?_
    have := (hr1.lt j hj).1
    simp at this
    omega
  obtain ⟨a1, c1, rfl⟩ := ownsRow_form hr1
  clear hr1 hB1 HX HA hqn
  obtain ⟨_, ⟨x0, x1, x2, x3, x4, x5, x6, x7⟩, x8, x9, x10⟩ := HX1.out
  have hA1 : Hid (Below w1.heap.size w1 (w1.alloc (.cells #[.string nm] 9))) := (Below.refl _ _).alloc (Nat.le_refl _) _
  have HT1 : Hid (TextsAt (w1.alloc (.cells #[.string nm] 9)) (.slice (some ⟨w1.heap.size, 0, none⟩) 1 1) [nm.data.toList]) := by
    have := one_at w1 nm.data.toList
    rw [sv_of] at this
    exact this
  have HB1' : Hid (Below W.heap.size W (w1.alloc (.cells #[.string nm] 9))) := HB1.out.trans (hA1.out.mono HB1.out.size)
  go_wp2_with (at_builtin; refine wpList_app rfl _ _ rfl rfl W.heap.size N [nm.data.toList] _ _ rfl rfl (HR1.out.alloc _) HT1.out (by simp; omega) HB1'.out.size ?_)
  intro v2 w2 h2 hg2
  have HB2 : Hid (Below W.heap.size W w2) := HB1'.out.grown hg2 HB1'.out.size (fun j hj => (HR1.out.lt j hj).1)
  have HX2 : Hid (Box11 W.heap.size ⟨k, nm, wh, ⟨xk, xvk, xvn, xvt, xnm⟩, ek⟩ (.slice ade ek.len cape) (.slice adb b.len capb) (.slice adl l.len capl) w2) := by
    have hx := HX1.out.later hA1.out
    obtain ⟨hb, ⟨h0, h1, h2', h3, h4, h5, h6, h7⟩, h8, h9, h10⟩ := hx
    have hne : ∀ j, (Value.slice a1 N.length c1).ownBlock = some j → j ≠ W.heap.size := HNEB.out
    have C : ∀ o, w2.cell? ⟨W.heap.size, o, none⟩ = (w1.alloc (.cells #[.string nm] 9)).cell? ⟨W.heap.size, o, none⟩ := fun o => by
      have hkk := hg2.block W.heap.size hb (fun e => hne _ e.symm rfl)
      simp only [World.cell?]
      rw [hkk]
    exact ⟨by have := hg2.size; omega, ⟨(C _).trans h0, (C _).trans h1, (C _).trans h2', (C _).trans h3, (C _).trans h4, (C _).trans h5, (C _).trans h6, (C _).trans h7⟩, (C _).trans h8, (C _).trans h9, (C _).trans h10⟩
  have HRU : Hid (w2.ownsRow W.heap.size 9 1 v2 (N ++ [nm.data.toList]).length ((N ++ [nm.data.toList]).map sv)) := hide (by simpa using h2)
  have HSU : Hid (∀ x ∈ N ++ [nm.data.toList], x.length ≤ maxLen) := by
    refine hide fun x hx => ?_
    rcases List.mem_append.1 hx with h | h
    · exact HSH.out x h
    · simp only [List.mem_singleton] at h
      subst h
      simpa using HW1.out
  have HBb := hide HB2.out
  have hUl : (N ++ [nm.data.toList]).length ≤ 1000001 := by
    simp
    omega
  generalize N ++ [nm.data.toList] = U at HRU HSU HOB HOG hUl
  obtain ⟨a2, c2, rfl⟩ := ownsRow_form HRU.out
  clear h2 hg2 HR1 HT1 HB1' hA1 HB1 HX1 HSH HNEB
  clear x0 x1 x2 x3 x4 x5 x6 x7 x8 x9 x10
  obtain ⟨_, ⟨x0, x1, x2, x3, x4, x5, x6, x7⟩, x8, x9, x10⟩ := HX2.out
  go_wp2_with fail
  have HTX := hide (texts_of_row HRU.out)
  clear x0 x1 x2 x3 x4 x5 x6 x7 x8 x9 x10
  go_loopw [23] (fun iv wr => ∃ i : Nat, i ≤ U.length ∧ iv = .int .i64 i ∧ Hid (∀ j, j < i → Pl.look (flat ((s1, m1, n1, E1) :: R)) (U[j]?.getD []) = 1) ∧ Hid (Below w2.heap.size w2 wr)) (fun iv _ => U.length - (intOf iv).toNat)
  case atStart => exact ⟨0, by omega, rfl, hide (fun j hj => by omega), hide (Below.refl _ _)⟩
  case round =>
    obtain ⟨i, hi, rfl, HALL, hB⟩ := hrel
    have HBW : Hid (Below W.heap.size W wr) := HBb.out.trans (hB.out.mono HBb.out.size)
    have HCW := hide (HCH.out.later HBW.out)
    by_cases hlt : i < U.length
    · obtain ⟨aa, cc, heq, _, _, hxx, _⟩ := HTX.out.later hB.out
      cases heq
      obtain ⟨g1, off, rfl, hg1, hcell⟩ := hxx (by omega)
      have hck := hcell i hlt
      have HIN : Hid (U[i]?.getD [] ∈ U) := by
        rw [List.getElem?_eq_getElem hlt]
        exact List.getElem_mem hlt
      have hlen : Hid ((U[i]?.getD []).length ≤ maxLen) := HSU.out _ HIN.out
      generalize hX : U[i]?.getD [] = X at hck HIN hlen
      have HXE := hide hX
      have hq := hide (hqf.out wr (Pl.bs X) (by rw [Pl.bs_size]; exact hlen.out) HCW.out)
      rw [Pl.bs_data] at hq
      have hii : (i : Int) < (U.length : Int) := by omega
      clear hX hcell hxx hlen
      go_wp2_with fail
      refine hq.out.mono ?_
      rintro e w4 ⟨rfl, hB4⟩
      have HB4 : Hid (Below w2.heap.size w2 w4) := hB.out.trans (hB4.mono hB.out.size)
      have HBW4 : Hid (Below W.heap.size W w4) := HBW.out.trans (hB4.mono HBW.out.size)
      clear hq hB4 hck
      by_cases h1 : Pl.look (flat ((s1, m1, n1, E1) :: R)) X = 1
      · have hz : (Pl.look (flat ((s1, m1, n1, E1) :: R)) X != 1) = false := by simp [h1]
        have HALL' : Hid (∀ j, j < i + 1 → Pl.look (flat ((s1, m1, n1, E1) :: R)) (U[j]?.getD []) = 1) := by
          refine hide fun j hj => ?_
          by_cases hji : j = i
          · rw [hji, HXE.out]; exact h1
          · exact HALL.out j (by omega)
        clear h1
        go_wp2
        go_roundw
        case rel => exact ⟨i + 1, by omega, by go_num, HALL', HB4⟩
        case measure => simp [intOf]; omega
      · have hz : (Pl.look (flat ((s1, m1, n1, E1) :: R)) X != 1) = true := by simp [h1]
        have HCK : Hid (Pl.chkS ⟨k, nm, wh, ⟨xk, xvk, xvn, xvt, xnm⟩, ek⟩ b l (flat ((s1, m1, n1, E1) :: R)) = 3) := by
          show _ = _
          have ho := HOB.out (flat ((s1, m1, n1, E1) :: R)) (by
            rw [List.any_eq_true]
            exact ⟨X, HIN.out, by simp [h1]⟩)
          unfold Pl.chkS
          rw [ho]
          rfl
        clear h1
        go_wp2
        go_ret
        exact ⟨by rw [HCK.out]; rfl, grown_below HBW4.out _, fun h => by rw [HCK.out] at h; omega⟩
    · have HOK : Hid (Pl.own ⟨k, nm, wh, ⟨xk, xvk, xvn, xvt, xnm⟩, ek⟩ (flat ((s1, m1, n1, E1) :: R)) = 0) := by
        refine hide (HOG.out (flat ((s1, m1, n1, E1) :: R)) ?_)
        rw [List.any_eq_false]
        intro x hx
        obtain ⟨j, hj, rfl⟩ := List.mem_iff_getElem.1 hx
        have := HALL.out j (by omega)
        rw [List.getElem?_eq_getElem hj] at this
        simpa using this
      have HXR := hide (HX2.out.later hB.out)
      clear HALL HOB HOG HTX HRU HSU
      obtain ⟨_, ⟨x0, x1, x2, x3, x4, x5, x6, x7⟩, x8, x9, x10⟩ := HXR.out
      rw [hmk] at hmn
      have HOK0 := hide HOK.out
      have HEXT : Hid (Pl.ext ⟨k, nm, wh, ⟨xk, xvk, xvn, xvt, xnm⟩, ek⟩ (flat ((s1, m1, n1, E1) :: R)) = (flat ((s1, m1, n1, E1) :: R))) := by
        show _ = _
        simp [Pl.ext, hmk]
      clear hmk
      have HB0 : Hid (Below w0.heap.size w0 wr) := hBW.trans (HBW.out.mono hBW.size)
      have HGR : Hid (W.grownBy wr (some m1)) := grown_below HBW.out _
      go_wp2_with fail
      refine (hmn.out _).mono ?_
      rintro e wm ⟨rfl, rfl⟩
      go_wp2_with fail
      refine (HBB.out _ _ _ HB0.out HCW.out).mono ?_
      rintro e w7 ⟨rfl, hB7⟩
      have HG7 : Hid (W.grownBy w7 (some m1)) := grown_trans HGR.out (grown_below hB7 _)
      have HB7 : Hid (Below w0.heap.size w0 w7) := HB0.out.trans (hB7.mono HB0.out.size)
      have HC7 := hide (HCW.out.later hB7)
      have HX7 := hide (HXR.out.later hB7)
      clear hB7 x0 x1 x2 x3 x4 x5 x6 x7 x8 x9 x10
      obtain ⟨_, ⟨x0, x1, x2, x3, x4, x5, x6, x7⟩, x8, x9, x10⟩ := HX7.out
      by_cases hcb : Pl.chkF b (flat ((s1, m1, n1, E1) :: R)) = 0
      · have hz : (Pl.chkF b (flat ((s1, m1, n1, E1) :: R)) != 0) = false := by simp [hcb]
        have HCK : Hid (Pl.chkS ⟨k, nm, wh, ⟨xk, xvk, xvn, xvt, xnm⟩, ek⟩ b l (flat ((s1, m1, n1, E1) :: R)) = Pl.chkF l (flat ((s1, m1, n1, E1) :: R))) := by
          show _ = _
          unfold Pl.chkS
          rw [HOK0.out, Pl.orr_right, HEXT.out, hcb, Pl.orr_right]
        clear hcb
        go_wp2_with fail
        refine (HBL.out _ _ _ HB7.out HC7.out).mono ?_
        rintro e w8 ⟨rfl, hB8⟩
        have HG8 : Hid (W.grownBy w8 (some m1)) := grown_trans HG7.out (grown_below hB8 _)
        have HC8 := hide (HC7.out.later hB8)
        clear hB8 x0 x1 x2 x3 x4 x5 x6 x7 x8 x9 x10
        go_wp2
        go_ret
        exact ⟨by rw [HCK.out]; rfl, HG8.out, fun _ => ⟨E1, ch_more HC8.out, HEXT.out.symm⟩⟩
      · have hz : (Pl.chkF b (flat ((s1, m1, n1, E1) :: R)) != 0) = true := by simp [hcb]
        have HCK : Hid (Pl.chkS ⟨k, nm, wh, ⟨xk, xvk, xvn, xvt, xnm⟩, ek⟩ b l (flat ((s1, m1, n1, E1) :: R)) = Pl.chkF b (flat ((s1, m1, n1, E1) :: R))) := by
          show _ = _
          unfold Pl.chkS
          rw [HOK0.out, Pl.orr_right, HEXT.out, Pl.orr_left hcb]
        have HNZ := hide hcb
        clear hcb
        go_wp2
        go_ret
        exact ⟨by rw [HCK.out]; rfl, HG7.out, fun h => absurd (HCK.out.symm.trans h) HNZ.out⟩

set_option maxHeartbeats 3200000 in
set_option maxRecDepth 100000 in
theorem stepCheck_y (k : Int) (nm wh : ByteArray) (xk xvk xvn : Int) (xvt xnm : ByteArray) (ek : Fo) (b l : Ps) (ve vb vl : Value) (w0 W : World) (s1 m1 n1 : Nat) (E1 : Pl.En) (R : List (Nat × Nat × Nat × Pl.En)) (hvl : (xk = 2 → ek.len = 0 ∧ xnm.size ≤ 10) ∧ Pl.Vl ek) (hN : (Pl.namesN ⟨xk, xvk, xvn, xvt, xnm⟩ ek).length ≤ 1000000) (he1 : ek.len ≤ 1048576) (he2 : ek.Sm) (hw1 : nm.size ≤ maxLen) (hw2 : wh.size ≤ maxLen) (hre : RowAt 0 w0 ek ve) (hrb : PRow 0 w0 b vb) (hrl : PRow 0 w0 l vl)
    (hBW : Below w0.heap.size w0 W) (hm0 : w0.heap.size ≤ m1) (hn1 : n1 ≤ 1000) (hch : ChAt W ((s1, m1, n1, E1) :: R) (.pointer (some ⟨s1, 0, none⟩))) (hbb : BcQ b vb w0) (hbl : BcQ l vl w0) (hk : k = 7) :
    Calls Tryz.prog 66 #[.agg #[.int .i64 k, .string nm, .string wh, .int .i64 xk, .int .i64 xvk, .int .i64 xvn, .string xvt, .string xnm, ve, vb, vl], .pointer (some ⟨s1, 0, none⟩)] W (ScQ ⟨k, nm, wh, ⟨xk, xvk, xvn, xvt, xnm⟩, ek⟩ b l s1 m1 n1 E1 R W) := by
  have hqn : Hid (∀ W', Below w0.heap.size w0 W' → Calls Tryz.prog 95 #[ndV ⟨xk, xvk, xvn, xvt, xnm⟩ ve] W' fun e w' => ∃ v', e = .returned v' ∧ w'.ownsRow W'.heap.size 9 1 v' (Pl.namesN ⟨xk, xvk, xvn, xvt, xnm⟩ ek).length ((Pl.namesN ⟨xk, xvk, xvn, xvt, xnm⟩ ek).map sv) ∧ Below W'.heap.size W' w') := fun W' hW => exprNames_any ek he1 he2 ⟨xk, xvk, xvn, xvt, xnm⟩ ve W' hvl.1 hvl.2 (by omega) (hre.later hW)
  have HSH : Hid (∀ x ∈ Pl.namesN ⟨xk, xvk, xvn, xvt, xnm⟩ ek, x.length ≤ maxLen) := by
    refine hide fun x hx => ?_
    have := Pl.namesN_short (nd := ⟨xk, xvk, xvn, xvt, xnm⟩) (k := ek) hvl x hx
    unfold maxLen
    omega
  have hqf : Hid (∀ W' s, s.size ≤ maxLen → ChAt W' ((s1, m1, n1, E1) :: R) (.pointer (some ⟨s1, 0, none⟩)) → Calls Tryz.prog 96 #[.pointer (some ⟨s1, 0, none⟩), .string s] W' fun e w' => e = .returned (.int .i64 (Pl.look (flat ((s1, m1, n1, E1) :: R)) s.data.toList)) ∧ Below W'.heap.size W' w') := fun W' s hs hc => find_any _ _ s hs W' hc
  have hmn := hide (makesName_any k)
  have HCH := hide hch
  have HBB := hide hbb
  have HBL := hide hbl
  have HW1 := hide hw1
  have HW2 := hide hw2
  have HOW := hide (rfl : Pl.own ⟨k, nm, wh, ⟨xk, xvk, xvn, xvt, xnm⟩, ek⟩ = Pl.own ⟨k, nm, wh, ⟨xk, xvk, xvn, xvt, xnm⟩, ek⟩)
  clear HOW
  have HOB : Hid (∀ E, (Pl.namesN ⟨xk, xvk, xvn, xvt, xnm⟩ ek).any (fun x => !(Pl.look E x == 1)) = true → Pl.own ⟨k, nm, wh, ⟨xk, xvk, xvn, xvt, xnm⟩, ek⟩ E = 3) := by
    refine hide fun E h => ?_
    simp [Pl.own, h]
  have HOG : Hid (∀ E, (Pl.namesN ⟨xk, xvk, xvn, xvt, xnm⟩ ek).any (fun x => !(Pl.look E x == 1)) = false → Pl.own ⟨k, nm, wh, ⟨xk, xvk, xvn, xvt, xnm⟩, ek⟩ E = Pl.orr (if Pl.look E wh.data.toList = 2 then 0 else 4) (Pl.twiceE E nm.data.toList)) := by
    refine hide fun E h => ?_
    subst hk
    by_cases h2 : Pl.look E wh.data.toList = 2 <;> simp [Pl.own, h, h2, Pl.orr, Pl.twiceE, Pl.mk]
  have hmk : Pl.mk k = 1 := by subst hk; decide
  have kk : (k == 2) = false := by simp [hk]
  have k7 : (k == 7) = true := by simp [hk]
  have HK := hide hk
  obtain ⟨ade, cape, rfl, _, _, _⟩ := hre
  obtain ⟨adb, capb, rfl, _, _, _⟩ := hrb
  obtain ⟨adl, capl, rfl, _, _, _⟩ := hrl
  generalize Pl.namesN ⟨xk, xvk, xvn, xvt, xnm⟩ ek = N at *
  have HX := hide (Box11.mk (sn := ⟨k, nm, wh, ⟨xk, xvk, xvn, xvt, xnm⟩, ek⟩) (ve := .slice ade ek.len cape) (vb := .slice adb b.len capb) (vl := .slice adl l.len capl) (T := 47) W)
  have HA : Hid (Below W.heap.size W (W.alloc (.cells #[.int .i64 k, .string nm, .string wh, .int .i64 xk, .int .i64 xvk, .int .i64 xvn, .string xvt, .string xnm, .slice ade ek.len cape, .slice adb b.len capb, .slice adl l.len capl] 47))) := (Below.refl _ _).alloc (Nat.le_refl _) _
  clear hvl he2 hw1 hw2 hch hbb hbl hk
  go_enter Tryz.func66, Tryz.ntmps66
  go_wp2_with fail
  refine (hqn.out _ (hBW.trans (HA.out.mono hBW.size))).mono ?_
  rintro e w1 ⟨v1, rfl, hr1, hB1⟩
  have HB1 : Hid (Below W.heap.size W w1) := HA.out.trans (hB1.mono (by simp))
  have HX1 := hide (HX.out.later hB1)
  have HR1 := hide (ownsRow_base hr1 (base' := W.heap.size) (by simp))
  have HNEB : Hid (∀ j, v1.ownBlock = some j → j ≠ W.heap.size) := by
    refine hide fun j hj => ?_
    have := (hr1.lt j hj).1
    simp at this
    omega
  obtain ⟨a1, c1, rfl⟩ := ownsRow_form hr1
  clear hr1 hB1 HX HA hqn
  obtain ⟨_, ⟨x0, x1, x2, x3, x4, x5, x6, x7⟩, x8, x9, x10⟩ := HX1.out
  have HRU := hide HR1.out
  have HSU := hide HSH.out
  have HBb := hide HB1.out
  clear HR1 HSH
  go_wp2_with fail
  have HTX := hide (texts_of_row HRU.out)
  clear x0 x1 x2 x3 x4 x5 x6 x7 x8 x9 x10
  go_loopw [23] (fun iv wr => ∃ i : Nat, i ≤ N.length ∧ iv = .int .i64 i ∧ Hid (∀ j, j < i → Pl.look (flat ((s1, m1, n1, E1) :: R)) (N[j]?.getD []) = 1) ∧ Hid (Below w1.heap.size w1 wr)) (fun iv _ => N.length - (intOf iv).toNat)
  case atStart => exact ⟨0, by omega, rfl, hide (fun j hj => by omega), hide (Below.refl _ _)⟩
  case round =>
    obtain ⟨i, hi, rfl, HALL, hB⟩ := hrel
    have HBW : Hid (Below W.heap.size W wr) := HBb.out.trans (hB.out.mono HBb.out.size)
    have HCW := hide (HCH.out.later HBW.out)
    by_cases hlt : i < N.length
    · obtain ⟨aa, cc, heq, _, _, hxx, _⟩ := HTX.out.later hB.out
      cases heq
      obtain ⟨g1, off, rfl, hg1, hcell⟩ := hxx (by omega)
      have hck := hcell i hlt
      have HIN : Hid (N[i]?.getD [] ∈ N) := by
        rw [List.getElem?_eq_getElem hlt]
        exact List.getElem_mem hlt
      have hlen : Hid ((N[i]?.getD []).length ≤ maxLen) := HSU.out _ HIN.out
      generalize hX : N[i]?.getD [] = X at hck HIN hlen
      have HXE := hide hX
      have hq := hide (hqf.out wr (Pl.bs X) (by rw [Pl.bs_size]; exact hlen.out) HCW.out)
      rw [Pl.bs_data] at hq
      have hii : (i : Int) < (N.length : Int) := by omega
      clear hX hcell hxx hlen
      go_wp2_with fail
      refine hq.out.mono ?_
      rintro e w4 ⟨rfl, hB4⟩
      have HB4 : Hid (Below w1.heap.size w1 w4) := hB.out.trans (hB4.mono hB.out.size)
      have HBW4 : Hid (Below W.heap.size W w4) := HBW.out.trans (hB4.mono HBW.out.size)
      clear hq hB4 hck
      by_cases h1 : Pl.look (flat ((s1, m1, n1, E1) :: R)) X = 1
      · have hz : (Pl.look (flat ((s1, m1, n1, E1) :: R)) X != 1) = false := by simp [h1]
        have HALL' : Hid (∀ j, j < i + 1 → Pl.look (flat ((s1, m1, n1, E1) :: R)) (N[j]?.getD []) = 1) := by
          refine hide fun j hj => ?_
          by_cases hji : j = i
          · rw [hji, HXE.out]; exact h1
          · exact HALL.out j (by omega)
        clear h1
        go_wp2
        go_roundw
        case rel => exact ⟨i + 1, by omega, by go_num, HALL', HB4⟩
        case measure => simp [intOf]; omega
      · have hz : (Pl.look (flat ((s1, m1, n1, E1) :: R)) X != 1) = true := by simp [h1]
        have HCK : Hid (Pl.chkS ⟨k, nm, wh, ⟨xk, xvk, xvn, xvt, xnm⟩, ek⟩ b l (flat ((s1, m1, n1, E1) :: R)) = 3) := by
          show _ = _
          have ho := HOB.out (flat ((s1, m1, n1, E1) :: R)) (by
            rw [List.any_eq_true]
            exact ⟨X, HIN.out, by simp [h1]⟩)
          unfold Pl.chkS
          rw [ho]
          rfl
        clear h1
        go_wp2
        go_ret
        exact ⟨by rw [HCK.out]; rfl, grown_below HBW4.out _, fun h => by rw [HCK.out] at h; omega⟩
    · have HOK : Hid (Pl.own ⟨k, nm, wh, ⟨xk, xvk, xvn, xvt, xnm⟩, ek⟩ (flat ((s1, m1, n1, E1) :: R)) = Pl.orr (if Pl.look (flat ((s1, m1, n1, E1) :: R)) wh.data.toList = 2 then 0 else 4) (Pl.twiceE (flat ((s1, m1, n1, E1) :: R)) nm.data.toList)) := by
        refine hide (HOG.out (flat ((s1, m1, n1, E1) :: R)) ?_)
        rw [List.any_eq_false]
        intro x hx
        obtain ⟨j, hj, rfl⟩ := List.mem_iff_getElem.1 hx
        have := HALL.out j (by omega)
        rw [List.getElem?_eq_getElem hj] at this
        simpa using this
      have HXR := hide (HX1.out.later hB.out)
      clear HALL HOB HOG HTX HRU HSU
      obtain ⟨_, ⟨x0, x1, x2, x3, x4, x5, x6, x7⟩, x8, x9, x10⟩ := HXR.out
      have hu12 : Pl.mk k = 1 ∨ Pl.mk k = 2 := by
        exact .inl hmk
      have HEXT : Hid (Pl.ext ⟨k, nm, wh, ⟨xk, xvk, xvn, xvt, xnm⟩, ek⟩ (flat ((s1, m1, n1, E1) :: R)) = (flat ((s1, m1, n1 + 1, (nm.data.toList, Pl.mk k) :: E1) :: R))) := by
        show _ = _
        have h0 : Pl.mk k ≠ 0 := by omega
        simp [Pl.ext, h0, flat]
      clear hmk
      have HB0 : Hid (Below w0.heap.size w0 wr) := hBW.trans (HBW.out.mono hBW.size)
      have HGR : Hid (W.grownBy wr (some m1)) := grown_below HBW.out _
      have hqw := hide (hqf.out wr wh HW2.out HCW.out)
      go_wp2_with fail
      refine hqw.out.mono ?_
      rintro e wj ⟨rfl, hBj⟩
      have HBWj : Hid (Below W.heap.size W wj) := HBW.out.trans (hBj.mono HBW.out.size)
      have HCWj := hide (HCW.out.later hBj)
      have HXRj := hide (HXR.out.later hBj)
      clear hqw hBj HBW HCW HXR HB0 HGR hB
      clear x0 x1 x2 x3 x4 x5 x6 x7 x8 x9 x10
      obtain ⟨_, ⟨x0, x1, x2, x3, x4, x5, x6, x7⟩, x8, x9, x10⟩ := HXRj.out
      by_cases hj2 : Pl.look (flat ((s1, m1, n1, E1) :: R)) wh.data.toList = 2
      · have hz : (Pl.look (flat ((s1, m1, n1, E1) :: R)) wh.data.toList != 2) = false := by simp [hj2]
        have HOK1 : Hid (Pl.own ⟨k, nm, wh, ⟨xk, xvk, xvn, xvt, xnm⟩, ek⟩ (flat ((s1, m1, n1, E1) :: R)) = Pl.twiceE (flat ((s1, m1, n1, E1) :: R)) nm.data.toList) := by
          show _ = _
          rw [HOK.out, if_pos hj2, Pl.orr_right]
        clear hj2 HOK
        have HB0 : Hid (Below w0.heap.size w0 wj) := hBW.trans (HBWj.out.mono hBW.size)
        go_wp2_with fail
        refine (hmn.out _).mono ?_
        rintro e wm ⟨rfl, rfl⟩
        have hqx := hide (hqf.out wm nm HW1.out HCWj.out)
        have hmz : (Pl.mk k != 0) = true := by
          have : Pl.mk k ≠ 0 := by omega
          simp [this]
        go_wp2_with fail
        refine hqx.out.mono ?_
        rintro e wf ⟨rfl, hBf⟩
        have HBWf : Hid (Below W.heap.size W wf) := HBWj.out.trans (hBf.mono HBWj.out.size)
        have HCf := hide (HCWj.out.later hBf)
        have HXf := hide (HXRj.out.later hBf)
        have HBf : Hid (Below w0.heap.size w0 wf) := hBW.trans (HBWf.out.mono hBW.size)
        clear hqx hBf x0 x1 x2 x3 x4 x5 x6 x7 x8 x9 x10
        obtain ⟨_, ⟨x0, x1, x2, x3, x4, x5, x6, x7⟩, x8, x9, x10⟩ := HXf.out
        by_cases ht0 : Pl.look (flat ((s1, m1, n1, E1) :: R)) nm.data.toList = 0
        · have hz2 : (Pl.look (flat ((s1, m1, n1, E1) :: R)) nm.data.toList != 0) = false := by simp [ht0]
          have HOK0 : Hid (Pl.own ⟨k, nm, wh, ⟨xk, xvk, xvn, xvt, xnm⟩, ek⟩ (flat ((s1, m1, n1, E1) :: R)) = 0) := by
            show _ = _
            rw [HOK1.out]
            simp [Pl.twiceE, ht0]
          clear ht0 HOK1
          obtain ⟨_, vr, ⟨hbk, hmap, hnz, hpt, hord⟩, hrest⟩ := HCf.out
          obtain ⟨D, hown, hat⟩ := hmap
          have hmb : ∃ es ck, wf.heap[m1]? = some (.map es ck) := by
            obtain ⟨es, ck, hb', _⟩ := hown
            exact ⟨es, ck, hb'⟩
          have hsm : s1 ≠ m1 := by
            obtain ⟨es, ck, hb'⟩ := hmb
            intro e'
            subst e'
            rw [hb'] at hbk
            cases hbk
          have hc0 := cell_of_block hbk 0
          simp only [List.getElem?_toArray, List.getElem?_cons_zero] at hc0
          have hkey : keyOf Tryz.prog 9 (.string nm) = some (.string nm.data.toList) := keyOf_string_mk Tryz.underlying9 HW1.out
          have hwfu : (Lit.int .i64 (Pl.mk k)).wf = true := by rcases hu12 with h | h <;> rw [h] <;> decide
          have HBK := hide hbk
          have HAT := hide hat
          have HNZ := hide hnz
          have HPT := hide hpt
          have HORD := hide hord
          have HRST := hide hrest
          have HMB := hide hmb
          have hm1w : m1 < W.heap.size := by
            obtain ⟨_, vr', ⟨_, hmap', _⟩, _⟩ := HCH.out
            obtain ⟨es, ck, hb'⟩ := hmap'.block
            exact (Array.getElem?_eq_some_iff.1 hb').1
          clear hbk hat hnz hpt hord hrest hmb
          obtain ⟨w6, hrun6, hown6, hg6⟩ := (hown.drew).update lawS Tryz.underlying81 (by unfold maxLen; omega) hkey (plainElem_int Tryz.underlying3 hwfu)
          replace hg6 : wf.grownBy w6 (some m1) := grown_trans (grown_below (Below.refl _ _).drew _) hg6
          go_wp2_with fail
          go_region
          have HC6 : Hid (ChAt w6 ((s1, m1, n1 + 1, (nm.data.toList, Pl.mk k) :: E1) :: R) (.pointer (some ⟨s1, 0, none⟩))) := by
            obtain ⟨es, ck, hb'⟩ := HMB.out
            have hs1l : s1 < wf.heap.size := (Array.getElem?_eq_some_iff.1 HBK.out).1
            refine hide ⟨rfl, vr, ⟨(hg6.block s1 hs1l (fun e => hsm (by cases e; rfl))).trans HBK.out, ⟨_, hown6, put_tells hown.isMap HAT.out nm.data.toList (Pl.mk k)⟩, fun p hp => ?_, HPT.out, HORD.out⟩, ChAt.beside hb' hg6 (fun q hq => by have := HORD.out q hq; omega) HRST.out⟩
            rcases List.mem_cons.1 hp with rfl | hp
            · simp only
              omega
            · exact HNZ.out p hp
          have HG6 : Hid (W.grownBy w6 (some m1)) := grown_trans (grown_below HBWf.out _) hg6
          have HB6 : Hid (Below w0.heap.size w0 w6) := HBf.out.grown hg6 HBf.out.size (fun j e => by cases e; exact hm0)
          have HX6 := hide (HXf.out.beside hg6 (by omega))
          clear hown6 hg6 hown hc0 x0 x1 x2 x3 x4 x5 x6 x7 x8 x9 x10
          obtain ⟨_, ⟨x0, x1, x2, x3, x4, x5, x6, x7⟩, x8, x9, x10⟩ := HX6.out
          go_wp2_with fail
          refine (HBB.out _ _ _ HB6.out HC6.out).mono ?_
          rintro e w7 ⟨rfl, hB7⟩
          have HG7 : Hid (W.grownBy w7 (some m1)) := grown_trans HG6.out (grown_below hB7 _)
          have HB7 : Hid (Below w0.heap.size w0 w7) := HB6.out.trans (hB7.mono HB6.out.size)
          have HC7 := hide (HC6.out.later hB7)
          have HX7 := hide (HX6.out.later hB7)
          clear hB7 x0 x1 x2 x3 x4 x5 x6 x7 x8 x9 x10
          obtain ⟨_, ⟨x0, x1, x2, x3, x4, x5, x6, x7⟩, x8, x9, x10⟩ := HX7.out
          by_cases hcb : Pl.chkF b (flat ((s1, m1, n1 + 1, (nm.data.toList, Pl.mk k) :: E1) :: R)) = 0
          · have hz : (Pl.chkF b (flat ((s1, m1, n1 + 1, (nm.data.toList, Pl.mk k) :: E1) :: R)) != 0) = false := by simp [hcb]
            have HCK : Hid (Pl.chkS ⟨k, nm, wh, ⟨xk, xvk, xvn, xvt, xnm⟩, ek⟩ b l (flat ((s1, m1, n1, E1) :: R)) = Pl.chkF l (flat ((s1, m1, n1 + 1, (nm.data.toList, Pl.mk k) :: E1) :: R))) := by
              show _ = _
              unfold Pl.chkS
              rw [HOK0.out, Pl.orr_right, HEXT.out, hcb, Pl.orr_right]
            clear hcb
            go_wp2_with fail
            refine (HBL.out _ _ _ HB7.out HC7.out).mono ?_
            rintro e w8 ⟨rfl, hB8⟩
            have HG8 : Hid (W.grownBy w8 (some m1)) := grown_trans HG7.out (grown_below hB8 _)
            have HC8 := hide (HC7.out.later hB8)
            clear hB8 x0 x1 x2 x3 x4 x5 x6 x7 x8 x9 x10
            go_wp2
            go_ret
            exact ⟨by rw [HCK.out]; rfl, HG8.out, fun _ => ⟨(nm.data.toList, Pl.mk k) :: E1, HC8.out, HEXT.out.symm⟩⟩
          · have hz : (Pl.chkF b (flat ((s1, m1, n1 + 1, (nm.data.toList, Pl.mk k) :: E1) :: R)) != 0) = true := by simp [hcb]
            have HCK : Hid (Pl.chkS ⟨k, nm, wh, ⟨xk, xvk, xvn, xvt, xnm⟩, ek⟩ b l (flat ((s1, m1, n1, E1) :: R)) = Pl.chkF b (flat ((s1, m1, n1 + 1, (nm.data.toList, Pl.mk k) :: E1) :: R))) := by
              show _ = _
              unfold Pl.chkS
              rw [HOK0.out, Pl.orr_right, HEXT.out, Pl.orr_left hcb]
            have HNZ := hide hcb
            clear hcb
            go_wp2
            go_ret
            exact ⟨by rw [HCK.out]; rfl, HG7.out, fun h => absurd (HCK.out.symm.trans h) HNZ.out⟩
        · have hz2 : (Pl.look (flat ((s1, m1, n1, E1) :: R)) nm.data.toList != 0) = true := by simp [ht0]
          have HCK : Hid (Pl.chkS ⟨k, nm, wh, ⟨xk, xvk, xvn, xvt, xnm⟩, ek⟩ b l (flat ((s1, m1, n1, E1) :: R)) = 2) := by
            show _ = _
            unfold Pl.chkS
            rw [HOK1.out]
            simp [Pl.twiceE, ht0, Pl.orr]
          clear ht0 HOK1
          go_wp2
          go_ret
          exact ⟨by rw [HCK.out]; rfl, grown_below HBWf.out _, fun h => by rw [HCK.out] at h; omega⟩
      · have hz : (Pl.look (flat ((s1, m1, n1, E1) :: R)) wh.data.toList != 2) = true := by simp [hj2]
        have HCK : Hid (Pl.chkS ⟨k, nm, wh, ⟨xk, xvk, xvn, xvt, xnm⟩, ek⟩ b l (flat ((s1, m1, n1, E1) :: R)) = 4) := by
          show _ = _
          unfold Pl.chkS
          rw [HOK.out, if_neg hj2]
          rfl
        clear hj2 HOK
        go_wp2
        go_ret
        exact ⟨by rw [HCK.out]; rfl, grown_below HBWj.out _, fun h => by rw [HCK.out] at h; omega⟩

set_option maxHeartbeats 3200000 in
set_option maxRecDepth 100000 in
theorem stepCheck_z (k : Int) (nm wh : ByteArray) (xk xvk xvn : Int) (xvt xnm : ByteArray) (ek : Fo) (b l : Ps) (ve vb vl : Value) (w0 W : World) (s1 m1 n1 : Nat) (E1 : Pl.En) (R : List (Nat × Nat × Nat × Pl.En)) (hvl : (xk = 2 → ek.len = 0 ∧ xnm.size ≤ 10) ∧ Pl.Vl ek) (hN : (Pl.namesN ⟨xk, xvk, xvn, xvt, xnm⟩ ek).length ≤ 1000000) (he1 : ek.len ≤ 1048576) (he2 : ek.Sm) (hw1 : nm.size ≤ maxLen) (hw2 : wh.size ≤ maxLen) (hre : RowAt 0 w0 ek ve) (hrb : PRow 0 w0 b vb) (hrl : PRow 0 w0 l vl)
    (hBW : Below w0.heap.size w0 W) (hm0 : w0.heap.size ≤ m1) (hn1 : n1 ≤ 1000) (hch : ChAt W ((s1, m1, n1, E1) :: R) (.pointer (some ⟨s1, 0, none⟩))) (hbb : BcQ b vb w0) (hbl : BcQ l vl w0) (hk : k ≠ 2 ∧ k ≠ 7 ∧ Pl.mk k ≠ 0) :
    Calls Tryz.prog 66 #[.agg #[.int .i64 k, .string nm, .string wh, .int .i64 xk, .int .i64 xvk, .int .i64 xvn, .string xvt, .string xnm, ve, vb, vl], .pointer (some ⟨s1, 0, none⟩)] W (ScQ ⟨k, nm, wh, ⟨xk, xvk, xvn, xvt, xnm⟩, ek⟩ b l s1 m1 n1 E1 R W) := by
  have hqn : Hid (∀ W', Below w0.heap.size w0 W' → Calls Tryz.prog 95 #[ndV ⟨xk, xvk, xvn, xvt, xnm⟩ ve] W' fun e w' => ∃ v', e = .returned v' ∧ w'.ownsRow W'.heap.size 9 1 v' (Pl.namesN ⟨xk, xvk, xvn, xvt, xnm⟩ ek).length ((Pl.namesN ⟨xk, xvk, xvn, xvt, xnm⟩ ek).map sv) ∧ Below W'.heap.size W' w') := fun W' hW => exprNames_any ek he1 he2 ⟨xk, xvk, xvn, xvt, xnm⟩ ve W' hvl.1 hvl.2 (by omega) (hre.later hW)
  have HSH : Hid (∀ x ∈ Pl.namesN ⟨xk, xvk, xvn, xvt, xnm⟩ ek, x.length ≤ maxLen) := by
    refine hide fun x hx => ?_
    have := Pl.namesN_short (nd := ⟨xk, xvk, xvn, xvt, xnm⟩) (k := ek) hvl x hx
    unfold maxLen
    omega
  have hqf : Hid (∀ W' s, s.size ≤ maxLen → ChAt W' ((s1, m1, n1, E1) :: R) (.pointer (some ⟨s1, 0, none⟩)) → Calls Tryz.prog 96 #[.pointer (some ⟨s1, 0, none⟩), .string s] W' fun e w' => e = .returned (.int .i64 (Pl.look (flat ((s1, m1, n1, E1) :: R)) s.data.toList)) ∧ Below W'.heap.size W' w') := fun W' s hs hc => find_any _ _ s hs W' hc
  have hmn := hide (makesName_any k)
  have HCH := hide hch
  have HBB := hide hbb
  have HBL := hide hbl
  have HW1 := hide hw1
  have HW2 := hide hw2
  have HOW := hide (rfl : Pl.own ⟨k, nm, wh, ⟨xk, xvk, xvn, xvt, xnm⟩, ek⟩ = Pl.own ⟨k, nm, wh, ⟨xk, xvk, xvn, xvt, xnm⟩, ek⟩)
  clear HOW
  have HOB : Hid (∀ E, (Pl.namesN ⟨xk, xvk, xvn, xvt, xnm⟩ ek).any (fun x => !(Pl.look E x == 1)) = true → Pl.own ⟨k, nm, wh, ⟨xk, xvk, xvn, xvt, xnm⟩, ek⟩ E = 3) := by
    refine hide fun E h => ?_
    simp [Pl.own, h]
  have HOG : Hid (∀ E, (Pl.namesN ⟨xk, xvk, xvn, xvt, xnm⟩ ek).any (fun x => !(Pl.look E x == 1)) = false → Pl.own ⟨k, nm, wh, ⟨xk, xvk, xvn, xvt, xnm⟩, ek⟩ E = Pl.twiceE E nm.data.toList) := by
    refine hide fun E h => ?_
    simp [Pl.own, h, hk.1, hk.2.1, hk.2.2, Pl.twiceE]
  have kk : (k == 2) = false := by simp [hk.1]
  have k7 : (k == 7) = false := by simp [hk.2.1]
  have HK := hide hk
  obtain ⟨ade, cape, rfl, _, _, _⟩ := hre
  obtain ⟨adb, capb, rfl, _, _, _⟩ := hrb
  obtain ⟨adl, capl, rfl, _, _, _⟩ := hrl
  generalize Pl.namesN ⟨xk, xvk, xvn, xvt, xnm⟩ ek = N at *
  have HX := hide (Box11.mk (sn := ⟨k, nm, wh, ⟨xk, xvk, xvn, xvt, xnm⟩, ek⟩) (ve := .slice ade ek.len cape) (vb := .slice adb b.len capb) (vl := .slice adl l.len capl) (T := 47) W)
  have HA : Hid (Below W.heap.size W (W.alloc (.cells #[.int .i64 k, .string nm, .string wh, .int .i64 xk, .int .i64 xvk, .int .i64 xvn, .string xvt, .string xnm, .slice ade ek.len cape, .slice adb b.len capb, .slice adl l.len capl] 47))) := (Below.refl _ _).alloc (Nat.le_refl _) _
  clear hvl he2 hw1 hw2 hch hbb hbl hk
  go_enter Tryz.func66, Tryz.ntmps66
  go_wp2_with fail
  refine (hqn.out _ (hBW.trans (HA.out.mono hBW.size))).mono ?_
  rintro e w1 ⟨v1, rfl, hr1, hB1⟩
  have HB1 : Hid (Below W.heap.size W w1) := HA.out.trans (hB1.mono (by simp))
  have HX1 := hide (HX.out.later hB1)
  have HR1 := hide (ownsRow_base hr1 (base' := W.heap.size) (by simp))
  have HNEB : Hid (∀ j, v1.ownBlock = some j → j ≠ W.heap.size) := by
    refine hide fun j hj => ?_
    have := (hr1.lt j hj).1
    simp at this
    omega
  obtain ⟨a1, c1, rfl⟩ := ownsRow_form hr1
  clear hr1 hB1 HX HA hqn
  obtain ⟨_, ⟨x0, x1, x2, x3, x4, x5, x6, x7⟩, x8, x9, x10⟩ := HX1.out
  have HRU := hide HR1.out
  have HSU := hide HSH.out
  have HBb := hide HB1.out
  clear HR1 HSH
  go_wp2_with fail
  have HTX := hide (texts_of_row HRU.out)
  clear x0 x1 x2 x3 x4 x5 x6 x7 x8 x9 x10
  go_loopw [23] (fun iv wr => ∃ i : Nat, i ≤ N.length ∧ iv = .int .i64 i ∧ Hid (∀ j, j < i → Pl.look (flat ((s1, m1, n1, E1) :: R)) (N[j]?.getD []) = 1) ∧ Hid (Below w1.heap.size w1 wr)) (fun iv _ => N.length - (intOf iv).toNat)
  case atStart => exact ⟨0, by omega, rfl, hide (fun j hj => by omega), hide (Below.refl _ _)⟩
  case round =>
    obtain ⟨i, hi, rfl, HALL, hB⟩ := hrel
    have HBW : Hid (Below W.heap.size W wr) := HBb.out.trans (hB.out.mono HBb.out.size)
    have HCW := hide (HCH.out.later HBW.out)
    by_cases hlt : i < N.length
    · obtain ⟨aa, cc, heq, _, _, hxx, _⟩ := HTX.out.later hB.out
      cases heq
      obtain ⟨g1, off, rfl, hg1, hcell⟩ := hxx (by omega)
      have hck := hcell i hlt
      have HIN : Hid (N[i]?.getD [] ∈ N) := by
        rw [List.getElem?_eq_getElem hlt]
        exact List.getElem_mem hlt
      have hlen : Hid ((N[i]?.getD []).length ≤ maxLen) := HSU.out _ HIN.out
      generalize hX : N[i]?.getD [] = X at hck HIN hlen
      have HXE := hide hX
      have hq := hide (hqf.out wr (Pl.bs X) (by rw [Pl.bs_size]; exact hlen.out) HCW.out)
      rw [Pl.bs_data] at hq
      have hii : (i : Int) < (N.length : Int) := by omega
      clear hX hcell hxx hlen
      go_wp2_with fail
      refine hq.out.mono ?_
      rintro e w4 ⟨rfl, hB4⟩
      have HB4 : Hid (Below w1.heap.size w1 w4) := hB.out.trans (hB4.mono hB.out.size)
      have HBW4 : Hid (Below W.heap.size W w4) := HBW.out.trans (hB4.mono HBW.out.size)
      clear hq hB4 hck
      by_cases h1 : Pl.look (flat ((s1, m1, n1, E1) :: R)) X = 1
      · have hz : (Pl.look (flat ((s1, m1, n1, E1) :: R)) X != 1) = false := by simp [h1]
        have HALL' : Hid (∀ j, j < i + 1 → Pl.look (flat ((s1, m1, n1, E1) :: R)) (N[j]?.getD []) = 1) := by
          refine hide fun j hj => ?_
          by_cases hji : j = i
          · rw [hji, HXE.out]; exact h1
          · exact HALL.out j (by omega)
        clear h1
        go_wp2
        go_roundw
        case rel => exact ⟨i + 1, by omega, by go_num, HALL', HB4⟩
        case measure => simp [intOf]; omega
      · have hz : (Pl.look (flat ((s1, m1, n1, E1) :: R)) X != 1) = true := by simp [h1]
        have HCK : Hid (Pl.chkS ⟨k, nm, wh, ⟨xk, xvk, xvn, xvt, xnm⟩, ek⟩ b l (flat ((s1, m1, n1, E1) :: R)) = 3) := by
          show _ = _
          have ho := HOB.out (flat ((s1, m1, n1, E1) :: R)) (by
            rw [List.any_eq_true]
            exact ⟨X, HIN.out, by simp [h1]⟩)
          unfold Pl.chkS
          rw [ho]
          rfl
        clear h1
        go_wp2
        go_ret
        exact ⟨by rw [HCK.out]; rfl, grown_below HBW4.out _, fun h => by rw [HCK.out] at h; omega⟩
    · have HOK : Hid (Pl.own ⟨k, nm, wh, ⟨xk, xvk, xvn, xvt, xnm⟩, ek⟩ (flat ((s1, m1, n1, E1) :: R)) = Pl.twiceE (flat ((s1, m1, n1, E1) :: R)) nm.data.toList) := by
        refine hide (HOG.out (flat ((s1, m1, n1, E1) :: R)) ?_)
        rw [List.any_eq_false]
        intro x hx
        obtain ⟨j, hj, rfl⟩ := List.mem_iff_getElem.1 hx
        have := HALL.out j (by omega)
        rw [List.getElem?_eq_getElem hj] at this
        simpa using this
      have HXR := hide (HX1.out.later hB.out)
      clear HALL HOB HOG HTX HRU HSU
      obtain ⟨_, ⟨x0, x1, x2, x3, x4, x5, x6, x7⟩, x8, x9, x10⟩ := HXR.out
      have hu12 : Pl.mk k = 1 ∨ Pl.mk k = 2 := by
        exact Pl.mk_12 HK.out.2.2
      have HEXT : Hid (Pl.ext ⟨k, nm, wh, ⟨xk, xvk, xvn, xvt, xnm⟩, ek⟩ (flat ((s1, m1, n1, E1) :: R)) = (flat ((s1, m1, n1 + 1, (nm.data.toList, Pl.mk k) :: E1) :: R))) := by
        show _ = _
        have h0 : Pl.mk k ≠ 0 := by omega
        simp [Pl.ext, h0, flat]
      have HB0 : Hid (Below w0.heap.size w0 wr) := hBW.trans (HBW.out.mono hBW.size)
      have HGR : Hid (W.grownBy wr (some m1)) := grown_below HBW.out _
      have HOK1 := hide HOK.out
      clear HOK
      go_wp2_with fail
      refine (hmn.out _).mono ?_
      rintro e wm ⟨rfl, rfl⟩
      have hqx := hide (hqf.out wm nm HW1.out HCW.out)
      have hmz : (Pl.mk k != 0) = true := by
        have : Pl.mk k ≠ 0 := by omega
        simp [this]
      go_wp2_with fail
      refine hqx.out.mono ?_
      rintro e wf ⟨rfl, hBf⟩
      have HBWf : Hid (Below W.heap.size W wf) := HBW.out.trans (hBf.mono HBW.out.size)
      have HCf := hide (HCW.out.later hBf)
      have HXf := hide (HXR.out.later hBf)
      have HBf : Hid (Below w0.heap.size w0 wf) := hBW.trans (HBWf.out.mono hBW.size)
      clear hqx hBf x0 x1 x2 x3 x4 x5 x6 x7 x8 x9 x10
      obtain ⟨_, ⟨x0, x1, x2, x3, x4, x5, x6, x7⟩, x8, x9, x10⟩ := HXf.out
      by_cases ht0 : Pl.look (flat ((s1, m1, n1, E1) :: R)) nm.data.toList = 0
      · have hz2 : (Pl.look (flat ((s1, m1, n1, E1) :: R)) nm.data.toList != 0) = false := by simp [ht0]
        have HOK0 : Hid (Pl.own ⟨k, nm, wh, ⟨xk, xvk, xvn, xvt, xnm⟩, ek⟩ (flat ((s1, m1, n1, E1) :: R)) = 0) := by
          show _ = _
          rw [HOK1.out]
          simp [Pl.twiceE, ht0]
        clear ht0 HOK1
        obtain ⟨_, vr, ⟨hbk, hmap, hnz, hpt, hord⟩, hrest⟩ := HCf.out
        obtain ⟨D, hown, hat⟩ := hmap
        have hmb : ∃ es ck, wf.heap[m1]? = some (.map es ck) := by
          obtain ⟨es, ck, hb', _⟩ := hown
          exact ⟨es, ck, hb'⟩
        have hsm : s1 ≠ m1 := by
          obtain ⟨es, ck, hb'⟩ := hmb
          intro e'
          subst e'
          rw [hb'] at hbk
          cases hbk
        have hc0 := cell_of_block hbk 0
        simp only [List.getElem?_toArray, List.getElem?_cons_zero] at hc0
        have hkey : keyOf Tryz.prog 9 (.string nm) = some (.string nm.data.toList) := keyOf_string_mk Tryz.underlying9 HW1.out
        have hwfu : (Lit.int .i64 (Pl.mk k)).wf = true := by rcases hu12 with h | h <;> rw [h] <;> decide
        have HBK := hide hbk
        have HAT := hide hat
        have HNZ := hide hnz
        have HPT := hide hpt
        have HORD := hide hord
        have HRST := hide hrest
        have HMB := hide hmb
        have hm1w : m1 < W.heap.size := by
          obtain ⟨_, vr', ⟨_, hmap', _⟩, _⟩ := HCH.out
          obtain ⟨es, ck, hb'⟩ := hmap'.block
          exact (Array.getElem?_eq_some_iff.1 hb').1
        clear hbk hat hnz hpt hord hrest hmb
        obtain ⟨w6, hrun6, hown6, hg6⟩ := (hown.drew).update lawS Tryz.underlying81 (by unfold maxLen; omega) hkey (plainElem_int Tryz.underlying3 hwfu)
        replace hg6 : wf.grownBy w6 (some m1) := grown_trans (grown_below (Below.refl _ _).drew _) hg6
        go_wp2_with fail
        go_region
        have HC6 : Hid (ChAt w6 ((s1, m1, n1 + 1, (nm.data.toList, Pl.mk k) :: E1) :: R) (.pointer (some ⟨s1, 0, none⟩))) := by
          obtain ⟨es, ck, hb'⟩ := HMB.out
          have hs1l : s1 < wf.heap.size := (Array.getElem?_eq_some_iff.1 HBK.out).1
          refine hide ⟨rfl, vr, ⟨(hg6.block s1 hs1l (fun e => hsm (by cases e; rfl))).trans HBK.out, ⟨_, hown6, put_tells hown.isMap HAT.out nm.data.toList (Pl.mk k)⟩, fun p hp => ?_, HPT.out, HORD.out⟩, ChAt.beside hb' hg6 (fun q hq => by have := HORD.out q hq; omega) HRST.out⟩
          rcases List.mem_cons.1 hp with rfl | hp
          · simp only
            omega
          · exact HNZ.out p hp
        have HG6 : Hid (W.grownBy w6 (some m1)) := grown_trans (grown_below HBWf.out _) hg6
        have HB6 : Hid (Below w0.heap.size w0 w6) := HBf.out.grown hg6 HBf.out.size (fun j e => by cases e; exact hm0)
        have HX6 := hide (HXf.out.beside hg6 (by omega))
        clear hown6 hg6 hown hc0 x0 x1 x2 x3 x4 x5 x6 x7 x8 x9 x10
        obtain ⟨_, ⟨x0, x1, x2, x3, x4, x5, x6, x7⟩, x8, x9, x10⟩ := HX6.out
        go_wp2_with fail
        refine (HBB.out _ _ _ HB6.out HC6.out).mono ?_
        rintro e w7 ⟨rfl, hB7⟩
        have HG7 : Hid (W.grownBy w7 (some m1)) := grown_trans HG6.out (grown_below hB7 _)
        have HB7 : Hid (Below w0.heap.size w0 w7) := HB6.out.trans (hB7.mono HB6.out.size)
        have HC7 := hide (HC6.out.later hB7)
        have HX7 := hide (HX6.out.later hB7)
        clear hB7 x0 x1 x2 x3 x4 x5 x6 x7 x8 x9 x10
        obtain ⟨_, ⟨x0, x1, x2, x3, x4, x5, x6, x7⟩, x8, x9, x10⟩ := HX7.out
        by_cases hcb : Pl.chkF b (flat ((s1, m1, n1 + 1, (nm.data.toList, Pl.mk k) :: E1) :: R)) = 0
        · have hz : (Pl.chkF b (flat ((s1, m1, n1 + 1, (nm.data.toList, Pl.mk k) :: E1) :: R)) != 0) = false := by simp [hcb]
          have HCK : Hid (Pl.chkS ⟨k, nm, wh, ⟨xk, xvk, xvn, xvt, xnm⟩, ek⟩ b l (flat ((s1, m1, n1, E1) :: R)) = Pl.chkF l (flat ((s1, m1, n1 + 1, (nm.data.toList, Pl.mk k) :: E1) :: R))) := by
            show _ = _
            unfold Pl.chkS
            rw [HOK0.out, Pl.orr_right, HEXT.out, hcb, Pl.orr_right]
          clear hcb
          go_wp2_with fail
          refine (HBL.out _ _ _ HB7.out HC7.out).mono ?_
          rintro e w8 ⟨rfl, hB8⟩
          have HG8 : Hid (W.grownBy w8 (some m1)) := grown_trans HG7.out (grown_below hB8 _)
          have HC8 := hide (HC7.out.later hB8)
          clear hB8 x0 x1 x2 x3 x4 x5 x6 x7 x8 x9 x10
          go_wp2
          go_ret
          exact ⟨by rw [HCK.out]; rfl, HG8.out, fun _ => ⟨(nm.data.toList, Pl.mk k) :: E1, HC8.out, HEXT.out.symm⟩⟩
        · have hz : (Pl.chkF b (flat ((s1, m1, n1 + 1, (nm.data.toList, Pl.mk k) :: E1) :: R)) != 0) = true := by simp [hcb]
          have HCK : Hid (Pl.chkS ⟨k, nm, wh, ⟨xk, xvk, xvn, xvt, xnm⟩, ek⟩ b l (flat ((s1, m1, n1, E1) :: R)) = Pl.chkF b (flat ((s1, m1, n1 + 1, (nm.data.toList, Pl.mk k) :: E1) :: R))) := by
            show _ = _
            unfold Pl.chkS
            rw [HOK0.out, Pl.orr_right, HEXT.out, Pl.orr_left hcb]
          have HNZ := hide hcb
          clear hcb
          go_wp2
          go_ret
          exact ⟨by rw [HCK.out]; rfl, HG7.out, fun h => absurd (HCK.out.symm.trans h) HNZ.out⟩
      · have hz2 : (Pl.look (flat ((s1, m1, n1, E1) :: R)) nm.data.toList != 0) = true := by simp [ht0]
        have HCK : Hid (Pl.chkS ⟨k, nm, wh, ⟨xk, xvk, xvn, xvt, xnm⟩, ek⟩ b l (flat ((s1, m1, n1, E1) :: R)) = 2) := by
          show _ = _
          unfold Pl.chkS
          rw [HOK1.out]
          simp [Pl.twiceE, ht0, Pl.orr]
        clear ht0 HOK1
        go_wp2
        go_ret
        exact ⟨by rw [HCK.out]; rfl, grown_below HBWf.out _, fun h => by rw [HCK.out] at h; omega⟩

set_option maxHeartbeats 3200000 in
set_option maxRecDepth 100000 in
theorem stepCheck_o (k : Int) (nm wh : ByteArray) (xk xvk xvn : Int) (xvt xnm : ByteArray) (ek : Fo) (b l : Ps) (ve vb vl : Value) (w0 W : World) (s1 m1 n1 : Nat) (E1 : Pl.En) (R : List (Nat × Nat × Nat × Pl.En)) (hvl : (xk = 2 → ek.len = 0 ∧ xnm.size ≤ 10) ∧ Pl.Vl ek) (hN : (Pl.namesN ⟨xk, xvk, xvn, xvt, xnm⟩ ek).length ≤ 1000000) (he1 : ek.len ≤ 1048576) (he2 : ek.Sm) (hw1 : nm.size ≤ maxLen) (hw2 : wh.size ≤ maxLen) (hre : RowAt 0 w0 ek ve) (hrb : PRow 0 w0 b vb) (hrl : PRow 0 w0 l vl)
    (hBW : Below w0.heap.size w0 W) (hm0 : w0.heap.size ≤ m1) (hn1 : n1 ≤ 1000) (hch : ChAt W ((s1, m1, n1, E1) :: R) (.pointer (some ⟨s1, 0, none⟩))) (hbb : BcQ b vb w0) (hbl : BcQ l vl w0) (hk : k ≠ 2 ∧ k ≠ 7 ∧ Pl.mk k = 0) :
    Calls Tryz.prog 66 #[.agg #[.int .i64 k, .string nm, .string wh, .int .i64 xk, .int .i64 xvk, .int .i64 xvn, .string xvt, .string xnm, ve, vb, vl], .pointer (some ⟨s1, 0, none⟩)] W (ScQ ⟨k, nm, wh, ⟨xk, xvk, xvn, xvt, xnm⟩, ek⟩ b l s1 m1 n1 E1 R W) := by
  have hqn : Hid (∀ W', Below w0.heap.size w0 W' → Calls Tryz.prog 95 #[ndV ⟨xk, xvk, xvn, xvt, xnm⟩ ve] W' fun e w' => ∃ v', e = .returned v' ∧ w'.ownsRow W'.heap.size 9 1 v' (Pl.namesN ⟨xk, xvk, xvn, xvt, xnm⟩ ek).length ((Pl.namesN ⟨xk, xvk, xvn, xvt, xnm⟩ ek).map sv) ∧ Below W'.heap.size W' w') := fun W' hW => exprNames_any ek he1 he2 ⟨xk, xvk, xvn, xvt, xnm⟩ ve W' hvl.1 hvl.2 (by omega) (hre.later hW)
  have HSH : Hid (∀ x ∈ Pl.namesN ⟨xk, xvk, xvn, xvt, xnm⟩ ek, x.length ≤ maxLen) := by
    refine hide fun x hx => ?_
    have := Pl.namesN_short (nd := ⟨xk, xvk, xvn, xvt, xnm⟩) (k := ek) hvl x hx
    unfold maxLen
    omega
  have hqf : Hid (∀ W' s, s.size ≤ maxLen → ChAt W' ((s1, m1, n1, E1) :: R) (.pointer (some ⟨s1, 0, none⟩)) → Calls Tryz.prog 96 #[.pointer (some ⟨s1, 0, none⟩), .string s] W' fun e w' => e = .returned (.int .i64 (Pl.look (flat ((s1, m1, n1, E1) :: R)) s.data.toList)) ∧ Below W'.heap.size W' w') := fun W' s hs hc => find_any _ _ s hs W' hc
  have hmn := hide (makesName_any k)
  have HCH := hide hch
  have HBB := hide hbb
  have HBL := hide hbl
  have HW1 := hide hw1
  have HW2 := hide hw2
  have HOW := hide (rfl : Pl.own ⟨k, nm, wh, ⟨xk, xvk, xvn, xvt, xnm⟩, ek⟩ = Pl.own ⟨k, nm, wh, ⟨xk, xvk, xvn, xvt, xnm⟩, ek⟩)
  clear HOW
  have HOB : Hid (∀ E, (Pl.namesN ⟨xk, xvk, xvn, xvt, xnm⟩ ek).any (fun x => !(Pl.look E x == 1)) = true → Pl.own ⟨k, nm, wh, ⟨xk, xvk, xvn, xvt, xnm⟩, ek⟩ E = 3) := by
    refine hide fun E h => ?_
    simp [Pl.own, h]
  have HOG : Hid (∀ E, (Pl.namesN ⟨xk, xvk, xvn, xvt, xnm⟩ ek).any (fun x => !(Pl.look E x == 1)) = false → Pl.own ⟨k, nm, wh, ⟨xk, xvk, xvn, xvt, xnm⟩, ek⟩ E = 0) := by
    refine hide fun E h => ?_
    simp [Pl.own, h, hk.1, hk.2.1, hk.2.2]
  have hmk : Pl.mk k = 0 := hk.2.2
  have kk : (k == 2) = false := by simp [hk.1]
  have k7 : (k == 7) = false := by simp [hk.2.1]
  have HK := hide hk
  obtain ⟨ade, cape, rfl, _, _, _⟩ := hre
  obtain ⟨adb, capb, rfl, _, _, _⟩ := hrb
  obtain ⟨adl, capl, rfl, _, _, _⟩ := hrl
  generalize Pl.namesN ⟨xk, xvk, xvn, xvt, xnm⟩ ek = N at *
  have HX := hide (Box11.mk (sn := ⟨k, nm, wh, ⟨xk, xvk, xvn, xvt, xnm⟩, ek⟩) (ve := .slice ade ek.len cape) (vb := .slice adb b.len capb) (vl := .slice adl l.len capl) (T := 47) W)
  have HA : Hid (Below W.heap.size W (W.alloc (.cells #[.int .i64 k, .string nm, .string wh, .int .i64 xk, .int .i64 xvk, .int .i64 xvn, .string xvt, .string xnm, .slice ade ek.len cape, .slice adb b.len capb, .slice adl l.len capl] 47))) := (Below.refl _ _).alloc (Nat.le_refl _) _
  clear hvl he2 hw1 hw2 hch hbb hbl hk
  go_enter Tryz.func66, Tryz.ntmps66
  go_wp2_with fail
  refine (hqn.out _ (hBW.trans (HA.out.mono hBW.size))).mono ?_
  rintro e w1 ⟨v1, rfl, hr1, hB1⟩
  have HB1 : Hid (Below W.heap.size W w1) := HA.out.trans (hB1.mono (by simp))
  have HX1 := hide (HX.out.later hB1)
  have HR1 := hide (ownsRow_base hr1 (base' := W.heap.size) (by simp))
  have HNEB : Hid (∀ j, v1.ownBlock = some j → j ≠ W.heap.size) := by
    refine hide fun j hj => ?_
    have := (hr1.lt j hj).1
    simp at this
    omega
  obtain ⟨a1, c1, rfl⟩ := ownsRow_form hr1
  clear hr1 hB1 HX HA hqn
  obtain ⟨_, ⟨x0, x1, x2, x3, x4, x5, x6, x7⟩, x8, x9, x10⟩ := HX1.out
  have HRU := hide HR1.out
  have HSU := hide HSH.out
  have HBb := hide HB1.out
  clear HR1 HSH
  go_wp2_with fail
  have HTX := hide (texts_of_row HRU.out)
  clear x0 x1 x2 x3 x4 x5 x6 x7 x8 x9 x10
  go_loopw [23] (fun iv wr => ∃ i : Nat, i ≤ N.length ∧ iv = .int .i64 i ∧ Hid (∀ j, j < i → Pl.look (flat ((s1, m1, n1, E1) :: R)) (N[j]?.getD []) = 1) ∧ Hid (Below w1.heap.size w1 wr)) (fun iv _ => N.length - (intOf iv).toNat)
  case atStart => exact ⟨0, by omega, rfl, hide (fun j hj => by omega), hide (Below.refl _ _)⟩
  case round =>
    obtain ⟨i, hi, rfl, HALL, hB⟩ := hrel
    have HBW : Hid (Below W.heap.size W wr) := HBb.out.trans (hB.out.mono HBb.out.size)
    have HCW := hide (HCH.out.later HBW.out)
    by_cases hlt : i < N.length
    · obtain ⟨aa, cc, heq, _, _, hxx, _⟩ := HTX.out.later hB.out
      cases heq
      obtain ⟨g1, off, rfl, hg1, hcell⟩ := hxx (by omega)
      have hck := hcell i hlt
      have HIN : Hid (N[i]?.getD [] ∈ N) := by
        rw [List.getElem?_eq_getElem hlt]
        exact List.getElem_mem hlt
      have hlen : Hid ((N[i]?.getD []).length ≤ maxLen) := HSU.out _ HIN.out
      generalize hX : N[i]?.getD [] = X at hck HIN hlen
      have HXE := hide hX
      have hq := hide (hqf.out wr (Pl.bs X) (by rw [Pl.bs_size]; exact hlen.out) HCW.out)
      rw [Pl.bs_data] at hq
      have hii : (i : Int) < (N.length : Int) := by omega
      clear hX hcell hxx hlen
      go_wp2_with fail
      refine hq.out.mono ?_
      rintro e w4 ⟨rfl, hB4⟩
      have HB4 : Hid (Below w1.heap.size w1 w4) := hB.out.trans (hB4.mono hB.out.size)
      have HBW4 : Hid (Below W.heap.size W w4) := HBW.out.trans (hB4.mono HBW.out.size)
      clear hq hB4 hck
      by_cases h1 : Pl.look (flat ((s1, m1, n1, E1) :: R)) X = 1
      · have hz : (Pl.look (flat ((s1, m1, n1, E1) :: R)) X != 1) = false := by simp [h1]
        have HALL' : Hid (∀ j, j < i + 1 → Pl.look (flat ((s1, m1, n1, E1) :: R)) (N[j]?.getD []) = 1) := by
          refine hide fun j hj => ?_
          by_cases hji : j = i
          · rw [hji, HXE.out]; exact h1
          · exact HALL.out j (by omega)
        clear h1
        go_wp2
        go_roundw
        case rel => exact ⟨i + 1, by omega, by go_num, HALL', HB4⟩
        case measure => simp [intOf]; omega
      · have hz : (Pl.look (flat ((s1, m1, n1, E1) :: R)) X != 1) = true := by simp [h1]
        have HCK : Hid (Pl.chkS ⟨k, nm, wh, ⟨xk, xvk, xvn, xvt, xnm⟩, ek⟩ b l (flat ((s1, m1, n1, E1) :: R)) = 3) := by
          show _ = _
          have ho := HOB.out (flat ((s1, m1, n1, E1) :: R)) (by
            rw [List.any_eq_true]
            exact ⟨X, HIN.out, by simp [h1]⟩)
          unfold Pl.chkS
          rw [ho]
          rfl
        clear h1
        go_wp2
        go_ret
        exact ⟨by rw [HCK.out]; rfl, grown_below HBW4.out _, fun h => by rw [HCK.out] at h; omega⟩
    · have HOK : Hid (Pl.own ⟨k, nm, wh, ⟨xk, xvk, xvn, xvt, xnm⟩, ek⟩ (flat ((s1, m1, n1, E1) :: R)) = 0) := by
        refine hide (HOG.out (flat ((s1, m1, n1, E1) :: R)) ?_)
        rw [List.any_eq_false]
        intro x hx
        obtain ⟨j, hj, rfl⟩ := List.mem_iff_getElem.1 hx
        have := HALL.out j (by omega)
        rw [List.getElem?_eq_getElem hj] at this
        simpa using this
      have HXR := hide (HX1.out.later hB.out)
      clear HALL HOB HOG HTX HRU HSU
      obtain ⟨_, ⟨x0, x1, x2, x3, x4, x5, x6, x7⟩, x8, x9, x10⟩ := HXR.out
      rw [hmk] at hmn
      have HOK0 := hide HOK.out
      have HEXT : Hid (Pl.ext ⟨k, nm, wh, ⟨xk, xvk, xvn, xvt, xnm⟩, ek⟩ (flat ((s1, m1, n1, E1) :: R)) = (flat ((s1, m1, n1, E1) :: R))) := by
        show _ = _
        simp [Pl.ext, hmk]
      clear hmk
      have HB0 : Hid (Below w0.heap.size w0 wr) := hBW.trans (HBW.out.mono hBW.size)
      have HGR : Hid (W.grownBy wr (some m1)) := grown_below HBW.out _
      go_wp2_with fail
      refine (hmn.out _).mono ?_
      rintro e wm ⟨rfl, rfl⟩
      go_wp2_with fail
      refine (HBB.out _ _ _ HB0.out HCW.out).mono ?_
      rintro e w7 ⟨rfl, hB7⟩
      have HG7 : Hid (W.grownBy w7 (some m1)) := grown_trans HGR.out (grown_below hB7 _)
      have HB7 : Hid (Below w0.heap.size w0 w7) := HB0.out.trans (hB7.mono HB0.out.size)
      have HC7 := hide (HCW.out.later hB7)
      have HX7 := hide (HXR.out.later hB7)
      clear hB7 x0 x1 x2 x3 x4 x5 x6 x7 x8 x9 x10
      obtain ⟨_, ⟨x0, x1, x2, x3, x4, x5, x6, x7⟩, x8, x9, x10⟩ := HX7.out
      by_cases hcb : Pl.chkF b (flat ((s1, m1, n1, E1) :: R)) = 0
      · have hz : (Pl.chkF b (flat ((s1, m1, n1, E1) :: R)) != 0) = false := by simp [hcb]
        have HCK : Hid (Pl.chkS ⟨k, nm, wh, ⟨xk, xvk, xvn, xvt, xnm⟩, ek⟩ b l (flat ((s1, m1, n1, E1) :: R)) = Pl.chkF l (flat ((s1, m1, n1, E1) :: R))) := by
          show _ = _
          unfold Pl.chkS
          rw [HOK0.out, Pl.orr_right, HEXT.out, hcb, Pl.orr_right]
        clear hcb
        go_wp2_with fail
        refine (HBL.out _ _ _ HB7.out HC7.out).mono ?_
        rintro e w8 ⟨rfl, hB8⟩
        have HG8 : Hid (W.grownBy w8 (some m1)) := grown_trans HG7.out (grown_below hB8 _)
        have HC8 := hide (HC7.out.later hB8)
        clear hB8 x0 x1 x2 x3 x4 x5 x6 x7 x8 x9 x10
        go_wp2
        go_ret
        exact ⟨by rw [HCK.out]; rfl, HG8.out, fun _ => ⟨E1, ch_more HC8.out, HEXT.out.symm⟩⟩
      · have hz : (Pl.chkF b (flat ((s1, m1, n1, E1) :: R)) != 0) = true := by simp [hcb]
        have HCK : Hid (Pl.chkS ⟨k, nm, wh, ⟨xk, xvk, xvn, xvt, xnm⟩, ek⟩ b l (flat ((s1, m1, n1, E1) :: R)) = Pl.chkF b (flat ((s1, m1, n1, E1) :: R))) := by
          show _ = _
          unfold Pl.chkS
          rw [HOK0.out, Pl.orr_right, HEXT.out, Pl.orr_left hcb]
        have HNZ := hide hcb
        clear hcb
        go_wp2
        go_ret
        exact ⟨by rw [HCK.out]; rfl, HG7.out, fun h => absurd (HCK.out.symm.trans h) HNZ.out⟩

end Go.Proofs.YtnikomgdcddchaaGreat

/- What is wrong with the names of steps, as the program has it. -/
namespace Go.Proofs.YtnikomgdcddchaaGreat
open Go.RowKit Go.Maps Go.WideMaps
set_option linter.unusedVariables false

def BcP (F : Ps) : Prop := ∀ (d : Nat) (v : Value) (w0 : World), Pl.formF F d = true → F.Wf → F.Sm → F.len ≤ 8 → PRow 0 w0 F v → BcQ F v w0

theorem stepCheck_of (sn : Sn) (b l : Ps) (d : Nat) (hf : Pl.formS sn b l d = true) (hkb : BcP b) (hkl : BcP l) (he : sn.ek.len ≤ 1048576 ∧ sn.ek.Sm) (hb : b.len ≤ 1048576 ∧ b.Sm) (hl : l.len ≤ 1048576 ∧ l.Sm) (hw : sn.nm.size ≤ maxLen ∧ sn.wh.size ≤ maxLen ∧ sn.ex.vt.size ≤ maxLen ∧ sn.ex.nm.size ≤ maxLen ∧ sn.ek.Wf) (hwb : b.Wf) (hwl : l.Wf) (ve vb vl : Value) (w0 W : World) (s1 m1 n1 : Nat) (E1 : Pl.En) (R : List (Nat × Nat × Nat × Pl.En)) (hre : RowAt 0 w0 sn.ek ve) (hrb : PRow 0 w0 b vb) (hrl : PRow 0 w0 l vl)
    (hBW : Below w0.heap.size w0 W) (hm0 : w0.heap.size ≤ m1) (hn1 : n1 ≤ 1000) (hch : ChAt W ((s1, m1, n1, E1) :: R) (.pointer (some ⟨s1, 0, none⟩))) :
    Calls Tryz.prog 66 #[snV sn ve vb vl, .pointer (some ⟨s1, 0, none⟩)] W (ScQ sn b l s1 m1 n1 E1 R W) := by
  obtain ⟨k, nm, wh, ⟨xk, xvk, xvn, xvt, xnm⟩, ek⟩ := sn
  have hlen : ∀ G : Ps, Pl.bodyB G (d - 1) = true → G.len ≤ 8 := fun G h => by
    simp only [Pl.bodyB, Bool.and_eq_true, decide_eq_true_eq] at h
    exact h.2.1.2
  have hall : ((xk = 2 → ek.len = 0 ∧ xnm.size ≤ 10) ∧ Pl.Vl ek) ∧ (Pl.namesN ⟨xk, xvk, xvn, xvt, xnm⟩ ek).length ≤ 1000000 ∧ (Pl.formF b (d - 1) = true ∧ b.len ≤ 8) ∧ (Pl.formF l (d - 1) = true ∧ l.len ≤ 8) := by
    have few : ∀ h : Pl.okN ⟨xk, xvk, xvn, xvt, xnm⟩ ek 5 = true, (Pl.namesN ⟨xk, xvk, xvn, xvt, xnm⟩ ek).length ≤ 1000000 := fun h => by
      have h1 := Pl.okN_nodes (Nat.le_refl _) h
      have h2 := Pl.names_le_nodes ek
      have h3 := Pl.ownNm_le ⟨xk, xvk, xvn, xvt, xnm⟩
      simp only [Pl.namesN, List.length_append]
      omega
    have nl : ∀ G : Ps, G.len = 0 → Pl.formF G (d - 1) = true ∧ G.len ≤ 8 := fun G h => ⟨by rw [Pl.len_nil h]; rfl, by omega⟩
    have bd : ∀ G : Ps, Pl.bodyB G (d - 1) = true → Pl.formF G (d - 1) = true ∧ G.len ≤ 8 := fun G h => ⟨Pl.body_form h, hlen G h⟩
    rcases Pl.form_kinds hf with ⟨_, ho, hb0, hl0⟩ | ⟨_, ho, hfb, hfl⟩ | ⟨_, ho, hfb, hl0⟩ | ⟨_, ho, hb0, hl0⟩
    · exact ⟨Pl.okN_vl ho, few ho, nl b hb0, nl l hl0⟩
    · exact ⟨Pl.okN_vl ho, few ho, bd b hfb, by rcases hfl with h | h; exact nl l h; exact bd l h⟩
    · exact ⟨Pl.okN_vl ho, few ho, bd b hfb, nl l hl0⟩
    · exact ⟨Pl.none_vl ho, by rw [Pl.names_none ho]; simp, nl b hb0, nl l hl0⟩
  obtain ⟨hvl, hN, ⟨hfb, hb8⟩, ⟨hfl, hl8⟩⟩ := hall
  have hbb := hkb (d - 1) vb w0 hfb hwb hb.2 hb8 hrb
  have hbl := hkl (d - 1) vl w0 hfl hwl hl.2 hl8 hrl
  by_cases k2 : k = 2
  · exact stepCheck_x k nm wh xk xvk xvn xvt xnm ek b l ve vb vl w0 W s1 m1 n1 E1 R hvl hN he.1 he.2 hw.1 hw.2.1 hre hrb hrl hBW hm0 hn1 hch hbb hbl k2
  by_cases k7 : k = 7
  · exact stepCheck_y k nm wh xk xvk xvn xvt xnm ek b l ve vb vl w0 W s1 m1 n1 E1 R hvl hN he.1 he.2 hw.1 hw.2.1 hre hrb hrl hBW hm0 hn1 hch hbb hbl k7
  by_cases km : Pl.mk k = 0
  · exact stepCheck_o k nm wh xk xvk xvn xvt xnm ek b l ve vb vl w0 W s1 m1 n1 E1 R hvl hN he.1 he.2 hw.1 hw.2.1 hre hrb hrl hBW hm0 hn1 hch hbb hbl ⟨k2, k7, km⟩
  · exact stepCheck_z k nm wh xk xvk xvn xvt xnm ek b l ve vb vl w0 W s1 m1 n1 E1 R hvl hN he.1 he.2 hw.1 hw.2.1 hre hrb hrl hBW hm0 hn1 hch hbb hbl ⟨k2, k7, km⟩
theorem ch_low {W : World} : ∀ {L : List (Nat × Nat × Nat × Pl.En)} {v : Value}, ChAt W L v → (∀ q ∈ L, q.2.1 < W.heap.size) ∧ ptrN v ≤ W.heap.size ∧ ∃ o, v = .pointer o
  | [], v, h => by
    have hv : v = .pointer none := h
    subst hv
    exact ⟨fun q hq => by simp at hq, by simp [ptrN], _, rfl⟩
  | (s, m, n, E) :: r, v, h => by
    obtain ⟨rfl, vr, ⟨h1, h2, h3, h4, h4'⟩, h5⟩ := h
    obtain ⟨es, ck, hb⟩ := h2.block
    have hml : m < W.heap.size := (Array.getElem?_eq_some_iff.1 hb).1
    have hsl : s < W.heap.size := (Array.getElem?_eq_some_iff.1 h1).1
    refine ⟨fun q hq => ?_, ?_, _, rfl⟩
    · rcases List.mem_cons.1 hq with rfl | hq
      · exact hml
      · have := h4' q hq
        omega
    · simp only [ptrN]
      omega

set_option maxHeartbeats 1600000 in
theorem bodyCheck_of (F : Ps) (ih : ∀ i sn b e, F.get i = some (sn, b, e) → BcP b ∧ BcP e) : BcP F := by
  intro d v w0 hform hwf hsm hlen hr W L p hBW hch
  obtain ⟨ad, cap, rfl, hc, hm, hx⟩ := hr
  unfold maxLen at hm
  have HX := hide hx
  have IH := hide ih
  have HF := hide hform
  have HM := hide hsm
  have HW := hide hwf
  have HCH := hide hch
  obtain ⟨hq1, hq2, o, rfl⟩ := ch_low hch
  have HQ1 := hide hq1
  have HQ2 := hide hq2
  clear hx ih hform hsm hwf hch hq1 hq2
  have hmm := @run_makeMap Tryz.prog
  go_enter Tryz.func45, Tryz.ntmps45
  go_wp2_with fail
  have HC0 : Hid (ChAt ((W.alloc (.map #[] 0)).alloc (.cells #[.map (some W.heap.size), .pointer o] 83)) ((W.heap.size + 1, W.heap.size, 0, []) :: L) (.pointer (some ⟨W.heap.size + 1, 0, none⟩))) := by
    have hb1 : Below W.heap.size W ((W.alloc (.map #[] 0)).alloc (.cells #[.map (some W.heap.size), .pointer o] 83)) := ((Below.refl _ _).alloc (Nat.le_refl _) _).alloc (by simp) _
    refine hide ⟨rfl, .pointer o, ⟨by rw [heap_alloc_at, if_pos (by simp)], ⟨.map [], (World.ownsMap_made W Tryz.prog 9 (plainElem Tryz.prog 3)).alloc _, fun x => rfl⟩, fun p hp => by simp at hp, by have := HQ2.out; omega, HQ1.out⟩, HCH.out.later hb1⟩
  have HB0 : Hid (Below W.heap.size W ((W.alloc (.map #[] 0)).alloc (.cells #[.map (some W.heap.size), .pointer o] 83))) := ((Below.refl _ _).alloc (Nat.le_refl _) _).alloc (by simp) _
  clear hmm
  go_loopw [15] (fun iv wr => ∃ i : Nat, i ≤ F.len ∧ iv = .int .i64 i ∧ Hid (∃ E1, ChAt wr ((W.heap.size + 1, W.heap.size, i, E1) :: L) (.pointer (some ⟨W.heap.size + 1, 0, none⟩)) ∧ flat ((W.heap.size + 1, W.heap.size, i, E1) :: L) = Pl.extTo F i (flat L)) ∧ Hid (Pl.chkTo F i (flat L) = 0) ∧ Hid (Below W.heap.size W wr)) (fun iv _ => F.len - (intOf iv).toNat)
  case atStart => exact ⟨0, by omega, rfl, hide ⟨[], HC0.out, by rw [Pl.extTo_zero]; rfl⟩, hide (Pl.chkTo_zero _ _), HB0⟩
  case round =>
    obtain ⟨i, hi, rfl, HR, HZ, hB⟩ := hrel
    have HBR : Hid (Below w0.heap.size w0 wr) := hBW.trans (hB.out.mono hBW.size)
    by_cases hlt : i < F.len
    · obtain ⟨g1, off, rfl, _, hg1, hfo⟩ := HX.out (by omega)
      obtain ⟨sn, b, e, hget⟩ := F.get_some i hlt
      obtain ⟨ve, vb, vl, hst⟩ := hfo.get hget
      have hst' := hst.later HBR.out hg1
      obtain ⟨_, ⟨_, p8⟩, ⟨_, p9⟩, ⟨_, p10⟩⟩ := hst
      obtain ⟨⟨d0, d1, d2, d3, d4, d5, d6, d7⟩, ⟨d8, _⟩, ⟨d9, _⟩, ⟨d10, _⟩⟩ := hst'
      obtain ⟨s1, s2, s3⟩ := HM.out.get hget
      obtain ⟨x1, x2, x3⟩ := HW.out.get hget
      obtain ⟨E1, hch1, hfl1⟩ := HR.out
      have hq : Hid (∀ W', Below wr.heap.size wr W' → Calls Tryz.prog 66 #[snV sn ve vb vl, .pointer (some ⟨W.heap.size + 1, 0, none⟩)] W' (ScQ sn b e (W.heap.size + 1) W.heap.size i E1 L W')) := fun W' hW => stepCheck_of sn b e d (form_get HF.out hget) (IH.out i sn b e hget).1 (IH.out i sn b e hget).2 s1 s2 s3 x1 x2 x3 ve vb vl w0 W' _ _ i E1 L p8 p9 p10 (HBR.out.trans (hW.mono HBR.out.size)) hBW.size (by omega) (hch1.later hW)
      have HC := hide (Pl.chkTo_succ F i (flat L) sn b e hget)
      have HE := hide (Pl.extTo_succ F i (flat L) sn b e hget)
      have HFL := hide hfl1
      obtain ⟨_, _, rfl, _, _, _⟩ := p8
      obtain ⟨_, _, rfl, _, _, _⟩ := p9
      obtain ⟨_, _, rfl, _, _, _⟩ := p10
      clear hfo hget s1 s2 s3 x1 x2 x3 hch1 hfl1 HR
      have hii : (i : Int) < (F.len : Int) := by omega
      go_wp2_with fail
      refine (hq.out _ (by first | exact Below.refl _ _ | exact (Below.refl _ _).alloc (Nat.le_refl _) _)).mono ?_
      rintro e' w4 ⟨rfl, hg4, hc4⟩
      rw [HFL.out] at hc4 ⊢
      have HB4 : Hid (Below W.heap.size W w4) := by
        first
          | exact hB.out.grown hg4 hB.out.size (fun j e => by cases e; exact Nat.le_refl _)
          | exact (hB.out.alloc hB.out.size _).grown hg4 (by have := hB.out.size; simp; omega) (fun j e => by cases e; exact Nat.le_refl _)
      have HC4 := hide hc4
      clear hq d0 d1 d2 d3 d4 d5 d6 d7 d8 d9 d10 hg4 hc4
      by_cases hz : Pl.chkS sn b e (Pl.extTo F i (flat L)) = 0
      · have hzb : (Pl.chkS sn b e (Pl.extTo F i (flat L)) != 0) = false := by simp [hz]
        have HR4 : Hid (∃ E1, ChAt w4 ((W.heap.size + 1, W.heap.size, i + 1, E1) :: L) (.pointer (some ⟨W.heap.size + 1, 0, none⟩)) ∧ flat ((W.heap.size + 1, W.heap.size, i + 1, E1) :: L) = Pl.extTo F (i + 1) (flat L)) := by
          obtain ⟨E2, h1, h2⟩ := HC4.out hz
          exact hide ⟨E2, h1, by rw [h2, HE.out]⟩
        have HZ4 : Hid (Pl.chkTo F (i + 1) (flat L) = 0) := by
          show _ = _
          rw [HC.out, HZ.out, hz]
          rfl
        clear hz HC4
        go_wp2
        go_roundw
        case rel => exact ⟨i + 1, by omega, by go_num, HR4, HZ4, HB4⟩
        case measure => simp [intOf]; omega
      · have hzb : (Pl.chkS sn b e (Pl.extTo F i (flat L)) != 0) = true := by simp [hz]
        have HFIN : Hid (Pl.chkF F (flat L) = Pl.chkS sn b e (Pl.extTo F i (flat L))) := by
          show _ = _
          have h1 : Pl.chkTo F (i + 1) (flat L) = Pl.chkS sn b e (Pl.extTo F i (flat L)) := by
            rw [HC.out, HZ.out, Pl.orr_right]
          rw [Pl.chkTo_stop F (i + 1) (flat L) (by rw [h1]; exact hz), h1]
        clear hz HC4
        go_wp2
        go_ret
        exact ⟨by rw [HFIN.out]; rfl, HB4.out⟩
    · have hie : i = F.len := by omega
      have HFIN : Hid (Pl.chkF F (flat L) = 0) := by
        show _ = _
        rw [← Pl.chkTo_all, ← hie]
        exact HZ.out
      go_wp2
      go_ret
      exact ⟨by rw [HFIN.out]; rfl, hB.out⟩
theorem bodyCheck_fuel : ∀ (n : Nat) (F : Ps), F.nodes ≤ n → BcP F
  | 0, F, h => bodyCheck_of F fun i sn b e hk => by have := F.get_nodes i sn b e hk; omega
  | n + 1, F, h => bodyCheck_of F fun i sn b e hk => ⟨bodyCheck_fuel n b (by have := F.get_nodes i sn b e hk; omega), bodyCheck_fuel n e (by have := F.get_nodes i sn b e hk; omega)⟩
theorem bodyCheck_any (F : Ps) : BcP F := bodyCheck_fuel F.nodes F (Nat.le_refl _)
end Go.Proofs.YtnikomgdcddchaaGreat

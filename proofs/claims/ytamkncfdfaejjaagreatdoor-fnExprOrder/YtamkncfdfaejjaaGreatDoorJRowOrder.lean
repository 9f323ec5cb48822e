/- Joined: Code PlOrd LawOrder RowFnExprOrder. -/
import Derived.Test.YtamkncfdfaejjaaGreatDoorJDw
import Derived.ProofKit
import Derived.OpenShut
import Derived.Test.YtamkncfdfaejjaaGreatDoorJEvS
import Derived.Test.YtamkncfdfaejjaaGreatDoorJLw
import Derived.Test.YtamkncfdfaejjaaGreatDoorRows
import Derived.Test.YtamkncfdfaejjaaGreatDoorTie
import Derived.Test.YtamkncfdfaejjaaGreatDoorCards
import Derived.ChangeOld
import Derived.WalkKit
import Derived.ShutString
import Derived.Below
import Derived.Lib.SmallJoins
import Derived.LaidMore
import Derived.LaidHandle
import Derived.Stop.Joined
import Derived.SevenTiedAt
/- A code that came in, read as bytes. -/
namespace Go.Proofs.YtamkncfdfaejjaaGreatDoor
open Go.ChangeShapes Go.WideShapes Go.ChangeAt Go.RowKit
theorem code_nil (W : World) : CodeOk W.heap.size W (.slice none 0 0) 0 := ⟨none, 0, rfl, Nat.le_refl _, by unfold maxLen; omega, fun h => by omega⟩
theorem code_row {W : World} {x : Addr} {len cap : Nat} {zs : List Int} (hl : len ≤ cap) (hm : cap ≤ maxLen) (hz : zs.length = cap)
    (hcell : ∀ i, i < zs.length → W.cell? (x.add i) = some (.int .u8 (zs.getD i 0))) (hwz : ∀ n ∈ zs, (Lit.int .u8 n).wf = true) : CodeOk W.heap.size W (.slice (some x) len cap) len := by
  refine ⟨some x, cap, rfl, hl, hm, fun h0 => ?_⟩
  obtain ⟨b, off, rfl, hc⟩ := ints_at hcell (by omega)
  have hlt : b < W.heap.size := World.block_lt_of_cell? W ⟨b, off, none⟩ (by have := hc 0 (by omega); simpa using this)
  refine ⟨b, off, rfl, hlt, fun i hi => ⟨_, hc i (by omega), ?_⟩⟩
  have hmem : zs.getD i 0 ∈ zs := by
    have : i < zs.length := by omega
    rw [List.getD_eq_getElem?_getD, List.getElem?_eq_getElem this, Option.getD_some]; exact List.getElem_mem this
  have := hwz _ hmem
  simp [Lit.wf, IntKind.min, IntKind.max, IntKind.signed, IntKind.bits] at this ⊢
  exact this
end Go.Proofs.YtamkncfdfaejjaaGreatDoor

/- Plain: names in another order are the same. -/
namespace Go.Proofs.YtamkncfdfaejjaaGreatDoor
open Go.RowKit
set_option linter.unusedVariables false
namespace Pl
def nameL (p : Pr) : List UInt8 := p.nm.data.toList
/-- all are ok and no name is there twice, told without places -/
theorem varsB_iff (l : List Pr) : varsB l = true ↔ (∀ p ∈ l, (nameB p.nm && okA p.v) = true) ∧ l.Pairwise (fun a b => ¬ nameL a = nameL b) := by
  constructor
  · intro h
    constructor
    · intro p hp
      obtain ⟨i, hi⟩ := List.mem_iff_getElem?.1 hp
      obtain ⟨h1, h2, _⟩ := varsB_get h hi
      rw [h1, h2]
      rfl
    · rw [List.pairwise_iff_getElem]
      intro i j hi hj hij e
      obtain ⟨_, _, h3⟩ := varsB_get h (i := j) (p := l[j]) (List.getElem?_eq_getElem hj)
      rw [List.any_eq_false] at h3
      refine h3 l[i] ?_ ?_
      · rw [List.mem_take_iff_getElem]
        exact ⟨i, by omega, rfl⟩
      · have e2 : l[i].nm.data.toList = l[j].nm.data.toList := e
        simp [e2]
  · rintro ⟨h1, h2⟩
    refine varsB_all fun i p hp => ?_
    have hi := (List.getElem?_eq_some_iff.1 hp).1
    unfold varB
    rw [h1 p (List.mem_of_getElem? hp), Bool.true_and, Bool.not_eq_true']
    rw [List.any_eq_false]
    intro q hq he
    rw [List.mem_take_iff_getElem] at hq
    obtain ⟨j, hj, rfl⟩ := hq
    rw [List.pairwise_iff_getElem] at h2
    have hp' : l[i] = p := (List.getElem?_eq_some_iff.1 hp).2
    refine h2 j i (by omega) hi (by omega) ?_
    rw [hp']
    exact by simpa [nameL] using he
theorem prAt_of {l : List Pr} (h : l.Pairwise (fun a b => ¬ nameL a = nameL b)) {p : Pr} (hp : p ∈ l) : prAt l (nameL p) = some p := by
  induction l with
  | nil => cases hp
  | cons q l ih =>
    rw [List.pairwise_cons] at h
    unfold prAt
    rw [List.find?_cons]
    rcases List.mem_cons.1 hp with rfl | hp'
    · simp [nameL]
    · have hne : ¬ q.nm.data.toList = nameL p := h.1 p hp'
      have : (q.nm.data.toList == nameL p) = false := by simpa using hne
      rw [this]
      exact ih h.2 hp'
theorem prAt_none {l : List Pr} {x : List UInt8} (h : ∀ p ∈ l, ¬ nameL p = x) : prAt l x = none := by
  unfold prAt
  rw [List.find?_eq_none]
  intro p hp
  have := h p hp
  simpa [nameL] using this
/-- rows of the same pairs tell the same, if no name is there twice -/
theorem look_same {l m : List Pr} (hm : ∀ p, p ∈ l ↔ p ∈ m) (h : l.Pairwise (fun a b => ¬ nameL a = nameL b)) (h2 : m.Pairwise (fun a b => ¬ nameL a = nameL b)) : lookP l = lookP m := by
  funext x
  unfold lookP
  by_cases hx : ∃ p ∈ l, nameL p = x
  · obtain ⟨p, hp, rfl⟩ := hx
    rw [prAt_of h hp, prAt_of h2 ((hm p).1 hp)]
  · rw [prAt_none (fun p hp e => hx ⟨p, hp, e⟩), prAt_none (fun p hp e => hx ⟨p, (hm p).2 hp, e⟩)]
theorem varsB_rev (l : List Pr) : varsB l.reverse = varsB l := by
  rw [Bool.eq_iff_iff, varsB_iff, varsB_iff, List.pairwise_reverse]
  constructor
  · rintro ⟨h1, h2⟩
    exact ⟨fun p hp => h1 p (by simpa using hp), h2.imp fun h e => h e.symm⟩
  · rintro ⟨h1, h2⟩
    exact ⟨fun p hp => h1 p (by simpa using hp), h2.imp fun h e => h e.symm⟩
theorem evalO_rev (l : List Pr) (nd : Nd) (k : Fo) : evalO l.reverse nd k = evalO l nd k := by
  unfold evalO
  rw [varsB_rev]
  cases hv : varsB l
  · rw [Bool.and_false]; rfl
  · have h1 := ((varsB_iff l).1 hv).2
    have h2 := ((varsB_iff l.reverse).1 (by rw [varsB_rev]; exact hv)).2
    rw [look_same (l := l.reverse) (m := l) (fun p => by simp) h2 h1]
end Pl
end Go.Proofs.YtamkncfdfaejjaaGreatDoor

/- The law that it is the same in whatever order names stand, walked. -/
namespace Go.Proofs.YtamkncfdfaejjaaGreatDoor
open Go.RowKit
set_option linter.unusedVariables false
set_option linter.unusedSimpArgs false
theorem rev_take {α : Type} {l : List α} {q : Nat} {p : α} (h : l[q]? = some p) : l.reverse.take (l.length - q) = l.reverse.take (l.length - (q + 1)) ++ [p] := by
  have hq := (List.getElem?_eq_some_iff.1 h).1
  have hp := (List.getElem?_eq_some_iff.1 h).2
  have e : l.length - q = l.length - (q + 1) + 1 := by omega
  rw [e, List.take_add_one, List.getElem?_reverse (by omega)]
  rw [show l.length - 1 - (l.length - (q + 1)) = q by omega, h]
  rfl
set_option maxRecDepth 100000 in
set_option maxHeartbeats 3200000 in
theorem lawFnExprOrder (len : Nat) (c : Value) (W : World) (hc : CodeOk W.heap.size W c len) (hE : ErrT W) :
    Calls Tryz.prog 5 #[c] W fun e W' => e = .returned (.bool true) ∧ Below W.heap.size W W' := by
  by_cases hbig : 1048576 < len
  · obtain ⟨ad, cap, rfl, hlc, hcm, _⟩ := hc
    unfold maxLen at hcm
    have hb1 : (1048576 : Int) < (len : Int) := by omega
    go_enter Tryz.func5, Tryz.ntmps5
    go_wp2
    go_ret
    exact ⟨rfl, Below.refl _ _⟩
  have hd := hide (drawExprEval_any len c W hc (by omega))
  obtain ⟨ad, cap, rfl, hlc, hcm, _⟩ := hc
  unfold maxLen at hcm
  have hb1 : ¬ ((1048576 : Int) < (len : Int)) := by omega
  have HE := hide hE
  clear hE
  go_enter Tryz.func5, Tryz.ntmps5
  go_wp2_with fail
  refine hd.out.mono ?_
  rintro e W1 ⟨⟨nd, k, v, l, vl, ht, hp, _, rfl, hr, hrl⟩, hB⟩
  have HT := hide ht
  have HP := hide hp
  have HS1 := hide (EvSt.start (W := W) (nd := nd) hr hrl (HE.out.later hB) hB)
  obtain ⟨av, cv, rfl, _, _, _⟩ := hr
  obtain ⟨al, cl, rfl, _, _, _⟩ := hrl
  clear ht hp hB hd HE
  obtain ⟨x, bb, hz⟩ := evR_two (Pl.evalO l nd k)
  have HZ := hide hz
  clear hz
  go_wp2_with fail
  refine (impl_tell HT.out HP.out HS1.out.row HS1.out.prs HS1.out.err HZ.out).mono ?_
  rintro e W2 ⟨rfl, hB2⟩
  have HSa := hide (HS1.out.later hB2)
  have HS2 := hide (HSa.out.later (one_up W2 (.cells #[.int .i64 x.k, .int .i64 x.n, .string x.t] 30)))
  have HV2 : Hid (VBox W2.heap.size x (W2.alloc (.cells #[.int .i64 x.k, .int .i64 x.n, .string x.t] 30))) := VBox.start x W2
  clear hB2 HS1
  obtain ⟨c0, c1, c2, c3, c4, c5⟩ := cells6 HSa.out.box
  have hbx := blk_lt HSa.out.box
  go_wp2_with fail
  refine (spec_tell HT.out HP.out HS2.out.row HS2.out.prs HZ.out).mono ?_
  rintro e W3 ⟨rfl, hB3⟩
  have HS3 := hide (HS2.out.later hB3)
  have HV3 := hide (HV2.out.later hB3)
  clear hB3 HS2 HV2 c0 c1 c2 c3 c4 c5 hbx HSa
  obtain ⟨h0, v0, v1, v2⟩ := HV3.out.cells
  have hbb : (bb != bb) = false := by cases bb <;> rfl
  have HS4 := hide (HS3.out.later (one_up _ (.cells #[.int .i64 x.k, .int .i64 x.n, .string x.t] 30)))
  have HV4 := hide (HV3.out.later (one_up _ (.cells #[.int .i64 x.k, .int .i64 x.n, .string x.t] 30)))
  have HY : Hid ((W3.alloc (.cells #[.int .i64 x.k, .int .i64 x.n, .string x.t] 30)).heap.size = W3.heap.size + 1) := by show _ = _; simp
  have HPR : Hid (∀ p ∈ l.reverse, PrD p) := fun p hp => HP.out p (by simpa using hp)
  have HZR : Hid (evR (Pl.evalO l.reverse nd k) = .tuple #[.agg #[.int .i64 x.k, .int .i64 x.n, .string x.t], .bool bb]) := by
    show _ = _
    rw [Pl.evalO_rev]
    exact HZ.out
  have hbx0 := blk_lt HS3.out.box
  have hll : l.length ≤ 4 := by assumption
  go_wp2_with fail
  go_loopw [9, 10] (fun ov iv wr => ∃ m : Nat, m ≤ l.length ∧ iv = .int .i64 ((m : Int) - 1) ∧ Hid (Below (W3.heap.size + 1) (W3.alloc (.cells #[.int .i64 x.k, .int .i64 x.n, .string x.t] 30)) wr) ∧ Hid (wr.ownsRow (W3.heap.size + 1) 51 4 ov (l.reverse.take (l.length - m)).length ((l.reverse.take (l.length - m)).flatMap prL))) (fun _ iv _ => (intOf iv + 1).toNat)
  case atStart =>
    refine ⟨l.length, Nat.le_refl _, rfl, ?_, ?_⟩
    · exact (Below.refl _ _).alloc (by rw [HY.out]; exact Nat.le_refl _) _
    · rw [Nat.sub_self]
      have h := heap_alloc_new (W3.alloc (.cells #[.int .i64 x.k, .int .i64 x.n, .string x.t] 30)) (.cells #[] 51)
      rw [HY.out] at h
      exact ⟨rfl, .inr ⟨W3.heap.size + 1, 0, #[], rfl, Nat.le_refl _, h, Nat.le_refl _, by unfold maxLen; omega, rfl, rfl⟩⟩
  case round =>
    obtain ⟨m, hm, rfl, HB5, HO5⟩ := hrel
    have HS5 : Hid (EvSt W W1.heap.size nd k (.slice av k.len cv) l (.slice al l.length cl) wr) := HS4.out.later (by rw [HY.out]; exact HB5.out)
    have HV5 : Hid (VBox W2.heap.size x wr) := HV4.out.later (by rw [HY.out]; exact HB5.out)
    have h5s : W3.heap.size + 1 ≤ wr.heap.size := by have := HB5.out.size; rw [HY.out] at this; exact this
    obtain ⟨ar, cr, har⟩ := ownsRow_form HO5.out
    subst har
    cases m with
    | zero =>
      obtain ⟨c0, c1, c2, c3, c4, c5⟩ := cells6 HS5.out.box
      have hbx := blk_lt HS5.out.box
      have hrow : Hid (PrRow wr l.reverse (.slice ar (l.reverse.take (l.length - 0)).length cr)) := by
        have h := HO5.out
        rw [Nat.sub_zero, show l.reverse.take l.length = l.reverse from List.take_of_length_le (by simp)] at h
        have h2 := pr_of_own h
        rwa [Nat.sub_zero, show l.reverse.take l.length = l.reverse from List.take_of_length_le (by simp)]
      generalize (l.reverse.take (l.length - 0)).length = nr at *
      clear v0 v1 v2 h0
      go_wp2_with fail
      refine (impl_tell HT.out HPR.out HS5.out.row hrow.out HS5.out.err HZR.out).mono ?_
      rintro e W6 ⟨rfl, hB6⟩
      have HS6 := hide (HS5.out.later hB6)
      obtain ⟨h0, v0, v1, v2⟩ := (HV5.out.later hB6).cells
      clear hB6 HS5 HV5 c0 c1 c2 c3 c4 c5 hbx
      have hbt : (bb == bb) = true := by cases bb <;> rfl
      go_wp2
      go_ret
      exact ⟨rfl, HS6.out.low.alloc HS6.out.low.size _⟩
    | succ q =>
      have hq1 : (((q + 1 : Nat) : Int) - 1) = (q : Int) := by omega
      rw [hq1]
      obtain ⟨p, hp⟩ : ∃ p, l[q]? = some p := ⟨_, List.getElem?_eq_getElem (by omega)⟩
      have HT1 := hide (rev_take hp)
      obtain ⟨ad1, cap1, hv1, _, hcm1, hx1⟩ := HS5.out.prs
      injection hv1 with e1 e2 e3
      subst e1 e3
      obtain ⟨g, off, rfl, hg, hs⟩ := hx1 (by omega)
      obtain ⟨d0, d1, d2, d3⟩ := hs q p hp
      have hqi : (q : Int) < (l.length : Int) := by omega
      have hlr : (l.reverse.take (l.length - (q + 1))).length ≤ 4 := by simp; omega
      clear hs hx1 hp
      have HOW : Hid ((wr.alloc (.cells #[.string p.nm, .int .i64 p.v.k, .int .i64 p.v.n, .string p.v.t] 51)).ownsRow (W3.heap.size + 1) 51 4 (.slice ar (l.reverse.take (l.length - (q + 1))).length cr) (l.reverse.take (l.length - (q + 1))).length ((l.reverse.take (l.length - (q + 1))).flatMap prL)) := ownsRow_later HO5.out (one_up _ _)
      have HUU : Hid (∀ j u, (prL p)[j]? = some u → (wr.alloc (.cells #[.string p.nm, .int .i64 p.v.k, .int .i64 p.v.n, .string p.v.t] 51)).cell? ((⟨wr.heap.size, 0, none⟩ : Addr).add j) = some u) := cells_one wr (prL p) 51
      have HBS : Hid (W3.heap.size + 1 ≤ (wr.alloc (.cells #[.string p.nm, .int .i64 p.v.k, .int .i64 p.v.n, .string p.v.t] 51)).heap.size) := by
        show _ ≤ _
        simp; omega
      have HRE : Hid (∀ w2, (wr.alloc (.cells #[.string p.nm, .int .i64 p.v.k, .int .i64 p.v.n, .string p.v.t] 51)).grownBy w2 (Value.slice ar (l.reverse.take (l.length - (q + 1))).length cr).ownBlock → Below (W3.heap.size + 1) (W3.alloc (.cells #[.int .i64 x.k, .int .i64 x.n, .string x.t] 30)) w2) := fun w2 hgr => (HB5.out.alloc h5s _).grown hgr HBS.out (fun k hk => by have := (HO5.out.lt k hk).1; omega)
      have HAN : Hid ((l.reverse.take (l.length - (q + 1))).length + 1 ≤ 1048576) := by show _ ≤ _; omega
      generalize hA : l.reverse.take (l.length - (q + 1)) = A at *
      clear hA HO5 HS5 HV5 v0 v1 v2 h0
      go_wp2_with (first
        | (with_reducible show wpList _ _ _ (Oper.mk _ (Op.call (Call.mk (.builtin .append) _ _)) _ _ _ _ :: _) _ _; refine wp_app_pr rfl (.tmp 49) (.tmp 54) rfl rfl (W3.heap.size + 1) A.length (A.flatMap prL) p (.slice ar A.length cr) ⟨wr.heap.size, 0, none⟩ 1 rfl rfl HOW.out HUU.out HAN.out HBS.out ?_; intro v' w2 hv2 hg2 hb2))
      exact ⟨⟨q, by omega, rfl, HRE.out w2 hg2.out, hide (by rw [HT1.out]; simpa [List.flatMap_append] using hv2.out)⟩, by simp [intOf]⟩
end Go.Proofs.YtamkncfdfaejjaaGreatDoor

/- Of every code: what is drawn is the same with its names the other way round, told as the specification tells it; package errors' own variable standing as its text lays it (the card ties that); no other condition.
   The row's step and the card of FnExprOrder, out of its walk. -/
namespace Go.Proofs.YtamkncfdfaejjaaGreatDoor.fnExprOrder
open Go.ChangeShapes Go.WideShapes Go.ChangeAt Go.RowKit Go.Joins
open Go.ChangeMaps (open_string shut_string)
set_option linter.unusedVariables false

theorem own : ownKnob Tryz.prog.godebug = none := by kernel_rfl
theorem laidOut : laidOutB Tryz.prog = true := by kernel_rfl
theorem et : Tryz.prog.globalNamed "errors.errorType" = some 0 := by kernel_rfl
theorem rt : (Tryz.prog.cutTypes.find? (·.1 == "internal/reflectlite.rtype")).map (·.2) = some 157 := by kernel_rfl
theorem oneRow : ((List.range Tryz.prog.types.size).filter fun t => Tryz.prog.rowNamed t [101, 114, 114, 111, 114]) = [89] := by kernel_rfl
/-- what the listed variable gives the walk -/
theorem handle_of_laid {W : World} (h : laidMetH Tryz.prog Rows.fnExprOrderRow.laid W) : ErrT W := by
  have h' : laidMet Tryz.prog [] W ∧ handlesMet Tryz.prog Rows.fnExprOrderRow.laid W := h
  obtain ⟨name, u, ty, e1, e2, e3, e4, e5⟩ := h'.2 _ (List.mem_singleton.2 rfl)
  have en : name = [101, 114, 114, 111, 114] := (Option.some.inj e1).symm
  subst en
  obtain rfl := Option.some.inj (rt.symm.trans e2)
  have hm : ty ∈ (List.range Tryz.prog.types.size).filter fun t => Tryz.prog.rowNamed t [101, 114, 114, 111, 114] := List.mem_filter.2 ⟨List.mem_range.2 e3, e4⟩
  rw [oneRow] at hm
  obtain rfl := List.mem_singleton.1 hm
  have hh : typeHandle Tryz.prog 89 = hdl 89 := by kernel_rfl
  rw [hh] at e5
  show W.cell? ⟨0, 0, none⟩ = _
  simpa using World.var?_cell et e5 0
/-- a world that meets the condition -/
noncomputable def laidWorld (os : Os) : World :=
  let w0 := World.holding Tryz.prog os ⟨#[], #[], []⟩
  { w0 with heap := w0.heap.modify 0 fun
      | .cells _ t frozen => .cells #[rtV 89] t frozen
      | o => o }
theorem laidWorld_met (os : Os) (args : Array Value) : laidMetH Tryz.prog Rows.fnExprOrderRow.laid ((laidWorld os).forCall (fun _ _ => 0) ⟨#[], args, []⟩).memory :=
  laidMetH_of_parts (laidMet_nil _ _) (by kernel_rfl)

set_option maxRecDepth 100000 in
theorem lifted (os : Os) (started : os.Started) (H : Type) (enc : TypeId × Value → H) :
    ReturnsInHanded {} Tryz.checked os 5 .any (fun w args => (Rows.fnExprOrderSpec.pre enc Tryz.prog Tryz.f5 [] false w args ∧ laidMetH Tryz.prog Rows.fnExprOrderRow.laid w) ∧ sizedMet enc Tryz.prog Tryz.f5 (OpenSpec.ofChange Rows.fnExprOrderSpec) false w args)
      (Rows.fnExprOrderSpec.post enc Tryz.prog Tryz.f5 false true false false) := by
  refine returnsInHanded_of_change_and (C := Tryz.checked) (X := fun w _ => laidMetH Tryz.prog Rows.fnExprOrderRow.laid w) (fun _ _ _ hh h => h.of_heap hh) own started (by kernel_rfl) Tryz.func5
    (ChangeSpec.witness_at (enc := enc) (C := Tryz.checked) (os := os) (X := fun w _ => laidMetH Tryz.prog Rows.fnExprOrderRow.laid w) false (laidWorld os) #[.slice none 0 0] 8 rfl (by kernel_rfl) (by kernel_rfl) (by kernel_rfl) (by kernel_rfl) (by kernel_rfl) (laidWorld_met os _)) ?_
  intro W base args ds gs before hval0 hW _ _ hL _
  have hval : ∀ (j : Nat) t v, Tryz.f5.params[j]? = some t → args[j]? = some v → Value.okWide Tryz.prog W .any base t v := hval0
  have hW' := hW
  obtain ⟨p, q, hA0, hV, rfl, hfz, hnd⟩ := hW
  have hA : DataW.TrodAll enc Tryz.prog W 0 (fun _ => true) true Tryz.f5.params.toList args.toList ds p := hA0
  rw [Tryz.params5] at hA hval
  obtain ⟨v0, vs0, d0, ds0, p0, q0, hargs, rfl, rfl, h0, r0⟩ := trodAll_cons hA
  obtain ⟨rfl, rfl, rfl⟩ := trodAll_nil r0
  obtain rfl : args = #[v0] := by cases args; simp_all
  obtain ⟨rfl, rfl⟩ := trodVars_none hV
  obtain ⟨a0, len0, cap0, rfl⟩ := okWide_slice Tryz.underlying43 (hval 0 43 v0 rfl rfl)
  have k0 := h0
  have lt0 : ∀ x ∈ p0, x.block < W.heap.size := by obtain ⟨m, hm⟩ := k0; exact DataW.trod_lt m _ _ _ hm
  have w0 : CodeOk W.heap.size W (.slice a0 len0 cap0) len0 := by
    obtain ⟨fuel, hf⟩ := h0
    rcases open_ints Tryz.underlying43 Tryz.underlying5 (by kernel_rfl) hf with ⟨hcs, _⟩ | ⟨x, l, c, zs, hcs, _, hl, hm, hz, _, hcell, hwz⟩
    · simp [Value.cells] at hcs
      obtain ⟨rfl, rfl, rfl⟩ := hcs
      exact code_nil W
    · simp [Value.cells] at hcs
      obtain ⟨rfl, rfl, rfl⟩ := hcs
      exact code_row hl hm (by simpa using hz) hcell hwz
  have hE := handle_of_laid hL
  clear hA0 hval0
  refine (lawFnExprOrder len0 _ W w0 hE).mono fun e W' ⟨he, hg⟩ => ?_
  subst he
  exact ⟨_, rfl, _, _, _, [], _, [], hW', trodAll_mk1 (shut_bool Tryz.underlying4 _), (trodAll_cons_mk (Below.trod laidOut (by kernel_rfl) (of_decide_eq_true (by kernel_rfl)) k0 hg lt0) trodAll_mk0), rfl, hg.frame _, fun h => by cases h⟩

theorem over : Rows.FnExprOrderSaid :=
  OpenClaim.holds_of_wide 5 Tryz.f5 rfl rfl rfl rfl rfl rfl rfl ⟨rfl, rfl, rfl, rfl, rfl⟩ rfl rfl rfl rfl rfl (by kernel_rfl) Tryz.func5 (by kernel_rfl)
    (of_decide_eq_true (by kernel_rfl)) (by unfold Func.isWrapper; first | (rw [if_pos (by decide +kernel)]; kernel_rfl) | (rw [if_neg (by decide +kernel)]; exact ⟨rfl, rfl⟩))
    (fun os started H enc _ => lifted os started H enc)

theorem carded : Rows.FnExprOrderCardSaid :=
  Claim7.holds_tied_plain_at .later [] [.handle] true (true, "0d1ac6e27b6b507ab646b9ce43aa3125ce8f65025fe6a6322b6fe9da882cb2cc") true
    over (fun _ h => by cases h) (by kernel_rfl) (fun _ h => by cases h) fnExprOrder_row_tie rfl ⟨rfl, rfl⟩ (by kernel_rfl) rfl
    (fun f fn hf hfn => by
      obtain rfl : f = 5 := Option.some.inj ((show Tryz.prog.funcNamed "loop.example/backstitch/laws.FnExprOrder" = some 5 by kernel_rfl).symm.trans hf) |>.symm
      obtain rfl : fn = Tryz.f5 := (Option.some.inj (Tryz.func5.symm.trans hfn)).symm
      exact ⟨by kernel_rfl, fun j t ht => by
        rw [Tryz.params5] at ht
        have hm : t ∈ [43] := by simpa using Array.mem_of_getElem? ht
        have hall : ([43].all fun u => !Tryz.prog.wantsStandIn u) = true := by kernel_rfl
        exact (show Tryz.prog.wantsStandIn t = false by simpa using List.all_eq_true.1 hall t hm)⟩)
    (by kernel_rfl)
end Go.Proofs.YtamkncfdfaejjaaGreatDoor.fnExprOrder
namespace Go.Proofs.YtamkncfdfaejjaaGreatDoor
theorem fnExprOrder_holds : Rows.FnExprOrderCardSaid := fnExprOrder.carded
end Go.Proofs.YtamkncfdfaejjaaGreatDoor

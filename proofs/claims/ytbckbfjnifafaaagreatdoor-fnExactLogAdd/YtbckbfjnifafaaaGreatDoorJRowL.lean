/- Joined: OpenV OpenA RowLDl. -/
import Derived.Test.YtbckbfjnifafaaaGreatDoorLeafB
import Derived.ChangeArms
import Derived.DataReads
import Derived.Test.YtbckbfjnifafaaaGreatDoorRows
import Derived.Test.YtbckbfjnifafaaaGreatDoorTie
import Derived.Test.YtbckbfjnifafaaaGreatDoorCards
import Derived.Test.YtbckbfjnifafaaaGreatDoorJLaw
import Derived.Test.YtbckbfjnifafaaaGreatDoorJLs
import Derived.WalkKit
import Derived.ProofKit
import Derived.OpenShut
import Derived.ShutString
import Derived.Below
import Derived.Lib.SmallJoins
import Derived.LaidMore
import Derived.Leaving
import Derived.Lay
import Derived.Conc.Holds
import Derived.Stop.Joined
import Derived.SevenTiedAt
/- A datum of a value, opened. -/
namespace Go.Proofs.YtbckbfjnifafaaaGreatDoor
open Go.RowKit Go.ChangeShapes
set_option linter.unusedVariables false

theorem cut5 {α : Type} (l : List α) (h : l.length = 5) : ∃ a b c d e, l = [a, b, c, d, e] := by
  match l, h with
  | [a, b, c, d, e], _ => exact ⟨a, b, c, d, e, rfl⟩
theorem cut3 {α : Type} (l : List α) (h : l.length = 3) : ∃ a b c, l = [a, b, c] := by
  match l, h with
  | [a, b, c], _ => exact ⟨a, b, c, rfl⟩
theorem cut7 {α : Type} (l : List α) (h : l.length = 7) : ∃ a b c d e f g, l = [a, b, c, d, e, f, g] := by
  match l, h with
  | [a, b, c, d, e, f, g], _ => exact ⟨a, b, c, d, e, f, g, rfl⟩

theorem open_value {H : Type} {enc : TypeId × Value → H} {w : World} {base : Nat} {sp : Nat → Bool} {hd : Bool} (n : Nat) (a1 a2 a3 : Value) (y1 : DataW H × List MemPlace)
    (h1 : DataW.trod enc Tryz.prog w base sp hd n 37 [a1, a2, a3] = some y1) : ∃ (vk vn : Int) (vt : ByteArray), a1 = .int .i64 vk ∧ a2 = .int .i64 vn ∧ a3 = .string vt ∧ vt.size ≤ maxLen := by
  have ci : Tryz.prog.cellsOf 3 = 1 := by kernel_rfl
  have cs1 : Tryz.prog.cellsOf 9 = 1 := by kernel_rfl
  obtain ⟨zs, n', rfl, _, _, hzl, hg⟩ := DataW.trod_struct Tryz.underlying37 h1
  obtain ⟨z0, z1, z2, rfl⟩ := cut3 zs hzl
  have g0 : DataW.trod enc Tryz.prog w base sp hd n' 3 (([a1, a2, a3].drop 0).take (Tryz.prog.cellsOf 3)) = some z0 := hg 0 _ rfl
  have g1 : DataW.trod enc Tryz.prog w base sp hd n' 3 (([a1, a2, a3].drop 1).take (Tryz.prog.cellsOf 3)) = some z1 := hg 1 _ rfl
  have g2 : DataW.trod enc Tryz.prog w base sp hd n' 9 (([a1, a2, a3].drop 2).take (Tryz.prog.cellsOf 9)) = some z2 := hg 2 _ rfl
  rw [ci] at g0 g1
  rw [cs1] at g2
  replace g0 : DataW.trod enc Tryz.prog w base sp hd n' 3 [a1] = some z0 := g0
  replace g1 : DataW.trod enc Tryz.prog w base sp hd n' 3 [a2] = some z1 := g1
  replace g2 : DataW.trod enc Tryz.prog w base sp hd n' 9 [a3] = some z2 := g2
  obtain ⟨vk, f0, _, _⟩ := DataW.trod_int Tryz.underlying3 g0
  obtain ⟨vn, f1, _, _⟩ := DataW.trod_int Tryz.underlying3 g1
  obtain ⟨vt, f2, _, hvt⟩ := DataW.trod_string Tryz.underlying9 g2
  simp only [List.cons.injEq, and_true] at f0 f1 f2
  exact ⟨vk, vn, vt, f0, f1, f2, hvt⟩

end Go.Proofs.YtbckbfjnifafaaaGreatDoor

/- A datum of an act, opened. -/
namespace Go.Proofs.YtbckbfjnifafaaaGreatDoor
open Go.RowKit Go.ChangeShapes
set_option linter.unusedVariables false

theorem cut9 {α : Type} (l : List α) (h : l.length = 9) : ∃ a b c d e f g i j, l = [a, b, c, d, e, f, g, i, j] := by
  match l, h with
  | [a, b, c, d, e, f, g, i, j], _ => exact ⟨a, b, c, d, e, f, g, i, j, rfl⟩
theorem open_act {H : Type} {enc : TypeId × Value → H} {w : World} {base : Nat} {sp : Nat → Bool} {hd : Bool} (fuel : Nat) (cs : List Value) (x : DataW H × List MemPlace)
    (h : DataW.trod enc Tryz.prog w base sp hd fuel 39 cs = some x) : ∃ (k r p : Int) (nm : ByteArray) (o : Bool) (vk vn : Int) (vt : ByteArray) (m : Int), cs = [.int .i64 k, .int .i64 r, .int .i64 p, .string nm, .bool o, .int .i64 vk, .int .i64 vn, .string vt, .int .i64 m] ∧ nm.size ≤ maxLen ∧ vt.size ≤ maxLen := by
  have c9 : Tryz.prog.cellsOf 39 = 9 := by kernel_rfl
  have ci : Tryz.prog.cellsOf 3 = 1 := by kernel_rfl
  have cb : Tryz.prog.cellsOf 4 = 1 := by kernel_rfl
  have cs1 : Tryz.prog.cellsOf 9 = 1 := by kernel_rfl
  have cv : Tryz.prog.cellsOf 37 = 3 := by kernel_rfl
  obtain ⟨xs, n, rfl, _, hlen, hxl, hf⟩ := DataW.trod_struct Tryz.underlying39 h
  rw [c9] at hlen
  obtain ⟨a0, a1, a2, a3, a4, a5, a6, a7, a8, rfl⟩ := cut9 cs hlen
  obtain ⟨y0, y1, y2, y3, y4, y5, y6, rfl⟩ := cut7 xs hxl
  have h0 : DataW.trod enc Tryz.prog w base sp hd n 3 (([a0, a1, a2, a3, a4, a5, a6, a7, a8].drop 0).take (Tryz.prog.cellsOf 3)) = some y0 := hf 0 _ rfl
  have h1 : DataW.trod enc Tryz.prog w base sp hd n 3 (([a0, a1, a2, a3, a4, a5, a6, a7, a8].drop 1).take (Tryz.prog.cellsOf 3)) = some y1 := hf 1 _ rfl
  have h2 : DataW.trod enc Tryz.prog w base sp hd n 3 (([a0, a1, a2, a3, a4, a5, a6, a7, a8].drop 2).take (Tryz.prog.cellsOf 3)) = some y2 := hf 2 _ rfl
  have h3 : DataW.trod enc Tryz.prog w base sp hd n 9 (([a0, a1, a2, a3, a4, a5, a6, a7, a8].drop 3).take (Tryz.prog.cellsOf 9)) = some y3 := hf 3 _ rfl
  have h4 : DataW.trod enc Tryz.prog w base sp hd n 4 (([a0, a1, a2, a3, a4, a5, a6, a7, a8].drop 4).take (Tryz.prog.cellsOf 4)) = some y4 := hf 4 _ rfl
  have h5 : DataW.trod enc Tryz.prog w base sp hd n 37 (([a0, a1, a2, a3, a4, a5, a6, a7, a8].drop 5).take (Tryz.prog.cellsOf 37)) = some y5 := hf 5 _ rfl
  have h6 : DataW.trod enc Tryz.prog w base sp hd n 3 (([a0, a1, a2, a3, a4, a5, a6, a7, a8].drop 8).take (Tryz.prog.cellsOf 3)) = some y6 := hf 6 _ rfl
  rw [ci] at h0 h1 h2 h6
  rw [cs1] at h3
  rw [cb] at h4
  rw [cv] at h5
  replace h0 : DataW.trod enc Tryz.prog w base sp hd n 3 [a0] = some y0 := h0
  replace h1 : DataW.trod enc Tryz.prog w base sp hd n 3 [a1] = some y1 := h1
  replace h2 : DataW.trod enc Tryz.prog w base sp hd n 3 [a2] = some y2 := h2
  replace h3 : DataW.trod enc Tryz.prog w base sp hd n 9 [a3] = some y3 := h3
  replace h4 : DataW.trod enc Tryz.prog w base sp hd n 4 [a4] = some y4 := h4
  replace h5 : DataW.trod enc Tryz.prog w base sp hd n 37 [a5, a6, a7] = some y5 := h5
  replace h6 : DataW.trod enc Tryz.prog w base sp hd n 3 [a8] = some y6 := h6
  obtain ⟨k, e0, _, _⟩ := DataW.trod_int Tryz.underlying3 h0
  obtain ⟨r, e1, _, _⟩ := DataW.trod_int Tryz.underlying3 h1
  obtain ⟨p, e2, _, _⟩ := DataW.trod_int Tryz.underlying3 h2
  obtain ⟨nm, e3, _, hnm⟩ := DataW.trod_string Tryz.underlying9 h3
  obtain ⟨o, e4, _⟩ := DataW.trod_bool Tryz.underlying4 h4
  obtain ⟨vk, vn, vt, rfl, rfl, rfl, hvt⟩ := open_value n _ _ _ _ h5
  obtain ⟨m, e6, _, _⟩ := DataW.trod_int Tryz.underlying3 h6
  simp only [List.cons.injEq, and_true] at e0 e1 e2 e3 e4 e6
  subst e0 e1 e2 e3 e4 e6
  exact ⟨k, r, p, nm, o, vk, vn, vt, m, rfl, hnm, hvt⟩
end Go.Proofs.YtbckbfjnifafaaaGreatDoor

/- At every log and act LogAdd answers as the specification, and writes into no argument; the library's tables, errors and error type standing as their own text lays them (the card ties that); no other condition.
   The row's step and the card of FnExactLogAdd, out of its walk. -/
namespace Go.Proofs.YtbckbfjnifafaaaGreatDoor.fnExactLogAdd
open Go.ChangeShapes Go.WideShapes Go.ChangeAt Go.RowKit Go.Joins
open Go.ChangeMaps (open_string shut_string)
set_option linter.unusedVariables false

theorem own : ownKnob Tryz.prog.godebug = none := by kernel_rfl
theorem laidOut : laidOutB Tryz.prog = true := by kernel_rfl
/-- the variables that the row lists, but for the handle -/
def listed : List (String × DataW Unit) := Rows.fnExactLogAddRow.laid.filter fun x => x.2.handleName?.isNone
/-- a world in which the handle stands -/
noncomputable def held (os : Os) : World := (World.holding Tryz.prog os ⟨#[], #[], []⟩).setCell ⟨8, 0, none⟩ (.iface 365 (.agg #[typeHandle Tryz.prog 151]))
/-- the world that the row begins with: all that it lists stands -/
noncomputable def start (os : Os) : World := (held os).layVars Tryz.prog listed
theorem start_os (os : Os) : (start os).os = os := (World.layVars_os _ _ _).trans rfl
theorem laid_over {P : Program} {w : World} {l : List (String × DataW Unit)} (args : Array Value) (hf : w.layFits P l [] = true) (hi : w.layIfaces P l (w.layVars P l) = true) : laidMet P l ((w.layVars P l).forCall (fun _ _ => 0) ⟨#[], args, []⟩).memory := by
  have h1 : (l.filter fun x => (l.map (·.1)).contains x.1) = l := List.filter_eq_self.2 fun x hx => List.contains_iff_mem.2 (List.mem_map.2 ⟨x, hx, rfl⟩)
  have h2 : (l.filter fun x => !(l.map (·.1)).contains x.1) = [] := by
    rw [List.filter_eq_nil_iff]
    intro x hx
    have := List.contains_iff_mem.2 (List.mem_map.2 ⟨x, hx, rfl⟩ : x.1 ∈ l.map (·.1))
    simp only [this, Bool.not_true, Bool.false_eq_true, not_false_eq_true]
  refine (laidMet_layVars (w' := w.layVars P l) (w0 := w) (l.map (·.1)) [] ?_ ?_ ?_ ?_ : laidMet P l (w.layVars P l)).of_heap (by simp [World.memory, World.forCall, Input.heap])
  · rw [h1]
  · rw [h1]; exact hf
  · rw [h1]; exact hi
  · rw [h2]; exact LaidIn.none
theorem start_met (os : Os) (args : Array Value) : laidMetH Tryz.prog Rows.fnExactLogAddRow.laid ((start os).forCall (fun _ _ => 0) ⟨#[], args, []⟩).memory :=
  laidMetH_of_parts (laid_over (w := held os) (l := listed) args (by kernel_rfl) (by kernel_rfl)) (by kernel_rfl)

theorem gP : Tryz.prog.globalNamed "internal/strconv.uint64pow10" = some 1 := by kernel_rfl
theorem gR : Tryz.prog.globalNamed "strconv.ErrRange" = some 5 := by kernel_rfl
theorem gS : Tryz.prog.globalNamed "strconv.ErrSyntax" = some 4 := by kernel_rfl
theorem tP : (Tryz.prog.globals[1]?).map (·.type) = some 221 := by kernel_rfl
theorem tR : (Tryz.prog.globals[5]?).map (·.type) = some 151 := by kernel_rfl
theorem tS : (Tryz.prog.globals[4]?).map (·.type) = some 151 := by kernel_rfl

set_option maxRecDepth 100000 in
/-- what the condition gives the walk -/
theorem of_laid {W : World} (h : laidMetH Tryz.prog Rows.fnExactLogAddRow.laid W) : Tab W ∧ Errs W := by
  have h' : laidMet Tryz.prog [("math/bits.deBruijn32tab", Rows.laid_math_bits_deBruijn32tab), ("math/bits.deBruijn64tab", Rows.laid_math_bits_deBruijn64tab), ("internal/strconv.uint64pow10", Rows.laid_internal_strconv_uint64pow10), ("unicode/utf8.acceptRanges", Rows.laid_unicode_utf8_acceptRanges), ("strconv.ErrRange", Rows.laid_strconv_ErrRange), ("strconv.ErrSyntax", Rows.laid_strconv_ErrSyntax), ("unicode/utf8.first", Rows.laid_unicode_utf8_first)] W ∧ handlesMet Tryz.prog [("errors.errorType", Rows.laid_errors_errorType)] W := h
  obtain ⟨ps, ⟨g0, t0, cs0, f0, p0, q0, hg0, ht0, hv0, hd0, ⟨g1, t1, cs1, f1, p1, q1, hg1, ht1, hv1, hd1, ⟨g2, t2, cs2, f2, p2, q2, hg2, ht2, hv2, hd2, ⟨g3, t3, cs3, f3, p3, q3, hg3, ht3, hv3, hd3, ⟨g4, t4, cs4, f4, p4, q4, hg4, ht4, hv4, hd4, ⟨g5, t5, cs5, f5, p5, q5, hg5, ht5, hv5, hd5, ⟨g6, t6, cs6, f6, p6, q6, hg6, ht6, hv6, hd6, _, _⟩, _⟩, _⟩, _⟩, _⟩, _⟩, _⟩, _, _⟩ := h'.1
  obtain rfl := Option.some.inj (gP.symm.trans hg2)
  obtain rfl := Option.some.inj (gR.symm.trans hg4)
  obtain rfl := Option.some.inj (gS.symm.trans hg5)
  obtain rfl := Option.some.inj (tP.symm.trans ht2)
  obtain rfl := Option.some.inj (tR.symm.trans ht4)
  obtain rfl := Option.some.inj (tS.symm.trans ht5)
  refine ⟨?_, ?_, ?_⟩
  · have e0 : (Rows.laid_internal_strconv_uint64pow10 : DataW Unit) = Lib.tabData .u64 Lib.pow10Tab := rfl
    rw [e0] at hd2
    have := Lib.cells_of_tab Tryz.underlying221 Tryz.underlying193 (by kernel_rfl) (by kernel_rfl) hd2
    unfold Tab Lib.TabIs
    rw [hv2, ← this]
  · obtain ⟨f', u, v, hc, _, _⟩ := iface_of_trod Tryz.underlying151 hd5
    refine ⟨.iface u v, ?_, .inr ⟨u, v, rfl⟩⟩
    have := World.var?_cell hg5 hv5 0
    rw [Array.eq_one_of_toList hc] at this
    simpa using this
  · obtain ⟨f', u, v, hc, _, _⟩ := iface_of_trod Tryz.underlying151 hd4
    refine ⟨.iface u v, ?_, .inr ⟨u, v, rfl⟩⟩
    have := World.var?_cell hg4 hv4 0
    rw [Array.eq_one_of_toList hc] at this
    simpa using this

set_option maxRecDepth 100000 in
theorem lifted (os : Os) (started : os.Started) (H : Type) (enc : TypeId × Value → H) :
    ReturnsInHanded {} Tryz.checked os 5 .any (fun w args => (Rows.fnExactLogAddSpec.pre enc Tryz.prog Tryz.f5 [] false w args ∧ laidMetH Tryz.prog Rows.fnExactLogAddRow.laid w) ∧ sizedMet enc Tryz.prog Tryz.f5 (OpenSpec.ofChange Rows.fnExactLogAddSpec) false w args)
      (Rows.fnExactLogAddSpec.post enc Tryz.prog Tryz.f5 false true false false) := by
  refine returnsInHanded_of_calls (C := Tryz.checked) own started (by kernel_rfl) (ChangeSpec.witness_shaped (enc := enc) (C := Tryz.checked) (os := os) (X := fun w _ => laidMetH Tryz.prog Rows.fnExactLogAddRow.laid w) false (start os) #[.agg #[.slice none 0 0], .agg #[.int .i64 0, .int .i64 0, .int .i64 0, .string ByteArray.empty, .bool false, .int .i64 0, .int .i64 0, .string ByteArray.empty, .int .i64 0]] 8 (start_os os) (World.shaped_of_ZipB (by kernel_rfl) (by kernel_rfl)) (by kernel_rfl) (by kernel_rfl) (by kernel_rfl) (start_met os _)) ?_
  rintro w0 tape inp _ hsh _ ⟨_, _, _, fn', hfn', _, _, _, _, hval0⟩ ⟨⟨⟨ds, gs, before, hW0, _⟩, hL0⟩, _⟩ _
  obtain rfl : fn' = Tryz.f5 := Option.some.inj (hfn'.symm.trans Tryz.func5)
  have hM : MaxAt (w0.forCall tape inp) := Tryz.maxLen_int _ hsh
  have hL : laidMetH Tryz.prog Rows.fnExactLogAddRow.laid (w0.forCall tape inp) := hL0.of_heap (by rfl)
  have hW := DataW.Whole.of_heap (w' := w0.forCall tape inp) (by rfl) hW0
  clear hsh hL0 hW0
  generalize w0.heap.size = base at hval0
  generalize inp.args = args at *
  generalize w0.forCall tape inp = W at *
  have hval : ∀ (j : Nat) t v, Tryz.f5.params[j]? = some t → args[j]? = some v → Value.okWide Tryz.prog W .any base t v := hval0
  have hW' := hW
  obtain ⟨p, q, hA0, hV, rfl, hfz, hnd⟩ := hW
  have hA : DataW.TrodAll enc Tryz.prog W 0 (fun _ => true) true Tryz.f5.params.toList args.toList ds p := hA0
  rw [Tryz.params5] at hA hval
  obtain ⟨v0, vs0, d0, ds0, p0, q0, hargs, rfl, rfl, h0, r0⟩ := trodAll_cons hA
  obtain ⟨v1, vs1, d1, ds1, p1, q1, rfl, rfl, rfl, h1, r1⟩ := trodAll_cons r0
  obtain ⟨rfl, rfl, rfl⟩ := trodAll_nil r1
  obtain rfl : args = #[v0, v1] := by cases args; simp_all
  obtain ⟨rfl, rfl⟩ := trodVars_none hV
  have k0 := h0
  have k1 := h1
  have lt0 : ∀ x ∈ p0, x.block < W.heap.size := by obtain ⟨m, hm⟩ := k0; exact DataW.trod_lt m _ _ _ hm
  have lt1 : ∀ x ∈ p1, x.block < W.heap.size := by obtain ⟨m, hm⟩ := k1; exact DataW.trod_lt m _ _ _ hm
  have w0 : ∃ (L : List (List UInt8)) (v : Value), v0 = logV v ∧ (∀ x ∈ L, x.length ≤ maxLen) ∧ TextsAt W v L := by
    obtain ⟨fuel, hf⟩ := h0
    obtain ⟨L, v, hcs, h1, h2⟩ := open_log fuel _ _ hf
    refine ⟨L, v, ?_, h1, h2⟩
    obtain ⟨cs, hv0, _⟩ := Go.WideShapes.okWide_struct Tryz.underlying24 (hval 0 24 v0 rfl rfl)
    rw [hv0] at hcs
    have hl : cs.toList = [v] := hcs
    rw [hv0]
    cases cs with
    | mk l => simp only at hl; rw [hl]
  obtain ⟨L, v, rfl, z1, z2⟩ := w0
  have w1 : ∃ (k r p : Int) (nm : ByteArray) (o : Bool) (vk vn : Int) (vt : ByteArray) (m : Int), v1 = actV k r p nm o vk vn vt m ∧ nm.size ≤ maxLen ∧ vt.size ≤ maxLen := by
    obtain ⟨fuel, hf⟩ := h1
    obtain ⟨k, r, p, nm, o, vk, vn, vt, m, hcs, h1, h2⟩ := open_act fuel _ _ hf
    refine ⟨k, r, p, nm, o, vk, vn, vt, m, ?_, h1, h2⟩
    cases v1 with
    | agg cs =>
      have : cs.toList = _ := hcs
      rw [actV, ← this]
    | _ => simp [Value.cells] at hcs
  obtain ⟨k, r, p, nm, o, vk, vn, vt, m, rfl, y1, y2⟩ := w1
  obtain ⟨hT, hE⟩ := of_laid hL
  clear hA0 hval0
  refine (lawLogAdd_any L z1 k r p nm o vk vn vt m y1 y2 v W z2 ⟨hT, hE, hM⟩).mono fun e W' ⟨he, hg⟩ => ?_
  subst he
  refine ChangeSpec.post_blind ?_
  exact ⟨_, _, _, [], _, [], hW', trodAll_mk1 (shut_bool Tryz.underlying4 _), (trodAll_cons_mk (Below.trod laidOut (by kernel_rfl) (of_decide_eq_true (by kernel_rfl)) k0 hg lt0) (trodAll_cons_mk (Below.trod laidOut (by kernel_rfl) (of_decide_eq_true (by kernel_rfl)) k1 hg lt1) trodAll_mk0)), rfl, hg.frame _, fun h => by cases h⟩

end Go.Proofs.YtbckbfjnifafaaaGreatDoor.fnExactLogAdd

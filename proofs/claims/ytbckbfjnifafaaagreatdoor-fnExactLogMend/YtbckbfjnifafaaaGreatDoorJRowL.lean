/- Joined: RowLMl. -/
import Derived.Test.YtbckbfjnifafaaaGreatDoorRows
import Derived.Test.YtbckbfjnifafaaaGreatDoorTie
import Derived.Test.YtbckbfjnifafaaaGreatDoorCards
import Derived.Test.YtbckbfjnifafaaaGreatDoorJLm
import Derived.Test.YtbckbfjnifafaaaGreatDoorJLs
import Derived.WalkKit
import Derived.ProofKit
import Derived.OpenShut
import Derived.ShutString
import Derived.Below
import Derived.Lib.SmallJoins
import Derived.LaidMore
import Derived.Leaving
import Derived.Lay
import Derived.Conc.Holds
import Derived.Stop.Joined
import Derived.SevenTiedAt
/- At every log LogMend answers as the specification, and writes into no argument; the library's tables, errors and error type standing as their own text lays them (the card ties that); no other condition.
   The row's step and the card of FnExactLogMend, out of its walk. -/
namespace Go.Proofs.YtbckbfjnifafaaaGreatDoor.fnExactLogMend
open Go.ChangeShapes Go.WideShapes Go.ChangeAt Go.RowKit Go.Joins
open Go.ChangeMaps (open_string shut_string)
set_option linter.unusedVariables false

theorem own : ownKnob Tryz.prog.godebug = none := by kernel_rfl
theorem laidOut : laidOutB Tryz.prog = true := by kernel_rfl
/-- the variables that the row lists, but for the handle -/
def listed : List (String × DataW Unit) := Rows.fnExactLogMendRow.laid.filter fun x => x.2.handleName?.isNone
/-- a world in which the handle stands -/
noncomputable def held (os : Os) : World := (World.holding Tryz.prog os ⟨#[], #[], []⟩).setCell ⟨8, 0, none⟩ (.iface 365 (.agg #[typeHandle Tryz.prog 151]))
/-- the world that the row begins with: all that it lists stands -/
noncomputable def start (os : Os) : World := (held os).layVars Tryz.prog listed
theorem start_os (os : Os) : (start os).os = os := (World.layVars_os _ _ _).trans rfl
theorem laid_over {P : Program} {w : World} {l : List (String × DataW Unit)} (args : Array Value) (hf : w.layFits P l [] = true) (hi : w.layIfaces P l (w.layVars P l) = true) : laidMet P l ((w.layVars P l).forCall (fun _ _ => 0) ⟨#[], args, []⟩).memory := by
  have h1 : (l.filter fun x => (l.map (·.1)).contains x.1) = l := List.filter_eq_self.2 fun x hx => List.contains_iff_mem.2 (List.mem_map.2 ⟨x, hx, rfl⟩)
  have h2 : (l.filter fun x => !(l.map (·.1)).contains x.1) = [] := by
    rw [List.filter_eq_nil_iff]
    intro x hx
    have := List.contains_iff_mem.2 (List.mem_map.2 ⟨x, hx, rfl⟩ : x.1 ∈ l.map (·.1))
    simp only [this, Bool.not_true, Bool.false_eq_true, not_false_eq_true]
  refine (laidMet_layVars (w' := w.layVars P l) (w0 := w) (l.map (·.1)) [] ?_ ?_ ?_ ?_ : laidMet P l (w.layVars P l)).of_heap (by simp [World.memory, World.forCall, Input.heap])
  · rw [h1]
  · rw [h1]; exact hf
  · rw [h1]; exact hi
  · rw [h2]; exact LaidIn.none
theorem start_met (os : Os) (args : Array Value) : laidMetH Tryz.prog Rows.fnExactLogMendRow.laid ((start os).forCall (fun _ _ => 0) ⟨#[], args, []⟩).memory :=
  laidMetH_of_parts (laid_over (w := held os) (l := listed) args (by kernel_rfl) (by kernel_rfl)) (by kernel_rfl)

theorem gP : Tryz.prog.globalNamed "internal/strconv.uint64pow10" = some 1 := by kernel_rfl
theorem gR : Tryz.prog.globalNamed "strconv.ErrRange" = some 5 := by kernel_rfl
theorem gS : Tryz.prog.globalNamed "strconv.ErrSyntax" = some 4 := by kernel_rfl
theorem tP : (Tryz.prog.globals[1]?).map (·.type) = some 221 := by kernel_rfl
theorem tR : (Tryz.prog.globals[5]?).map (·.type) = some 151 := by kernel_rfl
theorem tS : (Tryz.prog.globals[4]?).map (·.type) = some 151 := by kernel_rfl

set_option maxRecDepth 100000 in
/-- what the condition gives the walk -/
theorem of_laid {W : World} (h : laidMetH Tryz.prog Rows.fnExactLogMendRow.laid W) : Tab W ∧ Errs W := by
  have h' : laidMet Tryz.prog [("math/bits.deBruijn32tab", Rows.laid_math_bits_deBruijn32tab), ("math/bits.deBruijn64tab", Rows.laid_math_bits_deBruijn64tab), ("internal/strconv.uint64pow10", Rows.laid_internal_strconv_uint64pow10), ("unicode/utf8.acceptRanges", Rows.laid_unicode_utf8_acceptRanges), ("strconv.ErrRange", Rows.laid_strconv_ErrRange), ("strconv.ErrSyntax", Rows.laid_strconv_ErrSyntax), ("unicode/utf8.first", Rows.laid_unicode_utf8_first)] W ∧ handlesMet Tryz.prog [("errors.errorType", Rows.laid_errors_errorType)] W := h
  obtain ⟨ps, ⟨g0, t0, cs0, f0, p0, q0, hg0, ht0, hv0, hd0, ⟨g1, t1, cs1, f1, p1, q1, hg1, ht1, hv1, hd1, ⟨g2, t2, cs2, f2, p2, q2, hg2, ht2, hv2, hd2, ⟨g3, t3, cs3, f3, p3, q3, hg3, ht3, hv3, hd3, ⟨g4, t4, cs4, f4, p4, q4, hg4, ht4, hv4, hd4, ⟨g5, t5, cs5, f5, p5, q5, hg5, ht5, hv5, hd5, ⟨g6, t6, cs6, f6, p6, q6, hg6, ht6, hv6, hd6, _, _⟩, _⟩, _⟩, _⟩, _⟩, _⟩, _⟩, _, _⟩ := h'.1
  obtain rfl := Option.some.inj (gP.symm.trans hg2)
  obtain rfl := Option.some.inj (gR.symm.trans hg4)
  obtain rfl := Option.some.inj (gS.symm.trans hg5)
  obtain rfl := Option.some.inj (tP.symm.trans ht2)
  obtain rfl := Option.some.inj (tR.symm.trans ht4)
  obtain rfl := Option.some.inj (tS.symm.trans ht5)
  refine ⟨?_, ?_, ?_⟩
  · have e0 : (Rows.laid_internal_strconv_uint64pow10 : DataW Unit) = Lib.tabData .u64 Lib.pow10Tab := rfl
    rw [e0] at hd2
    have := Lib.cells_of_tab Tryz.underlying221 Tryz.underlying193 (by kernel_rfl) (by kernel_rfl) hd2
    unfold Tab Lib.TabIs
    rw [hv2, ← this]
  · obtain ⟨f', u, v, hc, _, _⟩ := iface_of_trod Tryz.underlying151 hd5
    refine ⟨.iface u v, ?_, .inr ⟨u, v, rfl⟩⟩
    have := World.var?_cell hg5 hv5 0
    rw [Array.eq_one_of_toList hc] at this
    simpa using this
  · obtain ⟨f', u, v, hc, _, _⟩ := iface_of_trod Tryz.underlying151 hd4
    refine ⟨.iface u v, ?_, .inr ⟨u, v, rfl⟩⟩
    have := World.var?_cell hg4 hv4 0
    rw [Array.eq_one_of_toList hc] at this
    simpa using this

set_option maxRecDepth 100000 in
theorem lifted (os : Os) (started : os.Started) (H : Type) (enc : TypeId × Value → H) :
    ReturnsInHanded {} Tryz.checked os 6 .any (fun w args => (Rows.fnExactLogMendSpec.pre enc Tryz.prog Tryz.f6 [] false w args ∧ laidMetH Tryz.prog Rows.fnExactLogMendRow.laid w) ∧ sizedMet enc Tryz.prog Tryz.f6 (OpenSpec.ofChange Rows.fnExactLogMendSpec) false w args)
      (Rows.fnExactLogMendSpec.post enc Tryz.prog Tryz.f6 false true false false) := by
  refine returnsInHanded_of_calls (C := Tryz.checked) own started (by kernel_rfl) (ChangeSpec.witness_shaped (enc := enc) (C := Tryz.checked) (os := os) (X := fun w _ => laidMetH Tryz.prog Rows.fnExactLogMendRow.laid w) false (start os) #[.agg #[.slice none 0 0]] 8 (start_os os) (World.shaped_of_ZipB (by kernel_rfl) (by kernel_rfl)) (by kernel_rfl) (by kernel_rfl) (by kernel_rfl) (start_met os _)) ?_
  rintro w0 tape inp _ hsh _ ⟨_, _, _, fn', hfn', _, _, _, _, hval0⟩ ⟨⟨⟨ds, gs, before, hW0, _⟩, hL0⟩, _⟩ _
  obtain rfl : fn' = Tryz.f6 := Option.some.inj (hfn'.symm.trans Tryz.func6)
  have hM : MaxAt (w0.forCall tape inp) := Tryz.maxLen_int _ hsh
  have hL : laidMetH Tryz.prog Rows.fnExactLogMendRow.laid (w0.forCall tape inp) := hL0.of_heap (by rfl)
  have hW := DataW.Whole.of_heap (w' := w0.forCall tape inp) (by rfl) hW0
  clear hsh hL0 hW0
  generalize w0.heap.size = base at hval0
  generalize inp.args = args at *
  generalize w0.forCall tape inp = W at *
  have hval : ∀ (j : Nat) t v, Tryz.f6.params[j]? = some t → args[j]? = some v → Value.okWide Tryz.prog W .any base t v := hval0
  have hW' := hW
  obtain ⟨p, q, hA0, hV, rfl, hfz, hnd⟩ := hW
  have hA : DataW.TrodAll enc Tryz.prog W 0 (fun _ => true) true Tryz.f6.params.toList args.toList ds p := hA0
  rw [Tryz.params6] at hA hval
  obtain ⟨v0, vs0, d0, ds0, p0, q0, hargs, rfl, rfl, h0, r0⟩ := trodAll_cons hA
  obtain ⟨rfl, rfl, rfl⟩ := trodAll_nil r0
  obtain rfl : args = #[v0] := by cases args; simp_all
  obtain ⟨rfl, rfl⟩ := trodVars_none hV
  have k0 := h0
  have lt0 : ∀ x ∈ p0, x.block < W.heap.size := by obtain ⟨m, hm⟩ := k0; exact DataW.trod_lt m _ _ _ hm
  have w0 : ∃ (L : List (List UInt8)) (v : Value), v0 = logV v ∧ (∀ x ∈ L, x.length ≤ maxLen) ∧ TextsAt W v L := by
    obtain ⟨fuel, hf⟩ := h0
    obtain ⟨L, v, hcs, h1, h2⟩ := open_log fuel _ _ hf
    refine ⟨L, v, ?_, h1, h2⟩
    obtain ⟨cs, hv0, _⟩ := Go.WideShapes.okWide_struct Tryz.underlying24 (hval 0 24 v0 rfl rfl)
    rw [hv0] at hcs
    have hl : cs.toList = [v] := hcs
    rw [hv0]
    cases cs with
    | mk l => simp only at hl; rw [hl]
  obtain ⟨L, v, rfl, z1, z2⟩ := w0
  obtain ⟨hT, hE⟩ := of_laid hL
  clear hA0 hval0
  refine (lawLogMend_any L z1 v W z2 ⟨hT, hE, hM⟩).mono fun e W' ⟨he, hg⟩ => ?_
  subst he
  refine ChangeSpec.post_blind ?_
  exact ⟨_, _, _, [], _, [], hW', trodAll_mk1 (shut_bool Tryz.underlying4 _), (trodAll_cons_mk (Below.trod laidOut (by kernel_rfl) (of_decide_eq_true (by kernel_rfl)) k0 hg lt0) trodAll_mk0), rfl, hg.frame _, fun h => by cases h⟩

end Go.Proofs.YtbckbfjnifafaaaGreatDoor.fnExactLogMend

/- Joined: EvB1 EvA1 EvA2 EvA3 EvB2. -/
import Derived.Test.YtamkncfdfaejjaaGreatDoorEvI4
import Derived.Test.YtamkncfdfaejjaaGreatDoorEvS3
import Derived.Test.YtamkncfdfaejjaaGreatDoorVal2a
import Derived.Test.YtamkncfdfaejjaaGreatDoorCln
import Derived.Test.YtamkncfdfaejjaaGreatDoorEvI1
import Derived.Stop.Asserts
import Derived.Test.YtamkncfdfaejjaaGreatDoorJEvI
/- A value out of what it holds, and a copy of its own. -/
namespace Go.Proofs.YtamkncfdfaejjaaGreatDoor
open Go.RowKit
set_option linter.unusedVariables false
set_option linter.unusedSimpArgs false
theorem value_cv {v : Va} (h : Pl.okA v = true) (w : World) : Calls Tryz.prog 61 #[cvA v] w fun e w' => e = .returned (vaV v) ∧ Below w.heap.size w w' := by
  rcases cvA_cases h with ⟨h1, rfl⟩ | ⟨n, h1, rfl, _, _⟩ | ⟨t, h1, rfl, _⟩
  · rw [h1]; exact valueOfNone_any w
  · rw [h1]; exact valueOfNum_any n w
  · rw [h1]; exact valueOfText_any t w
theorem okA_size {v : Va} (h : Pl.okA v = true) : v.t.size ≤ 1048576 := by
  rcases Pl.okA_cases h with ⟨_, _, h2⟩ | ⟨_, _, _, h3⟩ | ⟨_, _, h2⟩
  · rw [h2]; decide
  · rw [h3]; decide
  · simp only [Pl.textB, Bool.and_eq_true, decide_eq_true_eq] at h2
    omega
theorem own2_after {w w1 : World} {A B : Obj} (hb : Below ((w.alloc A).alloc B).heap.size ((w.alloc A).alloc B) w1) :
    w1.heap[w.heap.size]? = some A ∧ w1.heap[w.heap.size + 1]? = some B ∧ Below w.heap.size w w1 ∧ w.heap.size + 1 + 1 ≤ w1.heap.size := by
  have e1 : (w.alloc A).heap.size = w.heap.size + 1 := by simp
  have e2 : ((w.alloc A).alloc B).heap.size = w.heap.size + 1 + 1 := by simp
  have hs := hb.size
  rw [e2] at hs
  refine ⟨?_, ?_, ?_, hs⟩
  · rw [hb.block _ (by omega), heap_alloc_at, if_neg (by omega), heap_alloc_at, if_pos rfl]
  · rw [hb.block _ (by omega), heap_alloc_at, if_pos (by omega)]
  · exact (two_below w A B).trans (hb.mono (two_below w A B).size)
set_option maxHeartbeats 800000 in
theorem own_any (k n : Int) (t : ByteArray) (ht : t.size ≤ 2000000) (w : World) :
    Calls Tryz.prog 60 #[.agg #[.int .i64 k, .int .i64 n, .string t]] w fun e w' => e = .returned (.agg #[.int .i64 k, .int .i64 n, .string t]) ∧ Below w.heap.size w w' := by
  have hc := hide (clone_any t (by omega))
  go_enter Tryz.func60, Tryz.ntmps60
  go_wp2_with fail
  refine (hc.out _).mono ?_
  rintro e w1 ⟨rfl, hB1⟩
  obtain ⟨ba, bb, hbl, hsz⟩ := own2_after hB1
  have a0 := cell_of_block ba 0
  have a1 := cell_of_block ba 1
  have a2 := cell_of_block ba 2
  have e2 := free_of_block ba 2
  have r0 := cell_of_block bb 0
  have r1 := cell_of_block bb 1
  have r2 := cell_of_block bb 2
  have f0 := free_of_block bb 0
  have f1 := free_of_block bb 1
  have f2 := free_of_block bb 2
  simp only [List.getElem?_toArray, List.getElem?_cons_zero, List.getElem?_cons_succ] at a0 a1 a2 r0 r1 r2
  have HBB := hide bb
  have HBL := hide hbl
  clear hB1 ba bb hbl
  go_wp2
  have hb1 : (w1.setCell ⟨w.heap.size, 2, none⟩ (.string t)).heap[w.heap.size + 1]? = some (.cells #[.int .i64 0, .int .i64 0, .string ⟨#[]⟩] 30 (0, 0)) := (Below.heap_setCell _ _ _ _ (by show w.heap.size + 1 ≠ w.heap.size; omega)).trans HBB.out
  obtain ⟨m0, m1, m2⟩ := es3 hb1 (.int .i64 k) (.int .i64 n) (.string t)
  refine bodyPost_ret (v := .agg #[.int .i64 k, .int .i64 n, .string t]) (by simp [results, Tryz.results60, go_sem, m0, m1, m2]) rfl ?_
  refine ⟨rfl, ?_⟩
  exact (((HBL.out.setCell (p := ⟨w.heap.size, 2, none⟩) (Nat.le_refl _) _).setCell (p := ⟨w.heap.size + 1, 0, none⟩) (Nat.le_succ _) _).setCell (p := ⟨w.heap.size + 1, 1, none⟩) (Nat.le_succ _) _).setCell (p := ⟨w.heap.size + 1, 2, none⟩) (Nat.le_succ _) _
theorem own_va {v : Va} (h : Pl.okA v = true) (w : World) : Calls Tryz.prog 60 #[vaV v] w fun e w' => e = .returned (vaV v) ∧ Below w.heap.size w w' :=
  own_any v.k v.n v.t (by have := okA_size h; omega) w
end Go.Proofs.YtamkncfdfaejjaaGreatDoor

/- errors.As at the program's own error. -/
namespace Go.Proofs.YtamkncfdfaejjaaGreatDoor
open Go.RowKit Go.Extern.Stop Go.Stop Go.Extern
set_option linter.unusedVariables false
set_option linter.unusedSimpArgs false
theorem as_nil (t : Value) (w : World) : Calls Tryz.prog 59 #[.nilIface, t] w fun e w' => e = .returned (.bool false) ∧ w' = w := by
  go_enter Tryz.func59, Tryz.ntmps59
  go_wp2
  go_ret
  exact ⟨rfl, rfl⟩
/-- the handle of a type -/
abbrev hdl (t : Nat) : Value := .pointer (some ⟨2, t, none⟩)
abbrev rtV (t : Nat) : Value := .iface 157 (.agg #[hdl t])
theorem aValP (t : Addr) (w : World) : (ReflectliteValue.unpack (.iface 97 (.pointer (some t)))).run Tryz.prog w
    = .ok (.agg #[hdl 97, .pointer (some ⟨w.heap.size, 0, none⟩), .int .u64 150]) (w.alloc (.cells #[.pointer (some t)] 97)) := by kernel_rfl
theorem aTypeP (a : Addr) (w : World) : (ReflectliteValue.methodAny (ReflectliteValue.valueError "reflectlite.Value.Type" 0) (fun t _ _ _ => ReflectliteType.toType t) #[.agg #[hdl 97, .pointer (some a), .int .u64 150]]).run Tryz.prog w
    = .ok (rtV 97) w := by kernel_rfl
theorem aKind (h : Value) (w : World) : (Go.method 312 157 (.agg #[h]) "Kind").run Tryz.prog w = .ok (147, h) w := by kernel_rfl
theorem aKindP (w : World) : ((ReflectliteType.abiMethod fun t => (fun a : Nat => Value.int IntKind.u8 (a : Int)) <$> Rtype.kind t) #[hdl 97]).run Tryz.prog w = .ok (.int .u8 22) w := by kernel_rfl
theorem aKindE (w : World) : ((ReflectliteType.abiMethod fun t => (fun a : Nat => Value.int IntKind.u8 (a : Int)) <$> Rtype.kind t) #[hdl 95]).run Tryz.prog w = .ok (.int .u8 25) w := by kernel_rfl
theorem rlm (z : Sem Value) (f : TypeId → Addr → Nat → Nat → Sem Value) (v : Value) :
    ReflectliteValue.method z f #[v] = (do match ← ReflectliteValue.parts v with | none => z | some (t, a, fl) => f t a fl (fl % 32)) := rfl
theorem aPartsP (a : Addr) (w : World) : (ReflectliteValue.parts (.agg #[hdl 97, .pointer (some a), .int .u64 150])).run Tryz.prog w = .ok (some (97, a, 150)) w := by kernel_rfl
theorem aNilP (a p : Addr) (W : World) (ha : W.cell? a = some (.pointer (some p))) :
    (ReflectliteValue.method (ReflectliteValue.valueError "reflectlite.Value.IsNil" 0) ReflectliteValue.isNil #[.agg #[hdl 97, .pointer (some a), .int .u64 150]]).run Tryz.prog W = .ok (.bool false) W := by
  rw [rlm]
  simp only [Sem.run_bind, aPartsP, Result.andThen]
  simp [ReflectliteValue.isNil, loadVar, isAgg, underlying, Tryz.underlying97, ha, Result.andThen]
theorem aElem (h : Value) (w : World) : (Go.method 312 157 (.agg #[h]) "Elem").run Tryz.prog w = .ok (165, .agg #[h]) w := by kernel_rfl
theorem aImpl (h : Value) (w : World) : (Go.method 312 157 (.agg #[h]) "Implements").run Tryz.prog w = .ok (166, .agg #[h]) w := by kernel_rfl
theorem aAssign (h : Value) (w : World) : (Go.method 312 157 (.agg #[h]) "AssignableTo").run Tryz.prog w = .ok (163, .agg #[h]) w := by kernel_rfl
theorem aElemP (w : World) : (ReflectliteType.method ReflectliteType.elem #[.agg #[hdl 97]]).run Tryz.prog w = .ok (rtV 95) w := by kernel_rfl
theorem aImplE (w : World) : (ReflectliteType.relation "Implements" ReflectliteType.implements_ #[.agg #[hdl 95], rtV 89]).run Tryz.prog w = .ok (.bool true) w := by kernel_rfl
theorem aTypeOfE (v : Value) (w : World) : (ReflectliteType.typeOf #[.iface 95 v]).run Tryz.prog w = .ok (rtV 95) w := by kernel_rfl
theorem aAssignE (w : World) : (ReflectliteType.relation "AssignableTo" ReflectliteType.assignableTo #[.agg #[hdl 95], rtV 95]).run Tryz.prog w = .ok (.bool true) w := by kernel_rfl
theorem aValE (s : ByteArray) (w : World) : (ReflectliteValue.unpack (errV s)).run Tryz.prog w
    = .ok (.agg #[hdl 95, .pointer (some ⟨w.heap.size, 0, none⟩), .int .u64 153]) (w.alloc (.cells #[.string s] 95)) := by kernel_rfl
theorem aElemOf (w : World) : (Rtype.elem? 97).run Tryz.prog w = .ok (some 95) w := by kernel_rfl
theorem aMk (p : Addr) (w : World) : (ReflectliteValue.mk 95 p ReflectliteValue.flagAddr).run Tryz.prog w = .ok (.agg #[hdl 95, .pointer (some p), .int .u64 409]) w := by kernel_rfl
theorem aElemV (a p : Addr) (W : World) (ha : W.cell? a = some (.pointer (some p))) :
    (ReflectliteValue.method (ReflectliteValue.valueError "reflectlite.Value.Elem" 0) ReflectliteValue.elem #[.agg #[hdl 97, .pointer (some a), .int .u64 150]]).run Tryz.prog W
      = .ok (.agg #[hdl 95, .pointer (some p), .int .u64 409]) W := by
  rw [rlm]
  simp only [Sem.run_bind, aPartsP, Result.andThen]
  simp [ReflectliteValue.elem, loadVar, isAgg, underlying, Tryz.underlying97, ha, Result.andThen, aElemOf, aMk]
theorem rls (v x : Value) : ReflectliteValue.set #[v, x] = (do
    let (some (dst, a, fl), some (src, b, _)) := (← ReflectliteValue.parts v, ← ReflectliteValue.parts x)
      | unsupported (.noEntry "extern/(internal/reflectlite.Value).Set.zeroValue")
    if fl / ReflectliteValue.flagAddr % 2 == 0 then unsupported (.noEntry "extern/(internal/reflectlite.Value).Set.unaddressable")
    let val ← loadVar src b
    if ← Rtype.directlyAssignable dst src then storeVar dst a val
    else if ← Rtype.implements dst src then
      if (← Rtype.kind src) == 20 then
        match val with
        | .nilIface => unsupported (.noEntry "extern/reflectlite: a nil value of one interface type handed on as a value of another")
        | _ => storeVar dst a val
      else storeVar dst a (.iface src val)
    else panicString ("reflectlite.Set: value of type " ++ (← Rtype.spelt src) ++ " is not assignable to type " ++ (← Rtype.spelt dst))
    pure (.tuple #[])) := rfl
theorem aPartsEa (a : Addr) (w : World) : (ReflectliteValue.parts (.agg #[hdl 95, .pointer (some a), .int .u64 409])).run Tryz.prog w = .ok (some (95, a, 409)) w := by kernel_rfl
theorem aPartsE (a : Addr) (w : World) : (ReflectliteValue.parts (.agg #[hdl 95, .pointer (some a), .int .u64 153])).run Tryz.prog w = .ok (some (95, a, 153)) w := by kernel_rfl
theorem aDirect (w : World) : (Rtype.directlyAssignable 95 95).run Tryz.prog w = .ok true w := by kernel_rfl
end Go.Proofs.YtamkncfdfaejjaaGreatDoor

/- errors.As at the program's own error: the hit. -/
namespace Go.Proofs.YtamkncfdfaejjaaGreatDoor
open Go.RowKit Go.Extern.Stop Go.Stop Go.Extern
set_option linter.unusedVariables false
set_option linter.unusedSimpArgs false
theorem aLoadE (q : Nat) (s : ByteArray) (W : World) (h : W.cell? ⟨q, 0, none⟩ = some (.string s)) : (loadVar 95 ⟨q, 0, none⟩).run Tryz.prog W = .ok (.agg #[.string s]) W := by
  have hA : (isAgg 95).run Tryz.prog W = .ok true W := by kernel_rfl
  have hS : (sizeOf 95).run Tryz.prog W = .ok 1 W := by kernel_rfl
  have hL : (load ⟨q, 0, none⟩).run Tryz.prog W = .ok (.string s) W := by simp [h]
  simp only [loadVar, Sem.run_bind, hA, Result.andThen, hS]
  simp [loadCells, loadCellsFrom, Addr.add, h, Result.andThen]
theorem aSet (p q : Nat) (s : ByteArray) (old : Value) (W : World) (hb : W.cell? ⟨q, 0, none⟩ = some (.string s)) (ht : W.cell? ⟨p, 0, none⟩ = some old) (hf : W.frozen? ⟨p, 0, none⟩ = false) :
    (ReflectliteValue.set #[.agg #[hdl 95, .pointer (some ⟨p, 0, none⟩), .int .u64 409], .agg #[hdl 95, .pointer (some ⟨q, 0, none⟩), .int .u64 153]]).run Tryz.prog W
      = .ok (.tuple #[]) (W.setCell ⟨p, 0, none⟩ (.string s)) := by
  have hS : (sizeOf 95).run Tryz.prog W = .ok 1 W := by kernel_rfl
  rw [rls]
  simp only [Sem.run_bind, aPartsEa, aPartsE, Result.andThen]
  simp [ReflectliteValue.flagAddr, aLoadE q s W hb, Result.andThen, aDirect, storeVar, Value.cells, storeCells, Addr.add, hS]
  rw [run_store Tryz.prog W ⟨p, 0, none⟩ _ _ (by rfl)]
  simp [ht, hf]
end Go.Proofs.YtamkncfdfaejjaaGreatDoor

/- errors.As at the program's own error: it is one. -/
namespace Go.Proofs.YtamkncfdfaejjaaGreatDoor
open Go.RowKit Go.Extern.Stop Go.Stop Go.Extern
set_option linter.unusedVariables false
set_option linter.unusedSimpArgs false
/-- package errors' own variable, as it is laid -/
def ErrT (w : World) : Prop := w.cell? ⟨0, 0, none⟩ = some (rtV 89)
theorem ErrT.later {w w1 : World} (h : ErrT w) (hB : Below w.heap.size w w1) : ErrT w1 := (hB.cell (p := ⟨0, 0, none⟩) (World.block_lt_of_cell? w _ h)).trans h
abbrev asW (w : World) (p : Nat) (s : ByteArray) : World := (((w.alloc (.cells #[.pointer (some ⟨p, 0, none⟩)] 97)).alloc (.cells #[hdl 97, .pointer (some ⟨w.heap.size, 0, none⟩), .int .u64 150] 129)).alloc (.cells #[hdl 97, .pointer (some ⟨w.heap.size, 0, none⟩), .int .u64 150] 129)).alloc (.cells #[.string s] 95)
set_option maxHeartbeats 4000000 in
theorem as_hit (s : ByteArray) (p : Nat) (old : Value) (w : World) (hg : ErrT w) (ht0 : w.cell? ⟨p, 0, none⟩ = some old) (hf0 : w.frozen? ⟨p, 0, none⟩ = false) :
    Calls Tryz.prog 59 #[errV s, .iface 97 (.pointer (some ⟨p, 0, none⟩))] w fun ev w' => ev = .returned (.bool true) ∧ w' = (asW w p s).setCell ⟨p, 0, none⟩ (.string s) := by
  have h6 := @run_callFunc_extern Tryz.prog 84 _ (fun args => ReflectliteValue.unpack (args.getD 0 (.tuple #[]))) Tryz.func84 (by kernel_rfl) (by kernel_rfl) (by kernel_rfl) (by kernel_rfl)
  have h7 := @run_callFunc_extern Tryz.prog 85 _ (ReflectliteValue.methodAny (ReflectliteValue.valueError "reflectlite.Value.Type" 0) (fun t _ _ _ => ReflectliteType.toType t)) Tryz.func85 (by kernel_rfl) (by kernel_rfl) (by kernel_rfl) (by kernel_rfl)
  have h8 := @run_callFunc_extern Tryz.prog 86 _ (ReflectliteValue.method (ReflectliteValue.valueError "reflectlite.Value.IsNil" 0) ReflectliteValue.isNil) Tryz.func86 (by kernel_rfl) (by kernel_rfl) (by kernel_rfl) (by kernel_rfl)
  have h27 := @run_callFunc_extern Tryz.prog 147 _ (ReflectliteType.abiMethod fun t => do pure (.int .u8 (← Rtype.kind t))) Tryz.func147 (by kernel_rfl) (by kernel_rfl) (by kernel_rfl) (by kernel_rfl)
  have h37 := @run_callFunc_extern Tryz.prog 165 _ (ReflectliteType.method ReflectliteType.elem) Tryz.func165 (by kernel_rfl) (by kernel_rfl) (by kernel_rfl) (by kernel_rfl)
  have h38 := @run_callFunc_extern Tryz.prog 166 _ (ReflectliteType.relation "Implements" ReflectliteType.implements_) Tryz.func166 (by kernel_rfl) (by kernel_rfl) (by kernel_rfl) (by kernel_rfl)
  have h10 := @run_callFunc_extern Tryz.prog 116 _ ReflectliteType.typeOf Tryz.func116 (by kernel_rfl) (by kernel_rfl) (by kernel_rfl) (by kernel_rfl)
  have h35 := @run_callFunc_extern Tryz.prog 163 _ (ReflectliteType.relation "AssignableTo" ReflectliteType.assignableTo) Tryz.func163 (by kernel_rfl) (by kernel_rfl) (by kernel_rfl) (by kernel_rfl)
  have h11 := @run_callFunc_extern Tryz.prog 117 _ (ReflectliteValue.method (ReflectliteValue.valueError "reflectlite.Value.Elem" 0) ReflectliteValue.elem) Tryz.func117 (by kernel_rfl) (by kernel_rfl) (by kernel_rfl) (by kernel_rfl)
  have h12 := @run_callFunc_extern Tryz.prog 118 _ ReflectliteValue.set Tryz.func118 (by kernel_rfl) (by kernel_rfl) (by kernel_rfl) (by kernel_rfl)
  have tO := aTypeOfE
  have mA := aAssign
  have a25 := aAssignE
  have v25 := aValE
  have f6 := aValP
  have f7 := aTypeP
  have mK := aKind
  have mE := aElem
  have mI := aImpl
  have k27 := aKindP
  have k25 := aKindE
  have e27 := aElemP
  have i25 := aImplE
  have n8 := aNilP ⟨w.heap.size, 0, none⟩ ⟨p, 0, none⟩ ((w.alloc (.cells #[.pointer (some ⟨p, 0, none⟩)] 97)).alloc (.cells #[hdl 97, .pointer (some ⟨w.heap.size, 0, none⟩), .int .u64 150] 129)) (by simp)
  have hlt : 0 < w.heap.size := World.block_lt_of_cell? w _ hg
  have hg2 : ((w.alloc (.cells #[.pointer (some ⟨p, 0, none⟩)] 97)).alloc (.cells #[hdl 97, .pointer (some ⟨w.heap.size, 0, none⟩), .int .u64 150] 129)).cell? ⟨0, 0, none⟩ = some (rtV 89) := by
    rw [World.cell?_alloc_lt _ _ ⟨0, 0, none⟩ (by simp), World.cell?_alloc_lt _ _ ⟨0, 0, none⟩ hlt]; exact hg
  have htl : p < w.heap.size := World.block_lt_of_cell? w _ ht0
  have el := aElemV ⟨w.heap.size, 0, none⟩ ⟨p, 0, none⟩ (((w.alloc (.cells #[.pointer (some ⟨p, 0, none⟩)] 97)).alloc (.cells #[hdl 97, .pointer (some ⟨w.heap.size, 0, none⟩), .int .u64 150] 129)).alloc (.cells #[hdl 97, .pointer (some ⟨w.heap.size, 0, none⟩), .int .u64 150] 129)) (by rw [World.cell?_alloc_lt _ _ ⟨w.heap.size, 0, none⟩ (by simp; omega)]; simp)
  have st := aSet p (w.heap.size + 1 + 1 + 1) s old (asW w p s)
    (by rw [World.cell?_alloc_at _ _ _ _ (by simp)]; rfl)
    (by rw [World.cell?_alloc_lt _ _ ⟨p, 0, none⟩ (by simp; omega), World.cell?_alloc_lt _ _ ⟨p, 0, none⟩ (by simp; omega), World.cell?_alloc_lt _ _ ⟨p, 0, none⟩ (by simp; omega), World.cell?_alloc_lt _ _ ⟨p, 0, none⟩ htl]; exact ht0)
    (by rw [World.frozen?_alloc_old _ _ ⟨p, 0, none⟩ (by simp; omega), World.frozen?_alloc_old _ _ ⟨p, 0, none⟩ (by simp; omega), World.frozen?_alloc_old _ _ ⟨p, 0, none⟩ (by simp; omega), World.frozen?_alloc_old _ _ ⟨p, 0, none⟩ (Nat.ne_of_lt htl)]; exact hf0)
  clear hg hlt htl ht0 hf0
  go_enter Tryz.func59, Tryz.ntmps59
  go_wp2
  refine wp_loop_rounds 1 ?_
  rw [rounds_succ]
  go_wp2
  go_ret
  exact ⟨rfl, rfl⟩
theorem as_hit_below (s : ByteArray) (p n : Nat) (old : Value) (w : World) (hg : ErrT w) (ht0 : w.cell? ⟨p, 0, none⟩ = some old) (hf0 : w.frozen? ⟨p, 0, none⟩ = false) (hn : n ≤ p) (hnw : n ≤ w.heap.size) :
    Calls Tryz.prog 59 #[errV s, .iface 97 (.pointer (some ⟨p, 0, none⟩))] w fun ev w' => ev = .returned (.bool true) ∧ Below n w w' := by
  refine (as_hit s p old w hg ht0 hf0).mono ?_
  rintro e w' ⟨rfl, rfl⟩
  exact ⟨rfl, (((((Below.refl _ _).alloc hnw _).alloc (by simp; omega) _).alloc (by simp; omega) _).alloc (by simp; omega) _).setCell (p := ⟨p, 0, none⟩) hn _⟩
end Go.Proofs.YtamkncfdfaejjaaGreatDoor

/- What an expression that is ok is by names, as the program has it. -/
namespace Go.Proofs.YtamkncfdfaejjaaGreatDoor
open Go.RowKit
set_option linter.unusedVariables false
set_option linter.unusedSimpArgs false
set_option maxHeartbeats 1600000 in
theorem exprBy_any (d : Nat) (nd : Nd) (k : Fo) (v : Value) (L : Pl.Look) (b n : Nat) (w : World) (hok : Pl.okN nd k d = true) (hL : ∀ x v, L x = some v → Pl.okA v = true) (hr : RowAt 0 w k v) (hm : MapV w b n L) (hE : ErrT w) :
    Calls Tryz.prog 35 #[ndV nd v, .map (some b)] w (EvPost (Pl.ev L nd k) w) := by
  have hmk := hide (fun W (hW : Below w.heap.size w W) => exprMake_any d nd k v W hok (hr.later hW))
  have HG := hide (fun r (h : Pl.ev L nd k = some r) => Pl.ev_ok hL hok h)
  have HM := hide hm
  have HE := hide hE
  have HL := hide hL
  have HS := hide (EB.start (w := w) (nd := nd) (v := v))
  obtain ⟨ad, cap, rfl, _⟩ := hr
  obtain ⟨nk, vk, vn, vt, nm⟩ := nd
  have HC := hide (fun (f : Value) (W : World) (h : Asks W f (fun L => Pl.ev L ⟨nk, vk, vn, vt, nm⟩ k)) (h2 : MapV W b n L) => show ∃ id caps, f = .func (.func id) #[] caps ∧ Fun id ∧ Calls Tryz.prog id (#[.map (some b)] ++ caps) W (WorkPost (Pl.ev L ⟨nk, vk, vn, vt, nm⟩ k) W) from by
    obtain ⟨id, caps, h3, h4, h5⟩ := h
    exact ⟨id, caps, h3, h4, h5 L b n W HL.out (Below.refl _ _) h2⟩)
  clear hok hL hm hE
  generalize Pl.ev L ⟨nk, vk, vn, vt, nm⟩ k = R at *
  go_enter Tryz.func35, Tryz.ntmps35
  go_wp2_with fail
  refine (hmk.out _ (two_below _ _ _)).mono ?_
  rintro e w1 ⟨f, rfl, hA, hB1⟩
  have HX1 := hide (HS.out.later hB1)
  have HE1 := hide (HE.out.later HX1.out.2.2)
  obtain ⟨id, caps, rfl, hF, hcall⟩ := HC.out f w1 hA (HM.out.later HX1.out.2.2)
  have hcf := run_fun hF
  have HK := hide hcall
  clear hB1 hA hF hcall HS hmk HC HE HM HL
  go_wp2_with fail
  refine HK.out.mono ?_
  rintro e w2 ⟨⟨x, rfl, hx⟩, hB2⟩
  have HX2 := hide (HX1.out.later hB2)
  have HE2 := hide (HE1.out.later hB2)
  have H95 : Hid (Below w2.heap.size w2 (w2.alloc (.cells #[.string ⟨#[]⟩] 95))) := (Below.refl _ _).alloc (Nat.le_refl _) _
  clear HX1 HE1 hB2 HK hcf
  rcases fun_res hx with ⟨rfl, s, rfl⟩ | ⟨va, rfl, rfl⟩
  · clear hx
    have HA := hide (as_hit_below s w2.heap.size w2.heap.size (.string ⟨#[]⟩) (w2.alloc (.cells #[.string ⟨#[]⟩] 95)) (HE2.out.later H95.out) (by simp) (by simp) (Nat.le_refl _) (by simp))
    go_wp2_with fail
    refine HA.out.mono ?_
    rintro e w3 ⟨rfl, hB3⟩
    have HX3 := hide (HX2.out.later (H95.out.trans hB3))
    clear HX2 hB3 HA H95 HE2
    obtain ⟨hb, r0, r1, r2, f0, f1, f2⟩ := HX3.out.back
    go_wp2
    obtain ⟨m0, m1, m2⟩ := es3 HX3.out.2.1 (.int .i64 0) (.int .i64 0) (.string ⟨#[]⟩)
    refine bodyPost_ret (v := .tuple #[vaV ⟨0, 0, ⟨#[]⟩⟩, .bool false]) (by simp [results, Tryz.results35, go_sem, m0, m1, m2]) rfl ?_
    exact ⟨rfl, below_es3 HX3.out.2.2 (by omega) _ _ _⟩
  · clear hx
    have hoka := HG.out va rfl
    have HV := hide (fun W => value_cv hoka W)
    have HO := hide (fun W => own_va hoka W)
    clear hoka HG
    generalize cvA va = c at *
    go_wp2_with fail
    refine (as_nil _ _).mono ?_
    rintro e w3 ⟨rfl, rfl⟩
    have HX3 := hide (HX2.out.later H95.out)
    clear HX2 H95 HE2
    generalize w2.alloc (.cells #[.string ⟨#[]⟩] 95) = w3 at *
    go_wp2_with fail
    refine (HV.out _).mono ?_
    rintro e w4 ⟨rfl, hB4⟩
    have HX4 := hide (HX3.out.later hB4)
    clear HX3 hB4 HV
    go_wp2_with fail
    refine (HO.out _).mono ?_
    rintro e w5 ⟨rfl, hB5⟩
    have HX5 := hide (HX4.out.later hB5)
    clear HX4 hB5 HO
    obtain ⟨hb, r0, r1, r2, f0, f1, f2⟩ := HX5.out.back
    go_wp2
    obtain ⟨m0, m1, m2⟩ := es3 HX5.out.2.1 (.int .i64 va.k) (.int .i64 va.n) (.string va.t)
    refine bodyPost_ret (v := .tuple #[vaV va, .bool true]) (by simp [results, Tryz.results35, go_sem, m0, m1, m2]) rfl ?_
    exact ⟨rfl, below_es3 HX5.out.2.2 (by omega) _ _ _⟩
end Go.Proofs.YtamkncfdfaejjaaGreatDoor

/- Whole events, loaded, stored and built in one step. -/
import Derived.Test.YthimglgjeibaoaaPaM
namespace Go.Proofs.Ythimglgjeibaoaa
open Go.RowKit
set_option linter.unusedVariables false
set_option linter.unusedSimpArgs false
theorem infoEv : (Try.prog.info? 46).map (·.size) = some 17 := by kernel_rfl
def Okv (C : Array Value) : Prop := C.size = 17 ∧ C.all (·.oneCell') = true
theorem evL_ok (e : Ev) : Okv (evL e).toArray := ⟨rfl, by simp [Value.oneCell']⟩
/-- an event with its kind alone -/
abbrev onlyL (k : Int) : List Value := [.int .i64 k, .int .i64 0, .int .i64 0, .string ⟨#[]⟩, .int .i64 0, .int .i64 0, .string ⟨#[]⟩, .int .i64 0, .int .i64 0, .string ⟨#[]⟩, .int .i64 0, .int .i64 0, .string ⟨#[]⟩, .bool false, .int .i64 0, .int .i64 0, .string ⟨#[]⟩]
theorem onlyL_ok (k : Int) : Okv (onlyL k).toArray := ⟨rfl, by simp [Value.oneCell']⟩
theorem built_only (k : Int) : Try.prog.built 46 [(0, .int .i64 k)] = some (onlyL k).toArray := by kernel_rfl
theorem we_load {ops : Array Oper} {rest : List Oper} {o : Oper} {a : Act} {W : World} {Q : Exit → Act → World → Prop} (hw : Region.wanted o (yielded ops a.tmps) = true) (x : Operand) (ho : o.op = .load 46 x)
    (g : Nat) (hx : a.eval x = .pointer (some ⟨g, 0, none⟩)) (cs : Array Value) (hg : W.heap[g]? = some (.cells cs 46 (0, 0))) (hs : Okv cs)
    (h : wpList Try.prog ops Q rest (a.put o.dst (.agg cs)) W) : wpList Try.prog ops Q (o :: rest) a W :=
  wpList_step fun K hK => by
    rw [if_pos hw]
    exact wp_load_row 46 x ho g hx 46 cs (0, 0) _ hg Try.underlying46 rfl (by rw [infoEv, hs.1]) (hK _ _ h)
theorem setRow_new (w : World) (c c' : Array Value) (t : TypeId) : (w.alloc (.cells c t)).setRow w.heap.size c' = w.alloc (.cells c' t) := by
  simp only [World.setRow, World.alloc]
  congr 1
  apply Array.ext_getElem?
  intro i
  rw [Array.getElem?_modify]
  by_cases h : w.heap.size = i
  · subst h
    simp
  · have h' : ¬ i = w.heap.size := fun e => h e.symm
    simp [h, h', Array.getElem?_push]
/-- into the block that was made last -/
theorem we_store {ops : Array Oper} {rest : List Oper} {o : Oper} {a : Act} {V : World} {Z : Array Value} {Q : Exit → Act → World → Prop} (hw : Region.wanted o (yielded ops a.tmps) = true) (x y : Operand) (ho : o.op = .store 46 x y)
    (g : Nat) (hx : a.eval x = .pointer (some ⟨g, 0, none⟩)) (cs : Array Value) (hy : a.eval y = .agg cs) (hg : g = V.heap.size) (hz : Z.size = 17) (hs : Okv cs)
    (h : wpList Try.prog ops Q rest (a.put o.dst undef) (V.alloc (.cells cs 46))) : wpList Try.prog ops Q (o :: rest) a (V.alloc (.cells Z 46)) :=
  wpList_step fun K hK => by
    rw [if_pos hw]
    subst hg
    refine wp_store_row 46 x y ho V.heap.size cs hx hy 46 Z (by rw [heap_alloc_at, if_pos rfl]) (by rw [infoEv, hs.1]) (by rw [hz, hs.1]) hs.2 ?_
    rw [setRow_new]
    exact hK _ _ h
theorem we_build {ops : Array Oper} {rest : List Oper} {o : Oper} {a : Act} {W : World} {Q : Exit → Act → World → Prop} (hgd : o.guard = none) (x : Operand) (ho : o.op = .build 46 #[(0, x)]) (k : Int) (hx : a.eval x = .int .i64 k)
    (h : wpList Try.prog ops Q rest (a.put o.dst (.agg (onlyL k).toArray)) W) : wpList Try.prog ops Q (o :: rest) a W := by
  have hb : Try.prog.built 46 ((#[(0, x)] : Array (Nat × Operand)).map fun (i, x) => (i, a.eval x)).toList = some (onlyL k).toArray := by
    simp only [List.map_toArray, List.map_cons, List.map_nil, hx]
    exact built_only k
  refine wpList_build hgd 46 #[(0, x)] ho (by rw [hb]; rfl) ?_
  rw [hb]
  exact h
end Go.Proofs.Ythimglgjeibaoaa

/- The table of ways. -/
import Derived.Test.YtbckbfjnifafaaaGreatDoorBx
import Derived.WalkKit
import Derived.Laws.Rows
import Derived.Laws.Tables
namespace Go.Proofs.YtbckbfjnifafaaaGreatDoor
open Go.RowKit
set_option linter.unusedVariables false
set_option linter.unusedSimpArgs false
/-- the table of ways -/
abbrev waysA : Array Value := #[.nilFunc, .nilFunc, .nilFunc, .func (.func 80) #[] #[], .func (.func 81) #[] #[], .func (.func 82) #[] #[], .func (.func 83) #[] #[], .func (.func 84) #[] #[], .func (.func 85) #[] #[], .func (.func 86) #[] #[], .func (.func 87) #[] #[], .func (.func 88) #[] #[], .func (.func 89) #[] #[], .func (.func 90) #[] #[], .func (.func 91) #[] #[], .func (.func 92) #[] #[], .func (.func 93) #[] #[], .func (.func 94) #[] #[]]
theorem infoWays : (Tryz.prog.info? 91).map (·.size) = some 18 := by kernel_rfl
theorem rowNew (w : World) (c c' : Array Value) (t : TypeId) : (w.alloc (.cells c t)).setRow w.heap.size c' = w.alloc (.cells c' t) := by
  simp only [World.setRow, World.alloc]
  congr 1
  apply Array.ext_getElem?
  intro i
  rw [Array.getElem?_modify]
  by_cases h : w.heap.size = i
  · subst h
    simp
  · have h' : ¬ i = w.heap.size := fun e => h e.symm
    simp [h, h', Array.getElem?_push]
theorem st_ways {ops : Array Oper} {rest : List Oper} {o : Oper} {a : Act} {V : World} {Z : Array Value} {Q : Exit → Act → World → Prop} (hgd : o.guard = none) (x y : Operand) (ho : o.op = .store 91 x y)
    (hx : a.eval x = .pointer (some ⟨V.heap.size, 0, none⟩)) (hy : a.eval y = .agg waysA) (hz : Z.size = 18)
    (h : wpList Tryz.prog ops Q rest (a.put o.dst undef) (V.alloc (.cells waysA 91))) : wpList Tryz.prog ops Q (o :: rest) a (V.alloc (.cells Z 91)) :=
  wpList_plain hgd fun K hK => by
    refine wp_store_row 91 x y ho V.heap.size waysA hx hy 91 Z (by rw [heap_alloc_at, if_pos rfl]) (by rw [infoWays]; rfl) (by rw [hz]; rfl) (by simp [Value.oneCell']) ?_
    rw [rowNew]
    exact hK _ _ h
set_option maxRecDepth 100000 in
set_option maxHeartbeats 1600000 in
theorem actWays_any (w : World) :
    Calls Tryz.prog 70 #[] w fun e w' => e = .returned (.agg waysA) ∧ Below w.heap.size w w' := by
  go_enter Tryz.func70, Tryz.ntmps70
  go_wp2_with (first
    | (with_reducible show wpList _ _ _ (Oper.mk _ (Op.store 91 _ _) _ _ _ _ :: _) _ _; refine st_ways rfl (.tmp 0) (.tmp 6) rfl rfl rfl rfl ?_))
  refine bodyPost_ret (v := .agg waysA) ?_ rfl ⟨rfl, (Below.refl _ _).alloc (Nat.le_refl _) _⟩
  exact results_cell_row Tryz.results70 _ _ w.heap.size 91 waysA (0, 0) _ rfl (by rw [heap_alloc_at, if_pos rfl]) Tryz.underlying91 rfl (by rw [infoWays]; rfl)
end Go.Proofs.YtbckbfjnifafaaaGreatDoor

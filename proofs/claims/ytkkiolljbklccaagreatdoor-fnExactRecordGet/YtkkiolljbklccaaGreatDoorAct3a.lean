/- The table of ways. -/
import Derived.Test.YtkkiolljbklccaaGreatDoorBx
import Derived.WalkKit
import Derived.Laws.Rows
import Derived.Laws.Tables
namespace Go.Proofs.YtkkiolljbklccaaGreatDoor
open Go.RowKit
set_option linter.unusedVariables false
set_option linter.unusedSimpArgs false
/-- the table of ways -/
abbrev waysA : Array Value := #[.nilFunc, .nilFunc, .nilFunc, .func (.func 59) #[] #[], .func (.func 60) #[] #[], .func (.func 61) #[] #[], .func (.func 62) #[] #[], .func (.func 63) #[] #[], .func (.func 64) #[] #[], .func (.func 65) #[] #[], .func (.func 66) #[] #[], .func (.func 67) #[] #[], .func (.func 68) #[] #[], .func (.func 69) #[] #[], .func (.func 70) #[] #[], .func (.func 71) #[] #[], .func (.func 72) #[] #[], .func (.func 73) #[] #[]]
theorem infoWays : (Tryz.prog.info? 63).map (·.size) = some 18 := by kernel_rfl
theorem rowNew (w : World) (c c' : Array Value) (t : TypeId) : (w.alloc (.cells c t)).setRow w.heap.size c' = w.alloc (.cells c' t) := by
  simp only [World.setRow, World.alloc]
  congr 1
  apply Array.ext_getElem?
  intro i
  rw [Array.getElem?_modify]
  by_cases h : w.heap.size = i
  · subst h
    simp
  · have h' : ¬ i = w.heap.size := fun e => h e.symm
    simp [h, h', Array.getElem?_push]
theorem st_ways {ops : Array Oper} {rest : List Oper} {o : Oper} {a : Act} {V : World} {Z : Array Value} {Q : Exit → Act → World → Prop} (hgd : o.guard = none) (x y : Operand) (ho : o.op = .store 63 x y)
    (hx : a.eval x = .pointer (some ⟨V.heap.size, 0, none⟩)) (hy : a.eval y = .agg waysA) (hz : Z.size = 18)
    (h : wpList Tryz.prog ops Q rest (a.put o.dst undef) (V.alloc (.cells waysA 63))) : wpList Tryz.prog ops Q (o :: rest) a (V.alloc (.cells Z 63)) :=
  wpList_plain hgd fun K hK => by
    refine wp_store_row 63 x y ho V.heap.size waysA hx hy 63 Z (by rw [heap_alloc_at, if_pos rfl]) (by rw [infoWays]; rfl) (by rw [hz]; rfl) (by simp [Value.oneCell']) ?_
    rw [rowNew]
    exact hK _ _ h
set_option maxRecDepth 100000 in
set_option maxHeartbeats 1600000 in
theorem actWays_any (w : World) :
    Calls Tryz.prog 42 #[] w fun e w' => e = .returned (.agg waysA) ∧ Below w.heap.size w w' := by
  go_enter Tryz.func42, Tryz.ntmps42
  go_wp2_with (first
    | (with_reducible show wpList _ _ _ (Oper.mk _ (Op.store 63 _ _) _ _ _ _ :: _) _ _; refine st_ways rfl (.tmp 0) (.tmp 6) rfl rfl rfl rfl ?_))
  refine bodyPost_ret (v := .agg waysA) ?_ rfl ⟨rfl, (Below.refl _ _).alloc (Nat.le_refl _) _⟩
  exact results_cell_row Tryz.results42 _ _ w.heap.size 63 waysA (0, 0) _ rfl (by rw [heap_alloc_at, if_pos rfl]) Tryz.underlying63 rfl (by rw [infoWays]; rfl)
end Go.Proofs.YtkkiolljbklccaaGreatDoor

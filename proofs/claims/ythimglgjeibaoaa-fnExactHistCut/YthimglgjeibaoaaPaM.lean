/- What the program knows of events, as a value of many cells: whole loads and stores of it in one step. -/
import Derived.Test.YthimglgjeibaoaaEvM
import Derived.Test.YthimglgjeibaoaaPlEv
import Derived.Laws.Rows
import Derived.Laws.Tables
import Derived.BigQuiet
import Derived.Deep.Draws
import Derived.Deep.RegionHeld3
namespace Go.Proofs.Ythimglgjeibaoaa
open Go.RowKit
set_option linter.unusedVariables false
set_option linter.unusedSimpArgs false
theorem gen_exit {Q : Exit → Act → World → Prop} {x : Exit} {a : Act} {W : World} (p : World → Prop) (h0 : p W) (h : ∀ X, p X → Q x a X) : Q x a W := h W h0
theorem infoPast : (Try.prog.info? 50).map (·.size) = some 47 := by kernel_rfl
/-- as many cells, each of one -/
def Okc (C : Array Value) : Prop := C.size = 47 ∧ C.all (·.oneCell') = true
theorem Okc.set {C : Array Value} {i : Nat} {v : Value} (h : Okc C) (hv : v.oneCell' = true) : Okc (C.setIfInBounds i v) := by
  refine ⟨by simp [h.1], ?_⟩
  rw [Array.all_eq_true_iff_forall_mem]
  intro x hx
  rcases Array.mem_or_eq_of_mem_setIfInBounds hx with h1 | h1
  · exact (Array.all_eq_true_iff_forall_mem.1 h.2) x h1
  · rw [h1]; exact hv
theorem wl61 {ops : Array Oper} {rest : List Oper} {o : Oper} {a : Act} {W : World} {Q : Exit → Act → World → Prop} (hgd : o.guard = none) (x : Operand) (ho : o.op = .load 50 x)
    (g : Nat) (hx : a.eval x = .pointer (some ⟨g, 0, none⟩)) (cs : Array Value) (hg : W.heap[g]? = some (.cells cs 50 (0, 0))) (hs : Okc cs)
    (h : wpList Try.prog ops Q rest (a.put o.dst (.agg cs)) W) : wpList Try.prog ops Q (o :: rest) a W :=
  wpList_load_row hgd 50 x ho g hx 50 cs (0, 0) _ hg Try.underlying50 rfl (by rw [infoPast, hs.1]) h
theorem ws61 {ops : Array Oper} {rest : List Oper} {o : Oper} {a : Act} {W : World} {Q : Exit → Act → World → Prop} (hgd : o.guard = none) (x y : Operand) (ho : o.op = .store 50 x y)
    (g : Nat) (hx : a.eval x = .pointer (some ⟨g, 0, none⟩)) (cs : Array Value) (hy : a.eval y = .agg cs) (old : Array Value) (hg : W.heap[g]? = some (.cells old 50 (0, 0))) (ho' : old.size = 47) (hs : Okc cs)
    (h : ∀ W', Hid (W' = W.setRow g cs) → wpList Try.prog ops Q rest (a.put o.dst undef) W') : wpList Try.prog ops Q (o :: rest) a W :=
  wpList_plain hgd fun K hK => wp_store_row 50 x y ho g cs hx hy 50 old hg (by rw [infoPast, hs.1]) (by rw [ho', hs.1]) hs.2 (hK _ _ (h _ rfl))
theorem top2 (w : World) (A B : Obj) : ((w.alloc A).alloc B).heap[w.heap.size]? = some A := by
  rw [heap_alloc_at, if_neg (by simp), heap_alloc_at, if_pos rfl]
theorem top2' (w : World) (A B : Obj) : ((w.alloc A).alloc B).heap[w.heap.size + 1]? = some B := by
  rw [heap_alloc_at, if_pos (by simp)]
theorem top3 (w : World) (A B C : Obj) : (((w.alloc A).alloc B).alloc C).heap[w.heap.size]? = some A := by
  rw [heap_alloc_at, if_neg (by simp; omega), top2]
theorem top3' (w : World) (A B C : Obj) : (((w.alloc A).alloc B).alloc C).heap[w.heap.size + 1]? = some B := by
  rw [heap_alloc_at, if_neg (by simp), top2']
theorem top3'' (w : World) (A B C : Obj) : (((w.alloc A).alloc B).alloc C).heap[w.heap.size + 1 + 1]? = some C := by
  rw [heap_alloc_at, if_pos (by simp)]
theorem setRow_size (w : World) (g : Nat) (C : Array Value) : (w.setRow g C).heap.size = w.heap.size := by simp [World.setRow]
theorem below_setRow {n : Nat} {w w1 : World} (h : Below n w w1) {g : Nat} (hg : n ≤ g) (C : Array Value) : Below n w (w1.setRow g C) := by
  refine ⟨h.os, h.tape, h.output, by rw [setRow_size]; exact h.size, fun k hk => ?_⟩
  rw [setRow_other w1 g k C (by omega)]
  exact h.block k hk
theorem results_past {fn : Func} {p s : Tmp} (h : fn.results = #[.cell p 50, .tmp s]) (tmps : Array Value) (W : World) (g : Nat) (cs : Array Value)
    (hp : tmps.getD p undef = .pointer (some ⟨g, 0, none⟩)) (hg : W.heap[g]? = some (.cells cs 50 (0, 0))) (hs : Okc cs) :
    (results fn tmps).run Try.prog W = .ok (.tuple #[.agg cs, tmps.getD s undef]) W := by
  have hl := run_loadVar_row (P := Try.prog) W g 50 50 cs (0, 0) _ hg Try.underlying50 rfl (by rw [infoPast, hs.1])
  have hp' : tmps[p]?.getD undef = .pointer (some ⟨g, 0, none⟩) := by simpa using hp
  simp [results, h, hp', asAddr, hl]

/-- the cells of what is known -/
def pastL (h : Pl.Past) : List Value := .int .i64 h.events :: .int .i64 h.tasks :: .int .i64 h.came :: .int .i64 h.asked :: .int .i64 h.due :: (h.opn.map (fun x => Value.int .i64 x) ++ [.bool h.news, .bool h.over])
def pastC (h : Pl.Past) : Array Value := (pastL h).toArray
abbrev pastV (h : Pl.Past) : Value := .agg (pastC h)
theorem pastC_ok (h : Pl.Past) (hz : h.opn.length = 40) : Okc (pastC h) := by
  refine ⟨by simp [pastC, pastL, hz], ?_⟩
  simp [pastC, pastL, Value.oneCell']
theorem pastC_0 (h : Pl.Past) : (pastC h)[0]? = some (.int .i64 h.events) := rfl
theorem pastC_1 (h : Pl.Past) : (pastC h)[1]? = some (.int .i64 h.tasks) := rfl
theorem pastC_2 (h : Pl.Past) : (pastC h)[2]? = some (.int .i64 h.came) := rfl
theorem pastC_3 (h : Pl.Past) : (pastC h)[3]? = some (.int .i64 h.asked) := rfl
theorem pastC_4 (h : Pl.Past) : (pastC h)[4]? = some (.int .i64 h.due) := rfl
theorem pastC_opn (h : Pl.Past) (hz : h.opn.length = 40) (j : Nat) (hj : j < 40) : (pastC h)[5 + j]? = some (.int .i64 (h.opn[j]?.getD 0)) := by
  have : (pastC h)[5 + j]? = (h.opn.map (fun x => Value.int .i64 x) ++ [.bool h.news, .bool h.over])[j]? := by
    simp only [pastC, pastL, List.getElem?_toArray]
    rw [show 5 + j = j + 1 + 1 + 1 + 1 + 1 by omega]
    rfl
  rw [this, List.getElem?_append_left (by simp [hz]; exact hj), List.getElem?_map, List.getElem?_eq_getElem (by omega)]
  rfl
theorem pastC_tail (h : Pl.Past) (hz : h.opn.length = 40) (j : Nat) : (pastC h)[45 + j]? = [Value.bool h.news, .bool h.over][j]? := by
  have : (pastC h)[45 + j]? = (h.opn.map (fun x => Value.int .i64 x) ++ [.bool h.news, .bool h.over])[40 + j]? := by
    simp only [pastC, pastL, List.getElem?_toArray]
    rw [show 45 + j = (40 + j) + 1 + 1 + 1 + 1 + 1 by omega]
    rfl
  rw [this, List.getElem?_append_right (by simp [hz])]
  simp [hz]
theorem pastC_45 (h : Pl.Past) (hz : h.opn.length = 40) : (pastC h)[45]? = some (.bool h.news) := pastC_tail h hz 0
theorem pastC_46 (h : Pl.Past) (hz : h.opn.length = 40) : (pastC h)[46]? = some (.bool h.over) := pastC_tail h hz 1
theorem pastC_set0 (h : Pl.Past) (x : Int) : (pastC h).setIfInBounds 0 (.int .i64 x) = pastC { h with events := x } := by simp [pastC, pastL]
theorem pastC_set1 (h : Pl.Past) (x : Int) : (pastC h).setIfInBounds 1 (.int .i64 x) = pastC { h with tasks := x } := by simp [pastC, pastL]
theorem pastC_set2 (h : Pl.Past) (x : Int) : (pastC h).setIfInBounds 2 (.int .i64 x) = pastC { h with came := x } := by simp [pastC, pastL]
theorem pastC_set3 (h : Pl.Past) (x : Int) : (pastC h).setIfInBounds 3 (.int .i64 x) = pastC { h with asked := x } := by simp [pastC, pastL]
theorem pastC_set4 (h : Pl.Past) (x : Int) : (pastC h).setIfInBounds 4 (.int .i64 x) = pastC { h with due := x } := by simp [pastC, pastL]
theorem pastC_setO (h : Pl.Past) (hz : h.opn.length = 40) (j : Nat) (hj : j < 40) (x : Int) : (pastC h).setIfInBounds (5 + j) (.int .i64 x) = pastC { h with opn := h.opn.set j x } := by
  rw [show 5 + j = j + 1 + 1 + 1 + 1 + 1 by omega]
  simp only [pastC, pastL, List.setIfInBounds_toArray, List.set_cons_succ]
  rw [List.set_append_left _ _ (by simp [hz]; exact hj), List.map_set]
theorem pastC_setT (h : Pl.Past) (hz : h.opn.length = 40) (j : Nat) (v : Value) : (pastC h).setIfInBounds (45 + j) v = (Value.int .i64 h.events :: .int .i64 h.tasks :: .int .i64 h.came :: .int .i64 h.asked :: .int .i64 h.due :: (h.opn.map (fun x => Value.int .i64 x) ++ [Value.bool h.news, .bool h.over].set j v)).toArray := by
  rw [show 45 + j = (40 + j) + 1 + 1 + 1 + 1 + 1 by omega]
  simp only [pastC, pastL, List.setIfInBounds_toArray, List.set_cons_succ]
  rw [List.set_append_right _ _ (by simp [hz])]
  simp [hz]
theorem pastC_set45 (h : Pl.Past) (hz : h.opn.length = 40) (x : Bool) : (pastC h).setIfInBounds 45 (.bool x) = pastC { h with news := x } := pastC_setT h hz 0 (.bool x)
theorem pastC_set46 (h : Pl.Past) (hz : h.opn.length = 40) (x : Bool) : (pastC h).setIfInBounds 46 (.bool x) = pastC { h with over := x } := pastC_setT h hz 1 (.bool x)
/-- in a region that draws -/
theorem st61l {ops : Array Oper} {o : Oper} {a : Act} {W : World} {K : Act → World → Prop} {Q : Exit → Act → World → Prop} {E : Prop} (hgd : o.guard = none) (x : Operand) (ho : o.op = .load 50 x)
    (g : Nat) (hx : a.eval x = .pointer (some ⟨g, 0, none⟩)) (cs : Array Value) (hg : W.heap[g]? = some (.cells cs 50 (0, 0))) (hs : Okc cs)
    (h : K (a.put o.dst (.agg cs)) W) : if Region.wanted o (yielded ops a.tmps) = true then Oper.wp Try.prog o a W K Q else E := by
  rw [if_pos (by simp [Region.wanted, hgd])]
  exact wp_load_row 50 x ho g hx 50 cs (0, 0) _ hg Try.underlying50 rfl (by rw [infoPast, hs.1]) h
theorem st61s {ops : Array Oper} {o : Oper} {a : Act} {W : World} {K : Act → World → Prop} {Q : Exit → Act → World → Prop} {E : Prop} (hgd : o.guard = none) (x y : Operand) (ho : o.op = .store 50 x y)
    (g : Nat) (hx : a.eval x = .pointer (some ⟨g, 0, none⟩)) (cs : Array Value) (hy : a.eval y = .agg cs) (old : Array Value) (hg : W.heap[g]? = some (.cells old 50 (0, 0))) (ho' : old.size = 47) (hs : Okc cs)
    (h : ∀ W', Hid (W' = W.setRow g cs) → K (a.put o.dst undef) W') : if Region.wanted o (yielded ops a.tmps) = true then Oper.wp Try.prog o a W K Q else E := by
  rw [if_pos (by simp [Region.wanted, hgd])]
  exact wp_store_row 50 x y ho g cs hx hy 50 old hg (by rw [infoPast, hs.1]) (by rw [ho', hs.1]) hs.2 (h _ rfl)
theorem below_drewN' {n : Nat} {w W : World} (h : Below n w W) (k : Nat) : Below n w (W.drewN k) := ⟨h.os, h.tape, h.output, h.size, h.block⟩
theorem below_drew' {n : Nat} {w W : World} (h : Below n w W) : Below n w W.drew := ⟨h.os, h.tape, h.output, h.size, h.block⟩
theorem bel3 (w : World) (A B C : Obj) : Below w.heap.size w (((w.alloc A).alloc B).alloc C) := ((((Below.refl _ _).alloc (Nat.le_refl _) _).alloc (by simp) _).alloc (by simp; omega) _)
theorem yl61 {ops : Array Oper} {S : World → Prop} {o : Oper} {a : Act} (hw : Region.wanted o (yielded ops a.tmps) = true) (x : Operand) (ho : o.op = .load 50 x)
    (g : Nat) (hx : a.eval x = .pointer (some ⟨g, 0, none⟩)) (cs : Array Value) (hS : ∀ W, S W → W.heap[g]? = some (.cells cs 50 (0, 0))) (hs : Okc cs) : YieldsIf Try.prog ops S o (.agg cs) a :=
  .inl ⟨hw, fun W hW => by
    unfold execOp
    simp only [ho, hx, Instr.loadAt, Instr.sureAddr, Sem.run_bind, Sem.run_pure, Result.andThen_ok, run_loadVar_row (P := Try.prog) W g 50 50 cs (0, 0) _ (hS W hW) Try.underlying50 rfl (by rw [infoPast, hs.1])]⟩
theorem gen_code {P : Program} {c : Code} {Q : Exit → Act → World → Prop} {a : Act} {W : World} (p : World → Prop) (h0 : p W) (h : ∀ X, p X → c.wp P Q a X) : c.wp P Q a W := h W h0
end Go.Proofs.Ythimglgjeibaoaa

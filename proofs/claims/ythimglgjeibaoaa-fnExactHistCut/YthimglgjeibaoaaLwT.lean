/- Events copied by the laws. -/
import Derived.Test.YthimglgjeibaoaaLwS
import Derived.Test.YthimglgjeibaoaaImK
namespace Go.Proofs.Ythimglgjeibaoaa
open Go.RowKit
set_option linter.unusedVariables false
set_option linter.unusedSimpArgs false
set_option maxRecDepth 100000 in
set_option maxHeartbeats 1600000 in
theorem toCame_any (k p : Int) (nm : ByteArray) (o : Bool) (vk vn : Int) (vt : ByteArray) (w : World) :
    Calls Try.prog 32 #[cameV k p nm o vk vn vt] w fun e w' => e = .returned (cameV k p nm o vk vn vt) ∧ Below w.heap.size w w' := by
  have hv := hide (toValue_any vk vn vt)
  go_enter Try.func32, Try.ntmps32
  go_wp2_with fail
  refine (hv.out _).mono ?_
  rintro e w1 ⟨rfl, hB1⟩
  obtain ⟨b0, b1, b2, hsz, HB⟩ := boxes3 hB1
  clear hB1 hv
  have o0 : w1.cell? ⟨w.heap.size + 1 + 1, 0, none⟩ = some (.int .i64 k) := cell_of_block b2 0
  have o1 : w1.cell? ⟨w.heap.size + 1 + 1, 1, none⟩ = some (.int .i64 p) := cell_of_block b2 1
  have o2 : w1.cell? ⟨w.heap.size + 1 + 1, 2, none⟩ = some (.string nm) := cell_of_block b2 2
  have o3 : w1.cell? ⟨w.heap.size + 1 + 1, 3, none⟩ = some (.bool o) := cell_of_block b2 3
  have o4 : w1.cell? ⟨w.heap.size + 1 + 1, 4, none⟩ = some (.int .i64 0) := cell_of_block b2 4
  have o5 : w1.cell? ⟨w.heap.size + 1 + 1, 5, none⟩ = some (.int .i64 0) := cell_of_block b2 5
  have o6 : w1.cell? ⟨w.heap.size + 1 + 1, 6, none⟩ = some (.string ⟨#[]⟩) := cell_of_block b2 6
  have f4 := free_of_block b2 4
  have f5 := free_of_block b2 5
  have f6 := free_of_block b2 6
  have p0 : w1.cell? ⟨w.heap.size + 1, 0, none⟩ = some (.int .i64 0) := cell_of_block b1 0
  have g0 := free_of_block b1 0
  have p1 : w1.cell? ⟨w.heap.size + 1, 1, none⟩ = some (.int .i64 0) := cell_of_block b1 1
  have g1 := free_of_block b1 1
  have p2 : w1.cell? ⟨w.heap.size + 1, 2, none⟩ = some (.string ⟨#[]⟩) := cell_of_block b1 2
  have g2 := free_of_block b1 2
  have p3 : w1.cell? ⟨w.heap.size + 1, 3, none⟩ = some (.bool false) := cell_of_block b1 3
  have g3 := free_of_block b1 3
  have p4 : w1.cell? ⟨w.heap.size + 1, 4, none⟩ = some (.int .i64 0) := cell_of_block b1 4
  have g4 := free_of_block b1 4
  have p5 : w1.cell? ⟨w.heap.size + 1, 5, none⟩ = some (.int .i64 0) := cell_of_block b1 5
  have g5 := free_of_block b1 5
  have p6 : w1.cell? ⟨w.heap.size + 1, 6, none⟩ = some (.string ⟨#[]⟩) := cell_of_block b1 6
  have g6 := free_of_block b1 6
  have HBB := hide HB
  have BB1 := hide b1
  clear b0 b1 b2 HB
  go_wp2
  generalize hW : ((((((((((w1.setCell ⟨w.heap.size + 1 + 1, 4, none⟩ (.int .i64 vk)).setCell ⟨w.heap.size + 1 + 1, 5, none⟩ (.int .i64 vn)).setCell ⟨w.heap.size + 1 + 1, 6, none⟩ (.string vt)).setCell ⟨w.heap.size + 1, 0, none⟩ (.int .i64 k)).setCell ⟨w.heap.size + 1, 1, none⟩ (.int .i64 p)).setCell ⟨w.heap.size + 1, 2, none⟩ (.string nm)).setCell ⟨w.heap.size + 1, 3, none⟩ (.bool o)).setCell ⟨w.heap.size + 1, 4, none⟩ (.int .i64 vk)).setCell ⟨w.heap.size + 1, 5, none⟩ (.int .i64 vn)).setCell ⟨w.heap.size + 1, 6, none⟩ (.string vt)) = W9
  have hbl : Below w.heap.size w W9 := by
    rw [← hW]
    refine (((((((((HBB.out.setCell ?_ _).setCell ?_ _).setCell ?_ _).setCell ?_ _).setCell ?_ _).setCell ?_ _).setCell ?_ _).setCell ?_ _).setCell ?_ _).setCell ?_ _ <;> (simp only; omega)
  have hbk : W9.heap[w.heap.size + 1]? = some (.cells #[.int .i64 k, .int .i64 p, .string nm, .bool o, .int .i64 vk, .int .i64 vn, .string vt] 44 (0, 0)) := by
    have h0 : (((w1.setCell ⟨w.heap.size + 1 + 1, 4, none⟩ (.int .i64 vk)).setCell ⟨w.heap.size + 1 + 1, 5, none⟩ (.int .i64 vn)).setCell ⟨w.heap.size + 1 + 1, 6, none⟩ (.string vt)).heap[w.heap.size + 1]? = some (.cells #[.int .i64 0, .int .i64 0, .string ⟨#[]⟩, .bool false, .int .i64 0, .int .i64 0, .string ⟨#[]⟩] 44 (0, 0)) := by
      rw [Below.heap_setCell _ _ _ _ (by simp only; omega), Below.heap_setCell _ _ _ _ (by simp only; omega), Below.heap_setCell _ _ _ _ (by simp only; omega)]; exact BB1.out
    rw [← hW, (block_set (block_set (block_set (block_set (block_set (block_set (block_set h0 0 _) 1 _) 2 _) 3 _) 4 _) 5 _) 6 _)]
    rfl
  clear hW
  have c0 := cell_of_block hbk 0
  have c1 := cell_of_block hbk 1
  have c2 := cell_of_block hbk 2
  have c3 := cell_of_block hbk 3
  have c4 := cell_of_block hbk 4
  have c5 := cell_of_block hbk 5
  have c6 := cell_of_block hbk 6
  simp only [List.getElem?_toArray, List.getElem?_cons_zero, List.getElem?_cons_succ] at c0 c1 c2 c3 c4 c5 c6
  exact bodyPost_ret (v := cameV k p nm o vk vn vt) (by simp [results, Try.results32, go_sem, c0, c1, c2, c3, c4, c5, c6]) rfl ⟨rfl, hbl⟩
theorem ws55 {ops : Array Oper} {rest : List Oper} {o : Oper} {a : Act} {W : World} {Q : Exit → Act → World → Prop} (hgd : o.guard = none) (x y : Operand) (ho : o.op = .store 46 x y)
    (g : Nat) (hx : a.eval x = .pointer (some ⟨g, 0, none⟩)) (cs : Array Value) (hy : a.eval y = .agg cs) (old : Array Value) (hg : W.heap[g]? = some (.cells old 46 (0, 0))) (ho' : old.size = 17) (hs : Okv cs)
    (h : ∀ W', Hid (W' = W.setRow g cs) → wpList Try.prog ops Q rest (a.put o.dst undef) W') : wpList Try.prog ops Q (o :: rest) a W :=
  wpList_plain hgd fun K hK => wp_store_row 46 x y ho g cs hx hy 46 old hg (by rw [infoEv, hs.1]) (by rw [ho', hs.1]) hs.2 (hK _ _ (h _ rfl))
theorem results_ev {fn : Func} {p : Tmp} (h : fn.results = #[.cell p 46]) (tmps : Array Value) (W : World) (g : Nat) (cs : Array Value)
    (hp : tmps.getD p undef = .pointer (some ⟨g, 0, none⟩)) (hg : W.heap[g]? = some (.cells cs 46 (0, 0))) (hs : Okv cs) :
    (results fn tmps).run Try.prog W = .ok (.agg cs) W :=
  results_cell_row h tmps W g 46 cs (0, 0) _ hp hg Try.underlying46 rfl (by rw [infoEv, hs.1])
/-- the event, what is handed back, the copy as far as it is made -/
def T3 (w : World) (e : Ev) (O : Array Value) (X : World) : Prop :=
  X.heap[w.heap.size]? = some (.cells (evL e).toArray 38 (0, 0)) ∧ (∃ Z, X.heap[w.heap.size + 1]? = some (.cells Z 46 (0, 0)) ∧ Z.size = 17) ∧ X.heap[w.heap.size + 1 + 1]? = some (.cells O 46 (0, 0)) ∧ Below w.heap.size w X
theorem T3.later {w X X1 : World} {e : Ev} {O : Array Value} (h : T3 w e O X) (hB : Below X.heap.size X X1) : T3 w e O X1 := by
  obtain ⟨h0, ⟨Z, h1, hZ⟩, h2, hb⟩ := h
  have l0 := (Array.getElem?_eq_some_iff.1 h0).1
  have l1 := (Array.getElem?_eq_some_iff.1 h1).1
  have l2 := (Array.getElem?_eq_some_iff.1 h2).1
  exact ⟨(hB.block _ l0).trans h0, ⟨Z, (hB.block _ l1).trans h1, hZ⟩, (hB.block _ l2).trans h2, hb.trans (hB.mono hb.size)⟩
theorem T3.set {w X : World} {e : Ev} {O : Array Value} (h : T3 w e O X) (i : Nat) (v : Value) : T3 w e (O.setIfInBounds i v) (X.setCell ⟨w.heap.size + 1 + 1, i, none⟩ v) := by
  obtain ⟨h0, ⟨Z, h1, hZ⟩, h2, hb⟩ := h
  exact ⟨(Below.heap_setCell _ _ _ _ (by simp only; omega)).trans h0, ⟨Z, (Below.heap_setCell _ _ _ _ (by simp only; omega)).trans h1, hZ⟩, block_set h2 i v, hb.setCell (by simp only; omega) _⟩
set_option maxRecDepth 100000 in
set_option maxHeartbeats 1600000 in
theorem toEvent_any (e : Ev) (w : World) :
    Calls Try.prog 14 #[evV e] w fun x w' => x = .returned (evV e) ∧ Below w.heap.size w w' := by
  have hv := hide (toValue_any e.vk e.vn e.vt)
  have hcm := hide (toCmd_any e.ck e.cn e.ak e.an e.ax)
  have hca := hide (toCame_any e.ct e.mp e.mn e.mo e.wk e.wn e.wt)
  go_enter Try.func14, Try.ntmps14
  go_wp2_with fail
  refine (hv.out _).mono ?_
  rintro x1 X1 ⟨rfl, hB1⟩
  have HX1 : Hid (T3 w e ([.int .i64 e.k, .int .i64 0, .int .i64 0, .string ⟨#[]⟩, .int .i64 0, .int .i64 0, .string ⟨#[]⟩, .int .i64 0, .int .i64 0, .string ⟨#[]⟩, .int .i64 0, .int .i64 0, .string ⟨#[]⟩, .bool false, .int .i64 0, .int .i64 0, .string ⟨#[]⟩] : List Value).toArray X1) := T3.later ⟨top3 _ _ _ _, ⟨_, top3' _ _ _ _, rfl⟩, top3'' _ _ _ _, bel3 _ _ _ _⟩ hB1
  clear hB1 hv
  have a4 : X1.cell? ⟨w.heap.size, 4, none⟩ = some (.int .i64 e.many) := cell_of_block HX1.out.1 4
  have a5 : X1.cell? ⟨w.heap.size, 5, none⟩ = some (.int .i64 e.ck) := cell_of_block HX1.out.1 5
  have a6 : X1.cell? ⟨w.heap.size, 6, none⟩ = some (.string e.cn) := cell_of_block HX1.out.1 6
  have a7 : X1.cell? ⟨w.heap.size, 7, none⟩ = some (.int .i64 e.ak) := cell_of_block HX1.out.1 7
  have a8 : X1.cell? ⟨w.heap.size, 8, none⟩ = some (.int .i64 e.an) := cell_of_block HX1.out.1 8
  have a9 : X1.cell? ⟨w.heap.size, 9, none⟩ = some (.string e.ax) := cell_of_block HX1.out.1 9
  have d1 : X1.cell? ⟨w.heap.size + 1 + 1, 1, none⟩ = some (.int .i64 0) := cell_of_block HX1.out.2.2.1 1
  have f1 : X1.frozen? ⟨w.heap.size + 1 + 1, 1, none⟩ = false := free_of_block HX1.out.2.2.1 1
  have d2 : X1.cell? ⟨w.heap.size + 1 + 1, 2, none⟩ = some (.int .i64 0) := cell_of_block HX1.out.2.2.1 2
  have f2 : X1.frozen? ⟨w.heap.size + 1 + 1, 2, none⟩ = false := free_of_block HX1.out.2.2.1 2
  have d3 : X1.cell? ⟨w.heap.size + 1 + 1, 3, none⟩ = some (.string ⟨#[]⟩) := cell_of_block HX1.out.2.2.1 3
  have f3 : X1.frozen? ⟨w.heap.size + 1 + 1, 3, none⟩ = false := free_of_block HX1.out.2.2.1 3
  have d4 : X1.cell? ⟨w.heap.size + 1 + 1, 4, none⟩ = some (.int .i64 0) := cell_of_block HX1.out.2.2.1 4
  have f4 : X1.frozen? ⟨w.heap.size + 1 + 1, 4, none⟩ = false := free_of_block HX1.out.2.2.1 4
  have HX1' : Hid (T3 w e ([.int .i64 e.k, .int .i64 e.vk, .int .i64 e.vn, .string e.vt, .int .i64 e.many, .int .i64 0, .string ⟨#[]⟩, .int .i64 0, .int .i64 0, .string ⟨#[]⟩, .int .i64 0, .int .i64 0, .string ⟨#[]⟩, .bool false, .int .i64 0, .int .i64 0, .string ⟨#[]⟩] : List Value).toArray _) := ((((HX1.out.set 1 (.int .i64 e.vk)).set 2 (.int .i64 e.vn)).set 3 (.string e.vt)).set 4 (.int .i64 e.many))
  clear HX1
  go_wp2_with fail
  refine (hcm.out _).mono ?_
  rintro x2 X2 ⟨rfl, hB2⟩
  have HX2 := hide (HX1'.out.later hB2)
  clear hB2 hcm HX1' a4 a5 a6 a7 a8 a9 d1 f1 d2 f2 d3 f3 d4 f4
  have a10 : X2.cell? ⟨w.heap.size, 10, none⟩ = some (.int .i64 e.ct) := cell_of_block HX2.out.1 10
  have a11 : X2.cell? ⟨w.heap.size, 11, none⟩ = some (.int .i64 e.mp) := cell_of_block HX2.out.1 11
  have a12 : X2.cell? ⟨w.heap.size, 12, none⟩ = some (.string e.mn) := cell_of_block HX2.out.1 12
  have a13 : X2.cell? ⟨w.heap.size, 13, none⟩ = some (.bool e.mo) := cell_of_block HX2.out.1 13
  have a14 : X2.cell? ⟨w.heap.size, 14, none⟩ = some (.int .i64 e.wk) := cell_of_block HX2.out.1 14
  have a15 : X2.cell? ⟨w.heap.size, 15, none⟩ = some (.int .i64 e.wn) := cell_of_block HX2.out.1 15
  have a16 : X2.cell? ⟨w.heap.size, 16, none⟩ = some (.string e.wt) := cell_of_block HX2.out.1 16
  have d5 : X2.cell? ⟨w.heap.size + 1 + 1, 5, none⟩ = some (.int .i64 0) := cell_of_block HX2.out.2.2.1 5
  have f5 : X2.frozen? ⟨w.heap.size + 1 + 1, 5, none⟩ = false := free_of_block HX2.out.2.2.1 5
  have d6 : X2.cell? ⟨w.heap.size + 1 + 1, 6, none⟩ = some (.string ⟨#[]⟩) := cell_of_block HX2.out.2.2.1 6
  have f6 : X2.frozen? ⟨w.heap.size + 1 + 1, 6, none⟩ = false := free_of_block HX2.out.2.2.1 6
  have d7 : X2.cell? ⟨w.heap.size + 1 + 1, 7, none⟩ = some (.int .i64 0) := cell_of_block HX2.out.2.2.1 7
  have f7 : X2.frozen? ⟨w.heap.size + 1 + 1, 7, none⟩ = false := free_of_block HX2.out.2.2.1 7
  have d8 : X2.cell? ⟨w.heap.size + 1 + 1, 8, none⟩ = some (.int .i64 0) := cell_of_block HX2.out.2.2.1 8
  have f8 : X2.frozen? ⟨w.heap.size + 1 + 1, 8, none⟩ = false := free_of_block HX2.out.2.2.1 8
  have d9 : X2.cell? ⟨w.heap.size + 1 + 1, 9, none⟩ = some (.string ⟨#[]⟩) := cell_of_block HX2.out.2.2.1 9
  have f9 : X2.frozen? ⟨w.heap.size + 1 + 1, 9, none⟩ = false := free_of_block HX2.out.2.2.1 9
  have HX2' : Hid (T3 w e ([.int .i64 e.k, .int .i64 e.vk, .int .i64 e.vn, .string e.vt, .int .i64 e.many, .int .i64 e.ck, .string e.cn, .int .i64 e.ak, .int .i64 e.an, .string e.ax, .int .i64 0, .int .i64 0, .string ⟨#[]⟩, .bool false, .int .i64 0, .int .i64 0, .string ⟨#[]⟩] : List Value).toArray _) := (((((HX2.out.set 5 (.int .i64 e.ck)).set 6 (.string e.cn)).set 7 (.int .i64 e.ak)).set 8 (.int .i64 e.an)).set 9 (.string e.ax))
  clear HX2
  go_wp2_with fail
  refine (hca.out _).mono ?_
  rintro x3 X3 ⟨rfl, hB3⟩
  have HX3 := hide (HX2'.out.later hB3)
  clear hB3 hca HX2' a10 a11 a12 a13 a14 a15 a16 d5 f5 d6 f6 d7 f7 d8 f8 d9 f9
  have d10 : X3.cell? ⟨w.heap.size + 1 + 1, 10, none⟩ = some (.int .i64 0) := cell_of_block HX3.out.2.2.1 10
  have f10 : X3.frozen? ⟨w.heap.size + 1 + 1, 10, none⟩ = false := free_of_block HX3.out.2.2.1 10
  have d11 : X3.cell? ⟨w.heap.size + 1 + 1, 11, none⟩ = some (.int .i64 0) := cell_of_block HX3.out.2.2.1 11
  have f11 : X3.frozen? ⟨w.heap.size + 1 + 1, 11, none⟩ = false := free_of_block HX3.out.2.2.1 11
  have d12 : X3.cell? ⟨w.heap.size + 1 + 1, 12, none⟩ = some (.string ⟨#[]⟩) := cell_of_block HX3.out.2.2.1 12
  have f12 : X3.frozen? ⟨w.heap.size + 1 + 1, 12, none⟩ = false := free_of_block HX3.out.2.2.1 12
  have d13 : X3.cell? ⟨w.heap.size + 1 + 1, 13, none⟩ = some (.bool false) := cell_of_block HX3.out.2.2.1 13
  have f13 : X3.frozen? ⟨w.heap.size + 1 + 1, 13, none⟩ = false := free_of_block HX3.out.2.2.1 13
  have d14 : X3.cell? ⟨w.heap.size + 1 + 1, 14, none⟩ = some (.int .i64 0) := cell_of_block HX3.out.2.2.1 14
  have f14 : X3.frozen? ⟨w.heap.size + 1 + 1, 14, none⟩ = false := free_of_block HX3.out.2.2.1 14
  have d15 : X3.cell? ⟨w.heap.size + 1 + 1, 15, none⟩ = some (.int .i64 0) := cell_of_block HX3.out.2.2.1 15
  have f15 : X3.frozen? ⟨w.heap.size + 1 + 1, 15, none⟩ = false := free_of_block HX3.out.2.2.1 15
  have d16 : X3.cell? ⟨w.heap.size + 1 + 1, 16, none⟩ = some (.string ⟨#[]⟩) := cell_of_block HX3.out.2.2.1 16
  have f16 : X3.frozen? ⟨w.heap.size + 1 + 1, 16, none⟩ = false := free_of_block HX3.out.2.2.1 16
  have HX3' : Hid (T3 w e (evL e).toArray _) := (((((((HX3.out.set 10 (.int .i64 e.ct)).set 11 (.int .i64 e.mp)).set 12 (.string e.mn)).set 13 (.bool e.mo)).set 14 (.int .i64 e.wk)).set 15 (.int .i64 e.wn)).set 16 (.string e.wt))
  obtain ⟨_, ⟨Z, hZ1, hZ⟩, hO, hXB⟩ := HX3'.out
  have HZ1 := hide hZ1
  have HZ := hide hZ
  have HO := hide hO
  have HXB := hide hXB
  clear HX3 HX3' hZ1 hZ hO hXB
  go_wp2_with (first
    | (with_reducible show wpList _ _ _ (Oper.mk _ (Op.load 46 _) _ _ _ _ :: _) _ _; refine we_load rfl (.tmp 3) rfl (w.heap.size + 1 + 1) rfl _ HO.out (evL_ok e) ?_)
    | (with_reducible show wpList _ _ _ (Oper.mk _ (Op.store 46 _ _) _ _ _ _ :: _) _ _; refine ws55 rfl (.tmp 2) (.tmp 22) rfl (w.heap.size + 1) rfl _ rfl _ HZ1.out HZ.out (evL_ok e) ?_; intro W9 hW9))
  refine bodyPost_ret (results_ev Try.results14 _ W9 (w.heap.size + 1) _ rfl (by rw [hW9.out]; exact setRow_heap _ _ _ _ _ _ HZ1.out) (evL_ok e)) rfl ⟨rfl, ?_⟩
  rw [hW9.out]
  exact below_setRow HXB.out (by omega) _
end Go.Proofs.Ythimglgjeibaoaa

/- An act, whether it is ok, as the program has it. -/
import Derived.Test.YtbckbfjnifafaaaGreatDoorAct1
namespace Go.Proofs.YtbckbfjnifafaaaGreatDoor
open Go.RowKit
set_option linter.unusedVariables false
set_option linter.unusedSimpArgs false
theorem eqlAct1 (r p : Int) (nm : ByteArray) (o : Bool) (vk vn : Int) (vt : ByteArray) (m : Int) (W : World) : (binOp .eql 45 (.agg #[.int .i64 1, .int .i64 r, .int .i64 p, .string nm, .bool o, .int .i64 vk, .int .i64 vn, .string vt, .int .i64 m]) (.agg #[.int .i64 1, .int .i64 0, .int .i64 0, .string nm, .bool true, .int .i64 vk, .int .i64 vn, .string vt, .int .i64 0])).run Tryz.prog W = .ok (.bool (r == 0 && (p == 0 && (o && m == 0)))) W := by
  cases q0 : (r == 0)
  · go_simp
  cases q1 : (p == 0)
  · go_simp
  cases o
  · go_simp
  cases q3 : (m == 0)
  · go_simp
  go_simp
theorem eqlAct2 (r p : Int) (nm : ByteArray) (o : Bool) (vk vn : Int) (vt : ByteArray) (m : Int) (W : World) : (binOp .eql 45 (.agg #[.int .i64 2, .int .i64 r, .int .i64 p, .string nm, .bool o, .int .i64 vk, .int .i64 vn, .string vt, .int .i64 m]) (.agg #[.int .i64 2, .int .i64 r, .int .i64 0, .string nm, .bool true, .int .i64 vk, .int .i64 vn, .string vt, .int .i64 0])).run Tryz.prog W = .ok (.bool (p == 0 && (o && m == 0))) W := by
  cases q0 : (p == 0)
  · go_simp
  cases o
  · go_simp
  cases q2 : (m == 0)
  · go_simp
  go_simp
theorem eqlAct3 (r p : Int) (nm : ByteArray) (o : Bool) (vk vn : Int) (vt : ByteArray) (m : Int) (W : World) : (binOp .eql 45 (.agg #[.int .i64 3, .int .i64 r, .int .i64 p, .string nm, .bool o, .int .i64 vk, .int .i64 vn, .string vt, .int .i64 m]) (.agg #[.int .i64 3, .int .i64 r, .int .i64 p, .string ⟨#[]⟩, .bool o, .int .i64 vk, .int .i64 vn, .string vt, .int .i64 0])).run Tryz.prog W = .ok (.bool (nm.toList.isEmpty && m == 0)) W := by
  cases q0 : nm.toList.isEmpty
  · go_simp
  cases q1 : (m == 0)
  · go_simp
  go_simp
theorem eqlAct4 (r p : Int) (nm : ByteArray) (o : Bool) (vk vn : Int) (vt : ByteArray) (m : Int) (W : World) : (binOp .eql 45 (.agg #[.int .i64 4, .int .i64 r, .int .i64 p, .string nm, .bool o, .int .i64 vk, .int .i64 vn, .string vt, .int .i64 m]) (.agg #[.int .i64 4, .int .i64 r, .int .i64 0, .string ⟨#[]⟩, .bool true, .int .i64 0, .int .i64 0, .string ⟨#[]⟩, .int .i64 0])).run Tryz.prog W = .ok (.bool (p == 0 && (nm.toList.isEmpty && (o && (Pl.noVal vk vn vt && m == 0))))) W := by
  unfold Pl.noVal
  cases q0 : (p == 0)
  · go_simp
  cases q1 : nm.toList.isEmpty
  · go_simp
  cases o
  · go_simp
  cases q3 : (vk == 0)
  · go_simp
  cases q4 : (vn == 0)
  · go_simp
  cases q5 : vt.toList.isEmpty
  · go_simp
  cases q6 : (m == 0)
  · go_simp
  go_simp
theorem eqlAct5 (r p : Int) (nm : ByteArray) (o : Bool) (vk vn : Int) (vt : ByteArray) (m : Int) (W : World) : (binOp .eql 45 (.agg #[.int .i64 5, .int .i64 r, .int .i64 p, .string nm, .bool o, .int .i64 vk, .int .i64 vn, .string vt, .int .i64 m]) (.agg #[.int .i64 5, .int .i64 0, .int .i64 0, .string ⟨#[]⟩, .bool true, .int .i64 0, .int .i64 0, .string ⟨#[]⟩, .int .i64 m])).run Tryz.prog W = .ok (.bool (r == 0 && (p == 0 && (nm.toList.isEmpty && (o && Pl.noVal vk vn vt))))) W := by
  unfold Pl.noVal
  cases q0 : (r == 0)
  · go_simp
  cases q1 : (p == 0)
  · go_simp
  cases q2 : nm.toList.isEmpty
  · go_simp
  cases o
  · go_simp
  cases q4 : (vk == 0)
  · go_simp
  cases q5 : (vn == 0)
  · go_simp
  cases q6 : vt.toList.isEmpty
  · go_simp
  go_simp

set_option maxHeartbeats 400000 in
theorem runFits_any (r : Int) (w : World) :
    Calls Tryz.prog 110 #[.int .i64 r] w fun e w' => e = .returned (.bool (Pl.runB r)) ∧ w' = w := by
  by_cases h0 : 0 ≤ r
  · by_cases h1 : r < 8
    · go_enter Tryz.func110, Tryz.ntmps110
      go_wp2
      go_ret
      exact ⟨by rw [Pl.runB, decide_eq_true h0, decide_eq_true (show r ≤ 7 by omega)]; rfl, rfl⟩
    · go_enter Tryz.func110, Tryz.ntmps110
      go_wp2
      go_ret
      exact ⟨by rw [Pl.runB, decide_eq_true h0, decide_eq_false (show ¬ r ≤ 7 by omega)]; rfl, rfl⟩
  · go_enter Tryz.func110, Tryz.ntmps110
    go_wp2
    go_ret
    exact ⟨by rw [Pl.runB, decide_eq_false (show ¬ 0 ≤ r by omega)]; rfl, rfl⟩
theorem runFits_at (r : Int) {b : Bool} (h : Pl.runB r = b) (w : World) :
    Calls Tryz.prog 110 #[.int .i64 r] w fun e w' => e = .returned (.bool b) ∧ w' = w := by
  have := runFits_any r w
  rw [h] at this
  exact this
theorem implCame_at1 (p : Int) (o : Bool) (vk vn : Int) (vt : ByteArray) (ht : vt.size ≤ maxLen) {b : Bool} (h : (Pl.placeB p && (Pl.okB vk vn vt && (o || Pl.noVal vk vn vt))) = b) (w : World) :
    Calls Tryz.prog 113 #[cameV 1 p ⟨#[]⟩ o vk vn vt] w fun e w' => e = .returned (.bool b) ∧ Below w.heap.size w w' := by
  have := implCameOk_any 1 p ⟨#[]⟩ o vk vn vt (by decide) ht w
  rw [show Pl.cameB 1 p ⟨#[]⟩ o vk vn vt = b by rw [← h]; simp [Pl.cameB]] at this
  exact this

theorem two9 {w w1 : World} {x0 x1 x2 x3 x4 x5 x6 x7 x8 : Value} {T : TypeId} {B : Obj} (hb : Below ((w.alloc (.cells #[x0, x1, x2, x3, x4, x5, x6, x7, x8] T)).alloc B).heap.size ((w.alloc (.cells #[x0, x1, x2, x3, x4, x5, x6, x7, x8] T)).alloc B) w1) :
    BoxNine w.heap.size x0 x1 x2 x3 x4 x5 x6 x7 x8 w1 ∧ Below w.heap.size w w1 := by
  have e1 : (w.alloc (.cells #[x0, x1, x2, x3, x4, x5, x6, x7, x8] T)).heap.size = w.heap.size + 1 := by simp
  have e2 : ((w.alloc (.cells #[x0, x1, x2, x3, x4, x5, x6, x7, x8] T)).alloc B).heap.size = w.heap.size + 1 + 1 := by simp
  have h1 : Below (w.alloc (.cells #[x0, x1, x2, x3, x4, x5, x6, x7, x8] T)).heap.size (w.alloc (.cells #[x0, x1, x2, x3, x4, x5, x6, x7, x8] T)) w1 := ((Below.refl _ _).alloc (Nat.le_refl _) B).trans (hb.mono (by omega))
  exact ⟨BoxNine.mk h1, below_box1 h1⟩
set_option maxHeartbeats 1600000 in
theorem startFits_any (r p : Int) (nm : ByteArray) (o : Bool) (vk vn : Int) (vt : ByteArray) (m : Int) (hn : nm.size ≤ maxLen) (ht : vt.size ≤ maxLen) (w : World) :
    Calls Tryz.prog 80 #[actV 1 r p nm o vk vn vt m] w fun e w' => e = .returned (.bool (Pl.actB 1 r p nm o vk vn vt m)) ∧ Below w.heap.size w w' := by
  have hE := eqlAct1 r p nm o vk vn vt m
  have hx : Hid (∀ b, Pl.nameB nm = b → ∀ w : World, Calls Tryz.prog 106 #[.string nm] w fun e w' => e = .returned (.bool b) ∧ w' = w) := fun b h w => implName_at nm hn h w
  have hy : Hid (∀ b, Pl.okB vk vn vt = b → ∀ w : World, Calls Tryz.prog 107 #[vAgg vk vn vt] w fun e w' => e = .returned (.bool b) ∧ Below w.heap.size w w') := fun b h w => implVal_at vk vn vt ht h w
  have HR : Hid (Pl.actB 1 r p nm o vk vn vt m = ((r == 0 && (p == 0 && (o && m == 0))) && (Pl.nameB nm && Pl.okB vk vn vt))) := rfl
  generalize (r == 0 && (p == 0 && (o && m == 0))) = eb at *
  generalize Pl.nameB nm = nb at *
  generalize Pl.okB vk vn vt = ob at *
  generalize Pl.actB 1 r p nm o vk vn vt m = rb at *
  have hpl := hide (hx.out nb rfl)
  have hv := hide (hy.out ob rfl)
  clear hx hy hn ht
  cases eb
  · go_enter Tryz.func80, Tryz.ntmps80
    go_wp2
    go_ret
    exact ⟨by rw [HR.out]; rfl, ((Below.refl _ _).alloc (Nat.le_refl _) _).alloc (by simp) _⟩
  · cases nb
    · go_enter Tryz.func80, Tryz.ntmps80
      go_wp2_with fail
      refine (hpl.out _).mono ?_
      rintro e w1 ⟨rfl, rfl⟩
      go_wp2
      go_ret
      exact ⟨by rw [HR.out]; rfl, ((Below.refl _ _).alloc (Nat.le_refl _) _).alloc (by simp) _⟩
    · go_enter Tryz.func80, Tryz.ntmps80
      go_wp2_with fail
      refine (hpl.out _).mono ?_
      rintro e w1 ⟨rfl, rfl⟩
      go_wp2_with fail
      refine (hv.out _).mono ?_
      rintro e w1 ⟨rfl, hB1⟩
      have HB1 := hide (two9 hB1).2
      clear hB1 hE
      go_wp2
      go_ret
      exact ⟨by rw [HR.out]; rfl, HB1.out⟩
set_option maxHeartbeats 1600000 in
theorem signalFits_any (r p : Int) (nm : ByteArray) (o : Bool) (vk vn : Int) (vt : ByteArray) (m : Int) (hn : nm.size ≤ maxLen) (ht : vt.size ≤ maxLen) (w : World) :
    Calls Tryz.prog 83 #[actV 2 r p nm o vk vn vt m] w fun e w' => e = .returned (.bool (Pl.actB 2 r p nm o vk vn vt m)) ∧ Below w.heap.size w w' := by
  have hE := eqlAct2 r p nm o vk vn vt m
  have hx : Hid (∀ b, Pl.nameB nm = b → ∀ w : World, Calls Tryz.prog 106 #[.string nm] w fun e w' => e = .returned (.bool b) ∧ w' = w) := fun b h w => implName_at nm hn h w
  have hy : Hid (∀ b, Pl.okB vk vn vt = b → ∀ w : World, Calls Tryz.prog 107 #[vAgg vk vn vt] w fun e w' => e = .returned (.bool b) ∧ Below w.heap.size w w') := fun b h w => implVal_at vk vn vt ht h w
  have hz : Hid (∀ b, Pl.runB r = b → ∀ w : World, Calls Tryz.prog 110 #[.int .i64 r] w fun e w' => e = .returned (.bool b) ∧ w' = w) := fun b h w => runFits_at r h w
  have HR : Hid (Pl.actB 2 r p nm o vk vn vt m = ((p == 0 && (o && m == 0)) && (Pl.runB r && (Pl.nameB nm && Pl.okB vk vn vt)))) := rfl
  generalize (p == 0 && (o && m == 0)) = eb at *
  generalize Pl.nameB nm = nb at *
  generalize Pl.okB vk vn vt = ob at *
  generalize Pl.runB r = ub at *
  generalize Pl.actB 2 r p nm o vk vn vt m = rb at *
  have hpl := hide (hx.out nb rfl)
  have hv := hide (hy.out ob rfl)
  have hu := hide (hz.out ub rfl)
  clear hx hy hz hn ht
  cases eb
  · go_enter Tryz.func83, Tryz.ntmps83
    go_wp2
    go_ret
    exact ⟨by rw [HR.out]; rfl, ((Below.refl _ _).alloc (Nat.le_refl _) _).alloc (by simp) _⟩
  · cases ub
    · go_enter Tryz.func83, Tryz.ntmps83
      go_wp2_with fail
      refine (hu.out _).mono ?_
      rintro e w1 ⟨rfl, rfl⟩
      go_wp2
      go_ret
      exact ⟨by rw [HR.out]; rfl, ((Below.refl _ _).alloc (Nat.le_refl _) _).alloc (by simp) _⟩
    · cases nb
      · go_enter Tryz.func83, Tryz.ntmps83
        go_wp2_with fail
        refine (hu.out _).mono ?_
        rintro e w1 ⟨rfl, rfl⟩
        go_wp2_with fail
        refine (hpl.out _).mono ?_
        rintro e w1 ⟨rfl, rfl⟩
        go_wp2
        go_ret
        exact ⟨by rw [HR.out]; rfl, ((Below.refl _ _).alloc (Nat.le_refl _) _).alloc (by simp) _⟩
      · go_enter Tryz.func83, Tryz.ntmps83
        go_wp2_with fail
        refine (hu.out _).mono ?_
        rintro e w1 ⟨rfl, rfl⟩
        go_wp2_with fail
        refine (hpl.out _).mono ?_
        rintro e w1 ⟨rfl, rfl⟩
        go_wp2_with fail
        refine (hv.out _).mono ?_
        rintro e w1 ⟨rfl, hB1⟩
        have HB1 := hide (two9 hB1).2
        clear hB1 hE
        go_wp2
        go_ret
        exact ⟨by rw [HR.out]; rfl, HB1.out⟩
theorem answerOf_any (r p : Int) (nm : ByteArray) (o : Bool) (vk vn : Int) (vt : ByteArray) (m : Int) (w : World) :
    Calls Tryz.prog 114 #[actV 3 r p nm o vk vn vt m] w fun e w' => e = .returned (cameV 1 p ⟨#[]⟩ o vk vn vt) ∧ Below w.heap.size w w' := by
  go_enter Tryz.func114, Tryz.ntmps114
  go_wp2
  refine bodyPost_ret (v := cameV 1 p ⟨#[]⟩ o vk vn vt) (by simp [results, Tryz.results114, go_sem]) rfl ⟨rfl, ?_⟩
  exact ((Below.refl _ _).alloc (Nat.le_refl _) _).alloc (by simp) _
set_option maxHeartbeats 1600000 in
theorem answerFits_any (r p : Int) (nm : ByteArray) (o : Bool) (vk vn : Int) (vt : ByteArray) (m : Int) (hn : nm.size ≤ maxLen) (ht : vt.size ≤ maxLen) (w : World) :
    Calls Tryz.prog 86 #[actV 3 r p nm o vk vn vt m] w fun e w' => e = .returned (.bool (Pl.actB 3 r p nm o vk vn vt m)) ∧ Below w.heap.size w w' := by
  have hE := eqlAct3 r p nm o vk vn vt m
  have hx : Hid (∀ b, (Pl.placeB p && (Pl.okB vk vn vt && (o || Pl.noVal vk vn vt))) = b → ∀ w : World, Calls Tryz.prog 113 #[cameV 1 p ⟨#[]⟩ o vk vn vt] w fun e w' => e = .returned (.bool b) ∧ Below w.heap.size w w') := fun b h w => implCame_at1 p o vk vn vt ht h w
  have hz : Hid (∀ b, Pl.runB r = b → ∀ w : World, Calls Tryz.prog 110 #[.int .i64 r] w fun e w' => e = .returned (.bool b) ∧ w' = w) := fun b h w => runFits_at r h w
  have han := hide (answerOf_any r p nm o vk vn vt m)
  have HR : Hid (Pl.actB 3 r p nm o vk vn vt m = ((nm.toList.isEmpty && m == 0) && (Pl.runB r && (Pl.placeB p && (Pl.okB vk vn vt && (o || Pl.noVal vk vn vt)))))) := rfl
  generalize (nm.toList.isEmpty && m == 0) = eb at *
  generalize (Pl.placeB p && (Pl.okB vk vn vt && (o || Pl.noVal vk vn vt))) = cb at *
  generalize Pl.runB r = ub at *
  generalize Pl.actB 3 r p nm o vk vn vt m = rb at *
  have hca := hide (hx.out cb rfl)
  have hu := hide (hz.out ub rfl)
  clear hx hz hn ht
  cases eb
  · go_enter Tryz.func86, Tryz.ntmps86
    go_wp2
    go_ret
    exact ⟨by rw [HR.out]; rfl, ((Below.refl _ _).alloc (Nat.le_refl _) _).alloc (by simp) _⟩
  · cases ub
    · go_enter Tryz.func86, Tryz.ntmps86
      go_wp2_with fail
      refine (hu.out _).mono ?_
      rintro e w1 ⟨rfl, rfl⟩
      go_wp2
      go_ret
      exact ⟨by rw [HR.out]; rfl, ((Below.refl _ _).alloc (Nat.le_refl _) _).alloc (by simp) _⟩
    · go_enter Tryz.func86, Tryz.ntmps86
      go_wp2_with fail
      refine (hu.out _).mono ?_
      rintro e w1 ⟨rfl, rfl⟩
      go_wp2_with fail
      refine (han.out _).mono ?_
      rintro e w1 ⟨rfl, hB1⟩
      have HB1 := hide (two9 hB1).2
      clear hB1 hE
      go_wp2_with fail
      refine (hca.out _).mono ?_
      rintro e w2 ⟨rfl, hB2⟩
      have HB2 := hide (HB1.out.trans (hB2.mono HB1.out.size))
      clear hB2
      go_wp2
      go_ret
      exact ⟨by rw [HR.out]; rfl, HB2.out⟩
set_option maxHeartbeats 1600000 in
theorem cancelFits_any (r p : Int) (nm : ByteArray) (o : Bool) (vk vn : Int) (vt : ByteArray) (m : Int) (w : World) :
    Calls Tryz.prog 89 #[actV 4 r p nm o vk vn vt m] w fun e w' => e = .returned (.bool (Pl.actB 4 r p nm o vk vn vt m)) ∧ Below w.heap.size w w' := by
  have hE := eqlAct4 r p nm o vk vn vt m
  have hu := hide (runFits_any r)
  have HR : Hid (Pl.actB 4 r p nm o vk vn vt m = ((p == 0 && (nm.toList.isEmpty && (o && (Pl.noVal vk vn vt && m == 0)))) && Pl.runB r)) := rfl
  generalize (p == 0 && (nm.toList.isEmpty && (o && (Pl.noVal vk vn vt && m == 0)))) = eb at *
  generalize Pl.runB r = ub at *
  generalize Pl.actB 4 r p nm o vk vn vt m = rb at *
  cases eb
  · go_enter Tryz.func89, Tryz.ntmps89
    go_wp2
    go_ret
    exact ⟨by rw [HR.out]; rfl, (Below.refl _ _).alloc (Nat.le_refl _) _⟩
  · go_enter Tryz.func89, Tryz.ntmps89
    go_wp2_with fail
    refine (hu.out _).mono ?_
    rintro e w1 ⟨rfl, rfl⟩
    go_wp2
    go_ret
    exact ⟨by rw [HR.out]; rfl, (Below.refl _ _).alloc (Nat.le_refl _) _⟩
set_option maxHeartbeats 1600000 in
theorem tickFits_any (r p : Int) (nm : ByteArray) (o : Bool) (vk vn : Int) (vt : ByteArray) (m : Int) (w : World) :
    Calls Tryz.prog 92 #[actV 5 r p nm o vk vn vt m] w fun e w' => e = .returned (.bool (Pl.actB 5 r p nm o vk vn vt m)) ∧ Below w.heap.size w w' := by
  have hE := eqlAct5 r p nm o vk vn vt m
  have HR : Hid (Pl.actB 5 r p nm o vk vn vt m = ((r == 0 && (p == 0 && (nm.toList.isEmpty && (o && Pl.noVal vk vn vt)))) && Pl.tickB m)) := rfl
  generalize (r == 0 && (p == 0 && (nm.toList.isEmpty && (o && Pl.noVal vk vn vt)))) = eb at *
  generalize Pl.actB 5 r p nm o vk vn vt m = rb at *
  cases eb
  · go_enter Tryz.func92, Tryz.ntmps92
    go_wp2
    go_ret
    exact ⟨by rw [HR.out]; rfl, (Below.refl _ _).alloc (Nat.le_refl _) _⟩
  · by_cases h1 : 1 ≤ m
    · by_cases h2 : m ≤ 1000
      · have HT : Hid (Pl.tickB m = true) := by show _ = _; simp [Pl.tickB, h1, h2]
        go_enter Tryz.func92, Tryz.ntmps92
        go_wp2
        go_ret
        exact ⟨by rw [HR.out, HT.out]; simp, (Below.refl _ _).alloc (Nat.le_refl _) _⟩
      · have HT : Hid (Pl.tickB m = false) := by show _ = _; simp [Pl.tickB, h1, h2]
        go_enter Tryz.func92, Tryz.ntmps92
        go_wp2
        go_ret
        exact ⟨by rw [HR.out, HT.out]; simp, (Below.refl _ _).alloc (Nat.le_refl _) _⟩
    · have HT : Hid (Pl.tickB m = false) := by show _ = _; simp [Pl.tickB, h1]
      go_enter Tryz.func92, Tryz.ntmps92
      go_wp2
      go_ret
      exact ⟨by rw [HR.out, HT.out]; simp, (Below.refl _ _).alloc (Nat.le_refl _) _⟩
end Go.Proofs.YtbckbfjnifafaaaGreatDoor

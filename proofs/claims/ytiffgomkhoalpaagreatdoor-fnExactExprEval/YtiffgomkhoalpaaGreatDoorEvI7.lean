/- What is asked, made out of an expression. -/
import Derived.Test.YtiffgomkhoalpaaGreatDoorEvI6
import Derived.Test.YtiffgomkhoalpaaGreatDoorEvS9
namespace Go.Proofs.YtiffgomkhoalpaaGreatDoor
open Go.RowKit
set_option linter.unusedVariables false
set_option linter.unusedSimpArgs false
/-- made of an expression: what it is by names -/
def MkP (d : Nat) : Prop := ∀ (nd : Nd) (k : Fo) (v : Value) (w : World), Pl.okN nd k d = true → RowAt 0 w k v → Calls Tryz.prog 58 #[ndV nd v] w fun e w' => ∃ f, e = .returned f ∧ Asks w' f (fun L => Pl.ev L nd k) ∧ Below w.heap.size w w'
def MPart (na : Nd) (ka : Fo) (w : World) : Prop := ∀ va W, Below w.heap.size w W → RowAt 0 W ka va → Calls Tryz.prog 58 #[ndV na va] W fun e w' => ∃ f, e = .returned f ∧ Asks w' f (fun L => Pl.ev L na ka) ∧ Below W.heap.size W w'
theorem good_ev {nd : Nd} {k : Fo} {d : Nat} (h : Pl.okN nd k d = true) : Good (fun L => Pl.ev L nd k) := fun L hL v hv => Pl.ev_ok hL h hv
theorem bone {w w1 : World} {o : Obj} (hB : Below (w.alloc o).heap.size (w.alloc o) w1) : Below w.heap.size w w1 := ((Below.refl _ _).alloc (Nat.le_refl _) _).trans (hB.mono (by simp))
set_option maxHeartbeats 1600000 in
theorem mk_val (vk vn : Int) (vt nm : ByteArray) (hv : Pl.okA ⟨vk, vn, vt⟩ = true) (v : Value) (w : World) :
    Calls Tryz.prog 58 #[ndV ⟨1, vk, vn, vt, nm⟩ v] w fun e w' => ∃ f, e = .returned f ∧ Asks w' f (fun _ => some ⟨vk, vn, vt⟩) ∧ Below w.heap.size w w' := by
  have hc := hide (askValue_any ⟨vk, vn, vt⟩ hv)
  clear hv
  go_enter Tryz.func58, Tryz.ntmps58
  go_wp2_with fail
  refine (hc.out _).mono ?_
  rintro e w1 ⟨f, rfl, hA, hB1⟩
  have HA := hide hA
  have HB1 := hide (bone hB1)
  clear hB1 hA
  obtain ⟨id, caps, rfl, hx⟩ := HA.out
  clear hx
  go_wp2
  go_ret
  exact ⟨_, rfl, HA.out, HB1.out⟩
set_option maxHeartbeats 1600000 in
theorem mk_var (vt nm : ByteArray) (hnm : nm.size ≤ 10) (v : Value) (w : World) :
    Calls Tryz.prog 58 #[ndV ⟨2, 0, 0, vt, nm⟩ v] w fun e w' => ∃ f, e = .returned f ∧ Asks w' f (fun L => L nm.data.toList) ∧ Below w.heap.size w w' := by
  have hc := hide (askName_any nm hnm)
  clear hnm
  go_enter Tryz.func58, Tryz.ntmps58
  go_wp2_with fail
  refine (hc.out _).mono ?_
  rintro e w1 ⟨f, rfl, hA, hB1⟩
  have HA := hide hA
  have HB1 := hide (bone hB1)
  clear hB1 hA
  go_wp2
  go_ret
  exact ⟨_, rfl, HA.out, HB1.out⟩
set_option maxHeartbeats 1600000 in
theorem mk_not (vt nm : ByteArray) (k : Fo) (v : Value) (w : World) (hr : RowAt 0 w k v) (na : Nd) (ka : Fo) (ga : k.get 0 = some (na, ka)) (ca : MPart na ka w) (hgood : Good (fun L => Pl.ev L na ka)) :
    Calls Tryz.prog 58 #[ndV ⟨10, 0, 0, vt, nm⟩ v] w fun e w' => ∃ f, e = .returned f ∧ Asks w' f (fun L => Pl.opA 10 (Pl.ev L na ka) none) ∧ Below w.heap.size w w' := by
  have HR := hide hr
  obtain ⟨ad, cap, rfl, hc, hm, hx⟩ := hr
  unfold maxLen at hm
  obtain ⟨g, off, va, rfl, hi, hg, hnd⟩ := part_at HR.out ga
  rw [show off + 0 * 6 = off by omega] at hnd
  obtain ⟨d0, d1, d2, d3, d4, d5, hrow⟩ := hnd
  have HC := hide (fun W (hB : Below w.heap.size w W) => ca va W hB (hrow.later hB))
  obtain ⟨_, _, rfl, _⟩ := hrow
  have HN := hide (fun f W (h : Asks W f (fun L => Pl.ev L na ka)) => askNot_any f _ hgood W h)
  clear hx hgood
  go_enter Tryz.func58, Tryz.ntmps58
  go_wp2_with fail
  refine (HC.out _ ((Below.refl _ _).alloc (Nat.le_refl _) _)).mono ?_
  rintro e w1 ⟨f, rfl, hA, hB1⟩
  have HQ := hide (HN.out f w1 hA)
  have HB1 := hide (bone hB1)
  clear hB1 hA HC HN d0 d1 d2 d3 d4 d5
  go_wp2_with fail
  refine HQ.out.mono ?_
  rintro e w2 ⟨f2, rfl, hA2, hB2⟩
  have HA2 := hide hA2
  have HB2 := hide (HB1.out.trans (hB2.mono HB1.out.size))
  clear hA2 hB2 HQ
  go_wp2
  go_ret
  exact ⟨_, rfl, HA2.out, HB2.out⟩
/-- the boxed argument alone -/
def EP (w : World) (v : Value) (nk : Int) (X : World) : Prop := (w.heap.size < X.heap.size ∧ X.cell? ⟨w.heap.size, 0, none⟩ = some (.int .i64 nk) ∧ X.cell? ⟨w.heap.size, 5, none⟩ = some v) ∧ Below w.heap.size w X
theorem EP.of {w X : World} {x0 x1 x2 x3 x4 v : Value} {nk : Int} (h0 : x0 = .int .i64 nk) (hB : Below (w.alloc (.cells #[x0, x1, x2, x3, x4, v] 35)).heap.size (w.alloc (.cells #[x0, x1, x2, x3, x4, v] 35)) X) : EP w v nk X := by
  subst h0
  have C : ∀ o, X.cell? ⟨w.heap.size, o, none⟩ = (#[.int .i64 nk, x1, x2, x3, x4, v] : Array Value)[o]? := fun o => by rw [hB.cell (p := ⟨w.heap.size, o, none⟩) (by simp)]; simp
  exact ⟨⟨by have := hB.size; simp at this; omega, C 0, C 5⟩, bone hB⟩
theorem EP.later {w X X1 : World} {v : Value} {nk : Int} (h : EP w v nk X) (hB : Below X.heap.size X X1) : EP w v nk X1 :=
  ⟨⟨by have := hB.size; have := h.1.1; omega, (hB.cell (p := ⟨w.heap.size, 0, none⟩) h.1.1).trans h.1.2.1, (hB.cell (p := ⟨w.heap.size, 5, none⟩) h.1.1).trans h.1.2.2⟩, h.2.trans (hB.mono h.2.size)⟩
theorem EP.start {w : World} {x1 x2 x3 x4 v : Value} {nk : Int} : EP w v nk (w.alloc (.cells #[.int .i64 nk, x1, x2, x3, x4, v] 35)) := EP.of rfl (Below.refl _ _)
theorem EP.drew {w X : World} {v : Value} {nk : Int} (h : EP w v nk X) : EP w v nk X.drew := h.later (Below.refl _ _).drew
end Go.Proofs.YtiffgomkhoalpaaGreatDoor

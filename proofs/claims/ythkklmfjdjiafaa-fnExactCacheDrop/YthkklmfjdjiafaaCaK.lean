/- A cache marked, and held against its marks. -/
import Derived.Test.YthkklmfjdjiafaaCaS2
namespace Go.Proofs.Ythkklmfjdjiafaa
open Go.RowKit
set_option linter.unusedVariables false
set_option linter.unusedSimpArgs false
theorem MI.later {l : List It} {k i b : Nat} {C : Array Value} {s : Nat → Nat} {W W1 : World} (h : MI l k i b C s W) (hB : Below W.heap.size W W1) : MI l k i b C s W1 := by
  obtain ⟨h1, h2, h3, h4⟩ := h
  refine ⟨(hB.block _ (Array.getElem?_eq_some_iff.1 h1).1).trans h1, h2, h3, fun j it hj => ?_⟩
  obtain ⟨ac, cc, ap, cp, e1, e2, e3, e4, e5, e6, e7, e8, e9, e10, e11⟩ := h4 j it hj
  exact ⟨ac, cc, ap, cp, e1, e2, e3, e4, e5, e6, e7, e8, e9.later hB, e10.later hB, e11⟩
/-- items that are marked from one on -/
def RMc (W : World) (l : List It) (v : Value) : Prop :=
  ∃ a c, v = .slice a l.length c ∧ l.length ≤ c ∧ c ≤ maxLen ∧ (0 < l.length → ∃ b C s, a = some ⟨b, 0, none⟩ ∧ MI l 1 l.length b C s W)
theorem RMc.later {W W1 : World} {l : List It} {v : Value} (h : RMc W l v) (hB : Below W.heap.size W W1) : RMc W1 l v := by
  obtain ⟨a, c, hv, h1, h2, hx⟩ := h
  refine ⟨a, c, hv, h1, h2, fun hl => ?_⟩
  obtain ⟨b, C, s, ha, hm⟩ := hx hl
  exact ⟨b, C, s, ha, hm.later hB⟩
theorem Mid.of_alloc {lo hi : Nat} {W X : World} {O : Obj} (h : Mid lo hi (W.alloc O) X) : Mid lo hi W X :=
  ⟨h.os, h.tape, h.output, by have := h.size; rw [World.size_alloc] at this; omega, fun k hk ho => (h.block k (by rw [World.size_alloc]; omega) ho).trans (((Below.refl _ W).alloc (Nat.le_refl _) O).block k hk)⟩
set_option maxHeartbeats 800000 in
theorem markCache_any (l : List It) (hN : l.length + itX l ≤ 1048576) (v : Value) (lo hi : Nat) (W : World) (h : IBlk lo hi W l v) (hh : hi ≤ W.heap.size) :
    Calls Try.prog 14 #[caV v, .int .i64 1] W fun e W' => (∃ z : Int, e = .returned (.int .i64 z) ∧ z = ((1 + itW l : Nat) : Int)) ∧ Mid lo hi W W' ∧ RMc W' l v := by
  have hw := itW_few l
  have hs := hide (fun O => h.later ((Below.refl hi W).alloc hh O))
  obtain ⟨a, c, rfl, h1, h2, _⟩ := h
  have hm := hide (fun O => markItemS_any l a c lo hi 1 (by omega) (by omega) h1 h2 (W.alloc O) (fun hl => by
    obtain ⟨a', c', hv, _, _, hx⟩ := hs.out O
    injection hv with e1 e2 e3
    subst e1
    obtain ⟨b, C, s, ha, hb, hb2, hc, hsz, q1, q2, hin⟩ := hx hl
    exact ⟨b, C, s, ha, hb, hb2, q1, q2, MI.of_blk (lo := lo) (hi := hi) hc hsz hin⟩))
  clear hs hw
  go_enter Try.func14, Try.ntmps14
  go_wp2_with fail
  refine (hm.out _).mono ?_
  rintro e1 w1 ⟨⟨z, rfl, hz⟩, hM, hx⟩
  have HZ := hide hz
  have HM := hide hM.of_alloc
  have HX := hide hx
  clear hz hM hx hm
  go_wp2
  go_ret
  refine ⟨⟨z, rfl, HZ.out⟩, HM.out, a, c, rfl, h1, h2, fun hl => ?_⟩
  obtain ⟨b, C, s, ha, _, _, _, _, hmi⟩ := HX.out hl
  exact ⟨b, C, s, ha, hmi⟩
set_option maxHeartbeats 800000 in
theorem heldCache_any (l : List It) (hN : l.length + itX l ≤ 1048576) (v : Value) (W : World) (h : RMc W l v) :
    Calls Try.prog 15 #[caV v, .int .i64 1] W fun e W' => (∃ z : Int, e = .returned (.int .i64 z) ∧ z = ((1 + itW l : Nat) : Int)) ∧ Below W.heap.size W W' := by
  have hw := itW_few l
  have hs := hide (fun O => h.later ((Below.refl W.heap.size W).alloc (Nat.le_refl _) O))
  obtain ⟨a, c, rfl, h1, h2, _⟩ := h
  have hm := hide (fun O => heldItemS_any l a c 1 (by omega) (by omega) h1 h2 (W.alloc O) (fun hl => by
    obtain ⟨a', c', hv, _, _, hx⟩ := hs.out O
    injection hv with e1 e2 e3
    subst e1
    exact hx hl))
  clear hs hw
  go_enter Try.func15, Try.ntmps15
  go_wp2_with fail
  refine (hm.out _).mono ?_
  rintro e1 w1 ⟨⟨z, rfl, hz⟩, hB1⟩
  obtain ⟨bx, hB, hlt⟩ := one_q hB1
  have HB := hide hB
  have HZ := hide hz
  have hz0 : ¬ z < 0 := by omega
  clear hB1 bx hB hm hz
  go_wp2
  go_ret
  exact ⟨⟨z, rfl, HZ.out⟩, HB.out⟩
end Go.Proofs.Ythkklmfjdjiafaa

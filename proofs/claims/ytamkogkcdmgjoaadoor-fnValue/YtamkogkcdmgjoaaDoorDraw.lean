/- What draws: numbers and texts out of a code. -/
import Derived.Test.YtamkogkcdmgjoaaDoorLeafB
import Derived.Deep.QuietTactic
import Derived.BigQuiet
import Derived.WalkSmall
namespace Go.Proofs.YtamkogkcdmgjoaaDoor
open Go.RowKit
set_option linter.unusedVariables false

/-- a code: a slice of bytes that lies below n₀ -/
def CodeOk (n₀ : Nat) (W : World) (c : Value) (len : Nat) : Prop :=
  ∃ ad cap, c = .slice ad len cap ∧ len ≤ cap ∧ cap ≤ maxLen ∧ (0 < len → ∃ b off, ad = some ⟨b, off, none⟩ ∧ b < n₀ ∧ ∀ i, i < len → ∃ z : Int, W.cell? ⟨b, off + i, none⟩ = some (.int .u8 z) ∧ 0 ≤ z ∧ z ≤ 255)

/-- what reads a code: at place p -/
def RdAt (n₀ br p len : Nat) (W : World) : Prop :=
  n₀ ≤ br ∧ len ≤ 2000 ∧ ∃ c, W.heap[br]? = some (.cells #[c, .int .i64 p] 58 (0, 0)) ∧ CodeOk n₀ W c len

theorem CodeOk.later {n₀ : Nat} {W W' : World} {c : Value} {len : Nat} (h : CodeOk n₀ W c len) (hb : Below n₀ W W') : CodeOk n₀ W' c len := by
  obtain ⟨ad, cap, hc, h1, h2, h3⟩ := h
  refine ⟨ad, cap, hc, h1, h2, fun hl => ?_⟩
  obtain ⟨b, off, ha, hbn, hz⟩ := h3 hl
  exact ⟨b, off, ha, hbn, fun i hi => by
    obtain ⟨z, hz1, hz2⟩ := hz i hi
    exact ⟨z, (hb.cell (p := ⟨b, off + i, none⟩) hbn).trans hz1, hz2⟩⟩

theorem RdAt.set {n₀ br p len : Nat} {W : World} (h : RdAt n₀ br p len W) (q : Nat) (k : Nat) : RdAt n₀ br q len (World.drewN (W.setCell ⟨br, 1, none⟩ (.int .i64 q)) k) := by
  obtain ⟨h1, h2, c, h3, h4⟩ := h
  refine ⟨h1, h2, c, ?_, h4.later (below_drewN ((Below.refl n₀ W).setCell (p := ⟨br, 1, none⟩) h1 _) k)⟩
  show (W.setCell ⟨br, 1, none⟩ (.int .i64 q)).heap[br]? = _
  simp [World.setCell, Array.getElem?_modify, h3]

theorem xor_small (X Y : Nat) (hX : X < 1099511627776) (hY : Y < 1099511627776) : 0 ≤ bits .xor .i64 (X : Int) (Y : Int) := by
  have hx : (X ^^^ Y) < 2 ^ 40 := Nat.xor_lt_two_pow hX hY
  have e : bits .xor .i64 (X : Int) (Y : Int) = IntKind.i64.wrap ((X ^^^ Y : Nat) : Int) := by
    have h1 : (BitVec.ofInt 64 (X : Int)).toNat = X := by
      rw [BitVec.ofInt_natCast, BitVec.toNat_ofNat]; exact Nat.mod_eq_of_lt (by omega)
    have h2 : (BitVec.ofInt 64 (Y : Int)).toNat = Y := by
      rw [BitVec.ofInt_natCast, BitVec.toNat_ofNat]; exact Nat.mod_eq_of_lt (by omega)
    show IntKind.i64.wrap ((BitVec.ofInt 64 (X : Int) ^^^ BitVec.ofInt 64 (Y : Int)).toNat : Int) = _
    rw [BitVec.toNat_xor, h1, h2]
  rw [e, IntKind.wrap_i64]
  have : (2 : Nat) ^ 40 = 1099511627776 := by decide
  omega
theorem xor_int (x : Int) (h0 : 0 ≤ x) (h1 : x < 1099511627776) : 0 ≤ bits .xor .i64 x (x / 64) := by
  obtain ⟨X, rfl⟩ := Int.eq_ofNat_of_zero_le h0
  rw [show ((X : Int) / 64) = ((X / 64 : Nat) : Int) from by omega]
  exact xor_small X (X / 64) (by omega) (by omega)

/-- a number below n was handed back; but for draws the world is W1 -/
def Picked (n : Nat) (W1 : World) (e : Ending) (W' : World) : Prop := ∃ x k : Nat, x < n ∧ e = .returned (.int .i64 x) ∧ W' = World.drewN W1 k
theorem picked_mk {n : Nat} {W1 : World} (z : Int) (k : Nat) (h0 : 0 ≤ z) (h1 : z < n) : Picked n W1 (.returned (.int .i64 z)) (World.drewN W1 k) :=
  ⟨z.toNat, k, by omega, by rw [Int.toNat_of_nonneg h0], rfl⟩

set_option maxHeartbeats 1600000 in
theorem pick_any (n₀ br p len n : Nat) (hn : 1 ≤ n) (hn2 : n ≤ 100000) (hp : p ≤ 1000000) (W : World) (hR : RdAt n₀ br p len W) :
    Calls Tryd.prog 28 #[.pointer (some ⟨br, 0, none⟩), .int .i64 n] W (Picked n (W.setCell ⟨br, 1, none⟩ (.int .i64 ((p : Int) + 1)))) := by
  obtain ⟨hbr, hlen, c, hheap, ad, cap, rfl, hlc, hcm, hcode⟩ := hR
  have hc0 : W.cell? ⟨br, 0, none⟩ = some (.slice ad len cap) := by simp [World.cell?, hheap]
  have hc1 : W.cell? ⟨br, 1, none⟩ = some (.int .i64 p) := by simp [World.cell?, hheap]
  have hf1 : W.frozen? ⟨br, 1, none⟩ = false := by simp [World.frozen?, hheap]
  unfold maxLen at hcm
  clear hheap
  have hni : ¬ ((n : Int) < 1) := by omega
  by_cases hl : 0 < len
  · obtain ⟨b, off, rfl, hbn, hz⟩ := hcode hl
    have hbb : ¬ b = br := by omega
    have hl0 : ((len : Int) == 0) = false := beq_eq_false_iff_ne.2 (by omega)
    by_cases hk : p < len
    · obtain ⟨z, hzc, hz0, hz1⟩ := hz p hk
      have hki : (p : Int) < (len : Int) := by omega
      clear hz hcode
      go_enter Tryd.func28, Tryd.ntmps28
      go_wp2
      go_ret
      exact picked_mk (z % n) 0 (Int.emod_nonneg _ (by omega)) (Int.emod_lt_of_pos _ (by omega))
    · have hki : ¬ ((p : Int) < (len : Int)) := by omega
      have hli : (0 : Int) < (len : Int) := by omega
      have hln : ¬ len = 0 := by omega
      have hln' : ¬ (len : Int) = 0 := by omega
      obtain ⟨i, hi, hit⟩ : ∃ i : Nat, i < len ∧ (p : Int).tmod (len : Int) = (i : Int) := ⟨p % len, Nat.mod_lt _ hl, by rw [Int.tmod_eq_emod_of_nonneg (by omega)]; rfl⟩
      obtain ⟨j, hj, hjt⟩ : ∃ j : Nat, j < len ∧ ((p : Int) * 7 + 3).tmod (len : Int) = (j : Int) := ⟨(p * 7 + 3) % len, Nat.mod_lt _ hl, by rw [Int.tmod_eq_emod_of_nonneg (by omega)]; rfl⟩
      obtain ⟨q, hq, hqt⟩ : ∃ q : Nat, q ≤ p ∧ (p : Int).tdiv (len : Int) = (q : Int) := ⟨p / len, Nat.div_le_self _ _, by rw [Int.tdiv_eq_ediv_of_nonneg (by omega)]; rfl⟩
      have hii : (i : Int) < (len : Int) := by omega
      have hjj : (j : Int) < (len : Int) := by omega
      obtain ⟨z, hzc, hz0, hz1⟩ := hz i hi
      obtain ⟨y, hyc, hy0, hy1⟩ := hz j hj
      clear hz hcode
      go_enter Tryd.func28, Tryd.ntmps28
      go_wp2
      go_quiet (fail)
      go_wp2
      go_ret
      have hx0 := xor_int (z * 131 + y * 1117 + (p : Int) * 29 + (q : Int) * 53) (by omega) (by omega)
      generalize bits .xor .i64 (z * 131 + y * 1117 + (p : Int) * 29 + (q : Int) * 53) ((z * 131 + y * 1117 + (p : Int) * 29 + (q : Int) * 53) / 64) = X at hx0
      exact picked_mk (X.tmod n) _ (by rw [Int.tmod_eq_emod_of_nonneg hx0]; exact Int.emod_nonneg _ (by omega)) (by rw [Int.tmod_eq_emod_of_nonneg hx0]; exact Int.emod_lt_of_pos _ (by omega))
  · have hl0 : ((len : Int) == 0) = true := by
      have : len = 0 := by omega
      simp [this]
    clear hcode
    go_enter Tryd.func28, Tryd.ntmps28
    go_wp2
    go_ret
    exact picked_mk 0 0 (by omega) (by omega)

/-- what a code is opened as -/
theorem open_code (n₀ len : Nat) (c : Value) (W : World) (hn : n₀ ≤ W.heap.size) (hc : CodeOk n₀ W c len) (hl : len ≤ 1048576) :
    Calls Tryd.prog 18 #[c] W fun e W' => ∃ k l2, e = .returned (.pointer (some ⟨k, 0, none⟩)) ∧ RdAt n₀ k 0 l2 W' ∧ W.heap.size ≤ k ∧ Below W.heap.size W W' := by
  obtain ⟨ad, cap, rfl, hlc, hcm, hcode⟩ := hc
  unfold maxLen at hcm
  by_cases hbig : 2000 < len
  · obtain ⟨b, off, rfl, hbn, hz⟩ := hcode (by omega)
    have hcode2 := hide hcode
    clear hcode
    go_enter Tryd.func18, Tryd.ntmps18
    go_wp2
    go_ret
    refine ⟨W.heap.size, 2000, rfl, ⟨hn, by omega, .slice (some ⟨b, off, none⟩) 2000 cap, ?_, ⟨_, _, rfl, by omega, by unfold maxLen; omega, fun _ => ⟨b, off, rfl, hbn, fun i hi => ?_⟩⟩⟩, Nat.le_refl _, (Below.refl _ _).alloc (Nat.le_refl _) _⟩
    · exact heap_alloc_new W _
    · obtain ⟨z, h1, h2⟩ := hz i (by omega)
      exact ⟨z, (World.cell?_alloc_past _ _ _ (by omega)).trans h1, h2⟩
  · have hcode2 := hide hcode
    clear hcode
    go_enter Tryd.func18, Tryd.ntmps18
    go_wp2
    go_ret
    refine ⟨W.heap.size, len, rfl, ⟨hn, by omega, .slice ad len cap, ?_, ⟨_, _, rfl, by omega, by unfold maxLen; omega, fun h => ?_⟩⟩, Nat.le_refl _, (Below.refl _ _).alloc (Nat.le_refl _) _⟩
    · exact heap_alloc_new W _
    · obtain ⟨b, off, rfl, hbn, hz⟩ := hcode2.out h
      refine ⟨b, off, rfl, hbn, fun i hi => ?_⟩
      obtain ⟨z, h1, h2⟩ := hz i hi
      exact ⟨z, (World.cell?_alloc_past _ _ _ (by omega)).trans h1, h2⟩
end Go.Proofs.YtamkogkcdmgjoaaDoor

/- Joined: Draw DrawT Dw1 Dw2 DwV. -/
import Derived.Test.YtamkncfdfaejjabGreatDoorLeafB
import Derived.Deep.QuietTactic
import Derived.BigQuiet
import Derived.WalkSmall
import Derived.Test.YtamkncfdfaejjabGreatDoorVal1
import Derived.Test.YtamkncfdfaejjabGreatDoorBx
/- What draws: numbers and texts out of a code. -/
namespace Go.Proofs.YtamkncfdfaejjabGreatDoor
open Go.RowKit
set_option linter.unusedVariables false

/-- a code: a slice of bytes that lies below n₀ -/
def CodeOk (n₀ : Nat) (W : World) (c : Value) (len : Nat) : Prop :=
  ∃ ad cap, c = .slice ad len cap ∧ len ≤ cap ∧ cap ≤ maxLen ∧ (0 < len → ∃ b off, ad = some ⟨b, off, none⟩ ∧ b < n₀ ∧ ∀ i, i < len → ∃ z : Int, W.cell? ⟨b, off + i, none⟩ = some (.int .u8 z) ∧ 0 ≤ z ∧ z ≤ 255)

/-- what reads a code: at place p -/
def RdAt (n₀ br p len : Nat) (W : World) : Prop :=
  n₀ ≤ br ∧ len ≤ 2000 ∧ ∃ c, W.heap[br]? = some (.cells #[c, .int .i64 p] 51 (0, 0)) ∧ CodeOk n₀ W c len

theorem CodeOk.later {n₀ : Nat} {W W' : World} {c : Value} {len : Nat} (h : CodeOk n₀ W c len) (hb : Below n₀ W W') : CodeOk n₀ W' c len := by
  obtain ⟨ad, cap, hc, h1, h2, h3⟩ := h
  refine ⟨ad, cap, hc, h1, h2, fun hl => ?_⟩
  obtain ⟨b, off, ha, hbn, hz⟩ := h3 hl
  exact ⟨b, off, ha, hbn, fun i hi => by
    obtain ⟨z, hz1, hz2⟩ := hz i hi
    exact ⟨z, (hb.cell (p := ⟨b, off + i, none⟩) hbn).trans hz1, hz2⟩⟩

theorem RdAt.set {n₀ br p len : Nat} {W : World} (h : RdAt n₀ br p len W) (q : Nat) (k : Nat) : RdAt n₀ br q len (World.drewN (W.setCell ⟨br, 1, none⟩ (.int .i64 q)) k) := by
  obtain ⟨h1, h2, c, h3, h4⟩ := h
  refine ⟨h1, h2, c, ?_, h4.later (below_drewN ((Below.refl n₀ W).setCell (p := ⟨br, 1, none⟩) h1 _) k)⟩
  show (W.setCell ⟨br, 1, none⟩ (.int .i64 q)).heap[br]? = _
  simp [World.setCell, Array.getElem?_modify, h3]

theorem xor_small (X Y : Nat) (hX : X < 1099511627776) (hY : Y < 1099511627776) : 0 ≤ bits .xor .i64 (X : Int) (Y : Int) := by
  have hx : (X ^^^ Y) < 2 ^ 40 := Nat.xor_lt_two_pow hX hY
  have e : bits .xor .i64 (X : Int) (Y : Int) = IntKind.i64.wrap ((X ^^^ Y : Nat) : Int) := by
    have h1 : (BitVec.ofInt 64 (X : Int)).toNat = X := by
      rw [BitVec.ofInt_natCast, BitVec.toNat_ofNat]; exact Nat.mod_eq_of_lt (by omega)
    have h2 : (BitVec.ofInt 64 (Y : Int)).toNat = Y := by
      rw [BitVec.ofInt_natCast, BitVec.toNat_ofNat]; exact Nat.mod_eq_of_lt (by omega)
    show IntKind.i64.wrap ((BitVec.ofInt 64 (X : Int) ^^^ BitVec.ofInt 64 (Y : Int)).toNat : Int) = _
    rw [BitVec.toNat_xor, h1, h2]
  rw [e, IntKind.wrap_i64]
  have : (2 : Nat) ^ 40 = 1099511627776 := by decide
  omega
theorem xor_int (x : Int) (h0 : 0 ≤ x) (h1 : x < 1099511627776) : 0 ≤ bits .xor .i64 x (x / 64) := by
  obtain ⟨X, rfl⟩ := Int.eq_ofNat_of_zero_le h0
  rw [show ((X : Int) / 64) = ((X / 64 : Nat) : Int) from by omega]
  exact xor_small X (X / 64) (by omega) (by omega)

/-- a number below n was handed back; but for draws the world is W1 -/
def Picked (n : Nat) (W1 : World) (e : Ending) (W' : World) : Prop := ∃ x k : Nat, x < n ∧ e = .returned (.int .i64 x) ∧ W' = World.drewN W1 k
theorem picked_mk {n : Nat} {W1 : World} (z : Int) (k : Nat) (h0 : 0 ≤ z) (h1 : z < n) : Picked n W1 (.returned (.int .i64 z)) (World.drewN W1 k) :=
  ⟨z.toNat, k, by omega, by rw [Int.toNat_of_nonneg h0], rfl⟩

set_option maxHeartbeats 1600000 in
theorem pick_any (n₀ br p len n : Nat) (hn : 1 ≤ n) (hn2 : n ≤ 100000) (hp : p ≤ 1000000) (W : World) (hR : RdAt n₀ br p len W) :
    Calls Tryz.prog 10 #[.pointer (some ⟨br, 0, none⟩), .int .i64 n] W (Picked n (W.setCell ⟨br, 1, none⟩ (.int .i64 ((p : Int) + 1)))) := by
  obtain ⟨hbr, hlen, c, hheap, ad, cap, rfl, hlc, hcm, hcode⟩ := hR
  have hc0 : W.cell? ⟨br, 0, none⟩ = some (.slice ad len cap) := by simp [World.cell?, hheap]
  have hc1 : W.cell? ⟨br, 1, none⟩ = some (.int .i64 p) := by simp [World.cell?, hheap]
  have hf1 : W.frozen? ⟨br, 1, none⟩ = false := by simp [World.frozen?, hheap]
  unfold maxLen at hcm
  clear hheap
  have hni : ¬ ((n : Int) < 1) := by omega
  by_cases hl : 0 < len
  · obtain ⟨b, off, rfl, hbn, hz⟩ := hcode hl
    have hbb : ¬ b = br := by omega
    have hl0 : ((len : Int) == 0) = false := beq_eq_false_iff_ne.2 (by omega)
    by_cases hk : p < len
    · obtain ⟨z, hzc, hz0, hz1⟩ := hz p hk
      have hki : (p : Int) < (len : Int) := by omega
      clear hz hcode
      go_enter Tryz.func10, Tryz.ntmps10
      go_wp2
      go_ret
      exact picked_mk (z % n) 0 (Int.emod_nonneg _ (by omega)) (Int.emod_lt_of_pos _ (by omega))
    · have hki : ¬ ((p : Int) < (len : Int)) := by omega
      have hli : (0 : Int) < (len : Int) := by omega
      have hln : ¬ len = 0 := by omega
      have hln' : ¬ (len : Int) = 0 := by omega
      obtain ⟨i, hi, hit⟩ : ∃ i : Nat, i < len ∧ (p : Int).tmod (len : Int) = (i : Int) := ⟨p % len, Nat.mod_lt _ hl, by rw [Int.tmod_eq_emod_of_nonneg (by omega)]; rfl⟩
      obtain ⟨j, hj, hjt⟩ : ∃ j : Nat, j < len ∧ ((p : Int) * 7 + 3).tmod (len : Int) = (j : Int) := ⟨(p * 7 + 3) % len, Nat.mod_lt _ hl, by rw [Int.tmod_eq_emod_of_nonneg (by omega)]; rfl⟩
      obtain ⟨q, hq, hqt⟩ : ∃ q : Nat, q ≤ p ∧ (p : Int).tdiv (len : Int) = (q : Int) := ⟨p / len, Nat.div_le_self _ _, by rw [Int.tdiv_eq_ediv_of_nonneg (by omega)]; rfl⟩
      have hii : (i : Int) < (len : Int) := by omega
      have hjj : (j : Int) < (len : Int) := by omega
      obtain ⟨z, hzc, hz0, hz1⟩ := hz i hi
      obtain ⟨y, hyc, hy0, hy1⟩ := hz j hj
      clear hz hcode
      go_enter Tryz.func10, Tryz.ntmps10
      go_wp2
      go_quiet (fail)
      go_wp2
      go_ret
      have hx0 := xor_int (z * 131 + y * 1117 + (p : Int) * 29 + (q : Int) * 53) (by omega) (by omega)
      generalize bits .xor .i64 (z * 131 + y * 1117 + (p : Int) * 29 + (q : Int) * 53) ((z * 131 + y * 1117 + (p : Int) * 29 + (q : Int) * 53) / 64) = X at hx0
      exact picked_mk (X.tmod n) _ (by rw [Int.tmod_eq_emod_of_nonneg hx0]; exact Int.emod_nonneg _ (by omega)) (by rw [Int.tmod_eq_emod_of_nonneg hx0]; exact Int.emod_lt_of_pos _ (by omega))
  · have hl0 : ((len : Int) == 0) = true := by
      have : len = 0 := by omega
      simp [this]
    clear hcode
    go_enter Tryz.func10, Tryz.ntmps10
    go_wp2
    go_ret
    exact picked_mk 0 0 (by omega) (by omega)

/-- what a code is opened as -/
theorem open_code (n₀ len : Nat) (c : Value) (W : World) (hn : n₀ ≤ W.heap.size) (hc : CodeOk n₀ W c len) (hl : len ≤ 1048576) :
    Calls Tryz.prog 9 #[c] W fun e W' => ∃ k l2, e = .returned (.pointer (some ⟨k, 0, none⟩)) ∧ RdAt n₀ k 0 l2 W' ∧ W.heap.size ≤ k ∧ Below W.heap.size W W' := by
  obtain ⟨ad, cap, rfl, hlc, hcm, hcode⟩ := hc
  unfold maxLen at hcm
  by_cases hbig : 2000 < len
  · obtain ⟨b, off, rfl, hbn, hz⟩ := hcode (by omega)
    have hcode2 := hide hcode
    clear hcode
    go_enter Tryz.func9, Tryz.ntmps9
    go_wp2
    go_ret
    refine ⟨W.heap.size, 2000, rfl, ⟨hn, by omega, .slice (some ⟨b, off, none⟩) 2000 cap, ?_, ⟨_, _, rfl, by omega, by unfold maxLen; omega, fun _ => ⟨b, off, rfl, hbn, fun i hi => ?_⟩⟩⟩, Nat.le_refl _, (Below.refl _ _).alloc (Nat.le_refl _) _⟩
    · exact heap_alloc_new W _
    · obtain ⟨z, h1, h2⟩ := hz i (by omega)
      exact ⟨z, (World.cell?_alloc_past _ _ _ (by omega)).trans h1, h2⟩
  · have hcode2 := hide hcode
    clear hcode
    go_enter Tryz.func9, Tryz.ntmps9
    go_wp2
    go_ret
    refine ⟨W.heap.size, len, rfl, ⟨hn, by omega, .slice ad len cap, ?_, ⟨_, _, rfl, by omega, by unfold maxLen; omega, fun h => ?_⟩⟩, Nat.le_refl _, (Below.refl _ _).alloc (Nat.le_refl _) _⟩
    · exact heap_alloc_new W _
    · obtain ⟨b, off, rfl, hbn, hz⟩ := hcode2.out h
      refine ⟨b, off, rfl, hbn, fun i hi => ?_⟩
      obtain ⟨z, h1, h2⟩ := hz i hi
      exact ⟨z, (World.cell?_alloc_past _ _ _ (by omega)).trans h1, h2⟩
end Go.Proofs.YtamkncfdfaejjabGreatDoor

/- A drawn text: one of a list. -/
namespace Go.Proofs.YtamkncfdfaejjabGreatDoor
open Go.RowKit
set_option linter.unusedVariables false

/-- a list of n short texts that lies in block g -/
def Shorts (n g : Nat) (W : World) : Prop := ∀ i, i < n → ∃ s : ByteArray, W.cell? ⟨g, i, none⟩ = some (.string s) ∧ s.size ≤ 24

/-- a short text was handed back; but for draws the world is W1 -/
def Drawn (W1 : World) (e : Ending) (W' : World) : Prop := ∃ (s : ByteArray) (k : Nat), s.size ≤ 24 ∧ e = .returned (.string s) ∧ W' = World.drewN W1 k
theorem RdAt.next {n₀ br p len : Nat} {W : World} (h : RdAt n₀ br p len W) (k : Nat) : RdAt n₀ br (p + 1) len (World.drewN (W.setCell ⟨br, 1, none⟩ (.int .i64 ((p : Int) + 1))) k) := by
  have := h.set (p + 1) k
  rwa [show ((p + 1 : Nat) : Int) = (p : Int) + 1 from by omega] at this
theorem RdAt.alloc {n₀ br p len : Nat} {W : World} (h : RdAt n₀ br p len W) (o : Obj) : RdAt n₀ br p len (W.alloc o) := by
  obtain ⟨h1, h2, c, h3, h4⟩ := h
  have hlt : br < W.heap.size := (Array.getElem?_eq_some_iff.1 h3).1
  exact ⟨h1, h2, c, (Below.heap_alloc W o br hlt).trans h3, h4.later (((Below.refl _ W).alloc (Nat.le_refl _) o).mono (by omega))⟩
theorem RdAt.lt {n₀ br p len : Nat} {W : World} (h : RdAt n₀ br p len W) : br < W.heap.size := by
  obtain ⟨h1, h2, c, h3, h4⟩ := h
  exact (Array.getElem?_eq_some_iff.1 h3).1
theorem shorts_lit {W : World} {n : Nat} {C : Array Value} {t : TypeId} (h : ∀ i, i < n → ∃ s : ByteArray, C[i]? = some (.string s) ∧ s.size ≤ 24) : Shorts n W.heap.size (W.alloc (.cells C t)) := by
  intro i hi
  obtain ⟨s, h1, h2⟩ := h i hi
  exact ⟨s, (World.cell?_alloc_at _ _ _ _ rfl).trans h1, h2⟩
theorem below_pick {B br : Nat} {W : World} {q : Int} {k : Nat} (h : B ≤ br) : Below B W (World.drewN (W.setCell ⟨br, 1, none⟩ (.int .i64 q)) k) :=
  below_drewN ((Below.refl B W).setCell (p := ⟨br, 1, none⟩) h _) k

set_option maxHeartbeats 800000 in
theorem of_any (n₀ br p len n g cap : Nat) (hn : 1 ≤ n) (hn2 : n ≤ 1000) (hp : p ≤ 1000000) (W : World) (hR : RdAt n₀ br p len W) (hg : g ≠ br) (hS : Shorts n g W) :
    Calls Tryz.prog 12 #[.pointer (some ⟨br, 0, none⟩), .slice (some ⟨g, 0, none⟩) n cap] W (Drawn (W.setCell ⟨br, 1, none⟩ (.int .i64 ((p : Int) + 1)))) := by
  have hpk := hide (pick_any n₀ br p len n hn (by omega) hp W hR)
  go_enter Tryz.func12, Tryz.ntmps12
  go_wp2_with fail
  refine hpk.out.mono ?_
  rintro e W1 ⟨x, k, hx, rfl, rfl⟩
  obtain ⟨s, hc, hs⟩ := hS x hx
  have hc1 : (W.setCell ⟨br, 1, none⟩ (.int .i64 ((p : Int) + 1))).cell? ⟨g, x, none⟩ = some (.string s) := by
    rw [World.cell?_setCell_other _ _ _ _ (by intro h; cases h; exact hg rfl)]; exact hc
  have hxi : (x : Int) < (n : Int) := by omega
  have hS2 := hide hS
  clear hS
  go_wp2
  go_ret
  exact ⟨s, k, hs, rfl, rfl⟩


end Go.Proofs.YtamkncfdfaejjabGreatDoor

/- What draws, told by what it leaves alone: all blocks but the reader's own. -/
namespace Go.Proofs.YtamkncfdfaejjabGreatDoor
open Go.RowKit
set_option linter.unusedVariables false
set_option linter.unusedSimpArgs false

theorem gb_refl (W : World) (r : Option Nat) : W.grownBy W r := ⟨rfl, rfl, rfl, Nat.le_refl _, fun _ _ _ => rfl⟩
theorem gb_trans {a b c : World} {r : Option Nat} (h : a.grownBy b r) (k : b.grownBy c r) : a.grownBy c r :=
  ⟨k.os.trans h.os, k.tape.trans h.tape, k.output.trans h.output, Nat.le_trans h.size k.size, fun i hi hr => (k.block i (Nat.lt_of_lt_of_le hi h.size) hr).trans (h.block i hi hr)⟩
theorem gb_alloc (W : World) (o : Obj) (r : Option Nat) : W.grownBy (W.alloc o) r := ⟨rfl, rfl, rfl, by simp, fun k hk _ => Below.heap_alloc _ _ _ hk⟩
theorem gb_below {W W' : World} {r : Option Nat} (h : Below W.heap.size W W') : W.grownBy W' r := ⟨h.os, h.tape, h.output, h.size, fun k hk _ => h.block k hk⟩
theorem gb_to {n : Nat} {br : Nat} {W W' : World} (h : W.grownBy W' (some br)) (hn : n ≤ br) (hw : n ≤ W.heap.size) : Below n W W' :=
  ⟨h.os, h.tape, h.output, h.size, fun k hk => h.block k (by omega) (by intro e; cases e; omega)⟩
theorem gb_drew {a W : World} {r : Option Nat} (h : a.grownBy W r) (k : Nat) : a.grownBy (World.drewN W k) r := ⟨h.os, h.tape, h.output, h.size, h.block⟩
theorem gb_set {a W : World} {br : Nat} (h : a.grownBy W (some br)) (p : Addr) (hp : p.block = br ∨ a.heap.size ≤ p.block) (u : Value) : a.grownBy (W.setCell p u) (some br) := by
  refine ⟨h.os, h.tape, h.output, by simp [World.setCell]; exact h.size, fun k hk hr => ?_⟩
  refine (Below.heap_setCell _ _ _ _ ?_).trans (h.block k hk hr)
  intro e
  rcases hp with hp | hp
  · exact hr (by rw [e, hp])
  · omega
theorem gb_cell {W W' : World} {br : Nat} (h : W.grownBy W' (some br)) {b : Nat} (hb : b < W.heap.size) (hne : b ≠ br) (o : Nat) : W'.cell? ⟨b, o, none⟩ = W.cell? ⟨b, o, none⟩ :=
  World.cell?_of_block (w := W) (h.block b hb (by intro e; cases e; exact hne rfl))
theorem gb_free {W W' : World} {br : Nat} (h : W.grownBy W' (some br)) {b : Nat} (hb : b < W.heap.size) (hne : b ≠ br) (o : Nat) : W'.frozen? ⟨b, o, none⟩ = W.frozen? ⟨b, o, none⟩ :=
  World.frozen?_of_block (w := W) (h.block b hb (by intro e; cases e; exact hne rfl))

/-- drawn, at most so many times -/
def Dw (n₀ br len p K : Nat) (W W' : World) : Prop := (∃ p', p' ≤ p + K ∧ RdAt n₀ br p' len W') ∧ W.grownBy W' (some br)
theorem Dw.start {n₀ br len p : Nat} {W : World} (h : RdAt n₀ br p len W) : Dw n₀ br len p 0 W W := ⟨⟨p, Nat.le_refl _, h⟩, gb_refl _ _⟩
theorem Dw.alloc {n₀ br len p K : Nat} {W W' : World} (h : Dw n₀ br len p K W W') (o : Obj) : Dw n₀ br len p K W (W'.alloc o) := by
  obtain ⟨⟨p', hp, hr⟩, hg⟩ := h
  exact ⟨⟨p', hp, hr.alloc o⟩, gb_trans hg (gb_alloc _ _ _)⟩
theorem Dw.set {n₀ br len p K : Nat} {W W' : World} (h : Dw n₀ br len p K W W') (hn₀ : n₀ ≤ W.heap.size) {b : Nat} (hb : W.heap.size ≤ b) (hne : b ≠ br) (o : Nat) (u : Value) : Dw n₀ br len p K W (W'.setCell ⟨b, o, none⟩ u) := by
  obtain ⟨⟨p', hp, h1, h2, c, h3, h4⟩, hg⟩ := h
  refine ⟨⟨p', hp, h1, h2, c, (Below.heap_setCell _ _ _ _ (by show br ≠ b; exact Ne.symm hne)).trans h3, ?_⟩, gb_set hg _ (Or.inr hb) u⟩
  have hlt : br < W'.heap.size := (Array.getElem?_eq_some_iff.1 h3).1
  obtain ⟨ad, cap, hc, q1, q2, q3⟩ := h4
  refine ⟨ad, cap, hc, q1, q2, fun hl => ?_⟩
  obtain ⟨b', off, ha, hbn, hz⟩ := q3 hl
  exact ⟨b', off, ha, hbn, fun i hi => by
    obtain ⟨z, hz1, hz2⟩ := hz i hi
    refine ⟨z, ?_, hz2⟩
    rw [← hz1]
    refine World.cell?_of_block (w := W') (Below.heap_setCell _ _ _ _ ?_)
    show b' ≠ b
    have := hg.size
    intro e
    subst e
    omega⟩
theorem Dw.rd {n₀ br len p K : Nat} {W W' : World} (h : Dw n₀ br len p K W W') : ∃ p', p' ≤ p + K ∧ RdAt n₀ br p' len W' := h.1
theorem Dw.gb {n₀ br len p K : Nat} {W W' : World} (h : Dw n₀ br len p K W W') : W.grownBy W' (some br) := h.2
theorem Dw.lt {n₀ br len p K : Nat} {W W' : World} (h : Dw n₀ br len p K W W') : br < W'.heap.size := by
  obtain ⟨⟨p', _, hr⟩, _⟩ := h
  exact hr.lt
theorem Dw.mono {n₀ br len p K K' : Nat} {W W' : World} (h : Dw n₀ br len p K W W') (hk : K ≤ K') : Dw n₀ br len p K' W W' := by
  obtain ⟨⟨p', hp, hr⟩, hg⟩ := h
  exact ⟨⟨p', by omega, hr⟩, hg⟩

/-- a block that draws leave alone -/
theorem gb_blk {W W' : World} {br b : Nat} {o : Obj} (h : W.grownBy W' (some br)) (hne : b ≠ br) (hb : W.heap[b]? = some o) : W'.heap[b]? = some o :=
  (h.block b (Array.getElem?_eq_some_iff.1 hb).1 (by intro e; cases e; exact hne rfl)).trans hb
theorem blk_set {W : World} {b : Nat} {o : Obj} (hb : W.heap[b]? = some o) {g : Nat} (hne : b ≠ g) (i : Nat) (u : Value) : (W.setCell ⟨g, i, none⟩ u).heap[b]? = some o :=
  (Below.heap_setCell _ _ _ _ hne).trans hb
theorem blk_alloc {W : World} {b : Nat} {o o2 : Obj} (hb : W.heap[b]? = some o) : (W.alloc o2).heap[b]? = some o :=
  (Below.heap_alloc _ _ _ (Array.getElem?_eq_some_iff.1 hb).1).trans hb
/-- one draw behind another -/
theorem Dw.join {n₀ br len p p' K K2 : Nat} {W W1 W2 : World} (hg : W.grownBy W1 (some br)) (hp : p' ≤ p + K) (h : Dw n₀ br len p' K2 W1 W2) : Dw n₀ br len p (K + K2) W W2 := by
  obtain ⟨⟨q, hq, hr⟩, hg2⟩ := h
  exact ⟨⟨q, by omega, hr⟩, gb_trans hg hg2⟩
theorem Dw.boxed {n₀ br len p K : Nat} {W W2 : World} {o : Obj} (h : Dw n₀ br len p K (W.alloc o) W2) : Dw n₀ br len p K W W2 := ⟨h.1, gb_trans (gb_alloc _ _ _) h.2⟩
/-- what lies in a box, behind draws -/
theorem Dw.box {n₀ br len p K : Nat} {W W2 : World} {C : Array Value} {T : TypeId} (h : Dw n₀ br len p K (W.alloc (.cells C T)) W2) (hb : W.heap.size ≠ br) : W2.heap[W.heap.size]? = some (.cells C T (0, 0)) :=
  (h.2.block _ (by simp) (by intro e; cases e; exact hb rfl)).trans (heap_alloc_new W _)

/-- a number was drawn -/
def Num (n n₀ br len p K : Nat) (W W1 : World) (e : Ending) (W' : World) : Prop := ∃ x : Nat, x < n ∧ e = .returned (.int .i64 x) ∧ Dw n₀ br len p K W W' ∧ W1.grownBy W' (some br)
theorem pick_d {n₀ br len p K : Nat} {W W1 : World} (h : Dw n₀ br len p K W W1) (n : Nat) (hn : 1 ≤ n) (hn2 : n ≤ 100000) (hp : p + K ≤ 1000000) :
    Calls Tryz.prog 10 #[.pointer (some ⟨br, 0, none⟩), .int .i64 n] W1 (Num n n₀ br len p (K + 1) W W1) := by
  obtain ⟨⟨p', hp', hr⟩, hg⟩ := h
  refine (pick_any n₀ br p' len n hn hn2 (by omega) W1 hr).mono ?_
  rintro e W2 ⟨x, k, hx, rfl, rfl⟩
  exact ⟨x, hx, rfl, ⟨⟨p' + 1, by omega, hr.next k⟩, gb_drew (gb_set hg _ (Or.inl rfl) _) k⟩, gb_drew (gb_set (gb_refl _ _) _ (Or.inl rfl) _) k⟩

/-- a list of n texts that are so, in block g from off on -/
def Among (P : ByteArray → Prop) (n g off : Nat) (W : World) : Prop := ∀ i, i < n → ∃ s : ByteArray, W.cell? ⟨g, off + i, none⟩ = some (.string s) ∧ P s
def Txt (P : ByteArray → Prop) (n₀ br len p K : Nat) (W W1 : World) (e : Ending) (W' : World) : Prop := ∃ s : ByteArray, P s ∧ e = .returned (.string s) ∧ Dw n₀ br len p K W W' ∧ W1.grownBy W' (some br)
set_option maxHeartbeats 800000 in
theorem of_d {n₀ br len p K : Nat} {W W1 : World} (h : Dw n₀ br len p K W W1) (P : ByteArray → Prop) (n g off cap : Nat) (hn : 1 ≤ n) (hn2 : n ≤ 100000) (hp : p + K ≤ 1000000) (hgr : g ≠ br) (hS : Among P n g off W1) :
    Calls Tryz.prog 12 #[.pointer (some ⟨br, 0, none⟩), .slice (some ⟨g, off, none⟩) n cap] W1 (Txt P n₀ br len p (K + 1) W W1) := by
  obtain ⟨⟨p', hp', hr⟩, hgb⟩ := h
  have hpk := hide (pick_any n₀ br p' len n hn hn2 (by omega) W1 hr)
  have HR := hide hr
  have HG := hide hgb
  clear hr hgb
  go_enter Tryz.func12, Tryz.ntmps12
  go_wp2_with fail
  refine hpk.out.mono ?_
  rintro e W2 ⟨x, k, hx, rfl, rfl⟩
  obtain ⟨s, hc, hs⟩ := hS x hx
  have hc1 : (W1.setCell ⟨br, 1, none⟩ (.int .i64 ((p' : Int) + 1))).cell? ⟨g, off + x, none⟩ = some (.string s) := by
    rw [World.cell?_setCell_other _ _ _ _ (by intro h; exact hgr (congrArg Addr.block h).symm)]; exact hc
  have hxi : (x : Int) < (n : Int) := by omega
  have hS2 := hide hS
  have hs2 := hide hs
  clear hS hs
  go_wp2
  go_ret
  exact ⟨s, hs2.out, rfl, ⟨⟨p' + 1, by omega, HR.out.next k⟩, gb_drew (gb_set HG.out _ (Or.inl rfl) _) k⟩, gb_drew (gb_set (gb_refl _ _) _ (Or.inl rfl) _) k⟩

/-- a list of n numbers in block g -/
def Ints (P : Int → Prop) (n g : Nat) (W : World) : Prop := ∀ i, i < n → ∃ z : Int, W.cell? ⟨g, i, none⟩ = some (.int .i64 z) ∧ P z
def One (P : Int → Prop) (n₀ br len p K : Nat) (W W1 : World) (e : Ending) (W' : World) : Prop := ∃ z : Int, P z ∧ e = .returned (.int .i64 z) ∧ Dw n₀ br len p K W W' ∧ W1.grownBy W' (some br)
set_option maxHeartbeats 800000 in
theorem one_d {n₀ br len p K : Nat} {W W1 : World} (h : Dw n₀ br len p K W W1) (P : Int → Prop) (n g cap : Nat) (hn : 1 ≤ n) (hn2 : n ≤ 100000) (hp : p + K ≤ 1000000) (hgr : g ≠ br) (hS : Ints P n g W1) :
    Calls Tryz.prog 22 #[.pointer (some ⟨br, 0, none⟩), .slice (some ⟨g, 0, none⟩) n cap] W1 (One P n₀ br len p (K + 1) W W1) := by
  obtain ⟨⟨p', hp', hr⟩, hgb⟩ := h
  have hpk := hide (pick_any n₀ br p' len n hn hn2 (by omega) W1 hr)
  have HR := hide hr
  have HG := hide hgb
  clear hr hgb
  go_enter Tryz.func22, Tryz.ntmps22
  go_wp2_with fail
  refine hpk.out.mono ?_
  rintro e W2 ⟨x, k, hx, rfl, rfl⟩
  obtain ⟨s, hc, hs⟩ := hS x hx
  have hc1 : (W1.setCell ⟨br, 1, none⟩ (.int .i64 ((p' : Int) + 1))).cell? ⟨g, x, none⟩ = some (.int .i64 s) := by
    rw [World.cell?_setCell_other _ _ _ _ (by intro h; exact hgr (congrArg Addr.block h).symm)]; exact hc
  have hxi : (x : Int) < (n : Int) := by omega
  have hS2 := hide hS
  have hs2 := hide hs
  clear hS hs
  go_wp2
  go_ret
  exact ⟨s, hs2.out, rfl, ⟨⟨p' + 1, by omega, HR.out.next k⟩, gb_drew (gb_set HG.out _ (Or.inl rfl) _) k⟩, gb_drew (gb_set (gb_refl _ _) _ (Or.inl rfl) _) k⟩

theorem among_lit {P : ByteArray → Prop} {W : World} {n : Nat} {C : Array Value} {t : TypeId} (h : ∀ i, i < n → ∃ s : ByteArray, C[i]? = some (.string s) ∧ P s) : Among P n W.heap.size 0 (W.alloc (.cells C t)) := by
  intro i hi
  obtain ⟨s, h1, h2⟩ := h i hi
  exact ⟨s, (World.cell?_alloc_at _ _ _ _ rfl).trans (by simpa using h1), h2⟩
theorem ints_lit {P : Int → Prop} {W : World} {n : Nat} {C : Array Value} {t : TypeId} (h : ∀ i, i < n → ∃ s : Int, C[i]? = some (.int .i64 s) ∧ P s) : Ints P n W.heap.size (W.alloc (.cells C t)) := by
  intro i hi
  obtain ⟨s, h1, h2⟩ := h i hi
  exact ⟨s, (World.cell?_alloc_at _ _ _ _ rfl).trans h1, h2⟩
theorem all_lit {α : Type} {P : Nat → Prop} : ∀ (l : List α), (∀ i, i < l.length → P i) → ∀ i, i < l.length → P i := fun _ h => h

theorem drawn_sz2 (a b : ByteArray) : (a ++ b).size = a.size + b.size := by simp

set_option maxHeartbeats 800000 in
/-- many times a short text -/
theorem many_any (s : ByteArray) (n : Nat) (h : s.size * n ≤ 25) (hn : n ≤ 25) (hs : s.size ≤ 25) (W : World) :
    Calls Tryz.prog 21 #[.string s, .int .i64 n] W fun e W' => (∃ t : ByteArray, t.size ≤ 25 ∧ e = .returned (.string t)) ∧ W' = W := by
  go_enter Tryz.func21, Tryz.ntmps21
  go_wp2_with fail
  go_loop [0, 1, 5] (fun sv nv ov => ∃ (m : Nat) (t out : ByteArray), sv = .string t ∧ nv = .int .i64 m ∧ ov = .string out ∧ out.size + t.size * m ≤ 25 ∧ m ≤ 25 ∧ t.size ≤ 50) (fun _ nv _ => (intOf nv).toNat)
  case atStart => exact ⟨n, s, ⟨#[]⟩, rfl, rfl, rfl, by show 0 + s.size * n ≤ 25; omega, hn, by omega⟩
  case round =>
    obtain ⟨m, t, out, rfl, rfl, rfl, h1, h2, h3⟩ := hrel
    have H1 := hide h1
    have ho : out.size ≤ 25 := by omega
    clear h1
    by_cases hm : 0 < m
    · obtain ⟨q, hq | hq⟩ : ∃ q, m = 2 * q ∨ m = 2 * q + 1 := ⟨m / 2, by omega⟩
      · have e1 : (m : Int).tmod 2 = 0 := by rw [Int.tmod_eq_emod_of_nonneg (by omega)]; omega
        have e2 : (m : Int).tdiv 2 = (q : Int) := by rw [Int.tdiv_eq_ediv_of_nonneg (by omega)]; omega
        have hq12 : q ≤ 12 := by omega
        have hw : wrap64 (q : Int) = (q : Int) := by unfold wrap64; omega
        have hx : (t ++ t).size * q = t.size * m := by rw [drawn_sz2, hq, Nat.add_mul, Nat.two_mul, Nat.mul_add]
        have hy : t.size ≤ t.size * m := Nat.le_mul_of_pos_right _ hm
        have HQ := hide hq
        have HX := hide hx
        have HY := hide hy
        clear hq hx hy
        go_wp2
        go_round
        case rel => exact ⟨q, t ++ t, out, rfl, rfl, rfl, by rw [HX.out]; exact H1.out, by have := HQ.out; omega, by rw [drawn_sz2]; have := H1.out; have := HY.out; omega⟩
        case measure => have := HQ.out; simp [intOf]; omega
      · have e1 : (m : Int).tmod 2 = 1 := by rw [Int.tmod_eq_emod_of_nonneg (by omega)]; omega
        have e2 : (m : Int).tdiv 2 = (q : Int) := by rw [Int.tdiv_eq_ediv_of_nonneg (by omega)]; omega
        have hq12 : q ≤ 12 := by omega
        have hw : wrap64 (q : Int) = (q : Int) := by unfold wrap64; omega
        have hx : (t ++ t).size * q + t.size = t.size * m := by rw [drawn_sz2, hq, Nat.add_mul, Nat.mul_add, Nat.two_mul, Nat.mul_add, Nat.mul_one]
        have hy : t.size ≤ t.size * m := Nat.le_mul_of_pos_right _ hm
        have HQ := hide hq
        have HX := hide hx
        have HY := hide hy
        clear hq hx hy
        go_wp2
        go_round
        case rel => exact ⟨q, t ++ t, out ++ t, rfl, rfl, rfl, by rw [drawn_sz2 out t]; have := HX.out; have := H1.out; omega, by have := HQ.out; omega, by rw [drawn_sz2]; have := H1.out; have := HY.out; omega⟩
        case measure => have := HQ.out; simp [intOf]; omega
    · go_wp2
      go_ret
      exact ⟨⟨out, ho, rfl⟩, rfl⟩
end Go.Proofs.YtamkncfdfaejjabGreatDoor

/- Drawn values. -/
namespace Go.Proofs.YtamkncfdfaejjabGreatDoor
open Go.RowKit
set_option linter.unusedVariables false
set_option linter.unusedSimpArgs false

/-- a text that is not too long -/
def Sh (s : ByteArray) : Prop := s.size ≤ 25
def Vd (n₀ br len p K : Nat) (W W1 : World) (e : Ending) (W' : World) : Prop := ∃ (vk vn : Int) (vt : ByteArray), Sh vt ∧ e = .returned (vAgg vk vn vt) ∧ Dw n₀ br len p K W W' ∧ W1.grownBy W' (some br)

/-- the same, its number in a range -/
def VdN (B : Int) (n₀ br len p K : Nat) (W W1 : World) (e : Ending) (W' : World) : Prop := ∃ (vk vn : Int) (vt : ByteArray), Sh vt ∧ (-B ≤ vn ∧ vn ≤ B) ∧ e = .returned (vAgg vk vn vt) ∧ Dw n₀ br len p K W W' ∧ W1.grownBy W' (some br)
theorem VdN.weak {B : Int} {n₀ br len p K : Nat} {W W1 : World} {e : Ending} {W' : World} (h : VdN B n₀ br len p K W W1 e W') : Vd n₀ br len p K W W1 e W' := by
  obtain ⟨vk, vn, vt, h1, _, h2⟩ := h
  exact ⟨vk, vn, vt, h1, h2⟩
theorem set3 {W : World} {R : Nat} {x y z : Value} {T : TypeId} (h : W.heap[R]? = some (.cells #[x, y, z] T (0, 0))) (a b c : Value) :
    (((W.setCell ⟨R, 0, none⟩ a).setCell ⟨R, 1, none⟩ b).setCell ⟨R, 2, none⟩ c).heap[R]? = some (.cells #[a, b, c] T (0, 0)) := by
  rw [block_set (block_set (block_set h 0 _) 1 _) 2 _]
  rfl
theorem Dw.set3 {n₀ br len p K R : Nat} {W W2 : World} (h : Dw n₀ br len p K W W2) (hn₀ : n₀ ≤ W.heap.size) (hR : W.heap.size ≤ R) (hne : R ≠ br) (a b c : Value) :
    Dw n₀ br len p K W (((W2.setCell ⟨R, 0, none⟩ a).setCell ⟨R, 1, none⟩ b).setCell ⟨R, 2, none⟩ c) :=
  ((h.set hn₀ hR hne 0 a).set hn₀ hR hne 1 b).set hn₀ hR hne 2 c
theorem cells3 {W : World} {R : Nat} {x y z : Value} {T : TypeId} (h : W.heap[R]? = some (.cells #[x, y, z] T (0, 0))) : W.cell? ⟨R, 0, none⟩ = some x ∧ W.cell? ⟨R, 1, none⟩ = some y ∧ W.cell? ⟨R, 2, none⟩ = some z :=
  ⟨cell_of_block h 0, cell_of_block h 1, cell_of_block h 2⟩

set_option maxHeartbeats 1600000 in
theorem l12Value_n {n₀ br len p K : Nat} {W0 W : World} (h : Dw n₀ br len p K W0 W) (hp : p + K ≤ 900000) :
    Calls Tryz.prog 11 #[.pointer (some ⟨br, 0, none⟩)] W (VdN 1000000000 n₀ br len p (K + 2) W0 W) := by
  obtain ⟨⟨p', hp', hr⟩, hg⟩ := h
  have hlt := hr.lt
  have hne : W.heap.size ≠ br := by omega
  have hn₀ : n₀ ≤ W.heap.size := by have := hr.1; omega
  have J : Hid (∀ W2, Dw n₀ br len p' 2 W W2 → Dw n₀ br len p (K + 2) W0 W2 ∧ W.grownBy W2 (some br)) := fun W2 h2 => ⟨h2.join hg hp', h2.gb⟩
  have HR := hide hr
  clear hr hg
  go_enter Tryz.func11, Tryz.ntmps11
  go_wp2_with fail
  refine (pick_d (Dw.start (HR.out.alloc _)) 5 (by omega) (by omega) (by omega)).mono ?_
  rintro e W2 ⟨x, hx, rfl, hD, _⟩
  have HD := hide hD
  have hb := hD.box hne
  clear hD
  have hbr := HD.out.lt
  have hWs : W.heap.size < W2.heap.size := by have := HD.out.gb.size; simp at this; omega
  have c0 : W2.cell? ⟨W.heap.size, 0, none⟩ = some (.int .i64 0) := cell_of_block hb 0
  have c1 : W2.cell? ⟨W.heap.size, 1, none⟩ = some (.int .i64 0) := cell_of_block hb 1
  have c2 : W2.cell? ⟨W.heap.size, 2, none⟩ = some (.string ⟨#[]⟩) := cell_of_block hb 2
  have f0 := free_of_block hb 0
  have f1 := free_of_block hb 1
  have f2 := free_of_block hb 2
  have HBK := hide hb
  clear hb
  by_cases x0 : x = 0
  · subst x0
    go_wp2
    obtain ⟨d0, d1, d2⟩ := cells3 (set3 HBK.out (.int .i64 0) (.int .i64 0) (.string ⟨#[]⟩))
    refine bodyPost_ret (v := vAgg 0 0 ⟨#[]⟩) (by simp [results, Tryz.results11, go_sem, d0, d1, d2]) rfl ?_
    exact ⟨0, 0, ⟨#[]⟩, by show 0 ≤ 25; omega, ⟨by omega, by omega⟩, rfl, J.out _ ((HD.out.boxed.mono (by omega)).set3 hn₀ (Nat.le_refl _) hne _ _ _)⟩
  · by_cases x1 : x = 1
    · subst x1
      have hm := hide (many_any ⟨#[116]⟩ 24 (by decide) (by decide) (by decide))
      go_wp2_with fail
      refine (hm.out _).mono ?_
      rintro e W3 ⟨⟨t, ht, rfl⟩, rfl⟩
      have HT := hide ht
      clear hm ht
      go_wp2_with fail
      refine (of_d (HD.out.alloc _) Sh 5 W3.heap.size 0 5 (by omega) (by omega) (by omega) (by omega) (among_lit ?_)).mono ?_
      · intro i hi
        have : i = 0 ∨ i = 1 ∨ i = 2 ∨ i = 3 ∨ i = 4 := by omega
        rcases this with rfl | rfl | rfl | rfl | rfl
        · exact ⟨_, rfl, by show _ ≤ _; decide⟩
        · exact ⟨_, rfl, by show _ ≤ _; decide⟩
        · exact ⟨_, rfl, by show _ ≤ _; decide⟩
        · exact ⟨_, rfl, by show _ ≤ _; decide⟩
        · exact ⟨t, rfl, HT.out⟩
      · rintro e W4 ⟨s, hs, rfl, hD4, _⟩
        have hb4 := hD4.box hne
        have HD4 := hide hD4
        have HS := hide hs
        clear hD4 hs c0 c1 c2 f0 f1 f2 HBK HD hbr hWs
        have hbr := HD4.out.lt
        have hWs : W.heap.size < W4.heap.size := by have := HD4.out.gb.size; simp at this; omega
        have c0 : W4.cell? ⟨W.heap.size, 0, none⟩ = some (.int .i64 0) := cell_of_block hb4 0
        have c1 : W4.cell? ⟨W.heap.size, 1, none⟩ = some (.int .i64 0) := cell_of_block hb4 1
        have c2 : W4.cell? ⟨W.heap.size, 2, none⟩ = some (.string ⟨#[]⟩) := cell_of_block hb4 2
        have f0 := free_of_block hb4 0
        have f1 := free_of_block hb4 1
        have f2 := free_of_block hb4 2
        have HBK := hide hb4
        clear hb4
        go_wp2
        obtain ⟨d0, d1, d2⟩ := cells3 (set3 HBK.out (.int .i64 2) (.int .i64 0) (.string s))
        refine bodyPost_ret (v := vAgg 2 0 s) (by simp [results, Tryz.results11, go_sem, d0, d1, d2]) rfl ?_
        exact ⟨2, 0, s, HS.out, ⟨by omega, by omega⟩, rfl, J.out _ (HD4.out.boxed.set3 hn₀ (Nat.le_refl _) hne _ _ _)⟩
    · have q0 : ((x : Int) == 0) = false := beq_eq_false_iff_ne.2 (by omega)
      have q1 : ((x : Int) == 1) = false := beq_eq_false_iff_ne.2 (by omega)
      go_wp2_with fail
      refine (one_d (HD.out.alloc _) (fun z => -1000000000 ≤ z ∧ z ≤ 1000000000) 8 W2.heap.size 8 (by omega) (by omega) (by omega) (by omega) (ints_lit ?_)).mono ?_
      · intro i hi
        have : i = 0 ∨ i = 1 ∨ i = 2 ∨ i = 3 ∨ i = 4 ∨ i = 5 ∨ i = 6 ∨ i = 7 := by omega
        rcases this with rfl | rfl | rfl | rfl | rfl | rfl | rfl | rfl <;> exact ⟨_, rfl, by decide⟩
      · rintro e W4 ⟨z, hzb, rfl, hD4, _⟩
        have HZB := hide hzb
        clear hzb
        have hb4 := hD4.box hne
        have HD4 := hide hD4
        clear hD4 c0 c1 c2 f0 f1 f2 HBK HD hbr hWs
        have hbr := HD4.out.lt
        have hWs : W.heap.size < W4.heap.size := by have := HD4.out.gb.size; simp at this; omega
        have c0 : W4.cell? ⟨W.heap.size, 0, none⟩ = some (.int .i64 0) := cell_of_block hb4 0
        have c1 : W4.cell? ⟨W.heap.size, 1, none⟩ = some (.int .i64 0) := cell_of_block hb4 1
        have c2 : W4.cell? ⟨W.heap.size, 2, none⟩ = some (.string ⟨#[]⟩) := cell_of_block hb4 2
        have f0 := free_of_block hb4 0
        have f1 := free_of_block hb4 1
        have f2 := free_of_block hb4 2
        have HBK := hide hb4
        clear hb4
        go_wp2
        obtain ⟨d0, d1, d2⟩ := cells3 (set3 HBK.out (.int .i64 1) (.int .i64 z) (.string ⟨#[]⟩))
        refine bodyPost_ret (v := vAgg 1 z ⟨#[]⟩) (by simp [results, Tryz.results11, go_sem, d0, d1, d2]) rfl ?_
        exact ⟨1, z, ⟨#[]⟩, by show 0 ≤ 25; omega, HZB.out, rfl, J.out _ (HD4.out.boxed.set3 hn₀ (Nat.le_refl _) hne _ _ _)⟩

theorem l12Value_d {n₀ br len p K : Nat} {W0 W : World} (h : Dw n₀ br len p K W0 W) (hp : p + K ≤ 900000) :
    Calls Tryz.prog 11 #[.pointer (some ⟨br, 0, none⟩)] W (Vd n₀ br len p (K + 2) W0 W) := (l12Value_n h hp).mono fun _ _ h => h.weak
end Go.Proofs.YtamkncfdfaejjabGreatDoor

/- Drawn values of any kind. -/
namespace Go.Proofs.YtamkncfdfaejjabGreatDoor
open Go.RowKit
set_option linter.unusedVariables false
set_option linter.unusedSimpArgs false

set_option maxHeartbeats 3200000 in
theorem l12AnyValue_n {n₀ br len p K : Nat} {W0 W : World} (h : Dw n₀ br len p K W0 W) (hp : p + K ≤ 900000) :
    Calls Tryz.prog 13 #[.pointer (some ⟨br, 0, none⟩)] W (VdN 1000000001 n₀ br len p (K + 4) W0 W) := by
  obtain ⟨⟨p', hp', hr⟩, hg⟩ := h
  have hlt := hr.lt
  have hne : W.heap.size ≠ br := by omega
  have hn₀ : n₀ ≤ W.heap.size := by have := hr.1; omega
  have J : Hid (∀ W2, Dw n₀ br len p' 4 W W2 → Dw n₀ br len p (K + 4) W0 W2 ∧ W.grownBy W2 (some br)) := fun W2 h2 => ⟨h2.join hg hp', h2.gb⟩
  have HR := hide hr
  clear hr hg
  go_enter Tryz.func13, Tryz.ntmps13
  go_wp2_with fail
  refine (l12Value_n (Dw.start (HR.out.alloc _)) (by omega)).mono ?_
  rintro e W2 ⟨vk, vn, vt, hvt, hnb, rfl, hD, _⟩
  have HNB : Hid (-1000000001 ≤ vn ∧ vn ≤ 1000000001) := ⟨by omega, by omega⟩
  clear hnb
  have HD := hide hD
  have hb := hD.box hne
  have HV := hide hvt
  clear hD hvt
  have hlt2 : br < W2.heap.size := HD.out.lt
  have hWs : W.heap.size < W2.heap.size := by have := HD.out.gb.size; simp at this; omega
  have hne2 : W2.heap.size ≠ br := by omega
  have HBK := hide (blk_alloc hb (o2 := .cells #[.int .i64 vk, .int .i64 vn, .string vt] 24))
  clear hb
  go_wp2_with fail
  refine (pick_d (HD.out.alloc _) 16 (by omega) (by omega) (by omega)).mono ?_
  rintro e W3 ⟨x, hx, rfl, hD3, hG3⟩
  have hbR := gb_blk hG3 hne HBK.out
  have hbV := gb_blk hG3 hne2 (heap_alloc_new W2 _)
  have HD3 := hide hD3
  have hlt3 := hD3.lt
  have hW3 : W2.heap.size < W3.heap.size := by have := hG3.size; simp at this; omega
  clear hD3 hG3 HBK HD
  have fin : Hid (∀ (W4 : World) (a b c : Value), W4.heap[W2.heap.size]? = some (.cells #[a, b, c] 24 (0, 0)) → W4.heap[W.heap.size]? = some (.cells #[.int .i64 0, .int .i64 0, .string ⟨#[]⟩] 24 (0, 0)) →
      W4.cell? ⟨W2.heap.size, 0, none⟩ = some a ∧ W4.cell? ⟨W2.heap.size, 1, none⟩ = some b ∧ W4.cell? ⟨W2.heap.size, 2, none⟩ = some c ∧ W4.cell? ⟨W.heap.size, 0, none⟩ = some (.int .i64 0) ∧ W4.cell? ⟨W.heap.size, 1, none⟩ = some (.int .i64 0) ∧ W4.cell? ⟨W.heap.size, 2, none⟩ = some (.string ⟨#[]⟩) ∧ W4.frozen? ⟨W.heap.size, 0, none⟩ = false ∧ W4.frozen? ⟨W.heap.size, 1, none⟩ = false ∧ W4.frozen? ⟨W.heap.size, 2, none⟩ = false ∧ W4.frozen? ⟨W2.heap.size, 0, none⟩ = false ∧ W4.frozen? ⟨W2.heap.size, 1, none⟩ = false ∧ W4.frozen? ⟨W2.heap.size, 2, none⟩ = false) := by
    intro W4 a b c h1 h2
    exact ⟨cell_of_block h1 0, cell_of_block h1 1, cell_of_block h1 2, cell_of_block h2 0, cell_of_block h2 1, cell_of_block h2 2, free_of_block h2 0, free_of_block h2 1, free_of_block h2 2, free_of_block h1 0, free_of_block h1 1, free_of_block h1 2⟩
  have C3 := hide (fin.out W3 _ _ _ hbV hbR)
  have HBR := hide hbR
  have HBV := hide hbV
  clear hbR hbV
  by_cases x0 : x = 0
  · subst x0
    go_wp2_with fail
    refine (one_d (HD3.out.alloc _) (fun z => -1000000001 ≤ z ∧ z ≤ 1000000001) 3 W3.heap.size 3 (by omega) (by omega) (by omega) (by omega) (ints_lit ?_)).mono ?_
    · intro i hi
      have : i = 0 ∨ i = 1 ∨ i = 2 := by omega
      rcases this with rfl | rfl | rfl <;> exact ⟨_, rfl, by decide⟩
    · rintro e W4 ⟨z, hzb, rfl, hD4, hG4⟩
      have HZB := hide hzb
      clear hzb
      have hbR := gb_blk hG4 hne (blk_alloc HBR.out)
      have hbV := gb_blk hG4 hne2 (blk_alloc HBV.out)
      have C4 := fin.out W4 _ _ _ hbV hbR
      have HD4 := hide hD4
      have HBR4 := hide hbR
      clear hbR hbV hD4 hG4 C3
      obtain ⟨v0, v1, v2, r0, r1, r2, f0, f1, f2, f3, f4, f5⟩ := C4
      go_wp2
      obtain ⟨d0, d1, d2⟩ := cells3 (set3 (blk_set HBR4.out (g := W2.heap.size) (by omega) 1 (.int .i64 z)) (.int .i64 vk) (.int .i64 z) (.string vt))
      refine bodyPost_ret (v := vAgg vk z vt) (by simp [results, Tryz.results13, go_sem, d0, d1, d2]) rfl ?_
      exact ⟨vk, z, vt, HV.out, HZB.out, rfl, J.out _ ((HD4.out.boxed.set hn₀ (by omega) hne2 1 _).set3 hn₀ (Nat.le_refl _) hne _ _ _)⟩
  · have q0 : ((x : Int) == 0) = false := beq_eq_false_iff_ne.2 (by omega)
    by_cases x1 : x = 1
    · subst x1
      clear q0
      have hm := hide (many_any ⟨#[117]⟩ 25 (by decide) (by decide) (by decide))
      go_wp2_with fail
      refine (hm.out _).mono ?_
      rintro e W3' ⟨⟨t, ht, rfl⟩, rfl⟩
      have HT := hide ht
      clear hm ht
      go_wp2_with fail
      refine (of_d (HD3.out.alloc _) Sh 4 W3'.heap.size 0 4 (by omega) (by omega) (by omega) (by omega) (among_lit ?_)).mono ?_
      · intro i hi
        have : i = 0 ∨ i = 1 ∨ i = 2 ∨ i = 3 := by omega
        rcases this with rfl | rfl | rfl | rfl
        · exact ⟨_, rfl, by show _ ≤ _; decide⟩
        · exact ⟨_, rfl, by show _ ≤ _; decide⟩
        · exact ⟨t, rfl, HT.out⟩
        · exact ⟨_, rfl, by show _ ≤ _; decide⟩
      · rintro e W4 ⟨z, hz, rfl, hD4, hG4⟩
        have hbR := gb_blk hG4 hne (blk_alloc HBR.out)
        have hbV := gb_blk hG4 hne2 (blk_alloc HBV.out)
        have C4 := fin.out W4 _ _ _ hbV hbR
        have HD4 := hide hD4
        have HBR4 := hide hbR
        have HZ := hide hz
        clear hbR hbV hD4 hG4 C3 hz
        obtain ⟨v0, v1, v2, r0, r1, r2, f0, f1, f2, f3, f4, f5⟩ := C4
        go_wp2
        obtain ⟨d0, d1, d2⟩ := cells3 (set3 (blk_set HBR4.out (g := W2.heap.size) (by omega) 2 (.string z)) (.int .i64 vk) (.int .i64 vn) (.string z))
        refine bodyPost_ret (v := vAgg vk vn z) (by simp [results, Tryz.results13, go_sem, d0, d1, d2]) rfl ?_
        exact ⟨vk, vn, z, HZ.out, HNB.out, rfl, J.out _ ((HD4.out.boxed.set hn₀ (by omega) hne2 2 _).set3 hn₀ (Nat.le_refl _) hne _ _ _)⟩
    · have q1 : ((x : Int) == 1) = false := beq_eq_false_iff_ne.2 (by omega)
      by_cases x2 : x = 2
      · subst x2
        clear q0 q1
        go_wp2_with fail
        refine (pick_d HD3.out 5 (by omega) (by omega) (by omega)).mono ?_
        rintro e W4 ⟨z, hz, rfl, hD4, hG4⟩
        have hbR := gb_blk hG4 hne HBR.out
        have hbV := gb_blk hG4 hne2 HBV.out
        have C4 := fin.out W4 _ _ _ hbV hbR
        have HD4 := hide hD4
        have HBR4 := hide hbR
        clear hbR hbV hD4 hG4 C3
        obtain ⟨v0, v1, v2, r0, r1, r2, f0, f1, f2, f3, f4, f5⟩ := C4
        go_wp2
        obtain ⟨d0, d1, d2⟩ := cells3 (set3 (blk_set HBR4.out (g := W2.heap.size) (by omega) 0 (.int .i64 ((z : Int) - 1))) (.int .i64 ((z : Int) - 1)) (.int .i64 vn) (.string vt))
        refine bodyPost_ret (v := vAgg ((z : Int) - 1) vn vt) (by simp [results, Tryz.results13, go_sem, d0, d1, d2]) rfl ?_
        exact ⟨(z : Int) - 1, vn, vt, HV.out, HNB.out, rfl, J.out _ ((HD4.out.boxed.set hn₀ (by omega) hne2 0 _).set3 hn₀ (Nat.le_refl _) hne _ _ _)⟩
      · have q2 : ((x : Int) == 2) = false := beq_eq_false_iff_ne.2 (by omega)
        obtain ⟨v0, v1, v2, r0, r1, r2, f0, f1, f2, f3, f4, f5⟩ := C3.out
        go_wp2
        obtain ⟨d0, d1, d2⟩ := cells3 (set3 HBR.out (.int .i64 vk) (.int .i64 vn) (.string vt))
        refine bodyPost_ret (v := vAgg vk vn vt) (by simp [results, Tryz.results13, go_sem, d0, d1, d2]) rfl ?_
        exact ⟨vk, vn, vt, HV.out, HNB.out, rfl, J.out _ ((HD3.out.boxed.mono (by omega)).set3 hn₀ (Nat.le_refl _) hne _ _ _)⟩
theorem l12AnyValue_d {n₀ br len p K : Nat} {W0 W : World} (h : Dw n₀ br len p K W0 W) (hp : p + K ≤ 900000) :
    Calls Tryz.prog 13 #[.pointer (some ⟨br, 0, none⟩)] W (Vd n₀ br len p (K + 4) W0 W) := (l12AnyValue_n h hp).mono fun _ _ h => h.weak
end Go.Proofs.YtamkncfdfaejjabGreatDoor

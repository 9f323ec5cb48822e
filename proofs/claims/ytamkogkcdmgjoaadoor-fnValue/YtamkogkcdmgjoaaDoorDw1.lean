/- What draws, told by what it leaves alone: all blocks but the reader's own. -/
import Derived.Test.YtamkogkcdmgjoaaDoorDrawT
namespace Go.Proofs.YtamkogkcdmgjoaaDoor
open Go.RowKit
set_option linter.unusedVariables false
set_option linter.unusedSimpArgs false

theorem gb_refl (W : World) (r : Option Nat) : W.grownBy W r := ⟨rfl, rfl, rfl, Nat.le_refl _, fun _ _ _ => rfl⟩
theorem gb_trans {a b c : World} {r : Option Nat} (h : a.grownBy b r) (k : b.grownBy c r) : a.grownBy c r :=
  ⟨k.os.trans h.os, k.tape.trans h.tape, k.output.trans h.output, Nat.le_trans h.size k.size, fun i hi hr => (k.block i (Nat.lt_of_lt_of_le hi h.size) hr).trans (h.block i hi hr)⟩
theorem gb_alloc (W : World) (o : Obj) (r : Option Nat) : W.grownBy (W.alloc o) r := ⟨rfl, rfl, rfl, by simp, fun k hk _ => Below.heap_alloc _ _ _ hk⟩
theorem gb_below {W W' : World} {r : Option Nat} (h : Below W.heap.size W W') : W.grownBy W' r := ⟨h.os, h.tape, h.output, h.size, fun k hk _ => h.block k hk⟩
theorem gb_to {n : Nat} {br : Nat} {W W' : World} (h : W.grownBy W' (some br)) (hn : n ≤ br) (hw : n ≤ W.heap.size) : Below n W W' :=
  ⟨h.os, h.tape, h.output, h.size, fun k hk => h.block k (by omega) (by intro e; cases e; omega)⟩
theorem gb_drew {a W : World} {r : Option Nat} (h : a.grownBy W r) (k : Nat) : a.grownBy (World.drewN W k) r := ⟨h.os, h.tape, h.output, h.size, h.block⟩
theorem gb_set {a W : World} {br : Nat} (h : a.grownBy W (some br)) (p : Addr) (hp : p.block = br ∨ a.heap.size ≤ p.block) (u : Value) : a.grownBy (W.setCell p u) (some br) := by
  refine ⟨h.os, h.tape, h.output, by simp [World.setCell]; exact h.size, fun k hk hr => ?_⟩
  refine (Below.heap_setCell _ _ _ _ ?_).trans (h.block k hk hr)
  intro e
  rcases hp with hp | hp
  · exact hr (by rw [e, hp])
  · omega
theorem gb_cell {W W' : World} {br : Nat} (h : W.grownBy W' (some br)) {b : Nat} (hb : b < W.heap.size) (hne : b ≠ br) (o : Nat) : W'.cell? ⟨b, o, none⟩ = W.cell? ⟨b, o, none⟩ :=
  World.cell?_of_block (w := W) (h.block b hb (by intro e; cases e; exact hne rfl))
theorem gb_free {W W' : World} {br : Nat} (h : W.grownBy W' (some br)) {b : Nat} (hb : b < W.heap.size) (hne : b ≠ br) (o : Nat) : W'.frozen? ⟨b, o, none⟩ = W.frozen? ⟨b, o, none⟩ :=
  World.frozen?_of_block (w := W) (h.block b hb (by intro e; cases e; exact hne rfl))

/-- drawn, at most so many times -/
def Dw (n₀ br len p K : Nat) (W W' : World) : Prop := (∃ p', p' ≤ p + K ∧ RdAt n₀ br p' len W') ∧ W.grownBy W' (some br)
theorem Dw.start {n₀ br len p : Nat} {W : World} (h : RdAt n₀ br p len W) : Dw n₀ br len p 0 W W := ⟨⟨p, Nat.le_refl _, h⟩, gb_refl _ _⟩
theorem Dw.alloc {n₀ br len p K : Nat} {W W' : World} (h : Dw n₀ br len p K W W') (o : Obj) : Dw n₀ br len p K W (W'.alloc o) := by
  obtain ⟨⟨p', hp, hr⟩, hg⟩ := h
  exact ⟨⟨p', hp, hr.alloc o⟩, gb_trans hg (gb_alloc _ _ _)⟩
theorem Dw.set {n₀ br len p K : Nat} {W W' : World} (h : Dw n₀ br len p K W W') (hn₀ : n₀ ≤ W.heap.size) {b : Nat} (hb : W.heap.size ≤ b) (hne : b ≠ br) (o : Nat) (u : Value) : Dw n₀ br len p K W (W'.setCell ⟨b, o, none⟩ u) := by
  obtain ⟨⟨p', hp, h1, h2, c, h3, h4⟩, hg⟩ := h
  refine ⟨⟨p', hp, h1, h2, c, (Below.heap_setCell _ _ _ _ (by show br ≠ b; exact Ne.symm hne)).trans h3, ?_⟩, gb_set hg _ (Or.inr hb) u⟩
  have hlt : br < W'.heap.size := (Array.getElem?_eq_some_iff.1 h3).1
  obtain ⟨ad, cap, hc, q1, q2, q3⟩ := h4
  refine ⟨ad, cap, hc, q1, q2, fun hl => ?_⟩
  obtain ⟨b', off, ha, hbn, hz⟩ := q3 hl
  exact ⟨b', off, ha, hbn, fun i hi => by
    obtain ⟨z, hz1, hz2⟩ := hz i hi
    refine ⟨z, ?_, hz2⟩
    rw [← hz1]
    refine World.cell?_of_block (w := W') (Below.heap_setCell _ _ _ _ ?_)
    show b' ≠ b
    have := hg.size
    intro e
    subst e
    omega⟩
theorem Dw.rd {n₀ br len p K : Nat} {W W' : World} (h : Dw n₀ br len p K W W') : ∃ p', p' ≤ p + K ∧ RdAt n₀ br p' len W' := h.1
theorem Dw.gb {n₀ br len p K : Nat} {W W' : World} (h : Dw n₀ br len p K W W') : W.grownBy W' (some br) := h.2
theorem Dw.lt {n₀ br len p K : Nat} {W W' : World} (h : Dw n₀ br len p K W W') : br < W'.heap.size := by
  obtain ⟨⟨p', _, hr⟩, _⟩ := h
  exact hr.lt
theorem Dw.mono {n₀ br len p K K' : Nat} {W W' : World} (h : Dw n₀ br len p K W W') (hk : K ≤ K') : Dw n₀ br len p K' W W' := by
  obtain ⟨⟨p', hp, hr⟩, hg⟩ := h
  exact ⟨⟨p', by omega, hr⟩, hg⟩

/-- a block that draws leave alone -/
theorem gb_blk {W W' : World} {br b : Nat} {o : Obj} (h : W.grownBy W' (some br)) (hne : b ≠ br) (hb : W.heap[b]? = some o) : W'.heap[b]? = some o :=
  (h.block b (Array.getElem?_eq_some_iff.1 hb).1 (by intro e; cases e; exact hne rfl)).trans hb
theorem blk_set {W : World} {b : Nat} {o : Obj} (hb : W.heap[b]? = some o) {g : Nat} (hne : b ≠ g) (i : Nat) (u : Value) : (W.setCell ⟨g, i, none⟩ u).heap[b]? = some o :=
  (Below.heap_setCell _ _ _ _ hne).trans hb
theorem blk_alloc {W : World} {b : Nat} {o o2 : Obj} (hb : W.heap[b]? = some o) : (W.alloc o2).heap[b]? = some o :=
  (Below.heap_alloc _ _ _ (Array.getElem?_eq_some_iff.1 hb).1).trans hb
/-- one draw behind another -/
theorem Dw.join {n₀ br len p p' K K2 : Nat} {W W1 W2 : World} (hg : W.grownBy W1 (some br)) (hp : p' ≤ p + K) (h : Dw n₀ br len p' K2 W1 W2) : Dw n₀ br len p (K + K2) W W2 := by
  obtain ⟨⟨q, hq, hr⟩, hg2⟩ := h
  exact ⟨⟨q, by omega, hr⟩, gb_trans hg hg2⟩
theorem Dw.boxed {n₀ br len p K : Nat} {W W2 : World} {o : Obj} (h : Dw n₀ br len p K (W.alloc o) W2) : Dw n₀ br len p K W W2 := ⟨h.1, gb_trans (gb_alloc _ _ _) h.2⟩
/-- what lies in a box, behind draws -/
theorem Dw.box {n₀ br len p K : Nat} {W W2 : World} {C : Array Value} {T : TypeId} (h : Dw n₀ br len p K (W.alloc (.cells C T)) W2) (hb : W.heap.size ≠ br) : W2.heap[W.heap.size]? = some (.cells C T (0, 0)) :=
  (h.2.block _ (by simp) (by intro e; cases e; exact hb rfl)).trans (heap_alloc_new W _)

/-- a number was drawn -/
def Num (n n₀ br len p K : Nat) (W W1 : World) (e : Ending) (W' : World) : Prop := ∃ x : Nat, x < n ∧ e = .returned (.int .i64 x) ∧ Dw n₀ br len p K W W' ∧ W1.grownBy W' (some br)
theorem pick_d {n₀ br len p K : Nat} {W W1 : World} (h : Dw n₀ br len p K W W1) (n : Nat) (hn : 1 ≤ n) (hn2 : n ≤ 100000) (hp : p + K ≤ 1000000) :
    Calls Tryd.prog 28 #[.pointer (some ⟨br, 0, none⟩), .int .i64 n] W1 (Num n n₀ br len p (K + 1) W W1) := by
  obtain ⟨⟨p', hp', hr⟩, hg⟩ := h
  refine (pick_any n₀ br p' len n hn hn2 (by omega) W1 hr).mono ?_
  rintro e W2 ⟨x, k, hx, rfl, rfl⟩
  exact ⟨x, hx, rfl, ⟨⟨p' + 1, by omega, hr.next k⟩, gb_drew (gb_set hg _ (Or.inl rfl) _) k⟩, gb_drew (gb_set (gb_refl _ _) _ (Or.inl rfl) _) k⟩

/-- a list of n texts that are so, in block g from off on -/
def Among (P : ByteArray → Prop) (n g off : Nat) (W : World) : Prop := ∀ i, i < n → ∃ s : ByteArray, W.cell? ⟨g, off + i, none⟩ = some (.string s) ∧ P s
def Txt (P : ByteArray → Prop) (n₀ br len p K : Nat) (W W1 : World) (e : Ending) (W' : World) : Prop := ∃ s : ByteArray, P s ∧ e = .returned (.string s) ∧ Dw n₀ br len p K W W' ∧ W1.grownBy W' (some br)
set_option maxHeartbeats 800000 in
theorem of_d {n₀ br len p K : Nat} {W W1 : World} (h : Dw n₀ br len p K W W1) (P : ByteArray → Prop) (n g off cap : Nat) (hn : 1 ≤ n) (hn2 : n ≤ 100000) (hp : p + K ≤ 1000000) (hgr : g ≠ br) (hS : Among P n g off W1) :
    Calls Tryd.prog 23 #[.pointer (some ⟨br, 0, none⟩), .slice (some ⟨g, off, none⟩) n cap] W1 (Txt P n₀ br len p (K + 1) W W1) := by
  obtain ⟨⟨p', hp', hr⟩, hgb⟩ := h
  have hpk := hide (pick_any n₀ br p' len n hn hn2 (by omega) W1 hr)
  have HR := hide hr
  have HG := hide hgb
  clear hr hgb
  go_enter Tryd.func23, Tryd.ntmps23
  go_wp2_with fail
  refine hpk.out.mono ?_
  rintro e W2 ⟨x, k, hx, rfl, rfl⟩
  obtain ⟨s, hc, hs⟩ := hS x hx
  have hc1 : (W1.setCell ⟨br, 1, none⟩ (.int .i64 ((p' : Int) + 1))).cell? ⟨g, off + x, none⟩ = some (.string s) := by
    rw [World.cell?_setCell_other _ _ _ _ (by intro h; exact hgr (congrArg Addr.block h).symm)]; exact hc
  have hxi : (x : Int) < (n : Int) := by omega
  have hS2 := hide hS
  have hs2 := hide hs
  clear hS hs
  go_wp2
  go_ret
  exact ⟨s, hs2.out, rfl, ⟨⟨p' + 1, by omega, HR.out.next k⟩, gb_drew (gb_set HG.out _ (Or.inl rfl) _) k⟩, gb_drew (gb_set (gb_refl _ _) _ (Or.inl rfl) _) k⟩

/-- a list of n numbers in block g -/
def Ints (P : Int → Prop) (n g : Nat) (W : World) : Prop := ∀ i, i < n → ∃ z : Int, W.cell? ⟨g, i, none⟩ = some (.int .i64 z) ∧ P z
def One (P : Int → Prop) (n₀ br len p K : Nat) (W W1 : World) (e : Ending) (W' : World) : Prop := ∃ z : Int, P z ∧ e = .returned (.int .i64 z) ∧ Dw n₀ br len p K W W' ∧ W1.grownBy W' (some br)
set_option maxHeartbeats 800000 in
theorem one_d {n₀ br len p K : Nat} {W W1 : World} (h : Dw n₀ br len p K W W1) (P : Int → Prop) (n g cap : Nat) (hn : 1 ≤ n) (hn2 : n ≤ 100000) (hp : p + K ≤ 1000000) (hgr : g ≠ br) (hS : Ints P n g W1) :
    Calls Tryd.prog 29 #[.pointer (some ⟨br, 0, none⟩), .slice (some ⟨g, 0, none⟩) n cap] W1 (One P n₀ br len p (K + 1) W W1) := by
  obtain ⟨⟨p', hp', hr⟩, hgb⟩ := h
  have hpk := hide (pick_any n₀ br p' len n hn hn2 (by omega) W1 hr)
  have HR := hide hr
  have HG := hide hgb
  clear hr hgb
  go_enter Tryd.func29, Tryd.ntmps29
  go_wp2_with fail
  refine hpk.out.mono ?_
  rintro e W2 ⟨x, k, hx, rfl, rfl⟩
  obtain ⟨s, hc, hs⟩ := hS x hx
  have hc1 : (W1.setCell ⟨br, 1, none⟩ (.int .i64 ((p' : Int) + 1))).cell? ⟨g, x, none⟩ = some (.int .i64 s) := by
    rw [World.cell?_setCell_other _ _ _ _ (by intro h; exact hgr (congrArg Addr.block h).symm)]; exact hc
  have hxi : (x : Int) < (n : Int) := by omega
  have hS2 := hide hS
  have hs2 := hide hs
  clear hS hs
  go_wp2
  go_ret
  exact ⟨s, hs2.out, rfl, ⟨⟨p' + 1, by omega, HR.out.next k⟩, gb_drew (gb_set HG.out _ (Or.inl rfl) _) k⟩, gb_drew (gb_set (gb_refl _ _) _ (Or.inl rfl) _) k⟩

theorem among_lit {P : ByteArray → Prop} {W : World} {n : Nat} {C : Array Value} {t : TypeId} (h : ∀ i, i < n → ∃ s : ByteArray, C[i]? = some (.string s) ∧ P s) : Among P n W.heap.size 0 (W.alloc (.cells C t)) := by
  intro i hi
  obtain ⟨s, h1, h2⟩ := h i hi
  exact ⟨s, (World.cell?_alloc_at _ _ _ _ rfl).trans (by simpa using h1), h2⟩
theorem ints_lit {P : Int → Prop} {W : World} {n : Nat} {C : Array Value} {t : TypeId} (h : ∀ i, i < n → ∃ s : Int, C[i]? = some (.int .i64 s) ∧ P s) : Ints P n W.heap.size (W.alloc (.cells C t)) := by
  intro i hi
  obtain ⟨s, h1, h2⟩ := h i hi
  exact ⟨s, (World.cell?_alloc_at _ _ _ _ rfl).trans h1, h2⟩
theorem all_lit {α : Type} {P : Nat → Prop} : ∀ (l : List α), (∀ i, i < l.length → P i) → ∀ i, i < l.length → P i := fun _ h => h

theorem drawn_sz2 (a b : ByteArray) : (a ++ b).size = a.size + b.size := by simp

set_option maxHeartbeats 800000 in
/-- many times a short text -/
theorem many_any (s : ByteArray) (n : Nat) (h : s.size * n ≤ 25) (hn : n ≤ 25) (hs : s.size ≤ 25) (W : World) :
    Calls Tryd.prog 30 #[.string s, .int .i64 n] W fun e W' => (∃ t : ByteArray, t.size ≤ 25 ∧ e = .returned (.string t)) ∧ W' = W := by
  go_enter Tryd.func30, Tryd.ntmps30
  go_wp2_with fail
  go_loop [0, 1, 5] (fun sv nv ov => ∃ (m : Nat) (t out : ByteArray), sv = .string t ∧ nv = .int .i64 m ∧ ov = .string out ∧ out.size + t.size * m ≤ 25 ∧ m ≤ 25 ∧ t.size ≤ 50) (fun _ nv _ => (intOf nv).toNat)
  case atStart => exact ⟨n, s, ⟨#[]⟩, rfl, rfl, rfl, by show 0 + s.size * n ≤ 25; omega, hn, by omega⟩
  case round =>
    obtain ⟨m, t, out, rfl, rfl, rfl, h1, h2, h3⟩ := hrel
    have H1 := hide h1
    have ho : out.size ≤ 25 := by omega
    clear h1
    by_cases hm : 0 < m
    · obtain ⟨q, hq | hq⟩ : ∃ q, m = 2 * q ∨ m = 2 * q + 1 := ⟨m / 2, by omega⟩
      · have e1 : (m : Int).tmod 2 = 0 := by rw [Int.tmod_eq_emod_of_nonneg (by omega)]; omega
        have e2 : (m : Int).tdiv 2 = (q : Int) := by rw [Int.tdiv_eq_ediv_of_nonneg (by omega)]; omega
        have hq12 : q ≤ 12 := by omega
        have hw : wrap64 (q : Int) = (q : Int) := by unfold wrap64; omega
        have hx : (t ++ t).size * q = t.size * m := by rw [drawn_sz2, hq, Nat.add_mul, Nat.two_mul, Nat.mul_add]
        have hy : t.size ≤ t.size * m := Nat.le_mul_of_pos_right _ hm
        have HQ := hide hq
        have HX := hide hx
        have HY := hide hy
        clear hq hx hy
        go_wp2
        go_round
        case rel => exact ⟨q, t ++ t, out, rfl, rfl, rfl, by rw [HX.out]; exact H1.out, by have := HQ.out; omega, by rw [drawn_sz2]; have := H1.out; have := HY.out; omega⟩
        case measure => have := HQ.out; simp [intOf]; omega
      · have e1 : (m : Int).tmod 2 = 1 := by rw [Int.tmod_eq_emod_of_nonneg (by omega)]; omega
        have e2 : (m : Int).tdiv 2 = (q : Int) := by rw [Int.tdiv_eq_ediv_of_nonneg (by omega)]; omega
        have hq12 : q ≤ 12 := by omega
        have hw : wrap64 (q : Int) = (q : Int) := by unfold wrap64; omega
        have hx : (t ++ t).size * q + t.size = t.size * m := by rw [drawn_sz2, hq, Nat.add_mul, Nat.mul_add, Nat.two_mul, Nat.mul_add, Nat.mul_one]
        have hy : t.size ≤ t.size * m := Nat.le_mul_of_pos_right _ hm
        have HQ := hide hq
        have HX := hide hx
        have HY := hide hy
        clear hq hx hy
        go_wp2
        go_round
        case rel => exact ⟨q, t ++ t, out ++ t, rfl, rfl, rfl, by rw [drawn_sz2 out t]; have := HX.out; have := H1.out; omega, by have := HQ.out; omega, by rw [drawn_sz2]; have := H1.out; have := HY.out; omega⟩
        case measure => have := HQ.out; simp [intOf]; omega
    · go_wp2
      go_ret
      exact ⟨⟨out, ho, rfl⟩, rfl⟩
end Go.Proofs.YtamkogkcdmgjoaaDoor

/- Joined: DwX1 DwX2 DwX3 DwX4. -/
import Derived.Test.YtamkncfdfaejjaaGreatDoorJDw
import Derived.Test.YtamkncfdfaejjaaGreatDoorTree
import Derived.Test.YtamkncfdfaejjaaGreatDoorOwn
import Derived.Deep.RegionLaw
import Derived.Test.YtamkncfdfaejjaaGreatDoorPlEv2
/- Drawn expressions: a name or a value. -/
namespace Go.Proofs.YtamkncfdfaejjaaGreatDoor
open Go.RowKit
set_option linter.unusedVariables false
set_option linter.unusedSimpArgs false
namespace Fo
/-- texts are short, no node has more than three parts -/
def Tx : Fo → Prop
  | nil => True
  | cons nd k r => Sh nd.vt ∧ Sh nd.nm ∧ k.len ≤ 3 ∧ k.Tx ∧ r.Tx
theorem Tx.wf : ∀ {F : Fo} (h : F.Tx), F.Wf
  | nil, _ => trivial
  | cons nd k r, h => ⟨by have := h.1; unfold Sh at this; unfold maxLen; omega, by have := h.2.1; unfold Sh at this; unfold maxLen; omega, h.2.2.2.1.wf, h.2.2.2.2.wf⟩
theorem Tx.sm : ∀ {F : Fo} (h : F.Tx), F.Sm
  | nil, _ => trivial
  | cons nd k r, h => ⟨by have := h.2.2.1; omega, h.2.2.2.1.sm, h.2.2.2.2.sm⟩
end Fo
/-- an expression that is drawn: its texts short -/
def NdTx (nd : Nd) (k : Fo) : Prop := Sh nd.vt ∧ Sh nd.nm ∧ k.len ≤ 3 ∧ k.Tx
theorem sh_nil : Sh ⟨#[]⟩ := by show (0 : Nat) ≤ 25; omega
/-- the six cells of an expression -/
abbrev ndL (nd : Nd) (v : Value) : List Value := [.int .i64 nd.k, .int .i64 nd.vk, .int .i64 nd.vn, .string nd.vt, .string nd.nm, v]
/-- the forest lies in blocks that are so -/
def FoP (P : Nat → Prop) (w : World) : Fo → Nat → Nat → Prop
  | .nil, _, _ => True
  | .cons nd k r, g, off =>
    (w.cell? ⟨g, off, none⟩ = some (.int .i64 nd.k) ∧ w.cell? ⟨g, off + 1, none⟩ = some (.int .i64 nd.vk) ∧ w.cell? ⟨g, off + 2, none⟩ = some (.int .i64 nd.vn) ∧ w.cell? ⟨g, off + 3, none⟩ = some (.string nd.vt) ∧ w.cell? ⟨g, off + 4, none⟩ = some (.string nd.nm) ∧
      ∃ ad cap, w.cell? ⟨g, off + 5, none⟩ = some (.slice ad k.len cap) ∧ k.len ≤ cap ∧ cap ≤ maxLen ∧ (0 < k.len → ∃ g' off', ad = some ⟨g', off', none⟩ ∧ P g' ∧ g' < w.heap.size ∧ FoP P w k g' off')) ∧ FoP P w r g (off + 6)
def RowP (P : Nat → Prop) (w : World) (F : Fo) (v : Value) : Prop :=
  ∃ ad cap, v = .slice ad F.len cap ∧ F.len ≤ cap ∧ cap ≤ maxLen ∧ (0 < F.len → ∃ g off, ad = some ⟨g, off, none⟩ ∧ P g ∧ g < w.heap.size ∧ FoP P w F g off)
theorem FoP.over {P Q : Nat → Prop} {w w1 : World} (hs : w.heap.size ≤ w1.heap.size) (hPQ : ∀ g, P g → g < w.heap.size → Q g) (hb : ∀ g o, P g → g < w.heap.size → w1.cell? ⟨g, o, none⟩ = w.cell? ⟨g, o, none⟩) : ∀ {F : Fo} {g off : Nat} (h : FoP P w F g off) (hg : P g) (hl : g < w.heap.size), FoP Q w1 F g off
  | .nil, _, _, _, _, _ => trivial
  | .cons nd k r, g, off, h, hg, hl => by
    obtain ⟨⟨h0, h1, h2, h3, h4, ad, cap, h5, hc, hm, hx⟩, hr⟩ := h
    have C : ∀ o, w1.cell? ⟨g, o, none⟩ = w.cell? ⟨g, o, none⟩ := fun o => hb g o hg hl
    refine ⟨⟨(C _).trans h0, (C _).trans h1, (C _).trans h2, (C _).trans h3, (C _).trans h4, ad, cap, (C _).trans h5, hc, hm, fun hl => ?_⟩, FoP.over hs hPQ hb hr hg hl⟩
    obtain ⟨g', off', ha, hp', hg', hk⟩ := hx hl
    exact ⟨g', off', ha, hPQ g' hp' hg', by omega, FoP.over hs hPQ hb hk hp' hg'⟩
theorem RowP.over {P Q : Nat → Prop} {w w1 : World} {F : Fo} {v : Value} (h : RowP P w F v) (hs : w.heap.size ≤ w1.heap.size) (hPQ : ∀ g, P g → g < w.heap.size → Q g) (hb : ∀ g o, P g → g < w.heap.size → w1.cell? ⟨g, o, none⟩ = w.cell? ⟨g, o, none⟩) : RowP Q w1 F v := by
  obtain ⟨ad, cap, hv, hc, hm, hx⟩ := h
  refine ⟨ad, cap, hv, hc, hm, fun hl => ?_⟩
  obtain ⟨g', off', ha, hp', hg', hk⟩ := hx hl
  exact ⟨g', off', ha, hPQ g' hp' hg', by omega, hk.over hs hPQ hb hp' hg'⟩
theorem FoP.at {lo : Nat} {P : Nat → Prop} (hP : ∀ g, P g → lo ≤ g) {w : World} : ∀ {F : Fo} {g off : Nat} (h : FoP P w F g off), FoAt lo w F g off
  | .nil, _, _, _ => trivial
  | .cons nd k r, g, off, h => by
    obtain ⟨⟨h0, h1, h2, h3, h4, ad, cap, h5, hc, hm, hx⟩, hr⟩ := h
    refine ⟨⟨h0, h1, h2, h3, h4, ad, cap, h5, hc, hm, fun hl => ?_⟩, FoP.at hP hr⟩
    obtain ⟨g', off', ha, hp', hg', hk⟩ := hx hl
    exact ⟨g', off', ha, hP g' hp', hg', FoP.at hP hk⟩
theorem FoP.of {lo : Nat} {w : World} : ∀ {F : Fo} {g off : Nat} (h : FoAt lo w F g off), FoP (fun g => lo ≤ g ∧ g < w.heap.size) w F g off
  | .nil, _, _, _ => trivial
  | .cons nd k r, g, off, h => by
    obtain ⟨⟨h0, h1, h2, h3, h4, ad, cap, h5, hc, hm, hx⟩, hr⟩ := h
    refine ⟨⟨h0, h1, h2, h3, h4, ad, cap, h5, hc, hm, fun hl => ?_⟩, FoP.of hr⟩
    obtain ⟨g', off', ha, hp', hg', hk⟩ := hx hl
    exact ⟨g', off', ha, ⟨hp', hg'⟩, hg', FoP.of hk⟩
theorem RowP.at {lo : Nat} {P : Nat → Prop} (hP : ∀ g, P g → lo ≤ g) {w : World} {F : Fo} {v : Value} (h : RowP P w F v) : RowAt lo w F v := by
  obtain ⟨ad, cap, hv, hc, hm, hx⟩ := h
  refine ⟨ad, cap, hv, hc, hm, fun hl => ?_⟩
  obtain ⟨g', off', ha, hp', hg', hk⟩ := hx hl
  exact ⟨g', off', ha, hP g' hp', hg', FoP.at hP hk⟩
theorem RowP.of {lo : Nat} {w : World} {F : Fo} {v : Value} (h : RowAt lo w F v) : RowP (fun g => lo ≤ g ∧ g < w.heap.size) w F v := by
  obtain ⟨ad, cap, hv, hc, hm, hx⟩ := h
  refine ⟨ad, cap, hv, hc, hm, fun hl => ?_⟩
  obtain ⟨g', off', ha, hp', hg', hk⟩ := hx hl
  exact ⟨g', off', ha, ⟨hp', hg'⟩, hg', FoP.of hk⟩
/-- these are the cells of the nodes side by side -/
def RowL (P : Nat → Prop) (w : World) : Fo → List Value → Prop
  | .nil, A => A = []
  | .cons nd k r, A => ∃ v A', A = ndL nd v ++ A' ∧ RowP P w k v ∧ RowL P w r A'
theorem RowL.over {P Q : Nat → Prop} {w w1 : World} (hs : w.heap.size ≤ w1.heap.size) (hPQ : ∀ g, P g → g < w.heap.size → Q g) (hb : ∀ g o, P g → g < w.heap.size → w1.cell? ⟨g, o, none⟩ = w.cell? ⟨g, o, none⟩) : ∀ {F : Fo} {A : List Value} (h : RowL P w F A), RowL Q w1 F A
  | .nil, _, h => h
  | .cons nd k r, A, ⟨v, A', h1, h2, h3⟩ => ⟨v, A', h1, h2.over hs hPQ hb, RowL.over hs hPQ hb h3⟩
theorem RowL.at {lo : Nat} {P : Nat → Prop} (hP : ∀ g, P g → lo ≤ g) {w : World} : ∀ {F : Fo} {A : List Value} (h : RowL P w F A) {g off : Nat} (hc : ∀ j u, A[j]? = some u → w.cell? ⟨g, off + j, none⟩ = some u), FoAt lo w F g off
  | .nil, _, _, _, _, _ => trivial
  | .cons nd k r, A, ⟨v, A', h1, h2, h3⟩, g, off, hc => by
    subst h1
    refine FoAt.mk ⟨hc 0 _ rfl, hc 1 _ rfl, hc 2 _ rfl, hc 3 _ rfl, hc 4 _ rfl, hc 5 _ rfl, h2.at hP⟩ (RowL.at hP h3 fun j u hu => ?_)
    have := hc (6 + j) u (by rw [List.getElem?_append_right (by simp)]; simpa using hu)
    rwa [show off + 6 + j = off + (6 + j) by omega]
theorem RowL.snoc {P : Nat → Prop} {w : World} : ∀ {F : Fo} {A : List Value} (h : RowL P w F A) {nd : Nd} {k : Fo} {v : Value} (hv : RowP P w k v), ∃ F', RowL P w F' (A ++ ndL nd v) ∧ F'.len = F.len + 1 ∧ (F.Tx → Sh nd.vt → Sh nd.nm → k.len ≤ 3 → k.Tx → F'.Tx)
  | .nil, A, h, nd, k, v, hv => by
    subst h
    exact ⟨.cons nd k .nil, ⟨v, [], by simp, hv, rfl⟩, rfl, fun _ h1 h2 h3 h4 => ⟨h1, h2, h3, h4, trivial⟩⟩
  | .cons nd' k' r, A, ⟨v', A', h1, h2, h3⟩, nd, k, v, hv => by
    obtain ⟨F', a1, a2, a3⟩ := RowL.snoc h3 (nd := nd) hv
    exact ⟨.cons nd' k' F', ⟨v', A' ++ ndL nd v, by rw [h1, List.append_assoc], h2, a1⟩, by simp only [Fo.len]; omega, fun h h5 h6 h7 h8 => ⟨h.1, h.2.1, h.2.2.1, h.2.2.2.1, a3 h.2.2.2.2 h5 h6 h7 h8⟩⟩
theorem own_at {w : World} {base : Nat} {T : TypeId} {size : Nat} {v : Value} {n : Nat} {xs : List Value} (h : w.ownsRow base T size v n xs) (hn : 0 < n) :
    ∃ g cap, v = .slice (some ⟨g, 0, none⟩) n cap ∧ v.ownBlock = some g ∧ g < w.heap.size ∧ base ≤ g ∧ n ≤ cap ∧ cap ≤ maxLen ∧ ∀ j u, xs[j]? = some u → w.cell? ⟨g, j, none⟩ = some u := by
  rcases h.2 with ⟨h1, h0⟩ | ⟨g, cap, cur, hv, hb, hg, hnc, hm, hs, ht⟩
  · omega
  · subst hv
    refine ⟨g, cap, rfl, rfl, (Array.getElem?_eq_some_iff.1 hg).1, hb, hnc, hm, fun j u hu => ?_⟩
    rw [← ht, List.getElem?_take] at hu
    split at hu
    · rw [cell_of_block hg]; simpa using hu
    · cases hu
theorem own_bound2 {w : World} {base : Nat} {T : TypeId} {size : Nat} {a : Option Addr} {n c k : Nat} {xs : List Value} (h : w.ownsRow base T size (.slice a n c) k xs) : n ≤ c ∧ c ≤ maxLen := by
  rcases h.2 with ⟨h1, h0⟩ | ⟨g, cap, cur, hv, hb, hg, hnc, hm, hs, ht⟩
  · injection h1 with _ h2 h3; subst h2 h3; exact ⟨Nat.le_refl _, by unfold maxLen; omega⟩
  · injection hv with _ h2 h3; subst h2 h3; exact ⟨hnc, hm⟩
/-- a row of parts that is of the call's own making -/
def XRow (lo : Nat) (w : World) (k : Fo) (v : Value) : Prop :=
  ∃ A, w.ownsRow lo 35 6 v k.len A ∧ RowL (fun g => lo ≤ g ∧ v.ownBlock ≠ some g) w k A
theorem XRow.at {lo : Nat} {w : World} {k : Fo} {v : Value} (h : XRow lo w k v) : RowAt lo w k v := by
  obtain ⟨A, ho, hl⟩ := h
  obtain ⟨a, c, rfl⟩ := ownsRow_form ho
  obtain ⟨h1, h2⟩ := own_bound2 ho
  refine ⟨a, c, rfl, h1, h2, fun h0 => ?_⟩
  obtain ⟨g, cap, hv, _, hg, hb, _, _, hc⟩ := own_at ho h0
  cases hv
  exact ⟨g, 0, rfl, hb, hg, hl.at (fun _ h => h.1) (fun j u hu => by rw [Nat.zero_add]; exact hc j u hu)⟩
theorem xrow_nil (lo : Nat) (w : World) : XRow lo w .nil (.slice none 0 0) := ⟨[], ⟨rfl, .inl ⟨rfl, rfl⟩⟩, rfl⟩
/-- an expression was drawn -/
def Xd (n₀ br len p K : Nat) (W W1 : World) (e : Ending) (W' : World) : Prop :=
  ∃ nd k v, NdTx nd k ∧ k.len ≤ 2 ∧ e = .returned (ndV nd v) ∧ XRow W1.heap.size W' k v ∧ Dw n₀ br len p K W W' ∧ W1.grownBy W' (some br)
theorem over_gb {br : Nat} {W W' : World} (h : W.grownBy W' (some br)) : Over (br + 1) W W' :=
  ⟨h.size, fun g o hl hg => gb_cell h hg (by omega) o⟩
theorem Over.rfl' (lo : Nat) (w : World) : Over lo w w := ⟨Nat.le_refl _, fun _ _ _ _ => rfl⟩
theorem Over.trans {lo : Nat} {w w1 w2 : World} (h : Over lo w w1) (k : Over lo w1 w2) : Over lo w w2 :=
  ⟨Nat.le_trans h.1 k.1, fun g o hl hg => (k.2 g o hl (Nat.lt_of_lt_of_le hg h.1)).trans (h.2 g o hl hg)⟩
theorem over_gb2 {lo br : Nat} {W W' : World} (h : W.grownBy W' (some br)) (hb : br < lo ∨ W.heap.size ≤ br) : Over lo W W' :=
  ⟨h.size, fun g o hl hg => gb_cell h hg (by omega) o⟩
theorem over_alloc (lo : Nat) (W : World) (o : Obj) : Over lo W (W.alloc o) := over_of ((Below.refl _ _).alloc (Nat.le_refl _) o) lo
theorem over_set {lo b : Nat} (W : World) (hb : b < lo ∨ W.heap.size ≤ b) (i : Nat) (u : Value) : Over lo W (W.setCell ⟨b, i, none⟩ u) := by
  refine ⟨by simp [World.setCell], fun g o hl hg => ?_⟩
  rw [World.cell?_setCell_other _ _ _ _ (by intro h; have := congrArg Addr.block h; simp only at this; omega)]
theorem over_set6 {lo b : Nat} (W : World) (hb : b < lo) (x0 x1 x2 x3 x4 x5 : Value) :
    Over lo W ((((((W.setCell ⟨b, 0, none⟩ x0).setCell ⟨b, 1, none⟩ x1).setCell ⟨b, 2, none⟩ x2).setCell ⟨b, 3, none⟩ x3).setCell ⟨b, 4, none⟩ x4).setCell ⟨b, 5, none⟩ x5) :=
  (((((over_set W (.inl hb) 0 x0).trans (over_set _ (.inl hb) 1 x1)).trans (over_set _ (.inl hb) 2 x2)).trans (over_set _ (.inl hb) 3 x3)).trans (over_set _ (.inl hb) 4 x4)).trans (over_set _ (.inl hb) 5 x5)
theorem row_nil (lo : Nat) (w : World) : RowAt lo w .nil (.slice none 0 0) := ⟨none, 0, rfl, by simp [Fo.len], by unfold maxLen; omega, fun h => by simp [Fo.len] at h⟩
theorem Among.gb {P : ByteArray → Prop} {n g off br : Nat} {W W' : World} (h : Among P n g off W) (hb : W.grownBy W' (some br)) (hg : g < W.heap.size) (hne : g ≠ br) : Among P n g off W' := fun i hi => by
  obtain ⟨s, h1, h2⟩ := h i hi
  exact ⟨s, (gb_cell hb hg hne _).trans h1, h2⟩
theorem Dw.set6 {n₀ br len p K R : Nat} {W W2 : World} (h : Dw n₀ br len p K W W2) (hn₀ : n₀ ≤ W.heap.size) (hR : W.heap.size ≤ R) (hne : R ≠ br) (a b c d e f : Value) :
    Dw n₀ br len p K W ((((((W2.setCell ⟨R, 0, none⟩ a).setCell ⟨R, 1, none⟩ b).setCell ⟨R, 2, none⟩ c).setCell ⟨R, 3, none⟩ d).setCell ⟨R, 4, none⟩ e).setCell ⟨R, 5, none⟩ f) :=
  ((((((h.set hn₀ hR hne 0 a).set hn₀ hR hne 1 b).set hn₀ hR hne 2 c).set hn₀ hR hne 3 d).set hn₀ hR hne 4 e).set hn₀ hR hne 5 f)
theorem set6 {W : World} {R : Nat} {x0 x1 x2 x3 x4 x5 : Value} {T : TypeId} (h : W.heap[R]? = some (.cells #[x0, x1, x2, x3, x4, x5] T (0, 0))) (a b c d e f : Value) :
    ((((((W.setCell ⟨R, 0, none⟩ a).setCell ⟨R, 1, none⟩ b).setCell ⟨R, 2, none⟩ c).setCell ⟨R, 3, none⟩ d).setCell ⟨R, 4, none⟩ e).setCell ⟨R, 5, none⟩ f).heap[R]? = some (.cells #[a, b, c, d, e, f] T (0, 0)) := by
  have h1 := block_set h 0 a
  have h2 := block_set h1 1 b
  have h3 := block_set h2 2 c
  have h4 := block_set h3 3 d
  have h5 := block_set h4 4 e
  have h6 := block_set h5 5 f
  exact h6
theorem cells6 {W : World} {R : Nat} {a b c d e f : Value} {T : TypeId} (h : W.heap[R]? = some (.cells #[a, b, c, d, e, f] T (0, 0))) :
    W.cell? ⟨R, 0, none⟩ = some a ∧ W.cell? ⟨R, 1, none⟩ = some b ∧ W.cell? ⟨R, 2, none⟩ = some c ∧ W.cell? ⟨R, 3, none⟩ = some d ∧ W.cell? ⟨R, 4, none⟩ = some e ∧ W.cell? ⟨R, 5, none⟩ = some f :=
  ⟨cell_of_block h 0, cell_of_block h 1, cell_of_block h 2, cell_of_block h 3, cell_of_block h 4, cell_of_block h 5⟩
theorem free6 {W : World} {R : Nat} {C : Array Value} {T : TypeId} (h : W.heap[R]? = some (.cells C T (0, 0))) :
    W.frozen? ⟨R, 0, none⟩ = false ∧ W.frozen? ⟨R, 1, none⟩ = false ∧ W.frozen? ⟨R, 2, none⟩ = false ∧ W.frozen? ⟨R, 3, none⟩ = false ∧ W.frozen? ⟨R, 4, none⟩ = false ∧ W.frozen? ⟨R, 5, none⟩ = false :=
  ⟨free_of_block h 0, free_of_block h 1, free_of_block h 2, free_of_block h 3, free_of_block h 4, free_of_block h 5⟩
/-- so many draws at most -/
def Kx : Nat → Nat
  | 0 => 4
  | d + 1 => 2 * Kx d + 4
theorem Kx_ge : ∀ d, 4 ≤ Kx d
  | 0 => Nat.le_refl _
  | d + 1 => by have := Kx_ge d; simp only [Kx]; omega
def XdP (d : Nat) : Prop := ∀ (n₀ br len p K : Nat) (W0 W : World) (h : Dw n₀ br len p K W0 W) (n g off cap : Nat) (hn : 1 ≤ n) (hn2 : n ≤ 1000) (hc : n ≤ cap) (hcm : cap ≤ maxLen) (hgr : g ≠ br) (hgl : g < W.heap.size) (hS : Among Sh n g off W) (hp : p + K + Kx d ≤ 900000),
    Calls Tryz.prog 64 #[.pointer (some ⟨br, 0, none⟩), .slice (some ⟨g, off, none⟩) n cap, .int .i64 (d : Nat)] W (Xd n₀ br len p (K + Kx d) W0 W)
set_option maxRecDepth 100000 in
set_option maxHeartbeats 3200000 in
theorem l12Expr_leaf (d : Nat) (hd : d < 2) : XdP d := by
  intro n₀ br len p K W0 W h n g off cap hn hn2 hc hcm hgr hgl hS hp
  obtain ⟨⟨p', hp', hr⟩, hg⟩ := h
  have hlt := hr.lt
  have hne : W.heap.size ≠ br := by omega
  have hk := Kx_ge d
  generalize Kx d = KK at hk hp ⊢
  have hn₀ : n₀ ≤ W.heap.size := by have := hr.1; omega
  have J : Hid (∀ W2, Dw n₀ br len p' 4 W W2 → Dw n₀ br len p (K + KK) W0 W2 ∧ W.grownBy W2 (some br)) := fun W2 h2 => ⟨(h2.join hg hp').mono (by omega), h2.gb⟩
  have HR := hide hr
  have HS := hide hS
  clear hr hg hS
  have hdi : (d : Int) < 2 := by omega
  have hni : (0 : Int) < (n : Int) := by omega
  go_enter Tryz.func64, Tryz.ntmps64
  go_wp2_with fail
  refine (pick_d (Dw.start (HR.out.alloc _)) 2 (by omega) (by omega) (by omega)).mono ?_
  rintro e W2 ⟨x, hx, rfl, hD, _⟩
  have HD := hide hD
  have hb := hD.box hne
  have hS2 : Among Sh n g off W2 := HS.out.gb (gb_trans (gb_alloc W _ _) hD.gb) hgl hgr
  clear hD
  have HBK := hide hb
  have hWs : W.heap.size < W2.heap.size := by have := HD.out.gb.size; simp at this; omega
  clear hb
  by_cases x0 : x = 0
  · subst x0
    go_wp2_with fail
    refine (of_d HD.out Sh n g off cap hn (by omega) (by omega) hgr hS2).mono ?_
    rintro e W3 ⟨s, hs, rfl, hD3, hg3⟩
    have HD3 := hide hD3
    have HSS := hide hs
    have HB3 := hide (gb_blk hg3 hne HBK.out)
    have h3s : W.heap.size < W3.heap.size := by have := hg3.size; omega
    obtain ⟨c0, c1, c2, c3, c4, c5⟩ := cells6 HB3.out
    obtain ⟨f0, f1, f2, f3, f4, f5⟩ := free6 HB3.out
    clear hD3 hg3 hs HBK HD hS2
    go_wp2
    obtain ⟨d0, d1, d2, d3, d4, d5⟩ := cells6 (set6 HB3.out (.int .i64 2) (.int .i64 0) (.int .i64 0) (.string ⟨#[]⟩) (.string s) (.slice none 0 0))
    refine bodyPost_ret (v := ndV ⟨2, 0, 0, ⟨#[]⟩, s⟩ (.slice none 0 0)) (by simp [results, Tryz.results64, go_sem, d0, d1, d2, d3, d4, d5]) rfl ?_
    obtain ⟨j1, j2⟩ := J.out _ ((HD3.out.boxed.mono (by omega)).set6 hn₀ (Nat.le_refl _) hne _ _ _ _ _ _)
    exact ⟨_, .nil, _, ⟨sh_nil, HSS.out, by simp [Fo.len], trivial⟩, by simp [Fo.len], rfl, xrow_nil _ _, j1, j2⟩
  · have q0 : ((x : Int) == 0) = false := beq_eq_false_iff_ne.2 (by omega)
    go_wp2_with fail
    refine (l12Value_d HD.out (by omega)).mono ?_
    rintro e W3 ⟨vk, vn, vt, hs, rfl, hD3, hg3⟩
    have HD3 := hide hD3
    have HSS := hide hs
    have HB3 := hide (gb_blk hg3 hne HBK.out)
    have h3s : W.heap.size < W3.heap.size := by have := hg3.size; omega
    obtain ⟨c0, c1, c2, c3, c4, c5⟩ := cells6 HB3.out
    obtain ⟨f0, f1, f2, f3, f4, f5⟩ := free6 HB3.out
    clear hD3 hg3 hs HBK HD hS2
    go_wp2
    obtain ⟨d0, d1, d2, d3, d4, d5⟩ := cells6 (set6 HB3.out (.int .i64 1) (.int .i64 vk) (.int .i64 vn) (.string vt) (.string ⟨#[]⟩) (.slice none 0 0))
    refine bodyPost_ret (v := ndV ⟨1, vk, vn, vt, ⟨#[]⟩⟩ (.slice none 0 0)) (by simp [results, Tryz.results64, go_sem, d0, d1, d2, d3, d4, d5]) rfl ?_
    obtain ⟨j1, j2⟩ := J.out _ ((HD3.out.boxed.mono (by omega)).set6 hn₀ (Nat.le_refl _) hne _ _ _ _ _ _)
    exact ⟨_, .nil, _, ⟨HSS.out, sh_nil, by simp [Fo.len], trivial⟩, by simp [Fo.len], rfl, xrow_nil _ _, j1, j2⟩
end Go.Proofs.YtamkncfdfaejjaaGreatDoor

/- Drawn expressions: what holds parts. -/
namespace Go.Proofs.YtamkncfdfaejjaaGreatDoor
open Go.RowKit
set_option linter.unusedVariables false
set_option linter.unusedSimpArgs false
theorem infoX : (Tryz.prog.info? 35).map (fun i => (i.zero, i.size, i.bytes)) = some (some (.agg #[.int .i64 0, .int .i64 0, .int .i64 0, .string ⟨#[]⟩, .string ⟨#[]⟩, .slice none 0 0]), 6, 80) := by kernel_rfl
/-- an expression put behind a row of the call's own, inside a region that draws -/
theorem step_appX {ops : Array Oper} {o : Oper} {a : Act} {W : World} {K : Act → World → Prop} {Q : Exit → Act → World → Prop} {E : Prop} (hg : o.guard = none) (s x : Operand)
    (hop : o.op = Op.call { callee := Callee.builtin Builtin.append, args := #[s, x], argTypes := #[33, 33] }) (hty : o.type = 33) (base : Nat) (n : Nat) (A : List Value) (nd : Nd) (v0 : Value) (hone : v0.oneCell' = true) (ad : Addr) (c : Nat)
    (hv : W.ownsRow base 35 6 (a.eval s) n A) (hx : a.eval x = .slice (some ad) 1 c) (hu : ∀ j u, (ndL nd v0)[j]? = some u → W.cell? (ad.add j) = some u) (hn : n + 1 ≤ 1048576) (hb : base ≤ W.heap.size)
    (hK : ∀ v' w2, w2.ownsRow base 35 6 v' (n + 1) (A ++ ndL nd v0) → W.grownBy w2 (a.eval s).ownBlock → (v'.ownBlock = (a.eval s).ownBlock ∨ v'.ownBlock = some W.heap.size) → K (a.put o.dst v') w2) :
    if Region.wanted o (yielded ops a.tmps) = true then Oper.wp Tryz.prog o a W K Q else E := by
  have hw : Region.wanted o (yielded ops a.tmps) = true := by simp [Region.wanted, hg]
  rw [if_pos hw]
  obtain ⟨i0, hi, hz0, hz1, hz2⟩ := info_parts infoX
  obtain ⟨v', w2, hrun, hown, hgrow, _, hwhere⟩ := run_append_own_at (P := Tryz.prog) W base 33 33 35 i0 _ 6 80 Tryz.underlying33 hi hz0 hz1 hz2 rfl (by decide) (a.eval s) n A hv ad 1 c (ndL nd v0) rfl hu (fun u hu => by
    simp only [List.mem_cons, List.not_mem_nil, or_false] at hu
    rcases hu with rfl | rfl | rfl | rfl | rfl | rfl <;> first | rfl | exact hone) (by unfold maxLen; omega) (by omega) hb
  rw [← hty] at hrun
  unfold Oper.wp
  simp [execOp, hop, resolve, invoke, builtin, hty, hty ▸ hrun, hx, Result.andThen]
  exact hK _ _ hown hgrow hwhere
theorem cells_one (V : World) (L : List Value) (T : TypeId) : ∀ j u, L[j]? = some u → (V.alloc (.cells L.toArray T)).cell? ((⟨V.heap.size, 0, none⟩ : Addr).add j) = some u := by
  intro j u hu
  have hadd : (⟨V.heap.size, 0, none⟩ : Addr).add j = ⟨V.heap.size, j, none⟩ := by unfold Addr.add; split <;> simp_all
  rw [hadd, World.cell?_alloc_at _ _ _ _ rfl]
  simpa using hu
theorem Dw.drew {n₀ br len p K : Nat} {W W' : World} (h : Dw n₀ br len p K W W') : Dw n₀ br len p K W W'.drew := by
  obtain ⟨⟨p', hp, h1, h2, c, h3, ad, cap, hc, q1, q2, q3⟩, hg⟩ := h
  exact ⟨⟨p', hp, h1, h2, c, h3, ad, cap, hc, q1, q2, q3⟩, ⟨hg.os, hg.tape, hg.output, hg.size, hg.block⟩⟩
theorem Dw.own {n₀ br len p K r : Nat} {W W1 W2 : World} (h : Dw n₀ br len p K W W1) (hn₀ : n₀ ≤ W.heap.size) (hg : W1.grownBy W2 (some r)) (hr : W.heap.size ≤ r) (hne : r ≠ br) : Dw n₀ br len p K W W2 := by
  obtain ⟨⟨p', hp, h1, h2, c, h3, ad, cap, hc, q1, q2, q3⟩, hgb⟩ := h
  have hbl : br < W1.heap.size := (Array.getElem?_eq_some_iff.1 h3).1
  have hs := hgb.size
  refine ⟨⟨p', hp, h1, h2, c, (hg.block br hbl (by intro e; cases e; exact hne rfl)).trans h3, ad, cap, hc, q1, q2, fun hl => ?_⟩, ⟨hg.os.trans hgb.os, hg.tape.trans hgb.tape, hg.output.trans hgb.output, Nat.le_trans hgb.size hg.size, fun k hk hkr => (hg.block k (by omega) (by intro e; cases e; omega)).trans (hgb.block k hk hkr)⟩⟩
  obtain ⟨b', off, ha, hbn, hz⟩ := q3 hl
  exact ⟨b', off, ha, hbn, fun i hi => by
    obtain ⟨z, hz1, hz2⟩ := hz i hi
    exact ⟨z, (gb_cell hg (by omega) (by omega) _).trans hz1, hz2⟩⟩
theorem gb_undrew {W W' : World} {r : Option Nat} (h : W.drew.grownBy W' r) : W.grownBy W' r := by
  refine ⟨h.os, h.tape, h.output, h.size, h.block⟩
theorem Xd.undrew {n₀ br len p K : Nat} {W X : World} {e : Ending} {W' : World} (h : Xd n₀ br len p K W X.drew e W') : Xd n₀ br len p K W X e W' := by
  obtain ⟨nd, k, v, h1, h0, h2, h3, h4, h5⟩ := h
  exact ⟨nd, k, v, h1, h0, h2, h3, h4, gb_undrew h5⟩
theorem row_cell {lo : Nat} {w : World} {F : Fo} {v : Value} (h : RowAt lo w F v) : v.oneCell' = true := by
  obtain ⟨ad, cap, rfl, _⟩ := h
  rfl
theorem Dw.low {n₀ br len p K : Nat} {W W1 W2 : World} (h : Dw n₀ br len p K W1 W2) (k : W.grownBy W1 (some br)) : Dw n₀ br len p K W W2 := ⟨h.1, gb_trans k h.2⟩
theorem row_one {lo g : Nat} {w : World} {nd : Nd} {k : Fo} {v : Value} (hl : lo ≤ g) (hw : w.heap[g]? = some (.cells #[.int .i64 nd.k, .int .i64 nd.vk, .int .i64 nd.vn, .string nd.vt, .string nd.nm, v] 35 (0, 0))) (hr : RowP (fun b => lo ≤ b ∧ b ≠ g) w k v) :
    XRow lo w (.cons nd k .nil) (.slice (some ⟨g, 0, none⟩) 1 1) := by
  refine ⟨ndL nd v, ⟨rfl, .inr ⟨g, 1, _, rfl, hl, hw, Nat.le_refl _, by unfold maxLen; omega, rfl, rfl⟩⟩, v, [], rfl, ?_, rfl⟩
  exact hr.over (Nat.le_refl _) (fun b h _ => ⟨h.1, by intro e; injection e with e; exact h.2 e.symm⟩) (fun _ _ _ _ => rfl)
set_option maxRecDepth 100000 in
set_option maxHeartbeats 3200000 in
theorem l12Expr_step (d : Nat) (hd : 1 ≤ d) (hd2 : d ≤ 10) (IH : XdP d) : XdP (d + 1) := by
  intro n₀ br len p K W0 W h n g off cap hn hn2 hc hcm hgr hgl hS hp
  obtain ⟨⟨p', hp', hr⟩, hg⟩ := h
  have hlt := hr.lt
  have hne : W.heap.size ≠ br := by omega
  have hk := Kx_ge d
  have hk1 : Kx (d + 1) = 2 * Kx d + 4 := rfl
  rw [hk1] at hp ⊢
  unfold XdP at IH
  generalize Kx d = KK at hk hp IH ⊢
  clear hk1
  have hn₀ : n₀ ≤ W.heap.size := by have := hr.1; omega
  have J : Hid (∀ W2, Dw n₀ br len p' (2 * KK + 4) W W2 → Dw n₀ br len p (K + (2 * KK + 4)) W0 W2 ∧ W.grownBy W2 (some br)) := fun W2 h2 => ⟨(h2.join hg hp').mono (by omega), h2.gb⟩
  have HR := hide hr
  have HS := hide hS
  have HI := hide IH
  clear hr hg hS IH
  have hdi : ¬ ((d : Int) + 1 < 2) := by omega
  have hni : (0 : Int) < (n : Int) := by omega
  go_enter Tryz.func64, Tryz.ntmps64
  go_wp2_with fail
  refine (pick_d (Dw.start (HR.out.alloc _)) 3 (by omega) (by omega) (by omega)).mono ?_
  rintro e W1 ⟨y, hy, rfl, hD1, _⟩
  have HD1 := hide hD1
  have hb1 := hD1.box hne
  have hS1 := hide (HS.out.gb (gb_trans (gb_alloc W _ _) hD1.gb) hgl hgr)
  clear hD1 HR HS
  by_cases y0 : y = 0
  · subst y0
    go_wp2_with fail
    refine (pick_d HD1.out 2 (by omega) (by omega) (by omega)).mono ?_
    rintro e W2 ⟨x, hx, rfl, hD, hg2⟩
    have HD := hide hD
    have hb := hD.box hne
    have hS2 : Among Sh n g off W2 := hS1.out.gb hg2 (by have := HD1.out.gb.size; simp at this; omega) hgr
    clear hD hg2 hb1 HD1 hS1
    have HBK := hide hb
    have hWs : W.heap.size < W2.heap.size := by have := HD.out.gb.size; simp at this; omega
    clear hb
    by_cases x0 : x = 0
    · subst x0
      go_wp2_with fail
      refine (of_d HD.out Sh n g off cap hn (by omega) (by omega) hgr hS2).mono ?_
      rintro e W3 ⟨s, hs, rfl, hD3, hg3⟩
      have HD3 := hide hD3
      have HSS := hide hs
      have HB3 := hide (gb_blk hg3 hne HBK.out)
      have h3s : W.heap.size < W3.heap.size := by have := hg3.size; omega
      obtain ⟨c0, c1, c2, c3, c4, c5⟩ := cells6 HB3.out
      obtain ⟨f0, f1, f2, f3, f4, f5⟩ := free6 HB3.out
      clear hD3 hg3 hs HBK HD hS2
      go_wp2
      obtain ⟨d0, d1, d2, d3, d4, d5⟩ := cells6 (set6 HB3.out (.int .i64 2) (.int .i64 0) (.int .i64 0) (.string ⟨#[]⟩) (.string s) (.slice none 0 0))
      refine bodyPost_ret (v := ndV ⟨2, 0, 0, ⟨#[]⟩, s⟩ (.slice none 0 0)) (by simp [results, Tryz.results64, go_sem, d0, d1, d2, d3, d4, d5]) rfl ?_
      obtain ⟨j1, j2⟩ := J.out _ ((HD3.out.boxed.mono (by omega)).set6 hn₀ (Nat.le_refl _) hne _ _ _ _ _ _)
      exact ⟨_, .nil, _, ⟨sh_nil, HSS.out, by simp [Fo.len], trivial⟩, by simp [Fo.len], rfl, xrow_nil _ _, j1, j2⟩
    · have q0 : ((x : Int) == 0) = false := beq_eq_false_iff_ne.2 (by omega)
      go_wp2_with fail
      refine (l12Value_d HD.out (by omega)).mono ?_
      rintro e W3 ⟨vk, vn, vt, hs, rfl, hD3, hg3⟩
      have HD3 := hide hD3
      have HSS := hide hs
      have HB3 := hide (gb_blk hg3 hne HBK.out)
      have h3s : W.heap.size < W3.heap.size := by have := hg3.size; omega
      obtain ⟨c0, c1, c2, c3, c4, c5⟩ := cells6 HB3.out
      obtain ⟨f0, f1, f2, f3, f4, f5⟩ := free6 HB3.out
      clear hD3 hg3 hs HBK HD hS2
      go_wp2
      obtain ⟨d0, d1, d2, d3, d4, d5⟩ := cells6 (set6 HB3.out (.int .i64 1) (.int .i64 vk) (.int .i64 vn) (.string vt) (.string ⟨#[]⟩) (.slice none 0 0))
      refine bodyPost_ret (v := ndV ⟨1, vk, vn, vt, ⟨#[]⟩⟩ (.slice none 0 0)) (by simp [results, Tryz.results64, go_sem, d0, d1, d2, d3, d4, d5]) rfl ?_
      obtain ⟨j1, j2⟩ := J.out _ ((HD3.out.boxed.mono (by omega)).set6 hn₀ (Nat.le_refl _) hne _ _ _ _ _ _)
      exact ⟨_, .nil, _, ⟨HSS.out, sh_nil, by simp [Fo.len], trivial⟩, by simp [Fo.len], rfl, xrow_nil _ _, j1, j2⟩
  · have q0 : ((y : Int) == 0) = false := beq_eq_false_iff_ne.2 (by omega)
    clear y0
    go_wp2_with fail
    refine (pick_d HD1.out 8 (by omega) (by omega) (by omega)).mono ?_
    rintro e W2 ⟨x, hx, rfl, hD, hg2⟩
    have HD := hide hD
    have hb := hide (hD.box hne)
    have hS2 := hide (hS1.out.gb hg2 (by have := HD1.out.gb.size; simp at this; omega) hgr)
    have hgl2 : g < W2.heap.size := by have := hD.gb.size; simp at this; omega
    clear hD hg2 hb1 HD1 hS1
    go_wp2_with fail
    refine (HI.out _ _ _ _ _ _ _ HD.out n g off cap hn hn2 hc hcm hgr hgl2 hS2.out (by omega)).mono ?_
    rintro e W3 ⟨nd1, k1, v1, ht1, hl1, rfl, hr1x, hD3, hg3⟩
    have hr1 := hr1x.at
    clear hr1x
    have HD3 := hide hD3
    have HT1 := hide ht1
    have HR1 := hide hr1
    have HB3 := hide (gb_blk hg3 hne hb.out)
    have hS3 := hide (hS2.out.gb hg3 hgl2 hgr)
    have hWW : W.heap.size < W2.heap.size := (Array.getElem?_eq_some_iff.1 hb.out).1
    have h23 : W2.heap.size ≤ W3.heap.size := hg3.size
    have hgl3 : g < W3.heap.size := by have := hg3.size; omega
    have h3s : W.heap.size < W3.heap.size := (Array.getElem?_eq_some_iff.1 HB3.out).1
    clear hD3 ht1 hr1 hg3 hb hS2 HD
    by_cases x7 : x = 7
    · subst x7
      obtain ⟨c0, c1, c2, c3, c4, c5⟩ := cells6 HB3.out
      obtain ⟨f0, f1, f2, f3, f4, f5⟩ := free6 HB3.out
      go_wp2
      have HX0 := set6 HB3.out (.int .i64 10) (.int .i64 0) (.int .i64 0) (.string ⟨#[]⟩) (.string ⟨#[]⟩) (.slice (some ⟨W3.heap.size, 0, none⟩) 1 1)
      have hs6 : ((((((W3.setCell ⟨W.heap.size, 0, none⟩ (.int .i64 10)).setCell ⟨W.heap.size, 1, none⟩ (.int .i64 0)).setCell ⟨W.heap.size, 2, none⟩ (.int .i64 0)).setCell ⟨W.heap.size, 3, none⟩ (.string ⟨#[]⟩)).setCell ⟨W.heap.size, 4, none⟩ (.string ⟨#[]⟩)).setCell ⟨W.heap.size, 5, none⟩ (.slice (some ⟨W3.heap.size, 0, none⟩) 1 1)).heap.size = W3.heap.size := by simp [World.setCell]
      have hov := over_set6 (lo := W2.heap.size) W3 (b := W.heap.size) hWW (.int .i64 10) (.int .i64 0) (.int .i64 0) (.string ⟨#[]⟩) (.string ⟨#[]⟩) (.slice (some ⟨W3.heap.size, 0, none⟩) 1 1)
      have hj := (HD3.out.boxed.mono (K' := 2 * KK + 4) (by omega)).set6 hn₀ (Nat.le_refl _) hne (.int .i64 10) (.int .i64 0) (.int .i64 0) (.string ⟨#[]⟩) (.string ⟨#[]⟩) (.slice (some ⟨W3.heap.size, 0, none⟩) 1 1)
      generalize ((((((W3.setCell ⟨W.heap.size, 0, none⟩ (.int .i64 10)).setCell ⟨W.heap.size, 1, none⟩ (.int .i64 0)).setCell ⟨W.heap.size, 2, none⟩ (.int .i64 0)).setCell ⟨W.heap.size, 3, none⟩ (.string ⟨#[]⟩)).setCell ⟨W.heap.size, 4, none⟩ (.string ⟨#[]⟩)).setCell ⟨W.heap.size, 5, none⟩ (.slice (some ⟨W3.heap.size, 0, none⟩) 1 1)) = X at HX0 hs6 hov hj ⊢
      rw [← hs6] at HX0 ⊢
      have hs7 : W2.heap.size ≤ X.heap.size := by omega
      have hr0 := (RowP.of HR1.out).over (Q := fun b => W2.heap.size ≤ b ∧ b < X.heap.size) (by omega) (fun b h hb => ⟨h.1, by omega⟩) (fun g o h hg => hov.2 g o h.1 hg)
      clear c0 c1 c2 c3 c4 c5 f0 f1 f2 f3 f4 f5 hov hs6 HB3 HR1 HD3
      have HX1 := blk_alloc (o2 := .cells #[.int .i64 nd1.k, .int .i64 nd1.vk, .int .i64 nd1.vn, .string nd1.vt, .string nd1.nm, v1] 35) HX0
      have HX2 := blk_alloc (o2 := .cells #[.int .i64 10, .int .i64 0, .int .i64 0, .string ⟨#[]⟩, .string ⟨#[]⟩, .slice (some ⟨X.heap.size, 0, none⟩) 1 1] 35) HX1
      have hr2 := (hr0.over (Q := fun b => W2.heap.size ≤ b ∧ b < X.heap.size) (by simp) (fun b h hb => h) (fun g o h hg => (over_alloc 0 _ (.cells #[.int .i64 nd1.k, .int .i64 nd1.vk, .int .i64 nd1.vn, .string nd1.vt, .string nd1.nm, v1] 35)).2 g o (Nat.zero_le _) hg)).over (Q := fun b => W2.heap.size ≤ b ∧ b < X.heap.size) (w1 := (X.alloc (.cells #[.int .i64 nd1.k, .int .i64 nd1.vk, .int .i64 nd1.vn, .string nd1.vt, .string nd1.nm, v1] 35)).alloc (.cells #[.int .i64 10, .int .i64 0, .int .i64 0, .string ⟨#[]⟩, .string ⟨#[]⟩, .slice (some ⟨X.heap.size, 0, none⟩) 1 1] 35)) (by simp) (fun b h hb => h) (fun g o h hg => (over_alloc 0 _ _).2 g o (Nat.zero_le _) hg)
      have hb2 := blk_alloc (o2 := .cells #[.int .i64 10, .int .i64 0, .int .i64 0, .string ⟨#[]⟩, .string ⟨#[]⟩, .slice (some ⟨X.heap.size, 0, none⟩) 1 1] 35) (heap_alloc_new X (.cells #[.int .i64 nd1.k, .int .i64 nd1.vk, .int .i64 nd1.vn, .string nd1.vt, .string nd1.nm, v1] 35))
      obtain ⟨j1, j2⟩ := J.out _ ((hj.alloc (.cells #[.int .i64 nd1.k, .int .i64 nd1.vk, .int .i64 nd1.vn, .string nd1.vt, .string nd1.nm, v1] 35)).alloc (.cells #[.int .i64 10, .int .i64 0, .int .i64 0, .string ⟨#[]⟩, .string ⟨#[]⟩, .slice (some ⟨X.heap.size, 0, none⟩) 1 1] 35))
      generalize ((X.alloc (.cells #[.int .i64 nd1.k, .int .i64 nd1.vk, .int .i64 nd1.vn, .string nd1.vt, .string nd1.nm, v1] 35)).alloc (.cells #[.int .i64 10, .int .i64 0, .int .i64 0, .string ⟨#[]⟩, .string ⟨#[]⟩, .slice (some ⟨X.heap.size, 0, none⟩) 1 1] 35)) = Y at HX2 hr2 hb2 j1 j2 ⊢
      generalize X.heap.size = gS at HX2 hb2 hs7 hr2 ⊢
      obtain ⟨d0, d1, d2, d3, d4, d5⟩ := cells6 HX2
      refine bodyPost_ret (v := ndV ⟨10, 0, 0, ⟨#[]⟩, ⟨#[]⟩⟩ (.slice (some ⟨gS, 0, none⟩) 1 1)) (by simp [results, Tryz.results64, go_sem, d0, d1, d2, d3, d4, d5]) rfl ?_
      exact ⟨_, .cons nd1 k1 .nil, _, ⟨sh_nil, sh_nil, by simp [Fo.len], ⟨HT1.out.1, HT1.out.2.1, HT1.out.2.2.1, HT1.out.2.2.2, trivial⟩⟩, by simp [Fo.len], rfl, row_one (by omega) hb2 (hr2.over (Nat.le_refl _) (fun b h _ => ⟨by omega, by omega⟩) (fun _ _ _ _ => rfl)), j1, j2⟩
    · have q7 : ((3 + (x : Int)) != 10) = true := by
        rw [bne_iff_ne]
        omega
      go_wp2_with fail
      have HDX := hide ((HD3.out.alloc (.cells #[.int .i64 nd1.k, .int .i64 nd1.vk, .int .i64 nd1.vn, .string nd1.vt, .string nd1.nm, v1] 35)).alloc (.cells #[.int .i64 (3 + (x : Int)), .int .i64 0, .int .i64 0, .string ⟨#[]⟩, .string ⟨#[]⟩, .slice (some ⟨W3.heap.size, 0, none⟩) 1 1] 35))
      have HBX := hide (blk_alloc (o2 := .cells #[.int .i64 (3 + (x : Int)), .int .i64 0, .int .i64 0, .string ⟨#[]⟩, .string ⟨#[]⟩, .slice (some ⟨W3.heap.size, 0, none⟩) 1 1] 35) (blk_alloc (o2 := .cells #[.int .i64 nd1.k, .int .i64 nd1.vk, .int .i64 nd1.vn, .string nd1.vt, .string nd1.nm, v1] 35) HB3.out))
      have HSX := hide (blk_alloc (o2 := .cells #[.int .i64 (3 + (x : Int)), .int .i64 0, .int .i64 0, .string ⟨#[]⟩, .string ⟨#[]⟩, .slice (some ⟨W3.heap.size, 0, none⟩) 1 1] 35) (heap_alloc_new W3 (.cells #[.int .i64 nd1.k, .int .i64 nd1.vk, .int .i64 nd1.vn, .string nd1.vt, .string nd1.nm, v1] 35)))
      have HEX := heap_alloc_new (W3.alloc (.cells #[.int .i64 nd1.k, .int .i64 nd1.vk, .int .i64 nd1.vn, .string nd1.vt, .string nd1.nm, v1] 35)) (.cells #[.int .i64 (3 + (x : Int)), .int .i64 0, .int .i64 0, .string ⟨#[]⟩, .string ⟨#[]⟩, .slice (some ⟨W3.heap.size, 0, none⟩) 1 1] 35)
      have HRX := hide ((HR1.out.over (over_alloc _ _ (.cells #[.int .i64 nd1.k, .int .i64 nd1.vk, .int .i64 nd1.vn, .string nd1.vt, .string nd1.nm, v1] 35))).over (over_alloc _ _ (.cells #[.int .i64 (3 + (x : Int)), .int .i64 0, .int .i64 0, .string ⟨#[]⟩, .string ⟨#[]⟩, .slice (some ⟨W3.heap.size, 0, none⟩) 1 1] 35)))
      have HS3x := hide ((hS3.out.gb (gb_alloc _ (.cells #[.int .i64 nd1.k, .int .i64 nd1.vk, .int .i64 nd1.vn, .string nd1.vt, .string nd1.nm, v1] 35) (some br)) hgl3 hgr).gb (gb_alloc _ (.cells #[.int .i64 (3 + (x : Int)), .int .i64 0, .int .i64 0, .string ⟨#[]⟩, .string ⟨#[]⟩, .slice (some ⟨W3.heap.size, 0, none⟩) 1 1] 35) (some br)) (by simp; omega) hgr)
      have hb3 := HD3.out.lt
      have HOX := hide ((over_alloc W2.heap.size W3 (.cells #[.int .i64 nd1.k, .int .i64 nd1.vk, .int .i64 nd1.vn, .string nd1.vt, .string nd1.nm, v1] 35)).trans (over_alloc W2.heap.size _ (.cells #[.int .i64 (3 + (x : Int)), .int .i64 0, .int .i64 0, .string ⟨#[]⟩, .string ⟨#[]⟩, .slice (some ⟨W3.heap.size, 0, none⟩) 1 1] 35)))
      have HR3 := hide HR1.out
      rw [show (W3.alloc (.cells #[.int .i64 nd1.k, .int .i64 nd1.vk, .int .i64 nd1.vn, .string nd1.vt, .string nd1.nm, v1] 35)).heap.size = W3.heap.size + 1 by simp] at HEX
      clear HB3 HR1 HD3 hS3
      generalize (W3.alloc (.cells #[.int .i64 nd1.k, .int .i64 nd1.vk, .int .i64 nd1.vn, .string nd1.vt, .string nd1.nm, v1] 35)).alloc (.cells #[.int .i64 (3 + (x : Int)), .int .i64 0, .int .i64 0, .string ⟨#[]⟩, .string ⟨#[]⟩, .slice (some ⟨W3.heap.size, 0, none⟩) 1 1] 35) = X at *
      generalize hgS : W3.heap.size = gS at *
      have HGS := hide hgS
      clear hgS
      have hlX : gS + 1 < X.heap.size := (Array.getElem?_eq_some_iff.1 HEX).1
      obtain ⟨e0, e1, e2, e3, e4, e5⟩ := cells6 HEX
      have HEX := hide HEX
      have hown : ∀ (w4 : World) (o : Obj), X.grownBy w4 (some br) → (w4.alloc o).ownsRow gS 35 6 (.slice (some ⟨gS, 0, none⟩) 1 1) 1 (ndL nd1 v1) := fun w4 o hg4 =>
        ⟨rfl, .inr ⟨gS, 1, _, rfl, Nat.le_refl _, blk_alloc (gb_blk hg4 (by omega) HSX.out), Nat.le_refl _, by unfold maxLen; omega, rfl, rfl⟩⟩
      have HOW := hide hown
      have HTN := hide (fun (w4 : World) (nd2 : Nd) (v2 : Value) => (fun j u hu => cells_one w4 (ndL nd2 v2) 35 j u hu : ∀ j u, (ndL nd2 v2)[j]? = some u → (w4.alloc (.cells (ndL nd2 v2).toArray 35)).cell? ((⟨w4.heap.size, 0, none⟩ : Addr).add j) = some u))
      clear hown
      have hwd : IntKind.i64.wrap (d : Int) = (d : Int) := by rw [IntKind.wrap_i64]; omega
      have hIX := hide ((HI.out _ _ _ _ _ _ X.drew (Dw.drew HDX.out) n g off cap hn hn2 hc hcm hgr (by show g < X.heap.size; omega) HS3x.out (by omega)).mono fun _ _ h => h.undrew)
      go_region_law (first
        | (go_simp
           go_at_call 64
           refine hIX.out.mono ?_
           rintro e W4 ⟨nd2, k2, v2, ht2, hl2, rfl, hr2x, hD4, hg4⟩
           have hr2 := hr2x.at
           clear hr2x
           have HT2 := hide ht2
           have HO2 := hide (row_cell hr2)
           have HR2 := hide hr2
           have HD4 := hide hD4
           have HG4 : Hid (X.grownBy W4 (some br)) := hg4
           have HE4 := hide (gb_blk HG4.out (by omega) HEX.out)
           obtain ⟨x0, x1, x2, x3, x4, x5⟩ := cells6 HE4.out
           obtain ⟨y0, y1, y2, y3, y4, y5⟩ := free6 HE4.out
           have h4s : gS + 1 < W4.heap.size := (Array.getElem?_eq_some_iff.1 HE4.out).1
           clear ht2 hr2 hD4 hg4)
        | (refine step_appX rfl (.tmp 45) (.tmp 51) rfl rfl gS 1 (ndL nd1 v1) nd2 v2 HO2.out ⟨W4.heap.size, 0, none⟩ 1 ?_ ?_ (HTN.out W4 nd2 v2) ?_ ?_ ?_
           · simpa [Act.eval, Act.put] using HOW.out W4 _ HG4.out
           · simp [Act.eval, Act.put]
           · omega
           · (simp; omega)
           intro v' w2 hv2 hg2 hb2
           have hw2 : v'.ownBlock = some gS ∨ v'.ownBlock = some (W4.heap.size + 1) := (by simpa [Act.eval, Act.put, Value.ownBlock] using hb2)
           have hw3 : (W4.alloc (.cells #[.int .i64 nd2.k, .int .i64 nd2.vk, .int .i64 nd2.vn, .string nd2.vt, .string nd2.nm, v2] 35)).grownBy w2 (some gS) := (by simpa [Act.eval, Act.put, Value.ownBlock] using hg2)
           have HW2 := hide hw2
           have HG2 := hide hw3
           have HE2 := hide (gb_blk HG2.out (by omega) (blk_alloc HE4.out))
           have HV2 := hide hv2
           obtain ⟨a2, c2, rfl⟩ := ownsRow_form hv2
           obtain ⟨z0, z1, z2, z3, z4, z5⟩ := cells6 HE2.out
           obtain ⟨s0, s1, s2, s3, s4, s5⟩ := free6 HE2.out
           have h2s : gS + 1 < w2.heap.size := (Array.getElem?_eq_some_iff.1 HE2.out).1
           clear hv2 hg2 hb2 hw2 hw3))
      all_goals
        have h4n := HG4.out.size
        have h2n : W4.heap.size + 1 ≤ w2.heap.size := by have := HG2.out.size; simp at this; omega
        obtain ⟨g', cp, hv', hob, hgl', hbg', hnc, hcm', hcell⟩ := own_at HV2.out (by omega)
        cases hv'
        have hg' : g' = gS ∨ g' = W4.heap.size + 1 := by
          rcases HW2.out with h | h <;> rw [hob] at h <;> injection h with h <;> omega
        have hw6 : w2.heap[W.heap.size]? = _ := gb_blk HG2.out (by omega) (blk_alloc (gb_blk HG4.out hne HBX.out))
        have hD2 := (HD4.out.alloc (.cells #[.int .i64 nd2.k, .int .i64 nd2.vk, .int .i64 nd2.vn, .string nd2.vt, .string nd2.nm, v2] 35)).boxed.own hn₀ HG2.out (by omega) (by omega)
        have hk1 : ∀ g o, W2.heap.size ≤ g → g < W3.heap.size → w2.cell? ⟨g, o, none⟩ = W3.cell? ⟨g, o, none⟩ := fun g o hl hg => by
          have hX := HOX.out.2 g o hl hg
          have hgs := HGS.out
          rw [← hX, ← gb_cell HG4.out (by have := HOX.out.1; omega) (by omega) o, ← (over_alloc 0 W4 (.cells #[.int .i64 nd2.k, .int .i64 nd2.vk, .int .i64 nd2.vn, .string nd2.vt, .string nd2.nm, v2] 35)).2 g o (Nat.zero_le _) (by omega)]
          exact gb_cell HG2.out (by simp; omega) (by omega) o
        have hk2 := (over_alloc X.heap.size W4 (.cells #[.int .i64 nd2.k, .int .i64 nd2.vk, .int .i64 nd2.vn, .string nd2.vt, .string nd2.nm, v2] 35)).trans (over_gb2 (lo := X.heap.size) HG2.out (.inl (by omega)))
        have HW6 := hide hw6
        have HG' := hide hg'
        have HK1 := hide hk1
        have HCL := hide hcell
        obtain ⟨c0, c1, c2', c3, c4, c5⟩ := cells6 hw6
        obtain ⟨f0, f1, f2, f3, f4, f5⟩ := free6 hw6
        have h6s : W.heap.size < w2.heap.size := by omega
        clear hw6 hg' hk1 hcell hob h4n hnc hcm'
        go_wp2
        clear c0 c1 c2' c3 c4 c5 f0 f1 f2 f3 f4 f5
        have hw6 := HW6.out
        have hg' := HG'.out
        have hk1 := HK1.out
        have hcell := HCL.out
        have hbb := own_bound2 HV2.out
        obtain ⟨hnc, hcm'⟩ := hbb
        clear HG2 HW2 HE2 HD4 hIX HOW HTN x0 x1 x2 x3 x4 x5 y0 y1 y2 y3 y4 y5 HE4 HG4 HSX HBX HDX e0 e1 e2 e3 e4 e5
        have hZ6 := set6 (blk_set hw6 (g := gS + 1) (by omega) 5 (.slice (some ⟨g', 0, none⟩) (1 + 1) c2)) (.int .i64 (3 + (x : Int))) (.int .i64 0) (.int .i64 0) (.string ⟨#[]⟩) (.string ⟨#[]⟩) (.slice (some ⟨g', 0, none⟩) (1 + 1) c2)
        have hDZ := (hD2.set hn₀ (b := gS + 1) (by omega) (by omega) 5 (.slice (some ⟨g', 0, none⟩) (1 + 1) c2)).set6 hn₀ (Nat.le_refl _) hne (.int .i64 (3 + (x : Int))) (.int .i64 0) (.int .i64 0) (.string ⟨#[]⟩) (.string ⟨#[]⟩) (.slice (some ⟨g', 0, none⟩) (1 + 1) c2)
        have hov := (over_set (lo := X.heap.size) (b := gS + 1) w2 (.inl hlX) 5 (.slice (some ⟨g', 0, none⟩) (1 + 1) c2)).trans (over_set6 (lo := X.heap.size) (b := W.heap.size) _ (by omega) (.int .i64 (3 + (x : Int))) (.int .i64 0) (.int .i64 0) (.string ⟨#[]⟩) (.string ⟨#[]⟩) (.slice (some ⟨g', 0, none⟩) (1 + 1) c2))
        have hcZ : ∀ g o, g ≠ W.heap.size → g ≠ gS + 1 → (((((((w2.setCell ⟨gS + 1, 5, none⟩ (.slice (some ⟨g', 0, none⟩) (1 + 1) c2)).setCell ⟨W.heap.size, 0, none⟩ (.int .i64 (3 + (x : Int)))).setCell ⟨W.heap.size, 1, none⟩ (.int .i64 0)).setCell ⟨W.heap.size, 2, none⟩ (.int .i64 0)).setCell ⟨W.heap.size, 3, none⟩ (.string ⟨#[]⟩)).setCell ⟨W.heap.size, 4, none⟩ (.string ⟨#[]⟩)).setCell ⟨W.heap.size, 5, none⟩ (.slice (some ⟨g', 0, none⟩) (1 + 1) c2)).cell? ⟨g, o, none⟩ = w2.cell? ⟨g, o, none⟩ := fun g o h1 h2 => by
          have hx : ∀ (V : World) (b i : Nat) (u : Value), g ≠ b → (V.setCell ⟨b, i, none⟩ u).cell? ⟨g, o, none⟩ = V.cell? ⟨g, o, none⟩ := fun V b i u hb => World.cell?_setCell_other _ _ _ _ (by intro h; exact hb (congrArg Addr.block h).symm)
          rw [hx _ _ _ _ h1, hx _ _ _ _ h1, hx _ _ _ _ h1, hx _ _ _ _ h1, hx _ _ _ _ h1, hx _ _ _ _ h1, hx _ _ _ _ h2]
        have hbZ : ∀ g, g ≠ W.heap.size → g ≠ gS + 1 → (((((((w2.setCell ⟨gS + 1, 5, none⟩ (.slice (some ⟨g', 0, none⟩) (1 + 1) c2)).setCell ⟨W.heap.size, 0, none⟩ (.int .i64 (3 + (x : Int)))).setCell ⟨W.heap.size, 1, none⟩ (.int .i64 0)).setCell ⟨W.heap.size, 2, none⟩ (.int .i64 0)).setCell ⟨W.heap.size, 3, none⟩ (.string ⟨#[]⟩)).setCell ⟨W.heap.size, 4, none⟩ (.string ⟨#[]⟩)).setCell ⟨W.heap.size, 5, none⟩ (.slice (some ⟨g', 0, none⟩) (1 + 1) c2)).heap[g]? = w2.heap[g]? := fun g h1 h2 => by
          have hx : ∀ (V : World) (b i : Nat) (u : Value), g ≠ b → (V.setCell ⟨b, i, none⟩ u).heap[g]? = V.heap[g]? := fun V b i u hb => Below.heap_setCell _ _ _ _ hb
          rw [hx _ _ _ _ h1, hx _ _ _ _ h1, hx _ _ _ _ h1, hx _ _ _ _ h1, hx _ _ _ _ h1, hx _ _ _ _ h1, hx _ _ _ _ h2]
        have hsz : (((((((w2.setCell ⟨gS + 1, 5, none⟩ (.slice (some ⟨g', 0, none⟩) (1 + 1) c2)).setCell ⟨W.heap.size, 0, none⟩ (.int .i64 (3 + (x : Int)))).setCell ⟨W.heap.size, 1, none⟩ (.int .i64 0)).setCell ⟨W.heap.size, 2, none⟩ (.int .i64 0)).setCell ⟨W.heap.size, 3, none⟩ (.string ⟨#[]⟩)).setCell ⟨W.heap.size, 4, none⟩ (.string ⟨#[]⟩)).setCell ⟨W.heap.size, 5, none⟩ (.slice (some ⟨g', 0, none⟩) (1 + 1) c2)).heap.size = w2.heap.size := by simp [World.setCell]
        clear hw6 hD2
        clear z0 z1 z2 z3 z4 z5 s0 s1 s2 s3 s4 s5
        generalize (((((((w2.setCell ⟨gS + 1, 5, none⟩ (.slice (some ⟨g', 0, none⟩) (1 + 1) c2)).setCell ⟨W.heap.size, 0, none⟩ (.int .i64 (3 + (x : Int)))).setCell ⟨W.heap.size, 1, none⟩ (.int .i64 0)).setCell ⟨W.heap.size, 2, none⟩ (.int .i64 0)).setCell ⟨W.heap.size, 3, none⟩ (.string ⟨#[]⟩)).setCell ⟨W.heap.size, 4, none⟩ (.string ⟨#[]⟩)).setCell ⟨W.heap.size, 5, none⟩ (.slice (some ⟨g', 0, none⟩) (1 + 1) c2)) = Z at hZ6 hDZ hov hcZ hbZ hsz ⊢
        obtain ⟨d0, d1, d2, d3, d4, d5⟩ := cells6 hZ6
        refine bodyPost_ret (v := ndV ⟨3 + (x : Int), 0, 0, ⟨#[]⟩, ⟨#[]⟩⟩ (.slice (some ⟨g', 0, none⟩) (1 + 1) c2)) (by simp [results, Tryz.results64, go_sem, d0, d1, d2, d3, d4, d5]) rfl ?_
        obtain ⟨j1, j2⟩ := J.out _ (hDZ.mono (by omega))
        have hgs := HGS.out
        have hr1 : RowP (fun b => W.heap.size ≤ b ∧ b ≠ g') Z k1 v1 := (RowP.of HR3.out).over (by omega) (fun b h hb => ⟨by omega, by omega⟩) (fun g o h hg => (hcZ g o (by omega) (by omega)).trans (hk1 g o h.1 hg))
        have hr2 : RowP (fun b => W.heap.size ≤ b ∧ b ≠ g') Z k2 v2 := (RowP.of HR2.out).over (by omega) (fun b h hb => ⟨by omega, by omega⟩) (fun g o h hg => (hk2.trans hov).2 g o h.1 hg)
        have hbk : Z.heap[g']? = w2.heap[g']? := hbZ g' (by omega) (by omega)
        refine ⟨_, .cons nd1 k1 (.cons nd2 k2 .nil), _, ⟨sh_nil, sh_nil, by simp [Fo.len], ⟨HT1.out.1, HT1.out.2.1, HT1.out.2.2.1, HT1.out.2.2.2, HT2.out.1, HT2.out.2.1, HT2.out.2.2.1, HT2.out.2.2.2, trivial⟩⟩, by simp [Fo.len], rfl, ?_, j1, j2⟩
        refine ⟨ndL nd1 v1 ++ ndL nd2 v2, ?_, v1, ndL nd2 v2, rfl, ?_, v2, [], by simp, ?_, rfl⟩
        · obtain ⟨q1, q2⟩ := HV2.out
          refine ⟨q1, ?_⟩
          rcases q2 with ⟨h1, h0⟩ | ⟨g5, cap5, cur5, hv5, hb5, hg5, rest⟩
          · cases h1
          · injection hv5 with e1 e2 e3
            injection e1 with e1
            injection e1 with e1
            subst e1 e3
            exact .inr ⟨g', c2, cur5, rfl, by omega, hbk.trans hg5, rest⟩
        · exact hr1.over (Nat.le_refl _) (fun b h _ => ⟨h.1, by intro e; injection e with e; exact h.2 e.symm⟩) (fun _ _ _ _ => rfl)
        · exact hr2.over (Nat.le_refl _) (fun b h _ => ⟨h.1, by intro e; injection e with e; exact h.2 e.symm⟩) (fun _ _ _ _ => rfl)
theorem l12Expr_d : ∀ d, d ≤ 10 → XdP d
  | 0, _ => l12Expr_leaf 0 (by omega)
  | 1, _ => l12Expr_leaf 1 (by omega)
  | d + 2, h => l12Expr_step (d + 1) (by omega) (by omega) (l12Expr_d (d + 1) (by omega))
end Go.Proofs.YtamkncfdfaejjaaGreatDoor

/- Drawn expressions of any kind, ok or not. -/
namespace Go.Proofs.YtamkncfdfaejjaaGreatDoor
open Go.RowKit
set_option linter.unusedVariables false
set_option linter.unusedSimpArgs false
/-- any expression was drawn -/
def Xa (n₀ br len p K : Nat) (W W1 : World) (e : Ending) (W' : World) : Prop :=
  ∃ nd k v, NdTx nd k ∧ e = .returned (ndV nd v) ∧ RowAt W1.heap.size W' k v ∧ Dw n₀ br len p K W W' ∧ W1.grownBy W' (some br)
theorem names_lit (W : World) (T : TypeId) : Among Sh 3 W.heap.size 0 (W.alloc (.cells #[.string ⟨#[105, 110]⟩, .string ⟨#[120]⟩, .string ⟨#[121]⟩] T)) := by
  refine among_lit ?_
  intro i hi
  have : i = 0 ∨ i = 1 ∨ i = 2 := by omega
  rcases this with rfl | rfl | rfl
  · exact ⟨_, rfl, by show _ ≤ _; decide⟩
  · exact ⟨_, rfl, by show _ ≤ _; decide⟩
  · exact ⟨_, rfl, by show _ ≤ _; decide⟩
theorem XRow.kept {lo : Nat} {w w1 : World} {k : Fo} {v : Value} {r : Nat} (h : XRow lo w k v) (hg : w.grownBy w1 (some r)) (hr : r < lo) : XRow lo w1 k v := by
  obtain ⟨A, ho, hl⟩ := h
  refine ⟨A, ho.kept hg (.inr (by
    intro e
    obtain ⟨h1, _⟩ := ho.lt r e
    omega)), hl.over hg.size (fun _ h _ => h) (fun g o h hg' => gb_cell hg hg' (by omega) o)⟩
theorem XRow.lo {lo lo' : Nat} {w : World} {k : Fo} {v : Value} (h : XRow lo w k v) (e : lo = lo') : XRow lo' w k v := e ▸ h
theorem gb_weak {W W' : World} (h : W.grownBy W' none) (r : Nat) : W.grownBy W' (some r) := ⟨h.os, h.tape, h.output, h.size, fun k hk _ => h.block k hk (by simp)⟩
theorem rowp_one {P : Nat → Prop} {g : Nat} {w : World} {nd : Nd} {k : Fo} {v : Value} (hg : P g) (hw : w.heap[g]? = some (.cells #[.int .i64 nd.k, .int .i64 nd.vk, .int .i64 nd.vn, .string nd.vt, .string nd.nm, v] 35 (0, 0))) (hr : RowP P w k v) :
    RowP P w (.cons nd k .nil) (.slice (some ⟨g, 0, none⟩) 1 1) := by
  obtain ⟨c0, c1, c2, c3, c4, c5⟩ := cells6 hw
  obtain ⟨ad, cap, rfl, h1, h2, h3⟩ := hr
  exact ⟨some ⟨g, 0, none⟩, 1, rfl, Nat.le_refl _, by unfold maxLen; omega, fun _ => ⟨g, 0, rfl, hg, (Array.getElem?_eq_some_iff.1 hw).1, ⟨c0, c1, c2, c3, c4, ad, cap, c5, h1, h2, h3⟩, trivial⟩⟩
theorem blk_set6 {W : World} {b : Nat} {o : Obj} (hb : W.heap[b]? = some o) {g : Nat} (hne : b ≠ g) (x0 x1 x2 x3 x4 x5 : Value) :
    ((((((W.setCell ⟨g, 0, none⟩ x0).setCell ⟨g, 1, none⟩ x1).setCell ⟨g, 2, none⟩ x2).setCell ⟨g, 3, none⟩ x3).setCell ⟨g, 4, none⟩ x4).setCell ⟨g, 5, none⟩ x5).heap[b]? = some o :=
  blk_set (blk_set (blk_set (blk_set (blk_set (blk_set hb hne 0 x0) hne 1 x1) hne 2 x2) hne 3 x3) hne 4 x4) hne 5 x5
theorem rowp_cell6 {W : World} {g o b : Nat} (hb : g ≠ b) (x0 x1 x2 x3 x4 x5 : Value) :
    ((((((W.setCell ⟨b, 0, none⟩ x0).setCell ⟨b, 1, none⟩ x1).setCell ⟨b, 2, none⟩ x2).setCell ⟨b, 3, none⟩ x3).setCell ⟨b, 4, none⟩ x4).setCell ⟨b, 5, none⟩ x5).cell? ⟨g, o, none⟩ = W.cell? ⟨g, o, none⟩ := by
  have hx : ∀ (V : World) (i : Nat) (u : Value), (V.setCell ⟨b, i, none⟩ u).cell? ⟨g, o, none⟩ = V.cell? ⟨g, o, none⟩ := fun V i u => World.cell?_setCell_other _ _ _ _ (by intro h; exact hb (congrArg Addr.block h).symm)
  rw [hx, hx, hx, hx, hx, hx]
theorem rowp_set {P : Nat → Prop} {V : World} {F : Fo} {v : Value} (h : RowP P V F v) {b : Nat} (hb : ∀ g, P g → g ≠ b) (i : Nat) (u : Value) : RowP P (V.setCell ⟨b, i, none⟩ u) F v :=
  h.over (by simp [World.setCell]) (fun _ h _ => h) (fun g o hp _ => World.cell?_setCell_other _ _ _ _ (by intro e; exact hb g hp (congrArg Addr.block e).symm))
theorem any_end {n₀ br len p K : Nat} {W0 W V : World} {J b2 p' : Nat} (hb2 : b2 = W.heap.size) (hJ : ∀ W2, Dw n₀ br len p' 130 W W2 → Dw n₀ br len p (K + 130) W0 W2 ∧ W.grownBy W2 (some br)) (hn₀ : n₀ ≤ W.heap.size) (hne : W.heap.size ≠ br)
    {nd : Nd} {k : Fo} {v : Value} (ht : NdTx nd k) (hD : Dw n₀ br len p' J W V) (hj : J ≤ 130) (hr : RowAt (W.heap.size + 1 + 1) V k v) :
    Xa n₀ br len p (K + 130) W0 W (.returned (ndV nd v)) ((((((V.setCell ⟨b2, 0, none⟩ (.int .i64 nd.k)).setCell ⟨b2, 1, none⟩ (.int .i64 nd.vk)).setCell ⟨b2, 2, none⟩ (.int .i64 nd.vn)).setCell ⟨b2, 3, none⟩ (.string nd.vt)).setCell ⟨b2, 4, none⟩ (.string nd.nm)).setCell ⟨b2, 5, none⟩ v) := by
  subst hb2
  obtain ⟨j1, j2⟩ := hJ _ ((hD.mono hj).set6 hn₀ (Nat.le_refl _) hne (.int .i64 nd.k) (.int .i64 nd.vk) (.int .i64 nd.vn) (.string nd.vt) (.string nd.nm) v)
  exact ⟨nd, k, v, ht, rfl, (hr.over (over_set6 V (by omega) _ _ _ _ _ _)).low (by omega), j1, j2⟩
/-- an expression put behind a row of the call's own -/
theorem wp_appX {ops : Array Oper} {rest : List Oper} {o : Oper} {a : Act} {W : World} {Q : Exit → Act → World → Prop} (hgd : o.guard = none) (s x : Operand)
    (ho : o.op = .call { callee := .builtin .append, args := #[s, x], argTypes := #[33, 33] }) (hty : o.type = 33) (base n : Nat) (A : List Value) (nd : Nd) (v0 : Value) (hone : v0.oneCell' = true) (v : Value) (ad : Addr) (c : Nat) (hs : a.eval s = v) (hx : a.eval x = .slice (some ad) 1 c)
    (hv : W.ownsRow base 35 6 v n A) (hu : ∀ j u, (ndL nd v0)[j]? = some u → W.cell? (ad.add j) = some u) (hn : n + 1 ≤ 1048576) (hb : base ≤ W.heap.size)
    (h : ∀ v' w2, Hid (w2.ownsRow base 35 6 v' (n + 1) (A ++ ndL nd v0)) → Hid (W.grownBy w2 v.ownBlock) → Hid (v'.ownBlock = v.ownBlock ∨ v'.ownBlock = some W.heap.size) → wpList Tryz.prog ops Q rest (a.put o.dst v') w2) : wpList Tryz.prog ops Q (o :: rest) a W := by
  refine wpList_plain hgd fun K hK => ?_
  obtain ⟨i0, hi, hz0, hz1, hz2⟩ := info_parts infoX
  obtain ⟨v', w2, hrun, hown, hgrow, _, hwhere⟩ := run_append_own_at (P := Tryz.prog) W base 33 33 35 i0 _ 6 80 Tryz.underlying33 hi hz0 hz1 hz2 rfl (by decide) v n A hv ad 1 c (ndL nd v0) rfl hu (fun u hu => by
    simp only [List.mem_cons, List.not_mem_nil, or_false] at hu
    rcases hu with rfl | rfl | rfl | rfl | rfl | rfl <;> first | rfl | exact hone) (by unfold maxLen; omega) (by omega) hb
  unfold Oper.wp
  simp [execOp, ho, resolve, invoke, builtin, hs, hx, hty, hrun, Result.andThen]
  exact hK _ _ (h _ _ hown hgrow hwhere)
theorem Kx4 : Kx 4 = 124 := by decide
set_option maxRecDepth 100000 in
set_option maxHeartbeats 6400000 in
theorem l12AnyExpr_d {n₀ br len p K : Nat} {W0 W : World} (h : Dw n₀ br len p K W0 W) (hp : p + K ≤ 800000) :
    Calls Tryz.prog 43 #[.pointer (some ⟨br, 0, none⟩)] W (Xa n₀ br len p (K + 130) W0 W) := by
  obtain ⟨⟨p', hp', hr⟩, hg⟩ := h
  have hlt := hr.lt
  have hne : W.heap.size ≠ br := by omega
  have hn₀ : n₀ ≤ W.heap.size := by have := hr.1; omega
  have J : Hid (∀ W2, Dw n₀ br len p' 130 W W2 → Dw n₀ br len p (K + 130) W0 W2 ∧ W.grownBy W2 (some br)) := fun W2 h2 => ⟨h2.join hg hp', h2.gb⟩
  have HR := hide hr
  clear hr hg
  go_enter Tryz.func43, Tryz.ntmps43
  go_wp2_with fail
  have hq := l12Expr_d 4 (by omega) n₀ br len p' 0 _ _ (Dw.start ((HR.out.alloc (.cells #[.int .i64 0, .int .i64 0, .int .i64 0, .string ⟨#[]⟩, .string ⟨#[]⟩, .slice none 0 0] 35)).alloc (.cells #[.string ⟨#[105, 110]⟩, .string ⟨#[120]⟩, .string ⟨#[121]⟩] 9))) 3 (W.heap.size + 1) 0 3 (by omega) (by omega) (by omega) (by unfold maxLen; omega) (by omega) (by simp) (by
    have := names_lit (W.alloc (.cells #[.int .i64 0, .int .i64 0, .int .i64 0, .string ⟨#[]⟩, .string ⟨#[]⟩, .slice none 0 0] 35)) 9
    simpa using this) (by rw [Kx4]; omega)
  rw [Kx4] at hq
  refine hq.mono ?_
  rintro e W1 ⟨nd, k, v, ht, hl, rfl, hx, hD, hg1⟩
  obtain ⟨A0, ho0, _⟩ := id hx
  obtain ⟨av, cv, rfl⟩ := ownsRow_form ho0
  clear ho0
  have HD1 := hide ((hD.boxed.boxed).mono (K' := 124) (by omega))
  have HB1 := hide (gb_blk hg1 hne (blk_alloc (heap_alloc_new W (.cells #[.int .i64 0, .int .i64 0, .int .i64 0, .string ⟨#[]⟩, .string ⟨#[]⟩, .slice none 0 0] 35))))
  have HX1 := hide (hx.lo (lo' := W.heap.size + 1 + 1) (by simp))
  have HT := hide ht
  have hs1 : W.heap.size + 1 + 1 ≤ W1.heap.size := by have := hg1.size; simp at this; omega
  clear hD hx hg1 ht hq HR
  go_wp2_with fail
  refine (pick_d (HD1.out.alloc (.cells #[.int .i64 nd.k, .int .i64 nd.vk, .int .i64 nd.vn, .string nd.vt, .string nd.nm, .slice av k.len cv] 35)) 14 (by omega) (by omega) (by omega)).mono ?_
  rintro e W2 ⟨x, hx, rfl, hD, hg2⟩
  have HD2 := hide hD
  have HB2 := hide (gb_blk hg2 hne (blk_alloc (o2 := (.cells #[.int .i64 nd.k, .int .i64 nd.vk, .int .i64 nd.vn, .string nd.vt, .string nd.nm, .slice av k.len cv] 35)) HB1.out))
  have HE2 := hide (gb_blk hg2 (by have := HD1.out.lt; omega) (heap_alloc_new W1 (.cells #[.int .i64 nd.k, .int .i64 nd.vk, .int .i64 nd.vn, .string nd.vt, .string nd.nm, .slice av k.len cv] 35)))
  have HL2 : Hid (∃ A, W2.ownsRow (W.heap.size + 1 + 1) 35 6 (.slice av k.len cv) k.len A ∧ RowL (fun b => W.heap.size + 1 + 1 ≤ b ∧ (Value.slice av k.len cv).ownBlock ≠ some b ∧ b < W1.heap.size) W2 k A) := by
    obtain ⟨A, ho, hl⟩ := HX1.out
    have hb := HD1.out.lt
    refine ⟨A, (ho.kept (gb_alloc W1 (.cells #[.int .i64 nd.k, .int .i64 nd.vk, .int .i64 nd.vn, .string nd.vt, .string nd.nm, .slice av k.len cv] 35) (some br)) (.inr (by intro e; have := (ho.lt br e).1; omega))).kept hg2 (.inr (by intro e; have := (ho.lt br e).1; omega)), ?_⟩
    refine (hl.over (Q := fun b => W.heap.size + 1 + 1 ≤ b ∧ (Value.slice av k.len cv).ownBlock ≠ some b ∧ b < W1.heap.size) (w1 := W1.alloc (.cells #[.int .i64 nd.k, .int .i64 nd.vk, .int .i64 nd.vn, .string nd.vt, .string nd.nm, .slice av k.len cv] 35)) (by simp) (fun b h hb => ⟨h.1, h.2, hb⟩) (fun g o h hg => (over_alloc 0 _ _).2 g o (Nat.zero_le _) hg)).over hg2.size (fun b h _ => h) (fun g o h hg => gb_cell hg2 hg (by omega) o)
  have HP2 : Hid (RowP (fun b => W.heap.size + 1 + 1 ≤ b ∧ b ≠ W1.heap.size) W2 k (.slice av k.len cv)) := ((RowP.of HX1.out.at).over (Q := fun b => W.heap.size + 1 + 1 ≤ b ∧ b < W1.heap.size) (w1 := W1.alloc (.cells #[.int .i64 nd.k, .int .i64 nd.vk, .int .i64 nd.vn, .string nd.vt, .string nd.nm, .slice av k.len cv] 35)) (by simp) (fun b h hb => h) (fun g o h hg => (over_alloc 0 _ _).2 g o (Nat.zero_le _) hg)).over hg2.size (fun b h hb => ⟨h.1, by omega⟩) (fun g o h hg => gb_cell hg2 hg (by omega) o)
  have HOB : Hid (∀ g, (Value.slice av k.len cv).ownBlock = some g → W.heap.size + 1 + 1 ≤ g ∧ g < W1.heap.size) := by
    intro g hg
    obtain ⟨A, ho, _⟩ := HX1.out
    exact ho.lt g hg
  have hbr1 := HD1.out.lt
  have h2s : W1.heap.size < W2.heap.size := (Array.getElem?_eq_some_iff.1 HE2.out).1
  clear hD hg2 HB1 HX1 HD1
  generalize W1.heap.size = gE at *
  obtain ⟨c0, c1, c2, c3, c4, c5⟩ := cells6 HB2.out
  obtain ⟨f0, f1, f2, f3, f4, f5⟩ := free6 HB2.out
  obtain ⟨e0, e1, e2, e3, e4, e5⟩ := cells6 HE2.out
  obtain ⟨q0, q1, q2, q3, q4, q5⟩ := free6 HE2.out
  have h2b : W.heap.size < W2.heap.size := by omega
  by_cases x0 : x = 0
  · subst x0
    go_wp2_with fail
    refine (pick_d HD2.out 12 (by omega) (by omega) (by omega)).mono ?_
    rintro e W3 ⟨y, hy, rfl, hD3, hg3⟩
    have HD3 := hide hD3
    have HB3 := hide (gb_blk hg3 hne HB2.out)
    have HE3 := hide (gb_blk hg3 (by omega) HE2.out)
    have HP3 := hide (HP2.out.over hg3.size (fun b h _ => h) (fun g o h hg => gb_cell hg3 hg (by omega) o))
    have h3s : gE < W3.heap.size := (Array.getElem?_eq_some_iff.1 HE3.out).1
    have h3b : W.heap.size < W3.heap.size := by omega
    clear c0 c1 c2 c3 c4 c5 f0 f1 f2 f3 f4 f5 e0 e1 e2 e3 e4 e5 q0 q1 q2 q3 q4 q5 hD3 hg3
    obtain ⟨c0, c1, c2, c3, c4, c5⟩ := cells6 HB3.out
    obtain ⟨f0, f1, f2, f3, f4, f5⟩ := free6 HB3.out
    obtain ⟨e0, e1, e2, e3, e4, e5⟩ := cells6 HE3.out
    obtain ⟨q0, q1, q2, q3, q4, q5⟩ := free6 HE3.out
    go_wp2
    obtain ⟨d0, d1, d2, d3, d4, d5⟩ := cells6 (set6 (blk_set HB3.out (g := gE) (by omega) 0 (.int .i64 (y : Int))) (.int .i64 (y : Int)) (.int .i64 nd.vk) (.int .i64 nd.vn) (.string nd.vt) (.string nd.nm) (.slice av k.len cv))
    refine bodyPost_ret (v := ndV ⟨(y : Int), nd.vk, nd.vn, nd.vt, nd.nm⟩ (.slice av k.len cv)) (by simp [results, Tryz.results43, go_sem, d0, d1, d2, d3, d4, d5]) rfl ?_
    exact any_end (nd := ⟨(y : Int), nd.vk, nd.vn, nd.vt, nd.nm⟩) rfl J.out hn₀ hne HT.out (HD3.out.set hn₀ (b := gE) (by omega) (by omega) 0 _) (by omega) ((rowp_set HP3.out (b := gE) (fun _ h => h.2) 0 _).at (fun _ h => h.1))
  by_cases x1 : x = 1
  · subst x1
    go_wp2
    obtain ⟨d0, d1, d2, d3, d4, d5⟩ := cells6 (set6 (blk_set HB2.out (g := gE) (by omega) 4 (.string ⟨#[122]⟩)) (.int .i64 nd.k) (.int .i64 nd.vk) (.int .i64 nd.vn) (.string nd.vt) (.string ⟨#[122]⟩) (.slice av k.len cv))
    refine bodyPost_ret (v := ndV ⟨nd.k, nd.vk, nd.vn, nd.vt, ⟨#[122]⟩⟩ (.slice av k.len cv)) (by simp [results, Tryz.results43, go_sem, d0, d1, d2, d3, d4, d5]) rfl ?_
    exact any_end (nd := ⟨nd.k, nd.vk, nd.vn, nd.vt, ⟨#[122]⟩⟩) rfl J.out hn₀ hne ⟨HT.out.1, (show (1 : Nat) ≤ 25 by omega), HT.out.2.2⟩ (HD2.out.set hn₀ (b := gE) (by omega) (by omega) 4 _) (by omega) ((rowp_set HP2.out (b := gE) (fun _ h => h.2) 4 _).at (fun _ h => h.1))
  by_cases x2 : x = 2
  · subst x2
    obtain ⟨A, hoA, hlA⟩ := HL2.out
    have HLA := hide hlA
    have HOW := hide (ownsRow_later hoA ((Below.refl _ W2).alloc (Nat.le_refl _) (.cells #[.int .i64 2, .int .i64 0, .int .i64 0, .string ⟨#[]⟩, .string ⟨#[120]⟩, .slice none 0 0] 35)))
    have HUU : Hid (∀ j u, (ndL ⟨2, 0, 0, ⟨#[]⟩, ⟨#[120]⟩⟩ (.slice none 0 0))[j]? = some u → (W2.alloc (.cells #[.int .i64 2, .int .i64 0, .int .i64 0, .string ⟨#[]⟩, .string ⟨#[120]⟩, .slice none 0 0] 35)).cell? ((⟨W2.heap.size, 0, none⟩ : Addr).add j) = some u) := cells_one W2 (ndL ⟨2, 0, 0, ⟨#[]⟩, ⟨#[120]⟩⟩ (.slice none 0 0)) 35
    have HBS : Hid (W.heap.size + 1 + 1 ≤ (W2.alloc (.cells #[.int .i64 2, .int .i64 0, .int .i64 0, .string ⟨#[]⟩, .string ⟨#[120]⟩, .slice none 0 0] 35)).heap.size) := by
      show _ ≤ _
      simp; omega
    clear hlA hoA
    have hEF : ∀ w2, Hid ((W2.alloc (.cells #[.int .i64 2, .int .i64 0, .int .i64 0, .string ⟨#[]⟩, .string ⟨#[120]⟩, .slice none 0 0] 35)).grownBy w2 (Value.slice av k.len cv).ownBlock) → w2.heap[gE]? = some (.cells #[.int .i64 nd.k, .int .i64 nd.vk, .int .i64 nd.vn, .string nd.vt, .string nd.nm, (.slice av k.len cv)] 35 (0, 0)) := fun w2 hg2 => (hg2.out.block gE (by simp; omega) (fun e => absurd (HOB.out gE e.symm).2 (Nat.lt_irrefl _))).trans (blk_alloc HE2.out)
    have hBF : ∀ w2, Hid ((W2.alloc (.cells #[.int .i64 2, .int .i64 0, .int .i64 0, .string ⟨#[]⟩, .string ⟨#[120]⟩, .slice none 0 0] 35)).grownBy w2 (Value.slice av k.len cv).ownBlock) → w2.heap[W.heap.size]? = some (.cells #[.int .i64 0, .int .i64 0, .int .i64 0, .string ⟨#[]⟩, .string ⟨#[]⟩, .slice none 0 0] 35 (0, 0)) := fun w2 hg2 => (hg2.out.block W.heap.size (by simp; omega) (fun e => absurd (HOB.out W.heap.size e.symm).1 (by omega))).trans (blk_alloc HB2.out)
    have hCF := fun w2 hg => And.intro (cells6 (hEF w2 hg)) (And.intro (free6 (hEF w2 hg)) (And.intro (cells6 (hBF w2 hg)) (And.intro (free6 (hBF w2 hg)) (And.intro (Array.getElem?_eq_some_iff.1 (hEF w2 hg)).1 (Array.getElem?_eq_some_iff.1 (hBF w2 hg)).1))))
    have HEF := hide hEF
    have HBF := hide hBF
    have HCF := hide hCF
    have HAN : Hid (k.len + 1 ≤ 1048576) := by show _ ≤ _; omega
    clear hEF hBF hCF
    go_wp2_with (first
      | (with_reducible show wpList _ _ _ (Oper.mk _ (Op.call (Call.mk (.builtin .append) _ _)) _ _ _ _ :: _) _ _; refine wp_appX rfl (.tmp 21) (.tmp 23) rfl rfl (W.heap.size + 1 + 1) k.len A ⟨2, 0, 0, ⟨#[]⟩, ⟨#[120]⟩⟩ (.slice none 0 0) rfl (.slice av k.len cv) ⟨W2.heap.size, 0, none⟩ 1 rfl rfl HOW.out HUU.out HAN.out HBS.out ?_; intro v' w2 hv2 hg2 hb2; obtain ⟨⟨m0, m1, m2, m3, m4, m5⟩, ⟨n0, n1, n2, n3, n4, n5⟩, ⟨a0, a1, a2, a3, a4, a5⟩, ⟨b0, b1, b2, b3, b4, b5⟩, h3s, h3b⟩ := HCF.out w2 hg2; obtain ⟨av2, cv2, rfl⟩ := ownsRow_form hv2.out))
    clear c0 c1 c2 c3 c4 c5 f0 f1 f2 f3 f4 f5 e0 e1 e2 e3 e4 e5 q0 q1 q2 q3 q4 q5 m0 m1 m2 m3 m4 m5 n0 n1 n2 n3 n4 n5 a0 a1 a2 a3 a4 a5 b0 b1 b2 b3 b4 b5
    obtain ⟨d0, d1, d2, d3, d4, d5⟩ := cells6 (set6 (blk_set (HBF.out w2 hg2) (g := gE) (by omega) 5 (.slice av2 (k.len + 1) cv2)) (.int .i64 nd.k) (.int .i64 nd.vk) (.int .i64 nd.vn) (.string nd.vt) (.string nd.nm) (.slice av2 (k.len + 1) cv2))
    refine bodyPost_ret (v := ndV ⟨nd.k, nd.vk, nd.vn, nd.vt, nd.nm⟩ (.slice av2 (k.len + 1) cv2)) (by simp [results, Tryz.results43, go_sem, d0, d1, d2, d3, d4, d5]) rfl ?_
    have hgr2 := hg2.out
    have h2n : W2.heap.size + 1 ≤ w2.heap.size := by have := hgr2.size; simp at this; omega
    have hD4 : Dw n₀ br len p' (124 + 1) W w2 := by
      have h := HD2.out.alloc (.cells #[.int .i64 2, .int .i64 0, .int .i64 0, .string ⟨#[]⟩, .string ⟨#[120]⟩, .slice none 0 0] 35)
      cases hob : (Value.slice av k.len cv).ownBlock with
      | none =>
        rw [hob] at hgr2
        exact h.own hn₀ (gb_weak hgr2 gE) (by omega) (by omega)
      | some g =>
        rw [hob] at hgr2
        have hb := HOB.out g hob
        exact h.own hn₀ hgr2 (by omega) (by omega)
    have hcl : ∀ g o, g < W2.heap.size → (Value.slice av k.len cv).ownBlock ≠ some g → g ≠ gE → (w2.setCell ⟨gE, 5, none⟩ (.slice av2 (k.len + 1) cv2)).cell? ⟨g, o, none⟩ = W2.cell? ⟨g, o, none⟩ := fun g o h1 h2 h3 => by
      rw [World.cell?_setCell_other _ _ _ _ (by intro e; exact h3 (congrArg Addr.block e).symm)]
      refine (World.cell?_of_block (w := W2.alloc (.cells #[.int .i64 2, .int .i64 0, .int .i64 0, .string ⟨#[]⟩, .string ⟨#[120]⟩, .slice none 0 0] 35)) (hgr2.block g (by simp; omega) (fun e => h2 e.symm))).trans ?_
      exact (over_alloc 0 W2 (.cells #[.int .i64 2, .int .i64 0, .int .i64 0, .string ⟨#[]⟩, .string ⟨#[120]⟩, .slice none 0 0] 35)).2 g o (Nat.zero_le _) h1
    have hLs := HLA.out.over (Q := fun b => W.heap.size + 1 + 1 ≤ b) (w1 := w2.setCell ⟨gE, 5, none⟩ (.slice av2 (k.len + 1) cv2)) (by simp [World.setCell]; omega) (fun b h _ => h.1) (fun g o h hg => hcl g o hg h.2.1 (by omega))
    obtain ⟨F', hF1, hF2, hF3⟩ := hLs.snoc (nd := ⟨2, 0, 0, ⟨#[]⟩, ⟨#[120]⟩⟩) (k := .nil) (v := .slice none 0 0) ⟨none, 0, rfl, by simp [Fo.len], by unfold maxLen; omega, fun h => by simp [Fo.len] at h⟩
    have ht4 : NdTx nd F' := ⟨HT.out.1, HT.out.2.1, by omega, hF3 HT.out.2.2.2 sh_nil (show (1 : Nat) ≤ 25 by omega) (by simp [Fo.len]) trivial⟩
    obtain ⟨g', cp, hv', hob', hgl', hbg', hnc, hcm', hcell⟩ := own_at hv2.out (by omega)
    cases hv'
    have hg' : g' ≠ gE := by
      rcases hb2.out with h | h <;> rw [hob'] at h
      · have := HOB.out g' h.symm; omega
      · injection h with h; simp at h; omega
    refine any_end (nd := ⟨nd.k, nd.vk, nd.vn, nd.vt, nd.nm⟩) rfl J.out hn₀ hne ht4 (hD4.set hn₀ (b := gE) (by omega) (by omega) 5 _) (by omega) ?_
    refine ⟨some ⟨g', 0, none⟩, cv2, by rw [hF2], by omega, hcm', fun _ => ⟨g', 0, rfl, hbg', by simp [World.setCell]; omega, ?_⟩⟩
    refine hF1.at (fun _ h => h) fun j u hu => ?_
    rw [Nat.zero_add, World.cell?_setCell_other _ _ _ _ (by intro e; exact hg' (congrArg Addr.block e).symm)]
    exact hcell j u hu
  by_cases x3 : x = 3
  · subst x3
    go_wp2_with fail
    go_loopw [4] (fun iv wr => ∃ (i : Nat) (nd' : Nd) (k' : Fo) (a' : Option Addr) (c' : Nat), i ≤ 4 ∧ iv = .int .i64 i ∧ Hid (NdTx nd' k') ∧ Hid (wr.heap[gE]? = some (.cells #[.int .i64 nd'.k, .int .i64 nd'.vk, .int .i64 nd'.vn, .string nd'.vt, .string nd'.nm, .slice a' k'.len c'] 35 (0, 0))) ∧ Hid (RowP (fun b => W.heap.size + 1 + 1 ≤ b ∧ b ≠ gE) wr k' (.slice a' k'.len c')) ∧ Hid (wr.heap[W.heap.size]? = some (.cells #[.int .i64 0, .int .i64 0, .int .i64 0, .string ⟨#[]⟩, .string ⟨#[]⟩, .slice none 0 0] 35 (0, 0))) ∧ Hid (Dw n₀ br len p' (124 + 1) W wr)) (fun iv _ => 4 - (intOf iv).toNat)
    case atStart => exact ⟨0, nd, k, av, cv, by omega, rfl, HT, HE2, HP2, HB2, HD2⟩
    case round =>
      obtain ⟨i, nd', k', a', c', hi, rfl, HT', HE', HP', HB', HD'⟩ := hrel
      clear c0 c1 c2 c3 c4 c5 f0 f1 f2 f3 f4 f5 e0 e1 e2 e3 e4 e5 q0 q1 q2 q3 q4 q5 h2b h2s
      obtain ⟨c0, c1, c2, c3, c4, c5⟩ := cells6 HB'.out
      obtain ⟨f0, f1, f2, f3, f4, f5⟩ := free6 HB'.out
      obtain ⟨e0, e1, e2, e3, e4, e5⟩ := cells6 HE'.out
      obtain ⟨q0, q1, q2, q3, q4, q5⟩ := free6 HE'.out
      have hrs : gE < wr.heap.size := (Array.getElem?_eq_some_iff.1 HE'.out).1
      have hrb : W.heap.size < wr.heap.size := by omega
      by_cases hi4 : i < 4
      · have hii : (i : Int) < 4 := by omega
        have hsz : ((((((wr.setCell ⟨gE, 0, none⟩ (.int .i64 10)).setCell ⟨gE, 1, none⟩ (.int .i64 0)).setCell ⟨gE, 2, none⟩ (.int .i64 0)).setCell ⟨gE, 3, none⟩ (.string ⟨#[]⟩)).setCell ⟨gE, 4, none⟩ (.string ⟨#[]⟩)).setCell ⟨gE, 5, none⟩ (.slice (some ⟨wr.heap.size, 0, none⟩) 1 1)).heap.size = wr.heap.size := by simp [World.setCell]
        have HSZ := hide hsz
        clear hsz
        go_wp2
        go_roundw
        case rel =>
          refine ⟨i + 1, ⟨10, 0, 0, ⟨#[]⟩, ⟨#[]⟩⟩, .cons nd' k' .nil, some ⟨wr.heap.size, 0, none⟩, 1, by omega, by go_num, ⟨sh_nil, sh_nil, by simp [Fo.len], ⟨HT'.out.1, HT'.out.2.1, HT'.out.2.2.1, HT'.out.2.2.2, trivial⟩⟩, ?_, ?_, ?_, ?_⟩
          · exact blk_alloc (set6 HE'.out (.int .i64 10) (.int .i64 0) (.int .i64 0) (.string ⟨#[]⟩) (.string ⟨#[]⟩) (.slice (some ⟨wr.heap.size, 0, none⟩) 1 1))
          · have hn := heap_alloc_new ((((((wr.setCell ⟨gE, 0, none⟩ (.int .i64 10)).setCell ⟨gE, 1, none⟩ (.int .i64 0)).setCell ⟨gE, 2, none⟩ (.int .i64 0)).setCell ⟨gE, 3, none⟩ (.string ⟨#[]⟩)).setCell ⟨gE, 4, none⟩ (.string ⟨#[]⟩)).setCell ⟨gE, 5, none⟩ (.slice (some ⟨wr.heap.size, 0, none⟩) 1 1)) (.cells #[.int .i64 nd'.k, .int .i64 nd'.vk, .int .i64 nd'.vn, .string nd'.vt, .string nd'.nm, .slice a' k'.len c'] 35)
            rw [HSZ.out] at hn
            refine rowp_one (by omega) hn ?_
            refine HP'.out.over (by simp [World.setCell]) (fun _ h _ => h) (fun g o h hg => ?_)
            exact ((over_alloc 0 ((((((wr.setCell ⟨gE, 0, none⟩ (.int .i64 10)).setCell ⟨gE, 1, none⟩ (.int .i64 0)).setCell ⟨gE, 2, none⟩ (.int .i64 0)).setCell ⟨gE, 3, none⟩ (.string ⟨#[]⟩)).setCell ⟨gE, 4, none⟩ (.string ⟨#[]⟩)).setCell ⟨gE, 5, none⟩ (.slice (some ⟨wr.heap.size, 0, none⟩) 1 1)) _).2 g o (Nat.zero_le _) (by simp [World.setCell]; omega)).trans ((rowp_cell6 h.2 (.int .i64 10) (.int .i64 0) (.int .i64 0) (.string ⟨#[]⟩) (.string ⟨#[]⟩) (.slice (some ⟨wr.heap.size, 0, none⟩) 1 1)).trans rfl)
          · exact blk_alloc (blk_set6 HB'.out (by omega) _ _ _ _ _ _)
          · exact ((HD'.out.set6 hn₀ (R := gE) (by omega) (by omega) (.int .i64 10) (.int .i64 0) (.int .i64 0) (.string ⟨#[]⟩) (.string ⟨#[]⟩) (.slice (some ⟨wr.heap.size, 0, none⟩) 1 1)).alloc _)
        case measure => simp [intOf]; omega
      · have hii : ¬ ((i : Int) < 4) := by omega
        go_wp2
        obtain ⟨d0, d1, d2, d3, d4, d5⟩ := cells6 (set6 HB'.out (.int .i64 nd'.k) (.int .i64 nd'.vk) (.int .i64 nd'.vn) (.string nd'.vt) (.string nd'.nm) (.slice a' k'.len c'))
        refine bodyPost_ret (v := ndV nd' (.slice a' k'.len c')) (by simp [results, Tryz.results43, go_sem, d0, d1, d2, d3, d4, d5]) rfl ?_
        exact any_end rfl J.out hn₀ hne HT'.out HD'.out (by omega) (HP'.out.at (fun _ h => h.1))
  · have t0 : ((x : Int) == 0) = false := beq_eq_false_iff_ne.2 (by omega)
    have t1 : ((x : Int) == 1) = false := beq_eq_false_iff_ne.2 (by omega)
    have t2 : ((x : Int) == 2) = false := beq_eq_false_iff_ne.2 (by omega)
    have t3 : ((x : Int) == 3) = false := beq_eq_false_iff_ne.2 (by omega)
    clear x0 x1 x2 x3
    go_wp2
    obtain ⟨d0, d1, d2, d3, d4, d5⟩ := cells6 (set6 HB2.out (.int .i64 nd.k) (.int .i64 nd.vk) (.int .i64 nd.vn) (.string nd.vt) (.string nd.nm) (.slice av k.len cv))
    refine bodyPost_ret (v := ndV nd (.slice av k.len cv)) (by simp [results, Tryz.results43, go_sem, d0, d1, d2, d3, d4, d5]) rfl ?_
    exact any_end rfl J.out hn₀ hne HT.out HD2.out (by omega) (HP2.out.at (fun _ h => h.1))
end Go.Proofs.YtamkncfdfaejjaaGreatDoor

/- What DrawExprEval draws: an expression, and names with values. -/
namespace Go.Proofs.YtamkncfdfaejjaaGreatDoor
open Go.RowKit
set_option linter.unusedVariables false
set_option linter.unusedSimpArgs false
/-- one of the names that are drawn -/
def Nm5 (s : ByteArray) : Prop := s = ⟨#[105, 110]⟩ ∨ s = ⟨#[120]⟩ ∨ s = ⟨#[121]⟩ ∨ s = ⟨#[]⟩ ∨ s = ⟨#[57]⟩
def PrD (p : Pl.Pr) : Prop := Nm5 p.nm ∧ Sh p.v.t
theorem Nm5.sh {s : ByteArray} (h : Nm5 s) : Sh s := by
  rcases h with rfl | rfl | rfl | rfl | rfl <;> (show _ ≤ _; decide)
theorem infoPr : (Tryz.prog.info? 51).map (fun i => (i.zero, i.size, i.bytes)) = some (some (.agg #[.string ⟨#[]⟩, .int .i64 0, .int .i64 0, .string ⟨#[]⟩]), 4, 48) := by kernel_rfl
set_option maxRecDepth 100000 in
theorem run_app_pr {W : World} {base n : Nat} {A : List Value} (p : Pl.Pr) {v : Value} {ad : Addr} {c : Nat} (hv : W.ownsRow base 51 4 v n A) (hu : ∀ j u, (prL p)[j]? = some u → W.cell? (ad.add j) = some u) (hn : n + 1 ≤ 1048576) (hb : base ≤ W.heap.size) :
    ∃ v' w2, (Builtin.append_ #[37, 37] 37 #[v, .slice (some ad) 1 c]).run Tryz.prog W = .ok v' w2 ∧ w2.ownsRow base 51 4 v' (n + 1) (A ++ prL p) ∧ W.grownBy w2 v.ownBlock ∧ (v'.ownBlock = v.ownBlock ∨ v'.ownBlock = some W.heap.size) := by
  obtain ⟨i0, hi, hz0, hz1, hz2⟩ := info_parts infoPr
  obtain ⟨v', w2, hrun, hown, hgrow, _, hwhere⟩ := run_append_own_at (P := Tryz.prog) W base 37 37 51 i0 _ 4 48 Tryz.underlying37 hi hz0 hz1 hz2 rfl (by decide) v n A hv ad 1 c (prL p) rfl hu (fun u hu => by
    simp only [List.mem_cons, List.not_mem_nil, or_false] at hu
    rcases hu with rfl | rfl | rfl | rfl <;> rfl) (by unfold maxLen; omega) (by omega) hb
  exact ⟨v', w2, hrun, hown, hgrow, hwhere⟩
set_option maxRecDepth 100000 in
theorem step_app_pr {ops : Array Oper} {o : Oper} {a : Act} {W : World} {K : Act → World → Prop} {Q : Exit → Act → World → Prop} {E : Prop} (hg : o.guard = none) (s x : Operand)
    (hop : o.op = Op.call { callee := Callee.builtin Builtin.append, args := #[s, x], argTypes := #[37, 37] }) (hty : o.type = 37) (base : Nat) (n : Nat) (A : List Value) (p : Pl.Pr) (ad : Addr) (c : Nat)
    (hv : W.ownsRow base 51 4 (a.eval s) n A) (hx : a.eval x = .slice (some ad) 1 c) (hu : ∀ j u, (prL p)[j]? = some u → W.cell? (ad.add j) = some u) (hn : n + 1 ≤ 1048576) (hb : base ≤ W.heap.size)
    (hK : ∀ v' w2, w2.ownsRow base 51 4 v' (n + 1) (A ++ prL p) → W.grownBy w2 (a.eval s).ownBlock → (v'.ownBlock = (a.eval s).ownBlock ∨ v'.ownBlock = some W.heap.size) → K (a.put o.dst v') w2) :
    if Region.wanted o (yielded ops a.tmps) = true then Oper.wp Tryz.prog o a W K Q else E := by
  have hw : Region.wanted o (yielded ops a.tmps) = true := by simp [Region.wanted, hg]
  rw [if_pos hw]
  obtain ⟨v', w2, hrun, hown, hgrow, hwhere⟩ := run_app_pr (c := c) p hv hu hn hb
  rw [← hty] at hrun
  unfold Oper.wp
  simp [execOp, hop, resolve, invoke, builtin, hty, hty ▸ hrun, hx, Result.andThen]
  exact hK _ _ hown hgrow hwhere
set_option maxRecDepth 100000 in
theorem wp_app_pr {ops : Array Oper} {rest : List Oper} {o : Oper} {a : Act} {W : World} {Q : Exit → Act → World → Prop} (hgd : o.guard = none) (s x : Operand)
    (ho : o.op = .call { callee := .builtin .append, args := #[s, x], argTypes := #[37, 37] }) (hty : o.type = 37) (base n : Nat) (A : List Value) (p : Pl.Pr) (v : Value) (ad : Addr) (c : Nat) (hs : a.eval s = v) (hx : a.eval x = .slice (some ad) 1 c)
    (hv : W.ownsRow base 51 4 v n A) (hu : ∀ j u, (prL p)[j]? = some u → W.cell? (ad.add j) = some u) (hn : n + 1 ≤ 1048576) (hb : base ≤ W.heap.size)
    (h : ∀ v' w2, Hid (w2.ownsRow base 51 4 v' (n + 1) (A ++ prL p)) → Hid (W.grownBy w2 v.ownBlock) → Hid (v'.ownBlock = v.ownBlock ∨ v'.ownBlock = some W.heap.size) → wpList Tryz.prog ops Q rest (a.put o.dst v') w2) : wpList Tryz.prog ops Q (o :: rest) a W := by
  refine wpList_plain hgd fun K hK => ?_
  obtain ⟨v', w2, hrun, hown, hgrow, hwhere⟩ := run_app_pr (c := c) p hv hu hn hb
  unfold Oper.wp
  simp [execOp, ho, resolve, invoke, builtin, hs, hx, hty, hrun, Result.andThen]
  exact hK _ _ (h _ _ hown hgrow hwhere)
theorem Dw.ownO {n₀ br len p K base : Nat} {W W1 W2 : World} {r : Option Nat} (h : Dw n₀ br len p K W W1) (hn₀ : n₀ ≤ W.heap.size) (hg : W1.grownBy W2 r) (hr : ∀ k, r = some k → W.heap.size ≤ k ∧ k ≠ br) : Dw n₀ br len p K W W2 := by
  cases r with
  | none => exact h.own hn₀ (gb_weak hg (W.heap.size + br + 1)) (by omega) (by omega)
  | some k => exact h.own hn₀ hg (hr k rfl).1 (hr k rfl).2
/-- the names row, the block of the answer and the place of the code, as the draw goes on -/
structure DrE (n₀ br len B2 gN lo : Nat) (WO : World) (K : Nat) (l : List Pl.Pr) (v : Value) (wr : World) : Prop where
  nog : v.ownBlock ≠ some gN
  own : wr.ownsRow lo 51 4 v l.length (l.flatMap prL)
  nms : Among Nm5 3 gN 0 wr
  box : wr.heap[B2]? = some (.cells #[.int .i64 0, .int .i64 0, .int .i64 0, .string ⟨#[]⟩, .string ⟨#[]⟩, .slice none 0 0] 35 (0, 0))
  dw : Dw n₀ br len 0 K WO wr
  prd : ∀ p ∈ l, PrD p
theorem flat_pr : ∀ (l : List Pl.Pr) (i : Nat) (p : Pl.Pr), l[i]? = some p → ∀ j u, (prL p)[j]? = some u → (l.flatMap prL)[i * 4 + j]? = some u
  | [], i, p, h, _, _, _ => by simp at h
  | q :: l, 0, p, h, j, u, hu => by
    simp at h
    subst h
    rw [List.flatMap_cons, Nat.zero_mul, Nat.zero_add, List.getElem?_append_left]
    · exact hu
    · exact (List.getElem?_eq_some_iff.1 hu).1
  | q :: l, i + 1, p, h, j, u, hu => by
    rw [List.flatMap_cons, List.getElem?_append_right (by simp; omega)]
    have := flat_pr l i p (by simpa using h) j u hu
    rw [← this]
    congr 1
    simp
    omega
theorem pr_of_own {w : World} {lo : Nat} {l : List Pl.Pr} {v : Value} (h : w.ownsRow lo 51 4 v l.length (l.flatMap prL)) : PrRow w l v := by
  obtain ⟨a, c, rfl⟩ := ownsRow_form h
  obtain ⟨h1, h2⟩ := own_bound2 h
  refine ⟨a, c, rfl, h1, h2, fun h0 => ?_⟩
  obtain ⟨g, cap, hv, _, hg, hb, _, _, hc⟩ := own_at h h0
  cases hv
  refine ⟨g, 0, rfl, hg, fun i p hi => ?_⟩
  have hf := flat_pr l i p hi
  rw [Nat.zero_add]
  exact ⟨hc _ _ (hf 0 _ rfl), hc _ _ (hf 1 _ rfl), hc _ _ (hf 2 _ rfl), hc _ _ (hf 3 _ rfl)⟩
theorem PrRow.set {w : World} {l : List Pl.Pr} {v : Value} {lo : Nat} (h : w.ownsRow lo 51 4 v l.length (l.flatMap prL)) {b : Nat} (hb : b < lo) (i : Nat) (u : Value) : (w.setCell ⟨b, i, none⟩ u).ownsRow lo 51 4 v l.length (l.flatMap prL) :=
  ownsRow_setCell_below h hb u
theorem DrE.gb {n₀ br len B2 gN lo K K' : Nat} {WO wr w' : World} {l : List Pl.Pr} {v : Value} (h : DrE n₀ br len B2 gN lo WO K l v wr) (hD : Dw n₀ br len 0 K' WO w') (hg : wr.grownBy w' (some br)) (hl : br < lo) (hN : gN < wr.heap.size) (h1 : gN ≠ br) (h2 : B2 ≠ br) : DrE n₀ br len B2 gN lo WO K' l v w' :=
  ⟨h.nog, h.own.kept hg (.inr (by intro e; have := (h.own.lt br e).1; omega)), h.nms.gb hg hN h1, gb_blk hg h2 h.box, hD, h.prd⟩
theorem Vd.undrew {n₀ br len p K : Nat} {W X : World} {e : Ending} {W' : World} (h : Vd n₀ br len p K W X.drew e W') : Vd n₀ br len p K W X e W' := by
  obtain ⟨vk, vn, vt, h1, h2, h3, h4⟩ := h
  exact ⟨vk, vn, vt, h1, h2, h3, gb_undrew h4⟩
/-- one more pair -/
theorem DrE.more {n₀ br len B2 gN lo K : Nat} {WO wr w2 : World} {l : List Pl.Pr} {v v' : Value} {o : Obj} (h : DrE n₀ br len B2 gN lo WO K l v wr) (p : Pl.Pr) (hp : PrD p) (hw : w2.ownsRow lo 51 4 v' (l.length + 1) (l.flatMap prL ++ prL p)) (hg : (wr.alloc o).grownBy w2 v.ownBlock) (hb : v'.ownBlock = v.ownBlock ∨ v'.ownBlock = some (wr.alloc o).heap.size) (hN : gN < wr.heap.size) (hB : B2 < lo) (hn₀ : n₀ ≤ WO.heap.size) (hlo : br < lo) (hlo2 : lo = WO.heap.size) : DrE n₀ br len B2 gN lo WO K (l ++ [p]) v' w2 := by
  have hs : (wr.alloc o).heap.size = wr.heap.size + 1 := by simp
  have hNa : (wr.alloc o).heap[gN]? = wr.heap[gN]? := Below.heap_alloc _ _ _ hN
  refine ⟨?_, by simpa [List.flatMap_append] using hw, fun i hi => ?_, ?_, ?_, fun q hq => ?_⟩
  · rcases hb with e | e <;> rw [e]
    · exact h.nog
    · intro e2; injection e2 with e2; omega
  · obtain ⟨s, h1, h2⟩ := h.nms i hi
    refine ⟨s, ?_, h2⟩
    rw [← h1]
    exact World.cell?_of_block (w := wr) ((hg.block gN (by omega) (fun e => h.nog e.symm)).trans hNa)
  · refine (hg.block B2 ?_ ?_).trans (blk_alloc h.box)
    · have := (Array.getElem?_eq_some_iff.1 h.box).1; omega
    · intro e; have := (h.own.lt B2 e.symm).1; omega
  · exact (h.dw.alloc o).ownO (base := 0) hn₀ hg (fun k hk => by have := (h.own.lt k hk).1; omega)
  · rw [List.mem_append, List.mem_singleton] at hq
    rcases hq with hq | rfl
    · exact h.prd q hq
    · exact hp
set_option maxRecDepth 100000 in
set_option maxHeartbeats 3200000 in
theorem drawExprEval_any (len : Nat) (c : Value) (W : World) (hc : CodeOk W.heap.size W c len) (hl : len ≤ 1048576) :
    Calls Tryz.prog 18 #[c] W fun e W' => (∃ nd k v l vl, NdTx nd k ∧ (∀ p ∈ l, PrD p) ∧ l.length ≤ 4 ∧ e = .returned (.tuple #[ndV nd v, vl]) ∧ RowAt 0 W' k v ∧ PrRow W' l vl) ∧ Below W.heap.size W W' := by
  have hca : CodeOk W.heap.size (W.alloc (.cells #[.int .i64 0, .int .i64 0, .int .i64 0, .string ⟨#[]⟩, .string ⟨#[]⟩, .slice none 0 0] 35)) c len := hc.later ((Below.refl _ _).alloc (Nat.le_refl _) _)
  have ho := hide (open_code W.heap.size len c (W.alloc (.cells #[.int .i64 0, .int .i64 0, .int .i64 0, .string ⟨#[]⟩, .string ⟨#[]⟩, .slice none 0 0] 35)) (by simp) hca hl)
  obtain ⟨ad, cap, rfl, hlc, hcm, _⟩ := hc
  unfold maxLen at hcm
  clear hca
  go_enter Tryz.func18, Tryz.ntmps18
  go_wp2_with fail
  refine ho.out.mono ?_
  rintro e W1 ⟨br, l2, rfl, hR, hbr, hB⟩
  have hbr : W.heap.size + 1 ≤ br := by simpa using hbr
  have HB1 : Hid (W1.heap[W.heap.size]? = some (.cells #[.int .i64 0, .int .i64 0, .int .i64 0, .string ⟨#[]⟩, .string ⟨#[]⟩, .slice none 0 0] 35 (0, 0))) := (hB.block _ (by simp)).trans (heap_alloc_new W _)
  have HBL : Hid (Below W.heap.size W W1) := ((Below.refl _ _).alloc (Nat.le_refl _) _).trans (hB.mono (by simp))
  have HR := hide hR
  have hl1 := hR.lt
  clear hR hB ho
  go_wp2_with fail
  have H0 : Hid (DrE W.heap.size br l2 W.heap.size (W1.heap.size + 1) W1.heap.size W1 0 [] (.slice (some ⟨W1.heap.size, 0, none⟩) 0 0) ((W1.alloc (.cells #[] 51)).alloc (.cells #[.string ⟨#[105, 110]⟩, .string ⟨#[120]⟩, .string ⟨#[121]⟩] 9))) := by
    refine ⟨?_, ⟨rfl, .inr ⟨W1.heap.size, 0, #[], rfl, Nat.le_refl _, blk_alloc (heap_alloc_new W1 _), Nat.le_refl _, by unfold maxLen; omega, rfl, rfl⟩⟩, ?_, blk_alloc (blk_alloc HB1.out), ((Dw.start HR.out).alloc _).alloc _, fun _ h => by cases h⟩
    · intro e
      injection e with e
      simp at e
    · have := among_lit (P := Nm5) (W := W1.alloc (.cells #[] 51)) (n := 3) (C := #[.string ⟨#[105, 110]⟩, .string ⟨#[120]⟩, .string ⟨#[121]⟩]) (t := 9) (fun i hi => by
        have : i = 0 ∨ i = 1 ∨ i = 2 := by omega
        rcases this with rfl | rfl | rfl
        · exact ⟨_, rfl, .inl rfl⟩
        · exact ⟨_, rfl, .inr (.inl rfl)⟩
        · exact ⟨_, rfl, .inr (.inr (.inl rfl))⟩)
      simpa using this
  have hn1 : W.heap.size ≤ W1.heap.size := by omega
  go_loopw [5, 7] (fun ov iv wr => ∃ (i : Nat) (l : List Pl.Pr), i ≤ 3 ∧ iv = .int .i64 i ∧ l.length ≤ i ∧ W1.heap.size + 1 < wr.heap.size ∧ Hid (DrE W.heap.size br l2 W.heap.size (W1.heap.size + 1) W1.heap.size W1 (3 * i) l ov wr)) (fun _ iv _ => 3 - (intOf iv).toNat)
  case atStart => exact ⟨0, [], by omega, rfl, by simp, by simp, H0⟩
  case round =>
    obtain ⟨i, l, hi, rfl, hli, hNs, HD⟩ := hrel
    by_cases hi3 : i < 3
    · have hii : (i : Int) < 3 := by omega
      go_wp2_with fail
      refine (pick_d HD.out.dw 5 (by omega) (by omega) (by omega)).mono ?_
      rintro e w2 ⟨x, hx, rfl, hD2, hg2⟩
      have HD2 := hide (HD.out.gb hD2 hg2 hl1 hNs (by omega) (by omega))
      have hNs2 : W1.heap.size + 1 < w2.heap.size := by have := hg2.size; omega
      clear hD2 hg2 HD
      by_cases x0 : x = 0
      · subst x0
        go_wp2
        go_roundw
        case rel => exact ⟨i + 1, l, by omega, by go_num, by omega, hNs2, ⟨HD2.out.nog, HD2.out.own, HD2.out.nms, HD2.out.box, HD2.out.dw.mono (by omega), HD2.out.prd⟩⟩
        case measure => simp [intOf]; omega
      · have hx0 : (0 : Int) < (x : Int) := by omega
        obtain ⟨av, cv, hav⟩ := ownsRow_form HD2.out.own
        subst hav
        obtain ⟨s, hs0, hs⟩ := HD2.out.nms i hi3
        rw [Nat.zero_add] at hs0
        have HSS := hide hs
        clear hs
        have hVX := hide ((l12Value_d (Dw.drew HD2.out.dw) (by omega)).mono fun _ _ h => Vd.undrew h)
        go_wp2_with fail
        go_region_law (first
          | (go_simp
             go_at_call 40
             refine hVX.out.mono ?_
             rintro e W4 ⟨vk, vn, vt, hvt, rfl, hD4, hg4⟩
             have HVT := hide hvt
             have HD4 := hide (HD2.out.gb hD4 hg4 hl1 hNs2 (by omega) (by omega))
             have hs4 : W4.cell? ⟨W1.heap.size + 1, i, none⟩ = some (.string s) := (gb_cell hg4 hNs2 (by omega) i).trans hs0
             have hNs4 : W1.heap.size + 1 < W4.heap.size := (by have := hg4.size; omega)
             clear hvt hD4 hg4)
          | (refine step_app_pr rfl (.tmp 19) (.tmp 27) rfl rfl W1.heap.size l.length (l.flatMap prL) ⟨s, ⟨vk, vn, vt⟩⟩ ⟨W4.heap.size, 0, none⟩ 1 ?_ ?_ (cells_one W4 (prL ⟨s, ⟨vk, vn, vt⟩⟩) 51) ?_ ?_ ?_
             · simpa [Act.eval, Act.put] using ownsRow_later HD4.out.own ((Below.refl _ W4).alloc (Nat.le_refl _) _)
             · simp [Act.eval, Act.put]
             · omega
             · (simp; omega)
             intro v' w3 hv3 hg3 hb3
             have hg3' : (W4.alloc (.cells #[.string s, .int .i64 vk, .int .i64 vn, .string vt] 51)).grownBy w3 (Value.slice av l.length cv).ownBlock := (by simpa [Act.eval, Act.put, Value.ownBlock] using hg3)
             have hb3' : v'.ownBlock = (Value.slice av l.length cv).ownBlock ∨ v'.ownBlock = some (W4.alloc (.cells #[.string s, .int .i64 vk, .int .i64 vn, .string vt] 51)).heap.size := (by simpa [Act.eval, Act.put, Value.ownBlock] using hb3)
             have HN3 := hide (HD4.out.more ⟨s, ⟨vk, vn, vt⟩⟩ ⟨HSS.out, HVT.out⟩ hv3 hg3' hb3' hNs4 (by omega) hn1 hl1 rfl)
             have hNs3 : W1.heap.size + 1 < w3.heap.size := (by have := hg3'.size; simp at this; omega)
             clear hv3 hg3 hb3 hg3' hb3'))
        all_goals
          go_wp2
          go_roundw
          case rel => exact ⟨i + 1, l ++ [⟨s, ⟨vk, vn, vt⟩⟩], by omega, by go_num, by simp; omega, hNs3, ⟨HN3.out.nog, HN3.out.own, HN3.out.nms, HN3.out.box, HN3.out.dw.mono (by omega), HN3.out.prd⟩⟩
          case measure => simp [intOf]; omega
    · have hii : ¬ ((i : Int) < 3) := by omega
      go_wp2_with fail
      refine (pick_d HD.out.dw 20 (by omega) (by omega) (by omega)).mono ?_
      rintro e w5 ⟨x, hx, rfl, hD5, hg5⟩
      have HD5 := hide (HD.out.gb hD5 hg5 hl1 hNs (by omega) (by omega))
      have hNs5 : W1.heap.size + 1 < w5.heap.size := by have := hg5.size; omega
      clear hD5 hg5 HD
      obtain ⟨av, cv, hav⟩ := ownsRow_form HD5.out.own
      subst hav
      by_cases x0 : x = 0
      · subst x0
        go_wp2_with fail
        refine (of_d (HD5.out.dw.alloc (.cells #[.string ⟨#[105, 110]⟩, .string ⟨#[]⟩, .string ⟨#[57]⟩] 9)) Nm5 3 w5.heap.size 0 3 (by omega) (by omega) (by omega) (by have := HD5.out.dw.lt; omega) (among_lit ?_)).mono ?_
        · intro j hj
          have : j = 0 ∨ j = 1 ∨ j = 2 := by omega
          rcases this with rfl | rfl | rfl
          · exact ⟨_, rfl, .inl rfl⟩
          · exact ⟨_, rfl, .inr (.inr (.inr (.inl rfl)))⟩
          · exact ⟨_, rfl, .inr (.inr (.inr (.inr rfl)))⟩
        rintro e w6 ⟨s, hs, rfl, hD6, hg6⟩
        have hg6' := gb_trans (gb_alloc w5 (.cells #[.string ⟨#[105, 110]⟩, .string ⟨#[]⟩, .string ⟨#[57]⟩] 9) (some br)) hg6
        have HD6 := hide (HD5.out.gb hD6 hg6' hl1 hNs5 (by omega) (by omega))
        have hNs6 : W1.heap.size + 1 < w6.heap.size := by have := hg6'.size; omega
        have HSS := hide hs
        clear hD6 hg6 hg6' hs HD5
        go_wp2_with fail
        refine (l12AnyValue_d HD6.out.dw (by omega)).mono ?_
        rintro e w7 ⟨vk, vn, vt, hvt, rfl, hD7, hg7⟩
        have HD7 := hide (HD6.out.gb hD7 hg7 hl1 hNs6 (by omega) (by omega))
        have hNs7 : W1.heap.size + 1 < w7.heap.size := by have := hg7.size; omega
        have HVT := hide hvt
        clear hD7 hg7 hvt HD6
        have HOW := hide (ownsRow_later HD7.out.own ((Below.refl _ w7).alloc (Nat.le_refl _) (.cells #[.string s, .int .i64 vk, .int .i64 vn, .string vt] 51)))
        have HUU : Hid (∀ j u, (prL ⟨s, ⟨vk, vn, vt⟩⟩)[j]? = some u → (w7.alloc (.cells #[.string s, .int .i64 vk, .int .i64 vn, .string vt] 51)).cell? ((⟨w7.heap.size, 0, none⟩ : Addr).add j) = some u) := cells_one w7 (prL ⟨s, ⟨vk, vn, vt⟩⟩) 51
        have HAN : Hid (l.length + 1 ≤ 1048576) := by show _ ≤ _; omega
        have HBS : Hid (W1.heap.size ≤ (w7.alloc (.cells #[.string s, .int .i64 vk, .int .i64 vn, .string vt] 51)).heap.size) := by
          show _ ≤ _
          simp; omega
        go_wp2_with (first
          | (with_reducible show wpList _ _ _ (Oper.mk _ (Op.call (Call.mk (.builtin .append) _ _)) _ _ _ _ :: _) _ _; refine wp_app_pr rfl (.tmp 32) (.tmp 39) rfl rfl W1.heap.size l.length (l.flatMap prL) ⟨s, ⟨vk, vn, vt⟩⟩ (.slice av l.length cv) ⟨w7.heap.size, 0, none⟩ 1 rfl rfl HOW.out HUU.out HAN.out HBS.out ?_; intro v' w8 hv8 hg8 hb8))
        have HN8 := hide (HD7.out.more ⟨s, ⟨vk, vn, vt⟩⟩ ⟨HSS.out, HVT.out⟩ hv8.out hg8.out hb8.out hNs7 (by omega) hn1 hl1 rfl)
        have hNs8 : W1.heap.size + 1 < w8.heap.size := by have := hg8.out.size; simp at this; omega
        obtain ⟨av8, cv8, hav8⟩ := ownsRow_form hv8.out
        subst hav8
        clear hv8 hg8 hb8 HOW HUU HAN HBS HD7
        refine (l12AnyExpr_d HN8.out.dw (by omega)).mono ?_
        rintro e w9 ⟨nd, k, v, ht, rfl, hr, hD9, hg9⟩
        have HD9 := hide (HN8.out.gb hD9 hg9 hl1 hNs8 (by omega) (by omega))
        have HX9 := hide hr
        have hbz : W.heap.size < w8.heap.size := by omega
        have h9b : W.heap.size < w9.heap.size := (Array.getElem?_eq_some_iff.1 HD9.out.box).1
        obtain ⟨ak, ck, hv, _, _, _⟩ := hr
        subst hv
        clear hD9 hg9
        obtain ⟨c0, c1, c2, c3, c4, c5⟩ := cells6 HD9.out.box
        obtain ⟨f0, f1, f2, f3, f4, f5⟩ := free6 HD9.out.box
        go_wp2
        obtain ⟨d0, d1, d2, d3, d4, d5⟩ := cells6 (set6 HD9.out.box (.int .i64 nd.k) (.int .i64 nd.vk) (.int .i64 nd.vn) (.string nd.vt) (.string nd.nm) (.slice ak k.len ck))
        refine bodyPost_ret (v := .tuple #[ndV nd (.slice ak k.len ck), (.slice av8 (l.length + 1) cv8)]) (by simp [results, Tryz.results18, go_sem, d0, d1, d2, d3, d4, d5]) rfl ?_
        refine ⟨⟨nd, k, _, l ++ [⟨s, ⟨vk, vn, vt⟩⟩], _, ht, HD9.out.prd, by simp; omega, rfl, (HX9.out.over (over_set6 w9 hbz _ _ _ _ _ _)).low (Nat.zero_le _), pr_of_own (PrRow.set (PrRow.set (PrRow.set (PrRow.set (PrRow.set (PrRow.set HD9.out.own (by omega) 0 _) (by omega) 1 _) (by omega) 2 _) (by omega) 3 _) (by omega) 4 _) (by omega) 5 _)⟩, ?_⟩
        have hb9 := HBL.out.trans (gb_to HD9.out.dw.gb (by omega) (by omega))
        exact (((((hb9.setCell (p := ⟨W.heap.size, 0, none⟩) (Nat.le_refl _) _).setCell (p := ⟨W.heap.size, 1, none⟩) (Nat.le_refl _) _).setCell (p := ⟨W.heap.size, 2, none⟩) (Nat.le_refl _) _).setCell (p := ⟨W.heap.size, 3, none⟩) (Nat.le_refl _) _).setCell (p := ⟨W.heap.size, 4, none⟩) (Nat.le_refl _) _).setCell (p := ⟨W.heap.size, 5, none⟩) (Nat.le_refl _) _
      · have hx0 : ((x : Int) == 0) = false := beq_eq_false_iff_ne.2 (by omega)
        go_wp2_with fail
        refine (l12AnyExpr_d HD5.out.dw (by omega)).mono ?_
        rintro e w7 ⟨nd, k, v, ht, rfl, hr, hD7, hg7⟩
        have HD7 := hide (HD5.out.gb hD7 hg7 hl1 hNs5 (by omega) (by omega))
        have HX7 := hide hr
        have hbz : W.heap.size < w5.heap.size := by omega
        have h7b : W.heap.size < w7.heap.size := (Array.getElem?_eq_some_iff.1 HD7.out.box).1
        obtain ⟨ak, ck, hv, _, _, _⟩ := hr
        subst hv
        clear hD7 hg7
        obtain ⟨c0, c1, c2, c3, c4, c5⟩ := cells6 HD7.out.box
        obtain ⟨f0, f1, f2, f3, f4, f5⟩ := free6 HD7.out.box
        go_wp2
        obtain ⟨d0, d1, d2, d3, d4, d5⟩ := cells6 (set6 HD7.out.box (.int .i64 nd.k) (.int .i64 nd.vk) (.int .i64 nd.vn) (.string nd.vt) (.string nd.nm) (.slice ak k.len ck))
        refine bodyPost_ret (v := .tuple #[ndV nd (.slice ak k.len ck), (.slice av l.length cv)]) (by simp [results, Tryz.results18, go_sem, d0, d1, d2, d3, d4, d5]) rfl ?_
        refine ⟨⟨nd, k, _, _, _, ht, HD7.out.prd, by omega, rfl, (HX7.out.over (over_set6 w7 hbz _ _ _ _ _ _)).low (Nat.zero_le _), pr_of_own (PrRow.set (PrRow.set (PrRow.set (PrRow.set (PrRow.set (PrRow.set HD7.out.own (by omega) 0 _) (by omega) 1 _) (by omega) 2 _) (by omega) 3 _) (by omega) 4 _) (by omega) 5 _)⟩, ?_⟩
        have hb7 := HBL.out.trans (gb_to HD7.out.dw.gb (by omega) (by omega))
        exact (((((hb7.setCell (p := ⟨W.heap.size, 0, none⟩) (Nat.le_refl _) _).setCell (p := ⟨W.heap.size, 1, none⟩) (Nat.le_refl _) _).setCell (p := ⟨W.heap.size, 2, none⟩) (Nat.le_refl _) _).setCell (p := ⟨W.heap.size, 3, none⟩) (Nat.le_refl _) _).setCell (p := ⟨W.heap.size, 4, none⟩) (Nat.le_refl _) _).setCell (p := ⟨W.heap.size, 5, none⟩) (Nat.le_refl _) _
end Go.Proofs.YtamkncfdfaejjaaGreatDoor

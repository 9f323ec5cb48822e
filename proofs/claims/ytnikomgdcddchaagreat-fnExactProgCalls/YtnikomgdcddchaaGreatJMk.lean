/- Joined: PSk PTo PEq PPr Mark MarkX MarkS. -/
import Derived.Test.YtnikomgdcddchaaGreatPTree
import Derived.Test.YtnikomgdcddchaaGreatSk
import Derived.Test.YtnikomgdcddchaaGreatPSz
import Derived.Test.YtnikomgdcddchaaGreatTo
import Derived.Test.YtnikomgdcddchaaGreatEqX
import Derived.Test.YtnikomgdcddchaaGreatPlD
import Derived.Test.YtnikomgdcddchaaGreatOwn
/- Where the parts of a program's copy lie: each step's in a range of blocks of its own. -/
namespace Go.Proofs.YtnikomgdcddchaaGreat
open Go.RowKit
set_option linter.unusedVariables false

/-- where the parts of the steps lie, those of each in a range of blocks of its own -/
def PSkAt (w : World) : Ps → Nat → Nat → Nat → Nat → Prop
  | .nil, _, _, lo, hi => lo ≤ hi
  | .cons sn b e r, g, i, lo, hi => ∃ C m1 m2 m3 ve, w.heap[g]? = some (.cells C 47 (0, 0)) ∧ i * 11 + 11 ≤ C.size ∧ C[i * 11 + 8]? = some ve ∧ SkRow lo m1 w sn.ek ve ∧ lo ≤ m1 ∧
      (∃ ad cap, C[i * 11 + 9]? = some (.slice ad b.len cap) ∧ b.len ≤ cap ∧ cap ≤ maxLen ∧ m1 ≤ m2 ∧ (0 < b.len → ∃ g', ad = some ⟨g', 0, none⟩ ∧ m1 ≤ g' ∧ g' < m2 ∧ PSkAt w b g' 0 (g' + 1) m2)) ∧
      (∃ ad cap, C[i * 11 + 10]? = some (.slice ad e.len cap) ∧ e.len ≤ cap ∧ cap ≤ maxLen ∧ m2 ≤ m3 ∧ (0 < e.len → ∃ g', ad = some ⟨g', 0, none⟩ ∧ m2 ≤ g' ∧ g' < m3 ∧ PSkAt w e g' 0 (g' + 1) m3)) ∧ PSkAt w r g (i + 1) m3 hi
def PSkRow (lo hi : Nat) (w : World) (F : Ps) (v : Value) : Prop :=
  ∃ ad cap, v = .slice ad F.len cap ∧ F.len ≤ cap ∧ cap ≤ maxLen ∧ lo ≤ hi ∧ (0 < F.len → ∃ g, ad = some ⟨g, 0, none⟩ ∧ lo ≤ g ∧ g < hi ∧ PSkAt w F g 0 (g + 1) hi)
/-- one step's parts -/
def StSk (w : World) (g i lo hi : Nat) (sn : Sn) (b e : Ps) : Prop :=
  ∃ C m1 m2 ve vb vl, w.heap[g]? = some (.cells C 47 (0, 0)) ∧ i * 11 + 11 ≤ C.size ∧ C[i * 11 + 8]? = some ve ∧ C[i * 11 + 9]? = some vb ∧ C[i * 11 + 10]? = some vl ∧ lo ≤ m1 ∧ SkRow lo m1 w sn.ek ve ∧ PSkRow m1 m2 w b vb ∧ PSkRow m2 hi w e vl
theorem PSkRow.le {lo hi : Nat} {w : World} {F : Ps} {v : Value} (h : PSkRow lo hi w F v) : lo ≤ hi := by
  obtain ⟨_, _, _, _, _, h, _⟩ := h
  exact h
theorem StSk.le {w : World} {g i lo hi : Nat} {sn : Sn} {b e : Ps} (h : StSk w g i lo hi sn b e) : lo ≤ hi := by
  obtain ⟨C, m1, m2, ve, vb, vl, _, _, _, _, _, h1, _, h2, h3⟩ := h
  have := h2.le; have := h3.le; omega
theorem PSkAt.mk {w : World} {sn : Sn} {b e r : Ps} {g i lo m hi : Nat} (h : StSk w g i lo m sn b e) (hr : PSkAt w r g (i + 1) m hi) : PSkAt w (.cons sn b e r) g i lo hi := by
  obtain ⟨C, m1, m2, ve, vb, vl, h1, h2, h3, h4, h5, h6, h7, ⟨ad, cap, rfl, q1, q2, q3, q4⟩, ⟨ad', cap', rfl, z1, z2, z3, z4⟩⟩ := h
  exact ⟨C, m1, m2, m, ve, h1, h2, h3, h7, h6, ⟨ad, cap, h4, q1, q2, q3, q4⟩, ⟨ad', cap', h5, z1, z2, z3, z4⟩, hr⟩
theorem PSkAt.head {w : World} {sn : Sn} {b e r : Ps} {g i lo hi : Nat} (h : PSkAt w (.cons sn b e r) g i lo hi) : ∃ m, StSk w g i lo m sn b e ∧ PSkAt w r g (i + 1) m hi := by
  obtain ⟨C, m1, m2, m3, ve, h1, h2, h3, h7, h6, ⟨ad, cap, h4, q1, q2, q3, q4⟩, ⟨ad', cap', h5, z1, z2, z3, z4⟩, hr⟩ := h
  exact ⟨m3, ⟨C, m1, m2, ve, _, _, h1, h2, h3, h4, h5, h6, h7, ⟨ad, cap, rfl, q1, q2, q3, q4⟩, ⟨ad', cap', rfl, z1, z2, z3, z4⟩⟩, hr⟩
theorem PSkAt.le {w : World} : ∀ {F : Ps} {g i lo hi : Nat}, PSkAt w F g i lo hi → lo ≤ hi
  | .nil, g, i, lo, hi, h => h
  | .cons sn b e r, g, i, lo, hi, h => by
    obtain ⟨m, h1, h2⟩ := h.head
    have := h1.le; have := PSkAt.le h2; omega
theorem PSkAt.of_get {w : World} : ∀ {F : Ps} {g i hi : Nat} (bnd : Nat → Nat) (h : ∀ j sn b e, F.get j = some (sn, b, e) → StSk w g (i + j) (bnd j) (bnd (j + 1)) sn b e) (hl : bnd F.len ≤ hi), PSkAt w F g i (bnd 0) hi
  | .nil, g, i, hi, bnd, h, hl => hl
  | .cons sn b e r, g, i, hi, bnd, h, hl => by
    refine PSkAt.mk (m := bnd 1) (h 0 sn b e rfl) ?_
    refine PSkAt.of_get (F := r) (fun j => bnd (j + 1)) (fun j sn' b' e' hk => ?_) hl
    have := h (j + 1) sn' b' e' hk
    rwa [show i + (j + 1) = i + 1 + j by omega] at this
theorem PSkAt.over {w w' : World} : ∀ {F : Ps} {g i lo hi hi' : Nat} (h : PSkAt w F g i lo hi) (hg : w'.heap[g]? = w.heap[g]?) (hO : ∀ x, lo ≤ x → x < hi → w'.heap[x]? = w.heap[x]?) (hh : hi ≤ hi'), PSkAt w' F g i lo hi'
  | .nil, g, i, lo, hi, hi', h, hg, hO, hh => Nat.le_trans h hh
  | .cons sn b e r, g, i, lo, hi, hi', h, hg, hO, hh => by
    obtain ⟨C, m1, m2, m3, ve, h1, h2, h3, h7, h6, ⟨ad, cap, h4, q1, q2, q3, q4⟩, ⟨ad', cap', h5, z1, z2, z3, z4⟩, hr⟩ := h
    have hm := PSkAt.le hr
    refine ⟨C, m1, m2, m3, ve, hg.trans h1, h2, h3, h7.over (fun x a b => hO x a (by omega)) (Nat.le_refl _), h6, ⟨ad, cap, h4, q1, q2, q3, fun hp => ?_⟩, ⟨ad', cap', h5, z1, z2, z3, fun hp => ?_⟩, PSkAt.over hr hg (fun x a b => hO x (by omega) b) hh⟩
    · obtain ⟨g', ha, hl, hu, hs⟩ := q4 hp
      exact ⟨g', ha, hl, hu, PSkAt.over hs (hO g' (by omega) (by omega)) (fun x a b => hO x (by omega) (by omega)) (Nat.le_refl _)⟩
    · obtain ⟨g', ha, hl, hu, hs⟩ := z4 hp
      exact ⟨g', ha, hl, hu, PSkAt.over hs (hO g' (by omega) (by omega)) (fun x a b => hO x (by omega) (by omega)) (Nat.le_refl _)⟩
theorem PSkRow.over {lo hi hi' : Nat} {w w' : World} {F : Ps} {v : Value} (h : PSkRow lo hi w F v) (hO : ∀ x, lo ≤ x → x < hi → w'.heap[x]? = w.heap[x]?) (hh : hi ≤ hi') : PSkRow lo hi' w' F v := by
  obtain ⟨ad, cap, hv, h1, h2, h3, h4⟩ := h
  refine ⟨ad, cap, hv, h1, h2, by omega, fun hp => ?_⟩
  obtain ⟨g, ha, hl, hu, hs⟩ := h4 hp
  exact ⟨g, ha, hl, by omega, hs.over (hO g hl hu) (fun x a b => hO x (by omega) b) hh⟩
theorem PSkRow.low {lo lo' hi : Nat} {w : World} {F : Ps} {v : Value} (h : PSkRow lo hi w F v) (hlo : lo' ≤ lo) : PSkRow lo' hi w F v := by
  obtain ⟨ad, cap, hv, h1, h2, h3, h4⟩ := h
  refine ⟨ad, cap, hv, h1, h2, by omega, fun hp => ?_⟩
  obtain ⟨g, ha, hl, hu, hs⟩ := h4 hp
  exact ⟨g, ha, by omega, hu, hs⟩
theorem PSkRow.later {lo hi : Nat} {w w' : World} {F : Ps} {v : Value} (h : PSkRow lo hi w F v) (hb : Below w.heap.size w w') (hh : hi ≤ w.heap.size) : PSkRow lo hi w' F v :=
  h.over (fun g _ hg => hb.block g (by omega)) (Nat.le_refl _)
/-- nothing changes below lo, nor from hi on -/
def Kpt (lo hi : Nat) (w w' : World) : Prop := Below lo w w' ∧ ∀ g, hi ≤ g → g < w.heap.size → w'.heap[g]? = w.heap[g]?
theorem Kpt.refl (lo hi : Nat) (w : World) : Kpt lo hi w w := ⟨Below.refl _ _, fun _ _ _ => rfl⟩
theorem Kpt.trans {lo hi : Nat} {a b c : World} (h1 : Kpt lo hi a b) (h2 : Kpt lo hi b c) : Kpt lo hi a c :=
  ⟨h1.1.trans h2.1, fun g hg hl => (h2.2 g hg (by have := h1.1.size; omega)).trans (h1.2 g hg hl)⟩
theorem kpt_of_below {lo hi : Nat} {a b : World} (hb : Below a.heap.size a b) (hh : hi ≤ a.heap.size) (hl : lo ≤ hi) : Kpt lo hi a b := ⟨hb.mono (by omega), fun g _ hg => hb.block g hg⟩
theorem kpt_set {lo hi : Nat} {w : World} {g o : Nat} (hl : lo ≤ g) (hh : g < hi) (u : Value) : Kpt lo hi w (w.setCell ⟨g, o, none⟩ u) :=
  ⟨(Below.refl _ _).setCell (by exact hl) _, fun g' hg' _ => Below.heap_setCell _ _ _ _ (by show g' ≠ g; omega)⟩
theorem Kpt.wide {lo hi lo' hi' : Nat} {a b : World} (h : Kpt lo hi a b) (h1 : lo' ≤ lo) (h2 : hi ≤ hi') : Kpt lo' hi' a b := ⟨h.1.mono h1, fun g hg hl => h.2 g (by omega) hl⟩
end Go.Proofs.YtnikomgdcddchaaGreat

/- Steps copied, as the laws copy them. -/
namespace Go.Proofs.YtnikomgdcddchaaGreat
open Go.RowKit
set_option linter.unusedVariables false

def PToPost (F : Ps) (w : World) (e : Ending) (w' : World) : Prop := ∃ v, e = .returned v ∧ PRow w.heap.size w' F v ∧ Below w.heap.size w w'
def PToPostK (F : Ps) (w : World) (e : Ending) (w' : World) : Prop := ∃ v, e = .returned v ∧ PRow w.heap.size w' F v ∧ PSkRow w.heap.size w'.heap.size w' F v ∧ Below w.heap.size w w'
def PToP (F : Ps) : Prop := ∀ (v : Value) (w : World), F.len ≤ 1048576 → F.Sm → PRow 0 w F v → Calls Tryz.prog 22 #[v] w (PToPostK F w)
def StPost (sn : Sn) (b l : Ps) (w : World) (e : Ending) (w' : World) : Prop := ∃ ve vb vl, e = .returned (snV sn ve vb vl) ∧ RowAt w.heap.size w' sn.ek ve ∧ PRow w.heap.size w' b vb ∧ PRow w.heap.size w' l vl ∧ (∃ m1 m2, w.heap.size ≤ m1 ∧ SkRow w.heap.size m1 w' sn.ek ve ∧ PSkRow m1 m2 w' b vb ∧ PSkRow m2 w'.heap.size w' l vl) ∧ Below w.heap.size w w'

theorem list11 {α : Type} (l : List α) (h : l.length = 11) : ∃ a b c d e f g h' i j k, l = [a, b, c, d, e, f, g, h', i, j, k] := by
  match l, h with
  | [a, b, c, d, e, f, g, h', i, j, k], _ => exact ⟨a, b, c, d, e, f, g, h', i, j, k, rfl⟩
/-- all eleven cells of a block written -/
theorem set11 {w : World} {b : Nat} {C : Array Value} {T : TypeId} (h : w.heap[b]? = some (.cells C T (0, 0))) (hs : C.size = 11) (u0 u1 u2 u3 u4 u5 u6 u7 u8 u9 u10 : Value) :
    (((((((((((w.setCell ⟨b, 0, none⟩ (u0)).setCell ⟨b, 1, none⟩ (u1)).setCell ⟨b, 2, none⟩ (u2)).setCell ⟨b, 3, none⟩ (u3)).setCell ⟨b, 4, none⟩ (u4)).setCell ⟨b, 5, none⟩ (u5)).setCell ⟨b, 6, none⟩ (u6)).setCell ⟨b, 7, none⟩ (u7)).setCell ⟨b, 8, none⟩ (u8)).setCell ⟨b, 9, none⟩ (u9)).setCell ⟨b, 10, none⟩ (u10)).heap[b]? = some (.cells #[u0, u1, u2, u3, u4, u5, u6, u7, u8, u9, u10] T (0, 0)) := by
  obtain ⟨l⟩ := C
  obtain ⟨c0, c1, c2, c3, c4, c5, c6, c7, c8, c9, c10, rfl⟩ := list11 l (by simpa using hs)
  have s0 := block_set h 0 u0
  have s1 := block_set s0 1 u1
  have s2 := block_set s1 2 u2
  have s3 := block_set s2 3 u3
  have s4 := block_set s3 4 u4
  have s5 := block_set s4 5 u5
  have s6 := block_set s5 6 u6
  have s7 := block_set s6 7 u7
  have s8 := block_set s7 8 u8
  have s9 := block_set s8 9 u9
  have s10 := block_set s9 10 u10
  rw [s10]
  simp

set_option maxHeartbeats 3200000 in
theorem toStep_of (sn : Sn) (b l : Ps) (hkb : PToP b) (hkl : PToP l) (he1 : sn.ek.len ≤ 1048576) (he2 : sn.ek.Sm) (hb1 : b.len ≤ 1048576) (hb2 : b.Sm) (hl1 : l.len ≤ 1048576) (hl2 : l.Sm) (ve vb vl : Value) (w : World) (hre : RowAt 0 w sn.ek ve) (hrb : PRow 0 w b vb) (hrl : PRow 0 w l vl) :
    Calls Tryz.prog 43 #[snV sn ve vb vl] w (StPost sn b l w) := by
  have hqe : Hid (∀ W, Below w.heap.size w W → Calls Tryz.prog 64 #[ndV sn.ex ve] W (NdPost sn.ex sn.ek W)) := fun W hW => toExpr_of sn.ex sn.ek (toExprS_any _) he1 he2 ve W (hre.later hW)
  have hqb : Hid (∀ W, Below w.heap.size w W → Calls Tryz.prog 22 #[vb] W (PToPostK b W)) := fun W hW => hkb vb W hb1 hb2 (hrb.later hW)
  have hql : Hid (∀ W, Below w.heap.size w W → Calls Tryz.prog 22 #[vl] W (PToPostK l W)) := fun W hW => hkl vl W hl1 hl2 (hrl.later hW)
  obtain ⟨k, nm, wh, ⟨xk, xvk, xvn, xvt, xnm⟩, ek⟩ := sn
  simp only at hqe hqb hql
  obtain ⟨vea, vec, hve, _, _, _⟩ := hre
  obtain ⟨vba, vbc, hvb, _, _, _⟩ := hrb
  obtain ⟨vla, vlc, hvl, _, _, _⟩ := hrl
  clear hkb hkl he1 he2 hb1 hb2 hl1 hl2
  simp only at hve
  have HVS := hide (And.intro hve (And.intro hvb hvl))
  clear hve hvb hvl
  go_enter Tryz.func43, Tryz.ntmps43
  go_wp2_with fail
  refine (hqe.out _ ((((Below.refl _ _).alloc (Nat.le_refl _) _).alloc (by simp) _).alloc (by simp; omega) _)).mono ?_
  rintro e w1 ⟨v1, rfl, hr1, hsk1, hB1⟩
  have HSK1 : Hid (SkRow (w.heap.size + 1 + 1 + 1) w1.heap.size w1 ek v1) := hsk1.low (by simp)
  clear hsk1
  obtain ⟨b0, b1, b2, hsz, HB⟩ := boxes3 hB1
  have HR1 : Hid (RowAt (w.heap.size + 1 + 1 + 1) w1 ek v1) := hr1.low (by simp)
  obtain ⟨ade', cape', rfl, _, _, _⟩ := hr1
  clear hB1 hqe
  generalize ek.len = el at *
  have a9 := cell_of_block b0 9
  have a10 := cell_of_block b0 10
  simp only [List.getElem?_toArray, List.getElem?_cons_zero, List.getElem?_cons_succ] at a9 a10
  have o3 := cell_of_block b2 3
  have f3 := free_of_block b2 3
  have o4 := cell_of_block b2 4
  have f4 := free_of_block b2 4
  have o5 := cell_of_block b2 5
  have f5 := free_of_block b2 5
  have o6 := cell_of_block b2 6
  have f6 := free_of_block b2 6
  have o7 := cell_of_block b2 7
  have f7 := free_of_block b2 7
  have o8 := cell_of_block b2 8
  have f8 := free_of_block b2 8
  simp only [List.getElem?_toArray, List.getElem?_cons_zero, List.getElem?_cons_succ] at o3 o4 o5 o6 o7 o8
  have B0 := hide b0
  have B1 := hide b1
  have B2 := hide b2
  have HBB := hide HB
  clear b0 b1 b2 HB
  have hov2 : Hid (Over (w.heap.size + 1 + 1 + 1) w1 ((((((w1.setCell ⟨w.heap.size + 1 + 1, 3, none⟩ (.int .i64 xk)).setCell ⟨w.heap.size + 1 + 1, 4, none⟩ (.int .i64 xvk)).setCell ⟨w.heap.size + 1 + 1, 5, none⟩ (.int .i64 xvn)).setCell ⟨w.heap.size + 1 + 1, 6, none⟩ (.string xvt)).setCell ⟨w.heap.size + 1 + 1, 7, none⟩ (.string xnm)).setCell ⟨w.heap.size + 1 + 1, 8, none⟩ (.slice ade' el cape'))) := by
    refine over_set (over_set (over_set (over_set (over_set (over_set (over_refl _ _) ?_ _) ?_ _) ?_ _) ?_ _) ?_ _) ?_ _ <;> (simp only; omega)
  have HB2 : Hid (Below w.heap.size w ((((((w1.setCell ⟨w.heap.size + 1 + 1, 3, none⟩ (.int .i64 xk)).setCell ⟨w.heap.size + 1 + 1, 4, none⟩ (.int .i64 xvk)).setCell ⟨w.heap.size + 1 + 1, 5, none⟩ (.int .i64 xvn)).setCell ⟨w.heap.size + 1 + 1, 6, none⟩ (.string xvt)).setCell ⟨w.heap.size + 1 + 1, 7, none⟩ (.string xnm)).setCell ⟨w.heap.size + 1 + 1, 8, none⟩ (.slice ade' el cape'))) := by
    refine (((((HBB.out.setCell ?_ _).setCell ?_ _).setCell ?_ _).setCell ?_ _).setCell ?_ _).setCell ?_ _ <;> (simp only; omega)
  have Q2 : Hid (((((((w1.setCell ⟨w.heap.size + 1 + 1, 3, none⟩ (.int .i64 xk)).setCell ⟨w.heap.size + 1 + 1, 4, none⟩ (.int .i64 xvk)).setCell ⟨w.heap.size + 1 + 1, 5, none⟩ (.int .i64 xvn)).setCell ⟨w.heap.size + 1 + 1, 6, none⟩ (.string xvt)).setCell ⟨w.heap.size + 1 + 1, 7, none⟩ (.string xnm)).setCell ⟨w.heap.size + 1 + 1, 8, none⟩ (.slice ade' el cape')).heap[w.heap.size + 1 + 1]? = some (.cells #[.int .i64 k, .string nm, .string wh, .int .i64 xk, .int .i64 xvk, .int .i64 xvn, .string xvt, .string xnm, .slice ade' el cape', .slice none 0 0, .slice none 0 0] 47 (0, 0))) := by
    show _ = _
    rw [block_set (block_set (block_set (block_set (block_set (block_set B2.out 3 _) 4 _) 5 _) 6 _) 7 _) 8 _]
    rfl
  have QO : Hid (∀ g, w.heap.size + 1 + 1 + 1 ≤ g → ((((((w1.setCell ⟨w.heap.size + 1 + 1, 3, none⟩ (.int .i64 xk)).setCell ⟨w.heap.size + 1 + 1, 4, none⟩ (.int .i64 xvk)).setCell ⟨w.heap.size + 1 + 1, 5, none⟩ (.int .i64 xvn)).setCell ⟨w.heap.size + 1 + 1, 6, none⟩ (.string xvt)).setCell ⟨w.heap.size + 1 + 1, 7, none⟩ (.string xnm)).setCell ⟨w.heap.size + 1 + 1, 8, none⟩ (.slice ade' el cape')).heap[g]? = w1.heap[g]?) := by
    refine hide fun g hg => ?_
    rw [Below.heap_setCell _ _ _ _ (by simp only; omega), Below.heap_setCell _ _ _ _ (by simp only; omega), Below.heap_setCell _ _ _ _ (by simp only; omega), Below.heap_setCell _ _ _ _ (by simp only; omega), Below.heap_setCell _ _ _ _ (by simp only; omega), Below.heap_setCell _ _ _ _ (by simp only; omega)]
  have QS : Hid (w1.heap.size = ((((((w1.setCell ⟨w.heap.size + 1 + 1, 3, none⟩ (.int .i64 xk)).setCell ⟨w.heap.size + 1 + 1, 4, none⟩ (.int .i64 xvk)).setCell ⟨w.heap.size + 1 + 1, 5, none⟩ (.int .i64 xvn)).setCell ⟨w.heap.size + 1 + 1, 6, none⟩ (.string xvt)).setCell ⟨w.heap.size + 1 + 1, 7, none⟩ (.string xnm)).setCell ⟨w.heap.size + 1 + 1, 8, none⟩ (.slice ade' el cape')).heap.size) := by
    show _ = _
    simp [World.setCell]
  have Q1 : Hid (((((((w1.setCell ⟨w.heap.size + 1 + 1, 3, none⟩ (.int .i64 xk)).setCell ⟨w.heap.size + 1 + 1, 4, none⟩ (.int .i64 xvk)).setCell ⟨w.heap.size + 1 + 1, 5, none⟩ (.int .i64 xvn)).setCell ⟨w.heap.size + 1 + 1, 6, none⟩ (.string xvt)).setCell ⟨w.heap.size + 1 + 1, 7, none⟩ (.string xnm)).setCell ⟨w.heap.size + 1 + 1, 8, none⟩ (.slice ade' el cape')).heap[w.heap.size + 1]? = w1.heap[w.heap.size + 1]?) := by
    show _ = _
    rw [Below.heap_setCell _ _ _ _ (by simp only; omega), Below.heap_setCell _ _ _ _ (by simp only; omega), Below.heap_setCell _ _ _ _ (by simp only; omega), Below.heap_setCell _ _ _ _ (by simp only; omega), Below.heap_setCell _ _ _ _ (by simp only; omega), Below.heap_setCell _ _ _ _ (by simp only; omega)]
  have Q0 : Hid (((((((w1.setCell ⟨w.heap.size + 1 + 1, 3, none⟩ (.int .i64 xk)).setCell ⟨w.heap.size + 1 + 1, 4, none⟩ (.int .i64 xvk)).setCell ⟨w.heap.size + 1 + 1, 5, none⟩ (.int .i64 xvn)).setCell ⟨w.heap.size + 1 + 1, 6, none⟩ (.string xvt)).setCell ⟨w.heap.size + 1 + 1, 7, none⟩ (.string xnm)).setCell ⟨w.heap.size + 1 + 1, 8, none⟩ (.slice ade' el cape')).heap[w.heap.size]? = w1.heap[w.heap.size]?) := by
    show _ = _
    rw [Below.heap_setCell _ _ _ _ (by simp only; omega), Below.heap_setCell _ _ _ _ (by simp only; omega), Below.heap_setCell _ _ _ _ (by simp only; omega), Below.heap_setCell _ _ _ _ (by simp only; omega), Below.heap_setCell _ _ _ _ (by simp only; omega), Below.heap_setCell _ _ _ _ (by simp only; omega)]
  have hs2 : Hid (w.heap.size + 1 + 1 + 1 ≤ ((((((w1.setCell ⟨w.heap.size + 1 + 1, 3, none⟩ (.int .i64 xk)).setCell ⟨w.heap.size + 1 + 1, 4, none⟩ (.int .i64 xvk)).setCell ⟨w.heap.size + 1 + 1, 5, none⟩ (.int .i64 xvn)).setCell ⟨w.heap.size + 1 + 1, 6, none⟩ (.string xvt)).setCell ⟨w.heap.size + 1 + 1, 7, none⟩ (.string xnm)).setCell ⟨w.heap.size + 1 + 1, 8, none⟩ (.slice ade' el cape')).heap.size) := by
    show _ ≤ _
    have := hov2.out.1
    omega
  go_wp2_with fail
  generalize ((((((w1.setCell ⟨w.heap.size + 1 + 1, 3, none⟩ (.int .i64 xk)).setCell ⟨w.heap.size + 1 + 1, 4, none⟩ (.int .i64 xvk)).setCell ⟨w.heap.size + 1 + 1, 5, none⟩ (.int .i64 xvn)).setCell ⟨w.heap.size + 1 + 1, 6, none⟩ (.string xvt)).setCell ⟨w.heap.size + 1 + 1, 7, none⟩ (.string xnm)).setCell ⟨w.heap.size + 1 + 1, 8, none⟩ (.slice ade' el cape')) = W2 at hov2 HB2 Q2 Q1 Q0 QO QS hs2 ⊢
  have HR2 := hide (HR1.out.over hov2.out)
  have HSK2 : Hid (SkRow (w.heap.size + 1 + 1 + 1) W2.heap.size W2 ek (.slice ade' el cape')) := HSK1.out.over (fun g hg _ => QO.out g hg) (by rw [← QS.out]; exact Nat.le_refl _)
  clear QO QS HSK1
  clear hov2 HR1 a9 a10 o3 o4 o5 o6 o7 o8 f3 f4 f5 f6 f7 f8 HBB hsz
  refine (hqb.out _ HB2.out).mono ?_
  rintro e w3 ⟨v3, rfl, hr3, hsk3, hB3⟩
  have HKB3 := hide hsk3
  have HSK3 := hide (HSK2.out.later hB3 (Nat.le_refl _))
  have hm1 : Hid (w.heap.size + 1 + 1 + 1 ≤ W2.heap.size) := hs2
  clear hsk3 HSK2
  have HP3 : Hid (PRow (w.heap.size + 1 + 1 + 1) w3 b v3) := hr3.low hs2.out
  obtain ⟨adb', capb', rfl, _, _, _⟩ := hr3
  have b0 := (hB3.block w.heap.size (by have := hs2.out; omega)).trans (Q0.out.trans B0.out)
  have b1 := (hB3.block (w.heap.size + 1) (by have := hs2.out; omega)).trans (Q1.out.trans B1.out)
  have b2 := (hB3.block (w.heap.size + 1 + 1) (by have := hs2.out; omega)).trans Q2.out
  have HR3 := hide (HR2.out.later hB3)
  have HB3 : Hid (Below w.heap.size w w3) := HB2.out.trans (hB3.mono HB2.out.size)
  have hs3 : Hid (w.heap.size + 1 + 1 + 1 ≤ w3.heap.size) := by
    show _ ≤ _
    have := hB3.size
    have := hs2.out
    omega
  clear hB3 HB2 Q0 Q1 Q2 hs2 HR2 hqb B0 B1 B2
  generalize b.len = bl at *
  have a10 := cell_of_block b0 10
  have o9 := cell_of_block b2 9
  have f9 := free_of_block b2 9
  simp only [List.getElem?_toArray, List.getElem?_cons_zero, List.getElem?_cons_succ] at a10 o9
  have B1 := hide b1
  have B2 := hide b2
  clear b0 b1 b2
  have hov4 : Hid (Over (w.heap.size + 1 + 1 + 1) w3 (w3.setCell ⟨w.heap.size + 1 + 1, 9, none⟩ (.slice adb' bl capb'))) := over_set (over_refl _ _) (by simp only; omega) _
  have HB4 : Hid (Below w.heap.size w (w3.setCell ⟨w.heap.size + 1 + 1, 9, none⟩ (.slice adb' bl capb'))) := HB3.out.setCell (by simp only; omega) _
  have Q2 : Hid ((w3.setCell ⟨w.heap.size + 1 + 1, 9, none⟩ (.slice adb' bl capb')).heap[w.heap.size + 1 + 1]? = some (.cells #[.int .i64 k, .string nm, .string wh, .int .i64 xk, .int .i64 xvk, .int .i64 xvn, .string xvt, .string xnm, .slice ade' el cape', .slice adb' bl capb', .slice none 0 0] 47 (0, 0))) := by
    show _ = _
    rw [block_set B2.out 9 _]
    rfl
  have Q1 : Hid ((w3.setCell ⟨w.heap.size + 1 + 1, 9, none⟩ (.slice adb' bl capb')).heap[w.heap.size + 1]? = w3.heap[w.heap.size + 1]?) := Below.heap_setCell _ _ _ _ (by simp only; omega)
  have QO : Hid (∀ g, w.heap.size + 1 + 1 + 1 ≤ g → (w3.setCell ⟨w.heap.size + 1 + 1, 9, none⟩ (.slice adb' bl capb')).heap[g]? = w3.heap[g]?) := hide fun g hg => Below.heap_setCell _ _ _ _ (by simp only; omega)
  have QS : Hid (w3.heap.size = (w3.setCell ⟨w.heap.size + 1 + 1, 9, none⟩ (.slice adb' bl capb')).heap.size) := by
    show _ = _
    simp [World.setCell]
  go_wp2_with fail
  generalize (w3.setCell ⟨w.heap.size + 1 + 1, 9, none⟩ (.slice adb' bl capb')) = W4 at hov4 HB4 Q2 Q1 QO QS ⊢
  have hs4 : Hid (w.heap.size + 1 + 1 + 1 ≤ W4.heap.size) := by
    show _ ≤ _
    have := hov4.out.1
    have := hs3.out
    omega
  have HR4 := hide (HR3.out.over hov4.out)
  have HP4 := hide (HP3.out.over hov4.out)
  have HSK4 := hide (HSK3.out.over (fun g hg _ => QO.out g hg) (Nat.le_refl _))
  have HKB4 : Hid (PSkRow W2.heap.size W4.heap.size W4 b (.slice adb' bl capb')) := HKB3.out.over (fun g hg _ => QO.out g (by have := hm1.out; omega)) (by rw [← QS.out]; exact Nat.le_refl _)
  clear QO QS HSK3 HKB3
  clear hov4 HR3 HP3 a10 o9 f9 HB3 hs3
  refine (hql.out _ HB4.out).mono ?_
  rintro e w5 ⟨v5, rfl, hr5, hsk5, hB5⟩
  have HKL5 := hide hsk5
  have HSK5 := hide (HSK4.out.later hB5 HKB4.out.le)
  have HKB5 := hide (HKB4.out.later hB5 (Nat.le_refl _))
  clear hsk5 HSK4 HKB4
  have HL5 : Hid (PRow (w.heap.size + 1 + 1 + 1) w5 l v5) := hr5.low hs4.out
  obtain ⟨adl', capl', rfl, _, _, _⟩ := hr5
  have b1 := (hB5.block (w.heap.size + 1) (by have := hs4.out; omega)).trans (Q1.out.trans B1.out)
  have b2 := (hB5.block (w.heap.size + 1 + 1) (by have := hs4.out; omega)).trans Q2.out
  have HR5 := hide (HR4.out.later hB5)
  have HP5 := hide (HP4.out.later hB5)
  have HB5 : Hid (Below w.heap.size w w5) := HB4.out.trans (hB5.mono HB4.out.size)
  have hs5 : Hid (w.heap.size + 1 + 1 + 1 ≤ w5.heap.size) := by
    show _ ≤ _
    have := hB5.size
    have := hs4.out
    omega
  clear hB5 HB4 Q1 Q2 hs4 HR4 HP4 hql B1 B2
  generalize l.len = ll at *
  have o0 := cell_of_block b2 0
  have p0 := cell_of_block b1 0
  have r0 := free_of_block b1 0
  have o1 := cell_of_block b2 1
  have p1 := cell_of_block b1 1
  have r1 := free_of_block b1 1
  have o2 := cell_of_block b2 2
  have p2 := cell_of_block b1 2
  have r2 := free_of_block b1 2
  have o3 := cell_of_block b2 3
  have p3 := cell_of_block b1 3
  have r3 := free_of_block b1 3
  have o4 := cell_of_block b2 4
  have p4 := cell_of_block b1 4
  have r4 := free_of_block b1 4
  have o5 := cell_of_block b2 5
  have p5 := cell_of_block b1 5
  have r5 := free_of_block b1 5
  have o6 := cell_of_block b2 6
  have p6 := cell_of_block b1 6
  have r6 := free_of_block b1 6
  have o7 := cell_of_block b2 7
  have p7 := cell_of_block b1 7
  have r7 := free_of_block b1 7
  have o8 := cell_of_block b2 8
  have p8 := cell_of_block b1 8
  have r8 := free_of_block b1 8
  have o9 := cell_of_block b2 9
  have p9 := cell_of_block b1 9
  have r9 := free_of_block b1 9
  have o10 := cell_of_block b2 10
  have p10 := cell_of_block b1 10
  have r10 := free_of_block b1 10
  have f10 := free_of_block b2 10
  simp only [List.getElem?_toArray, List.getElem?_cons_zero, List.getElem?_cons_succ] at o0 p0 o1 p1 o2 p2 o3 p3 o4 p4 o5 p5 o6 p6 o7 p7 o8 p8 o9 p9 o10 p10
  have BB1 := hide b1
  clear b1 b2
  go_wp2
  have hov : Hid (Over (w.heap.size + 1 + 1 + 1) w5 ((((((((((((w5.setCell ⟨w.heap.size + 1 + 1, 10, none⟩ (.slice adl' ll capl')).setCell ⟨w.heap.size + 1, 0, none⟩ (.int .i64 k)).setCell ⟨w.heap.size + 1, 1, none⟩ (.string nm)).setCell ⟨w.heap.size + 1, 2, none⟩ (.string wh)).setCell ⟨w.heap.size + 1, 3, none⟩ (.int .i64 xk)).setCell ⟨w.heap.size + 1, 4, none⟩ (.int .i64 xvk)).setCell ⟨w.heap.size + 1, 5, none⟩ (.int .i64 xvn)).setCell ⟨w.heap.size + 1, 6, none⟩ (.string xvt)).setCell ⟨w.heap.size + 1, 7, none⟩ (.string xnm)).setCell ⟨w.heap.size + 1, 8, none⟩ (.slice ade' el cape')).setCell ⟨w.heap.size + 1, 9, none⟩ (.slice adb' bl capb')).setCell ⟨w.heap.size + 1, 10, none⟩ (.slice adl' ll capl'))) := by
    refine over_set (over_set (over_set (over_set (over_set (over_set (over_set (over_set (over_set (over_set (over_set (over_set (over_refl _ _) ?_ _) ?_ _) ?_ _) ?_ _) ?_ _) ?_ _) ?_ _) ?_ _) ?_ _) ?_ _) ?_ _) ?_ _ <;> (simp only; omega)
  have hbl : Hid (Below w.heap.size w ((((((((((((w5.setCell ⟨w.heap.size + 1 + 1, 10, none⟩ (.slice adl' ll capl')).setCell ⟨w.heap.size + 1, 0, none⟩ (.int .i64 k)).setCell ⟨w.heap.size + 1, 1, none⟩ (.string nm)).setCell ⟨w.heap.size + 1, 2, none⟩ (.string wh)).setCell ⟨w.heap.size + 1, 3, none⟩ (.int .i64 xk)).setCell ⟨w.heap.size + 1, 4, none⟩ (.int .i64 xvk)).setCell ⟨w.heap.size + 1, 5, none⟩ (.int .i64 xvn)).setCell ⟨w.heap.size + 1, 6, none⟩ (.string xvt)).setCell ⟨w.heap.size + 1, 7, none⟩ (.string xnm)).setCell ⟨w.heap.size + 1, 8, none⟩ (.slice ade' el cape')).setCell ⟨w.heap.size + 1, 9, none⟩ (.slice adb' bl capb')).setCell ⟨w.heap.size + 1, 10, none⟩ (.slice adl' ll capl'))) := by
    refine (((((((((((HB5.out.setCell ?_ _).setCell ?_ _).setCell ?_ _).setCell ?_ _).setCell ?_ _).setCell ?_ _).setCell ?_ _).setCell ?_ _).setCell ?_ _).setCell ?_ _).setCell ?_ _).setCell ?_ _ <;> (simp only; omega)
  have QO : Hid (∀ g, w.heap.size + 1 + 1 + 1 ≤ g → ((((((((((((w5.setCell ⟨w.heap.size + 1 + 1, 10, none⟩ (.slice adl' ll capl')).setCell ⟨w.heap.size + 1, 0, none⟩ (.int .i64 k)).setCell ⟨w.heap.size + 1, 1, none⟩ (.string nm)).setCell ⟨w.heap.size + 1, 2, none⟩ (.string wh)).setCell ⟨w.heap.size + 1, 3, none⟩ (.int .i64 xk)).setCell ⟨w.heap.size + 1, 4, none⟩ (.int .i64 xvk)).setCell ⟨w.heap.size + 1, 5, none⟩ (.int .i64 xvn)).setCell ⟨w.heap.size + 1, 6, none⟩ (.string xvt)).setCell ⟨w.heap.size + 1, 7, none⟩ (.string xnm)).setCell ⟨w.heap.size + 1, 8, none⟩ (.slice ade' el cape')).setCell ⟨w.heap.size + 1, 9, none⟩ (.slice adb' bl capb')).setCell ⟨w.heap.size + 1, 10, none⟩ (.slice adl' ll capl')).heap[g]? = w5.heap[g]?) := by
    refine hide fun g hg => ?_
    rw [Below.heap_setCell _ _ _ _ (by simp only; omega), Below.heap_setCell _ _ _ _ (by simp only; omega), Below.heap_setCell _ _ _ _ (by simp only; omega), Below.heap_setCell _ _ _ _ (by simp only; omega), Below.heap_setCell _ _ _ _ (by simp only; omega), Below.heap_setCell _ _ _ _ (by simp only; omega), Below.heap_setCell _ _ _ _ (by simp only; omega), Below.heap_setCell _ _ _ _ (by simp only; omega), Below.heap_setCell _ _ _ _ (by simp only; omega), Below.heap_setCell _ _ _ _ (by simp only; omega), Below.heap_setCell _ _ _ _ (by simp only; omega), Below.heap_setCell _ _ _ _ (by simp only; omega)]
  have QS : Hid (w5.heap.size = ((((((((((((w5.setCell ⟨w.heap.size + 1 + 1, 10, none⟩ (.slice adl' ll capl')).setCell ⟨w.heap.size + 1, 0, none⟩ (.int .i64 k)).setCell ⟨w.heap.size + 1, 1, none⟩ (.string nm)).setCell ⟨w.heap.size + 1, 2, none⟩ (.string wh)).setCell ⟨w.heap.size + 1, 3, none⟩ (.int .i64 xk)).setCell ⟨w.heap.size + 1, 4, none⟩ (.int .i64 xvk)).setCell ⟨w.heap.size + 1, 5, none⟩ (.int .i64 xvn)).setCell ⟨w.heap.size + 1, 6, none⟩ (.string xvt)).setCell ⟨w.heap.size + 1, 7, none⟩ (.string xnm)).setCell ⟨w.heap.size + 1, 8, none⟩ (.slice ade' el cape')).setCell ⟨w.heap.size + 1, 9, none⟩ (.slice adb' bl capb')).setCell ⟨w.heap.size + 1, 10, none⟩ (.slice adl' ll capl')).heap.size) := by
    show _ = _
    simp [World.setCell]
  have hbk : ((((((((((((w5.setCell ⟨w.heap.size + 1 + 1, 10, none⟩ (.slice adl' ll capl')).setCell ⟨w.heap.size + 1, 0, none⟩ (.int .i64 k)).setCell ⟨w.heap.size + 1, 1, none⟩ (.string nm)).setCell ⟨w.heap.size + 1, 2, none⟩ (.string wh)).setCell ⟨w.heap.size + 1, 3, none⟩ (.int .i64 xk)).setCell ⟨w.heap.size + 1, 4, none⟩ (.int .i64 xvk)).setCell ⟨w.heap.size + 1, 5, none⟩ (.int .i64 xvn)).setCell ⟨w.heap.size + 1, 6, none⟩ (.string xvt)).setCell ⟨w.heap.size + 1, 7, none⟩ (.string xnm)).setCell ⟨w.heap.size + 1, 8, none⟩ (.slice ade' el cape')).setCell ⟨w.heap.size + 1, 9, none⟩ (.slice adb' bl capb')).setCell ⟨w.heap.size + 1, 10, none⟩ (.slice adl' ll capl')).heap[w.heap.size + 1]? = some (.cells #[.int .i64 k, .string nm, .string wh, .int .i64 xk, .int .i64 xvk, .int .i64 xvn, .string xvt, .string xnm, .slice ade' el cape', .slice adb' bl capb', .slice adl' ll capl'] 47 (0, 0)) := by
    have h0 : (w5.setCell ⟨w.heap.size + 1 + 1, 10, none⟩ (.slice adl' ll capl')).heap[w.heap.size + 1]? = _ := (Below.heap_setCell _ _ _ _ (by simp only; omega)).trans BB1.out
    exact set11 h0 rfl _ _ _ _ _ _ _ _ _ _ _
  generalize ((((((((((((w5.setCell ⟨w.heap.size + 1 + 1, 10, none⟩ (.slice adl' ll capl')).setCell ⟨w.heap.size + 1, 0, none⟩ (.int .i64 k)).setCell ⟨w.heap.size + 1, 1, none⟩ (.string nm)).setCell ⟨w.heap.size + 1, 2, none⟩ (.string wh)).setCell ⟨w.heap.size + 1, 3, none⟩ (.int .i64 xk)).setCell ⟨w.heap.size + 1, 4, none⟩ (.int .i64 xvk)).setCell ⟨w.heap.size + 1, 5, none⟩ (.int .i64 xvn)).setCell ⟨w.heap.size + 1, 6, none⟩ (.string xvt)).setCell ⟨w.heap.size + 1, 7, none⟩ (.string xnm)).setCell ⟨w.heap.size + 1, 8, none⟩ (.slice ade' el cape')).setCell ⟨w.heap.size + 1, 9, none⟩ (.slice adb' bl capb')).setCell ⟨w.heap.size + 1, 10, none⟩ (.slice adl' ll capl')) = W9 at hov hbl hbk QO QS ⊢
  have c0 := cell_of_block hbk 0
  have c1 := cell_of_block hbk 1
  have c2 := cell_of_block hbk 2
  have c3 := cell_of_block hbk 3
  have c4 := cell_of_block hbk 4
  have c5 := cell_of_block hbk 5
  have c6 := cell_of_block hbk 6
  have c7 := cell_of_block hbk 7
  have c8 := cell_of_block hbk 8
  have c9 := cell_of_block hbk 9
  have c10 := cell_of_block hbk 10
  simp only [List.getElem?_toArray, List.getElem?_cons_zero, List.getElem?_cons_succ] at c0 c1 c2 c3 c4 c5 c6 c7 c8 c9 c10
  refine bodyPost_ret (v := snV ⟨k, nm, wh, ⟨xk, xvk, xvn, xvt, xnm⟩, ek⟩ (.slice ade' el cape') (.slice adb' bl capb') (.slice adl' ll capl')) (by simp [results, Tryz.results43, go_sem, c0, c1, c2, c3, c4, c5, c6, c7, c8, c9, c10]) rfl ?_
  exact ⟨_, _, _, rfl, (HR5.out.over hov.out).low (by omega), (HP5.out.over hov.out).low (by omega), (HL5.out.over hov.out).low (by omega), ⟨W2.heap.size, W4.heap.size, by have := hm1.out; omega, (HSK5.out.over (fun g hg _ => QO.out g hg) (Nat.le_refl _)).low (by omega), HKB5.out.over (fun g hg _ => QO.out g (by have := hm1.out; omega)) (Nat.le_refl _), HKL5.out.over (fun g hg _ => QO.out g (by have := hm1.out; have := HKB5.out.le; omega)) (by rw [← QS.out]; exact Nat.le_refl _)⟩, hbl.out⟩

theorem infoStep : (Tryz.prog.info? 47).map (fun i => (i.zero, i.size, i.bytes)) = some (some (.agg #[.int .i64 0, .string ⟨#[]⟩, .string ⟨#[]⟩, .int .i64 0, .int .i64 0, .int .i64 0, .string ⟨#[]⟩, .string ⟨#[]⟩, .slice none 0 0, .slice none 0 0, .slice none 0 0]), 11, 168) := by kernel_rfl
theorem made_step (n : Nat) (hn : n ≤ 1048576) (w : World) : ∃ M : Array Value, M.size = n * 11 ∧
    (Instr.makeSlice 28 (.int .i64 (n : Int)) (.int .i64 (n : Int))).run Tryz.prog w = .ok (.slice (some ⟨w.heap.size, 0, none⟩) n n) (w.alloc (.cells M 47)) := by
  obtain ⟨i0, hi, hz0, hz1, hz2⟩ := info_parts infoStep
  have hr := run_make (P := Tryz.prog) w 28 47 i0 _ Tryz.underlying28 hi hz0 .i64 .i64 n n (by omega) (Int.le_refl _) (by rw [hz2]; omega) (by omega)
  rw [hz1] at hr
  simp only [Int.toNat_natCast] at hr
  exact ⟨_, size_madeCells _ _, hr⟩

/-- the first i steps are copied -/
def PToRel (F : Ps) (w : World) (i : Nat) (wr : World) : Prop :=
  (∃ C, wr.heap[w.heap.size]? = some (.cells C 47 (0, 0)) ∧ C.size = F.len * 11) ∧ (∀ j sn b e, j < i → F.get j = some (sn, b, e) → ∃ ve vb vl, StAt (w.heap.size + 1) wr w.heap.size (j * 11) sn b e ve vb vl) ∧ Below w.heap.size w wr ∧ w.heap.size + 1 ≤ wr.heap.size
/-- where the parts of the first i copies lie -/
def PSkRel (F : Ps) (w : World) (i : Nat) (wr : World) : Prop :=
  ∃ bnd : Nat → Nat, bnd 0 = w.heap.size + 1 ∧ bnd i ≤ wr.heap.size ∧ (∀ j, j ≤ i → w.heap.size + 1 ≤ bnd j ∧ bnd j ≤ bnd i) ∧ ∀ j sn b e, j < i → F.get j = some (sn, b, e) → ∃ ve vb vl m1 m2, wr.cell? ⟨w.heap.size, j * 11 + 8, none⟩ = some ve ∧ wr.cell? ⟨w.heap.size, j * 11 + 9, none⟩ = some vb ∧ wr.cell? ⟨w.heap.size, j * 11 + 10, none⟩ = some vl ∧ bnd j ≤ m1 ∧ SkRow (bnd j) m1 wr sn.ek ve ∧ PSkRow m1 m2 wr b vb ∧ PSkRow m2 (bnd (j + 1)) wr e vl
theorem PSkRel.start {F : Ps} {w wr : World} (h : w.heap.size + 1 ≤ wr.heap.size) : PSkRel F w 0 wr :=
  ⟨fun _ => w.heap.size + 1, rfl, h, fun j hj => ⟨Nat.le_refl _, Nat.le_refl _⟩, fun j sn b e hj => by omega⟩
theorem PSkRel.next {F : Ps} {w wr w3 W9 : World} {i : Nat} {sn : Sn} {b e : Ps} {ve vb vl : Value} (h : PSkRel F w i wr) (hB : Below wr.heap.size wr w3) (hg : F.get i = some (sn, b, e))
    (hk : ∃ m1 m2, wr.heap.size ≤ m1 ∧ SkRow wr.heap.size m1 w3 sn.ek ve ∧ PSkRow m1 m2 w3 b vb ∧ PSkRow m2 w3.heap.size w3 e vl)
    (hO : ∀ g, w.heap.size + 1 ≤ g → W9.heap[g]? = w3.heap[g]?) (hS : W9.heap.size = w3.heap.size) (hE : ∀ o, o < i * 11 → W9.cell? ⟨w.heap.size, o, none⟩ = wr.cell? ⟨w.heap.size, o, none⟩)
    (c8 : W9.cell? ⟨w.heap.size, i * 11 + 8, none⟩ = some ve) (c9 : W9.cell? ⟨w.heap.size, i * 11 + 9, none⟩ = some vb) (c10 : W9.cell? ⟨w.heap.size, i * 11 + 10, none⟩ = some vl) : PSkRel F w (i + 1) W9 := by
  obtain ⟨bnd, hb0, hbi, hbm, hx⟩ := h
  obtain ⟨m1, m2, hm1, s1, s2, s3⟩ := hk
  have hB3 := hB.size
  have hi0 := (hbm i (Nat.le_refl _)).1
  have e0 : ∀ j, j ≤ i → (if j ≤ i then bnd j else w3.heap.size) = bnd j := fun j hj => if_pos hj
  have e1 : (if i + 1 ≤ i then bnd (i + 1) else w3.heap.size) = w3.heap.size := if_neg (by omega)
  refine ⟨fun j => if j ≤ i then bnd j else w3.heap.size, (e0 0 (Nat.zero_le _)).trans hb0, by simp only [e1]; omega, fun j hj => ?_, fun j sn' b' e' hj hk' => ?_⟩
  · simp only [e1]
    by_cases hji : j ≤ i
    · simp only [e0 j hji]
      have := hbm j hji
      omega
    · rw [if_neg hji]; omega
  · by_cases hji : j = i
    · subst hji
      rw [hg] at hk'
      cases hk'
      refine ⟨ve, vb, vl, m1, m2, c8, c9, c10, ?_, ?_, ?_, ?_⟩
      · simp only [e0 j (Nat.le_refl _)]; omega
      · simp only [e0 j (Nat.le_refl _)]
        exact (s1.over (fun g hg' _ => hO g (by omega)) (Nat.le_refl _)).low hbi
      · exact s2.over (fun g hg' _ => hO g (by omega)) (Nat.le_refl _)
      · simp only [e1]
        exact s3.over (fun g hg' _ => hO g (by have := s2.le; omega)) (Nat.le_refl _)
    · obtain ⟨ve', vb', vl', n1, n2, d8, d9, d10, q0, q1, q2, q3⟩ := hx j sn' b' e' (by omega) hk'
      have hj1 := hbm j (by omega)
      have hj2 := hbm (j + 1) (by omega)
      have l2 := q2.le
      have l3 := q3.le
      have G : ∀ g, w.heap.size + 1 ≤ g → g < wr.heap.size → W9.heap[g]? = wr.heap[g]? := fun g a b => (hO g a).trans (hB.block g b)
      refine ⟨ve', vb', vl', n1, n2, (hE _ (by omega)).trans d8, (hE _ (by omega)).trans d9, (hE _ (by omega)).trans d10, ?_, ?_, ?_, ?_⟩
      · simp only [e0 j (by omega)]; exact q0
      · simp only [e0 j (by omega)]
        exact q1.over (fun g a b => G g (by omega) (by omega)) (Nat.le_refl _)
      · exact q2.over (fun g a b => G g (by omega) (by omega)) (Nat.le_refl _)
      · simp only [e0 (j + 1) (by omega)]
        exact q3.over (fun g a b => G g (by omega) (by omega)) (Nat.le_refl _)
theorem PSkRel.done {F : Ps} {w wr : World} (h : PSkRel F w F.len wr) (hC : ∃ C, wr.heap[w.heap.size]? = some (.cells C 47 (0, 0)) ∧ C.size = F.len * 11) (hN : F.len ≤ 1048576) : PSkRow w.heap.size wr.heap.size wr F (.slice (some ⟨w.heap.size, 0, none⟩) F.len F.len) := by
  obtain ⟨bnd, hb0, hbi, hbm, hx⟩ := h
  obtain ⟨C, hC, hs⟩ := hC
  have hlt : w.heap.size < wr.heap.size := (Array.getElem?_eq_some_iff.1 hC).1
  refine ⟨_, _, rfl, Nat.le_refl _, by unfold maxLen; omega, by omega, fun _ => ⟨_, rfl, Nat.le_refl _, hlt, ?_⟩⟩
  rw [← hb0]
  refine PSkAt.of_get bnd (fun j sn b e hk => ?_) hbi
  have hj := Ps.get_lt hk
  obtain ⟨ve, vb, vl, m1, m2, d8, d9, d10, q0, q1, q2, q3⟩ := hx j sn b e hj hk
  rw [cell_of_block hC] at d8 d9 d10
  rw [Nat.zero_add]
  exact ⟨C, m1, m2, ve, vb, vl, hC, by omega, d8, d9, d10, q0, q1, q2, q3⟩
theorem PToRel.start {F : Ps} {w : World} {M : Array Value} (h : M.size = F.len * 11) : PToRel F w 0 (w.alloc (.cells M 47)) := by
  refine ⟨⟨M, ?_, h⟩, fun j sn b e hj => by omega, (Below.refl _ _).alloc (Nat.le_refl _) _, by simp⟩
  rw [heap_alloc_at, if_pos rfl]
theorem PToRel.old {F : Ps} {w wr w3 : World} {i : Nat} (h : PToRel F w i wr) (hB : Below wr.heap.size wr w3) (hi : i < F.len) :
    (∃ u, w3.cell? ⟨w.heap.size, i * 11, none⟩ = some u) ∧ (∃ u, w3.cell? ⟨w.heap.size, i * 11 + 1, none⟩ = some u) ∧ (∃ u, w3.cell? ⟨w.heap.size, i * 11 + 2, none⟩ = some u) ∧ (∃ u, w3.cell? ⟨w.heap.size, i * 11 + 3, none⟩ = some u) ∧ (∃ u, w3.cell? ⟨w.heap.size, i * 11 + 4, none⟩ = some u) ∧ (∃ u, w3.cell? ⟨w.heap.size, i * 11 + 5, none⟩ = some u) ∧ (∃ u, w3.cell? ⟨w.heap.size, i * 11 + 6, none⟩ = some u) ∧ (∃ u, w3.cell? ⟨w.heap.size, i * 11 + 7, none⟩ = some u) ∧ (∃ u, w3.cell? ⟨w.heap.size, i * 11 + 8, none⟩ = some u) ∧ (∃ u, w3.cell? ⟨w.heap.size, i * 11 + 9, none⟩ = some u) ∧ (∃ u, w3.cell? ⟨w.heap.size, i * 11 + 10, none⟩ = some u) ∧ (∀ o, w3.frozen? ⟨w.heap.size, o, none⟩ = false) := by
  obtain ⟨⟨C, hC, hs⟩, _, _, hl⟩ := h
  have hb := hB.block w.heap.size (by omega)
  rw [hC] at hb
  have G : ∀ o, o < F.len * 11 → ∃ u, w3.cell? ⟨w.heap.size, o, none⟩ = some u := fun o ho => ⟨C[o]'(by omega), by rw [cell_of_block hb]; exact Array.getElem?_eq_getElem (by omega)⟩
  exact ⟨G _ (by omega), G _ (by omega), G _ (by omega), G _ (by omega), G _ (by omega), G _ (by omega), G _ (by omega), G _ (by omega), G _ (by omega), G _ (by omega), G _ (by omega), fun o => free_of_block hb o⟩
theorem PToRel.next {F : Ps} {w wr w3 W9 : World} {i : Nat} {sn : Sn} {b e : Ps} {ve vb vl : Value} (h : PToRel F w i wr) (hB : Below wr.heap.size wr w3) (hg : F.get i = some (sn, b, e)) (hr : RowAt wr.heap.size w3 sn.ek ve) (hrb : PRow wr.heap.size w3 b vb) (hrl : PRow wr.heap.size w3 e vl)
    (h9 : W9 = (((((((((((w3.setCell ⟨w.heap.size, i * 11, none⟩ (.int .i64 sn.k)).setCell ⟨w.heap.size, i * 11 + 1, none⟩ (.string sn.nm)).setCell ⟨w.heap.size, i * 11 + 2, none⟩ (.string sn.wh)).setCell ⟨w.heap.size, i * 11 + 3, none⟩ (.int .i64 sn.ex.k)).setCell ⟨w.heap.size, i * 11 + 4, none⟩ (.int .i64 sn.ex.vk)).setCell ⟨w.heap.size, i * 11 + 5, none⟩ (.int .i64 sn.ex.vn)).setCell ⟨w.heap.size, i * 11 + 6, none⟩ (.string sn.ex.vt)).setCell ⟨w.heap.size, i * 11 + 7, none⟩ (.string sn.ex.nm)).setCell ⟨w.heap.size, i * 11 + 8, none⟩ ve).setCell ⟨w.heap.size, i * 11 + 9, none⟩ vb).setCell ⟨w.heap.size, i * 11 + 10, none⟩ vl)) : PToRel F w (i + 1) W9 := by
  obtain ⟨⟨C, hC, hs⟩, hn, hb0, hl⟩ := h
  have hil := Ps.get_lt hg
  have hb := hB.block w.heap.size (by omega)
  rw [hC] at hb
  have hs3 := hB.size
  have hov : Over (w.heap.size + 1) w3 W9 := by
    rw [h9]
    refine over_set (over_set (over_set (over_set (over_set (over_set (over_set (over_set (over_set (over_set (over_set (over_refl _ _) ?_ _) ?_ _) ?_ _) ?_ _) ?_ _) ?_ _) ?_ _) ?_ _) ?_ _) ?_ _) ?_ _ <;> (simp only; omega)
  have hbk : W9.heap[w.heap.size]? = some (.cells (((((((((((C.setIfInBounds (i * 11) (.int .i64 sn.k)).setIfInBounds (i * 11 + 1) (.string sn.nm)).setIfInBounds (i * 11 + 2) (.string sn.wh)).setIfInBounds (i * 11 + 3) (.int .i64 sn.ex.k)).setIfInBounds (i * 11 + 4) (.int .i64 sn.ex.vk)).setIfInBounds (i * 11 + 5) (.int .i64 sn.ex.vn)).setIfInBounds (i * 11 + 6) (.string sn.ex.vt)).setIfInBounds (i * 11 + 7) (.string sn.ex.nm)).setIfInBounds (i * 11 + 8) ve).setIfInBounds (i * 11 + 9) vb).setIfInBounds (i * 11 + 10) vl) 47 (0, 0)) := by
    rw [h9]
    exact block_set (block_set (block_set (block_set (block_set (block_set (block_set (block_set (block_set (block_set (block_set hb _ _) _ _) _ _) _ _) _ _) _ _) _ _) _ _) _ _) _ _) _ _
  have hbl : Below w.heap.size w W9 := by
    rw [h9]
    refine (((((((((((hb0.trans (hB.mono (by omega))).setCell ?_ _).setCell ?_ _).setCell ?_ _).setCell ?_ _).setCell ?_ _).setCell ?_ _).setCell ?_ _).setCell ?_ _).setCell ?_ _).setCell ?_ _).setCell ?_ _ <;> (simp only; omega)
  refine ⟨⟨_, hbk, by simp [hs]⟩, fun j sn' b' e' hj hk => ?_, hbl, by have := hov.1; omega⟩
  by_cases hji : j = i
  · subst hji
    rw [hg] at hk
    cases hk
    refine ⟨ve, vb, vl, ⟨?_, ?_, ?_, ?_, ?_, ?_, ?_, ?_⟩, ⟨?_, (hr.low (by omega)).over hov⟩, ⟨?_, (hrb.low (by omega)).over hov⟩, ⟨?_, (hrl.low (by omega)).over hov⟩⟩
    all_goals
      rw [cell_of_block hbk]
      simp [Array.getElem?_setIfInBounds, hs]
      try omega
  · obtain ⟨ve', vb', vl', ⟨d0, d1, d2, d3, d4, d5, d6, d7⟩, ⟨d8, q8⟩, ⟨d9, q9⟩, ⟨d10, q10⟩⟩ := hn j sn' b' e' (by omega) hk
    have E : ∀ o, o < i * 11 → W9.cell? ⟨w.heap.size, o, none⟩ = wr.cell? ⟨w.heap.size, o, none⟩ := by
      intro o ho
      rw [cell_of_block hbk, cell_of_block hC]
      rw [Array.getElem?_setIfInBounds_ne (by omega), Array.getElem?_setIfInBounds_ne (by omega), Array.getElem?_setIfInBounds_ne (by omega), Array.getElem?_setIfInBounds_ne (by omega), Array.getElem?_setIfInBounds_ne (by omega), Array.getElem?_setIfInBounds_ne (by omega), Array.getElem?_setIfInBounds_ne (by omega), Array.getElem?_setIfInBounds_ne (by omega), Array.getElem?_setIfInBounds_ne (by omega), Array.getElem?_setIfInBounds_ne (by omega), Array.getElem?_setIfInBounds_ne (by omega)]
    exact ⟨ve', vb', vl', ⟨(E _ (by omega)).trans d0, (E _ (by omega)).trans d1, (E _ (by omega)).trans d2, (E _ (by omega)).trans d3, (E _ (by omega)).trans d4, (E _ (by omega)).trans d5, (E _ (by omega)).trans d6, (E _ (by omega)).trans d7⟩, ⟨(E _ (by omega)).trans d8, (q8.over (over_of hB _)).over hov⟩, ⟨(E _ (by omega)).trans d9, (q9.over (over_of hB _)).over hov⟩, ⟨(E _ (by omega)).trans d10, (q10.over (over_of hB _)).over hov⟩⟩
theorem PSkRel.step {F : Ps} {w wr w3 W9 : World} {i : Nat} {sn : Sn} {b e : Ps} {ve vb vl : Value} (h : PSkRel F w i wr) (hT : PToRel F w i wr) (hB : Below wr.heap.size wr w3) (hg : F.get i = some (sn, b, e))
    (hk : ∃ m1 m2, wr.heap.size ≤ m1 ∧ SkRow wr.heap.size m1 w3 sn.ek ve ∧ PSkRow m1 m2 w3 b vb ∧ PSkRow m2 w3.heap.size w3 e vl)
    (h9 : W9 = (((((((((((w3.setCell ⟨w.heap.size, i * 11, none⟩ (.int .i64 sn.k)).setCell ⟨w.heap.size, i * 11 + 1, none⟩ (.string sn.nm)).setCell ⟨w.heap.size, i * 11 + 2, none⟩ (.string sn.wh)).setCell ⟨w.heap.size, i * 11 + 3, none⟩ (.int .i64 sn.ex.k)).setCell ⟨w.heap.size, i * 11 + 4, none⟩ (.int .i64 sn.ex.vk)).setCell ⟨w.heap.size, i * 11 + 5, none⟩ (.int .i64 sn.ex.vn)).setCell ⟨w.heap.size, i * 11 + 6, none⟩ (.string sn.ex.vt)).setCell ⟨w.heap.size, i * 11 + 7, none⟩ (.string sn.ex.nm)).setCell ⟨w.heap.size, i * 11 + 8, none⟩ ve).setCell ⟨w.heap.size, i * 11 + 9, none⟩ vb).setCell ⟨w.heap.size, i * 11 + 10, none⟩ vl)) : PSkRel F w (i + 1) W9 := by
  obtain ⟨⟨C, hC, hs⟩, hn, hb0, hl⟩ := hT
  have hil := Ps.get_lt hg
  have hb := hB.block w.heap.size (by omega)
  rw [hC] at hb
  have hbk : W9.heap[w.heap.size]? = some (.cells (((((((((((C.setIfInBounds (i * 11) (.int .i64 sn.k)).setIfInBounds (i * 11 + 1) (.string sn.nm)).setIfInBounds (i * 11 + 2) (.string sn.wh)).setIfInBounds (i * 11 + 3) (.int .i64 sn.ex.k)).setIfInBounds (i * 11 + 4) (.int .i64 sn.ex.vk)).setIfInBounds (i * 11 + 5) (.int .i64 sn.ex.vn)).setIfInBounds (i * 11 + 6) (.string sn.ex.vt)).setIfInBounds (i * 11 + 7) (.string sn.ex.nm)).setIfInBounds (i * 11 + 8) ve).setIfInBounds (i * 11 + 9) vb).setIfInBounds (i * 11 + 10) vl) 47 (0, 0)) := by
    rw [h9]
    exact block_set (block_set (block_set (block_set (block_set (block_set (block_set (block_set (block_set (block_set (block_set hb _ _) _ _) _ _) _ _) _ _) _ _) _ _) _ _) _ _) _ _) _ _
  refine h.next hB hg hk (fun g hg' => ?_) ?_ (fun o ho => ?_) ?_ ?_ ?_
  · rw [h9, Below.heap_setCell _ _ _ _ (by simp only; omega), Below.heap_setCell _ _ _ _ (by simp only; omega), Below.heap_setCell _ _ _ _ (by simp only; omega), Below.heap_setCell _ _ _ _ (by simp only; omega), Below.heap_setCell _ _ _ _ (by simp only; omega), Below.heap_setCell _ _ _ _ (by simp only; omega), Below.heap_setCell _ _ _ _ (by simp only; omega), Below.heap_setCell _ _ _ _ (by simp only; omega), Below.heap_setCell _ _ _ _ (by simp only; omega), Below.heap_setCell _ _ _ _ (by simp only; omega), Below.heap_setCell _ _ _ _ (by simp only; omega)]
  · rw [h9]; simp [World.setCell]
  · rw [cell_of_block hbk, cell_of_block hC]
    rw [Array.getElem?_setIfInBounds_ne (by omega), Array.getElem?_setIfInBounds_ne (by omega), Array.getElem?_setIfInBounds_ne (by omega), Array.getElem?_setIfInBounds_ne (by omega), Array.getElem?_setIfInBounds_ne (by omega), Array.getElem?_setIfInBounds_ne (by omega), Array.getElem?_setIfInBounds_ne (by omega), Array.getElem?_setIfInBounds_ne (by omega), Array.getElem?_setIfInBounds_ne (by omega), Array.getElem?_setIfInBounds_ne (by omega), Array.getElem?_setIfInBounds_ne (by omega)]
  all_goals
    rw [cell_of_block hbk]
    simp [Array.getElem?_setIfInBounds, hs]
    try omega
theorem PToRel.done {F : Ps} {w wr : World} (h : PToRel F w F.len wr) (hN : F.len ≤ 1048576) : PRow w.heap.size wr F (.slice (some ⟨w.heap.size, 0, none⟩) F.len F.len) := by
  obtain ⟨_, hn, _, hl⟩ := h
  refine ⟨_, _, rfl, Nat.le_refl _, by unfold maxLen; omega, fun _ => ⟨_, _, rfl, Nat.le_refl _, by omega, ?_⟩⟩
  refine (PsAt.of_get fun j sn b e hk => ?_).low (Nat.le_succ _)
  obtain ⟨ve, vb, vl, hv⟩ := hn j sn b e (Ps.get_lt hk) hk
  exact ⟨ve, vb, vl, by rwa [Nat.zero_add]⟩

set_option maxHeartbeats 1600000 in
theorem toStepS_of (F : Ps) (ih : ∀ i sn b e, F.get i = some (sn, b, e) → PToP b ∧ PToP e) : PToP F := by
  intro v w hN hsm hr
  obtain ⟨ad, cap, rfl, hc, hm, hx⟩ := hr
  unfold maxLen at hm
  have HX := hide hx
  have IH := hide ih
  have HW := hide hsm
  clear hx ih hsm
  obtain ⟨M, hMs, hmk⟩ := made_step F.len hN w
  have HMs := hide hMs
  clear hMs
  go_enter Tryz.func22, Tryz.ntmps22
  go_wp2_with fail
  go_loopw [4] (fun iv wr => ∃ i : Nat, i ≤ F.len ∧ iv = .int .i64 i ∧ Hid (PToRel F w i wr) ∧ Hid (PSkRel F w i wr)) (fun iv _ => F.len - (intOf iv).toNat)
  case atStart => exact ⟨0, by omega, rfl, hide (PToRel.start HMs.out), hide (PSkRel.start (by simp))⟩
  case round =>
    obtain ⟨i, hi, rfl, HT, HPK⟩ := hrel
    have hB : Hid (Below w.heap.size w wr) := HT.out.2.2.1
    by_cases hlt : i < F.len
    · obtain ⟨g, off, rfl, _, hg, hfo⟩ := HX.out (by omega)
      obtain ⟨sn, b, e, hget⟩ := F.get_some i hlt
      obtain ⟨ve, vb, vl, hst⟩ := hfo.get hget
      obtain ⟨⟨d0, d1, d2, d3, d4, d5, d6, d7⟩, ⟨d8, q8⟩, ⟨d9, q9⟩, ⟨d10, q10⟩⟩ := hst.later hB.out hg
      obtain ⟨⟨s1, s2⟩, ⟨s3, s4⟩, ⟨s5, s6⟩⟩ := HW.out.get hget
      have hq := hide (toStep_of sn b e (IH.out i sn b e hget).1 (IH.out i sn b e hget).2 s1 s2 s3 s4 s5 s6 ve vb vl wr q8 q9 q10)
      have HG := hide hget
      obtain ⟨_, _, rfl, _, _, _⟩ := q8
      obtain ⟨_, _, rfl, _, _, _⟩ := q9
      obtain ⟨_, _, rfl, _, _, _⟩ := q10
      clear hfo hst hget s2 s4 s6
      have hii : (i : Int) < (F.len : Int) := by omega
      go_wp2_with fail
      refine hq.out.mono ?_
      rintro e' w3 ⟨ve', vb', vl', rfl, hre3, hrb3, hrl3, hsk3, hB3⟩
      obtain ⟨⟨z0, x0⟩, ⟨z1, x1⟩, ⟨z2, x2⟩, ⟨z3, x3⟩, ⟨z4, x4⟩, ⟨z5, x5⟩, ⟨z6, x6⟩, ⟨z7, x7⟩, ⟨z8, x8⟩, ⟨z9, x9⟩, ⟨z10, x10⟩, hfz⟩ := HT.out.old hB3 hlt
      have y0 := hfz (i * 11)
      have y1 := hfz (i * 11 + 1)
      have y2 := hfz (i * 11 + 2)
      have y3 := hfz (i * 11 + 3)
      have y4 := hfz (i * 11 + 4)
      have y5 := hfz (i * 11 + 5)
      have y6 := hfz (i * 11 + 6)
      have y7 := hfz (i * 11 + 7)
      have y8 := hfz (i * 11 + 8)
      have y9 := hfz (i * 11 + 9)
      have y10 := hfz (i * 11 + 10)
      have hnx := hide (HT.out.next hB3 HG.out hre3 hrb3 hrl3 rfl)
      have hpk := hide (HPK.out.step HT.out hB3 HG.out hsk3 rfl)
      obtain ⟨_, _, rfl, _, _, _⟩ := hre3
      obtain ⟨_, _, rfl, _, _, _⟩ := hrb3
      obtain ⟨_, _, rfl, _, _, _⟩ := hrl3
      clear hsk3 HPK
      clear hfz hq d0 d1 d2 d3 d4 d5 d6 d7 d8 d9 d10 hB3
      go_wp2
      go_roundw
      case rel => exact ⟨i + 1, by omega, by go_num, hnx, hpk⟩
      case measure => simp [intOf]; omega
    · have hie : i = F.len := by omega
      subst hie
      go_wp2
      go_ret
      exact ⟨_, rfl, HT.out.done hN, HPK.out.done HT.out.1 hN, hB.out⟩
theorem toStepS_fuel : ∀ (n : Nat) (F : Ps), F.nodes ≤ n → PToP F
  | 0, F, h => toStepS_of F fun i sn b e hk => by have := F.get_nodes i sn b e hk; omega
  | n + 1, F, h => toStepS_of F fun i sn b e hk => ⟨toStepS_fuel n b (by have := F.get_nodes i sn b e hk; omega), toStepS_fuel n e (by have := F.get_nodes i sn b e hk; omega)⟩
theorem toStepS_k (F : Ps) : PToP F := toStepS_fuel F.nodes F (Nat.le_refl _)
theorem toStepS_any (F : Ps) (v : Value) (w : World) (h1 : F.len ≤ 1048576) (h2 : F.Sm) (h3 : PRow 0 w F v) : Calls Tryz.prog 22 #[v] w (PToPost F w) :=
  (toStepS_k F v w h1 h2 h3).mono fun e w' ⟨u, he, hr, _, hB⟩ => ⟨u, he, hr, hB⟩
end Go.Proofs.YtnikomgdcddchaaGreat

/- Two copies of steps held against each other. -/
namespace Go.Proofs.YtnikomgdcddchaaGreat
open Go.RowKit
set_option linter.unusedVariables false

def PEqP (F : Ps) : Prop := ∀ (va vb : Value) (w : World), F.len ≤ 1048576 → F.Sm → PRow 0 w F va → PRow 0 w F vb → Calls Tryz.prog 29 #[va, vb] w fun e w' => e = .returned (.bool true) ∧ Below w.heap.size w w'

set_option maxHeartbeats 1600000 in
theorem eqStep_of (sn : Sn) (b l : Ps) (hkb : PEqP b) (hkl : PEqP l) (he1 : sn.ek.len ≤ 1048576) (he2 : sn.ek.Sm) (hb1 : b.len ≤ 1048576) (hb2 : b.Sm) (hl1 : l.len ≤ 1048576) (hl2 : l.Sm) (ve vb vl ue ub ul : Value) (w : World) (hre : RowAt 0 w sn.ek ve) (hrb : PRow 0 w b vb) (hrl : PRow 0 w l vl) (hue : RowAt 0 w sn.ek ue) (hub : PRow 0 w b ub) (hul : PRow 0 w l ul) :
    Calls Tryz.prog 49 #[snV sn ve vb vl, snV sn ue ub ul] w fun e w' => e = .returned (.bool true) ∧ Below w.heap.size w w' := by
  have hqe : Hid (∀ W, Below w.heap.size w W → Calls Tryz.prog 78 #[ndV sn.ex ve, ndV sn.ex ue] W fun e w' => e = .returned (.bool true) ∧ Below W.heap.size W w') := fun W hW => eqExpr_of sn.ex sn.ek (eqExprS_any _) he1 he2 ve ue W (hre.later hW) (hue.later hW)
  have hqb : Hid (∀ W, Below w.heap.size w W → Calls Tryz.prog 29 #[vb, ub] W fun e w' => e = .returned (.bool true) ∧ Below W.heap.size W w') := fun W hW => hkb vb ub W hb1 hb2 (hrb.later hW) (hub.later hW)
  have hql : Hid (∀ W, Below w.heap.size w W → Calls Tryz.prog 29 #[vl, ul] W fun e w' => e = .returned (.bool true) ∧ Below W.heap.size W w') := fun W hW => hkl vl ul W hl1 hl2 (hrl.later hW) (hul.later hW)
  clear hkb hkl he1 he2 hb1 hb2 hl1 hl2
  obtain ⟨_, _, rfl, _, _, _⟩ := hre
  obtain ⟨_, _, rfl, _, _, _⟩ := hrb
  obtain ⟨_, _, rfl, _, _, _⟩ := hrl
  obtain ⟨_, _, rfl, _, _, _⟩ := hue
  obtain ⟨_, _, rfl, _, _, _⟩ := hub
  obtain ⟨_, _, rfl, _, _, _⟩ := hul
  obtain ⟨k, nm, wh, ⟨xk, xvk, xvn, xvt, xnm⟩, ek⟩ := sn
  simp only at *
  generalize ek.len = el at *
  generalize b.len = bl at *
  generalize l.len = ll at *
  go_enter Tryz.func49, Tryz.ntmps49
  go_wp2_with fail
  refine (hqe.out _ (((Below.refl _ _).alloc (Nat.le_refl _) _).alloc (by simp) _)).mono ?_
  rintro e w1 ⟨rfl, hB1⟩
  obtain ⟨b0, b1, HB1⟩ := boxes2 hB1
  clear hB1 hqe
  have a9 := cell_of_block b0 9
  have a10 := cell_of_block b0 10
  have c9 := cell_of_block b1 9
  have c10 := cell_of_block b1 10
  simp only [List.getElem?_toArray, List.getElem?_cons_zero, List.getElem?_cons_succ] at a9 a10 c9 c10
  have hs1 : w.heap.size + 1 < w1.heap.size := (Array.getElem?_eq_some_iff.1 b1).1
  have HBB := hide HB1
  clear b0 b1 HB1
  go_wp2_with fail
  refine (hqb.out _ HBB.out).mono ?_
  rintro e w2 ⟨rfl, hB2⟩
  have e9 := (hB2.cell (p := ⟨w.heap.size, 10, none⟩) (by simp only; omega)).trans a10
  have e10 := (hB2.cell (p := ⟨w.heap.size + 1, 10, none⟩) (by simp only; omega)).trans c10
  have HB2 : Hid (Below w.heap.size w w2) := HBB.out.trans (hB2.mono HBB.out.size)
  clear hB2 hqb a9 a10 c9 c10 HBB
  go_wp2_with fail
  refine (hql.out _ HB2.out).mono ?_
  rintro e w3 ⟨rfl, hB3⟩
  go_wp2
  go_ret
  exact ⟨rfl, HB2.out.trans (hB3.mono HB2.out.size)⟩

set_option maxHeartbeats 1600000 in
theorem eqStepS_of (F : Ps) (ih : ∀ i sn b e, F.get i = some (sn, b, e) → PEqP b ∧ PEqP e) : PEqP F := by
  intro va vb w hN hsm ha hb
  obtain ⟨aa, ca, rfl, hca, hma, hxa⟩ := ha
  obtain ⟨ab, cb, rfl, hcb, hmb, hxb⟩ := hb
  unfold maxLen at hma hmb
  have HXA := hide hxa
  have HXB := hide hxb
  have IH := hide ih
  have HW := hide hsm
  clear hxa hxb ih hsm
  go_enter Tryz.func29, Tryz.ntmps29
  go_wp2_with fail
  go_loopw [5] (fun iv wr => ∃ i : Nat, i ≤ F.len ∧ iv = .int .i64 i ∧ Hid (Below w.heap.size w wr)) (fun iv _ => F.len - (intOf iv).toNat)
  case atStart => exact ⟨0, by omega, rfl, hide (Below.refl _ _)⟩
  case round =>
    obtain ⟨i, hi, rfl, hB⟩ := hrel
    by_cases hlt : i < F.len
    · obtain ⟨ga, oa, rfl, _, hga, hfa⟩ := HXA.out (by omega)
      obtain ⟨gb, ob, rfl, _, hgb, hfb⟩ := HXB.out (by omega)
      obtain ⟨sn, b, e, hget⟩ := F.get_some i hlt
      obtain ⟨ve, vb, vl, hsa⟩ := hfa.get hget
      obtain ⟨ue, ub, ul, hsb⟩ := hfb.get hget
      obtain ⟨⟨d0, d1, d2, d3, d4, d5, d6, d7⟩, ⟨d8, q8⟩, ⟨d9, q9⟩, ⟨d10, q10⟩⟩ := hsa.later hB.out hga
      obtain ⟨⟨f0, f1, f2, f3, f4, f5, f6, f7⟩, ⟨f8, p8⟩, ⟨f9, p9⟩, ⟨f10, p10⟩⟩ := hsb.later hB.out hgb
      obtain ⟨⟨s1, s2⟩, ⟨s3, s4⟩, ⟨s5, s6⟩⟩ := HW.out.get hget
      have hq : Hid (∀ W, Below wr.heap.size wr W → Calls Tryz.prog 49 #[snV sn ve vb vl, snV sn ue ub ul] W fun e w' => e = .returned (.bool true) ∧ Below W.heap.size W w') := fun W hW => eqStep_of sn b e (IH.out i sn b e hget).1 (IH.out i sn b e hget).2 s1 s2 s3 s4 s5 s6 ve vb vl ue ub ul W (q8.later hW) (q9.later hW) (q10.later hW) (p8.later hW) (p9.later hW) (p10.later hW)
      obtain ⟨_, _, rfl, _, _, _⟩ := q8
      obtain ⟨_, _, rfl, _, _, _⟩ := q9
      obtain ⟨_, _, rfl, _, _, _⟩ := q10
      obtain ⟨_, _, rfl, _, _, _⟩ := p8
      obtain ⟨_, _, rfl, _, _, _⟩ := p9
      obtain ⟨_, _, rfl, _, _, _⟩ := p10
      clear hfa hfb hsa hsb hget s2 s4 s6
      have hii : (i : Int) < (F.len : Int) := by omega
      go_wp2_with fail
      go_region_with (go_at_call 49; refine (hq.out _ (by first | exact Below.refl _ _ | exact (Below.refl _ _).drew | exact below_drewN (Below.refl _ _) _)).mono ?_; rintro e w3 ⟨rfl, hB3⟩)
      all_goals
        clear d0 d1 d2 d3 d4 d5 d6 d7 d8 d9 d10 f0 f1 f2 f3 f4 f5 f6 f7 f8 f9 f10 hq
        go_wp2
        go_roundw
        case rel => exact ⟨i + 1, by omega, by go_num, hide (hB.out.drew.trans (hB3.mono hB.out.size))⟩
        case measure => simp [intOf]; omega
    · go_wp2
      go_ret
      exact ⟨rfl, hB.out⟩
theorem eqStepS_fuel : ∀ (n : Nat) (F : Ps), F.nodes ≤ n → PEqP F
  | 0, F, h => eqStepS_of F fun i sn b e hk => by have := F.get_nodes i sn b e hk; omega
  | n + 1, F, h => eqStepS_of F fun i sn b e hk => ⟨eqStepS_fuel n b (by have := F.get_nodes i sn b e hk; omega), eqStepS_fuel n e (by have := F.get_nodes i sn b e hk; omega)⟩
theorem eqStepS_any (F : Ps) : PEqP F := eqStepS_fuel F.nodes F (Nat.le_refl _)
end Go.Proofs.YtnikomgdcddchaaGreat

/- A program measured, copied and compared, as the laws do it. -/
namespace Go.Proofs.YtnikomgdcddchaaGreat
open Go.RowKit
set_option linter.unusedVariables false

set_option maxHeartbeats 1600000 in
theorem szProg_any (nm : ByteArray) (F : Ps) (hn : nm.size ≤ maxLen) (hwf : F.Wf) (v : Value) (w : World) (hr : PRow 0 w F v) :
    Calls Tryz.prog 5 #[.agg #[.string nm, v], .int .i64 1048576] w (PSzPost F 1048576 w) := by
  have hq : Hid (∀ W lf, Below w.heap.size w W → 0 ≤ lf → lf ≤ 1048576 → Calls Tryz.prog 20 #[v, .int .i64 lf] W (PSzPost F lf W)) := fun W lf hW l0 l1 => szStepS_any F v W lf l0 l1 hwf (hr.later hW)
  have HB : Hid (Below w.heap.size w (w.alloc (.cells #[.string nm, v] 24))) := (Below.refl _ _).alloc (Nat.le_refl _) _
  unfold maxLen at hn
  clear hwf hr
  go_enter Tryz.func5, Tryz.ntmps5
  by_cases h3 : (1048576 : Int) - nm.size < 0
  · go_wp2
    go_ret
    exact ⟨-1, rfl, by omega, by omega, fun h => by omega, HB.out⟩
  · go_wp2_with fail
    refine (hq.out _ _ HB.out (by omega) (by omega)).mono ?_
    rintro e w2 ⟨r, rfl, hr0, hr1, hr2, hB2⟩
    have HR2 := hide hr2
    have HB2 : Hid (Below w.heap.size w w2) := HB.out.trans (hB2.mono HB.out.size)
    clear hr2 hq hB2 HB
    by_cases h4 : r < 0
    · go_wp2
      go_ret
      exact ⟨-1, rfl, by omega, by omega, fun h => by omega, HB2.out⟩
    · go_wp2
      go_ret
      exact ⟨r, rfl, by omega, by omega, fun h => ⟨(HR2.out h).1, (HR2.out h).2.1, ⟨by have := (HR2.out h).2.2.1; omega, by have := (HR2.out h).2.2.2; omega⟩⟩, HB2.out⟩

def PrPost (nm : ByteArray) (F : Ps) (w : World) (e : Ending) (w' : World) : Prop := ∃ v, e = .returned (.agg #[.string nm, v]) ∧ PRow w.heap.size w' F v ∧ Below w.heap.size w w'
def PrPostK (nm : ByteArray) (F : Ps) (w : World) (e : Ending) (w' : World) : Prop := ∃ v, e = .returned (.agg #[.string nm, v]) ∧ PRow w.heap.size w' F v ∧ PSkRow w.heap.size w'.heap.size w' F v ∧ Below w.heap.size w w'
set_option maxHeartbeats 1600000 in
theorem toProg_k (nm : ByteArray) (F : Ps) (hl : F.len ≤ 1048576) (hs : F.Sm) (v : Value) (w : World) (hr : PRow 0 w F v) :
    Calls Tryz.prog 7 #[.agg #[.string nm, v]] w (PrPostK nm F w) := by
  have hq : Hid (∀ W, Below w.heap.size w W → Calls Tryz.prog 22 #[v] W (PToPostK F W)) := fun W hW => toStepS_k F v W hl hs (hr.later hW)
  clear hl hs hr
  go_enter Tryz.func7, Tryz.ntmps7
  go_wp2_with fail
  refine (hq.out _ ((((Below.refl _ _).alloc (Nat.le_refl _) _).alloc (by simp) _).alloc (by simp; omega) _)).mono ?_
  rintro e w1 ⟨v1, rfl, hr1, hsk1, hB1⟩
  obtain ⟨b0, b1, b2, hsz, HB⟩ := boxes3 hB1
  have HK1 : Hid (PSkRow (w.heap.size + 1 + 1 + 1) w1.heap.size w1 F v1) := hsk1.low (by simp)
  clear hsk1
  have HR1 : Hid (PRow (w.heap.size + 1 + 1 + 1) w1 F v1) := hr1.low (by simp)
  obtain ⟨ad', cap', rfl, _, _, _⟩ := hr1
  have HBB := hide HB
  clear hB1 hq HB
  generalize F.len = fl at *
  have o0 := cell_of_block b2 0
  have o1 := cell_of_block b2 1
  have f1 := free_of_block b2 1
  have p0 := cell_of_block b1 0
  have p1 := cell_of_block b1 1
  have r0 := free_of_block b1 0
  have r1 := free_of_block b1 1
  simp only [List.getElem?_toArray, List.getElem?_cons_zero, List.getElem?_cons_succ] at o0 o1 p0 p1
  have BB1 := hide b1
  clear b0 b1 b2
  go_wp2
  have hov : Hid (Over (w.heap.size + 1 + 1 + 1) w1 ((((w1.setCell ⟨w.heap.size + 1 + 1, 1, none⟩ (.slice ad' fl cap')).setCell ⟨w.heap.size + 1, 0, none⟩ (.string nm)).setCell ⟨w.heap.size + 1, 1, none⟩ (.slice ad' fl cap')))) := by
    refine over_set (over_set (over_set (over_refl _ _) ?_ _) ?_ _) ?_ _ <;> (simp only; omega)
  have hbl : Hid (Below w.heap.size w ((((w1.setCell ⟨w.heap.size + 1 + 1, 1, none⟩ (.slice ad' fl cap')).setCell ⟨w.heap.size + 1, 0, none⟩ (.string nm)).setCell ⟨w.heap.size + 1, 1, none⟩ (.slice ad' fl cap')))) := by
    refine ((HBB.out.setCell ?_ _).setCell ?_ _).setCell ?_ _ <;> (simp only; omega)
  have QO : Hid (∀ g, w.heap.size + 1 + 1 + 1 ≤ g → ((((w1.setCell ⟨w.heap.size + 1 + 1, 1, none⟩ (.slice ad' fl cap')).setCell ⟨w.heap.size + 1, 0, none⟩ (.string nm)).setCell ⟨w.heap.size + 1, 1, none⟩ (.slice ad' fl cap'))).heap[g]? = w1.heap[g]?) := by
    refine hide fun g hg => ?_
    rw [Below.heap_setCell _ _ _ _ (by simp only; omega), Below.heap_setCell _ _ _ _ (by simp only; omega), Below.heap_setCell _ _ _ _ (by simp only; omega)]
  have QS : Hid (w1.heap.size = ((((w1.setCell ⟨w.heap.size + 1 + 1, 1, none⟩ (.slice ad' fl cap')).setCell ⟨w.heap.size + 1, 0, none⟩ (.string nm)).setCell ⟨w.heap.size + 1, 1, none⟩ (.slice ad' fl cap'))).heap.size) := by
    show _ = _
    simp [World.setCell]
  have hbk : ((((w1.setCell ⟨w.heap.size + 1 + 1, 1, none⟩ (.slice ad' fl cap')).setCell ⟨w.heap.size + 1, 0, none⟩ (.string nm)).setCell ⟨w.heap.size + 1, 1, none⟩ (.slice ad' fl cap'))).heap[w.heap.size + 1]? = some (.cells #[.string nm, .slice ad' fl cap'] 30 (0, 0)) := by
    have h0 : (w1.setCell ⟨w.heap.size + 1 + 1, 1, none⟩ (.slice ad' fl cap')).heap[w.heap.size + 1]? = _ := (Below.heap_setCell _ _ _ _ (by simp only; omega)).trans BB1.out
    rw [block_set (block_set h0 0 _) 1 _]
    rfl
  generalize (((w1.setCell ⟨w.heap.size + 1 + 1, 1, none⟩ (.slice ad' fl cap')).setCell ⟨w.heap.size + 1, 0, none⟩ (.string nm)).setCell ⟨w.heap.size + 1, 1, none⟩ (.slice ad' fl cap')) = W9 at hov hbl hbk QO QS ⊢
  have c0 := cell_of_block hbk 0
  have c1 := cell_of_block hbk 1
  simp only [List.getElem?_toArray, List.getElem?_cons_zero, List.getElem?_cons_succ] at c0 c1
  refine bodyPost_ret (v := .agg #[.string nm, .slice ad' fl cap']) (by simp [results, Tryz.results7, go_sem, c0, c1]) rfl ?_
  exact ⟨_, rfl, (HR1.out.over hov.out).low (by omega), (HK1.out.over (fun g hg _ => QO.out g hg) (by rw [← QS.out]; exact Nat.le_refl _)).low (by omega), hbl.out⟩
theorem toProg_any (nm : ByteArray) (F : Ps) (hl : F.len ≤ 1048576) (hs : F.Sm) (v : Value) (w : World) (hr : PRow 0 w F v) : Calls Tryz.prog 7 #[.agg #[.string nm, v]] w (PrPost nm F w) :=
  (toProg_k nm F hl hs v w hr).mono fun e w' ⟨u, he, h1, _, hB⟩ => ⟨u, he, h1, hB⟩

set_option maxHeartbeats 1600000 in
theorem eqProg_any (nm : ByteArray) (F : Ps) (hl : F.len ≤ 1048576) (hs : F.Sm) (va vb : Value) (w : World) (ha : PRow 0 w F va) (hb : PRow 0 w F vb) :
    Calls Tryz.prog 10 #[.agg #[.string nm, va], .agg #[.string nm, vb]] w fun e w' => e = .returned (.bool true) ∧ Below w.heap.size w w' := by
  have hq : Hid (∀ W, Below w.heap.size w W → Calls Tryz.prog 29 #[va, vb] W fun e w' => e = .returned (.bool true) ∧ Below W.heap.size W w') := fun W hW => eqStepS_any F va vb W hl hs (ha.later hW) (hb.later hW)
  have HB : Hid (Below w.heap.size w ((w.alloc (.cells #[.string nm, va] 30)).alloc (.cells #[.string nm, vb] 30))) := ((Below.refl _ _).alloc (Nat.le_refl _) _).alloc (by simp) _
  clear hl hs ha hb
  go_enter Tryz.func10, Tryz.ntmps10
  go_wp2_with fail
  refine (hq.out _ HB.out).mono ?_
  rintro e w2 ⟨rfl, hB2⟩
  go_wp2
  go_ret
  exact ⟨rfl, HB.out.trans (hB2.mono HB.out.size)⟩
end Go.Proofs.YtnikomgdcddchaaGreat

/- Marks, and lists of texts that are held against each other. -/
namespace Go.Proofs.YtnikomgdcddchaaGreat
open Go.RowKit
set_option linter.unusedVariables false

theorem conv1 (w : World) (c : Int) (h0 : 0 ≤ c) (h1 : c < 256) :
    (convert 37 9 (.slice (some ⟨w.heap.size, 0, none⟩) 1 1)).run Tryz.prog (w.alloc (.cells #[.int .u8 c] 5)) = .ok (.string (Pl.bs [c.toNat.toUInt8])) (w.alloc (.cells #[.int .u8 c] 5)) := by
  have hc : ((c.toNat.toUInt8.toNat : Nat) : Int) = c := by
    have : c.toNat.toUInt8.toNat = c.toNat % 256 := by simp
    omega
  refine run_convert_bytes_back _ 37 9 5 ⟨w.heap.size, 0, none⟩ 1 [c.toNat.toUInt8] Tryz.underlying37 Tryz.underlying5 Tryz.underlying9 ?_
  intro j hj
  have : j = 0 := by simpa using hj
  subst this
  simp only [List.getElem_cons_zero, hc]
  exact cell_one_new w (.int .u8 c) 5 0 _ rfl

theorem bs_append (a b : List UInt8) : Pl.bs a ++ Pl.bs b = Pl.bs (a ++ b) := Pl.eq_of_data (by simp [Pl.bs])

set_option maxHeartbeats 800000 in
theorem markText_any (k : Nat) (h1 : 1 ≤ k) (h2 : k ≤ 16777216) (w : World) :
    Calls Tryz.prog 31 #[.int .i64 k] w fun e w' => e = .returned (.string (Pl.bs (Pl.mark k))) ∧ Below w.heap.size w w' := by
  go_enter Tryz.func31, Tryz.ntmps31
  go_wp2
  go_loopw [0, 3] (fun kv ov wr => ∃ (j : Nat) (out : List UInt8), j ≤ k ∧ kv = .int .i64 j ∧ ov = .string (Pl.bs out) ∧ Hid (Pl.dec k = Pl.dec j ++ out) ∧ out.length + j ≤ 2 * k ∧ Below w.heap.size w wr) (fun kv _ _ => (intOf kv).toNat)
  case atStart => exact ⟨k, [], Nat.le_refl _, rfl, rfl, by simp [Hid], by simp; omega, Below.refl _ _⟩
  case round =>
    obtain ⟨j, out, hj, rfl, rfl, HD, hol, hB⟩ := hrel
    have hos : (Pl.bs out).size = out.length := rfl
    by_cases hj0 : 0 < j
    · have hcv := conv1 wr (48 + (j : Int) % 10) (by omega) (by omega)
      generalize hd : (48 + (j : Int) % 10).toNat.toUInt8 = d at hcv
      have HDD := hide hd
      clear hd
      have hds : (Pl.bs [d]).size = 1 := rfl
      go_wp2
      go_roundw
      case rel =>
        refine ⟨j / 10, d :: out, by omega, by go_num, by rw [bs_append]; rfl, ?_, by simp; omega, hB.alloc hB.size _⟩
        show _ = _
        rw [HD.out, Pl.dec_step j (by omega), ← HDD.out, show (48 + (j : Int) % 10).toNat = 48 + j % 10 from by omega]
        simp
      case measure => simp [intOf]; omega
    · go_wp2
      go_ret
      refine ⟨?_, hB⟩
      have hj' : j = 0 := by omega
      have : Pl.mark k = 109 :: out := by unfold Pl.mark; rw [HD.out, hj', Pl.dec_zero]; rfl
      rw [this]
      show Ending.returned (.string (Pl.bs [109] ++ Pl.bs out)) = _
      rw [bs_append]; rfl
end Go.Proofs.YtnikomgdcddchaaGreat

/- An expression marked: nothing but its own rows is written, and where its parts lie stays. -/
namespace Go.Proofs.YtnikomgdcddchaaGreat
open Go.RowKit
set_option linter.unusedVariables false

def MarkP (F : Fo) : Prop := ∀ (lo hi : Nat) (v : Value) (w : World) (k : Nat), SkRow lo hi w F v → lo ≤ hi → hi ≤ w.heap.size → 1 ≤ k → k + 5 * F.nodes ≤ 16777216 →
  Calls Tryz.prog 50 #[v, .int .i64 k] w fun e w' => e = .returned (.int .i64 ((k + 5 * F.nodes : Nat) : Int)) ∧ Kept lo hi w w'

set_option maxHeartbeats 1600000 in
theorem markExprS_of (F : Fo) (ih : ∀ i nd k, F.get i = some (nd, k) → MarkP k) : MarkP F := by
  intro lo hi v w k hs hlh hhw hk1 hkb
  have HS := hide hs
  obtain ⟨ad, cap, rfl, hc, hm, hx⟩ := hs
  unfold maxLen at hm
  have IH := hide ih
  have HX := hide hx
  clear hx ih
  have hall := F.kn_all
  go_enter Tryz.func50, Tryz.ntmps50
  go_wp2_with fail
  go_loopw [1, 5] (fun kv iv wr => ∃ i q : Nat, i ≤ F.len ∧ iv = .int .i64 i ∧ kv = .int .i64 q ∧ Hid (q = k + 5 * (i + F.kn i)) ∧ Hid (Kept lo hi w wr)) (fun _ iv _ => F.len - (intOf iv).toNat)
  case atStart => exact ⟨0, k, by omega, rfl, rfl, hide (by rw [F.kn_zero]; omega), Kept.refl _ _ _⟩
  case round =>
    obtain ⟨i, q, hi', rfl, rfl, HQ, HK⟩ := hrel
    by_cases hlt : i < F.len
    · obtain ⟨g, rfl, hlg, hgh, hsk⟩ := HX.out (by omega)
      obtain ⟨nd, k', hget⟩ := F.get_some i hlt
      have HSK := hide (SkAt.kept HK.out hsk hlg hgh)
      have HG := hide hget
      have HKN := hide (F.kn_succ i nd k' hget)
      have hle := F.kn_le (i + 1)
      have hq1 : 1 ≤ q := by have := HQ.out; omega
      have hq2 : q + 5 + 5 * k'.nodes ≤ 16777216 := by have := HQ.out; have := HKN.out; omega
      have hszr : Hid (hi ≤ wr.heap.size) := by
        show _ ≤ _
        have := HK.out.1.size; omega
      have hm1 := hide (markText_any (q + 3) (by omega) (by omega))
      have hm2 := hide (markText_any (q + 3 + 1) (by omega) (by omega))
      have IHk := hide (IH.out i nd k' hget)
      clear hsk hget hle hall
      obtain ⟨⟨u0, x0⟩, ⟨u1, x1⟩, ⟨u2, x2⟩, ⟨u3, x3⟩, ⟨u4, x4⟩, ⟨u5, x5, _⟩, hfz⟩ := HSK.out.cells HG.out
      have y0 := hfz (i * 6)
      have y1 := hfz (i * 6 + 1)
      have y2 := hfz (i * 6 + 2)
      have hii : (i : Int) < (F.len : Int) := by omega
      clear hfz x3 x4 x5
      have HK3 : Hid (Kept lo hi wr (((wr.setCell ⟨g, i * 6, none⟩ (.int .i64 (q : Int))).setCell ⟨g, i * 6 + 1, none⟩ (.int .i64 ((q : Int) + 1))).setCell ⟨g, i * 6 + 2, none⟩ (.int .i64 ((q : Int) + 1 + 1)))) :=
        ((kept_set hlg hgh (by omega) _).trans (kept_set hlg hgh (by omega) _)).trans (kept_set hlg hgh (by omega) _)
      go_wp2_with fail
      generalize (((wr.setCell ⟨g, i * 6, none⟩ (.int .i64 (q : Int))).setCell ⟨g, i * 6 + 1, none⟩ (.int .i64 ((q : Int) + 1))).setCell ⟨g, i * 6 + 2, none⟩ (.int .i64 ((q : Int) + 1 + 1))) = W3 at HK3 ⊢
      rw [show ((q : Int) + 1 + 1 + 1) = ((q + 3 : Nat) : Int) by omega]
      refine (hm1.out _).mono ?_
      rintro e w4 ⟨rfl, hB4⟩
      have hsz3 : hi ≤ W3.heap.size := by have := HK3.out.1.size; have := hszr.out; omega
      have HK4 : Hid (Kept lo hi wr w4) := HK3.out.trans (kept_of_below hB4 hsz3 hlh)
      have hsz4 : hi ≤ w4.heap.size := by have := hB4.size; omega
      have HSK4 := hide (SkAt.kept HK4.out HSK.out hlg hgh)
      clear hB4 hm1 HK3 x0 x1 x2 y0 y1 y2
      obtain ⟨_, _, _, ⟨u3, x3⟩, _, _, hfz⟩ := HSK4.out.cells HG.out
      have y3 := hfz (i * 6 + 3)
      clear hfz
      have HK5 : Hid (Kept lo hi wr (w4.setCell ⟨g, i * 6 + 1 + 2, none⟩ (.string (Pl.bs (Pl.mark (q + 3)))))) := HK4.out.trans (kept_set hlg hgh (by omega) _)
      go_wp2_with fail
      generalize (w4.setCell ⟨g, i * 6 + 1 + 2, none⟩ (.string (Pl.bs (Pl.mark (q + 3))))) = W5 at HK5 ⊢
      rw [show ((q : Int) + 3 + 1) = ((q + 3 + 1 : Nat) : Int) by omega]
      refine (hm2.out _).mono ?_
      rintro e w6 ⟨rfl, hB6⟩
      have hsz5 : hi ≤ W5.heap.size := by have := HK5.out.1.size; have := hszr.out; omega
      have HK6 : Hid (Kept lo hi wr w6) := HK5.out.trans (kept_of_below hB6 hsz5 hlh)
      have hsz6 : hi ≤ w6.heap.size := by have := hB6.size; omega
      have HSK6 := hide (SkAt.kept HK6.out HSK.out hlg hgh)
      clear hB6 hm2 HK5 x3 y3 HK4 HSK4
      obtain ⟨_, _, _, _, ⟨u4, x4⟩, ⟨u5, x5, hsr⟩, hfz⟩ := HSK6.out.cells HG.out
      have y4 := hfz (i * 6 + 4)
      have HK7 : Hid (Kept lo hi w6 (w6.setCell ⟨g, i * 6 + 4, none⟩ (.string (Pl.bs (Pl.mark (q + 3 + 1)))))) := kept_set hlg hgh (by omega) _
      have hrec := hide (IHk.out lo hi u5 _ (q + 5) (hsr.kept HK7.out) hlh (by have := HK7.out.1.size; omega) (by omega) (by omega))
      have HK8 : Hid (Kept lo hi wr (w6.setCell ⟨g, i * 6 + 4, none⟩ (.string (Pl.bs (Pl.mark (q + 3 + 1)))))) := HK6.out.trans HK7.out
      clear hfz HK7 HK6 HSK6
      obtain ⟨a5, c5, rfl, _⟩ := hsr
      go_wp2_with fail
      rw [show ((q : Int) + 3 + 1 + 1) = ((q + 5 : Nat) : Int) by omega]
      refine hrec.out.mono ?_
      rintro e w9 ⟨rfl, hK9⟩
      have HK9 : Hid (Kept lo hi w w9) := HK.out.trans (HK8.out.trans hK9)
      clear hK9 hrec HK8
      go_wp2
      go_roundw
      case rel => exact ⟨i + 1, q + 5 + 5 * k'.nodes, by omega, by go_num, rfl, hide (by have := HQ.out; have := HKN.out; omega), HK9⟩
      case measure => simp [intOf]; omega
    · have hie : i = F.len := by omega
      go_wp2
      go_ret
      refine ⟨?_, HK.out⟩
      have := HQ.out
      rw [hie] at this
      rw [show q = k + 5 * F.nodes by omega]
      rfl
theorem markExprS_fuel : ∀ (n : Nat) (F : Fo), F.nodes ≤ n → MarkP F
  | 0, F, h => markExprS_of F fun i nd k hk => by have := F.get_nodes i nd k hk; omega
  | n + 1, F, h => markExprS_of F fun i nd k hk => markExprS_fuel n k (by have := F.get_nodes i nd k hk; omega)
theorem markExprS_any (F : Fo) : MarkP F := markExprS_fuel F.nodes F (Nat.le_refl _)
end Go.Proofs.YtnikomgdcddchaaGreat

/- A program marked: nothing but its own rows is written. -/
namespace Go.Proofs.YtnikomgdcddchaaGreat
open Go.RowKit
set_option linter.unusedVariables false

/-- steps of block g are being marked: its slices stay, and so does all from block a on -/
def MkIn (lo hi : Nat) (w : World) (g a : Nat) (C : Array Value) (X : World) : Prop :=
  lo ≤ g ∧ g < a ∧ a ≤ hi ∧ hi ≤ w.heap.size ∧ (∃ C2, X.heap[g]? = some (.cells C2 47 (0, 0)) ∧ C2.size = C.size ∧ ∀ j, 8 ≤ j % 11 → C2[j]? = C[j]?) ∧ (∀ x, a ≤ x → x < w.heap.size → X.heap[x]? = w.heap[x]?) ∧ Kpt lo hi w X
theorem MkIn.start {lo hi g a : Nat} {w : World} {C : Array Value} (h1 : lo ≤ g) (h2 : g < a) (h3 : a ≤ hi) (h4 : hi ≤ w.heap.size) (hC : w.heap[g]? = some (.cells C 47 (0, 0))) : MkIn lo hi w g a C w :=
  ⟨h1, h2, h3, h4, ⟨C, hC, rfl, fun _ _ => rfl⟩, fun _ _ _ => rfl, Kpt.refl _ _ _⟩
theorem MkIn.size {lo hi g a : Nat} {w X : World} {C : Array Value} (h : MkIn lo hi w g a C X) : w.heap.size ≤ X.heap.size := h.2.2.2.2.2.2.1.size
theorem MkIn.set {lo hi g a : Nat} {w X : World} {C : Array Value} (h : MkIn lo hi w g a C X) (o : Nat) (ho : o % 11 < 8) (u : Value) : MkIn lo hi w g a C (X.setCell ⟨g, o, none⟩ u) := by
  obtain ⟨h1, h2, h3, h4, ⟨C2, hC, hs, hj⟩, hx, hk⟩ := h
  refine ⟨h1, h2, h3, h4, ⟨_, block_set hC o u, by simp [hs], fun j h8 => ?_⟩, fun x ha hl => ?_, hk.trans (kpt_set h1 (by omega) u)⟩
  · rw [Array.getElem?_setIfInBounds_ne (by intro e; subst e; omega)]
    exact hj j h8
  · rw [Below.heap_setCell _ _ _ _ (by show x ≠ g; omega)]
    exact hx x ha hl
theorem MkIn.below {lo hi g a : Nat} {w X X' : World} {C : Array Value} (h : MkIn lo hi w g a C X) (hB : Below X.heap.size X X') : MkIn lo hi w g a C X' := by
  have hs0 := h.size
  obtain ⟨h1, h2, h3, h4, ⟨C2, hC, hs, hj⟩, hx, hk⟩ := h
  refine ⟨h1, h2, h3, h4, ⟨C2, (hB.block g (by omega)).trans hC, hs, hj⟩, fun x ha hl => (hB.block x (by omega)).trans (hx x ha hl), hk.trans (kpt_of_below hB (by omega) (by omega))⟩
theorem MkIn.range {lo hi g a m : Nat} {w X X' : World} {C : Array Value} (h : MkIn lo hi w g a C X) (hK : Kpt a m X X') (ham : a ≤ m) (hm : m ≤ hi) : MkIn lo hi w g m C X' := by
  have hs0 := h.size
  obtain ⟨h1, h2, h3, h4, ⟨C2, hC, hs, hj⟩, hx, hk⟩ := h
  refine ⟨h1, by omega, hm, h4, ⟨C2, (hK.1.block g (by omega)).trans hC, hs, hj⟩, fun x ha hl => (hK.2 x ha (by omega)).trans (hx x (by omega) hl), hk.trans (hK.wide (by omega) hm)⟩
theorem MkIn.old {lo hi g a : Nat} {w X : World} {C : Array Value} (h : MkIn lo hi w g a C X) {o : Nat} (ho : o < C.size) : (∃ u, X.cell? ⟨g, o, none⟩ = some u) ∧ X.frozen? ⟨g, o, none⟩ = false := by
  obtain ⟨h1, h2, h3, h4, ⟨C2, hC, hs, hj⟩, hx, hk⟩ := h
  exact ⟨⟨C2[o]'(by omega), by rw [cell_of_block hC]; exact Array.getElem?_eq_getElem (by omega)⟩, free_of_block hC o⟩
theorem MkIn.slice {lo hi g a : Nat} {w X : World} {C : Array Value} (h : MkIn lo hi w g a C X) {o : Nat} (ho : 8 ≤ o % 11) {v : Value} (hv : C[o]? = some v) : X.cell? ⟨g, o, none⟩ = some v := by
  obtain ⟨h1, h2, h3, h4, ⟨C2, hC, hs, hj⟩, hx, hk⟩ := h
  rw [cell_of_block hC, hj o ho]
  exact hv
theorem MkIn.lt {lo hi g a : Nat} {w X : World} {C : Array Value} (h : MkIn lo hi w g a C X) : g < X.heap.size := by
  have hs0 := h.size
  obtain ⟨h1, h2, h3, h4, _⟩ := h
  omega
theorem MkIn.same {lo hi g a : Nat} {w X : World} {C : Array Value} (h : MkIn lo hi w g a C X) : ∀ x, a ≤ x → x < w.heap.size → X.heap[x]? = w.heap[x]? := h.2.2.2.2.2.1
theorem MkIn.kpt {lo hi g a : Nat} {w X : World} {C : Array Value} (h : MkIn lo hi w g a C X) : Kpt lo hi w X := h.2.2.2.2.2.2
theorem MkIn.hi {lo hi g a : Nat} {w X : World} {C : Array Value} (h : MkIn lo hi w g a C X) : hi ≤ w.heap.size := h.2.2.2.1

/-- steps from i on are still to be marked -/
def MkAt (lo hi : Nat) (w : World) (ad : Option Addr) (R : Ps) (i : Nat) (wr : World) : Prop :=
  0 < R.len → ∃ g a C, ad = some ⟨g, 0, none⟩ ∧ w.heap[g]? = some (.cells C 47 (0, 0)) ∧ PSkAt w R g i a hi ∧ MkIn lo hi w g a C wr

def MarkSP (F : Ps) : Prop := ∀ (lo hi : Nat) (v : Value) (w : World) (k : Nat), PSkRow lo hi w F v → hi ≤ w.heap.size → 1 ≤ k → k + 8 * F.wt ≤ 16777216 →
  Calls Tryz.prog 30 #[v, .int .i64 k] w fun e w' => ∃ q : Nat, e = .returned (.int .i64 q) ∧ 1 ≤ q ∧ q ≤ k + 8 * F.wt ∧ Kpt lo hi w w'
theorem Ps.pos {R : Ps} (h : 0 < R.len) : ∃ sn b e r, R = .cons sn b e r := by
  cases R with
  | nil => simp [Ps.len] at h
  | cons sn b e r => exact ⟨sn, b, e, r, rfl⟩

set_option maxRecDepth 100000 in
set_option maxHeartbeats 3200000 in
theorem markStepS_of (F : Ps) (ih : ∀ G : Ps, G.nodes < F.nodes → MarkSP G) : MarkSP F := by
  intro lo hi v w k hs hhw hk1 hkb
  have HS := hide hs
  obtain ⟨ad, cap, rfl, hc, hm, hlh, hx⟩ := hs
  unfold maxLen at hm
  have IH := hide ih
  have HX := hide hx
  have HKB := hide hkb
  have HST : Hid (MkAt lo hi w ad F 0 w) := by
    refine hide fun h0 => ?_
    obtain ⟨g, ha, hl, hu, hsk⟩ := hx h0
    obtain ⟨sn, b, e, r, rfl⟩ := Ps.pos h0
    have hle := hsk.le
    have hsk' := hsk
    obtain ⟨C, _, _, _, _, hC, _⟩ := hsk'
    exact ⟨g, g + 1, C, ha, hC, hsk, MkIn.start hl (by omega) hle hhw hC⟩
  clear hx ih hkb
  go_enter Tryz.func30, Tryz.ntmps30
  go_wp2_with fail
  go_loopw [1, 5] (fun kv iv wr => ∃ (i q : Nat) (R : Ps), i + R.len = F.len ∧ iv = .int .i64 i ∧ kv = .int .i64 q ∧ 1 ≤ q ∧ q ≤ 16777216 ∧ Hid (q + 8 * R.wt ≤ k + 8 * F.wt) ∧ Hid (R.nodes ≤ F.nodes) ∧ Hid (MkAt lo hi w ad R i wr) ∧ Hid (Kpt lo hi w wr)) (fun _ iv _ => F.len - (intOf iv).toNat)
  case atStart => exact ⟨0, k, F, by omega, rfl, rfl, hk1, by have := HKB.out; omega, hide (Nat.le_refl _), hide (Nat.le_refl _), HST, Kpt.refl _ _ _⟩
  case round =>
    obtain ⟨i, q, R, hiR, rfl, rfl, hq1, hq2, HQ, HN, HM, HK⟩ := hrel
    by_cases hlt : i < F.len
    · obtain ⟨sn, b, e, r, rfl⟩ := Ps.pos (R := R) (by omega)
      obtain ⟨g, a, C, rfl, hCw, hsk, hmk⟩ := HM.out (by omega)
      obtain ⟨m, ⟨C', m1, m2, ve, vb, vl, hC', hcs, e8, e9, e10, ham1, hse, hsb, hsl⟩, hskr⟩ := hsk.head
      rw [hCw] at hC'
      cases hC'
      have hm12 := hsb.le
      have hm2 := hsl.le
      have hmh := hskr.le
      have hrl : i + 1 + r.len = F.len := by simp only [Ps.len] at hiR; omega
      have HNb := hide (IH.out b (by have := HN.out; simp only [Ps.nodes] at this; omega))
      have HNl := hide (IH.out e (by have := HN.out; simp only [Ps.nodes] at this; omega))
      have HNr : Hid (r.nodes ≤ F.nodes) := by
        show _ ≤ _
        have := HN.out; simp only [Ps.nodes] at this; omega
      have HW : Hid (q + 8 * sn.ek.nodes + 8 * b.wt + 8 * e.wt + 8 * r.wt + 8 ≤ k + 8 * F.wt) := by
        show _ ≤ _
        have := HQ.out; simp only [Ps.wt] at this; omega
      have hqb : q + 8 + 8 * sn.ek.nodes + 8 * b.wt + 8 * e.wt ≤ 16777216 := by have := HW.out; have := HKB.out; omega
      have HMK := hide hmk
      have HSE := hide hse
      have HSB := hide hsb
      have HSL := hide hsl
      have HSR := hide hskr
      have HCW := hide hCw
      have HA1 := hide ham1
      have HA2 := hide hm12
      have HA3 := hide hm2
      have HA4 := hide hmh
      have H8 := hide e8
      have H9 := hide e9
      have H10 := hide e10
      clear hsk hmk hse hsb hsl hskr hCw hiR HM HN HQ HX HS HST ham1 hm12 hm2 hmh e8 e9 e10
      have t1 := hide (markText_any (q + 1) (by omega) (by omega))
      have t2 := hide (markText_any (q + 2) (by omega) (by omega))
      have t3 := hide (markText_any (q + 6) (by omega) (by omega))
      have t4 := hide (markText_any (q + 7) (by omega) (by omega))
      have hii : (i : Int) < (F.len : Int) := by omega
      obtain ⟨⟨u0, x0⟩, y0⟩ := HMK.out.old (o := i * 11) (by omega)
      go_wp2_with fail
      rw [show ((q : Int) + 1) = ((q + 1 : Nat) : Int) by omega]
      have M1 := hide (HMK.out.set (i * 11) (by omega) (.int .i64 (q : Int)))
      generalize (wr.setCell ⟨g, i * 11, none⟩ (.int .i64 (q : Int))) = W1 at M1 ⊢
      clear x0 y0 HMK
      refine (t1.out _).mono ?_
      rintro e1 W2 ⟨rfl, hB2⟩
      have M2 := hide (M1.out.below hB2)
      clear hB2 M1 t1
      obtain ⟨⟨u1, x1⟩, y1⟩ := M2.out.old (o := i * 11 + 1) (by omega)
      go_wp2_with fail
      have M3 := hide (M2.out.set (i * 11 + 1) (by omega) (.string (Pl.bs (Pl.mark (q + 1)))))
      generalize (W2.setCell ⟨g, i * 11 + 1, none⟩ (.string (Pl.bs (Pl.mark (q + 1))))) = W3 at M3 ⊢
      clear x1 y1 M2
      rw [show ((q : Int) + 1 + 1) = ((q + 2 : Nat) : Int) by omega]
      refine (t2.out _).mono ?_
      rintro e1 W4 ⟨rfl, hB4⟩
      have M4 := hide (M3.out.below hB4)
      clear hB4 M3 t2
      obtain ⟨⟨u1, x1⟩, y1⟩ := M4.out.old (o := i * 11 + 2) (by omega)
      obtain ⟨⟨u2, x2⟩, y2⟩ := M4.out.old (o := i * 11 + 3) (by omega)
      obtain ⟨⟨u3, x3⟩, y3⟩ := M4.out.old (o := i * 11 + 3 + 1) (by omega)
      obtain ⟨⟨u4, x4⟩, y4⟩ := M4.out.old (o := i * 11 + 3 + 2) (by omega)
      go_wp2_with fail
      have M5 := hide ((((M4.out.set (i * 11 + 2) (by omega) (.string (Pl.bs (Pl.mark (q + 2))))).set (i * 11 + 3) (by omega) (.int .i64 ((q : Int) + 2 + 1))).set (i * 11 + 4) (by omega) (.int .i64 ((q : Int) + 2 + 1 + 1))).set (i * 11 + 3 + 1 + 1) (by omega) (.int .i64 ((q : Int) + 2 + 1 + 1 + 1)))
      generalize ((((W4.setCell ⟨g, i * 11 + 2, none⟩ (.string (Pl.bs (Pl.mark (q + 2))))).setCell ⟨g, i * 11 + 3, none⟩ (.int .i64 ((q : Int) + 2 + 1))).setCell ⟨g, i * 11 + 4, none⟩ (.int .i64 ((q : Int) + 2 + 1 + 1))).setCell ⟨g, i * 11 + 3 + 1 + 1, none⟩ (.int .i64 ((q : Int) + 2 + 1 + 1 + 1))) = W5 at M5 ⊢
      clear x1 y1 x2 y2 x3 y3 x4 y4 M4
      rw [show ((q : Int) + 2 + 1 + 1 + 1 + 1) = ((q + 6 : Nat) : Int) by omega]
      refine (t3.out _).mono ?_
      rintro e1 W6 ⟨rfl, hB6⟩
      have M6 := hide (M5.out.below hB6)
      clear hB6 M5 t3
      obtain ⟨⟨u1, x1⟩, y1⟩ := M6.out.old (o := i * 11 + 6) (by omega)
      go_wp2_with fail
      have M7 := hide (M6.out.set (i * 11 + 3 + 1 + 2) (by omega) (.string (Pl.bs (Pl.mark (q + 6)))))
      generalize (W6.setCell ⟨g, i * 11 + 3 + 1 + 2, none⟩ (.string (Pl.bs (Pl.mark (q + 6))))) = W7 at M7 ⊢
      clear x1 y1 M6
      rw [show ((q : Int) + 6 + 1) = ((q + 7 : Nat) : Int) by omega]
      refine (t4.out _).mono ?_
      rintro e1 W8 ⟨rfl, hB8⟩
      have M8 := hide (M7.out.below hB8)
      clear hB8 M7 t4
      obtain ⟨⟨u1, x1⟩, y1⟩ := M8.out.old (o := i * 11 + 7) (by omega)
      have x8 := M8.out.slice (o := i * 11 + 8) (by omega) H8.out
      obtain ⟨ae, ce, rfl, _⟩ := HSE.out
      go_wp2_with fail
      have M9 := hide (M8.out.set (i * 11 + 3 + 4) (by omega) (.string (Pl.bs (Pl.mark (q + 7)))))
      generalize (W8.setCell ⟨g, i * 11 + 3 + 4, none⟩ (.string (Pl.bs (Pl.mark (q + 7))))) = W9 at M9 ⊢
      clear x1 y1 x8 M8
      rw [show ((q : Int) + 7 + 1) = ((q + 8 : Nat) : Int) by omega]
      have hle1 : m1 ≤ hi := by have := HA2.out; have := HA3.out; have := HA4.out; omega
      have hle2 : m2 ≤ hi := by have := HA3.out; have := HA4.out; omega
      have hme := hide (markExprS_any sn.ek a m1 _ W9 (q + 8) (HSE.out.over (fun x h1 h2 => M9.out.same x h1 (by omega)) (Nat.le_refl _)) HA1.out (by have := M9.out.size; omega) (by omega) (by omega))
      refine hme.out.mono ?_
      rintro e1 WA ⟨rfl, hKA⟩
      have MA := hide (M9.out.range ⟨hKA.1, hKA.2.1⟩ HA1.out hle1)
      clear hKA hme M9
      have x9 := MA.out.slice (o := i * 11 + 9) (by omega) H9.out
      have hgA := MA.out.lt
      have hmb := hide (HNb.out m1 m2 vb WA (q + 8 + 5 * sn.ek.nodes) (HSB.out.over (fun x h1 h2 => MA.out.same x h1 (by omega)) (Nat.le_refl _)) (by have := MA.out.size; omega) (by omega) (by omega))
      obtain ⟨ab, cb, rfl, _⟩ := HSB.out
      generalize hqA : q + 8 + 5 * sn.ek.nodes = qA at hmb ⊢
      have HQA := hide hqA
      clear hqA
      go_wp2_with fail
      refine hmb.out.mono ?_
      rintro e1 WB ⟨qB, rfl, hqB1, hqB2, hKB⟩
      have MB := hide (MA.out.range hKB HA2.out hle2)
      have HQB := hide hqB2
      clear hKB hmb MA x9 hqB2 hgA
      have x10 := MB.out.slice (o := i * 11 + 10) (by omega) H10.out
      have hgB := MB.out.lt
      have hml := hide (HNl.out m2 m vl WB qB (HSL.out.over (fun x h1 h2 => MB.out.same x h1 (by have := HA4.out; omega)) (Nat.le_refl _)) (by have := MB.out.size; have := HA4.out; omega) (by omega) (by have := HQB.out; have := HQA.out; omega))
      obtain ⟨al, cl, rfl, _⟩ := HSL.out
      go_wp2_with fail
      refine hml.out.mono ?_
      rintro e1 WC ⟨qC, rfl, hqC1, hqC2, hKC⟩
      have MC := hide (MB.out.range hKC HA3.out HA4.out)
      have HQC := hide hqC2
      clear hKC hml MB x10 hqC2 hgB
      have hqC3 : qC ≤ 16777216 := by have := HQC.out; have := HQB.out; have := HQA.out; omega
      go_wp2
      go_roundw
      case rel =>
        refine ⟨i + 1, qC, r, by omega, by go_num, rfl, hqC1, hqC3, hide (by have := HQC.out; have := HQB.out; have := HQA.out; have := HW.out; omega), HNr, hide fun _ => ⟨g, m, C, rfl, HCW.out, HSR.out, MC.out⟩, MC.out.kpt⟩
      case measure => simp [intOf]; omega
    · go_wp2
      go_ret
      exact ⟨q, rfl, hq1, by have := HQ.out; omega, HK.out⟩
theorem markStepS_fuel : ∀ (n : Nat) (F : Ps), F.nodes ≤ n → MarkSP F
  | 0, F, h => markStepS_of F fun G hG => by omega
  | n + 1, F, h => markStepS_of F fun G hG => markStepS_fuel n G (by omega)
theorem markStepS_any (F : Ps) : MarkSP F := markStepS_fuel F.nodes F (Nat.le_refl _)
end Go.Proofs.YtnikomgdcddchaaGreat

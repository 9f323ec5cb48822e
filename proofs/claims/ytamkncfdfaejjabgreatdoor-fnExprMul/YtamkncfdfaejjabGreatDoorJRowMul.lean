/- Joined: Code LawMul RowFnExprMul. -/
import Derived.Test.YtamkncfdfaejjabGreatDoorJDw
import Derived.ProofKit
import Derived.OpenShut
import Derived.Test.YtamkncfdfaejjabGreatDoorJLw
import Derived.Test.YtamkncfdfaejjabGreatDoorRows
import Derived.Test.YtamkncfdfaejjabGreatDoorTie
import Derived.Test.YtamkncfdfaejjabGreatDoorCards
import Derived.ChangeOld
import Derived.WalkKit
import Derived.ShutString
import Derived.Below
import Derived.Lib.SmallJoins
import Derived.LaidMore
import Derived.LaidHandle
import Derived.Stop.Joined
import Derived.SevenTiedAt
/- A code that came in, read as bytes. -/
namespace Go.Proofs.YtamkncfdfaejjabGreatDoor
open Go.ChangeShapes Go.WideShapes Go.ChangeAt Go.RowKit
theorem code_nil (W : World) : CodeOk W.heap.size W (.slice none 0 0) 0 := ⟨none, 0, rfl, Nat.le_refl _, by unfold maxLen; omega, fun h => by omega⟩
theorem code_row {W : World} {x : Addr} {len cap : Nat} {zs : List Int} (hl : len ≤ cap) (hm : cap ≤ maxLen) (hz : zs.length = cap)
    (hcell : ∀ i, i < zs.length → W.cell? (x.add i) = some (.int .u8 (zs.getD i 0))) (hwz : ∀ n ∈ zs, (Lit.int .u8 n).wf = true) : CodeOk W.heap.size W (.slice (some x) len cap) len := by
  refine ⟨some x, cap, rfl, hl, hm, fun h0 => ?_⟩
  obtain ⟨b, off, rfl, hc⟩ := ints_at hcell (by omega)
  have hlt : b < W.heap.size := World.block_lt_of_cell? W ⟨b, off, none⟩ (by have := hc 0 (by omega); simpa using this)
  refine ⟨b, off, rfl, hlt, fun i hi => ⟨_, hc i (by omega), ?_⟩⟩
  have hmem : zs.getD i 0 ∈ zs := by
    have : i < zs.length := by omega
    rw [List.getD_eq_getElem?_getD, List.getElem?_eq_getElem this, Option.getD_some]; exact List.getElem_mem this
  have := hwz _ hmem
  simp [Lit.wf, IntKind.min, IntKind.max, IntKind.signed, IntKind.bits] at this ⊢
  exact this
end Go.Proofs.YtamkncfdfaejjabGreatDoor

/- The law that once something is that and no times it is nothing, walked. -/
namespace Go.Proofs.YtamkncfdfaejjabGreatDoor
open Go.RowKit
set_option linter.unusedVariables false
set_option linter.unusedSimpArgs false
theorem num_tx (n : Int) : NdTx (Pl.numNd n) .nil := ⟨sh_nil, sh_nil, by simp [Fo.len], trivial⟩
set_option maxRecDepth 100000 in
set_option maxHeartbeats 3200000 in
theorem lawFnExprMul (len : Nat) (c : Value) (W : World) (hc : CodeOk W.heap.size W c len) (hE : ErrT W) :
    Calls Tryz.prog 4 #[c] W fun e W' => e = .returned (.bool true) ∧ Below W.heap.size W W' := by
  by_cases hbig : 1048576 < len
  · obtain ⟨ad, cap, rfl, hlc, hcm, _⟩ := hc
    unfold maxLen at hcm
    have hb1 : (1048576 : Int) < (len : Int) := by omega
    go_enter Tryz.func4, Tryz.ntmps4
    go_wp2
    go_ret
    exact ⟨rfl, Below.refl _ _⟩
  have hd := hide (drawExprEval_any len c W hc (by omega))
  obtain ⟨ad, cap, rfl, hlc, hcm, _⟩ := hc
  unfold maxLen at hcm
  have hb1 : ¬ ((1048576 : Int) < (len : Int)) := by omega
  have HE := hide hE
  clear hE
  go_enter Tryz.func4, Tryz.ntmps4
  go_wp2_with fail
  refine hd.out.mono ?_
  rintro e W1 ⟨⟨nd, k, v, l, vl, ht, hp, _, rfl, hr, hrl⟩, hB⟩
  have HT := hide ht
  have HP := hide hp
  have HS1 := hide (EvSt.start (W := W) (nd := nd) hr hrl (HE.out.later hB) hB)
  obtain ⟨av, cv, rfl, _, _, _⟩ := hr
  obtain ⟨al, cl, rfl, _, _, _⟩ := hrl
  clear ht hp hB hd HE
  cases hq : Pl.evalO l nd k with
  | none =>
    have HQ := hide hq
    clear hq
    go_wp2_with fail
    refine (impl_none HT.out HP.out HS1.out.row HS1.out.prs HS1.out.err HQ.out).mono ?_
    rintro e W2 ⟨rfl, hB2⟩
    have HSa := hide (HS1.out.later hB2)
    have HS2 := hide (HSa.out.later (one_up W2 (.cells #[.int .i64 0, .int .i64 0, .string ⟨#[]⟩] 24)))
    have HV2 : Hid (VBox W2.heap.size ⟨0, 0, ⟨#[]⟩⟩ (W2.alloc (.cells #[.int .i64 0, .int .i64 0, .string ⟨#[]⟩] 24))) := VBox.start ⟨0, 0, ⟨#[]⟩⟩ W2
    clear hB2 HS1
    obtain ⟨c0, c1, c2, c3, c4, c5⟩ := cells6 HSa.out.box
    have hbx := blk_lt HSa.out.box
    go_wp2_with fail
    refine (spec_none HT.out HP.out HS2.out.row HS2.out.prs HQ.out).mono ?_
    rintro e W3 ⟨rfl, hB3⟩
    have HS3 := hide (HS2.out.later hB3)
    have HV3 := hide (HV2.out.later hB3)
    clear hB3 HS2 HV2 c0 c1 c2 c3 c4 c5 hbx
    obtain ⟨h0, v0, v1, v2⟩ := HV3.out.cells
    go_wp2
    go_ret
    exact ⟨rfl, HS3.out.low.alloc (HS3.out.low.size) _⟩
  | some x =>
    have HQ := hide hq
    clear hq
    go_wp2_with fail
    refine (impl_some HT.out HP.out HS1.out.row HS1.out.prs HS1.out.err HQ.out).mono ?_
    rintro e W2 ⟨rfl, hB2⟩
    have HSa := hide (HS1.out.later hB2)
    have HS2 := hide (HSa.out.later (one_up W2 (.cells #[.int .i64 x.k, .int .i64 x.n, .string x.t] 24)))
    have HV2 : Hid (VBox W2.heap.size x (W2.alloc (.cells #[.int .i64 x.k, .int .i64 x.n, .string x.t] 24))) := VBox.start x W2
    clear hB2 HS1
    obtain ⟨c0, c1, c2, c3, c4, c5⟩ := cells6 HSa.out.box
    have hbx := blk_lt HSa.out.box
    go_wp2_with fail
    refine (spec_some HT.out HP.out HS2.out.row HS2.out.prs HQ.out).mono ?_
    rintro e W3 ⟨rfl, hB3⟩
    have HS3 := hide (HS2.out.later hB3)
    have HV3 := hide (HV2.out.later hB3)
    clear hB3 HS2 HV2 c0 c1 c2 c3 c4 c5 hbx
    obtain ⟨h0, v0, v1, v2⟩ := HV3.out.cells
    obtain ⟨c0, c1, c2, c3, c4, c5⟩ := cells6 HS3.out.box
    have hbx := blk_lt HS3.out.box
    have hb1x : W1.heap.size < W3.heap.size + 1 := by omega
    have hb2x : W1.heap.size < W3.heap.size + 1 + 1 := by omega
    have hb3x : W1.heap.size < W3.heap.size + 1 + 1 + 1 := by omega
    have hb4x : W1.heap.size < W3.heap.size + 1 + 1 + 1 + 1 := by omega
    have hrg := Pl.okA_cases (Pl.evalO_some HQ.out).2.2.2
    by_cases hk : x.k = 1
    case neg =>
      have hkb : (x.k != 1) = true := by rw [bne_iff_ne]; exact hk
      clear hk hrg
      go_wp2
      go_ret
      exact ⟨rfl, HS3.out.low.alloc HS3.out.low.size _⟩
    have hkb : (x.k != 1) = false := by rw [hk]; rfl
    have HK := hide hk
    clear hk hrg
    go_wp2_with fail
    have HS4 := hide (((((((HS3.out.later (one_up _ (.cells #[.int .i64 x.k, .int .i64 x.n, .string x.t] 24))).later (one_up _ (.cells #[.int .i64 1, .int .i64 1, .int .i64 1, .string ⟨#[]⟩, .string ⟨#[]⟩, (.slice none 0 0)] 27))).later (one_up _ (.cells #[.int .i64 1, .int .i64 1, .int .i64 0, .string ⟨#[]⟩, .string ⟨#[]⟩, (.slice none 0 0)] 27))).later (one_up _ (.cells #[.int .i64 nd.k, .int .i64 nd.vk, .int .i64 nd.vn, .string nd.vt, .string nd.nm, (.slice av k.len cv), .int .i64 1, .int .i64 1, .int .i64 1, .string ⟨#[]⟩, .string ⟨#[]⟩, (.slice none 0 0)] 27))).later (one_up _ (.cells #[.int .i64 5, .int .i64 0, .int .i64 0, .string ⟨#[]⟩, .string ⟨#[]⟩, (.slice (some ⟨W3.heap.size + 1 + 1 + 1, 0, none⟩) 2 2)] 27))).later (one_up _ (.cells #[.int .i64 1, .int .i64 1, .int .i64 0, .string ⟨#[]⟩, .string ⟨#[]⟩, (.slice none 0 0), .int .i64 nd.k, .int .i64 nd.vk, .int .i64 nd.vn, .string nd.vt, .string nd.nm, (.slice av k.len cv)] 27))).later (one_up _ (.cells #[.int .i64 5, .int .i64 0, .int .i64 0, .string ⟨#[]⟩, .string ⟨#[]⟩, (.slice (some ⟨W3.heap.size + 1 + 1 + 1 + 1 + 1, 0, none⟩) 2 2)] 27)))
    have HV4 := hide (((((((HV3.out.later (one_up _ (.cells #[.int .i64 x.k, .int .i64 x.n, .string x.t] 24))).later (one_up _ (.cells #[.int .i64 1, .int .i64 1, .int .i64 1, .string ⟨#[]⟩, .string ⟨#[]⟩, (.slice none 0 0)] 27))).later (one_up _ (.cells #[.int .i64 1, .int .i64 1, .int .i64 0, .string ⟨#[]⟩, .string ⟨#[]⟩, (.slice none 0 0)] 27))).later (one_up _ (.cells #[.int .i64 nd.k, .int .i64 nd.vk, .int .i64 nd.vn, .string nd.vt, .string nd.nm, (.slice av k.len cv), .int .i64 1, .int .i64 1, .int .i64 1, .string ⟨#[]⟩, .string ⟨#[]⟩, (.slice none 0 0)] 27))).later (one_up _ (.cells #[.int .i64 5, .int .i64 0, .int .i64 0, .string ⟨#[]⟩, .string ⟨#[]⟩, (.slice (some ⟨W3.heap.size + 1 + 1 + 1, 0, none⟩) 2 2)] 27))).later (one_up _ (.cells #[.int .i64 1, .int .i64 1, .int .i64 0, .string ⟨#[]⟩, .string ⟨#[]⟩, (.slice none 0 0), .int .i64 nd.k, .int .i64 nd.vk, .int .i64 nd.vn, .string nd.vt, .string nd.nm, (.slice av k.len cv)] 27))).later (one_up _ (.cells #[.int .i64 5, .int .i64 0, .int .i64 0, .string ⟨#[]⟩, .string ⟨#[]⟩, (.slice (some ⟨W3.heap.size + 1 + 1 + 1 + 1 + 1, 0, none⟩) 2 2)] 27)))
    have HO1 : Hid (XBox (W3.heap.size + 1) ⟨1, 1, 1, ⟨#[]⟩, ⟨#[]⟩⟩ (.slice none 0 0) (((((((W3.alloc (.cells #[.int .i64 x.k, .int .i64 x.n, .string x.t] 24)).alloc (.cells #[.int .i64 1, .int .i64 1, .int .i64 1, .string ⟨#[]⟩, .string ⟨#[]⟩, (.slice none 0 0)] 27)).alloc (.cells #[.int .i64 1, .int .i64 1, .int .i64 0, .string ⟨#[]⟩, .string ⟨#[]⟩, (.slice none 0 0)] 27)).alloc (.cells #[.int .i64 nd.k, .int .i64 nd.vk, .int .i64 nd.vn, .string nd.vt, .string nd.nm, (.slice av k.len cv), .int .i64 1, .int .i64 1, .int .i64 1, .string ⟨#[]⟩, .string ⟨#[]⟩, (.slice none 0 0)] 27)).alloc (.cells #[.int .i64 5, .int .i64 0, .int .i64 0, .string ⟨#[]⟩, .string ⟨#[]⟩, (.slice (some ⟨W3.heap.size + 1 + 1 + 1, 0, none⟩) 2 2)] 27)).alloc (.cells #[.int .i64 1, .int .i64 1, .int .i64 0, .string ⟨#[]⟩, .string ⟨#[]⟩, (.slice none 0 0), .int .i64 nd.k, .int .i64 nd.vk, .int .i64 nd.vn, .string nd.vt, .string nd.nm, (.slice av k.len cv)] 27)).alloc (.cells #[.int .i64 5, .int .i64 0, .int .i64 0, .string ⟨#[]⟩, .string ⟨#[]⟩, (.slice (some ⟨W3.heap.size + 1 + 1 + 1 + 1 + 1, 0, none⟩) 2 2)] 27))) := blk_alloc (blk_alloc (blk_alloc (blk_alloc (blk_alloc (alloc_top (by simp))))))
    have HO2 : Hid (XBox (W3.heap.size + 1 + 1) ⟨1, 1, 0, ⟨#[]⟩, ⟨#[]⟩⟩ (.slice none 0 0) (((((((W3.alloc (.cells #[.int .i64 x.k, .int .i64 x.n, .string x.t] 24)).alloc (.cells #[.int .i64 1, .int .i64 1, .int .i64 1, .string ⟨#[]⟩, .string ⟨#[]⟩, (.slice none 0 0)] 27)).alloc (.cells #[.int .i64 1, .int .i64 1, .int .i64 0, .string ⟨#[]⟩, .string ⟨#[]⟩, (.slice none 0 0)] 27)).alloc (.cells #[.int .i64 nd.k, .int .i64 nd.vk, .int .i64 nd.vn, .string nd.vt, .string nd.nm, (.slice av k.len cv), .int .i64 1, .int .i64 1, .int .i64 1, .string ⟨#[]⟩, .string ⟨#[]⟩, (.slice none 0 0)] 27)).alloc (.cells #[.int .i64 5, .int .i64 0, .int .i64 0, .string ⟨#[]⟩, .string ⟨#[]⟩, (.slice (some ⟨W3.heap.size + 1 + 1 + 1, 0, none⟩) 2 2)] 27)).alloc (.cells #[.int .i64 1, .int .i64 1, .int .i64 0, .string ⟨#[]⟩, .string ⟨#[]⟩, (.slice none 0 0), .int .i64 nd.k, .int .i64 nd.vk, .int .i64 nd.vn, .string nd.vt, .string nd.nm, (.slice av k.len cv)] 27)).alloc (.cells #[.int .i64 5, .int .i64 0, .int .i64 0, .string ⟨#[]⟩, .string ⟨#[]⟩, (.slice (some ⟨W3.heap.size + 1 + 1 + 1 + 1 + 1, 0, none⟩) 2 2)] 27))) := blk_alloc (blk_alloc (blk_alloc (blk_alloc (alloc_top (by simp)))))
    have HO3 : Hid ((((((((W3.alloc (.cells #[.int .i64 x.k, .int .i64 x.n, .string x.t] 24)).alloc (.cells #[.int .i64 1, .int .i64 1, .int .i64 1, .string ⟨#[]⟩, .string ⟨#[]⟩, (.slice none 0 0)] 27)).alloc (.cells #[.int .i64 1, .int .i64 1, .int .i64 0, .string ⟨#[]⟩, .string ⟨#[]⟩, (.slice none 0 0)] 27)).alloc (.cells #[.int .i64 nd.k, .int .i64 nd.vk, .int .i64 nd.vn, .string nd.vt, .string nd.nm, (.slice av k.len cv), .int .i64 1, .int .i64 1, .int .i64 1, .string ⟨#[]⟩, .string ⟨#[]⟩, (.slice none 0 0)] 27)).alloc (.cells #[.int .i64 5, .int .i64 0, .int .i64 0, .string ⟨#[]⟩, .string ⟨#[]⟩, (.slice (some ⟨W3.heap.size + 1 + 1 + 1, 0, none⟩) 2 2)] 27)).alloc (.cells #[.int .i64 1, .int .i64 1, .int .i64 0, .string ⟨#[]⟩, .string ⟨#[]⟩, (.slice none 0 0), .int .i64 nd.k, .int .i64 nd.vk, .int .i64 nd.vn, .string nd.vt, .string nd.nm, (.slice av k.len cv)] 27)).alloc (.cells #[.int .i64 5, .int .i64 0, .int .i64 0, .string ⟨#[]⟩, .string ⟨#[]⟩, (.slice (some ⟨W3.heap.size + 1 + 1 + 1 + 1 + 1, 0, none⟩) 2 2)] 27)).heap[W3.heap.size + 1 + 1 + 1]? = some (.cells #[.int .i64 nd.k, .int .i64 nd.vk, .int .i64 nd.vn, .string nd.vt, .string nd.nm, (.slice av k.len cv), .int .i64 1, .int .i64 1, .int .i64 1, .string ⟨#[]⟩, .string ⟨#[]⟩, (.slice none 0 0)] 27)) := blk_alloc (blk_alloc (blk_alloc (alloc_top (by simp))))
    have HO4 : Hid (XBox (W3.heap.size + 1 + 1 + 1 + 1) ⟨5, 0, 0, ⟨#[]⟩, ⟨#[]⟩⟩ (.slice (some ⟨W3.heap.size + 1 + 1 + 1, 0, none⟩) 2 2) (((((((W3.alloc (.cells #[.int .i64 x.k, .int .i64 x.n, .string x.t] 24)).alloc (.cells #[.int .i64 1, .int .i64 1, .int .i64 1, .string ⟨#[]⟩, .string ⟨#[]⟩, (.slice none 0 0)] 27)).alloc (.cells #[.int .i64 1, .int .i64 1, .int .i64 0, .string ⟨#[]⟩, .string ⟨#[]⟩, (.slice none 0 0)] 27)).alloc (.cells #[.int .i64 nd.k, .int .i64 nd.vk, .int .i64 nd.vn, .string nd.vt, .string nd.nm, (.slice av k.len cv), .int .i64 1, .int .i64 1, .int .i64 1, .string ⟨#[]⟩, .string ⟨#[]⟩, (.slice none 0 0)] 27)).alloc (.cells #[.int .i64 5, .int .i64 0, .int .i64 0, .string ⟨#[]⟩, .string ⟨#[]⟩, (.slice (some ⟨W3.heap.size + 1 + 1 + 1, 0, none⟩) 2 2)] 27)).alloc (.cells #[.int .i64 1, .int .i64 1, .int .i64 0, .string ⟨#[]⟩, .string ⟨#[]⟩, (.slice none 0 0), .int .i64 nd.k, .int .i64 nd.vk, .int .i64 nd.vn, .string nd.vt, .string nd.nm, (.slice av k.len cv)] 27)).alloc (.cells #[.int .i64 5, .int .i64 0, .int .i64 0, .string ⟨#[]⟩, .string ⟨#[]⟩, (.slice (some ⟨W3.heap.size + 1 + 1 + 1 + 1 + 1, 0, none⟩) 2 2)] 27))) := blk_alloc (blk_alloc (alloc_top (by simp)))
    have HO5 : Hid ((((((((W3.alloc (.cells #[.int .i64 x.k, .int .i64 x.n, .string x.t] 24)).alloc (.cells #[.int .i64 1, .int .i64 1, .int .i64 1, .string ⟨#[]⟩, .string ⟨#[]⟩, (.slice none 0 0)] 27)).alloc (.cells #[.int .i64 1, .int .i64 1, .int .i64 0, .string ⟨#[]⟩, .string ⟨#[]⟩, (.slice none 0 0)] 27)).alloc (.cells #[.int .i64 nd.k, .int .i64 nd.vk, .int .i64 nd.vn, .string nd.vt, .string nd.nm, (.slice av k.len cv), .int .i64 1, .int .i64 1, .int .i64 1, .string ⟨#[]⟩, .string ⟨#[]⟩, (.slice none 0 0)] 27)).alloc (.cells #[.int .i64 5, .int .i64 0, .int .i64 0, .string ⟨#[]⟩, .string ⟨#[]⟩, (.slice (some ⟨W3.heap.size + 1 + 1 + 1, 0, none⟩) 2 2)] 27)).alloc (.cells #[.int .i64 1, .int .i64 1, .int .i64 0, .string ⟨#[]⟩, .string ⟨#[]⟩, (.slice none 0 0), .int .i64 nd.k, .int .i64 nd.vk, .int .i64 nd.vn, .string nd.vt, .string nd.nm, (.slice av k.len cv)] 27)).alloc (.cells #[.int .i64 5, .int .i64 0, .int .i64 0, .string ⟨#[]⟩, .string ⟨#[]⟩, (.slice (some ⟨W3.heap.size + 1 + 1 + 1 + 1 + 1, 0, none⟩) 2 2)] 27)).heap[W3.heap.size + 1 + 1 + 1 + 1 + 1]? = some (.cells #[.int .i64 1, .int .i64 1, .int .i64 0, .string ⟨#[]⟩, .string ⟨#[]⟩, (.slice none 0 0), .int .i64 nd.k, .int .i64 nd.vk, .int .i64 nd.vn, .string nd.vt, .string nd.nm, (.slice av k.len cv)] 27)) := blk_alloc (alloc_top (by simp))
    have HO6 : Hid (XBox (W3.heap.size + 1 + 1 + 1 + 1 + 1 + 1) ⟨5, 0, 0, ⟨#[]⟩, ⟨#[]⟩⟩ (.slice (some ⟨W3.heap.size + 1 + 1 + 1 + 1 + 1, 0, none⟩) 2 2) (((((((W3.alloc (.cells #[.int .i64 x.k, .int .i64 x.n, .string x.t] 24)).alloc (.cells #[.int .i64 1, .int .i64 1, .int .i64 1, .string ⟨#[]⟩, .string ⟨#[]⟩, (.slice none 0 0)] 27)).alloc (.cells #[.int .i64 1, .int .i64 1, .int .i64 0, .string ⟨#[]⟩, .string ⟨#[]⟩, (.slice none 0 0)] 27)).alloc (.cells #[.int .i64 nd.k, .int .i64 nd.vk, .int .i64 nd.vn, .string nd.vt, .string nd.nm, (.slice av k.len cv), .int .i64 1, .int .i64 1, .int .i64 1, .string ⟨#[]⟩, .string ⟨#[]⟩, (.slice none 0 0)] 27)).alloc (.cells #[.int .i64 5, .int .i64 0, .int .i64 0, .string ⟨#[]⟩, .string ⟨#[]⟩, (.slice (some ⟨W3.heap.size + 1 + 1 + 1, 0, none⟩) 2 2)] 27)).alloc (.cells #[.int .i64 1, .int .i64 1, .int .i64 0, .string ⟨#[]⟩, .string ⟨#[]⟩, (.slice none 0 0), .int .i64 nd.k, .int .i64 nd.vk, .int .i64 nd.vn, .string nd.vt, .string nd.nm, (.slice av k.len cv)] 27)).alloc (.cells #[.int .i64 5, .int .i64 0, .int .i64 0, .string ⟨#[]⟩, .string ⟨#[]⟩, (.slice (some ⟨W3.heap.size + 1 + 1 + 1 + 1 + 1, 0, none⟩) 2 2)] 27))) := alloc_top (by simp)
    have HRA := hide (row_of_two (nd := nd) (nd2 := Pl.numNd 1) (k2 := .nil) (Nat.zero_le _) HO3.out HS4.out.row (row_nil 0 _))
    have HRB := hide (row_of_two (nd := Pl.numNd 0) (k := .nil) (nd2 := nd) (Nat.zero_le _) HO5.out (row_nil 0 _) HS4.out.row)
    clear HS3 HV3 h0 v0 v1 v2 c0 c1 c2 c3 c4 c5 hbx hb1x hb2x hb3x hb4x HSa HO3 HO5 HO1 HO2
    generalize (((((((W3.alloc (.cells #[.int .i64 x.k, .int .i64 x.n, .string x.t] 24)).alloc (.cells #[.int .i64 1, .int .i64 1, .int .i64 1, .string ⟨#[]⟩, .string ⟨#[]⟩, (.slice none 0 0)] 27)).alloc (.cells #[.int .i64 1, .int .i64 1, .int .i64 0, .string ⟨#[]⟩, .string ⟨#[]⟩, (.slice none 0 0)] 27)).alloc (.cells #[.int .i64 nd.k, .int .i64 nd.vk, .int .i64 nd.vn, .string nd.vt, .string nd.nm, (.slice av k.len cv), .int .i64 1, .int .i64 1, .int .i64 1, .string ⟨#[]⟩, .string ⟨#[]⟩, (.slice none 0 0)] 27)).alloc (.cells #[.int .i64 5, .int .i64 0, .int .i64 0, .string ⟨#[]⟩, .string ⟨#[]⟩, (.slice (some ⟨W3.heap.size + 1 + 1 + 1, 0, none⟩) 2 2)] 27)).alloc (.cells #[.int .i64 1, .int .i64 1, .int .i64 0, .string ⟨#[]⟩, .string ⟨#[]⟩, (.slice none 0 0), .int .i64 nd.k, .int .i64 nd.vk, .int .i64 nd.vn, .string nd.vt, .string nd.nm, (.slice av k.len cv)] 27)).alloc (.cells #[.int .i64 5, .int .i64 0, .int .i64 0, .string ⟨#[]⟩, .string ⟨#[]⟩, (.slice (some ⟨W3.heap.size + 1 + 1 + 1 + 1 + 1, 0, none⟩) 2 2)] 27)) = X at *
    generalize W3.heap.size = n3 at *
    generalize W2.heap.size = n2 at *
    obtain ⟨h1, h2⟩ := Pl.law_mul HQ.out HK.out
    rcases ho : Pl.okN (opNd 5) (two2 nd k (Pl.numNd 1) .nil) 5 with _ | _ <;> rw [ho] at h1 h2
    · skip
      have H2 := hide h2
      refine (impl_none (tx_two HT.out (num_tx 1) 5) HP.out HRA.out HS4.out.prs HS4.out.err h1).mono ?_
      rintro e W4 ⟨rfl, hB4⟩
      have HS5 := hide ((HS4.out.later hB4).later (one_up W4 (.cells #[.int .i64 0, .int .i64 0, .string ⟨#[]⟩] 24)))
      have HV5 := hide ((HV4.out.later hB4).later (one_up W4 (.cells #[.int .i64 0, .int .i64 0, .string ⟨#[]⟩] 24)))
      have HRA5 := hide ((HRA.out.later hB4).later (one_up W4 (.cells #[.int .i64 0, .int .i64 0, .string ⟨#[]⟩] 24)))
      have HRB5 := hide ((HRB.out.later hB4).later (one_up W4 (.cells #[.int .i64 0, .int .i64 0, .string ⟨#[]⟩] 24)))
      have HXA5 := hide ((HO4.out.later hB4).later (one_up W4 (.cells #[.int .i64 0, .int .i64 0, .string ⟨#[]⟩] 24)))
      have HXB5 := hide ((HO6.out.later hB4).later (one_up W4 (.cells #[.int .i64 0, .int .i64 0, .string ⟨#[]⟩] 24)))
      have HW5 : Hid (VBox W4.heap.size ⟨0, 0, ⟨#[]⟩⟩ (W4.alloc (.cells #[.int .i64 0, .int .i64 0, .string ⟨#[]⟩] 24))) := VBox.start ⟨0, 0, ⟨#[]⟩⟩ W4
      obtain ⟨c0, c1, c2, c3, c4, c5⟩ := cells6 (HO6.out.later hB4)
      have hb := blk_lt (HO6.out.later hB4)
      clear hB4 h1 h2
      go_wp2_with fail
      refine (impl_none (tx_two (num_tx 0) HT.out 5) HP.out HRB5.out HS5.out.prs HS5.out.err H2.out).mono ?_
      rintro e W6 ⟨rfl, hB6⟩
      have HS6 := hide ((HS5.out.later hB6).later (one_up W6 (.cells #[.int .i64 0, .int .i64 0, .string ⟨#[]⟩] 24)))
      have HV6 := hide ((HV5.out.later hB6).later (one_up W6 (.cells #[.int .i64 0, .int .i64 0, .string ⟨#[]⟩] 24)))
      have HW6 := hide ((HW5.out.later hB6).later (one_up W6 (.cells #[.int .i64 0, .int .i64 0, .string ⟨#[]⟩] 24)))
      have HY6 : Hid (VBox W6.heap.size ⟨0, 0, ⟨#[]⟩⟩ (W6.alloc (.cells #[.int .i64 0, .int .i64 0, .string ⟨#[]⟩] 24))) := VBox.start ⟨0, 0, ⟨#[]⟩⟩ W6
      have HRA6 := hide ((HRA5.out.later hB6).later (one_up W6 (.cells #[.int .i64 0, .int .i64 0, .string ⟨#[]⟩] 24)))
      have HRB6 := hide ((HRB5.out.later hB6).later (one_up W6 (.cells #[.int .i64 0, .int .i64 0, .string ⟨#[]⟩] 24)))
      have HXB6 := hide ((HXB5.out.later hB6).later (one_up W6 (.cells #[.int .i64 0, .int .i64 0, .string ⟨#[]⟩] 24)))
      have HXA6 := hide ((HXA5.out.later hB6).later (one_up W6 (.cells #[.int .i64 0, .int .i64 0, .string ⟨#[]⟩] 24)))
      obtain ⟨c0, c1, c2, c3, c4, c5⟩ := cells6 (HXA5.out.later hB6)
      have hb := blk_lt (HXA5.out.later hB6)
      clear hB6 HS5 HV5 HW5 HRA5 HRB5 HXA5 HXB5
      go_wp2_with fail
      refine (implOkX (tx_two HT.out (num_tx 1) 5) HRA6.out).mono ?_
      rw [ho]
      rintro e W7 ⟨rfl, hB7⟩
      have HS7 := hide (HS6.out.later hB7)
      obtain ⟨h0, v0, v1, v2⟩ := (HV6.out.later hB7).cells
      obtain ⟨i0, w0, w1, w2⟩ := (HW6.out.later hB7).cells
      obtain ⟨j0, y0, y1, y2⟩ := (HY6.out.later hB7).cells
      clear hB7 HS6 HV6 HW6 HY6 HRA6 HRB6 HXB6 HXA6 c0 c1 c2 c3 c4 c5 hb
      go_wp2
      go_ret
      exact ⟨rfl, HS7.out.low⟩
    · skip
      have H2 := hide h2
      refine (impl_some (x := ⟨x.k, x.n, x.t⟩) (tx_two HT.out (num_tx 1) 5) HP.out HRA.out HS4.out.prs HS4.out.err h1).mono ?_
      rintro e W4 ⟨rfl, hB4⟩
      have HS5 := hide ((HS4.out.later hB4).later (one_up W4 (.cells #[.int .i64 x.k, .int .i64 x.n, .string x.t] 24)))
      have HV5 := hide ((HV4.out.later hB4).later (one_up W4 (.cells #[.int .i64 x.k, .int .i64 x.n, .string x.t] 24)))
      have HRA5 := hide ((HRA.out.later hB4).later (one_up W4 (.cells #[.int .i64 x.k, .int .i64 x.n, .string x.t] 24)))
      have HRB5 := hide ((HRB.out.later hB4).later (one_up W4 (.cells #[.int .i64 x.k, .int .i64 x.n, .string x.t] 24)))
      have HXA5 := hide ((HO4.out.later hB4).later (one_up W4 (.cells #[.int .i64 x.k, .int .i64 x.n, .string x.t] 24)))
      have HXB5 := hide ((HO6.out.later hB4).later (one_up W4 (.cells #[.int .i64 x.k, .int .i64 x.n, .string x.t] 24)))
      have HW5 : Hid (VBox W4.heap.size ⟨x.k, x.n, x.t⟩ (W4.alloc (.cells #[.int .i64 x.k, .int .i64 x.n, .string x.t] 24))) := VBox.start ⟨x.k, x.n, x.t⟩ W4
      obtain ⟨c0, c1, c2, c3, c4, c5⟩ := cells6 (HO6.out.later hB4)
      have hb := blk_lt (HO6.out.later hB4)
      clear hB4 h1 h2
      go_wp2_with fail
      refine (impl_some (x := ⟨1, 0, ⟨#[]⟩⟩) (tx_two (num_tx 0) HT.out 5) HP.out HRB5.out HS5.out.prs HS5.out.err H2.out).mono ?_
      rintro e W6 ⟨rfl, hB6⟩
      have HS6 := hide ((HS5.out.later hB6).later (one_up W6 (.cells #[.int .i64 1, .int .i64 0, .string ⟨#[]⟩] 24)))
      have HV6 := hide ((HV5.out.later hB6).later (one_up W6 (.cells #[.int .i64 1, .int .i64 0, .string ⟨#[]⟩] 24)))
      have HW6 := hide ((HW5.out.later hB6).later (one_up W6 (.cells #[.int .i64 1, .int .i64 0, .string ⟨#[]⟩] 24)))
      have HY6 : Hid (VBox W6.heap.size ⟨1, 0, ⟨#[]⟩⟩ (W6.alloc (.cells #[.int .i64 1, .int .i64 0, .string ⟨#[]⟩] 24))) := VBox.start ⟨1, 0, ⟨#[]⟩⟩ W6
      have HRA6 := hide ((HRA5.out.later hB6).later (one_up W6 (.cells #[.int .i64 1, .int .i64 0, .string ⟨#[]⟩] 24)))
      have HRB6 := hide ((HRB5.out.later hB6).later (one_up W6 (.cells #[.int .i64 1, .int .i64 0, .string ⟨#[]⟩] 24)))
      have HXB6 := hide ((HXB5.out.later hB6).later (one_up W6 (.cells #[.int .i64 1, .int .i64 0, .string ⟨#[]⟩] 24)))
      have HXA6 := hide ((HXA5.out.later hB6).later (one_up W6 (.cells #[.int .i64 1, .int .i64 0, .string ⟨#[]⟩] 24)))
      obtain ⟨c0, c1, c2, c3, c4, c5⟩ := cells6 (HXA5.out.later hB6)
      have hb := blk_lt (HXA5.out.later hB6)
      clear hB6 HS5 HV5 HW5 HRA5 HRB5 HXA5 HXB5
      go_wp2_with fail
      refine (implOkX (tx_two HT.out (num_tx 1) 5) HRA6.out).mono ?_
      rw [ho]
      rintro e W7 ⟨rfl, hB7⟩
      have HS7 := hide (HS6.out.later hB7)
      obtain ⟨h0, v0, v1, v2⟩ := (HV6.out.later hB7).cells
      obtain ⟨i0, w0, w1, w2⟩ := (HW6.out.later hB7).cells
      obtain ⟨j0, y0, y1, y2⟩ := (HY6.out.later hB7).cells
      clear hB7 HS6 HV6 HW6 HY6 HRA6 HRB6 HXB6 HXA6 c0 c1 c2 c3 c4 c5 hb
      go_wp2
      go_ret
      exact ⟨rfl, HS7.out.low⟩
end Go.Proofs.YtamkncfdfaejjabGreatDoor

/- Of every code: once what is drawn is that, and no times it is nothing, told as the specification tells it; package errors' own variable standing as its text lays it (the card ties that); no other condition.
   The row's step and the card of FnExprMul, out of its walk. -/
namespace Go.Proofs.YtamkncfdfaejjabGreatDoor.fnExprMul
open Go.ChangeShapes Go.WideShapes Go.ChangeAt Go.RowKit Go.Joins
open Go.ChangeMaps (open_string shut_string)
set_option linter.unusedVariables false

theorem own : ownKnob Tryz.prog.godebug = none := by kernel_rfl
theorem laidOut : laidOutB Tryz.prog = true := by kernel_rfl
theorem et : Tryz.prog.globalNamed "errors.errorType" = some 0 := by kernel_rfl
theorem rt : (Tryz.prog.cutTypes.find? (·.1 == "internal/reflectlite.rtype")).map (·.2) = some 112 := by kernel_rfl
theorem oneRow : ((List.range Tryz.prog.types.size).filter fun t => Tryz.prog.rowNamed t [101, 114, 114, 111, 114]) = [61] := by kernel_rfl
/-- what the listed variable gives the walk -/
theorem handle_of_laid {W : World} (h : laidMetH Tryz.prog Rows.fnExprMulRow.laid W) : ErrT W := by
  have h' : laidMet Tryz.prog [] W ∧ handlesMet Tryz.prog Rows.fnExprMulRow.laid W := h
  obtain ⟨name, u, ty, e1, e2, e3, e4, e5⟩ := h'.2 _ (List.mem_singleton.2 rfl)
  have en : name = [101, 114, 114, 111, 114] := (Option.some.inj e1).symm
  subst en
  obtain rfl := Option.some.inj (rt.symm.trans e2)
  have hm : ty ∈ (List.range Tryz.prog.types.size).filter fun t => Tryz.prog.rowNamed t [101, 114, 114, 111, 114] := List.mem_filter.2 ⟨List.mem_range.2 e3, e4⟩
  rw [oneRow] at hm
  obtain rfl := List.mem_singleton.1 hm
  have hh : typeHandle Tryz.prog 61 = hdl 61 := by kernel_rfl
  rw [hh] at e5
  show W.cell? ⟨0, 0, none⟩ = _
  simpa using World.var?_cell et e5 0
/-- a world that meets the condition -/
noncomputable def laidWorld (os : Os) : World :=
  let w0 := World.holding Tryz.prog os ⟨#[], #[], []⟩
  { w0 with heap := w0.heap.modify 0 fun
      | .cells _ t frozen => .cells #[rtV 61] t frozen
      | o => o }
theorem laidWorld_met (os : Os) (args : Array Value) : laidMetH Tryz.prog Rows.fnExprMulRow.laid ((laidWorld os).forCall (fun _ _ => 0) ⟨#[], args, []⟩).memory :=
  laidMetH_of_parts (laidMet_nil _ _) (by kernel_rfl)

set_option maxRecDepth 100000 in
theorem lifted (os : Os) (started : os.Started) (H : Type) (enc : TypeId × Value → H) :
    ReturnsInHanded {} Tryz.checked os 4 .any (fun w args => (Rows.fnExprMulSpec.pre enc Tryz.prog Tryz.f4 [] false w args ∧ laidMetH Tryz.prog Rows.fnExprMulRow.laid w) ∧ sizedMet enc Tryz.prog Tryz.f4 (OpenSpec.ofChange Rows.fnExprMulSpec) false w args)
      (Rows.fnExprMulSpec.post enc Tryz.prog Tryz.f4 false true false false) := by
  refine returnsInHanded_of_change_and (C := Tryz.checked) (X := fun w _ => laidMetH Tryz.prog Rows.fnExprMulRow.laid w) (fun _ _ _ hh h => h.of_heap hh) own started (by kernel_rfl) Tryz.func4
    (ChangeSpec.witness_at (enc := enc) (C := Tryz.checked) (os := os) (X := fun w _ => laidMetH Tryz.prog Rows.fnExprMulRow.laid w) false (laidWorld os) #[.slice none 0 0] 8 rfl (by kernel_rfl) (by kernel_rfl) (by kernel_rfl) (by kernel_rfl) (by kernel_rfl) (laidWorld_met os _)) ?_
  intro W base args ds gs before hval0 hW _ _ hL _
  have hval : ∀ (j : Nat) t v, Tryz.f4.params[j]? = some t → args[j]? = some v → Value.okWide Tryz.prog W .any base t v := hval0
  have hW' := hW
  obtain ⟨p, q, hA0, hV, rfl, hfz, hnd⟩ := hW
  have hA : DataW.TrodAll enc Tryz.prog W 0 (fun _ => true) true Tryz.f4.params.toList args.toList ds p := hA0
  rw [Tryz.params4] at hA hval
  obtain ⟨v0, vs0, d0, ds0, p0, q0, hargs, rfl, rfl, h0, r0⟩ := trodAll_cons hA
  obtain ⟨rfl, rfl, rfl⟩ := trodAll_nil r0
  obtain rfl : args = #[v0] := by cases args; simp_all
  obtain ⟨rfl, rfl⟩ := trodVars_none hV
  obtain ⟨a0, len0, cap0, rfl⟩ := okWide_slice Tryz.underlying22 (hval 0 22 v0 rfl rfl)
  have k0 := h0
  have lt0 : ∀ x ∈ p0, x.block < W.heap.size := by obtain ⟨m, hm⟩ := k0; exact DataW.trod_lt m _ _ _ hm
  have w0 : CodeOk W.heap.size W (.slice a0 len0 cap0) len0 := by
    obtain ⟨fuel, hf⟩ := h0
    rcases open_ints Tryz.underlying22 Tryz.underlying5 (by kernel_rfl) hf with ⟨hcs, _⟩ | ⟨x, l, c, zs, hcs, _, hl, hm, hz, _, hcell, hwz⟩
    · simp [Value.cells] at hcs
      obtain ⟨rfl, rfl, rfl⟩ := hcs
      exact code_nil W
    · simp [Value.cells] at hcs
      obtain ⟨rfl, rfl, rfl⟩ := hcs
      exact code_row hl hm (by simpa using hz) hcell hwz
  have hE := handle_of_laid hL
  clear hA0 hval0
  refine (lawFnExprMul len0 _ W w0 hE).mono fun e W' ⟨he, hg⟩ => ?_
  subst he
  exact ⟨_, rfl, _, _, _, [], _, [], hW', trodAll_mk1 (shut_bool Tryz.underlying4 _), (trodAll_cons_mk (Below.trod laidOut (by kernel_rfl) (of_decide_eq_true (by kernel_rfl)) k0 hg lt0) trodAll_mk0), rfl, hg.frame _, fun h => by cases h⟩

theorem over : Rows.FnExprMulSaid :=
  OpenClaim.holds_of_wide 4 Tryz.f4 rfl rfl rfl rfl rfl rfl rfl ⟨rfl, rfl, rfl, rfl, rfl⟩ rfl rfl rfl rfl rfl (by kernel_rfl) Tryz.func4 (by kernel_rfl)
    (of_decide_eq_true (by kernel_rfl)) (by unfold Func.isWrapper; first | (rw [if_pos (by decide +kernel)]; kernel_rfl) | (rw [if_neg (by decide +kernel)]; exact ⟨rfl, rfl⟩))
    (fun os started H enc _ => lifted os started H enc)

theorem carded : Rows.FnExprMulCardSaid :=
  Claim7.holds_tied_plain_at .later [] [.handle] true (true, "a681ec0f1a9b07d44db4055c43cd7f36f73431963d6b906bc89cdf05647ba64e") true
    over (fun _ h => by cases h) (by kernel_rfl) (fun _ h => by cases h) fnExprMul_row_tie rfl ⟨rfl, rfl⟩ (by kernel_rfl) rfl
    (fun f fn hf hfn => by
      obtain rfl : f = 4 := Option.some.inj ((show Tryz.prog.funcNamed "loop.example/backstitch/laws.FnExprMul" = some 4 by kernel_rfl).symm.trans hf) |>.symm
      obtain rfl : fn = Tryz.f4 := (Option.some.inj (Tryz.func4.symm.trans hfn)).symm
      exact ⟨by kernel_rfl, fun j t ht => by
        rw [Tryz.params4] at ht
        have hm : t ∈ [22] := by simpa using Array.mem_of_getElem? ht
        have hall : ([22].all fun u => !Tryz.prog.wantsStandIn u) = true := by kernel_rfl
        exact (show Tryz.prog.wantsStandIn t = false by simpa using List.all_eq_true.1 hall t hm)⟩)
    (by kernel_rfl)
end Go.Proofs.YtamkncfdfaejjabGreatDoor.fnExprMul
namespace Go.Proofs.YtamkncfdfaejjabGreatDoor
theorem fnExprMul_holds : Rows.FnExprMulCardSaid := fnExprMul.carded
end Go.Proofs.YtamkncfdfaejjabGreatDoor

/- What an expression is, as the program has it. -/
import Derived.Test.YtiffgomkhoalpaaGreatDoorEvB2
import Derived.Test.YtiffgomkhoalpaaGreatDoorEvV2
import Derived.Test.YtiffgomkhoalpaaGreatDoorOk2f
namespace Go.Proofs.YtiffgomkhoalpaaGreatDoor
open Go.RowKit
set_option linter.unusedVariables false
set_option linter.unusedSimpArgs false
set_option maxRecDepth 100000 in
set_option maxHeartbeats 3200000 in
theorem implExprEval_any (nd : Nd) (k : Fo) (v : Value) (l : List Pl.Pr) (hpw : ∀ p ∈ l, PrWf p) (vl : Value) (w : World) (ht : nd.vt.size ≤ maxLen) (hn : nd.nm.size ≤ maxLen) (hwf : k.Wf) (hl : k.len ≤ 1048576) (hs : k.Sm) (hr : RowAt 0 w k v) (hrl : PrRow w l vl) (hE : ErrT w) :
    Calls Tryz.prog 14 #[ndV nd v, vl] w (EvPost (Pl.evalO l nd k) w) := by
  have hok := hide (fun W (hW : Below w.heap.size w W) => implExprOk_any nd k v W ht hn hwf hl hs (hr.later hW))
  have hva := hide (fun W (hW : Below w.heap.size w W) => exprVars_any l hpw vl W (hrl.later hW))
  have hev := hide (fun (h1 : Pl.okN nd k 5 = true) (h2 : Pl.varsB l = true) b n W (hW : Below w.heap.size w W) (hm : MapV W b n (Pl.lookP l)) => exprBy_any 5 nd k v (Pl.lookP l) b n W h1 (Pl.look_ok h2) (hr.later hW) hm (hE.later hW))
  have hR : Hid (∀ b1 b2, Pl.okN nd k 5 = b1 → Pl.varsB l = b2 → Pl.evalO l nd k = if (b1 && b2) = true then Pl.ev (Pl.lookP l) nd k else none) := by
    intro b1 b2 h1 h2
    subst h1 h2
    rfl
  have HS := hide (EB.start (w := w) (nd := nd) (v := v))
  obtain ⟨ad, cap, rfl, _⟩ := hr
  obtain ⟨a2, c2, rfl, _⟩ := hrl
  obtain ⟨nk, vk, vn, vt, nm⟩ := nd
  have hq : ∃ b1 b2, Pl.okN ⟨nk, vk, vn, vt, nm⟩ k 5 = b1 ∧ Pl.varsB l = b2 := ⟨_, _, rfl, rfl⟩
  obtain ⟨b1, b2, hb1, hb2⟩ := hq
  have hR2 := hide (hR.out b1 b2 hb1 hb2)
  rw [hb1] at hok
  unfold VarsPost at hva
  rw [hb2] at hva
  have H1 := hide hb1
  have H2 := hide hb2
  clear ht hn hwf hs hpw hR hb1 hb2 hE
  generalize Pl.evalO l ⟨nk, vk, vn, vt, nm⟩ k = R at *
  generalize Pl.ev (Pl.lookP l) ⟨nk, vk, vn, vt, nm⟩ k = R0 at *
  go_enter Tryz.func14, Tryz.ntmps14
  go_wp2_with fail
  refine (hva.out _ (two_below _ _ _)).mono ?_
  rintro e w1 ⟨hB1, ⟨rfl, rfl⟩ | ⟨rfl, b, n, rfl, hmv⟩⟩
  · have HX1 := hide (HS.out.later hB1)
    clear hB1 HS hok hva hev
    obtain ⟨hb, r0, r1, r2, f0, f1, f2⟩ := HX1.out.back
    go_wp2
    obtain ⟨m0, m1, m2⟩ := es3 HX1.out.2.1 (.int .i64 0) (.int .i64 0) (.string ⟨#[]⟩)
    refine bodyPost_ret (v := .tuple #[vaV ⟨0, 0, ⟨#[]⟩⟩, .bool false]) (by simp [results, Tryz.results14, go_sem, m0, m1, m2]) rfl ?_
    exact ⟨by rw [hR2.out, Bool.and_false]; rfl, below_es3 HX1.out.2.2 (by omega) _ _ _⟩
  · have HX1 := hide (HS.out.later hB1)
    have HM1 := hide hmv
    clear hB1 HS hva hmv
    have hbp : w.heap.size < w1.heap.size := (Array.getElem?_eq_some_iff.1 HX1.out.1).1
    have p0 : w1.cell? ⟨w.heap.size, 0, none⟩ = some (.int .i64 nk) := cell_of_block HX1.out.1 0
    have p1 : w1.cell? ⟨w.heap.size, 1, none⟩ = some (.int .i64 vk) := cell_of_block HX1.out.1 1
    have p2 : w1.cell? ⟨w.heap.size, 2, none⟩ = some (.int .i64 vn) := cell_of_block HX1.out.1 2
    have p3 : w1.cell? ⟨w.heap.size, 3, none⟩ = some (.string vt) := cell_of_block HX1.out.1 3
    have p4 : w1.cell? ⟨w.heap.size, 4, none⟩ = some (.string nm) := cell_of_block HX1.out.1 4
    have p5 : w1.cell? ⟨w.heap.size, 5, none⟩ = some (.slice ad k.len cap) := cell_of_block HX1.out.1 5
    go_wp2_with fail
    refine (hok.out _ HX1.out.2.2).mono ?_
    rintro e w2 ⟨rfl, hB2⟩
    have HX2 := hide (HX1.out.later hB2)
    have HM2 := hide (HM1.out.later hB2)
    clear hB2 HX1 HM1 hok p0 p1 p2 p3 p4 p5 hbp
    cases b1
    · obtain ⟨hb, r0, r1, r2, f0, f1, f2⟩ := HX2.out.back
      go_wp2
      obtain ⟨m0, m1, m2⟩ := es3 HX2.out.2.1 (.int .i64 0) (.int .i64 0) (.string ⟨#[]⟩)
      refine bodyPost_ret (v := .tuple #[vaV ⟨0, 0, ⟨#[]⟩⟩, .bool false]) (by simp [results, Tryz.results14, go_sem, m0, m1, m2]) rfl ?_
      exact ⟨by rw [hR2.out]; rfl, below_es3 HX2.out.2.2 (by omega) _ _ _⟩
    · have hbp : w.heap.size < w2.heap.size := (Array.getElem?_eq_some_iff.1 HX2.out.1).1
      have p0 : w2.cell? ⟨w.heap.size, 0, none⟩ = some (.int .i64 nk) := cell_of_block HX2.out.1 0
      have p1 : w2.cell? ⟨w.heap.size, 1, none⟩ = some (.int .i64 vk) := cell_of_block HX2.out.1 1
      have p2 : w2.cell? ⟨w.heap.size, 2, none⟩ = some (.int .i64 vn) := cell_of_block HX2.out.1 2
      have p3 : w2.cell? ⟨w.heap.size, 3, none⟩ = some (.string vt) := cell_of_block HX2.out.1 3
      have p4 : w2.cell? ⟨w.heap.size, 4, none⟩ = some (.string nm) := cell_of_block HX2.out.1 4
      have p5 : w2.cell? ⟨w.heap.size, 5, none⟩ = some (.slice ad k.len cap) := cell_of_block HX2.out.1 5
      have hev' := hide (hev.out H1.out H2.out b n _ HX2.out.2.2 HM2.out)
      go_wp2_with fail
      refine hev'.out.mono ?_
      rintro e w3 ⟨rfl, hB3⟩
      have HX3 := hide (HX2.out.later hB3)
      unfold evR
      clear hB3 HX2 HM2 hev hev' p0 p1 p2 p3 p4 p5 hbp
      have hRR : Hid (R = R0) := hR2
      clear hR2
      obtain ⟨hb, r0, r1, r2, f0, f1, f2⟩ := HX3.out.back
      cases R0 with
      | none =>
        go_wp2
        obtain ⟨m0, m1, m2⟩ := es3 HX3.out.2.1 (.int .i64 0) (.int .i64 0) (.string ⟨#[]⟩)
        refine bodyPost_ret (v := .tuple #[vaV ⟨0, 0, ⟨#[]⟩⟩, .bool false]) (by simp [results, Tryz.results14, go_sem, m0, m1, m2]) rfl ?_
        exact ⟨by rw [hRR.out]; rfl, below_es3 HX3.out.2.2 (by omega) _ _ _⟩
      | some x =>
        go_wp2
        obtain ⟨m0, m1, m2⟩ := es3 HX3.out.2.1 (.int .i64 x.k) (.int .i64 x.n) (.string x.t)
        refine bodyPost_ret (v := .tuple #[vaV x, .bool true]) (by simp [results, Tryz.results14, go_sem, m0, m1, m2]) rfl ?_
        exact ⟨by rw [hRR.out]; rfl, below_es3 HX3.out.2.2 (by omega) _ _ _⟩
end Go.Proofs.YtiffgomkhoalpaaGreatDoor

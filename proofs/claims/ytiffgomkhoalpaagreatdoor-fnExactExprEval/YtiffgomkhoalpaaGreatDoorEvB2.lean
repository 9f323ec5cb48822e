/- What an expression that is ok is by names, as the program has it. -/
import Derived.Test.YtiffgomkhoalpaaGreatDoorEvB1
import Derived.Test.YtiffgomkhoalpaaGreatDoorEvA3
import Derived.Test.YtiffgomkhoalpaaGreatDoorEvI10
namespace Go.Proofs.YtiffgomkhoalpaaGreatDoor
open Go.RowKit
set_option linter.unusedVariables false
set_option linter.unusedSimpArgs false
set_option maxHeartbeats 1600000 in
theorem exprBy_any (d : Nat) (nd : Nd) (k : Fo) (v : Value) (L : Pl.Look) (b n : Nat) (w : World) (hok : Pl.okN nd k d = true) (hL : ∀ x v, L x = some v → Pl.okA v = true) (hr : RowAt 0 w k v) (hm : MapV w b n L) (hE : ErrT w) :
    Calls Tryz.prog 35 #[ndV nd v, .map (some b)] w (EvPost (Pl.ev L nd k) w) := by
  have hmk := hide (fun W (hW : Below w.heap.size w W) => exprMake_any d nd k v W hok (hr.later hW))
  have HG := hide (fun r (h : Pl.ev L nd k = some r) => Pl.ev_ok hL hok h)
  have HM := hide hm
  have HE := hide hE
  have HL := hide hL
  have HS := hide (EB.start (w := w) (nd := nd) (v := v))
  obtain ⟨ad, cap, rfl, _⟩ := hr
  obtain ⟨nk, vk, vn, vt, nm⟩ := nd
  have HC := hide (fun (f : Value) (W : World) (h : Asks W f (fun L => Pl.ev L ⟨nk, vk, vn, vt, nm⟩ k)) (h2 : MapV W b n L) => show ∃ id caps, f = .func (.func id) #[] caps ∧ Fun id ∧ Calls Tryz.prog id (#[.map (some b)] ++ caps) W (WorkPost (Pl.ev L ⟨nk, vk, vn, vt, nm⟩ k) W) from by
    obtain ⟨id, caps, h3, h4, h5⟩ := h
    exact ⟨id, caps, h3, h4, h5 L b n W HL.out (Below.refl _ _) h2⟩)
  clear hok hL hm hE
  generalize Pl.ev L ⟨nk, vk, vn, vt, nm⟩ k = R at *
  go_enter Tryz.func35, Tryz.ntmps35
  go_wp2_with fail
  refine (hmk.out _ (two_below _ _ _)).mono ?_
  rintro e w1 ⟨f, rfl, hA, hB1⟩
  have HX1 := hide (HS.out.later hB1)
  have HE1 := hide (HE.out.later HX1.out.2.2)
  obtain ⟨id, caps, rfl, hF, hcall⟩ := HC.out f w1 hA (HM.out.later HX1.out.2.2)
  have hcf := run_fun hF
  have HK := hide hcall
  clear hB1 hA hF hcall HS hmk HC HE HM HL
  go_wp2_with fail
  refine HK.out.mono ?_
  rintro e w2 ⟨⟨x, rfl, hx⟩, hB2⟩
  have HX2 := hide (HX1.out.later hB2)
  have HE2 := hide (HE1.out.later hB2)
  have H95 : Hid (Below w2.heap.size w2 (w2.alloc (.cells #[.string ⟨#[]⟩] 95))) := (Below.refl _ _).alloc (Nat.le_refl _) _
  clear HX1 HE1 hB2 HK hcf
  rcases fun_res hx with ⟨rfl, s, rfl⟩ | ⟨va, rfl, rfl⟩
  · clear hx
    have HA := hide (as_hit_below s w2.heap.size w2.heap.size (.string ⟨#[]⟩) (w2.alloc (.cells #[.string ⟨#[]⟩] 95)) (HE2.out.later H95.out) (by simp) (by simp) (Nat.le_refl _) (by simp))
    go_wp2_with fail
    refine HA.out.mono ?_
    rintro e w3 ⟨rfl, hB3⟩
    have HX3 := hide (HX2.out.later (H95.out.trans hB3))
    clear HX2 hB3 HA H95 HE2
    obtain ⟨hb, r0, r1, r2, f0, f1, f2⟩ := HX3.out.back
    go_wp2
    obtain ⟨m0, m1, m2⟩ := es3 HX3.out.2.1 (.int .i64 0) (.int .i64 0) (.string ⟨#[]⟩)
    refine bodyPost_ret (v := .tuple #[vaV ⟨0, 0, ⟨#[]⟩⟩, .bool false]) (by simp [results, Tryz.results35, go_sem, m0, m1, m2]) rfl ?_
    exact ⟨rfl, below_es3 HX3.out.2.2 (by omega) _ _ _⟩
  · clear hx
    have hoka := HG.out va rfl
    have HV := hide (fun W => value_cv hoka W)
    have HO := hide (fun W => own_va hoka W)
    clear hoka HG
    generalize cvA va = c at *
    go_wp2_with fail
    refine (as_nil _ _).mono ?_
    rintro e w3 ⟨rfl, rfl⟩
    have HX3 := hide (HX2.out.later H95.out)
    clear HX2 H95 HE2
    generalize w2.alloc (.cells #[.string ⟨#[]⟩] 95) = w3 at *
    go_wp2_with fail
    refine (HV.out _).mono ?_
    rintro e w4 ⟨rfl, hB4⟩
    have HX4 := hide (HX3.out.later hB4)
    clear HX3 hB4 HV
    go_wp2_with fail
    refine (HO.out _).mono ?_
    rintro e w5 ⟨rfl, hB5⟩
    have HX5 := hide (HX4.out.later hB5)
    clear HX4 hB5 HO
    obtain ⟨hb, r0, r1, r2, f0, f1, f2⟩ := HX5.out.back
    go_wp2
    obtain ⟨m0, m1, m2⟩ := es3 HX5.out.2.1 (.int .i64 va.k) (.int .i64 va.n) (.string va.t)
    refine bodyPost_ret (v := .tuple #[vaV va, .bool true]) (by simp [results, Tryz.results35, go_sem, m0, m1, m2]) rfl ?_
    exact ⟨rfl, below_es3 HX5.out.2.2 (by omega) _ _ _⟩
end Go.Proofs.YtiffgomkhoalpaaGreatDoor

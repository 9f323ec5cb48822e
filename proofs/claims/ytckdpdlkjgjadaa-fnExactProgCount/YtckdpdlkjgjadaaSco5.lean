/- What is wrong with the names of steps, as the specification has it. -/
import Derived.Test.YtckdpdlkjgjadaaSco4
import Derived.Test.YtckdpdlkjgjadaaPFm4
namespace Go.Proofs.Ytckdpdlkjgjadaa
open Go.RowKit
set_option linter.unusedVariables false
namespace Pl
theorem names_few {ex : Nd} {ek : Fo} (h : okN ex ek 5 = true) : (namesN ex ek).length ≤ 1048576 := by
  have h1 := okN_nodes (Nat.le_refl _) h
  have h2 := names_le_nodes ek
  have h3 := ownNm_le ex
  simp only [namesN, List.length_append]
  omega
theorem body_form {F : Ps} {d : Nat} (h : bodyB F d = true) : formF F d = true := by
  simp only [bodyB, Bool.and_eq_true] at h
  exact h.2.2
theorem flat_of {bl el : Nat} (h : ((bl : Int) + (el : Int) == 0) = true) : bl = 0 ∧ el = 0 := by
  rw [beq_iff_eq] at h
  omega
/-- what a step's form gives, by its kind -/
theorem form_kinds {k : Int} {nm wh : ByteArray} {ex : Nd} {ek : Fo} {bl el : Nat} {fb fe : Bool} (h : formBy ⟨k, nm, wh, ex, ek⟩ bl el fb fe = true) :
    ((k = 1 ∨ k = 5 ∨ k = 10 ∨ k = 2 ∨ k = 6 ∨ k = 8 ∨ k = 11 ∨ k = 12 ∨ k = 13) ∧ okN ex ek 5 = true ∧ bl = 0 ∧ el = 0) ∨ (k = 3 ∧ okN ex ek 5 = true ∧ fb = true ∧ (el = 0 ∨ fe = true)) ∨ (k = 4 ∧ okN ex ek 5 = true ∧ fb = true ∧ el = 0) ∨ ((k = 7 ∨ k = 9) ∧ noneB ex ek = true ∧ bl = 0 ∧ el = 0) := by
  unfold formBy at h
  simp only at h
  split at h
  · next hk =>
    simp only [Bool.and_eq_true] at h
    have := flat_of h.2.2.2
    refine .inl ⟨?_, h.2.2.1, this⟩
    omega
  · split at h
    · next hk =>
      simp only [Bool.and_eq_true, Bool.or_eq_true, beq_iff_eq] at h
      exact .inr (.inl ⟨hk, h.2.2.1, h.2.2.2.1, h.2.2.2.2⟩)
    · split at h
      · next hk =>
        simp only [Bool.and_eq_true, beq_iff_eq] at h
        exact .inr (.inr (.inl ⟨hk, h.2.2.1, h.2.2.2.1, h.2.2.2.2⟩))
      · split at h
        · next hk =>
          simp only [Bool.and_eq_true] at h
          have := flat_of h.2.2.2
          refine .inl ⟨?_, h.2.2.1, this⟩
          omega
        · split at h
          · next hk =>
            simp only [Bool.and_eq_true] at h
            have := flat_of h.2.2.2
            exact .inr (.inr (.inr ⟨hk, h.2.2.1, this⟩))
          · split at h
            · next hk =>
              simp only [Bool.and_eq_true] at h
              have := flat_of h.2.2.2
              refine .inl ⟨?_, h.2.2.1, this⟩
              omega
            · cases h
end Pl
/-- what is known of the steps that are looked at -/
def BdP (F : Ps) : Prop := ∀ (d : Nat) (E : Pl.En) (v : Value) (g : Nat) (w0 : World), Pl.formF F d = true → F.Sm → F.len ≤ 1048576 → PRow 0 w0 F v → w0.heap.size ≤ g → BdQ F E v g w0

theorem step_of (sn : Sn) (b l : Ps) (d : Nat) (hf : Pl.formS sn b l d = true) (hkb : BdP b) (hkl : BdP l) (he : sn.ek.len ≤ 1048576 ∧ sn.ek.Sm) (hb : b.len ≤ 1048576 ∧ b.Sm) (hl : l.len ≤ 1048576 ∧ l.Sm) (E : Pl.En) (ve vb vl : Value) (w0 W : World) (g : Nat) (V C : List (List UInt8)) (code : Int) (hre : RowAt 0 w0 sn.ek ve) (hrb : PRow 0 w0 b vb) (hrl : PRow 0 w0 l vl)
    (hg0 : w0.heap.size ≤ g) (hBW : Below w0.heap.size w0 W) (hsc : ScAt W g V C code) (htl : code = 0 → Pl.Tells V C E) (hVC : V.length + C.length + (b.nodes + l.nodes) ≤ 1000000) :
    Calls Try.prog 64 #[.pointer (some ⟨g, 0, none⟩), snV sn ve vb vl] W (StQ sn b l E V C code g W) := by
  obtain ⟨k, nm, wh, ⟨xk, xvk, xvn, xvt, xnm⟩, ek⟩ := sn
  rcases Pl.form_kinds hf with ⟨hk, ho, hb0, hl0⟩ | ⟨rfl, ho, hfb, hfl⟩ | ⟨rfl, ho, hfb, hl0⟩ | ⟨hk, ho, hb0, hl0⟩
  · have hN := Pl.names_few ho
    rcases hk with hk | hk | hk | hk | hk | hk | hk | hk | hk
    · exact step_A k nm wh xk xvk xvn xvt xnm ek b l E ve vb vl w0 W g V C code hN he.1 he.2 hre hrb hrl hg0 hBW hsc htl hVC hb0 hl0 (.inl hk)
    · exact step_A k nm wh xk xvk xvn xvt xnm ek b l E ve vb vl w0 W g V C code hN he.1 he.2 hre hrb hrl hg0 hBW hsc htl hVC hb0 hl0 (.inr (.inl hk))
    · exact step_A k nm wh xk xvk xvn xvt xnm ek b l E ve vb vl w0 W g V C code hN he.1 he.2 hre hrb hrl hg0 hBW hsc htl hVC hb0 hl0 (.inr (.inr hk))
    · exact step_S k nm wh xk xvk xvn xvt xnm ek b l E ve vb vl w0 W g V C code hN he.1 he.2 hre hrb hrl hg0 hBW hsc htl hVC hb0 hl0 hk
    · exact step_G k nm wh xk xvk xvn xvt xnm ek b l E ve vb vl w0 W g V C code hN he.1 he.2 hre hrb hrl hg0 hBW hsc htl hVC hb0 hl0 hk
    · exact step_Z k nm wh xk xvk xvn xvt xnm ek b l E ve vb vl w0 W g V C code hN he.1 he.2 hre hrb hrl hg0 hBW hsc htl hVC hb0 hl0 (.inl hk)
    · exact step_Z k nm wh xk xvk xvn xvt xnm ek b l E ve vb vl w0 W g V C code hN he.1 he.2 hre hrb hrl hg0 hBW hsc htl hVC hb0 hl0 (.inr (.inl hk))
    · exact step_Z k nm wh xk xvk xvn xvt xnm ek b l E ve vb vl w0 W g V C code hN he.1 he.2 hre hrb hrl hg0 hBW hsc htl hVC hb0 hl0 (.inr (.inr (.inl hk)))
    · exact step_Z k nm wh xk xvk xvn xvt xnm ek b l E ve vb vl w0 W g V C code hN he.1 he.2 hre hrb hrl hg0 hBW hsc htl hVC hb0 hl0 (.inr (.inr (.inr hk)))
  · have hfl' : Pl.formF l (d - 1) = true := by
      rcases hfl with h | h
      · rw [Pl.len_nil h]; rfl
      · exact Pl.body_form h
    exact step_I 3 nm wh xk xvk xvn xvt xnm ek b l E ve vb vl w0 W g V C code (Pl.names_few ho) he.1 he.2 hre hrb hrl hg0 hBW hsc htl hVC (hkb (d - 1) E vb g w0 (Pl.body_form hfb) hb.2 hb.1 hrb hg0) (hkl (d - 1) E vl g w0 hfl' hl.2 hl.1 hrl hg0) rfl
  · exact step_W 4 nm wh xk xvk xvn xvt xnm ek b l E ve vb vl w0 W g V C code (Pl.names_few ho) he.1 he.2 hre hrb hrl hg0 hBW hsc htl hVC (hkb (d - 1) E vb g w0 (Pl.body_form hfb) hb.2 hb.1 hrb hg0) hl0 rfl
  · have hNN := Pl.names_none ho
    rcases hk with hk | hk
    · exact step_J k nm wh xk xvk xvn xvt xnm ek b l E ve vb vl w0 W g V C code (by rw [hNN]; simp) he.1 he.2 hre hrb hrl hg0 hBW hsc htl hVC hb0 hl0 hNN hk
    · exact step_T k nm wh xk xvk xvn xvt xnm ek b l E ve vb vl w0 W g V C code (by rw [hNN]; simp) he.1 he.2 hre hrb hrl hg0 hBW hsc htl hVC hb0 hl0 hNN hk
theorem form_get : ∀ {F : Ps} {d : Nat} (h : Pl.formF F d = true) {i : Nat} {sn : Sn} {b e : Ps}, F.get i = some (sn, b, e) → Pl.formS sn b e d = true := by
  intro F d h i sn b e hk
  cases hs : Pl.formS sn b e d
  · rw [Pl.formF_not F d i sn b e hk hs] at h
    cases h
  · rfl

theorem ScAt.put2 {W : World} {g : Nat} {a b vv vc : Value} {V C : List (List UInt8)} {code : Int} (hb : W.heap[g]? = some (.cells #[a, b, .int .i64 code] 69 (0, 0))) (hv : TextsAt W vv V) (hc : TextsAt W vc C) (hnv : ∀ j, vv.ownBlock = some j → j ≠ g) (hnc : ∀ j, vc.ownBlock = some j → j ≠ g) : ScAt ((W.setCell ⟨g, 0, none⟩ vv).setCell ⟨g, 1, none⟩ vc) g V C code := by
  have hgr := grown_trans (grown_set W g 0 vv) (grown_set _ g 1 vc)
  exact ⟨vv, vc, block_set (block_set hb 0 _) 1 _, hv.grown hgr (fun j hj e => hnv j hj (by cases e; rfl)), hc.grown hgr (fun j hj e => hnc j hj (by cases e; rfl)), hnv, hnc⟩

set_option maxHeartbeats 1600000 in
theorem body_of (F : Ps) (ih : ∀ i sn b e, F.get i = some (sn, b, e) → BdP b ∧ BdP e) : BdP F := by
  intro d E v g w0 hform hsm hlen hr hg0 W V C code hBW hsc htl hVC
  obtain ⟨ad, cap, rfl, hc, hm, hx⟩ := hr
  unfold maxLen at hm
  have HX := hide hx
  have IH := hide ih
  have HF := hide hform
  have HM := hide hsm
  have HTL := hide htl
  have HSC := hide hsc
  have hall := F.kn_all
  have hcv : ∃ vv vc, W.cell? ⟨g, 0, none⟩ = some vv ∧ W.cell? ⟨g, 1, none⟩ = some vc ∧ TextsAt W vv V ∧ TextsAt W vc C ∧ (∀ j, vv.ownBlock = some j → j ≠ g) ∧ (∀ j, vc.ownBlock = some j → j ≠ g) := by
    obtain ⟨vv, vc, hbk, hvv, hvc, hnv, hnc⟩ := hsc
    exact ⟨vv, vc, by rw [cell_of_block hbk]; rfl, by rw [cell_of_block hbk]; rfl, hvv, hvc, hnv, hnc⟩
  obtain ⟨vv, vc, cv, cc, hvv, hvc, hnv, hnc⟩ := hcv
  have HVV := hide hvv
  have HVC := hide hvc
  obtain ⟨av, cpv, rfl, _⟩ := hvv
  obtain ⟨ac, cpc, rfl, _⟩ := hvc
  clear hx ih hform hsm htl hsc
  go_enter Try.func42, Try.ntmps42
  go_wp2_with fail
  clear cv cc
  go_loopw [6] (fun iv wr => ∃ i : Nat, i ≤ F.len ∧ iv = .int .i64 i ∧ Hid (∃ V' C', ScAt wr g V' C' (Pl.orr code (Pl.chkTo F i E)) ∧ (Pl.orr code (Pl.chkTo F i E) = 0 → Pl.Tells V' C' (Pl.extTo F i E)) ∧ V'.length + C'.length ≤ V.length + C.length + i) ∧ Hid (W.grownBy wr (some g))) (fun iv _ => F.len - (intOf iv).toNat)
  case atStart =>
    refine ⟨0, by omega, rfl, hide ⟨V, C, ?_, ?_, by omega⟩, hide (grown_refl _ _)⟩
    · rw [Pl.chkTo_zero, Pl.orr_zero]; exact HSC.out
    · rw [Pl.chkTo_zero, Pl.orr_zero, Pl.extTo_zero]; exact HTL.out
  case round =>
    obtain ⟨i, hi, rfl, HR, HG⟩ := hrel
    have HBR : Hid (Below w0.heap.size w0 wr) := below_of_grown hBW hg0 HG.out
    by_cases hlt : i < F.len
    · obtain ⟨g1, off, rfl, _, hg1, hfo⟩ := HX.out (by omega)
      obtain ⟨sn, b, e, hget⟩ := F.get_some i hlt
      obtain ⟨ve, vb, vl, hst⟩ := hfo.get hget
      have hst' := hst.later HBR.out hg1
      obtain ⟨_, ⟨_, p8⟩, ⟨_, p9⟩, ⟨_, p10⟩⟩ := hst
      obtain ⟨⟨d0, d1, d2, d3, d4, d5, d6, d7⟩, ⟨d8, _⟩, ⟨d9, _⟩, ⟨d10, _⟩⟩ := hst'
      obtain ⟨s1, s2, s3⟩ := HM.out.get hget
      obtain ⟨V', C', hs', ht', hl'⟩ := HR.out
      have hkn := F.kn_succ i sn b e hget
      have hkl := F.kn_le (i + 1)
      have hq := hide (step_of sn b e d (form_get HF.out hget) (IH.out i sn b e hget).1 (IH.out i sn b e hget).2 s1 s2 s3 (Pl.extTo F i E) ve vb vl w0 wr g V' C' _ p8 p9 p10 hg0 HBR.out hs' ht' (by omega))
      have HC := hide (Pl.chkTo_succ F i E sn b e hget)
      have HE := hide (Pl.extTo_succ F i E sn b e hget)
      have HL' := hide hl'
      obtain ⟨_, _, rfl, _, _, _⟩ := p8
      obtain ⟨_, _, rfl, _, _, _⟩ := p9
      obtain ⟨_, _, rfl, _, _, _⟩ := p10
      clear hfo hget s1 s2 s3 hs' ht' hkn hkl hall hl' HR
      have hii : (i : Int) < (F.len : Int) := by omega
      go_wp2_with fail
      refine hq.out.mono ?_
      rintro e' w4 ⟨rfl, hg4, V4, C4, hs4, ht4, hl4⟩
      have HR4 : Hid (∃ V' C', ScAt w4 g V' C' (Pl.orr code (Pl.chkTo F (i + 1) E)) ∧ (Pl.orr code (Pl.chkTo F (i + 1) E) = 0 → Pl.Tells V' C' (Pl.extTo F (i + 1) E)) ∧ V'.length + C'.length ≤ V.length + C.length + (i + 1)) := by
        refine hide ⟨V4, C4, ?_, ?_, by have := HL'.out; omega⟩
        · rw [HC.out, ← Pl.orr_assoc]; exact hs4
        · rw [HC.out, ← Pl.orr_assoc, HE.out]; exact ht4
      have HG4 : Hid (W.grownBy w4 (some g)) := grown_trans HG.out hg4
      clear hq d0 d1 d2 d3 d4 d5 d6 d7 d8 d9 d10 hg4 hs4 ht4 hl4
      go_wp2
      go_roundw
      case rel => exact ⟨i + 1, by omega, by go_num, HR4, HG4⟩
      case measure => simp [intOf]; omega
    · have hie : i = F.len := by omega
      obtain ⟨V', C', hs', _, _⟩ := HR.out
      rw [hie, Pl.chkTo_all] at hs'
      obtain ⟨vv', vc', hbk, hvv', hvc', _, _⟩ := hs'
      have c0 := cell_of_block hbk 0
      have c1 := cell_of_block hbk 1
      have f0 := free_of_block hbk 0
      have f1 := free_of_block hbk 1
      simp only [List.getElem?_toArray, List.getElem?_cons_zero, List.getElem?_cons_succ] at c0 c1
      have HP := hide (ScAt.put2 hbk (HVV.out.grown HG.out (fun j hj e => hnv j hj (by cases e; rfl))) (HVC.out.grown HG.out (fun j hj e => hnc j hj (by cases e; rfl))) hnv hnc)
      obtain ⟨_, _, rfl, _⟩ := hvv'
      obtain ⟨_, _, rfl, _⟩ := hvc'
      clear hbk HR
      go_wp2
      go_end0
      exact ⟨rfl, grown_trans HG.out (grown_trans (grown_set _ _ _ _) (grown_set _ _ _ _)), HP.out⟩
theorem body_fuel : ∀ (n : Nat) (F : Ps), F.nodes ≤ n → BdP F
  | 0, F, h => body_of F fun i sn b e hk => by have := F.get_nodes i sn b e hk; omega
  | n + 1, F, h => body_of F fun i sn b e hk => ⟨body_fuel n b (by have := F.get_nodes i sn b e hk; omega), body_fuel n e (by have := F.get_nodes i sn b e hk; omega)⟩
theorem body_any (F : Ps) : BdP F := body_fuel F.nodes F (Nat.le_refl _)
end Go.Proofs.Ytckdpdlkjgjadaa

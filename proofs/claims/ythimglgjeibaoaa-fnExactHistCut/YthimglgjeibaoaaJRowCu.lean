/- Joined: LawCu OpenV OpenC OpenE RowFnExactHistCut. -/
import Derived.Test.YthimglgjeibaoaaJMk
import Derived.Test.YthimglgjeibaoaaJCu
import Derived.Test.YthimglgjeibaoaaLeafB
import Derived.ChangeArms
import Derived.DataReads
import Derived.Test.YthimglgjeibaoaaEvM
import Derived.Test.YthimglgjeibaoaaRows
import Derived.WalkKit
import Derived.ProofKit
import Derived.OpenShut
import Derived.ShutString
import Derived.Below
import Derived.Lib.SmallJoins
import Derived.ChangeOld
/- The law on a history that is cut, walked. -/
namespace Go.Proofs.Ythimglgjeibaoaa
open Go.RowKit
set_option linter.unusedVariables false
set_option linter.unusedSimpArgs false
theorem below_gb {w X Y : World} {r : Option Nat} (h : Below w.heap.size w X) (hg : X.grownBy Y r) (hr : ∀ k, r = some k → w.heap.size ≤ k) : Below w.heap.size w Y :=
  ⟨hg.os.trans h.os, hg.tape.trans h.tape, hg.output.trans h.output, Nat.le_trans h.size hg.size, fun k hk => (hg.block k (by have := h.size; omega) (fun e => by have := hr k e.symm; omega)).trans (h.block k hk)⟩
theorem markEv_one (n : Nat) (hn : n ≤ 1048576) (b : Nat) (w : World) (hb : ∃ C, w.heap[b]? = some (.cells C 46 (0, 0)) ∧ C.size = n * 17) :
    Calls Try.prog 9 #[.slice (some ⟨b, 0, none⟩) n n, .int .i64 1] w fun x w' => (∃ kz : Int, x = .returned (.int .i64 kz) ∧ ¬ kz < 0) ∧ w.grownBy w' (some b) := by
  obtain ⟨C, h0, h1⟩ := hb
  exact (markEventS_any n b 1 (by omega) (by omega) w C h0 (by omega)).mono fun x w' ⟨hx, hg⟩ => ⟨⟨_, hx, by omega⟩, hg⟩
theorem own_off {w w' : World} {base T size : Nat} {v : Value} {n : Nat} {xs : List Value} {r : Option Nat} {lo : Nat} (h : w.ownsRow base T size v n xs) (hg : w.grownBy w' r) (hl : ∀ k, v.ownBlock = some k → k < lo) (hr : ∀ k, r = some k → lo ≤ k) : w'.ownsRow base T size v n xs := by
  refine h.kept hg ?_
  cases hv : v.ownBlock with
  | none => exact Or.inl rfl
  | some k => exact Or.inr (fun e => by have := hl k hv; have := hr k e.symm; omega)
theorem le_cut (t : Int) (l : List Ev) (hN : l.length ≤ 1048576) : (Pl.histCut t l).length ≤ 1048576 := by
  unfold Pl.histCut
  split
  · rw [List.length_take]; omega
  · simp
theorem mark1_evs (n : Nat) (hn : n ≤ 1048576) (a : Option Addr) (c : Nat) (hnc : n ≤ c) (hcm : c ≤ maxLen) (mz : Int) (hm : mz = ((1 + 17 * n : Nat) : Int)) (w : World) (hr : RowM 46 17 mkEvs 1 a n 0 w) :
    Calls Try.prog 9 #[.slice a n c, .int .i64 1] w fun x w' => x = .returned (.int .i64 mz) ∧ RowM 46 17 mkEvs 1 a n n w' ∧ w.grownBy w' (Value.slice a n c).ownBlock := by
  rw [hm]; exact markEvs_any n a c 1 (by omega) (by omega) hnc hcm w hr
theorem held1_evs (n : Nat) (hn : n ≤ 1048576) (a : Option Addr) (c : Nat) (hnc : n ≤ c) (hcm : c ≤ maxLen) (mz : Int) (hm : mz = ((1 + 17 * n : Nat) : Int)) (w : World) (hr : RowM 46 17 mkEvs 1 a n n w) :
    Calls Try.prog 10 #[.slice a n c, .int .i64 1] w fun x w' => x = .returned (.int .i64 mz) ∧ Below w.heap.size w w' := by
  rw [hm]; exact heldEvs_any n a c 1 (by omega) (by omega) hnc hcm w hr
theorem eqOwn_any (L : List Ev) (hN : L.length ≤ 1048576) (va vb : Value) (ba bb : Nat) (w : World) (ha : w.ownsRow ba 46 17 va L.length (L.flatMap evL)) (hb : w.ownsRow bb 46 17 vb L.length (L.flatMap evL)) :
    Calls Try.prog 8 #[va, vb] w fun x w' => x = .returned (.bool true) ∧ Below w.heap.size w w' := by
  obtain ⟨aa, ca, hva⟩ := ownsRow_form ha
  obtain ⟨ab, cb, hvb⟩ := ownsRow_form hb
  subst hva hvb
  exact eqEventS_any L hN _ _ w (EvRow.of_own ha) (EvRow.of_own hb)
set_option maxRecDepth 100000 in
set_option maxHeartbeats 3200000 in
theorem lawHistCut_any (l : List Ev) (hwf : ∀ e ∈ l, e.Wf) (t : Int) (ht2 : t ≤ 9223372036854775807) (v : Value) (w : World) (hr : EvRow w l v) :
    Calls Try.prog 3 #[v, .int .i64 t] w fun x w' => x = .returned (.bool true) ∧ Below w.heap.size w w' := by
  have HRW := hide hr
  have HW := hide hwf
  have hsz := hide (fun W hW => szEventS_any l hwf v W hW)
  obtain ⟨ad, cap, rfl, hc, hmx, hx⟩ := hr
  clear hx hwf
  obtain ⟨mz, HMZ⟩ : ∃ mz : Int, Hid (mz = ((1 + 17 * (Pl.histCut t l).length : Nat) : Int)) := ⟨_, hide rfl⟩
  have hm0 : ¬ mz < 0 := by have := HMZ.out; omega
  have hmm : (mz != mz) = false := by simp
  go_enter Try.func3, Try.ntmps3
  go_wp2_with fail
  refine (hsz.out _ HRW.out).mono ?_
  rintro x1 w1 ⟨⟨r, rfl, hr0⟩, hB1⟩
  have HB1 := hide hB1
  have HR0 := hide hr0
  clear hB1 hsz hr0
  by_cases n1 : r < 0
  · go_wp2_with fail
    go_ret
    exact ⟨rfl, HB1.out⟩
  · have hN : l.length ≤ 1048576 := HR0.out (by omega)
    have HN := hide (le_cut t l hN)
    have hto := hide (fun W hW => toEventS_any l hN (.slice ad l.length cap) W hW)
    have hsp := hide (fun v W hW => specHistCut_any l HW.out hN t ht2 v W hW)
    have him := hide (fun v W hW => implHistCut_any l HW.out hN t v W hW)
    have heq := hide (fun va vb W ha hb => eqEventS_any l hN va vb W ha hb)
    have hec := hide (fun va vb ba bb W ha hb => eqOwn_any (Pl.histCut t l) HN.out va vb ba bb W ha hb)
    go_wp2_with fail
    refine (hto.out _ (HRW.out.later HB1.out)).mono ?_
    rintro x2 w2 ⟨rfl, ht2⟩
    have HR2 := hide (ht2.done hN)
    have HB2 := hide (HB1.out.trans (ht2.2.2.mono HB1.out.size))
    clear ht2
    go_wp2_with fail
    refine (hsp.out _ _ HR2.out).mono ?_
    rintro x3 w3 ⟨vw, rfl, ho3, hB3⟩
    have HB3 := hide (HB2.out.trans (hB3.mono HB2.out.size))
    obtain ⟨aw, cw, hvw⟩ := ownsRow_form ho3
    subst hvw
    have HOW3 := hide ho3
    have HWL := hide ho3.lt
    have HWb := hide HB2.out.size
    clear hB3 hsp HR2 ho3
    go_wp2_with fail
    refine (hto.out _ (HRW.out.later HB3.out)).mono ?_
    rintro x4 w4 ⟨rfl, ht4⟩
    have HR4 := hide (ht4.done hN)
    have HC4 := hide ht4.1
    have HL4 := hide ht4.lt
    have HB4 := hide (HB3.out.trans (ht4.2.2.mono HB3.out.size))
    have HOW4 := hide (ownsRow_later HOW3.out ht4.2.2)
    clear ht4 HOW3
    go_wp2_with fail
    refine (him.out _ _ HR4.out).mono ?_
    rintro x5 w5 ⟨vg, rfl, ho5, hB5⟩
    have HR5 := hide (HR4.out.later hB5)
    have HB5 := hide (HB4.out.trans (hB5.mono HB4.out.size))
    have HB45 := hide hB5
    obtain ⟨ag, cg, hvg⟩ := ownsRow_form ho5
    subst hvg
    have HOW5 := hide (ownsRow_later HOW4.out hB5)
    have HOG5 := hide ho5
    have HGL := hide ho5.lt
    obtain ⟨_, hgc, hgm⟩ := own_bound ho5
    clear hB5 HR4 ho5 HOW4
    go_wp2_with fail
    refine (hec.out _ _ _ _ _ HOG5.out HOW5.out).mono ?_
    rintro x6 w6 ⟨rfl, hB6⟩
    have HR6 := hide (HR5.out.later hB6)
    have HB6 := hide (HB5.out.trans (hB6.mono HB5.out.size))
    have HB46 := hide (HB45.out.trans (hB6.mono HB45.out.size))
    have HOW6 := hide (ownsRow_later HOW5.out hB6)
    have HOG6 := hide (ownsRow_later HOG5.out hB6)
    clear hB6 HR5 HOW5 HOG5 HB45
    go_wp2_with fail
    refine (hto.out _ (HRW.out.later HB6.out)).mono ?_
    rintro x7 w7 ⟨rfl, ht7⟩
    have HR7 := hide (ht7.done hN)
    have HX7 := hide (HR6.out.later ht7.2.2)
    have HB7 := hide (HB6.out.trans (ht7.2.2.mono HB6.out.size))
    have HB47 := hide (HB46.out.trans (ht7.2.2.mono HB46.out.size))
    have HOW7 := hide (ownsRow_later HOW6.out ht7.2.2)
    have HOG7 := hide (ownsRow_later HOG6.out ht7.2.2)
    clear ht7 HR6 HOW6 HOG6 HB46
    go_wp2_with fail
    refine (heq.out _ _ _ HX7.out HR7.out).mono ?_
    rintro x8 w8 ⟨rfl, hB8⟩
    have HB8 := hide (HB7.out.trans (hB8.mono HB7.out.size))
    have HB48 := hide (HB47.out.trans (hB8.mono HB47.out.size))
    have HOW8 := hide (ownsRow_later HOW7.out hB8)
    have HOG8 := hide (ownsRow_later HOG7.out hB8)
    have HC8 : Hid (∃ C, w8.heap[w3.heap.size]? = some (.cells C 46 (0, 0)) ∧ C.size = l.length * 17) := by
      obtain ⟨C, h0, h1⟩ := HC4.out
      exact hide ⟨C, (HB48.out.block _ HL4.out).trans h0, h1⟩
    clear hB8 HX7 HR7 HOW7 HOG7 HB47
    go_wp2_with fail
    refine (markEv_one l.length hN w3.heap.size _ HC8.out).mono ?_
    rintro x9 w9 ⟨⟨kz, rfl, hk0⟩, hg9⟩
    have HB9 := hide (below_gb HB8.out hg9 (fun k e => by injection e with e; have := HB3.out.size; omega))
    have HOW9 := hide (own_off HOW8.out hg9 (fun k e => (HWL.out k e).2) (fun k e => by injection e with e; omega))
    have HOG9 : Hid (w9.ownsRow w4.heap.size 46 17 (.slice ag (Pl.histCut t l).length cg) (Pl.histCut t l).length ((Pl.histCut t l).flatMap evL)) := by
      refine hide (HOG8.out.kept hg9 ?_)
      cases hv : (Value.slice ag (Pl.histCut t l).length cg).ownBlock with
      | none => exact Or.inl rfl
      | some k => exact Or.inr (fun e => by injection e with e; have := (HGL.out k hv).1; have := HL4.out; omega)
    clear hg9 HC8 HOW8 HOG8 HB48 HC4
    go_wp2_with fail
    refine (hec.out _ _ _ _ _ HOG9.out HOW9.out).mono ?_
    rintro x10 w10 ⟨rfl, hB10⟩
    have HB10 := hide (HB9.out.trans (hB10.mono HB9.out.size))
    have HOW10 := hide (ownsRow_later HOW9.out hB10)
    have HOG10 := hide (ownsRow_later HOG9.out hB10)
    clear hB10 HOW9 HOG9
    go_wp2_with fail
    refine (mark1_evs _ HN.out ag cg hgc hgm mz HMZ.out _ (RowM.of_own HOG10.out)).mono ?_
    rintro x11 w11 ⟨rfl, hM11, hg11⟩
    have HB11 := hide (below_gb HB10.out hg11 (fun k e => by have := (HGL.out k e).1; have := HB4.out.size; omega))
    have HOW11 := hide (own_off HOW10.out hg11 (fun k e => (HWL.out k e).2) (fun k e => by have := (HGL.out k e).1; have := HL4.out; omega))
    have HM11 := hide hM11
    clear hg11 hM11 HOW10 HOG10
    go_wp2_with fail
    refine (held1_evs _ HN.out ag cg hgc hgm mz HMZ.out _ HM11.out).mono ?_
    rintro x12 w12 ⟨rfl, hB12⟩
    have HB12 := hide (HB11.out.trans (hB12.mono HB11.out.size))
    have HOW12 := hide (ownsRow_later HOW11.out hB12)
    have HM12 := hide (HM11.out.later hB12)
    clear hB12 HOW11 HM11
    go_wp2_with fail
    refine (hto.out _ (HRW.out.later HB12.out)).mono ?_
    rintro x13 w13 ⟨rfl, ht13⟩
    have HR13 := hide (ht13.done hN)
    have HB13 := hide (HB12.out.trans (ht13.2.2.mono HB12.out.size))
    have HOW13 := hide (ownsRow_later HOW12.out ht13.2.2)
    have HM13 := hide (HM12.out.later ht13.2.2)
    clear ht13 HOW12 HM12
    go_wp2_with fail
    refine (him.out _ _ HR13.out).mono ?_
    rintro x14 w14 ⟨vh, rfl, ho14, hB14⟩
    have HB14 := hide (HB13.out.trans (hB14.mono HB13.out.size))
    obtain ⟨ah, ch, hvh⟩ := ownsRow_form ho14
    subst hvh
    have HOH14 := hide ho14
    have HOW14 := hide (ownsRow_later HOW13.out hB14)
    have HM14 := hide (HM13.out.later hB14)
    clear hB14 ho14 HOW13 HM13 HR13
    go_wp2_with fail
    refine (hec.out _ _ _ _ _ HOH14.out HOW14.out).mono ?_
    rintro x15 w15 ⟨rfl, hB15⟩
    have HB15 := hide (HB14.out.trans (hB15.mono HB14.out.size))
    have HM15 := hide (HM14.out.later hB15)
    clear hB15 HM14 HOH14 HOW14
    go_wp2_with fail
    refine (held1_evs _ HN.out ag cg hgc hgm mz HMZ.out _ HM15.out).mono ?_
    rintro x16 w16 ⟨rfl, hB16⟩
    have HB16 := hide (HB15.out.trans (hB16.mono HB15.out.size))
    clear hB16
    go_wp2_with fail
    go_ret
    exact ⟨rfl, HB16.out⟩
end Go.Proofs.Ythimglgjeibaoaa

/- A datum of a value, opened. -/
namespace Go.Proofs.Ythimglgjeibaoaa
open Go.RowKit Go.ChangeShapes
set_option linter.unusedVariables false

theorem cut5 {α : Type} (l : List α) (h : l.length = 5) : ∃ a b c d e, l = [a, b, c, d, e] := by
  match l, h with
  | [a, b, c, d, e], _ => exact ⟨a, b, c, d, e, rfl⟩
theorem cut3 {α : Type} (l : List α) (h : l.length = 3) : ∃ a b c, l = [a, b, c] := by
  match l, h with
  | [a, b, c], _ => exact ⟨a, b, c, rfl⟩
theorem cut7 {α : Type} (l : List α) (h : l.length = 7) : ∃ a b c d e f g, l = [a, b, c, d, e, f, g] := by
  match l, h with
  | [a, b, c, d, e, f, g], _ => exact ⟨a, b, c, d, e, f, g, rfl⟩

theorem open_value {H : Type} {enc : TypeId × Value → H} {w : World} {base : Nat} {sp : Nat → Bool} {hd : Bool} (n : Nat) (a1 a2 a3 : Value) (y1 : DataW H × List MemPlace)
    (h1 : DataW.trod enc Try.prog w base sp hd n 32 [a1, a2, a3] = some y1) : ∃ (vk vn : Int) (vt : ByteArray), a1 = .int .i64 vk ∧ a2 = .int .i64 vn ∧ a3 = .string vt ∧ vt.size ≤ maxLen := by
  have ci : Try.prog.cellsOf 3 = 1 := by kernel_rfl
  have cs1 : Try.prog.cellsOf 9 = 1 := by kernel_rfl
  obtain ⟨zs, n', rfl, _, _, hzl, hg⟩ := DataW.trod_struct Try.underlying32 h1
  obtain ⟨z0, z1, z2, rfl⟩ := cut3 zs hzl
  have g0 : DataW.trod enc Try.prog w base sp hd n' 3 (([a1, a2, a3].drop 0).take (Try.prog.cellsOf 3)) = some z0 := hg 0 _ rfl
  have g1 : DataW.trod enc Try.prog w base sp hd n' 3 (([a1, a2, a3].drop 1).take (Try.prog.cellsOf 3)) = some z1 := hg 1 _ rfl
  have g2 : DataW.trod enc Try.prog w base sp hd n' 9 (([a1, a2, a3].drop 2).take (Try.prog.cellsOf 9)) = some z2 := hg 2 _ rfl
  rw [ci] at g0 g1
  rw [cs1] at g2
  replace g0 : DataW.trod enc Try.prog w base sp hd n' 3 [a1] = some z0 := g0
  replace g1 : DataW.trod enc Try.prog w base sp hd n' 3 [a2] = some z1 := g1
  replace g2 : DataW.trod enc Try.prog w base sp hd n' 9 [a3] = some z2 := g2
  obtain ⟨vk, f0, _, _⟩ := DataW.trod_int Try.underlying3 g0
  obtain ⟨vn, f1, _, _⟩ := DataW.trod_int Try.underlying3 g1
  obtain ⟨vt, f2, _, hvt⟩ := DataW.trod_string Try.underlying9 g2
  simp only [List.cons.injEq, and_true] at f0 f1 f2
  exact ⟨vk, vn, vt, f0, f1, f2, hvt⟩

end Go.Proofs.Ythimglgjeibaoaa

/- A datum of something that is asked for, and of something that came, opened. -/
namespace Go.Proofs.Ythimglgjeibaoaa
open Go.RowKit Go.ChangeShapes
set_option linter.unusedVariables false

theorem open_cmd {H : Type} {enc : TypeId × Value → H} {w : World} {base : Nat} {sp : Nat → Bool} {hd : Bool} (fuel : Nat) (cs : List Value) (x : DataW H × List MemPlace)
    (h : DataW.trod enc Try.prog w base sp hd fuel 34 cs = some x) : ∃ (k : Int) (nm : ByteArray) (vk vn : Int) (vt : ByteArray), cs = [.int .i64 k, .string nm, .int .i64 vk, .int .i64 vn, .string vt] ∧ nm.size ≤ maxLen ∧ vt.size ≤ maxLen := by
  have c5 : Try.prog.cellsOf 34 = 5 := by kernel_rfl
  have ci : Try.prog.cellsOf 3 = 1 := by kernel_rfl
  have cs1 : Try.prog.cellsOf 9 = 1 := by kernel_rfl
  have cv : Try.prog.cellsOf 32 = 3 := by kernel_rfl
  obtain ⟨xs, n, rfl, _, hlen, hxl, hf⟩ := DataW.trod_struct Try.underlying34 h
  rw [c5] at hlen
  obtain ⟨a0, a1, a2, a3, a4, rfl⟩ := cut5 cs hlen
  obtain ⟨y0, y1, y2, rfl⟩ := cut3 xs hxl
  have h0 : DataW.trod enc Try.prog w base sp hd n 3 (([a0, a1, a2, a3, a4].drop 0).take (Try.prog.cellsOf 3)) = some y0 := hf 0 _ rfl
  have h1 : DataW.trod enc Try.prog w base sp hd n 9 (([a0, a1, a2, a3, a4].drop 1).take (Try.prog.cellsOf 9)) = some y1 := hf 1 _ rfl
  have h2 : DataW.trod enc Try.prog w base sp hd n 32 (([a0, a1, a2, a3, a4].drop 2).take (Try.prog.cellsOf 32)) = some y2 := hf 2 _ rfl
  rw [ci] at h0
  rw [cs1] at h1
  rw [cv] at h2
  replace h0 : DataW.trod enc Try.prog w base sp hd n 3 [a0] = some y0 := h0
  replace h1 : DataW.trod enc Try.prog w base sp hd n 9 [a1] = some y1 := h1
  replace h2 : DataW.trod enc Try.prog w base sp hd n 32 [a2, a3, a4] = some y2 := h2
  obtain ⟨k, e0, _, _⟩ := DataW.trod_int Try.underlying3 h0
  obtain ⟨nm, e1, _, hnm⟩ := DataW.trod_string Try.underlying9 h1
  obtain ⟨vk, vn, vt, rfl, rfl, rfl, hvt⟩ := open_value n _ _ _ _ h2
  simp only [List.cons.injEq, and_true] at e0 e1
  subst e0 e1
  exact ⟨k, nm, vk, vn, vt, rfl, hnm, hvt⟩

theorem open_came {H : Type} {enc : TypeId × Value → H} {w : World} {base : Nat} {sp : Nat → Bool} {hd : Bool} (fuel : Nat) (cs : List Value) (x : DataW H × List MemPlace)
    (h : DataW.trod enc Try.prog w base sp hd fuel 36 cs = some x) : ∃ (k p : Int) (nm : ByteArray) (o : Bool) (vk vn : Int) (vt : ByteArray), cs = [.int .i64 k, .int .i64 p, .string nm, .bool o, .int .i64 vk, .int .i64 vn, .string vt] ∧ nm.size ≤ maxLen ∧ vt.size ≤ maxLen := by
  have c7 : Try.prog.cellsOf 36 = 7 := by kernel_rfl
  have ci : Try.prog.cellsOf 3 = 1 := by kernel_rfl
  have cb : Try.prog.cellsOf 4 = 1 := by kernel_rfl
  have cs1 : Try.prog.cellsOf 9 = 1 := by kernel_rfl
  have cv : Try.prog.cellsOf 32 = 3 := by kernel_rfl
  obtain ⟨xs, n, rfl, _, hlen, hxl, hf⟩ := DataW.trod_struct Try.underlying36 h
  rw [c7] at hlen
  obtain ⟨a0, a1, a2, a3, a4, a5, a6, rfl⟩ := cut7 cs hlen
  obtain ⟨y0, y1, y2, y3, y4, rfl⟩ := cut5 xs hxl
  have h0 : DataW.trod enc Try.prog w base sp hd n 3 (([a0, a1, a2, a3, a4, a5, a6].drop 0).take (Try.prog.cellsOf 3)) = some y0 := hf 0 _ rfl
  have h1 : DataW.trod enc Try.prog w base sp hd n 3 (([a0, a1, a2, a3, a4, a5, a6].drop 1).take (Try.prog.cellsOf 3)) = some y1 := hf 1 _ rfl
  have h2 : DataW.trod enc Try.prog w base sp hd n 9 (([a0, a1, a2, a3, a4, a5, a6].drop 2).take (Try.prog.cellsOf 9)) = some y2 := hf 2 _ rfl
  have h3 : DataW.trod enc Try.prog w base sp hd n 4 (([a0, a1, a2, a3, a4, a5, a6].drop 3).take (Try.prog.cellsOf 4)) = some y3 := hf 3 _ rfl
  have h4 : DataW.trod enc Try.prog w base sp hd n 32 (([a0, a1, a2, a3, a4, a5, a6].drop 4).take (Try.prog.cellsOf 32)) = some y4 := hf 4 _ rfl
  rw [ci] at h0 h1
  rw [cs1] at h2
  rw [cb] at h3
  rw [cv] at h4
  replace h0 : DataW.trod enc Try.prog w base sp hd n 3 [a0] = some y0 := h0
  replace h1 : DataW.trod enc Try.prog w base sp hd n 3 [a1] = some y1 := h1
  replace h2 : DataW.trod enc Try.prog w base sp hd n 9 [a2] = some y2 := h2
  replace h3 : DataW.trod enc Try.prog w base sp hd n 4 [a3] = some y3 := h3
  replace h4 : DataW.trod enc Try.prog w base sp hd n 32 [a4, a5, a6] = some y4 := h4
  obtain ⟨k, e0, _, _⟩ := DataW.trod_int Try.underlying3 h0
  obtain ⟨p, e1, _, _⟩ := DataW.trod_int Try.underlying3 h1
  obtain ⟨nm, e2, _, hnm⟩ := DataW.trod_string Try.underlying9 h2
  obtain ⟨o, e3, _⟩ := DataW.trod_bool Try.underlying4 h3
  obtain ⟨vk, vn, vt, rfl, rfl, rfl, hvt⟩ := open_value n _ _ _ _ h4
  simp only [List.cons.injEq, and_true] at e0 e1 e2 e3
  subst e0 e1 e2 e3
  exact ⟨k, p, nm, o, vk, vn, vt, rfl, hnm, hvt⟩
end Go.Proofs.Ythimglgjeibaoaa

/- A datum of events, opened. -/
namespace Go.Proofs.Ythimglgjeibaoaa
open Go.RowKit Go.ChangeShapes
set_option linter.unusedVariables false
theorem cut17 {α : Type} (l : List α) (h : l.length = 17) : ∃ a0 a1 a2 a3 a4 a5 a6 a7 a8 a9 a10 a11 a12 a13 a14 a15 a16, l = [a0, a1, a2, a3, a4, a5, a6, a7, a8, a9, a10, a11, a12, a13, a14, a15, a16] := by
  match l, h with
  | [a0, a1, a2, a3, a4, a5, a6, a7, a8, a9, a10, a11, a12, a13, a14, a15, a16], _ => exact ⟨a0, a1, a2, a3, a4, a5, a6, a7, a8, a9, a10, a11, a12, a13, a14, a15, a16, rfl⟩
theorem pick_ev {α : Type} {P : Nat → α → Prop} : ∀ (n : Nat), (∀ i, i < n → ∃ x, P i x) → ∃ l : List α, l.length = n ∧ ∀ i x, l[i]? = some x → P i x
  | 0, _ => ⟨[], rfl, fun i x h => by simp at h⟩
  | n + 1, h => by
    obtain ⟨l, hl, hp⟩ := pick_ev n (fun i hi => h i (by omega))
    obtain ⟨x, hx⟩ := h n (by omega)
    refine ⟨l ++ [x], by simp [hl], fun i y hy => ?_⟩
    by_cases hi : i < n
    · rw [List.getElem?_append_left (by omega)] at hy
      exact hp i y hy
    · have : i = n := by
        apply Classical.byContradiction
        intro hn
        rw [List.getElem?_eq_none (by simp; omega)] at hy
        cases hy
      subst this
      rw [List.getElem?_append_right (by omega), hl, Nat.sub_self] at hy
      simp at hy
      subst hy
      exact hx
theorem add_flat (g off n : Nat) : (⟨g, off, none⟩ : Addr).add n = ⟨g, off + n, none⟩ := by
  unfold Addr.add
  split
  · next h => subst h; rfl
  · rfl
theorem cell_old {w : World} {g o : Nat} {v : Value} (h : w.cell? ⟨g, o, none⟩ = some v) : g < w.heap.size := by
  unfold World.cell? at h
  split at h
  · rename_i hq
    exact (Array.getElem?_eq_some_iff.1 hq).1
  · cases h
theorem spot_none {w : World} {a : Addr} {v : Value} (h : w.cell? a = some v) : a.spot = none := by
  unfold World.cell? at h
  split at h
  · split at h
    · cases h
    · rename_i hs
      cases hq : a.spot
      · rfl
      · rw [hq] at hs; simp at hs
  · cases h
theorem open_event {H : Type} {enc : TypeId × Value → H} {w : World} {base : Nat} {sp : Nat → Bool} {hd : Bool} (fuel : Nat) (cs : List Value) (x : DataW H × List MemPlace)
    (h : DataW.trod enc Try.prog w base sp hd fuel 38 cs = some x) : ∃ e : Ev, cs = evL e ∧ e.Wf := by
  have c17 : Try.prog.cellsOf 38 = 17 := by kernel_rfl
  have ci : Try.prog.cellsOf 3 = 1 := by kernel_rfl
  have cv : Try.prog.cellsOf 32 = 3 := by kernel_rfl
  have cm : Try.prog.cellsOf 34 = 5 := by kernel_rfl
  have ca : Try.prog.cellsOf 36 = 7 := by kernel_rfl
  obtain ⟨xs, n, rfl, _, hlen, hxl, hf⟩ := DataW.trod_struct Try.underlying38 h
  rw [c17] at hlen
  obtain ⟨a0, a1, a2, a3, a4, a5, a6, a7, a8, a9, a10, a11, a12, a13, a14, a15, a16, rfl⟩ := cut17 cs hlen
  obtain ⟨y0, y1, y2, y3, y4, rfl⟩ := cut5 xs hxl
  have h0 : DataW.trod enc Try.prog w base sp hd n 3 (([a0, a1, a2, a3, a4, a5, a6, a7, a8, a9, a10, a11, a12, a13, a14, a15, a16].drop 0).take (Try.prog.cellsOf 3)) = some y0 := hf 0 _ rfl
  have h1 : DataW.trod enc Try.prog w base sp hd n 32 (([a0, a1, a2, a3, a4, a5, a6, a7, a8, a9, a10, a11, a12, a13, a14, a15, a16].drop 1).take (Try.prog.cellsOf 32)) = some y1 := hf 1 _ rfl
  have h2 : DataW.trod enc Try.prog w base sp hd n 3 (([a0, a1, a2, a3, a4, a5, a6, a7, a8, a9, a10, a11, a12, a13, a14, a15, a16].drop 4).take (Try.prog.cellsOf 3)) = some y2 := hf 2 _ rfl
  have h3 : DataW.trod enc Try.prog w base sp hd n 34 (([a0, a1, a2, a3, a4, a5, a6, a7, a8, a9, a10, a11, a12, a13, a14, a15, a16].drop 5).take (Try.prog.cellsOf 34)) = some y3 := hf 3 _ rfl
  have h4 : DataW.trod enc Try.prog w base sp hd n 36 (([a0, a1, a2, a3, a4, a5, a6, a7, a8, a9, a10, a11, a12, a13, a14, a15, a16].drop 10).take (Try.prog.cellsOf 36)) = some y4 := hf 4 _ rfl
  rw [ci] at h0
  replace h0 : DataW.trod enc Try.prog w base sp hd n 3 [a0] = some y0 := h0
  rw [cv] at h1
  replace h1 : DataW.trod enc Try.prog w base sp hd n 32 [a1, a2, a3] = some y1 := h1
  rw [ci] at h2
  replace h2 : DataW.trod enc Try.prog w base sp hd n 3 [a4] = some y2 := h2
  rw [cm] at h3
  replace h3 : DataW.trod enc Try.prog w base sp hd n 34 [a5, a6, a7, a8, a9] = some y3 := h3
  rw [ca] at h4
  replace h4 : DataW.trod enc Try.prog w base sp hd n 36 [a10, a11, a12, a13, a14, a15, a16] = some y4 := h4
  obtain ⟨k, e0, _, _⟩ := DataW.trod_int Try.underlying3 h0
  obtain ⟨vk, vn, vt, rfl, rfl, rfl, hvt⟩ := open_value n _ _ _ _ h1
  obtain ⟨many, e2, _, _⟩ := DataW.trod_int Try.underlying3 h2
  obtain ⟨ck, cn, ak, an, ax, e3, hcn, hax⟩ := open_cmd n _ _ h3
  obtain ⟨ct, mp, mn, mo, wk, wn, wt, e4, hmn, hwt⟩ := open_came n _ _ h4
  simp only [List.cons.injEq, and_true] at e0 e2 e3 e4
  obtain ⟨rfl, rfl, rfl, rfl, rfl⟩ := e3
  obtain ⟨rfl, rfl, rfl, rfl, rfl, rfl, rfl⟩ := e4
  subst e0 e2
  exact ⟨⟨k, vk, vn, vt, many, ck, cn, ak, an, ax, ct, mp, mn, mo, wk, wn, wt⟩, rfl, hvt, hcn, hax, hmn, hwt⟩
theorem open_events {H : Type} {enc : TypeId × Value → H} {w : World} {base : Nat} {sp : Nat → Bool} {hd : Bool} (n : Nat) (cs : List Value) (x : DataW H × List MemPlace)
    (h : DataW.trod enc Try.prog w base sp hd n 22 cs = some x) : ∃ (l : List Ev) (v : Value), cs = [v] ∧ (∀ e ∈ l, e.Wf) ∧ EvRow w l v := by
  have c17 : Try.prog.cellsOf 38 = 17 := by kernel_rfl
  rcases DataW.trod_slice Try.underlying22 h with ⟨rfl, _⟩ | ⟨a, len, cap, elems, rest, m, rfl, rfl, _, hb, hl, hm, hlen, hel, _, _⟩
  · exact ⟨[], _, rfl, by simp, none, 0, rfl, Nat.le_refl _, by unfold maxLen; omega, fun h => by simp at h⟩
  · rw [c17] at hel
    have hone : ∀ i, i < len → ∃ e : Ev, e.Wf ∧ ∃ cs', w.cells? base (a.add (i * 17)) 17 = some cs' ∧ cs' = evL e := by
      intro i hi
      have h1 := hel i hi
      rw [List.getElem?_eq_getElem (by omega)] at h1
      obtain ⟨cs', hc, ht⟩ := Option.bind_eq_some_iff.1 h1
      obtain ⟨e, hx, hw⟩ := open_event m cs' _ ht
      exact ⟨e, hw, cs', hc, hx⟩
    obtain ⟨l, hll, hlp⟩ := pick_ev len hone
    refine ⟨l, _, rfl, fun e he => ?_, some a, cap, by rw [hll], by rw [hll]; exact hl, hm, fun hpos => ?_⟩
    · obtain ⟨i, hi⟩ := List.mem_iff_getElem?.1 he
      exact (hlp i e hi).1
    · rw [hll] at hpos
      have hspot : a.spot = none := by
        obtain ⟨e, _, cs', hc, hx⟩ := hone 0 hpos
        have h6 := (World.cells?_some hc).2.2 0 (by omega)
        rw [hx] at h6
        have := spot_none h6
        simpa [Addr.add] using this
      obtain ⟨g, off, spot⟩ := a
      simp only at hspot
      subst hspot
      have hcells : EvsAt w g off l := by
        intro i e hk j v hv
        obtain ⟨_, cs', hc, he⟩ := hlp i e hk
        subst he
        have hj : j < 17 := by
          have := (List.getElem?_eq_some_iff.1 hv).1
          simpa using this
        have h6 := (World.cells?_some hc).2.2 j hj
        rw [add_flat, add_flat] at h6
        rw [h6]
        exact hv
      refine ⟨g, off, rfl, ?_, hcells⟩
      obtain ⟨e, he⟩ : ∃ e, l[0]? = some e := ⟨l[0]'(by omega), List.getElem?_eq_getElem (by omega)⟩
      exact cell_old (hcells 0 e he 0 _ rfl)
end Go.Proofs.Ythimglgjeibaoaa

/- At every list of events and every number HistCut answers as the specification, and writes into no argument.
   The row's step: the statement of FnExactHistCut out of its walk. -/
namespace Go.Proofs.Ythimglgjeibaoaa.fnExactHistCut
open Go.ChangeShapes Go.WideShapes Go.ChangeAt Go.RowKit Go.Joins
open Go.ChangeMaps (open_string shut_string)
set_option linter.unusedVariables false

theorem own : ownKnob Try.prog.godebug = none := by kernel_rfl
theorem laidOut : laidOutB Try.prog = true := by kernel_rfl

set_option maxRecDepth 100000 in
theorem lifted (os : Os) (started : os.Started) (H : Type) (enc : TypeId × Value → H) :
    ReturnsInHanded {} Try.checked os 3 .any (Rows.fnExactHistCutSpec.pre6 enc Try.prog Try.f3 Rows.fnExactHistCutRow.domain false) (Rows.fnExactHistCutSpec.post enc Try.prog Try.f3 false true false false) := by
  refine returnsInHanded_of_change (C := Try.checked) own started (by kernel_rfl) Try.func3
    (ChangeSpec.witness6 (enc := enc) (C := Try.checked) false ⟨#[], #[.slice none 0 0, .int .i64 0], []⟩ 8 (by kernel_rfl) (by kernel_rfl) (by kernel_rfl) (by kernel_rfl)) ?_
  intro W base args ds gs before hval0 hW hcnd _
  have hval : ∀ (j : Nat) t v, Try.f3.params[j]? = some t → args[j]? = some v → Value.okWide Try.prog W .any base t v := hval0
  have hW' := hW
  obtain ⟨p, q, hA0, hV, rfl, hfz, hnd⟩ := hW
  have hA : DataW.TrodAll enc Try.prog W 0 (fun _ => true) true Try.f3.params.toList args.toList ds p := hA0
  rw [Try.params3] at hA hval
  obtain ⟨v0, vs0, d0, ds0, p0, q0, hargs, rfl, rfl, h0, r0⟩ := trodAll_cons hA
  obtain ⟨v1, vs1, d1, ds1, p1, q1, rfl, rfl, rfl, h1, r1⟩ := trodAll_cons r0
  obtain ⟨rfl, rfl, rfl⟩ := trodAll_nil r1
  obtain rfl : args = #[v0, v1] := by cases args; simp_all
  obtain ⟨rfl, rfl⟩ := trodVars_none hV
  obtain ⟨t, rfl, rfl, rfl, wt⟩ := open_int Try.underlying3 (hval 1 3 v1 rfl rfl) h1
  have ht2 : t ≤ 9223372036854775807 := by
    have := wt
    simp [Lit.wf] at this
    omega
  have k0 := h0
  have lt0 : ∀ x ∈ p0, x.block < W.heap.size := by obtain ⟨m, hm⟩ := k0; exact DataW.trod_lt m _ _ _ hm
  obtain ⟨a0, len0, cap0, rfl⟩ := okWide_slice Try.underlying22 (hval 0 22 v0 rfl rfl)
  have w0 : ∃ l : List Ev, (∀ e ∈ l, e.Wf) ∧ EvRow W l (.slice a0 len0 cap0) := by
    obtain ⟨fuel, hf⟩ := h0
    obtain ⟨l, v, hcs, h1, h2⟩ := open_events fuel _ _ hf
    simp [Value.cells] at hcs
    subst hcs
    exact ⟨l, h1, h2⟩
  obtain ⟨l, z1, z2⟩ := w0
  clear hA0 hval0
  refine (lawHistCut_any l z1 t ht2 _ W z2).mono fun e W' ⟨he, hg⟩ => ?_
  subst he
  exact ⟨_, rfl, _, _, _, [], _, [], hW', trodAll_mk1 (shut_bool Try.underlying4 _), (trodAll_cons_mk (Below.trod laidOut (by kernel_rfl) (of_decide_eq_true (by kernel_rfl)) k0 hg lt0) (trodAll_cons_mk (shut_int Try.underlying3 wt) trodAll_mk0)), rfl, hg.frame _, fun h => by cases h⟩

theorem over : Rows.fnExactHistCutRow.holds Try.pinned (OpenSpec.ofChange Rows.fnExactHistCutSpec) :=
  OpenClaim.holds_of_wide 3 Try.f3 rfl rfl rfl rfl rfl rfl rfl ⟨rfl, rfl, rfl, rfl, rfl⟩ rfl rfl rfl rfl rfl (by kernel_rfl) Try.func3 (by kernel_rfl)
    (of_decide_eq_true (by kernel_rfl)) (by unfold Func.isWrapper; first | (rw [if_pos (by decide +kernel)]; kernel_rfl) | (rw [if_neg (by decide +kernel)]; exact ⟨rfl, rfl⟩))
    (fun os started H enc _ => lifted os started H enc)

end Go.Proofs.Ythimglgjeibaoaa.fnExactHistCut
namespace Go.Proofs.Ythimglgjeibaoaa
theorem fnExactHistCut_holds : Rows.FnExactHistCutSaid := fnExactHistCut.over
end Go.Proofs.Ythimglgjeibaoaa

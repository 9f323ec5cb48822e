/- What is asked by names: a value, a name, what does not count. -/
import Derived.Test.YtamkncfdfaejjabGreatDoorEvI3
import Derived.Test.YtamkncfdfaejjabGreatDoorEvM1
namespace Go.Proofs.YtamkncfdfaejjabGreatDoor
open Go.RowKit
set_option linter.unusedVariables false
set_option linter.unusedSimpArgs false
/-- a closure that is asked by names -/
def Asks (w : World) (f : Value) (g : Pl.Look → Option Va) : Prop := ∃ id caps, f = .func (.func id) #[] caps ∧ Fun id ∧ ∀ (L : Pl.Look) (b n : Nat) (W : World), (∀ x v, L x = some v → Pl.okA v = true) → Below w.heap.size w W → MapV W b n L → Calls Tryz.prog id (#[.map (some b)] ++ caps) W (WorkPost (g L) W)
theorem Asks.later {w w1 : World} {f : Value} {g : Pl.Look → Option Va} (h : Asks w f g) (hB : Below w.heap.size w w1) : Asks w1 f g := by
  obtain ⟨id, caps, h1, h2, h3⟩ := h
  exact ⟨id, caps, h1, h2, fun L b n W hL hW hm => h3 L b n W hL (hB.trans (hW.mono hB.size)) hm⟩
theorem fun_value : Fun 62 := ⟨_, Tryz.func62, by kernel_rfl, by kernel_rfl⟩
theorem fun_name : Fun 63 := ⟨_, Tryz.func63, by kernel_rfl, by kernel_rfl⟩
theorem fun_not : Fun 64 := ⟨_, Tryz.func64, by kernel_rfl, by kernel_rfl⟩
theorem fun_unless : Fun 66 := ⟨_, Tryz.func66, by kernel_rfl, by kernel_rfl⟩
theorem fun_both : Fun 67 := ⟨_, Tryz.func67, by kernel_rfl, by kernel_rfl⟩
theorem contOf (v : Va) (h : Pl.okA v = true) (w : World) : Calls Tryz.prog 41 #[vaV v] w fun e w' => e = .returned (.tuple #[cvA v, .bool true]) ∧ Below w.heap.size w w' := by
  have hs := Pl.okA_size h
  have := contentOf_any v.k v.n v.t (by unfold maxLen; omega) w
  unfold Pl.okA at h
  rw [h] at this
  exact this
set_option maxHeartbeats 800000 in
theorem askValue_run (m c : Value) (p : Nat) (W : World) (hc : W.cell? ⟨p, 0, none⟩ = some c) : Calls Tryz.prog 62 #[m, .pointer (some ⟨p, 0, none⟩)] W fun e w' => e = .returned (.tuple #[c, .nilIface]) ∧ w' = W := by
  go_enter Tryz.func62, Tryz.ntmps62
  go_wp2
  go_ret2
  exact ⟨rfl, rfl⟩
theorem cell_last {w W : World} {c : Value} {T : TypeId} (hB : Below (w.alloc (.cells #[c] T)).heap.size (w.alloc (.cells #[c] T)) W) : W.cell? ⟨w.heap.size, 0, none⟩ = some c := by
  rw [hB.cell (p := ⟨w.heap.size, 0, none⟩) (by simp)]
  simp
set_option maxHeartbeats 800000 in
theorem askValue_any (v : Va) (hv : Pl.okA v = true) (w : World) : Calls Tryz.prog 42 #[vaV v] w fun e w' => ∃ f, e = .returned f ∧ Asks w' f (fun _ => some v) ∧ Below w.heap.size w w' := by
  have hc := hide (contOf v hv)
  have hcs : cvA v = cvN ∨ (∃ n, cvA v = cvI n) ∨ ∃ t, cvA v = cvT t := cv_kinds hv
  have HRUN := hide (fun (W : World) (p : Nat) h => askValue_run (.map none) (cvA v) p W h)
  clear HRUN
  have HV := hide (rfl : cvA v = cvA v)
  obtain ⟨c, hcv⟩ : ∃ c, c = cvA v := ⟨_, rfl⟩
  have HCV := hide hcv
  rw [← hcv] at hc hcs
  obtain ⟨k, n, t⟩ := v
  clear hcv HV hv
  rcases hcs with rfl | ⟨m, rfl⟩ | ⟨u, rfl⟩
  all_goals
    go_enter Tryz.func42, Tryz.ntmps42
    go_wp2_with fail
    refine (hc.out _).mono ?_
    rintro e w1 ⟨rfl, hB1⟩
    have HB := hide (((Below.refl w.heap.size w).alloc (Nat.le_refl _) _).trans (hB1.mono (by simp)))
    clear hB1
    go_wp2
    go_ret
    refine ⟨_, rfl, ⟨_, _, rfl, fun_value, fun L b n W hL hB hm => ?_⟩, HB.out.alloc HB.out.size _⟩
    refine (askValue_run (.map (some b)) _ w1.heap.size W (cell_last hB)).mono ?_
    rintro e W' ⟨rfl, rfl⟩
    exact ⟨⟨_, rfl, (by show _ = Value.tuple #[cvA _, Value.nilIface]; rw [← HCV.out])⟩, Below.refl _ _⟩
set_option maxRecDepth 100000 in
set_option maxHeartbeats 1600000 in
theorem askName_run (nm : ByteArray) (hnm : nm.size ≤ 10) (b n p : Nat) (L : Pl.Look) (hL : ∀ x v, L x = some v → Pl.okA v = true) (W : World) (hc : W.cell? ⟨p, 0, none⟩ = some (.string nm)) (hm : MapV W b n L) :
    Calls Tryz.prog 63 #[.map (some b), .pointer (some ⟨p, 0, none⟩)] W (WorkPost (L nm.data.toList) W) := by
  obtain ⟨D, hown, hD, hhas, hat⟩ := hm
  have hp : p < W.heap.size := World.block_lt_of_cell? W ⟨p, 0, none⟩ hc
  have hkey : keyOf Tryz.prog 9 (.string nm) = some (.string nm.data.toList) := Go.WideMaps.keyOf_string_mk Tryz.underlying9 (by unfold maxLen; omega)
  obtain ⟨v, ps, hrun, hv⟩ := hown.look_ok keyS Tryz.underlying44 (zeroVal W) (valE_mk zeroA) hkey
  obtain ⟨x, rfl, hx⟩ := valE_inv hv
  rw [hhas] at hrun
  have hxx : (L nm.data.toList).getD zeroA = x := by
    have h1 := congrArg Prod.fst hx
    simp only at h1
    rw [hat] at h1
    exact datA_inj h1
  have HL := hide (hL nm.data.toList)
  clear hown hD hhas hat hkey hv hx hL
  generalize L nm.data.toList = r at *
  cases r with
  | none =>
    simp only [Option.isSome_none] at hrun
    clear hxx
    obtain ⟨k, m, t⟩ := x
    go_enter Tryz.func63, Tryz.ntmps63
    go_wp2_with fail
    go_region
    all_goals
      go_wp2
      go_ret2
      exact ⟨⟨_, rfl, _, rfl⟩, ((Below.refl _ _).alloc (Nat.le_refl _) _).drew⟩
  | some y =>
    simp only [Option.isSome_some] at hrun
    simp only [Option.getD_some] at hxx
    subst hxx
    have hc2 := hide (contOf y (HL.out y rfl))
    obtain ⟨k, m, t⟩ := y
    go_enter Tryz.func63, Tryz.ntmps63
    go_wp2_with fail
    refine (hc2.out _).mono ?_
    rintro e w1 ⟨rfl, hB1⟩
    have HB := hide (((Below.refl W.heap.size W).alloc (Nat.le_refl _) _).trans (hB1.mono (by simp)))
    clear hB1
    go_wp2
    go_ret2
    exact ⟨⟨_, rfl, rfl⟩, HB.out⟩
set_option maxHeartbeats 800000 in
theorem askName_any (nm : ByteArray) (hnm : nm.size ≤ 10) (w : World) : Calls Tryz.prog 43 #[.string nm] w fun e w' => ∃ f, e = .returned f ∧ Asks w' f (fun L => L nm.data.toList) ∧ Below w.heap.size w w' := by
  go_enter Tryz.func43, Tryz.ntmps43
  go_wp2
  go_ret
  exact ⟨_, rfl, ⟨_, _, rfl, fun_name, fun L b n W hL hB hm => askName_run nm hnm b n w.heap.size L hL W (cell_last hB) hm⟩, (Below.refl _ _).alloc (Nat.le_refl _) _⟩
theorem fun_res {r : Option Va} {x : Value} (h : ResC r x) : (r = none ∧ ∃ s, x = .tuple #[.nilIface, errV s]) ∨ ∃ v, r = some v ∧ x = .tuple #[cvA v, .nilIface] := by
  cases r with
  | none => exact .inl ⟨rfl, h⟩
  | some v => exact .inr ⟨v, rfl, h⟩
set_option maxRecDepth 100000 in
set_option maxHeartbeats 1600000 in
theorem askNot_run (id : FuncId) (caps : Array Value) (hF : Fun id) (r : Option Va) (hr : ∀ v, r = some v → Pl.okA v = true) (b p : Nat) (W : World) (hc : W.cell? ⟨p, 0, none⟩ = some (.func (.func id) #[] caps)) (h : Calls Tryz.prog id (#[.map (some b)] ++ caps) W (WorkPost r W)) :
    Calls Tryz.prog 64 #[.map (some b), .pointer (some ⟨p, 0, none⟩)] W (WorkPost (Pl.opA 10 r none) W) := by
  have H := hide h
  have hcf := run_fun hF
  have HR := hide hr
  clear h hr
  go_enter Tryz.func64, Tryz.ntmps64
  go_wp2_with fail
  refine H.out.mono ?_
  rintro e w1 ⟨⟨x, rfl, hx⟩, hB1⟩
  have HB := hide hB1
  clear hB1 H hcf
  rcases fun_res hx with ⟨rfl, s, rfl⟩ | ⟨v, rfl, rfl⟩
  · go_wp2
    go_ret2
    exact ⟨⟨_, rfl, s, rfl⟩, HB.out⟩
  · have hv := HR.out v rfl
    have hop : Hid (Pl.opA 10 (some v) none = some (Pl.truthA (!Pl.countsA v))) := rfl
    have ht := hide (truth_any (!Pl.countsA v))
    have m1 := m_num_counts
    have m2 := m_text_counts
    have m3 := m_none_counts
    rcases cvA_cases hv with ⟨e, ev⟩ | ⟨n, e, ev, _⟩ | ⟨t, e, ev, _⟩
    · rw [e]
      have hcn := hide (countsNone_any)
      rw [← show v = ⟨0, 0, ⟨#[]⟩⟩ from ev] at hcn
      generalize Pl.countsA v = c at *
      go_wp2_with fail
      refine (hcn.out _).mono ?_
      rintro e2 w2 ⟨rfl, hB2⟩
      have HB2 := hide (HB.out.trans (hB2.mono HB.out.size))
      clear hB2
      go_wp2_with fail
      refine (ht.out _).mono ?_
      rintro e3 w3 ⟨rfl, rfl⟩
      go_wp2
      go_ret2
      exact ⟨⟨_, rfl, by rw [hop.out]; rfl⟩, HB2.out⟩
    · rw [e]
      have hcn := hide (countsNum_any n)
      rw [← show v = ⟨1, n, ⟨#[]⟩⟩ from ev] at hcn
      generalize Pl.countsA v = c at *
      go_wp2_with fail
      refine (hcn.out _).mono ?_
      rintro e2 w2 ⟨rfl, hB2⟩
      have HB2 := hide (HB.out.trans (hB2.mono HB.out.size))
      clear hB2
      go_wp2_with fail
      refine (ht.out _).mono ?_
      rintro e3 w3 ⟨rfl, rfl⟩
      go_wp2
      go_ret2
      exact ⟨⟨_, rfl, by rw [hop.out]; rfl⟩, HB2.out⟩
    · rw [e]
      have hcn := hide (countsText_any t)
      rw [← show v = ⟨2, 0, t⟩ from ev] at hcn
      generalize Pl.countsA v = c at *
      go_wp2_with fail
      refine (hcn.out _).mono ?_
      rintro e2 w2 ⟨rfl, hB2⟩
      have HB2 := hide (HB.out.trans (hB2.mono HB.out.size))
      clear hB2
      go_wp2_with fail
      refine (ht.out _).mono ?_
      rintro e3 w3 ⟨rfl, rfl⟩
      go_wp2
      go_ret2
      exact ⟨⟨_, rfl, by rw [hop.out]; rfl⟩, HB2.out⟩
set_option maxHeartbeats 800000 in
theorem askNot_any (f : Value) (g : Pl.Look → Option Va) (hg : ∀ L : Pl.Look, (∀ x v, L x = some v → Pl.okA v = true) → ∀ v, g L = some v → Pl.okA v = true) (w : World) (h : Asks w f g) :
    Calls Tryz.prog 44 #[f] w fun e w' => ∃ f', e = .returned f' ∧ Asks w' f' (fun L => Pl.opA 10 (g L) none) ∧ Below w.heap.size w w' := by
  obtain ⟨id, caps, rfl, hF, hcall⟩ := h
  have HC := hide hcall
  have HG := hide hg
  clear hcall hg
  go_enter Tryz.func44, Tryz.ntmps44
  go_wp2
  go_ret
  have h0 : Below w.heap.size w (w.alloc (.cells #[.func (.func id) #[] caps] 64)) := (Below.refl _ _).alloc (Nat.le_refl _) _
  exact ⟨_, rfl, ⟨_, _, rfl, fun_not, fun L b n W hL hB hm => askNot_run id caps hF (g L) (HG.out L hL) b w.heap.size W (cell_last hB) (HC.out L b n W hL (h0.trans (hB.mono h0.size)) hm)⟩, h0⟩
end Go.Proofs.YtamkncfdfaejjabGreatDoor

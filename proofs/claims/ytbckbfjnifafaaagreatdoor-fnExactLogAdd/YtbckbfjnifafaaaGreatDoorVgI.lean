/- A value written, as the program has it. -/
import Derived.Test.YtbckbfjnifafaaaGreatDoorShNum
import Derived.Test.YtbckbfjnifafaaaGreatDoorPlVg
import Derived.Test.YtbckbfjnifafaaaGreatDoorVal5
import Derived.Test.YtbckbfjnifafaaaGreatDoorOwn
import Derived.Test.YtbckbfjnifafaaaGreatDoorCln
import Derived.Lib.AppendIntMem
import Derived.Lib.LaidTab
namespace Go.Proofs.YtbckbfjnifafaaaGreatDoor
open Go.RowKit
set_option linter.unusedVariables false

/-- the library's table of the powers of ten stands as it is laid -/
def Tab (w : World) : Prop := Lib.TabIs Tryz.prog w "internal/strconv.uint64pow10" .u64 Lib.pow10Tab
theorem gPow : Tryz.prog.globalNamed "internal/strconv.uint64pow10" = some 1 := by kernel_rfl
theorem Tab.later {w w1 : World} (h : Tab w) (hB : Below w.heap.size w w1) : Tab w1 := by
  unfold Tab Lib.TabIs at h ⊢
  have hlt : 1 < w.heap.size := World.block_lt_of_cell? w ⟨1, 0, none⟩ (Lib.TabIs.cell h gPow 0 (by decide))
  simp only [World.var?, gPow, Option.bind_some] at h ⊢
  rw [hB.block _ hlt]
  exact h

theorem m_num_put (n : Int) (w : World) : (method 509 188 (.int .i64 n) "loop.example/backstitch/impl.put").run Tryz.prog w = .ok (318, .int .i64 n) w := by kernel_rfl
theorem m_text_put (s : ByteArray) (w : World) : (method 509 189 (.string s) "loop.example/backstitch/impl.put").run Tryz.prog w = .ok (320, .string s) w := by kernel_rfl
theorem m_none_put (w : World) : (method 509 187 (.agg #[]) "loop.example/backstitch/impl.put").run Tryz.prog w = .ok (315, .agg #[]) w := by kernel_rfl

set_option maxHeartbeats 400000 in
theorem putNum_any (n : Int) (h0 : -9223372036854775808 ≤ n) (h1 : n ≤ 9223372036854775807) (w : World) (ht : Tab w) :
    Calls Tryz.prog 318 #[.int .i64 n] w fun e w' => e = .returned (.string (Pl.bs (Lib.itoa n))) ∧ Below w.heap.size w w' := by
  have hq := hide (Tryz.strconv_Itoa n h0 h1 w ht)
  go_enter Tryz.func318, Tryz.ntmps318
  go_wp2_with fail
  refine hq.out.mono ?_
  rintro e w1 ⟨rfl, k, os, rfl⟩
  have HB := hide (Lib.below_grow _ w (Nat.le_refl _) k os)
  generalize Sort.grow (w.drewN k) os = W at HB ⊢
  go_wp2
  go_ret
  exact ⟨rfl, HB.out⟩
set_option maxHeartbeats 400000 in
theorem putText_any (t : ByteArray) (ht : t.size ≤ 2000000) (w : World) :
    Calls Tryz.prog 320 #[.string t] w fun e w' => e = .returned (.string (Pl.bs (34 :: (t.data.toList ++ [34])))) ∧ Below w.heap.size w w' := by
  have HE : Hid (Pl.bs (34 :: (t.data.toList ++ [34])) = Pl.bs [34] ++ t ++ Pl.bs [34]) := by
    show _ = _
    apply Pl.eq_of_data
    simp [Pl.bs]
  have hsum : (Pl.bs [34]).size + t.size ≤ 2000001 := by show 1 + _ ≤ _; omega
  have hsum2 : (Pl.bs [34] ++ t).size + (Pl.bs [34]).size ≤ 2000002 := by
    have : (Pl.bs [34] ++ t).size = 1 + t.size := by simp; rfl
    rw [this]; show _ + 1 ≤ _; omega
  go_enter Tryz.func320, Tryz.ntmps320
  go_wp2
  go_ret
  exact ⟨by rw [HE.out]; rfl, Below.refl _ _⟩
set_option maxHeartbeats 400000 in
theorem putNone_any (w : World) :
    Calls Tryz.prog 315 #[.agg #[]] w fun e w' => e = .returned (.string (Pl.bs [110, 111, 110, 101])) ∧ Below w.heap.size w w' := by
  go_enter Tryz.func315, Tryz.ntmps315
  go_wp2
  go_ret
  exact ⟨rfl, by first | exact Below.refl _ _ | exact (Below.refl _ _).alloc (Nat.le_refl _) _⟩

/-- a value's text, or the empty one -/
def Pl.putB (k n : Int) (t : ByteArray) : List UInt8 := if Pl.okB k n t = true then Pl.putV k n t else []
set_option maxRecDepth 100000 in
set_option maxHeartbeats 800000 in
theorem implValuePut_any (k n : Int) (t : ByteArray) (ht : t.size ≤ 2000000) (h0 : -9223372036854775808 ≤ n) (h1 : n ≤ 9223372036854775807) (w : World) (hT : Tab w) :
    Calls Tryz.prog 96 #[vAgg k n t] w fun e w' => e = .returned (.string (Pl.bs (Pl.putB k n t))) ∧ Below w.heap.size w w' := by
  have hc := hide (contentOf_any k n t (by unfold maxLen; omega))
  have hpn := hide (fun (W : World) (hB : Below w.heap.size w W) => putNum_any n h0 h1 W (hT.later hB))
  have hpt := hide (putText_any t ht)
  have hp0 := hide putNone_any
  have hm1 := m_num_put
  have hm2 := m_text_put
  have hm0 := m_none_put
  cases hb : Pl.okB k n t
  · have HE : Hid (Pl.putB k n t = []) := by show _ = _; simp [Pl.putB, hb]
    rw [hb] at hc
    clear hb
    generalize contV k n t = cv at hc
    go_enter Tryz.func96, Tryz.ntmps96
    go_wp2_with fail
    refine (hc.out _).mono ?_
    rintro e w1 ⟨rfl, hB1⟩
    go_wp2
    go_ret
    exact ⟨by rw [HE.out]; rfl, ((Below.refl _ _).alloc (Nat.le_refl _) _).trans (hB1.mono (by simp))⟩
  · rw [hb] at hc
    have HE : Hid (Pl.putB k n t = Pl.putV k n t) := by show _ = _; simp [Pl.putB, hb]
    by_cases k1 : k = 1
    · subst k1
      have HV : Hid (Pl.putV 1 n t = Lib.itoa n) := by show _ = _; simp [Pl.putV]
      have hcv : contV 1 n t = .iface 188 (.int .i64 n) := by simp [contV]
      rw [hcv] at hc
      clear hb hcv
      generalize Lib.itoa n = D at hpn HV
      go_enter Tryz.func96, Tryz.ntmps96
      go_wp2_with fail
      refine (hc.out _).mono ?_
      rintro e w1 ⟨rfl, hB1⟩
      have HB1 : Hid (Below w.heap.size w w1) := ((Below.refl _ _).alloc (Nat.le_refl _) _).trans (hB1.mono (by simp))
      clear hB1
      go_wp2_with fail
      refine (hpn.out _ HB1.out).mono ?_
      rintro e w2 ⟨rfl, hB2⟩
      go_wp2
      go_ret
      exact ⟨by rw [HE.out, HV.out]; rfl, HB1.out.trans (hB2.mono HB1.out.size)⟩
    · by_cases k2 : k = 2
      · subst k2
        have HV : Hid (Pl.putV 2 n t = 34 :: (t.data.toList ++ [34])) := by show _ = _; simp [Pl.putV]
        have hcv : contV 2 n t = .iface 189 (.string t) := by simp [contV]
        rw [hcv] at hc
        clear hb hcv
        generalize 34 :: (t.data.toList ++ [34]) = D at hpt HV
        go_enter Tryz.func96, Tryz.ntmps96
        go_wp2_with fail
        refine (hc.out _).mono ?_
        rintro e w1 ⟨rfl, hB1⟩
        have HB1 : Hid (Below w.heap.size w w1) := ((Below.refl _ _).alloc (Nat.le_refl _) _).trans (hB1.mono (by simp))
        clear hB1
        go_wp2_with fail
        refine (hpt.out _).mono ?_
        rintro e w2 ⟨rfl, hB2⟩
        go_wp2
        go_ret
        exact ⟨by rw [HE.out, HV.out]; rfl, HB1.out.trans (hB2.mono HB1.out.size)⟩
      · have HV : Hid (Pl.putV k n t = [110, 111, 110, 101]) := by show _ = _; simp [Pl.putV, k1, k2]
        have hcv : contV k n t = .iface 187 (.agg #[]) := by simp [contV, k1, k2]
        rw [hcv] at hc
        clear hb hcv k1 k2
        go_enter Tryz.func96, Tryz.ntmps96
        go_wp2_with fail
        refine (hc.out _).mono ?_
        rintro e w1 ⟨rfl, hB1⟩
        have HB1 : Hid (Below w.heap.size w w1) := ((Below.refl _ _).alloc (Nat.le_refl _) _).trans (hB1.mono (by simp))
        clear hB1
        go_wp2_with fail
        refine (hp0.out _).mono ?_
        rintro e w2 ⟨rfl, hB2⟩
        go_wp2
        go_ret
        exact ⟨by rw [HE.out, HV.out]; rfl, HB1.out.trans (hB2.mono HB1.out.size)⟩
end Go.Proofs.YtbckbfjnifafaaaGreatDoor

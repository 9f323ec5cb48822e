/- Whether events go on, as the specification asks it. -/
import Derived.Test.YtobeecopkfgplaaEvM
import Derived.WalkSpells
import Derived.WalkLawsBesides
import Derived.BigQuiet
import Derived.Deep.RegionWith
import Derived.Test.YtobeecopkfgplaaCmd1
namespace Go.Proofs.Ytobeecopkfgplaa
open Go.RowKit
set_option linter.unusedVariables false
set_option linter.unusedSimpArgs false
set_option maxHeartbeats 800000 in
theorem l5Ends_any (k : Int) (nm : ByteArray) (vk vn : Int) (vt : ByteArray) (w : World) :
    Calls Try.prog 57 #[cmdV k nm vk vn vt] w fun e w' => e = .returned (.bool (Pl.endK k)) ∧ Below w.heap.size w w' := by
  unfold Pl.endK
  cases h4 : (k == 4) <;> cases h5 : (k == 5) <;> cases h6 : (k == 6)
  all_goals
    go_enter Try.func57, Try.ntmps57
    go_wp2
    go_ret
    exact ⟨by simp [h4, h5, h6], (Below.refl _ _).alloc (Nat.le_refl _) _⟩
theorem l5Ends_at (k : Int) (nm : ByteArray) (vk vn : Int) (vt : ByteArray) {b : Bool} (h : Pl.endK k = b) (w : World) :
    Calls Try.prog 57 #[cmdV k nm vk vn vt] w fun e w' => e = .returned (.bool b) ∧ Below w.heap.size w w' := by
  rw [← h]; exact l5Ends_any k nm vk vn vt w
/-- none of the first events shuts -/
def Pl.goesTo (l : List Ev) (i : Nat) : Bool := (l.take i).all (fun e => !Pl.shuts e)
theorem Pl.goesTo_succ (l : List Ev) (i : Nat) (e : Ev) (h : l[i]? = some e) : Pl.goesTo l (i + 1) = (Pl.goesTo l i && !Pl.shuts e) := by
  unfold Pl.goesTo
  rw [List.take_add_one, h]
  simp
theorem Pl.open_not {l : List Ev} {i : Nat} {e : Ev} (h : l[i]? = some e) (hs : Pl.shuts e = true) : Pl.openB l = false := by
  unfold Pl.openB
  have : l.all (fun e => !Pl.shuts e) = false := by
    rw [List.all_eq_false]
    exact ⟨e, List.mem_of_getElem? h, by simp [hs]⟩
  rw [this]; rfl
set_option maxHeartbeats 1600000 in
theorem l5Open_any (l : List Ev) (hN : l.length ≤ 1048576) (v : Value) (w : World) (hr : EvRow w l v) :
    Calls Try.prog 39 #[v] w fun x w' => x = .returned (.bool (Pl.openB l)) ∧ Below w.heap.size w w' := by
  obtain ⟨ad, cap, rfl, hc, hmx, hx⟩ := hr
  unfold maxLen at hmx
  have HX := hide hx
  clear hx
  go_enter Try.func39, Try.ntmps39
  go_wp2_with fail
  go_loopw [3] (fun iv wr => ∃ i : Nat, i ≤ l.length ∧ iv = .int .i64 i ∧ Hid (Pl.goesTo l i = true) ∧ Hid (Below w.heap.size w wr)) (fun iv _ => l.length - (intOf iv).toNat)
  case atStart => exact ⟨0, by omega, rfl, hide (by simp [Pl.goesTo]), hide (Below.refl _ _)⟩
  case round =>
    obtain ⟨i, hi, rfl, HG, HB⟩ := hrel
    by_cases hlt : i < l.length
    · obtain ⟨g, off, rfl, hg, hs⟩ := HX.out (by omega)
      have hget : l[i]? = some l[i] := List.getElem?_eq_getElem hlt
      obtain ⟨e, he⟩ : ∃ e, l[i]? = some e := ⟨_, hget⟩
      obtain ⟨d0, d1, d2, d3, d4, d5, d6, d7, d8, d9, _⟩ := ((hs i e he).later HB.out hg).cells
      have HS := hide (Pl.goesTo_succ l i e he)
      have HE := hide he
      clear hs he hget
      have hii : (i : Int) < (l.length : Int) := by omega
      by_cases k5 : e.k = 5
      · have q5 : (e.k == 5) = true := by simp [k5]
        have HN : Hid (Pl.openB l = false) := Pl.open_not HE.out (by simp [Pl.shuts, k5])
        clear k5
        go_wp2
        go_ret
        exact ⟨by rw [HN.out]; rfl, HB.out⟩
      · have q5 : (e.k == 5) = false := by simp [k5]
        by_cases k3 : e.k = 3
        · have q3 : (e.k == 3) = true := by simp [k3]
          cases hend : Pl.endK e.ck
          · have HN : Hid (Pl.goesTo l (i + 1) = true) := by show _ = _; rw [HS.out, HG.out]; simp [Pl.shuts, k3, hend]
            have hq := hide (l5Ends_at e.ck e.cn e.ak e.an e.ax hend)
            clear k5 k3 hend
            go_wp2_with fail
            refine (hq.out _).mono ?_
            rintro x w2 ⟨rfl, hB2⟩
            have HB2 : Hid (Below w.heap.size w w2) := HB.out.trans (hB2.mono HB.out.size)
            clear hB2 d0 d1 d2 d3 d4 d5 d6 d7 d8 d9
            go_wp2
            go_roundw
            case rel => exact ⟨i + 1, by omega, by go_num, HN, HB2⟩
            case measure => simp [intOf]; omega
          · have HN : Hid (Pl.openB l = false) := Pl.open_not HE.out (by simp [Pl.shuts, k3, hend])
            have hq := hide (l5Ends_at e.ck e.cn e.ak e.an e.ax hend)
            clear k5 k3 hend
            go_wp2_with fail
            refine (hq.out _).mono ?_
            rintro x w2 ⟨rfl, hB2⟩
            have HB2 : Hid (Below w.heap.size w w2) := HB.out.trans (hB2.mono HB.out.size)
            clear hB2 d0 d1 d2 d3 d4 d5 d6 d7 d8 d9
            go_wp2
            go_ret
            exact ⟨by rw [HN.out]; rfl, HB2.out⟩
        · have q3 : (e.k == 3) = false := by simp [k3]
          have HN : Hid (Pl.goesTo l (i + 1) = true) := by show _ = _; rw [HS.out, HG.out]; simp [Pl.shuts, k3, k5]
          clear k5 k3
          go_wp2
          go_roundw
          case rel => exact ⟨i + 1, by omega, by go_num, HN, HB⟩
          case measure => simp [intOf]; omega
    · have hie : i = l.length := by omega
      have HO : Hid (Pl.openB l = decide (0 < l.length)) := by
        show _ = _
        have h := HG.out
        unfold Pl.goesTo at h
        rw [hie, List.take_length] at h
        unfold Pl.openB
        rw [h]
        cases l <;> simp
      by_cases h0 : 0 < l.length
      · have HO2 : Hid (Pl.openB l = true) := by show _ = _; rw [HO.out]; simp [h0]
        have hpos : (0 : Int) < (l.length : Int) := by omega
        clear hie
        go_wp2
        go_ret
        exact ⟨by rw [HO2.out]; first | rfl | simp [hpos], HB.out⟩
      · have HO2 : Hid (Pl.openB l = false) := by show _ = _; rw [HO.out]; simp [h0]
        have hpos : ¬ (0 : Int) < (l.length : Int) := by omega
        clear hie
        go_wp2
        go_ret
        exact ⟨by rw [HO2.out]; first | rfl | simp [hpos], HB.out⟩
end Go.Proofs.Ytobeecopkfgplaa

/- Names of an expression put in order, as the specification has it. -/
import Derived.Test.YtnikomgdcddchaaGreatOk1f
import Derived.Test.YtnikomgdcddchaaGreatTxAt
import Derived.Test.YtnikomgdcddchaaGreatPlS
import Derived.Deep.RegionLaw
import Derived.Deep.QuietTactic
import Derived.BigQuiet
namespace Go.Proofs.YtnikomgdcddchaaGreat
open Go.RowKit
set_option linter.unusedVariables false

theorem bytesLess_lt : ∀ (x y : List UInt8), Op.bytesLess x y = decide (x < y)
  | [], [] => by simp [Op.bytesLess]
  | _ :: _, [] => by simp [Op.bytesLess]
  | [], _ :: _ => by simp [Op.bytesLess]
  | a :: x, b :: y => by
    rw [Op.bytesLess, bytesLess_lt x y]
    simp only [List.cons_lt_cons_iff]
    by_cases h1 : a < b <;> by_cases h2 : a = b <;> by_cases h3 : x < y <;> simp [h1, h2, h3]

theorem add_at (g off k : Nat) : (⟨g, off, none⟩ : Addr).add k = ⟨g, off + k, none⟩ := by
  unfold Addr.add
  split
  · next h => subst h; rfl
  · rfl
/-- what stands from k on, as the model cuts it -/
theorem tail_if {w : World} {ad : Option Addr} {cap k : Nat} {L : List (List UInt8)} (hk : k ≤ L.length) (h : TextsAt w (.slice ad L.length cap) L) : TextsAt w (.slice (if cap = k then ad else Option.map (fun x : Addr => x.add k) ad) (L.length - k) (cap - k)) (L.drop k) := by
  by_cases hc : cap = k
  · rw [if_pos hc]
    obtain ⟨a', c', hv, h1, h2, h3, h4⟩ := h
    cases hv
    refine ⟨ad, cap - k, by rw [List.length_drop], by rw [List.length_drop]; omega, by omega, fun hl => ?_, fun h => by rw [h4 h]; omega⟩
    rw [List.length_drop] at hl
    omega
  · rw [if_neg hc]
    have := TextsAt.tail (X := L.take k) (Y := L.drop k) (n := L.length) (by rw [List.take_append_drop]; exact h)
    rwa [List.length_take, List.length_drop, Nat.min_eq_left hk] at this
theorem own_lit (W : World) (T : TypeId) (base : Nat) (h : base ≤ W.heap.size) : (W.alloc (.cells #[] T)).ownsRow base T 1 (.slice (some ⟨W.heap.size, 0, none⟩) 0 0) 0 [] :=
  World.ownsRow_made _ _ 0 h (by unfold maxLen; omega) rfl
theorem own_one (w : World) (T : TypeId) : (w.alloc (.cells #[] T)).drew.ownsRow w.heap.size T 1 (.slice (some ⟨w.heap.size, 0, none⟩) 0 0) 0 [] := (own_lit w T _ (Nat.le_refl _)).drew
theorem own_two (w : World) (T : TypeId) (u : Value) : ((w.alloc (.cells #[] T)).alloc (.cells #[u] T)).drew.ownsRow w.heap.size T 1 (.slice (some ⟨w.heap.size, 0, none⟩) 0 0) 0 [] := ((own_lit w T _ (Nat.le_refl _)).alloc _).drew
theorem own_three (w : World) (T : TypeId) (u : Value) : ((w.alloc (.cells #[u] T)).alloc (.cells #[] T)).drew.ownsRow w.heap.size T 1 (.slice (some ⟨w.heap.size + 1, 0, none⟩) 0 0) 0 [] := by
  have := (own_lit (w.alloc (.cells #[u] T)) T w.heap.size (by simp)).drew
  simpa using this
theorem bel_one (w : World) (A : Obj) : Below w.heap.size w (w.alloc A).drew := ((Below.refl _ _).alloc (Nat.le_refl _) _).drew
theorem bel_two (w : World) (A B : Obj) : Below w.heap.size w ((w.alloc A).alloc B).drew := (((Below.refl _ _).alloc (Nat.le_refl _) _).alloc (by simp) _).drew
theorem one_at (w : World) (s : List UInt8) : TextsAt (w.alloc (.cells #[sv s] 9)) (.slice (some ⟨w.heap.size, 0, none⟩) 1 1) [s] := by
  refine ⟨_, _, rfl, Nat.le_refl _, by unfold maxLen; omega, fun _ => ⟨w.heap.size, 0, rfl, by simp, fun i hi => ?_⟩, fun h => by cases h⟩
  have : i = 0 := by simpa using hi
  subst this
  simp
theorem one_two (w : World) (s : List UInt8) : TextsAt ((w.alloc (.cells #[] 9)).alloc (.cells #[sv s] 9)).drew (.slice (some ⟨w.heap.size + 1, 0, none⟩) 1 1) [s] := by
  have := (one_at (w.alloc (.cells #[] 9)) s).later (Below.refl _ _).drew
  simpa using this
theorem one_three (w : World) (s : List UInt8) : TextsAt ((w.alloc (.cells #[sv s] 9)).alloc (.cells #[] 9)).drew (.slice (some ⟨w.heap.size, 0, none⟩) 1 1) [s] :=
  (one_at w s).later (bel_one _ _)
set_option maxHeartbeats 1600000 in
theorem l2Add_any (L : List (List UInt8)) (s : List UInt8) (hL : L.length ≤ 1048576) (v : Value) (w : World) (hv : TextsAt w v L) :
    Calls Tryz.prog 42 #[v, sv s] w fun e w' => ∃ v', e = .returned v' ∧ TextsAt w' v' (Pl.ins s L) ∧ Below w.heap.size w w' := by
  have HV := hide hv
  obtain ⟨ad, cap, rfl, hc, hm, hx, hnn⟩ := hv
  unfold maxLen at hm
  have HX := hide hx
  clear hx
  have hss : (Pl.bs s).toList = s := Pl.bs_toList s
  go_enter Tryz.func42, Tryz.ntmps42
  go_wp2_with fail
  go_loopw [5] (fun iv wr => ∃ k : Nat, k ≤ L.length ∧ iv = .int .i64 k ∧ Hid (∀ j, j < k → L[j]?.getD [] < s) ∧ wr = w) (fun iv _ => L.length - (intOf iv).toNat)
  case atStart => exact ⟨0, by omega, rfl, hide (fun j hj => by omega), rfl⟩
  case round =>
    obtain ⟨k, hk, rfl, HS, rfl⟩ := hrel
    by_cases hlt : k < L.length
    · obtain ⟨g, off, rfl, hg, hcell⟩ := HX.out (by omega)
      have hck := hcell k hlt
      clear hcell
      have hii : (k : Int) < (L.length : Int) := by omega
      generalize hX : L[k]?.getD [] = X at hck
      have HXX := hide hX
      clear hX
      have hxs : (Pl.bs X).toList = X := Pl.bs_toList X
      by_cases hl1 : X < s
      · have hb : Op.bytesLess (Pl.bs X).toList (Pl.bs s).toList = true := by rw [hxs, hss, bytesLess_lt]; simp [hl1]
        clear hxs hss
        go_wp2_with fail
        go_roundw
        case rel =>
          refine ⟨k + 1, by omega, by go_num, hide fun j hj => ?_, trivial⟩
          by_cases hjk : j = k
          · subst hjk; rw [HXX.out]; exact hl1
          · exact HS.out j (by omega)
        case measure => simp [intOf]; omega
      · have hb : Op.bytesLess (Pl.bs X).toList (Pl.bs s).toList = false := by rw [hxs, hss, bytesLess_lt]; simp [hl1]
        by_cases heq : X = s
        · have hb2 : ((Pl.bs X).toList == (Pl.bs s).toList) = true := by rw [hxs, hss]; simp [heq]
          clear hxs hss
          have HEQ := hide heq
          clear heq
          go_wp2_with fail
          go_ret
          refine ⟨_, rfl, ?_, Below.refl _ _⟩
          rw [Pl.ins_there s L k HS.out hlt (by rw [HXX.out]; exact HEQ.out)]
          exact HV.out
        · have hb2 : ((Pl.bs X).toList == (Pl.bs s).toList) = false := by rw [hxs, hss]; simp [heq]
          have HI := hide (Pl.ins_new s L k hk HS.out (fun _ => by rw [HXX.out]; exact ⟨hl1, heq⟩))
          clear hxs hss
          have hkc : k ≤ cap := by omega
          have HTL : Hid (∀ W, Below wr.heap.size wr W → TextsAt W (.slice (some ⟨g, off, none⟩) k cap) (L.take k)) := by
            refine hide fun W hW => ?_
            have := TextsAt.head (X := L.take k) (Y := L.drop k) (n := L.length) (by rw [List.take_append_drop]; exact HV.out.later hW)
            rwa [List.length_take, Nat.min_eq_left hk] at this
          go_wp2_with fail
          have HTR : Hid (∀ W, Below wr.heap.size wr W → TextsAt W (.slice (if cap = k then some ⟨g, off, none⟩ else some ⟨g, off + k, none⟩) (L.length - k) (cap - k)) (L.drop k)) := by
            refine hide fun W hW => ?_
            have := tail_if (k := k) hk (HV.out.later hW)
            simpa [add_at] using this
          go_region_law (first
            | (refine step_app rfl (.tmp 33) (.tmp 36) rfl rfl wr.heap.size [] (L.take k) ?v ?u ?n ?b ?_
               case v => first | simpa [Act.eval, Act.put] using own_one wr 9 | simpa [Act.eval, Act.put] using own_two wr 9 (sv s) | simpa [Act.eval, Act.put] using own_three wr 9 (sv s)
               case u => first | simpa [Act.eval, Act.put] using HTL.out _ (bel_one wr _) | simpa [Act.eval, Act.put] using HTL.out _ (bel_two wr _ _)
               case n => (simp; omega)
               case b => (simp; try omega)
               intro v1 w1 hv1 hg1 hb1
               replace hg1 := hide hg1
               replace hb1 := hide (hb1 wr (Nat.le_refl _) (by first | exact bel_one wr _ | exact bel_two wr _ _)))
            | (refine step_app rfl (.tmp 37) (.tmp 39) rfl rfl wr.heap.size (L.take k) [s] ?v ?u ?n ?b ?_
               case v => first | simpa [Act.eval, Act.put] using hv1 | simpa [Act.eval, Act.put] using hv1.alloc _
               case u => first | simpa [Act.eval, Act.put] using one_at w1 s | simpa [Act.eval, Act.put] using (one_two wr s).grown hg1.out (by simp [Act.eval, Value.ownBlock]) | simpa [Act.eval, Act.put] using (one_three wr s).grown hg1.out (by simp [Act.eval, Value.ownBlock])
               case n => (simp; omega)
               case b => (have := hb1.out.size; simp; try omega)
               intro v2 w2 hv2 hg2 hb2
               replace hb2 := hide (hb2 wr (Nat.le_refl _) (by first | exact hb1.out | exact hb1.out.alloc hb1.out.size _))
               clear hg2)
            | (refine step_app rfl (.tmp 40) (.tmp 43) rfl rfl wr.heap.size (L.take k ++ [s]) (L.drop k) ?v ?u ?n ?b ?_
               case v => simpa [Act.eval, Act.put] using hv2
               case u => simpa [Act.eval, Act.put] using HTR.out _ hb2.out
               case n => (simp; omega)
               case b => exact hb2.out.size
               intro v3 w3 hv3 hg3 hb3
               replace hb3 := hide (hb3 wr (Nat.le_refl _) hb2.out)
               clear hg3))
          all_goals
            go_wp2
            go_ret
            refine ⟨_, rfl, ?_, hb3.out⟩
            have := texts_of_row hv3
            rw [HI.out, List.append_cons]
            exact this
    · have HI := hide (Pl.ins_new s L k hk HS.out (fun h => absurd h hlt))
      have hkc : k ≤ cap := by omega
      have HTL : Hid (∀ W, Below wr.heap.size wr W → TextsAt W (.slice ad k cap) (L.take k)) := by
        refine hide fun W hW => ?_
        have := TextsAt.head (X := L.take k) (Y := L.drop k) (n := L.length) (by rw [List.take_append_drop]; exact HV.out.later hW)
        rwa [List.length_take, Nat.min_eq_left hk] at this
      go_wp2_with fail
      have HTR : Hid (∀ W, Below wr.heap.size wr W → TextsAt W (.slice (if cap = k then ad else Option.map (fun x : Addr => x.add k) ad) (L.length - k) (cap - k)) (L.drop k)) := hide fun W hW => tail_if hk (HV.out.later hW)
      go_region_law (first
        | (refine step_app rfl (.tmp 33) (.tmp 36) rfl rfl wr.heap.size [] (L.take k) ?vv ?uu ?nn ?bb ?_
           case vv => first | simpa [Act.eval, Act.put] using own_one wr 9 | simpa [Act.eval, Act.put] using own_two wr 9 (sv s) | simpa [Act.eval, Act.put] using own_three wr 9 (sv s)
           case uu => first | simpa [Act.eval, Act.put] using HTL.out _ (bel_one wr _) | simpa [Act.eval, Act.put] using HTL.out _ (bel_two wr _ _)
           case nn => (simp; omega)
           case bb => (simp; try omega)
           intro v1 w1 hv1 hg1 hb1
           replace hg1 := hide hg1
           replace hb1 := hide (hb1 wr (Nat.le_refl _) (by first | exact bel_one wr _ | exact bel_two wr _ _)))
        | (refine step_app rfl (.tmp 37) (.tmp 39) rfl rfl wr.heap.size (L.take k) [s] ?vv ?uu ?nn ?bb ?_
           case vv => first | simpa [Act.eval, Act.put] using hv1 | simpa [Act.eval, Act.put] using hv1.alloc _
           case uu => first | simpa [Act.eval, Act.put] using one_at w1 s | simpa [Act.eval, Act.put] using (one_two wr s).grown hg1.out (by simp [Act.eval, Value.ownBlock]) | simpa [Act.eval, Act.put] using (one_three wr s).grown hg1.out (by simp [Act.eval, Value.ownBlock])
           case nn => (simp; omega)
           case bb => (have := hb1.out.size; simp; try omega)
           intro v2 w2 hv2 hg2 hb2
           replace hb2 := hide (hb2 wr (Nat.le_refl _) (by first | exact hb1.out | exact hb1.out.alloc hb1.out.size _))
           clear hg2)
        | (refine step_app rfl (.tmp 40) (.tmp 43) rfl rfl wr.heap.size (L.take k ++ [s]) (L.drop k) ?vv ?uu ?nn ?bb ?_
           case vv => simpa [Act.eval, Act.put] using hv2
           case uu => simpa [Act.eval, Act.put] using HTR.out _ hb2.out
           case nn => (simp; omega)
           case bb => exact hb2.out.size
           intro v3 w3 hv3 hg3 hb3
           replace hb3 := hide (hb3 wr (Nat.le_refl _) hb2.out)
           clear hg3))
      all_goals
        go_wp2
        all_goals
          go_ret
          refine ⟨_, rfl, ?_, hb3.out⟩
          have := texts_of_row hv3
          rw [HI.out, List.append_cons]
          exact this
end Go.Proofs.YtnikomgdcddchaaGreat

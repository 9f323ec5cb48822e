/- Joined: PlNm NamS NamT NamI NamX. -/
import Derived.Test.YtamkncfdfaejjaaGreatDoorOk1f
import Derived.Test.YtamkncfdfaejjaaGreatDoorPlS
import Derived.Test.YtamkncfdfaejjaaGreatDoorTxAt
import Derived.Deep.RegionLaw
import Derived.Deep.QuietTactic
import Derived.BigQuiet
import Derived.Test.YtamkncfdfaejjaaGreatDoorCln
import Derived.Test.YtamkncfdfaejjaaGreatDoorJOk2
import Derived.Test.YtamkncfdfaejjaaGreatDoorShSort
import Derived.Lib.OwnBridge
import Derived.Sort.OwnSorted
/- Plain: the names of an expression, in the order in which they stand. -/
namespace Go.Proofs.YtamkncfdfaejjaaGreatDoor
open Go.RowKit
set_option linter.unusedVariables false
namespace Pl
def ownNm (nd : Nd) : List (List UInt8) := if nd.k = 2 then [nd.nm.data.toList] else []
def namesF : Fo → List (List UInt8)
  | .nil => []
  | .cons nd k r => (ownNm nd ++ namesF k) ++ namesF r
def namesN (nd : Nd) (k : Fo) : List (List UInt8) := ownNm nd ++ namesF k
/-- of the first i nodes -/
def namesTo : Fo → Nat → List (List UInt8)
  | .nil, _ => []
  | .cons _ _ _, 0 => []
  | .cons nd k r, i + 1 => namesN nd k ++ namesTo r i
theorem namesTo_zero (F : Fo) : namesTo F 0 = [] := by cases F <;> rfl
theorem namesTo_succ : ∀ (F : Fo) (i : Nat) (nd : Nd) (k : Fo), F.get i = some (nd, k) → namesTo F (i + 1) = namesTo F i ++ namesN nd k
  | .nil, i, nd, k, h => by simp [Fo.get] at h
  | .cons nd' k' r, 0, nd, k, h => by
    simp only [Fo.get, Option.some.injEq, Prod.mk.injEq] at h
    obtain ⟨rfl, rfl⟩ := h
    simp [namesTo, namesTo_zero]
  | .cons nd' k' r, i + 1, nd, k, h => by
    have := namesTo_succ r i nd k h
    simp only [namesTo] at this ⊢
    rw [this, List.append_assoc]
theorem namesTo_all : ∀ (F : Fo), namesTo F F.len = namesF F
  | .nil => rfl
  | .cons nd k r => by simp only [Fo.len, namesTo, namesF, namesTo_all r, namesN]
theorem namesTo_le : ∀ (F : Fo) (i : Nat), (namesTo F i).length ≤ (namesF F).length
  | .nil, i => by simp [namesTo, namesF]
  | .cons nd k r, 0 => by simp [namesTo]
  | .cons nd k r, i + 1 => by
    have := namesTo_le r i
    simp only [namesTo, namesF, namesN, List.length_append] at this ⊢
    omega
theorem names_part {F : Fo} {i : Nat} {nd : Nd} {k : Fo} (h : F.get i = some (nd, k)) : (namesTo F i).length + (namesN nd k).length ≤ (namesF F).length := by
  have h1 := namesTo_succ F i nd k h
  have h2 := namesTo_le F (i + 1)
  rw [h1, List.length_append] at h2
  exact h2
theorem ownNm_le (nd : Nd) : (ownNm nd).length ≤ 1 := by unfold ownNm; split <;> simp
theorem names_le_nodes : ∀ (F : Fo), (namesF F).length ≤ F.nodes
  | .nil => by simp [namesF]
  | .cons nd k r => by
    have h1 := names_le_nodes k
    have h2 := names_le_nodes r
    have h3 := ownNm_le nd
    simp only [namesF, Fo.nodes, List.length_append]
    omega
theorem okF_nodes : ∀ (F : Fo) (d : Nat), okF F d = true → F.nodes ≤ F.len * (2 ^ d - 1)
  | .nil, d, _ => by simp [Fo.nodes]
  | .cons nd k r, d, h => by
    simp only [okF, Bool.and_eq_true, decide_eq_true_eq, beq_iff_eq] at h
    obtain ⟨⟨⟨hd, ha, _⟩, hk⟩, hr⟩ := h
    have h1 := okF_nodes k (d - 1) hk
    have h2 := okF_nodes r d hr
    have h3 := arity_lt nd.k
    have h4 : k.len ≤ 2 := by omega
    obtain ⟨e, rfl⟩ : ∃ e, d = e + 1 := ⟨d - 1, by omega⟩
    rw [Nat.add_sub_cancel] at h1
    have h5 : k.len * (2 ^ e - 1) ≤ 2 * (2 ^ e - 1) := Nat.mul_le_mul_right _ h4
    have h6 : 2 ^ (e + 1) = 2 * 2 ^ e := by rw [Nat.pow_succ]; omega
    have h7 : 1 ≤ 2 ^ e := Nat.one_le_two_pow
    simp only [Fo.nodes, Fo.len, Nat.add_mul, Nat.one_mul]
    omega
theorem okN_nodes {nd : Nd} {k : Fo} {d : Nat} (hd : d ≤ 5) (h : okN nd k d = true) : k.nodes ≤ 62 := by
  simp only [okN, Bool.and_eq_true, decide_eq_true_eq, beq_iff_eq] at h
  obtain ⟨⟨hd1, ha, _⟩, hk⟩ := h
  have h1 := okF_nodes k (d - 1) hk
  have h3 := arity_lt nd.k
  have h4 : k.len ≤ 2 := by omega
  have h5 : k.len * (2 ^ (d - 1) - 1) ≤ 2 * (2 ^ (d - 1) - 1) := Nat.mul_le_mul_right _ h4
  have h6 : 2 ^ (d - 1) ≤ 2 ^ 5 := Nat.pow_le_pow_right (by omega) (by omega)
  omega
/-- a name has no parts, and is a short text -/
def Vl : Fo → Prop
  | .nil => True
  | .cons nd k r => (nd.k = 2 → k.len = 0 ∧ nd.nm.size ≤ 10) ∧ Vl k ∧ Vl r
theorem Vl.get : ∀ {F : Fo} (h : Vl F) {i : Nat} {nd : Nd} {k : Fo}, F.get i = some (nd, k) → (nd.k = 2 → k.len = 0 ∧ nd.nm.size ≤ 10) ∧ Vl k
  | .nil, _, i, nd, k, h => by simp [Fo.get] at h
  | .cons nd' k' r, hs, 0, nd, k, h => by
    simp only [Fo.get, Option.some.injEq, Prod.mk.injEq] at h
    obtain ⟨rfl, rfl⟩ := h
    exact ⟨hs.1, hs.2.1⟩
  | .cons nd' k' r, hs, i + 1, nd, k, h => Vl.get (F := r) hs.2.2 h
theorem nameB_size {s : ByteArray} (h : nameB s = true) : s.size ≤ 10 := by
  simp only [nameB, Bool.and_eq_true, decide_eq_true_eq] at h
  exact h.2.2.1
theorem var_ok {nd : Nd} {k : Fo} (ha : (k.len : Int) = arity nd.k) (hn : nmB nd = true) : nd.k = 2 → k.len = 0 ∧ nd.nm.size ≤ 10 := by
  intro h2
  simp only [nmB, h2, if_true] at hn
  refine ⟨?_, nameB_size hn⟩
  rw [h2] at ha
  simp [arity] at ha
  omega
theorem okF_vl : ∀ (F : Fo) (d : Nat), okF F d = true → Vl F
  | .nil, _, _ => trivial
  | .cons nd k r, d, h => by
    simp only [okF, Bool.and_eq_true, decide_eq_true_eq, beq_iff_eq] at h
    obtain ⟨⟨⟨hd, ha, _, hn⟩, hk⟩, hr⟩ := h
    exact ⟨var_ok ha hn, okF_vl k _ hk, okF_vl r _ hr⟩
theorem okN_vl {nd : Nd} {k : Fo} {d : Nat} (h : okN nd k d = true) : (nd.k = 2 → k.len = 0 ∧ nd.nm.size ≤ 10) ∧ Vl k := by
  simp only [okN, Bool.and_eq_true, decide_eq_true_eq, beq_iff_eq] at h
  obtain ⟨⟨_, ha, _, hn⟩, hk⟩ := h
  exact ⟨var_ok ha hn, okF_vl k _ hk⟩
theorem ins_len (s : List UInt8) : ∀ L, (ins s L).length ≤ L.length + 1
  | [] => by simp [ins]
  | x :: l => by
    have := ins_len s l
    unfold ins
    split
    · simp; omega
    · split <;> simp
theorem insAll_len : ∀ X L, (insAll X L).length ≤ X.length + L.length
  | [], L => by simp [insAll]
  | x :: X, L => by
    have h1 := insAll_len X (ins x L)
    have h2 := ins_len x L
    simp only [insAll, List.length_cons]
    omega
end Pl
end Go.Proofs.YtamkncfdfaejjaaGreatDoor

/- Names of an expression put in order, as the specification has it. -/
namespace Go.Proofs.YtamkncfdfaejjaaGreatDoor
open Go.RowKit
set_option linter.unusedVariables false

theorem bytesLess_lt : ∀ (x y : List UInt8), Op.bytesLess x y = decide (x < y)
  | [], [] => by simp [Op.bytesLess]
  | _ :: _, [] => by simp [Op.bytesLess]
  | [], _ :: _ => by simp [Op.bytesLess]
  | a :: x, b :: y => by
    rw [Op.bytesLess, bytesLess_lt x y]
    simp only [List.cons_lt_cons_iff]
    by_cases h1 : a < b <;> by_cases h2 : a = b <;> by_cases h3 : x < y <;> simp [h1, h2, h3]

theorem add_at (g off k : Nat) : (⟨g, off, none⟩ : Addr).add k = ⟨g, off + k, none⟩ := by
  unfold Addr.add
  split
  · next h => subst h; rfl
  · rfl
/-- what stands from k on, as the model cuts it -/
theorem tail_if {w : World} {ad : Option Addr} {cap k : Nat} {L : List (List UInt8)} (hk : k ≤ L.length) (h : TextsAt w (.slice ad L.length cap) L) : TextsAt w (.slice (if cap = k then ad else Option.map (fun x : Addr => x.add k) ad) (L.length - k) (cap - k)) (L.drop k) := by
  by_cases hc : cap = k
  · rw [if_pos hc]
    obtain ⟨a', c', hv, h1, h2, h3, h4⟩ := h
    cases hv
    refine ⟨ad, cap - k, by rw [List.length_drop], by rw [List.length_drop]; omega, by omega, fun hl => ?_, fun h => by rw [h4 h]; omega⟩
    rw [List.length_drop] at hl
    omega
  · rw [if_neg hc]
    have := TextsAt.tail (X := L.take k) (Y := L.drop k) (n := L.length) (by rw [List.take_append_drop]; exact h)
    rwa [List.length_take, List.length_drop, Nat.min_eq_left hk] at this
theorem own_lit (W : World) (T : TypeId) (base : Nat) (h : base ≤ W.heap.size) : (W.alloc (.cells #[] T)).ownsRow base T 1 (.slice (some ⟨W.heap.size, 0, none⟩) 0 0) 0 [] :=
  World.ownsRow_made _ _ 0 h (by unfold maxLen; omega) rfl
theorem own_one (w : World) (T : TypeId) : (w.alloc (.cells #[] T)).drew.ownsRow w.heap.size T 1 (.slice (some ⟨w.heap.size, 0, none⟩) 0 0) 0 [] := (own_lit w T _ (Nat.le_refl _)).drew
theorem own_two (w : World) (T : TypeId) (u : Value) : ((w.alloc (.cells #[] T)).alloc (.cells #[u] T)).drew.ownsRow w.heap.size T 1 (.slice (some ⟨w.heap.size, 0, none⟩) 0 0) 0 [] := ((own_lit w T _ (Nat.le_refl _)).alloc _).drew
theorem own_three (w : World) (T : TypeId) (u : Value) : ((w.alloc (.cells #[u] T)).alloc (.cells #[] T)).drew.ownsRow w.heap.size T 1 (.slice (some ⟨w.heap.size + 1, 0, none⟩) 0 0) 0 [] := by
  have := (own_lit (w.alloc (.cells #[u] T)) T w.heap.size (by simp)).drew
  simpa using this
theorem bel_one (w : World) (A : Obj) : Below w.heap.size w (w.alloc A).drew := ((Below.refl _ _).alloc (Nat.le_refl _) _).drew
theorem bel_two (w : World) (A B : Obj) : Below w.heap.size w ((w.alloc A).alloc B).drew := (((Below.refl _ _).alloc (Nat.le_refl _) _).alloc (by simp) _).drew
theorem one_at (w : World) (s : List UInt8) : TextsAt (w.alloc (.cells #[sv s] 9)) (.slice (some ⟨w.heap.size, 0, none⟩) 1 1) [s] := by
  refine ⟨_, _, rfl, Nat.le_refl _, by unfold maxLen; omega, fun _ => ⟨w.heap.size, 0, rfl, by simp, fun i hi => ?_⟩, fun h => by cases h⟩
  have : i = 0 := by simpa using hi
  subst this
  simp
theorem one_two (w : World) (s : List UInt8) : TextsAt ((w.alloc (.cells #[] 9)).alloc (.cells #[sv s] 9)).drew (.slice (some ⟨w.heap.size + 1, 0, none⟩) 1 1) [s] := by
  have := (one_at (w.alloc (.cells #[] 9)) s).later (Below.refl _ _).drew
  simpa using this
theorem one_three (w : World) (s : List UInt8) : TextsAt ((w.alloc (.cells #[sv s] 9)).alloc (.cells #[] 9)).drew (.slice (some ⟨w.heap.size, 0, none⟩) 1 1) [s] :=
  (one_at w s).later (bel_one _ _)
set_option maxHeartbeats 1600000 in
theorem l2Add_any (L : List (List UInt8)) (s : List UInt8) (hL : L.length ≤ 1048576) (v : Value) (w : World) (hv : TextsAt w v L) :
    Calls Tryz.prog 68 #[v, sv s] w fun e w' => ∃ v', e = .returned v' ∧ TextsAt w' v' (Pl.ins s L) ∧ Below w.heap.size w w' := by
  have HV := hide hv
  obtain ⟨ad, cap, rfl, hc, hm, hx, hnn⟩ := hv
  unfold maxLen at hm
  have HX := hide hx
  clear hx
  have hss : (Pl.bs s).toList = s := Pl.bs_toList s
  go_enter Tryz.func68, Tryz.ntmps68
  go_wp2_with fail
  go_loopw [5] (fun iv wr => ∃ k : Nat, k ≤ L.length ∧ iv = .int .i64 k ∧ Hid (∀ j, j < k → L[j]?.getD [] < s) ∧ wr = w) (fun iv _ => L.length - (intOf iv).toNat)
  case atStart => exact ⟨0, by omega, rfl, hide (fun j hj => by omega), rfl⟩
  case round =>
    obtain ⟨k, hk, rfl, HS, rfl⟩ := hrel
    by_cases hlt : k < L.length
    · obtain ⟨g, off, rfl, hg, hcell⟩ := HX.out (by omega)
      have hck := hcell k hlt
      clear hcell
      have hii : (k : Int) < (L.length : Int) := by omega
      generalize hX : L[k]?.getD [] = X at hck
      have HXX := hide hX
      clear hX
      have hxs : (Pl.bs X).toList = X := Pl.bs_toList X
      by_cases hl1 : X < s
      · have hb : Op.bytesLess (Pl.bs X).toList (Pl.bs s).toList = true := by rw [hxs, hss, bytesLess_lt]; simp [hl1]
        clear hxs hss
        go_wp2_with fail
        go_roundw
        case rel =>
          refine ⟨k + 1, by omega, by go_num, hide fun j hj => ?_, trivial⟩
          by_cases hjk : j = k
          · subst hjk; rw [HXX.out]; exact hl1
          · exact HS.out j (by omega)
        case measure => simp [intOf]; omega
      · have hb : Op.bytesLess (Pl.bs X).toList (Pl.bs s).toList = false := by rw [hxs, hss, bytesLess_lt]; simp [hl1]
        by_cases heq : X = s
        · have hb2 : ((Pl.bs X).toList == (Pl.bs s).toList) = true := by rw [hxs, hss]; simp [heq]
          clear hxs hss
          have HEQ := hide heq
          clear heq
          go_wp2_with fail
          go_ret
          refine ⟨_, rfl, ?_, Below.refl _ _⟩
          rw [Pl.ins_there s L k HS.out hlt (by rw [HXX.out]; exact HEQ.out)]
          exact HV.out
        · have hb2 : ((Pl.bs X).toList == (Pl.bs s).toList) = false := by rw [hxs, hss]; simp [heq]
          have HI := hide (Pl.ins_new s L k hk HS.out (fun _ => by rw [HXX.out]; exact ⟨hl1, heq⟩))
          clear hxs hss
          have hkc : k ≤ cap := by omega
          have HTL : Hid (∀ W, Below wr.heap.size wr W → TextsAt W (.slice (some ⟨g, off, none⟩) k cap) (L.take k)) := by
            refine hide fun W hW => ?_
            have := TextsAt.head (X := L.take k) (Y := L.drop k) (n := L.length) (by rw [List.take_append_drop]; exact HV.out.later hW)
            rwa [List.length_take, Nat.min_eq_left hk] at this
          go_wp2_with fail
          have HTR : Hid (∀ W, Below wr.heap.size wr W → TextsAt W (.slice (if cap = k then some ⟨g, off, none⟩ else some ⟨g, off + k, none⟩) (L.length - k) (cap - k)) (L.drop k)) := by
            refine hide fun W hW => ?_
            have := tail_if (k := k) hk (HV.out.later hW)
            simpa [add_at] using this
          go_region_law (first
            | (refine step_app rfl (.tmp 33) (.tmp 36) rfl rfl wr.heap.size [] (L.take k) ?v ?u ?n ?b ?_
               case v => first | simpa [Act.eval, Act.put] using own_one wr 9 | simpa [Act.eval, Act.put] using own_two wr 9 (sv s) | simpa [Act.eval, Act.put] using own_three wr 9 (sv s)
               case u => first | simpa [Act.eval, Act.put] using HTL.out _ (bel_one wr _) | simpa [Act.eval, Act.put] using HTL.out _ (bel_two wr _ _)
               case n => (simp; omega)
               case b => (simp; try omega)
               intro v1 w1 hv1 hg1 hb1
               replace hg1 := hide hg1
               replace hb1 := hide (hb1 wr (Nat.le_refl _) (by first | exact bel_one wr _ | exact bel_two wr _ _)))
            | (refine step_app rfl (.tmp 37) (.tmp 39) rfl rfl wr.heap.size (L.take k) [s] ?v ?u ?n ?b ?_
               case v => first | simpa [Act.eval, Act.put] using hv1 | simpa [Act.eval, Act.put] using hv1.alloc _
               case u => first | simpa [Act.eval, Act.put] using one_at w1 s | simpa [Act.eval, Act.put] using (one_two wr s).grown hg1.out (by simp [Act.eval, Value.ownBlock]) | simpa [Act.eval, Act.put] using (one_three wr s).grown hg1.out (by simp [Act.eval, Value.ownBlock])
               case n => (simp; omega)
               case b => (have := hb1.out.size; simp; try omega)
               intro v2 w2 hv2 hg2 hb2
               replace hb2 := hide (hb2 wr (Nat.le_refl _) (by first | exact hb1.out | exact hb1.out.alloc hb1.out.size _))
               clear hg2)
            | (refine step_app rfl (.tmp 40) (.tmp 43) rfl rfl wr.heap.size (L.take k ++ [s]) (L.drop k) ?v ?u ?n ?b ?_
               case v => simpa [Act.eval, Act.put] using hv2
               case u => simpa [Act.eval, Act.put] using HTR.out _ hb2.out
               case n => (simp; omega)
               case b => exact hb2.out.size
               intro v3 w3 hv3 hg3 hb3
               replace hb3 := hide (hb3 wr (Nat.le_refl _) hb2.out)
               clear hg3))
          all_goals
            go_wp2
            go_ret
            refine ⟨_, rfl, ?_, hb3.out⟩
            have := texts_of_row hv3
            rw [HI.out, List.append_cons]
            exact this
    · have HI := hide (Pl.ins_new s L k hk HS.out (fun h => absurd h hlt))
      have hkc : k ≤ cap := by omega
      have HTL : Hid (∀ W, Below wr.heap.size wr W → TextsAt W (.slice ad k cap) (L.take k)) := by
        refine hide fun W hW => ?_
        have := TextsAt.head (X := L.take k) (Y := L.drop k) (n := L.length) (by rw [List.take_append_drop]; exact HV.out.later hW)
        rwa [List.length_take, Nat.min_eq_left hk] at this
      go_wp2_with fail
      have HTR : Hid (∀ W, Below wr.heap.size wr W → TextsAt W (.slice (if cap = k then ad else Option.map (fun x : Addr => x.add k) ad) (L.length - k) (cap - k)) (L.drop k)) := hide fun W hW => tail_if hk (HV.out.later hW)
      go_region_law (first
        | (refine step_app rfl (.tmp 33) (.tmp 36) rfl rfl wr.heap.size [] (L.take k) ?vv ?uu ?nn ?bb ?_
           case vv => first | simpa [Act.eval, Act.put] using own_one wr 9 | simpa [Act.eval, Act.put] using own_two wr 9 (sv s) | simpa [Act.eval, Act.put] using own_three wr 9 (sv s)
           case uu => first | simpa [Act.eval, Act.put] using HTL.out _ (bel_one wr _) | simpa [Act.eval, Act.put] using HTL.out _ (bel_two wr _ _)
           case nn => (simp; omega)
           case bb => (simp; try omega)
           intro v1 w1 hv1 hg1 hb1
           replace hg1 := hide hg1
           replace hb1 := hide (hb1 wr (Nat.le_refl _) (by first | exact bel_one wr _ | exact bel_two wr _ _)))
        | (refine step_app rfl (.tmp 37) (.tmp 39) rfl rfl wr.heap.size (L.take k) [s] ?vv ?uu ?nn ?bb ?_
           case vv => first | simpa [Act.eval, Act.put] using hv1 | simpa [Act.eval, Act.put] using hv1.alloc _
           case uu => first | simpa [Act.eval, Act.put] using one_at w1 s | simpa [Act.eval, Act.put] using (one_two wr s).grown hg1.out (by simp [Act.eval, Value.ownBlock]) | simpa [Act.eval, Act.put] using (one_three wr s).grown hg1.out (by simp [Act.eval, Value.ownBlock])
           case nn => (simp; omega)
           case bb => (have := hb1.out.size; simp; try omega)
           intro v2 w2 hv2 hg2 hb2
           replace hb2 := hide (hb2 wr (Nat.le_refl _) (by first | exact hb1.out | exact hb1.out.alloc hb1.out.size _))
           clear hg2)
        | (refine step_app rfl (.tmp 40) (.tmp 43) rfl rfl wr.heap.size (L.take k ++ [s]) (L.drop k) ?vv ?uu ?nn ?bb ?_
           case vv => simpa [Act.eval, Act.put] using hv2
           case uu => simpa [Act.eval, Act.put] using HTR.out _ hb2.out
           case nn => (simp; omega)
           case bb => exact hb2.out.size
           intro v3 w3 hv3 hg3 hb3
           replace hb3 := hide (hb3 wr (Nat.le_refl _) hb2.out)
           clear hg3))
      all_goals
        go_wp2
        all_goals
          go_ret
          refine ⟨_, rfl, ?_, hb3.out⟩
          have := texts_of_row hv3
          rw [HI.out, List.append_cons]
          exact this
end Go.Proofs.YtamkncfdfaejjaaGreatDoor

/- Names of an expression, as the specification has it. -/
namespace Go.Proofs.YtamkncfdfaejjaaGreatDoor
open Go.RowKit
set_option linter.unusedVariables false

def NamP (k : Fo) : Prop := ∀ (nd : Nd) (v : Value) (w : World) (out : List (List UInt8)) (vo : Value), out.length + (Pl.namesN nd k).length ≤ 1048576 → RowAt 0 w k v → TextsAt w vo out →
  Calls Tryz.prog 47 #[ndV nd v, vo] w fun e w' => ∃ v', e = .returned v' ∧ TextsAt w' v' (Pl.insAll (Pl.namesN nd k) out) ∧ Below w.heap.size w w'

set_option maxHeartbeats 1600000 in
theorem l2Names_of (k : Fo) (hkl : k.len ≤ 1048576) (ih : ∀ i nd k', k.get i = some (nd, k') → NamP k') : NamP k := by
  intro nd v w out vo hb hr ho
  obtain ⟨nk, vk, vn, vt, nm⟩ := nd
  obtain ⟨ad, cap, rfl, hc, hm, hx⟩ := hr
  unfold maxLen at hm
  have HX := hide hx
  have IH := hide ih
  have HO := hide ho
  clear hx ih ho
  by_cases n2 : nk = 2
  · subst n2
    have hown : Pl.ownNm ⟨2, vk, vn, vt, nm⟩ = [nm.data.toList] := by simp [Pl.ownNm]
    have HL : Hid ((Pl.ins nm.data.toList out).length + (Pl.namesF k).length ≤ 1048576) := by
      show _ ≤ _
      have := Pl.ins_len nm.data.toList out
      simp only [Pl.namesN, hown, List.length_append, List.length_cons, List.length_nil] at hb
      omega
    have hol : out.length ≤ 1048576 := by omega
    have HE : Hid (Pl.insAll (Pl.namesN ⟨2, vk, vn, vt, nm⟩ k) out = Pl.insAll (Pl.namesF k) (Pl.ins nm.data.toList out)) := by
      show _ = _
      rw [Pl.namesN, hown, Pl.insAll_append]; rfl
    clear hb hown
    obtain ⟨ao, co, rfl, _⟩ := HO.out
    have hadd := hide fun (W : World) (hW : Below w.heap.size w W) => l2Add_any out nm.data.toList hol _ W (HO.out.later hW)
    have hnm : sv nm.data.toList = .string nm := by unfold sv; rw [Pl.bs_of]
    rw [hnm] at hadd
    generalize Pl.ins nm.data.toList out = o1 at HL HE hadd
    clear hnm
    go_enter Tryz.func47, Tryz.ntmps47
    go_wp2_with fail
    refine (hadd.out _ ((Below.refl _ _).alloc (Nat.le_refl _) _)).mono ?_
    rintro e w1 ⟨v1, rfl, ht1, hB1⟩
    have c50 : w1.cell? ⟨w.heap.size, 5, none⟩ = some (.slice ad k.len cap) := boxC hB1 (by simp) 5
    have hsz0 : w.heap.size < w1.heap.size := by have := hB1.size; simp at this; omega
    have HB0 : Hid (Below w.heap.size w w1) := ((Below.refl _ _).alloc (Nat.le_refl _) _).trans (hB1.mono (by simp))
    have HO1 := hide ht1
    obtain ⟨a1, k1, rfl, _⟩ := HO1.out
    clear hadd hB1 ht1
    go_wp2_with fail
    go_loopw [1, 5] (fun ov iv wr => ∃ (i : Nat) (vo' : Value), i ≤ k.len ∧ iv = .int .i64 i ∧ ov = vo' ∧ Hid (TextsAt wr vo' (Pl.insAll (Pl.namesTo k i) o1)) ∧ wr.cell? ⟨w.heap.size, 5, none⟩ = some (.slice ad k.len cap) ∧ w.heap.size < wr.heap.size ∧ Hid (Below w.heap.size w wr)) (fun _ iv _ => k.len - (intOf iv).toNat)
    case atStart => exact ⟨0, _, by omega, rfl, rfl, by rw [Pl.namesTo_zero]; exact HO1, c50, hsz0, HB0⟩
    case round =>
      clear c50 hsz0 HB0
      obtain ⟨i, vo', hi, rfl, rfl, HT, c5, hsz, hB⟩ := hrel
      by_cases hlt : i < k.len
      · obtain ⟨g, off, rfl, _, hg, hfo⟩ := HX.out (by omega)
        obtain ⟨nd, k', hget⟩ := k.get_some i hlt
        obtain ⟨v, hnd⟩ := hfo.get hget
        obtain ⟨d0, d1, d2, d3, d4, d5, hrow⟩ := hnd.later hB.out hg
        have hlen := Pl.insAll_len (Pl.namesTo k i) o1
        have hpart := Pl.names_part hget
        have hq := hide (IH.out i nd k' hget nd v wr _ _ (by have := HL.out; omega) hrow HT.out)
        have HN : Hid (Pl.insAll (Pl.namesN nd k') (Pl.insAll (Pl.namesTo k i) o1) = Pl.insAll (Pl.namesTo k (i + 1)) o1) := by
          show _ = _
          rw [Pl.namesTo_succ k i nd k' hget, Pl.insAll_append]
        clear hfo hnd hrow hget hlen hpart
        obtain ⟨ao, co, hoe, _⟩ := HT.out
        have hii : (i : Int) < (k.len : Int) := by omega
        clear hoe
        go_wp2_with fail
        refine hq.out.mono ?_
        rintro e w4 ⟨v4, rfl, ht4, hB4⟩
        have c5' : w4.cell? ⟨w.heap.size, 5, none⟩ = some (.slice (some ⟨g, off, none⟩) k.len cap) := (hB4.cell (p := ⟨w.heap.size, 5, none⟩) hsz).trans c5
        have hsz' : w.heap.size < w4.heap.size := by have := hB4.size; omega
        have HB4 : Hid (Below w.heap.size w w4) := hB.out.trans (hB4.mono hB.out.size)
        have HT4 : Hid (TextsAt w4 v4 (Pl.insAll (Pl.namesTo k (i + 1)) o1)) := by rw [← HN.out]; exact ht4
        clear hq d0 d1 d2 d3 d4 d5 c5 hB4 ht4 HT
        obtain ⟨a4, k4, rfl, _⟩ := HT4.out
        go_wp2
        go_roundw
        case rel => exact ⟨i + 1, _, by omega, by go_num, rfl, HT4, c5', hsz', HB4⟩
        case measure => simp [intOf]; omega
      · have hie : i = k.len := by omega
        obtain ⟨ao, co, rfl, _⟩ := HT.out
        go_wp2
        go_ret
        refine ⟨_, rfl, ?_, hB.out⟩
        have e1 : Pl.insAll (Pl.namesTo k i) o1 = Pl.insAll (Pl.namesF k) o1 := by rw [hie, Pl.namesTo_all]
        rw [HE.out, ← e1]
        exact HT.out
  · have k2 : (nk == 2) = false := by simp [n2]
    have hown : Pl.ownNm ⟨nk, vk, vn, vt, nm⟩ = [] := by simp [Pl.ownNm, n2]
    have HL : Hid (out.length + (Pl.namesF k).length ≤ 1048576) := by
      show _ ≤ _
      simpa only [Pl.namesN, hown, List.nil_append] using hb
    have HE : Hid (Pl.insAll (Pl.namesN ⟨nk, vk, vn, vt, nm⟩ k) out = Pl.insAll (Pl.namesF k) out) := by
      show _ = _
      rw [Pl.namesN, hown]; rfl
    clear hb hown n2
    obtain ⟨ao, co, rfl, _⟩ := HO.out
    have HO1 : Hid (TextsAt (w.alloc (.cells #[.int .i64 nk, .int .i64 vk, .int .i64 vn, .string vt, .string nm, .slice ad k.len cap] 35)) (.slice ao out.length co) out) := hide (HO.out.later ((Below.refl _ _).alloc (Nat.le_refl _) _))
    go_enter Tryz.func47, Tryz.ntmps47
    go_wp2_with fail
    have c50 : (w.alloc (.cells #[.int .i64 nk, .int .i64 vk, .int .i64 vn, .string vt, .string nm, .slice ad k.len cap] 35)).cell? ⟨w.heap.size, 5, none⟩ = some (.slice ad k.len cap) := by simp
    have hsz0 : w.heap.size < (w.alloc (.cells #[.int .i64 nk, .int .i64 vk, .int .i64 vn, .string vt, .string nm, .slice ad k.len cap] 35)).heap.size := by simp
    have HB0 : Hid (Below w.heap.size w (w.alloc (.cells #[.int .i64 nk, .int .i64 vk, .int .i64 vn, .string vt, .string nm, .slice ad k.len cap] 35))) := (Below.refl _ _).alloc (Nat.le_refl _) _
    clear k2
    go_loopw [1, 5] (fun ov iv wr => ∃ (i : Nat) (vo' : Value), i ≤ k.len ∧ iv = .int .i64 i ∧ ov = vo' ∧ Hid (TextsAt wr vo' (Pl.insAll (Pl.namesTo k i) out)) ∧ wr.cell? ⟨w.heap.size, 5, none⟩ = some (.slice ad k.len cap) ∧ w.heap.size < wr.heap.size ∧ Hid (Below w.heap.size w wr)) (fun _ iv _ => k.len - (intOf iv).toNat)
    case atStart => exact ⟨0, _, by omega, rfl, rfl, by rw [Pl.namesTo_zero]; exact HO1, c50, hsz0, HB0⟩
    case round =>
      clear c50 hsz0 HB0
      obtain ⟨i, vo', hi, rfl, rfl, HT, c5, hsz, hB⟩ := hrel
      by_cases hlt : i < k.len
      · obtain ⟨g, off, rfl, _, hg, hfo⟩ := HX.out (by omega)
        obtain ⟨nd, k', hget⟩ := k.get_some i hlt
        obtain ⟨v, hnd⟩ := hfo.get hget
        obtain ⟨d0, d1, d2, d3, d4, d5, hrow⟩ := hnd.later hB.out hg
        have hlen := Pl.insAll_len (Pl.namesTo k i) out
        have hpart := Pl.names_part hget
        have hq := hide (IH.out i nd k' hget nd v wr _ _ (by have := HL.out; omega) hrow HT.out)
        have HN : Hid (Pl.insAll (Pl.namesN nd k') (Pl.insAll (Pl.namesTo k i) out) = Pl.insAll (Pl.namesTo k (i + 1)) out) := by
          show _ = _
          rw [Pl.namesTo_succ k i nd k' hget, Pl.insAll_append]
        clear hfo hnd hrow hget hlen hpart
        obtain ⟨ao, co, hoe, _⟩ := HT.out
        have hii : (i : Int) < (k.len : Int) := by omega
        clear hoe
        go_wp2_with fail
        refine hq.out.mono ?_
        rintro e w4 ⟨v4, rfl, ht4, hB4⟩
        have c5' : w4.cell? ⟨w.heap.size, 5, none⟩ = some (.slice (some ⟨g, off, none⟩) k.len cap) := (hB4.cell (p := ⟨w.heap.size, 5, none⟩) hsz).trans c5
        have hsz' : w.heap.size < w4.heap.size := by have := hB4.size; omega
        have HB4 : Hid (Below w.heap.size w w4) := hB.out.trans (hB4.mono hB.out.size)
        have HT4 : Hid (TextsAt w4 v4 (Pl.insAll (Pl.namesTo k (i + 1)) out)) := by rw [← HN.out]; exact ht4
        clear hq d0 d1 d2 d3 d4 d5 c5 hB4 ht4 HT
        obtain ⟨a4, k4, rfl, _⟩ := HT4.out
        go_wp2
        go_roundw
        case rel => exact ⟨i + 1, _, by omega, by go_num, rfl, HT4, c5', hsz', HB4⟩
        case measure => simp [intOf]; omega
      · have hie : i = k.len := by omega
        obtain ⟨ao, co, rfl, _⟩ := HT.out
        go_wp2
        go_ret
        refine ⟨_, rfl, ?_, hB.out⟩
        have e1 : Pl.insAll (Pl.namesTo k i) out = Pl.insAll (Pl.namesF k) out := by rw [hie, Pl.namesTo_all]
        rw [HE.out, ← e1]
        exact HT.out
theorem l2Names_fuel : ∀ (n : Nat) (F : Fo), F.nodes ≤ n → F.len ≤ 1048576 → F.Sm → NamP F
  | 0, F, h, hl, hs => l2Names_of F hl fun i nd k hk => by have := F.get_nodes i nd k hk; omega
  | n + 1, F, h, hl, hs => l2Names_of F hl fun i nd k hk => l2Names_fuel n k (by have := F.get_nodes i nd k hk; omega) (hs.get hk).1 (hs.get hk).2
theorem l2Names_any (F : Fo) (hl : F.len ≤ 1048576) (hs : F.Sm) : NamP F := l2Names_fuel F.nodes F (Nat.le_refl _) hl hs
end Go.Proofs.YtamkncfdfaejjaaGreatDoor

/- Names of an expression, as the program has it. -/
namespace Go.Proofs.YtamkncfdfaejjaaGreatDoor
open Go.RowKit
set_option linter.unusedVariables false

def NamIP (k : Fo) : Prop := ∀ (nd : Nd) (v : Value) (w : World), (nd.k = 2 → k.len = 0 ∧ nd.nm.size ≤ 10) → Pl.Vl k → (Pl.namesN nd k).length ≤ 1048576 → RowAt 0 w k v →
  Calls Tryz.prog 44 #[ndV nd v] w fun e w' => ∃ v', e = .returned v' ∧ w'.ownsRow w.heap.size 9 1 v' (Pl.namesN nd k).length ((Pl.namesN nd k).map sv) ∧ Below w.heap.size w w'

set_option maxHeartbeats 1600000 in
theorem exprNames_of (k : Fo) (hkl : k.len ≤ 1048576) (ih : ∀ i nd k', k.get i = some (nd, k') → NamIP k') : NamIP k := by
  intro nd v w h2 hvl hb hr
  obtain ⟨nk, vk, vn, vt, nm⟩ := nd
  obtain ⟨ad, cap, rfl, hc, hm, hx⟩ := hr
  unfold maxLen at hm
  have HX := hide hx
  have IH := hide ih
  have HVL := hide hvl
  clear hx ih hvl
  simp only at h2
  by_cases n2 : nk = 2
  · subst n2
    obtain ⟨hk0, hn10⟩ := h2 rfl
    have hcl := hide (clone_any nm (by omega))
    go_enter Tryz.func44, Tryz.ntmps44
    go_wp2_with fail
    refine (hcl.out _).mono ?_
    rintro e w1 ⟨rfl, hB1⟩
    clear hcl
    have HB : Hid (Below w.heap.size w w1) := ((Below.refl _ _).alloc (Nat.le_refl _) _).trans (hB1.mono (by simp))
    have hsz : w.heap.size ≤ w1.heap.size := HB.out.size
    have HN : Hid (Pl.namesN ⟨2, vk, vn, vt, nm⟩ k = [nm.data.toList]) := by
      show _ = _
      have : k = .nil := by cases k <;> simp [Fo.len] at hk0 ⊢
      subst this
      simp [Pl.namesN, Pl.ownNm, Pl.namesF]
    clear hB1
    go_wp2
    go_ret
    refine ⟨_, rfl, ?_, HB.out.alloc HB.out.size _⟩
    rw [HN.out]
    exact own_single w1 _ _ hsz
  · have k2 : (nk == 2) = false := by simp [n2]
    clear n2 h2
    go_enter Tryz.func44, Tryz.ntmps44
    have HN : Hid (Pl.namesN ⟨nk, vk, vn, vt, nm⟩ k = Pl.namesF k) := by
      show _ = _
      have h0 := beq_eq_false_iff_ne.1 k2
      simp [Pl.namesN, Pl.ownNm, h0]
    rw [HN.out] at hb
    go_wp2_with fail
    go_loopw [3, 16] (fun lv iv wr => ∃ i : Nat, i ≤ k.len ∧ iv = .int .i64 i ∧ Hid (wr.ownsRow w.heap.size 9 1 lv (Pl.namesTo k i).length ((Pl.namesTo k i).map sv)) ∧ Hid (Below w.heap.size w wr)) (fun _ iv _ => k.len - (intOf iv).toNat)
    case atStart => exact ⟨0, by omega, rfl, hide (by rw [Pl.namesTo_zero]; exact ⟨rfl, .inl ⟨rfl, rfl⟩⟩), (Below.refl _ _).alloc (Nat.le_refl _) _⟩
    case round =>
      obtain ⟨i, hi, rfl, HO, hB⟩ := hrel
      by_cases hlt : i < k.len
      · obtain ⟨g, off, rfl, _, hg, hfo⟩ := HX.out (by omega)
        obtain ⟨nd, k', hget⟩ := k.get_some i hlt
        obtain ⟨v, hnd⟩ := hfo.get hget
        obtain ⟨d0, d1, d2, d3, d4, d5, hrow⟩ := hnd.later hB.out hg
        have hpart := Pl.names_part hget
        obtain ⟨x1, x2⟩ := HVL.out.get hget
        have hq : Hid (∀ W, Below wr.heap.size wr W → Calls Tryz.prog 44 #[ndV nd v] W fun e w' => ∃ v', e = .returned v' ∧ w'.ownsRow W.heap.size 9 1 v' (Pl.namesN nd k').length ((Pl.namesN nd k').map sv) ∧ Below W.heap.size W w') := fun W hW => IH.out i nd k' hget nd v W x1 x2 (by omega) (hrow.later hW)
        have HS := hide (Pl.namesTo_succ k i nd k' hget)
        clear hfo hnd hget x1 x2
        obtain ⟨ad', cap', rfl, _, _, _⟩ := hrow
        have hii : (i : Int) < (k.len : Int) := by omega
        generalize k'.len = kl at *
        obtain ⟨al, cl, rfl⟩ := ownsRow_form HO.out
        go_wp2_with fail
        refine (hq.out _ (by first | exact Below.refl _ _ | exact (Below.refl _ _).alloc (Nat.le_refl _) _)).mono ?_
        rintro e w4 ⟨v4, rfl, hr4, hB4⟩
        have hB4' : Hid (Below wr.heap.size wr w4) := by first | exact hB4 | exact ((Below.refl _ _).alloc (Nat.le_refl _) _).trans (hB4.mono (by simp))
        have HT4 := hide (texts_of_row hr4)
        have HO4 := hide (ownsRow_later HO.out hB4'.out)
        have hsz4 : Hid (w.heap.size ≤ w4.heap.size) := by
          show _ ≤ _
          have := hB.out.size; have := hB4'.out.size; omega
        have HB4 : Hid (Below w.heap.size w w4) := hB.out.trans (hB4'.out.mono hB.out.size)
        obtain ⟨a4, c4, rfl⟩ := ownsRow_form hr4
        clear hq d0 d1 d2 d3 d4 d5 hB4 hr4 HO hB4'
        go_wp2_with (at_builtin; refine wpList_app rfl _ _ rfl rfl w.heap.size (Pl.namesTo k i) (Pl.namesN nd k') _ _ rfl rfl HO4.out HT4.out (by omega) hsz4.out ?_)
        intro v5 w5 h5 hg5
        rw [← List.length_append, ← List.map_append, ← HS.out] at h5
        have H5 := hide h5
        have HB5 : Hid (Below w.heap.size w w5) := HB4.out.grown hg5 hsz4.out (fun j hj => (HO4.out.lt j hj).1)
        obtain ⟨a5, c5, rfl⟩ := ownsRow_form h5
        clear h5 hg5 HO4 HB4 HT4
        go_wp2
        go_roundw
        case rel => exact ⟨i + 1, by omega, by go_num, H5, HB5⟩
        case measure => simp [intOf]; omega
      · have hie : i = k.len := by omega
        obtain ⟨al, cl, rfl⟩ := ownsRow_form HO.out
        go_wp2
        go_ret
        refine ⟨_, rfl, ?_, hB.out⟩
        have e1 : Pl.namesTo k i = Pl.namesF k := by rw [hie, Pl.namesTo_all]
        rw [HN.out, ← e1]
        exact HO.out
theorem exprNames_fuel : ∀ (n : Nat) (F : Fo), F.nodes ≤ n → F.len ≤ 1048576 → F.Sm → NamIP F
  | 0, F, h, hl, hs => exprNames_of F hl fun i nd k hk => by have := F.get_nodes i nd k hk; omega
  | n + 1, F, h, hl, hs => exprNames_of F hl fun i nd k hk => exprNames_fuel n k (by have := F.get_nodes i nd k hk; omega) (hs.get hk).1 (hs.get hk).2
theorem exprNames_any (F : Fo) (hl : F.len ≤ 1048576) (hs : F.Sm) : NamIP F := exprNames_fuel F.nodes F (Nat.le_refl _) hl hs
end Go.Proofs.YtamkncfdfaejjaaGreatDoor

/- ExprNames, on both sides. -/
namespace Go.Proofs.YtamkncfdfaejjaaGreatDoor
open Go.RowKit
set_option linter.unusedVariables false
namespace Pl
def exprNames (nd : Nd) (k : Fo) : List (List UInt8) := if okN nd k 5 = true then insAll (namesN nd k) [] else []
theorem namesN_len {nd : Nd} {k : Fo} (h : okN nd k 5 = true) : (namesN nd k).length ≤ 63 := by
  have h1 := okN_nodes (Nat.le_refl _) h
  have h2 := names_le_nodes k
  have h3 := ownNm_le nd
  simp only [namesN, List.length_append]
  omega
theorem exprNames_len (nd : Nd) (k : Fo) : (exprNames nd k).length ≤ 63 := by
  unfold exprNames
  split
  · next h =>
    have h1 := namesN_len h
    have h2 := insAll_len (namesN nd k) []
    simp only [List.length_nil] at h2
    omega
  · simp
end Pl
theorem texts_nil (w : World) (ad : Option Addr) (h : ad ≠ none) : TextsAt w (.slice ad 0 0) [] := ⟨ad, 0, rfl, Nat.le_refl _, by unfold maxLen; omega, fun h => by simp at h, fun _ => rfl⟩

set_option maxHeartbeats 800000 in
theorem specExprNames_any (nd : Nd) (k : Fo) (v : Value) (w : World) (ht : nd.vt.size ≤ maxLen) (hn : nd.nm.size ≤ maxLen) (hwf : k.Wf) (hl : k.len ≤ 1048576) (hs : k.Sm) (hr : RowAt 0 w k v) :
    Calls Tryz.prog 21 #[ndV nd v] w fun e w' => ∃ v', e = .returned v' ∧ TextsAt w' v' (Pl.exprNames nd k) ∧ Below w.heap.size w w' := by
  have hok : Hid (∀ W, Below w.heap.size w W → Calls Tryz.prog 28 #[ndV nd v] W fun e w' => e = .returned (.bool (Pl.okN nd k 5)) ∧ Below W.heap.size W w') := fun W hW => specExprOk_any nd k v W ht hn hwf hl hs (hr.later hW)
  have hnm : Hid ((Pl.namesN nd k).length ≤ 1048576 → ∀ W vo, Below w.heap.size w W → TextsAt W vo [] → Calls Tryz.prog 47 #[ndV nd v, vo] W fun e w' => ∃ v', e = .returned v' ∧ TextsAt w' v' (Pl.insAll (Pl.namesN nd k) []) ∧ Below W.heap.size W w') := fun hb W vo hW ho => l2Names_any k hl hs nd v W [] vo (by simpa using hb) (hr.later hW) ho
  have hA : Hid (Below w.heap.size w (w.alloc (.cells #[.int .i64 nd.k, .int .i64 nd.vk, .int .i64 nd.vn, .string nd.vt, .string nd.nm, v] 35))) := (Below.refl _ _).alloc (Nat.le_refl _) _
  have HX := hide (Box6.mk (nd := nd) (v := v) (T := 35) w)
  have hvs := hr
  obtain ⟨ad, cap, rfl, _, _, _⟩ := hvs
  clear hr hwf hs
  cases hokb : Pl.okN nd k 5
  · have HE : Hid (Pl.exprNames nd k = []) := by show _ = _; simp [Pl.exprNames, hokb]
    rw [hokb] at hok
    clear hokb
    generalize k.len = kl at *
    go_enter Tryz.func21, Tryz.ntmps21
    go_wp2_with fail
    refine (hok.out _ hA.out).mono ?_
    rintro e w1 ⟨rfl, hB1⟩
    have HB1 : Hid (Below w.heap.size w w1) := hA.out.trans (hB1.mono (by simp))
    clear hB1 hok
    go_wp2
    go_ret
    refine ⟨_, rfl, ?_, HB1.out.alloc HB1.out.size _⟩
    rw [HE.out]
    exact texts_nil _ _ (by simp)
  · have HE : Hid (Pl.exprNames nd k = Pl.insAll (Pl.namesN nd k) []) := by show _ = _; simp [Pl.exprNames, hokb]
    have hb := Pl.namesN_len hokb
    have HNM := hide (hnm.out (by omega))
    rw [hokb] at hok
    clear hokb hnm hb
    generalize k.len = kl at *
    go_enter Tryz.func21, Tryz.ntmps21
    go_wp2_with fail
    refine (hok.out _ hA.out).mono ?_
    rintro e w1 ⟨rfl, hB1⟩
    have HB1 : Hid (Below w.heap.size w w1) := hA.out.trans (hB1.mono (by simp))
    obtain ⟨_, x0, x1, x2, x3, x4, x5⟩ := HX.out.later hB1
    clear hB1 hok
    have HB2 : Hid (Below w.heap.size w (w1.alloc (.cells #[] 9))) := HB1.out.alloc HB1.out.size _
    go_wp2_with fail
    refine (HNM.out _ _ HB2.out (texts_nil _ _ (by simp))).mono ?_
    rintro e w2 ⟨v2, rfl, ht2, hB2⟩
    have HT2 := hide ht2
    obtain ⟨a2, c2, rfl, _⟩ := HT2.out
    clear ht2
    have HB3 : Hid (Below w.heap.size w w2) := HB2.out.trans (hB2.mono HB2.out.size)
    clear hB2 x0 x1 x2 x3 x4 x5
    go_wp2
    go_ret
    refine ⟨_, rfl, ?_, HB3.out⟩
    rw [HE.out]
    exact HT2.out

set_option maxHeartbeats 1600000 in
theorem implExprNames_any (nd : Nd) (k : Fo) (v : Value) (w : World) (ht : nd.vt.size ≤ maxLen) (hn : nd.nm.size ≤ maxLen) (hwf : k.Wf) (hl : k.len ≤ 1048576) (hs : k.Sm) (hr : RowAt 0 w k v) :
    Calls Tryz.prog 19 #[ndV nd v] w fun e w' => ∃ v', e = .returned v' ∧ w'.ownsRow w.heap.size 9 1 v' (Pl.exprNames nd k).length ((Pl.exprNames nd k).map sv) ∧ Below w.heap.size w w' := by
  have hok : Hid (∀ W, Below w.heap.size w W → Calls Tryz.prog 24 #[ndV nd v] W fun e w' => e = .returned (.bool (Pl.okN nd k 5)) ∧ Below W.heap.size W w') := fun W hW => implExprOk_any nd k v W ht hn hwf hl hs (hr.later hW)
  have hnm : Hid (Pl.okN nd k 5 = true → ∀ W, Below w.heap.size w W → Calls Tryz.prog 44 #[ndV nd v] W fun e w' => ∃ v', e = .returned v' ∧ w'.ownsRow W.heap.size 9 1 v' (Pl.namesN nd k).length ((Pl.namesN nd k).map sv) ∧ Below W.heap.size W w') := fun h W hW => exprNames_any k hl hs nd v W (Pl.okN_vl h).1 (Pl.okN_vl h).2 (by have := Pl.namesN_len h; omega) (hr.later hW)
  have hA : Hid (Below w.heap.size w (w.alloc (.cells #[.int .i64 nd.k, .int .i64 nd.vk, .int .i64 nd.vn, .string nd.vt, .string nd.nm, v] 35))) := (Below.refl _ _).alloc (Nat.le_refl _) _
  have HX := hide (Box6.mk (nd := nd) (v := v) (T := 35) w)
  have hvs := hr
  obtain ⟨ad, cap, rfl, _, _, _⟩ := hvs
  clear hr hwf hs
  cases hokb : Pl.okN nd k 5
  · have HE : Hid (Pl.exprNames nd k = []) := by show _ = _; simp [Pl.exprNames, hokb]
    rw [hokb] at hok
    clear hokb
    generalize k.len = kl at *
    go_enter Tryz.func19, Tryz.ntmps19
    go_wp2_with fail
    refine (hok.out _ hA.out).mono ?_
    rintro e w1 ⟨rfl, hB1⟩
    have HB1 : Hid (Below w.heap.size w w1) := hA.out.trans (hB1.mono (by simp))
    clear hB1 hok
    go_wp2
    go_ret
    refine ⟨_, rfl, ?_, HB1.out⟩
    rw [HE.out]
    exact ⟨rfl, .inl ⟨rfl, rfl⟩⟩
  · have HE : Hid (Pl.exprNames nd k = Lib.compact ((Pl.namesN nd k).mergeSort fun x y => decide (x ≤ y))) := by show _ = _; rw [Pl.compact_sort]; simp [Pl.exprNames, hokb]
    have hb := Pl.namesN_len hokb
    have HNM := hide (hnm.out hokb)
    rw [hokb] at hok
    clear hokb hnm
    generalize Pl.namesN nd k = N at *
    generalize k.len = kl at *
    go_enter Tryz.func19, Tryz.ntmps19
    go_wp2_with fail
    refine (hok.out _ hA.out).mono ?_
    rintro e w1 ⟨rfl, hB1⟩
    have HB1 : Hid (Below w.heap.size w w1) := hA.out.trans (hB1.mono (by simp))
    obtain ⟨_, x0, x1, x2, x3, x4, x5⟩ := HX.out.later hB1
    clear hB1 hok
    go_wp2_with fail
    refine (HNM.out _ HB1.out).mono ?_
    rintro e w2 ⟨v2, rfl, hr2, hB2⟩
    have HB2 : Hid (Below w.heap.size w w2) := HB1.out.trans (hB2.mono HB1.out.size)
    have HR2 := hide (ownsRow_base hr2 HB1.out.size)
    clear hr2 hB2 x0 x1 x2 x3 x4 x5
    by_cases h0 : v2 = .slice none 0 0
    · subst h0
      have hN : N = [] := by
        rcases HR2.out.2 with ⟨_, h⟩ | ⟨g, cap, cur, h, _⟩
        · exact List.length_eq_zero_iff.1 h
        · cases h
      subst hN
      go_wp2_with fail
      refine (Tryz.sort_str_none none 0 w2).mono ?_
      rintro e w3 ⟨rfl, rfl⟩
      go_wp2_with fail
      refine (Tryz.compact_str_empty none 0 w3).mono ?_
      rintro e w4 ⟨rfl, rfl⟩
      go_wp2
      go_ret
      refine ⟨_, rfl, ?_, HB2.out⟩
      have e0 : Lib.compact (([] : List (List UInt8)).mergeSort fun x y => decide (x ≤ y)) = [] := by rw [Pl.compact_sort]; rfl
      rw [HE.out, e0]
      exact HR2.out
    · obtain ⟨g, cap2, rfl, hbg, hgl, hnc, hcm, _, hH⟩ := Lib.holds_of_ownsRow (enc := encStr) (zs := N) HR2.out h0
      clear h0
      have hsort := hide (Tryz.sort_str g 0 cap2 N w2 hH hgl (by omega))
      have hown3 : Hid (∀ n os, (Sort.grow (Sort.putRow encStr (Sort.ahead w2 n) g 0 (N.mergeSort fun x y => decide (x ≤ y)).toArray) os).ownsRow w.heap.size 9 1 (.slice (some ⟨g, 0, none⟩) N.length cap2) N.length ((N.mergeSort fun x y => decide (x ≤ y)).map encStr)) := by
        refine hide fun n os => ?_
        rcases HR2.out.2 with ⟨h, _⟩ | ⟨g', cap', cur, h, hbase, hb', h1, h2, h3, h4⟩
        · cases h
        · cases h
          exact ownsRow_sorted (ss := N) (by simp) hbase hb' h1 h2 h3
      have hbel3 : Hid (∀ n os, Below w.heap.size w (Sort.grow (Sort.putRow encStr (Sort.ahead w2 n) g 0 (N.mergeSort fun x y => decide (x ≤ y)).toArray) os)) := by
        refine hide fun n os => ?_
        exact HB2.out.grown (grownBy_sorted _) HB2.out.size (fun j hj => by cases hj; exact hbg)
      have hlen : (N.mergeSort fun x y => decide (x ≤ y)).length = N.length := by simp
      have hcl := Lib.compact_length_le (N.mergeSort fun x y => decide (x ≤ y))
      generalize (N.mergeSort fun x y => decide (x ≤ y)) = M at hsort hown3 hbel3 hlen hcl HE
      have HLN := hide hlen
      clear hH hlen
      go_wp2_with fail
      refine hsort.out.mono ?_
      rintro e w3 ⟨rfl, n3, os3, h3⟩
      have HR3 := hide (hown3.out n3 os3)
      have HB3 := hide (hbel3.out n3 os3)
      rw [← h3] at HR3 HB3
      clear h3 hsort hown3 hbel3
      obtain ⟨g', cap', hv3, _, _, _, _, _, hH3⟩ := Lib.holds_of_ownsRow (enc := encStr) (zs := M) HR3.out (by simp)
      cases hv3
      have hcomp := hide (Tryz.compact_str g 0 cap2 M w3 hH3 (by have := HLN.out; unfold maxLen at hcm; omega) (by have := HLN.out; omega))
      rw [HLN.out] at hcomp
      have hown4 : Hid (∀ q, (Sort.putRow encStr (Sort.ahead w3 q) g 0 (Lib.compact M ++ List.replicate (N.length - (Lib.compact M).length) []).toArray).ownsRow w.heap.size 9 1 (.slice (some ⟨g, 0, none⟩) (Lib.compact M).length cap2) (Lib.compact M).length ((Lib.compact M).map sv)) := by
        refine hide fun q => ?_
        have h := Lib.ownsRow_putRow (enc := encStr) (q := q) (k := (Lib.compact M).length) (ys := Lib.compact M ++ List.replicate (N.length - (Lib.compact M).length) []) HR3.out (by simp; have := HLN.out; omega) (by have := HLN.out; omega)
        rw [List.take_left] at h
        exact h
      have hbel4 : Hid (∀ q, Below w.heap.size w (Sort.putRow encStr (Sort.ahead w3 q) g 0 (Lib.compact M ++ List.replicate (N.length - (Lib.compact M).length) []).toArray)) := hide fun q => Lib.below_putRow HB3.out hbg
      clear hH3
      go_wp2_with fail
      refine hcomp.out.mono ?_
      rintro e w4 ⟨rfl, q4, h4⟩
      have HR4 := hide (hown4.out q4)
      have HB4 := hide (hbel4.out q4)
      rw [← h4] at HR4 HB4
      clear h4 hcomp hown4 hbel4
      go_wp2
      go_ret
      refine ⟨_, rfl, ?_, HB4.out⟩
      rw [HE.out]
      exact HR4.out
end Go.Proofs.YtamkncfdfaejjaaGreatDoor

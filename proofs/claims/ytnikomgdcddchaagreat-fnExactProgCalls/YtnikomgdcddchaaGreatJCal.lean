/- Joined: CalI CalX. -/
import Derived.Test.YtnikomgdcddchaaGreatPlCal
import Derived.Test.YtnikomgdcddchaaGreatNamS
import Derived.Test.YtnikomgdcddchaaGreatJSco
import Derived.Test.YtnikomgdcddchaaGreatCln
import Derived.Test.YtnikomgdcddchaaGreatCalS
import Derived.Test.YtnikomgdcddchaaGreatJChk
import Derived.Test.YtnikomgdcddchaaGreatShSort
import Derived.Lib.OwnBridge
import Derived.Sort.OwnSorted
/- What a program asks for by name, gathered by the program. -/
namespace Go.Proofs.YtnikomgdcddchaaGreat
open Go.RowKit
set_option linter.unusedVariables false
set_option linter.unusedSimpArgs false

/-- nothing but block g and a row changes -/
structure Grw (g : Nat) (r : Option Nat) (W W' : World) : Prop where
  os : W'.os = W.os
  tape : W'.tape = W.tape
  output : W'.output = W.output
  size : W.heap.size ≤ W'.heap.size
  block : ∀ k, k < W.heap.size → k ≠ g → some k ≠ r → W'.heap[k]? = W.heap[k]?
theorem Grw.refl (g : Nat) (r : Option Nat) (W : World) : Grw g r W W := ⟨rfl, rfl, rfl, Nat.le_refl _, fun _ _ _ _ => rfl⟩
theorem Grw.below {g : Nat} {r : Option Nat} {W W' : World} (h : Below W.heap.size W W') : Grw g r W W' := ⟨h.os, h.tape, h.output, h.size, fun k hk _ _ => h.block k hk⟩
theorem Grw.grown {g : Nat} {r : Option Nat} {W W' : World} (h : W.grownBy W' r) : Grw g r W W' := ⟨h.os, h.tape, h.output, h.size, fun k hk _ hr => h.block k hk hr⟩
theorem Grw.set {g : Nat} {r : Option Nat} (W : World) (o : Nat) (u : Value) : Grw g r W (W.setCell ⟨g, o, none⟩ u) := ⟨rfl, rfl, rfl, by simp [World.setCell], fun k hk hg _ => Below.heap_setCell _ _ _ _ hg⟩
theorem Grw.trans {g : Nat} {r r1 : Option Nat} {W W1 W2 : World} (h : Grw g r W W1) (hr : ∀ k, r1 = some k → r = some k ∨ W.heap.size ≤ k) (k : Grw g r1 W1 W2) : Grw g r W W2 :=
  ⟨k.os.trans h.os, k.tape.trans h.tape, k.output.trans h.output, Nat.le_trans h.size k.size, fun i hi hg hne => (k.block i (Nat.lt_of_lt_of_le hi h.size) hg (fun e => by
    rcases hr i e.symm with h1 | h1
    · exact hne h1.symm
    · omega)).trans (h.block i hi hg hne)⟩
/-- the cell g holds a row of these texts of the call's own -/
def Lst (base g : Nat) (L : List (List UInt8)) (W : World) (v : Value) : Prop :=
  W.heap[g]? = some (.cells #[v] 26 (0, 0)) ∧ W.ownsRow base 9 1 v L.length (L.map sv) ∧ (∀ k, v.ownBlock = some k → k ≠ g) ∧ base ≤ g
/-- from W on, where the cell held v, the texts L came to be -/
def LstTo (base g : Nat) (v : Value) (W : World) (L : List (List UInt8)) (W' : World) : Prop :=
  ∃ v', Lst base g L W' v' ∧ (∀ k, v'.ownBlock = some k → v.ownBlock = some k ∨ W.heap.size ≤ k) ∧ Grw g v.ownBlock W W'
theorem Lst.lt {base g : Nat} {L : List (List UInt8)} {W : World} {v : Value} (h : Lst base g L W v) : g < W.heap.size := (Array.getElem?_eq_some_iff.1 h.1).1
theorem Lst.start {base g : Nat} {L : List (List UInt8)} {W : World} {v : Value} (h : Lst base g L W v) : LstTo base g v W L W := ⟨v, h, fun k hk => .inl hk, Grw.refl _ _ _⟩
theorem LstTo.trans {base g : Nat} {v v1 : Value} {W W1 W2 : World} {L1 L2 : List (List UInt8)} (h : Lst base g L1 W1 v1) (hr : ∀ k, v1.ownBlock = some k → v.ownBlock = some k ∨ W.heap.size ≤ k) (hg : Grw g v.ownBlock W W1) (k : LstTo base g v1 W1 L2 W2) : LstTo base g v W L2 W2 := by
  obtain ⟨v2, h2, r2, g2⟩ := k
  refine ⟨v2, h2, fun j hj => ?_, hg.trans hr g2⟩
  rcases r2 j hj with h1 | h1
  · exact hr j h1
  · exact .inr (by have := hg.size; omega)
theorem Lst.later {base g : Nat} {L : List (List UInt8)} {W W1 : World} {v : Value} (h : Lst base g L W v) (hB : Below W.heap.size W W1) : Lst base g L W1 v :=
  ⟨(hB.block g h.lt).trans h.1, ownsRow_later h.2.1 hB, h.2.2.1, h.2.2.2⟩
theorem LstTo.low {base g : Nat} {L L2 : List (List UInt8)} {w0 W W1 : World} {v : Value} (h : Lst base g L W v) (k : LstTo base g v W L2 W1) (h0 : Below w0.heap.size w0 W) (hb : w0.heap.size ≤ base) : Below w0.heap.size w0 W1 := by
  obtain ⟨v2, h2, r2, g2⟩ := k
  have hW := h0.size
  have : Below w0.heap.size W W1 := ⟨g2.os, g2.tape, g2.output, g2.size, fun j hj => g2.block j (by omega) (by have := h.2.2.2; omega) (fun e => by have := (h.2.1.lt j e.symm).1; omega)⟩
  exact h0.trans this
theorem Box11.besides {b g : Nat} {r : Option Nat} {sn : Sn} {ve vb vl : Value} {W W1 : World} (h : Box11 b sn ve vb vl W) (hB : Grw g r W W1) (hne : b ≠ g) (hr : some b ≠ r) : Box11 b sn ve vb vl W1 := by
  obtain ⟨hb, ⟨h0, h1, h2, h3, h4, h5, h6, h7⟩, h8, h9, h10⟩ := h
  have C : ∀ o, W1.cell? ⟨b, o, none⟩ = W.cell? ⟨b, o, none⟩ := fun o => by
    have hk := hB.block b hb hne hr
    simp only [World.cell?]
    rw [hk]
  exact ⟨by have := hB.size; omega, ⟨(C _).trans h0, (C _).trans h1, (C _).trans h2, (C _).trans h3, (C _).trans h4, (C _).trans h5, (C _).trans h6, (C _).trans h7⟩, (C _).trans h8, (C _).trans h9, (C _).trans h10⟩

/-- one text put behind a row of the call's own, inside a region that draws; and where the row lies then -/
theorem step_app1 {ops : Array Oper} {o : Oper} {a : Act} {W : World} {K : Act → World → Prop} {Q : Exit → Act → World → Prop} {E : Prop} (hg : o.guard = none) (s x : Operand)
    (hop : o.op = Op.call { callee := Callee.builtin Builtin.append, args := #[s, x], argTypes := #[26, 26] }) (hty : o.type = 26) (base : Nat) (A : List (List UInt8)) (t : List UInt8) (ad : Addr) (c : Nat)
    (hv : W.ownsRow base 9 1 (a.eval s) A.length (A.map sv)) (hx : a.eval x = .slice (some ad) 1 c) (hu : ∀ j u, [sv t][j]? = some u → W.cell? (ad.add j) = some u) (hn : A.length + 1 ≤ 4194304) (hb : base ≤ W.heap.size)
    (hK : ∀ v' w2, w2.ownsRow base 9 1 v' (A ++ [t]).length ((A ++ [t]).map sv) → W.grownBy w2 (a.eval s).ownBlock → (v'.ownBlock = (a.eval s).ownBlock ∨ v'.ownBlock = some W.heap.size) → K (a.put o.dst v') w2) :
    if Region.wanted o (yielded ops a.tmps) = true then Oper.wp Tryz.prog o a W K Q else E := by
  have hw : Region.wanted o (yielded ops a.tmps) = true := by simp [Region.wanted, hg]
  rw [if_pos hw]
  obtain ⟨i0, hi, hz0, hz1, hz2⟩ := info_parts infoStr
  obtain ⟨v', w2, hrun, hown, hgrow, _, hwhere⟩ := run_append_own_at (P := Tryz.prog) W base 26 26 9 i0 (.string ⟨#[]⟩) 1 16 Tryz.underlying26 hi hz0 hz1 hz2 rfl (by decide) (a.eval s) A.length (A.map sv) hv ad 1 c [sv t] (by simp) hu (fun u hu => by
    simp only [List.mem_singleton] at hu
    subst hu
    rfl) (by unfold maxLen; omega) (by omega) hb
  rw [← hty] at hrun
  unfold Oper.wp
  simp [execOp, hop, resolve, invoke, builtin, hty, hty ▸ hrun, hx, Result.andThen]
  exact hK _ _ (by simpa using hown) hgrow hwhere
set_option maxRecDepth 100000 in
set_option maxHeartbeats 1600000 in
theorem calls1 (base g : Nat) (sn : Sn) (ve vb vl : Value) (W : World) (L : List (List UInt8)) (v : Value) (hl : L.length ≤ 1048576) (hw : sn.wh.size ≤ 10) (hL : Lst base g L W v) (hbs : base ≤ W.heap.size) :
    Calls Tryz.prog 25 #[snV sn ve vb vl, .pointer (some ⟨g, 0, none⟩)] W fun e w' => e = .returned (.tuple #[]) ∧ LstTo base g v W (L ++ Pl.ownWh sn) w' := by
  have c0 := cell_of_block hL.1 0
  have f0 := free_of_block hL.1 0
  have hgl := hL.lt
  have HL := hide hL
  simp only [List.getElem?_toArray, List.getElem?_cons_zero] at c0
  clear hL
  obtain ⟨av, cv, rfl⟩ := ownsRow_form HL.out.2.1
  by_cases h0 : sn.wh.toList = []
  · have t0 : sn.wh.toList.isEmpty = true := by simp [h0]
    have HOE : Hid (L ++ Pl.ownWh sn = L) := by show _ = _; simp [Pl.ownWh, h0]
    clear h0
    go_enter Tryz.func25, Tryz.ntmps25
    go_wp2
    go_end0
    refine ⟨rfl, ?_⟩
    rw [HOE.out]
    have hA := (Below.refl _ W).alloc (Nat.le_refl _) (.cells #[.int .i64 sn.k, .string sn.nm, .string sn.wh, .int .i64 sn.ex.k, .int .i64 sn.ex.vk, .int .i64 sn.ex.vn, .string sn.ex.vt, .string sn.ex.nm, ve, vb, vl] 47)
    exact LstTo.trans (HL.out.later hA) (fun k hk => .inl hk) (Grw.below hA) (HL.out.later hA).start
  · have t0 : sn.wh.toList.isEmpty = false := by simp [h0]
    by_cases h7 : sn.k = 7
    · have t7 : (sn.k != 7) = false := by simp [h7]
      have HOE : Hid (L ++ Pl.ownWh sn = L) := by show _ = _; simp [Pl.ownWh, h7]
      clear h0 h7
      go_enter Tryz.func25, Tryz.ntmps25
      go_wp2
      go_end0
      refine ⟨rfl, ?_⟩
      rw [HOE.out]
      have hA := (Below.refl _ W).alloc (Nat.le_refl _) (.cells #[.int .i64 sn.k, .string sn.nm, .string sn.wh, .int .i64 sn.ex.k, .int .i64 sn.ex.vk, .int .i64 sn.ex.vn, .string sn.ex.vt, .string sn.ex.nm, ve, vb, vl] 47)
      exact LstTo.trans (HL.out.later hA) (fun k hk => .inl hk) (Grw.below hA) (HL.out.later hA).start
    · have t7 : (sn.k != 7) = true := by simp [h7]
      have HOE : Hid (Pl.ownWh sn = [sn.wh.data.toList]) := by show _ = _; simp [Pl.ownWh, h0, h7]
      clear h0 h7
      have hcl := hide (clone_any sn.wh (by omega))
      go_enter Tryz.func25, Tryz.ntmps25
      go_wp2_with fail
      have hX : Hid (Below W.heap.size W (W.alloc (.cells #[.int .i64 sn.k, .string sn.nm, .string sn.wh, .int .i64 sn.ex.k, .int .i64 sn.ex.vk, .int .i64 sn.ex.vn, .string sn.ex.vt, .string sn.ex.nm, ve, vb, vl] 47)).drew) := bel_one W _
      have hS1 : ∀ (w1 : World), Hid (Below W.heap.size W w1) → (w1.alloc (.cells #[.string sn.wh] 9)).ownsRow base 9 1 (.slice av L.length cv) L.length (L.map sv) := fun w1 h => ownsRow_later HL.out.2.1 (h.out.alloc h.out.size _)
      have hS2 : ∀ (w1 : World), ∀ j u, [sv sn.wh.data.toList][j]? = some u → (w1.alloc (.cells #[.string sn.wh] 9)).cell? ((⟨w1.heap.size, 0, none⟩ : Addr).add j) = some u := fun w1 => cell_one_new w1 (.string sn.wh) 9
      go_region_law (first
        | (go_simp
           go_at_call 26
           refine (hcl.out _).mono ?_
           rintro e w1 ⟨rfl, hB1'⟩
           have hB1 : Hid (Below W.heap.size W w1) := hX.out.trans (hB1'.mono hX.out.size)
           have k1 := cell_of_block ((hB1.out.block g hgl).trans HL.out.1) 0
           have h1 : g < w1.heap.size := (by have := hB1.out.size; omega)
           clear hB1')
        | (refine step_app1 rfl (.tmp 11) (.tmp 15) rfl rfl base L sn.wh.data.toList ⟨w1.heap.size, 0, none⟩ 1 ?_ ?_ (hS2 w1) ?_ ?_ ?_
           · simpa [Act.eval, Act.put] using hS1 w1 hB1
           · simp [Act.eval, Act.put]
           · omega
           · (have := hB1.out.size; simp; omega)
           intro v2 w2 hv2 hg2 hb2
           have HV2 := hide hv2
           have HW2 := hide hb2
           have HG2 := hide hg2
           have hk2 : w2.heap[g]? = some (.cells #[.slice av L.length cv] 26 (0, 0)) := (hg2.block g (by simp; omega) (fun e => HL.out.2.2.1 g (by simpa [Act.eval, Act.put] using e.symm) rfl)).trans ((Below.heap_alloc _ _ _ h1).trans ((hB1.out.block g hgl).trans HL.out.1))
           have k2 := cell_of_block hk2 0
           have f2 := free_of_block hk2 0
           have HK2 := hide hk2
           have h2 : g < w2.heap.size := (Array.getElem?_eq_some_iff.1 hk2).1
           obtain ⟨a2, c2, rfl⟩ := ownsRow_form hv2
           clear hk2
           clear hv2 hg2 hb2))
      all_goals
        go_wp2
        go_end0
        refine ⟨rfl, ?_⟩
        rw [HOE.out]
        have hgA : Grw g (Value.slice av L.length cv).ownBlock W w2 := (Grw.below hB1.out).trans (r1 := (Value.slice av L.length cv).ownBlock) (fun k hk => .inl hk) ((Grw.below ((Below.refl _ w1).alloc (Nat.le_refl _) _)).trans (r1 := (Value.slice av L.length cv).ownBlock) (fun k hk => .inl hk) (Grw.grown (by simpa [Act.eval, Act.put] using HG2.out)))
        have hrow : ∀ k, (Value.slice a2 (L ++ [sn.wh.data.toList]).length c2).ownBlock = some k → (Value.slice av L.length cv).ownBlock = some k ∨ W.heap.size ≤ k := by
          intro k hk
          rcases HW2.out with h | h
          · left
            rw [← hk, h]
            simp [Act.eval, Act.put]
          · right
            rw [h] at hk
            have := hB1.out.size
            simp at hk
            omega
        have hne : ∀ k, (Value.slice a2 (L ++ [sn.wh.data.toList]).length c2).ownBlock = some k → k ≠ g := by
          intro k hk
          rcases hrow k hk with h | h
          · exact HL.out.2.2.1 k h
          · omega
        have hlen : (L ++ [sn.wh.data.toList]).length = L.length + 1 := by simp
        have hv := HV2.out.kept (grown_set w2 g 0 (.slice a2 (L ++ [sn.wh.data.toList]).length c2)) (.inr (fun e => hne g e rfl))
        rw [hlen] at hv hrow hne
        exact ⟨_, ⟨block_set HK2.out 0 _, by rw [hlen]; exact hv, hne, HL.out.2.2.2⟩, hrow, hgA.trans (r1 := (Value.slice av L.length cv).ownBlock) (fun k hk => .inl hk) (Grw.set _ _ _)⟩
def EcP (F : Ps) : Prop := ∀ (base g : Nat) (v : Value) (w0 W : World) (L : List (List UInt8)) (vl : Value), L.length + (Pl.callsF F).length ≤ 1048576 → F.nodes ≤ 1048576 → Pl.Wh10 F → PRow 0 w0 F v → Below w0.heap.size w0 W → w0.heap.size ≤ base → base ≤ W.heap.size → Lst base g L W vl →
  Calls Tryz.prog 24 #[v, .func (.func 25) #[] #[.pointer (some ⟨g, 0, none⟩)]] W fun e w' => e = .returned (.tuple #[]) ∧ LstTo base g vl W (L ++ Pl.callsF F) w'
set_option maxHeartbeats 3200000 in
theorem eachCall_of (F : Ps) (ih : ∀ i sn b e, F.get i = some (sn, b, e) → EcP b ∧ EcP e) : EcP F := by
  intro base g v w0 W L vl hlen hnod hwh hr hB hb0 hbW hL
  obtain ⟨ad, cap, rfl, hc, hm, hx⟩ := hr
  unfold maxLen at hm
  have hN : F.len ≤ 1048576 := by have := F.kn_all; omega
  have HX := hide hx
  have IH := hide ih
  have HLL := hide hlen
  have HNO := hide hnod
  have HWH := hide hwh
  have HL := hide hL
  have HBW := hide hB
  clear hx ih hlen hnod hwh hL hB
  go_enter Tryz.func24, Tryz.ntmps24
  go_wp2_with fail
  go_loopw [8] (fun iv wr => ∃ (i : Nat), i ≤ F.len ∧ iv = .int .i64 i ∧ Hid (LstTo base g vl W (L ++ Pl.callsTo F i) wr)) (fun iv _ => F.len - (intOf iv).toNat)
  case atStart => exact ⟨0, by omega, rfl, by rw [Pl.callsTo_zero, List.append_nil]; exact hide HL.out.start⟩
  case round =>
    obtain ⟨i, hi, rfl, HT⟩ := hrel
    have HBR : Hid (Below w0.heap.size w0 wr) := LstTo.low HL.out HT.out HBW.out hb0
    by_cases hlt : i < F.len
    · obtain ⟨g1, off, rfl, _, hg1, hfo⟩ := HX.out (by omega)
      obtain ⟨sn, b, e, hget⟩ := F.get_some i hlt
      obtain ⟨ve, vb, ve2, hst⟩ := hfo.get hget
      have hpart := Pl.calls_part hget
      obtain ⟨hw1, hw2, hw3⟩ := HWH.out.get hget
      have hnodes := F.get_nodes i sn b e hget
      have HS := hide (Pl.callsTo_succ F i sn b e hget)
      have hst' := hst.later HBR.out hg1
      obtain ⟨_, ⟨_, p8⟩, ⟨_, p9⟩, ⟨_, p10⟩⟩ := hst
      obtain ⟨⟨d0, d1, d2, d3, d4, d5, d6, d7⟩, ⟨d8, _⟩, ⟨d9, _⟩, ⟨d10, _⟩⟩ := hst'
      obtain ⟨v1, hL1, hr1, hg1'⟩ := HT.out
      generalize hM : L ++ Pl.callsTo F i = M at *
      have hMl : M.length + ((Pl.ownWh sn).length + ((Pl.callsF b).length + (Pl.callsF e).length)) ≤ 1048576 := by
        have := HLL.out
        rw [← hM, List.length_append]
        omega
      have HMM := hide hM
      have hbase : base ≤ wr.heap.size := by have := hg1'.size; omega
      have hA : Hid (∀ T, Below wr.heap.size wr (wr.alloc (.cells #[.int .i64 sn.k, .string sn.nm, .string sn.wh, .int .i64 sn.ex.k, .int .i64 sn.ex.vk, .int .i64 sn.ex.vn, .string sn.ex.vt, .string sn.ex.nm, ve, vb, ve2] T))) := fun T => (Below.refl _ _).alloc (Nat.le_refl _) _
      have hgl : g < wr.heap.size := hL1.lt
      have hq1 : Hid (∀ W', Lst base g M W' v1 → base ≤ W'.heap.size → Calls Tryz.prog 25 #[snV sn ve vb ve2, .pointer (some ⟨g, 0, none⟩)] W' fun e w' => e = .returned (.tuple #[]) ∧ LstTo base g v1 W' (M ++ Pl.ownWh sn) w') := fun W' hc' hb' => calls1 base g sn ve vb ve2 W' M v1 (by omega) hw1 hc' hb'
      have hqb : Hid (∀ W' v', Below w0.heap.size w0 W' → base ≤ W'.heap.size → Lst base g (M ++ Pl.ownWh sn) W' v' → Calls Tryz.prog 24 #[vb, .func (.func 25) #[] #[.pointer (some ⟨g, 0, none⟩)]] W' fun e w' => e = .returned (.tuple #[]) ∧ LstTo base g v' W' (M ++ Pl.ownWh sn ++ Pl.callsF b) w') := fun W' v' hW' hb' hl' => (IH.out i sn b e hget).1 base g vb w0 W' _ v' (by rw [List.length_append]; omega) (by have := HNO.out; omega) hw2 p9 hW' hb0 hb' hl'
      have hqe : Hid (∀ W' v', Below w0.heap.size w0 W' → base ≤ W'.heap.size → Lst base g (M ++ Pl.ownWh sn ++ Pl.callsF b) W' v' → Calls Tryz.prog 24 #[ve2, .func (.func 25) #[] #[.pointer (some ⟨g, 0, none⟩)]] W' fun e' w' => e' = .returned (.tuple #[]) ∧ LstTo base g v' W' (M ++ Pl.ownWh sn ++ Pl.callsF b ++ Pl.callsF e) w') := fun W' v' hW' hb' hl' => (IH.out i sn b e hget).2 base g ve2 w0 W' _ v' (by rw [List.length_append, List.length_append]; omega) (by have := HNO.out; omega) hw3 p10 hW' hb0 hb' hl'
      have HNEW : Hid (M ++ Pl.ownWh sn ++ Pl.callsF b ++ Pl.callsF e = L ++ Pl.callsTo F (i + 1)) := by
        show _ = _
        rw [HS.out, ← List.append_assoc, HMM.out, Pl.callsS]
        simp only [List.append_assoc]
      generalize M ++ Pl.ownWh sn ++ Pl.callsF b ++ Pl.callsF e = M4 at hqe HNEW
      generalize M ++ Pl.ownWh sn ++ Pl.callsF b = M3 at hqb hqe
      generalize M ++ Pl.ownWh sn = M2 at hq1 hqb
      obtain ⟨ade, cpe, rfl, _, _, _⟩ := p8
      obtain ⟨adb, cpb, rfl, _, _, _⟩ := p9
      obtain ⟨adl, cpl, rfl, _, _, _⟩ := p10
      have HX11 := hide (Box11.mk (sn := sn) (ve := .slice ade sn.ek.len cpe) (vb := .slice adb b.len cpb) (vl := .slice adl e.len cpl) (T := 47) wr)
      have HL1 := hide (hL1.later (hA.out 47))
      have HRow : Hid (∀ k, v1.ownBlock = some k → k < wr.heap.size) := fun k hk => (hL1.2.1.lt k hk).2
      have HG1 := hide hg1'
      have HR1 := hide hr1
      have hAx := hide (hA.out 47)
      clear hfo hget hpart hMl hM hnodes hw1 hw2 hw3 hL1 hg1' hr1 hA HT HS IH
      have hii : (i : Int) < (F.len : Int) := by omega
      go_wp2_with fail
      generalize hX1 : wr.alloc (.cells #[.int .i64 sn.k, .string sn.nm, .string sn.wh, .int .i64 sn.ex.k, .int .i64 sn.ex.vk, .int .i64 sn.ex.vn, .string sn.ex.vt, .string sn.ex.nm, .slice ade sn.ek.len cpe, .slice adb b.len cpb, .slice adl e.len cpl] 47) = X at HX11 HL1 hAx ⊢
      clear hX1
      have hsX := hide hAx.out.size
      have HBX : Hid (Below w0.heap.size w0 X) := HBR.out.trans (hAx.out.mono HBR.out.size)
      refine (hq1.out _ HL1.out (by have := hsX.out; omega)).mono ?_
      rintro e1 w3 ⟨rfl, ht3⟩
      have HB3 : Hid (Below w0.heap.size w0 w3) := LstTo.low HL1.out ht3 HBX.out hb0
      obtain ⟨v3, hL3, hr3, hG3⟩ := ht3
      have HX3 := hide (HX11.out.besides hG3 (by omega) (fun e => by have := HRow.out _ e.symm; omega))
      have HL3 := hide hL3
      have HR3 := hide hr3
      have HG3 := hide hG3
      clear hL3 hr3 hG3 hq1 d0 d1 d2 d3 d4 d5 d6 d7 d8 d9 d10
      obtain ⟨_, ⟨x0, x1, x2, x3, x4, x5, x6, x7⟩, x8, x9, x10⟩ := HX3.out
      go_wp2_with fail
      refine (hqb.out _ v3 HB3.out (by have := hsX.out; have := HG3.out.size; omega) HL3.out).mono ?_
      rintro e1 w4 ⟨rfl, ht4⟩
      have HB4 : Hid (Below w0.heap.size w0 w4) := LstTo.low HL3.out ht4 HB3.out hb0
      have ht4' := LstTo.trans HL3.out HR3.out HG3.out ht4
      obtain ⟨v4, hL4, hr4, hG4⟩ := ht4'
      have HX4 := hide (HX11.out.besides hG4 (by omega) (fun e => by have := HRow.out _ e.symm; omega))
      have HL4 := hide hL4
      have HR4 := hide hr4
      have HG4 := hide hG4
      clear hL4 hr4 hG4 ht4 HX3 HL3 HR3 HG3 HB3 hqb x0 x1 x2 x3 x4 x5 x6 x7 x8 x9 x10
      obtain ⟨_, ⟨x0, x1, x2, x3, x4, x5, x6, x7⟩, x8, x9, x10⟩ := HX4.out
      go_wp2_with fail
      refine (hqe.out _ v4 HB4.out (by have := hsX.out; have := HG4.out.size; omega) HL4.out).mono ?_
      rintro e1 w5 ⟨rfl, ht5⟩
      have ht5' := LstTo.trans HL4.out HR4.out HG4.out ht5
      have HT5 : Hid (LstTo base g vl W (L ++ Pl.callsTo F (i + 1)) w5) := by
        rw [← HNEW.out]
        refine LstTo.trans HL1.out (fun k hk => ?_) (HG1.out.trans HR1.out (Grw.below hAx.out)) ht5'
        exact HR1.out k hk
      clear ht5 ht5' HX4 HL4 HR4 HG4 HB4 hqe x0 x1 x2 x3 x4 x5 x6 x7 x8 x9 x10
      go_wp2
      go_roundw
      case rel => exact ⟨i + 1, by omega, by go_num, HT5⟩
      case measure => simp [intOf]; omega
    · go_wp2
      go_end0
      have hie : i = F.len := by omega
      refine ⟨rfl, ?_⟩
      rw [← Pl.callsTo_all, ← hie]
      exact HT.out
theorem eachCall_fuel : ∀ (n : Nat) (F : Ps), F.nodes ≤ n → EcP F
  | 0, F, h => eachCall_of F fun i sn b e hk => by have := F.get_nodes i sn b e hk; omega
  | n + 1, F, h => eachCall_of F fun i sn b e hk => ⟨eachCall_fuel n b (by have := F.get_nodes i sn b e hk; omega), eachCall_fuel n e (by have := F.get_nodes i sn b e hk; omega)⟩
theorem eachCall_any (F : Ps) : EcP F := eachCall_fuel F.nodes F (Nat.le_refl _)
end Go.Proofs.YtnikomgdcddchaaGreat

/- ProgCalls, as the specification has it and as the program has it. -/
namespace Go.Proofs.YtnikomgdcddchaaGreat
open Go.RowKit
set_option linter.unusedVariables false
namespace Pl
def callsP (nm : ByteArray) (F : Ps) : List (List UInt8) := if checkP nm F = 0 then insAll (callsF F) [] else []
theorem callsP_len (nm : ByteArray) (F : Ps) (h : F.nodes ≤ 1048576) : (callsP nm F).length ≤ 1048576 := by
  unfold callsP
  split
  · have h1 := insAll_len (callsF F) []
    have h2 := calls_le_nodes F
    simp only [List.length_nil] at h1
    omega
  · simp
theorem check_wh {nm : ByteArray} {F : Ps} (h : checkP nm F = 0) : Wh10 F := by
  unfold checkP at h
  split at h
  · next hx =>
    simp only [Bool.and_eq_true] at hx
    exact bodyB_wh hx.2
  · cases h
end Pl
theorem texts_none (w : World) (ad : Option Addr) (h : ad ≠ none) : TextsAt w (.slice ad 0 0) [] := ⟨ad, 0, rfl, Nat.le_refl _, by unfold maxLen; omega, fun h => by simp at h, fun _ => rfl⟩

set_option maxHeartbeats 1600000 in
theorem specProgCalls_any (nm : ByteArray) (F : Ps) (v : Value) (w : World) (hw : nm.size ≤ maxLen) (hwf : F.Wf) (hl : F.len ≤ 1048576) (hs : F.Sm) (hn : F.nodes ≤ 1048576) (hr : PRow 0 w F v) :
    Calls Tryz.prog 6 #[.agg #[.string nm, v]] w fun e w' => ∃ v', e = .returned v' ∧ TextsAt w' v' (Pl.callsP nm F) ∧ Below w.heap.size w w' := by
  have hq1 : Hid (∀ W, Below w.heap.size w W → Calls Tryz.prog 16 #[.agg #[.string nm, v]] W fun e w' => e = .returned (.int .i64 (Pl.checkP nm F)) ∧ Below W.heap.size W w') := fun W hW => specProgCheck_any nm F v W hw hwf hl hs (hr.later hW)
  have hq2 : Hid (∀ W vo, Below w.heap.size w W → TextsAt W vo [] → Calls Tryz.prog 21 #[v, vo] W fun e w' => ∃ v', e = .returned v' ∧ TextsAt w' v' (Pl.insAll (Pl.callsF F) []) ∧ Below W.heap.size W w') := fun W vo hW ho => l3Calls_any F v W [] vo (by have := Pl.calls_le_nodes F; simp only [List.length_nil]; omega) (hr.later hW) ho
  have HA : Hid (Below w.heap.size w (w.alloc (.cells #[.string nm, v] 30))) := (Below.refl _ _).alloc (Nat.le_refl _) _
  have HE : Hid (Pl.callsP nm F = if Pl.checkP nm F = 0 then Pl.insAll (Pl.callsF F) [] else []) := rfl
  obtain ⟨ad, cap, rfl, _, _, _⟩ := hr
  clear hw hwf hs hn
  go_enter Tryz.func6, Tryz.ntmps6
  go_wp2_with fail
  refine (hq1.out _ HA.out).mono ?_
  rintro e w1 ⟨rfl, hB1⟩
  have c1 : w1.cell? ⟨w.heap.size, 1, none⟩ = some (.slice ad F.len cap) := boxC hB1 (by simp) 1
  have HB1 : Hid (Below w.heap.size w w1) := HA.out.trans (hB1.mono HA.out.size)
  have hs1 : w.heap.size < w1.heap.size := by have := hB1.size; simp at this; omega
  clear hB1 hq1 HA
  by_cases h0 : Pl.checkP nm F = 0
  · rw [if_pos h0] at HE
    have hz : (Pl.checkP nm F != 0) = false := by simp [h0]
    clear h0
    have HB2 : Hid (Below w.heap.size w (w1.alloc (.cells #[] 9))) := HB1.out.alloc HB1.out.size _
    go_wp2_with fail
    refine (hq2.out _ _ HB2.out (texts_none _ _ (by simp))).mono ?_
    rintro e w2 ⟨v2, rfl, ht2, hB2⟩
    have HT2 := hide ht2
    obtain ⟨a2, c2, rfl, _⟩ := HT2.out
    clear ht2
    go_wp2
    go_ret
    exact ⟨_, rfl, by rw [HE.out]; exact HT2.out, HB2.out.trans (hB2.mono HB2.out.size)⟩
  · rw [if_neg h0] at HE
    have hz : (Pl.checkP nm F != 0) = true := by simp [h0]
    clear h0
    go_wp2
    go_ret
    exact ⟨_, rfl, by rw [HE.out]; exact texts_none _ _ (by simp), HB1.out.alloc HB1.out.size _⟩

set_option maxRecDepth 100000 in
set_option maxHeartbeats 3200000 in
theorem implProgCalls_any (nm : ByteArray) (F : Ps) (v : Value) (w : World) (hw : nm.size ≤ maxLen) (hwf : F.Wf) (hl : F.len ≤ 1048576) (hs : F.Sm) (hn : F.nodes ≤ 1048576) (hr : PRow 0 w F v) :
    Calls Tryz.prog 8 #[.agg #[.string nm, v]] w fun e w' => ∃ v', e = .returned v' ∧ w'.ownsRow w.heap.size 9 1 v' (Pl.callsP nm F).length ((Pl.callsP nm F).map sv) ∧ Below w.heap.size w w' := by
  have hq1 : Hid (∀ W, Below w.heap.size w W → Calls Tryz.prog 23 #[.agg #[.string nm, v]] W fun e w' => e = .returned (.int .i64 (Pl.checkP nm F)) ∧ Below W.heap.size W w') := fun W hW => implProgCheck_any nm F v W hw hwf hl hs (hr.later hW)
  have hcl := Pl.calls_le_nodes F
  have hq2 : Hid (Pl.checkP nm F = 0 → ∀ W g, Below w.heap.size w W → Lst w.heap.size g [] W (.slice none 0 0) → Calls Tryz.prog 24 #[v, .func (.func 25) #[] #[.pointer (some ⟨g, 0, none⟩)]] W fun e w' => e = .returned (.tuple #[]) ∧ LstTo w.heap.size g (.slice none 0 0) W (Pl.callsF F) w') := by
    refine hide fun h0 W g hW hL => ?_
    have := eachCall_any F w.heap.size g v w W [] _ (by simp only [List.length_nil]; omega) hn (Pl.check_wh h0) hr hW (Nat.le_refl _) hW.size hL
    simpa only [List.nil_append] using this
  have HA : Hid (Below w.heap.size w (w.alloc (.cells #[.string nm, v] 30))) := (Below.refl _ _).alloc (Nat.le_refl _) _
  have HE : Hid (Pl.callsP nm F = if Pl.checkP nm F = 0 then Lib.compact ((Pl.callsF F).mergeSort fun x y => decide (x ≤ y)) else []) := by
    show _ = _
    rw [Pl.compact_sort]; rfl
  have hNb : (Pl.callsF F).length ≤ 1048576 := by omega
  obtain ⟨ad, cap, rfl, _, _, _⟩ := hr
  clear hw hwf hs hn hcl
  generalize Pl.callsF F = N at *
  go_enter Tryz.func8, Tryz.ntmps8
  go_wp2_with fail
  refine (hq1.out _ HA.out).mono ?_
  rintro e w1 ⟨rfl, hB1⟩
  have c1 : w1.cell? ⟨w.heap.size, 1, none⟩ = some (.slice ad F.len cap) := boxC hB1 (by simp) 1
  have HB1 : Hid (Below w.heap.size w w1) := HA.out.trans (hB1.mono HA.out.size)
  have hs1 : w.heap.size < w1.heap.size := by have := hB1.size; simp at this; omega
  clear hB1 hq1 HA
  by_cases h0 : Pl.checkP nm F = 0
  · rw [if_pos h0] at HE
    have hz : (Pl.checkP nm F != 0) = false := by simp [h0]
    have HQ2 := hide (hq2.out h0)
    clear h0 hq2
    have HB2 : Hid (Below w.heap.size w (w1.alloc (.cells #[.slice none 0 0] 26))) := HB1.out.alloc HB1.out.size _
    have HL2 : Hid (Lst w.heap.size w1.heap.size [] (w1.alloc (.cells #[.slice none 0 0] 26)) (.slice none 0 0)) :=
      ⟨heap_alloc_new w1 _, ⟨rfl, .inl ⟨rfl, rfl⟩⟩, fun k hk => (by cases hk), by omega⟩
    go_wp2_with fail
    refine (HQ2.out _ _ HB2.out HL2.out).mono ?_
    rintro e w2 ⟨rfl, ht2⟩
    have HB3 : Hid (Below w.heap.size w w2) := LstTo.low HL2.out ht2 HB2.out (Nat.le_refl _)
    obtain ⟨v2, hL2, _, hG2⟩ := ht2
    have c2 := cell_of_block hL2.1 0
    simp only [List.getElem?_toArray, List.getElem?_cons_zero] at c2
    have HR2 := hide hL2.2.1
    have HK2 := hide hL2.1
    have HNE := hide hL2.2.2.1
    clear hL2 hG2 HL2 HQ2 HB2
    by_cases hv0 : v2 = .slice none 0 0
    · subst hv0
      have hN : N = [] := by
        rcases HR2.out.2 with ⟨_, h⟩ | ⟨g, cap, cur, h, _⟩
        · exact List.length_eq_zero_iff.1 h
        · cases h
      subst hN
      go_wp2_with fail
      refine (Tryz.sort_str_none none 0 w2).mono ?_
      rintro e w3 ⟨rfl, rfl⟩
      go_wp2_with fail
      refine (Tryz.compact_str_empty none 0 w3).mono ?_
      rintro e w4 ⟨rfl, rfl⟩
      go_wp2
      go_ret
      refine ⟨_, rfl, ?_, HB3.out⟩
      have e0 : Lib.compact (([] : List (List UInt8)).mergeSort fun x y => decide (x ≤ y)) = [] := by rw [Pl.compact_sort]; rfl
      rw [HE.out, e0]
      exact HR2.out
    · obtain ⟨g, cap2, rfl, hbg, hgl, hnc, hcm, _, hH⟩ := Lib.holds_of_ownsRow (enc := encStr) (zs := N) HR2.out hv0
      clear hv0
      have hgne : g ≠ w1.heap.size := HNE.out g rfl
      have hsort := hide (Tryz.sort_str g 0 cap2 N w2 hH hgl (by omega))
      have hown3 : Hid (∀ n os, (Sort.grow (Sort.putRow encStr (Sort.ahead w2 n) g 0 (N.mergeSort fun x y => decide (x ≤ y)).toArray) os).ownsRow w.heap.size 9 1 (.slice (some ⟨g, 0, none⟩) N.length cap2) N.length ((N.mergeSort fun x y => decide (x ≤ y)).map encStr)) := by
        refine hide fun n os => ?_
        rcases HR2.out.2 with ⟨h, _⟩ | ⟨g', cap', cur, h, hbase, hb', h1, h2, h3, h4⟩
        · cases h
        · cases h
          exact ownsRow_sorted (ss := N) (by simp) hbase hb' h1 h2 h3
      have hgb3 : Hid (∀ n os, w2.grownBy (Sort.grow (Sort.putRow encStr (Sort.ahead w2 n) g 0 (N.mergeSort fun x y => decide (x ≤ y)).toArray) os) (some g)) := hide fun n os => grownBy_sorted _
      have hlen : (N.mergeSort fun x y => decide (x ≤ y)).length = N.length := by simp
      have hcl := Lib.compact_length_le (N.mergeSort fun x y => decide (x ≤ y))
      generalize (N.mergeSort fun x y => decide (x ≤ y)) = M at hsort hown3 hgb3 hlen hcl HE
      have HLN := hide hlen
      clear hH hlen
      go_wp2_with fail
      refine hsort.out.mono ?_
      rintro e w3 ⟨rfl, n3, os3, h3⟩
      have HR3 := hide (hown3.out n3 os3)
      have HGB3 := hide (hgb3.out n3 os3)
      rw [← h3] at HR3 HGB3
      have HB4 : Hid (Below w.heap.size w w3) := HB3.out.grown HGB3.out HB3.out.size (fun j hj => by cases hj; exact hbg)
      have hk3 := (HGB3.out.block w1.heap.size (Array.getElem?_eq_some_iff.1 HK2.out).1 (fun e => hgne (by cases e; rfl))).trans HK2.out
      have c3 := cell_of_block hk3 0
      simp only [List.getElem?_toArray, List.getElem?_cons_zero] at c3
      clear h3 hsort hown3 hgb3 c2 hk3
      obtain ⟨g', cap', hv3, _, _, _, _, _, hH3⟩ := Lib.holds_of_ownsRow (enc := encStr) (zs := M) HR3.out (by simp)
      cases hv3
      have hcomp := hide (Tryz.compact_str g 0 cap2 M w3 hH3 (by have := HLN.out; unfold maxLen at hcm; omega) (by have := HLN.out; omega))
      rw [HLN.out] at hcomp
      have hown4 : Hid (∀ q, (Sort.putRow encStr (Sort.ahead w3 q) g 0 (Lib.compact M ++ List.replicate (N.length - (Lib.compact M).length) []).toArray).ownsRow w.heap.size 9 1 (.slice (some ⟨g, 0, none⟩) (Lib.compact M).length cap2) (Lib.compact M).length ((Lib.compact M).map sv)) := by
        refine hide fun q => ?_
        have h := Lib.ownsRow_putRow (enc := encStr) (q := q) (k := (Lib.compact M).length) (ys := Lib.compact M ++ List.replicate (N.length - (Lib.compact M).length) []) HR3.out (by simp; have := HLN.out; omega) (by have := HLN.out; omega)
        rw [List.take_left] at h
        exact h
      have hbel4 : Hid (∀ q, Below w.heap.size w (Sort.putRow encStr (Sort.ahead w3 q) g 0 (Lib.compact M ++ List.replicate (N.length - (Lib.compact M).length) []).toArray)) := hide fun q => Lib.below_putRow HB4.out hbg
      clear hH3
      go_wp2_with fail
      refine hcomp.out.mono ?_
      rintro e w4 ⟨rfl, q4, h4⟩
      have HR4 := hide (hown4.out q4)
      have HB5 := hide (hbel4.out q4)
      rw [← h4] at HR4 HB5
      clear h4 hcomp hown4 hbel4
      go_wp2
      go_ret
      refine ⟨_, rfl, ?_, HB5.out⟩
      rw [HE.out]
      exact HR4.out
  · rw [if_neg h0] at HE
    have hz : (Pl.checkP nm F != 0) = true := by simp [h0]
    clear h0
    go_wp2
    go_ret
    exact ⟨_, rfl, by rw [HE.out]; exact ⟨rfl, .inl ⟨rfl, rfl⟩⟩, HB1.out⟩
end Go.Proofs.YtnikomgdcddchaaGreat

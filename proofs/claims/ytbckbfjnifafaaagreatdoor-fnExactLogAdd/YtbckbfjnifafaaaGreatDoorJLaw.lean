/- Joined: LawLd. -/
import Derived.Test.YtbckbfjnifafaaaGreatDoorJLk
import Derived.Test.YtbckbfjnifafaaaGreatDoorJAs
import Derived.Deep.RegionHeld3
import Derived.Deep.RegionWith
import Derived.Deep.Cut
/- The law on an act added to a log, walked. -/
namespace Go.Proofs.YtbckbfjnifafaaaGreatDoor
open Go.RowKit
set_option linter.unusedVariables false
set_option linter.unusedSimpArgs false
/-- where a call's answer lies when it was put into a variable of its own -/
structure Got (X : World) (M : List (List UInt8)) (T : TypeId) (b lo hi : Nat) (v : Value) (W : World) : Prop where
  low : X.heap.size ≤ b
  lt : b < W.heap.size
  box : W.heap[b]? = some (.cells #[v] T (0, 0))
  tx : TxB lo hi W M v
  loX : X.heap.size ≤ lo
  loW : lo ≤ W.heap.size
  hiX : hi ≤ W.heap.size
  off : b < lo ∨ hi ≤ b
  bel : Below X.heap.size X W
theorem leafA {X W : World} {M : List (List UInt8)} {T : TypeId} {lo : Nat} {v : Value} (hC : Below X.heap.size X W) (hR : TxB lo W.heap.size W M v) (hl : X.heap.size ≤ lo) (hl2 : lo ≤ W.heap.size) : Got X M T W.heap.size lo W.heap.size v (W.alloc (.cells #[v] T)) :=
  ⟨hC.size, by simp, by rw [heap_alloc_at, if_pos rfl], hR.later ((Below.refl _ _).alloc (Nat.le_refl _) _), hl, by rw [World.size_alloc]; omega, by simp, .inr (Nat.le_refl _), hC.alloc hC.size _⟩
theorem leafB {X W : World} {M : List (List UInt8)} {T : TypeId} {lo b : Nat} {u v : Value} (hC : Below X.heap.size X W) (hR : TxB lo W.heap.size W M v) (hl : X.heap.size ≤ lo) (hl2 : lo ≤ W.heap.size) (hb : W.heap[b]? = some (.cells #[u] T (0, 0))) (h1 : X.heap.size ≤ b) (h2 : b < lo) : Got X M T b lo W.heap.size v (W.setCell ⟨b, 0, none⟩ v) :=
  ⟨h1, by rw [set_size]; exact (Array.getElem?_eq_some_iff.1 hb).1, block_set hb 0 v, hR.mid ((Mid.refl b (b + 1) W).set (Nat.le_refl _) (Nat.lt_succ_self _)) (.inr h2), hl, by rw [set_size]; exact hl2, by rw [set_size]; exact Nat.le_refl _, .inl h2, hC.setCell (p := ⟨b, 0, none⟩) h1 v⟩
theorem cur_below {n : Nat} {X W Wc W1 : World} (hC : Below n X W) (hn : n ≤ W.heap.size) (h : Wc = W ∨ ∃ O, Wc = W.alloc O) (hB : Below Wc.heap.size Wc W1) : Below n X W1 ∧ Below W.heap.size W W1 ∧ W.heap.size ≤ W1.heap.size := by
  have h2 : Below W.heap.size W W1 := by
    rcases h with rfl | ⟨O, rfl⟩
    · exact hB
    · exact ((Below.refl _ W).alloc (Nat.le_refl _) O).trans (hB.mono (by simp))
  exact ⟨hC.trans (h2.mono hn), h2, h2.size⟩
theorem cur_at {n : Nat} {X W Wc : World} (hC : Below n X W) (hn : n ≤ W.heap.size) (h : Wc = W ∨ ∃ O, Wc = W.alloc O) : Below n X Wc := by
  rcases h with rfl | ⟨O, rfl⟩
  · exact hC
  · exact hC.alloc hn O
theorem cur_tx {hi : Nat} {W Wc : World} {L : List (List UInt8)} {v : Value} (hT : TxD hi W L v) (hh : hi ≤ W.heap.size) (h : Wc = W ∨ ∃ O, Wc = W.alloc O) : TxD Wc.heap.size Wc L v := by
  rcases h with rfl | ⟨O, rfl⟩
  · exact hT.up hh
  · exact (hT.later ((Below.refl _ W).alloc hh O)).up (by rw [World.size_alloc]; omega)
theorem cur_box {n : Nat} {X W Wc W1 : World} (hC : Below n X W) (O : Obj) (h : Wc = W.alloc O) (hB : Below Wc.heap.size Wc W1) : W1.heap[W.heap.size]? = some O := by
  subst h
  exact (one_q hB).1
/-- five blocks that stay -/
structure Five (b0 b1 b4 b5 b6 : Nat) (O0 O1 O4 O5 O6 : Obj) (W : World) : Prop where
  x : W.heap[b0]? = some O0
  a : W.heap[b1]? = some O1
  w : W.heap[b4]? = some O4
  y : W.heap[b5]? = some O5
  g : W.heap[b6]? = some O6
theorem Five.later {b0 b1 b4 b5 b6 : Nat} {O0 O1 O4 O5 O6 : Obj} {W W1 : World} (h : Five b0 b1 b4 b5 b6 O0 O1 O4 O5 O6 W) (hB : Below W.heap.size W W1) : Five b0 b1 b4 b5 b6 O0 O1 O4 O5 O6 W1 :=
  ⟨(hB.block _ (Array.getElem?_eq_some_iff.1 h.x).1).trans h.x, (hB.block _ (Array.getElem?_eq_some_iff.1 h.a).1).trans h.a, (hB.block _ (Array.getElem?_eq_some_iff.1 h.w).1).trans h.w, (hB.block _ (Array.getElem?_eq_some_iff.1 h.y).1).trans h.y, (hB.block _ (Array.getElem?_eq_some_iff.1 h.g).1).trans h.g⟩
theorem Five.mid {b0 b1 b4 b5 b6 lo hi : Nat} {O0 O1 O4 O5 O6 : Obj} {W W1 : World} (h : Five b0 b1 b4 b5 b6 O0 O1 O4 O5 O6 W) (hM : Mid lo hi W W1) (h0 : b0 < lo ∨ hi ≤ b0) (h1 : b1 < lo ∨ hi ≤ b1) (h4 : b4 < lo ∨ hi ≤ b4) (h5 : b5 < lo ∨ hi ≤ b5) (h6 : b6 < lo ∨ hi ≤ b6) : Five b0 b1 b4 b5 b6 O0 O1 O4 O5 O6 W1 :=
  ⟨(hM.block _ (Array.getElem?_eq_some_iff.1 h.x).1 h0).trans h.x, (hM.block _ (Array.getElem?_eq_some_iff.1 h.a).1 h1).trans h.a, (hM.block _ (Array.getElem?_eq_some_iff.1 h.w).1 h4).trans h.w, (hM.block _ (Array.getElem?_eq_some_iff.1 h.y).1 h5).trans h.y, (hM.block _ (Array.getElem?_eq_some_iff.1 h.g).1 h6).trans h.g⟩
theorem few_add (E : List UInt8 → Nat) (ok : Bool) (x : List UInt8) (L : List (List UInt8)) : (Pl.addA E ok x L).length ≤ 1048576 := by
  unfold Pl.addA
  split
  · rename_i h
    obtain ⟨h1, h2⟩ := logI_lim h
    have h3 := addL_lim x L h1 h2
    split <;> omega
  · simp
set_option maxRecDepth 100000 in
set_option maxHeartbeats 12800000 in
theorem lawLogAdd_any (L : List (List UInt8)) (hwf : ∀ x ∈ L, x.length ≤ maxLen) (k r p : Int) (nm : ByteArray) (o : Bool) (vk vn : Int) (vt : ByteArray) (m : Int) (hn : nm.size ≤ maxLen) (ht : vt.size ≤ maxLen) (v : Value) (w : World) (hr : TextsAt w v L) (hG : Glob w) :
    Calls Tryz.prog 5 #[.agg #[v], actV k r p nm o vk vn vt m] w fun e w' => e = .returned (.bool true) ∧ Below w.heap.size w w' := by
  have hb0 : ∀ O, Below w.heap.size w ((w.alloc (.cells #[v] 24)).alloc O) := fun O => ((Below.refl _ _).alloc (Nat.le_refl _) _).alloc (by simp) O
  have hs := hide (fun O => szLog_le L v hwf _ (hr.later (hb0 O)))
  have hsa := hide (fun z h0 h1 W => szAct_full k r p nm o vk vn vt m hn ht z h0 h1 W)
  have hta := hide (toAct_any k r p nm o vk vn vt m)
  have HR := hide hr
  have HG := hide hG
  obtain ⟨E, hE⟩ := ends_there
  have HE := hide hE
  clear hb0 hr hwf hG hE
  go_enter Tryz.func5, Tryz.ntmps5
  go_wp2_with fail
  refine (hs.out _).mono ?_
  rintro e1 w1 ⟨⟨z, rfl, hz1, hz⟩, hB1⟩
  obtain ⟨bx, ba, hBL, hsz⟩ := two_box2 hB1
  have HX := hide bx
  have HA := hide ba
  have HB := hide hBL
  have hl1 : w.heap.size + 1 < w1.heap.size := by omega
  have j0 := cell_of_block ba 0
  have j1 := cell_of_block ba 1
  have j2 := cell_of_block ba 2
  have j3 := cell_of_block ba 3
  have j4 := cell_of_block ba 4
  have j5 := cell_of_block ba 5
  have j6 := cell_of_block ba 6
  have j7 := cell_of_block ba 7
  have j8 := cell_of_block ba 8
  simp only [List.getElem?_toArray, List.getElem?_cons_zero, List.getElem?_cons_succ] at j0 j1 j2 j3 j4 j5 j6 j7 j8
  clear hB1 bx ba hBL hs
  by_cases h0 : z < 0
  · go_wp2
    go_ret
    exact ⟨rfl, HB.out⟩
  · obtain ⟨hN, hsm⟩ := hz (by omega)
    go_wp2_with fail
    refine (hsa.out z (by omega) hz1 _).mono ?_
    rintro e2 w2 ⟨⟨z2, rfl, hz2⟩, hB2⟩
    have HX2 := hide ((hB2.block _ (by omega)).trans HX.out)
    have HA2 := hide ((hB2.block _ hl1).trans HA.out)
    have HB2 := hide (HB.out.trans (hB2.mono HB.out.size))
    have hs2 : w.heap.size + 2 ≤ w2.heap.size := Nat.le_trans hsz hB2.size
    clear hB2 HX HA HB hz j0 j1 j2 j3 j4 j5 j6 j7 j8 hsa
    by_cases h02 : z2 < 0
    · go_wp2
      go_ret
      exact ⟨rfl, HB2.out⟩
    obtain ⟨hn1, ht1⟩ := hz2 (by omega)
    have hND := hide (few_add E (Pl.actB k r p nm o vk vn vt m) (Pl.recT (Pl.actT k r p nm o vk vn vt m)) L)
    have hto := hide (fun W (hW : Below w.heap.size w W) => toLogB_any L hN v W (HR.out.later hW))
    have hsp := hide (fun v W (hr : TxD W.heap.size W L v) => specLogAdd_any E HE.out k r p nm o vk vn vt m hn1 ht1 L hN hsm v W (hr.at (Nat.le_refl _)))
    have him := hide (fun v W (hr : TxD W.heap.size W L v) (hB : Below w.heap.size w W) => implLogAdd_any E HE.out k r p nm o vk vn vt m hn1 ht1 L hsm v W (hr.at (Nat.le_refl _)) (HG.out.later hB))
    generalize Pl.addA E (Pl.actB k r p nm o vk vn vt m) (Pl.recT (Pl.actT k r p nm o vk vn vt m)) L = M at hND hsp him
    generalize Pl.addR E (Pl.actB k r p nm o vk vn vt m) (Pl.recT (Pl.actT k r p nm o vk vn vt m)) L = b at hsp him
    have heq := hide (fun W va vb (ha : TxD W.heap.size W M va) (hb : TxD W.heap.size W M vb) => eqLog_any M hND.out va vb W (ha.at (Nat.le_refl _)) (hb.at (Nat.le_refl _)))
    have heqx := hide (fun W va vb (ha : TxD W.heap.size W L va) (hb : TxD W.heap.size W L vb) => eqLog_any L hN va vb W (ha.at (Nat.le_refl _)) (hb.at (Nat.le_refl _)))
    have hmkx := hide (fun v lo hi W h hh => markLogB_any L hN v lo hi W h hh)
    have hmkg := hide (fun v lo hi W h hh => markLogB_any M hND.out v lo hi W h hh)
    have hhd := hide (fun v W h => heldLogB_any M hND.out v W h)
    have hbb : (b != b) = false := by cases b <;> rfl
    clear hz2 hN hsm hn1 ht1 hND HR HG HE
    have HAF : Hid (∀ W, Below w2.heap.size w2 W → W.cell? ⟨w.heap.size, 0, none⟩ = some v ∧ True ∧ W.cell? ⟨w.heap.size + 1, 0, none⟩ = some (.int .i64 k) ∧ W.cell? ⟨w.heap.size + 1, 1, none⟩ = some (.int .i64 r) ∧ W.cell? ⟨w.heap.size + 1, 2, none⟩ = some (.int .i64 p) ∧ W.cell? ⟨w.heap.size + 1, 3, none⟩ = some (.string nm) ∧ W.cell? ⟨w.heap.size + 1, 4, none⟩ = some (.bool o) ∧ W.cell? ⟨w.heap.size + 1, 5, none⟩ = some (.int .i64 vk) ∧ W.cell? ⟨w.heap.size + 1, 6, none⟩ = some (.int .i64 vn) ∧ W.cell? ⟨w.heap.size + 1, 7, none⟩ = some (.string vt) ∧ W.cell? ⟨w.heap.size + 1, 8, none⟩ = some (.int .i64 m) ∧ w.heap.size < W.heap.size ∧ w.heap.size + 1 < W.heap.size ∧ w.heap.size < W.heap.size) := fun W hW => by
      have h0 := (hW.block _ (Array.getElem?_eq_some_iff.1 HX2.out).1).trans HX2.out
      have h1 := (hW.block _ (Array.getElem?_eq_some_iff.1 HA2.out).1).trans HA2.out
      skip
      exact ⟨cell_of_block h0 0, trivial, cell_of_block h1 0, cell_of_block h1 1, cell_of_block h1 2, cell_of_block h1 3, cell_of_block h1 4, cell_of_block h1 5, cell_of_block h1 6, cell_of_block h1 7, cell_of_block h1 8, (Array.getElem?_eq_some_iff.1 h0).1, (Array.getElem?_eq_some_iff.1 h1).1, (Array.getElem?_eq_some_iff.1 h0).1⟩
    go_upto_region 8 with fail
    go_cut [6, 7] from 16 (fun vp vb wx => ∃ bb aa cc lo hi, vp = .pointer (some ⟨bb, 0, none⟩) ∧ vb = .bool b ∧ Hid (Got w2 M 27 bb lo hi (.slice aa M.length cc) wx))
    case first =>
      have hC : Hid (Below w2.heap.size w2 w2.drew) := (Below.refl _ _).drew
      have HB0 := HB2
      have hd0 : w2.drew.heap.size = w2.heap.size := rfl
      obtain ⟨k9, y9, i0, i1, i2, i3, i4, i5, i6, i7, i8, hk7, hk8, hk9⟩ := HAF.out w2 (Below.refl _ _)
      obtain ⟨k0, y0, j0, j1, j2, j3, j4, j5, j6, j7, j8, hk0, hk1, hk2⟩ := HAF.out _ hC.out
      go_region_with (first
        | (go_at_call 9
           refine (hto.out _ (HB0.out.trans ((cur_at hC.out hC.out.size (by first | exact .inl rfl | exact .inr ⟨_, rfl⟩)).mono HB0.out.size))).mono ?_
           rintro e3 w3 ⟨⟨a3, c3, rfl, hT3⟩, hB3⟩
           have hT := hide hT3.row
           have hTs := hide (Nat.le_refl w3.heap.size)
           clear hT3
           have hq := cur_below hC.out hC.out.size (by first | exact .inl rfl | exact .inr ⟨_, rfl⟩) hB3
           (try replace hbx := hide ((hq.2.1.block _ (Array.getElem?_eq_some_iff.1 hbx.out).1).trans hbx.out))
           (try have hbx := hide (cur_box hC.out (.cells #[.slice none 0 0] 27) rfl hB3))
           (try have hbx : Hid (w3.heap[w2.heap.size]? = some (.cells #[.slice none 0 0] 27 (0, 0))) := hbx)
           (try have hbc := cell_of_block hbx.out 0)
           (try simp only [List.getElem?_toArray, List.getElem?_cons_zero] at hbc)
           (try have hbf := free_of_block hbx.out 0)
           (try have hbl := (Array.getElem?_eq_some_iff.1 hbx.out).1)
           replace hC := hide hq.1
           have hsw3 := hq.2.2
           clear hB3 hq
           obtain ⟨k0, y0, j0, j1, j2, j3, j4, j5, j6, j7, j8, hk0, hk1, hk2⟩ := HAF.out w3 hC.out)
        | (go_at_call 20
           refine (hta.out _).mono ?_
           rintro e4 w4 ⟨rfl, hB4⟩
           have hq := cur_below hC.out hC.out.size (by first | exact .inl rfl | exact .inr ⟨_, rfl⟩) hB4
           (try replace hT := hide (hT.out.later (hq.2.1.mono hTs.out)))
           (try replace hTs := hide (Nat.le_trans hTs.out hq.2.2))
           (try replace hbx := hide ((hq.2.1.block _ (Array.getElem?_eq_some_iff.1 hbx.out).1).trans hbx.out))
           (try have hbx := hide (cur_box hC.out (.cells #[.slice none 0 0] 27) rfl hB4))
           (try have hbx : Hid (w4.heap[w2.heap.size]? = some (.cells #[.slice none 0 0] 27 (0, 0))) := hbx)
           (try have hbc := cell_of_block hbx.out 0)
           (try simp only [List.getElem?_toArray, List.getElem?_cons_zero] at hbc)
           (try have hbf := free_of_block hbx.out 0)
           (try have hbl := (Array.getElem?_eq_some_iff.1 hbx.out).1)
           replace hC := hide hq.1
           have hsw4 := hq.2.2
           clear hB4 hq
           obtain ⟨k0, y0, j0, j1, j2, j3, j4, j5, j6, j7, j8, hk0, hk1, hk2⟩ := HAF.out w4 hC.out)
        | (go_at_call 19
           refine (hsp.out _ _ (cur_tx hT.out hTs.out (by first | exact .inl rfl | exact .inr ⟨_, rfl⟩))).mono ?_
           rintro e5 w5 ⟨⟨a5, c5, rfl, hR5⟩, hB5⟩
           have hR := hide hR5
           have hRs := hide hB5.size
           have hRl := hide ((cur_at hC.out hC.out.size (by first | exact .inl rfl | exact .inr ⟨_, rfl⟩)).size)
           clear hR5
           have hq := cur_below hC.out hC.out.size (by first | exact .inl rfl | exact .inr ⟨_, rfl⟩) hB5
           (try replace hbx := hide ((hq.2.1.block _ (Array.getElem?_eq_some_iff.1 hbx.out).1).trans hbx.out))
           (try have hbx := hide (cur_box hC.out (.cells #[.slice none 0 0] 27) rfl hB5))
           (try have hbx : Hid (w5.heap[w2.heap.size]? = some (.cells #[.slice none 0 0] 27 (0, 0))) := hbx)
           (try have hbc := cell_of_block hbx.out 0)
           (try simp only [List.getElem?_toArray, List.getElem?_cons_zero] at hbc)
           (try have hbf := free_of_block hbx.out 0)
           (try have hbl := (Array.getElem?_eq_some_iff.1 hbx.out).1)
           replace hC := hide hq.1
           have hsw5 := hq.2.2
           clear hB5 hq
           obtain ⟨k0, y0, j0, j1, j2, j3, j4, j5, j6, j7, j8, hk0, hk1, hk2⟩ := HAF.out w5 hC.out))
      all_goals
        (try go_wp2_with fail)
        go_meet
        have hRl9 := hRl.out
        first
          | exact ⟨_, a5, c5, _, _, rfl, rfl, hide (leafA hC.out hR.out (by (try simp only [World.size_alloc]); omega) (by have h9 := hRs.out; (try simp only [World.size_alloc] at h9 ⊢); omega))⟩
          | exact ⟨_, a5, c5, _, _, rfl, rfl, hide (leafB hC.out hR.out (by (try simp only [World.size_alloc]); omega) (by have h9 := hRs.out; (try simp only [World.size_alloc] at h9 ⊢); omega) hbx.out (by (try simp only [World.size_alloc]); omega) (by (try simp only [World.size_alloc]); omega))⟩
    case rest =>
      rename World => W4
      obtain ⟨b4, a4, c4, lo4, hi4, rfl, rfl, HG4⟩ := hcut
      clear HAF
      have hs4 : w2.heap.size ≤ W4.heap.size := HG4.out.bel.size
      have hb4 : w2.heap.size ≤ b4 := HG4.out.low
      have hb4' : b4 < W4.heap.size := HG4.out.lt
      have HX4 := hide ((HG4.out.bel.block _ (Array.getElem?_eq_some_iff.1 HX2.out).1).trans HX2.out)
      have HA4 := hide ((HG4.out.bel.block _ (Array.getElem?_eq_some_iff.1 HA2.out).1).trans HA2.out)
      have HW4 := hide HG4.out.box
      have HRW4 := hide (HG4.out.tx.row.up HG4.out.hiX)
      have HB4 := hide (HB2.out.trans (HG4.out.bel.mono HB2.out.size))
      clear HG4 HX2 HA2 HB2
      have hl4 : w.heap.size < W4.heap.size := by omega
      have x4 := cell_of_block HX4.out 0
      simp only [List.getElem?_toArray, List.getElem?_cons_zero] at x4
      go_wp2_with fail
      refine (hto.out W4 HB4.out).mono ?_
      rintro e5 w5 ⟨⟨a5, c5, rfl, hR5⟩, hB5⟩
      have hs5 : W4.heap.size ≤ w5.heap.size := hB5.size
      have HX5 := hide ((hB5.block _ (Array.getElem?_eq_some_iff.1 HX4.out).1).trans HX4.out)
      have HA5 := hide ((hB5.block _ (Array.getElem?_eq_some_iff.1 HA4.out).1).trans HA4.out)
      have HW5 := hide ((hB5.block _ (Array.getElem?_eq_some_iff.1 HW4.out).1).trans HW4.out)
      have HRW5 := hide (HRW4.out.later hB5)
      have HB5 := hide (HB4.out.trans (hB5.mono HB4.out.size))
      have HR5 := hide hR5
      clear hB5 hR5 x4 HX4 HA4 HW4 HRW4 HB4
      go_upto_region 10 with fail
      refine gen_code (fun X => Hid (X.heap[w.heap.size]? = some (.cells #[v] 24 (0, 0))) ∧ Hid (X.heap[w.heap.size + 1]? = some (.cells #[.int .i64 k, .int .i64 r, .int .i64 p, .string nm, .bool o, .int .i64 vk, .int .i64 vn, .string vt, .int .i64 m] 39 (0, 0))) ∧ Hid (X.heap[b4]? = some (.cells #[(.slice a4 M.length c4)] 27 (0, 0))) ∧ Hid (X.heap[w5.heap.size]? = some (.cells #[(.slice a5 L.length c5)] 27 (0, 0))) ∧ Hid (TxD W4.heap.size X M (.slice a4 M.length c4)) ∧ Hid (TxB W4.heap.size w5.heap.size X L (.slice a5 L.length c5)) ∧ Hid (Below w.heap.size w X) ∧ Hid (X.heap.size = w5.heap.size + 1)) ⟨hide (by rw [heap_alloc_at, if_neg (by omega)]; exact HX5.out), hide (by rw [heap_alloc_at, if_neg (by omega)]; exact HA5.out), hide (by rw [heap_alloc_at, if_neg (by omega)]; exact HW5.out), hide (by rw [heap_alloc_at, if_pos rfl]), hide (HRW5.out.later (((Below.refl _ _).alloc (Nat.le_refl _) _).mono (by omega))), hide (HR5.out.later ((Below.refl _ _).alloc (Nat.le_refl _) _)), hide (HB5.out.alloc HB5.out.size _), hide (by simp)⟩ ?_
      rintro X6 ⟨HX6, HA6, HW6, HY6, HRW6, HRX6, HB6, HS6⟩
      clear HX5 HA5 HW5 HRW5 HB5 HR5
      have hs6 : X6.heap.size = w5.heap.size + 1 := HS6.out
      have HTX6 := hide (fun W (hW : Below X6.heap.size X6 W) => (HRX6.out.later (hW.mono (by omega))).row.up (show w5.heap.size ≤ W.heap.size by have := hW.size; omega))
      have HAF : Hid (∀ W, Below X6.heap.size X6 W → W.cell? ⟨w.heap.size, 0, none⟩ = some v ∧ W.cell? ⟨w5.heap.size, 0, none⟩ = some ((.slice a5 L.length c5)) ∧ W.cell? ⟨w.heap.size + 1, 0, none⟩ = some (.int .i64 k) ∧ W.cell? ⟨w.heap.size + 1, 1, none⟩ = some (.int .i64 r) ∧ W.cell? ⟨w.heap.size + 1, 2, none⟩ = some (.int .i64 p) ∧ W.cell? ⟨w.heap.size + 1, 3, none⟩ = some (.string nm) ∧ W.cell? ⟨w.heap.size + 1, 4, none⟩ = some (.bool o) ∧ W.cell? ⟨w.heap.size + 1, 5, none⟩ = some (.int .i64 vk) ∧ W.cell? ⟨w.heap.size + 1, 6, none⟩ = some (.int .i64 vn) ∧ W.cell? ⟨w.heap.size + 1, 7, none⟩ = some (.string vt) ∧ W.cell? ⟨w.heap.size + 1, 8, none⟩ = some (.int .i64 m) ∧ w.heap.size < W.heap.size ∧ w.heap.size + 1 < W.heap.size ∧ w5.heap.size < W.heap.size) := fun W hW => by
        have h0 := (hW.block _ (Array.getElem?_eq_some_iff.1 HX6.out).1).trans HX6.out
        have h1 := (hW.block _ (Array.getElem?_eq_some_iff.1 HA6.out).1).trans HA6.out
        have h2 := (hW.block _ (Array.getElem?_eq_some_iff.1 HY6.out).1).trans HY6.out
        exact ⟨cell_of_block h0 0, cell_of_block h2 0, cell_of_block h1 0, cell_of_block h1 1, cell_of_block h1 2, cell_of_block h1 3, cell_of_block h1 4, cell_of_block h1 5, cell_of_block h1 6, cell_of_block h1 7, cell_of_block h1 8, (Array.getElem?_eq_some_iff.1 h0).1, (Array.getElem?_eq_some_iff.1 h1).1, (Array.getElem?_eq_some_iff.1 h2).1⟩
      clear hs6
      go_upto_region 10 with fail
      go_cut [9, 10] from 16 (fun vp vb wx => ∃ bb aa cc lo hi, vp = .pointer (some ⟨bb, 0, none⟩) ∧ vb = .bool b ∧ Hid (Got X6 M 27 bb lo hi (.slice aa M.length cc) wx))
      case first =>
        have hC : Hid (Below X6.heap.size X6 X6.drew) := (Below.refl _ _).drew
        have HB0 := HB6
        have hd0 : X6.drew.heap.size = X6.heap.size := rfl
        obtain ⟨k9, y9, i0, i1, i2, i3, i4, i5, i6, i7, i8, hk7, hk8, hk9⟩ := HAF.out X6 (Below.refl _ _)
        obtain ⟨k0, y0, j0, j1, j2, j3, j4, j5, j6, j7, j8, hk0, hk1, hk2⟩ := HAF.out _ hC.out
        go_region_with (first
          | (go_at_call 20
             refine (hta.out _).mono ?_
             rintro e4 w4 ⟨rfl, hB4⟩
             have hq := cur_below hC.out hC.out.size (by first | exact .inl rfl | exact .inr ⟨_, rfl⟩) hB4
             (try replace hT := hide (hT.out.later (hq.2.1.mono hTs.out)))
             (try replace hTs := hide (Nat.le_trans hTs.out hq.2.2))
             (try replace hbx := hide ((hq.2.1.block _ (Array.getElem?_eq_some_iff.1 hbx.out).1).trans hbx.out))
             (try have hbx := hide (cur_box hC.out (.cells #[.slice none 0 0] 27) rfl hB4))
             (try have hbx : Hid (w4.heap[X6.heap.size]? = some (.cells #[.slice none 0 0] 27 (0, 0))) := hbx)
             (try have hbc := cell_of_block hbx.out 0)
             (try simp only [List.getElem?_toArray, List.getElem?_cons_zero] at hbc)
             (try have hbf := free_of_block hbx.out 0)
             (try have hbl := (Array.getElem?_eq_some_iff.1 hbx.out).1)
             replace hC := hide hq.1
             have hsw4 := hq.2.2
             clear hB4 hq
             obtain ⟨k0, y0, j0, j1, j2, j3, j4, j5, j6, j7, j8, hk0, hk1, hk2⟩ := HAF.out w4 hC.out)
          | (go_at_call 21
             refine (him.out _ _ (HTX6.out _ (cur_at hC.out hC.out.size (by first | exact .inl rfl | exact .inr ⟨_, rfl⟩))) (HB0.out.trans ((cur_at hC.out hC.out.size (by first | exact .inl rfl | exact .inr ⟨_, rfl⟩)).mono HB0.out.size))).mono ?_
             rintro e5 w5 ⟨⟨a5, c5, rfl, hR5⟩, hB5⟩
             have hR := hide hR5
             have hRs := hide hB5.size
             have hRl := hide ((cur_at hC.out hC.out.size (by first | exact .inl rfl | exact .inr ⟨_, rfl⟩)).size)
             clear hR5
             have hq := cur_below hC.out hC.out.size (by first | exact .inl rfl | exact .inr ⟨_, rfl⟩) hB5
             (try replace hbx := hide ((hq.2.1.block _ (Array.getElem?_eq_some_iff.1 hbx.out).1).trans hbx.out))
             (try have hbx := hide (cur_box hC.out (.cells #[.slice none 0 0] 27) rfl hB5))
             (try have hbx : Hid (w5.heap[X6.heap.size]? = some (.cells #[.slice none 0 0] 27 (0, 0))) := hbx)
             (try have hbc := cell_of_block hbx.out 0)
             (try simp only [List.getElem?_toArray, List.getElem?_cons_zero] at hbc)
             (try have hbf := free_of_block hbx.out 0)
             (try have hbl := (Array.getElem?_eq_some_iff.1 hbx.out).1)
             replace hC := hide hq.1
             have hsw5 := hq.2.2
             clear hB5 hq
             obtain ⟨k0, y0, j0, j1, j2, j3, j4, j5, j6, j7, j8, hk0, hk1, hk2⟩ := HAF.out w5 hC.out))
        all_goals
          (try go_wp2_with fail)
          go_meet
          have hRl9 := hRl.out
          first
            | exact ⟨_, a5, c5, _, _, rfl, rfl, hide (leafA hC.out hR.out (by (try simp only [World.size_alloc]); omega) (by have h9 := hRs.out; (try simp only [World.size_alloc] at h9 ⊢); omega))⟩
            | exact ⟨_, a5, c5, _, _, rfl, rfl, hide (leafB hC.out hR.out (by (try simp only [World.size_alloc]); omega) (by have h9 := hRs.out; (try simp only [World.size_alloc] at h9 ⊢); omega) hbx.out (by (try simp only [World.size_alloc]); omega) (by (try simp only [World.size_alloc]); omega))⟩
      case rest =>
        rename World => W6
        obtain ⟨b6, a6, c6, lo6, hi6, rfl, rfl, HG6⟩ := hcut
        clear HAF HTX6
        have hs6 : w5.heap.size + 1 ≤ W6.heap.size := by have := HG6.out.bel.size; have := HS6.out; omega
        have hs6' : w5.heap.size + 1 ≤ X6.heap.size := by have := HS6.out; omega
        have hb6 : w5.heap.size + 1 ≤ b6 := by have := HG6.out.low; omega
        have hb6' : b6 < W6.heap.size := HG6.out.lt
        have hlo6 : w5.heap.size + 1 ≤ lo6 := by have := HG6.out.loX; omega
        have hhi6 : hi6 ≤ W6.heap.size := HG6.out.hiX
        have hlw6 : lo6 ≤ W6.heap.size := HG6.out.loW
        have hoff : b6 < lo6 ∨ hi6 ≤ b6 := HG6.out.off
        have hBX := HG6.out.bel
        have HF6 : Hid (Five w.heap.size (w.heap.size + 1) b4 w5.heap.size b6 (.cells #[v] 24 (0, 0)) (.cells #[.int .i64 k, .int .i64 r, .int .i64 p, .string nm, .bool o, .int .i64 vk, .int .i64 vn, .string vt, .int .i64 m] 39 (0, 0)) (.cells #[(.slice a4 M.length c4)] 27 (0, 0)) (.cells #[(.slice a5 L.length c5)] 27 (0, 0)) (.cells #[(.slice a6 M.length c6)] 27 (0, 0)) W6) := hide ⟨(hBX.block _ (Array.getElem?_eq_some_iff.1 HX6.out).1).trans HX6.out, (hBX.block _ (Array.getElem?_eq_some_iff.1 HA6.out).1).trans HA6.out, (hBX.block _ (Array.getElem?_eq_some_iff.1 HW6.out).1).trans HW6.out, (hBX.block _ (Array.getElem?_eq_some_iff.1 HY6.out).1).trans HY6.out, HG6.out.box⟩
        have HRWa := hide (HRW6.out.later (hBX.mono (by omega)))
        have HRXa := hide (HRX6.out.later (hBX.mono (by omega)))
        have HRGa := hide HG6.out.tx
        have HBa := hide (HB6.out.trans (hBX.mono HB6.out.size))
        clear hBX HG6 HX6 HA6 HW6 HY6 HRW6 HRX6 HB6 HS6 hs6'
        have g8 := cell_of_block HF6.out.g 0
        have y8 := cell_of_block HF6.out.w 0
        simp only [List.getElem?_toArray, List.getElem?_cons_zero] at g8 y8
        have hbw : b4 < W6.heap.size := by omega
        go_wp2_with fail
        refine (heq.out W6 _ _ (HRGa.out.row.up hhi6) (HRWa.out.up (by omega))).mono ?_
        rintro e9 w9 ⟨rfl, hB9⟩
        have hs9 : W6.heap.size ≤ w9.heap.size := hB9.size
        have HF9 := hide (HF6.out.later hB9)
        have HRW9 := hide (HRWa.out.later (hB9.mono (by omega)))
        have HRX9 := hide (HRXa.out.later (hB9.mono (by omega)))
        have HRG9 := hide (HRGa.out.later (hB9.mono hhi6))
        have HB9 := hide (HBa.out.trans (hB9.mono HBa.out.size))
        have hly9 : w5.heap.size < w9.heap.size := by omega
        have hlx9 : w.heap.size < w9.heap.size := by omega
        clear hB9 g8 y8 HF6 HRWa HRXa HRGa HBa
        go_upto_region 13 with fail
        refine wp_region_noPanic ?_
        refine wp_region_held_drew (S := fun W => Below w9.heap.size w9 W) (by kernel_rfl) (below_drew' (Below.refl _ _)) (fun hHeld => ?_)
        refine wpAnyH_take (i := 0) (oi := Oper.mk (some 52) _ _ _ _ _) (v := ?_) rfl (by kernel_rfl) (by kernel_rfl) (by kernel_rfl) (fun _ _ _ h => h) (Or.inl ⟨by rfl, ?_⟩) (by assumption) ?_
        rotate_left
        · intro w0 hSw
          have z0 : w0.cell? ⟨w5.heap.size, 0, none⟩ = some ((.slice a5 L.length c5 : Value)) := (Below.cell hSw (p := ⟨w5.heap.size, 0, none⟩) hly9).trans (cell_of_block HF9.out.y 0)
          clear hSw
          go_simp
          all_goals (with_reducible rfl)
        simp only [Act.put, List.setIfInBounds_toArray, List.set_cons_zero, List.set_cons_succ]
        refine wpAnyH_take (i := 1) (oi := Oper.mk (some 53) _ _ _ _ _) (v := ?_) rfl (by kernel_rfl) (by kernel_rfl) (by kernel_rfl) (fun _ _ _ h => h) (Or.inl ⟨by rfl, ?_⟩) (by assumption) ?_
        rotate_left
        · intro w0 hSw
          have z0 : w0.cell? ⟨w.heap.size, 0, none⟩ = some ((v : Value)) := (Below.cell hSw (p := ⟨w.heap.size, 0, none⟩) hlx9).trans (cell_of_block HF9.out.x 0)
          clear hSw
          go_simp
          all_goals (with_reducible rfl)
        simp only [Act.put, List.setIfInBounds_toArray, List.set_cons_zero, List.set_cons_succ]
        refine wpAnyH_ready (rs := [2]) (by kernel_rfl) (by simp) ?_
        refine AllReadyH.cons (o := Oper.mk (some 54) _ _ _ _ _) rfl (fun K hK => ?_) AllReadyH.nil
        go_simp
        go_at_call 9
        refine (hto.out _ (HB9.out.trans (hHeld.mono HB9.out.size))).mono ?_
        rintro x0 w0 ⟨⟨a10, c10, rfl, hT10⟩, hB0⟩
        have hHeld' := Below.trans hHeld (hB0.mono hHeld.size)
        have HT10 := hide hT10.row
        clear hT10
        clear hB0 hHeld
        go_wp2_with fail
        refine hK.out _ _ hHeld' (fun hHeld => ?_)
        clear hK K hHeld'
        (try simp only [Act.put, List.setIfInBounds_toArray, List.set_cons_zero, List.set_cons_succ])
        refine wpAnyH_ready (rs := [3]) (by kernel_rfl) (by simp) ?_
        refine AllReadyH.cons (o := Oper.mk (some 55) _ _ _ _ _) rfl (fun K hK => ?_) AllReadyH.nil
        go_simp
        go_at_call 11
        refine (heqx.out _ _ _ ((HRX9.out.later (hHeld.mono (by omega))).row.up (by have := hHeld.size; omega)) HT10.out).mono ?_
        rintro x0 w10 ⟨rfl, hB0⟩
        have hHeld' := Below.trans hHeld (hB0.mono hHeld.size)
        clear hB0 hHeld
        go_wp2_with fail
        refine hK.out _ _ hHeld' (fun hHeld => ?_)
        clear hK K hHeld'
        (try simp only [Act.put, List.setIfInBounds_toArray, List.set_cons_zero, List.set_cons_succ])
        refine wpAnyH_take (i := 4) (oi := Oper.mk (some 56) _ _ _ _ _) (v := ?_) rfl (by kernel_rfl) (by kernel_rfl) (by kernel_rfl) (fun _ _ _ h => h) (Or.inl ⟨by rfl, ?_⟩) (by assumption) ?_
        rotate_left
        · intro w0 hSw
          clear hSw
          go_simp
          all_goals (with_reducible rfl)
        simp only [Act.put, List.setIfInBounds_toArray, List.set_cons_zero, List.set_cons_succ]
        refine wpAnyH_done (by kernel_rfl) ?_ _
        refine NoPanic.normal ?_
        have hs10 : W6.heap.size ≤ w10.heap.size := Nat.le_trans hs9 hHeld.size
        have HF10 := hide (HF9.out.later hHeld)
        have HRW10 := hide (HRW9.out.later (hHeld.mono (by omega)))
        have HRX10 := hide (HRX9.out.later (hHeld.mono (by omega)))
        have HRG10 := hide (HRG9.out.later (hHeld.mono (by omega)))
        have HB10 := hide (HB9.out.trans (hHeld.mono HB9.out.size))
        clear hHeld HF9 HRW9 HRX9 HRG9 HB9 HT10 hly9 hlx9
        have y10 := cell_of_block HF10.out.y 0
        simp only [List.getElem?_toArray, List.getElem?_cons_zero] at y10
        go_wp2_with fail
        refine (hmkx.out _ _ _ _ HRX10.out (by omega)).mono ?_
        rintro e11 w11 ⟨⟨kz, rfl, hkz⟩, hM11, _⟩
        have hk0 : ¬ kz < 0 := by omega
        have hs11 : W6.heap.size ≤ w11.heap.size := Nat.le_trans hs10 hM11.size
        have HF11 := hide (HF10.out.mid hM11 (.inl (by omega)) (.inl (by omega)) (.inl (by omega)) (.inr (by omega)) (.inr (by omega)))
        have HRW11 := hide (HRW10.out.later (hM11.below (by omega)))
        have HRG11 := hide (HRG10.out.mid hM11 (.inr (by omega)))
        have HB11 := hide (HB10.out.trans ((hM11.below (by omega)).mono (by omega)))
        clear hM11 y10 HF10 HRW10 HRX10 HRG10 HB10 hkz
        have g11 := cell_of_block HF11.out.g 0
        have y11 := cell_of_block HF11.out.w 0
        simp only [List.getElem?_toArray, List.getElem?_cons_zero] at g11 y11
        go_wp2_with fail
        refine (heq.out w11 _ _ (HRG11.out.row.up (by omega)) (HRW11.out.up (by omega))).mono ?_
        rintro e12 w12 ⟨rfl, hB12⟩
        have hs12 : W6.heap.size ≤ w12.heap.size := Nat.le_trans hs11 hB12.size
        have HF12 := hide (HF11.out.later hB12)
        have HRW12 := hide (HRW11.out.later (hB12.mono (by omega)))
        have HRG12 := hide (HRG11.out.later (hB12.mono (by omega)))
        have HB12 := hide (HB11.out.trans (hB12.mono HB11.out.size))
        clear hB12 g11 y11 HF11 HRW11 HRG11 HB11
        have g12 := cell_of_block HF12.out.g 0
        simp only [List.getElem?_toArray, List.getElem?_cons_zero] at g12
        go_wp2_with fail
        refine (hmkg.out _ _ _ _ HRG12.out (by omega)).mono ?_
        rintro e13 w13 ⟨⟨mz, rfl, hmz⟩, hM13, hRM⟩
        have hm0 : ¬ mz < 0 := by omega
        have hmm : (mz != mz) = false := by simp
        have HMZ := hide hmz
        have hs13 : W6.heap.size ≤ w13.heap.size := Nat.le_trans hs12 hM13.size
        have HF13 := hide (HF12.out.mid hM13 (.inl (by omega)) (.inl (by omega)) (.inl (by omega)) (.inl (by omega)) hoff)
        have HRW13 := hide (HRW12.out.later ((hM13.below (by omega)).mono (by omega)))
        have HRM13 := hide hRM
        have HB13 := hide (HB12.out.trans ((hM13.below (by omega)).mono (by omega)))
        clear hM13 hRM g12 HF12 HRW12 HRG12 HB12 hmz
        have g13 := cell_of_block HF13.out.g 0
        simp only [List.getElem?_toArray, List.getElem?_cons_zero] at g13
        go_wp2_with fail
        refine (hhd.out _ w13 HRM13.out).mono ?_
        rintro e14 w14 ⟨⟨qz, rfl, hqz⟩, hB14⟩
        obtain rfl : qz = mz := hqz.trans HMZ.out.symm
        have hs14 : W6.heap.size ≤ w14.heap.size := Nat.le_trans hs13 hB14.size
        have HF14 := hide (HF13.out.later hB14)
        have HRW14 := hide (HRW13.out.later (hB14.mono (by omega)))
        have HRM14 := hide (HRM13.out.later hB14)
        have HB14 := hide (HB13.out.trans (hB14.mono HB13.out.size))
        clear hB14 hqz g13 HF13 HRW13 HRM13 HB13
        have HAF : Hid (∀ W, Below w14.heap.size w14 W → W.cell? ⟨w.heap.size, 0, none⟩ = some v ∧ True ∧ W.cell? ⟨w.heap.size + 1, 0, none⟩ = some (.int .i64 k) ∧ W.cell? ⟨w.heap.size + 1, 1, none⟩ = some (.int .i64 r) ∧ W.cell? ⟨w.heap.size + 1, 2, none⟩ = some (.int .i64 p) ∧ W.cell? ⟨w.heap.size + 1, 3, none⟩ = some (.string nm) ∧ W.cell? ⟨w.heap.size + 1, 4, none⟩ = some (.bool o) ∧ W.cell? ⟨w.heap.size + 1, 5, none⟩ = some (.int .i64 vk) ∧ W.cell? ⟨w.heap.size + 1, 6, none⟩ = some (.int .i64 vn) ∧ W.cell? ⟨w.heap.size + 1, 7, none⟩ = some (.string vt) ∧ W.cell? ⟨w.heap.size + 1, 8, none⟩ = some (.int .i64 m) ∧ w.heap.size < W.heap.size ∧ w.heap.size + 1 < W.heap.size ∧ w.heap.size < W.heap.size) := fun W hW => by
          have h0 := (hW.block _ (Array.getElem?_eq_some_iff.1 HF14.out.x).1).trans HF14.out.x
          have h1 := (hW.block _ (Array.getElem?_eq_some_iff.1 HF14.out.a).1).trans HF14.out.a
          skip
          exact ⟨cell_of_block h0 0, trivial, cell_of_block h1 0, cell_of_block h1 1, cell_of_block h1 2, cell_of_block h1 3, cell_of_block h1 4, cell_of_block h1 5, cell_of_block h1 6, cell_of_block h1 7, cell_of_block h1 8, (Array.getElem?_eq_some_iff.1 h0).1, (Array.getElem?_eq_some_iff.1 h1).1, (Array.getElem?_eq_some_iff.1 h0).1⟩
        go_upto_region 27 with fail
        go_cut [14, 15] from 16 (fun vp vb wx => ∃ bb aa cc lo hi, vp = .pointer (some ⟨bb, 0, none⟩) ∧ vb = .bool b ∧ Hid (Got w14 M 27 bb lo hi (.slice aa M.length cc) wx))
        case first =>
          have hC : Hid (Below w14.heap.size w14 w14.drew) := (Below.refl _ _).drew
          have HB0 := HB14
          have hd0 : w14.drew.heap.size = w14.heap.size := rfl
          obtain ⟨k9, y9, i0, i1, i2, i3, i4, i5, i6, i7, i8, hk7, hk8, hk9⟩ := HAF.out w14 (Below.refl _ _)
          obtain ⟨k0, y0, j0, j1, j2, j3, j4, j5, j6, j7, j8, hk0, hk1, hk2⟩ := HAF.out _ hC.out
          go_region_with (first
            | (go_at_call 9
               refine (hto.out _ (HB0.out.trans ((cur_at hC.out hC.out.size (by first | exact .inl rfl | exact .inr ⟨_, rfl⟩)).mono HB0.out.size))).mono ?_
               rintro e3 w3 ⟨⟨a3, c3, rfl, hT3⟩, hB3⟩
               have hT := hide hT3.row
               have hTs := hide (Nat.le_refl w3.heap.size)
               clear hT3
               have hq := cur_below hC.out hC.out.size (by first | exact .inl rfl | exact .inr ⟨_, rfl⟩) hB3
               (try replace hbx := hide ((hq.2.1.block _ (Array.getElem?_eq_some_iff.1 hbx.out).1).trans hbx.out))
               (try have hbx := hide (cur_box hC.out (.cells #[.slice none 0 0] 27) rfl hB3))
               (try have hbx : Hid (w3.heap[w14.heap.size]? = some (.cells #[.slice none 0 0] 27 (0, 0))) := hbx)
               (try have hbc := cell_of_block hbx.out 0)
               (try simp only [List.getElem?_toArray, List.getElem?_cons_zero] at hbc)
               (try have hbf := free_of_block hbx.out 0)
               (try have hbl := (Array.getElem?_eq_some_iff.1 hbx.out).1)
               replace hC := hide hq.1
               have hsw3 := hq.2.2
               clear hB3 hq
               obtain ⟨k0, y0, j0, j1, j2, j3, j4, j5, j6, j7, j8, hk0, hk1, hk2⟩ := HAF.out w3 hC.out)
            | (go_at_call 20
               refine (hta.out _).mono ?_
               rintro e4 w4 ⟨rfl, hB4⟩
               have hq := cur_below hC.out hC.out.size (by first | exact .inl rfl | exact .inr ⟨_, rfl⟩) hB4
               (try replace hT := hide (hT.out.later (hq.2.1.mono hTs.out)))
               (try replace hTs := hide (Nat.le_trans hTs.out hq.2.2))
               (try replace hbx := hide ((hq.2.1.block _ (Array.getElem?_eq_some_iff.1 hbx.out).1).trans hbx.out))
               (try have hbx := hide (cur_box hC.out (.cells #[.slice none 0 0] 27) rfl hB4))
               (try have hbx : Hid (w4.heap[w14.heap.size]? = some (.cells #[.slice none 0 0] 27 (0, 0))) := hbx)
               (try have hbc := cell_of_block hbx.out 0)
               (try simp only [List.getElem?_toArray, List.getElem?_cons_zero] at hbc)
               (try have hbf := free_of_block hbx.out 0)
               (try have hbl := (Array.getElem?_eq_some_iff.1 hbx.out).1)
               replace hC := hide hq.1
               have hsw4 := hq.2.2
               clear hB4 hq
               obtain ⟨k0, y0, j0, j1, j2, j3, j4, j5, j6, j7, j8, hk0, hk1, hk2⟩ := HAF.out w4 hC.out)
            | (go_at_call 21
               refine (him.out _ _ (cur_tx hT.out hTs.out (by first | exact .inl rfl | exact .inr ⟨_, rfl⟩)) (HB0.out.trans ((cur_at hC.out hC.out.size (by first | exact .inl rfl | exact .inr ⟨_, rfl⟩)).mono HB0.out.size))).mono ?_
               rintro e5 w5 ⟨⟨a5, c5, rfl, hR5⟩, hB5⟩
               have hR := hide hR5
               have hRs := hide hB5.size
               have hRl := hide ((cur_at hC.out hC.out.size (by first | exact .inl rfl | exact .inr ⟨_, rfl⟩)).size)
               clear hR5
               have hq := cur_below hC.out hC.out.size (by first | exact .inl rfl | exact .inr ⟨_, rfl⟩) hB5
               (try replace hbx := hide ((hq.2.1.block _ (Array.getElem?_eq_some_iff.1 hbx.out).1).trans hbx.out))
               (try have hbx := hide (cur_box hC.out (.cells #[.slice none 0 0] 27) rfl hB5))
               (try have hbx : Hid (w5.heap[w14.heap.size]? = some (.cells #[.slice none 0 0] 27 (0, 0))) := hbx)
               (try have hbc := cell_of_block hbx.out 0)
               (try simp only [List.getElem?_toArray, List.getElem?_cons_zero] at hbc)
               (try have hbf := free_of_block hbx.out 0)
               (try have hbl := (Array.getElem?_eq_some_iff.1 hbx.out).1)
               replace hC := hide hq.1
               have hsw5 := hq.2.2
               clear hB5 hq
               obtain ⟨k0, y0, j0, j1, j2, j3, j4, j5, j6, j7, j8, hk0, hk1, hk2⟩ := HAF.out w5 hC.out))
          all_goals
            (try go_wp2_with fail)
            go_meet
            have hRl9 := hRl.out
            first
              | exact ⟨_, a5, c5, _, _, rfl, rfl, hide (leafA hC.out hR.out (by (try simp only [World.size_alloc]); omega) (by have h9 := hRs.out; (try simp only [World.size_alloc] at h9 ⊢); omega))⟩
              | exact ⟨_, a5, c5, _, _, rfl, rfl, hide (leafB hC.out hR.out (by (try simp only [World.size_alloc]); omega) (by have h9 := hRs.out; (try simp only [World.size_alloc] at h9 ⊢); omega) hbx.out (by (try simp only [World.size_alloc]); omega) (by (try simp only [World.size_alloc]); omega))⟩
        case rest =>
          rename World => W8
          obtain ⟨b8, a8, c8, lo8, hi8, rfl, rfl, HG8⟩ := hcut
          clear HAF
          have hs8 : W6.heap.size ≤ W8.heap.size := by have := HG8.out.bel.size; omega
          have hBX := HG8.out.bel
          have HF17 := hide (HF14.out.later hBX)
          have HRW17 := hide (HRW14.out.later (hBX.mono (by omega)))
          have HRM17 := hide (HRM14.out.later hBX)
          have HB17 := hide (HB14.out.trans (hBX.mono HB14.out.size))
          have HH17 := hide HG8.out.box
          have HRH17 := hide (HG8.out.tx.row.up HG8.out.hiX)
          have hb8 : b8 < W8.heap.size := HG8.out.lt
          clear hBX HG8 HF14 HRW14 HRM14 HB14
          have h17 := cell_of_block HH17.out 0
          have y17 := cell_of_block HF17.out.w 0
          simp only [List.getElem?_toArray, List.getElem?_cons_zero] at h17 y17
          go_wp2_with fail
          refine (heq.out W8 _ _ HRH17.out (HRW17.out.up (by omega))).mono ?_
          rintro e18 w18 ⟨rfl, hB18⟩
          have HF18 := hide (HF17.out.later hB18)
          have HRM18 := hide (HRM17.out.later hB18)
          have HB18 := hide (HB17.out.trans (hB18.mono HB17.out.size))
          clear hB18 h17 y17 HF17 HRW17 HRM17 HB17 HH17 HRH17
          have g18 := cell_of_block HF18.out.g 0
          simp only [List.getElem?_toArray, List.getElem?_cons_zero] at g18
          go_wp2_with fail
          refine (hhd.out _ w18 HRM18.out).mono ?_
          rintro e19 w19 ⟨⟨rz, rfl, hrz⟩, hB19⟩
          obtain rfl : rz = qz := hrz.trans HMZ.out.symm
          have HB19 := hide (HB18.out.trans (hB19.mono HB18.out.size))
          clear hB19 hrz g18 HF18 HRM18 HB18
          go_wp2_with fail
          go_ret
          exact ⟨rfl, HB19.out⟩
end Go.Proofs.YtbckbfjnifafaaaGreatDoor

/- Names of an expression, as the specification has it. -/
import Derived.Test.YtnikomgdcddchaaGreatPlNm
import Derived.Test.YtnikomgdcddchaaGreatNamS
namespace Go.Proofs.YtnikomgdcddchaaGreat
open Go.RowKit
set_option linter.unusedVariables false

def NamP (k : Fo) : Prop := ∀ (nd : Nd) (v : Value) (w : World) (out : List (List UInt8)) (vo : Value), out.length + (Pl.namesN nd k).length ≤ 1048576 → RowAt 0 w k v → TextsAt w vo out →
  Calls Tryz.prog 109 #[ndV nd v, vo] w fun e w' => ∃ v', e = .returned v' ∧ TextsAt w' v' (Pl.insAll (Pl.namesN nd k) out) ∧ Below w.heap.size w w'

set_option maxHeartbeats 1600000 in
theorem l2Names_of (k : Fo) (hkl : k.len ≤ 1048576) (ih : ∀ i nd k', k.get i = some (nd, k') → NamP k') : NamP k := by
  intro nd v w out vo hb hr ho
  obtain ⟨nk, vk, vn, vt, nm⟩ := nd
  obtain ⟨ad, cap, rfl, hc, hm, hx⟩ := hr
  unfold maxLen at hm
  have HX := hide hx
  have IH := hide ih
  have HO := hide ho
  clear hx ih ho
  by_cases n2 : nk = 2
  · subst n2
    have hown : Pl.ownNm ⟨2, vk, vn, vt, nm⟩ = [nm.data.toList] := by simp [Pl.ownNm]
    have HL : Hid ((Pl.ins nm.data.toList out).length + (Pl.namesF k).length ≤ 1048576) := by
      show _ ≤ _
      have := Pl.ins_len nm.data.toList out
      simp only [Pl.namesN, hown, List.length_append, List.length_cons, List.length_nil] at hb
      omega
    have hol : out.length ≤ 1048576 := by omega
    have HE : Hid (Pl.insAll (Pl.namesN ⟨2, vk, vn, vt, nm⟩ k) out = Pl.insAll (Pl.namesF k) (Pl.ins nm.data.toList out)) := by
      show _ = _
      rw [Pl.namesN, hown, Pl.insAll_append]; rfl
    clear hb hown
    obtain ⟨ao, co, rfl, _⟩ := HO.out
    have hadd := hide fun (W : World) (hW : Below w.heap.size w W) => l2Add_any out nm.data.toList hol _ W (HO.out.later hW)
    have hnm : sv nm.data.toList = .string nm := by unfold sv; rw [Pl.bs_of]
    rw [hnm] at hadd
    generalize Pl.ins nm.data.toList out = o1 at HL HE hadd
    clear hnm
    go_enter Tryz.func109, Tryz.ntmps109
    go_wp2_with fail
    refine (hadd.out _ ((Below.refl _ _).alloc (Nat.le_refl _) _)).mono ?_
    rintro e w1 ⟨v1, rfl, ht1, hB1⟩
    have c50 : w1.cell? ⟨w.heap.size, 5, none⟩ = some (.slice ad k.len cap) := boxC hB1 (by simp) 5
    have hsz0 : w.heap.size < w1.heap.size := by have := hB1.size; simp at this; omega
    have HB0 : Hid (Below w.heap.size w w1) := ((Below.refl _ _).alloc (Nat.le_refl _) _).trans (hB1.mono (by simp))
    have HO1 := hide ht1
    obtain ⟨a1, k1, rfl, _⟩ := HO1.out
    clear hadd hB1 ht1
    go_wp2_with fail
    go_loopw [1, 5] (fun ov iv wr => ∃ (i : Nat) (vo' : Value), i ≤ k.len ∧ iv = .int .i64 i ∧ ov = vo' ∧ Hid (TextsAt wr vo' (Pl.insAll (Pl.namesTo k i) o1)) ∧ wr.cell? ⟨w.heap.size, 5, none⟩ = some (.slice ad k.len cap) ∧ w.heap.size < wr.heap.size ∧ Hid (Below w.heap.size w wr)) (fun _ iv _ => k.len - (intOf iv).toNat)
    case atStart => exact ⟨0, _, by omega, rfl, rfl, by rw [Pl.namesTo_zero]; exact HO1, c50, hsz0, HB0⟩
    case round =>
      clear c50 hsz0 HB0
      obtain ⟨i, vo', hi, rfl, rfl, HT, c5, hsz, hB⟩ := hrel
      by_cases hlt : i < k.len
      · obtain ⟨g, off, rfl, _, hg, hfo⟩ := HX.out (by omega)
        obtain ⟨nd, k', hget⟩ := k.get_some i hlt
        obtain ⟨v, hnd⟩ := hfo.get hget
        obtain ⟨d0, d1, d2, d3, d4, d5, hrow⟩ := hnd.later hB.out hg
        have hlen := Pl.insAll_len (Pl.namesTo k i) o1
        have hpart := Pl.names_part hget
        have hq := hide (IH.out i nd k' hget nd v wr _ _ (by have := HL.out; omega) hrow HT.out)
        have HN : Hid (Pl.insAll (Pl.namesN nd k') (Pl.insAll (Pl.namesTo k i) o1) = Pl.insAll (Pl.namesTo k (i + 1)) o1) := by
          show _ = _
          rw [Pl.namesTo_succ k i nd k' hget, Pl.insAll_append]
        clear hfo hnd hrow hget hlen hpart
        obtain ⟨ao, co, hoe, _⟩ := HT.out
        have hii : (i : Int) < (k.len : Int) := by omega
        clear hoe
        go_wp2_with fail
        refine hq.out.mono ?_
        rintro e w4 ⟨v4, rfl, ht4, hB4⟩
        have c5' : w4.cell? ⟨w.heap.size, 5, none⟩ = some (.slice (some ⟨g, off, none⟩) k.len cap) := (hB4.cell (p := ⟨w.heap.size, 5, none⟩) hsz).trans c5
        have hsz' : w.heap.size < w4.heap.size := by have := hB4.size; omega
        have HB4 : Hid (Below w.heap.size w w4) := hB.out.trans (hB4.mono hB.out.size)
        have HT4 : Hid (TextsAt w4 v4 (Pl.insAll (Pl.namesTo k (i + 1)) o1)) := by rw [← HN.out]; exact ht4
        clear hq d0 d1 d2 d3 d4 d5 c5 hB4 ht4 HT
        obtain ⟨a4, k4, rfl, _⟩ := HT4.out
        go_wp2
        go_roundw
        case rel => exact ⟨i + 1, _, by omega, by go_num, rfl, HT4, c5', hsz', HB4⟩
        case measure => simp [intOf]; omega
      · have hie : i = k.len := by omega
        obtain ⟨ao, co, rfl, _⟩ := HT.out
        go_wp2
        go_ret
        refine ⟨_, rfl, ?_, hB.out⟩
        have e1 : Pl.insAll (Pl.namesTo k i) o1 = Pl.insAll (Pl.namesF k) o1 := by rw [hie, Pl.namesTo_all]
        rw [HE.out, ← e1]
        exact HT.out
  · have k2 : (nk == 2) = false := by simp [n2]
    have hown : Pl.ownNm ⟨nk, vk, vn, vt, nm⟩ = [] := by simp [Pl.ownNm, n2]
    have HL : Hid (out.length + (Pl.namesF k).length ≤ 1048576) := by
      show _ ≤ _
      simpa only [Pl.namesN, hown, List.nil_append] using hb
    have HE : Hid (Pl.insAll (Pl.namesN ⟨nk, vk, vn, vt, nm⟩ k) out = Pl.insAll (Pl.namesF k) out) := by
      show _ = _
      rw [Pl.namesN, hown]; rfl
    clear hb hown n2
    obtain ⟨ao, co, rfl, _⟩ := HO.out
    have HO1 : Hid (TextsAt (w.alloc (.cells #[.int .i64 nk, .int .i64 vk, .int .i64 vn, .string vt, .string nm, .slice ad k.len cap] 45)) (.slice ao out.length co) out) := hide (HO.out.later ((Below.refl _ _).alloc (Nat.le_refl _) _))
    go_enter Tryz.func109, Tryz.ntmps109
    go_wp2_with fail
    have c50 : (w.alloc (.cells #[.int .i64 nk, .int .i64 vk, .int .i64 vn, .string vt, .string nm, .slice ad k.len cap] 45)).cell? ⟨w.heap.size, 5, none⟩ = some (.slice ad k.len cap) := by simp
    have hsz0 : w.heap.size < (w.alloc (.cells #[.int .i64 nk, .int .i64 vk, .int .i64 vn, .string vt, .string nm, .slice ad k.len cap] 45)).heap.size := by simp
    have HB0 : Hid (Below w.heap.size w (w.alloc (.cells #[.int .i64 nk, .int .i64 vk, .int .i64 vn, .string vt, .string nm, .slice ad k.len cap] 45))) := (Below.refl _ _).alloc (Nat.le_refl _) _
    clear k2
    go_loopw [1, 5] (fun ov iv wr => ∃ (i : Nat) (vo' : Value), i ≤ k.len ∧ iv = .int .i64 i ∧ ov = vo' ∧ Hid (TextsAt wr vo' (Pl.insAll (Pl.namesTo k i) out)) ∧ wr.cell? ⟨w.heap.size, 5, none⟩ = some (.slice ad k.len cap) ∧ w.heap.size < wr.heap.size ∧ Hid (Below w.heap.size w wr)) (fun _ iv _ => k.len - (intOf iv).toNat)
    case atStart => exact ⟨0, _, by omega, rfl, rfl, by rw [Pl.namesTo_zero]; exact HO1, c50, hsz0, HB0⟩
    case round =>
      clear c50 hsz0 HB0
      obtain ⟨i, vo', hi, rfl, rfl, HT, c5, hsz, hB⟩ := hrel
      by_cases hlt : i < k.len
      · obtain ⟨g, off, rfl, _, hg, hfo⟩ := HX.out (by omega)
        obtain ⟨nd, k', hget⟩ := k.get_some i hlt
        obtain ⟨v, hnd⟩ := hfo.get hget
        obtain ⟨d0, d1, d2, d3, d4, d5, hrow⟩ := hnd.later hB.out hg
        have hlen := Pl.insAll_len (Pl.namesTo k i) out
        have hpart := Pl.names_part hget
        have hq := hide (IH.out i nd k' hget nd v wr _ _ (by have := HL.out; omega) hrow HT.out)
        have HN : Hid (Pl.insAll (Pl.namesN nd k') (Pl.insAll (Pl.namesTo k i) out) = Pl.insAll (Pl.namesTo k (i + 1)) out) := by
          show _ = _
          rw [Pl.namesTo_succ k i nd k' hget, Pl.insAll_append]
        clear hfo hnd hrow hget hlen hpart
        obtain ⟨ao, co, hoe, _⟩ := HT.out
        have hii : (i : Int) < (k.len : Int) := by omega
        clear hoe
        go_wp2_with fail
        refine hq.out.mono ?_
        rintro e w4 ⟨v4, rfl, ht4, hB4⟩
        have c5' : w4.cell? ⟨w.heap.size, 5, none⟩ = some (.slice (some ⟨g, off, none⟩) k.len cap) := (hB4.cell (p := ⟨w.heap.size, 5, none⟩) hsz).trans c5
        have hsz' : w.heap.size < w4.heap.size := by have := hB4.size; omega
        have HB4 : Hid (Below w.heap.size w w4) := hB.out.trans (hB4.mono hB.out.size)
        have HT4 : Hid (TextsAt w4 v4 (Pl.insAll (Pl.namesTo k (i + 1)) out)) := by rw [← HN.out]; exact ht4
        clear hq d0 d1 d2 d3 d4 d5 c5 hB4 ht4 HT
        obtain ⟨a4, k4, rfl, _⟩ := HT4.out
        go_wp2
        go_roundw
        case rel => exact ⟨i + 1, _, by omega, by go_num, rfl, HT4, c5', hsz', HB4⟩
        case measure => simp [intOf]; omega
      · have hie : i = k.len := by omega
        obtain ⟨ao, co, rfl, _⟩ := HT.out
        go_wp2
        go_ret
        refine ⟨_, rfl, ?_, hB.out⟩
        have e1 : Pl.insAll (Pl.namesTo k i) out = Pl.insAll (Pl.namesF k) out := by rw [hie, Pl.namesTo_all]
        rw [HE.out, ← e1]
        exact HT.out
theorem l2Names_fuel : ∀ (n : Nat) (F : Fo), F.nodes ≤ n → F.len ≤ 1048576 → F.Sm → NamP F
  | 0, F, h, hl, hs => l2Names_of F hl fun i nd k hk => by have := F.get_nodes i nd k hk; omega
  | n + 1, F, h, hl, hs => l2Names_of F hl fun i nd k hk => l2Names_fuel n k (by have := F.get_nodes i nd k hk; omega) (hs.get hk).1 (hs.get hk).2
theorem l2Names_any (F : Fo) (hl : F.len ≤ 1048576) (hs : F.Sm) : NamP F := l2Names_fuel F.nodes F (Nat.le_refl _) hl hs
end Go.Proofs.YtnikomgdcddchaaGreat

/- An expression marked: nothing but its own rows is written, and where its parts lie stays. -/
import Derived.Test.YtckdpdlkjgjadaaTo
import Derived.Test.YtckdpdlkjgjadaaMark
namespace Go.Proofs.Ytckdpdlkjgjadaa
open Go.RowKit
set_option linter.unusedVariables false

def MarkP (F : Fo) : Prop := ∀ (lo hi : Nat) (v : Value) (w : World) (k : Nat), SkRow lo hi w F v → lo ≤ hi → hi ≤ w.heap.size → 1 ≤ k → k + 5 * F.nodes ≤ 16777216 →
  Calls Try.prog 37 #[v, .int .i64 k] w fun e w' => e = .returned (.int .i64 ((k + 5 * F.nodes : Nat) : Int)) ∧ Kept lo hi w w'

set_option maxHeartbeats 1600000 in
theorem markExprS_of (F : Fo) (ih : ∀ i nd k, F.get i = some (nd, k) → MarkP k) : MarkP F := by
  intro lo hi v w k hs hlh hhw hk1 hkb
  have HS := hide hs
  obtain ⟨ad, cap, rfl, hc, hm, hx⟩ := hs
  unfold maxLen at hm
  have IH := hide ih
  have HX := hide hx
  clear hx ih
  have hall := F.kn_all
  go_enter Try.func37, Try.ntmps37
  go_wp2_with fail
  go_loopw [1, 5] (fun kv iv wr => ∃ i q : Nat, i ≤ F.len ∧ iv = .int .i64 i ∧ kv = .int .i64 q ∧ Hid (q = k + 5 * (i + F.kn i)) ∧ Hid (Kept lo hi w wr)) (fun _ iv _ => F.len - (intOf iv).toNat)
  case atStart => exact ⟨0, k, by omega, rfl, rfl, hide (by rw [F.kn_zero]; omega), Kept.refl _ _ _⟩
  case round =>
    obtain ⟨i, q, hi', rfl, rfl, HQ, HK⟩ := hrel
    by_cases hlt : i < F.len
    · obtain ⟨g, rfl, hlg, hgh, hsk⟩ := HX.out (by omega)
      obtain ⟨nd, k', hget⟩ := F.get_some i hlt
      have HSK := hide (SkAt.kept HK.out hsk hlg hgh)
      have HG := hide hget
      have HKN := hide (F.kn_succ i nd k' hget)
      have hle := F.kn_le (i + 1)
      have hq1 : 1 ≤ q := by have := HQ.out; omega
      have hq2 : q + 5 + 5 * k'.nodes ≤ 16777216 := by have := HQ.out; have := HKN.out; omega
      have hszr : Hid (hi ≤ wr.heap.size) := by
        show _ ≤ _
        have := HK.out.1.size; omega
      have hm1 := hide (markText_any (q + 3) (by omega) (by omega))
      have hm2 := hide (markText_any (q + 3 + 1) (by omega) (by omega))
      have IHk := hide (IH.out i nd k' hget)
      clear hsk hget hle hall
      obtain ⟨⟨u0, x0⟩, ⟨u1, x1⟩, ⟨u2, x2⟩, ⟨u3, x3⟩, ⟨u4, x4⟩, ⟨u5, x5, _⟩, hfz⟩ := HSK.out.cells HG.out
      have y0 := hfz (i * 6)
      have y1 := hfz (i * 6 + 1)
      have y2 := hfz (i * 6 + 2)
      have hii : (i : Int) < (F.len : Int) := by omega
      clear hfz x3 x4 x5
      have HK3 : Hid (Kept lo hi wr (((wr.setCell ⟨g, i * 6, none⟩ (.int .i64 (q : Int))).setCell ⟨g, i * 6 + 1, none⟩ (.int .i64 ((q : Int) + 1))).setCell ⟨g, i * 6 + 2, none⟩ (.int .i64 ((q : Int) + 1 + 1)))) :=
        ((kept_set hlg hgh (by omega) _).trans (kept_set hlg hgh (by omega) _)).trans (kept_set hlg hgh (by omega) _)
      go_wp2_with fail
      generalize (((wr.setCell ⟨g, i * 6, none⟩ (.int .i64 (q : Int))).setCell ⟨g, i * 6 + 1, none⟩ (.int .i64 ((q : Int) + 1))).setCell ⟨g, i * 6 + 2, none⟩ (.int .i64 ((q : Int) + 1 + 1))) = W3 at HK3 ⊢
      rw [show ((q : Int) + 1 + 1 + 1) = ((q + 3 : Nat) : Int) by omega]
      refine (hm1.out _).mono ?_
      rintro e w4 ⟨rfl, hB4⟩
      have hsz3 : hi ≤ W3.heap.size := by have := HK3.out.1.size; have := hszr.out; omega
      have HK4 : Hid (Kept lo hi wr w4) := HK3.out.trans (kept_of_below hB4 hsz3 hlh)
      have hsz4 : hi ≤ w4.heap.size := by have := hB4.size; omega
      have HSK4 := hide (SkAt.kept HK4.out HSK.out hlg hgh)
      clear hB4 hm1 HK3 x0 x1 x2 y0 y1 y2
      obtain ⟨_, _, _, ⟨u3, x3⟩, _, _, hfz⟩ := HSK4.out.cells HG.out
      have y3 := hfz (i * 6 + 3)
      clear hfz
      have HK5 : Hid (Kept lo hi wr (w4.setCell ⟨g, i * 6 + 1 + 2, none⟩ (.string (Pl.bs (Pl.mark (q + 3)))))) := HK4.out.trans (kept_set hlg hgh (by omega) _)
      go_wp2_with fail
      generalize (w4.setCell ⟨g, i * 6 + 1 + 2, none⟩ (.string (Pl.bs (Pl.mark (q + 3))))) = W5 at HK5 ⊢
      rw [show ((q : Int) + 3 + 1) = ((q + 3 + 1 : Nat) : Int) by omega]
      refine (hm2.out _).mono ?_
      rintro e w6 ⟨rfl, hB6⟩
      have hsz5 : hi ≤ W5.heap.size := by have := HK5.out.1.size; have := hszr.out; omega
      have HK6 : Hid (Kept lo hi wr w6) := HK5.out.trans (kept_of_below hB6 hsz5 hlh)
      have hsz6 : hi ≤ w6.heap.size := by have := hB6.size; omega
      have HSK6 := hide (SkAt.kept HK6.out HSK.out hlg hgh)
      clear hB6 hm2 HK5 x3 y3 HK4 HSK4
      obtain ⟨_, _, _, _, ⟨u4, x4⟩, ⟨u5, x5, hsr⟩, hfz⟩ := HSK6.out.cells HG.out
      have y4 := hfz (i * 6 + 4)
      have HK7 : Hid (Kept lo hi w6 (w6.setCell ⟨g, i * 6 + 4, none⟩ (.string (Pl.bs (Pl.mark (q + 3 + 1)))))) := kept_set hlg hgh (by omega) _
      have hrec := hide (IHk.out lo hi u5 _ (q + 5) (hsr.kept HK7.out) hlh (by have := HK7.out.1.size; omega) (by omega) (by omega))
      have HK8 : Hid (Kept lo hi wr (w6.setCell ⟨g, i * 6 + 4, none⟩ (.string (Pl.bs (Pl.mark (q + 3 + 1)))))) := HK6.out.trans HK7.out
      clear hfz HK7 HK6 HSK6
      obtain ⟨a5, c5, rfl, _⟩ := hsr
      go_wp2_with fail
      rw [show ((q : Int) + 3 + 1 + 1) = ((q + 5 : Nat) : Int) by omega]
      refine hrec.out.mono ?_
      rintro e w9 ⟨rfl, hK9⟩
      have HK9 : Hid (Kept lo hi w w9) := HK.out.trans (HK8.out.trans hK9)
      clear hK9 hrec HK8
      go_wp2
      go_roundw
      case rel => exact ⟨i + 1, q + 5 + 5 * k'.nodes, by omega, by go_num, rfl, hide (by have := HQ.out; have := HKN.out; omega), HK9⟩
      case measure => simp [intOf]; omega
    · have hie : i = F.len := by omega
      go_wp2
      go_ret
      refine ⟨?_, HK.out⟩
      have := HQ.out
      rw [hie] at this
      rw [show q = k + 5 * F.nodes by omega]
      rfl
theorem markExprS_fuel : ∀ (n : Nat) (F : Fo), F.nodes ≤ n → MarkP F
  | 0, F, h => markExprS_of F fun i nd k hk => by have := F.get_nodes i nd k hk; omega
  | n + 1, F, h => markExprS_of F fun i nd k hk => markExprS_fuel n k (by have := F.get_nodes i nd k hk; omega)
theorem markExprS_any (F : Fo) : MarkP F := markExprS_fuel F.nodes F (Nat.le_refl _)
end Go.Proofs.Ytckdpdlkjgjadaa

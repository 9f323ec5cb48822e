/- What an expression is, as the specification has it: a value, a name. -/
import Derived.Test.YtamkncfdfaejjaaGreatDoorEvS2
namespace Go.Proofs.YtamkncfdfaejjaaGreatDoor
open Go.RowKit
set_option linter.unusedVariables false
set_option linter.unusedSimpArgs false
def evR (r : Option Va) : Value := match r with
  | some v => .tuple #[vaV v, .bool true]
  | none => .tuple #[vaV ⟨0, 0, ⟨#[]⟩⟩, .bool false]
def EvPost (r : Option Va) (w : World) (e : Ending) (w' : World) : Prop := e = .returned (evR r) ∧ Below w.heap.size w w'
theorem two_below (w : World) (A B : Obj) : Below w.heap.size w ((w.alloc A).alloc B) := ((Below.refl _ _).alloc (Nat.le_refl _) A).alloc (by simp) B
set_option maxHeartbeats 1600000 in
theorem evS_val (vk vn : Int) (vt nm : ByteArray) (v vl : Value) (w : World) :
    Calls Tryz.prog 30 #[ndV ⟨1, vk, vn, vt, nm⟩ v, vl] w (EvPost (some ⟨vk, vn, vt⟩) w) := by
  go_enter Tryz.func30, Tryz.ntmps30
  go_wp2
  refine bodyPost_ret (v := .tuple #[vaV ⟨vk, vn, vt⟩, .bool true]) (by simp [results, Tryz.results30, go_sem]) rfl ?_
  exact ⟨rfl, two_below _ _ _⟩
set_option maxHeartbeats 1600000 in
theorem evS_var (nm vt : ByteArray) (l : List Pl.Pr) (v vl : Value) (w : World) (hl : PrRow w l vl) :
    Calls Tryz.prog 30 #[ndV ⟨2, 0, 0, vt, nm⟩ v, vl] w (EvPost (Pl.lookP l nm.data.toList) w) := by
  have HL := hide hl
  have hq := hide (fun W hW => l2Var_any l nm vl W (hl.later hW))
  obtain ⟨ad, cap, rfl, hc, hm, hx⟩ := hl
  clear hx
  go_enter Tryz.func30, Tryz.ntmps30
  go_wp2_with fail
  refine (hq.out _ (two_below _ _ _)).mono ?_
  rintro e w1 ⟨r, rfl, hv, hr0, hr1, rfl⟩
  have HV := hide hv
  clear hv hq
  by_cases hr : r < 0
  · have hrr : r = -1 := by omega
    subst hrr
    have HN := hide HV.out.none
    go_wp2
    refine bodyPost_ret (v := .tuple #[vaV ⟨0, 0, ⟨#[]⟩⟩, .bool false]) (by simp [results, Tryz.results30, go_sem]) rfl ?_
    exact ⟨by rw [HN.out]; rfl, two_below _ _ _⟩
  · obtain ⟨i, rfl⟩ := HV.out.nat hr
    obtain ⟨p, hp, hlk⟩ := HV.out.some
    have hlt : i < l.length := (List.getElem?_eq_some_iff.1 hp).1
    obtain ⟨ad', cap', he, _, _, hx⟩ := HL.out.later (two_below w (.cells #[.int .i64 2, .int .i64 0, .int .i64 0, .string vt, .string nm, v] 35) (.cells #[.int .i64 0, .int .i64 0, .string ⟨#[]⟩] 30))
    cases he
    obtain ⟨g, off, rfl, hg, hs⟩ := hx (by omega)
    obtain ⟨_, c1, c2, c3⟩ := hs i p hp
    have HK := hide hlk
    clear hs hp hlk hx
    go_wp2
    refine bodyPost_ret (v := .tuple #[vaV p.v, .bool true]) (by simp [results, Tryz.results30, go_sem]) rfl ?_
    exact ⟨by rw [HK.out]; rfl, two_below _ _ _⟩
end Go.Proofs.YtamkncfdfaejjaaGreatDoor

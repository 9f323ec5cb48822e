/- Joined: PlRg RgI RgS LawRG. -/
import Derived.Test.YtkkiolljbklccaaGreatDoorJAg
import Derived.Test.YtkkiolljbklccaaGreatDoorJRec
import Derived.Lib.IndexMore
import Derived.Test.YtkkiolljbklccaaGreatDoorShCut
import Derived.WalkSmall
import Derived.Test.YtkkiolljbklccaaGreatDoorJAs
/- The record that a text begins with: plain facts. -/
namespace Go.Proofs.YtkkiolljbklccaaGreatDoor
open Go.RowKit
set_option linter.unusedVariables false
set_option linter.unusedSimpArgs false
theorem Pl.dec_low (c : UInt8) (hc : c.toNat < 45) (u : Nat) : c ∉ Lib.decDigits u := by
  induction u using Nat.strongRecOn with
  | _ u ih =>
    by_cases h : u < 10
    · rw [Pl.dec_small h]
      intro e
      have := congrArg UInt8.toNat (List.mem_singleton.1 e)
      rw [Pl.fig_nat h] at this
      omega
    · rw [Pl.dec_big h]
      intro e
      rcases List.mem_append.1 e with e | e
      · exact ih (u / 10) (by omega) e
      · have := congrArg UInt8.toNat (List.mem_singleton.1 e)
        rw [Pl.fig_nat (by omega)] at this
        omega
theorem Pl.itoa_low (c : UInt8) (hc : c.toNat < 45) (n : Int) : c ∉ Lib.itoa n := by
  unfold Lib.itoa
  split
  · intro e
    rcases List.mem_cons.1 e with e | e
    · rw [e] at hc
      simp at hc
    · exact Pl.dec_low c hc _ e
  · exact Pl.dec_low c hc _
theorem Pl.byte_of_mem {t : ByteArray} {c : UInt8} (e : c ∈ t.data.toList) : ∃ j, j < t.size ∧ Pl.byteAt t j = (c.toNat : Int) := by
  obtain ⟨j, hj, he⟩ := List.getElem_of_mem e
  refine ⟨j, by simpa using hj, ?_⟩
  unfold Pl.byteAt
  rw [List.getElem?_eq_getElem hj, he]
  rfl
theorem Pl.name_line {nm : ByteArray} (h : Pl.nameB nm = true) : (10 : UInt8) ∉ nm.data.toList := by
  intro e
  obtain ⟨j, hj, hb⟩ := Pl.byte_of_mem e
  have := Pl.name_not j hj (by rw [hb]; simp [Pl.nameAt, Pl.figB, Pl.letB])
  rw [h] at this
  cases this
theorem Pl.text_line {t : ByteArray} (h : Pl.textB t = true) : (10 : UInt8) ∉ t.data.toList := by
  intro e
  obtain ⟨j, hj, hb⟩ := Pl.byte_of_mem e
  have := Pl.text_not j hj (by rw [hb]; simp [Pl.seenB])
  rw [h] at this
  cases this
theorem Pl.putV_line {k n : Int} {t : ByteArray} (h : Pl.okB k n t = true) : (10 : UInt8) ∉ Pl.putV k n t := by
  unfold Pl.putV
  split
  · exact Pl.itoa_low 10 (by decide) n
  · split
    · rename_i h1 h2
      subst h2
      have ht : Pl.textB t = true := by
        simp only [Pl.okB] at h
        simpa using (by simpa using h : n = 0 ∧ Pl.textB t = true).2
      intro e
      rcases List.mem_cons.1 e with e | e
      · cases e
      · rcases List.mem_append.1 e with e | e
        · exact Pl.text_line ht e
        · cases List.mem_singleton.1 e
    · decide
theorem Pl.act_nm_line {k r p : Int} {nm : ByteArray} {o : Bool} {vk vn : Int} {vt : ByteArray} {m : Int} (h : Pl.actB k r p nm o vk vn vt m = true) : (10 : UInt8) ∉ nm.data.toList := by
  have he : nm.toList.isEmpty = true → (10 : UInt8) ∉ nm.data.toList := fun e => by rw [Pl.empty_of e]; simp
  unfold Pl.actB at h
  split at h
  · simp only [Bool.and_eq_true] at h
    exact Pl.name_line h.2.1
  · split at h
    · simp only [Bool.and_eq_true] at h
      exact Pl.name_line h.2.2.1
    · split at h
      · simp only [Bool.and_eq_true] at h
        exact he h.1.1
      · split at h
        · simp only [Bool.and_eq_true] at h
          exact he h.1.2.1
        · split at h
          · simp only [Bool.and_eq_true] at h
            exact he h.1.2.2.1
          · cases h
theorem Pl.no_app {c b : UInt8} {f r : List UInt8} (hb : c ≠ b) (h1 : c ∉ f) (h2 : c ∉ r) : c ∉ f ++ b :: r := by
  intro e
  rcases List.mem_append.1 e with e | e
  · exact h1 e
  · rcases List.mem_cons.1 e with e | e
    · exact hb e
    · exact h2 e
theorem Pl.act_line {k r p : Int} {nm : ByteArray} {o : Bool} {vk vn : Int} {vt : ByteArray} {m : Int} (h : Pl.actB k r p nm o vk vn vt m = true) : (10 : UInt8) ∉ Pl.actT k r p nm o vk vn vt m := by
  have hi := Pl.itoa_low 10 (by decide)
  have hb : (10 : UInt8) ≠ 32 := by decide
  rw [Pl.act_form]
  exact Pl.no_app hb (hi k) (Pl.no_app hb (hi r) (Pl.no_app hb (hi p) (Pl.no_app hb (Pl.act_nm_line h) (Pl.no_app hb (by cases o <;> decide) (Pl.no_app hb (hi m) (Pl.putV_line (act_parts h).2.2.2.2))))))
theorem Pl.split_one {b : UInt8} : ∀ {f f' r r' : List UInt8}, b ∉ f → b ∉ f' → f ++ b :: r = f' ++ b :: r' → f = f' ∧ r = r'
  | [], [], _, _, _, _, h => by
    simp at h
    exact ⟨rfl, h⟩
  | [], c :: f', _, _, _, h2, h => by
    simp at h
    exact absurd (h.1 ▸ List.mem_cons_self ..) h2
  | c :: f, [], _, _, h1, _, h => by
    simp at h
    exact absurd (h.1 ▸ List.mem_cons_self ..) h1
  | c :: f, c' :: f', _, _, h1, h2, h => by
    simp at h
    obtain ⟨e1, e2⟩ := Pl.split_one (fun e => h1 (List.mem_cons_of_mem _ e)) (fun e => h2 (List.mem_cons_of_mem _ e)) h.2
    exact ⟨by rw [h.1, e1], e2⟩
theorem Pl.cutG_miss (b : UInt8) (k : Nat) : ∀ (l cur : List UInt8), b ∉ l → Pl.cutG b k cur l = [cur ++ l]
  | [], cur, _ => by rw [Pl.cutG_nil]; simp
  | c :: l, cur, h => by
    have hc : ¬ c = b := fun e => h (by rw [e]; exact List.mem_cons_self ..)
    cases k with
    | zero => simp [Pl.cutG]
    | succ k =>
      rw [Pl.cutG, if_neg hc, Pl.cutG_miss b (k + 1) l (cur ++ [c]) (fun e => h (List.mem_cons_of_mem _ e))]
      simp
theorem Pl.indexByte_miss (b : UInt8) : ∀ l : List UInt8, b ∉ l → Lib.indexByte l b = -1
  | [], _ => rfl
  | c :: l, h => by
    have hc : (c == b) = false := beq_eq_false_iff_ne.2 fun e => h (by rw [e]; exact List.mem_cons_self ..)
    rw [Lib.indexByte, hc, Pl.indexByte_miss b l (fun e => h (List.mem_cons_of_mem _ e))]
    simp
/-- a text cut once: at its first such byte, or not at all -/
theorem Pl.cut_form (b : UInt8) (l : List UInt8) : (b ∉ l ∧ Pl.cutG b 1 [] l = [l] ∧ Lib.cut l [b] = (l, [], false)) ∨ ∃ f r, b ∉ f ∧ l = f ++ b :: r ∧ Pl.cutG b 1 [] l = [f, r] ∧ Lib.cut l [b] = (f, r, true) := by
  by_cases h : b ∈ l
  · obtain ⟨f, r, rfl, hf⟩ := List.eq_append_cons_of_mem h
    refine .inr ⟨f, r, hf, rfl, ?_, ?_⟩
    · rw [Pl.cutG_hit b 0 r f [] hf]
      simp [Pl.cutG]
    · have hi : Lib.index (f ++ b :: r) [b] = (f.length : Int) := by rw [Lib.index_one]; exact Pl.indexByte_hit b r f hf
      unfold Lib.cut
      rw [hi, if_pos (by omega)]
      simp
  · refine .inl ⟨h, ?_, ?_⟩
    · rw [Pl.cutG_miss b 1 l [] h]; simp
    · have hi : Lib.index l [b] = -1 := by rw [Lib.index_one]; exact Pl.indexByte_miss b l h
      unfold Lib.cut
      rw [hi, if_neg (by omega)]
/-- a text begins with an act's record -/
def Pl.TellsR (s : ByteArray) (k r p : Int) (nm : ByteArray) (o : Bool) (vk vn : Int) (vt : ByteArray) (m : Int) : Prop := Pl.actB k r p nm o vk vn vt m = true ∧ (Pl.recT (Pl.actT k r p nm o vk vn vt m)) <+: s.data.toList
/-- what stands between the first blank of a text's first line and its end -/
def Pl.told (s : ByteArray) : List UInt8 := (Lib.cut (Lib.cut s.data.toList [10]).1 [32]).2.1
theorem Pl.rec_form (T : List UInt8) : Pl.recT T = (Lib.itoa (Pl.crc (Pl.bs T) : Int) ++ 32 :: T) ++ [10] := by simp [Pl.recT]
theorem Pl.rec_len (T : List UInt8) : (Pl.recT T).length = (Lib.itoa (Pl.crc (Pl.bs T) : Int) ++ 32 :: T).length + 1 := by rw [Pl.rec_form]; simp only [List.length_append, List.length_cons, List.length_nil]
/-- the first line of a text that begins with a record is that record's -/
theorem Pl.rec_line {s : ByteArray} {k r p : Int} {nm : ByteArray} {o : Bool} {vk vn : Int} {vt : ByteArray} {m : Int} (h : Pl.TellsR s k r p nm o vk vn vt m) :
    ∃ rest, s.data.toList = (Lib.itoa (Pl.crc (Pl.bs (Pl.actT k r p nm o vk vn vt m)) : Int) ++ 32 :: Pl.actT k r p nm o vk vn vt m) ++ 10 :: rest ∧ (10 : UInt8) ∉ (Lib.itoa (Pl.crc (Pl.bs (Pl.actT k r p nm o vk vn vt m)) : Int) ++ 32 :: Pl.actT k r p nm o vk vn vt m) := by
  obtain ⟨rest, hr⟩ := h.2
  refine ⟨rest, ?_, Pl.no_app (by decide) (Pl.itoa_low 10 (by decide) _) (Pl.act_line h.1)⟩
  rw [← hr, Pl.rec_form]
  simp
theorem Pl.told_rec {s : ByteArray} {k r p : Int} {nm : ByteArray} {o : Bool} {vk vn : Int} {vt : ByteArray} {m : Int} (h : Pl.TellsR s k r p nm o vk vn vt m) : Pl.told s = Pl.actT k r p nm o vk vn vt m := by
  obtain ⟨rest, hs, hn⟩ := Pl.rec_line h
  unfold Pl.told
  rcases Pl.cut_form 10 s.data.toList with ⟨h1, _, _⟩ | ⟨f, q, hf, he, _, hc⟩
  · exact absurd (by rw [hs]; simp) h1
  · obtain ⟨e1, e2⟩ := Pl.split_one hf hn (he.symm.trans hs)
    rw [hc]
    show (Lib.cut f [32]).2.1 = _
    rw [e1]
    rcases Pl.cut_form 32 (Lib.itoa (Pl.crc (Pl.bs (Pl.actT k r p nm o vk vn vt m)) : Int) ++ 32 :: Pl.actT k r p nm o vk vn vt m) with ⟨h1, _, _⟩ | ⟨f2, q2, hf2, he2, _, hc2⟩
    · exact absurd (by simp) h1
    · obtain ⟨_, e4⟩ := Pl.split_one hf2 (Pl.itoa_noblank _) he2.symm
      rw [hc2]
      exact e4
theorem Pl.told_size (s : ByteArray) : (Pl.told s).length ≤ s.size := by
  have hs : s.data.toList.length = s.size := by simp
  unfold Pl.told
  have h1 : (Lib.cut s.data.toList [10]).1.length ≤ s.size := by
    rcases Pl.cut_form 10 s.data.toList with ⟨_, _, hc⟩ | ⟨f, q, _, he, _, hc⟩
    · rw [hc]; show s.data.toList.length ≤ _; omega
    · rw [hc]
      have := congrArg List.length he
      simp at this ⊢
      omega
  generalize (Lib.cut s.data.toList [10]).1 = l at h1
  rcases Pl.cut_form 32 l with ⟨_, _, hc⟩ | ⟨f, q, _, he, _, hc⟩
  · rw [hc]; simp
  · rw [hc]
    have := congrArg List.length he
    simp at this ⊢
    omega
theorem Pl.tells_sizes {s : ByteArray} {k r p : Int} {nm : ByteArray} {o : Bool} {vk vn : Int} {vt : ByteArray} {m : Int} (h : Pl.TellsA s k r p nm o vk vn vt m) (hs : s.size ≤ 1048576) : nm.size ≤ 1048576 ∧ vt.size ≤ 1048576 := by
  have hl : s.data.toList.length = s.size := by simp
  have h2 := congrArg List.length h.2
  rw [Pl.act_form, hl] at h2
  have hn : nm.data.toList.length = nm.size := by simp
  simp only [List.length_append, List.length_cons] at h2
  refine ⟨by omega, ?_⟩
  exact (show Pl.ValP (Pl.bs (Pl.putV vk vn vt)) vk vn vt from .inl (Pl.tells_val h.1)).size (by rw [Pl.bs_size]; omega)
/-- a record that is read, or none -/
def RgPost (s : ByteArray) (w : World) (e : Ending) (w' : World) : Prop :=
  ((∃ k r p nm o vk vn vt m, Pl.TellsR s k r p nm o vk vn vt m ∧ e = .returned (.tuple #[actV k r p nm o vk vn vt m, .int .i64 ((Pl.recT (Pl.actT k r p nm o vk vn vt m)).length : Int)])) ∨ ((∀ k r p nm o vk vn vt m, ¬ Pl.TellsR s k r p nm o vk vn vt m) ∧ e = .returned (.tuple #[actV 0 0 0 ⟨#[]⟩ false 0 0 ⟨#[]⟩ 0, .int .i64 0]))) ∧ Below w.heap.size w w'
theorem Pl.tells_rec_one {s : ByteArray} {k r p : Int} {nm : ByteArray} {o : Bool} {vk vn : Int} {vt : ByteArray} {m : Int} {k' r' p' : Int} {nm' : ByteArray} {o' : Bool} {vk' vn' : Int} {vt' : ByteArray} {m' : Int}
    (h : Pl.TellsR s k r p nm o vk vn vt m) (h' : Pl.TellsR s k' r' p' nm' o' vk' vn' vt' m') : k = k' ∧ r = r' ∧ p = p' ∧ nm = nm' ∧ o = o' ∧ vk = vk' ∧ vn = vn' ∧ vt = vt' ∧ m = m' := by
  have h1 : Pl.TellsA (Pl.bs (Pl.told s)) k r p nm o vk vn vt m := ⟨h.1, by rw [Pl.bs_back, Pl.told_rec h]⟩
  have h2 : Pl.TellsA (Pl.bs (Pl.told s)) k' r' p' nm' o' vk' vn' vt' m' := ⟨h'.1, by rw [Pl.bs_back, Pl.told_rec h']⟩
  exact Pl.tells_act_one h1 h2
/-- the one answer of whoever reads an act -/
theorem Pl.act_answer (s : ByteArray) : (∃ k r p nm o vk vn vt m, Pl.TellsA s k r p nm o vk vn vt m ∧ ∀ (w : World) (e : Ending) (w' : World), AgPost s w e w' → e = .returned (.tuple #[actV k r p nm o vk vn vt m, .bool true]) ∧ Below w.heap.size w w') ∨
    ((∀ k r p nm o vk vn vt m, ¬ Pl.TellsA s k r p nm o vk vn vt m) ∧ ∀ (w : World) (e : Ending) (w' : World), AgPost s w e w' → e = .returned (.tuple #[actV 0 0 0 ⟨#[]⟩ false 0 0 ⟨#[]⟩ 0, .bool false]) ∧ Below w.heap.size w w') := by
  by_cases hx : ∃ k r p nm o vk vn vt m, Pl.TellsA s k r p nm o vk vn vt m
  · obtain ⟨k, r, p, nm, o, vk, vn, vt, m, ht⟩ := hx
    refine .inl ⟨k, r, p, nm, o, vk, vn, vt, m, ht, ?_⟩
    rintro w e w' ⟨h, hB⟩
    rcases h with ⟨k', r', p', nm', o', vk', vn', vt', m', ht', rfl⟩ | ⟨hn, _⟩
    · obtain ⟨rfl, rfl, rfl, rfl, rfl, rfl, rfl, rfl, rfl⟩ := Pl.tells_act_one ht ht'
      exact ⟨rfl, hB⟩
    · exact absurd ht (hn _ _ _ _ _ _ _ _ _)
  · refine .inr ⟨fun k r p nm o vk vn vt m h => hx ⟨k, r, p, nm, o, vk, vn, vt, m, h⟩, ?_⟩
    rintro w e w' ⟨h, hB⟩
    rcases h with ⟨k', r', p', nm', o', vk', vn', vt', m', ht', _⟩ | ⟨_, rfl⟩
    · exact absurd ⟨_, _, _, _, _, _, _, _, _, ht'⟩ hx
    · exact ⟨rfl, hB⟩
end Go.Proofs.YtkkiolljbklccaaGreatDoor

/- The record that a text begins with, as the program reads it. -/
namespace Go.Proofs.YtkkiolljbklccaaGreatDoor
open Go.RowKit
set_option linter.unusedVariables false
set_option linter.unusedSimpArgs false
theorem cut_any (x : ByteArray) (c : UInt8) (hx : x.size ≤ 1048576) (w : World) (hM : MaxAt w) :
    Calls Tryz.prog 35 #[.string x, .string ⟨#[c]⟩] w fun e w' => e = .returned (.tuple #[.string (Pl.bs (Lib.cut x.data.toList [c]).1), .string (Pl.bs (Lib.cut x.data.toList [c]).2.1), .bool (Lib.cut x.data.toList [c]).2.2]) ∧ Below w.heap.size w w' := by
  obtain ⟨m, hm⟩ := hM
  refine (Tryz.strings_Cut x ⟨#[c]⟩ m w (by omega) hm).mono ?_
  rintro e w' ⟨rfl, n, rfl⟩
  exact ⟨rfl, Go.below_drewN (Below.refl _ _) n⟩
theorem line_size (s : ByteArray) : (Lib.cut s.data.toList [10]).1.length ≤ s.size := by
  have hs : s.data.toList.length = s.size := by simp
  rcases Pl.cut_form 10 s.data.toList with ⟨_, _, hc⟩ | ⟨f, q, _, he, _, hc⟩
  · rw [hc]; show s.data.toList.length ≤ _; omega
  · rw [hc]
    have := congrArg List.length he
    simp at this ⊢
    omega
set_option maxRecDepth 100000 in
set_option maxHeartbeats 3200000 in
theorem implRecordGet_any (s : ByteArray) (hs : s.size ≤ 1048576) (w : World) (hTT : Tab w) (hEE : Errs w) (hMM : MaxAt w) : Calls Tryz.prog 17 #[.string s] w (RgPost s w) := by
  have hT := hide hTT
  have hE := hide hEE
  have hM := hide hMM
  have hls := line_size s
  have hts := Pl.told_size s
  have hc1 := hide (cut_any s 10 hs)
  have hc2 : Hid (∀ W, MaxAt W → Calls Tryz.prog 35 #[.string (Pl.bs (Lib.cut s.data.toList [10]).1), .string ⟨#[32]⟩] W fun e w' => e = .returned (.tuple #[.string (Pl.bs (Lib.cut (Lib.cut s.data.toList [10]).1 [32]).1), .string (Pl.bs (Pl.told s)), .bool (Lib.cut (Lib.cut s.data.toList [10]).1 [32]).2.2]) ∧ Below W.heap.size W w') := fun W hW =>
    cut_any (Pl.bs (Lib.cut s.data.toList [10]).1) 32 (by rw [Pl.bs_size]; omega) W hW
  have hg0 := fun W a b c => implActGet_any (Pl.bs (Pl.told s)) (by rw [Pl.bs_size]; omega) W a b c
  clear hTT hEE hMM
  rcases Pl.act_answer (Pl.bs (Pl.told s)) with ⟨k, r, p, nm, o, vk, vn, vt, m, ht, ho⟩ | ⟨hn, ho⟩
  · have hg : Hid (∀ W, Tab W → Errs W → MaxAt W → Calls Tryz.prog 12 #[.string (Pl.bs (Pl.told s))] W fun e w' => e = .returned (.tuple #[actV k r p nm o vk vn vt m, .bool true]) ∧ Below W.heap.size W w') := fun W a b c => (hg0 W a b c).mono fun e w' h => ho _ _ _ h
    obtain ⟨znm, zvt⟩ := Pl.tells_sizes ht (by rw [Pl.bs_size]; omega)
    have hrp := hide (implRecordPut_any k r p nm o vk vn vt m znm zvt)
    have HRE : Hid (Pl.recT (Pl.actT k r p nm o vk vn vt m) = Pl.recP (Pl.actP k r p nm o vk vn vt m)) := by
      show _ = _
      unfold Pl.actP
      rw [if_pos ht.1]
      unfold Pl.recP
      rw [if_neg (actT_ne _ _ _ _ _ _ _ _ _)]
    have hpx := hide (fun W => Tryz.strings_HasPrefix s (Pl.bs (Pl.recP (Pl.actP k r p nm o vk vn vt m))) W)
    have hpr : Hid (Lib.hasPrefix s.data.toList (Pl.bs (Pl.recP (Pl.actP k r p nm o vk vn vt m))).data.toList = true ↔ Pl.TellsR s k r p nm o vk vn vt m) := by
      show _ ↔ _
      rw [Pl.bs_back, ← HRE.out]
      unfold Lib.hasPrefix Pl.TellsR
      rw [List.isPrefixOf_iff_prefix]
      exact ⟨fun h => ⟨ht.1, h⟩, fun h => h.2⟩
    have hone : ∀ k' r' p' nm' o' vk' vn' vt' m', Pl.TellsR s k' r' p' nm' o' vk' vn' vt' m' → Pl.TellsR s k r p nm o vk vn vt m := fun k' r' p' nm' o' vk' vn' vt' m' h => by
      have h1 : Pl.TellsA (Pl.bs (Pl.told s)) k' r' p' nm' o' vk' vn' vt' m' := ⟨h.1, by rw [Pl.bs_back, Pl.told_rec h]⟩
      obtain ⟨rfl, rfl, rfl, rfl, rfl, rfl, rfl, rfl, rfl⟩ := Pl.tells_act_one ht h1
      exact h
    generalize Pl.recP (Pl.actP k r p nm o vk vn vt m) = REC at *
    clear hg0 ho ht
    cases hq : Lib.hasPrefix s.data.toList (Pl.bs REC).data.toList
    · rw [hq] at hpx
      have hno : ∀ k r p nm o vk vn vt m, ¬ Pl.TellsR s k r p nm o vk vn vt m := fun k' r' p' nm' o' vk' vn' vt' m' h => by
        have := hpr.out.2 (hone _ _ _ _ _ _ _ _ _ h)
        rw [hq] at this
        cases this
      have HN := hide hno
      clear hno hone hpr
      go_enter Tryz.func17, Tryz.ntmps17
      go_wp2_with fail
      have hb0 : Below w.heap.size w (w.alloc (.cells #[.int .i64 0, .int .i64 0, .int .i64 0, .string ⟨#[]⟩, .bool false, .int .i64 0, .int .i64 0, .string ⟨#[]⟩, .int .i64 0] 30)) := (Below.refl _ _).alloc (Nat.le_refl _) _
      refine (hc1.out _ (hM.out.later hb0)).mono ?_
      rintro e1 w1 ⟨rfl, hB1⟩
      obtain ⟨bx, hBL, hltw1⟩ := box_after hB1
      have HBXw1 := hide bx
      have HBLw1 := hide hBL
      clear hb0 hB1 bx hBL
      go_wp2_with fail
      refine (hc2.out _ (hM.out.later HBLw1.out)).mono ?_
      rintro e2 w2 ⟨rfl, hBn⟩
      have HBXw2 := hide ((hBn.block w.heap.size hltw1).trans HBXw1.out)
      have HBLw2 := hide (HBLw1.out.trans (hBn.mono HBLw1.out.size))
      have hltw2 : w.heap.size < w2.heap.size := Nat.lt_of_lt_of_le hltw1 hBn.size
      clear hBn
      go_wp2_with fail
      refine (hg.out _ (hT.out.later HBLw2.out) (hE.out.later HBLw2.out) (hM.out.later HBLw2.out)).mono ?_
      rintro e3 w3 ⟨rfl, hBn⟩
      have HBXw3 := hide ((hBn.block w.heap.size hltw2).trans HBXw2.out)
      have HBLw3 := hide (HBLw2.out.trans (hBn.mono HBLw2.out.size))
      have hltw3 : w.heap.size < w3.heap.size := Nat.lt_of_lt_of_le hltw2 hBn.size
      clear hBn
      go_wp2_with fail
      refine (hrp.out _ (hT.out.later (HBLw3.out.alloc HBLw3.out.size _))).mono ?_
      rintro e4 w4 ⟨rfl, hBn⟩
      obtain ⟨ba, hBn, hltn⟩ := box_after hBn
      have HBA := hide ba
      clear ba hltn
      have HBXw4 := hide ((hBn.block w.heap.size hltw3).trans HBXw3.out)
      have HBLw4 := hide (HBLw3.out.trans (hBn.mono HBLw3.out.size))
      have hltw4 : w.heap.size < w4.heap.size := Nat.lt_of_lt_of_le hltw3 hBn.size
      clear hBn
      go_wp2_with fail
      refine (hpx.out _).mono ?_
      rintro e5 w5 ⟨rfl, rfl⟩
      have r0 := cell_of_block HBXw4.out 0
      have r1 := cell_of_block HBXw4.out 1
      have r2 := cell_of_block HBXw4.out 2
      have r3 := cell_of_block HBXw4.out 3
      have r4 := cell_of_block HBXw4.out 4
      have r5 := cell_of_block HBXw4.out 5
      have r6 := cell_of_block HBXw4.out 6
      have r7 := cell_of_block HBXw4.out 7
      have r8 := cell_of_block HBXw4.out 8
      have g0 := free_of_block HBXw4.out 0
      have g1 := free_of_block HBXw4.out 1
      have g2 := free_of_block HBXw4.out 2
      have g3 := free_of_block HBXw4.out 3
      have g4 := free_of_block HBXw4.out 4
      have g5 := free_of_block HBXw4.out 5
      have g6 := free_of_block HBXw4.out 6
      have g7 := free_of_block HBXw4.out 7
      have g8 := free_of_block HBXw4.out 8
      simp only [List.getElem?_toArray, List.getElem?_cons_zero, List.getElem?_cons_succ] at r0 r1 r2 r3 r4 r5 r6 r7 r8
      go_wp2_with fail
      have hb9 := nine_set HBXw4.out (.int .i64 0) (.int .i64 0) (.int .i64 0) (.string ⟨#[]⟩) (.bool false) (.int .i64 0) (.int .i64 0) (.string ⟨#[]⟩) (.int .i64 0)
      have hB9 := nine_below HBLw4.out (Nat.le_refl _) (.int .i64 0) (.int .i64 0) (.int .i64 0) (.string ⟨#[]⟩) (.bool false) (.int .i64 0) (.int .i64 0) (.string ⟨#[]⟩) (.int .i64 0)
      clear r0 r1 r2 r3 r4 r5 r6 r7 r8 g0 g1 g2 g3 g4 g5 g6 g7 g8
      generalize (((((((((w5.setCell ⟨w.heap.size, 0, none⟩ (.int .i64 0)).setCell ⟨w.heap.size, 1, none⟩ (.int .i64 0)).setCell ⟨w.heap.size, 2, none⟩ (.int .i64 0)).setCell ⟨w.heap.size, 3, none⟩ (.string ⟨#[]⟩)).setCell ⟨w.heap.size, 4, none⟩ (.bool false)).setCell ⟨w.heap.size, 5, none⟩ (.int .i64 0)).setCell ⟨w.heap.size, 6, none⟩ (.int .i64 0)).setCell ⟨w.heap.size, 7, none⟩ (.string ⟨#[]⟩)).setCell ⟨w.heap.size, 8, none⟩ (.int .i64 0)) = W9 at *
      have s0 := cell_of_block hb9 0
      have s1 := cell_of_block hb9 1
      have s2 := cell_of_block hb9 2
      have s3 := cell_of_block hb9 3
      have s4 := cell_of_block hb9 4
      have s5 := cell_of_block hb9 5
      have s6 := cell_of_block hb9 6
      have s7 := cell_of_block hb9 7
      have s8 := cell_of_block hb9 8
      refine bodyPost_ret (v := .tuple #[actV 0 0 0 ⟨#[]⟩ false 0 0 ⟨#[]⟩ 0, .int .i64 0]) (by simp [results, Tryz.results17, go_sem, s0, s1, s2, s3, s4, s5, s6, s7, s8]) rfl ?_
      exact ⟨.inr ⟨HN.out, rfl⟩, hB9⟩
    · rw [hq] at hpx
      have HY := hide (hpr.out.1 hq)
      clear hone hpr
      go_enter Tryz.func17, Tryz.ntmps17
      go_wp2_with fail
      have hb0 : Below w.heap.size w (w.alloc (.cells #[.int .i64 0, .int .i64 0, .int .i64 0, .string ⟨#[]⟩, .bool false, .int .i64 0, .int .i64 0, .string ⟨#[]⟩, .int .i64 0] 30)) := (Below.refl _ _).alloc (Nat.le_refl _) _
      refine (hc1.out _ (hM.out.later hb0)).mono ?_
      rintro e1 w1 ⟨rfl, hB1⟩
      obtain ⟨bx, hBL, hltw1⟩ := box_after hB1
      have HBXw1 := hide bx
      have HBLw1 := hide hBL
      clear hb0 hB1 bx hBL
      go_wp2_with fail
      refine (hc2.out _ (hM.out.later HBLw1.out)).mono ?_
      rintro e2 w2 ⟨rfl, hBn⟩
      have HBXw2 := hide ((hBn.block w.heap.size hltw1).trans HBXw1.out)
      have HBLw2 := hide (HBLw1.out.trans (hBn.mono HBLw1.out.size))
      have hltw2 : w.heap.size < w2.heap.size := Nat.lt_of_lt_of_le hltw1 hBn.size
      clear hBn
      go_wp2_with fail
      refine (hg.out _ (hT.out.later HBLw2.out) (hE.out.later HBLw2.out) (hM.out.later HBLw2.out)).mono ?_
      rintro e3 w3 ⟨rfl, hBn⟩
      have HBXw3 := hide ((hBn.block w.heap.size hltw2).trans HBXw2.out)
      have HBLw3 := hide (HBLw2.out.trans (hBn.mono HBLw2.out.size))
      have hltw3 : w.heap.size < w3.heap.size := Nat.lt_of_lt_of_le hltw2 hBn.size
      clear hBn
      go_wp2_with fail
      refine (hrp.out _ (hT.out.later (HBLw3.out.alloc HBLw3.out.size _))).mono ?_
      rintro e4 w4 ⟨rfl, hBn⟩
      obtain ⟨ba, hBn, hltn⟩ := box_after hBn
      have HBA := hide ba
      clear ba hltn
      have HBXw4 := hide ((hBn.block w.heap.size hltw3).trans HBXw3.out)
      have HBLw4 := hide (HBLw3.out.trans (hBn.mono HBLw3.out.size))
      have hltw4 : w.heap.size < w4.heap.size := Nat.lt_of_lt_of_le hltw3 hBn.size
      clear hBn
      go_wp2_with fail
      refine (hpx.out _).mono ?_
      rintro e5 w5 ⟨rfl, rfl⟩
      have r0 := cell_of_block HBXw4.out 0
      have r1 := cell_of_block HBXw4.out 1
      have r2 := cell_of_block HBXw4.out 2
      have r3 := cell_of_block HBXw4.out 3
      have r4 := cell_of_block HBXw4.out 4
      have r5 := cell_of_block HBXw4.out 5
      have r6 := cell_of_block HBXw4.out 6
      have r7 := cell_of_block HBXw4.out 7
      have r8 := cell_of_block HBXw4.out 8
      have g0 := free_of_block HBXw4.out 0
      have g1 := free_of_block HBXw4.out 1
      have g2 := free_of_block HBXw4.out 2
      have g3 := free_of_block HBXw4.out 3
      have g4 := free_of_block HBXw4.out 4
      have g5 := free_of_block HBXw4.out 5
      have g6 := free_of_block HBXw4.out 6
      have g7 := free_of_block HBXw4.out 7
      have g8 := free_of_block HBXw4.out 8
      simp only [List.getElem?_toArray, List.getElem?_cons_zero, List.getElem?_cons_succ] at r0 r1 r2 r3 r4 r5 r6 r7 r8
      have a0 := cell_of_block HBA.out 0
      have a1 := cell_of_block HBA.out 1
      have a2 := cell_of_block HBA.out 2
      have a3 := cell_of_block HBA.out 3
      have a4 := cell_of_block HBA.out 4
      have a5 := cell_of_block HBA.out 5
      have a6 := cell_of_block HBA.out 6
      have a7 := cell_of_block HBA.out 7
      have a8 := cell_of_block HBA.out 8
      simp only [List.getElem?_toArray, List.getElem?_cons_zero, List.getElem?_cons_succ] at a0 a1 a2 a3 a4 a5 a6 a7 a8
      go_wp2_with fail
      clear a0 a1 a2 a3 a4 a5 a6 a7 a8
      have hb9 := nine_set HBXw4.out (.int .i64 k) (.int .i64 r) (.int .i64 p) (.string nm) (.bool o) (.int .i64 vk) (.int .i64 vn) (.string vt) (.int .i64 m)
      have hB9 := nine_below HBLw4.out (Nat.le_refl _) (.int .i64 k) (.int .i64 r) (.int .i64 p) (.string nm) (.bool o) (.int .i64 vk) (.int .i64 vn) (.string vt) (.int .i64 m)
      clear r0 r1 r2 r3 r4 r5 r6 r7 r8 g0 g1 g2 g3 g4 g5 g6 g7 g8
      generalize (((((((((w5.setCell ⟨w.heap.size, 0, none⟩ (.int .i64 k)).setCell ⟨w.heap.size, 1, none⟩ (.int .i64 r)).setCell ⟨w.heap.size, 2, none⟩ (.int .i64 p)).setCell ⟨w.heap.size, 3, none⟩ (.string nm)).setCell ⟨w.heap.size, 4, none⟩ (.bool o)).setCell ⟨w.heap.size, 5, none⟩ (.int .i64 vk)).setCell ⟨w.heap.size, 6, none⟩ (.int .i64 vn)).setCell ⟨w.heap.size, 7, none⟩ (.string vt)).setCell ⟨w.heap.size, 8, none⟩ (.int .i64 m)) = W9 at *
      have s0 := cell_of_block hb9 0
      have s1 := cell_of_block hb9 1
      have s2 := cell_of_block hb9 2
      have s3 := cell_of_block hb9 3
      have s4 := cell_of_block hb9 4
      have s5 := cell_of_block hb9 5
      have s6 := cell_of_block hb9 6
      have s7 := cell_of_block hb9 7
      have s8 := cell_of_block hb9 8
      refine bodyPost_ret (v := .tuple #[actV k r p nm o vk vn vt m, .int .i64 ((Pl.bs REC).size : Int)]) (by simp [results, Tryz.results17, go_sem, s0, s1, s2, s3, s4, s5, s6, s7, s8]) rfl ?_
      exact ⟨.inl ⟨k, r, p, nm, o, vk, vn, vt, m, HY.out, by rw [HRE.out]; rfl⟩, hB9⟩
  · have hg : Hid (∀ W, Tab W → Errs W → MaxAt W → Calls Tryz.prog 12 #[.string (Pl.bs (Pl.told s))] W fun e w' => e = .returned (.tuple #[actV 0 0 0 ⟨#[]⟩ false 0 0 ⟨#[]⟩ 0, .bool false]) ∧ Below W.heap.size W w') := fun W a b c => (hg0 W a b c).mono fun e w' h => ho _ _ _ h
    have hno : ∀ k r p nm o vk vn vt m, ¬ Pl.TellsR s k r p nm o vk vn vt m := fun k' r' p' nm' o' vk' vn' vt' m' h => hn k' r' p' nm' o' vk' vn' vt' m' ⟨h.1, by rw [Pl.bs_back, Pl.told_rec h]⟩
    have HN := hide hno
    clear hg0 ho hno hn
    go_enter Tryz.func17, Tryz.ntmps17
    go_wp2_with fail
    have hb0 : Below w.heap.size w (w.alloc (.cells #[.int .i64 0, .int .i64 0, .int .i64 0, .string ⟨#[]⟩, .bool false, .int .i64 0, .int .i64 0, .string ⟨#[]⟩, .int .i64 0] 30)) := (Below.refl _ _).alloc (Nat.le_refl _) _
    refine (hc1.out _ (hM.out.later hb0)).mono ?_
    rintro e1 w1 ⟨rfl, hB1⟩
    obtain ⟨bx, hBL, hltw1⟩ := box_after hB1
    have HBXw1 := hide bx
    have HBLw1 := hide hBL
    clear hb0 hB1 bx hBL
    go_wp2_with fail
    refine (hc2.out _ (hM.out.later HBLw1.out)).mono ?_
    rintro e2 w2 ⟨rfl, hBn⟩
    have HBXw2 := hide ((hBn.block w.heap.size hltw1).trans HBXw1.out)
    have HBLw2 := hide (HBLw1.out.trans (hBn.mono HBLw1.out.size))
    have hltw2 : w.heap.size < w2.heap.size := Nat.lt_of_lt_of_le hltw1 hBn.size
    clear hBn
    go_wp2_with fail
    refine (hg.out _ (hT.out.later HBLw2.out) (hE.out.later HBLw2.out) (hM.out.later HBLw2.out)).mono ?_
    rintro e3 w3 ⟨rfl, hBn⟩
    have HBXw3 := hide ((hBn.block w.heap.size hltw2).trans HBXw2.out)
    have HBLw3 := hide (HBLw2.out.trans (hBn.mono HBLw2.out.size))
    have hltw3 : w.heap.size < w3.heap.size := Nat.lt_of_lt_of_le hltw2 hBn.size
    clear hBn
    have r0 := cell_of_block HBXw3.out 0
    have r1 := cell_of_block HBXw3.out 1
    have r2 := cell_of_block HBXw3.out 2
    have r3 := cell_of_block HBXw3.out 3
    have r4 := cell_of_block HBXw3.out 4
    have r5 := cell_of_block HBXw3.out 5
    have r6 := cell_of_block HBXw3.out 6
    have r7 := cell_of_block HBXw3.out 7
    have r8 := cell_of_block HBXw3.out 8
    have g0 := free_of_block HBXw3.out 0
    have g1 := free_of_block HBXw3.out 1
    have g2 := free_of_block HBXw3.out 2
    have g3 := free_of_block HBXw3.out 3
    have g4 := free_of_block HBXw3.out 4
    have g5 := free_of_block HBXw3.out 5
    have g6 := free_of_block HBXw3.out 6
    have g7 := free_of_block HBXw3.out 7
    have g8 := free_of_block HBXw3.out 8
    simp only [List.getElem?_toArray, List.getElem?_cons_zero, List.getElem?_cons_succ] at r0 r1 r2 r3 r4 r5 r6 r7 r8
    go_wp2_with fail
    have hb9 := nine_set HBXw3.out (.int .i64 0) (.int .i64 0) (.int .i64 0) (.string ⟨#[]⟩) (.bool false) (.int .i64 0) (.int .i64 0) (.string ⟨#[]⟩) (.int .i64 0)
    have hB9 := nine_below HBLw3.out (Nat.le_refl _) (.int .i64 0) (.int .i64 0) (.int .i64 0) (.string ⟨#[]⟩) (.bool false) (.int .i64 0) (.int .i64 0) (.string ⟨#[]⟩) (.int .i64 0)
    clear r0 r1 r2 r3 r4 r5 r6 r7 r8 g0 g1 g2 g3 g4 g5 g6 g7 g8
    generalize (((((((((w3.setCell ⟨w.heap.size, 0, none⟩ (.int .i64 0)).setCell ⟨w.heap.size, 1, none⟩ (.int .i64 0)).setCell ⟨w.heap.size, 2, none⟩ (.int .i64 0)).setCell ⟨w.heap.size, 3, none⟩ (.string ⟨#[]⟩)).setCell ⟨w.heap.size, 4, none⟩ (.bool false)).setCell ⟨w.heap.size, 5, none⟩ (.int .i64 0)).setCell ⟨w.heap.size, 6, none⟩ (.int .i64 0)).setCell ⟨w.heap.size, 7, none⟩ (.string ⟨#[]⟩)).setCell ⟨w.heap.size, 8, none⟩ (.int .i64 0)) = W9 at *
    have hl9 : w.heap.size < W9.heap.size := (Array.getElem?_eq_some_iff.1 hb9).1
    have hb8 := (Below.heap_alloc W9 (.cells #[.int .i64 0, .int .i64 0, .int .i64 0, .string ⟨#[]⟩, .bool false, .int .i64 0, .int .i64 0, .string ⟨#[]⟩, .int .i64 0] 30) _ hl9).trans hb9
    have s0 := cell_of_block hb8 0
    have s1 := cell_of_block hb8 1
    have s2 := cell_of_block hb8 2
    have s3 := cell_of_block hb8 3
    have s4 := cell_of_block hb8 4
    have s5 := cell_of_block hb8 5
    have s6 := cell_of_block hb8 6
    have s7 := cell_of_block hb8 7
    have s8 := cell_of_block hb8 8
    refine bodyPost_ret (v := .tuple #[actV 0 0 0 ⟨#[]⟩ false 0 0 ⟨#[]⟩ 0, .int .i64 0]) (by simp [results, Tryz.results17, go_sem, s0, s1, s2, s3, s4, s5, s6, s7, s8]) rfl ?_
    exact ⟨.inr ⟨HN.out, rfl⟩, (hB9.alloc hB9.size _)⟩
end Go.Proofs.YtkkiolljbklccaaGreatDoor

/- The record that a text begins with, as the specification reads it. -/
namespace Go.Proofs.YtkkiolljbklccaaGreatDoor
open Go.RowKit
set_option linter.unusedVariables false
set_option linter.unusedSimpArgs false
theorem row2_of {w : World} {base : Nat} {v : Value} {f q : List UInt8} (h : w.ownsRow base 9 1 v 2 [sv f, sv q]) :
    ∃ g c, v = .slice (some ⟨g, 0, none⟩) 2 c ∧ base ≤ g ∧ g < w.heap.size ∧ w.cell? ⟨g, 0, none⟩ = some (sv f) ∧ w.cell? ⟨g, 1, none⟩ = some (sv q) := by
  obtain ⟨hl, h⟩ := h
  rcases h with ⟨_, h0⟩ | ⟨g, cap, cur, rfl, hb, hg, hnc, hm, hs, ht⟩
  · cases h0
  · refine ⟨g, cap, rfl, hb, (Array.getElem?_eq_some_iff.1 hg).1, ?_⟩
    have hc : ∀ i x, [sv f, sv q][i]? = some x → w.cell? ⟨g, i, none⟩ = some x := fun i x hx => by
      rw [← ht] at hx
      have h2 : cur[i]? = some x := by
        rw [List.getElem?_take] at hx
        split at hx
        · simpa using hx
        · cases hx
      simp [World.cell?, hg, h2]
    exact ⟨hc 0 _ rfl, hc 1 _ rfl⟩
theorem cell_of_same {w X : World} {g : Nat} (h : w.heap[g]? = X.heap[g]?) (i : Nat) : w.cell? ⟨g, i, none⟩ = X.cell? ⟨g, i, none⟩ := by simp [World.cell?, h]
theorem nine_other {W : World} {b c : Nat} (h : c ≠ b) (u0 u1 u2 u3 u4 u5 u6 u7 u8 : Value) : (((((((((W.setCell ⟨b, 0, none⟩ u0).setCell ⟨b, 1, none⟩ u1).setCell ⟨b, 2, none⟩ u2).setCell ⟨b, 3, none⟩ u3).setCell ⟨b, 4, none⟩ u4).setCell ⟨b, 5, none⟩ u5).setCell ⟨b, 6, none⟩ u6).setCell ⟨b, 7, none⟩ u7).setCell ⟨b, 8, none⟩ u8).heap[c]? = W.heap[c]? := by
  rw [Below.heap_setCell _ _ _ _ h, Below.heap_setCell _ _ _ _ h, Below.heap_setCell _ _ _ _ h, Below.heap_setCell _ _ _ _ h, Below.heap_setCell _ _ _ _ h, Below.heap_setCell _ _ _ _ h, Below.heap_setCell _ _ _ _ h, Below.heap_setCell _ _ _ _ h, Below.heap_setCell _ _ _ _ h]
set_option maxRecDepth 100000 in
set_option maxHeartbeats 3200000 in
theorem specRecordGet_any (s : ByteArray) (hs : s.size ≤ 1048576) (w : World) : Calls Tryz.prog 16 #[.string s] w (RgPost s w) := by
  have hc := hide (l5Cut_any s 10 1 hs (by omega))
  have hll : s.data.toList.length = s.size := by simp
  rcases Pl.cut_form 10 s.data.toList with ⟨h1, hC0, _⟩ | ⟨f, q, hf, hsf, hC0, hL⟩
  · have hC := hide hC0
    have hno : ∀ k r p nm o vk vn vt m, ¬ Pl.TellsR s k r p nm o vk vn vt m := fun k r p nm o vk vn vt m h => by
      obtain ⟨rest, hr, _⟩ := Pl.rec_line h
      exact h1 (by rw [hr]; simp)
    have HN := hide hno
    clear hno h1 hC0 hll
    go_enter Tryz.func16, Tryz.ntmps16
    go_wp2_with fail
    refine (hc.out _).mono ?_
    rintro e1 w1 ⟨v1, rfl, hown1, hB1⟩
    rw [hC.out] at hown1
    obtain ⟨a1, k1, rfl⟩ := ownsRow_form hown1
    obtain ⟨bx, hBL, hltw1⟩ := box_after hB1
    have HBXw1 := hide bx
    have HBLw1 := hide hBL
    clear hB1 bx hBL
    clear hown1
    have r0 := cell_of_block HBXw1.out 0
    have r1 := cell_of_block HBXw1.out 1
    have r2 := cell_of_block HBXw1.out 2
    have r3 := cell_of_block HBXw1.out 3
    have r4 := cell_of_block HBXw1.out 4
    have r5 := cell_of_block HBXw1.out 5
    have r6 := cell_of_block HBXw1.out 6
    have r7 := cell_of_block HBXw1.out 7
    have r8 := cell_of_block HBXw1.out 8
    have g0 := free_of_block HBXw1.out 0
    have g1 := free_of_block HBXw1.out 1
    have g2 := free_of_block HBXw1.out 2
    have g3 := free_of_block HBXw1.out 3
    have g4 := free_of_block HBXw1.out 4
    have g5 := free_of_block HBXw1.out 5
    have g6 := free_of_block HBXw1.out 6
    have g7 := free_of_block HBXw1.out 7
    have g8 := free_of_block HBXw1.out 8
    simp only [List.getElem?_toArray, List.getElem?_cons_zero, List.getElem?_cons_succ] at r0 r1 r2 r3 r4 r5 r6 r7 r8
    go_wp2_with fail
    have hb9 := nine_set HBXw1.out (.int .i64 0) (.int .i64 0) (.int .i64 0) (.string ⟨#[]⟩) (.bool false) (.int .i64 0) (.int .i64 0) (.string ⟨#[]⟩) (.int .i64 0)
    have hB9 := nine_below HBLw1.out (Nat.le_refl _) (.int .i64 0) (.int .i64 0) (.int .i64 0) (.string ⟨#[]⟩) (.bool false) (.int .i64 0) (.int .i64 0) (.string ⟨#[]⟩) (.int .i64 0)
    clear r0 r1 r2 r3 r4 r5 r6 r7 r8 g0 g1 g2 g3 g4 g5 g6 g7 g8
    generalize (((((((((w1.setCell ⟨w.heap.size, 0, none⟩ (.int .i64 0)).setCell ⟨w.heap.size, 1, none⟩ (.int .i64 0)).setCell ⟨w.heap.size, 2, none⟩ (.int .i64 0)).setCell ⟨w.heap.size, 3, none⟩ (.string ⟨#[]⟩)).setCell ⟨w.heap.size, 4, none⟩ (.bool false)).setCell ⟨w.heap.size, 5, none⟩ (.int .i64 0)).setCell ⟨w.heap.size, 6, none⟩ (.int .i64 0)).setCell ⟨w.heap.size, 7, none⟩ (.string ⟨#[]⟩)).setCell ⟨w.heap.size, 8, none⟩ (.int .i64 0)) = W9 at *
    have s0 := cell_of_block hb9 0
    have s1 := cell_of_block hb9 1
    have s2 := cell_of_block hb9 2
    have s3 := cell_of_block hb9 3
    have s4 := cell_of_block hb9 4
    have s5 := cell_of_block hb9 5
    have s6 := cell_of_block hb9 6
    have s7 := cell_of_block hb9 7
    have s8 := cell_of_block hb9 8
    refine bodyPost_ret (v := .tuple #[actV 0 0 0 ⟨#[]⟩ false 0 0 ⟨#[]⟩ 0, .int .i64 0]) (by simp [results, Tryz.results16, go_sem, s0, s1, s2, s3, s4, s5, s6, s7, s8]) rfl ?_
    exact ⟨.inr ⟨HN.out, rfl⟩, hB9⟩
  · have hC := hide hC0
    have hfl : f.length + 1 ≤ s.size := by
      have := congrArg List.length hsf
      simp only [List.length_append, List.length_cons] at this
      omega
    have hc2 := hide (l5Cut_any (Pl.bs f) 32 1 (by rw [Pl.bs_size]; omega) (by omega))
    rw [Pl.bs_back] at hc2
    have hline : ∀ k r p nm o vk vn vt m, Pl.TellsR s k r p nm o vk vn vt m → f = Lib.itoa (Pl.crc (Pl.bs (Pl.actT k r p nm o vk vn vt m)) : Int) ++ 32 :: Pl.actT k r p nm o vk vn vt m := fun k r p nm o vk vn vt m h => by
      obtain ⟨rest, hr, hn⟩ := Pl.rec_line h
      exact (Pl.split_one hf hn (hsf.symm.trans hr)).1
    rcases Pl.cut_form 32 f with ⟨h1, hC1, _⟩ | ⟨h, t, hh, hft, hC1, hL2⟩
    · have hC2 := hide hC1
      have hno : ∀ k r p nm o vk vn vt m, ¬ Pl.TellsR s k r p nm o vk vn vt m := fun k r p nm o vk vn vt m h => h1 (by rw [hline _ _ _ _ _ _ _ _ _ h]; simp)
      have HN := hide hno
      clear hno h1 hC0 hC1 hll hline hf hsf hL hfl
      go_enter Tryz.func16, Tryz.ntmps16
      go_wp2_with fail
      refine (hc.out _).mono ?_
      rintro e1 w1 ⟨v1, rfl, hown1, hB1⟩
      rw [hC.out] at hown1
      obtain ⟨g, k1, rfl, hgb, hgl, d0, d1⟩ := row2_of hown1
      obtain ⟨bx, hBL, hltw1⟩ := box_after hB1
      have HBXw1 := hide bx
      have HBLw1 := hide hBL
      clear hB1 bx hBL
      have hgw : w.heap.size + 1 ≤ g := by simpa using hgb
      clear hown1 hgb d1
      go_wp2_with fail
      refine (hc2.out _).mono ?_
      rintro e2 w2 ⟨v2, rfl, hown2, hB2⟩
      rw [hC2.out] at hown2
      have D0 := hide ((hB2.cell (p := ⟨g, 0, none⟩) hgl).trans d0)
      have hgl2 : g < w2.heap.size := Nat.lt_of_lt_of_le hgl hB2.size
      have HBXw2 := hide ((hB2.block w.heap.size hltw1).trans HBXw1.out)
      have HBLw2 := hide (HBLw1.out.trans (hB2.mono HBLw1.out.size))
      have hltw2 : w.heap.size < w2.heap.size := Nat.lt_of_lt_of_le hltw1 hB2.size
      clear hB2 d0 hgl HBXw1 HBLw1
      obtain ⟨a2, k2, rfl⟩ := ownsRow_form hown2
      clear hown2
      have r0 := cell_of_block HBXw2.out 0
      have r1 := cell_of_block HBXw2.out 1
      have r2 := cell_of_block HBXw2.out 2
      have r3 := cell_of_block HBXw2.out 3
      have r4 := cell_of_block HBXw2.out 4
      have r5 := cell_of_block HBXw2.out 5
      have r6 := cell_of_block HBXw2.out 6
      have r7 := cell_of_block HBXw2.out 7
      have r8 := cell_of_block HBXw2.out 8
      have g0 := free_of_block HBXw2.out 0
      have g1 := free_of_block HBXw2.out 1
      have g2 := free_of_block HBXw2.out 2
      have g3 := free_of_block HBXw2.out 3
      have g4 := free_of_block HBXw2.out 4
      have g5 := free_of_block HBXw2.out 5
      have g6 := free_of_block HBXw2.out 6
      have g7 := free_of_block HBXw2.out 7
      have g8 := free_of_block HBXw2.out 8
      simp only [List.getElem?_toArray, List.getElem?_cons_zero, List.getElem?_cons_succ] at r0 r1 r2 r3 r4 r5 r6 r7 r8
      go_wp2_with fail
      have hb9 := nine_set HBXw2.out (.int .i64 0) (.int .i64 0) (.int .i64 0) (.string ⟨#[]⟩) (.bool false) (.int .i64 0) (.int .i64 0) (.string ⟨#[]⟩) (.int .i64 0)
      have hB9 := nine_below HBLw2.out (Nat.le_refl _) (.int .i64 0) (.int .i64 0) (.int .i64 0) (.string ⟨#[]⟩) (.bool false) (.int .i64 0) (.int .i64 0) (.string ⟨#[]⟩) (.int .i64 0)
      clear r0 r1 r2 r3 r4 r5 r6 r7 r8 g0 g1 g2 g3 g4 g5 g6 g7 g8
      generalize (((((((((w2.setCell ⟨w.heap.size, 0, none⟩ (.int .i64 0)).setCell ⟨w.heap.size, 1, none⟩ (.int .i64 0)).setCell ⟨w.heap.size, 2, none⟩ (.int .i64 0)).setCell ⟨w.heap.size, 3, none⟩ (.string ⟨#[]⟩)).setCell ⟨w.heap.size, 4, none⟩ (.bool false)).setCell ⟨w.heap.size, 5, none⟩ (.int .i64 0)).setCell ⟨w.heap.size, 6, none⟩ (.int .i64 0)).setCell ⟨w.heap.size, 7, none⟩ (.string ⟨#[]⟩)).setCell ⟨w.heap.size, 8, none⟩ (.int .i64 0)) = W9 at *
      have s0 := cell_of_block hb9 0
      have s1 := cell_of_block hb9 1
      have s2 := cell_of_block hb9 2
      have s3 := cell_of_block hb9 3
      have s4 := cell_of_block hb9 4
      have s5 := cell_of_block hb9 5
      have s6 := cell_of_block hb9 6
      have s7 := cell_of_block hb9 7
      have s8 := cell_of_block hb9 8
      refine bodyPost_ret (v := .tuple #[actV 0 0 0 ⟨#[]⟩ false 0 0 ⟨#[]⟩ 0, .int .i64 0]) (by simp [results, Tryz.results16, go_sem, s0, s1, s2, s3, s4, s5, s6, s7, s8]) rfl ?_
      exact ⟨.inr ⟨HN.out, rfl⟩, hB9⟩
    · have hC2 := hide hC1
      have htold : Pl.told s = t := by
        unfold Pl.told
        rw [hL]
        show (Lib.cut f [32]).2.1 = t
        rw [hL2]
      have hts := Pl.told_size s
      rw [htold] at hts
      have hg0 := fun W => specActGet_any (Pl.bs t) (by rw [Pl.bs_size]; omega) W
      have hact : ∀ k r p nm o vk vn vt m, Pl.TellsR s k r p nm o vk vn vt m → Pl.TellsA (Pl.bs t) k r p nm o vk vn vt m := fun k r p nm o vk vn vt m h => ⟨h.1, by rw [Pl.bs_back, ← htold, Pl.told_rec h]⟩
      rcases Pl.act_answer (Pl.bs t) with ⟨k, r, p, nm, o, vk, vn, vt, m, ht, ho⟩ | ⟨hn, ho⟩
      · have hg : Hid (∀ W, Calls Tryz.prog 11 #[.string (Pl.bs t)] W fun e w' => e = .returned (.tuple #[actV k r p nm o vk vn vt m, .bool true]) ∧ Below W.heap.size W w') := fun W => (hg0 W).mono fun e w' h => ho _ _ _ h
        obtain ⟨znm, zvt⟩ := Pl.tells_sizes ht (by rw [Pl.bs_size]; omega)
        have hrec := hide (l8Record_any k r p nm o vk vn vt m ht.1 znm zvt)
        have hiff : Pl.recT (Pl.actT k r p nm o vk vn vt m) = f ++ [10] ↔ Pl.TellsR s k r p nm o vk vn vt m := by
          constructor
          · intro e
            refine ⟨ht.1, q, ?_⟩
            rw [e, hsf]
            simp
          · intro e
            rw [Pl.rec_form, ← hline _ _ _ _ _ _ _ _ _ e]
        have hone : ∀ k' r' p' nm' o' vk' vn' vt' m', Pl.TellsR s k' r' p' nm' o' vk' vn' vt' m' → Pl.TellsR s k r p nm o vk vn vt m := fun k' r' p' nm' o' vk' vn' vt' m' e => by
          obtain ⟨rfl, rfl, rfl, rfl, rfl, rfl, rfl, rfl, rfl⟩ := Pl.tells_act_one ht (hact _ _ _ _ _ _ _ _ _ e)
          exact e
        have hcmp : ((Pl.bs (Pl.recT (Pl.actT k r p nm o vk vn vt m))).toList == (Pl.bs f ++ ⟨#[10]⟩).toList) = (Pl.recT (Pl.actT k r p nm o vk vn vt m) == f ++ [10]) := by
          rw [Pl.bs_toList, show (Pl.bs f ++ ⟨#[10]⟩ : ByteArray) = Pl.bs (f ++ [10]) from (bs_append _ _).symm ▸ rfl, Pl.bs_toList]
        have hfs : (Pl.bs f).size = f.length := Pl.bs_size f
        have hfa : (Pl.bs f).size + (⟨#[10]⟩ : ByteArray).size ≤ 9000000 := by show _ + 1 ≤ _; omega
        clear hg0 ho ht hact hL hL2 hC0 hC1 hll hh hft hline hf hsf htold hts
        cases hq : (Pl.recT (Pl.actT k r p nm o vk vn vt m) == f ++ [10])
        · rw [hq] at hcmp
          have hno : ∀ k r p nm o vk vn vt m, ¬ Pl.TellsR s k r p nm o vk vn vt m := fun k' r' p' nm' o' vk' vn' vt' m' e => by
            rw [hiff.2 (hone _ _ _ _ _ _ _ _ _ e)] at hq
            simp at hq
          have HN := hide hno
          clear hno hone hiff hq
          generalize Pl.recT (Pl.actT k r p nm o vk vn vt m) = REC at *
          go_enter Tryz.func16, Tryz.ntmps16
          go_wp2_with fail
          refine (hc.out _).mono ?_
          rintro e1 w1 ⟨v1, rfl, hown1, hB1⟩
          rw [hC.out] at hown1
          obtain ⟨g, k1, rfl, hgb, hgl, d0, d1⟩ := row2_of hown1
          obtain ⟨bx, hBL, hltw1⟩ := box_after hB1
          have HBXw1 := hide bx
          have HBLw1 := hide hBL
          clear hB1 bx hBL
          have hgw : w.heap.size + 1 ≤ g := by simpa using hgb
          clear hown1 hgb d1
          go_wp2_with fail
          refine (hc2.out _).mono ?_
          rintro e2 w2 ⟨v2, rfl, hown2, hB2⟩
          rw [hC2.out] at hown2
          have D0 := hide ((hB2.cell (p := ⟨g, 0, none⟩) hgl).trans d0)
          have hgl2 : g < w2.heap.size := Nat.lt_of_lt_of_le hgl hB2.size
          have HBXw2 := hide ((hB2.block w.heap.size hltw1).trans HBXw1.out)
          have HBLw2 := hide (HBLw1.out.trans (hB2.mono HBLw1.out.size))
          have hltw2 : w.heap.size < w2.heap.size := Nat.lt_of_lt_of_le hltw1 hB2.size
          clear hB2 d0 hgl HBXw1 HBLw1
          obtain ⟨g2, k2, rfl, hgb2, hgl2', d0', d1'⟩ := row2_of hown2
          clear hown2 hgb2 d0'
          go_wp2_with fail
          refine (hg.out _).mono ?_
          rintro e3 w3 ⟨rfl, hB3⟩
          have D1 := hide ((hB3.cell (p := ⟨g, 0, none⟩) hgl2).trans D0.out)
          have hgl3 : g < w3.heap.size := Nat.lt_of_lt_of_le hgl2 hB3.size
          have HBXw3 := hide ((hB3.block w.heap.size hltw2).trans HBXw2.out)
          have HBLw3 := hide (HBLw2.out.trans (hB3.mono HBLw2.out.size))
          have hltw3 : w.heap.size < w3.heap.size := Nat.lt_of_lt_of_le hltw2 hB3.size
          clear hB3 D0 hgl2 HBXw2 HBLw2 d1' hgl2'
          go_upto_region 8 with fail
          refine act_code (fun X => X.heap[w3.heap.size]? = some (.cells #[.int .i64 k, .int .i64 r, .int .i64 p, .string nm, .bool o, .int .i64 vk, .int .i64 vn, .string vt, .int .i64 m] 30 (0, 0)) ∧ X.cell? ⟨g, 0, none⟩ = some (sv f) ∧ X.heap[w.heap.size]? = some (.cells #[.int .i64 0, .int .i64 0, .int .i64 0, .string ⟨#[]⟩, .bool false, .int .i64 0, .int .i64 0, .string ⟨#[]⟩, .int .i64 0] 30 (0, 0)) ∧ Below w.heap.size w X ∧ X.heap.size = w3.heap.size + 1) ⟨by show (w3.heap.push _)[w3.heap.size]? = _; rw [Array.getElem?_push_size], (World.cell?_alloc_lt _ _ _ hgl3).trans D1.out, (Below.heap_alloc _ _ _ hltw3).trans HBXw3.out, HBLw3.out.alloc HBLw3.out.size _, by simp⟩ ?_
          rintro X ⟨bA, cG, bX, hXL, hXs⟩
          have HBA := hide bA
          have HCG := hide cG
          have HBX := hide bX
          have HXL := hide hXL
          have hlA : w3.heap.size < X.heap.size := by omega
          have hlG : g < X.heap.size := by omega
          have hlX : w.heap.size < X.heap.size := by omega
          clear bA cG bX hXL HBXw3 HBLw3 D1
          refine wp_region_noPanic ?_
          refine wp_region_held_drew (S := fun W => Below X.heap.size X W) (by kernel_rfl) (below_drew' (Below.refl _ _)) (fun hHeld => ?_)
          refine wpAnyH_take (i := 0) (oi := Oper.mk (some 29) _ _ _ _ _) (v := ?_) rfl (by kernel_rfl) (by kernel_rfl) (by kernel_rfl) (fun _ _ _ h => h) (Or.inl ⟨by rfl, ?_⟩) (by assumption) ?_
          rotate_left
          · intro w0 hSw
            clear hSw
            go_simp
            all_goals (with_reducible rfl)
          simp only [Act.put, List.setIfInBounds_toArray, List.set_cons_zero, List.set_cons_succ]
          refine wpAnyH_take (i := 1) (oi := Oper.mk (some 30) _ _ _ _ _) (v := ?_) rfl (by kernel_rfl) (by kernel_rfl) (by kernel_rfl) (fun _ _ _ h => h) (Or.inl ⟨by rfl, ?_⟩) (by assumption) ?_
          rotate_left
          · intro w0 hSw
            clear hSw
            go_simp
            all_goals (with_reducible rfl)
          simp only [Act.put, List.setIfInBounds_toArray, List.set_cons_zero, List.set_cons_succ]
          refine wpAnyH_take (i := 2) (oi := Oper.mk (some 31) _ _ _ _ _) (v := ?_) rfl (by kernel_rfl) (by kernel_rfl) (by kernel_rfl) (fun _ _ _ h => h) (Or.inl ⟨by rfl, ?_⟩) (by assumption) ?_
          rotate_left
          · intro w0 hSw
            clear hSw
            go_simp
            all_goals (with_reducible rfl)
          simp only [Act.put, List.setIfInBounds_toArray, List.set_cons_zero, List.set_cons_succ]
          refine wpAnyH_take (i := 3) (oi := Oper.mk (some 32) _ _ _ _ _) (v := ?_) rfl (by kernel_rfl) (by kernel_rfl) (by kernel_rfl) (fun _ _ _ h => h) (Or.inl ⟨by rfl, ?_⟩) (by assumption) ?_
          rotate_left
          · intro w0 hSw
            have z0 : w0.cell? ⟨w3.heap.size, 0, none⟩ = some (.int .i64 k : Value) := (Below.cell hSw (p := ⟨w3.heap.size, 0, none⟩) hlA).trans (cell_of_block HBA.out 0)
            have z1 : w0.cell? ⟨w3.heap.size, 1, none⟩ = some (.int .i64 r : Value) := (Below.cell hSw (p := ⟨w3.heap.size, 1, none⟩) hlA).trans (cell_of_block HBA.out 1)
            have z2 : w0.cell? ⟨w3.heap.size, 2, none⟩ = some (.int .i64 p : Value) := (Below.cell hSw (p := ⟨w3.heap.size, 2, none⟩) hlA).trans (cell_of_block HBA.out 2)
            have z3 : w0.cell? ⟨w3.heap.size, 3, none⟩ = some (.string nm : Value) := (Below.cell hSw (p := ⟨w3.heap.size, 3, none⟩) hlA).trans (cell_of_block HBA.out 3)
            have z4 : w0.cell? ⟨w3.heap.size, 4, none⟩ = some (.bool o : Value) := (Below.cell hSw (p := ⟨w3.heap.size, 4, none⟩) hlA).trans (cell_of_block HBA.out 4)
            have z5 : w0.cell? ⟨w3.heap.size, 5, none⟩ = some (.int .i64 vk : Value) := (Below.cell hSw (p := ⟨w3.heap.size, 5, none⟩) hlA).trans (cell_of_block HBA.out 5)
            have z6 : w0.cell? ⟨w3.heap.size, 6, none⟩ = some (.int .i64 vn : Value) := (Below.cell hSw (p := ⟨w3.heap.size, 6, none⟩) hlA).trans (cell_of_block HBA.out 6)
            have z7 : w0.cell? ⟨w3.heap.size, 7, none⟩ = some (.string vt : Value) := (Below.cell hSw (p := ⟨w3.heap.size, 7, none⟩) hlA).trans (cell_of_block HBA.out 7)
            have z8 : w0.cell? ⟨w3.heap.size, 8, none⟩ = some (.int .i64 m : Value) := (Below.cell hSw (p := ⟨w3.heap.size, 8, none⟩) hlA).trans (cell_of_block HBA.out 8)
            clear hSw
            go_simp
            all_goals (with_reducible rfl)
          simp only [Act.put, List.setIfInBounds_toArray, List.set_cons_zero, List.set_cons_succ]
          refine wpAnyH_take (i := 5) (oi := Oper.mk (some 34) _ _ _ _ _) (v := ?_) rfl (by kernel_rfl) (by kernel_rfl) (by kernel_rfl) (fun _ _ _ h => h) (Or.inl ⟨by rfl, ?_⟩) (by assumption) ?_
          rotate_left
          · intro w0 hSw
            clear hSw
            go_simp
            all_goals (with_reducible rfl)
          simp only [Act.put, List.setIfInBounds_toArray, List.set_cons_zero, List.set_cons_succ]
          refine wpAnyH_take (i := 6) (oi := Oper.mk (some 35) _ _ _ _ _) (v := ?_) rfl (by kernel_rfl) (by kernel_rfl) (by kernel_rfl) (fun _ _ _ h => h) (Or.inl ⟨by rfl, ?_⟩) (by assumption) ?_
          rotate_left
          · intro w0 hSw
            clear hSw
            go_simp
            all_goals (with_reducible rfl)
          simp only [Act.put, List.setIfInBounds_toArray, List.set_cons_zero, List.set_cons_succ]
          refine wpAnyH_take (i := 7) (oi := Oper.mk (some 36) _ _ _ _ _) (v := ?_) rfl (by kernel_rfl) (by kernel_rfl) (by kernel_rfl) (fun _ _ _ h => h) (Or.inl ⟨by rfl, ?_⟩) (by assumption) ?_
          rotate_left
          · intro w0 hSw
            have z0 : w0.cell? ⟨g, 0, none⟩ = some (sv f : Value) := (Below.cell hSw (p := ⟨g, 0, none⟩) hlG).trans HCG.out
            clear hSw
            go_simp
            all_goals (with_reducible rfl)
          simp only [Act.put, List.setIfInBounds_toArray, List.set_cons_zero, List.set_cons_succ]
          refine wpAnyH_take (i := 8) (oi := Oper.mk (some 37) _ _ _ _ _) (v := ?_) rfl (by kernel_rfl) (by kernel_rfl) (by kernel_rfl) (fun _ _ _ h => h) (Or.inl ⟨by rfl, ?_⟩) (by assumption) ?_
          rotate_left
          · intro w0 hSw
            clear hSw
            go_simp
            rw [if_neg (by omega)]
            all_goals (with_reducible rfl)
          simp only [Act.put, List.setIfInBounds_toArray, List.set_cons_zero, List.set_cons_succ]
          refine wpAnyH_ready (rs := [4]) (by kernel_rfl) (by simp) ?_
          refine AllReadyH.cons (o := Oper.mk (some 33) _ _ _ _ _) rfl (fun K hK => ?_) AllReadyH.nil
          go_simp
          go_at_call 33
          refine (hrec.out _).mono ?_
          rintro x0 Y ⟨rfl, hB0⟩
          have hHeld' := Below.trans hHeld (hB0.mono hHeld.size)
          clear hB0 hHeld
          go_wp2_with fail
          refine hK.out _ _ hHeld' (fun hHeld => ?_)
          clear hK K hHeld'
          (try simp only [Act.put, List.setIfInBounds_toArray, List.set_cons_zero, List.set_cons_succ])
          refine wpAnyH_take (i := 9) (oi := Oper.mk (some 38) _ _ _ _ _) (v := ?_) rfl (by kernel_rfl) (by kernel_rfl) (by kernel_rfl) (fun _ _ _ h => h) (Or.inl ⟨by rfl, ?_⟩) (by assumption) ?_
          rotate_left
          · intro w0 hSw
            clear hSw
            go_simp
            all_goals (with_reducible rfl)
          simp only [Act.put, List.setIfInBounds_toArray, List.set_cons_zero, List.set_cons_succ]
          refine wpAnyH_take (i := 10) (oi := Oper.mk (some 39) _ _ _ _ _) (v := ?_) rfl (by kernel_rfl) (by kernel_rfl) (by kernel_rfl) (fun _ _ _ h => h) (Or.inl ⟨by rfl, ?_⟩) (by assumption) ?_
          rotate_left
          · intro w0 hSw
            clear hSw
            go_simp
            all_goals (with_reducible rfl)
          simp only [Act.put, List.setIfInBounds_toArray, List.set_cons_zero, List.set_cons_succ]
          refine wpAnyH_done (by kernel_rfl) ?_ _
          refine NoPanic.normal ?_
          have HBAy := hide ((hHeld.block w3.heap.size hlA).trans HBA.out)
          have HCGy := hide ((hHeld.cell (p := ⟨g, 0, none⟩) hlG).trans HCG.out)
          have HBXy := hide ((hHeld.block w.heap.size hlX).trans HBX.out)
          have HXLy := hide (HXL.out.trans (hHeld.mono HXL.out.size))
          have hlAy : w3.heap.size < Y.heap.size := Nat.lt_of_lt_of_le hlA hHeld.size
          have hlGy : g < Y.heap.size := Nat.lt_of_lt_of_le hlG hHeld.size
          have hlXy : w.heap.size < Y.heap.size := Nat.lt_of_lt_of_le hlX hHeld.size
          clear hHeld HBA HCG HBX HXL hlA hlG hlX
          have r0 := cell_of_block HBXy.out 0
          have r1 := cell_of_block HBXy.out 1
          have r2 := cell_of_block HBXy.out 2
          have r3 := cell_of_block HBXy.out 3
          have r4 := cell_of_block HBXy.out 4
          have r5 := cell_of_block HBXy.out 5
          have r6 := cell_of_block HBXy.out 6
          have r7 := cell_of_block HBXy.out 7
          have r8 := cell_of_block HBXy.out 8
          have g0 := free_of_block HBXy.out 0
          have g1 := free_of_block HBXy.out 1
          have g2 := free_of_block HBXy.out 2
          have g3 := free_of_block HBXy.out 3
          have g4 := free_of_block HBXy.out 4
          have g5 := free_of_block HBXy.out 5
          have g6 := free_of_block HBXy.out 6
          have g7 := free_of_block HBXy.out 7
          have g8 := free_of_block HBXy.out 8
          simp only [List.getElem?_toArray, List.getElem?_cons_zero, List.getElem?_cons_succ] at r0 r1 r2 r3 r4 r5 r6 r7 r8
          go_wp2_with fail
          have hb9 := nine_set HBXy.out (.int .i64 0) (.int .i64 0) (.int .i64 0) (.string ⟨#[]⟩) (.bool false) (.int .i64 0) (.int .i64 0) (.string ⟨#[]⟩) (.int .i64 0)
          have hB9 := nine_below HXLy.out (Nat.le_refl _) (.int .i64 0) (.int .i64 0) (.int .i64 0) (.string ⟨#[]⟩) (.bool false) (.int .i64 0) (.int .i64 0) (.string ⟨#[]⟩) (.int .i64 0)
          clear r0 r1 r2 r3 r4 r5 r6 r7 r8 g0 g1 g2 g3 g4 g5 g6 g7 g8
          generalize (((((((((Y.setCell ⟨w.heap.size, 0, none⟩ (.int .i64 0)).setCell ⟨w.heap.size, 1, none⟩ (.int .i64 0)).setCell ⟨w.heap.size, 2, none⟩ (.int .i64 0)).setCell ⟨w.heap.size, 3, none⟩ (.string ⟨#[]⟩)).setCell ⟨w.heap.size, 4, none⟩ (.bool false)).setCell ⟨w.heap.size, 5, none⟩ (.int .i64 0)).setCell ⟨w.heap.size, 6, none⟩ (.int .i64 0)).setCell ⟨w.heap.size, 7, none⟩ (.string ⟨#[]⟩)).setCell ⟨w.heap.size, 8, none⟩ (.int .i64 0)) = W9 at *
          have s0 := cell_of_block hb9 0
          have s1 := cell_of_block hb9 1
          have s2 := cell_of_block hb9 2
          have s3 := cell_of_block hb9 3
          have s4 := cell_of_block hb9 4
          have s5 := cell_of_block hb9 5
          have s6 := cell_of_block hb9 6
          have s7 := cell_of_block hb9 7
          have s8 := cell_of_block hb9 8
          refine bodyPost_ret (v := .tuple #[actV 0 0 0 ⟨#[]⟩ false 0 0 ⟨#[]⟩ 0, .int .i64 0]) (by simp [results, Tryz.results16, go_sem, s0, s1, s2, s3, s4, s5, s6, s7, s8]) rfl ?_
          exact ⟨.inr ⟨HN.out, rfl⟩, hB9⟩
        · rw [hq] at hcmp
          have HY := hide (hiff.1 (eq_of_beq hq))
          have HLN : Hid (f.length + 1 = (Pl.recT (Pl.actT k r p nm o vk vn vt m)).length) := by show _ = _; rw [eq_of_beq hq]; simp
          clear hone hiff hq
          generalize hREC : Pl.recT (Pl.actT k r p nm o vk vn vt m) = REC at *
          have HREC := hide hREC
          clear hREC
          go_enter Tryz.func16, Tryz.ntmps16
          go_wp2_with fail
          refine (hc.out _).mono ?_
          rintro e1 w1 ⟨v1, rfl, hown1, hB1⟩
          rw [hC.out] at hown1
          obtain ⟨g, k1, rfl, hgb, hgl, d0, d1⟩ := row2_of hown1
          obtain ⟨bx, hBL, hltw1⟩ := box_after hB1
          have HBXw1 := hide bx
          have HBLw1 := hide hBL
          clear hB1 bx hBL
          have hgw : w.heap.size + 1 ≤ g := by simpa using hgb
          clear hown1 hgb d1
          go_wp2_with fail
          refine (hc2.out _).mono ?_
          rintro e2 w2 ⟨v2, rfl, hown2, hB2⟩
          rw [hC2.out] at hown2
          have D0 := hide ((hB2.cell (p := ⟨g, 0, none⟩) hgl).trans d0)
          have hgl2 : g < w2.heap.size := Nat.lt_of_lt_of_le hgl hB2.size
          have HBXw2 := hide ((hB2.block w.heap.size hltw1).trans HBXw1.out)
          have HBLw2 := hide (HBLw1.out.trans (hB2.mono HBLw1.out.size))
          have hltw2 : w.heap.size < w2.heap.size := Nat.lt_of_lt_of_le hltw1 hB2.size
          clear hB2 d0 hgl HBXw1 HBLw1
          obtain ⟨g2, k2, rfl, hgb2, hgl2', d0', d1'⟩ := row2_of hown2
          clear hown2 hgb2 d0'
          go_wp2_with fail
          refine (hg.out _).mono ?_
          rintro e3 w3 ⟨rfl, hB3⟩
          have D1 := hide ((hB3.cell (p := ⟨g, 0, none⟩) hgl2).trans D0.out)
          have hgl3 : g < w3.heap.size := Nat.lt_of_lt_of_le hgl2 hB3.size
          have HBXw3 := hide ((hB3.block w.heap.size hltw2).trans HBXw2.out)
          have HBLw3 := hide (HBLw2.out.trans (hB3.mono HBLw2.out.size))
          have hltw3 : w.heap.size < w3.heap.size := Nat.lt_of_lt_of_le hltw2 hB3.size
          clear hB3 D0 hgl2 HBXw2 HBLw2 d1' hgl2'
          go_upto_region 8 with fail
          refine act_code (fun X => X.heap[w3.heap.size]? = some (.cells #[.int .i64 k, .int .i64 r, .int .i64 p, .string nm, .bool o, .int .i64 vk, .int .i64 vn, .string vt, .int .i64 m] 30 (0, 0)) ∧ X.cell? ⟨g, 0, none⟩ = some (sv f) ∧ X.heap[w.heap.size]? = some (.cells #[.int .i64 0, .int .i64 0, .int .i64 0, .string ⟨#[]⟩, .bool false, .int .i64 0, .int .i64 0, .string ⟨#[]⟩, .int .i64 0] 30 (0, 0)) ∧ Below w.heap.size w X ∧ X.heap.size = w3.heap.size + 1) ⟨by show (w3.heap.push _)[w3.heap.size]? = _; rw [Array.getElem?_push_size], (World.cell?_alloc_lt _ _ _ hgl3).trans D1.out, (Below.heap_alloc _ _ _ hltw3).trans HBXw3.out, HBLw3.out.alloc HBLw3.out.size _, by simp⟩ ?_
          rintro X ⟨bA, cG, bX, hXL, hXs⟩
          have HBA := hide bA
          have HCG := hide cG
          have HBX := hide bX
          have HXL := hide hXL
          have hlA : w3.heap.size < X.heap.size := by omega
          have hlG : g < X.heap.size := by omega
          have hlX : w.heap.size < X.heap.size := by omega
          clear bA cG bX hXL HBXw3 HBLw3 D1
          refine wp_region_noPanic ?_
          refine wp_region_held_drew (S := fun W => Below X.heap.size X W) (by kernel_rfl) (below_drew' (Below.refl _ _)) (fun hHeld => ?_)
          refine wpAnyH_take (i := 0) (oi := Oper.mk (some 29) _ _ _ _ _) (v := ?_) rfl (by kernel_rfl) (by kernel_rfl) (by kernel_rfl) (fun _ _ _ h => h) (Or.inl ⟨by rfl, ?_⟩) (by assumption) ?_
          rotate_left
          · intro w0 hSw
            clear hSw
            go_simp
            all_goals (with_reducible rfl)
          simp only [Act.put, List.setIfInBounds_toArray, List.set_cons_zero, List.set_cons_succ]
          refine wpAnyH_take (i := 1) (oi := Oper.mk (some 30) _ _ _ _ _) (v := ?_) rfl (by kernel_rfl) (by kernel_rfl) (by kernel_rfl) (fun _ _ _ h => h) (Or.inl ⟨by rfl, ?_⟩) (by assumption) ?_
          rotate_left
          · intro w0 hSw
            clear hSw
            go_simp
            all_goals (with_reducible rfl)
          simp only [Act.put, List.setIfInBounds_toArray, List.set_cons_zero, List.set_cons_succ]
          refine wpAnyH_take (i := 2) (oi := Oper.mk (some 31) _ _ _ _ _) (v := ?_) rfl (by kernel_rfl) (by kernel_rfl) (by kernel_rfl) (fun _ _ _ h => h) (Or.inl ⟨by rfl, ?_⟩) (by assumption) ?_
          rotate_left
          · intro w0 hSw
            clear hSw
            go_simp
            all_goals (with_reducible rfl)
          simp only [Act.put, List.setIfInBounds_toArray, List.set_cons_zero, List.set_cons_succ]
          refine wpAnyH_take (i := 3) (oi := Oper.mk (some 32) _ _ _ _ _) (v := ?_) rfl (by kernel_rfl) (by kernel_rfl) (by kernel_rfl) (fun _ _ _ h => h) (Or.inl ⟨by rfl, ?_⟩) (by assumption) ?_
          rotate_left
          · intro w0 hSw
            have z0 : w0.cell? ⟨w3.heap.size, 0, none⟩ = some (.int .i64 k : Value) := (Below.cell hSw (p := ⟨w3.heap.size, 0, none⟩) hlA).trans (cell_of_block HBA.out 0)
            have z1 : w0.cell? ⟨w3.heap.size, 1, none⟩ = some (.int .i64 r : Value) := (Below.cell hSw (p := ⟨w3.heap.size, 1, none⟩) hlA).trans (cell_of_block HBA.out 1)
            have z2 : w0.cell? ⟨w3.heap.size, 2, none⟩ = some (.int .i64 p : Value) := (Below.cell hSw (p := ⟨w3.heap.size, 2, none⟩) hlA).trans (cell_of_block HBA.out 2)
            have z3 : w0.cell? ⟨w3.heap.size, 3, none⟩ = some (.string nm : Value) := (Below.cell hSw (p := ⟨w3.heap.size, 3, none⟩) hlA).trans (cell_of_block HBA.out 3)
            have z4 : w0.cell? ⟨w3.heap.size, 4, none⟩ = some (.bool o : Value) := (Below.cell hSw (p := ⟨w3.heap.size, 4, none⟩) hlA).trans (cell_of_block HBA.out 4)
            have z5 : w0.cell? ⟨w3.heap.size, 5, none⟩ = some (.int .i64 vk : Value) := (Below.cell hSw (p := ⟨w3.heap.size, 5, none⟩) hlA).trans (cell_of_block HBA.out 5)
            have z6 : w0.cell? ⟨w3.heap.size, 6, none⟩ = some (.int .i64 vn : Value) := (Below.cell hSw (p := ⟨w3.heap.size, 6, none⟩) hlA).trans (cell_of_block HBA.out 6)
            have z7 : w0.cell? ⟨w3.heap.size, 7, none⟩ = some (.string vt : Value) := (Below.cell hSw (p := ⟨w3.heap.size, 7, none⟩) hlA).trans (cell_of_block HBA.out 7)
            have z8 : w0.cell? ⟨w3.heap.size, 8, none⟩ = some (.int .i64 m : Value) := (Below.cell hSw (p := ⟨w3.heap.size, 8, none⟩) hlA).trans (cell_of_block HBA.out 8)
            clear hSw
            go_simp
            all_goals (with_reducible rfl)
          simp only [Act.put, List.setIfInBounds_toArray, List.set_cons_zero, List.set_cons_succ]
          refine wpAnyH_take (i := 5) (oi := Oper.mk (some 34) _ _ _ _ _) (v := ?_) rfl (by kernel_rfl) (by kernel_rfl) (by kernel_rfl) (fun _ _ _ h => h) (Or.inl ⟨by rfl, ?_⟩) (by assumption) ?_
          rotate_left
          · intro w0 hSw
            clear hSw
            go_simp
            all_goals (with_reducible rfl)
          simp only [Act.put, List.setIfInBounds_toArray, List.set_cons_zero, List.set_cons_succ]
          refine wpAnyH_take (i := 6) (oi := Oper.mk (some 35) _ _ _ _ _) (v := ?_) rfl (by kernel_rfl) (by kernel_rfl) (by kernel_rfl) (fun _ _ _ h => h) (Or.inl ⟨by rfl, ?_⟩) (by assumption) ?_
          rotate_left
          · intro w0 hSw
            clear hSw
            go_simp
            all_goals (with_reducible rfl)
          simp only [Act.put, List.setIfInBounds_toArray, List.set_cons_zero, List.set_cons_succ]
          refine wpAnyH_take (i := 7) (oi := Oper.mk (some 36) _ _ _ _ _) (v := ?_) rfl (by kernel_rfl) (by kernel_rfl) (by kernel_rfl) (fun _ _ _ h => h) (Or.inl ⟨by rfl, ?_⟩) (by assumption) ?_
          rotate_left
          · intro w0 hSw
            have z0 : w0.cell? ⟨g, 0, none⟩ = some (sv f : Value) := (Below.cell hSw (p := ⟨g, 0, none⟩) hlG).trans HCG.out
            clear hSw
            go_simp
            all_goals (with_reducible rfl)
          simp only [Act.put, List.setIfInBounds_toArray, List.set_cons_zero, List.set_cons_succ]
          refine wpAnyH_take (i := 8) (oi := Oper.mk (some 37) _ _ _ _ _) (v := ?_) rfl (by kernel_rfl) (by kernel_rfl) (by kernel_rfl) (fun _ _ _ h => h) (Or.inl ⟨by rfl, ?_⟩) (by assumption) ?_
          rotate_left
          · intro w0 hSw
            clear hSw
            go_simp
            rw [if_neg (by omega)]
            all_goals (with_reducible rfl)
          simp only [Act.put, List.setIfInBounds_toArray, List.set_cons_zero, List.set_cons_succ]
          refine wpAnyH_ready (rs := [4]) (by kernel_rfl) (by simp) ?_
          refine AllReadyH.cons (o := Oper.mk (some 33) _ _ _ _ _) rfl (fun K hK => ?_) AllReadyH.nil
          go_simp
          go_at_call 33
          refine (hrec.out _).mono ?_
          rintro x0 Y ⟨rfl, hB0⟩
          have hHeld' := Below.trans hHeld (hB0.mono hHeld.size)
          clear hB0 hHeld
          go_wp2_with fail
          refine hK.out _ _ hHeld' (fun hHeld => ?_)
          clear hK K hHeld'
          (try simp only [Act.put, List.setIfInBounds_toArray, List.set_cons_zero, List.set_cons_succ])
          refine wpAnyH_take (i := 9) (oi := Oper.mk (some 38) _ _ _ _ _) (v := ?_) rfl (by kernel_rfl) (by kernel_rfl) (by kernel_rfl) (fun _ _ _ h => h) (Or.inl ⟨by rfl, ?_⟩) (by assumption) ?_
          rotate_left
          · intro w0 hSw
            clear hSw
            go_simp
            all_goals (with_reducible rfl)
          simp only [Act.put, List.setIfInBounds_toArray, List.set_cons_zero, List.set_cons_succ]
          refine wpAnyH_take (i := 10) (oi := Oper.mk (some 39) _ _ _ _ _) (v := ?_) rfl (by kernel_rfl) (by kernel_rfl) (by kernel_rfl) (fun _ _ _ h => h) (Or.inl ⟨by rfl, ?_⟩) (by assumption) ?_
          rotate_left
          · intro w0 hSw
            clear hSw
            go_simp
            all_goals (with_reducible rfl)
          simp only [Act.put, List.setIfInBounds_toArray, List.set_cons_zero, List.set_cons_succ]
          refine wpAnyH_done (by kernel_rfl) ?_ _
          refine NoPanic.normal ?_
          have HBAy := hide ((hHeld.block w3.heap.size hlA).trans HBA.out)
          have HCGy := hide ((hHeld.cell (p := ⟨g, 0, none⟩) hlG).trans HCG.out)
          have HBXy := hide ((hHeld.block w.heap.size hlX).trans HBX.out)
          have HXLy := hide (HXL.out.trans (hHeld.mono HXL.out.size))
          have hlAy : w3.heap.size < Y.heap.size := Nat.lt_of_lt_of_le hlA hHeld.size
          have hlGy : g < Y.heap.size := Nat.lt_of_lt_of_le hlG hHeld.size
          have hlXy : w.heap.size < Y.heap.size := Nat.lt_of_lt_of_le hlX hHeld.size
          clear hHeld HBA HCG HBX HXL hlA hlG hlX
          go_upto_region 10 with fail
          have hne1 : w3.heap.size ≠ w.heap.size := by omega
          have hne2 : g ≠ w.heap.size := by omega
          have hwr : IntKind.i64.wrap ((f.length : Int) + 1) = (f.length : Int) + 1 := by rw [IntKind.wrap_i64]; omega
          refine wp_region_noPanic ?_
          refine wp_region_held_drew (S := fun W => Below w.heap.size w W ∧ W.heap[w3.heap.size]? = Y.heap[w3.heap.size]? ∧ W.heap[g]? = Y.heap[g]? ∧ ∃ x0 x1 x2 x3 x4 x5 x6 x7 x8, W.heap[w.heap.size]? = some (.cells #[x0, x1, x2, x3, x4, x5, x6, x7, x8] 30 (0, 0))) (by kernel_rfl) ⟨below_drew' HXLy.out, rfl, rfl, _, _, _, _, _, _, _, _, _, HBXy.out⟩ (fun hHeld => ?_)
          refine wpAnyH_take (i := 0) (oi := Oper.mk (some 41) _ _ _ _ _) (v := ?_) rfl (by kernel_rfl) (by kernel_rfl) (by kernel_rfl) (fun _ _ _ h => h) (Or.inl ⟨by rfl, ?_⟩) (by assumption) ?_
          rotate_left
          · intro w0 hSw
            have y := hSw.2.1.trans HBAy.out
            have z0 := cell_of_block y 0
            have z1 := cell_of_block y 1
            have z2 := cell_of_block y 2
            have z3 := cell_of_block y 3
            have z4 := cell_of_block y 4
            have z5 := cell_of_block y 5
            have z6 := cell_of_block y 6
            have z7 := cell_of_block y 7
            have z8 := cell_of_block y 8
            simp only [List.getElem?_toArray, List.getElem?_cons_zero, List.getElem?_cons_succ] at z0 z1 z2 z3 z4 z5 z6 z7 z8
            clear y
            clear hSw
            go_simp
            all_goals (with_reducible rfl)
          simp only [Act.put, List.setIfInBounds_toArray, List.set_cons_zero, List.set_cons_succ]
          refine wpAnyH_take (i := 1) (oi := Oper.mk (some 42) _ _ _ _ _) (v := ?_) rfl (by kernel_rfl) (by kernel_rfl) (by kernel_rfl) (fun _ _ _ h => h) (Or.inl ⟨by rfl, ?_⟩) (by assumption) ?_
          rotate_left
          · intro w0 hSw
            clear hSw
            go_simp
            all_goals (with_reducible rfl)
          simp only [Act.put, List.setIfInBounds_toArray, List.set_cons_zero, List.set_cons_succ]
          refine wpAnyH_take (i := 2) (oi := Oper.mk (some 43) _ _ _ _ _) (v := ?_) rfl (by kernel_rfl) (by kernel_rfl) (by kernel_rfl) (fun _ _ _ h => h) (Or.inl ⟨by rfl, ?_⟩) (by assumption) ?_
          rotate_left
          · intro w0 hSw
            clear hSw
            go_simp
            all_goals (with_reducible rfl)
          simp only [Act.put, List.setIfInBounds_toArray, List.set_cons_zero, List.set_cons_succ]
          refine wpAnyH_take (i := 3) (oi := Oper.mk (some 44) _ _ _ _ _) (v := ?_) rfl (by kernel_rfl) (by kernel_rfl) (by kernel_rfl) (fun _ _ _ h => h) (Or.inl ⟨by rfl, ?_⟩) (by assumption) ?_
          rotate_left
          · intro w0 hSw
            have z0 : w0.cell? ⟨g, 0, none⟩ = some (sv f) := (cell_of_same hSw.2.2.1 0).trans HCGy.out
            clear hSw
            go_simp
            all_goals (with_reducible rfl)
          simp only [Act.put, List.setIfInBounds_toArray, List.set_cons_zero, List.set_cons_succ]
          refine wpAnyH_take (i := 4) (oi := Oper.mk (some 45) _ _ _ _ _) (v := ?_) rfl (by kernel_rfl) (by kernel_rfl) (by kernel_rfl) (fun _ _ _ h => h) (Or.inl ⟨by rfl, ?_⟩) (by assumption) ?_
          rotate_left
          · intro w0 hSw
            clear hSw
            go_simp
            all_goals (with_reducible rfl)
          simp only [Act.put, List.setIfInBounds_toArray, List.set_cons_zero, List.set_cons_succ]
          refine wpAnyH_take (i := 5) (oi := Oper.mk (some 46) _ _ _ _ _) (v := ?_) rfl (by kernel_rfl) (by kernel_rfl) (by kernel_rfl) (fun _ _ _ h => h) (Or.inl ⟨by rfl, ?_⟩) (by assumption) ?_
          rotate_left
          · intro w0 hSw
            clear hSw
            go_simp
            all_goals (with_reducible rfl)
          simp only [Act.put, List.setIfInBounds_toArray, List.set_cons_zero, List.set_cons_succ]
          refine wpAnyH_ready (rs := [6]) (by kernel_rfl) (by simp) ?_
          refine AllReadyH.cons (o := Oper.mk none _ _ _ _ _) rfl (fun K hK => ?_) AllReadyH.nil
          have r0 := cell_of_block HBXy.out 0
          have r1 := cell_of_block HBXy.out 1
          have r2 := cell_of_block HBXy.out 2
          have r3 := cell_of_block HBXy.out 3
          have r4 := cell_of_block HBXy.out 4
          have r5 := cell_of_block HBXy.out 5
          have r6 := cell_of_block HBXy.out 6
          have r7 := cell_of_block HBXy.out 7
          have r8 := cell_of_block HBXy.out 8
          have g0 := free_of_block HBXy.out 0
          have g1 := free_of_block HBXy.out 1
          have g2 := free_of_block HBXy.out 2
          have g3 := free_of_block HBXy.out 3
          have g4 := free_of_block HBXy.out 4
          have g5 := free_of_block HBXy.out 5
          have g6 := free_of_block HBXy.out 6
          have g7 := free_of_block HBXy.out 7
          have g8 := free_of_block HBXy.out 8
          simp only [List.getElem?_toArray, List.getElem?_cons_zero, List.getElem?_cons_succ] at r0 r1 r2 r3 r4 r5 r6 r7 r8
          go_simp
          have hb9 := nine_set HBXy.out (.int .i64 k) (.int .i64 r) (.int .i64 p) (.string nm) (.bool o) (.int .i64 vk) (.int .i64 vn) (.string vt) (.int .i64 m)
          have hB9 := nine_below HXLy.out (Nat.le_refl _) (.int .i64 k) (.int .i64 r) (.int .i64 p) (.string nm) (.bool o) (.int .i64 vk) (.int .i64 vn) (.string vt) (.int .i64 m)
          have hO1 := nine_other (W := Y) hne1 (.int .i64 k) (.int .i64 r) (.int .i64 p) (.string nm) (.bool o) (.int .i64 vk) (.int .i64 vn) (.string vt) (.int .i64 m)
          have hO2 := nine_other (W := Y) hne2 (.int .i64 k) (.int .i64 r) (.int .i64 p) (.string nm) (.bool o) (.int .i64 vk) (.int .i64 vn) (.string vt) (.int .i64 m)
          clear r0 r1 r2 r3 r4 r5 r6 r7 r8 g0 g1 g2 g3 g4 g5 g6 g7 g8
          generalize (((((((((Y.setCell ⟨w.heap.size, 0, none⟩ (.int .i64 k)).setCell ⟨w.heap.size, 1, none⟩ (.int .i64 r)).setCell ⟨w.heap.size, 2, none⟩ (.int .i64 p)).setCell ⟨w.heap.size, 3, none⟩ (.string nm)).setCell ⟨w.heap.size, 4, none⟩ (.bool o)).setCell ⟨w.heap.size, 5, none⟩ (.int .i64 vk)).setCell ⟨w.heap.size, 6, none⟩ (.int .i64 vn)).setCell ⟨w.heap.size, 7, none⟩ (.string vt)).setCell ⟨w.heap.size, 8, none⟩ (.int .i64 m)) = W9 at *
          refine hK.out _ _ ⟨below_drew' hB9, hO1, hO2, _, _, _, _, _, _, _, _, _, hb9⟩ (fun _ => ?_)
          clear hK K hHeld hO1 hO2
          (try simp only [Act.put, List.setIfInBounds_toArray, List.set_cons_zero, List.set_cons_succ])
          refine wpAnyH_take (i := 7) (oi := Oper.mk (some 3) _ _ _ _ _) (v := ?_) rfl (by kernel_rfl) (by kernel_rfl) (by kernel_rfl) (fun _ _ _ h => h) (Or.inl ⟨by rfl, ?_⟩) (by assumption) ?_
          rotate_left
          · intro w0 hSw
            clear hSw
            go_simp
            all_goals (with_reducible rfl)
          simp only [Act.put, List.setIfInBounds_toArray, List.set_cons_zero, List.set_cons_succ]
          refine wpAnyH_done (by kernel_rfl) ?_ _
          refine NoPanic.normal ?_
          have s0 := cell_of_block hb9 0
          have s1 := cell_of_block hb9 1
          have s2 := cell_of_block hb9 2
          have s3 := cell_of_block hb9 3
          have s4 := cell_of_block hb9 4
          have s5 := cell_of_block hb9 5
          have s6 := cell_of_block hb9 6
          have s7 := cell_of_block hb9 7
          have s8 := cell_of_block hb9 8
          go_wp2_with fail
          refine bodyPost_ret (v := .tuple #[actV k r p nm o vk vn vt m, .int .i64 ((f.length : Int) + 1)]) (by simp [results, Tryz.results16, go_sem, s0, s1, s2, s3, s4, s5, s6, s7, s8]) rfl ?_
          have hnum : ((f.length : Int) + 1) = (REC.length : Int) := by have := HLN.out; omega
          exact ⟨.inl ⟨k, r, p, nm, o, vk, vn, vt, m, HY.out, by rw [HREC.out, hnum]⟩, below_drew' hB9⟩
      · have hg : Hid (∀ W, Calls Tryz.prog 11 #[.string (Pl.bs t)] W fun e w' => e = .returned (.tuple #[actV 0 0 0 ⟨#[]⟩ false 0 0 ⟨#[]⟩ 0, .bool false]) ∧ Below W.heap.size W w') := fun W => (hg0 W).mono fun e w' h => ho _ _ _ h
        have hno : ∀ k r p nm o vk vn vt m, ¬ Pl.TellsR s k r p nm o vk vn vt m := fun k r p nm o vk vn vt m h => hn _ _ _ _ _ _ _ _ _ (hact _ _ _ _ _ _ _ _ _ h)
        have HN := hide hno
        clear hg0 ho hno hn hact hL hL2 hC0 hC1 hll hh hft hline hf hsf htold hts
        go_enter Tryz.func16, Tryz.ntmps16
        go_wp2_with fail
        refine (hc.out _).mono ?_
        rintro e1 w1 ⟨v1, rfl, hown1, hB1⟩
        rw [hC.out] at hown1
        obtain ⟨g, k1, rfl, hgb, hgl, d0, d1⟩ := row2_of hown1
        obtain ⟨bx, hBL, hltw1⟩ := box_after hB1
        have HBXw1 := hide bx
        have HBLw1 := hide hBL
        clear hB1 bx hBL
        have hgw : w.heap.size + 1 ≤ g := by simpa using hgb
        clear hown1 hgb d1
        go_wp2_with fail
        refine (hc2.out _).mono ?_
        rintro e2 w2 ⟨v2, rfl, hown2, hB2⟩
        rw [hC2.out] at hown2
        have D0 := hide ((hB2.cell (p := ⟨g, 0, none⟩) hgl).trans d0)
        have hgl2 : g < w2.heap.size := Nat.lt_of_lt_of_le hgl hB2.size
        have HBXw2 := hide ((hB2.block w.heap.size hltw1).trans HBXw1.out)
        have HBLw2 := hide (HBLw1.out.trans (hB2.mono HBLw1.out.size))
        have hltw2 : w.heap.size < w2.heap.size := Nat.lt_of_lt_of_le hltw1 hB2.size
        clear hB2 d0 hgl HBXw1 HBLw1
        obtain ⟨g2, k2, rfl, hgb2, hgl2', d0', d1'⟩ := row2_of hown2
        clear hown2 hgb2 d0'
        go_wp2_with fail
        refine (hg.out _).mono ?_
        rintro e3 w3 ⟨rfl, hB3⟩
        have D1 := hide ((hB3.cell (p := ⟨g, 0, none⟩) hgl2).trans D0.out)
        have hgl3 : g < w3.heap.size := Nat.lt_of_lt_of_le hgl2 hB3.size
        have HBXw3 := hide ((hB3.block w.heap.size hltw2).trans HBXw2.out)
        have HBLw3 := hide (HBLw2.out.trans (hB3.mono HBLw2.out.size))
        have hltw3 : w.heap.size < w3.heap.size := Nat.lt_of_lt_of_le hltw2 hB3.size
        clear hB3 D0 hgl2 HBXw2 HBLw2 d1' hgl2'
        go_upto_region 8 with fail
        refine act_code (fun X => X.heap[w3.heap.size]? = some (.cells #[.int .i64 0, .int .i64 0, .int .i64 0, .string ⟨#[]⟩, .bool false, .int .i64 0, .int .i64 0, .string ⟨#[]⟩, .int .i64 0] 30 (0, 0)) ∧ X.cell? ⟨g, 0, none⟩ = some (sv f) ∧ X.heap[w.heap.size]? = some (.cells #[.int .i64 0, .int .i64 0, .int .i64 0, .string ⟨#[]⟩, .bool false, .int .i64 0, .int .i64 0, .string ⟨#[]⟩, .int .i64 0] 30 (0, 0)) ∧ Below w.heap.size w X ∧ X.heap.size = w3.heap.size + 1) ⟨by show (w3.heap.push _)[w3.heap.size]? = _; rw [Array.getElem?_push_size], (World.cell?_alloc_lt _ _ _ hgl3).trans D1.out, (Below.heap_alloc _ _ _ hltw3).trans HBXw3.out, HBLw3.out.alloc HBLw3.out.size _, by simp⟩ ?_
        rintro X ⟨bA, cG, bX, hXL, hXs⟩
        have HBA := hide bA
        have HCG := hide cG
        have HBX := hide bX
        have HXL := hide hXL
        have hlA : w3.heap.size < X.heap.size := by omega
        have hlG : g < X.heap.size := by omega
        have hlX : w.heap.size < X.heap.size := by omega
        clear bA cG bX hXL HBXw3 HBLw3 D1
        refine wp_region_noPanic ?_
        refine wp_region_held_drew (S := fun W => Below X.heap.size X W) (by kernel_rfl) (below_drew' (Below.refl _ _)) (fun hHeld => ?_)
        refine wpAnyH_take (i := 0) (oi := Oper.mk (some 29) _ _ _ _ _) (v := ?_) rfl (by kernel_rfl) (by kernel_rfl) (by kernel_rfl) (fun _ _ _ h => h) (Or.inl ⟨by rfl, ?_⟩) (by assumption) ?_
        rotate_left
        · intro w0 hSw
          clear hSw
          go_simp
          all_goals (with_reducible rfl)
        simp only [Act.put, List.setIfInBounds_toArray, List.set_cons_zero, List.set_cons_succ]
        refine wpAnyH_take (i := 1) (oi := Oper.mk (some 30) _ _ _ _ _) (v := ?_) rfl (by kernel_rfl) (by kernel_rfl) (by kernel_rfl) (fun _ _ _ h => h) (Or.inl ⟨by rfl, ?_⟩) (by assumption) ?_
        rotate_left
        · intro w0 hSw
          clear hSw
          go_simp
          all_goals (with_reducible rfl)
        simp only [Act.put, List.setIfInBounds_toArray, List.set_cons_zero, List.set_cons_succ]
        refine wpAnyH_take (i := 2) (oi := Oper.mk (some 31) _ _ _ _ _) (v := ?_) rfl (by kernel_rfl) (by kernel_rfl) (by kernel_rfl) (fun _ _ _ h => h) (Or.inl ⟨by rfl, ?_⟩) (by assumption) ?_
        rotate_left
        · intro w0 hSw
          clear hSw
          go_simp
          all_goals (with_reducible rfl)
        simp only [Act.put, List.setIfInBounds_toArray, List.set_cons_zero, List.set_cons_succ]
        refine wpAnyH_take (i := 3) (oi := Oper.mk (some 32) _ _ _ _ _) (v := undef) rfl (by kernel_rfl) (by kernel_rfl) (by kernel_rfl) (fun _ _ _ h => h) (Or.inr ⟨by rfl, rfl⟩) (by assumption) ?_
        simp only [Act.put, List.setIfInBounds_toArray, List.set_cons_zero, List.set_cons_succ]
        refine wpAnyH_take (i := 4) (oi := Oper.mk (some 33) _ _ _ _ _) (v := undef) rfl (by kernel_rfl) (by kernel_rfl) (by kernel_rfl) (fun _ _ _ h => h) (Or.inr ⟨by rfl, rfl⟩) (by assumption) ?_
        simp only [Act.put, List.setIfInBounds_toArray, List.set_cons_zero, List.set_cons_succ]
        refine wpAnyH_take (i := 5) (oi := Oper.mk (some 34) _ _ _ _ _) (v := undef) rfl (by kernel_rfl) (by kernel_rfl) (by kernel_rfl) (fun _ _ _ h => h) (Or.inr ⟨by rfl, rfl⟩) (by assumption) ?_
        simp only [Act.put, List.setIfInBounds_toArray, List.set_cons_zero, List.set_cons_succ]
        refine wpAnyH_take (i := 6) (oi := Oper.mk (some 35) _ _ _ _ _) (v := undef) rfl (by kernel_rfl) (by kernel_rfl) (by kernel_rfl) (fun _ _ _ h => h) (Or.inr ⟨by rfl, rfl⟩) (by assumption) ?_
        simp only [Act.put, List.setIfInBounds_toArray, List.set_cons_zero, List.set_cons_succ]
        refine wpAnyH_take (i := 7) (oi := Oper.mk (some 36) _ _ _ _ _) (v := undef) rfl (by kernel_rfl) (by kernel_rfl) (by kernel_rfl) (fun _ _ _ h => h) (Or.inr ⟨by rfl, rfl⟩) (by assumption) ?_
        simp only [Act.put, List.setIfInBounds_toArray, List.set_cons_zero, List.set_cons_succ]
        refine wpAnyH_take (i := 8) (oi := Oper.mk (some 37) _ _ _ _ _) (v := undef) rfl (by kernel_rfl) (by kernel_rfl) (by kernel_rfl) (fun _ _ _ h => h) (Or.inr ⟨by rfl, rfl⟩) (by assumption) ?_
        simp only [Act.put, List.setIfInBounds_toArray, List.set_cons_zero, List.set_cons_succ]
        refine wpAnyH_take (i := 9) (oi := Oper.mk (some 38) _ _ _ _ _) (v := undef) rfl (by kernel_rfl) (by kernel_rfl) (by kernel_rfl) (fun _ _ _ h => h) (Or.inr ⟨by rfl, rfl⟩) (by assumption) ?_
        simp only [Act.put, List.setIfInBounds_toArray, List.set_cons_zero, List.set_cons_succ]
        refine wpAnyH_take (i := 10) (oi := Oper.mk (some 39) _ _ _ _ _) (v := ?_) rfl (by kernel_rfl) (by kernel_rfl) (by kernel_rfl) (fun _ _ _ h => h) (Or.inl ⟨by rfl, ?_⟩) (by assumption) ?_
        rotate_left
        · intro w0 hSw
          clear hSw
          go_simp
          all_goals (with_reducible rfl)
        simp only [Act.put, List.setIfInBounds_toArray, List.set_cons_zero, List.set_cons_succ]
        refine wpAnyH_done (by kernel_rfl) ?_ _
        refine NoPanic.normal ?_
        clear hHeld
        have r0 := cell_of_block HBX.out 0
        have r1 := cell_of_block HBX.out 1
        have r2 := cell_of_block HBX.out 2
        have r3 := cell_of_block HBX.out 3
        have r4 := cell_of_block HBX.out 4
        have r5 := cell_of_block HBX.out 5
        have r6 := cell_of_block HBX.out 6
        have r7 := cell_of_block HBX.out 7
        have r8 := cell_of_block HBX.out 8
        have g0 := free_of_block HBX.out 0
        have g1 := free_of_block HBX.out 1
        have g2 := free_of_block HBX.out 2
        have g3 := free_of_block HBX.out 3
        have g4 := free_of_block HBX.out 4
        have g5 := free_of_block HBX.out 5
        have g6 := free_of_block HBX.out 6
        have g7 := free_of_block HBX.out 7
        have g8 := free_of_block HBX.out 8
        simp only [List.getElem?_toArray, List.getElem?_cons_zero, List.getElem?_cons_succ] at r0 r1 r2 r3 r4 r5 r6 r7 r8
        go_wp2_with fail
        have hb9 := nine_set HBX.out (.int .i64 0) (.int .i64 0) (.int .i64 0) (.string ⟨#[]⟩) (.bool false) (.int .i64 0) (.int .i64 0) (.string ⟨#[]⟩) (.int .i64 0)
        have hB9 := nine_below HXL.out (Nat.le_refl _) (.int .i64 0) (.int .i64 0) (.int .i64 0) (.string ⟨#[]⟩) (.bool false) (.int .i64 0) (.int .i64 0) (.string ⟨#[]⟩) (.int .i64 0)
        clear r0 r1 r2 r3 r4 r5 r6 r7 r8 g0 g1 g2 g3 g4 g5 g6 g7 g8
        generalize (((((((((X.setCell ⟨w.heap.size, 0, none⟩ (.int .i64 0)).setCell ⟨w.heap.size, 1, none⟩ (.int .i64 0)).setCell ⟨w.heap.size, 2, none⟩ (.int .i64 0)).setCell ⟨w.heap.size, 3, none⟩ (.string ⟨#[]⟩)).setCell ⟨w.heap.size, 4, none⟩ (.bool false)).setCell ⟨w.heap.size, 5, none⟩ (.int .i64 0)).setCell ⟨w.heap.size, 6, none⟩ (.int .i64 0)).setCell ⟨w.heap.size, 7, none⟩ (.string ⟨#[]⟩)).setCell ⟨w.heap.size, 8, none⟩ (.int .i64 0)) = W9 at *
        have s0 := cell_of_block hb9 0
        have s1 := cell_of_block hb9 1
        have s2 := cell_of_block hb9 2
        have s3 := cell_of_block hb9 3
        have s4 := cell_of_block hb9 4
        have s5 := cell_of_block hb9 5
        have s6 := cell_of_block hb9 6
        have s7 := cell_of_block hb9 7
        have s8 := cell_of_block hb9 8
        refine bodyPost_ret (v := .tuple #[actV 0 0 0 ⟨#[]⟩ false 0 0 ⟨#[]⟩ 0, .int .i64 0]) (by simp [results, Tryz.results16, go_sem, s0, s1, s2, s3, s4, s5, s6, s7, s8]) rfl ?_
        exact ⟨.inr ⟨HN.out, rfl⟩, below_drew' hB9⟩
end Go.Proofs.YtkkiolljbklccaaGreatDoor

/- The law on a record that is read, walked. -/
namespace Go.Proofs.YtkkiolljbklccaaGreatDoor
open Go.RowKit
set_option linter.unusedVariables false
set_option linter.unusedSimpArgs false
/-- the two answers are one -/
theorem one_rec (s : ByteArray) : ∃ (k r p : Int) (nm : ByteArray) (o : Bool) (vk vn : Int) (vt : ByteArray) (m : Int) (N : Int), ∀ (w : World) (e : Ending) (w' : World), RgPost s w e w' → e = .returned (.tuple #[actV k r p nm o vk vn vt m, .int .i64 N]) ∧ Below w.heap.size w w' := by
  by_cases hx : ∃ k r p nm o vk vn vt m, Pl.TellsR s k r p nm o vk vn vt m
  · obtain ⟨k, r, p, nm, o, vk, vn, vt, m, ht⟩ := hx
    refine ⟨k, r, p, nm, o, vk, vn, vt, m, ((Pl.recT (Pl.actT k r p nm o vk vn vt m)).length : Int), ?_⟩
    rintro w e w' ⟨h, hB⟩
    rcases h with ⟨k', r', p', nm', o', vk', vn', vt', m', ht', rfl⟩ | ⟨hn, _⟩
    · obtain ⟨rfl, rfl, rfl, rfl, rfl, rfl, rfl, rfl, rfl⟩ := Pl.tells_rec_one ht ht'
      exact ⟨rfl, hB⟩
    · exact absurd ht (hn _ _ _ _ _ _ _ _ _)
  · refine ⟨0, 0, 0, ⟨#[]⟩, false, 0, 0, ⟨#[]⟩, 0, 0, ?_⟩
    rintro w e w' ⟨h, hB⟩
    rcases h with ⟨k', r', p', nm', o', vk', vn', vt', m', ht', _⟩ | ⟨_, rfl⟩
    · exact absurd ⟨_, _, _, _, _, _, _, _, _, ht'⟩ hx
    · exact ⟨rfl, hB⟩
set_option maxRecDepth 100000 in
set_option maxHeartbeats 1600000 in
theorem lawRecordGet (s : ByteArray) (hs : s.size ≤ maxLen) (w : World) (hT : Tab w) (hE : Errs w) (hM : MaxAt w) :
    Calls Tryz.prog 6 #[.string s] w fun e w' => e = .returned (.bool true) ∧ Below w.heap.size w w' := by
  unfold maxLen at hs
  by_cases hbig : 1048576 < s.size
  · go_enter Tryz.func6, Tryz.ntmps6
    go_wp2
    go_ret
    exact ⟨rfl, Below.refl _ _⟩
  · obtain ⟨k, r, p, nm, o, vk, vn, vt, m, N, ho⟩ := one_rec s
    have h1 : Hid (∀ W, Calls Tryz.prog 16 #[.string s] W fun e w' => e = .returned (.tuple #[actV k r p nm o vk vn vt m, .int .i64 N]) ∧ Below W.heap.size W w') := fun W => (specRecordGet_any s (by omega) W).mono fun e w' h => ho _ _ _ h
    have h2 : Hid (∀ W, Below w.heap.size w W → Calls Tryz.prog 17 #[.string s] W fun e w' => e = .returned (.tuple #[actV k r p nm o vk vn vt m, .int .i64 N]) ∧ Below W.heap.size W w') := fun W hW => (implRecordGet_any s (by omega) W (hT.later hW) (hE.later hW) (hM.later hW)).mono fun e w' h => ho _ _ _ h
    have h3 := hide (eqAct_any k r p nm o vk vn vt m)
    clear hT hE hM ho
    have hbb : (N != N) = false := by simp
    go_enter Tryz.func6, Tryz.ntmps6
    go_wp2_with fail
    refine (h1.out _).mono ?_
    rintro e w1 ⟨rfl, hB1⟩
    have HB1 := hide hB1
    clear hB1
    go_wp2_with fail
    refine (h2.out _ (HB1.out.alloc HB1.out.size _)).mono ?_
    rintro e w2 ⟨rfl, hB2⟩
    obtain ⟨bv, hbw, hltv⟩ := box_after hB2
    have v0 := cell_of_block bv 0
    have v1 := cell_of_block bv 1
    have v2 := cell_of_block bv 2
    have v3 := cell_of_block bv 3
    have v4 := cell_of_block bv 4
    have v5 := cell_of_block bv 5
    have v6 := cell_of_block bv 6
    have v7 := cell_of_block bv 7
    have v8 := cell_of_block bv 8
    simp only [List.getElem?_toArray, List.getElem?_cons_zero, List.getElem?_cons_succ] at v0 v1 v2 v3 v4 v5 v6 v7 v8
    have HB2 := hide (HB1.out.trans (hbw.mono HB1.out.size))
    clear hB2 bv hbw
    go_wp2_with fail
    refine (h3.out _).mono ?_
    rintro e w3 ⟨rfl, hB3⟩
    have HB3 := hide (HB2.out.trans ((box_after hB3).2.1.mono HB2.out.size))
    clear hB3
    go_wp2
    go_ret
    exact ⟨rfl, HB3.out⟩
end Go.Proofs.YtkkiolljbklccaaGreatDoor

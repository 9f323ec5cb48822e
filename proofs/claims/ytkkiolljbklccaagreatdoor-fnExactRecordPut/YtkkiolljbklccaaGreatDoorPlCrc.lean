/- Plain: the sum of a text, bit by bit. -/
import Derived.Test.YtkkiolljbklccaaGreatDoorPl
import Derived.Laws.BitsLemmas
namespace Go.Proofs.YtkkiolljbklccaaGreatDoor
open Go.RowKit
set_option linter.unusedVariables false
namespace Pl
def stp (c : Nat) : Nat := if c % 2 = 1 then (c / 2) ^^^ 3988292384 else c / 2
/-- n steps -/
def it : Nat → Nat → Nat
  | 0, c => c
  | n + 1, c => it n (stp c)
def crcL : List UInt8 → Nat → Nat
  | [], c => c
  | b :: t, c => crcL t (it 8 (c ^^^ b.toNat))
def crc (s : ByteArray) : Nat := crcL s.data.toList 4294967295 ^^^ 4294967295
theorem xor_lt {a b : Nat} (ha : a < 4294967296) (hb : b < 4294967296) : a ^^^ b < 4294967296 := Nat.xor_lt_two_pow (n := 32) ha hb
theorem stp_lt {c : Nat} (h : c < 4294967296) : stp c < 4294967296 := by
  unfold stp
  split
  · exact xor_lt (by omega) (by decide)
  · omega
theorem it_lt : ∀ (n : Nat) {c : Nat} (h : c < 4294967296), it n c < 4294967296
  | 0, c, h => h
  | n + 1, c, h => it_lt n (stp_lt h)
theorem crcL_lt : ∀ (l : List UInt8) {c : Nat} (h : c < 4294967296), crcL l c < 4294967296
  | [], c, h => h
  | b :: t, c, h => crcL_lt t (it_lt 8 (xor_lt h (by have := b.toNat_lt; omega)))
theorem crc_lt (s : ByteArray) : crc s < 4294967296 := xor_lt (crcL_lt _ (by decide)) (by decide)
theorem crcL_at (s : ByteArray) (k : Nat) (c : Nat) (h : k < s.size) : crcL (s.data.toList.drop k) c = crcL (s.data.toList.drop (k + 1)) (it 8 (c ^^^ (byteAt s k).toNat)) := by
  have h' : k < s.data.toList.length := by simpa using h
  rw [List.drop_eq_getElem_cons h']
  show crcL _ (it 8 (c ^^^ s.data.toList[k].toNat)) = _
  have : (byteAt s k).toNat = s.data.toList[k].toNat := by
    unfold byteAt
    rw [List.getElem?_eq_getElem h']
    simp
  rw [this]
theorem crcL_end (s : ByteArray) (k : Nat) (c : Nat) (h : s.size ≤ k) : crcL (s.data.toList.drop k) c = c := by
  rw [List.drop_of_length_le (by simpa using h)]
  rfl
theorem crc_known : crc ⟨#[49, 50, 51, 52, 53, 54, 55, 56, 57]⟩ = 3421780262 := by decide +kernel
theorem crc_none : crc ⟨#[]⟩ = 0 := by decide +kernel
end Pl
theorem xor_u32 (a b : Nat) (ha : a < 4294967296) (hb : b < 4294967296) : bits .xor .u32 (a : Int) (b : Int) = ((a ^^^ b : Nat) : Int) := by
  have hx := Pl.xor_lt ha hb
  have h1 : (BitVec.ofInt 32 (a : Int)).toNat = a := by
    rw [BitVec.ofInt_natCast, BitVec.toNat_ofNat]; exact Nat.mod_eq_of_lt (by omega)
  have h2 : (BitVec.ofInt 32 (b : Int)).toNat = b := by
    rw [BitVec.ofInt_natCast, BitVec.toNat_ofNat]; exact Nat.mod_eq_of_lt (by omega)
  show IntKind.u32.wrap ((BitVec.ofInt 32 (a : Int) ^^^ BitVec.ofInt 32 (b : Int)).toNat : Int) = _
  rw [BitVec.toNat_xor, h1, h2, IntKind.wrap_u32]
  omega
theorem xor_i64 (a b : Nat) (ha : a < 4294967296) (hb : b < 4294967296) : bits .xor .i64 (a : Int) (b : Int) = ((a ^^^ b : Nat) : Int) := by
  have hx := Pl.xor_lt ha hb
  have h1 : (BitVec.ofInt 64 (a : Int)).toNat = a := by
    rw [BitVec.ofInt_natCast, BitVec.toNat_ofNat]; exact Nat.mod_eq_of_lt (by omega)
  have h2 : (BitVec.ofInt 64 (b : Int)).toNat = b := by
    rw [BitVec.ofInt_natCast, BitVec.toNat_ofNat]; exact Nat.mod_eq_of_lt (by omega)
  show IntKind.i64.wrap ((BitVec.ofInt 64 (a : Int) ^^^ BitVec.ofInt 64 (b : Int)).toNat : Int) = _
  rw [BitVec.toNat_xor, h1, h2, IntKind.wrap_i64]
  omega
theorem and_u32 (a : Nat) (ha : a < 4294967296) : bits .and .u32 (a : Int) 1 = ((a % 2 : Nat) : Int) := by
  have h1 : (BitVec.ofInt 32 (a : Int)).toNat = a := by
    rw [BitVec.ofInt_natCast, BitVec.toNat_ofNat]; exact Nat.mod_eq_of_lt (by omega)
  show IntKind.u32.wrap ((BitVec.ofInt 32 (a : Int) &&& BitVec.ofInt 32 1).toNat : Int) = _
  rw [BitVec.toNat_and, h1, show (BitVec.ofInt 32 1).toNat = 1 by decide, Nat.and_one_is_mod, IntKind.wrap_u32]
  omega
theorem not_xor (a : Nat) (ha : a < 4294967296) : 4294967295 - a = a ^^^ 4294967295 := by
  have h : (~~~ BitVec.ofNat 32 a) = BitVec.ofNat 32 a ^^^ BitVec.ofNat 32 4294967295 := by
    ext i hi
    have h1 : (BitVec.ofNat 32 4294967295)[i] = true := by
      have : BitVec.ofNat 32 4294967295 = BitVec.allOnes 32 := by decide
      simp only [this, BitVec.getElem_allOnes]
    rw [BitVec.getElem_not, BitVec.getElem_xor, h1, Bool.xor_true]
  have h2 := congrArg BitVec.toNat h
  rw [BitVec.toNat_not, BitVec.toNat_xor, BitVec.toNat_ofNat, BitVec.toNat_ofNat, Nat.mod_eq_of_lt (a := a) (by omega)] at h2
  simpa using h2
end Go.Proofs.YtkkiolljbklccaaGreatDoor

/- Plain mathematics of chapter 1: the checksum of a list of bytes. -/
import Derived.WalkKit
import Derived.Below
namespace Go.Proofs.Ythceffkkokgpnaa
/-- one step of the checksum -/
def ckStep (h : Int) (c : UInt8) : Int := (41 * h + c.toNat + 1) % 999979
def ck (l : List UInt8) : Int := l.foldl ckStep 7
theorem ck_nil : ck [] = 7 := rfl
theorem ck_snoc (l : List UInt8) (c : UInt8) : ck (l ++ [c]) = (41 * ck l + c.toNat + 1) % 999979 := by
  unfold ck; rw [List.foldl_append]; rfl
theorem ck_bd (l : List UInt8) : 0 ≤ ck l ∧ ck l < 999979 := by
  rcases List.eq_nil_or_concat l with rfl | ⟨r, c, rfl⟩
  · exact ⟨by decide, by decide⟩
  · rw [List.concat_eq_append, ck_snoc]; omega
theorem take_snoc (s : ByteArray) (k : Nat) (h : k < s.size) : s.data.toList.take (k + 1) = s.data.toList.take k ++ [s[k]] := by
  rw [List.take_succ_eq_append_getElem (by simpa using h)]; rfl
theorem ret_int {k : IntKind} {a b : Int} (h : a = b) : Ending.returned (.int k a) = .returned (.int k b) := by rw [h]
theorem take_all (s : ByteArray) (k : Nat) (h : s.size ≤ k) : s.data.toList.take k = s.data.toList :=
  List.take_of_length_le (by simpa using h)
end Go.Proofs.Ythceffkkokgpnaa

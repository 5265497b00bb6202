/- A slice of texts in memory, and its step over worlds that keep what lies below. -/
import Derived.Below
import Derived.Deep.OwnRows
import Derived.WalkKit
import Derived.Lib.Hide
import Derived.Test.YthceffkkokgpnaaJoinMath
namespace Go.Proofs.Ythceffkkokgpnaa
open Go.RowKit
/-- the slice's address leads to the texts l, in a block below B; of an empty list nothing is asked -/
def Strs (w : World) (B : Nat) (a : Option Addr) (l : List ByteArray) : Prop :=
  l = [] ∨ ∃ b o, a = some ⟨b, o, none⟩ ∧ b < B ∧ ∀ k (h : k < l.length), w.cell? ⟨b, o + k, none⟩ = some (.string l[k])
theorem Strs.at_ {w : World} {B : Nat} {a : Option Addr} {l : List ByteArray} (h : Strs w B a l) {k : Nat} (hk : k < l.length) :
    ∃ b o, a = some ⟨b, o, none⟩ ∧ b < B ∧ w.cell? ⟨b, o + k, none⟩ = some (.string l[k]) := by
  rcases h with rfl | ⟨b, o, e, hb, hc⟩
  · simp at hk
  · exact ⟨b, o, e, hb, hc k hk⟩
theorem Strs.below {w w' : World} {B C : Nat} {a : Option Addr} {l : List ByteArray} (h : Strs w B a l) (hb : Below C w w') (hB : B ≤ C) : Strs w' B a l := by
  rcases h with rfl | ⟨b, o, e, hlt, hc⟩
  · exact .inl rfl
  · exact .inr ⟨b, o, e, hlt, fun k hk => (hb.cell (p := ⟨b, o + k, none⟩) (by simp; omega)).trans (hc k hk)⟩
theorem Strs.more {w : World} {B C : Nat} {a : Option Addr} {l : List ByteArray} (h : Strs w B a l) (hB : B ≤ C) : Strs w C a l := by
  rcases h with rfl | ⟨b, o, e, hlt, hc⟩
  · exact .inl rfl
  · exact .inr ⟨b, o, e, by omega, hc⟩
theorem Strs.of_row {w : World} {g n : Nat} {t : TypeId} {f : Nat → Value} {l : List ByteArray} (h : w.rowIs g t n f) (hn : l.length = n) (hf : ∀ k (h : k < l.length), f k = .string l[k]) : Strs w (g + 1) (some ⟨g, 0, none⟩) l :=
  .inr ⟨g, 0, rfl, by omega, fun k hk => by rw [Nat.zero_add, h.cell (by omega), hf k hk]⟩
/-- the texts' bytes -/
def bs (l : List ByteArray) : List (List UInt8) := l.map (fun s => s.data.toList)
theorem bs_length (l : List ByteArray) : (bs l).length = l.length := by simp [bs]
theorem bs_take (l : List ByteArray) (k : Nat) : bs (l.take k) = (bs l).take k := by simp [bs, List.map_take]
theorem bs_snoc (l : List ByteArray) (k : Nat) (h : k < l.length) : bs (l.take (k + 1)) = bs (l.take k) ++ [l[k].data.toList] := by
  rw [snoc_take l k h]; unfold bs; rw [List.map_append]; rfl
theorem lenS_step (l : List ByteArray) (k : Nat) (h : k < l.length) : lenS (bs (l.take (k + 1))) = lenS (bs (l.take k)) + l[k].size := by
  rw [bs_snoc l k h, lenS_snoc]; simp
theorem lenS_le (l : List ByteArray) (k : Nat) : lenS (bs (l.take k)) ≤ lenS (bs l) := by rw [bs_take]; exact lenS_take _ _
/-- what the size of a list of texts leaves of a budget -/
def szR (l : List ByteArray) (left : Int) : Int := if ((l.length + lenS (bs l) : Nat) : Int) ≤ left then left - ((l.length + lenS (bs l) : Nat) : Int) else -1
theorem szR_over (l : List ByteArray) (left : Int) (k : Nat) (h : left < (l.length : Int) + (lenS (bs (l.take k)) : Int)) : szR l left = -1 := by
  have := lenS_le l k
  unfold szR; rw [if_neg (by omega)]
theorem szR_fit (l : List ByteArray) (left : Int) (h : (l.length : Int) + (lenS (bs l) : Int) ≤ left) : szR l left = left - (l.length : Int) - (lenS (bs l) : Int) := by
  unfold szR; rw [if_pos (by omega)]; omega
end Go.Proofs.Ythceffkkokgpnaa

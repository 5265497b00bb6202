/- The laws' own helpers on slices of texts: szStringS, toStringS, eqStringS. -/
import Derived.Test.YtnafnkilmiebiaaChecked
import Derived.Test.YtnafnkilmiebiaaMem
import Derived.WalkKit
import Derived.WalkLawsBesides
import Derived.WalkSpells
import Derived.Below
import Derived.Lib.Hide
import Derived.Deep.OwnRows
namespace Go.Proofs.Ytnafnkilmiebiaa
open Go.RowKit
set_option linter.unusedVariables false

theorem info_string : (Try.prog.info? 9).map (fun i => (i.zero, i.size, i.bytes)) = some (some (.string ByteArray.empty), 1, 16) := by kernel_rfl

/-- the row of texts that toStringS lays, k of them copied -/
def copied (l : List ByteArray) (k : Nat) (j : Nat) : Value := .string (if j < k then l.getD j ByteArray.empty else ByteArray.empty)
theorem copied_step (l : List ByteArray) (k : Nat) (h : k < l.length) (j : Nat) : (if j = k then Value.string l[k] else copied l k j) = copied l (k + 1) j := by
  unfold copied
  by_cases e : j = k
  · subst e; simp [h]
  · rw [if_neg e]
    by_cases e2 : j < k
    · rw [if_pos e2, if_pos (by omega)]
    · rw [if_neg e2, if_neg (by omega)]
theorem copied_all (l : List ByteArray) (n : Nat) (hn : l.length ≤ n) (k : Nat) (h : k < l.length) : copied l n k = .string l[k] := by
  unfold copied
  rw [if_pos (by omega)]
  simp [h]

end Go.Proofs.Ytnafnkilmiebiaa

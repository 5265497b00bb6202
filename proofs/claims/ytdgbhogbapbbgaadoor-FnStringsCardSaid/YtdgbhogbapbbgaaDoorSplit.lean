/- spec.l1Split: the pieces of a text between a byte, in memory of the call's own. -/
import Derived.Test.YtdgbhogbapbbgaaDoorChecked
import Derived.Test.YtdgbhogbapbbgaaDoorMemRow
import Derived.Test.YtdgbhogbapbbgaaDoorSplitMath
import Derived.WalkKit
import Derived.WalkLawsBesides
import Derived.WalkSpells
import Derived.Lib.Hide
import Derived.OwnWalk
import Derived.Maps.AppendAt
namespace Go.Proofs.YtdgbhogbapbbgaaDoor
open Go.RowKit
set_option linter.unusedVariables false
theorem infoStr : (Tryd.prog.info? 9).map (fun i => (i.zero, i.size, i.bytes)) = some (some (.string ByteArray.empty), 1, 16) := by kernel_rfl
theorem splitL_def (l : List UInt8) (c : Int) : splitL l c = (spSt l c).1 ++ [(spSt l c).2] := rfl
/-- lists of bytes as values of texts -/
def txt (l : List (List UInt8)) : List Value := l.map (fun x => .string ⟨x.toArray⟩)
theorem txt_length (l : List (List UInt8)) : (txt l).length = l.length := by simp [txt]
theorem txt_snoc (l : List (List UInt8)) (x : List UInt8) : txt (l ++ [x]) = txt l ++ [.string ⟨x.toArray⟩] := by simp [txt]
/-- the pieces lie in a row of the call's own -/
def SplitPost (l : List (List UInt8)) (w : World) (e : Ending) (w' : World) : Prop :=
  ∃ v, e = .returned v ∧ w'.ownsRow w.heap.size 9 1 v l.length (txt l) ∧ Below w.heap.size w w'

theorem own_below {w wr w1 : World} {o : Obj} {v : Value} {e : TypeId} {n : Nat} {xs : List Value} (hB : Below w.heap.size w wr) (ho : wr.ownsRow w.heap.size e 1 v n xs) (hg : (wr.alloc o).grownBy w1 v.ownBlock) : Below w.heap.size w w1 :=
  (hB.alloc hB.size o).grown hg (by have := hB.size; simp; omega) (fun k hk => (ho.lt k hk).1)

end Go.Proofs.YtdgbhogbapbbgaaDoor

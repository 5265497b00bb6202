/- SplitString, the program's, at a separator of one byte. -/
import Derived.Test.YtgfgimpglaepaabDoorSplitImpl
import Derived.Test.YtgfgimpglaepaabDoorClone
import Derived.Test.YtgfgimpglaepaabDoorSplit
namespace Go.Proofs.YtgfgimpglaepaabDoor
open Go.RowKit
set_option linter.unusedVariables false
/-- the pieces in a row of the call's own -/
def StPost (l : List (List UInt8)) (w : World) (e : Ending) (w' : World) : Prop :=
  ∃ v, e = .returned (.tuple #[v, .bool true]) ∧ w'.ownsRow w.heap.size 9 1 v l.length (txt l) ∧ Below w.heap.size w w'
theorem splitTo_yes (s sep : ByteArray) (w : World) (h1 : s.size ≤ 4000) (h2 : sep.size = 1) : Calls Tryd.prog 43 #[.string s, .string sep] w (StPost (splitL s.data.toList (sep[0].toNat : Int)) w) := by
  refine (callsIn_wide.1 (splitIn s sep w h1 h2 (fun x hx W => clone_is x W (by omega)))).mono ?_
  rintro e W' ⟨v, rfl, hown, hb⟩
  have e1 : (pieces s (sep[0].toNat : Int)).length = (splitL s.data.toList (sep[0].toNat : Int)).length := by unfold pieces; simp
  have e2 : (pieces s (sep[0].toNat : Int)).map Value.string = txt (splitL s.data.toList (sep[0].toNat : Int)) := by unfold txt pieces; rw [List.map_map]; rfl
  rw [e1, e2] at hown
  exact ⟨v, rfl, hown, hb⟩
set_option maxHeartbeats 1000000 in
theorem splitTo_no (s sep : ByteArray) (w : World) (h1 : 4000 < s.size) (h3 : s.size ≤ 1048576) : Calls Tryd.prog 43 #[.string s, .string sep] w fun e w' => (∃ v, e = .returned (.tuple #[v, .bool false])) ∧ Below w.heap.size w w' := by
  have hi : (4000 : Int) < (s.size : Int) := by omega
  go_enter Tryd.func43, Tryd.ntmps43
  go_wp2
  go_ret2
  exact ⟨⟨_, rfl⟩, (Below.refl _ _).alloc (Nat.le_refl _) _⟩
end Go.Proofs.YtgfgimpglaepaabDoor

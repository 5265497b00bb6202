/- A table and a bool are returned. -/
import Derived.Test.YthceffkkokgpnaaTabl
namespace Go.Proofs.Ythceffkkokgpnaa
open Go.RowKit
set_option linter.unusedVariables false
set_option linter.unusedSimpArgs false
/-- a table in memory of the call's own, and a bool -/
def TabPost (R : List (List Int)) (b : Bool) (w : World) (e : Ending) (w' : World) : Prop :=
  ∃ a c E, e = .returned (.tuple #[.slice a R.length c, .bool b]) ∧ Tabl w' w.heap.size w'.heap.size a E R ∧ Below w.heap.size w w'
theorem own_ne_row {w : World} {g base e n : Nat} {t : TypeId} {vs xs : List Value} {v : Value} (h : w.ownsRow base e 1 v n xs) (hr : Row w g t vs) (hne : e ≠ t) : v.ownBlock ≠ some g := by
  obtain ⟨c, h1, _⟩ := hr
  rcases h.2 with ⟨rfl, _⟩ | ⟨g', cap, cur, rfl, _, hh, _⟩
  · simp [Value.ownBlock]
  · intro he
    have : g' = g := by simpa [Value.ownBlock] using he
    subst this
    rw [h1] at hh
    injection hh with hh
    injection hh with _ ht
    exact hne ht.symm
end Go.Proofs.Ythceffkkokgpnaa

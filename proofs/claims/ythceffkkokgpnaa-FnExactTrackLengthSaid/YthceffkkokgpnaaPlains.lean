/- A row of fields, read as plain fields. -/
import Derived.Test.YthceffkkokgpnaaFlds
namespace Go.Proofs.Ythceffkkokgpnaa
open Go.RowKit
set_option linter.unusedVariables false
set_option linter.unusedSimpArgs false
abbrev Fv := Int × Int × List Int
def plains (es : List FE) : List Fv := es.map FE.plain
theorem plains_len (es : List FE) : (plains es).length = es.length := by simp [plains]
theorem plains_get (es : List FE) (j : Nat) (h : j < (plains es).length) (h2 : j < es.length) : (plains es)[j] = (es[j].wd, es[j].hg, es[j].l) := by simp [plains, FE.plain]
theorem plains_head (es : List FE) (h : 0 < es.length) : (plains es).headD (0, 0, []) = (es[0].wd, es[0].hg, es[0].l) := by
  cases es with
  | nil => simp at h
  | cons e r => rfl
end Go.Proofs.Ythceffkkokgpnaa

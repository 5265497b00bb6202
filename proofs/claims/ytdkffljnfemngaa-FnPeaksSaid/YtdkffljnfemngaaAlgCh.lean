/- A field under a rule for its values: changeValues. -/
import Derived.Test.YtdkffljnfemngaaAlgOf
namespace Go.Proofs.Ytdkffljnfemngaa
open Go.RowKit
set_option linter.unusedVariables false
set_option linter.unusedSimpArgs false
theorem cell_below {w w' : World} {b o : Nat} {v : Value} (h : w.cell? ⟨b, o, none⟩ = some v) (hb : b < w.heap.size) (k : Below w.heap.size w w') : w'.cell? ⟨b, o, none⟩ = some v := (k.cell (p := ⟨b, o, none⟩) hb).trans h
end Go.Proofs.Ytdkffljnfemngaa

/- Whether a list is a region: the model's and the program's answers are regB. -/
import Derived.Test.YtggdkibbfmjelaaRgnMath
import Derived.Test.YtggdkibbfmjelaaGood
import Derived.IntWalk
namespace Go.Proofs.Ytggdkibbfmjelaa
open Go.RowKit
set_option linter.unusedVariables false
set_option linter.unusedSimpArgs false
end Go.Proofs.Ytggdkibbfmjelaa

/- RegionAbove: the cells above a limit, the model's and the program's. -/
import Derived.Test.YtggdkibbfmjelaaRgnMath
import Derived.Test.YtggdkibbfmjelaaGood
import Derived.Test.YtggdkibbfmjelaaMake
import Derived.Test.YtggdkibbfmjelaaSvRet
namespace Go.Proofs.Ytggdkibbfmjelaa
open Go.RowKit
set_option linter.unusedVariables false
set_option linter.unusedSimpArgs false
end Go.Proofs.Ytggdkibbfmjelaa

/- A law's answer: a field in a box of the law's own, its box and cells between two bounds. -/
import Derived.Test.YtggdkibbfmjelaaFldsLaw
import Derived.Test.YtggdkibbfmjelaaFr
import Derived.Test.YtggdkibbfmjelaaRes
namespace Go.Proofs.Ytggdkibbfmjelaa
open Go.RowKit
set_option linter.unusedVariables false
theorem like_plain {es es' : List FE} (h1 : es'.length = es.length) (h2 : LikeF es' es) : es'.map FE.plain = es.map FE.plain := h2.plain h1
end Go.Proofs.Ytggdkibbfmjelaa

/- Later worlds (XLate), with what a function of fields knows (XFr). -/
import Derived.Test.YtggdkibbfmjelaaFr
import Derived.Test.YtggdkibbfmjelaaLate

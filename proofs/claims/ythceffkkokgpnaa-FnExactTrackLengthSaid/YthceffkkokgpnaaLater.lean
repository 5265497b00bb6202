/- Later worlds (XLate), with what a function of fields knows (XFr). -/
import Derived.Test.YthceffkkokgpnaaFr
import Derived.Test.YthceffkkokgpnaaLate

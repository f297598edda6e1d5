/- Chapter 2, plain facts: what an append puts, that a scan then tells it, and that a crash leaves what was committed. No program is named here. -/
import Derived.Test.YtcbfmjanjciodaaEX
import Derived.Test.YtcbfmjanjciodaaJ0
import Derived.Test.YtcbfmjanjciodaaCrashD
import Derived.Test.YtcbfmjanjciodaaFacts
namespace Go.Proofs.Ytcbfmjanjciodaa

end Go.Proofs.Ytcbfmjanjciodaa

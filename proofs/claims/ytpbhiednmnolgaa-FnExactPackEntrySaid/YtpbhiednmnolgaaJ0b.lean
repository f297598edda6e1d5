/- Chapter 2, plain facts: what an append puts, that a scan then tells it, and that a crash leaves what was committed. No program is named here. -/
import Derived.Test.YtpbhiednmnolgaaEX
import Derived.Test.YtpbhiednmnolgaaJ0
import Derived.Test.YtpbhiednmnolgaaCrashD
import Derived.Test.YtpbhiednmnolgaaFacts
namespace Go.Proofs.Ytpbhiednmnolgaa

end Go.Proofs.Ytpbhiednmnolgaa

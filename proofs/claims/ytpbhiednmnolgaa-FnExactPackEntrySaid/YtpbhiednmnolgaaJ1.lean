/- Chapter 2: sums and records: what the model's functions answer. -/
import Derived.Test.YtpbhiednmnolgaaEX
import Derived.Test.YtpbhiednmnolgaaPutS
import Derived.Test.YtpbhiednmnolgaaFacts
import Derived.Test.YtpbhiednmnolgaaJ0
namespace Go.Proofs.Ytpbhiednmnolgaa
open Go.RowKit

end Go.Proofs.Ytpbhiednmnolgaa

/- Numbers cloned by the program. -/
import Derived.Test.YtpbhiednmnolgaaEX
import Derived.Test.YtpbhiednmnolgaaYN
import Derived.Test.YtpbhiednmnolgaaZW
import Derived.Test.YtpbhiednmnolgaaXE
import Derived.Test.YtpbhiednmnolgaaP1
import Derived.Test.YtpbhiednmnolgaaYE
import Derived.Test.YtpbhiednmnolgaaXI
namespace Go.Proofs.Ytpbhiednmnolgaa
open Go.RowKit

end Go.Proofs.Ytpbhiednmnolgaa

/- Chapter 7: chunks of words, by both. -/
namespace Go.Proofs.Ytpbhiednmnolgaa
open Go.RowKit

end Go.Proofs.Ytpbhiednmnolgaa

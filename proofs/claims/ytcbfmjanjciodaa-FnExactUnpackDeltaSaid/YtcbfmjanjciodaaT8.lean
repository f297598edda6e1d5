/- Chapter 4: what the functions answer is right, and not great. -/
import Derived.Test.YtcbfmjanjciodaaZT
import Derived.Test.YtcbfmjanjciodaaZM
namespace Go.Proofs.Ytcbfmjanjciodaa
open Go.RowKit

end Go.Proofs.Ytcbfmjanjciodaa

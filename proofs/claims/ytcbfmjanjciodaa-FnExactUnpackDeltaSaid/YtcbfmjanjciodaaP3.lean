/- Chapter 3: blocks taken, shared and dropped: what the model answers. -/
import Derived.Test.YtcbfmjanjciodaaP2
namespace Go.Proofs.Ytcbfmjanjciodaa
open Go.RowKit

end Go.Proofs.Ytcbfmjanjciodaa

/- Chapter 3: new blocks: what the model answers. -/
import Derived.Test.YtcbfmjanjciodaaP2
namespace Go.Proofs.Ytcbfmjanjciodaa
open Go.RowKit

end Go.Proofs.Ytcbfmjanjciodaa

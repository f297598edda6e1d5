/- Chapter 4: what is so when the model's SetTree gives nodes back. -/
import Derived.Test.YtcbfmjanjciodaaZT
namespace Go.Proofs.Ytcbfmjanjciodaa
open Go.RowKit

end Go.Proofs.Ytcbfmjanjciodaa


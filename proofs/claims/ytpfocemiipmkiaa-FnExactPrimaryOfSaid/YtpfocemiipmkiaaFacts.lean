/- Small facts: what a disk without a fault has; a row of one pair. -/
import Derived.Test.YtpfocemiipmkiaaSpec1
import Derived.Test.YtpfocemiipmkiaaPutS
namespace Go.Proofs.Ytpfocemiipmkiaa
open Go.RowKit

theorem wrapI_same (n : Int) (h : -9223372036854775808 ≤ n ∧ n ≤ 9223372036854775807) : IntKind.i64.wrap n = n := by rw [IntKind.wrap_i64]; omega
end Go.Proofs.Ytpfocemiipmkiaa

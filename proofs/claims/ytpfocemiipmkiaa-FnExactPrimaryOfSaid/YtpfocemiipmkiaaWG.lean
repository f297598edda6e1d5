/- From the reading of an argument to replicas and mails. No program is named. -/
import Derived.Test.YtpfocemiipmkiaaXB
import Derived.Test.YtpfocemiipmkiaaWA
namespace Go.Proofs.Ytpfocemiipmkiaa
open Go.RowKit Go.ChangeShapes Go.WideShapes Go.Deep

section
variable {H : Type} {enc : TypeId × Value → H} {P : Program} {w : World}
end

end Go.Proofs.Ytpfocemiipmkiaa

/- Closed facts of the program's tables that the rows over replicas and mails ask. -/
namespace Go.Proofs.Ytpfocemiipmkiaa
end Go.Proofs.Ytpfocemiipmkiaa

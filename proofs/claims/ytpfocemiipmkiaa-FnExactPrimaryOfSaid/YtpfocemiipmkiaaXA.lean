/- Chapter 8: entries in memory: rows of six cells. -/
import Derived.Test.YtpfocemiipmkiaaZM
import Derived.Test.YtpfocemiipmkiaaYE
import Derived.Test.YtpfocemiipmkiaaO1
namespace Go.Proofs.Ytpfocemiipmkiaa
open Go.RowKit

abbrev En := Int × Int × Int × Int × Int × Int
def en0 : En := (0, 0, 0, 0, 0, 0)
def enF (x : En) (j : Nat) : Int := if j = 0 then x.1 else if j = 1 then x.2.1 else if j = 2 then x.2.2.1 else if j = 3 then x.2.2.2.1 else if j = 4 then x.2.2.2.2.1 else x.2.2.2.2.2
def sixs (xs : List En) : List Value := (List.range (xs.length * 6)).map fun j => .int .i64 (enF (xs.getD (j / 6) en0) (j % 6))
end Go.Proofs.Ytpfocemiipmkiaa

/- Chapter 8: entries copied and compared by the laws. -/
namespace Go.Proofs.Ytpfocemiipmkiaa
open Go.RowKit

end Go.Proofs.Ytpfocemiipmkiaa

/- Chapter 8: the fault of an entry, of the model and of the program. -/
namespace Go.Proofs.Ytpfocemiipmkiaa
open Go.RowKit

theorem decide_eq_false_eq {q : Prop} [Decidable q] : (decide q = false) = ¬ q := by simp
end Go.Proofs.Ytpfocemiipmkiaa

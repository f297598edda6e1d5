/- Chapter 9: entries and bools marked and held by the laws. -/
import Derived.Test.YtannjgdginfgeaaWA
import Derived.Test.YtannjgdginfgeaaXA
import Derived.Test.YtannjgdginfgeaaFacts
import Derived.Test.YtannjgdginfgeaaZA
import Derived.Test.YtannjgdginfgeaaWB
namespace Go.Proofs.Ytannjgdginfgeaa
open Go.RowKit

def mark6 (k : Int) (j : Nat) : En := (k + 6 * (j : Int), k + 6 * (j : Int) + 1, k + 6 * (j : Int) + 2, k + 6 * (j : Int) + 3, k + 6 * (j : Int) + 4, k + 6 * (j : Int) + 5)
def marks6 (k : Int) (n : Nat) : List En := (List.range n).map (mark6 k)
end Go.Proofs.Ytannjgdginfgeaa

/- Chapter 9: doers marked and held by the laws. -/
namespace Go.Proofs.Ytannjgdginfgeaa
open Go.RowKit

/-- the mark at which element i begins, where an element takes t marks beside its log -/
def kE (t : Int) (K : Nat → Hd) (k : Int) : Nat → Int
  | 0 => k
  | i + 1 => kE t K k i + t + 6 * ((K i).2.1 : Int)
def paM (t base : Int) (K : Nat → Hd) (k : Int) (L : Nat → List En) (i0 a : Nat) : List En := if a < i0 then marks6 (kE t K k a + base) (K a).2.1 else L a
def mkDF (K : Nat → Hd) (k : Int) (i c : Nat) : Value := [.bool ((kE 3 K k i) % 3 == 0), .int .i64 (kE 3 K k i + 1), hv (K i), .int .i64 (kE 3 K k i + 2 + 6 * ((K i).2.1 : Int))].getD c default
end Go.Proofs.Ytannjgdginfgeaa

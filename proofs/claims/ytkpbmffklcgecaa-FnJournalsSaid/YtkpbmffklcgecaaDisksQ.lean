/- The program's answers by what they are told to be. -/
import Derived.Test.YtkpbmffklcgecaaDisksP
namespace Go.Proofs.Ytkpbmffklcgecaa
open Go.RowKit

section
variable {o0 o1 o2 : Bool} {l0 u0 l1 u1 l2 u2 : Nat} (a0 a1 : Option Addr) (n0 c0 n1 c1 : Nat) (xs : List Int) (ys : List (Int × Int)) (w : World) (h0 : RowAt w o0 l0 u0 1 a0 n0 c0 (ints xs)) (h1 : RowAt w o1 l1 u1 2 a1 n1 c1 (pairs ys)) (hn : n0 ≤ 2097152) (hm : n1 ≤ 2097152)
include h0 h1 hn hm
theorem implCrash_f (a2 : Option Addr) (n2 c2 : Nat) (bs : List Bool) (h2 : RowAt w o2 l2 u2 1 a2 n2 c2 (bls bs)) (hq : n2 ≤ 2097152) (f : Int) (rs : List Int) (hf : faultOf xs ys = f) (hr : crashRes xs ys bs = rs) :
    Calls Try.prog 20 #[.agg #[.slice a0 n0 c0, .slice a1 n1 c1], .slice a2 n2 c2] w fun e w' => DiskRes w w' e f rs [] := by
  subst hf; subst hr; exact implCrash_any a0 a1 n0 c0 n1 c1 xs ys a2 n2 c2 bs w h0 h1 h2 hn hm hq
theorem implFlush_f (f : Int) (rs : List Int) (hf : faultOf xs ys = f) (hr : flushRes xs ys = rs) :
    Calls Try.prog 21 #[.agg #[.slice a0 n0 c0, .slice a1 n1 c1]] w fun e w' => DiskRes w w' e f rs [] := by
  subst hf; subst hr; exact implFlush_any a0 a1 n0 c0 n1 c1 xs ys w h0 h1 hn hm
theorem implAll_f (f : Int) (rs : List Int) (hf : faultOf xs ys = f) (hr : flushRes xs ys = rs) :
    Calls Try.prog 24 #[.agg #[.slice a0 n0 c0, .slice a1 n1 c1]] w fun e w' => IntsRes w w' e f rs := by
  subst hf; subst hr; exact implAll_any a0 a1 n0 c0 n1 c1 xs ys w h0 h1 hn hm
theorem implAt_f (x : Int) (f v : Int) (hf : atCode xs ys x = f) (hr : atVal xs ys x = v) :
    Calls Try.prog 26 #[.agg #[.slice a0 n0 c0, .slice a1 n1 c1], .int .i64 x] w fun e w' => e = .returned (.agg #[.int .i64 f, .int .i64 v]) ∧ Below w.heap.size w w' := by
  subst hf; subst hr; exact implAt_any a0 a1 n0 c0 n1 c1 xs ys x w h0 h1 hn hm
omit hn hm in
theorem implPut_f (hn' : n0 ≤ 1048576) (hm' : n1 ≤ 1048576) (x y f : Int) (rs : List Int) (qs : List (Int × Int)) (hf : putCode xs ys x y = f) (hr : putX xs ys x y = rs) (hq : putY xs ys x y = qs) :
    Calls Try.prog 27 #[.agg #[.slice a0 n0 c0, .slice a1 n1 c1], .int .i64 x, .int .i64 y] w fun e w' => DiskRes w w' e f rs qs := by
  subst hf; subst hr; subst hq; exact implPut_any a0 a1 n0 c0 n1 c1 xs ys x y w h0 h1 hn' hm'
theorem specFault_f (f : Int) (hf : faultOf xs ys = f) :
    Calls Try.prog 22 #[.agg #[.slice a0 n0 c0, .slice a1 n1 c1]] w fun e w' => e = .returned (.int .i64 f) ∧ Below w.heap.size w w' := by
  subst hf; exact specFault_any a0 a1 n0 c0 n1 c1 xs ys w h0 h1 hn hm
end
theorem implNew_f {o0 : Bool} {l0 u0 : Nat} (a0 : Option Addr) (n0 c0 : Nat) (xs : List Int) (w : World) (h0 : RowAt w o0 l0 u0 1 a0 n0 c0 (ints xs)) (hn : n0 ≤ 2097152) (f : Int) (rs : List Int) (hf : newCode xs = f) (hr : newList xs = rs) :
    Calls Try.prog 28 #[.slice a0 n0 c0] w fun e w' => DiskRes w w' e f rs [] := by
  subst hf; subst hr; exact implNew_any a0 n0 c0 xs w h0 hn

end Go.Proofs.Ytkpbmffklcgecaa

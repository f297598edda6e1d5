/- Numbers cloned by the program. -/
import Derived.Test.YtcbfmjanjciodaaEX
import Derived.Test.YtcbfmjanjciodaaYN
import Derived.Test.YtcbfmjanjciodaaZW
namespace Go.Proofs.Ytcbfmjanjciodaa
open Go.RowKit

set_option maxRecDepth 20000 in
set_option maxHeartbeats 1000000 in
theorem cloneI_is {o : Bool} {l u : Nat} (ab : Option Addr) (nb cb : Nat) (bs : List Int) (w : World) (h : RowAt w o l u 1 ab nb cb (ints bs)) (hn : nb ≤ 1048576) :
    Calls Try.prog 93 #[.slice ab nb cb] w fun e w' => ∃ ra rc, e = .returned (.slice ra nb rc) ∧ RowAt w' true w.heap.size w'.heap.size 1 ra nb rc (ints bs) ∧ Below w.heap.size w w' := by
  obtain ⟨j0, hj0, hy0, hy1, hy2⟩ := info_parts Try.info2'
  have hq : ∀ W, (binOp .eql 32 (.slice ab nb cb) (.slice none 0 0)).run Try.prog W = .ok (.bool ab.isNone) W := fun W => Lib.run_eql_slice_nil W _ _ ab nb cb 0 0 Try.underlying32
  cases ab with
  | none =>
    simp only [Option.isNone_none] at hq
    have hz : nb = 0 := Decidable.byContradiction fun hne => by obtain ⟨_, _, e, _⟩ := h.cells hne; cases e
    subst hz
    have hbs : ints bs = [] := List.eq_nil_of_length_eq_zero (by have := h.len; omega)
    rw [hbs]
    go_enter Try.func93, Try.ntmps93
    go_wp2
    go_ret
    exact ⟨none, 0, rfl, RowAt.nil _ _ _ _ _, Below.refl _ _⟩
  | some ad =>
    simp only [Option.isNone_some] at hq
    have B3 : Below w.heap.size w (w.alloc (.cells #[] 2)) := (Below.refl _ _).alloc (Nat.le_refl _) _
    obtain ⟨ad', cp, w4, hr4, R4, B4, -⟩ := run_append_fresh (P := Try.prog) (w.alloc (.cells #[] 2)) 32 32 2 j0 (.int .i64 0) 1 8 Try.underlying32 hj0 hy0 hy1 hy2 (by rw [hy1]; rfl) w.heap.size (some ad) nb cb (ints bs) (h.below B3) (ints_oneM bs) hn (by omega)
    go_enter Try.func93, Try.ntmps93
    go_wp2_with (at_builtin; refine Lib.wpList_append_run _ rfl _ _ _ _ rfl _ _ rfl rfl _ _ hr4 ?_)
    have B5 := below_next B3 B4
    have R5 : RowAt w4 true w.heap.size w4.heap.size 1 (some ad') nb cp (ints bs) := R4.widen (by simp) (Nat.le_refl _)
    clear B3 B4 R4 hr4
    go_wp2
    go_ret
    exact ⟨some ad', cp, rfl, R5, B5⟩

end Go.Proofs.Ytcbfmjanjciodaa

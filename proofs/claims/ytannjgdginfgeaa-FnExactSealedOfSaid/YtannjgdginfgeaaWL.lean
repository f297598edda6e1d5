/- Chapter 9: lists cloned by the program, each into new memory. -/
import Derived.Test.YtannjgdginfgeaaWB
import Derived.Test.YtannjgdginfgeaaPutS
import Derived.Lib.AppendZeros
namespace Go.Proofs.Ytannjgdginfgeaa
open Go.RowKit

/-- a list that was cloned: its row lies in new memory -/
def CloR (w w' : World) (e : Ending) (sz n : Nat) (cs : List Value) : Prop := ∃ ra rc z u, e = .returned (.slice ra n rc) ∧ w.heap.size ≤ z ∧ z ≤ u ∧ u ≤ w'.heap.size ∧ RowAt w' true z u sz ra n rc cs ∧ Below w.heap.size w w'
theorem sixs_oneX (xs : List En) : ∀ u ∈ sixs xs, u.oneCell' = true := fun u hu => by
  obtain ⟨j, _, rfl⟩ := List.mem_map.1 hu; rfl
set_option maxRecDepth 20000 in
set_option maxHeartbeats 1000000 in
theorem cloneE_z {o : Bool} {l u : Nat} (ab : Option Addr) (nb cb : Nat) (xs : List En) (w : World) (h : RowAt w o l u 6 ab nb cb (sixs xs)) (hn : nb ≤ 1048576) :
    Calls Try.prog 52 #[.slice ab nb cb] w fun e w' => CloR w w' e 6 nb (sixs xs) := by
  obtain ⟨j0, hj0, hy0, hy1, hy2⟩ := info_parts Try.infoEntry
  have hq : ∀ W, (binOp .eql 31 (.slice ab nb cb) (.slice none 0 0)).run Try.prog W = .ok (.bool ab.isNone) W := fun W => Lib.run_eql_slice_nil W _ _ ab nb cb 0 0 Try.underlying31
  cases ab with
  | none =>
    simp only [Option.isNone_none] at hq
    have hz : nb = 0 := Decidable.byContradiction fun hne => by obtain ⟨_, _, e, _⟩ := h.cells hne; cases e
    subst hz
    have hbs : (sixs xs) = [] := List.eq_nil_of_length_eq_zero (by have := h.len; omega)
    rw [hbs]
    go_enter Try.func52, Try.ntmps52
    go_wp2
    go_ret
    exact ⟨none, 0, _, _, rfl, Nat.le_refl _, Nat.le_refl _, Nat.le_refl _, RowAt.nil _ _ _ _ _, Below.refl _ _⟩
  | some ad =>
    simp only [Option.isNone_some] at hq
    have B3 : Below w.heap.size w (w.alloc (.cells #[] 73)) := (Below.refl _ _).alloc (Nat.le_refl _) _
    obtain ⟨ad', cp, w4, hr4, R4, B4, -⟩ := run_append_fresh (P := Try.prog) (w.alloc (.cells #[] 73)) 31 31 73 j0 (.agg #[.int .i64 0, .int .i64 0, .int .i64 0, .int .i64 0, .int .i64 0, .int .i64 0]) 6 48 Try.underlying31 hj0 hy0 hy1 hy2 (by rw [hy1]; rfl) w.heap.size (some ad) nb cb (sixs xs) (h.below B3) (sixs_oneX xs) hn (by omega)
    go_enter Try.func52, Try.ntmps52
    go_wp2_with (at_builtin; refine Lib.wpList_append_run _ rfl _ _ _ _ rfl _ _ rfl rfl _ _ hr4 ?_)
    have B5 := below_next B3 B4
    have R5 : RowAt w4 true w.heap.size w4.heap.size 6 (some ad') nb cp (sixs xs) := R4.widen (by simp) (Nat.le_refl _)
    clear B3 B4 R4 hr4
    go_wp2
    go_ret
    exact ⟨some ad', cp, _, _, rfl, Nat.le_refl _, B5.size, Nat.le_refl _, R5, B5⟩
end Go.Proofs.Ytannjgdginfgeaa

/- Chapter 9: doers copied by the program, each log into new memory. -/
namespace Go.Proofs.Ytannjgdginfgeaa
open Go.RowKit

end Go.Proofs.Ytannjgdginfgeaa

/- Chapter 9: a replica copied by the program; a node that is about to change. -/
namespace Go.Proofs.Ytannjgdginfgeaa
open Go.RowKit

end Go.Proofs.Ytannjgdginfgeaa

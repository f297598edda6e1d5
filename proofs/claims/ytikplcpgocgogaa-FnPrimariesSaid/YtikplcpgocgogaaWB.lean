/- Chapter 9: doers copied, compared and counted by the laws. -/
import Derived.Test.YtikplcpgocgogaaWA
import Derived.Test.YtikplcpgocgogaaXA
namespace Go.Proofs.Ytikplcpgocgogaa
open Go.RowKit

theorem RowAt.tightG {w : World} {own : Bool} {lo hi size g o n cap : Nat} {cs : List Value} (h : RowAt w own lo hi size (some ⟨g, o, none⟩) n cap cs) : RowAt w own g (g + 1) size (some ⟨g, o, none⟩) n cap cs := by
  refine ⟨h.len, h.le, fun hn => ?_⟩
  obtain ⟨b, off, e, h1, h2, h3, h4, h5⟩ := h.cells hn
  simp only [Option.some.injEq, Addr.mk.injEq, and_true] at e
  obtain ⟨rfl, rfl⟩ := e
  exact ⟨_, _, rfl, Nat.le_refl _, Nat.lt_succ_self _, h3, h4, h5⟩
theorem ElsAt.newLog {sz : Nat} {w : World} {lo hi : Nat} {ao : Option Addr} {n cap : Nat} {F : Nat → Nat → Value} {K : Nat → Hd} {L : Nat → List En} (h : ElsAt sz w true lo hi ao n cap F K L) (i : Nat) (hd : Hd) (xs : List En) (hr : RowAt w true lo hi 6 hd.1 hd.2.1 hd.2.2 (sixs xs)) (hs : hd.2.1 ≠ 0 → ∀ k, inE ao n K k → k ≠ sb hd.1) :
    ElsAt sz w true lo hi ao n cap F (fun j => if j = i then hd else K j) (fun j => if j = i then xs else L j) := by
  refine ⟨h.row, fun q hq => ?_, fun _ q hq h0 => ?_⟩
  · by_cases e : q = i
    · subst e; simp only [if_true]; exact hr
    · simp only [if_neg e]; exact h.logs q hq
  · by_cases e : q = i
    · subst e
      simp only [if_true] at h0 ⊢
      refine ⟨fun e => hs h0 _ (Or.inl ⟨by omega, rfl⟩) e.symm, fun j hj hne h1 => ?_⟩
      rw [if_neg hne] at h1 ⊢
      exact hs h0 _ (Or.inr ⟨j, hj, h1, rfl⟩)
    · simp only [if_neg e] at h0 ⊢
      refine ⟨(h.sep rfl q hq h0).1, fun j hj hne h1 => ?_⟩
      by_cases e2 : j = i
      · subst e2
        simp only [if_true] at h1 ⊢
        exact fun x => hs h1 _ (Or.inr ⟨q, hq, h0, rfl⟩) x.symm
      · simp only [if_neg e2] at h1 ⊢
        exact (h.sep rfl q hq h0).2 j hj hne h1
def paL (ds : List Dr) (k i : Nat) : List En := if i < k then drL ds i else []
def kd0 : Nat → Hd := fun _ => (none, 0, 0)
theorem Try.infoDoer : (Try.prog.info? 52).map (fun i => (i.zero, i.size, i.bytes)) = some (some (.agg #[.bool false, .int .i64 0, .slice none 0 0, .int .i64 0]), 4, 48) := by kernel_rfl
end Go.Proofs.Ytikplcpgocgogaa

/- Chapter 9: replicas copied, compared and counted by the laws. -/
namespace Go.Proofs.Ytikplcpgocgogaa
open Go.RowKit

end Go.Proofs.Ytikplcpgocgogaa

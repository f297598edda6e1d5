/- Where the draws stand; and what they answer. -/
import Derived.Test.YtikplcpgocgogaaXF
import Derived.Test.YtikplcpgocgogaaFacts
namespace Go.Proofs.Ytikplcpgocgogaa
open Go.RowKit

/-- where the draws stand: the source and its bytes -/
structure SB (W : World) (g p : Nat) (ac : Option Addr) (nc cc : Nat) (bs : List Nat) : Prop where
  src : SrcAt W g p ac nc cc
  row : ∃ o lo hi, RowAt W o lo hi 1 ac nc cc (bys bs) ∧ (hi ≤ g ∨ g < lo)
  byte : ∀ i, bs.getD i 0 < 256
  few : nc ≤ 1048576
section
variable {W : World} {g p : Nat} {ac : Option Addr} {nc cc : Nat} {bs : List Nat}
theorem SB.move (h : SB W g p ac nc cc bs) {W' : World} {p' : Nat} (hk : Kept g (g + 1) W W') (hs : SrcAt W' g p' ac nc cc) : SB W' g p' ac nc cc bs := by
  obtain ⟨o, lo, hi, r, d⟩ := h.row
  exact ⟨hs, ⟨o, lo, hi, r.kept hk (by omega), d⟩, h.byte, h.few⟩
theorem SB.below (h : SB W g p ac nc cc bs) {W' : World} (hb : Below W.heap.size W W') : SB W' g p ac nc cc bs := h.move (Kept.of_below hb) (h.src.below hb)
theorem next_sb (h : SB W g p ac nc cc bs) (n : Nat) {N : Int} (hN : N = (n : Int)) (hn0 : 0 < n) (hn : n ≤ 200) (hp : p ≤ 100000) :
    Calls Try.prog 110 #[.pointer (some ⟨g, 0, none⟩), .int .i64 N] W fun e w' => ∃ v : Nat, v < n ∧ e = .returned (.int .i64 v) ∧ SB w' g (p + 1) ac nc cc bs ∧ Kept g (g + 1) W w' ∧ w'.heap.size = W.heap.size := by
  obtain ⟨o, lo, hi, r, d⟩ := h.row
  subst hN
  refine (l1Next_any ac nc cc bs g p n W h.src r h.byte d hp hn0 hn h.few).mono ?_
  rintro e w' ⟨v, hv, rfl, s, k, z⟩
  exact ⟨v, hv, rfl, h.move k s, k, z⟩
theorem chance_sb (h : SB W g p ac nc cc bs) (n : Nat) {N : Int} (hN : N = (n : Int)) (hn0 : 0 < n) (hn : n ≤ 200) (hp : p ≤ 100000) :
    Calls Try.prog 42 #[.pointer (some ⟨g, 0, none⟩), .int .i64 N] W fun e w' => ∃ b : Bool, e = .returned (.bool b) ∧ SB w' g (p + 1) ac nc cc bs ∧ Kept g (g + 1) W w' ∧ w'.heap.size = W.heap.size := by
  obtain ⟨o, lo, hi, r, d⟩ := h.row
  subst hN
  refine (l1Chance_any ac nc cc bs g p n W h.src r h.byte d hp hn0 hn h.few).mono ?_
  rintro e w' ⟨v, rfl, s, k, z⟩
  exact ⟨v, rfl, h.move k s, k, z⟩
theorem Kept.low {lo hi : Nat} {a w w' : World} (h : Kept lo hi a w) (hb : Below a.heap.size w w') : Kept lo hi a w' := ⟨hb.os.trans h.os, hb.tape.trans h.tape, hb.output.trans h.output, Nat.le_trans h.size hb.size, fun k hk hd => (hb.block k hk).trans (h.block k hk hd)⟩
theorem SrcAt.low {B : Nat} {w w' : World} (h : SrcAt w g p ac nc cc) (hb : Below B w w') (hg : g < B) : SrcAt w' g p ac nc cc := by unfold SrcAt; rw [hb.block g hg]; exact h
theorem SB.lt (h : SB W g p ac nc cc bs) : g < W.heap.size := h.src.lt
end


end Go.Proofs.Ytikplcpgocgogaa

/- What the draws answer of great numbers; what they pick. -/
namespace Go.Proofs.Ytikplcpgocgogaa
open Go.RowKit

section
variable {W : World} {g p : Nat} {ac : Option Addr} {nc cc : Nat} {bs : List Nat}
theorem pick_sb (h : SB W g p ac nc cc bs) (n : Nat) {N : Nat} (hN : N = n) (hn0 : 0 < n) (hn : n ≤ 200) (hp : p ≤ 100000) {o2 : Bool} {l2 u2 : Nat} (al : Option Addr) (cl : Nat) (zs : List Int) (hl : RowAt W o2 l2 u2 1 al n cl (ints zs)) (hd2 : u2 ≤ g ∨ g < l2) :
    Calls Try.prog 111 #[.pointer (some ⟨g, 0, none⟩), .slice al N cl] W fun e w' => ∃ v : Int, e = .returned (.int .i64 v) ∧ SB w' g (p + 1) ac nc cc bs ∧ Kept g (g + 1) W w' ∧ w'.heap.size = W.heap.size := by
  obtain ⟨o, lo, hi, r, d⟩ := h.row
  subst hN
  refine (l1Pick_any ac nc cc bs g p N W h.src r h.byte d hp hn0 hn h.few al cl zs hl hd2).mono ?_
  rintro e w' ⟨v, rfl, s, k, z⟩
  exact ⟨v, rfl, h.move k s, k, z⟩
end

end Go.Proofs.Ytikplcpgocgogaa

/- Chapter 11: a cluster of the model that is about to change. No function is named here. -/
import Derived.Test.YtclghfoinologaaGreatCS1
import Derived.Defers
import Derived.Laws.Pointers
set_option maxRecDepth 20000
set_option maxHeartbeats 16000000
namespace Go.Proofs.YtclghfoinologaaGreat
open Go.RowKit
structure LiveM (W : World) (T : TypeId) (lo base b : Nat) (N M S : Hd) (xs : List Nod) (ys : List Mal) (es : List En) : Prop where
 bx : Bx W b [.slice N.1 N.2.1 N.2.2, .slice M.1 M.2.1 M.2.2, .slice S.1 S.2.1 S.2.2]
 bb : base ≤ b
 lb : lo ≤ base
 nodes : NAt W false lo W.heap.size N xs
 mails : MGr W T base W.heap.size M ys
 slog : RowAt W false base W.heap.size 6 S.1 S.2.1 S.2.2 (sixs es)
 sNM : Sep (inL nodeK N.1 N.2.1 xs) (inV M ys)
 sMS : Sep (inV M ys) (hR S)
 bN : ¬ inL nodeK N.1 N.2.1 xs b
 bM : ¬ inV M ys b
 bS : ¬ hR S b
 sz : ClSz N M S xs ys 1048576
section
variable {W W2 W3 : World} {T : TypeId} {lo base b : Nat} {N M S : Hd} {xs : List Nod} {ys : List Mal} {es : List En}
end
theorem l11Bad_is (c : Int) (w : World) : Calls Tryz.prog 21 #[.int .i64 c] w fun e w' => e = .returned (.agg #[.int .i64 c, .slice none 0 0, .slice none 0 0, .slice none 0 0]) ∧ Below w.heap.size w w' := by
 go_enter Tryz.func21, Tryz.ntmps21
 go_wp2_with (first | ((with_reducible refine sm 38 X0 0 [.int .i64 c, .slice none 0 0, .slice none 0 0, .slice none 0 0] ?_);intro V1 S;replace X0 : Bx V1 b0 [.int .i64 c, .slice none 0 0, .slice none 0 0, .slice none 0 0] := S.bx;replace c0 := X0.cell;replace f0 := X0.froz;replace B := bkp B S.kept;clear S) | ((with_reducible refine al 38 [.int .i64 0, .slice none 0 0, .slice none 0 0, .slice none 0 0] ?_);intro b0 W0 N0;have ob0 := N0.ge;have B := N0.below;obtain ⟨X0, c0, f0⟩ := N0.a;clear N0))
 refine bodyPost_ret (v := .agg #[.int .i64 c, .slice none 0 0, .slice none 0 0, .slice none 0 0]) (by simp [results, Tryz.results21, go_sem, *]) rfl ⟨rfl, B⟩
def DoM (l0 : Nat) (w w' : World) (e : Ending) (cd : Int) (rs : List Rep) (ms : List Ml) (es : List En) : Prop := ∃ (N M S : Hd) (xs : List Nod) (ys : List Mal), e = .returned (.agg #[.int .i64 cd, .slice N.1 N.2.1 N.2.2, .slice M.1 M.2.1 M.2.2, .slice S.1 S.2.1 S.2.2]) ∧ ClAt w' false l0 w'.heap.size N M S xs ys es ∧ ClSz N M S xs ys 1048576 ∧ xs.map (·.1) = rs ∧ ys.map (·.1) = ms ∧ Below w.heap.size w w'
def numN (A P L : Bool) (m : Ml) : Prop := (A = true → 0 ≤ m.at_ ∧ m.at_ ≤ 40) ∧ (P = true → 0 ≤ m.commit ∧ m.commit ≤ 40) ∧ (L = true → 0 ≤ m.last ∧ m.last ≤ m.view)
instance (A P L : Bool) (m : Ml) : Decidable (numN A P L m) := by unfold numN; infer_instance
end Go.Proofs.YtclghfoinologaaGreat

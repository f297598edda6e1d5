/- Boxes by one fact: a new variable in a region that draws its order. No program is named here. -/
import Derived.Test.YtonclmbihhdkpaaGreatQAF
import Derived.Test.YtonclmbihhdkpaaGreatQAB
import Derived.Deep.MidRow
import Derived.Deep.RegionHeld3
import Derived.Deep.WholeRow
import Derived.Test.YtonclmbihhdkpaaGreatQAE
set_option maxRecDepth 20000
set_option maxHeartbeats 16000000
namespace Go.Proofs.YtonclmbihhdkpaaGreat
open Go.RowKit
theorem step_allocX {P : Program} {ops : Array Oper} {dst : Option Tmp} {type : TypeId} {pos : String} {after : Array Edge} {a : Act} {w : World} {K : Act → World → Prop} {Q : Exit → Act → World → Prop} {E : Prop} (ty : TypeId) (cs : List Value) (hz : ∀ w, (zeroValue ty).run P w = .ok (.agg cs.toArray) w)
  (h : ∀ (b : Nat) (W : World), NewX w W b cs → K (a.put dst (.pointer (some ⟨b, 0, none⟩))) W) : if Region.wanted ⟨dst, .alloc ty, type, pos, after, none⟩ (yielded ops a.tmps) = true then Oper.wp P ⟨dst, .alloc ty, type, pos, after, none⟩ a w K Q else E := by
 have hw : Region.wanted ⟨dst, .alloc ty, type, pos, after, none⟩ (yielded ops a.tmps) = true := by simp [Region.wanted]
 rw [if_pos hw]
 unfold Oper.wp execOp
 go_simp
 exact h _ _ (by simpa using newX_mk w cs.toArray ty)
theorem lwBig_is (ac : Option Addr) (nc cc : Nat) (w : World) (d : Bool) (h : decide (1048576 < nc) = d) : Calls Tryz.prog 8 #[.slice ac nc cc] w fun e w' => e = .returned (.bool d) ∧ w' = w := by
 rw [← h]
 go_enter Tryz.func8, Tryz.ntmps8
 go_wp2
 go_ret
 exact ⟨ret_bool (by simp; omega), rfl⟩
end Go.Proofs.YtonclmbihhdkpaaGreat
namespace Go.Proofs.YtonclmbihhdkpaaGreat
open Go.RowKit Go.ChangeShapes Go.WideShapes Go.Deep
section
variable {H : Type} {enc : TypeId × Value → H} {P : Program} {w : World}
def EnTy (P : Program) (e : TypeId) : Prop := ∃ f0 f1 f2 g0 g1 g2 g3 : Field, P.underlying e = some (.struct #[f0, f1, f2]) ∧ (f0.offset = 0 ∧ f1.offset = 1 ∧ f2.offset = 2) ∧ (P.cellsOf e = 6 ∧ P.cellsOf f0.type = 1 ∧ P.cellsOf f1.type = 1 ∧ P.cellsOf f2.type = 4) ∧
 (P.underlying f0.type = some (.int .i64) ∧ P.underlying f1.type = some (.int .i64) ∧ P.underlying f2.type = some (.struct #[g0, g1, g2, g3])) ∧ (g0.offset = 0 ∧ g1.offset = 1 ∧ g2.offset = 2 ∧ g3.offset = 3) ∧
 (P.cellsOf g0.type = 1 ∧ P.cellsOf g1.type = 1 ∧ P.cellsOf g2.type = 1 ∧ P.cellsOf g3.type = 1) ∧ (P.underlying g0.type = some (.int .i64) ∧ P.underlying g1.type = some (.int .i64) ∧ P.underlying g2.type = some (.int .i64) ∧ P.underlying g3.type = some (.int .i64))
end
end Go.Proofs.YtonclmbihhdkpaaGreat

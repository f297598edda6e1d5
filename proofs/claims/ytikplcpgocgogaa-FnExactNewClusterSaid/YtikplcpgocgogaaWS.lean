/- Chapter 9: a node that asks for a view; how many ask; the others. -/
import Derived.Test.YtikplcpgocgogaaWR
import Derived.Deep.DeepCutAuto
import Derived.Deep.RegionLaw
namespace Go.Proofs.Ytikplcpgocgogaa
open Go.RowKit

end Go.Proofs.Ytikplcpgocgogaa

/- Chapter 9: the others of a node. -/
namespace Go.Proofs.Ytikplcpgocgogaa
open Go.RowKit

end Go.Proofs.Ytikplcpgocgogaa

/- Chapter 9: a mail is sent. -/
namespace Go.Proofs.Ytikplcpgocgogaa
open Go.RowKit

end Go.Proofs.Ytikplcpgocgogaa

/- Chapter 9: all others are asked for the view. -/
namespace Go.Proofs.Ytikplcpgocgogaa
open Go.RowKit

end Go.Proofs.Ytikplcpgocgogaa

/- Chapter 9: a node that becomes normal; TimeoutReplica of the program. -/
namespace Go.Proofs.Ytikplcpgocgogaa
open Go.RowKit

end Go.Proofs.Ytikplcpgocgogaa

/- Chapter 9: a replica that asks for a view, one that is normal, and mails that ask, by the model. -/
namespace Go.Proofs.Ytikplcpgocgogaa
open Go.RowKit

theorem step_litX {P : Program} {ops : Array Oper} {dst : Option Tmp} {type : TypeId} {pos : String} {after : Array Edge} {a : Act} {w : World} {K : Act → World → Prop} {Q : Exit → Act → World → Prop} {E : Prop} (t : TypeId) (n : Nat) (parts : Array (Nat × Operand)) (cs : List Value) (T : TypeId) (hb : ∀ w : World, (Instr.buildSlice t n (parts.map fun (i, x) => (i, a.eval x))).run P w = .ok (.slice (some ⟨w.heap.size, 0, none⟩) n n) (w.alloc (.cells cs.toArray T)))
    (h : ∀ (b : Nat) (W : World), NewX w W b cs → K (a.put dst (.slice (some ⟨b, 0, none⟩) n n)) W) : if Region.wanted ⟨dst, .buildSlice t n parts, type, pos, after, none⟩ (yielded ops a.tmps) = true then Oper.wp P ⟨dst, .buildSlice t n parts, type, pos, after, none⟩ a w K Q else E := by
  have hw : Region.wanted ⟨dst, .buildSlice t n parts, type, pos, after, none⟩ (yielded ops a.tmps) = true := by simp [Region.wanted]
  rw [if_pos hw]
  have hK2 := h _ _ (by simpa using newX_mk w cs.toArray T)
  have hb' : (Instr.buildSlice t n (Array.map (fun x => (x.fst, a.eval x.snd)) parts)).run P w = _ := hb w
  unfold Oper.wp execOp
  simp only [Sem.run_bind, Sem.run_pure, Result.andThen_ok, hb']
  exact hK2
end Go.Proofs.Ytikplcpgocgogaa

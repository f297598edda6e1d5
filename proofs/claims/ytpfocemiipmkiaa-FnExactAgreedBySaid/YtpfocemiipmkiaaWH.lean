/- A replica copied by the laws: where it lies. -/
import Derived.Test.YtpfocemiipmkiaaEX
import Derived.Test.YtpfocemiipmkiaaWB
namespace Go.Proofs.Ytpfocemiipmkiaa
open Go.RowKit

theorem toReplica_z {own : Bool} {lo hi : Nat} (r : Rep) (h : RH) (w : World) (x : RepAt w own lo hi h r) (hs : RSz h 1048576) :
    Calls Try.prog 20 #[.agg #[.int .i64 r.id, .int .i64 r.size, .int .i64 r.view, .bool r.normal, .int .i64 r.last, .slice h.L.1 h.L.2.1 h.L.2.2, .int .i64 r.commit, .slice h.O.1 h.O.2.1 h.O.2.2, .slice h.A.1 h.A.2.1 h.A.2.2, .slice h.D.1 h.D.2.1 h.D.2.2]] w fun e w' => ∃ (z u : Nat) (h' : RH), e = .returned (.agg #[.int .i64 r.id, .int .i64 r.size, .int .i64 r.view, .bool r.normal, .int .i64 r.last, .slice h'.L.1 h'.L.2.1 h'.L.2.2, .int .i64 r.commit, .slice h'.O.1 h'.O.2.1 h'.O.2.2, .slice h'.A.1 h'.A.2.1 h'.A.2.2, .slice h'.D.1 h'.D.2.1 h'.D.2.2]) ∧ w.heap.size ≤ z ∧ u ≤ w'.heap.size ∧ RepAt w' true z u h' r ∧ RSz h' 1048576 ∧ Below w.heap.size w w' :=
  (toReplica_any r h w x hs).mono fun _ _ ⟨h', e1, y, z, b⟩ => ⟨_, _, h', e1, Nat.le_refl _, Nat.le_refl _, y, z, b⟩

end Go.Proofs.Ytpfocemiipmkiaa


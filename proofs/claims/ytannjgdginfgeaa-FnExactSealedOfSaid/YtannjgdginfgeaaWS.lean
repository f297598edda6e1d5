/- Chapter 9: a node that asks for a view; how many ask; the others. -/
import Derived.Test.YtannjgdginfgeaaWR
import Derived.Deep.DeepCutAuto
import Derived.Deep.RegionLaw
namespace Go.Proofs.Ytannjgdginfgeaa
open Go.RowKit

end Go.Proofs.Ytannjgdginfgeaa

/- Chapter 9: the others of a node. -/
namespace Go.Proofs.Ytannjgdginfgeaa
open Go.RowKit

def othL (i : Nat) : Nat → List Int
  | 0 => []
  | k + 1 => if k = i then othL i k else othL i k ++ [(k : Int)]
end Go.Proofs.Ytannjgdginfgeaa

/- Chapter 9: a mail is sent. -/
namespace Go.Proofs.Ytannjgdginfgeaa
open Go.RowKit

def putM (m : Ml) (fr tgt view : Int) : Ml := ⟨m.kind, fr, tgt, view, m.at_, m.has, m.en, m.last, m.log, m.commit⟩
end Go.Proofs.Ytannjgdginfgeaa

/- Chapter 9: all others are asked for the view. -/
namespace Go.Proofs.Ytannjgdginfgeaa
open Go.RowKit

end Go.Proofs.Ytannjgdginfgeaa

/- Chapter 9: a node that becomes normal; TimeoutReplica of the program. -/
namespace Go.Proofs.Ytannjgdginfgeaa
open Go.RowKit

end Go.Proofs.Ytannjgdginfgeaa

/- Chapter 9: a replica that asks for a view, one that is normal, and mails that ask, by the model. -/
namespace Go.Proofs.Ytannjgdginfgeaa
open Go.RowKit

end Go.Proofs.Ytannjgdginfgeaa

/- Chapter 9: mails that ask all others, by the model; TimeoutReplica of the model. -/
namespace Go.Proofs.Ytannjgdginfgeaa
open Go.RowKit

end Go.Proofs.Ytannjgdginfgeaa

/- Chapter 9: TimeoutReplica of the model. -/
namespace Go.Proofs.Ytannjgdginfgeaa
open Go.RowKit

theorem AnsAt.ro {w : World} {own : Bool} {lo hi : Nat} {h : RH} {s : Hd} {Km : Nat → Hd} {r : Rep} {ms : List Ml} (x : AnsAt w own lo hi h s Km r ms) : AnsAt w false lo hi h s Km r ms := ⟨x.rep.ro, ⟨x.send.len, x.send.els.ro⟩, fun q => by cases q⟩
theorem AnsAt.keptS {w w' : World} {own : Bool} {lo hi : Nat} {h : RH} {s : Hd} {Km : Nat → Hd} {r : Rep} {ms : List Ml} (x : AnsAt w own lo hi h s Km r ms) {S : Nat → Prop} (hk : KeptS S w w') (hd : Sep (inAns h s Km) S) : AnsAt w' own lo hi h s Km r ms := ⟨x.rep.keptS hk fun k q => hd k (Or.inl q), x.send.keptS hk fun k q => hd k (Or.inr q), x.sep⟩
end Go.Proofs.Ytannjgdginfgeaa

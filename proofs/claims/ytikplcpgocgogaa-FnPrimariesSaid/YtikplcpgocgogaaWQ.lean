/- Chapter 9: mails marked by the laws: plain. -/
import Derived.Test.YtikplcpgocgogaaWK
import Derived.Test.YtikplcpgocgogaaMark
import Derived.Test.YtikplcpgocgogaaMark2
import Derived.Test.YtikplcpgocgogaaWB
namespace Go.Proofs.Ytikplcpgocgogaa
open Go.RowKit

def mkMF (K : Nat → Hd) (k : Int) (i c : Nat) : Value := [.int .i64 (kE 14 K k i), .int .i64 (kE 14 K k i + 1), .int .i64 (kE 14 K k i + 2), .int .i64 (kE 14 K k i + 3), .int .i64 (kE 14 K k i + 4), .bool ((kE 14 K k i + 5) % 3 == 0), .int .i64 (kE 14 K k i + 6), .int .i64 (kE 14 K k i + 7), .int .i64 (kE 14 K k i + 8), .int .i64 (kE 14 K k i + 9), .int .i64 (kE 14 K k i + 10), .int .i64 (kE 14 K k i + 11), .int .i64 (kE 14 K k i + 12), hv (K i), .int .i64 (kE 14 K k i + 13 + 6 * ((K i).2.1 : Int))].getD c default
end Go.Proofs.Ytikplcpgocgogaa

/- Chapter 9: mails held by the laws. -/
namespace Go.Proofs.Ytikplcpgocgogaa
open Go.RowKit

end Go.Proofs.Ytikplcpgocgogaa

/- Chapter 9: mails marked by the laws. -/
namespace Go.Proofs.Ytikplcpgocgogaa
open Go.RowKit

end Go.Proofs.Ytikplcpgocgogaa

/- Chapter 9: bools marked and held by the laws; a replica's lists marked and held. -/
namespace Go.Proofs.Ytikplcpgocgogaa
open Go.RowKit

def marksB (k : Int) (n : Nat) : List Bool := (List.range n).map fun j : Nat => (k + (j : Int)) % 3 == 0
/-- where marks begin in a replica's lists -/
def mkO (h : RH) (k : Int) : Int := k + 6 * (h.L.2.1 : Int)
def mkA (h : RH) (k : Int) : Int := mkO h k + h.O.2.1
def mkD (h : RH) (k : Int) : Int := mkA h k + h.A.2.1
def mkEnd (h : RH) (k : Int) : Int := kE 3 h.K (mkD h k) h.D.2.1
/-- a replica's lists that are marked -/
structure MarkAt (w : World) (o : Bool) (lo hi : Nat) (h : RH) (k : Int) : Prop where
  log : RowAt w o lo hi 6 h.L.1 h.L.2.1 h.L.2.2 (sixs (marks6 k h.L.2.1))
  oks : RowAt w o lo hi 1 h.O.1 h.O.2.1 h.O.2.2 (ints (marks (mkO h k) h.O.2.1))
  asks : RowAt w o lo hi 1 h.A.1 h.A.2.1 h.A.2.2 (bls (marksB (mkA h k) h.A.2.1))
  doers : ElsAt 4 w o lo hi h.D.1 h.D.2.1 h.D.2.2 (mkDF h.K (mkD h k)) h.K (paM 3 2 h.K (mkD h k) (fun _ => []) h.D.2.1)
theorem MarkAt.below {w w' : World} {o : Bool} {lo hi : Nat} {h : RH} {k : Int} (m : MarkAt w o lo hi h k) (hb : Below w.heap.size w w') : MarkAt w' o lo hi h k := ⟨m.log.below hb, m.oks.below hb, m.asks.below hb, m.doers.below hb⟩
theorem MarkAt.kept {w w' : World} {o : Bool} {lo hi : Nat} {h : RH} {k : Int} (m : MarkAt w o lo hi h k) {l u : Nat} (hk : Kept l u w w') (hd : hi ≤ l ∨ u ≤ lo) : MarkAt w' o lo hi h k := ⟨m.log.kept hk hd, m.oks.kept hk hd, m.asks.kept hk hd, m.doers.kept hk hd⟩
theorem Sep.symm {S T : Nat → Prop} (h : Sep S T) : Sep T S := fun x a b => h x b a
end Go.Proofs.Ytikplcpgocgogaa

/- Chapter 9: what a node answers (a replica and mails) compared, marked and held by the laws. -/
namespace Go.Proofs.Ytikplcpgocgogaa
open Go.RowKit

theorem MailsAt.mailC {w : World} {own : Bool} {lo hi : Nat} {ao : Option Addr} {n cap : Nat} {K : Nat → Hd} {ms : List Ml} (h : MailsAt w own lo hi ao n cap K ms) {i : Nat} (hi' : i < n) :
    ∃ b off, ao = some ⟨b, off, none⟩ ∧ lo ≤ b ∧ b < hi ∧ b < w.heap.size ∧ (∀ j, j < 15 → w.cell? ⟨b, off + i * 15 + j, none⟩ = (mlV (K i) (ms.getD i ml0))[j]?) ∧ RowAt w own lo hi 6 (K i).1 (K i).2.1 (K i).2.2 (sixs (ms.getD i ml0).log) := by
  obtain ⟨b, off, e, h1, h2, h3, hc, _⟩ := h.els.el hi' (by omega)
  refine ⟨b, off, e, h1, h2, h3, fun j hj => ?_, h.els.logs i hi'⟩
  have := hc j hj
  rw [← Nat.add_assoc] at this
  rw [this, mlF, List.getD_eq_getElem?_getD, List.getElem?_eq_getElem (by simpa [mlV] using hj)]
  rfl
/-- what a node answers, in memory: its lists, and the mails that it sends, each in memory of its own where it is the call's own -/
structure AnsAt (w : World) (own : Bool) (lo hi : Nat) (h : RH) (s : Hd) (Km : Nat → Hd) (r : Rep) (ms : List Ml) : Prop where
  rep : RepAt w own lo hi h r
  send : MailsAt w own lo hi s.1 s.2.1 s.2.2 Km ms
  sep : own = true → Sep (inRep h) (inE s.1 s.2.1 Km)
structure ASz (h : RH) (s : Hd) (Km : Nat → Hd) (m : Nat) : Prop where
  rep : RSz h m
  n : s.2.1 ≤ m
  K : ∀ i, i < s.2.1 → (Km i).2.1 ≤ m
theorem ASz.mono {h : RH} {s : Hd} {Km : Nat → Hd} {m m' : Nat} (x : ASz h s Km m) (hm : m ≤ m') : ASz h s Km m' := ⟨x.rep.mono hm, Nat.le_trans x.n hm, fun i hi => Nat.le_trans (x.K i hi) hm⟩
def inAns (h : RH) (s : Hd) (Km : Nat → Hd) (k : Nat) : Prop := inRep h k ∨ inE s.1 s.2.1 Km k
section
variable {w w' : World} {own : Bool} {lo hi : Nat} {h : RH} {s : Hd} {Km : Nat → Hd} {r : Rep} {ms : List Ml}
theorem AnsAt.below (x : AnsAt w own lo hi h s Km r ms) (hb : Below w.heap.size w w') : AnsAt w' own lo hi h s Km r ms := ⟨x.rep.below hb, x.send.below hb, x.sep⟩
theorem AnsAt.kept (x : AnsAt w own lo hi h s Km r ms) {l u : Nat} (hk : Kept l u w w') (hd : hi ≤ l ∨ u ≤ lo) : AnsAt w' own lo hi h s Km r ms := ⟨x.rep.kept hk hd, x.send.kept hk hd, x.sep⟩
theorem AnsAt.widen (x : AnsAt w own lo hi h s Km r ms) {lo' hi' : Nat} (h1 : lo' ≤ lo) (h2 : hi ≤ hi') : AnsAt w own lo' hi' h s Km r ms := ⟨x.rep.widen h1 h2, x.send.widen h1 h2, x.sep⟩
theorem AnsAt.inB (x : AnsAt w own lo hi h s Km r ms) {k : Nat} (hk : inAns h s Km k) : lo ≤ k ∧ k < hi ∧ k < w.heap.size := hk.elim x.rep.inB x.send.els.inB
/-- an answer that sends nothing -/
theorem AnsAt.bare (x : RepAt w own lo hi h r) (a : Option Addr) (c : Nat) : AnsAt w own lo hi h (a, 0, c) Km r [] :=
  ⟨x, ⟨rfl, ElsAt.nil _ _ _ _ _ _ _ _ _ _⟩, fun _ k _ h2 => by rcases h2 with ⟨h0, _⟩ | ⟨i, hi, _⟩; exact h0 rfl; exact absurd hi (Nat.not_lt_zero _)⟩
theorem ASz.bare {m : Nat} (x : RSz h m) (a : Option Addr) (c : Nat) : ASz h (a, 0, c) Km m := ⟨x, Nat.zero_le _, fun _ hi => absurd hi (Nat.not_lt_zero _)⟩
/-- an answer with a code: nothing in it -/
theorem AnsAt.none (w : World) (own : Bool) (lo hi : Nat) : AnsAt w own lo hi ⟨(none, 0, 0), (none, 0, 0), (none, 0, 0), (none, 0, 0), fun _ => (none, 0, 0)⟩ (none, 0, 0) (fun _ => (none, 0, 0)) rep0 [] :=
  AnsAt.bare ⟨RowAt.nilR _ _ _ _ _ _ _, RowAt.nilR _ _ _ _ _ _ _, RowAt.nilR _ _ _ _ _ _ _, ⟨rfl, ElsAt.nil _ _ _ _ _ _ _ _ _ _⟩, fun _ => ⟨fun _ a => absurd rfl a.1, fun _ a => absurd rfl a.1, fun _ a => absurd rfl a.1, fun _ a => absurd rfl a.1, fun _ a => absurd rfl a.1, fun _ a => absurd rfl a.1⟩⟩ _ _
theorem ASz.none (m : Nat) : ASz ⟨((none : Option Addr), 0, 0), (none, 0, 0), (none, 0, 0), (none, 0, 0), fun _ => (none, 0, 0)⟩ (none, 0, 0) (fun _ => (none, 0, 0)) m :=
  ASz.bare ⟨Nat.zero_le _, Nat.zero_le _, Nat.zero_le _, Nat.zero_le _, fun _ hi => absurd hi (Nat.not_lt_zero _)⟩ _ _
end
/-- an answer that is marked -/
structure MAns (w : World) (o : Bool) (lo hi : Nat) (h : RH) (s : Hd) (Km : Nat → Hd) : Prop where
  rep : MarkAt w o lo hi h 1
  send : ElsAt 15 w o lo hi s.1 s.2.1 s.2.2 (mkMF Km (mkEnd h 1)) Km (paM 14 13 Km (mkEnd h 1) (fun _ => []) s.2.1)
theorem MAns.below {w w' : World} {o : Bool} {lo hi : Nat} {h : RH} {s : Hd} {Km : Nat → Hd} (m : MAns w o lo hi h s Km) (hb : Below w.heap.size w w') : MAns w' o lo hi h s Km := ⟨m.rep.below hb, m.send.below hb⟩
theorem MAns.kept {w w' : World} {o : Bool} {lo hi : Nat} {h : RH} {s : Hd} {Km : Nat → Hd} (m : MAns w o lo hi h s Km) {l u : Nat} (hk : Kept l u w w') (hd : hi ≤ l ∨ u ≤ lo) : MAns w' o lo hi h s Km := ⟨m.rep.kept hk hd, m.send.kept hk hd⟩
theorem MarkAt.keptS {w w' : World} {o : Bool} {lo hi : Nat} {h : RH} {k : Int} (m : MarkAt w o lo hi h k) {S : Nat → Prop} (hk : KeptS S w w') (hd : Sep (inRep h) S) : MarkAt w' o lo hi h k :=
  ⟨m.log.keptR hk fun k q => hd k (Or.inl q), m.oks.keptR hk fun k q => hd k (Or.inr (Or.inl q)), m.asks.keptR hk fun k q => hd k (Or.inr (Or.inr (Or.inl q))), m.doers.keptS hk fun k q => hd k (Or.inr (Or.inr (Or.inr q)))⟩
end Go.Proofs.Ytikplcpgocgogaa

/- Chapter 11: a cluster, and an answer with one, marked, held and compared by the laws. -/
import Derived.Test.YtannjgdginfgeaaCM1
import Derived.Test.YtannjgdginfgeaaCM0
import Derived.Test.YtannjgdginfgeaaWQ
namespace Go.Proofs.Ytannjgdginfgeaa
open Go.RowKit

/-- mails as ElsAt has them -/
def malK (ms : List Mal) (i : Nat) : Hd := (ms.getD i mal0).2
theorem inE_inL {ms : List Mal} {ao : Option Addr} {n : Nat} (hl : ms.length = n) {q : Nat} (h : inE ao n (malK ms) q) : inL mailK ao n ms q := by
  rcases h with h | ⟨i, hi, h0, h1⟩
  · exact Or.inl h
  · have hi' : i < ms.length := by rw [hl]; exact hi
    have e : ms[i]? = some (ms.getD i mal0) := by simp [List.getD, hi']
    exact Or.inr ⟨i, _, e, ⟨h0, h1⟩⟩
/-- marks: behind the nodes, behind the mails, behind all -/
def c1Q (N : Hd) (xs : List Nod) (k : Int) : Int := qAt k xs N.2.1
def c2Q (N M : Hd) (xs : List Nod) (ms : List Mal) (k : Int) : Int := kE 14 (malK ms) (c1Q N xs k) M.2.1
def c3Q (N M Sl : Hd) (xs : List Nod) (ms : List Mal) (k : Int) : Int := c2Q N M xs ms k + 6 * (Sl.2.1 : Int)
structure MCl (w : World) (o : Bool) (lo hi : Nat) (N M Sl : Hd) (xs : List Nod) (ms : List Mal) (k : Int) : Prop where
  nodes : LAt nodeK w o lo hi N.1 N.2.1 N.2.2 (mkTo k xs N.2.1)
  mails : ElsAt 15 w o lo hi M.1 M.2.1 M.2.2 (mkMF (malK ms) (c1Q N xs k)) (malK ms) (paM 14 13 (malK ms) (c1Q N xs k) (fun _ => []) M.2.1)
  slog : RowAt w o lo hi 6 Sl.1 Sl.2.1 Sl.2.2 (sixs (marks6 (c2Q N M xs ms k) Sl.2.1))
def inCl (N M Sl : Hd) (xs : List Nod) (ms : List Mal) (q : Nat) : Prop := inL nodeK N.1 N.2.1 xs q ∨ inL mailK M.1 M.2.1 ms q ∨ hR Sl q
section
variable {w w' : World} {o : Bool} {lo hi : Nat} {N M Sl : Hd} {xs : List Nod} {ms : List Mal} {es : List En} {k : Int}
theorem MCl.below (x : MCl w o lo hi N M Sl xs ms k) (hb : Below w.heap.size w w') : MCl w' o lo hi N M Sl xs ms k := ⟨x.nodes.below nodeOk hb, x.mails.below hb, x.slog.below hb⟩
theorem MCl.kept (x : MCl w o lo hi N M Sl xs ms k) {l u : Nat} (hk : Kept l u w w') (hd : hi ≤ l ∨ u ≤ lo) : MCl w' o lo hi N M Sl xs ms k := ⟨x.nodes.kept nodeOk hk hd, x.mails.kept hk hd, x.slog.kept hk hd⟩
theorem ClAt.inB (x : ClAt w o lo hi N M Sl xs ms es) {q : Nat} (hq : inCl N M Sl xs ms q) : lo ≤ q ∧ q < hi ∧ q < w.heap.size := by
  rcases hq with h | h | h
  · exact x.nodes.inB h
  · exact x.mails.inB h
  · exact x.slog.inB h
theorem cQ_in (hk : 0 ≤ k) (hN : k + 6 * (nsum xs : Int) ≤ 12000000) (hz : ClSz N M Sl xs ms 1048576) (hl : ms.length = M.2.1) : (0 ≤ c1Q N xs k ∧ c1Q N xs k ≤ 12000000) ∧ (0 ≤ c2Q N M xs ms k ∧ c2Q N M xs ms k ≤ 100000000000000) ∧ (0 ≤ c3Q N M Sl xs ms k) ∧ ∀ i, i < M.2.1 → (malK ms i).2.1 ≤ 2097152 := by
  have h1 := qAt_le xs k N.2.1
  have hK : ∀ i, i < M.2.1 → (malK ms i).2.1 ≤ 2097152 := fun i hi => by
    have hi' : i < ms.length := by rw [hl]; exact hi
    have e : ms[i]? = some (ms.getD i mal0) := by simp [List.getD, hi']
    have := hz.mails i _ e
    unfold malK; omega
  have h2 := kE_ge (t := 14) (by omega) (malK ms) (c1Q N xs k) M.2.1
  have h3 := kE_le (t := 14) (by omega) (by omega) (malK ms) (c1Q N xs k) (n := M.2.1) hK M.2.1 (Nat.le_refl _)
  have h4 := hz.m
  have e1 : c1Q N xs k = qAt k xs N.2.1 := rfl
  refine ⟨by omega, ⟨?_, ?_⟩, ?_, hK⟩
  · unfold c2Q; omega
  · unfold c2Q; omega
  · unfold c3Q c2Q; omega
end
set_option maxRecDepth 20000 in
set_option maxHeartbeats 2000000 in
theorem markCluster_any {lo hi : Nat} (N M Sl : Hd) (xs : List Nod) (ms : List Mal) (es : List En) (k : Int) (w : World) (x : ClAt w true lo hi N M Sl xs ms es) (hz : ClSz N M Sl xs ms 1048576) (hk : 0 ≤ k) (hN : k + 6 * (nsum xs : Int) ≤ 12000000) :
    Calls Try.prog 26 #[.agg #[.slice N.1 N.2.1 N.2.2, .slice M.1 M.2.1 M.2.2, .slice Sl.1 Sl.2.1 Sl.2.2], .int .i64 k] w fun e w' => e = .returned (.int .i64 (c3Q N M Sl xs ms k)) ∧ MCl w' true lo hi N M Sl xs ms k ∧ KeptS (inCl N M Sl xs ms) w w' := by
  have HB : Hid (∀ q, inCl N M Sl xs ms q → q < w.heap.size) := fun q hq => (x.inB hq).2.2
  have ⟨s1, s2, s3⟩ := x.sep rfl
  have H1 : Hid _ := s1
  have H2 : Hid _ := s2
  have H3 : Hid _ := s3
  have HL : Hid _ := x.mails.len
  have HI : Hid _ := cQ_in hk hN hz x.mails.len
  have hM := hz.m
  have hS := hz.s
  clear s1 s2 s3
  go_enter Try.func26, Try.ntmps26
  go_wp2_with (first | ((with_reducible refine box_newX 33 [.slice N.1 N.2.1 N.2.2, .slice M.1 M.2.1 M.2.2, .slice Sl.1 Sl.2.1 Sl.2.2] rfl ?_); intro b0 W0 N0; have ob0 : w.heap.size ≤ b0 := N0.ge; have B := N0.below; have X0 := N0.bx; have c0 := X0.cell; clear N0) | fail)
  have XN := x.nodes.below B
  have XM := x.mails.below B
  have XS := x.slog.below B
  have kk : KeptS (inCl N M Sl xs ms) w W0 := KeptS.below B
  clear x
  refine (markNods_any N.1 N.2.1 N.2.2 xs k _ XN hk hN).mono ?_
  rintro e w1 ⟨rfl, LN, KS⟩
  have YM : MailsAt w1 true lo hi M.1 M.2.1 M.2.2 (malK ms) (ms.map (·.1)) := LAt.mails (LAt.keptS mailOk XM KS (Sep.symm H1.out))
  have YS := XS.keptR KS (Sep.symm H2.out)
  replace X0 := X0.keptS KS (fun q => by have := HB.out _ (Or.inl q); omega)
  replace c0 := X0.cell
  replace kk := kk.trans (KS.mono fun q hq => Or.inl hq)
  clear XN XM XS KS
  rw [show qAt k xs N.2.1 = c1Q N xs k from rfl]
  go_wp2_with fail
  refine (markMailS_any M.1 M.2.1 M.2.2 (malK ms) _ _ (c1Q N xs k) _ YM.els (fun _ _ => rfl) (by omega) HI.out.2.2.2 HI.out.1.1 (by have := HI.out.1.2; omega)).mono ?_
  rintro e w2 ⟨rfl, EM, KS⟩
  have KS2 : KeptS (inL mailK M.1 M.2.1 ms) w1 w2 := KS.mono fun q hq => inE_inL HL.out hq
  clear KS YM
  replace LN := LAt.keptS nodeOk LN KS2 (fun q hq => H1.out q (inL_snd (mkTo_snd xs k N.2.1) _ _ q hq))
  replace YS := YS.keptR KS2 (Sep.symm H3.out)
  replace X0 := X0.keptS KS2 (fun q => by have := HB.out _ (Or.inr (Or.inl q)); omega)
  replace c0 := X0.cell
  replace kk := kk.trans (KS2.mono fun q hq => Or.inr (Or.inl hq))
  clear KS2
  rw [show kE 14 (malK ms) (c1Q N xs k) M.2.1 = c2Q N M xs ms k from rfl]
  go_wp2_with fail
  refine (markEntries_any Sl.1 Sl.2.1 Sl.2.2 es (c2Q N M xs ms k) _ YS.pinR (by omega) HI.out.2.1.1 (by have := HI.out.2.1.2; omega)).mono ?_
  rintro e w3 ⟨rfl, RS, K3⟩
  have KS3 : KeptS (hR Sl) w2 w3 := Kept.pinR K3
  have MM : MCl w3 true lo hi N M Sl xs ms k := ⟨LAt.keptS nodeOk LN KS3 (fun q hq => H2.out q (inL_snd (mkTo_snd xs k N.2.1) _ _ q hq)), (EM.keptS KS3 (fun q hq => H3.out q (inE_inL HL.out hq))).congr (fun _ _ _ _ => rfl) (fun i hi => by unfold paM; rw [if_pos hi, if_pos hi]), YS.repin RS⟩
  replace kk := kk.trans (KS3.mono fun q hq => Or.inr (Or.inr hq))
  clear LN EM YS RS K3 KS3 X0 c0 H1 H2 H3 HB HL HI
  rw [show c2Q N M xs ms k + 6 * (Sl.2.1 : Int) = c3Q N M Sl xs ms k from rfl]
  go_wp2
  go_ret
  exact ⟨rfl, MM, kk⟩
end Go.Proofs.Ytannjgdginfgeaa

/- Chapter 9: mails marked by the laws: plain. -/
import Derived.Test.YtjefmhjlaibbkaaQAGR
import Derived.Test.YtjefmhjlaibbkaaQABR
import Derived.Test.YtjefmhjlaibbkaaQAIR
import Derived.Test.YtjefmhjlaibbkaaWHR
set_option maxRecDepth 20000
set_option maxHeartbeats 16000000
namespace Go.Proofs.Ytjefmhjlaibbkaa
open Go.RowKit
def mkMF (K : Nat → Hd) (k : Int) (i c : Nat) : Value := [.int .i64 (kE 14 K k i), .int .i64 (kE 14 K k i + 1), .int .i64 (kE 14 K k i + 2), .int .i64 (kE 14 K k i + 3), .int .i64 (kE 14 K k i + 4), .bool ((kE 14 K k i + 5) % 3 == 0), .int .i64 (kE 14 K k i + 6), .int .i64 (kE 14 K k i + 7), .int .i64 (kE 14 K k i + 8), .int .i64 (kE 14 K k i + 9), .int .i64 (kE 14 K k i + 10), .int .i64 (kE 14 K k i + 11), .int .i64 (kE 14 K k i + 12), hv (K i), .int .i64 (kE 14 K k i + 13 + 6 * ((K i).2.1 : Int))].getD c default
def marksB (k : Int) (n : Nat) : List Bool := (List.range n).map fun j : Nat => (k + (j : Int)) % 3 == 0
def mkO (h : RH) (k : Int) : Int := k + 6 * (h.L.2.1 : Int)
def mkA (h : RH) (k : Int) : Int := mkO h k + h.O.2.1
def mkD (h : RH) (k : Int) : Int := mkA h k + h.A.2.1
def mkEnd (h : RH) (k : Int) : Int := kE 3 h.K (mkD h k) h.D.2.1
structure MarkAt (w : World) (o : Bool) (lo hi : Nat) (h : RH) (k : Int) : Prop where
 log : RowAt w o lo hi 6 h.L.1 h.L.2.1 h.L.2.2 (sixs (marks6 k h.L.2.1))
 oks : RowAt w o lo hi 1 h.O.1 h.O.2.1 h.O.2.2 (ints (marks (mkO h k) h.O.2.1))
 asks : RowAt w o lo hi 1 h.A.1 h.A.2.1 h.A.2.2 (bls (marksB (mkA h k) h.A.2.1))
 doers : ElsAt 4 w o lo hi h.D.1 h.D.2.1 h.D.2.2 (mkDF h.K (mkD h k)) h.K (paM 3 2 h.K (mkD h k) (fun _ => []) h.D.2.1)
theorem Sep.symm {S T : Nat → Prop} (h : Sep S T) : Sep T S := fun x a b => h x b a
theorem MailsAt.mailC {w : World} {own : Bool} {lo hi : Nat} {ao : Option Addr} {n cap : Nat} {K : Nat → Hd} {ms : List Ml} (h : MailsAt w own lo hi ao n cap K ms) {i : Nat} (hi' : i < n) :
  ∃ b off, ao = some ⟨b, off, none⟩ ∧ lo ≤ b ∧ b < hi ∧ b < w.heap.size ∧ (∀ j, j < 15 → w.cell? ⟨b, off + i * 15 + j, none⟩ = (mlV (K i) (ms.getD i ml0))[j]?) ∧ RowAt w own lo hi 6 (K i).1 (K i).2.1 (K i).2.2 (sixs (ms.getD i ml0).log) := by
 obtain ⟨b, off, e, h1, h2, h3, hc, _⟩ := h.els.el hi' (by omega)
 refine ⟨b, off, e, h1, h2, h3, fun j hj => ?_, h.els.logs i hi'⟩
 have := hc j hj
 rw [← Nat.add_assoc] at this
 rw [this, mlF, List.getD_eq_getElem?_getD, List.getElem?_eq_getElem (by simpa [mlV] using hj)]
 rfl
theorem eqMails_yes {o1 o2 : Bool} {l1 u1 l2 u2 : Nat} (a1 a2 : Option Addr) (n c1 m c2 : Nat) (K1 K2 : Nat → Hd) (ms : List Ml) (w : World) (h1 : MailsAt w o1 l1 u1 a1 n c1 K1 ms) (h2 : MailsAt w o2 l2 u2 a2 m c2 K2 ms) (hn : n ≤ 2097152) (hm : ∀ i, i < n → (K1 i).2.1 ≤ 2097152) :
  Calls Try.prog 42 #[.slice a1 n c1, .slice a2 m c2] w fun e w' => e = .returned (.bool true) ∧ Below w.heap.size w w' := by
 obtain rfl : n = m := by rw [← h1.len, ← h2.len]
 have hb0 : ((n : Int) != (n : Int)) = false := by simp
 have HM : Hid _ := hm
 clear hm
 go_enter Try.func42, Try.ntmps42
 go_wp2
 go_loopw [5] (fun i wr => ∃ k : Nat, k ≤ n ∧ i = .int .i64 k ∧ Below w.heap.size w wr) (fun i _ => n - (intOf i).toNat)
 case atStart => exact ⟨0, Nat.zero_le _, rfl, Below.refl _ _⟩
 case round =>
  obtain ⟨k, hk, rfl, hb⟩ := hrel
  by_cases hlt : k < n
  ·have hlk : (k : Int) < (n : Int) := by omega
   have D : Below wr.heap.size wr wr.drew := (Below.refl _ _).drew
   replace hb := below_next hb D
   clear D
   obtain ⟨b1, f1, rfl, _, _, _, e1, g1⟩ := (h1.below hb).mailC hlt
   obtain ⟨b2, f2, rfl, _, _, _, e2, g2⟩ := (h2.below hb).mailC hlt
   have hmk := HM.out k hlt
   generalize K1 k = q1 at *
   generalize K2 k = q2 at *
   generalize ms.getD k ml0 = d at *
   unfold mlV hv at e1 e2
   have x0 := e1 0 (by decide)
   have x1 := e1 1 (by decide)
   have x2 := e1 2 (by decide)
   have x3 := e1 3 (by decide)
   have x4 := e1 4 (by decide)
   have x5 := e1 5 (by decide)
   have x6 := e1 6 (by decide)
   have x7 := e1 7 (by decide)
   have x8 := e1 8 (by decide)
   have x9 := e1 9 (by decide)
   have x10 := e1 10 (by decide)
   have x11 := e1 11 (by decide)
   have x12 := e1 12 (by decide)
   have x13 := e1 13 (by decide)
   have x14 := e1 14 (by decide)
   have y0 := e2 0 (by decide)
   have y1 := e2 1 (by decide)
   have y2 := e2 2 (by decide)
   have y3 := e2 3 (by decide)
   have y4 := e2 4 (by decide)
   have y5 := e2 5 (by decide)
   have y6 := e2 6 (by decide)
   have y7 := e2 7 (by decide)
   have y8 := e2 8 (by decide)
   have y9 := e2 9 (by decide)
   have y10 := e2 10 (by decide)
   have y11 := e2 11 (by decide)
   have y12 := e2 12 (by decide)
   have y13 := e2 13 (by decide)
   have y14 := e2 14 (by decide)
   simp only [List.getElem?_cons_zero, List.getElem?_cons_succ, Nat.add_zero] at x0 x1 x2 x3 x4 x5 x6 x7 x8 x9 x10 x11 x12 x13 x14 y0 y1 y2 y3 y4 y5 y6 y7 y8 y9 y10 y11 y12 y13 y14
   clear e1 e2
   go_wp2_with fail
   refine wp_region_held_drew (S := (fun w' => w'.cell? ⟨b1, f1 + k * 15, none⟩ = some (.int .i64 d.kind) ∧ w'.cell? ⟨b1, f1 + k * 15 + 1, none⟩ = some (.int .i64 d.fr) ∧ w'.cell? ⟨b1, f1 + k * 15 + 2, none⟩ = some (.int .i64 d.to) ∧ w'.cell? ⟨b1, f1 + k * 15 + 3, none⟩ = some (.int .i64 d.view) ∧ w'.cell? ⟨b1, f1 + k * 15 + 4, none⟩ = some (.int .i64 d.at_) ∧ w'.cell? ⟨b1, f1 + k * 15 + 5, none⟩ = some (.bool d.has) ∧ w'.cell? ⟨b1, f1 + k * 15 + 6, none⟩ = some (.int .i64 d.en.1) ∧ w'.cell? ⟨b1, f1 + k * 15 + 7, none⟩ = some (.int .i64 d.en.2.1) ∧ w'.cell? ⟨b1, f1 + k * 15 + 8, none⟩ = some (.int .i64 d.en.2.2.1) ∧ w'.cell? ⟨b1, f1 + k * 15 + 9, none⟩ = some (.int .i64 d.en.2.2.2.1) ∧ w'.cell? ⟨b1, f1 + k * 15 + 10, none⟩ = some (.int .i64 d.en.2.2.2.2.1) ∧ w'.cell? ⟨b1, f1 + k * 15 + 11, none⟩ = some (.int .i64 d.en.2.2.2.2.2) ∧ w'.cell? ⟨b1, f1 + k * 15 + 12, none⟩ = some (.int .i64 d.last) ∧ w'.cell? ⟨b1, f1 + k * 15 + 13, none⟩ = some (.slice q1.1 q1.2.1 q1.2.2) ∧ w'.cell? ⟨b1, f1 + k * 15 + 14, none⟩ = some (.int .i64 d.commit) ∧ w'.cell? ⟨b2, f2 + k * 15, none⟩ = some (.int .i64 d.kind) ∧ w'.cell? ⟨b2, f2 + k * 15 + 1, none⟩ = some (.int .i64 d.fr) ∧ w'.cell? ⟨b2, f2 + k * 15 + 2, none⟩ = some (.int .i64 d.to) ∧ w'.cell? ⟨b2, f2 + k * 15 + 3, none⟩ = some (.int .i64 d.view) ∧ w'.cell? ⟨b2, f2 + k * 15 + 4, none⟩ = some (.int .i64 d.at_) ∧ w'.cell? ⟨b2, f2 + k * 15 + 5, none⟩ = some (.bool d.has) ∧ w'.cell? ⟨b2, f2 + k * 15 + 6, none⟩ = some (.int .i64 d.en.1) ∧ w'.cell? ⟨b2, f2 + k * 15 + 7, none⟩ = some (.int .i64 d.en.2.1) ∧ w'.cell? ⟨b2, f2 + k * 15 + 8, none⟩ = some (.int .i64 d.en.2.2.1) ∧ w'.cell? ⟨b2, f2 + k * 15 + 9, none⟩ = some (.int .i64 d.en.2.2.2.1) ∧ w'.cell? ⟨b2, f2 + k * 15 + 10, none⟩ = some (.int .i64 d.en.2.2.2.2.1) ∧ w'.cell? ⟨b2, f2 + k * 15 + 11, none⟩ = some (.int .i64 d.en.2.2.2.2.2) ∧ w'.cell? ⟨b2, f2 + k * 15 + 12, none⟩ = some (.int .i64 d.last) ∧ w'.cell? ⟨b2, f2 + k * 15 + 13, none⟩ = some (.slice q2.1 q2.2.1 q2.2.2) ∧ w'.cell? ⟨b2, f2 + k * 15 + 14, none⟩ = some (.int .i64 d.commit))) (by kernel_rfl) ⟨x0, x1, x2, x3, x4, x5, x6, x7, x8, x9, x10, x11, x12, x13, x14, y0, y1, y2, y3, y4, y5, y6, y7, y8, y9, y10, y11, y12, y13, y14⟩ (fun hZq => ?_)
   refine tk 0 hZq ?_
   refine tk 1 hZq ?_
   refine tk 2 hZq ?_
   refine tk 3 hZq ?_
   refine tk 4 hZq ?_
   refine tk 5 hZq ?_
   refine tk 6 hZq ?_
   refine tk 7 hZq ?_
   refine rd1 8 (fun KK hKK => ?_)
   go_simp
   go_at_call 80
   refine (eqMail_yes d q1 q2 _ g1 g2 hmk).mono ?_
   rintro e w1 ⟨rfl, BB⟩
   replace x0 := cell_later BB x0
   replace x1 := cell_later BB x1
   replace x2 := cell_later BB x2
   replace x3 := cell_later BB x3
   replace x4 := cell_later BB x4
   replace x5 := cell_later BB x5
   replace x6 := cell_later BB x6
   replace x7 := cell_later BB x7
   replace x8 := cell_later BB x8
   replace x9 := cell_later BB x9
   replace x10 := cell_later BB x10
   replace x11 := cell_later BB x11
   replace x12 := cell_later BB x12
   replace x13 := cell_later BB x13
   replace x14 := cell_later BB x14
   replace y0 := cell_later BB y0
   replace y1 := cell_later BB y1
   replace y2 := cell_later BB y2
   replace y3 := cell_later BB y3
   replace y4 := cell_later BB y4
   replace y5 := cell_later BB y5
   replace y6 := cell_later BB y6
   replace y7 := cell_later BB y7
   replace y8 := cell_later BB y8
   replace y9 := cell_later BB y9
   replace y10 := cell_later BB y10
   replace y11 := cell_later BB y11
   replace y12 := cell_later BB y12
   replace y13 := cell_later BB y13
   replace y14 := cell_later BB y14
   replace hb := below_next hb BB
   clear BB g1 g2
   clear hZq
   refine hKK _ _ ⟨x0, x1, x2, x3, x4, x5, x6, x7, x8, x9, x10, x11, x12, x13, x14, y0, y1, y2, y3, y4, y5, y6, y7, y8, y9, y10, y11, y12, y13, y14⟩ (fun hZq => ?_)
   clear hKK KK
   refine tk 9 hZq ?_
   refine wpAnyH_done (by kernel_rfl) ?_ _
   clear x0 x1 x2 x3 x4 x5 x6 x7 x8 x9 x10 x11 x12 x13 x14 y0 y1 y2 y3 y4 y5 y6 y7 y8 y9 y10 y11 y12 y13 y14
   go_wp2
   go_roundw
   case rel => exact ⟨k + 1, by omega, by go_num, hb⟩
   case measure => simp [intOf]; omega
  ·obtain rfl : k = n := by omega
   go_wp2
   go_ret
   exact ⟨rfl, hb⟩
structure AnsAt (w : World) (own : Bool) (lo hi : Nat) (h : RH) (s : Hd) (Km : Nat → Hd) (r : Rep) (ms : List Ml) : Prop where
 rep : RepAt w own lo hi h r
 send : MailsAt w own lo hi s.1 s.2.1 s.2.2 Km ms
 sep : own = true → Sep (inRep h) (inE s.1 s.2.1 Km)
structure ASz (h : RH) (s : Hd) (Km : Nat → Hd) (m : Nat) : Prop where
 rep : RSz h m
 n : s.2.1 ≤ m
 K : ∀ i, i < s.2.1 → (Km i).2.1 ≤ m
def inAns (h : RH) (s : Hd) (Km : Nat → Hd) (k : Nat) : Prop := inRep h k ∨ inE s.1 s.2.1 Km k
section
variable {w w' : World} {own : Bool} {lo hi : Nat} {h : RH} {s : Hd} {Km : Nat → Hd} {r : Rep} {ms : List Ml}
theorem AnsAt.bare (x : RepAt w own lo hi h r) (a : Option Addr) (c : Nat) : AnsAt w own lo hi h (a, 0, c) Km r [] :=
 ⟨x, ⟨rfl, ElsAt.nil _ _ _ _ _ _ _ _ _ _⟩, fun _ k _ h2 => by rcases h2 with ⟨h0, _⟩ | ⟨i, hi, _⟩; exact h0 rfl; exact absurd hi (Nat.not_lt_zero _)⟩
theorem AnsAt.none (w : World) (own : Bool) (lo hi : Nat) : AnsAt w own lo hi ⟨(none, 0, 0), (none, 0, 0), (none, 0, 0), (none, 0, 0), fun _ => (none, 0, 0)⟩ (none, 0, 0) (fun _ => (none, 0, 0)) rep0 [] :=
 AnsAt.bare ⟨RowAt.nilR _ _ _ _ _ _ _, RowAt.nilR _ _ _ _ _ _ _, RowAt.nilR _ _ _ _ _ _ _, ⟨rfl, ElsAt.nil _ _ _ _ _ _ _ _ _ _⟩, fun _ => ⟨fun _ a => absurd rfl a.1, fun _ a => absurd rfl a.1, fun _ a => absurd rfl a.1, fun _ a => absurd rfl a.1, fun _ a => absurd rfl a.1, fun _ a => absurd rfl a.1⟩⟩ _ _
end
structure MAns (w : World) (o : Bool) (lo hi : Nat) (h : RH) (s : Hd) (Km : Nat → Hd) : Prop where
 rep : MarkAt w o lo hi h 1
 send : ElsAt 15 w o lo hi s.1 s.2.1 s.2.2 (mkMF Km (mkEnd h 1)) Km (paM 14 13 Km (mkEnd h 1) (fun _ => []) s.2.1)
end Go.Proofs.Ytjefmhjlaibbkaa

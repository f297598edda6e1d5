/- Chapter 9: mails marked by the laws: plain. -/
import Derived.Test.YtgldocaohcoleaaGreatQAFN
import Derived.Test.YtgldocaohcoleaaGreatQABN
import Derived.Test.YtgldocaohcoleaaGreatWHN
import Derived.Test.YtgldocaohcoleaaGreatQAGN
set_option maxRecDepth 20000
set_option maxHeartbeats 16000000
namespace Go.Proofs.YtgldocaohcoleaaGreat
open Go.RowKit
def mkMF (K : Nat → Hd) (k : Int) (i c : Nat) : Value := [.int .i64 (kE 14 K k i), .int .i64 (kE 14 K k i + 1), .int .i64 (kE 14 K k i + 2), .int .i64 (kE 14 K k i + 3), .int .i64 (kE 14 K k i + 4), .bool ((kE 14 K k i + 5) % 3 == 0), .int .i64 (kE 14 K k i + 6), .int .i64 (kE 14 K k i + 7), .int .i64 (kE 14 K k i + 8), .int .i64 (kE 14 K k i + 9), .int .i64 (kE 14 K k i + 10), .int .i64 (kE 14 K k i + 11), .int .i64 (kE 14 K k i + 12), hv (K i), .int .i64 (kE 14 K k i + 13 + 6 * ((K i).2.1 : Int))].getD c default
def marksB (k : Int) (n : Nat) : List Bool := (List.range n).map fun j : Nat => (k + (j : Int)) % 3 == 0
theorem RowAt.nBls {w : World} {own : Bool} {lo hi : Nat} {ao : Option Addr} {n cap : Nat} {bs : List Bool} (h : RowAt w own lo hi 1 ao n cap (bls bs)) : bs.length = n := by have := h.len; rw [bls_length] at this; omega
def mkO (h : RH) (k : Int) : Int := k + 6 * (h.L.2.1 : Int)
def mkA (h : RH) (k : Int) : Int := mkO h k + h.O.2.1
def mkD (h : RH) (k : Int) : Int := mkA h k + h.A.2.1
def mkEnd (h : RH) (k : Int) : Int := kE 3 h.K (mkD h k) h.D.2.1
structure MarkAt (w : World) (o : Bool) (lo hi : Nat) (h : RH) (k : Int) : Prop where
 log : RowAt w o lo hi 6 h.L.1 h.L.2.1 h.L.2.2 (sixs (marks6 k h.L.2.1))
 oks : RowAt w o lo hi 1 h.O.1 h.O.2.1 h.O.2.2 (ints (marks (mkO h k) h.O.2.1))
 asks : RowAt w o lo hi 1 h.A.1 h.A.2.1 h.A.2.2 (bls (marksB (mkA h k) h.A.2.1))
 doers : ElsAt 4 w o lo hi h.D.1 h.D.2.1 h.D.2.2 (mkDF h.K (mkD h k)) h.K (paM 3 2 h.K (mkD h k) (fun _ => []) h.D.2.1)
theorem Sep.symm {S T : Nat → Prop} (h : Sep S T) : Sep T S := fun x a b => h x b a
structure AnsAt (w : World) (own : Bool) (lo hi : Nat) (h : RH) (s : Hd) (Km : Nat → Hd) (r : Rep) (ms : List Ml) : Prop where
 rep : RepAt w own lo hi h r
 send : MailsAt w own lo hi s.1 s.2.1 s.2.2 Km ms
 sep : own = true → Sep (inRep h) (inE s.1 s.2.1 Km)
structure ASz (h : RH) (s : Hd) (Km : Nat → Hd) (m : Nat) : Prop where
 rep : RSz h m
 n : s.2.1 ≤ m
 K : ∀ i, i < s.2.1 → (Km i).2.1 ≤ m
def inAns (h : RH) (s : Hd) (Km : Nat → Hd) (k : Nat) : Prop := inRep h k ∨ inE s.1 s.2.1 Km k
section
variable {w w' : World} {own : Bool} {lo hi : Nat} {h : RH} {s : Hd} {Km : Nat → Hd} {r : Rep} {ms : List Ml}
theorem AnsAt.below (x : AnsAt w own lo hi h s Km r ms) (hb : Below w.heap.size w w') : AnsAt w' own lo hi h s Km r ms := ⟨x.rep.below hb, x.send.below hb, x.sep⟩
theorem AnsAt.kept (x : AnsAt w own lo hi h s Km r ms) {l u : Nat} (hk : Kept l u w w') (hd : hi ≤ l ∨ u ≤ lo) : AnsAt w' own lo hi h s Km r ms := ⟨x.rep.kept hk hd, x.send.kept hk hd, x.sep⟩
theorem AnsAt.inB (x : AnsAt w own lo hi h s Km r ms) {k : Nat} (hk : inAns h s Km k) : lo ≤ k ∧ k < hi ∧ k < w.heap.size := hk.elim x.rep.inB x.send.els.inB
theorem AnsAt.bare (x : RepAt w own lo hi h r) (a : Option Addr) (c : Nat) : AnsAt w own lo hi h (a, 0, c) Km r [] :=
 ⟨x, ⟨rfl, ElsAt.nil _ _ _ _ _ _ _ _ _ _⟩, fun _ k _ h2 => by rcases h2 with ⟨h0, _⟩ | ⟨i, hi, _⟩; exact h0 rfl; exact absurd hi (Nat.not_lt_zero _)⟩
theorem ASz.bare {m : Nat} (x : RSz h m) (a : Option Addr) (c : Nat) : ASz h (a, 0, c) Km m := ⟨x, Nat.zero_le _, fun _ hi => absurd hi (Nat.not_lt_zero _)⟩
theorem AnsAt.none (w : World) (own : Bool) (lo hi : Nat) : AnsAt w own lo hi ⟨(none, 0, 0), (none, 0, 0), (none, 0, 0), (none, 0, 0), fun _ => (none, 0, 0)⟩ (none, 0, 0) (fun _ => (none, 0, 0)) rep0 [] :=
 AnsAt.bare ⟨RowAt.nilR _ _ _ _ _ _ _, RowAt.nilR _ _ _ _ _ _ _, RowAt.nilR _ _ _ _ _ _ _, ⟨rfl, ElsAt.nil _ _ _ _ _ _ _ _ _ _⟩, fun _ => ⟨fun _ a => absurd rfl a.1, fun _ a => absurd rfl a.1, fun _ a => absurd rfl a.1, fun _ a => absurd rfl a.1, fun _ a => absurd rfl a.1, fun _ a => absurd rfl a.1⟩⟩ _ _
theorem ASz.none (m : Nat) : ASz ⟨((none : Option Addr), 0, 0), (none, 0, 0), (none, 0, 0), (none, 0, 0), fun _ => (none, 0, 0)⟩ (none, 0, 0) (fun _ => (none, 0, 0)) m :=
 ASz.bare ⟨Nat.zero_le _, Nat.zero_le _, Nat.zero_le _, Nat.zero_le _, fun _ hi => absurd hi (Nat.not_lt_zero _)⟩ _ _
end
structure MAns (w : World) (o : Bool) (lo hi : Nat) (h : RH) (s : Hd) (Km : Nat → Hd) : Prop where
 rep : MarkAt w o lo hi h 1
 send : ElsAt 15 w o lo hi s.1 s.2.1 s.2.2 (mkMF Km (mkEnd h 1)) Km (paM 14 13 Km (mkEnd h 1) (fun _ => []) s.2.1)
structure Kd (α : Type) where
 sz : Nat
 cells : α → List Value
 mem : World → Bool → Nat → Nat → α → Prop
 inn : α → Nat → Prop
structure KdOk {α : Type} (k : Kd α) : Prop where
 pos : 0 < k.sz
 len : ∀ a, (k.cells a).length = k.sz
 below : ∀ {w w' : World} {own : Bool} {lo hi : Nat} {a : α}, k.mem w own lo hi a → Below w.heap.size w w' → k.mem w' own lo hi a
 kept : ∀ {w w' : World} {own : Bool} {lo hi : Nat} {a : α} {l u : Nat}, k.mem w own lo hi a → Kept l u w w' → (hi ≤ l ∨ u ≤ lo) → k.mem w' own lo hi a
 widen : ∀ {w : World} {own : Bool} {lo hi : Nat} {a : α} {lo' hi' : Nat}, k.mem w own lo hi a → lo' ≤ lo → hi ≤ hi' → k.mem w own lo' hi' a
 keptS : ∀ {w w' : World} {own : Bool} {lo hi : Nat} {a : α} {S : Nat → Prop}, k.mem w own lo hi a → KeptS S w w' → Sep (k.inn a) S → k.mem w' own lo hi a
 ro : ∀ {w : World} {own : Bool} {lo hi : Nat} {a : α}, k.mem w own lo hi a → k.mem w false lo hi a
 inB : ∀ {w : World} {own : Bool} {lo hi : Nat} {a : α} {q : Nat}, k.mem w own lo hi a → k.inn a q → lo ≤ q ∧ q < hi ∧ q < w.heap.size
structure LAt {α : Type} (k : Kd α) (w : World) (own : Bool) (lo hi : Nat) (ao : Option Addr) (n cap : Nat) (xs : List α) : Prop where
 len : xs.length = n
 row : RowAt w own lo hi k.sz ao n cap (xs.flatMap k.cells)
 each : ∀ (i : Nat) (a : α), xs[i]? = some a → k.mem w own lo hi a
 far : own = true → ∀ (i : Nat) (a : α), xs[i]? = some a → ∀ q, k.inn a q → q ≠ sb ao
 sep : own = true → ∀ (i j : Nat) (a b : α), xs[i]? = some a → xs[j]? = some b → i ≠ j → Sep (k.inn a) (k.inn b)
def inL {α : Type} (k : Kd α) (ao : Option Addr) (n : Nat) (xs : List α) (q : Nat) : Prop := (n ≠ 0 ∧ q = sb ao) ∨ ∃ (i : Nat) (a : α), xs[i]? = some a ∧ k.inn a q
section
variable {α : Type} {k : Kd α} {w w' : World} {own : Bool} {lo hi : Nat} {ao : Option Addr} {n cap : Nat} {xs : List α}
theorem LAt.below (K : KdOk k) (h : LAt k w own lo hi ao n cap xs) (hb : Below w.heap.size w w') : LAt k w' own lo hi ao n cap xs := ⟨h.len, h.row.below hb, fun i a e => K.below (h.each i a e) hb, h.far, h.sep⟩
theorem LAt.kept (K : KdOk k) (h : LAt k w own lo hi ao n cap xs) {l u : Nat} (hk : Kept l u w w') (hd : hi ≤ l ∨ u ≤ lo) : LAt k w' own lo hi ao n cap xs := ⟨h.len, h.row.kept hk hd, fun i a e => K.kept (h.each i a e) hk hd, h.far, h.sep⟩
theorem LAt.widen (K : KdOk k) (h : LAt k w own lo hi ao n cap xs) {lo' hi' : Nat} (h1 : lo' ≤ lo) (h2 : hi ≤ hi') : LAt k w own lo' hi' ao n cap xs := ⟨h.len, h.row.widen h1 h2, fun i a e => K.widen (h.each i a e) h1 h2, h.far, h.sep⟩
theorem LAt.keptS (K : KdOk k) (h : LAt k w own lo hi ao n cap xs) {S : Nat → Prop} (hk : KeptS S w w') (hd : Sep (inL k ao n xs) S) : LAt k w' own lo hi ao n cap xs :=
 ⟨h.len, h.row.keptR hk fun q hq => hd q (Or.inl hq), fun i a e => K.keptS (h.each i a e) hk fun q hq => hd q (Or.inr ⟨i, a, e, hq⟩), h.far, h.sep⟩
theorem LAt.inB (K : KdOk k) (h : LAt k w own lo hi ao n cap xs) {q : Nat} (hq : inL k ao n xs q) : lo ≤ q ∧ q < hi ∧ q < w.heap.size := by
 rcases hq with h0 | ⟨i, a, e, h0⟩
 ·exact h.row.inB h0
 ·exact K.inB (h.each i a e) h0
theorem LAt.nil (k : Kd α) (w : World) (own : Bool) (lo hi : Nat) (ao : Option Addr) (c : Nat) : LAt k w own lo hi ao 0 c [] :=
 ⟨rfl, RowAt.nilR _ _ _ _ _ _ _, fun i a e => by simp at e, fun _ i a e => by simp at e, fun _ i j a b e => by simp at e⟩
theorem flatMap_len (K : KdOk k) (xs : List α) : (xs.flatMap k.cells).length = xs.length * k.sz := by
 induction xs with
 | nil => simp
 | cons a r ih => simp [K.len, ih, Nat.succ_mul]; omega
theorem flatMap_at (K : KdOk k) : ∀ (xs : List α) (i : Nat) (a : α), xs[i]? = some a → ∀ j, j < k.sz → (xs.flatMap k.cells)[i * k.sz + j]? = (k.cells a)[j]?
 | [], i, a, e, _, _ => by simp at e
 | x :: r, 0, a, e, j, hj => by
  have e2 : x = a := by simpa using e
  subst e2
  rw [Nat.zero_mul, Nat.zero_add, List.flatMap_cons, List.getElem?_append_left (by rw [K.len]; exact hj)]
 | x :: r, i + 1, a, e, j, hj => by
  have ih := flatMap_at K r i a (by simpa using e) j hj
  rw [List.flatMap_cons, List.getElem?_append_right (by rw [K.len, Nat.succ_mul]; omega), K.len, ← ih]
  congr 1
  rw [Nat.succ_mul]; omega
theorem LAt.el (K : KdOk k) (h : LAt k w own lo hi ao n cap xs) {i : Nat} (hi' : i < n) : ∃ a b off, xs[i]? = some a ∧ ao = some ⟨b, off, none⟩ ∧ lo ≤ b ∧ b < hi ∧ b < w.heap.size ∧ (∀ j, j < k.sz → w.cell? ⟨b, off + i * k.sz + j, none⟩ = (k.cells a)[j]?) ∧ (own = true → ∀ j, j < k.sz → w.frozen? ⟨b, off + i * k.sz + j, none⟩ = false) := by
 have hx : i < xs.length := by rw [h.len]; exact hi'
 have e : xs[i]? = some xs[i] := List.getElem?_eq_getElem hx
 obtain ⟨b, off, rfl, h1, h2, h3, h4, h5⟩ := h.row.cells (by omega)
 refine ⟨xs[i], b, off, e, rfl, h1, h2, h3, fun j hj => ?_, fun ho j hj => ?_⟩
 ·have q := at_lt (sz := k.sz) hi' hj
  rw [Nat.add_assoc, h4 _ q, List.getD_eq_getElem?_getD, flatMap_at K xs i _ e j hj, List.getElem?_eq_getElem (by rw [K.len]; exact hj)]; rfl
 ·rw [Nat.add_assoc]; exact h5 ho _ (at_lt hi' hj)
theorem flatMap_set_in (K : KdOk k) (xs : List α) (i : Nat) (hi : i < xs.length) (a : α) (j : Nat) (hj : j < k.sz) : ((xs.set i a).flatMap k.cells)[i * k.sz + j]? = (k.cells a)[j]? :=
 flatMap_at K (xs.set i a) i a (by simp [hi]) j hj
theorem flatMap_set_out (K : KdOk k) (xs : List α) (i : Nat) (a : α) (q : Nat) (hq : q < i * k.sz ∨ i * k.sz + k.sz ≤ q) : ((xs.set i a).flatMap k.cells)[q]? = (xs.flatMap k.cells)[q]? := by
 have hl : (xs.set i a).length = xs.length := by simp
 by_cases hlt : q < xs.length * k.sz
 ·have hs := K.pos
  have hd : q / k.sz < xs.length := Nat.div_lt_of_lt_mul (by rwa [Nat.mul_comm])
  have hm := Nat.mod_lt q hs
  have e : q = q / k.sz * k.sz + q % k.sz := by rw [Nat.mul_comm]; exact (Nat.div_add_mod q k.sz).symm
  have hne : i ≠ q / k.sz := fun c => by
   rw [← c] at e; omega
  rw [e, flatMap_at K (xs.set i a) (q / k.sz) xs[q / k.sz] (by rw [List.getElem?_set_ne hne]; exact List.getElem?_eq_getElem hd) _ hm, flatMap_at K xs (q / k.sz) _ (List.getElem?_eq_getElem hd) _ hm]
 ·rw [List.getElem?_eq_none (by rw [flatMap_len K, hl]; omega), List.getElem?_eq_none (by rw [flatMap_len K]; omega)]
theorem LAt.put (K : KdOk k) {b off : Nat} (h : LAt k w true lo hi (some ⟨b, off, none⟩) n cap xs) {i : Nat} (hi' : i < n) (a : α) (hm : k.mem w true lo hi a) (hf : ∀ q, k.inn a q → q ≠ b) (hs : ∀ (j : Nat) (c : α), xs[j]? = some c → j ≠ i → Sep (k.inn a) (k.inn c)) :
  LAt k (w.setCells b (off + i * k.sz) (k.cells a)) true lo hi (some ⟨b, off, none⟩) n cap (xs.set i a) := by
 have hx : i < xs.length := by rw [h.len]; exact hi'
 have KS1 : KeptS (fun x => x = b) w (w.setCells b (off + i * k.sz) (k.cells a)) := (((Kept.refl b (b + 1) w).setCells (Nat.le_refl _) (Nat.lt_succ_self _) _ _)).toS fun q h1 h2 => by omega
 refine ⟨by simpa using h.len, ⟨by rw [flatMap_len K]; simp [h.len], h.row.le, fun hn => ?_⟩, fun j c e => ?_, fun _ j c e q hq => ?_, fun _ j m c d e1 e2 hne => ?_⟩
 ·obtain ⟨b', off', e, h1, h2, h3, h4, h5⟩ := h.row.cells hn
  simp only [Option.some.injEq, Addr.mk.injEq, and_true] at e
  obtain ⟨rfl, rfl⟩ := e
  refine ⟨_, _, rfl, h1, h2, by rw [size_setCells']; exact h3, fun q hq => ?_, fun _ q hq => by rw [World.frozen?_setCells]; exact h5 rfl q hq⟩
  by_cases hin : i * k.sz ≤ q ∧ q < i * k.sz + k.sz
  ·have := World.cell?_setCells_in b (k.cells a) (off + i * k.sz) w (fun j hj => by rw [K.len] at hj; rw [Nat.add_assoc, h4 _ (at_lt hi' hj)]; rfl) (q - i * k.sz) (by rw [K.len]; omega)
   rw [show off + i * k.sz + (q - i * k.sz) = off + q by omega] at this
   rw [this, List.getD_eq_getElem?_getD]
   have t := flatMap_set_in K xs i hx a (q - i * k.sz) (by omega)
   rw [show i * k.sz + (q - i * k.sz) = q by omega] at t
   rw [t, List.getElem?_eq_getElem (by rw [K.len]; omega)]; rfl
  ·rw [World.cell?_setCells_out b (k.cells a) (off + i * k.sz) w ⟨b, off + q, none⟩ (fun _ _ => by show off + q < off + i * k.sz ∨ _; rw [K.len]; show _ ∨ off + i * k.sz + k.sz ≤ off + q; omega), h4 q hq]
   rw [List.getD_eq_getElem?_getD, List.getD_eq_getElem?_getD, flatMap_set_out K xs i a q (by omega)]
 ·by_cases e2 : j = i
  ·subst e2
   have : a = c := by simpa [hx] using e
   subst this
   exact K.keptS hm KS1 fun q hq => hf q hq
  ·rw [List.getElem?_set_ne (Ne.symm e2)] at e
   exact K.keptS (h.each j c e) KS1 fun q hq => h.far rfl j c e q hq
 ·by_cases e2 : j = i
  ·subst e2
   have : a = c := by simpa [hx] using e
   subst this
   exact hf q hq
  ·rw [List.getElem?_set_ne (Ne.symm e2)] at e
   exact h.far rfl j c e q hq
 ·by_cases e3 : j = i
  ·subst e3
   have : a = c := by simpa [hx] using e1
   subst this
   rw [List.getElem?_set_ne hne] at e2
   exact hs m d e2 (Ne.symm hne)
  ·rw [List.getElem?_set_ne (Ne.symm e3)] at e1
   by_cases e4 : m = i
   ·subst e4
    have : a = d := by simpa [hx] using e2
    subst this
    exact (hs j c e1 e3).symm
   ·rw [List.getElem?_set_ne (Ne.symm e4)] at e2
    exact h.sep rfl j m c d e1 e2 hne
end
abbrev Nod := Rep × RH
def nodeK : Kd Nod := ⟨10, fun a => repC a.1 a.2, fun w own lo hi a => RepAt w own lo hi a.2 a.1, fun a => inRep a.2⟩
theorem nodeOk : KdOk nodeK where
 pos := by show 0 < 10; omega
 len := fun _ => rfl
 below := fun h hb => RepAt.below h hb
 kept := fun h hk hd => RepAt.kept h hk hd
 widen := fun h h1 h2 => RepAt.widen h h1 h2
 keptS := fun h hk hd => RepAt.keptS h hk hd
 ro := fun h => RepAt.ro h
 inB := fun h hq => RepAt.inB h hq
abbrev Mal := Ml × Hd
def mailK : Kd Mal := ⟨15, fun a => mlV a.2 a.1, fun w own lo hi a => RowAt w own lo hi 6 a.2.1 a.2.2.1 a.2.2.2 (sixs a.1.log), fun a => hR a.2⟩
theorem mailOk : KdOk mailK where
 pos := by show 0 < 15; omega
 len := fun _ => rfl
 below := fun h hb => RowAt.below h hb
 kept := fun h hk hd => RowAt.kept h hk hd
 widen := fun h h1 h2 => RowAt.widen h h1 h2
 keptS := fun h hk hd => RowAt.keptR h hk hd
 ro := fun h => RowAt.ro h
 inB := fun h hq => RowAt.inB h hq
def rh0 : RH := ⟨(none, 0, 0), (none, 0, 0), (none, 0, 0), (none, 0, 0), fun _ => (none, 0, 0)⟩
def nod0 : Nod := (rep0, rh0)
def mal0 : Mal := (ml0, (none, 0, 0))
section
variable {w : World} {own : Bool} {lo hi : Nat} {ao : Option Addr} {n cap : Nat}
end
structure Ro (w : World) (b oz : Nat) (vs : List Value) : Prop where
 lt : b < w.heap.size
 cell : w.cell? ⟨b, oz, none⟩ = vs[0]? ∧ ∀ k : Nat, k < 10 → w.cell? ⟨b, oz + k, none⟩ = vs[k]?
theorem Ro.below {w W : World} {b oz : Nat} {vs : List Value} (h : Ro w b oz vs) (hb : Below w.heap.size w W) : Ro W b oz vs :=
 ⟨Nat.lt_of_lt_of_le h.lt hb.size, by rw [World.cell?_of_block (w := w) (a := ⟨b, oz, none⟩) (hb.block b h.lt)]; exact h.cell.1, fun k hk => by rw [World.cell?_of_block (w := w) (a := ⟨b, oz + k, none⟩) (hb.block b h.lt)]; exact h.cell.2 k hk⟩
structure Rm (w : World) (b oz : Nat) (vs : List Value) : Prop where
 lt : b < w.heap.size
 cell : w.cell? ⟨b, oz, none⟩ = vs[0]? ∧ ∀ k : Nat, k < 15 → w.cell? ⟨b, oz + k, none⟩ = vs[k]?
theorem LAt.node {w : World} {own : Bool} {lo hi : Nat} {ao : Option Addr} {n cap : Nat} {xs : List Nod} (x : LAt nodeK w own lo hi ao n cap xs) {i : Nat} (hi' : i < n) : ∃ r h b off, xs[i]? = some (r, h) ∧ ao = some ⟨b, off, none⟩ ∧ lo ≤ b ∧ b < hi ∧ Ro w b (off + i * 10) [.int .i64 r.id, .int .i64 r.size, .int .i64 r.view, .bool r.normal, .int .i64 r.last, .slice h.L.1 h.L.2.1 h.L.2.2, .int .i64 r.commit, .slice h.O.1 h.O.2.1 h.O.2.2, .slice h.A.1 h.A.2.1 h.A.2.2, .slice h.D.1 h.D.2.1 h.D.2.2] ∧ RepAt w own lo hi h r ∧ (own = true → ∀ j, j < 10 → w.frozen? ⟨b, off + i * 10 + j, none⟩ = false) := by
 obtain ⟨⟨r, h⟩, b, off, e, e2, h1, h2, h3, hc, hf⟩ := x.el nodeOk hi'
 exact ⟨r, h, b, off, e, e2, h1, h2, ⟨h3, hc 0 (by show 0 < 10; omega), hc⟩, x.each i _ e, hf⟩
theorem LAt.mail {w : World} {own : Bool} {lo hi : Nat} {ao : Option Addr} {n cap : Nat} {xs : List Mal} (x : LAt mailK w own lo hi ao n cap xs) {i : Nat} (hi' : i < n) : ∃ m h b off, xs[i]? = some (m, h) ∧ ao = some ⟨b, off, none⟩ ∧ lo ≤ b ∧ b < hi ∧ Rm w b (off + i * 15) [.int .i64 m.kind, .int .i64 m.fr, .int .i64 m.to, .int .i64 m.view, .int .i64 m.at_, .bool m.has, .int .i64 m.en.1, .int .i64 m.en.2.1, .int .i64 m.en.2.2.1, .int .i64 m.en.2.2.2.1, .int .i64 m.en.2.2.2.2.1, .int .i64 m.en.2.2.2.2.2, .int .i64 m.last, .slice h.1 h.2.1 h.2.2, .int .i64 m.commit] ∧ RowAt w own lo hi 6 h.1 h.2.1 h.2.2 (sixs m.log) ∧ (own = true → ∀ j, j < 15 → w.frozen? ⟨b, off + i * 15 + j, none⟩ = false) := by
 obtain ⟨⟨m, h⟩, b, off, e, e2, h1, h2, h3, hc, hf⟩ := x.el mailOk hi'
 exact ⟨m, h, b, off, e, e2, h1, h2, ⟨h3, hc 0 (by show 0 < 15; omega), hc⟩, x.each i _ e, hf⟩
theorem there_of {w : World} {b o m : Nat} {vs : List Value} (hl : vs.length = m) (hc : ∀ k, k < m → w.cell? ⟨b, o + k, none⟩ = vs[k]?) (hf : ∀ j, j < m → w.frozen? ⟨b, o + j, none⟩ = false) : w.there b o m := fun j hj => ⟨by rw [hc j hj, List.getElem?_eq_getElem (by omega)]; rfl, hf j hj⟩
theorem kept_el {w : World} (b o : Nat) (us : List Value) : Kept b (b + 1) w (w.setCells b o us) := (Kept.refl _ _ _).setCells (Nat.le_refl _) (Nat.lt_succ_self _) _ _
structure PutE (w W : World) (b o : Nat) (us : List Value) : Prop where
 eq : W = w.setCells b o us
theorem store_elP {P : Program} {ops : Array Oper} {rest : List Oper} {dst : Option Tmp} {type : TypeId} {pos : String} {after : Array Edge} {a : Act} {w : World} {Q : Exit → Act → World → Prop} (ty : TypeId) {x y : Operand} {b o m : Nat} (T : w.there b o m) (us : List Value) (hl : us.length = m) (hi : (P.info? ty).map (·.size) = some m) (h1 : ∀ v ∈ us, v.oneCell' = true) (hx : a.eval x = .pointer (some ⟨b, o, none⟩)) (hy : a.eval y = .agg us.toArray)
  (h : ∀ W : World, PutE w W b o us → wpList P ops Q rest (a.put dst undef) W) : wpList P ops Q (⟨dst, .store ty x y, type, pos, after, none⟩ :: rest) a w := by
 refine wpList_plain rfl fun K hK => ?_
 subst hl
 refine wp_store_mid ty x y rfl b o us.toArray hx hy (by rw [List.size_toArray]; exact T) (by rw [List.size_toArray]; exact hi) (all_oneCell_toArray h1) (hK _ _ (h _ ⟨?_⟩))
 simp
theorem Tryz.infReplica : (Tryz.prog.info? 65).map (fun i => (i.zero, i.size, i.bytes)) = some (some (.agg #[.int .i64 0, .int .i64 0, .int .i64 0, .bool false, .int .i64 0, .slice none 0 0, .int .i64 0, .slice none 0 0, .slice none 0 0, .slice none 0 0]), 10, 144) := by kernel_rfl
def ReplicaSt (xs : List Nod) (g n : Nat) (wr : World) (k : Nat) : Prop := ∃ ys : List Nod, LAt nodeK wr true g wr.heap.size (some ⟨g, 0, none⟩) n n ys ∧ (∀ i : Nat, i < k → (ys.getD i nod0).1 = (xs.getD i nod0).1) ∧ (∀ i : Nat, i < k → (fun a : Nod => RSz a.2 1048576) (ys.getD i nod0))
theorem Tryz.infMail : (Tryz.prog.info? 75).map (fun i => (i.zero, i.size, i.bytes)) = some (some (.agg #[.int .i64 0, .int .i64 0, .int .i64 0, .int .i64 0, .int .i64 0, .bool false, .int .i64 0, .int .i64 0, .int .i64 0, .int .i64 0, .int .i64 0, .int .i64 0, .int .i64 0, .slice none 0 0, .int .i64 0]), 15, 136) := by kernel_rfl
def MailSt (xs : List Mal) (g n : Nat) (wr : World) (k : Nat) : Prop := ∃ ys : List Mal, LAt mailK wr true g wr.heap.size (some ⟨g, 0, none⟩) n n ys ∧ (∀ i : Nat, i < k → (ys.getD i mal0).1 = (xs.getD i mal0).1) ∧ (∀ i : Nat, i < k → (fun a : Mal => a.2.2.1 ≤ 1048576) (ys.getD i mal0))
def NAt (w : World) (own : Bool) (lo hi : Nat) (N : Hd) (xs : List Nod) : Prop := LAt nodeK w own lo hi N.1 N.2.1 N.2.2 xs
def MAt (w : World) (own : Bool) (lo hi : Nat) (M : Hd) (ms : List Mal) : Prop := LAt mailK w own lo hi M.1 M.2.1 M.2.2 ms
section
variable {w w' : World} {own : Bool} {lo hi : Nat} {N M Sl : Hd} {xs : List Nod} {ms : List Mal} {es : List En}
theorem NAt.below (h : NAt w own lo hi N xs) (hb : Below w.heap.size w w') : NAt w' own lo hi N xs := LAt.below nodeOk h hb
theorem MAt.below (h : MAt w own lo hi M ms) (hb : Below w.heap.size w w') : MAt w' own lo hi M ms := LAt.below mailOk h hb
theorem NAt.kept (h : NAt w own lo hi N xs) {l u : Nat} (hk : Kept l u w w') (hd : hi ≤ l ∨ u ≤ lo) : NAt w' own lo hi N xs := LAt.kept nodeOk h hk hd
theorem MAt.kept (h : MAt w own lo hi M ms) {l u : Nat} (hk : Kept l u w w') (hd : hi ≤ l ∨ u ≤ lo) : MAt w' own lo hi M ms := LAt.kept mailOk h hk hd
theorem NAt.widen (h : NAt w own lo hi N xs) {lo' hi' : Nat} (h1 : lo' ≤ lo) (h2 : hi ≤ hi') : NAt w own lo' hi' N xs := LAt.widen nodeOk h h1 h2
theorem MAt.widen (h : MAt w own lo hi M ms) {lo' hi' : Nat} (h1 : lo' ≤ lo) (h2 : hi ≤ hi') : MAt w own lo' hi' M ms := LAt.widen mailOk h h1 h2
theorem NAt.inB (h : NAt w own lo hi N xs) {q : Nat} (hq : inL nodeK N.1 N.2.1 xs q) : lo ≤ q ∧ q < hi ∧ q < w.heap.size := LAt.inB nodeOk h hq
structure ClAt (w : World) (own : Bool) (lo hi : Nat) (N M Sl : Hd) (xs : List Nod) (ms : List Mal) (es : List En) : Prop where
 nodes : NAt w own lo hi N xs
 mails : MAt w own lo hi M ms
 slog : RowAt w own lo hi 6 Sl.1 Sl.2.1 Sl.2.2 (sixs es)
 sep : own = true → Sep (inL nodeK N.1 N.2.1 xs) (inL mailK M.1 M.2.1 ms) ∧ Sep (inL nodeK N.1 N.2.1 xs) (hR Sl) ∧ Sep (inL mailK M.1 M.2.1 ms) (hR Sl)
structure ClSz (N M Sl : Hd) (xs : List Nod) (ms : List Mal) (z : Nat) : Prop where
 n : N.2.1 ≤ z
 m : M.2.1 ≤ z
 s : Sl.2.1 ≤ z
 nodes : ∀ (i : Nat) (a : Nod), xs[i]? = some a → RSz a.2 z
 mails : ∀ (i : Nat) (a : Mal), ms[i]? = some a → a.2.2.1 ≤ z
theorem ClAt.below (x : ClAt w own lo hi N M Sl xs ms es) (hb : Below w.heap.size w w') : ClAt w' own lo hi N M Sl xs ms es := ⟨x.nodes.below hb, x.mails.below hb, x.slog.below hb, x.sep⟩
theorem ClAt.kept (x : ClAt w own lo hi N M Sl xs ms es) {l u : Nat} (hk : Kept l u w w') (hd : hi ≤ l ∨ u ≤ lo) : ClAt w' own lo hi N M Sl xs ms es := ⟨x.nodes.kept hk hd, x.mails.kept hk hd, x.slog.kept hk hd, x.sep⟩
theorem ClAt.widen (x : ClAt w own lo hi N M Sl xs ms es) {lo' hi' : Nat} (h1 : lo' ≤ lo) (h2 : hi ≤ hi') : ClAt w own lo' hi' N M Sl xs ms es := ⟨x.nodes.widen h1 h2, x.mails.widen h1 h2, x.slog.widen h1 h2, x.sep⟩
end
def fstF (f : Nat → Int) : Nat → Int
 | 0 => 0
 | k + 1 => if fstF f k = 0 then f k else fstF f k
theorem fstF_le (f : Nat → Int) {k c : Nat} (hc : fstF f k ≠ 0) (n : Nat) (hn : n = k + c) : fstF f n = fstF f k := by
 induction c generalizing n with
 | zero => rw [hn]; rfl
 | succ c ih =>
  have e := ih (k + c) rfl
  rw [hn]
  show (if fstF f (k + c) = 0 then f (k + c) else fstF f (k + c)) = _
  rw [e, if_neg hc]
theorem fstF_stop {f : Nat → Int} {k n : Nat} {d c : Int} (hd : fstF f n = d) (h0 : fstF f k = 0) (hk : k < n) (hc : f k = c) (h1 : c ≠ 0) : d = c := by
 have e : fstF f (k + 1) = c := by show (if fstF f k = 0 then f k else fstF f k) = c; rw [if_pos h0, hc]
 rw [← hd, fstF_le f (k := k + 1) (c := n - (k + 1)) (by rw [e]; exact h1) n (by omega), e]
theorem fstF_next {f : Nat → Int} {k : Nat} (h0 : fstF f k = 0) (hc : f k = 0) : fstF f (k + 1) = 0 := by show (if fstF f k = 0 then f k else fstF f k) = 0; rw [if_pos h0, hc]
theorem fstF_all {f : Nat → Int} {n : Nat} (h : fstF f n = 0) : ∀ i, i < n → f i = 0 := by
 induction n with
 | zero => intro i hi; omega
 | succ n ih =>
  have h' : (if fstF f n = 0 then f n else fstF f n) = 0 := h
  by_cases e : fstF f n = 0
  ·rw [if_pos e] at h'
   intro i hi
   rcases Nat.lt_succ_iff_lt_or_eq.1 hi with q | q
   ·exact ih e i q
   ·rw [q]; exact h'
  ·rw [if_neg e] at h'; exact absurd h' e
def nodeF (rs : List Rep) (i : Nat) : Int := if repF (rs.getD i rep0) = 0 then (if (rs.getD i rep0).id = i ∧ (rs.getD i rep0).size = rs.length then 0 else 1) else repF (rs.getD i rep0)
def mailIn (rs : List Rep) (m : Ml) : Int := if 0 ≤ m.to ∧ m.to ≤ (rs.length : Int) - 1 then mailAtF (rs.getD m.to.toNat rep0) m else 3
def nodesF (rs : List Rep) : Int := fstF (nodeF rs) rs.length
def mailsF (rs : List Rep) (ms : List Ml) : Int := fstF (fun i => mailIn rs (ms.getD i ml0)) ms.length
def cluF (rs : List Rep) (ms : List Ml) (es : List En) : Int := if (1 ≤ (rs.length : Int) ∧ (rs.length : Int) ≤ 5) ∧ ms.length ≤ 120 then (if nodesF rs = 0 then (if mailsF rs ms = 0 then logF es else mailsF rs ms) else nodesF rs) else 2
theorem nodeF_rep {rs : List Rep} {i : Nat} {r : Rep} (e : rs.getD i rep0 = r) {c : Int} (hc : repF r = c) (h : c ≠ 0) : nodeF rs i = c := by unfold nodeF; rw [e, hc, if_neg h]
theorem nodeF_form {rs : List Rep} {i : Nat} {r : Rep} (e : rs.getD i rep0 = r) (hc : repF r = 0) (h : ¬ (r.id = i ∧ r.size = rs.length)) : nodeF rs i = 1 := by unfold nodeF; rw [e, if_pos hc, if_neg h]
theorem nodeF_ok {rs : List Rep} {i : Nat} {r : Rep} (e : rs.getD i rep0 = r) (hc : repF r = 0) (h : r.id = i ∧ r.size = rs.length) : nodeF rs i = 0 := by unfold nodeF; rw [e, if_pos hc, if_pos h]
theorem nodesF_all {rs : List Rep} (h : nodesF rs = 0) (i : Nat) (hi : i < rs.length) : repF (rs.getD i rep0) = 0 ∧ (rs.getD i rep0).id = i ∧ (rs.getD i rep0).size = rs.length := by
 have e := fstF_all h i hi
 unfold nodeF at e
 by_cases q : repF (rs.getD i rep0) = 0
 ·rw [if_pos q] at e
  by_cases q2 : (rs.getD i rep0).id = i ∧ (rs.getD i rep0).size = rs.length
  ·exact ⟨q, q2⟩
  ·rw [if_neg q2] at e; cases e
 ·rw [if_neg q] at e; exact absurd e q
theorem mapD {β γ : Type} {d : β} {xs : List (β × γ)} {i : Nat} {a : β × γ} (e : xs[i]? = some a) : (xs.map (·.1)).getD i d = a.1 := by simp [List.getD, e]
end Go.Proofs.YtgldocaohcoleaaGreat

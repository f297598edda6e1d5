/- Chapter 11: lists whose elements have memory of their own, in plain words. No program is named here. -/
import Derived.Test.YtgldocaohcoleaaGreatWQ
import Derived.Test.YtgldocaohcoleaaGreatWB
import Derived.Test.YtgldocaohcoleaaGreatWH
set_option maxRecDepth 20000
set_option maxHeartbeats 16000000
namespace Go.Proofs.YtgldocaohcoleaaGreat
open Go.RowKit
structure Kd (α : Type) where
 sz : Nat
 cells : α → List Value
 mem : World → Bool → Nat → Nat → α → Prop
 inn : α → Nat → Prop
structure KdOk {α : Type} (k : Kd α) : Prop where
 pos : 0 < k.sz
 len : ∀ a, (k.cells a).length = k.sz
 below : ∀ {w w' : World} {own : Bool} {lo hi : Nat} {a : α}, k.mem w own lo hi a → Below w.heap.size w w' → k.mem w' own lo hi a
 kept : ∀ {w w' : World} {own : Bool} {lo hi : Nat} {a : α} {l u : Nat}, k.mem w own lo hi a → Kept l u w w' → (hi ≤ l ∨ u ≤ lo) → k.mem w' own lo hi a
 widen : ∀ {w : World} {own : Bool} {lo hi : Nat} {a : α} {lo' hi' : Nat}, k.mem w own lo hi a → lo' ≤ lo → hi ≤ hi' → k.mem w own lo' hi' a
 keptS : ∀ {w w' : World} {own : Bool} {lo hi : Nat} {a : α} {S : Nat → Prop}, k.mem w own lo hi a → KeptS S w w' → Sep (k.inn a) S → k.mem w' own lo hi a
 ro : ∀ {w : World} {own : Bool} {lo hi : Nat} {a : α}, k.mem w own lo hi a → k.mem w false lo hi a
 inB : ∀ {w : World} {own : Bool} {lo hi : Nat} {a : α} {q : Nat}, k.mem w own lo hi a → k.inn a q → lo ≤ q ∧ q < hi ∧ q < w.heap.size
structure LAt {α : Type} (k : Kd α) (w : World) (own : Bool) (lo hi : Nat) (ao : Option Addr) (n cap : Nat) (xs : List α) : Prop where
 len : xs.length = n
 row : RowAt w own lo hi k.sz ao n cap (xs.flatMap k.cells)
 each : ∀ (i : Nat) (a : α), xs[i]? = some a → k.mem w own lo hi a
 far : own = true → ∀ (i : Nat) (a : α), xs[i]? = some a → ∀ q, k.inn a q → q ≠ sb ao
 sep : own = true → ∀ (i j : Nat) (a b : α), xs[i]? = some a → xs[j]? = some b → i ≠ j → Sep (k.inn a) (k.inn b)
def inL {α : Type} (k : Kd α) (ao : Option Addr) (n : Nat) (xs : List α) (q : Nat) : Prop := (n ≠ 0 ∧ q = sb ao) ∨ ∃ (i : Nat) (a : α), xs[i]? = some a ∧ k.inn a q
section
variable {α : Type} {k : Kd α} {w w' : World} {own : Bool} {lo hi : Nat} {ao : Option Addr} {n cap : Nat} {xs : List α}
theorem LAt.below (K : KdOk k) (h : LAt k w own lo hi ao n cap xs) (hb : Below w.heap.size w w') : LAt k w' own lo hi ao n cap xs := ⟨h.len, h.row.below hb, fun i a e => K.below (h.each i a e) hb, h.far, h.sep⟩
theorem LAt.kept (K : KdOk k) (h : LAt k w own lo hi ao n cap xs) {l u : Nat} (hk : Kept l u w w') (hd : hi ≤ l ∨ u ≤ lo) : LAt k w' own lo hi ao n cap xs := ⟨h.len, h.row.kept hk hd, fun i a e => K.kept (h.each i a e) hk hd, h.far, h.sep⟩
theorem LAt.widen (K : KdOk k) (h : LAt k w own lo hi ao n cap xs) {lo' hi' : Nat} (h1 : lo' ≤ lo) (h2 : hi ≤ hi') : LAt k w own lo' hi' ao n cap xs := ⟨h.len, h.row.widen h1 h2, fun i a e => K.widen (h.each i a e) h1 h2, h.far, h.sep⟩
theorem LAt.ro (K : KdOk k) (h : LAt k w own lo hi ao n cap xs) : LAt k w false lo hi ao n cap xs := ⟨h.len, h.row.ro, fun i a e => K.ro (h.each i a e), fun q => (by cases q), fun q => (by cases q)⟩
theorem LAt.keptS (K : KdOk k) (h : LAt k w own lo hi ao n cap xs) {S : Nat → Prop} (hk : KeptS S w w') (hd : Sep (inL k ao n xs) S) : LAt k w' own lo hi ao n cap xs :=
 ⟨h.len, h.row.keptR hk fun q hq => hd q (Or.inl hq), fun i a e => K.keptS (h.each i a e) hk fun q hq => hd q (Or.inr ⟨i, a, e, hq⟩), h.far, h.sep⟩
theorem LAt.inB (K : KdOk k) (h : LAt k w own lo hi ao n cap xs) {q : Nat} (hq : inL k ao n xs q) : lo ≤ q ∧ q < hi ∧ q < w.heap.size := by
 rcases hq with h0 | ⟨i, a, e, h0⟩
 ·exact h.row.inB h0
 ·exact K.inB (h.each i a e) h0
theorem LAt.nil (k : Kd α) (w : World) (own : Bool) (lo hi : Nat) (ao : Option Addr) (c : Nat) : LAt k w own lo hi ao 0 c [] :=
 ⟨rfl, RowAt.nilR _ _ _ _ _ _ _, fun i a e => by simp at e, fun _ i a e => by simp at e, fun _ i j a b e => by simp at e⟩
theorem flatMap_len (K : KdOk k) (xs : List α) : (xs.flatMap k.cells).length = xs.length * k.sz := by
 induction xs with
 | nil => simp
 | cons a r ih => simp [K.len, ih, Nat.succ_mul]; omega
theorem flatMap_at (K : KdOk k) : ∀ (xs : List α) (i : Nat) (a : α), xs[i]? = some a → ∀ j, j < k.sz → (xs.flatMap k.cells)[i * k.sz + j]? = (k.cells a)[j]?
 | [], i, a, e, _, _ => by simp at e
 | x :: r, 0, a, e, j, hj => by
  have e2 : x = a := by simpa using e
  subst e2
  rw [Nat.zero_mul, Nat.zero_add, List.flatMap_cons, List.getElem?_append_left (by rw [K.len]; exact hj)]
 | x :: r, i + 1, a, e, j, hj => by
  have ih := flatMap_at K r i a (by simpa using e) j hj
  rw [List.flatMap_cons, List.getElem?_append_right (by rw [K.len, Nat.succ_mul]; omega), K.len, ← ih]
  congr 1
  rw [Nat.succ_mul]; omega
theorem LAt.el (K : KdOk k) (h : LAt k w own lo hi ao n cap xs) {i : Nat} (hi' : i < n) : ∃ a b off, xs[i]? = some a ∧ ao = some ⟨b, off, none⟩ ∧ lo ≤ b ∧ b < hi ∧ b < w.heap.size ∧ (∀ j, j < k.sz → w.cell? ⟨b, off + i * k.sz + j, none⟩ = (k.cells a)[j]?) ∧ (own = true → ∀ j, j < k.sz → w.frozen? ⟨b, off + i * k.sz + j, none⟩ = false) := by
 have hx : i < xs.length := by rw [h.len]; exact hi'
 have e : xs[i]? = some xs[i] := List.getElem?_eq_getElem hx
 obtain ⟨b, off, rfl, h1, h2, h3, h4, h5⟩ := h.row.cells (by omega)
 refine ⟨xs[i], b, off, e, rfl, h1, h2, h3, fun j hj => ?_, fun ho j hj => ?_⟩
 ·have q := at_lt (sz := k.sz) hi' hj
  rw [Nat.add_assoc, h4 _ q, List.getD_eq_getElem?_getD, flatMap_at K xs i _ e j hj, List.getElem?_eq_getElem (by rw [K.len]; exact hj)]; rfl
 ·rw [Nat.add_assoc]; exact h5 ho _ (at_lt hi' hj)
theorem flatMap_set_in (K : KdOk k) (xs : List α) (i : Nat) (hi : i < xs.length) (a : α) (j : Nat) (hj : j < k.sz) : ((xs.set i a).flatMap k.cells)[i * k.sz + j]? = (k.cells a)[j]? :=
 flatMap_at K (xs.set i a) i a (by simp [hi]) j hj
theorem flatMap_set_out (K : KdOk k) (xs : List α) (i : Nat) (a : α) (q : Nat) (hq : q < i * k.sz ∨ i * k.sz + k.sz ≤ q) : ((xs.set i a).flatMap k.cells)[q]? = (xs.flatMap k.cells)[q]? := by
 have hl : (xs.set i a).length = xs.length := by simp
 by_cases hlt : q < xs.length * k.sz
 ·have hs := K.pos
  have hd : q / k.sz < xs.length := Nat.div_lt_of_lt_mul (by rwa [Nat.mul_comm])
  have hm := Nat.mod_lt q hs
  have e : q = q / k.sz * k.sz + q % k.sz := by rw [Nat.mul_comm]; exact (Nat.div_add_mod q k.sz).symm
  have hne : i ≠ q / k.sz := fun c => by
   rw [← c] at e; omega
  rw [e, flatMap_at K (xs.set i a) (q / k.sz) xs[q / k.sz] (by rw [List.getElem?_set_ne hne]; exact List.getElem?_eq_getElem hd) _ hm, flatMap_at K xs (q / k.sz) _ (List.getElem?_eq_getElem hd) _ hm]
 ·rw [List.getElem?_eq_none (by rw [flatMap_len K, hl]; omega), List.getElem?_eq_none (by rw [flatMap_len K]; omega)]
theorem LAt.put (K : KdOk k) {b off : Nat} (h : LAt k w true lo hi (some ⟨b, off, none⟩) n cap xs) {i : Nat} (hi' : i < n) (a : α) (hm : k.mem w true lo hi a) (hf : ∀ q, k.inn a q → q ≠ b) (hs : ∀ (j : Nat) (c : α), xs[j]? = some c → j ≠ i → Sep (k.inn a) (k.inn c)) :
  LAt k (w.setCells b (off + i * k.sz) (k.cells a)) true lo hi (some ⟨b, off, none⟩) n cap (xs.set i a) := by
 have hx : i < xs.length := by rw [h.len]; exact hi'
 have KS1 : KeptS (fun x => x = b) w (w.setCells b (off + i * k.sz) (k.cells a)) := (((Kept.refl b (b + 1) w).setCells (Nat.le_refl _) (Nat.lt_succ_self _) _ _)).toS fun q h1 h2 => by omega
 refine ⟨by simpa using h.len, ⟨by rw [flatMap_len K]; simp [h.len], h.row.le, fun hn => ?_⟩, fun j c e => ?_, fun _ j c e q hq => ?_, fun _ j m c d e1 e2 hne => ?_⟩
 ·obtain ⟨b', off', e, h1, h2, h3, h4, h5⟩ := h.row.cells hn
  simp only [Option.some.injEq, Addr.mk.injEq, and_true] at e
  obtain ⟨rfl, rfl⟩ := e
  refine ⟨_, _, rfl, h1, h2, by rw [size_setCells']; exact h3, fun q hq => ?_, fun _ q hq => by rw [World.frozen?_setCells]; exact h5 rfl q hq⟩
  by_cases hin : i * k.sz ≤ q ∧ q < i * k.sz + k.sz
  ·have := World.cell?_setCells_in b (k.cells a) (off + i * k.sz) w (fun j hj => by rw [K.len] at hj; rw [Nat.add_assoc, h4 _ (at_lt hi' hj)]; rfl) (q - i * k.sz) (by rw [K.len]; omega)
   rw [show off + i * k.sz + (q - i * k.sz) = off + q by omega] at this
   rw [this, List.getD_eq_getElem?_getD]
   have t := flatMap_set_in K xs i hx a (q - i * k.sz) (by omega)
   rw [show i * k.sz + (q - i * k.sz) = q by omega] at t
   rw [t, List.getElem?_eq_getElem (by rw [K.len]; omega)]; rfl
  ·rw [World.cell?_setCells_out b (k.cells a) (off + i * k.sz) w ⟨b, off + q, none⟩ (fun _ _ => by show off + q < off + i * k.sz ∨ _; rw [K.len]; show _ ∨ off + i * k.sz + k.sz ≤ off + q; omega), h4 q hq]
   rw [List.getD_eq_getElem?_getD, List.getD_eq_getElem?_getD, flatMap_set_out K xs i a q (by omega)]
 ·by_cases e2 : j = i
  ·subst e2
   have : a = c := by simpa [hx] using e
   subst this
   exact K.keptS hm KS1 fun q hq => hf q hq
  ·rw [List.getElem?_set_ne (Ne.symm e2)] at e
   exact K.keptS (h.each j c e) KS1 fun q hq => h.far rfl j c e q hq
 ·by_cases e2 : j = i
  ·subst e2
   have : a = c := by simpa [hx] using e
   subst this
   exact hf q hq
  ·rw [List.getElem?_set_ne (Ne.symm e2)] at e
   exact h.far rfl j c e q hq
 ·by_cases e3 : j = i
  ·subst e3
   have : a = c := by simpa [hx] using e1
   subst this
   rw [List.getElem?_set_ne hne] at e2
   exact hs m d e2 (Ne.symm hne)
  ·rw [List.getElem?_set_ne (Ne.symm e3)] at e1
   by_cases e4 : m = i
   ·subst e4
    have : a = d := by simpa [hx] using e2
    subst this
    exact (hs j c e1 e3).symm
   ·rw [List.getElem?_set_ne (Ne.symm e4)] at e2
    exact h.sep rfl j m c d e1 e2 hne
end
abbrev Nod := Rep × RH
def nodeK : Kd Nod := ⟨10, fun a => repC a.1 a.2, fun w own lo hi a => RepAt w own lo hi a.2 a.1, fun a => inRep a.2⟩
theorem nodeOk : KdOk nodeK where
 pos := by show 0 < 10; omega
 len := fun _ => rfl
 below := fun h hb => RepAt.below h hb
 kept := fun h hk hd => RepAt.kept h hk hd
 widen := fun h h1 h2 => RepAt.widen h h1 h2
 keptS := fun h hk hd => RepAt.keptS h hk hd
 ro := fun h => RepAt.ro h
 inB := fun h hq => RepAt.inB h hq
abbrev Mal := Ml × Hd
def mailK : Kd Mal := ⟨15, fun a => mlV a.2 a.1, fun w own lo hi a => RowAt w own lo hi 6 a.2.1 a.2.2.1 a.2.2.2 (sixs a.1.log), fun a => hR a.2⟩
theorem mailOk : KdOk mailK where
 pos := by show 0 < 15; omega
 len := fun _ => rfl
 below := fun h hb => RowAt.below h hb
 kept := fun h hk hd => RowAt.kept h hk hd
 widen := fun h h1 h2 => RowAt.widen h h1 h2
 keptS := fun h hk hd => RowAt.keptR h hk hd
 ro := fun h => RowAt.ro h
 inB := fun h hq => RowAt.inB h hq
def rh0 : RH := ⟨(none, 0, 0), (none, 0, 0), (none, 0, 0), (none, 0, 0), fun _ => (none, 0, 0)⟩
def nod0 : Nod := (rep0, rh0)
def mal0 : Mal := (ml0, (none, 0, 0))
theorem nod0_mem (w : World) (own : Bool) (lo hi : Nat) : nodeK.mem w own lo hi nod0 := (AnsAt.none w own lo hi).rep
theorem nod0_inn (q : Nat) : ¬ nodeK.inn nod0 q := by
 intro h
 rcases h with h | h | h | h
 ·exact h.1 rfl
 ·exact h.1 rfl
 ·exact h.1 rfl
 ·rcases h with h | ⟨i, hi, _⟩
  ·exact h.1 rfl
  ·exact absurd hi (Nat.not_lt_zero _)
theorem mal0_mem (w : World) (own : Bool) (lo hi : Nat) : mailK.mem w own lo hi mal0 := RowAt.nilR _ _ _ _ _ _ _
theorem mal0_inn (q : Nat) : ¬ mailK.inn mal0 q := fun h => h.1 rfl
section
variable {w : World} {own : Bool} {lo hi : Nat} {ao : Option Addr} {n cap : Nat}
theorem LAt.mails {xs : List Mal} (h : LAt mailK w own lo hi ao n cap xs) : MailsAt w own lo hi ao n cap (fun i => (xs.getD i mal0).2) (xs.map (·.1)) := by
 have hg : ∀ i, i < n → (xs.map (·.1)).getD i ml0 = (xs.getD i mal0).1 := fun i hi => by
  have : i < xs.length := by rw [h.len]; exact hi
  simp [List.getD, this]
 have he : ∀ i, i < n → xs[i]? = some (xs.getD i mal0) := fun i hi => by
  have : i < xs.length := by rw [h.len]; exact hi
  simp [List.getD, this]
 refine ⟨by simpa using h.len, ?_, fun i hi => ?_, fun ho i hi h0 => ⟨?_, fun j hj hne h1 => ?_⟩⟩
 ·have e : flatF 15 n (mlF (fun i => (xs.getD i mal0).2) (xs.map (·.1))) = xs.flatMap mailK.cells := by
   apply List.ext_getElem?
   intro q
   by_cases hq : q < n * 15
   ·have hd : q / 15 < n := by omega
    have t := flatMap_at mailOk xs (q / 15) _ (he _ hd) (q % 15) (Nat.mod_lt _ (by show 0 < 15; omega))
    have e2 : q / 15 * mailK.sz + q % 15 = q := by show q / 15 * 15 + q % 15 = q; omega
    rw [e2] at t
    rw [t]
    have t2 := flatF_get (sz := 15) (n := n) (mlF (fun i => (xs.getD i mal0).2) (xs.map (·.1))) (i := q / 15) (j := q % 15) hd (by omega)
    rw [show q / 15 * 15 + q % 15 = q by omega] at t2
    have hl : q < (flatF 15 n (mlF (fun i => (xs.getD i mal0).2) (xs.map (·.1)))).length := by rw [flatF_len]; exact hq
    rw [List.getElem?_eq_getElem hl]
    rw [List.getD_eq_getElem?_getD, List.getElem?_eq_getElem hl, Option.getD_some] at t2
    rw [t2]
    unfold mlF
    rw [hg _ hd, List.getD_eq_getElem?_getD]
    have hl2 : q % 15 < (mlV (xs.getD (q / 15) mal0).2 (xs.getD (q / 15) mal0).1).length := by show q % 15 < 15; omega
    show some ((mlV _ _)[q % 15]?.getD default) = (mlV _ _)[q % 15]?
    rw [List.getElem?_eq_getElem hl2, Option.getD_some]
   ·rw [List.getElem?_eq_none (by rw [flatF_len]; omega), List.getElem?_eq_none (by rw [flatMap_len mailOk, h.len]; show n * 15 ≤ q; omega)]
  rw [e]; exact h.row
 ·unfold mlL; rw [hg i hi]; exact h.each i _ (he i hi)
 ·exact h.far ho i _ (he i hi) _ ⟨h0, rfl⟩
 ·exact fun e => h.sep ho j i _ _ (he j hj) (he i hi) hne _ ⟨h1, rfl⟩ ⟨h0, e⟩
end
structure Ro (w : World) (b oz : Nat) (vs : List Value) : Prop where
 lt : b < w.heap.size
 cell : w.cell? ⟨b, oz, none⟩ = vs[0]? ∧ ∀ k : Nat, k < 10 → w.cell? ⟨b, oz + k, none⟩ = vs[k]?
theorem Ro.below {w W : World} {b oz : Nat} {vs : List Value} (h : Ro w b oz vs) (hb : Below w.heap.size w W) : Ro W b oz vs :=
 ⟨Nat.lt_of_lt_of_le h.lt hb.size, by rw [World.cell?_of_block (w := w) (a := ⟨b, oz, none⟩) (hb.block b h.lt)]; exact h.cell.1, fun k hk => by rw [World.cell?_of_block (w := w) (a := ⟨b, oz + k, none⟩) (hb.block b h.lt)]; exact h.cell.2 k hk⟩
structure Rm (w : World) (b oz : Nat) (vs : List Value) : Prop where
 lt : b < w.heap.size
 cell : w.cell? ⟨b, oz, none⟩ = vs[0]? ∧ ∀ k : Nat, k < 15 → w.cell? ⟨b, oz + k, none⟩ = vs[k]?
theorem Rm.below {w W : World} {b oz : Nat} {vs : List Value} (h : Rm w b oz vs) (hb : Below w.heap.size w W) : Rm W b oz vs :=
 ⟨Nat.lt_of_lt_of_le h.lt hb.size, by rw [World.cell?_of_block (w := w) (a := ⟨b, oz, none⟩) (hb.block b h.lt)]; exact h.cell.1, fun k hk => by rw [World.cell?_of_block (w := w) (a := ⟨b, oz + k, none⟩) (hb.block b h.lt)]; exact h.cell.2 k hk⟩
theorem LAt.node {w : World} {own : Bool} {lo hi : Nat} {ao : Option Addr} {n cap : Nat} {xs : List Nod} (x : LAt nodeK w own lo hi ao n cap xs) {i : Nat} (hi' : i < n) : ∃ r h b off, xs[i]? = some (r, h) ∧ ao = some ⟨b, off, none⟩ ∧ lo ≤ b ∧ b < hi ∧ Ro w b (off + i * 10) [.int .i64 r.id, .int .i64 r.size, .int .i64 r.view, .bool r.normal, .int .i64 r.last, .slice h.L.1 h.L.2.1 h.L.2.2, .int .i64 r.commit, .slice h.O.1 h.O.2.1 h.O.2.2, .slice h.A.1 h.A.2.1 h.A.2.2, .slice h.D.1 h.D.2.1 h.D.2.2] ∧ RepAt w own lo hi h r ∧ (own = true → ∀ j, j < 10 → w.frozen? ⟨b, off + i * 10 + j, none⟩ = false) := by
 obtain ⟨⟨r, h⟩, b, off, e, e2, h1, h2, h3, hc, hf⟩ := x.el nodeOk hi'
 exact ⟨r, h, b, off, e, e2, h1, h2, ⟨h3, hc 0 (by show 0 < 10; omega), hc⟩, x.each i _ e, hf⟩
theorem LAt.mail {w : World} {own : Bool} {lo hi : Nat} {ao : Option Addr} {n cap : Nat} {xs : List Mal} (x : LAt mailK w own lo hi ao n cap xs) {i : Nat} (hi' : i < n) : ∃ m h b off, xs[i]? = some (m, h) ∧ ao = some ⟨b, off, none⟩ ∧ lo ≤ b ∧ b < hi ∧ Rm w b (off + i * 15) [.int .i64 m.kind, .int .i64 m.fr, .int .i64 m.to, .int .i64 m.view, .int .i64 m.at_, .bool m.has, .int .i64 m.en.1, .int .i64 m.en.2.1, .int .i64 m.en.2.2.1, .int .i64 m.en.2.2.2.1, .int .i64 m.en.2.2.2.2.1, .int .i64 m.en.2.2.2.2.2, .int .i64 m.last, .slice h.1 h.2.1 h.2.2, .int .i64 m.commit] ∧ RowAt w own lo hi 6 h.1 h.2.1 h.2.2 (sixs m.log) ∧ (own = true → ∀ j, j < 15 → w.frozen? ⟨b, off + i * 15 + j, none⟩ = false) := by
 obtain ⟨⟨m, h⟩, b, off, e, e2, h1, h2, h3, hc, hf⟩ := x.el mailOk hi'
 exact ⟨m, h, b, off, e, e2, h1, h2, ⟨h3, hc 0 (by show 0 < 15; omega), hc⟩, x.each i _ e, hf⟩
theorem there_of {w : World} {b o m : Nat} {vs : List Value} (hl : vs.length = m) (hc : ∀ k, k < m → w.cell? ⟨b, o + k, none⟩ = vs[k]?) (hf : ∀ j, j < m → w.frozen? ⟨b, o + j, none⟩ = false) : w.there b o m := fun j hj => ⟨by rw [hc j hj, List.getElem?_eq_getElem (by omega)]; rfl, hf j hj⟩
theorem store_elX {P : Program} {ops : Array Oper} {rest : List Oper} {dst : Option Tmp} {type : TypeId} {pos : String} {after : Array Edge} {a : Act} {w : World} {Q : Exit → Act → World → Prop} (ty : TypeId) {x y : Operand} {b o m : Nat} (T : w.there b o m) (us : List Value) (hl : us.length = m) (hi : (P.info? ty).map (·.size) = some m) (h1 : ∀ v ∈ us, v.oneCell' = true) (hx : a.eval x = .pointer (some ⟨b, o, none⟩)) (hy : a.eval y = .agg us.toArray)
  (h : ∀ W : World, W = w.setCells b o us → wpList P ops Q rest (a.put dst undef) W) : wpList P ops Q (⟨dst, .store ty x y, type, pos, after, none⟩ :: rest) a w := by
 refine wpList_plain rfl fun K hK => ?_
 subst hl
 refine wp_store_mid ty x y rfl b o us.toArray hx hy (by rw [List.size_toArray]; exact T) (by rw [List.size_toArray]; exact hi) (all_oneCell_toArray h1) (hK _ _ (h _ ?_))
 simp
theorem kept_el {w : World} (b o : Nat) (us : List Value) : Kept b (b + 1) w (w.setCells b o us) := (Kept.refl _ _ _).setCells (Nat.le_refl _) (Nat.lt_succ_self _) _ _
structure PutE (w W : World) (b o : Nat) (us : List Value) : Prop where
 eq : W = w.setCells b o us
theorem store_elP {P : Program} {ops : Array Oper} {rest : List Oper} {dst : Option Tmp} {type : TypeId} {pos : String} {after : Array Edge} {a : Act} {w : World} {Q : Exit → Act → World → Prop} (ty : TypeId) {x y : Operand} {b o m : Nat} (T : w.there b o m) (us : List Value) (hl : us.length = m) (hi : (P.info? ty).map (·.size) = some m) (h1 : ∀ v ∈ us, v.oneCell' = true) (hx : a.eval x = .pointer (some ⟨b, o, none⟩)) (hy : a.eval y = .agg us.toArray)
  (h : ∀ W : World, PutE w W b o us → wpList P ops Q rest (a.put dst undef) W) : wpList P ops Q (⟨dst, .store ty x y, type, pos, after, none⟩ :: rest) a w := by
 refine wpList_plain rfl fun K hK => ?_
 subst hl
 refine wp_store_mid ty x y rfl b o us.toArray hx hy (by rw [List.size_toArray]; exact T) (by rw [List.size_toArray]; exact hi) (all_oneCell_toArray h1) (hK _ _ (h _ ⟨?_⟩))
 simp
theorem made_list {α : Type} {k : Kd α} (K : KdOk k) (n : Nat) (a : α) (cs : Array Value) (hc : k.cells a = cs.toList) : (madeCells cs (n * k.sz)).toList = (List.replicate n a).flatMap k.cells := by
 have hs : cs.size = k.sz := by rw [← Array.length_toList, ← hc, K.len]
 have h0 := K.pos
 apply List.ext_getElem (by simp [madeCells, flatMap_len K])
 intro j h1 h2
 have hj : j < n * k.sz := by simpa [madeCells] using h1
 have hd : j / k.sz < n := Nat.div_lt_of_lt_mul (by rwa [Nat.mul_comm])
 have hm := Nat.mod_lt j h0
 have t := flatMap_at K (List.replicate n a) (j / k.sz) a (by simp [hd]) (j % k.sz) hm
 rw [show j / k.sz * k.sz + j % k.sz = j by rw [Nat.mul_comm]; exact Nat.div_add_mod j k.sz, List.getElem?_eq_getElem h2, hc] at t
 have hm2 : j % k.sz < cs.toList.length := by simpa [hs] using hm
 rw [List.getElem?_eq_getElem hm2, Option.some.injEq] at t
 rw [t]
 simp [madeCells, hs]
 exact getElem!_pos cs _ (by omega)
theorem map_fst_eq {β γ : Type} {d : β × γ} {xs ys : List (β × γ)} {n : Nat} (hx : xs.length = n) (hy : ys.length = n) (h : ∀ i : Nat, i < n → (ys.getD i d).1 = (xs.getD i d).1) : ys.map (·.1) = xs.map (·.1) := by
 apply List.ext_getElem (by simp [hx, hy])
 intro i h1 h2
 have a1 : i < ys.length := by simpa using h1
 have a2 : i < xs.length := by simpa using h2
 have := h i (by omega)
 simpa [List.getD, a1, a2] using this
theorem getD_set_fst {β : Type} {d : β} {ys : List β} {i j : Nat} (hi : i < ys.length) (a : β) : (ys.set i a).getD j d = if j = i then a else ys.getD j d := by
 by_cases e : j = i
 ·subst e; simp [List.getD, hi]
 ·rw [if_neg e]; simp [List.getD, List.getElem?_set_ne (Ne.symm e)]
theorem getD_of_get {β : Type} {d a : β} {ys : List β} {i : Nat} (h : ys[i]? = some a) : ys.getD i d = a := by simp [List.getD, h]
theorem LAt.made {α : Type} {k : Kd α} {w : World} {base : Nat} {e : TypeId} {g n : Nat} {a : α} (h : w.ownsRow base e k.sz (.slice (some ⟨g, 0, none⟩) n n) n ((List.replicate n a).flatMap k.cells)) (hm : k.mem w true base w.heap.size a) (hi : ∀ q, ¬ k.inn a q) : LAt k w true base w.heap.size (some ⟨g, 0, none⟩) n n (List.replicate n a) := by
 have get : ∀ (i : Nat) (c : α), (List.replicate n a)[i]? = some c → c = a := fun i c e => by
  have := List.mem_of_getElem? e
  exact (List.mem_replicate.1 this).2
 exact ⟨by simp, RowAt.of_owns h (Nat.le_refl _), fun i c e => by rw [get i c e]; exact hm, fun _ i c e q hq => by rw [get i c e] at hq; exact absurd hq (hi q), fun _ i j c d e1 _ _ q hq => by rw [get i c e1] at hq; exact absurd hq (hi q)⟩
theorem szMail_lt {own : Bool} {lo hi : Nat} (m : Ml) (h : Hd) (lt : Int) (w : World) (_ : RowAt w own lo hi 6 h.1 h.2.1 h.2.2 (sixs m.log)) (hs : h.2.1 ≤ maxLen) (h0 : 0 ≤ lt) (h1 : lt ≤ 1048576) :
  Calls Tryz.prog 54 #[.agg #[.int .i64 m.kind, .int .i64 m.fr, .int .i64 m.to, .int .i64 m.view, .int .i64 m.at_, .bool m.has, .int .i64 m.en.1, .int .i64 m.en.2.1, .int .i64 m.en.2.2.1, .int .i64 m.en.2.2.2.1, .int .i64 m.en.2.2.2.2.1, .int .i64 m.en.2.2.2.2.2, .int .i64 m.last, .slice h.1 h.2.1 h.2.2, .int .i64 m.commit], .int .i64 lt] w fun e w' => ∃ q : Int, e = .returned (.int .i64 q) ∧ Below w.heap.size w w' ∧ (q < 0 ∨ (0 ≤ q ∧ q ≤ 1048576 ∧ h.2.1 ≤ 1048576)) := by
 refine (szMail_left m h lt w hs h0 h1).mono ?_
 rintro e w1 ⟨rfl, b⟩
 by_cases c : lt < h.2.1
 ·exact ⟨_, rfl, b, Or.inl (by rw [if_pos c]; omega)⟩
 ·exact ⟨_, rfl, b, Or.inr (by rw [if_neg c]; omega)⟩
theorem szMails_lt {own : Bool} {lo hi : Nat} (ao : Option Addr) (n cap : Nat) (xs : List Mal) (lt : Int) (w : World) (x : LAt mailK w own lo hi ao n cap xs) (hn : n ≤ maxLen) (hs : (∀ (i : Nat) (a : Mal), xs[i]? = some a → a.2.2.1 ≤ maxLen)) (h0 : 0 ≤ lt) (h1 : lt ≤ 1048576) :
  Calls Tryz.prog 70 #[.slice ao n cap, .int .i64 lt] w fun e w' => ∃ q : Int, e = .returned (.int .i64 q) ∧ Below w.heap.size w w' ∧ (q < 0 ∨ (0 ≤ q ∧ q ≤ 1048576 ∧ n ≤ 1048576 ∧ (∀ (i : Nat) (a : Mal), xs[i]? = some a → a.2.2.1 ≤ 1048576))) := by
 have HS : Hid _ := hs
 clear hs
 by_cases hbig : lt < n
 ·have hbi : lt - (n : Int) < 0 := by omega
  unfold maxLen at hn
  go_enter Tryz.func70, Tryz.ntmps70
  go_wp2
  go_ret
  exact ⟨-1, rfl, Below.refl _ _, Or.inl (by omega)⟩
 have hbi : ¬ lt - (n : Int) < 0 := by omega
 unfold maxLen at hn
 go_enter Tryz.func70, Tryz.ntmps70
 go_wp2
 go_loopw [1, 5] (fun l i wr => ∃ k : Nat, k ≤ n ∧ i = .int .i64 k ∧ (∃ q : Int, l = .int .i64 q ∧ 0 ≤ q ∧ q ≤ 1048576) ∧ Hid (∀ (i : Nat) (a : Mal), i < k → xs[i]? = some a → a.2.2.1 ≤ 1048576) ∧ Below w.heap.size w wr) (fun _ i _ => n - (intOf i).toNat)
 case atStart => exact ⟨0, Nat.zero_le _, rfl, ⟨_, rfl, by omega, by omega⟩, fun i a hi => absurd hi (Nat.not_lt_zero _), Below.refl _ _⟩
 case round =>
  obtain ⟨k, hk, rfl, ⟨q, rfl, hr0, hr1⟩, HK, hb⟩ := hrel
  by_cases hlt : k < n
  ·have hlk : (k : Int) < (n : Int) := by omega
   obtain ⟨m, h, b, off, ex, rfl, _, _, X0, y, _⟩ := (x.below mailOk hb).mail hlt
   have c0 := X0.cell
   have hmk := HS.out k _ ex
   have HQ : Hid (h.2.1 ≤ 1048576 → ∀ (i : Nat) (a : Mal), i < k + 1 → xs[i]? = some a → a.2.2.1 ≤ 1048576) := fun hm i a hi e => by
    rcases Nat.lt_succ_iff_lt_or_eq.1 hi with c | c
    ·exact HK.out i a c e
    ·subst c
     rw [ex] at e
     have e2 := Option.some.inj e
     rw [← e2]; exact hm
   clear HK ex
   simp only at hmk
   go_wp2_with fail
   refine (szMail_lt m h q _ y hmk hr0 hr1).mono ?_
   rintro e W ⟨p, rfl, hb1, hp⟩
   replace hb := below_step hb hb.size hb1
   clear hb1 X0 c0 y
   rcases hp with hp | ⟨p0, p1, p2⟩
   ·go_wp2
    go_ret
    exact ⟨-1, rfl, hb, Or.inl (by omega)⟩
   have hb2 : ¬ p < 0 := by omega
   have HQ' := HQ.out p2
   have HT : Hid _ := HQ'
   clear HQ HQ' p2
   go_wp2
   go_roundw
   case rel => exact ⟨k + 1, by omega, by go_num, ⟨_, rfl, by omega, by omega⟩, HT, by assumption⟩
   case measure => simp [intOf]; omega
  ·obtain rfl : k = n := by omega
   go_wp2
   go_ret
   exact ⟨q, rfl, hb, Or.inr ⟨hr0, hr1, by omega, fun i a e => HK.out i a (by rw [← x.len]; exact (List.getElem?_eq_some_iff.1 e).1) e⟩⟩
end Go.Proofs.YtgldocaohcoleaaGreat

/- Chapter 11: lists whose elements have memory of their own, in plain words. No program is named here. -/
import Derived.Test.YtjefmhjlaibbkaaQAGR
import Derived.Test.YtjefmhjlaibbkaaQABR
import Derived.Test.YtjefmhjlaibbkaaWQR
import Derived.Test.YtjefmhjlaibbkaaWBR
import Derived.Test.YtjefmhjlaibbkaaWHR
set_option maxRecDepth 20000
set_option maxHeartbeats 16000000
namespace Go.Proofs.Ytjefmhjlaibbkaa
open Go.RowKit
structure Kd (α : Type) where
 sz : Nat
 cells : α → List Value
 mem : World → Bool → Nat → Nat → α → Prop
 inn : α → Nat → Prop
structure KdOk {α : Type} (k : Kd α) : Prop where
 pos : 0 < k.sz
 len : ∀ a, (k.cells a).length = k.sz
 below : ∀ {w w' : World} {own : Bool} {lo hi : Nat} {a : α}, k.mem w own lo hi a → Below w.heap.size w w' → k.mem w' own lo hi a
 kept : ∀ {w w' : World} {own : Bool} {lo hi : Nat} {a : α} {l u : Nat}, k.mem w own lo hi a → Kept l u w w' → (hi ≤ l ∨ u ≤ lo) → k.mem w' own lo hi a
 widen : ∀ {w : World} {own : Bool} {lo hi : Nat} {a : α} {lo' hi' : Nat}, k.mem w own lo hi a → lo' ≤ lo → hi ≤ hi' → k.mem w own lo' hi' a
 keptS : ∀ {w w' : World} {own : Bool} {lo hi : Nat} {a : α} {S : Nat → Prop}, k.mem w own lo hi a → KeptS S w w' → Sep (k.inn a) S → k.mem w' own lo hi a
 ro : ∀ {w : World} {own : Bool} {lo hi : Nat} {a : α}, k.mem w own lo hi a → k.mem w false lo hi a
 inB : ∀ {w : World} {own : Bool} {lo hi : Nat} {a : α} {q : Nat}, k.mem w own lo hi a → k.inn a q → lo ≤ q ∧ q < hi ∧ q < w.heap.size
structure LAt {α : Type} (k : Kd α) (w : World) (own : Bool) (lo hi : Nat) (ao : Option Addr) (n cap : Nat) (xs : List α) : Prop where
 len : xs.length = n
 row : RowAt w own lo hi k.sz ao n cap (xs.flatMap k.cells)
 each : ∀ (i : Nat) (a : α), xs[i]? = some a → k.mem w own lo hi a
 far : own = true → ∀ (i : Nat) (a : α), xs[i]? = some a → ∀ q, k.inn a q → q ≠ sb ao
 sep : own = true → ∀ (i j : Nat) (a b : α), xs[i]? = some a → xs[j]? = some b → i ≠ j → Sep (k.inn a) (k.inn b)
def inL {α : Type} (k : Kd α) (ao : Option Addr) (n : Nat) (xs : List α) (q : Nat) : Prop := (n ≠ 0 ∧ q = sb ao) ∨ ∃ (i : Nat) (a : α), xs[i]? = some a ∧ k.inn a q
section
variable {α : Type} {k : Kd α} {w w' : World} {own : Bool} {lo hi : Nat} {ao : Option Addr} {n cap : Nat} {xs : List α}
theorem LAt.below (K : KdOk k) (h : LAt k w own lo hi ao n cap xs) (hb : Below w.heap.size w w') : LAt k w' own lo hi ao n cap xs := ⟨h.len, h.row.below hb, fun i a e => K.below (h.each i a e) hb, h.far, h.sep⟩
theorem LAt.kept (K : KdOk k) (h : LAt k w own lo hi ao n cap xs) {l u : Nat} (hk : Kept l u w w') (hd : hi ≤ l ∨ u ≤ lo) : LAt k w' own lo hi ao n cap xs := ⟨h.len, h.row.kept hk hd, fun i a e => K.kept (h.each i a e) hk hd, h.far, h.sep⟩
theorem LAt.widen (K : KdOk k) (h : LAt k w own lo hi ao n cap xs) {lo' hi' : Nat} (h1 : lo' ≤ lo) (h2 : hi ≤ hi') : LAt k w own lo' hi' ao n cap xs := ⟨h.len, h.row.widen h1 h2, fun i a e => K.widen (h.each i a e) h1 h2, h.far, h.sep⟩
theorem LAt.inB (K : KdOk k) (h : LAt k w own lo hi ao n cap xs) {q : Nat} (hq : inL k ao n xs q) : lo ≤ q ∧ q < hi ∧ q < w.heap.size := by
 rcases hq with h0 | ⟨i, a, e, h0⟩
 ·exact h.row.inB h0
 ·exact K.inB (h.each i a e) h0
theorem LAt.nil (k : Kd α) (w : World) (own : Bool) (lo hi : Nat) (ao : Option Addr) (c : Nat) : LAt k w own lo hi ao 0 c [] :=
 ⟨rfl, RowAt.nilR _ _ _ _ _ _ _, fun i a e => by simp at e, fun _ i a e => by simp at e, fun _ i j a b e => by simp at e⟩
theorem flatMap_len (K : KdOk k) (xs : List α) : (xs.flatMap k.cells).length = xs.length * k.sz := by
 induction xs with
 | nil => simp
 | cons a r ih => simp [K.len, ih, Nat.succ_mul]; omega
theorem flatMap_at (K : KdOk k) : ∀ (xs : List α) (i : Nat) (a : α), xs[i]? = some a → ∀ j, j < k.sz → (xs.flatMap k.cells)[i * k.sz + j]? = (k.cells a)[j]?
 | [], i, a, e, _, _ => by simp at e
 | x :: r, 0, a, e, j, hj => by
  have e2 : x = a := by simpa using e
  subst e2
  rw [Nat.zero_mul, Nat.zero_add, List.flatMap_cons, List.getElem?_append_left (by rw [K.len]; exact hj)]
 | x :: r, i + 1, a, e, j, hj => by
  have ih := flatMap_at K r i a (by simpa using e) j hj
  rw [List.flatMap_cons, List.getElem?_append_right (by rw [K.len, Nat.succ_mul]; omega), K.len, ← ih]
  congr 1
  rw [Nat.succ_mul]; omega
theorem LAt.el (K : KdOk k) (h : LAt k w own lo hi ao n cap xs) {i : Nat} (hi' : i < n) : ∃ a b off, xs[i]? = some a ∧ ao = some ⟨b, off, none⟩ ∧ lo ≤ b ∧ b < hi ∧ b < w.heap.size ∧ (∀ j, j < k.sz → w.cell? ⟨b, off + i * k.sz + j, none⟩ = (k.cells a)[j]?) ∧ (own = true → ∀ j, j < k.sz → w.frozen? ⟨b, off + i * k.sz + j, none⟩ = false) := by
 have hx : i < xs.length := by rw [h.len]; exact hi'
 have e : xs[i]? = some xs[i] := List.getElem?_eq_getElem hx
 obtain ⟨b, off, rfl, h1, h2, h3, h4, h5⟩ := h.row.cells (by omega)
 refine ⟨xs[i], b, off, e, rfl, h1, h2, h3, fun j hj => ?_, fun ho j hj => ?_⟩
 ·have q := at_lt (sz := k.sz) hi' hj
  rw [Nat.add_assoc, h4 _ q, List.getD_eq_getElem?_getD, flatMap_at K xs i _ e j hj, List.getElem?_eq_getElem (by rw [K.len]; exact hj)]; rfl
 ·rw [Nat.add_assoc]; exact h5 ho _ (at_lt hi' hj)
theorem flatMap_set_in (K : KdOk k) (xs : List α) (i : Nat) (hi : i < xs.length) (a : α) (j : Nat) (hj : j < k.sz) : ((xs.set i a).flatMap k.cells)[i * k.sz + j]? = (k.cells a)[j]? :=
 flatMap_at K (xs.set i a) i a (by simp [hi]) j hj
theorem flatMap_set_out (K : KdOk k) (xs : List α) (i : Nat) (a : α) (q : Nat) (hq : q < i * k.sz ∨ i * k.sz + k.sz ≤ q) : ((xs.set i a).flatMap k.cells)[q]? = (xs.flatMap k.cells)[q]? := by
 have hl : (xs.set i a).length = xs.length := by simp
 by_cases hlt : q < xs.length * k.sz
 ·have hs := K.pos
  have hd : q / k.sz < xs.length := Nat.div_lt_of_lt_mul (by rwa [Nat.mul_comm])
  have hm := Nat.mod_lt q hs
  have e : q = q / k.sz * k.sz + q % k.sz := by rw [Nat.mul_comm]; exact (Nat.div_add_mod q k.sz).symm
  have hne : i ≠ q / k.sz := fun c => by
   rw [← c] at e; omega
  rw [e, flatMap_at K (xs.set i a) (q / k.sz) xs[q / k.sz] (by rw [List.getElem?_set_ne hne]; exact List.getElem?_eq_getElem hd) _ hm, flatMap_at K xs (q / k.sz) _ (List.getElem?_eq_getElem hd) _ hm]
 ·rw [List.getElem?_eq_none (by rw [flatMap_len K, hl]; omega), List.getElem?_eq_none (by rw [flatMap_len K]; omega)]
theorem LAt.put (K : KdOk k) {b off : Nat} (h : LAt k w true lo hi (some ⟨b, off, none⟩) n cap xs) {i : Nat} (hi' : i < n) (a : α) (hm : k.mem w true lo hi a) (hf : ∀ q, k.inn a q → q ≠ b) (hs : ∀ (j : Nat) (c : α), xs[j]? = some c → j ≠ i → Sep (k.inn a) (k.inn c)) :
  LAt k (w.setCells b (off + i * k.sz) (k.cells a)) true lo hi (some ⟨b, off, none⟩) n cap (xs.set i a) := by
 have hx : i < xs.length := by rw [h.len]; exact hi'
 have KS1 : KeptS (fun x => x = b) w (w.setCells b (off + i * k.sz) (k.cells a)) := (((Kept.refl b (b + 1) w).setCells (Nat.le_refl _) (Nat.lt_succ_self _) _ _)).toS fun q h1 h2 => by omega
 refine ⟨by simpa using h.len, ⟨by rw [flatMap_len K]; simp [h.len], h.row.le, fun hn => ?_⟩, fun j c e => ?_, fun _ j c e q hq => ?_, fun _ j m c d e1 e2 hne => ?_⟩
 ·obtain ⟨b', off', e, h1, h2, h3, h4, h5⟩ := h.row.cells hn
  simp only [Option.some.injEq, Addr.mk.injEq, and_true] at e
  obtain ⟨rfl, rfl⟩ := e
  refine ⟨_, _, rfl, h1, h2, by rw [size_setCells']; exact h3, fun q hq => ?_, fun _ q hq => by rw [World.frozen?_setCells]; exact h5 rfl q hq⟩
  by_cases hin : i * k.sz ≤ q ∧ q < i * k.sz + k.sz
  ·have := World.cell?_setCells_in b (k.cells a) (off + i * k.sz) w (fun j hj => by rw [K.len] at hj; rw [Nat.add_assoc, h4 _ (at_lt hi' hj)]; rfl) (q - i * k.sz) (by rw [K.len]; omega)
   rw [show off + i * k.sz + (q - i * k.sz) = off + q by omega] at this
   rw [this, List.getD_eq_getElem?_getD]
   have t := flatMap_set_in K xs i hx a (q - i * k.sz) (by omega)
   rw [show i * k.sz + (q - i * k.sz) = q by omega] at t
   rw [t, List.getElem?_eq_getElem (by rw [K.len]; omega)]; rfl
  ·rw [World.cell?_setCells_out b (k.cells a) (off + i * k.sz) w ⟨b, off + q, none⟩ (fun _ _ => by show off + q < off + i * k.sz ∨ _; rw [K.len]; show _ ∨ off + i * k.sz + k.sz ≤ off + q; omega), h4 q hq]
   rw [List.getD_eq_getElem?_getD, List.getD_eq_getElem?_getD, flatMap_set_out K xs i a q (by omega)]
 ·by_cases e2 : j = i
  ·subst e2
   have : a = c := by simpa [hx] using e
   subst this
   exact K.keptS hm KS1 fun q hq => hf q hq
  ·rw [List.getElem?_set_ne (Ne.symm e2)] at e
   exact K.keptS (h.each j c e) KS1 fun q hq => h.far rfl j c e q hq
 ·by_cases e2 : j = i
  ·subst e2
   have : a = c := by simpa [hx] using e
   subst this
   exact hf q hq
  ·rw [List.getElem?_set_ne (Ne.symm e2)] at e
   exact h.far rfl j c e q hq
 ·by_cases e3 : j = i
  ·subst e3
   have : a = c := by simpa [hx] using e1
   subst this
   rw [List.getElem?_set_ne hne] at e2
   exact hs m d e2 (Ne.symm hne)
  ·rw [List.getElem?_set_ne (Ne.symm e3)] at e1
   by_cases e4 : m = i
   ·subst e4
    have : a = d := by simpa [hx] using e2
    subst this
    exact (hs j c e1 e3).symm
   ·rw [List.getElem?_set_ne (Ne.symm e4)] at e2
    exact h.sep rfl j m c d e1 e2 hne
end
abbrev Nod := Rep × RH
def nodeK : Kd Nod := ⟨10, fun a => repC a.1 a.2, fun w own lo hi a => RepAt w own lo hi a.2 a.1, fun a => inRep a.2⟩
theorem nodeOk : KdOk nodeK where
 pos := by show 0 < 10; omega
 len := fun _ => rfl
 below := fun h hb => RepAt.below h hb
 kept := fun h hk hd => RepAt.kept h hk hd
 widen := fun h h1 h2 => RepAt.widen h h1 h2
 keptS := fun h hk hd => RepAt.keptS h hk hd
 ro := fun h => RepAt.ro h
 inB := fun h hq => RepAt.inB h hq
abbrev Mal := Ml × Hd
def mailK : Kd Mal := ⟨15, fun a => mlV a.2 a.1, fun w own lo hi a => RowAt w own lo hi 6 a.2.1 a.2.2.1 a.2.2.2 (sixs a.1.log), fun a => hR a.2⟩
theorem mailOk : KdOk mailK where
 pos := by show 0 < 15; omega
 len := fun _ => rfl
 below := fun h hb => RowAt.below h hb
 kept := fun h hk hd => RowAt.kept h hk hd
 widen := fun h h1 h2 => RowAt.widen h h1 h2
 keptS := fun h hk hd => RowAt.keptR h hk hd
 ro := fun h => RowAt.ro h
 inB := fun h hq => RowAt.inB h hq
def rh0 : RH := ⟨(none, 0, 0), (none, 0, 0), (none, 0, 0), (none, 0, 0), fun _ => (none, 0, 0)⟩
def nod0 : Nod := (rep0, rh0)
def mal0 : Mal := (ml0, (none, 0, 0))
theorem nod0_mem (w : World) (own : Bool) (lo hi : Nat) : nodeK.mem w own lo hi nod0 := (AnsAt.none w own lo hi).rep
theorem nod0_inn (q : Nat) : ¬ nodeK.inn nod0 q := by
 intro h
 rcases h with h | h | h | h
 ·exact h.1 rfl
 ·exact h.1 rfl
 ·exact h.1 rfl
 ·rcases h with h | ⟨i, hi, _⟩
  ·exact h.1 rfl
  ·exact absurd hi (Nat.not_lt_zero _)
theorem mal0_mem (w : World) (own : Bool) (lo hi : Nat) : mailK.mem w own lo hi mal0 := RowAt.nilR _ _ _ _ _ _ _
theorem mal0_inn (q : Nat) : ¬ mailK.inn mal0 q := fun h => h.1 rfl
section
variable {w : World} {own : Bool} {lo hi : Nat} {ao : Option Addr} {n cap : Nat}
theorem LAt.mails {xs : List Mal} (h : LAt mailK w own lo hi ao n cap xs) : MailsAt w own lo hi ao n cap (fun i => (xs.getD i mal0).2) (xs.map (·.1)) := by
 have hg : ∀ i, i < n → (xs.map (·.1)).getD i ml0 = (xs.getD i mal0).1 := fun i hi => by
  have : i < xs.length := by rw [h.len]; exact hi
  simp [List.getD, this]
 have he : ∀ i, i < n → xs[i]? = some (xs.getD i mal0) := fun i hi => by
  have : i < xs.length := by rw [h.len]; exact hi
  simp [List.getD, this]
 refine ⟨by simpa using h.len, ?_, fun i hi => ?_, fun ho i hi h0 => ⟨?_, fun j hj hne h1 => ?_⟩⟩
 ·have e : flatF 15 n (mlF (fun i => (xs.getD i mal0).2) (xs.map (·.1))) = xs.flatMap mailK.cells := by
   apply List.ext_getElem?
   intro q
   by_cases hq : q < n * 15
   ·have hd : q / 15 < n := by omega
    have t := flatMap_at mailOk xs (q / 15) _ (he _ hd) (q % 15) (Nat.mod_lt _ (by show 0 < 15; omega))
    have e2 : q / 15 * mailK.sz + q % 15 = q := by show q / 15 * 15 + q % 15 = q; omega
    rw [e2] at t
    rw [t]
    have t2 := flatF_get (sz := 15) (n := n) (mlF (fun i => (xs.getD i mal0).2) (xs.map (·.1))) (i := q / 15) (j := q % 15) hd (by omega)
    rw [show q / 15 * 15 + q % 15 = q by omega] at t2
    have hl : q < (flatF 15 n (mlF (fun i => (xs.getD i mal0).2) (xs.map (·.1)))).length := by rw [flatF_len]; exact hq
    rw [List.getElem?_eq_getElem hl]
    rw [List.getD_eq_getElem?_getD, List.getElem?_eq_getElem hl, Option.getD_some] at t2
    rw [t2]
    unfold mlF
    rw [hg _ hd, List.getD_eq_getElem?_getD]
    have hl2 : q % 15 < (mlV (xs.getD (q / 15) mal0).2 (xs.getD (q / 15) mal0).1).length := by show q % 15 < 15; omega
    show some ((mlV _ _)[q % 15]?.getD default) = (mlV _ _)[q % 15]?
    rw [List.getElem?_eq_getElem hl2, Option.getD_some]
   ·rw [List.getElem?_eq_none (by rw [flatF_len]; omega), List.getElem?_eq_none (by rw [flatMap_len mailOk, h.len]; show n * 15 ≤ q; omega)]
  rw [e]; exact h.row
 ·unfold mlL; rw [hg i hi]; exact h.each i _ (he i hi)
 ·exact h.far ho i _ (he i hi) _ ⟨h0, rfl⟩
 ·exact fun e => h.sep ho j i _ _ (he j hj) (he i hi) hne _ ⟨h1, rfl⟩ ⟨h0, e⟩
end
structure Ro (w : World) (b oz : Nat) (vs : List Value) : Prop where
 lt : b < w.heap.size
 cell : w.cell? ⟨b, oz, none⟩ = vs[0]? ∧ ∀ k : Nat, k < 10 → w.cell? ⟨b, oz + k, none⟩ = vs[k]?
theorem Ro.below {w W : World} {b oz : Nat} {vs : List Value} (h : Ro w b oz vs) (hb : Below w.heap.size w W) : Ro W b oz vs :=
 ⟨Nat.lt_of_lt_of_le h.lt hb.size, by rw [World.cell?_of_block (w := w) (a := ⟨b, oz, none⟩) (hb.block b h.lt)]; exact h.cell.1, fun k hk => by rw [World.cell?_of_block (w := w) (a := ⟨b, oz + k, none⟩) (hb.block b h.lt)]; exact h.cell.2 k hk⟩
structure Rm (w : World) (b oz : Nat) (vs : List Value) : Prop where
 lt : b < w.heap.size
 cell : w.cell? ⟨b, oz, none⟩ = vs[0]? ∧ ∀ k : Nat, k < 15 → w.cell? ⟨b, oz + k, none⟩ = vs[k]?
theorem Rm.below {w W : World} {b oz : Nat} {vs : List Value} (h : Rm w b oz vs) (hb : Below w.heap.size w W) : Rm W b oz vs :=
 ⟨Nat.lt_of_lt_of_le h.lt hb.size, by rw [World.cell?_of_block (w := w) (a := ⟨b, oz, none⟩) (hb.block b h.lt)]; exact h.cell.1, fun k hk => by rw [World.cell?_of_block (w := w) (a := ⟨b, oz + k, none⟩) (hb.block b h.lt)]; exact h.cell.2 k hk⟩
theorem LAt.node {w : World} {own : Bool} {lo hi : Nat} {ao : Option Addr} {n cap : Nat} {xs : List Nod} (x : LAt nodeK w own lo hi ao n cap xs) {i : Nat} (hi' : i < n) : ∃ r h b off, xs[i]? = some (r, h) ∧ ao = some ⟨b, off, none⟩ ∧ lo ≤ b ∧ b < hi ∧ Ro w b (off + i * 10) [.int .i64 r.id, .int .i64 r.size, .int .i64 r.view, .bool r.normal, .int .i64 r.last, .slice h.L.1 h.L.2.1 h.L.2.2, .int .i64 r.commit, .slice h.O.1 h.O.2.1 h.O.2.2, .slice h.A.1 h.A.2.1 h.A.2.2, .slice h.D.1 h.D.2.1 h.D.2.2] ∧ RepAt w own lo hi h r ∧ (own = true → ∀ j, j < 10 → w.frozen? ⟨b, off + i * 10 + j, none⟩ = false) := by
 obtain ⟨⟨r, h⟩, b, off, e, e2, h1, h2, h3, hc, hf⟩ := x.el nodeOk hi'
 exact ⟨r, h, b, off, e, e2, h1, h2, ⟨h3, hc 0 (by show 0 < 10; omega), hc⟩, x.each i _ e, hf⟩
theorem LAt.mail {w : World} {own : Bool} {lo hi : Nat} {ao : Option Addr} {n cap : Nat} {xs : List Mal} (x : LAt mailK w own lo hi ao n cap xs) {i : Nat} (hi' : i < n) : ∃ m h b off, xs[i]? = some (m, h) ∧ ao = some ⟨b, off, none⟩ ∧ lo ≤ b ∧ b < hi ∧ Rm w b (off + i * 15) [.int .i64 m.kind, .int .i64 m.fr, .int .i64 m.to, .int .i64 m.view, .int .i64 m.at_, .bool m.has, .int .i64 m.en.1, .int .i64 m.en.2.1, .int .i64 m.en.2.2.1, .int .i64 m.en.2.2.2.1, .int .i64 m.en.2.2.2.2.1, .int .i64 m.en.2.2.2.2.2, .int .i64 m.last, .slice h.1 h.2.1 h.2.2, .int .i64 m.commit] ∧ RowAt w own lo hi 6 h.1 h.2.1 h.2.2 (sixs m.log) ∧ (own = true → ∀ j, j < 15 → w.frozen? ⟨b, off + i * 15 + j, none⟩ = false) := by
 obtain ⟨⟨m, h⟩, b, off, e, e2, h1, h2, h3, hc, hf⟩ := x.el mailOk hi'
 exact ⟨m, h, b, off, e, e2, h1, h2, ⟨h3, hc 0 (by show 0 < 15; omega), hc⟩, x.each i _ e, hf⟩
theorem kept_el {w : World} (b o : Nat) (us : List Value) : Kept b (b + 1) w (w.setCells b o us) := (Kept.refl _ _ _).setCells (Nat.le_refl _) (Nat.lt_succ_self _) _ _
structure PutE (w W : World) (b o : Nat) (us : List Value) : Prop where
 eq : W = w.setCells b o us
theorem store_elP {P : Program} {ops : Array Oper} {rest : List Oper} {dst : Option Tmp} {type : TypeId} {pos : String} {after : Array Edge} {a : Act} {w : World} {Q : Exit → Act → World → Prop} (ty : TypeId) {x y : Operand} {b o m : Nat} (T : w.there b o m) (us : List Value) (hl : us.length = m) (hi : (P.info? ty).map (·.size) = some m) (h1 : ∀ v ∈ us, v.oneCell' = true) (hx : a.eval x = .pointer (some ⟨b, o, none⟩)) (hy : a.eval y = .agg us.toArray)
  (h : ∀ W : World, PutE w W b o us → wpList P ops Q rest (a.put dst undef) W) : wpList P ops Q (⟨dst, .store ty x y, type, pos, after, none⟩ :: rest) a w := by
 refine wpList_plain rfl fun K hK => ?_
 subst hl
 refine wp_store_mid ty x y rfl b o us.toArray hx hy (by rw [List.size_toArray]; exact T) (by rw [List.size_toArray]; exact hi) (all_oneCell_toArray h1) (hK _ _ (h _ ⟨?_⟩))
 simp
theorem made_list {α : Type} {k : Kd α} (K : KdOk k) (n : Nat) (a : α) (cs : Array Value) (hc : k.cells a = cs.toList) : (madeCells cs (n * k.sz)).toList = (List.replicate n a).flatMap k.cells := by
 have hs : cs.size = k.sz := by rw [← Array.length_toList, ← hc, K.len]
 have h0 := K.pos
 apply List.ext_getElem (by simp [madeCells, flatMap_len K])
 intro j h1 h2
 have hj : j < n * k.sz := by simpa [madeCells] using h1
 have hd : j / k.sz < n := Nat.div_lt_of_lt_mul (by rwa [Nat.mul_comm])
 have hm := Nat.mod_lt j h0
 have t := flatMap_at K (List.replicate n a) (j / k.sz) a (by simp [hd]) (j % k.sz) hm
 rw [show j / k.sz * k.sz + j % k.sz = j by rw [Nat.mul_comm]; exact Nat.div_add_mod j k.sz, List.getElem?_eq_getElem h2, hc] at t
 have hm2 : j % k.sz < cs.toList.length := by simpa [hs] using hm
 rw [List.getElem?_eq_getElem hm2, Option.some.injEq] at t
 rw [t]
 simp [madeCells, hs]
 exact getElem!_pos cs _ (by omega)
theorem map_fst_eq {β γ : Type} {d : β × γ} {xs ys : List (β × γ)} {n : Nat} (hx : xs.length = n) (hy : ys.length = n) (h : ∀ i : Nat, i < n → (ys.getD i d).1 = (xs.getD i d).1) : ys.map (·.1) = xs.map (·.1) := by
 apply List.ext_getElem (by simp [hx, hy])
 intro i h1 h2
 have a1 : i < ys.length := by simpa using h1
 have a2 : i < xs.length := by simpa using h2
 have := h i (by omega)
 simpa [List.getD, a1, a2] using this
theorem getD_set_fst {β : Type} {d : β} {ys : List β} {i j : Nat} (hi : i < ys.length) (a : β) : (ys.set i a).getD j d = if j = i then a else ys.getD j d := by
 by_cases e : j = i
 ·subst e; simp [List.getD, hi]
 ·rw [if_neg e]; simp [List.getD, List.getElem?_set_ne (Ne.symm e)]
theorem getD_of_get {β : Type} {d a : β} {ys : List β} {i : Nat} (h : ys[i]? = some a) : ys.getD i d = a := by simp [List.getD, h]
theorem LAt.made {α : Type} {k : Kd α} {w : World} {base : Nat} {e : TypeId} {g n : Nat} {a : α} (h : w.ownsRow base e k.sz (.slice (some ⟨g, 0, none⟩) n n) n ((List.replicate n a).flatMap k.cells)) (hm : k.mem w true base w.heap.size a) (hi : ∀ q, ¬ k.inn a q) : LAt k w true base w.heap.size (some ⟨g, 0, none⟩) n n (List.replicate n a) := by
 have get : ∀ (i : Nat) (c : α), (List.replicate n a)[i]? = some c → c = a := fun i c e => by
  have := List.mem_of_getElem? e
  exact (List.mem_replicate.1 this).2
 exact ⟨by simp, RowAt.of_owns h (Nat.le_refl _), fun i c e => by rw [get i c e]; exact hm, fun _ i c e q hq => by rw [get i c e] at hq; exact absurd hq (hi q), fun _ i j c d e1 _ _ q hq => by rw [get i c e1] at hq; exact absurd hq (hi q)⟩
theorem szReplica_lt {own : Bool} {lo hi : Nat} (r : Rep) (h : RH) (lt : Int) (w : World) (x : RepAt w own lo hi h r) (hs : RSz h maxLen) (hl0 : 0 ≤ lt) (hl1 : lt ≤ 1048576) :
  Calls Try.prog 69 #[.agg #[.int .i64 r.id, .int .i64 r.size, .int .i64 r.view, .bool r.normal, .int .i64 r.last, .slice h.L.1 h.L.2.1 h.L.2.2, .int .i64 r.commit, .slice h.O.1 h.O.2.1 h.O.2.2, .slice h.A.1 h.A.2.1 h.A.2.2, .slice h.D.1 h.D.2.1 h.D.2.2], .int .i64 lt] w fun e w' => ∃ q : Int, e = .returned (.int .i64 q) ∧ Below w.heap.size w w' ∧ (q < 0 ∨ (0 ≤ q ∧ q ≤ 1048576 ∧ RSz h 1048576)) := by
 go_enter Try.func69, Try.ntmps69
 go_wp2_with (first | ((with_reducible refine box_newX 107 [.int .i64 r.id, .int .i64 r.size, .int .i64 r.view, .bool r.normal, .int .i64 r.last, .slice h.L.1 h.L.2.1 h.L.2.2, .int .i64 r.commit, .slice h.O.1 h.O.2.1 h.O.2.2, .slice h.A.1 h.A.2.1 h.A.2.2, .slice h.D.1 h.D.2.1 h.D.2.2] rfl ?_); intro b0 W0 N0; have ob0 := N0.ge; have B := N0.below; obtain ⟨X0, c0⟩ := N0.c; clear N0) | fail)
 have HS : Hid (∀ i, i < h.D.2.1 → (h.K i).2.1 ≤ maxLen) := hs.K
 refine (szEntries_left h.L.1 h.L.2.1 h.L.2.2 (lt) _ hs.L (by omega) (by omega)).mono ?_
 rintro e W9 ⟨rfl, rfl⟩
 by_cases yL : (lt : Int) < h.L.2.1
 ·rw [if_pos yL]
  go_wp2
  go_ret
  exact ⟨-1, rfl, B, Or.inl (by omega)⟩
 rw [if_neg yL]
 have zL : ¬ ((lt : Int) - h.L.2.1 < 0) := by omega
 go_wp2_with fail
 refine (szInts_any h.O.1 h.O.2.1 h.O.2.2 (lt - h.L.2.1) _ hs.O (by omega) (by omega)).mono ?_
 rintro e W9 ⟨rfl, rfl⟩
 by_cases yO : (lt - h.L.2.1 : Int) < h.O.2.1
 ·rw [if_pos yO]
  go_wp2
  go_ret
  exact ⟨-1, rfl, B, Or.inl (by omega)⟩
 rw [if_neg yO]
 have zO : ¬ ((lt - h.L.2.1 : Int) - h.O.2.1 < 0) := by omega
 go_wp2_with fail
 refine (szBools_any h.A.1 h.A.2.1 h.A.2.2 (lt - h.L.2.1 - h.O.2.1) _ hs.A (by omega) (by omega)).mono ?_
 rintro e W9 ⟨rfl, rfl⟩
 by_cases yA : (lt - h.L.2.1 - h.O.2.1 : Int) < h.A.2.1
 ·rw [if_pos yA]
  go_wp2
  go_ret
  exact ⟨-1, rfl, B, Or.inl (by omega)⟩
 rw [if_neg yA]
 have zA : ¬ ((lt - h.L.2.1 - h.O.2.1 : Int) - h.A.2.1 < 0) := by omega
 go_wp2_with fail
 refine (szDoers_left h.D.1 h.D.2.1 h.D.2.2 h.K r.doers (lt - h.L.2.1 - h.O.2.1 - h.A.2.1) _ (x.doers.below B) hs.D HS.out (by omega) (by omega)).mono ?_
 rintro e w1 ⟨q, rfl, BB, hq⟩
 replace X0 := X0.below BB
 replace c0 := X0.cell
 replace B := below_next B BB
 clear BB
 rcases hq with hq | ⟨h0, h1, h2, h3⟩
 ·go_wp2
  go_ret
  exact ⟨-1, rfl, B, Or.inl (by omega)⟩
 have HT : Hid (RSz h 1048576) := ⟨by omega, by omega, by omega, h2, h3⟩
 have h4 : ¬ q < 0 := by omega
 clear h3
 go_wp2
 go_ret
 exact ⟨q, rfl, B, Or.inr ⟨h0, h1, HT.out⟩⟩
theorem szMail_lt {own : Bool} {lo hi : Nat} (m : Ml) (h : Hd) (lt : Int) (w : World) (_ : RowAt w own lo hi 6 h.1 h.2.1 h.2.2 (sixs m.log)) (hs : h.2.1 ≤ maxLen) (h0 : 0 ≤ lt) (h1 : lt ≤ 1048576) :
  Calls Try.prog 70 #[.agg #[.int .i64 m.kind, .int .i64 m.fr, .int .i64 m.to, .int .i64 m.view, .int .i64 m.at_, .bool m.has, .int .i64 m.en.1, .int .i64 m.en.2.1, .int .i64 m.en.2.2.1, .int .i64 m.en.2.2.2.1, .int .i64 m.en.2.2.2.2.1, .int .i64 m.en.2.2.2.2.2, .int .i64 m.last, .slice h.1 h.2.1 h.2.2, .int .i64 m.commit], .int .i64 lt] w fun e w' => ∃ q : Int, e = .returned (.int .i64 q) ∧ Below w.heap.size w w' ∧ (q < 0 ∨ (0 ≤ q ∧ q ≤ 1048576 ∧ h.2.1 ≤ 1048576)) := by
 refine (szMail_left m h lt w hs h0 h1).mono ?_
 rintro e w1 ⟨rfl, b⟩
 by_cases c : lt < h.2.1
 ·exact ⟨_, rfl, b, Or.inl (by rw [if_pos c]; omega)⟩
 ·exact ⟨_, rfl, b, Or.inr (by rw [if_neg c]; omega)⟩
theorem szReplicas_lt {own : Bool} {lo hi : Nat} (ao : Option Addr) (n cap : Nat) (xs : List Nod) (lt : Int) (w : World) (x : LAt nodeK w own lo hi ao n cap xs) (hn : n ≤ maxLen) (hs : (∀ (i : Nat) (a : Nod), xs[i]? = some a → RSz a.2 maxLen)) (h0 : 0 ≤ lt) (h1 : lt ≤ 1048576) :
  Calls Try.prog 31 #[.slice ao n cap, .int .i64 lt] w fun e w' => ∃ q : Int, e = .returned (.int .i64 q) ∧ Below w.heap.size w w' ∧ (q < 0 ∨ (0 ≤ q ∧ q ≤ 1048576 ∧ n ≤ 1048576 ∧ (∀ (i : Nat) (a : Nod), xs[i]? = some a → RSz a.2 1048576))) := by
 have HS : Hid _ := hs
 clear hs
 by_cases hbig : lt < n
 ·have hbi : lt - (n : Int) < 0 := by omega
  unfold maxLen at hn
  go_enter Try.func31, Try.ntmps31
  go_wp2
  go_ret
  exact ⟨-1, rfl, Below.refl _ _, Or.inl (by omega)⟩
 have hbi : ¬ lt - (n : Int) < 0 := by omega
 unfold maxLen at hn
 go_enter Try.func31, Try.ntmps31
 go_wp2
 go_loopw [1, 5] (fun l i wr => ∃ k : Nat, k ≤ n ∧ i = .int .i64 k ∧ (∃ q : Int, l = .int .i64 q ∧ 0 ≤ q ∧ q ≤ 1048576) ∧ Hid (∀ (i : Nat) (a : Nod), i < k → xs[i]? = some a → RSz a.2 1048576) ∧ Below w.heap.size w wr) (fun _ i _ => n - (intOf i).toNat)
 case atStart => exact ⟨0, Nat.zero_le _, rfl, ⟨_, rfl, by omega, by omega⟩, fun i a hi => absurd hi (Nat.not_lt_zero _), Below.refl _ _⟩
 case round =>
  obtain ⟨k, hk, rfl, ⟨q, rfl, hr0, hr1⟩, HK, hb⟩ := hrel
  by_cases hlt : k < n
  ·have hlk : (k : Int) < (n : Int) := by omega
   obtain ⟨r, h, b, off, ex, rfl, _, _, X0, y, _⟩ := (x.below nodeOk hb).node hlt
   have c0 := X0.cell
   have hmk := HS.out k _ ex
   have HQ : Hid (RSz h 1048576 → ∀ (i : Nat) (a : Nod), i < k + 1 → xs[i]? = some a → RSz a.2 1048576) := fun hm i a hi e => by
    rcases Nat.lt_succ_iff_lt_or_eq.1 hi with c | c
    ·exact HK.out i a c e
    ·subst c
     rw [ex] at e
     have e2 := Option.some.inj e
     rw [← e2]; exact hm
   clear HK ex
   simp only at hmk
   go_wp2_with fail
   refine (szReplica_lt r h q _ y hmk hr0 hr1).mono ?_
   rintro e W ⟨p, rfl, hb1, hp⟩
   replace hb := below_step hb hb.size hb1
   clear hb1 X0 c0 y
   rcases hp with hp | ⟨p0, p1, p2⟩
   ·go_wp2
    go_ret
    exact ⟨-1, rfl, hb, Or.inl (by omega)⟩
   have hb2 : ¬ p < 0 := by omega
   have HQ' := HQ.out p2
   have HT : Hid _ := HQ'
   clear HQ HQ' p2
   go_wp2
   go_roundw
   case rel => exact ⟨k + 1, by omega, by go_num, ⟨_, rfl, by omega, by omega⟩, HT, by assumption⟩
   case measure => simp [intOf]; omega
  ·obtain rfl : k = n := by omega
   go_wp2
   go_ret
   exact ⟨q, rfl, hb, Or.inr ⟨hr0, hr1, by omega, fun i a e => HK.out i a (by rw [← x.len]; exact (List.getElem?_eq_some_iff.1 e).1) e⟩⟩
theorem szMails_lt {own : Bool} {lo hi : Nat} (ao : Option Addr) (n cap : Nat) (xs : List Mal) (lt : Int) (w : World) (x : LAt mailK w own lo hi ao n cap xs) (hn : n ≤ maxLen) (hs : (∀ (i : Nat) (a : Mal), xs[i]? = some a → a.2.2.1 ≤ maxLen)) (h0 : 0 ≤ lt) (h1 : lt ≤ 1048576) :
  Calls Try.prog 32 #[.slice ao n cap, .int .i64 lt] w fun e w' => ∃ q : Int, e = .returned (.int .i64 q) ∧ Below w.heap.size w w' ∧ (q < 0 ∨ (0 ≤ q ∧ q ≤ 1048576 ∧ n ≤ 1048576 ∧ (∀ (i : Nat) (a : Mal), xs[i]? = some a → a.2.2.1 ≤ 1048576))) := by
 have HS : Hid _ := hs
 clear hs
 by_cases hbig : lt < n
 ·have hbi : lt - (n : Int) < 0 := by omega
  unfold maxLen at hn
  go_enter Try.func32, Try.ntmps32
  go_wp2
  go_ret
  exact ⟨-1, rfl, Below.refl _ _, Or.inl (by omega)⟩
 have hbi : ¬ lt - (n : Int) < 0 := by omega
 unfold maxLen at hn
 go_enter Try.func32, Try.ntmps32
 go_wp2
 go_loopw [1, 5] (fun l i wr => ∃ k : Nat, k ≤ n ∧ i = .int .i64 k ∧ (∃ q : Int, l = .int .i64 q ∧ 0 ≤ q ∧ q ≤ 1048576) ∧ Hid (∀ (i : Nat) (a : Mal), i < k → xs[i]? = some a → a.2.2.1 ≤ 1048576) ∧ Below w.heap.size w wr) (fun _ i _ => n - (intOf i).toNat)
 case atStart => exact ⟨0, Nat.zero_le _, rfl, ⟨_, rfl, by omega, by omega⟩, fun i a hi => absurd hi (Nat.not_lt_zero _), Below.refl _ _⟩
 case round =>
  obtain ⟨k, hk, rfl, ⟨q, rfl, hr0, hr1⟩, HK, hb⟩ := hrel
  by_cases hlt : k < n
  ·have hlk : (k : Int) < (n : Int) := by omega
   obtain ⟨m, h, b, off, ex, rfl, _, _, X0, y, _⟩ := (x.below mailOk hb).mail hlt
   have c0 := X0.cell
   have hmk := HS.out k _ ex
   have HQ : Hid (h.2.1 ≤ 1048576 → ∀ (i : Nat) (a : Mal), i < k + 1 → xs[i]? = some a → a.2.2.1 ≤ 1048576) := fun hm i a hi e => by
    rcases Nat.lt_succ_iff_lt_or_eq.1 hi with c | c
    ·exact HK.out i a c e
    ·subst c
     rw [ex] at e
     have e2 := Option.some.inj e
     rw [← e2]; exact hm
   clear HK ex
   simp only at hmk
   go_wp2_with fail
   refine (szMail_lt m h q _ y hmk hr0 hr1).mono ?_
   rintro e W ⟨p, rfl, hb1, hp⟩
   replace hb := below_step hb hb.size hb1
   clear hb1 X0 c0 y
   rcases hp with hp | ⟨p0, p1, p2⟩
   ·go_wp2
    go_ret
    exact ⟨-1, rfl, hb, Or.inl (by omega)⟩
   have hb2 : ¬ p < 0 := by omega
   have HQ' := HQ.out p2
   have HT : Hid _ := HQ'
   clear HQ HQ' p2
   go_wp2
   go_roundw
   case rel => exact ⟨k + 1, by omega, by go_num, ⟨_, rfl, by omega, by omega⟩, HT, by assumption⟩
   case measure => simp [intOf]; omega
  ·obtain rfl : k = n := by omega
   go_wp2
   go_ret
   exact ⟨q, rfl, hb, Or.inr ⟨hr0, hr1, by omega, fun i a e => HK.out i a (by rw [← x.len]; exact (List.getElem?_eq_some_iff.1 e).1) e⟩⟩
theorem Try.infReplica : (Try.prog.info? 29).map (fun i => (i.zero, i.size, i.bytes)) = some (some (.agg #[.int .i64 0, .int .i64 0, .int .i64 0, .bool false, .int .i64 0, .slice none 0 0, .int .i64 0, .slice none 0 0, .slice none 0 0, .slice none 0 0]), 10, 144) := by kernel_rfl
def ReplicaSt (xs : List Nod) (g n : Nat) (wr : World) (k : Nat) : Prop := ∃ ys : List Nod, LAt nodeK wr true g wr.heap.size (some ⟨g, 0, none⟩) n n ys ∧ (∀ i : Nat, i < k → (ys.getD i nod0).1 = (xs.getD i nod0).1) ∧ (∀ i : Nat, i < k → (fun a : Nod => RSz a.2 1048576) (ys.getD i nod0))
theorem ReplicaSt.put {xs : List Nod} {g n : Nat} {wr w1 : World} {k : Nat} (x : ReplicaSt xs g n wr k) (hk : k < n) {r : Rep} {h h' : RH} (ex : xs[k]? = some (r, h)) (hb : Below wr.heap.size wr w1) (y : nodeK.mem w1 true wr.heap.size w1.heap.size (r, h')) (hz : (fun a : Nod => RSz a.2 1048576) (r, h')) :
  w1.there g (k * 10) 10 ∧ ReplicaSt xs g n (w1.setCells g (k * 10) [.int .i64 r.id, .int .i64 r.size, .int .i64 r.view, .bool r.normal, .int .i64 r.last, .slice h'.L.1 h'.L.2.1 h'.L.2.2, .int .i64 r.commit, .slice h'.O.1 h'.O.2.1 h'.O.2.2, .slice h'.A.1 h'.A.2.1 h'.A.2.2, .slice h'.D.1 h'.D.2.1 h'.D.2.2]) (k + 1) := by
 obtain ⟨ys, L, e1, e2⟩ := x
 have hlt := (L.row.inB (k := g) ⟨by omega, rfl⟩)
 have L1 := (L.below nodeOk hb).widen nodeOk (Nat.le_refl _) hb.size
 obtain ⟨a, b, off, ea, eb, _, _, _, hc, hf⟩ := L1.el nodeOk hk
 simp only [Option.some.injEq, Addr.mk.injEq, and_true] at eb
 obtain ⟨rfl, rfl⟩ := eb
 refine ⟨fun j hj => ⟨?_, ?_⟩, (ys.set k (r, h')), ?_, fun i hi => ?_, fun i hi => ?_⟩
 ·have t := hc j hj
  rw [Nat.zero_add] at t
  have hl := nodeOk.len a
  show (w1.cell? ⟨g, k * nodeK.sz + j, none⟩).isSome = true
  rw [t, List.getElem?_eq_getElem (by rw [hl]; exact hj)]; rfl
 ·have t := hf rfl j hj
  rw [Nat.zero_add] at t
  exact t
 ·have P := L1.put nodeOk hk (r, h') (nodeOk.widen y (Nat.le_of_lt hlt.2.2) (Nat.le_refl _)) (fun q hq => by have := nodeOk.inB y hq; omega) (fun j c ec _ q hq hq2 => by
   have h3 := nodeOk.inB y hq
   have h4 := nodeOk.inB (L.each j c ec) hq2
   omega)
  rw [Nat.zero_add] at P
  have hsz : (w1.setCells g (k * 10) [.int .i64 r.id, .int .i64 r.size, .int .i64 r.view, .bool r.normal, .int .i64 r.last, .slice h'.L.1 h'.L.2.1 h'.L.2.2, .int .i64 r.commit, .slice h'.O.1 h'.O.2.1 h'.O.2.2, .slice h'.A.1 h'.A.2.1 h'.A.2.2, .slice h'.D.1 h'.D.2.1 h'.D.2.2]).heap.size = w1.heap.size := size_setCells' _ _ _ _
  rw [hsz]
  exact P
 ·have hl : k < ys.length := by rw [L.len]; exact hk
  rw [getD_set_fst hl]
  by_cases c : i = k
  ·rw [if_pos c, c, getD_of_get ex]
  ·rw [if_neg c]; exact e1 i (by omega)
 ·have hl : k < ys.length := by rw [L.len]; exact hk
  rw [getD_set_fst hl]
  by_cases c : i = k
  ·rw [if_pos c]; exact hz
  ·rw [if_neg c]; exact e2 i (by omega)
theorem toReplicas_any {own : Bool} {lo hi : Nat} (ao : Option Addr) (n cap : Nat) (xs : List Nod) (w : World) (x : LAt nodeK w own lo hi ao n cap xs) (hn : n ≤ 1048576) (hs : (∀ (i : Nat) (a : Nod), xs[i]? = some a → RSz a.2 1048576)) :
  Calls Try.prog 36 #[.slice ao n cap] w fun e w' => ∃ g ys, e = .returned (.slice (some ⟨g, 0, none⟩) n n) ∧ w.heap.size ≤ g ∧ g < w'.heap.size ∧ LAt nodeK w' true w.heap.size w'.heap.size (some ⟨g, 0, none⟩) n n ys ∧ ys.map (·.1) = xs.map (·.1) ∧ (∀ (i : Nat) (a : Nod), ys[i]? = some a → RSz a.2 1048576) ∧ Below w.heap.size w w' := by
 have hx := x.len
 obtain ⟨i0, hi0, hz0, hz1, hz2⟩ := info_parts Try.infReplica
 have HS : Hid _ := hs
 clear hs
 go_enter Try.func36, Try.ntmps36
 go_wp2_with (first | (at_make; refine wpList_make_full _ rfl _ _ 47 rfl w.heap.size 29 i0 (.agg #[.int .i64 0, .int .i64 0, .int .i64 0, .bool false, .int .i64 0, .slice none 0 0, .int .i64 0, .slice none 0 0, .slice none 0 0, .slice none 0 0]) 10 Try.underlying47 hi0 hz0 hz1 _ _ _ _ n rfl rfl rfl rfl ?b1 ?b2 ?b3 ?_))
 case b1 => rw [hz2]; omega
 case b2 => unfold maxLen; omega
 case b3 => exact Nat.le_refl _
 intro w1 hown hgrow
 have hb1 : Below w.heap.size w w1 := (Below.refl _ _).grown hgrow (Nat.le_refl _) (fun k hk => by cases hk)
 have hown0 : w1.ownsRow w.heap.size 29 10 (.slice (some ⟨w.heap.size, 0, none⟩) n n) n ((List.replicate n nod0).flatMap nodeK.cells) := by
  have e : (madeCells #[.int .i64 0, .int .i64 0, .int .i64 0, .bool false, .int .i64 0, .slice none 0 0, .int .i64 0, .slice none 0 0, .slice none 0 0, .slice none 0 0] (n * 10)).toList = (List.replicate n nod0).flatMap nodeK.cells := made_list nodeOk n nod0 #[.int .i64 0, .int .i64 0, .int .i64 0, .bool false, .int .i64 0, .slice none 0 0, .int .i64 0, .slice none 0 0, .slice none 0 0, .slice none 0 0] rfl
  rw [← e]; simpa [Value.cells] using hown
 have hlt0 := (owns_lt hown0).2
 have E0 : ReplicaSt xs w.heap.size n w1 0 := ⟨_, LAt.made hown0 (nod0_mem _ _ _ _) nod0_inn, fun i hi => absurd hi (Nat.not_lt_zero _), fun i hi => absurd hi (Nat.not_lt_zero _)⟩
 clear hown hgrow hown0
 generalize hg : w.heap.size = g at *
 have HG : Hid _ := hg
 clear hg
 go_wp2
 go_loopw [4] (fun i wr => ∃ k : Nat, k ≤ n ∧ i = .int .i64 k ∧ ReplicaSt xs g n wr k ∧ g < wr.heap.size ∧ Below g w wr) (fun i _ => n - (intOf i).toNat)
 case atStart => exact ⟨0, Nat.zero_le _, rfl, E0, hlt0, hb1⟩
 case round =>
  obtain ⟨k, hk, rfl, E, hgl, hb⟩ := hrel
  clear E0 hb1 hlt0
  by_cases hlt : k < n
  ·have hlk : (k : Int) < (n : Int) := by omega
   replace hb : Below w.heap.size w wr := by rw [HG.out]; exact hb
   obtain ⟨r, h, b, off, ex, rfl, _, _, X0, y, _⟩ := (x.below nodeOk hb).node hlt
   replace hb : Below g w wr := by rw [← HG.out]; exact hb
   have c0 := X0.cell
   have hmk := HS.out k _ ex
   have HX : Hid _ := ex
   have HE : Hid (ReplicaSt xs g n wr k) := E
   clear ex E
   simp only at hmk
   go_wp2_with fail
   refine (toReplica_any r h _ y hmk).mono ?_
   rintro e w2 ⟨h', rfl, y', z', BB⟩
   obtain ⟨TH, E2⟩ := HE.out.put hlt HX.out BB y' z'
   have HT : Hid _ := TH
   have HE2 : Hid _ := E2
   replace hb := below_step hb (Nat.le_of_lt hgl) BB
   have hgl' := Nat.lt_of_lt_of_le hgl BB.size
   clear TH E2 HE HX X0 c0 y y' z' BB
   go_wp2_with (first | ((refine store_elP 29 HT.out [.int .i64 r.id, .int .i64 r.size, .int .i64 r.view, .bool r.normal, .int .i64 r.last, .slice h'.L.1 h'.L.2.1 h'.L.2.2, .int .i64 r.commit, .slice h'.O.1 h'.O.2.1 h'.O.2.2, .slice h'.A.1 h'.A.2.1 h'.A.2.2, .slice h'.D.1 h'.D.2.1 h'.D.2.2] (by simp) (by kernel_rfl) (by simp [Value.oneCell']) rfl rfl ?_); intro W5 hW5))
   have HSS : Hid (Below g w W5) := by rw [hW5.eq]; show Below _ _ _; exact hb.trans ((kept_el _ _ _).below _ (Nat.le_refl _) (Nat.le_of_lt hgl'))
   have HSZ : Hid (g < W5.heap.size) := by rw [hW5.eq, size_setCells']; exact hgl'
   replace HE2 : Hid (ReplicaSt xs g n W5 (k + 1)) := by rw [hW5.eq]; exact HE2
   clear hW5 HT hb hgl' hgl
   go_wp2
   go_roundw
   case rel => exact ⟨k + 1, by omega, by go_num, HE2.out, HSZ.out, HSS.out⟩
   case measure => simp [intOf]; omega
  ·obtain rfl : k = n := by omega
   go_wp2
   go_ret
   obtain ⟨ys, L, e1, e2⟩ := E
   have hg := HG.out
   subst hg
   refine ⟨_, ys, rfl, Nat.le_refl _, hgl, L, map_fst_eq (d := nod0) hx L.len e1, fun i a e => ?_, hb⟩
   have := e2 i (by rw [← L.len]; exact (List.getElem?_eq_some_iff.1 e).1)
   rw [getD_of_get e] at this
   exact this
theorem Try.infMail : (Try.prog.info? 99).map (fun i => (i.zero, i.size, i.bytes)) = some (some (.agg #[.int .i64 0, .int .i64 0, .int .i64 0, .int .i64 0, .int .i64 0, .bool false, .int .i64 0, .int .i64 0, .int .i64 0, .int .i64 0, .int .i64 0, .int .i64 0, .int .i64 0, .slice none 0 0, .int .i64 0]), 15, 136) := by kernel_rfl
def MailSt (xs : List Mal) (g n : Nat) (wr : World) (k : Nat) : Prop := ∃ ys : List Mal, LAt mailK wr true g wr.heap.size (some ⟨g, 0, none⟩) n n ys ∧ (∀ i : Nat, i < k → (ys.getD i mal0).1 = (xs.getD i mal0).1) ∧ (∀ i : Nat, i < k → (fun a : Mal => a.2.2.1 ≤ 1048576) (ys.getD i mal0))
theorem MailSt.put {xs : List Mal} {g n : Nat} {wr w1 : World} {k : Nat} (x : MailSt xs g n wr k) (hk : k < n) {m : Ml} {h h' : Hd} (ex : xs[k]? = some (m, h)) (hb : Below wr.heap.size wr w1) (y : mailK.mem w1 true wr.heap.size w1.heap.size (m, h')) (hz : (fun a : Mal => a.2.2.1 ≤ 1048576) (m, h')) :
  w1.there g (k * 15) 15 ∧ MailSt xs g n (w1.setCells g (k * 15) [.int .i64 m.kind, .int .i64 m.fr, .int .i64 m.to, .int .i64 m.view, .int .i64 m.at_, .bool m.has, .int .i64 m.en.1, .int .i64 m.en.2.1, .int .i64 m.en.2.2.1, .int .i64 m.en.2.2.2.1, .int .i64 m.en.2.2.2.2.1, .int .i64 m.en.2.2.2.2.2, .int .i64 m.last, .slice h'.1 h'.2.1 h'.2.2, .int .i64 m.commit]) (k + 1) := by
 obtain ⟨ys, L, e1, e2⟩ := x
 have hlt := (L.row.inB (k := g) ⟨by omega, rfl⟩)
 have L1 := (L.below mailOk hb).widen mailOk (Nat.le_refl _) hb.size
 obtain ⟨a, b, off, ea, eb, _, _, _, hc, hf⟩ := L1.el mailOk hk
 simp only [Option.some.injEq, Addr.mk.injEq, and_true] at eb
 obtain ⟨rfl, rfl⟩ := eb
 refine ⟨fun j hj => ⟨?_, ?_⟩, (ys.set k (m, h')), ?_, fun i hi => ?_, fun i hi => ?_⟩
 ·have t := hc j hj
  rw [Nat.zero_add] at t
  have hl := mailOk.len a
  show (w1.cell? ⟨g, k * mailK.sz + j, none⟩).isSome = true
  rw [t, List.getElem?_eq_getElem (by rw [hl]; exact hj)]; rfl
 ·have t := hf rfl j hj
  rw [Nat.zero_add] at t
  exact t
 ·have P := L1.put mailOk hk (m, h') (mailOk.widen y (Nat.le_of_lt hlt.2.2) (Nat.le_refl _)) (fun q hq => by have := mailOk.inB y hq; omega) (fun j c ec _ q hq hq2 => by
   have h3 := mailOk.inB y hq
   have h4 := mailOk.inB (L.each j c ec) hq2
   omega)
  rw [Nat.zero_add] at P
  have hsz : (w1.setCells g (k * 15) [.int .i64 m.kind, .int .i64 m.fr, .int .i64 m.to, .int .i64 m.view, .int .i64 m.at_, .bool m.has, .int .i64 m.en.1, .int .i64 m.en.2.1, .int .i64 m.en.2.2.1, .int .i64 m.en.2.2.2.1, .int .i64 m.en.2.2.2.2.1, .int .i64 m.en.2.2.2.2.2, .int .i64 m.last, .slice h'.1 h'.2.1 h'.2.2, .int .i64 m.commit]).heap.size = w1.heap.size := size_setCells' _ _ _ _
  rw [hsz]
  exact P
 ·have hl : k < ys.length := by rw [L.len]; exact hk
  rw [getD_set_fst hl]
  by_cases c : i = k
  ·rw [if_pos c, c, getD_of_get ex]
  ·rw [if_neg c]; exact e1 i (by omega)
 ·have hl : k < ys.length := by rw [L.len]; exact hk
  rw [getD_set_fst hl]
  by_cases c : i = k
  ·rw [if_pos c]; exact hz
  ·rw [if_neg c]; exact e2 i (by omega)
theorem toMail_n {own : Bool} {lo hi : Nat} (m : Ml) (h : Hd) (w : World) (x : RowAt w own lo hi 6 h.1 h.2.1 h.2.2 (sixs m.log)) (hn : h.2.1 ≤ 1048576) :
  Calls Try.prog 74 #[.agg #[.int .i64 m.kind, .int .i64 m.fr, .int .i64 m.to, .int .i64 m.view, .int .i64 m.at_, .bool m.has, .int .i64 m.en.1, .int .i64 m.en.2.1, .int .i64 m.en.2.2.1, .int .i64 m.en.2.2.2.1, .int .i64 m.en.2.2.2.2.1, .int .i64 m.en.2.2.2.2.2, .int .i64 m.last, .slice h.1 h.2.1 h.2.2, .int .i64 m.commit]] w fun e w' => ∃ h' : Hd, e = .returned (.agg #[.int .i64 m.kind, .int .i64 m.fr, .int .i64 m.to, .int .i64 m.view, .int .i64 m.at_, .bool m.has, .int .i64 m.en.1, .int .i64 m.en.2.1, .int .i64 m.en.2.2.1, .int .i64 m.en.2.2.2.1, .int .i64 m.en.2.2.2.2.1, .int .i64 m.en.2.2.2.2.2, .int .i64 m.last, .slice h'.1 h'.2.1 h'.2.2, .int .i64 m.commit]) ∧ RowAt w' true w.heap.size w'.heap.size 6 h'.1 h'.2.1 h'.2.2 (sixs m.log) ∧ h'.2.1 ≤ 1048576 ∧ Below w.heap.size w w' :=
 (toMail_any m h w x hn).mono fun _ _ ⟨g, e1, h1, h2, R, b⟩ => ⟨(some ⟨g, 0, none⟩, h.2.1, h.2.1), e1, R.widen h1 h2, hn, b⟩
theorem toMails_any {own : Bool} {lo hi : Nat} (ao : Option Addr) (n cap : Nat) (xs : List Mal) (w : World) (x : LAt mailK w own lo hi ao n cap xs) (hn : n ≤ 1048576) (hs : (∀ (i : Nat) (a : Mal), xs[i]? = some a → a.2.2.1 ≤ 1048576)) :
  Calls Try.prog 37 #[.slice ao n cap] w fun e w' => ∃ g ys, e = .returned (.slice (some ⟨g, 0, none⟩) n n) ∧ w.heap.size ≤ g ∧ g < w'.heap.size ∧ LAt mailK w' true w.heap.size w'.heap.size (some ⟨g, 0, none⟩) n n ys ∧ ys.map (·.1) = xs.map (·.1) ∧ (∀ (i : Nat) (a : Mal), ys[i]? = some a → a.2.2.1 ≤ 1048576) ∧ Below w.heap.size w w' := by
 have hx := x.len
 obtain ⟨i0, hi0, hz0, hz1, hz2⟩ := info_parts Try.infMail
 have HS : Hid _ := hs
 clear hs
 go_enter Try.func37, Try.ntmps37
 go_wp2_with (first | (at_make; refine wpList_make_full _ rfl _ _ 34 rfl w.heap.size 99 i0 (.agg #[.int .i64 0, .int .i64 0, .int .i64 0, .int .i64 0, .int .i64 0, .bool false, .int .i64 0, .int .i64 0, .int .i64 0, .int .i64 0, .int .i64 0, .int .i64 0, .int .i64 0, .slice none 0 0, .int .i64 0]) 15 Try.underlying34 hi0 hz0 hz1 _ _ _ _ n rfl rfl rfl rfl ?b1 ?b2 ?b3 ?_))
 case b1 => rw [hz2]; omega
 case b2 => unfold maxLen; omega
 case b3 => exact Nat.le_refl _
 intro w1 hown hgrow
 have hb1 : Below w.heap.size w w1 := (Below.refl _ _).grown hgrow (Nat.le_refl _) (fun k hk => by cases hk)
 have hown0 : w1.ownsRow w.heap.size 99 15 (.slice (some ⟨w.heap.size, 0, none⟩) n n) n ((List.replicate n mal0).flatMap mailK.cells) := by
  have e : (madeCells #[.int .i64 0, .int .i64 0, .int .i64 0, .int .i64 0, .int .i64 0, .bool false, .int .i64 0, .int .i64 0, .int .i64 0, .int .i64 0, .int .i64 0, .int .i64 0, .int .i64 0, .slice none 0 0, .int .i64 0] (n * 15)).toList = (List.replicate n mal0).flatMap mailK.cells := made_list mailOk n mal0 #[.int .i64 0, .int .i64 0, .int .i64 0, .int .i64 0, .int .i64 0, .bool false, .int .i64 0, .int .i64 0, .int .i64 0, .int .i64 0, .int .i64 0, .int .i64 0, .int .i64 0, .slice none 0 0, .int .i64 0] rfl
  rw [← e]; simpa [Value.cells] using hown
 have hlt0 := (owns_lt hown0).2
 have E0 : MailSt xs w.heap.size n w1 0 := ⟨_, LAt.made hown0 (mal0_mem _ _ _ _) mal0_inn, fun i hi => absurd hi (Nat.not_lt_zero _), fun i hi => absurd hi (Nat.not_lt_zero _)⟩
 clear hown hgrow hown0
 generalize hg : w.heap.size = g at *
 have HG : Hid _ := hg
 clear hg
 go_wp2
 go_loopw [4] (fun i wr => ∃ k : Nat, k ≤ n ∧ i = .int .i64 k ∧ MailSt xs g n wr k ∧ g < wr.heap.size ∧ Below g w wr) (fun i _ => n - (intOf i).toNat)
 case atStart => exact ⟨0, Nat.zero_le _, rfl, E0, hlt0, hb1⟩
 case round =>
  obtain ⟨k, hk, rfl, E, hgl, hb⟩ := hrel
  clear E0 hb1 hlt0
  by_cases hlt : k < n
  ·have hlk : (k : Int) < (n : Int) := by omega
   replace hb : Below w.heap.size w wr := by rw [HG.out]; exact hb
   obtain ⟨m, h, b, off, ex, rfl, _, _, X0, y, _⟩ := (x.below mailOk hb).mail hlt
   replace hb : Below g w wr := by rw [← HG.out]; exact hb
   have c0 := X0.cell
   have hmk := HS.out k _ ex
   have HX : Hid _ := ex
   have HE : Hid (MailSt xs g n wr k) := E
   clear ex E
   simp only at hmk
   go_wp2_with fail
   refine (toMail_n m h _ y hmk).mono ?_
   rintro e w2 ⟨h', rfl, y', z', BB⟩
   obtain ⟨TH, E2⟩ := HE.out.put hlt HX.out BB y' z'
   have HT : Hid _ := TH
   have HE2 : Hid _ := E2
   replace hb := below_step hb (Nat.le_of_lt hgl) BB
   have hgl' := Nat.lt_of_lt_of_le hgl BB.size
   clear TH E2 HE HX X0 c0 y y' z' BB
   go_wp2_with (first | ((refine store_elP 99 HT.out [.int .i64 m.kind, .int .i64 m.fr, .int .i64 m.to, .int .i64 m.view, .int .i64 m.at_, .bool m.has, .int .i64 m.en.1, .int .i64 m.en.2.1, .int .i64 m.en.2.2.1, .int .i64 m.en.2.2.2.1, .int .i64 m.en.2.2.2.2.1, .int .i64 m.en.2.2.2.2.2, .int .i64 m.last, .slice h'.1 h'.2.1 h'.2.2, .int .i64 m.commit] (by simp) (by kernel_rfl) (by simp [Value.oneCell']) rfl rfl ?_); intro W5 hW5))
   have HSS : Hid (Below g w W5) := by rw [hW5.eq]; show Below _ _ _; exact hb.trans ((kept_el _ _ _).below _ (Nat.le_refl _) (Nat.le_of_lt hgl'))
   have HSZ : Hid (g < W5.heap.size) := by rw [hW5.eq, size_setCells']; exact hgl'
   replace HE2 : Hid (MailSt xs g n W5 (k + 1)) := by rw [hW5.eq]; exact HE2
   clear hW5 HT hb hgl' hgl
   go_wp2
   go_roundw
   case rel => exact ⟨k + 1, by omega, by go_num, HE2.out, HSZ.out, HSS.out⟩
   case measure => simp [intOf]; omega
  ·obtain rfl : k = n := by omega
   go_wp2
   go_ret
   obtain ⟨ys, L, e1, e2⟩ := E
   have hg := HG.out
   subst hg
   refine ⟨_, ys, rfl, Nat.le_refl _, hgl, L, map_fst_eq (d := mal0) hx L.len e1, fun i a e => ?_, hb⟩
   have := e2 i (by rw [← L.len]; exact (List.getElem?_eq_some_iff.1 e).1)
   rw [getD_of_get e] at this
   exact this
theorem eqReplicas_yes {o1 o2 : Bool} {l1 u1 l2 u2 : Nat} (a1 a2 : Option Addr) (n c1 m c2 : Nat) (xs ys : List Nod) (w : World) (h1 : LAt nodeK w o1 l1 u1 a1 n c1 xs) (h2 : LAt nodeK w o2 l2 u2 a2 m c2 ys) (hxy : ys.map (·.1) = xs.map (·.1)) (hn : n ≤ 1048576) (hs : (∀ (i : Nat) (a : Nod), xs[i]? = some a → RSz a.2 1048576)) :
  Calls Try.prog 41 #[.slice a1 n c1, .slice a2 m c2] w fun e w' => e = .returned (.bool true) ∧ Below w.heap.size w w' := by
 obtain rfl : n = m := by rw [← h1.len, ← h2.len]; simpa using (congrArg List.length hxy).symm
 have hb0 : ((n : Int) != (n : Int)) = false := by simp
 have HS : Hid _ := hs
 have HXY : Hid (∀ (i : Nat) (a b : Nod), xs[i]? = some a → ys[i]? = some b → b.1 = a.1) := fun i a b e1 e2 => by
  have t := congrArg (·[i]?) hxy
  simpa [e1, e2] using t
 clear hs hxy
 go_enter Try.func41, Try.ntmps41
 go_wp2
 go_loopw [5] (fun i wr => ∃ k : Nat, k ≤ n ∧ i = .int .i64 k ∧ Below w.heap.size w wr) (fun i _ => n - (intOf i).toNat)
 case atStart => exact ⟨0, Nat.zero_le _, rfl, Below.refl _ _⟩
 case round =>
  obtain ⟨k, hk, rfl, hb⟩ := hrel
  by_cases hlt : k < n
  ·have hlk : (k : Int) < (n : Int) := by omega
   have D : Below wr.heap.size wr wr.drew := (Below.refl _ _).drew
   replace hb := below_next hb D
   clear D
   obtain ⟨r, q1, b1, f1, ex1, rfl, _, _, X1, y1, _⟩ := (h1.below nodeOk hb).node hlt
   obtain ⟨r2, q2, b2, f2, ex2, rfl, _, _, X2, y2, _⟩ := (h2.below nodeOk hb).node hlt
   have hmk := HS.out k _ ex1
   obtain rfl : r2 = r := HXY.out k _ _ ex1 ex2
   clear ex1 ex2
   simp only at hmk
   have c1 := X1.cell
   have c2 := X2.cell
   go_wp2_with fail
   refine wp_region_held_drew (S := (fun w' => (w'.cell? ⟨b1, f1 + k * 10, none⟩ = [.int .i64 r2.id, .int .i64 r2.size, .int .i64 r2.view, .bool r2.normal, .int .i64 r2.last, .slice q1.L.1 q1.L.2.1 q1.L.2.2, .int .i64 r2.commit, .slice q1.O.1 q1.O.2.1 q1.O.2.2, .slice q1.A.1 q1.A.2.1 q1.A.2.2, .slice q1.D.1 q1.D.2.1 q1.D.2.2][0]? ∧ ∀ k_1 : Nat, k_1 < 10 → w'.cell? ⟨b1, f1 + k * 10 + k_1, none⟩ = [.int .i64 r2.id, .int .i64 r2.size, .int .i64 r2.view, .bool r2.normal, .int .i64 r2.last, .slice q1.L.1 q1.L.2.1 q1.L.2.2, .int .i64 r2.commit, .slice q1.O.1 q1.O.2.1 q1.O.2.2, .slice q1.A.1 q1.A.2.1 q1.A.2.2, .slice q1.D.1 q1.D.2.1 q1.D.2.2][k_1]?) ∧ (w'.cell? ⟨b2, f2 + k * 10, none⟩ = [.int .i64 r2.id, .int .i64 r2.size, .int .i64 r2.view, .bool r2.normal, .int .i64 r2.last, .slice q2.L.1 q2.L.2.1 q2.L.2.2, .int .i64 r2.commit, .slice q2.O.1 q2.O.2.1 q2.O.2.2, .slice q2.A.1 q2.A.2.1 q2.A.2.2, .slice q2.D.1 q2.D.2.1 q2.D.2.2][0]? ∧ ∀ k_1 : Nat, k_1 < 10 → w'.cell? ⟨b2, f2 + k * 10 + k_1, none⟩ = [.int .i64 r2.id, .int .i64 r2.size, .int .i64 r2.view, .bool r2.normal, .int .i64 r2.last, .slice q2.L.1 q2.L.2.1 q2.L.2.2, .int .i64 r2.commit, .slice q2.O.1 q2.O.2.1 q2.O.2.2, .slice q2.A.1 q2.A.2.1 q2.A.2.2, .slice q2.D.1 q2.D.2.1 q2.D.2.2][k_1]?))) (by kernel_rfl) ⟨c1, c2⟩ (fun hZq => ?_)
   refine tk 0 hZq ?_
   refine tk 1 hZq ?_
   refine tk 2 hZq ?_
   refine tk 3 hZq ?_
   refine tk 4 hZq ?_
   refine tk 5 hZq ?_
   refine tk 6 hZq ?_
   refine tk 7 hZq ?_
   refine rd1 8 (fun KK hKK => ?_)
   go_simp
   go_at_call 79
   refine (eqReplica_yes r2 q1 q2 _ y1 y2 (hmk.mono (by omega))).mono ?_
   rintro e w1 ⟨rfl, BB⟩
   replace X1 := X1.below BB
   replace c1 := X1.cell
   replace X2 := X2.below BB
   replace c2 := X2.cell
   replace hb := below_next hb BB
   clear BB y1 y2
   clear hZq
   refine hKK _ _ ⟨c1, c2⟩ (fun hZq => ?_)
   clear hKK KK
   refine tk 9 hZq ?_
   refine wpAnyH_done (by kernel_rfl) ?_ _
   clear c1 c2 X1 X2
   go_wp2
   go_roundw
   case rel => exact ⟨k + 1, by omega, by go_num, hb⟩
   case measure => simp [intOf]; omega
  ·obtain rfl : k = n := by omega
   go_wp2
   go_ret
   exact ⟨rfl, hb⟩
def NAt (w : World) (own : Bool) (lo hi : Nat) (N : Hd) (xs : List Nod) : Prop := LAt nodeK w own lo hi N.1 N.2.1 N.2.2 xs
def MAt (w : World) (own : Bool) (lo hi : Nat) (M : Hd) (ms : List Mal) : Prop := LAt mailK w own lo hi M.1 M.2.1 M.2.2 ms
section
variable {w w' : World} {own : Bool} {lo hi : Nat} {N M Sl : Hd} {xs : List Nod} {ms : List Mal} {es : List En}
theorem NAt.below (h : NAt w own lo hi N xs) (hb : Below w.heap.size w w') : NAt w' own lo hi N xs := LAt.below nodeOk h hb
theorem MAt.below (h : MAt w own lo hi M ms) (hb : Below w.heap.size w w') : MAt w' own lo hi M ms := LAt.below mailOk h hb
theorem NAt.kept (h : NAt w own lo hi N xs) {l u : Nat} (hk : Kept l u w w') (hd : hi ≤ l ∨ u ≤ lo) : NAt w' own lo hi N xs := LAt.kept nodeOk h hk hd
theorem MAt.kept (h : MAt w own lo hi M ms) {l u : Nat} (hk : Kept l u w w') (hd : hi ≤ l ∨ u ≤ lo) : MAt w' own lo hi M ms := LAt.kept mailOk h hk hd
theorem NAt.widen (h : NAt w own lo hi N xs) {lo' hi' : Nat} (h1 : lo' ≤ lo) (h2 : hi ≤ hi') : NAt w own lo' hi' N xs := LAt.widen nodeOk h h1 h2
theorem MAt.widen (h : MAt w own lo hi M ms) {lo' hi' : Nat} (h1 : lo' ≤ lo) (h2 : hi ≤ hi') : MAt w own lo' hi' M ms := LAt.widen mailOk h h1 h2
theorem NAt.inB (h : NAt w own lo hi N xs) {q : Nat} (hq : inL nodeK N.1 N.2.1 xs q) : lo ≤ q ∧ q < hi ∧ q < w.heap.size := LAt.inB nodeOk h hq
theorem MAt.inB (h : MAt w own lo hi M ms) {q : Nat} (hq : inL mailK M.1 M.2.1 ms q) : lo ≤ q ∧ q < hi ∧ q < w.heap.size := LAt.inB mailOk h hq
structure ClAt (w : World) (own : Bool) (lo hi : Nat) (N M Sl : Hd) (xs : List Nod) (ms : List Mal) (es : List En) : Prop where
 nodes : NAt w own lo hi N xs
 mails : MAt w own lo hi M ms
 slog : RowAt w own lo hi 6 Sl.1 Sl.2.1 Sl.2.2 (sixs es)
 sep : own = true → Sep (inL nodeK N.1 N.2.1 xs) (inL mailK M.1 M.2.1 ms) ∧ Sep (inL nodeK N.1 N.2.1 xs) (hR Sl) ∧ Sep (inL mailK M.1 M.2.1 ms) (hR Sl)
structure ClSz (N M Sl : Hd) (xs : List Nod) (ms : List Mal) (z : Nat) : Prop where
 n : N.2.1 ≤ z
 m : M.2.1 ≤ z
 s : Sl.2.1 ≤ z
 nodes : ∀ (i : Nat) (a : Nod), xs[i]? = some a → RSz a.2 z
 mails : ∀ (i : Nat) (a : Mal), ms[i]? = some a → a.2.2.1 ≤ z
theorem ClAt.below (x : ClAt w own lo hi N M Sl xs ms es) (hb : Below w.heap.size w w') : ClAt w' own lo hi N M Sl xs ms es := ⟨x.nodes.below hb, x.mails.below hb, x.slog.below hb, x.sep⟩
theorem ClAt.kept (x : ClAt w own lo hi N M Sl xs ms es) {l u : Nat} (hk : Kept l u w w') (hd : hi ≤ l ∨ u ≤ lo) : ClAt w' own lo hi N M Sl xs ms es := ⟨x.nodes.kept hk hd, x.mails.kept hk hd, x.slog.kept hk hd, x.sep⟩
theorem clAt_of {z1 u1 z2 u2 g : Nat} (x1 : NAt w true z1 u1 N xs) (x2 : MAt w true z2 u2 M ms) (x3 : RowAt w true g (g + 1) 6 Sl.1 Sl.2.1 Sl.2.2 (sixs es)) (h1 : u1 ≤ z2) (h2 : u2 ≤ g) (h3 : lo ≤ z2) (h4 : lo ≤ g) (h5 : u1 ≤ g) (h6 : g < hi) (h7 : lo ≤ z1) : ClAt w true lo hi N M Sl xs ms es := by
 refine ⟨x1.widen h7 (by omega), x2.widen (by omega) (by omega), x3.widen (by omega) (by omega), fun _ => ⟨fun q a b => ?_, fun q a b => ?_, fun q a b => ?_⟩⟩
 ·have := x1.inB a; have := x2.inB b; omega
 ·have := x1.inB a; have := x3.inB b; omega
 ·have := x2.inB a; have := x3.inB b; omega
end
theorem szCluster_lt {own : Bool} {lo hi : Nat} (N M Sl : Hd) (xs : List Nod) (ms : List Mal) (es : List En) (w : World) (x : ClAt w own lo hi N M Sl xs ms es) (hs : ClSz N M Sl xs ms maxLen) :
  Calls Try.prog 13 #[.agg #[.slice N.1 N.2.1 N.2.2, .slice M.1 M.2.1 M.2.2, .slice Sl.1 Sl.2.1 Sl.2.2], .int .i64 1048576] w fun e w' => ∃ q : Int, e = .returned (.int .i64 q) ∧ Below w.heap.size w w' ∧ (q < 0 ∨ (0 ≤ q ∧ q ≤ 1048576 ∧ ClSz N M Sl xs ms 1048576)) := by
 have HS : Hid _ := hs
 have hs3 := hs.s
 clear hs
 go_enter Try.func13, Try.ntmps13
 go_wp2_with (first | ((with_reducible refine box_newX 44 [.slice N.1 N.2.1 N.2.2, .slice M.1 M.2.1 M.2.2, .slice Sl.1 Sl.2.1 Sl.2.2] rfl ?_); intro b0 W0 N0; have ob0 := N0.ge; have B := N0.below; obtain ⟨X0, c0⟩ := N0.c; clear N0) | fail)
 refine (szReplicas_lt N.1 N.2.1 N.2.2 xs 1048576 _ (x.nodes.below B) HS.out.n HS.out.nodes (by omega) (by omega)).mono ?_
 rintro e w1 ⟨p1, rfl, BB, hp1⟩
 replace X0 := X0.below BB
 replace c0 := X0.cell
 replace B := below_next B BB
 clear BB
 rcases hp1 with hp1 | ⟨p1_0, p1_1, p1_n, p1_m⟩
 ·go_wp2
  go_ret
  exact ⟨-1, rfl, B, Or.inl (by omega)⟩
 have p1' : ¬ p1 < 0 := by omega
 have P1 : Hid _ := p1_m
 clear p1_m
 go_wp2_with fail
 refine (szMails_lt M.1 M.2.1 M.2.2 ms p1 _ (x.mails.below B) HS.out.m HS.out.mails p1_0 p1_1).mono ?_
 rintro e w2 ⟨p2, rfl, BB, hp2⟩
 replace X0 := X0.below BB
 replace c0 := X0.cell
 replace B := below_next B BB
 clear BB
 rcases hp2 with hp2 | ⟨p2_0, p2_1, p2_n, p2_m⟩
 ·go_wp2
  go_ret
  exact ⟨-1, rfl, B, Or.inl (by omega)⟩
 have p2' : ¬ p2 < 0 := by omega
 have P2 : Hid _ := p2_m
 clear p2_m
 go_wp2_with fail
 refine (szEntries_left Sl.1 Sl.2.1 Sl.2.2 p2 _ hs3 p2_0 p2_1).mono ?_
 rintro e W9 ⟨rfl, rfl⟩
 by_cases hb : p2 < Sl.2.1
 ·rw [if_pos hb]
  go_wp2
  go_ret
  exact ⟨-1, rfl, B, Or.inl (by omega)⟩
 rw [if_neg hb]
 have hb2 : ¬ p2 - (Sl.2.1 : Int) < 0 := by omega
 go_wp2
 go_ret
 exact ⟨_, rfl, B, Or.inr ⟨by omega, by omega, p1_n, p2_n, by omega, P1.out, P2.out⟩⟩
theorem toReplicas_z {own : Bool} {lo hi : Nat} (N : Hd) (xs : List Nod) (w : World) (x : NAt w own lo hi N xs) (hn : N.2.1 ≤ 1048576) (hs : ∀ (i : Nat) (a : Nod), xs[i]? = some a → RSz a.2 1048576) :
  Calls Try.prog 36 #[.slice N.1 N.2.1 N.2.2] w fun e w' => ∃ z u N' ys, e = .returned (.slice N'.1 N'.2.1 N'.2.2) ∧ w.heap.size ≤ z ∧ u ≤ w'.heap.size ∧ NAt w' true z u N' ys ∧ ys.map (·.1) = xs.map (·.1) ∧ N'.2.1 ≤ 1048576 ∧ (∀ (i : Nat) (a : Nod), ys[i]? = some a → RSz a.2 1048576) ∧ Below w.heap.size w w' :=
 (toReplicas_any N.1 N.2.1 N.2.2 xs w x hn hs).mono fun _ _ ⟨g, ys, e1, _, _, y, m, s, b⟩ => ⟨_, _, (some ⟨g, 0, none⟩, N.2.1, N.2.1), ys, e1, Nat.le_refl _, Nat.le_refl _, y, m, hn, s, b⟩
theorem toMails_z {own : Bool} {lo hi : Nat} (M : Hd) (ms : List Mal) (w : World) (x : MAt w own lo hi M ms) (hn : M.2.1 ≤ 1048576) (hs : ∀ (i : Nat) (a : Mal), ms[i]? = some a → a.2.2.1 ≤ 1048576) :
  Calls Try.prog 37 #[.slice M.1 M.2.1 M.2.2] w fun e w' => ∃ z u M' ys, e = .returned (.slice M'.1 M'.2.1 M'.2.2) ∧ w.heap.size ≤ z ∧ u ≤ w'.heap.size ∧ MAt w' true z u M' ys ∧ ys.map (·.1) = ms.map (·.1) ∧ M'.2.1 ≤ 1048576 ∧ (∀ (i : Nat) (a : Mal), ys[i]? = some a → a.2.2.1 ≤ 1048576) ∧ Below w.heap.size w w' :=
 (toMails_any M.1 M.2.1 M.2.2 ms w x hn hs).mono fun _ _ ⟨g, ys, e1, _, _, y, m, s, b⟩ => ⟨_, _, (some ⟨g, 0, none⟩, M.2.1, M.2.1), ys, e1, Nat.le_refl _, Nat.le_refl _, y, m, hn, s, b⟩
theorem toCluster_any {own : Bool} {lo hi : Nat} (N M Sl : Hd) (xs : List Nod) (ms : List Mal) (es : List En) (w : World) (x : ClAt w own lo hi N M Sl xs ms es) (hs : ClSz N M Sl xs ms 1048576) :
  Calls Try.prog 15 #[.agg #[.slice N.1 N.2.1 N.2.2, .slice M.1 M.2.1 M.2.2, .slice Sl.1 Sl.2.1 Sl.2.2]] w fun e w' => ∃ z u N' M' Sl' ys ns, e = .returned (.agg #[.slice N'.1 N'.2.1 N'.2.2, .slice M'.1 M'.2.1 M'.2.2, .slice Sl'.1 Sl'.2.1 Sl'.2.2]) ∧ w.heap.size ≤ z ∧ u ≤ w'.heap.size ∧ ClAt w' true z u N' M' Sl' ys ns es ∧ ys.map (·.1) = xs.map (·.1) ∧ ns.map (·.1) = ms.map (·.1) ∧ ClSz N' M' Sl' ys ns 1048576 ∧ Below w.heap.size w w' := by
 have HS : Hid _ := hs
 have hs3 := hs.s
 clear hs
 go_enter Try.func15, Try.ntmps15
 go_wp2_with (first | ((have g := ob1); clear g; (with_reducible refine al 49 [.slice none 0 0, .slice none 0 0, .slice none 0 0] ?_); intro b2 W2 N2; have ob2 := N2.o B; have o0_b2 := N2.u X0; have o1_b2 := N2.u X1; replace X0 := N2.r X0; replace c0 := X0.cell; replace X1 := N2.r X1; replace c1 := X1.cell; replace f1 := X1.froz; replace B := N2.n B; obtain ⟨X2, c2, f2⟩ := N2.a; clear N2) | ((have g := ob0); clear g; (with_reducible refine al 49 [.slice none 0 0, .slice none 0 0, .slice none 0 0] ?_); intro b1 W1 N1; have ob1 := N1.o B; have o0_b1 := N1.u X0; replace X0 := N1.r X0; replace c0 := X0.cell; replace B := N1.n B; obtain ⟨X1, c1, f1⟩ := N1.a; clear N1) | ((with_reducible refine box_newX 44 [.slice N.1 N.2.1 N.2.2, .slice M.1 M.2.1 M.2.2, .slice Sl.1 Sl.2.1 Sl.2.2] rfl ?_); intro b0 W0 N0; have ob0 := N0.ge; have B := N0.below; obtain ⟨X0, c0⟩ := N0.c; clear N0) | fail)
 refine (toReplicas_z N xs _ (x.nodes.below B) HS.out.n HS.out.nodes).mono ?_
 rintro e w1 ⟨za, ua, N', ys, rfl, Gza, hya, ya, ma, na, sa, BB⟩
 have oza : w.heap.size ≤ za := Nat.le_trans B.size Gza
 have o0_za := ltl X0.lt Gza
 have o1_za := ltl X1.lt Gza
 have o2_za := ltl X2.lt Gza
 clear Gza
 replace X0 := X0.below BB
 replace c0 := X0.cell
 replace X1 := X1.below BB
 replace c1 := X1.cell
 replace f1 := X1.froz
 replace X2 := X2.below BB
 replace c2 := X2.cell
 replace f2 := X2.froz
 replace B := below_next B BB
 have MA : Hid _ := ma
 have NA : Hid _ := na
 have SA : Hid _ := sa
 clear ma na sa
 clear BB
 go_wp2_with (first | ((with_reducible refine so 47 X2 0 (.slice N'.1 N'.2.1 N'.2.2) ?_); intro V1 S; replace X0 := X0.kp S.kept; replace c0 := X0.cell; replace X1 := X1.kp S.kept; replace c1 := X1.cell; replace f1 := X1.froz; replace X2 : Bx V1 b2 [.slice N'.1 N'.2.1 N'.2.2, .slice none 0 0, .slice none 0 0] := S.bx; replace c2 := X2.cell; replace f2 := X2.froz; replace ya := ya.kept S.kept (by omega); replace hya := Nat.le_trans hya S.kept.size; replace B := bkp B S.kept; clear S) | fail)
 refine (toMails_z M ms _ (x.mails.below B) HS.out.m HS.out.mails).mono ?_
 rintro e w2 ⟨zb, ub, M', ns, rfl, Gzb, hyb, yb, mb, nb, sb', BB⟩
 have ozb : w.heap.size ≤ zb := Nat.le_trans B.size Gzb
 have o0_zb := ltl X0.lt Gzb
 have o1_zb := ltl X1.lt Gzb
 have o2_zb := ltl X2.lt Gzb
 have oya_zb : ua ≤ zb := Nat.le_trans hya Gzb
 clear Gzb
 replace X0 := X0.below BB
 replace c0 := X0.cell
 replace X1 := X1.below BB
 replace c1 := X1.cell
 replace f1 := X1.froz
 replace X2 := X2.below BB
 replace c2 := X2.cell
 replace f2 := X2.froz
 replace ya := ya.below BB
 replace hya := Nat.le_trans hya BB.size
 replace B := below_next B BB
 have MB : Hid _ := mb
 have NB : Hid _ := nb
 have SB : Hid _ := sb'
 clear mb nb sb'
 clear BB
 go_wp2_with (first | ((with_reducible refine so 34 X2 1 (.slice M'.1 M'.2.1 M'.2.2) ?_); intro V2 S; replace X0 := X0.kp S.kept; replace c0 := X0.cell; replace X1 := X1.kp S.kept; replace c1 := X1.cell; replace f1 := X1.froz; replace X2 : Bx V2 b2 [.slice N'.1 N'.2.1 N'.2.2, .slice M'.1 M'.2.1 M'.2.2, .slice none 0 0] := S.bx; replace c2 := X2.cell; replace f2 := X2.froz; replace ya := ya.kept S.kept (by omega); replace hya := Nat.le_trans hya S.kept.size; replace yb := yb.kept S.kept (by omega); replace hyb := Nat.le_trans hyb S.kept.size; replace B := bkp B S.kept; clear S) | fail)
 refine (toEntries_g Sl.1 Sl.2.1 Sl.2.2 es _ (x.slog.below B) hs3).mono ?_
 rintro e w3 ⟨g, rfl, Gg, lR, R, BB⟩
 have og : w.heap.size ≤ g := Nat.le_trans B.size Gg
 have o0_g := ltl X0.lt Gg
 have o1_g := ltl X1.lt Gg
 have o2_g := ltl X2.lt Gg
 have oya_g : ua ≤ g := Nat.le_trans hya Gg
 have oyb_g : ub ≤ g := Nat.le_trans hyb Gg
 clear Gg
 replace X0 := X0.below BB
 replace c0 := X0.cell
 replace X1 := X1.below BB
 replace c1 := X1.cell
 replace f1 := X1.froz
 replace X2 := X2.below BB
 replace c2 := X2.cell
 replace f2 := X2.froz
 replace ya := ya.below BB
 replace hya := Nat.le_trans hya BB.size
 replace yb := yb.below BB
 replace hyb := Nat.le_trans hyb BB.size
 replace B := below_next B BB
 clear BB
 go_wp2_with (first | ((with_reducible refine sm 49 X1 0 [.slice N'.1 N'.2.1 N'.2.2, .slice M'.1 M'.2.1 M'.2.2, .slice (some ⟨g, 0, none⟩) Sl.2.1 Sl.2.1] ?_); intro V4 S; replace X0 := X0.kp S.kept; replace c0 := X0.cell; replace X1 : Bx V4 b1 [.slice N'.1 N'.2.1 N'.2.2, .slice M'.1 M'.2.1 M'.2.2, .slice (some ⟨g, 0, none⟩) Sl.2.1 Sl.2.1] := S.bx; replace c1 := X1.cell; replace f1 := X1.froz; replace X2 := X2.kp S.kept; replace c2 := X2.cell; replace f2 := X2.froz; replace R := R.kept S.kept (by omega); replace lR := Nat.lt_of_lt_of_le lR S.kept.size; replace ya := ya.kept S.kept (by omega); replace hya := Nat.le_trans hya S.kept.size; replace yb := yb.kept S.kept (by omega); replace hyb := Nat.le_trans hyb S.kept.size; replace B := bkp B S.kept; clear S) | ((with_reducible refine so 24 X2 2 (.slice (some ⟨g, 0, none⟩) Sl.2.1 Sl.2.1) ?_); intro V3 S; replace X0 := X0.kp S.kept; replace c0 := X0.cell; replace X1 := X1.kp S.kept; replace c1 := X1.cell; replace f1 := X1.froz; replace X2 : Bx V3 b2 [.slice N'.1 N'.2.1 N'.2.2, .slice M'.1 M'.2.1 M'.2.2, .slice (some ⟨g, 0, none⟩) Sl.2.1 Sl.2.1] := S.bx; replace c2 := X2.cell; replace f2 := X2.froz; replace R := R.kept S.kept (by omega); replace lR := Nat.lt_of_lt_of_le lR S.kept.size; replace ya := ya.kept S.kept (by omega); replace hya := Nat.le_trans hya S.kept.size; replace yb := yb.kept S.kept (by omega); replace hyb := Nat.le_trans hyb S.kept.size; replace B := bkp B S.kept; clear S))
 refine bodyPost_ret (v := .agg #[.slice N'.1 N'.2.1 N'.2.2, .slice M'.1 M'.2.1 M'.2.2, .slice (some ⟨g, 0, none⟩) Sl.2.1 Sl.2.1]) (by simp [results, Try.results15, go_sem, *]) rfl ⟨_, _, N', M', (some ⟨g, 0, none⟩, Sl.2.1, Sl.2.1), ys, ns, rfl, Nat.le_refl _, Nat.le_refl _, ?_, MA.out, MB.out, ⟨NA.out, NB.out, hs3, SA.out, SB.out⟩, B⟩
 clear x HS
 exact clAt_of ya yb R (by omega) (by omega) (by omega) (by omega) (by omega) (by omega) (by omega)
theorem eqCluster_yes {o1 o2 : Bool} {l1 u1 l2 u2 : Nat} (N M Sl N' M' Sl' : Hd) (xs ys : List Nod) (ms ns : List Mal) (es : List En) (w : World) (x : ClAt w o1 l1 u1 N M Sl xs ms es) (y : ClAt w o2 l2 u2 N' M' Sl' ys ns es) (hxy : ys.map (·.1) = xs.map (·.1)) (hmn : ns.map (·.1) = ms.map (·.1)) (hs : ClSz N M Sl xs ms 1048576) :
  Calls Try.prog 18 #[.agg #[.slice N.1 N.2.1 N.2.2, .slice M.1 M.2.1 M.2.2, .slice Sl.1 Sl.2.1 Sl.2.2], .agg #[.slice N'.1 N'.2.1 N'.2.2, .slice M'.1 M'.2.1 M'.2.2, .slice Sl'.1 Sl'.2.1 Sl'.2.2]] w fun e w' => e = .returned (.bool true) ∧ Below w.heap.size w w' := by
 have HS : Hid _ := hs
 have HXY : Hid _ := hxy
 have Y2 := LAt.mails y.mails
 rw [hmn] at Y2
 have HY2 : Hid _ := Y2
 have HX2 : Hid _ := LAt.mails x.mails
 have HK : Hid (∀ i, i < M.2.1 → ((fun i => (ms.getD i mal0).2) i).2.1 ≤ 2097152) := fun i hi => by
  have hl : i < ms.length := by rw [x.mails.len]; exact hi
  have e : ms[i]? = some (ms.getD i mal0) := by simp [List.getD, hl]
  exact Nat.le_trans (hs.mails i _ e) (by omega)
 clear hs hxy hmn Y2
 go_enter Try.func18, Try.ntmps18
 go_wp2_with (first | ((have g := ob0); clear g; (with_reducible refine box_newX 49 [.slice N'.1 N'.2.1 N'.2.2, .slice M'.1 M'.2.1 M'.2.2, .slice Sl'.1 Sl'.2.1 Sl'.2.2] rfl ?_); intro b1 W1 N1; have ob1 := N1.o B; have o0_b1 := N1.u X0; replace X0 := N1.r X0; replace c0 := X0.cell; replace B := N1.n B; obtain ⟨X1, c1⟩ := N1.c; clear N1) | ((with_reducible refine box_newX 49 [.slice N.1 N.2.1 N.2.2, .slice M.1 M.2.1 M.2.2, .slice Sl.1 Sl.2.1 Sl.2.2] rfl ?_); intro b0 W0 N0; have ob0 := N0.ge; have B := N0.below; obtain ⟨X0, c0⟩ := N0.c; clear N0) | fail)
 refine (eqReplicas_yes N.1 N'.1 N.2.1 N.2.2 N'.2.1 N'.2.2 xs ys _ (x.nodes.below B) (y.nodes.below B) HXY.out HS.out.n HS.out.nodes).mono ?_
 rintro e w1 ⟨rfl, BB⟩
 replace X0 := X0.below BB
 replace c0 := X0.cell
 replace X1 := X1.below BB
 replace c1 := X1.cell
 replace B := below_next B BB
 clear BB
 go_wp2_with fail
 refine (eqMails_yes M.1 M'.1 M.2.1 M.2.2 M'.2.1 M'.2.2 _ _ _ _ (HX2.out.below B) (HY2.out.below B) (Nat.le_trans HS.out.m (by omega)) HK.out).mono ?_
 rintro e w2 ⟨rfl, BB⟩
 replace X0 := X0.below BB
 replace c0 := X0.cell
 replace X1 := X1.below BB
 replace c1 := X1.cell
 replace B := below_next B BB
 clear BB
 go_wp2_with fail
 refine (eqEntries_yes _ _ _ _ _ _ es _ (x.slog.below B) (y.slog.below B) (Nat.le_trans HS.out.s (by omega))).mono ?_
 rintro e w3 ⟨rfl, BB⟩
 replace X0 := X0.below BB
 replace c0 := X0.cell
 replace X1 := X1.below BB
 replace c1 := X1.cell
 replace B := below_next B BB
 clear BB
 go_wp2
 go_ret
 exact ⟨rfl, B⟩
end Go.Proofs.Ytjefmhjlaibbkaa

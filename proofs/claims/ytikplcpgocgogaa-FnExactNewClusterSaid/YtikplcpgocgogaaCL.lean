/- Chapter 11: lists whose elements have memory of their own, in plain words. No program is named here. -/
import Derived.Test.YtikplcpgocgogaaWQ
namespace Go.Proofs.Ytikplcpgocgogaa
open Go.RowKit

/-- a kind of element: how many cells it has, which, what memory it names, in which blocks -/
structure Kd (α : Type) where
  sz : Nat
  cells : α → List Value
  mem : World → Bool → Nat → Nat → α → Prop
  inn : α → Nat → Prop
structure KdOk {α : Type} (k : Kd α) : Prop where
  pos : 0 < k.sz
  len : ∀ a, (k.cells a).length = k.sz
  below : ∀ {w w' : World} {own : Bool} {lo hi : Nat} {a : α}, k.mem w own lo hi a → Below w.heap.size w w' → k.mem w' own lo hi a
  kept : ∀ {w w' : World} {own : Bool} {lo hi : Nat} {a : α} {l u : Nat}, k.mem w own lo hi a → Kept l u w w' → (hi ≤ l ∨ u ≤ lo) → k.mem w' own lo hi a
  widen : ∀ {w : World} {own : Bool} {lo hi : Nat} {a : α} {lo' hi' : Nat}, k.mem w own lo hi a → lo' ≤ lo → hi ≤ hi' → k.mem w own lo' hi' a
  keptS : ∀ {w w' : World} {own : Bool} {lo hi : Nat} {a : α} {S : Nat → Prop}, k.mem w own lo hi a → KeptS S w w' → Sep (k.inn a) S → k.mem w' own lo hi a
  ro : ∀ {w : World} {own : Bool} {lo hi : Nat} {a : α}, k.mem w own lo hi a → k.mem w false lo hi a
  inB : ∀ {w : World} {own : Bool} {lo hi : Nat} {a : α} {q : Nat}, k.mem w own lo hi a → k.inn a q → lo ≤ q ∧ q < hi ∧ q < w.heap.size
/-- a list of such elements; where it is the call's own, each in blocks of its own -/
structure LAt {α : Type} (k : Kd α) (w : World) (own : Bool) (lo hi : Nat) (ao : Option Addr) (n cap : Nat) (xs : List α) : Prop where
  len : xs.length = n
  row : RowAt w own lo hi k.sz ao n cap (xs.flatMap k.cells)
  each : ∀ (i : Nat) (a : α), xs[i]? = some a → k.mem w own lo hi a
  far : own = true → ∀ (i : Nat) (a : α), xs[i]? = some a → ∀ q, k.inn a q → q ≠ sb ao
  sep : own = true → ∀ (i j : Nat) (a b : α), xs[i]? = some a → xs[j]? = some b → i ≠ j → Sep (k.inn a) (k.inn b)
/-- the blocks that the list lies in -/
def inL {α : Type} (k : Kd α) (ao : Option Addr) (n : Nat) (xs : List α) (q : Nat) : Prop := (n ≠ 0 ∧ q = sb ao) ∨ ∃ (i : Nat) (a : α), xs[i]? = some a ∧ k.inn a q
section
variable {α : Type} {k : Kd α} {w w' : World} {own : Bool} {lo hi : Nat} {ao : Option Addr} {n cap : Nat} {xs : List α}
theorem LAt.below (K : KdOk k) (h : LAt k w own lo hi ao n cap xs) (hb : Below w.heap.size w w') : LAt k w' own lo hi ao n cap xs := ⟨h.len, h.row.below hb, fun i a e => K.below (h.each i a e) hb, h.far, h.sep⟩
theorem LAt.kept (K : KdOk k) (h : LAt k w own lo hi ao n cap xs) {l u : Nat} (hk : Kept l u w w') (hd : hi ≤ l ∨ u ≤ lo) : LAt k w' own lo hi ao n cap xs := ⟨h.len, h.row.kept hk hd, fun i a e => K.kept (h.each i a e) hk hd, h.far, h.sep⟩
theorem LAt.widen (K : KdOk k) (h : LAt k w own lo hi ao n cap xs) {lo' hi' : Nat} (h1 : lo' ≤ lo) (h2 : hi ≤ hi') : LAt k w own lo' hi' ao n cap xs := ⟨h.len, h.row.widen h1 h2, fun i a e => K.widen (h.each i a e) h1 h2, h.far, h.sep⟩
theorem LAt.ro (K : KdOk k) (h : LAt k w own lo hi ao n cap xs) : LAt k w false lo hi ao n cap xs := ⟨h.len, h.row.ro, fun i a e => K.ro (h.each i a e), fun q => (by cases q), fun q => (by cases q)⟩
theorem LAt.keptS (K : KdOk k) (h : LAt k w own lo hi ao n cap xs) {S : Nat → Prop} (hk : KeptS S w w') (hd : Sep (inL k ao n xs) S) : LAt k w' own lo hi ao n cap xs :=
  ⟨h.len, h.row.keptR hk fun q hq => hd q (Or.inl hq), fun i a e => K.keptS (h.each i a e) hk fun q hq => hd q (Or.inr ⟨i, a, e, hq⟩), h.far, h.sep⟩
theorem LAt.inB (K : KdOk k) (h : LAt k w own lo hi ao n cap xs) {q : Nat} (hq : inL k ao n xs q) : lo ≤ q ∧ q < hi ∧ q < w.heap.size := by
  rcases hq with h0 | ⟨i, a, e, h0⟩
  · exact h.row.inB h0
  · exact K.inB (h.each i a e) h0
theorem LAt.nil (k : Kd α) (w : World) (own : Bool) (lo hi : Nat) (ao : Option Addr) (c : Nat) : LAt k w own lo hi ao 0 c [] :=
  ⟨rfl, RowAt.nilR _ _ _ _ _ _ _, fun i a e => by simp at e, fun _ i a e => by simp at e, fun _ i j a b e => by simp at e⟩
theorem flatMap_len (K : KdOk k) (xs : List α) : (xs.flatMap k.cells).length = xs.length * k.sz := by
  induction xs with
  | nil => simp
  | cons a r ih => simp [K.len, ih, Nat.succ_mul]; omega
theorem flatMap_at (K : KdOk k) : ∀ (xs : List α) (i : Nat) (a : α), xs[i]? = some a → ∀ j, j < k.sz → (xs.flatMap k.cells)[i * k.sz + j]? = (k.cells a)[j]?
  | [], i, a, e, _, _ => by simp at e
  | x :: r, 0, a, e, j, hj => by
    have e2 : x = a := by simpa using e
    subst e2
    rw [Nat.zero_mul, Nat.zero_add, List.flatMap_cons, List.getElem?_append_left (by rw [K.len]; exact hj)]
  | x :: r, i + 1, a, e, j, hj => by
    have ih := flatMap_at K r i a (by simpa using e) j hj
    rw [List.flatMap_cons, List.getElem?_append_right (by rw [K.len, Nat.succ_mul]; omega), K.len, ← ih]
    congr 1
    rw [Nat.succ_mul]; omega
/-- the cells of one element -/
theorem LAt.el (K : KdOk k) (h : LAt k w own lo hi ao n cap xs) {i : Nat} (hi' : i < n) : ∃ a b off, xs[i]? = some a ∧ ao = some ⟨b, off, none⟩ ∧ lo ≤ b ∧ b < hi ∧ b < w.heap.size ∧ (∀ j, j < k.sz → w.cell? ⟨b, off + i * k.sz + j, none⟩ = (k.cells a)[j]?) ∧ (own = true → ∀ j, j < k.sz → w.frozen? ⟨b, off + i * k.sz + j, none⟩ = false) := by
  have hx : i < xs.length := by rw [h.len]; exact hi'
  have e : xs[i]? = some xs[i] := List.getElem?_eq_getElem hx
  obtain ⟨b, off, rfl, h1, h2, h3, h4, h5⟩ := h.row.cells (by omega)
  refine ⟨xs[i], b, off, e, rfl, h1, h2, h3, fun j hj => ?_, fun ho j hj => ?_⟩
  · have q := at_lt (sz := k.sz) hi' hj
    rw [Nat.add_assoc, h4 _ q, List.getD_eq_getElem?_getD, flatMap_at K xs i _ e j hj, List.getElem?_eq_getElem (by rw [K.len]; exact hj)]; rfl
  · rw [Nat.add_assoc]; exact h5 ho _ (at_lt hi' hj)
theorem flatMap_set_in (K : KdOk k) (xs : List α) (i : Nat) (hi : i < xs.length) (a : α) (j : Nat) (hj : j < k.sz) : ((xs.set i a).flatMap k.cells)[i * k.sz + j]? = (k.cells a)[j]? :=
  flatMap_at K (xs.set i a) i a (by simp [hi]) j hj
theorem flatMap_set_out (K : KdOk k) (xs : List α) (i : Nat) (a : α) (q : Nat) (hq : q < i * k.sz ∨ i * k.sz + k.sz ≤ q) : ((xs.set i a).flatMap k.cells)[q]? = (xs.flatMap k.cells)[q]? := by
  have hl : (xs.set i a).length = xs.length := by simp
  by_cases hlt : q < xs.length * k.sz
  · have hs := K.pos
    have hd : q / k.sz < xs.length := Nat.div_lt_of_lt_mul (by rwa [Nat.mul_comm])
    have hm := Nat.mod_lt q hs
    have e : q = q / k.sz * k.sz + q % k.sz := by rw [Nat.mul_comm]; exact (Nat.div_add_mod q k.sz).symm
    have hne : i ≠ q / k.sz := fun c => by
      rw [← c] at e; omega
    rw [e, flatMap_at K (xs.set i a) (q / k.sz) xs[q / k.sz] (by rw [List.getElem?_set_ne hne]; exact List.getElem?_eq_getElem hd) _ hm, flatMap_at K xs (q / k.sz) _ (List.getElem?_eq_getElem hd) _ hm]
  · rw [List.getElem?_eq_none (by rw [flatMap_len K, hl]; omega), List.getElem?_eq_none (by rw [flatMap_len K]; omega)]
/-- an element is written, with memory of its own -/
theorem LAt.put (K : KdOk k) {b off : Nat} (h : LAt k w true lo hi (some ⟨b, off, none⟩) n cap xs) {i : Nat} (hi' : i < n) (a : α) (hm : k.mem w true lo hi a) (hf : ∀ q, k.inn a q → q ≠ b) (hs : ∀ (j : Nat) (c : α), xs[j]? = some c → j ≠ i → Sep (k.inn a) (k.inn c)) :
    LAt k (w.setCells b (off + i * k.sz) (k.cells a)) true lo hi (some ⟨b, off, none⟩) n cap (xs.set i a) := by
  have hx : i < xs.length := by rw [h.len]; exact hi'
  have KS1 : KeptS (fun x => x = b) w (w.setCells b (off + i * k.sz) (k.cells a)) := (((Kept.refl b (b + 1) w).setCells (Nat.le_refl _) (Nat.lt_succ_self _) _ _)).toS fun q h1 h2 => by omega
  refine ⟨by simpa using h.len, ⟨by rw [flatMap_len K]; simp [h.len], h.row.le, fun hn => ?_⟩, fun j c e => ?_, fun _ j c e q hq => ?_, fun _ j m c d e1 e2 hne => ?_⟩
  · obtain ⟨b', off', e, h1, h2, h3, h4, h5⟩ := h.row.cells hn
    simp only [Option.some.injEq, Addr.mk.injEq, and_true] at e
    obtain ⟨rfl, rfl⟩ := e
    refine ⟨_, _, rfl, h1, h2, by rw [size_setCells']; exact h3, fun q hq => ?_, fun _ q hq => by rw [World.frozen?_setCells]; exact h5 rfl q hq⟩
    by_cases hin : i * k.sz ≤ q ∧ q < i * k.sz + k.sz
    · have := World.cell?_setCells_in b (k.cells a) (off + i * k.sz) w (fun j hj => by rw [K.len] at hj; rw [Nat.add_assoc, h4 _ (at_lt hi' hj)]; rfl) (q - i * k.sz) (by rw [K.len]; omega)
      rw [show off + i * k.sz + (q - i * k.sz) = off + q by omega] at this
      rw [this, List.getD_eq_getElem?_getD]
      have t := flatMap_set_in K xs i hx a (q - i * k.sz) (by omega)
      rw [show i * k.sz + (q - i * k.sz) = q by omega] at t
      rw [t, List.getElem?_eq_getElem (by rw [K.len]; omega)]; rfl
    · rw [World.cell?_setCells_out b (k.cells a) (off + i * k.sz) w ⟨b, off + q, none⟩ (fun _ _ => by show off + q < off + i * k.sz ∨ _; rw [K.len]; show _ ∨ off + i * k.sz + k.sz ≤ off + q; omega), h4 q hq]
      rw [List.getD_eq_getElem?_getD, List.getD_eq_getElem?_getD, flatMap_set_out K xs i a q (by omega)]
  · by_cases e2 : j = i
    · subst e2
      have : a = c := by simpa [hx] using e
      subst this
      exact K.keptS hm KS1 fun q hq => hf q hq
    · rw [List.getElem?_set_ne (Ne.symm e2)] at e
      exact K.keptS (h.each j c e) KS1 fun q hq => h.far rfl j c e q hq
  · by_cases e2 : j = i
    · subst e2
      have : a = c := by simpa [hx] using e
      subst this
      exact hf q hq
    · rw [List.getElem?_set_ne (Ne.symm e2)] at e
      exact h.far rfl j c e q hq
  · by_cases e3 : j = i
    · subst e3
      have : a = c := by simpa [hx] using e1
      subst this
      rw [List.getElem?_set_ne hne] at e2
      exact hs m d e2 (Ne.symm hne)
    · rw [List.getElem?_set_ne (Ne.symm e3)] at e1
      by_cases e4 : m = i
      · subst e4
        have : a = d := by simpa [hx] using e2
        subst this
        exact (hs j c e1 e3).symm
      · rw [List.getElem?_set_ne (Ne.symm e4)] at e2
        exact h.sep rfl j m c d e1 e2 hne
end
/-- nodes -/
abbrev Nod := Rep × RH
def nodeK : Kd Nod := ⟨10, fun a => repC a.1 a.2, fun w own lo hi a => RepAt w own lo hi a.2 a.1, fun a => inRep a.2⟩
theorem nodeOk : KdOk nodeK where
  pos := by show 0 < 10; omega
  len := fun _ => rfl
  below := fun h hb => RepAt.below h hb
  kept := fun h hk hd => RepAt.kept h hk hd
  widen := fun h h1 h2 => RepAt.widen h h1 h2
  keptS := fun h hk hd => RepAt.keptS h hk hd
  ro := fun h => RepAt.ro h
  inB := fun h hq => RepAt.inB h hq
/-- mails with their logs -/
abbrev Mal := Ml × Hd
def mailK : Kd Mal := ⟨15, fun a => mlV a.2 a.1, fun w own lo hi a => RowAt w own lo hi 6 a.2.1 a.2.2.1 a.2.2.2 (sixs a.1.log), fun a => hR a.2⟩
theorem mailOk : KdOk mailK where
  pos := by show 0 < 15; omega
  len := fun _ => rfl
  below := fun h hb => RowAt.below h hb
  kept := fun h hk hd => RowAt.kept h hk hd
  widen := fun h h1 h2 => RowAt.widen h h1 h2
  keptS := fun h hk hd => RowAt.keptR h hk hd
  ro := fun h => RowAt.ro h
  inB := fun h hq => RowAt.inB h hq
def rh0 : RH := ⟨(none, 0, 0), (none, 0, 0), (none, 0, 0), (none, 0, 0), fun _ => (none, 0, 0)⟩
def nod0 : Nod := (rep0, rh0)
def mal0 : Mal := (ml0, (none, 0, 0))
section
variable {w : World} {own : Bool} {lo hi : Nat} {ao : Option Addr} {n cap : Nat}
/-- mails told by places and values apart -/
theorem LAt.mails {xs : List Mal} (h : LAt mailK w own lo hi ao n cap xs) : MailsAt w own lo hi ao n cap (fun i => (xs.getD i mal0).2) (xs.map (·.1)) := by
  have hg : ∀ i, i < n → (xs.map (·.1)).getD i ml0 = (xs.getD i mal0).1 := fun i hi => by
    have : i < xs.length := by rw [h.len]; exact hi
    simp [List.getD, this]
  have he : ∀ i, i < n → xs[i]? = some (xs.getD i mal0) := fun i hi => by
    have : i < xs.length := by rw [h.len]; exact hi
    simp [List.getD, this]
  refine ⟨by simpa using h.len, ?_, fun i hi => ?_, fun ho i hi h0 => ⟨?_, fun j hj hne h1 => ?_⟩⟩
  · have e : flatF 15 n (mlF (fun i => (xs.getD i mal0).2) (xs.map (·.1))) = xs.flatMap mailK.cells := by
      apply List.ext_getElem?
      intro q
      by_cases hq : q < n * 15
      · have hd : q / 15 < n := by omega
        have t := flatMap_at mailOk xs (q / 15) _ (he _ hd) (q % 15) (Nat.mod_lt _ (by show 0 < 15; omega))
        have e2 : q / 15 * mailK.sz + q % 15 = q := by show q / 15 * 15 + q % 15 = q; omega
        rw [e2] at t
        rw [t]
        have t2 := flatF_get (sz := 15) (n := n) (mlF (fun i => (xs.getD i mal0).2) (xs.map (·.1))) (i := q / 15) (j := q % 15) hd (by omega)
        rw [show q / 15 * 15 + q % 15 = q by omega] at t2
        have hl : q < (flatF 15 n (mlF (fun i => (xs.getD i mal0).2) (xs.map (·.1)))).length := by rw [flatF_len]; exact hq
        rw [List.getElem?_eq_getElem hl]
        rw [List.getD_eq_getElem?_getD, List.getElem?_eq_getElem hl, Option.getD_some] at t2
        rw [t2]
        unfold mlF
        rw [hg _ hd, List.getD_eq_getElem?_getD]
        have hl2 : q % 15 < (mlV (xs.getD (q / 15) mal0).2 (xs.getD (q / 15) mal0).1).length := by show q % 15 < 15; omega
        show some ((mlV _ _)[q % 15]?.getD default) = (mlV _ _)[q % 15]?
        rw [List.getElem?_eq_getElem hl2, Option.getD_some]
      · rw [List.getElem?_eq_none (by rw [flatF_len]; omega), List.getElem?_eq_none (by rw [flatMap_len mailOk, h.len]; show n * 15 ≤ q; omega)]
    rw [e]; exact h.row
  · unfold mlL; rw [hg i hi]; exact h.each i _ (he i hi)
  · exact h.far ho i _ (he i hi) _ ⟨h0, rfl⟩
  · exact fun e => h.sep ho j i _ _ (he j hj) (he i hi) hne _ ⟨h1, rfl⟩ ⟨h0, e⟩
end
/-- ten cells of a block, from a place on -/
structure Ro (w : World) (b oz : Nat) (vs : List Value) : Prop where
  lt : b < w.heap.size
  cell : w.cell? ⟨b, oz, none⟩ = vs[0]? ∧ ∀ k : Nat, k < 10 → w.cell? ⟨b, oz + k, none⟩ = vs[k]?
theorem Ro.below {w W : World} {b oz : Nat} {vs : List Value} (h : Ro w b oz vs) (hb : Below w.heap.size w W) : Ro W b oz vs :=
  ⟨Nat.lt_of_lt_of_le h.lt hb.size, by rw [World.cell?_of_block (w := w) (a := ⟨b, oz, none⟩) (hb.block b h.lt)]; exact h.cell.1, fun k hk => by rw [World.cell?_of_block (w := w) (a := ⟨b, oz + k, none⟩) (hb.block b h.lt)]; exact h.cell.2 k hk⟩
/-- fifteen cells of a block, from a place on -/
structure Rm (w : World) (b oz : Nat) (vs : List Value) : Prop where
  lt : b < w.heap.size
  cell : w.cell? ⟨b, oz, none⟩ = vs[0]? ∧ ∀ k : Nat, k < 15 → w.cell? ⟨b, oz + k, none⟩ = vs[k]?
theorem Rm.below {w W : World} {b oz : Nat} {vs : List Value} (h : Rm w b oz vs) (hb : Below w.heap.size w W) : Rm W b oz vs :=
  ⟨Nat.lt_of_lt_of_le h.lt hb.size, by rw [World.cell?_of_block (w := w) (a := ⟨b, oz, none⟩) (hb.block b h.lt)]; exact h.cell.1, fun k hk => by rw [World.cell?_of_block (w := w) (a := ⟨b, oz + k, none⟩) (hb.block b h.lt)]; exact h.cell.2 k hk⟩
theorem LAt.node {w : World} {own : Bool} {lo hi : Nat} {ao : Option Addr} {n cap : Nat} {xs : List Nod} (x : LAt nodeK w own lo hi ao n cap xs) {i : Nat} (hi' : i < n) : ∃ r h b off, xs[i]? = some (r, h) ∧ ao = some ⟨b, off, none⟩ ∧ lo ≤ b ∧ b < hi ∧ Ro w b (off + i * 10) [.int .i64 r.id, .int .i64 r.size, .int .i64 r.view, .bool r.normal, .int .i64 r.last, .slice h.L.1 h.L.2.1 h.L.2.2, .int .i64 r.commit, .slice h.O.1 h.O.2.1 h.O.2.2, .slice h.A.1 h.A.2.1 h.A.2.2, .slice h.D.1 h.D.2.1 h.D.2.2] ∧ RepAt w own lo hi h r ∧ (own = true → ∀ j, j < 10 → w.frozen? ⟨b, off + i * 10 + j, none⟩ = false) := by
  obtain ⟨⟨r, h⟩, b, off, e, e2, h1, h2, h3, hc, hf⟩ := x.el nodeOk hi'
  exact ⟨r, h, b, off, e, e2, h1, h2, ⟨h3, hc 0 (by show 0 < 10; omega), hc⟩, x.each i _ e, hf⟩
end Go.Proofs.Ytikplcpgocgogaa

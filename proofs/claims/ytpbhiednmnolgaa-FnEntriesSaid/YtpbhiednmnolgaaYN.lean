/- Words told one behind another: appends of numbers onto a row of one's own. -/
import Derived.Test.YtpbhiednmnolgaaEX
import Derived.Test.YtpbhiednmnolgaaYL
import Derived.Test.YtpbhiednmnolgaaYE
import Derived.Test.YtpbhiednmnolgaaFacts
import Derived.Test.YtpbhiednmnolgaaP4
import Derived.Test.YtpbhiednmnolgaaXE
namespace Go.Proofs.Ytpbhiednmnolgaa
open Go.RowKit

theorem ints_oneM (xs : List Int) : ∀ u ∈ ints xs, u.oneCell' = true := fun u hu => by
  obtain ⟨x, _, rfl⟩ := List.mem_map.1 hu
  rfl
theorem ints_appendM (xs ys : List Int) : ints (xs ++ ys) = ints xs ++ ints ys := List.map_append
/-- the row's numbers lie in what is not the row's own world's elder part -/
theorem app_run {w : World} {base : Nat} {v : Value} {n : Nat} {xs : List Int} (hown : w.ownsRow base 2 1 v n (ints xs)) {ow : Bool} {l u : Nat} (ad : Addr) (m c : Nat) (ys : List Int) (hrow : RowAt w ow l u 1 (some ad) m c (ints ys)) (ty : TypeId) (hn : n + m ≤ 1000000) (hbase : base ≤ w.heap.size) {B0 : Nat} {W0 : World} (hB : Below B0 W0 w) (hB0 : B0 ≤ base) :
    ∃ v' w', (Builtin.append_ #[24, 24] ty #[v, .slice (some ad) m c]).run Try.prog w = .ok v' w' ∧ w'.ownsRow base 2 1 v' (n + m) (ints (xs ++ ys)) ∧ Below B0 W0 w' := by
  obtain ⟨i0, hi0, hz0, hz1, hz2⟩ := info_parts Try.info2'
  have hl : (ints ys).length = m * 1 := hrow.len
  obtain ⟨v', w', hr, ho, hg, _⟩ := run_append_own (P := Try.prog) w base 24 ty 2 i0 (.int .i64 0) 1 8 Try.underlying24 hi0 hz0 hz1 hz2 rfl (by decide) v n (ints xs) hown ad m c (ints ys) hl (fun j u hj => by
    have hjl : j < (ints ys).length := (List.getElem?_eq_some_iff.1 hj).1
    obtain ⟨b, off, e, _, _, _, hc, _⟩ := hrow.cells (by omega)
    have e2 : ad = ⟨b, off, none⟩ := Option.some.inj e
    rw [e2]
    have := hc j (by omega)
    rw [List.getD_eq_getElem?_getD, hj, Option.getD_some] at this
    rw [Addr.add_lit]; exact this) (ints_oneM ys) (by unfold maxLen; omega) (by omega) hbase
  exact ⟨v', w', hr, by rw [ints_appendM]; exact ho, hB.grown hg (Nat.le_trans hB0 hbase) (fun g hg' => Nat.le_trans hB0 (hown.lt g hg').1)⟩
theorem wp_app {ops : Array Oper} {rest : List Oper} {o : Oper} {a : Act} {w : World} {Q : Exit → Act → World → Prop} (hgd : o.guard = none) (s x : Operand)
    (ho : o.op = .call { callee := .builtin .append, args := #[s, x], argTypes := #[24, 24] }) (base : Nat) {v : Value} {n : Nat} {xs : List Int} (hown : w.ownsRow base 2 1 v n (ints xs)) {ow : Bool} {l u : Nat} (ad : Addr) (m c : Nat) (ys : List Int) (hrow : RowAt w ow l u 1 (some ad) m c (ints ys)) (hs : a.eval s = v) (hx : a.eval x = .slice (some ad) m c) (hn : n + m ≤ 1000000) (hbase : base ≤ w.heap.size) {B0 : Nat} {W0 : World} (hB : Below B0 W0 w) (hB0 : B0 ≤ base)
    (h : ∀ v' w', w'.ownsRow base 2 1 v' (n + m) (ints (xs ++ ys)) → Below B0 W0 w' → wpList Try.prog ops Q rest (a.put o.dst v') w') : wpList Try.prog ops Q (o :: rest) a w := by
  obtain ⟨v', w', hr, h1, h2⟩ := app_run hown ad m c ys hrow o.type hn hbase hB hB0
  exact Lib.wpList_append_run w hgd s x _ _ ho _ _ hs hx _ _ hr (h _ _ h1 h2)
end Go.Proofs.Ytpbhiednmnolgaa

/- Chapter 7: words told one behind another, the sign of a plain pool, by the program. -/
namespace Go.Proofs.Ytpbhiednmnolgaa
open Go.RowKit

theorem owns_keptB {w w' : World} {base : Nat} {e : TypeId} {size : Nat} {v : Value} {n : Nat} {cs : List Value} (h : w.ownsRow base e size v n cs) {l u : Nat} (K : Kept l u w w') (hu : u ≤ base) : w'.ownsRow base e size v n cs := by
  refine ⟨h.1, ?_⟩
  rcases h.2 with q | ⟨g, cap, cur, rfl, hg, hh, rest⟩
  · exact Or.inl q
  · refine Or.inr ⟨g, cap, cur, rfl, hg, ?_, rest⟩
    have hlt : g < w.heap.size := by
      rcases Nat.lt_or_ge g w.heap.size with x | x
      · exact x
      · rw [Array.getElem?_eq_none x] at hh; cases hh
    rw [K.block g hlt (Or.inr (Nat.le_trans hu hg))]
    exact hh
/-- what a teller has told -/
structure Told (w : World) (pb : Nat) (n : Nat) (xs : List Int) : Prop where
  lt : pb < w.heap.size
  ok : ∃ v, w.cell? ⟨pb, 0, none⟩ = some v ∧ w.ownsRow (pb + 1) 2 1 v n (ints xs)
  fr : w.frozen? ⟨pb, 0, none⟩ = false
theorem Told.below {w w' : World} {pb n : Nat} {xs : List Int} (h : Told w pb n xs) (B : Below w.heap.size w w') : Told w' pb n xs := by
  obtain ⟨v, h1, h2⟩ := h.ok
  exact ⟨Nat.lt_of_lt_of_le h.lt B.size, ⟨v, cell_later B h1, owns_below h2 B⟩, frozen_later B h.lt h.fr⟩
set_option maxRecDepth 20000 in
set_option maxHeartbeats 4000000 in
theorem tell_is (pb n : Nat) (xs : List Int) (w : World) (T : Told w pb n xs) {ow : Bool} {l u : Nat} (ad : Addr) (m c : Nat) (ys : List Int) (hrow : RowAt w ow l u 1 (some ad) m c (ints ys)) (hn : n + m ≤ 1000000) : Calls Try.prog 54 #[.pointer (some ⟨pb, 0, none⟩), .slice (some ad) m c] w fun e w' => e = .returned (.tuple #[]) ∧ Told w' pb (n + m) (xs ++ ys) ∧ Below pb w w' := by
  obtain ⟨v, h1, h2⟩ := T.ok
  have hlt : Hid _ := T.lt
  have hfr := T.fr
  clear T
  go_enter Try.func54, Try.ntmps54
  go_wp2_with (first | (at_builtin; refine wp_app rfl _ _ rfl (pb + 1) h2 ad m c ys hrow rfl rfl hn hlt.out (Below.refl (pb + 1) w) (Nat.le_refl _) ?_))
  intro v' w1 hown1 hb1
  have HO : Hid _ := hown1
  obtain ⟨ao, cp, rfl, _⟩ := RowAt.of_owned hown1
  clear hown1
  have c1 : w1.cell? ⟨pb, 0, none⟩ = some v := (hb1.cell (p := ⟨pb, 0, none⟩) (Nat.lt_succ_self _)).trans h1
  have y1 : w1.frozen? ⟨pb, 0, none⟩ = false := (hb1.frozen (p := ⟨pb, 0, none⟩) (Nat.lt_succ_self _)).trans hfr
  have S := setC_mk (v := .slice ao (n + m) cp) c1 y1
  have HS : Hid (pb < w1.heap.size) := Nat.lt_of_lt_of_le hlt.out hb1.size
  clear h1 h2 hfr
  go_wp2
  refine bodyPost_end (v := .tuple #[]) (by simp [results, Try.results54, go_sem]) rfl ?_
  exact ⟨rfl, ⟨Nat.lt_of_lt_of_le HS.out S.kept.size, ⟨_, S.cell, owns_keptB HO.out S.kept (Nat.le_refl _)⟩, S.fr y1⟩, (hb1.mono (Nat.le_succ _)).trans (S.kept.below _ (Nat.le_refl _) (Nat.le_of_lt HS.out))⟩

end Go.Proofs.Ytpbhiednmnolgaa

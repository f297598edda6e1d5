/- Words told one behind another: appends of numbers onto a row of one's own. -/
import Derived.Test.YtcbfmjanjciodaaEX
import Derived.Test.YtcbfmjanjciodaaYL
import Derived.Test.YtcbfmjanjciodaaYE
import Derived.Test.YtcbfmjanjciodaaFacts
import Derived.Test.YtcbfmjanjciodaaP4
import Derived.Test.YtcbfmjanjciodaaJ0
import Derived.Test.YtcbfmjanjciodaaJ1
import Derived.Test.YtcbfmjanjciodaaK1
namespace Go.Proofs.Ytcbfmjanjciodaa
open Go.RowKit

theorem ints_oneM (xs : List Int) : ∀ u ∈ ints xs, u.oneCell' = true := fun u hu => by
  obtain ⟨x, _, rfl⟩ := List.mem_map.1 hu
  rfl
theorem ints_appendM (xs ys : List Int) : ints (xs ++ ys) = ints xs ++ ints ys := List.map_append
/-- the row's numbers lie in what is not the row's own world's elder part -/
theorem app_run {w : World} {base : Nat} {v : Value} {n : Nat} {xs : List Int} (hown : w.ownsRow base 2 1 v n (ints xs)) {ow : Bool} {l u : Nat} (ad : Addr) (m c : Nat) (ys : List Int) (hrow : RowAt w ow l u 1 (some ad) m c (ints ys)) (ty : TypeId) (hn : n + m ≤ 1000000) (hbase : base ≤ w.heap.size) {B0 : Nat} {W0 : World} (hB : Below B0 W0 w) (hB0 : B0 ≤ base) :
    ∃ v' w', (Builtin.append_ #[32, 32] ty #[v, .slice (some ad) m c]).run Try.prog w = .ok v' w' ∧ w'.ownsRow base 2 1 v' (n + m) (ints (xs ++ ys)) ∧ Below B0 W0 w' := by
  obtain ⟨i0, hi0, hz0, hz1, hz2⟩ := info_parts Try.info2'
  have hl : (ints ys).length = m * 1 := hrow.len
  obtain ⟨v', w', hr, ho, hg, _⟩ := run_append_own (P := Try.prog) w base 32 ty 2 i0 (.int .i64 0) 1 8 Try.underlying32 hi0 hz0 hz1 hz2 rfl (by decide) v n (ints xs) hown ad m c (ints ys) hl (fun j u hj => by
    have hjl : j < (ints ys).length := (List.getElem?_eq_some_iff.1 hj).1
    obtain ⟨b, off, e, _, _, _, hc, _⟩ := hrow.cells (by omega)
    have e2 : ad = ⟨b, off, none⟩ := Option.some.inj e
    rw [e2]
    have := hc j (by omega)
    rw [List.getD_eq_getElem?_getD, hj, Option.getD_some] at this
    rw [Addr.add_lit]; exact this) (ints_oneM ys) (by unfold maxLen; omega) (by omega) hbase
  exact ⟨v', w', hr, by rw [ints_appendM]; exact ho, hB.grown hg (Nat.le_trans hB0 hbase) (fun g hg' => Nat.le_trans hB0 (hown.lt g hg').1)⟩
theorem wp_app {ops : Array Oper} {rest : List Oper} {o : Oper} {a : Act} {w : World} {Q : Exit → Act → World → Prop} (hgd : o.guard = none) (s x : Operand)
    (ho : o.op = .call { callee := .builtin .append, args := #[s, x], argTypes := #[32, 32] }) (base : Nat) {v : Value} {n : Nat} {xs : List Int} (hown : w.ownsRow base 2 1 v n (ints xs)) {ow : Bool} {l u : Nat} (ad : Addr) (m c : Nat) (ys : List Int) (hrow : RowAt w ow l u 1 (some ad) m c (ints ys)) (hs : a.eval s = v) (hx : a.eval x = .slice (some ad) m c) (hn : n + m ≤ 1000000) (hbase : base ≤ w.heap.size) {B0 : Nat} {W0 : World} (hB : Below B0 W0 w) (hB0 : B0 ≤ base)
    (h : ∀ v' w', w'.ownsRow base 2 1 v' (n + m) (ints (xs ++ ys)) → Below B0 W0 w' → wpList Try.prog ops Q rest (a.put o.dst v') w') : wpList Try.prog ops Q (o :: rest) a w := by
  obtain ⟨v', w', hr, h1, h2⟩ := app_run hown ad m c ys hrow o.type hn hbase hB hB0
  exact Lib.wpList_append_run w hgd s x _ _ ho _ _ hs hx _ _ hr (h _ _ h1 h2)
theorem step_app {ops : Array Oper} {o : Oper} {a : Act} {w : World} {C : Act → World → Prop} {Q : Exit → Act → World → Prop} {E : Prop} (hgd : o.guard = none) (s x : Operand)
    (ho : o.op = .call { callee := .builtin .append, args := #[s, x], argTypes := #[32, 32] }) (base : Nat) {v : Value} {n : Nat} {xs : List Int} (hown : w.ownsRow base 2 1 v n (ints xs)) {ow : Bool} {l u : Nat} (ad : Addr) (m c : Nat) (ys : List Int) (hrow : RowAt w ow l u 1 (some ad) m c (ints ys)) (hs : a.eval s = v) (hx : a.eval x = .slice (some ad) m c) (hn : n + m ≤ 1000000) (hbase : base ≤ w.heap.size) {B0 : Nat} {W0 : World} (hB : Below B0 W0 w) (hB0 : B0 ≤ base)
    (h : ∀ v' w', w'.ownsRow base 2 1 v' (n + m) (ints (xs ++ ys)) → Below B0 W0 w' → C (a.put o.dst v') w') :
    if Region.wanted o (yielded ops a.tmps) = true then Oper.wp Try.prog o a w C Q else E := by
  obtain ⟨v', w', hr, h1, h2⟩ := app_run hown ad m c ys hrow o.type hn hbase hB hB0
  exact step_append_run hgd s x _ _ ho _ _ hs hx _ _ hr (h _ _ h1 h2)
/-- what the sign of a plain pool is made of -/
def volWords (vs : List Vo) : List Int := vs.flatMap fun v => [v.1, v.2.1]
def cellWords (ce : List Vo) : List Int := ce.flatMap fun c => [c.1, c.2.1, c.2.2]
def signWords (bl : Int) (vs ce : List Vo) : List Int := [bl, (vs.length : Int)] ++ volWords vs ++ [(ce.length : Int)] ++ cellWords ce
def signV (bl : Int) (vs ce : List Vo) : Int := sumOf (signWords bl vs ce)
theorem volWords_take {vs : List Vo} {k : Nat} (h : k < vs.length) : volWords (vs.take (k + 1)) = volWords (vs.take k) ++ [(vs.getD k vo0).1, (vs.getD k vo0).2.1] := by
  unfold volWords
  rw [List.take_succ_eq_append_getElem h, List.flatMap_append, List.getD_eq_getElem?_getD, List.getElem?_eq_getElem h, Option.getD_some]
  rfl
theorem cellWords_take {vs : List Vo} {k : Nat} (h : k < vs.length) : cellWords (vs.take (k + 1)) = cellWords (vs.take k) ++ [(vs.getD k vo0).1, (vs.getD k vo0).2.1, (vs.getD k vo0).2.2] := by
  unfold cellWords
  rw [List.take_succ_eq_append_getElem h, List.flatMap_append, List.getD_eq_getElem?_getD, List.getElem?_eq_getElem h, Option.getD_some]
  rfl
def signR (bl : Int) (vs ce : List Vo) (sh : List Int) : Int := if plFault bl vs ce sh = 0 then signV bl vs ce else 0

end Go.Proofs.Ytcbfmjanjciodaa

/- Chapter 7: the model's sign of a plain pool. -/
namespace Go.Proofs.Ytcbfmjanjciodaa
open Go.RowKit

set_option maxRecDepth 20000 in
set_option maxHeartbeats 4000000 in
theorem l7Sign_is {o : Bool} {lo hi : Nat} (p : Nat) (bl : Int) (av : Option Addr) (nv cv : Nat) (ac : Option Addr) (nc cc : Nat) (ah : Option Addr) (nh ch : Nat) (vs ce : List Vo) (sh : List Int) (w : World) (h : PlAt w o lo hi av nv cv ac nc cc ah nh ch vs ce sh) (hp0 : w.cell? ⟨p, 0, none⟩ = some (.int .i64 bl)) (hp1 : w.cell? ⟨p, 1, none⟩ = some (.slice av nv cv)) (hp2 : w.cell? ⟨p, 2, none⟩ = some (.slice ac nc cc)) (hnv : nv ≤ 100000) (hnc : nc ≤ 100000) (d : Int) (hd : signV bl vs ce = d) : Calls Try.prog 95 #[.pointer (some ⟨p, 0, none⟩)] w fun e w' => e = .returned (.int .i64 d) ∧ Below w.heap.size w w' := by
  have hvl := h.vol.nTrips
  have hcl := h.cel.nTrips
  have HD : Hid _ := hd
  clear hd
  have D : Below w.heap.size w w.drew := (Below.refl _ _).drew
  have g0 := cell_later D hp0
  have g1 := cell_later D hp1
  go_enter Try.func95, Try.ntmps95
  go_wp2_with fail
  go_region_held3 (fun w' => w'.cell? ⟨p, 0, none⟩ = some (.int .i64 bl) ∧ w'.cell? ⟨p, 1, none⟩ = some (.slice av nv cv)) (first | with_reducible exact ⟨g0, g1⟩ | exact ⟨cell_later ((Below.refl _ _).alloc (Nat.le_refl _) _) g0, cell_later ((Below.refl _ _).alloc (Nat.le_refl _) _) g1⟩) (fail)
  have O0 : (w.alloc (.cells #[.int .i64 bl, .int .i64 (nv : Int)] 2)).drew.ownsRow w.heap.size 2 1 (.slice (some ⟨w.heap.size, 0, none⟩) 2 2) 2 (ints [bl, (nv : Int)]) := owns_below (World.ownsRow_lit w #[.int .i64 bl, .int .i64 (nv : Int)] 2 (Nat.le_refl _) (by unfold maxLen; omega) rfl) (Below.refl _ _).drew
  have B0 : Below w.heap.size w (w.alloc (.cells #[.int .i64 bl, .int .i64 (nv : Int)] 2)).drew := ((Below.refl _ _).alloc (Nat.le_refl _) _).drew
  clear g0 g1 D
  go_wp2
  go_loopw [3, 4] (fun v i wr => ∃ k : Nat, k ≤ nv ∧ i = .int .i64 k ∧ wr.ownsRow w.heap.size 2 1 v (2 + 2 * k) (ints ([bl, (nv : Int)] ++ volWords (vs.take k))) ∧ Below w.heap.size w wr) (fun _ i _ => nv - (intOf i).toNat)
  case atStart => exact ⟨0, Nat.zero_le _, rfl, by simpa [volWords] using O0, B0⟩
  case round =>
    clear O0 B0
    obtain ⟨k, hk, rfl, hown, hb⟩ := hrel
    have g1 := cell_later hb hp1
    by_cases hlt : k < nv
    · have HT : Hid _ := volWords_take (vs := vs) (k := k) (by omega)
      obtain ⟨b, off, rfl, _, _, hbs, v0, v1, v2, _⟩ := h.vol.trip hlt
      have u0 := v0
      have u1 := v1
      replace v0 := cell_later hb v0
      replace v1 := cell_later hb v1
      have hlk : (k : Int) < (nv : Int) := by omega
      obtain ⟨⟨x, y, z⟩, hx⟩ : ∃ x, vs.getD k vo0 = x := ⟨_, rfl⟩
      rw [hx] at v0 v1 u0 u1 HT
      simp only at v0 v1 u0 u1 HT
      clear hx v2
      obtain ⟨X, hX⟩ : ∃ X : List Int, X = [bl, (nv : Int)] ++ volWords (vs.take k) := ⟨_, rfl⟩
      rw [← hX] at hown
      have HX : Hid _ := hX
      clear hX
      have D : Below wr.heap.size wr wr.drew := (Below.refl _ _).drew
      have e0 := cell_later D g1
      replace v0 := cell_later D v0
      replace v1 := cell_later D v1
      have hownA : (wr.drew.alloc (.cells #[.int .i64 x, .int .i64 y] 2)).ownsRow w.heap.size 2 1 _ _ _ := (owns_below hown D).alloc (.cells #[.int .i64 x, .int .i64 y] 2)
      have hbA : Below w.heap.size w (wr.drew.alloc (.cells #[.int .i64 x, .int .i64 y] 2)) := (below_step hb hb.size D).alloc hb.size _
      have rl : RowAt (wr.drew.alloc (.cells #[.int .i64 x, .int .i64 y] 2)) true wr.heap.size (wr.heap.size + 1) 1 (some ⟨wr.heap.size, 0, none⟩) 2 2 (ints [x, y]) := row_lit wr.drew [.int .i64 x, .int .i64 y] 2 2 1 rfl
      have HB : Hid _ := hbA.size
      clear D
      go_wp2_with fail
      go_region_held3 (fun w' => w'.cell? ⟨p, 1, none⟩ = some (.slice (some ⟨b, off, none⟩) nv cv) ∧ w'.cell? ⟨b, off + k * 3, none⟩ = some (.int .i64 x) ∧ w'.cell? ⟨b, off + k * 3 + 1, none⟩ = some (.int .i64 y)) (first | with_reducible exact ⟨e0, v0, v1⟩ | exact ⟨cell_later ((Below.refl _ _).alloc (Nat.le_refl _) _) e0, cell_later ((Below.refl _ _).alloc (Nat.le_refl _) _) v0, cell_later ((Below.refl _ _).alloc (Nat.le_refl _) _) v1⟩ | exact ⟨cell_later hb' hp1, cell_later hb' u0, cell_later hb' u1⟩)
        (first | (refine step_app rfl _ _ rfl w.heap.size hownA ⟨wr.heap.size, 0, none⟩ 2 2 [x, y] rl rfl rfl (by omega) HB.out hbA (Nat.le_refl _) ?_; intro v' w1 hown' hb'))
      have hown2 : w1.ownsRow w.heap.size 2 1 v' (2 + 2 * (k + 1)) (ints ([bl, (nv : Int)] ++ volWords (vs.take (k + 1)))) := by
        rw [HT.out, ← List.append_assoc, ← HX.out]; exact hown'
      clear hown' hownA hbA rl hown hb e0 v0 v1 HT
      go_wp2
      go_roundw
      case rel => exact ⟨k + 1, by omega, by go_num, hown2, hb'⟩
      case measure => simp [intOf]; omega
    · obtain rfl : k = nv := by omega
      rw [show vs.take k = vs from List.take_of_length_le (by omega)] at hown
      obtain ⟨X, hX⟩ : ∃ X : List Int, X = [bl, (k : Int)] ++ volWords vs := ⟨_, rfl⟩
      rw [← hX] at hown
      have HX : Hid _ := hX
      clear hX
      have g2 := cell_later hb hp2
      have hownA : (wr.alloc (.cells #[.int .i64 (nc : Int)] 2)).ownsRow w.heap.size 2 1 _ _ _ := hown.alloc (.cells #[.int .i64 (nc : Int)] 2)
      have hbA : Below w.heap.size w (wr.alloc (.cells #[.int .i64 (nc : Int)] 2)) := hb.alloc hb.size _
      have rl : RowAt (wr.alloc (.cells #[.int .i64 (nc : Int)] 2)) true wr.heap.size (wr.heap.size + 1) 1 (some ⟨wr.heap.size, 0, none⟩) 1 1 (ints [(nc : Int)]) := row_lit wr [.int .i64 (nc : Int)] 2 1 1 rfl
      go_wp2_with (first | (at_builtin; refine wp_app rfl _ _ rfl w.heap.size hownA ⟨wr.heap.size, 0, none⟩ 1 1 [(nc : Int)] rl rfl rfl (by omega) hbA.size hbA (Nat.le_refl _) ?_))
      intro v1 w1 hown1 hb1
      have hown2 : w1.ownsRow w.heap.size 2 1 v1 (2 + 2 * k + 1) (ints ([bl, (k : Int)] ++ volWords vs ++ [(nc : Int)])) := by
        rw [← HX.out]; exact hown1
      clear hown1 hownA hbA rl hown hb g1 g2
      obtain ⟨wq, hwq⟩ : ∃ wq, wr = wq := ⟨_, rfl⟩
      go_wp2
      go_loopw [3, 5] (fun v i wr => ∃ m : Nat, m ≤ nc ∧ i = .int .i64 m ∧ wr.ownsRow w.heap.size 2 1 v (2 + 2 * k + 1 + 3 * m) (ints ([bl, (k : Int)] ++ volWords vs ++ [(nc : Int)] ++ cellWords (ce.take m))) ∧ Below w.heap.size w wr) (fun _ i _ => nc - (intOf i).toNat)
      case atStart => exact ⟨0, Nat.zero_le _, rfl, by simpa [cellWords] using hown2, hb1⟩
      case round =>
        clear hown2 hb1 hwq
        obtain ⟨m, hm, rfl, hown, hb⟩ := hrel
        have g2 := cell_later hb hp2
        by_cases hlt2 : m < nc
        · have HT : Hid _ := cellWords_take (vs := ce) (k := m) (by omega)
          obtain ⟨b, off, rfl, _, _, hbs, v0, v1, v2, _⟩ := h.cel.trip hlt2
          have u0 := v0
          have u1 := v1
          have u2 := v2
          replace v0 := cell_later hb v0
          replace v1 := cell_later hb v1
          replace v2 := cell_later hb v2
          have hlm : (m : Int) < (nc : Int) := by omega
          obtain ⟨⟨x, y, z⟩, hx⟩ : ∃ x, ce.getD m vo0 = x := ⟨_, rfl⟩
          rw [hx] at v0 v1 v2 u0 u1 u2 HT
          simp only at v0 v1 v2 u0 u1 u2 HT
          clear hx
          obtain ⟨X, hX⟩ : ∃ X : List Int, X = [bl, (k : Int)] ++ volWords vs ++ [(nc : Int)] ++ cellWords (ce.take m) := ⟨_, rfl⟩
          rw [← hX] at hown
          have HX : Hid _ := hX
          clear hX
          have D : Below wr.heap.size wr wr.drew := (Below.refl _ _).drew
          have e0 := cell_later D g2
          replace v0 := cell_later D v0
          replace v1 := cell_later D v1
          replace v2 := cell_later D v2
          have hownA : (wr.drew.alloc (.cells #[.int .i64 x, .int .i64 y, .int .i64 z] 2)).ownsRow w.heap.size 2 1 _ _ _ := (owns_below hown D).alloc (.cells #[.int .i64 x, .int .i64 y, .int .i64 z] 2)
          have hbA : Below w.heap.size w (wr.drew.alloc (.cells #[.int .i64 x, .int .i64 y, .int .i64 z] 2)) := (below_step hb hb.size D).alloc hb.size _
          have rl : RowAt (wr.drew.alloc (.cells #[.int .i64 x, .int .i64 y, .int .i64 z] 2)) true wr.heap.size (wr.heap.size + 1) 1 (some ⟨wr.heap.size, 0, none⟩) 3 3 (ints [x, y, z]) := row_lit wr.drew [.int .i64 x, .int .i64 y, .int .i64 z] 2 3 1 rfl
          have HB : Hid _ := hbA.size
          clear D
          go_wp2_with fail
          go_region_held3 (fun w' => w'.cell? ⟨p, 2, none⟩ = some (.slice (some ⟨b, off, none⟩) nc cc) ∧ w'.cell? ⟨b, off + m * 3, none⟩ = some (.int .i64 x) ∧ w'.cell? ⟨b, off + m * 3 + 1, none⟩ = some (.int .i64 y) ∧ w'.cell? ⟨b, off + m * 3 + 2, none⟩ = some (.int .i64 z)) (first | with_reducible exact ⟨e0, v0, v1, v2⟩ | exact ⟨cell_later ((Below.refl _ _).alloc (Nat.le_refl _) _) e0, cell_later ((Below.refl _ _).alloc (Nat.le_refl _) _) v0, cell_later ((Below.refl _ _).alloc (Nat.le_refl _) _) v1, cell_later ((Below.refl _ _).alloc (Nat.le_refl _) _) v2⟩ | exact ⟨cell_later hb' hp2, cell_later hb' u0, cell_later hb' u1, cell_later hb' u2⟩)
            (first | (refine step_app rfl _ _ rfl w.heap.size hownA ⟨wr.heap.size, 0, none⟩ 3 3 [x, y, z] rl rfl rfl (by omega) HB.out hbA (Nat.le_refl _) ?_; intro v' w1 hown' hb'))
          have hown2 : w1.ownsRow w.heap.size 2 1 v' (2 + 2 * k + 1 + 3 * (m + 1)) (ints ([bl, (k : Int)] ++ volWords vs ++ [(nc : Int)] ++ cellWords (ce.take (m + 1)))) := by
            rw [HT.out, ← List.append_assoc, ← HX.out]; exact hown'
          clear hown' hownA hbA rl hown hb e0 v0 v1 v2 HT
          go_wp2
          go_roundw
          case rel => exact ⟨m + 1, by omega, by go_num, hown2, hb'⟩
          case measure => simp [intOf]; omega
        · obtain rfl : m = nc := by omega
          rw [show ce.take m = ce from List.take_of_length_le (by omega)] at hown
          obtain ⟨X, hX⟩ : ∃ X : List Int, X = [bl, (k : Int)] ++ volWords vs ++ [(m : Int)] ++ cellWords ce := ⟨_, rfl⟩
          rw [← hX] at hown
          have HX : Hid (sumOf X = d) := by show _ = _; rw [hX, ← HD.out]; unfold signV signWords; rw [hvl, hcl]
          clear hX
          obtain ⟨ao, cap, rfl, R⟩ := RowAt.of_owned hown
          go_wp2_with fail
          refine (specSum_any ao _ cap X _ R (by omega)).mono ?_
          rintro e w5 ⟨rfl, B5⟩
          replace hb := below_step hb hb.size B5
          go_wp2
          go_ret
          exact ⟨ret_int HX.out, hb⟩

set_option maxRecDepth 20000 in
set_option maxHeartbeats 4000000 in
theorem specSign_is {o : Bool} {lo hi : Nat} (bl : Int) (av : Option Addr) (nv cv : Nat) (ac : Option Addr) (nc cc : Nat) (ah : Option Addr) (nh ch : Nat) (vs ce : List Vo) (sh : List Int) (w : World) (h : PlAt w o lo hi av nv cv ac nc cc ah nh ch vs ce sh) (hnv : nv ≤ 2097152) (hnc : nc ≤ 2097152) (hnh : nh ≤ 2097152) (cd vl : Int) (hc : plFault bl vs ce sh = cd) (hv : signR bl vs ce sh = vl) : Calls Try.prog 35 #[.agg #[.int .i64 bl, .slice av nv cv, .slice ac nc cc, .slice ah nh ch]] w fun e w' => e = .returned (.agg #[.int .i64 cd, .int .i64 vl]) ∧ Below w.heap.size w w' := by
  have hvl := h.vol.nTrips
  have hcl := h.cel.nTrips
  have HC : Hid _ := hc
  have HV : Hid _ := hv
  clear hc hv
  go_enter Try.func35, Try.ntmps35
  go_wp2_with (first | ((with_reducible refine box_new 34 #[.int .i64 bl, .slice av nv cv, .slice ac nc cc, .slice ah nh ch] rfl ?_); intro b0 W0 N0; have O0 : Hid (w.heap.size ≤ b0) := N0.ge; have B := N0.below; have H0 : Hid (b0 < W0.heap.size) := N0.lt; have c0_0 : W0.cell? ⟨b0, 0, none⟩ = some (.int .i64 bl) := N0.cell 0 _ rfl; have c0_1 : W0.cell? ⟨b0, 1, none⟩ = some (.slice av nv cv) := N0.cell 1 _ rfl; have c0_2 : W0.cell? ⟨b0, 2, none⟩ = some (.slice ac nc cc) := N0.cell 2 _ rfl; have c0_3 : W0.cell? ⟨b0, 3, none⟩ = some (.slice ah nh ch) := N0.cell 3 _ rfl; clear N0) | ((with_reducible refine alloc_new 59 #[.int .i64 0, .int .i64 0] (fun _ => by kernel_rfl) ?_); intro b1 W1 N1; have O1 : Hid (b0 < b1) := Nat.lt_of_lt_of_le H0.out N1.ge; replace c0_0 := cell_later N1.below c0_0; replace c0_1 := cell_later N1.below c0_1; replace c0_2 := cell_later N1.below c0_2; replace c0_3 := cell_later N1.below c0_3; replace H0 : Hid (b0 < W1.heap.size) := Nat.lt_of_lt_of_le H0.out N1.below.size; replace B := below_next B N1.below; have H1 : Hid (b1 < W1.heap.size) := N1.lt; have c1_0 : W1.cell? ⟨b1, 0, none⟩ = some (.int .i64 0) := N1.cell 0 _ rfl; have c1_1 : W1.cell? ⟨b1, 1, none⟩ = some (.int .i64 0) := N1.cell 1 _ rfl; have y1_0 : W1.frozen? ⟨b1, 0, none⟩ = false := N1.froz 0; have y1_1 : W1.frozen? ⟨b1, 1, none⟩ = false := N1.froz 1; clear N1) | fail)
  refine (l6Fault_is b0 bl av nv cv ac nc cc ah nh ch vs ce sh _ (h.below B) c0_0 c0_1 c0_2 c0_3 hnv hnc hnh cd HC.out).mono ?_
  rintro e w1 ⟨rfl, BB⟩
  replace c0_0 := cell_later BB c0_0
  replace c0_1 := cell_later BB c0_1
  replace c0_2 := cell_later BB c0_2
  replace c0_3 := cell_later BB c0_3
  replace H0 : Hid (b0 < w1.heap.size) := Nat.lt_of_lt_of_le H0.out BB.size
  replace c1_0 := cell_later BB c1_0
  replace c1_1 := cell_later BB c1_1
  replace y1_0 := frozen_later BB H1.out y1_0
  replace y1_1 := frozen_later BB H1.out y1_1
  replace H1 : Hid (b1 < w1.heap.size) := Nat.lt_of_lt_of_le H1.out BB.size
  replace B := below_next B BB
  clear BB
  by_cases z : cd = 0
  rotate_left 1
  · have hz : (cd != 0) = true := by simp [z]
    have e0 : vl = 0 := by rw [← HV.out]; unfold signR; rw [HC.out, if_neg z]
    subst e0
    go_wp2
    refine bodyPost_ret (v := .agg #[.int .i64 cd, .int .i64 0]) (by simp [results, Try.results35, go_sem, c1_0, c1_1]) rfl ?_
    have KZ : Kept b1 (b1 + 1) w1 ((w1.setCell ⟨b1, 0, none⟩ (.int .i64 cd)).setCell ⟨b1, 1, none⟩ (.int .i64 0)) := by refine Kept.setCell (Kept.setCell (Kept.refl _ _ _) ?_ ?_ _) ?_ ?_ _ <;> simp
    exact ⟨rfl, B.trans (KZ.below _ (Nat.le_trans O0.out (by have q1 := O1.out; omega)) B.size)⟩
  have hz : (cd != 0) = false := by simp [z]
  subst z
  have OK := pl_ok HC.out
  have HE : Hid (signV bl vs ce = vl) := by show _ = _; rw [← HV.out]; unfold signR; rw [HC.out, if_pos rfl]
  have o1 : nv ≤ 100000 := by omega
  have o2 : nc ≤ 100000 := by omega
  clear OK
  go_wp2_with fail
  refine (l7Sign_is b0 bl av nv cv ac nc cc ah nh ch vs ce sh _ (h.below B) c0_0 c0_1 c0_2 o1 o2 vl HE.out).mono ?_
  rintro e w2 ⟨rfl, BB⟩
  replace c0_0 := cell_later BB c0_0
  replace c0_1 := cell_later BB c0_1
  replace c0_2 := cell_later BB c0_2
  replace c0_3 := cell_later BB c0_3
  replace H0 : Hid (b0 < w2.heap.size) := Nat.lt_of_lt_of_le H0.out BB.size
  replace c1_0 := cell_later BB c1_0
  replace c1_1 := cell_later BB c1_1
  replace y1_0 := frozen_later BB H1.out y1_0
  replace y1_1 := frozen_later BB H1.out y1_1
  replace H1 : Hid (b1 < w2.heap.size) := Nat.lt_of_lt_of_le H1.out BB.size
  replace B := below_next B BB
  clear BB
  go_wp2
  refine bodyPost_ret (v := .agg #[.int .i64 0, .int .i64 vl]) (by simp [results, Try.results35, go_sem, c1_0, c1_1]) rfl ?_
  have KZ : Kept b1 (b1 + 1) w2 ((w2.setCell ⟨b1, 0, none⟩ (.int .i64 0)).setCell ⟨b1, 1, none⟩ (.int .i64 vl)) := by refine Kept.setCell (Kept.setCell (Kept.refl _ _ _) ?_ ?_ _) ?_ ?_ _ <;> simp
  exact ⟨rfl, B.trans (KZ.below _ (Nat.le_trans O0.out (by have q1 := O1.out; omega)) B.size)⟩

end Go.Proofs.Ytcbfmjanjciodaa

/- Chapter 7: words told one behind another, the sign of a plain pool, by the program. -/
namespace Go.Proofs.Ytcbfmjanjciodaa
open Go.RowKit

theorem owns_keptB {w w' : World} {base : Nat} {e : TypeId} {size : Nat} {v : Value} {n : Nat} {cs : List Value} (h : w.ownsRow base e size v n cs) {l u : Nat} (K : Kept l u w w') (hu : u ≤ base) : w'.ownsRow base e size v n cs := by
  refine ⟨h.1, ?_⟩
  rcases h.2 with q | ⟨g, cap, cur, rfl, hg, hh, rest⟩
  · exact Or.inl q
  · refine Or.inr ⟨g, cap, cur, rfl, hg, ?_, rest⟩
    have hlt : g < w.heap.size := by
      rcases Nat.lt_or_ge g w.heap.size with x | x
      · exact x
      · rw [Array.getElem?_eq_none x] at hh; cases hh
    rw [K.block g hlt (Or.inr (Nat.le_trans hu hg))]
    exact hh
/-- what a teller has told -/
structure Told (w : World) (pb : Nat) (n : Nat) (xs : List Int) : Prop where
  lt : pb < w.heap.size
  ok : ∃ v, w.cell? ⟨pb, 0, none⟩ = some v ∧ w.ownsRow (pb + 1) 2 1 v n (ints xs)
  fr : w.frozen? ⟨pb, 0, none⟩ = false
theorem Told.below {w w' : World} {pb n : Nat} {xs : List Int} (h : Told w pb n xs) (B : Below w.heap.size w w') : Told w' pb n xs := by
  obtain ⟨v, h1, h2⟩ := h.ok
  exact ⟨Nat.lt_of_lt_of_le h.lt B.size, ⟨v, cell_later B h1, owns_below h2 B⟩, frozen_later B h.lt h.fr⟩
set_option maxRecDepth 20000 in
set_option maxHeartbeats 4000000 in
theorem tell_is (pb n : Nat) (xs : List Int) (w : World) (T : Told w pb n xs) {ow : Bool} {l u : Nat} (ad : Addr) (m c : Nat) (ys : List Int) (hrow : RowAt w ow l u 1 (some ad) m c (ints ys)) (hn : n + m ≤ 1000000) : Calls Try.prog 118 #[.pointer (some ⟨pb, 0, none⟩), .slice (some ad) m c] w fun e w' => e = .returned (.tuple #[]) ∧ Told w' pb (n + m) (xs ++ ys) ∧ Below pb w w' := by
  obtain ⟨v, h1, h2⟩ := T.ok
  have hlt : Hid _ := T.lt
  have hfr := T.fr
  clear T
  go_enter Try.func118, Try.ntmps118
  go_wp2_with (first | (at_builtin; refine wp_app rfl _ _ rfl (pb + 1) h2 ad m c ys hrow rfl rfl hn hlt.out (Below.refl (pb + 1) w) (Nat.le_refl _) ?_))
  intro v' w1 hown1 hb1
  have HO : Hid _ := hown1
  obtain ⟨ao, cp, rfl, _⟩ := RowAt.of_owned hown1
  clear hown1
  have c1 : w1.cell? ⟨pb, 0, none⟩ = some v := (hb1.cell (p := ⟨pb, 0, none⟩) (Nat.lt_succ_self _)).trans h1
  have y1 : w1.frozen? ⟨pb, 0, none⟩ = false := (hb1.frozen (p := ⟨pb, 0, none⟩) (Nat.lt_succ_self _)).trans hfr
  have S := setC_mk (v := .slice ao (n + m) cp) c1 y1
  have HS : Hid (pb < w1.heap.size) := Nat.lt_of_lt_of_le hlt.out hb1.size
  clear h1 h2 hfr
  go_wp2
  refine bodyPost_end (v := .tuple #[]) (by simp [results, Try.results118, go_sem]) rfl ?_
  exact ⟨rfl, ⟨Nat.lt_of_lt_of_le HS.out S.kept.size, ⟨_, S.cell, owns_keptB HO.out S.kept (Nat.le_refl _)⟩, S.fr y1⟩, (hb1.mono (Nat.le_succ _)).trans (S.kept.below _ (Nat.le_refl _) (Nat.le_of_lt HS.out))⟩

set_option maxRecDepth 20000 in
set_option maxHeartbeats 4000000 in
theorem signOf_is {o : Bool} {lo hi : Nat} (bl : Int) (av : Option Addr) (nv cv : Nat) (ac : Option Addr) (nc cc : Nat) (ah : Option Addr) (nh ch : Nat) (vs ce : List Vo) (sh : List Int) (w : World) (h : PlAt w o lo hi av nv cv ac nc cc ah nh ch vs ce sh) (hnv : nv ≤ 100000) (hnc : nc ≤ 100000) (d : Int) (hd : signV bl vs ce = d) : Calls Try.prog 96 #[.agg #[.int .i64 bl, .slice av nv cv, .slice ac nc cc, .slice ah nh ch]] w fun e w' => e = .returned (.int .i64 d) ∧ Below w.heap.size w w' := by
  have hvl := h.vol.nTrips
  have hcl := h.cel.nTrips
  have HD : Hid _ := hd
  clear hd
  go_enter Try.func96, Try.ntmps96
  go_wp2_with (first | ((with_reducible refine box_new 34 #[.int .i64 bl, .slice av nv cv, .slice ac nc cc, .slice ah nh ch] rfl ?_); intro b0 W0 N0; have O0 : Hid (w.heap.size ≤ b0) := N0.ge; have B := N0.below; have H0 : Hid (b0 < W0.heap.size) := N0.lt; have c0_0 : W0.cell? ⟨b0, 0, none⟩ = some (.int .i64 bl) := N0.cell 0 _ rfl; have c0_1 : W0.cell? ⟨b0, 1, none⟩ = some (.slice av nv cv) := N0.cell 1 _ rfl; have c0_2 : W0.cell? ⟨b0, 2, none⟩ = some (.slice ac nc cc) := N0.cell 2 _ rfl; have c0_3 : W0.cell? ⟨b0, 3, none⟩ = some (.slice ah nh ch) := N0.cell 3 _ rfl; clear N0) | ((with_reducible refine alloc_new 161 #[.slice none 0 0] (fun _ => by kernel_rfl) ?_); intro b1 W1 N1; have O1 : Hid (b0 < b1) := Nat.lt_of_lt_of_le H0.out N1.ge; replace c0_0 := cell_later N1.below c0_0; replace c0_1 := cell_later N1.below c0_1; replace c0_2 := cell_later N1.below c0_2; replace c0_3 := cell_later N1.below c0_3; replace H0 : Hid (b0 < W1.heap.size) := Nat.lt_of_lt_of_le H0.out N1.below.size; replace B := below_next B N1.below; have H1 : Hid (b1 < W1.heap.size) := N1.lt; have c1_0 : W1.cell? ⟨b1, 0, none⟩ = some (.slice none 0 0) := N1.cell 0 _ rfl; have y1_0 : W1.frozen? ⟨b1, 0, none⟩ = false := N1.froz 0; clear N1) | fail)
  have T0 : Told W1 b1 0 [] := ⟨H1.out, ⟨_, c1_0, rfl, Or.inl ⟨rfl, rfl⟩⟩, y1_0⟩
  have A1 : Below W1.heap.size W1 (W1.alloc (.cells #[.int .i64 bl, .int .i64 (nv : Int)] 2)) := (Below.refl _ _).alloc (Nat.le_refl _) _
  refine (tell_is b1 0 [] (W1.alloc (.cells #[.int .i64 bl, .int .i64 (nv : Int)] 2)) (T0.below A1) ⟨W1.heap.size, 0, none⟩ 2 2 [bl, (nv : Int)] (row_lit W1 [.int .i64 bl, .int .i64 (nv : Int)] 2 2 1 rfl) (by omega)).mono ?_
  rintro e w1 ⟨rfl, T1, C⟩
  replace C : Below b1 W1 w1 := (A1.mono (Nat.le_of_lt H1.out)).trans C
  clear T0 A1
  rw [Nat.zero_add, List.nil_append] at T1
  have D1 : Hid (b0 < b1) := O1.out
  have BW : Below w.heap.size w W1 := B
  have HB : Hid (w.heap.size ≤ b1) := Nat.le_trans O0.out (Nat.le_of_lt O1.out)
  have g1 := (C.cell (p := ⟨b0, 1, none⟩) D1.out).trans c0_1
  clear c1_0 y1_0
  go_wp2
  go_loopw [18] (fun i wr => ∃ k : Nat, k ≤ nv ∧ i = .int .i64 k ∧ Told wr b1 (2 + 2 * k) ([bl, (nv : Int)] ++ volWords (vs.take k)) ∧ Below b1 W1 wr) (fun i _ => nv - (intOf i).toNat)
  case atStart => exact ⟨0, Nat.zero_le _, rfl, by simpa [volWords] using T1, C⟩
  case round =>
    clear T1 C g1
    obtain ⟨k, hk, rfl, T, C⟩ := hrel
    have BX : Below w.heap.size w wr := BW.trans (C.mono HB.out)
    by_cases hlt : k < nv
    · have HT : Hid _ := volWords_take (vs := vs) (k := k) (by omega)
      obtain ⟨b, off, rfl, _, _, hbs, v0, v1, v2, _⟩ := h.vol.trip hlt
      replace v0 := cell_later BX v0
      replace v1 := cell_later BX v1
      replace v2 := cell_later BX v2
      have hlk : (k : Int) < (nv : Int) := by omega
      obtain ⟨⟨x, y, z⟩, hx⟩ : ∃ x, vs.getD k vo0 = x := ⟨_, rfl⟩
      rw [hx] at v0 v1 v2 HT
      simp only at v0 v1 v2 HT
      clear hx
      obtain ⟨X, hX⟩ : ∃ X : List Int, X = [bl, (nv : Int)] ++ volWords (vs.take k) := ⟨_, rfl⟩
      rw [← hX] at T
      have HX : Hid _ := hX
      clear hX
      have A1 : Below wr.heap.size wr ((wr.alloc (.cells #[.int .i64 x, .int .i64 y, .int .i64 z] 149)).alloc (.cells #[.int .i64 x, .int .i64 y] 2)) := ((Below.refl _ _).alloc (Nat.le_refl _) _).alloc (by simp) _
      have rl : RowAt ((wr.alloc (.cells #[.int .i64 x, .int .i64 y, .int .i64 z] 149)).alloc (.cells #[.int .i64 x, .int .i64 y] 2)) true (wr.heap.size + 1) (wr.heap.size + 1 + 1) 1 (some ⟨wr.heap.size + 1, 0, none⟩) 2 2 (ints [x, y]) := by
        have := row_lit (wr.alloc (.cells #[.int .i64 x, .int .i64 y, .int .i64 z] 149)) [.int .i64 x, .int .i64 y] 2 2 1 rfl
        simpa [ints] using this
      have HTl : Hid _ := T.lt
      go_wp2_with fail
      refine (tell_is b1 (2 + 2 * k) X ((wr.alloc (.cells #[.int .i64 x, .int .i64 y, .int .i64 z] 149)).alloc (.cells #[.int .i64 x, .int .i64 y] 2)) (T.below A1) ⟨wr.heap.size + 1, 0, none⟩ 2 2 [x, y] rl (by omega)).mono ?_
      rintro e w2 ⟨rfl, T2, C2⟩
      replace C2 : Below b1 W1 w2 := C.trans ((A1.mono (Nat.le_of_lt HTl.out)).trans C2)
      have T3 : Told w2 b1 (2 + 2 * (k + 1)) ([bl, (nv : Int)] ++ volWords (vs.take (k + 1))) := by
        rw [HT.out, ← List.append_assoc, ← HX.out]; exact T2
      clear T2 T C A1 rl BX v0 v1 v2 HT HX
      go_wp2
      go_roundw
      case rel => exact ⟨k + 1, by omega, by go_num, T3, C2⟩
      case measure => simp [intOf]; omega
    · obtain rfl : k = nv := by omega
      rw [show vs.take k = vs from List.take_of_length_le (by omega)] at T
      obtain ⟨X, hX⟩ : ∃ X : List Int, X = [bl, (k : Int)] ++ volWords vs := ⟨_, rfl⟩
      rw [← hX] at T
      have HX : Hid _ := hX
      clear hX
      have g2 := (C.cell (p := ⟨b0, 2, none⟩) D1.out).trans c0_2
      have A1 : Below wr.heap.size wr (wr.alloc (.cells #[.int .i64 (nc : Int)] 2)) := (Below.refl _ _).alloc (Nat.le_refl _) _
      have HTl : Hid _ := T.lt
      go_wp2_with fail
      refine (tell_is b1 (2 + 2 * k) X (wr.alloc (.cells #[.int .i64 (nc : Int)] 2)) (T.below A1) ⟨wr.heap.size, 0, none⟩ 1 1 [(nc : Int)] (row_lit wr [.int .i64 (nc : Int)] 2 1 1 rfl) (by omega)).mono ?_
      rintro e w2 ⟨rfl, T2, C2⟩
      replace C2 : Below b1 W1 w2 := C.trans ((A1.mono (Nat.le_of_lt HTl.out)).trans C2)
      rw [HX.out] at T2
      clear T C A1 BX HX HTl g2
      have g2 := (C2.cell (p := ⟨b0, 2, none⟩) D1.out).trans c0_2
      go_wp2
      go_loopw [37] (fun i wr => ∃ m : Nat, m ≤ nc ∧ i = .int .i64 m ∧ Told wr b1 (2 + 2 * k + 1 + 3 * m) ([bl, (k : Int)] ++ volWords vs ++ [(nc : Int)] ++ cellWords (ce.take m)) ∧ Below b1 W1 wr) (fun i _ => nc - (intOf i).toNat)
      case atStart => exact ⟨0, Nat.zero_le _, rfl, by simpa [cellWords] using T2, C2⟩
      case round =>
        clear T2 C2 g2
        obtain ⟨m, hm, rfl, T, C⟩ := hrel
        have BX : Below w.heap.size w wr := BW.trans (C.mono HB.out)
        by_cases hlt2 : m < nc
        · have HT : Hid _ := cellWords_take (vs := ce) (k := m) (by omega)
          obtain ⟨b, off, rfl, _, _, hbs, v0, v1, v2, _⟩ := h.cel.trip hlt2
          replace v0 := cell_later BX v0
          replace v1 := cell_later BX v1
          replace v2 := cell_later BX v2
          have hlm : (m : Int) < (nc : Int) := by omega
          obtain ⟨⟨x, y, z⟩, hx⟩ : ∃ x, ce.getD m vo0 = x := ⟨_, rfl⟩
          rw [hx] at v0 v1 v2 HT
          simp only at v0 v1 v2 HT
          clear hx
          obtain ⟨X, hX⟩ : ∃ X : List Int, X = [bl, (k : Int)] ++ volWords vs ++ [(nc : Int)] ++ cellWords (ce.take m) := ⟨_, rfl⟩
          rw [← hX] at T
          have HX : Hid _ := hX
          clear hX
          have A1 : Below wr.heap.size wr ((wr.alloc (.cells #[.int .i64 x, .int .i64 y, .int .i64 z] 130)).alloc (.cells #[.int .i64 x, .int .i64 y, .int .i64 z] 2)) := ((Below.refl _ _).alloc (Nat.le_refl _) _).alloc (by simp) _
          have rl : RowAt ((wr.alloc (.cells #[.int .i64 x, .int .i64 y, .int .i64 z] 130)).alloc (.cells #[.int .i64 x, .int .i64 y, .int .i64 z] 2)) true (wr.heap.size + 1) (wr.heap.size + 1 + 1) 1 (some ⟨wr.heap.size + 1, 0, none⟩) 3 3 (ints [x, y, z]) := by
            have := row_lit (wr.alloc (.cells #[.int .i64 x, .int .i64 y, .int .i64 z] 130)) [.int .i64 x, .int .i64 y, .int .i64 z] 2 3 1 rfl
            simpa [ints] using this
          have HTl : Hid _ := T.lt
          go_wp2_with fail
          refine (tell_is b1 (2 + 2 * k + 1 + 3 * m) X ((wr.alloc (.cells #[.int .i64 x, .int .i64 y, .int .i64 z] 130)).alloc (.cells #[.int .i64 x, .int .i64 y, .int .i64 z] 2)) (T.below A1) ⟨wr.heap.size + 1, 0, none⟩ 3 3 [x, y, z] rl (by omega)).mono ?_
          rintro e w2 ⟨rfl, T2, C2⟩
          replace C2 : Below b1 W1 w2 := C.trans ((A1.mono (Nat.le_of_lt HTl.out)).trans C2)
          have T3 : Told w2 b1 (2 + 2 * k + 1 + 3 * (m + 1)) ([bl, (k : Int)] ++ volWords vs ++ [(nc : Int)] ++ cellWords (ce.take (m + 1))) := by
            rw [HT.out, ← List.append_assoc, ← HX.out]; exact T2
          clear T2 T C A1 rl BX v0 v1 v2 HT HX
          go_wp2
          go_roundw
          case rel => exact ⟨m + 1, by omega, by go_num, T3, C2⟩
          case measure => simp [intOf]; omega
        · obtain rfl : m = nc := by omega
          rw [show ce.take m = ce from List.take_of_length_le (by omega)] at T
          obtain ⟨X, hX⟩ : ∃ X : List Int, X = [bl, (k : Int)] ++ volWords vs ++ [(m : Int)] ++ cellWords ce := ⟨_, rfl⟩
          rw [← hX] at T
          have HX : Hid (sumOf X = d) := by show _ = _; rw [hX, ← HD.out]; unfold signV signWords; rw [hvl, hcl]
          clear hX
          obtain ⟨v, q1, q2⟩ := T.ok
          obtain ⟨ao, cap, rfl, R⟩ := RowAt.of_owned q2
          go_wp2_with fail
          refine (implSum_any ao _ cap X _ R (by omega)).mono ?_
          rintro e _ ⟨rfl, rfl⟩
          go_wp2
          go_ret
          exact ⟨ret_int HX.out, BX⟩

set_option maxRecDepth 20000 in
set_option maxHeartbeats 4000000 in
theorem implSign_is {o : Bool} {lo hi : Nat} (bl : Int) (av : Option Addr) (nv cv : Nat) (ac : Option Addr) (nc cc : Nat) (ah : Option Addr) (nh ch : Nat) (vs ce : List Vo) (sh : List Int) (w : World) (h : PlAt w o lo hi av nv cv ac nc cc ah nh ch vs ce sh) (hnv : nv ≤ 2097152) (hnc : nc ≤ 2097152) (hnh : nh ≤ 2097152) (cd vl : Int) (hc : plFault bl vs ce sh = cd) (hv : signR bl vs ce sh = vl) : Calls Try.prog 36 #[.agg #[.int .i64 bl, .slice av nv cv, .slice ac nc cc, .slice ah nh ch]] w fun e w' => e = .returned (.agg #[.int .i64 cd, .int .i64 vl]) ∧ Below w.heap.size w w' := by
  have hvl := h.vol.nTrips
  have hcl := h.cel.nTrips
  have HC : Hid _ := hc
  have HV : Hid _ := hv
  clear hc hv
  go_enter Try.func36, Try.ntmps36
  go_wp2_with (first | ((with_reducible refine box_new 34 #[.int .i64 bl, .slice av nv cv, .slice ac nc cc, .slice ah nh ch] rfl ?_); intro b0 W0 N0; have O0 : Hid (w.heap.size ≤ b0) := N0.ge; have B := N0.below; have H0 : Hid (b0 < W0.heap.size) := N0.lt; have c0_0 : W0.cell? ⟨b0, 0, none⟩ = some (.int .i64 bl) := N0.cell 0 _ rfl; have c0_1 : W0.cell? ⟨b0, 1, none⟩ = some (.slice av nv cv) := N0.cell 1 _ rfl; have c0_2 : W0.cell? ⟨b0, 2, none⟩ = some (.slice ac nc cc) := N0.cell 2 _ rfl; have c0_3 : W0.cell? ⟨b0, 3, none⟩ = some (.slice ah nh ch) := N0.cell 3 _ rfl; clear N0) | ((with_reducible refine alloc_new 59 #[.int .i64 0, .int .i64 0] (fun _ => by kernel_rfl) ?_); intro b1 W1 N1; have O1 : Hid (b0 < b1) := Nat.lt_of_lt_of_le H0.out N1.ge; replace c0_0 := cell_later N1.below c0_0; replace c0_1 := cell_later N1.below c0_1; replace c0_2 := cell_later N1.below c0_2; replace c0_3 := cell_later N1.below c0_3; replace H0 : Hid (b0 < W1.heap.size) := Nat.lt_of_lt_of_le H0.out N1.below.size; replace B := below_next B N1.below; have H1 : Hid (b1 < W1.heap.size) := N1.lt; have c1_0 : W1.cell? ⟨b1, 0, none⟩ = some (.int .i64 0) := N1.cell 0 _ rfl; have c1_1 : W1.cell? ⟨b1, 1, none⟩ = some (.int .i64 0) := N1.cell 1 _ rfl; have y1_0 : W1.frozen? ⟨b1, 0, none⟩ = false := N1.froz 0; have y1_1 : W1.frozen? ⟨b1, 1, none⟩ = false := N1.froz 1; clear N1) | fail)
  refine (implPlF_is bl av nv cv ac nc cc ah nh ch vs ce sh _ (h.below B) hnv hnc hnh cd HC.out).mono ?_
  rintro e w1 ⟨rfl, BB⟩
  replace c0_0 := cell_later BB c0_0
  replace c0_1 := cell_later BB c0_1
  replace c0_2 := cell_later BB c0_2
  replace c0_3 := cell_later BB c0_3
  replace H0 : Hid (b0 < w1.heap.size) := Nat.lt_of_lt_of_le H0.out BB.size
  replace c1_0 := cell_later BB c1_0
  replace c1_1 := cell_later BB c1_1
  replace y1_0 := frozen_later BB H1.out y1_0
  replace y1_1 := frozen_later BB H1.out y1_1
  replace H1 : Hid (b1 < w1.heap.size) := Nat.lt_of_lt_of_le H1.out BB.size
  replace B := below_next B BB
  clear BB
  by_cases z : cd = 0
  rotate_left 1
  · have hz : (cd != 0) = true := by simp [z]
    have e0 : vl = 0 := by rw [← HV.out]; unfold signR; rw [HC.out, if_neg z]
    subst e0
    go_wp2
    refine bodyPost_ret (v := .agg #[.int .i64 cd, .int .i64 0]) (by simp [results, Try.results36, go_sem, c1_0, c1_1]) rfl ?_
    have KZ : Kept b1 (b1 + 1) w1 ((w1.setCell ⟨b1, 0, none⟩ (.int .i64 cd)).setCell ⟨b1, 1, none⟩ (.int .i64 0)) := by refine Kept.setCell (Kept.setCell (Kept.refl _ _ _) ?_ ?_ _) ?_ ?_ _ <;> simp
    exact ⟨rfl, B.trans (KZ.below _ (Nat.le_trans O0.out (by have q1 := O1.out; omega)) B.size)⟩
  have hz : (cd != 0) = false := by simp [z]
  subst z
  have OK := pl_ok HC.out
  have HE : Hid (signV bl vs ce = vl) := by show _ = _; rw [← HV.out]; unfold signR; rw [HC.out, if_pos rfl]
  have o1 : nv ≤ 100000 := by omega
  have o2 : nc ≤ 100000 := by omega
  clear OK
  go_wp2_with fail
  refine (signOf_is bl av nv cv ac nc cc ah nh ch vs ce sh _ (h.below B) o1 o2 vl HE.out).mono ?_
  rintro e w2 ⟨rfl, BB⟩
  replace c0_0 := cell_later BB c0_0
  replace c0_1 := cell_later BB c0_1
  replace c0_2 := cell_later BB c0_2
  replace c0_3 := cell_later BB c0_3
  replace H0 : Hid (b0 < w2.heap.size) := Nat.lt_of_lt_of_le H0.out BB.size
  replace c1_0 := cell_later BB c1_0
  replace c1_1 := cell_later BB c1_1
  replace y1_0 := frozen_later BB H1.out y1_0
  replace y1_1 := frozen_later BB H1.out y1_1
  replace H1 : Hid (b1 < w2.heap.size) := Nat.lt_of_lt_of_le H1.out BB.size
  replace B := below_next B BB
  clear BB
  go_wp2
  refine bodyPost_ret (v := .agg #[.int .i64 0, .int .i64 vl]) (by simp [results, Try.results36, go_sem, c1_0, c1_1]) rfl ?_
  have KZ : Kept b1 (b1 + 1) w2 ((w2.setCell ⟨b1, 0, none⟩ (.int .i64 0)).setCell ⟨b1, 1, none⟩ (.int .i64 vl)) := by refine Kept.setCell (Kept.setCell (Kept.refl _ _ _) ?_ ?_ _) ?_ ?_ _ <;> simp
  exact ⟨rfl, B.trans (KZ.below _ (Nat.le_trans O0.out (by have q1 := O1.out; omega)) B.size)⟩

end Go.Proofs.Ytcbfmjanjciodaa

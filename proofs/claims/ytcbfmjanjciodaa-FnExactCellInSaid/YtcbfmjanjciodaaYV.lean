/- Maps by volume and place: what is in them, by a function. -/
import Derived.Test.YtcbfmjanjciodaaEX
import Derived.Test.YtcbfmjanjciodaaZR
import Derived.Test.YtcbfmjanjciodaaYE
import Derived.Test.YtcbfmjanjciodaaPPl
import Derived.Maps.Own
import Derived.Maps.OwnOps
import Derived.Maps.OwnSet
import Derived.Maps.Views
import Derived.DeepKeys4
import Derived.Test.YtcbfmjanjciodaaYL
import Derived.Test.YtcbfmjanjciodaaZW
namespace Go.Proofs.Ytcbfmjanjciodaa
open Go.RowKit Go.Maps

abbrev Tab := Int → Int → Option Int
def I64 (x : Int) : Prop := (Lit.int .i64 x).wf = true
theorem i64_of {x : Int} (h : -9223372036854775808 ≤ x ∧ x ≤ 9223372036854775807) : I64 x := WalkArith.wf_i64 (by omega)
theorem Try.rowSpot : (134 : TypeId) < Try.prog.types.size := of_decide_eq_true (by kernel_rfl)
theorem Try.deepSpot : Try.prog.keyTypeAt 2 134 = true := by kernel_rfl
theorem spotLaw : Keyed Try.prog 134 := Keyed.of_law (deep_law_laid Try.laidOut (m := 2) (by decide) Try.rowSpot Try.deepSpot (by rw [Try.underlying134]))
theorem Try.cellsSpot : Try.prog.cellsOf 134 = 2 := by kernel_rfl
theorem Try.keySpot : Try.prog.keyType 134 = true := by kernel_rfl
def spotLit (x y : Int) : Lit := .string (keyBytes [.int .i64 x, .int .i64 y])
theorem keyLits_two {P : Program} {t : TypeId} {f0 f1 : Field} {d : Nat} {x y : Int} (hu : P.underlying t = some (.struct #[f0, f1])) (hc : P.cellsOf t = 2) (n0 : (f0.name != "_") = true) (n1 : (f1.name != "_") = true) (o0 : f0.offset = 0) (o1 : f1.offset = 1) (u0 : P.underlying f0.type = some (.int .i64)) (u1 : P.underlying f1.type = some (.int .i64)) (c0 : P.cellsOf f0.type = 1) (c1 : P.cellsOf f1.type = 1) (hx : I64 x) (hy : I64 y) :
    P.keyLits (d + 1 + 1) t [.int .i64 x, .int .i64 y] = some [.int .i64 x, .int .i64 y] := by
  have k0 : P.keyLits (d + 1) f0.type [.int .i64 x] = some [.int .i64 x] := by
    unfold Program.keyLits
    rw [u0]
    exact if_pos ⟨rfl, hx⟩
  have k1 : P.keyLits (d + 1) f1.type [.int .i64 y] = some [.int .i64 y] := by
    unfold Program.keyLits
    rw [u1]
    exact if_pos ⟨rfl, hy⟩
  unfold Program.keyLits
  rw [hu]
  simp only [bne_iff_ne, ne_eq] at n0 n1
  simp [hc, n0, n1, o0, o1, c0, c1, k0, k1]
theorem spotKey {x y : Int} (hx : I64 x) (hy : I64 y) : keyOf Try.prog 134 (.agg #[.int .i64 x, .int .i64 y]) = some (spotLit x y) := by
  have hs := Try.rowSpot
  have hN : Try.prog.types.size + 1 = (Try.prog.types.size - 1) + 1 + 1 := by have : 0 < Try.prog.types.size := Nat.lt_of_le_of_lt (Nat.zero_le _) hs; omega
  unfold keyOf
  rw [hN, show (Value.agg #[.int .i64 x, .int .i64 y]).cells.toList = [.int .i64 x, .int .i64 y] from rfl, keyLits_two Try.underlying134 Try.cellsSpot rfl rfl rfl rfl Try.underlying2 Try.underlying2 Try.cellsInt Try.cellsInt hx hy, Try.underlying134]
  simp only [Try.keySpot, Value.formed, Try.underlying134, Try.cellsSpot]
  rfl
theorem spotLit_inj {x y x' y' : Int} (hx : I64 x) (hy : I64 y) (hx' : I64 x') (hy' : I64 y') (h : spotLit x y = spotLit x' y') : x = x' ∧ y = y' := by
  have := spotLaw.inj (spotKey hx hy) (by rw [spotKey hx' hy', h])
  simpa using this
theorem zeroInt (w : World) : (zeroValue 2).run Try.prog w = .ok (.int .i64 0) w := by kernel_rfl
/-- a map's block and what is in it -/
structure TabAt (w : World) (b n : Nat) (T : Tab) : Prop where
  ok : ∃ D : DataW Unit, w.ownsMap Try.prog 134 (plainElem Try.prog 2) b n D ∧ ∀ x y, I64 x → I64 y → Maps.has D (spotLit x y) = (T x y).isSome ∧ D.atKey (spotLit x y) (.lit (.int .i64 0)) = .lit (.int .i64 ((T x y).getD 0))
def noTab : Tab := fun _ _ => none
def putT (T : Tab) (x y v : Int) : Tab := fun a b => if a = x ∧ b = y then some v else T a b
theorem isMap_of {w : World} {b n : Nat} {D : DataW Unit} (h : w.ownsMap Try.prog 134 (plainElem Try.prog 2) b n D) : IsMap D := by
  obtain ⟨es, clock, _, _, _, rfl⟩ := h
  exact ⟨_, rfl⟩
theorem TabAt.lt {w : World} {b n : Nat} {T : Tab} (h : TabAt w b n T) : b < w.heap.size := by
  obtain ⟨D, ⟨es, clock, hb, _⟩, _⟩ := h.ok
  rcases Nat.lt_or_ge b w.heap.size with x | x
  · exact x
  · rw [Array.getElem?_eq_none x] at hb; cases hb
theorem TabAt.block {w w' : World} {b n : Nat} {T : Tab} (h : TabAt w b n T) (hb : w'.heap[b]? = w.heap[b]?) : TabAt w' b n T := by
  obtain ⟨D, ⟨es, clock, h1, h2⟩, h3⟩ := h.ok
  exact ⟨⟨D, ⟨es, clock, by rw [hb]; exact h1, h2⟩, h3⟩⟩
theorem TabAt.below {w w' : World} {b n : Nat} {T : Tab} (h : TabAt w b n T) (B : Below w.heap.size w w') : TabAt w' b n T := h.block (B.block b h.lt)
theorem TabAt.kept {w w' : World} {b n : Nat} {T : Tab} (h : TabAt w b n T) {l u : Nat} (K : Kept l u w w') (hd : b < l ∨ u ≤ b) : TabAt w' b n T := h.block (K.block b h.lt hd)
theorem tab_made (w : World) : TabAt (w.alloc (.map #[] 0)) w.heap.size 0 noTab := ⟨⟨.map [], World.ownsMap_made _ _ _ _, fun _ _ _ _ => ⟨rfl, rfl⟩⟩⟩
theorem kept_of_grown {w w' : World} {b : Nat} (h : w.grownBy w' (some b)) : Kept b (b + 1) w w' := ⟨h.os, h.tape, h.output, h.size, fun k hk hn => h.block k hk (fun e => by injection e with e; omega)⟩
theorem tab_put {w : World} {b n : Nat} {T : Tab} (h : TabAt w b n T) (hn : n < maxLen) {x y v : Int} (hx : I64 x) (hy : I64 y) (hv : I64 v) :
    ∃ w', (Instr.mapUpdate 113 (.map (some b)) (.agg #[.int .i64 x, .int .i64 y]) (.int .i64 v)).run Try.prog w = .ok () w' ∧ TabAt w' b (n + 1) (putT T x y v) ∧ Kept b (b + 1) w w' := by
  obtain ⟨D, ho, hT⟩ := h.ok
  obtain ⟨w', hr, ho', hg⟩ := ho.update spotLaw Try.underlying113 hn (spotKey hx hy) (plainElem_int (H := Unit) Try.underlying2 hv)
  refine ⟨w', hr, ⟨⟨_, ho', fun a c ha hc => ?_⟩⟩, kept_of_grown hg⟩
  unfold putT
  by_cases e : a = x ∧ c = y
  · obtain ⟨rfl, rfl⟩ := e
    rw [if_pos ⟨rfl, rfl⟩]
    exact ⟨has_put_same (isMap_of ho) (spotLaw.key (spotKey ha hc)) _, atKey_put_same (isMap_of ho) (spotLaw.key (spotKey ha hc)) _ _⟩
  · rw [if_neg e]
    have hne : spotLit a c ≠ spotLit x y := fun q => e (spotLit_inj ha hc hx hy q)
    rw [has_put_other hne, atKey_put_other hne]
    exact hT a c ha hc
theorem tab_look {w : World} {b n : Nat} {T : Tab} (h : TabAt w b n T) {x y : Int} (hx : I64 x) (hy : I64 y) :
    (Instr.lookup 113 (.map (some b)) (.agg #[.int .i64 x, .int .i64 y]) true).run Try.prog w = .ok (.tuple #[.int .i64 ((T x y).getD 0), .bool (T x y).isSome]) w := by
  obtain ⟨D, ho, hT⟩ := h.ok
  obtain ⟨v, ps, hr, hv⟩ := ho.look_ok spotLaw Try.underlying113 (zeroInt w) (plainElem_int (H := Unit) Try.underlying2 (a := 0) rfl) (spotKey hx hy)
  obtain ⟨c, rfl, hc, _⟩ := plainElem_int_inv Try.underlying2 hv
  obtain ⟨h1, h2⟩ := hT x y hx hy
  rw [h2] at hc
  have hcc : (T x y).getD 0 = c := by simpa using congrArg Prod.fst hc
  rw [hr, h1, hcc]
end Go.Proofs.Ytcbfmjanjciodaa

/- Chapter 6: the cells of a plain pool as a map, by the program. -/
namespace Go.Proofs.Ytcbfmjanjciodaa
open Go.RowKit Go.Maps

theorem fr_kept {w w' : World} {l u : Nat} (K : Kept l u w w') {b o : Nat} (hb : b < w.heap.size) (hf : w.frozen? ⟨b, o, none⟩ = false) (hd : b < l ∨ u ≤ b) : w'.frozen? ⟨b, o, none⟩ = false := by
  rw [World.frozen?_of_block (w := w) (a := ⟨b, o, none⟩) (K.block b hb hd)]; exact hf
theorem RowAt.belowIn {w w' : World} {own : Bool} {lo hi size : Nat} {ao : Option Addr} {n cap : Nat} {cs : List Value} (h : RowAt w own lo hi size ao n cap cs) {B : Nat} (hb : Below B w w') (hB : hi ≤ B) : RowAt w' own lo hi size ao n cap cs := by
  refine ⟨h.len, h.le, fun hn => ?_⟩
  obtain ⟨b, off, rfl, h1, h2, h3, h4, h5⟩ := h.cells hn
  exact ⟨b, off, rfl, h1, h2, Nat.lt_of_lt_of_le h3 hb.size, fun i hi' => (hb.cell (p := ⟨b, off + i, none⟩) (Nat.lt_of_lt_of_le h2 hB)).trans (h4 i hi'), fun ho i hi' => (hb.frozen (p := ⟨b, off + i, none⟩) (Nat.lt_of_lt_of_le h2 hB)).trans (h5 ho i hi')⟩
def tabC (ce : List Vo) : Tab := ce.foldl (fun T c => putT T c.1 c.2.1 c.2.2) noTab
theorem tabC_take {ce : List Vo} {k : Nat} (h : k < ce.length) : tabC (ce.take (k + 1)) = putT (tabC (ce.take k)) (ce.getD k vo0).1 (ce.getD k vo0).2.1 (ce.getD k vo0).2.2 := by
  unfold tabC
  rw [List.take_succ_eq_append_getElem h, List.foldl_append, List.getD_eq_getElem?_getD, List.getElem?_eq_getElem h, Option.getD_some]
  rfl
/-- numbers that int64 has -/
def CellI (ce : List Vo) : Prop := ∀ i, i < ce.length → I64 (ce.getD i vo0).1 ∧ I64 (ce.getD i vo0).2.1 ∧ I64 (ce.getD i vo0).2.2
theorem vol_in {vs : List Vo} (h : pvFault vs = 0) {x : Int} (hx : 0 ≤ volPl vs x) : 1 ≤ x ∧ x ≤ 99 := by
  rcases volPl_is vs x with e | ⟨m, _, hm, e⟩
  · omega
  · have := (pvOne_ok (pv_ok h m hm)).1
    omega
theorem cellI_of {vs ce : List Vo} (h : pvFault vs = 0) (hc : ceFault vs ce = 0) : CellI ce := fun i hi => by
  have h1 := ceOne_ok (ce_ok hc i hi)
  have h2 := vol_in h h1.2.2.1
  exact ⟨i64_of (by omega), i64_of (by omega), i64_of (by omega)⟩
theorem trips_oneM (vs : List Vo) : ∀ u ∈ trips vs, u.oneCell' = true := fun u hu => by
  unfold trips flat3 at hu
  rw [List.mem_map] at hu
  obtain ⟨j, _, e⟩ := hu
  rw [← e]
  split
  · rfl
  · split <;> rfl
set_option maxRecDepth 20000 in
set_option maxHeartbeats 1000000 in
theorem cloneVo_is {o : Bool} {l u : Nat} (ab : Option Addr) (nb cb : Nat) (bs : List Vo) (w : World) (h : RowAt w o l u 3 ab nb cb (trips bs)) (hn : nb ≤ 1048576) :
    Calls Try.prog 109 #[.slice ab nb cb] w fun e w' => ∃ ra rc, e = .returned (.slice ra nb rc) ∧ RowAt w' true w.heap.size w'.heap.size 3 ra nb rc (trips bs) ∧ Below w.heap.size w w' := by
  obtain ⟨j0, hj0, hy0, hy1, hy2⟩ := info_parts Try.infoVol
  have hq : ∀ W, (binOp .eql 30 (.slice ab nb cb) (.slice none 0 0)).run Try.prog W = .ok (.bool ab.isNone) W := fun W => Lib.run_eql_slice_nil W _ _ ab nb cb 0 0 Try.underlying30
  cases ab with
  | none =>
    simp only [Option.isNone_none] at hq
    have hz : nb = 0 := Decidable.byContradiction fun hne => by obtain ⟨_, _, e, _⟩ := h.cells hne; cases e
    subst hz
    have hbs : trips bs = [] := List.eq_nil_of_length_eq_zero (by have := h.len; omega)
    rw [hbs]
    go_enter Try.func109, Try.ntmps109
    go_wp2
    go_ret
    exact ⟨none, 0, rfl, RowAt.nil _ _ _ _ _, Below.refl _ _⟩
  | some ad =>
    simp only [Option.isNone_some] at hq
    have B3 : Below w.heap.size w (w.alloc (.cells #[] 149)) := (Below.refl _ _).alloc (Nat.le_refl _) _
    obtain ⟨ad', cp, w4, hr4, R4, B4, -⟩ := run_append_fresh (P := Try.prog) (w.alloc (.cells #[] 149)) 30 30 149 j0 (.agg #[.int .i64 0, .int .i64 0, .int .i64 0]) 3 24 Try.underlying30 hj0 hy0 hy1 hy2 (by rw [hy1]; rfl) w.heap.size (some ad) nb cb (trips bs) (h.below B3) (trips_oneM bs) hn (by omega)
    go_enter Try.func109, Try.ntmps109
    go_wp2_with (at_builtin; refine Lib.wpList_append_run _ rfl _ _ _ _ rfl _ _ rfl rfl _ _ hr4 ?_)
    have B5 := below_next B3 B4
    have R5 : RowAt w4 true w.heap.size w4.heap.size 3 (some ad') nb cp (trips bs) := R4.widen (by simp) (Nat.le_refl _)
    clear B3 B4 R4 hr4
    go_wp2
    go_ret
    exact ⟨some ad', cp, rfl, R5, B5⟩

set_option maxRecDepth 20000 in
/-- a table of cells -/
def TblR (w w' : World) (e : Ending) (nv : Nat) (vs : List Vo) (T : Tab) : Prop := ∃ mb va vc n, e = .returned (.pointer (some ⟨mb + 1, 0, none⟩)) ∧ w'.cell? ⟨mb + 1, 0, none⟩ = some (.slice va nv vc) ∧ w'.cell? ⟨mb + 1, 1, none⟩ = some (.map (some mb)) ∧ w'.frozen? ⟨mb + 1, 0, none⟩ = false ∧ w'.frozen? ⟨mb + 1, 1, none⟩ = false ∧ RowAt w' true w.heap.size mb 3 va nv vc (trips vs) ∧ TabAt w' mb n T ∧ n ≤ 2097152 ∧ w.heap.size ≤ mb ∧ mb + 1 < w'.heap.size ∧ Below w.heap.size w w'
set_option maxRecDepth 20000 in
set_option maxHeartbeats 4000000 in
theorem tableOf_is {o : Bool} {lo hi : Nat} (bl : Int) (av : Option Addr) (nv cv : Nat) (ac : Option Addr) (nc cc : Nat) (ah : Option Addr) (nh ch : Nat) (vs ce : List Vo) (sh : List Int) (w : World) (h : PlAt w o lo hi av nv cv ac nc cc ah nh ch vs ce sh) (hnv : nv ≤ 1048576) (hnc : nc ≤ 1048576) (hI : CellI ce) : Calls Try.prog 87 #[.agg #[.int .i64 bl, .slice av nv cv, .slice ac nc cc, .slice ah nh ch]] w fun e w' => TblR w w' e nv vs (tabC ce) := by
  have hcl := h.cel.nTrips
  have HI : Hid _ := hI
  clear hI
  have hmm := @run_makeMap Try.prog
  go_enter Try.func87, Try.ntmps87
  go_wp2_with (first | ((with_reducible refine box_new 34 #[.int .i64 bl, .slice av nv cv, .slice ac nc cc, .slice ah nh ch] rfl ?_); intro b0 W0 N0; have O0 : Hid (w.heap.size ≤ b0) := N0.ge; have B := N0.below; have H0 : Hid (b0 < W0.heap.size) := N0.lt; have c0_0 : W0.cell? ⟨b0, 0, none⟩ = some (.int .i64 bl) := N0.cell 0 _ rfl; have c0_1 : W0.cell? ⟨b0, 1, none⟩ = some (.slice av nv cv) := N0.cell 1 _ rfl; have c0_2 : W0.cell? ⟨b0, 2, none⟩ = some (.slice ac nc cc) := N0.cell 2 _ rfl; have c0_3 : W0.cell? ⟨b0, 3, none⟩ = some (.slice ah nh ch) := N0.cell 3 _ rfl; clear N0) | fail)
  refine (cloneVo_is av nv cv vs _ (h.vol.below B) hnv).mono ?_
  rintro e w1 ⟨va, vc, rfl, R0, BB⟩
  have GL : Hid (w.heap.size ≤ W0.heap.size) := B.size
  have G0 : Hid (b0 < W0.heap.size) := H0.out
  have G1 : Hid (W0.heap.size ≤ w1.heap.size) := BB.size
  replace c0_0 := cell_later BB c0_0
  replace c0_1 := cell_later BB c0_1
  replace c0_2 := cell_later BB c0_2
  replace c0_3 := cell_later BB c0_3
  replace H0 : Hid (b0 < w1.heap.size) := Nat.lt_of_lt_of_le H0.out BB.size
  replace B := below_next B BB
  clear BB
  have AP : Below w1.heap.size w1 ((w1.alloc (.map #[] 0)).alloc (.cells #[.slice va nv vc, .map (some w1.heap.size)] 115)) := ((Below.refl _ _).alloc (Nat.le_refl _) _).alloc (by simp) _
  have TP : TabAt ((w1.alloc (.map #[] 0)).alloc (.cells #[.slice va nv vc, .map (some w1.heap.size)] 115)) w1.heap.size 0 noTab := (tab_made w1).below ((Below.refl _ _).alloc (Nat.le_refl _) _)
  have k0 : ((w1.alloc (.map #[] 0)).alloc (.cells #[.slice va nv vc, .map (some w1.heap.size)] 115)).cell? ⟨w1.heap.size + 1, 0, none⟩ = some (.slice va nv vc) := by simp
  have k1 : ((w1.alloc (.map #[] 0)).alloc (.cells #[.slice va nv vc, .map (some w1.heap.size)] 115)).cell? ⟨w1.heap.size + 1, 1, none⟩ = some (.map (some w1.heap.size)) := by simp
  have f0 : ((w1.alloc (.map #[] 0)).alloc (.cells #[.slice va nv vc, .map (some w1.heap.size)] 115)).frozen? ⟨w1.heap.size + 1, 0, none⟩ = false := by simp
  have f1 : ((w1.alloc (.map #[] 0)).alloc (.cells #[.slice va nv vc, .map (some w1.heap.size)] 115)).frozen? ⟨w1.heap.size + 1, 1, none⟩ = false := by simp
  have sP : Hid (((w1.alloc (.map #[] 0)).alloc (.cells #[.slice va nv vc, .map (some w1.heap.size)] 115)).heap.size = w1.heap.size + 1 + 1) := by show _ = _; simp
  have g2 := cell_later AP c0_2
  have BP : Below w.heap.size w ((w1.alloc (.map #[] 0)).alloc (.cells #[.slice va nv vc, .map (some w1.heap.size)] 115)) := below_next B AP
  replace R0 := R0.below AP
  go_wp2
  generalize hW : ((w1.alloc (.map #[] 0)).alloc (.cells #[.slice va nv vc, .map (some w1.heap.size)] 115)) = W at *
  clear hW
  have D1 : Hid (w.heap.size ≤ w1.heap.size) := Nat.le_trans GL.out G1.out
  have D2 : Hid (b0 < w1.heap.size) := Nat.lt_of_lt_of_le G0.out G1.out
  clear AP B c0_0 c0_1 c0_2 c0_3 H0
  go_loopw [15] (fun i wr => ∃ k : Nat, k ≤ nc ∧ i = .int .i64 k ∧ TabAt wr w1.heap.size k (tabC (ce.take k)) ∧ Below w1.heap.size W wr ∧ wr.cell? ⟨w1.heap.size + 1, 0, none⟩ = some (.slice va nv vc) ∧ wr.cell? ⟨w1.heap.size + 1, 1, none⟩ = some (.map (some w1.heap.size)) ∧ wr.frozen? ⟨w1.heap.size + 1, 0, none⟩ = false ∧ wr.frozen? ⟨w1.heap.size + 1, 1, none⟩ = false ∧ w1.heap.size + 1 < wr.heap.size) (fun i _ => nc - (intOf i).toNat)
  case atStart => exact ⟨0, Nat.zero_le _, rfl, TP, Below.refl _ _, k0, k1, f0, f1, by rw [sP.out]; exact Nat.lt_succ_self _⟩
  case round =>
    clear TP k0 k1 f0 f1
    obtain ⟨k, hk, rfl, T, C, k0, k1, f0, f1, hs⟩ := hrel
    have HS : Hid _ := hs
    clear hs
    have BX : Below w.heap.size w wr := BP.trans (C.mono D1.out)
    by_cases hlt : k < nc
    · have HT : Hid _ := tabC_take (ce := ce) (k := k) (by omega)
      have hi := HI.out k (by omega)
      obtain ⟨b, off, rfl, _, _, hbs, v0, v1, v2, _⟩ := h.cel.trip hlt
      replace v0 := cell_later BX v0
      replace v1 := cell_later BX v1
      replace v2 := cell_later BX v2
      have hlk : (k : Int) < (nc : Int) := by omega
      obtain ⟨⟨x, y, z⟩, hx⟩ : ∃ x, ce.getD k vo0 = x := ⟨_, rfl⟩
      rw [hx] at v0 v1 v2 HT hi
      simp only at v0 v1 v2 HT hi
      clear hx
      have HX : Hid _ := hi
      clear hi
      have A : Below wr.heap.size wr (wr.alloc (.cells #[.int .i64 x, .int .i64 y, .int .i64 z] 130)) := (Below.refl _ _).alloc (Nat.le_refl _) _
      have c0 : (wr.alloc (.cells #[.int .i64 x, .int .i64 y, .int .i64 z] 130)).cell? ⟨wr.heap.size, 0, none⟩ = some (.int .i64 x) := by simp
      have c1 : (wr.alloc (.cells #[.int .i64 x, .int .i64 y, .int .i64 z] 130)).cell? ⟨wr.heap.size, 1, none⟩ = some (.int .i64 y) := by simp
      have c2 : (wr.alloc (.cells #[.int .i64 x, .int .i64 y, .int .i64 z] 130)).cell? ⟨wr.heap.size, 2, none⟩ = some (.int .i64 z) := by simp
      have K0 := cell_later A k0
      have K1 := cell_later A k1
      have F0 := frozen_later A HS.out f0
      have F1 := frozen_later A HS.out f1
      have T1 := T.below A
      have C1 := C.trans (A.mono (Nat.le_of_lt (Nat.lt_of_succ_lt HS.out)))
      have HS1 : Hid (w1.heap.size + 1 < (wr.alloc (.cells #[.int .i64 x, .int .i64 y, .int .i64 z] 130)).heap.size) := Nat.lt_of_lt_of_le HS.out A.size
      have HW : Hid (wr.heap.size < (wr.alloc (.cells #[.int .i64 x, .int .i64 y, .int .i64 z] 130)).heap.size) := by show _ < _; simp
      go_wp2_with fail
      generalize hW2 : (wr.alloc (.cells #[.int .i64 x, .int .i64 y, .int .i64 z] 130)) = W2 at *
      clear hW2 v0 v1 v2 A k0 k1 f0 f1 T C
      have D : Below W2.heap.size W2 W2.drew := (Below.refl _ _).drew
      replace K0 := cell_later D K0
      replace K1 := cell_later D K1
      replace c0 := cell_later D c0
      replace c1 := cell_later D c1
      replace c2 := cell_later D c2
      replace F0 := frozen_later D HS1.out F0
      replace F1 := frozen_later D HS1.out F1
      replace T1 := T1.below D
      replace C1 := C1.trans (D.mono (Nat.le_of_lt (Nat.lt_of_succ_lt HS1.out)))
      replace HW : Hid (wr.heap.size < W2.drew.heap.size) := Nat.lt_of_lt_of_le HW.out D.size
      replace HS1 : Hid (w1.heap.size + 1 < W2.drew.heap.size) := Nat.lt_of_lt_of_le HS1.out D.size
      clear D
      go_region_held3 (fun w' => w'.cell? ⟨w1.heap.size + 1, 1, none⟩ = some (.map (some w1.heap.size)) ∧ w'.cell? ⟨wr.heap.size, 0, none⟩ = some (.int .i64 x) ∧ w'.cell? ⟨wr.heap.size, 1, none⟩ = some (.int .i64 y) ∧ w'.cell? ⟨wr.heap.size, 2, none⟩ = some (.int .i64 z)) (first | with_reducible exact ⟨K1, c0, c1, c2⟩ | with_reducible exact ⟨M1, m0, m1, m2⟩)
        (first | (go_at_call 161; (with_reducible refine (spotOf_is x y z _).mono ?_); rintro e w5 ⟨rfl, B5⟩; replace K0 := cell_later B5 K0; replace K1 := cell_later B5 K1; replace c0 := cell_later B5 c0; replace c1 := cell_later B5 c1; replace c2 := cell_later B5 c2; replace F0 := frozen_later B5 HS1.out F0; replace F1 := frozen_later B5 HS1.out F1; replace T1 := T1.below B5; replace C1 := C1.trans (B5.mono (Nat.le_of_lt (Nat.lt_of_succ_lt HS1.out))); replace HW : Hid (wr.heap.size < w5.heap.size) := Nat.lt_of_lt_of_le HW.out B5.size; replace HS1 : Hid (w1.heap.size + 1 < w5.heap.size) := Nat.lt_of_lt_of_le HS1.out B5.size; clear B5; obtain ⟨w6, hr6, T6, K6⟩ := tab_put T1 (by unfold maxLen; omega) HX.out.1 HX.out.2.1 HX.out.2.2; have M1 := K6.cell K1 (Or.inr (Nat.le_refl _)); have M0 := K6.cell K0 (Or.inr (Nat.le_refl _)); have m0 := K6.cell c0 (Or.inr (Nat.succ_le_of_lt (Nat.lt_of_succ_lt HS.out))); have m1 := K6.cell c1 (Or.inr (Nat.succ_le_of_lt (Nat.lt_of_succ_lt HS.out))); have m2 := K6.cell c2 (Or.inr (Nat.succ_le_of_lt (Nat.lt_of_succ_lt HS.out)))))
      have T7 : TabAt w6 w1.heap.size (k + 1) (tabC (ce.take (k + 1))) := by rw [HT.out]; exact T6
      have f6 := fr_kept K6 HS1.out F0 (Or.inr (Nat.le_refl _))
      have f7 := fr_kept K6 HS1.out F1 (Or.inr (Nat.le_refl _))
      have C6 : Below w1.heap.size W w6 := C1.trans (K6.below _ (Nat.le_refl _) (Nat.le_of_lt (Nat.lt_of_succ_lt HS1.out)))
      have s6 := Nat.lt_of_lt_of_le HS1.out K6.size
      clear T6 T1 C1 K0 K1 F0 F1 c0 c1 c2 m0 m1 m2 hr6 K6 HT
      go_wp2
      go_roundw
      case rel => exact ⟨k + 1, by omega, by go_num, T7, C6, M0, M1, f6, f7, s6⟩
      case measure => simp [intOf]; omega
    · obtain rfl : k = nc := by omega
      rw [show ce.take k = ce from List.take_of_length_le (by omega)] at T
      have R1 : RowAt wr true w.heap.size w1.heap.size 3 va nv vc (trips vs) := (R0.belowIn C (Nat.le_refl _)).widen GL.out (Nat.le_refl _)
      go_wp2
      go_ret
      exact ⟨w1.heap.size, va, vc, k, rfl, k0, k1, f0, f1, R1, T, by omega, D1.out, HS.out, BX⟩

end Go.Proofs.Ytcbfmjanjciodaa

/- Chapter 6: the place of a cell; CellIn of both. -/
namespace Go.Proofs.Ytcbfmjanjciodaa
open Go.RowKit Go.Maps

def cellFrom (ce : List Vo) (x y : Int) : Nat → Nat → Int
  | 0, _ => -1
  | n + 1, k => if (ce.getD k vo0).1 = x ∧ (ce.getD k vo0).2.1 = y then (k : Int) else cellFrom ce x y n (k + 1)
def cellPl (ce : List Vo) (x y : Int) : Int := cellFrom ce x y ce.length 0
theorem cellFrom_step {ce : List Vo} {x y : Int} {k : Nat} (h : k < ce.length) : cellFrom ce x y (ce.length - k) k = if (ce.getD k vo0).1 = x ∧ (ce.getD k vo0).2.1 = y then (k : Int) else cellFrom ce x y (ce.length - (k + 1)) (k + 1) := by
  rw [show ce.length - k = ce.length - (k + 1) + 1 by omega]; rfl
theorem cellFrom_end {ce : List Vo} {x y : Int} {k : Nat} (h : ce.length ≤ k) : cellFrom ce x y (ce.length - k) k = -1 := by
  rw [show ce.length - k = 0 by omega]; rfl
theorem cellFrom_is (ce : List Vo) (x y : Int) (n k : Nat) : (cellFrom ce x y n k = -1 ∧ ∀ m, k ≤ m → m < k + n → ¬ ((ce.getD m vo0).1 = x ∧ (ce.getD m vo0).2.1 = y)) ∨ ∃ m : Nat, cellFrom ce x y n k = m ∧ k ≤ m ∧ m < k + n ∧ (ce.getD m vo0).1 = x ∧ (ce.getD m vo0).2.1 = y := by
  induction n generalizing k with
  | zero => exact Or.inl ⟨rfl, fun m h1 h2 => by omega⟩
  | succ n ih =>
    unfold cellFrom
    by_cases h : (ce.getD k vo0).1 = x ∧ (ce.getD k vo0).2.1 = y
    · rw [if_pos h]; exact Or.inr ⟨k, rfl, Nat.le_refl _, by omega, h⟩
    · rw [if_neg h]
      rcases ih (k + 1) with ⟨e, ha⟩ | ⟨m, e, h1, h2, h3⟩
      · refine Or.inl ⟨e, fun m h1 h2 => ?_⟩
        by_cases e2 : m = k
        · subst e2; exact h
        · exact ha m (by omega) (by omega)
      · exact Or.inr ⟨m, e, by omega, by omega, h3⟩
theorem cellPl_is (ce : List Vo) (x y : Int) : (cellPl ce x y = -1 ∧ ∀ m, m < ce.length → ¬ ((ce.getD m vo0).1 = x ∧ (ce.getD m vo0).2.1 = y)) ∨ ∃ m : Nat, cellPl ce x y = m ∧ m < ce.length ∧ (ce.getD m vo0).1 = x ∧ (ce.getD m vo0).2.1 = y := by
  rcases cellFrom_is ce x y ce.length 0 with ⟨e, h⟩ | ⟨m, e, _, h2, h3⟩
  · exact Or.inl ⟨e, fun m hm => h m (Nat.zero_le _) (by omega)⟩
  · exact Or.inr ⟨m, e, by omega, h3⟩
theorem ahead_trans {a b c : Vo} (h1 : aheadB a b = true) (h2 : aheadB b c = true) : aheadB a c = true := by
  unfold aheadB at *
  split at h1 <;> split at h2 <;> split <;> simp at * <;> omega
theorem ahead_not {a c : Vo} (h : aheadB a c = true) : ¬ (a.1 = c.1 ∧ a.2.1 = c.2.1) := fun ⟨e1, e2⟩ => by
  unfold aheadB at h
  rw [if_pos e1] at h
  simp at h
  omega
theorem ahead_all {vs ce : List Vo} (h : ceFault vs ce = 0) {i : Nat} : ∀ d, i + d + 1 < ce.length → aheadB (ce.getD i vo0) (ce.getD (i + d + 1) vo0) = true := by
  intro d
  induction d with
  | zero =>
    intro hd
    have := (ceOne_ok (ce_ok h (i + 0 + 1) hd)).2.2.2
    rcases this with e | e
    · omega
    · rwa [show i + 0 + 1 - 1 = i by omega] at e
  | succ d ih =>
    intro hd
    have h1 := ih (by omega)
    have := (ceOne_ok (ce_ok h (i + (d + 1) + 1) hd)).2.2.2
    rcases this with e | e
    · omega
    · rw [show i + (d + 1) + 1 - 1 = i + d + 1 by omega] at e
      exact ahead_trans h1 e
/-- no place twice -/
def CellU (ce : List Vo) : Prop := ∀ i j, i < ce.length → j < ce.length → (ce.getD i vo0).1 = (ce.getD j vo0).1 → (ce.getD i vo0).2.1 = (ce.getD j vo0).2.1 → i = j
theorem cellU_of {vs ce : List Vo} (h : ceFault vs ce = 0) : CellU ce := fun i j hi hj e1 e2 => by
  rcases Nat.lt_trichotomy i j with l | l | l
  · have := ahead_all h (i := i) (j - i - 1) (by omega)
    rw [show i + (j - i - 1) + 1 = j by omega] at this
    exact absurd ⟨e1, e2⟩ (ahead_not this)
  · exact l
  · have := ahead_all h (i := j) (i - j - 1) (by omega)
    rw [show j + (i - j - 1) + 1 = i by omega] at this
    exact absurd ⟨e1.symm, e2.symm⟩ (ahead_not this)
theorem tabC_none {ce : List Vo} {x y : Int} : ∀ k, k ≤ ce.length → (∀ m, m < k → ¬ ((ce.getD m vo0).1 = x ∧ (ce.getD m vo0).2.1 = y)) → tabC (ce.take k) x y = none := by
  intro k
  induction k with
  | zero => intro _ _; rfl
  | succ k ih =>
    intro hk hn
    rw [tabC_take (by omega)]
    unfold putT
    rw [if_neg (fun e => hn k (by omega) ⟨e.1.symm, e.2.symm⟩)]
    exact ih (by omega) fun m hm => hn m (by omega)
theorem tabC_some {ce : List Vo} (hu : CellU ce) {m : Nat} (hm : m < ce.length) : ∀ k, k ≤ ce.length → m < k → tabC (ce.take k) (ce.getD m vo0).1 (ce.getD m vo0).2.1 = some (ce.getD m vo0).2.2 := by
  intro k
  induction k with
  | zero => intro _ h; omega
  | succ k ih =>
    intro hk hmk
    rw [tabC_take (by omega)]
    unfold putT
    by_cases e : m = k
    · subst e; rw [if_pos ⟨rfl, rfl⟩]
    · rw [if_neg (fun q => e (hu m k hm (by omega) q.1 q.2))]
      exact ih (by omega) (by omega)
theorem tabC_is {ce : List Vo} (hu : CellU ce) (x y : Int) : tabC ce x y = if cellPl ce x y < 0 then none else some (ce.getD (cellPl ce x y).toNat vo0).2.2 := by
  have ht : ce.take ce.length = ce := List.take_of_length_le (Nat.le_refl _)
  rcases cellPl_is ce x y with ⟨e, h⟩ | ⟨m, e, hm, h1, h2⟩
  · rw [e, if_pos (by decide), ← ht]
    exact tabC_none _ (Nat.le_refl _) h
  · rw [e, if_neg (by omega), Int.toNat_natCast]
    have := tabC_some hu hm ce.length (Nat.le_refl _) hm
    rw [ht, h1, h2] at this
    exact this
def cellC (bl : Int) (vs ce : List Vo) (sh : List Int) (x y : Int) : Int := if plFault bl vs ce sh = 0 then (if cellPl ce x y < 0 then 4 else 0) else plFault bl vs ce sh
def cellV (bl : Int) (vs ce : List Vo) (sh : List Int) (x y : Int) : Int := if cellC bl vs ce sh x y = 0 then (ce.getD (cellPl ce x y).toNat vo0).2.2 else 0
set_option maxRecDepth 20000 in
set_option maxHeartbeats 4000000 in
theorem look_is (mb n : Nat) (T : Tab) (w : World) (k1 : w.cell? ⟨mb + 1, 1, none⟩ = some (.map (some mb))) (hT : TabAt w mb n T) (x y : Int) (hx : I64 x) (hy : I64 y) (r : Option Int) (hr : T x y = r) : Calls Try.prog 88 #[.pointer (some ⟨mb + 1, 0, none⟩), .agg #[.int .i64 x, .int .i64 y]] w fun e w' => e = .returned (.agg #[.int .i64 (if r.isSome then 0 else 4), .int .i64 (r.getD 0)]) ∧ Below w.heap.size w w' := by
  have HR : Hid _ := hr
  have HX : Hid _ := hx
  have HY : Hid _ := hy
  clear hr hx hy
  obtain ⟨v, hv⟩ : ∃ v, r.getD 0 = v := ⟨_, rfl⟩
  obtain ⟨d, hd⟩ : ∃ d, r.isSome = d := ⟨_, rfl⟩
  have HV : Hid ((T x y).getD 0 = v) := by show _ = _; rw [HR.out]; exact hv
  have HD : Hid ((T x y).isSome = d) := by show _ = _; rw [HR.out]; exact hd
  rw [hv, hd]
  clear hv hd
  go_enter Try.func88, Try.ntmps88
  go_wp2_with (first | ((with_reducible refine box_new 134 #[.int .i64 x, .int .i64 y] rfl ?_); intro b0 W0 N0; have O0 : Hid (w.heap.size ≤ b0) := N0.ge; have B := N0.below; have H0 : Hid (b0 < W0.heap.size) := N0.lt; have c0_0 : W0.cell? ⟨b0, 0, none⟩ = some (.int .i64 x) := N0.cell 0 _ rfl; have c0_1 : W0.cell? ⟨b0, 1, none⟩ = some (.int .i64 y) := N0.cell 1 _ rfl; clear N0) | ((with_reducible refine alloc_new 59 #[.int .i64 0, .int .i64 0] (fun _ => by kernel_rfl) ?_); intro b1 W1 N1; have O1 : Hid (b0 < b1) := Nat.lt_of_lt_of_le H0.out N1.ge; replace c0_0 := cell_later N1.below c0_0; replace c0_1 := cell_later N1.below c0_1; replace H0 : Hid (b0 < W1.heap.size) := Nat.lt_of_lt_of_le H0.out N1.below.size; replace B := below_next B N1.below; have H1 : Hid (b1 < W1.heap.size) := N1.lt; have c1_0 : W1.cell? ⟨b1, 0, none⟩ = some (.int .i64 0) := N1.cell 0 _ rfl; have c1_1 : W1.cell? ⟨b1, 1, none⟩ = some (.int .i64 0) := N1.cell 1 _ rfl; have y1_0 : W1.frozen? ⟨b1, 0, none⟩ = false := N1.froz 0; have y1_1 : W1.frozen? ⟨b1, 1, none⟩ = false := N1.froz 1; clear N1) | fail)
  have K1 := cell_later B k1
  have TW := hT.below B
  clear k1 hT
  have D : Below W1.heap.size W1 W1.drew := (Below.refl _ _).drew
  replace c0_0 := cell_later D c0_0
  replace c0_1 := cell_later D c0_1
  replace H0 : Hid (b0 < W1.drew.heap.size) := Nat.lt_of_lt_of_le H0.out D.size
  replace c1_0 := cell_later D c1_0
  replace c1_1 := cell_later D c1_1
  replace y1_0 := frozen_later D H1.out y1_0
  replace y1_1 := frozen_later D H1.out y1_1
  replace H1 : Hid (b1 < W1.drew.heap.size) := Nat.lt_of_lt_of_le H1.out D.size
  replace B := below_next B D
  replace K1 := cell_later D K1
  replace TW := TW.below D
  clear D
  have hl := tab_look TW HX.out HY.out
  rw [HV.out, HD.out] at hl
  go_region_held3 (fun w' => w'.cell? ⟨mb + 1, 1, none⟩ = some (.map (some mb)) ∧ w'.cell? ⟨b0, 0, none⟩ = some (.int .i64 x) ∧ w'.cell? ⟨b0, 1, none⟩ = some (.int .i64 y)) (with_reducible exact ⟨K1, c0_0, c0_1⟩)
    (fail)
  clear hl
  generalize hW9 : W1.drew = W9 at *
  clear hW9
  cases d with
  | false =>
    have e0 : v = 0 := by have := HD.out; have q := HV.out; cases hh : T x y with | none => rw [hh] at q; exact q.symm | some _ => rw [hh] at this; cases this
    subst e0
    go_wp2
    refine bodyPost_ret (v := .agg #[.int .i64 4, .int .i64 0]) (by simp [results, Try.results88, go_sem, c1_0, c1_1]) rfl ?_
    have KZ : Kept b1 (b1 + 1) W9 ((W9.setCell ⟨b1, 0, none⟩ (.int .i64 4)).setCell ⟨b1, 1, none⟩ (.int .i64 0)) := by refine Kept.setCell (Kept.setCell (Kept.refl _ _ _) ?_ ?_ _) ?_ ?_ _ <;> simp
    exact ⟨rfl, B.trans (KZ.below _ (Nat.le_trans O0.out (by have q1 := O1.out; omega)) B.size)⟩
  | true =>
    go_wp2
    refine bodyPost_ret (v := .agg #[.int .i64 0, .int .i64 v]) (by simp [results, Try.results88, go_sem, c1_0, c1_1]) rfl ?_
    have KZ : Kept b1 (b1 + 1) W9 ((W9.setCell ⟨b1, 0, none⟩ (.int .i64 0)).setCell ⟨b1, 1, none⟩ (.int .i64 v)) := by refine Kept.setCell (Kept.setCell (Kept.refl _ _ _) ?_ ?_ _) ?_ ?_ _ <;> simp
    exact ⟨rfl, B.trans (KZ.below _ (Nat.le_trans O0.out (by have q1 := O1.out; omega)) B.size)⟩

set_option maxRecDepth 20000 in
set_option maxHeartbeats 4000000 in
theorem implCellIn_is {o : Bool} {lo hi : Nat} (bl : Int) (av : Option Addr) (nv cv : Nat) (ac : Option Addr) (nc cc : Nat) (ah : Option Addr) (nh ch : Nat) (vs ce : List Vo) (sh : List Int) (w : World) (h : PlAt w o lo hi av nv cv ac nc cc ah nh ch vs ce sh) (hnv : nv ≤ 2097152) (hnc : nc ≤ 2097152) (hnh : nh ≤ 2097152) (x y : Int) (hx : I64 x) (hy : I64 y) (cd vl : Int) (hc : cellC bl vs ce sh x y = cd) (hv : cellV bl vs ce sh x y = vl) : Calls Try.prog 29 #[.agg #[.int .i64 bl, .slice av nv cv, .slice ac nc cc, .slice ah nh ch], .int .i64 x, .int .i64 y] w fun e w' => e = .returned (.agg #[.int .i64 cd, .int .i64 vl]) ∧ Below w.heap.size w w' := by
  have hvl := h.vol.nTrips
  have hcl := h.cel.nTrips
  have HC : Hid _ := hc
  have HV : Hid _ := hv
  clear hc hv
  have HX : Hid _ := hx
  have HY : Hid _ := hy
  clear hx hy
  obtain ⟨pf, hpf⟩ : ∃ p, plFault bl vs ce sh = p := ⟨_, rfl⟩
  have HP : Hid _ := hpf
  clear hpf
  go_enter Try.func29, Try.ntmps29
  go_wp2_with (first | ((with_reducible refine box_new 34 #[.int .i64 bl, .slice av nv cv, .slice ac nc cc, .slice ah nh ch] rfl ?_); intro b0 W0 N0; have O0 : Hid (w.heap.size ≤ b0) := N0.ge; have B := N0.below; have H0 : Hid (b0 < W0.heap.size) := N0.lt; have c0_0 : W0.cell? ⟨b0, 0, none⟩ = some (.int .i64 bl) := N0.cell 0 _ rfl; have c0_1 : W0.cell? ⟨b0, 1, none⟩ = some (.slice av nv cv) := N0.cell 1 _ rfl; have c0_2 : W0.cell? ⟨b0, 2, none⟩ = some (.slice ac nc cc) := N0.cell 2 _ rfl; have c0_3 : W0.cell? ⟨b0, 3, none⟩ = some (.slice ah nh ch) := N0.cell 3 _ rfl; clear N0) | ((with_reducible refine alloc_new 59 #[.int .i64 0, .int .i64 0] (fun _ => by kernel_rfl) ?_); intro b1 W1 N1; have O1 : Hid (b0 < b1) := Nat.lt_of_lt_of_le H0.out N1.ge; replace c0_0 := cell_later N1.below c0_0; replace c0_1 := cell_later N1.below c0_1; replace c0_2 := cell_later N1.below c0_2; replace c0_3 := cell_later N1.below c0_3; replace H0 : Hid (b0 < W1.heap.size) := Nat.lt_of_lt_of_le H0.out N1.below.size; replace B := below_next B N1.below; have H1 : Hid (b1 < W1.heap.size) := N1.lt; have c1_0 : W1.cell? ⟨b1, 0, none⟩ = some (.int .i64 0) := N1.cell 0 _ rfl; have c1_1 : W1.cell? ⟨b1, 1, none⟩ = some (.int .i64 0) := N1.cell 1 _ rfl; have y1_0 : W1.frozen? ⟨b1, 0, none⟩ = false := N1.froz 0; have y1_1 : W1.frozen? ⟨b1, 1, none⟩ = false := N1.froz 1; clear N1) | fail)
  refine (implPlF_is bl av nv cv ac nc cc ah nh ch vs ce sh _ (h.below B) hnv hnc hnh pf HP.out).mono ?_
  rintro e w1 ⟨rfl, BB⟩
  replace c0_0 := cell_later BB c0_0
  replace c0_1 := cell_later BB c0_1
  replace c0_2 := cell_later BB c0_2
  replace c0_3 := cell_later BB c0_3
  replace H0 : Hid (b0 < w1.heap.size) := Nat.lt_of_lt_of_le H0.out BB.size
  replace c1_0 := cell_later BB c1_0
  replace c1_1 := cell_later BB c1_1
  replace y1_0 := frozen_later BB H1.out y1_0
  replace y1_1 := frozen_later BB H1.out y1_1
  replace H1 : Hid (b1 < w1.heap.size) := Nat.lt_of_lt_of_le H1.out BB.size
  replace B := below_next B BB
  clear BB
  by_cases z : pf = 0
  rotate_left 1
  · have hz : (pf != 0) = true := by simp [z]
    have e0 : cd = pf := by rw [← HC.out]; unfold cellC; rw [HP.out, if_neg z]
    have e1 : vl = 0 := by rw [← HV.out]; unfold cellV; rw [HC.out, e0, if_neg z]
    subst e0 e1
    go_wp2
    refine bodyPost_ret (v := .agg #[.int .i64 cd, .int .i64 0]) (by simp [results, Try.results29, go_sem, c1_0, c1_1]) rfl ?_
    have KZ : Kept b1 (b1 + 1) w1 ((w1.setCell ⟨b1, 0, none⟩ (.int .i64 cd)).setCell ⟨b1, 1, none⟩ (.int .i64 0)) := by refine Kept.setCell (Kept.setCell (Kept.refl _ _ _) ?_ ?_ _) ?_ ?_ _ <;> simp
    exact ⟨rfl, B.trans (KZ.below _ (Nat.le_trans O0.out (by have q1 := O1.out; omega)) B.size)⟩
  have hz : (pf != 0) = false := by simp [z]
  subst z
  have OK := pl_ok HP.out
  have HI : Hid _ := cellI_of OK.2.2.1 OK.2.2.2.2.1
  have HU : Hid _ := cellU_of OK.2.2.2.2.1
  have o1 : nv ≤ 1048576 := by omega
  have o2 : nc ≤ 1048576 := by omega
  clear OK
  have HT : Hid (tabC ce x y = if cellPl ce x y < 0 then none else some (ce.getD (cellPl ce x y).toNat vo0).2.2) := tabC_is HU.out x y
  have HK : Hid (cd = if cellPl ce x y < 0 then 4 else 0) := by show _ = _; rw [← HC.out]; unfold cellC; rw [HP.out, if_pos rfl]
  have HL : Hid (vl = if cellPl ce x y < 0 then 0 else (ce.getD (cellPl ce x y).toNat vo0).2.2) := by show _ = _; rw [← HV.out]; unfold cellV; rw [HC.out, HK.out]; split <;> simp
  obtain ⟨r, hr⟩ : ∃ r, tabC ce x y = r := ⟨_, rfl⟩
  have HR1 : Hid ((if r.isSome then 0 else 4 : Int) = cd) := by show _ = _; rw [← hr, HT.out, HK.out]; split <;> simp
  have HR2 : Hid (r.getD 0 = vl) := by show _ = _; rw [← hr, HT.out, HL.out]; split <;> simp
  have HRR : Hid _ := hr
  clear hr HT HK HL
  go_wp2_with fail
  refine (tableOf_is bl av nv cv ac nc cc ah nh ch vs ce sh _ (h.below B) o1 o2 HI.out).mono ?_
  rintro e w2 ⟨mb, va, vc, n, rfl, k0, k1, f0, f1, R0, T0, hn, m1, m2, BB⟩
  replace c0_0 := cell_later BB c0_0
  replace c0_1 := cell_later BB c0_1
  replace c0_2 := cell_later BB c0_2
  replace c0_3 := cell_later BB c0_3
  replace H0 : Hid (b0 < w2.heap.size) := Nat.lt_of_lt_of_le H0.out BB.size
  replace c1_0 := cell_later BB c1_0
  replace c1_1 := cell_later BB c1_1
  replace y1_0 := frozen_later BB H1.out y1_0
  replace y1_1 := frozen_later BB H1.out y1_1
  replace H1 : Hid (b1 < w2.heap.size) := Nat.lt_of_lt_of_le H1.out BB.size
  replace B := below_next B BB
  clear BB
  clear k0 f0 f1 R0 hn m1 m2
  go_wp2_with fail
  refine (look_is mb n (tabC ce) _ k1 T0 x y HX.out HY.out r HRR.out).mono ?_
  rintro e w3 ⟨rfl, BB⟩
  replace c0_0 := cell_later BB c0_0
  replace c0_1 := cell_later BB c0_1
  replace c0_2 := cell_later BB c0_2
  replace c0_3 := cell_later BB c0_3
  replace H0 : Hid (b0 < w3.heap.size) := Nat.lt_of_lt_of_le H0.out BB.size
  replace c1_0 := cell_later BB c1_0
  replace c1_1 := cell_later BB c1_1
  replace y1_0 := frozen_later BB H1.out y1_0
  replace y1_1 := frozen_later BB H1.out y1_1
  replace H1 : Hid (b1 < w3.heap.size) := Nat.lt_of_lt_of_le H1.out BB.size
  replace B := below_next B BB
  clear BB
  rw [HR1.out, HR2.out]
  go_wp2
  refine bodyPost_ret (v := .agg #[.int .i64 cd, .int .i64 vl]) (by simp [results, Try.results29, go_sem, c1_0, c1_1]) rfl ?_
  have KZ : Kept b1 (b1 + 1) w3 ((w3.setCell ⟨b1, 0, none⟩ (.int .i64 cd)).setCell ⟨b1, 1, none⟩ (.int .i64 vl)) := by refine Kept.setCell (Kept.setCell (Kept.refl _ _ _) ?_ ?_ _) ?_ ?_ _ <;> simp
  exact ⟨rfl, B.trans (KZ.below _ (Nat.le_trans O0.out (by have q1 := O1.out; omega)) B.size)⟩

section
variable {o2 : Bool} {l2 u2 : Nat} (p : Nat) (ac : Option Addr) (nc cc : Nat) (ce : List Vo) (w : World) (hv : RowAt w o2 l2 u2 3 ac nc cc (trips ce)) (hp2 : w.cell? ⟨p, 2, none⟩ = some (.slice ac nc cc)) (hvn : nc ≤ 2097152)
include hv hp2 hvn
set_option maxRecDepth 20000 in
set_option maxHeartbeats 4000000 in
theorem l6At_is (x y : Int) (d : Int) (hd : cellPl ce x y = d) : Calls Try.prog 86 #[.pointer (some ⟨p, 0, none⟩), .int .i64 x, .int .i64 y] w fun e w' => e = .returned (.int .i64 d) ∧ w' = w := by
  have hvl := hv.nTrips
  have HD : Hid _ := hd
  clear hd
  go_enter Try.func86, Try.ntmps86
  go_wp2
  go_loopw [7] (fun i wr => ∃ k : Nat, k ≤ nc ∧ i = .int .i64 k ∧ cellPl ce x y = cellFrom ce x y (nc - k) k ∧ wr = w) (fun i _ => nc - (intOf i).toNat)
  case atStart => exact ⟨0, Nat.zero_le _, rfl, by rw [Nat.sub_zero, ← hvl]; rfl, rfl⟩
  case round =>
    obtain ⟨k, hk, rfl, ha, rfl⟩ := hrel
    have HA : Hid _ := ha
    clear ha
    by_cases hlt : k < nc
    · have HS : Hid _ := cellFrom_step (ce := ce) (x := x) (y := y) (k := k) (by omega)
      rw [hvl] at HS
      obtain ⟨b, off, rfl, _, _, hbs, v0, v1, _, _⟩ := hv.trip hlt
      have hlk : (k : Int) < (nc : Int) := by omega
      obtain ⟨a, hxa⟩ : ∃ x, (ce.getD k vo0).1 = x := ⟨_, rfl⟩
      obtain ⟨b1, hxb⟩ : ∃ x, (ce.getD k vo0).2.1 = x := ⟨_, rfl⟩
      rw [hxa] at v0 HS
      rw [hxb] at v1 HS
      clear hxa hxb
      by_cases e1 : a = x
      · by_cases e2 : b1 = y
        · have d1 : (a == x) = true := by simp [e1]
          have d2 : (b1 == y) = true := by simp [e2]
          have HE : Hid (cellPl ce x y = (k : Int)) := HA.out.trans (HS.out.trans (if_pos ⟨e1, e2⟩))
          clear HS HA e1 e2
          go_wp2
          go_ret
          exact ⟨ret_int (by rw [← HD.out, HE.out]), rfl⟩
        · have d1 : (a == x) = true := by simp [e1]
          have d2 : (b1 == y) = false := by simp [e2]
          have HE : Hid _ := HA.out.trans (HS.out.trans (if_neg (fun q => e2 q.2)))
          clear HS HA e1 e2
          go_wp2
          go_roundw
          case rel => exact ⟨k + 1, by omega, by go_num, HE.out, by first | rfl | trivial⟩
          case measure => simp [intOf]; omega
      · have d1 : (a == x) = false := by simp [e1]
        have HE : Hid _ := HA.out.trans (HS.out.trans (if_neg (fun q => e1 q.1)))
        clear HS HA e1
        go_wp2
        go_roundw
        case rel => exact ⟨k + 1, by omega, by go_num, HE.out, by first | rfl | trivial⟩
        case measure => simp [intOf]; omega
    · obtain rfl : k = nc := by omega
      have HE : Hid (cellPl ce x y = -1) := by show _ = _; rw [HA.out, ← hvl]; exact cellFrom_end (Nat.le_refl _)
      go_wp2
      go_ret
      exact ⟨ret_int (by rw [← HD.out, HE.out]), rfl⟩
end

set_option maxRecDepth 20000 in
set_option maxHeartbeats 4000000 in
theorem specCellIn_is {o : Bool} {lo hi : Nat} (bl : Int) (av : Option Addr) (nv cv : Nat) (ac : Option Addr) (nc cc : Nat) (ah : Option Addr) (nh ch : Nat) (vs ce : List Vo) (sh : List Int) (w : World) (h : PlAt w o lo hi av nv cv ac nc cc ah nh ch vs ce sh) (hnv : nv ≤ 2097152) (hnc : nc ≤ 2097152) (hnh : nh ≤ 2097152) (x y : Int) (cd vl : Int) (hc : cellC bl vs ce sh x y = cd) (hv : cellV bl vs ce sh x y = vl) : Calls Try.prog 28 #[.agg #[.int .i64 bl, .slice av nv cv, .slice ac nc cc, .slice ah nh ch], .int .i64 x, .int .i64 y] w fun e w' => e = .returned (.agg #[.int .i64 cd, .int .i64 vl]) ∧ Below w.heap.size w w' := by
  have hvl := h.vol.nTrips
  have hcl := h.cel.nTrips
  have HC : Hid _ := hc
  have HV : Hid _ := hv
  clear hc hv
  obtain ⟨pf, hpf⟩ : ∃ p, plFault bl vs ce sh = p := ⟨_, rfl⟩
  have HP : Hid _ := hpf
  clear hpf
  obtain ⟨q, hq⟩ : ∃ q, cellPl ce x y = q := ⟨_, rfl⟩
  have HQ : Hid _ := hq
  clear hq
  go_enter Try.func28, Try.ntmps28
  go_wp2_with (first | ((with_reducible refine box_new 34 #[.int .i64 bl, .slice av nv cv, .slice ac nc cc, .slice ah nh ch] rfl ?_); intro b0 W0 N0; have O0 : Hid (w.heap.size ≤ b0) := N0.ge; have B := N0.below; have H0 : Hid (b0 < W0.heap.size) := N0.lt; have c0_0 : W0.cell? ⟨b0, 0, none⟩ = some (.int .i64 bl) := N0.cell 0 _ rfl; have c0_1 : W0.cell? ⟨b0, 1, none⟩ = some (.slice av nv cv) := N0.cell 1 _ rfl; have c0_2 : W0.cell? ⟨b0, 2, none⟩ = some (.slice ac nc cc) := N0.cell 2 _ rfl; have c0_3 : W0.cell? ⟨b0, 3, none⟩ = some (.slice ah nh ch) := N0.cell 3 _ rfl; clear N0) | ((with_reducible refine alloc_new 59 #[.int .i64 0, .int .i64 0] (fun _ => by kernel_rfl) ?_); intro b1 W1 N1; have O1 : Hid (b0 < b1) := Nat.lt_of_lt_of_le H0.out N1.ge; replace c0_0 := cell_later N1.below c0_0; replace c0_1 := cell_later N1.below c0_1; replace c0_2 := cell_later N1.below c0_2; replace c0_3 := cell_later N1.below c0_3; replace H0 : Hid (b0 < W1.heap.size) := Nat.lt_of_lt_of_le H0.out N1.below.size; replace B := below_next B N1.below; have H1 : Hid (b1 < W1.heap.size) := N1.lt; have c1_0 : W1.cell? ⟨b1, 0, none⟩ = some (.int .i64 0) := N1.cell 0 _ rfl; have c1_1 : W1.cell? ⟨b1, 1, none⟩ = some (.int .i64 0) := N1.cell 1 _ rfl; have y1_0 : W1.frozen? ⟨b1, 0, none⟩ = false := N1.froz 0; have y1_1 : W1.frozen? ⟨b1, 1, none⟩ = false := N1.froz 1; clear N1) | fail)
  refine (l6Fault_is b0 bl av nv cv ac nc cc ah nh ch vs ce sh _ (h.below B) c0_0 c0_1 c0_2 c0_3 hnv hnc hnh pf HP.out).mono ?_
  rintro e w1 ⟨rfl, BB⟩
  replace c0_0 := cell_later BB c0_0
  replace c0_1 := cell_later BB c0_1
  replace c0_2 := cell_later BB c0_2
  replace c0_3 := cell_later BB c0_3
  replace H0 : Hid (b0 < w1.heap.size) := Nat.lt_of_lt_of_le H0.out BB.size
  replace c1_0 := cell_later BB c1_0
  replace c1_1 := cell_later BB c1_1
  replace y1_0 := frozen_later BB H1.out y1_0
  replace y1_1 := frozen_later BB H1.out y1_1
  replace H1 : Hid (b1 < w1.heap.size) := Nat.lt_of_lt_of_le H1.out BB.size
  replace B := below_next B BB
  clear BB
  by_cases z : pf = 0
  rotate_left 1
  · have hz : (pf != 0) = true := by simp [z]
    have e0 : cd = pf := by rw [← HC.out]; unfold cellC; rw [HP.out, if_neg z]
    have e1 : vl = 0 := by rw [← HV.out]; unfold cellV; rw [HC.out, e0, if_neg z]
    subst e0 e1
    go_wp2
    refine bodyPost_ret (v := .agg #[.int .i64 cd, .int .i64 0]) (by simp [results, Try.results28, go_sem, c1_0, c1_1]) rfl ?_
    have KZ : Kept b1 (b1 + 1) w1 ((w1.setCell ⟨b1, 0, none⟩ (.int .i64 cd)).setCell ⟨b1, 1, none⟩ (.int .i64 0)) := by refine Kept.setCell (Kept.setCell (Kept.refl _ _ _) ?_ ?_ _) ?_ ?_ _ <;> simp
    exact ⟨rfl, B.trans (KZ.below _ (Nat.le_trans O0.out (by have q1 := O1.out; omega)) B.size)⟩
  have hz : (pf != 0) = false := by simp [z]
  subst z
  have HK : Hid (cd = if q < 0 then 4 else 0) := by show _ = _; rw [← HC.out]; unfold cellC; rw [HP.out, if_pos rfl, HQ.out]
  have HL : Hid (vl = if cd = 0 then (ce.getD q.toNat vo0).2.2 else 0) := by show _ = _; rw [← HV.out]; unfold cellV; rw [HC.out, HQ.out]
  go_wp2_with fail
  refine (l6At_is b0 ac nc cc ce _ (h.cel.below B) c0_2 hnc x y q HQ.out).mono ?_
  rintro e w1 ⟨rfl, rfl⟩
  by_cases hq0 : q < 0
  · have e0 : cd = 4 := HK.out.trans (if_pos hq0)
    have e1 : vl = 0 := by rw [HL.out, e0]; rfl
    subst e0 e1
    go_wp2
    refine bodyPost_ret (v := .agg #[.int .i64 4, .int .i64 0]) (by simp [results, Try.results28, go_sem, c1_0, c1_1]) rfl ?_
    have KZ : Kept b1 (b1 + 1) w1 ((w1.setCell ⟨b1, 0, none⟩ (.int .i64 4)).setCell ⟨b1, 1, none⟩ (.int .i64 0)) := by refine Kept.setCell (Kept.setCell (Kept.refl _ _ _) ?_ ?_ _) ?_ ?_ _ <;> simp
    exact ⟨rfl, B.trans (KZ.below _ (Nat.le_trans O0.out (by have q1 := O1.out; omega)) B.size)⟩
  have e0 : cd = 0 := HK.out.trans (if_neg hq0)
  subst e0
  obtain ⟨m, rfl⟩ : ∃ m : Nat, q = m := ⟨q.toNat, by omega⟩
  have hm : m < nc := by
    rcases cellPl_is ce x y with ⟨e, _⟩ | ⟨m', e, hm', _⟩
    · rw [HQ.out] at e; omega
    · rw [HQ.out] at e; omega
  have hlm : (m : Int) < (nc : Int) := by omega
  obtain ⟨b, off, rfl, _, _, _, _, _, v2, _⟩ := h.cel.trip hm
  replace v2 := cell_later B v2
  have e1 : vl = (ce.getD m vo0).2.2 := by rw [HL.out]; simp
  rw [← e1] at v2
  clear e1
  go_wp2
  refine bodyPost_ret (v := .agg #[.int .i64 0, .int .i64 vl]) (by simp [results, Try.results28, go_sem, c1_0, c1_1]) rfl ?_
  have KZ : Kept b1 (b1 + 1) w1 ((w1.setCell ⟨b1, 0, none⟩ (.int .i64 0)).setCell ⟨b1, 1, none⟩ (.int .i64 vl)) := by refine Kept.setCell (Kept.setCell (Kept.refl _ _ _) ?_ ?_ _) ?_ ?_ _ <;> simp
  exact ⟨rfl, B.trans (KZ.below _ (Nat.le_trans O0.out (by have q1 := O1.out; omega)) B.size)⟩

end Go.Proofs.Ytcbfmjanjciodaa

/- Chapter 9: a node that asks for a view; how many ask; the others. -/
import Derived.Test.YtonclmbihhdkpaaGreatQAF
import Derived.Test.YtonclmbihhdkpaaGreatQAB
import Derived.Test.YtonclmbihhdkpaaGreatWR
import Derived.Deep.DeepCutAuto
import Derived.Deep.RegionLaw
import Derived.Test.YtonclmbihhdkpaaGreatWN
import Derived.Test.YtonclmbihhdkpaaGreatQAH
set_option maxRecDepth 20000
set_option maxHeartbeats 16000000
namespace Go.Proofs.YtonclmbihhdkpaaGreat
open Go.RowKit
def cntB : List Bool → Int
 | [] => 0
 | b :: bs => (if b = true then 1 else 0) + cntB bs
theorem cntB_in : ∀ bs : List Bool, 0 ≤ cntB bs ∧ cntB bs ≤ bs.length
 | [] => by simp [cntB]
 | b :: bs => by have := cntB_in bs; simp only [cntB, List.length_cons]; split <;> omega
theorem cntB_drop {bs : List Bool} {k : Nat} (h : k < bs.length) : cntB (bs.drop k) = (if bs.getD k false = true then 1 else 0) + cntB (bs.drop (k + 1)) := by
 rw [List.drop_eq_getElem_cons h]
 simp only [cntB, List.getD, List.getElem?_eq_getElem h, Option.getD_some]
theorem askers_is {own : Bool} {lo hi : Nat} (r : Rep) (h : RH) (s : Hd) (b0 : Nat) (w : World) (X0 : Bx w b0 [.int .i64 r.id, .int .i64 r.size, .int .i64 r.view, .bool r.normal, .int .i64 r.last, .slice h.L.1 h.L.2.1 h.L.2.2, .int .i64 r.commit, .slice h.O.1 h.O.2.1 h.O.2.2, .slice h.A.1 h.A.2.1 h.A.2.2, .slice h.D.1 h.D.2.1 h.D.2.2, .slice s.1 s.2.1 s.2.2]) (x : RowAt w own lo hi 1 h.A.1 h.A.2.1 h.A.2.2 (bls r.asks)) (hz : h.A.2.1 ≤ 1048576) :
  Calls Tryz.prog 52 #[.pointer (some ⟨b0, 0, none⟩)] w fun e w' => e = .returned (.int .i64 (cntB r.asks)) ∧ w' = w := by
 have hal := x.nBls
 have c0 := X0.cell
 have hle := x.le
 obtain ⟨res, hres⟩ : ∃ res, cntB r.asks = res := ⟨_, rfl⟩
 have HR : Hid _ := hres
 rw [hres]
 clear hres
 have HB : Hid _ := fun k => cntB_in (r.asks.drop k)
 generalize hA : h.A = A at *
 obtain ⟨aa, na, ca⟩ := A
 simp only at x hz hal hle c0
 go_enter Tryz.func52, Tryz.ntmps52
 go_wp2
 go_loopw [3, 5, 12] (fun cv _ iv wr => ∃ (k : Nat) (t : Int), k ≤ na ∧ iv = .int .i64 k ∧ cv = .int .i64 t ∧ 0 ≤ t ∧ t ≤ k ∧ Hid (t + cntB (r.asks.drop k) = res) ∧ w = wr) (fun _ _ iv _ => na - (intOf iv).toNat)
 case atStart => exact ⟨0, 0, Nat.zero_le _, rfl, rfl, Int.le_refl _, Int.le_refl _, (by show _ = _; rw [← HR.out]; simp), rfl⟩
 case round =>
  obtain ⟨k, t, hk, rfl, rfl, t0, t1, HT, rfl⟩ := hrel
  by_cases hlt : k < na
  ·have hlk : (k : Int) < (na : Int) := by omega
   have HD : Hid _ := cntB_drop (bs := r.asks) (k := k) (by omega)
   obtain ⟨b, off, rfl, _, _, _, e0, _⟩ := x.bool hlt
   have w1 : IntKind.i64.wrap (t + 1) = t + 1 := wrapI_same _ (by omega)
   obtain ⟨y, hy⟩ : ∃ y, r.asks.getD k false = y := ⟨_, rfl⟩
   rw [hy] at e0 HD
   clear hy
   cases y
   ·have HT2 : Hid (t + cntB (r.asks.drop (k + 1)) = res) := by show _ = _; rw [← HT.out, HD.out]; simp
    clear HT HD
    go_wp2
    go_roundw
    case rel => exact ⟨k + 1, t, by omega, by go_num, rfl, t0, by omega, HT2, by first | rfl | trivial⟩
    case measure => simp [intOf]; omega
   ·have HT2 : Hid (t + 1 + cntB (r.asks.drop (k + 1)) = res) := by show _ = _; rw [← HT.out, HD.out]; simp; omega
    clear HT HD
    go_wp2
    go_roundw
    case rel => exact ⟨k + 1, t + 1, by omega, by go_num, rfl, by omega, by omega, HT2, by first | rfl | trivial⟩
    case measure => simp [intOf]; omega
  ·have e : t = res := by rw [← HT.out, List.drop_eq_nil_of_le (by omega)]; simp [cntB]
   subst e
   go_wp2
   go_ret
   exact ⟨rfl, rfl⟩
theorem isEnough_is (r : Rep) (h : RH) (s : Hd) (k : Int) (hk : 0 ≤ k ∧ k ≤ 1000) (b0 : Nat) (w : World) (X0 : Bx w b0 [.int .i64 r.id, .int .i64 r.size, .int .i64 r.view, .bool r.normal, .int .i64 r.last, .slice h.L.1 h.L.2.1 h.L.2.2, .int .i64 r.commit, .slice h.O.1 h.O.2.1 h.O.2.2, .slice h.A.1 h.A.2.1 h.A.2.2, .slice h.D.1 h.D.2.1 h.D.2.2, .slice s.1 s.2.1 s.2.2]) :
  Calls Tryz.prog 51 #[.pointer (some ⟨b0, 0, none⟩), .int .i64 k] w fun e w' => e = .returned (.bool (decide (2 * k > r.size))) ∧ w' = w := by
 have c0 := X0.cell
 have w1 : IntKind.i64.wrap (2 * k) = 2 * k := wrapI_same _ (by omega)
 go_enter Tryz.func51, Tryz.ntmps51
 go_wp2
 go_ret
 exact ⟨rfl, rfl⟩
def othL (i : Nat) : Nat → List Int
 | 0 => []
 | k + 1 => if k = i then othL i k else othL i k ++ [(k : Int)]
theorem othL_len (i : Nat) : ∀ k, (othL i k).length ≤ k
 | 0 => by simp [othL]
 | k + 1 => by have := othL_len i k; rw [othL]; split <;> simp <;> omega
def intF (xs : List Int) (a _b : Nat) : Value := .int .i64 (xs.getD a 0)
theorem flat_ints (xs : List Int) : flatF 1 xs.length (intF xs) = ints xs := by
 apply List.ext_getElem (by simp [flatF, ints])
 intro j h1 h2
 simp only [flatF, ints, List.length_map, List.length_range, Nat.mul_one] at h1 h2
 simp [flatF, ints, intF, List.getD, Nat.div_one, h1]
theorem int_snoc {wr W : World} {base b1 : Nat} {v : Value} {xs : List Int} {y : Int} (G : GrowAt 1 wr base 2 v xs.length (intF xs) kd0 (fun _ => [])) (B : Below wr.heap.size wr W) (X1 : Bx W b1 [.int .i64 y]) (hbase : base ≤ wr.heap.size) (hn : xs.length ≤ 1000) :
  ∃ v' w', (∀ ty, (Builtin.append_ #[25, 25] ty #[v, .slice (some ⟨b1, 0, none⟩) 1 1]).run Tryz.prog W = .ok v' w') ∧ GrowAt 1 w' base 2 v' (xs ++ [y]).length (intF (xs ++ [y])) kd0 (fun _ => []) ∧ Below base W w' := by
 obtain ⟨i2, hi2, ha2, hb2, hc2⟩ := info_parts Tryz.info2'
 have LR : RowAt W false b1 (b1 + 1) 1 (some ⟨b1, 0, none⟩) 1 1 [.int .i64 y] := ⟨by simp, Nat.le_refl _, fun _ => ⟨b1, 0, rfl, Nat.le_refl _, Nat.lt_succ_self _, X1.lt, fun i hi => by rw [Nat.zero_add, X1.cell i, List.getD_eq_getElem?_getD, List.getElem?_eq_getElem (by simpa using hi)]; rfl, fun z => by cases z⟩⟩
 obtain ⟨v', w', hr, G2, _, BB⟩ := GrowAt.snoc (P := Tryz.prog) (G.below B) 25 i2 (.int .i64 0) 8 Tryz.underlying25 hi2 ha2 hb2 hc2 rfl (by omega) (by omega) ⟨b1, 0, none⟩ 1 [.int .i64 y] LR (by simp [Value.oneCell']) (intF (xs ++ [y])) kd0 (fun _ => []) (fun i j hi _ => by simp [intF, List.getD, List.getElem?_append_left hi]) (by simp [intF, List.range_succ]) (fun _ _ => rfl) (fun _ _ => rfl) (RowAt.nilR _ _ _ _ _ _ _) (fun h0 => absurd rfl h0) (by omega) (Nat.le_trans hbase B.size)
 exact ⟨v', w', hr, by rw [List.length_append]; exact G2, BB⟩
theorem others_is (r : Rep) (h : RH) (s : Hd) (b0 : Nat) (w : World) (X0 : Bx w b0 [.int .i64 r.id, .int .i64 r.size, .int .i64 r.view, .bool r.normal, .int .i64 r.last, .slice h.L.1 h.L.2.1 h.L.2.2, .int .i64 r.commit, .slice h.O.1 h.O.2.1 h.O.2.2, .slice h.A.1 h.A.2.1 h.A.2.2, .slice h.D.1 h.D.2.1 h.D.2.2, .slice s.1 s.2.1 s.2.2]) (m i : Nat) (hm : r.size = m) (hi : r.id = i) (hm5 : m ≤ 5) :
  Calls Tryz.prog 124 #[.pointer (some ⟨b0, 0, none⟩)] w fun e w' => CloR w w' e 1 (othL i m).length (ints (othL i m)) := by
 rw [hm, hi] at X0
 clear hm hi
 have c0 := X0.cell
 go_enter Tryz.func124, Tryz.ntmps124
 go_wp2
 go_loopw [3, 4, 10] (fun v _ iv wr => ∃ k : Nat, k ≤ m ∧ iv = .int .i64 k ∧ GrowAt 1 wr w.heap.size 2 v (othL i k).length (intF (othL i k)) kd0 (fun _ => []) ∧ w.heap.size ≤ wr.heap.size ∧ Below w.heap.size w wr) (fun _ _ iv _ => m - (intOf iv).toNat)
 case atStart => exact ⟨0, Nat.zero_le _, rfl, GrowAt.nil _ _ _ _ _ _ _, Nat.le_refl _, Below.refl _ _⟩
 case round =>
  rename_i v _
  obtain ⟨k, hk, rfl, G, LZ, BL⟩ := hrel
  clear c0
  have XX := X0.low BL X0.lt
  have c0 := XX.cell
  by_cases hlt : k < m
  ·have hlk : (k : Int) < (m : Int) := by omega
   have HO : Hid (othL i (k + 1) = if k = i then othL i k else othL i k ++ [(k : Int)]) := rfl
   have HG : Hid _ := G
   have HLZ : Hid _ := LZ
   have HBL : Hid _ := BL
   clear G
   by_cases q : k = i
   ·have q1 : ((k : Int) != (i : Int)) = false := by simp [q]
    have HO2 : Hid (othL i (k + 1) = othL i k) := by show _ = _; rw [HO.out, if_pos q]
    clear q HO
    go_wp2
    go_roundw
    case rel => exact ⟨k + 1, by omega, by go_num, by rw [HO2.out]; exact HG.out, HLZ.out, HBL.out⟩
    case measure => simp [intOf]; omega
   ·have q1 : ((k : Int) != (i : Int)) = true := by simp; omega
    have HO2 : Hid (othL i (k + 1) = othL i k ++ [(k : Int)]) := by show _ = _; rw [HO.out, if_neg q]
    clear q HO
    have hll := othL_len i k
    go_wp2_with (first | (at_builtin; refine Lib.wpList_append_run _ rfl _ _ _ _ rfl _ _ rfl rfl _ _ (hr _) ?_) | ((with_reducible refine lit_newX 25 1 _ [.int .i64 k] 2 (fun _ => by kernel_rfl)  ?_); intro bl W0 N0; have obl := N0.ge; have B := N0.below; have Xl := N0.bx; have cl := Xl.cell; clear N0; obtain ⟨v', w', hr, G2, BB⟩ := int_snoc HG.out B Xl HLZ.out (by omega); have HG2 : Hid _ := G2; clear G2) | fail)
    have BL2 : Hid (Below w.heap.size w w') := (BL.trans (B.mono LZ)).trans BB
    have LZ2 : Hid (w.heap.size ≤ w'.heap.size) := Nat.le_trans LZ (Nat.le_trans B.size BB.size)
    clear Xl cl B BB hr
    go_wp2
    go_roundw
    case rel => exact ⟨k + 1, by omega, by go_num, by rw [HO2.out]; exact HG2.out, LZ2.out, BL2.out⟩
    case measure => simp [intOf]; omega
  ·obtain rfl : k = m := by omega
   obtain ⟨ao, cap, rfl, E⟩ := G.els
   have R := E.row
   rw [flat_ints] at R
   clear G E
   go_wp2
   go_ret
   exact ⟨ao, cap, _, _, rfl, Nat.le_refl _, BL.size, Nat.le_refl _, R, BL⟩
theorem Tryz.infoMail : (Tryz.prog.info? 46).map (fun i => (i.zero, i.size, i.bytes)) = some (some (.agg #[.int .i64 0, .int .i64 0, .int .i64 0, .int .i64 0, .int .i64 0, .bool false, .int .i64 0, .int .i64 0, .int .i64 0, .int .i64 0, .int .i64 0, .int .i64 0, .int .i64 0, .slice none 0 0, .int .i64 0]), 15, 136) := by kernel_rfl
def putM (m : Ml) (fr tgt view : Int) : Ml := ⟨m.kind, fr, tgt, view, m.at_, m.has, m.en, m.last, m.log, m.commit⟩
theorem mlF_last (K : Nat → Hd) (ms : List Ml) (m : Ml) : (List.range 15).map (mlF K (ms ++ [m]) ms.length) = mlV (K ms.length) m := by
 have e : (ms ++ [m]).getD ms.length ml0 = m := by simp [List.getD]
 unfold mlF
 rw [e]
 simp [List.range_succ, mlV]
theorem mlF_old (K : Nat → Hd) (ms : List Ml) (m : Ml) {i j : Nat} (hi : i < ms.length) : mlF K (ms ++ [m]) i j = mlF K ms i j := by
 unfold mlF; rw [show (ms ++ [m]).getD i ml0 = ms.getD i ml0 by simp [List.getD, List.getElem?_append_left hi]]
theorem mlL_old (ms : List Ml) (m : Ml) {i : Nat} (hi : i < ms.length) : mlL (ms ++ [m]) i = mlL ms i := by
 unfold mlL; rw [show (ms ++ [m]).getD i ml0 = ms.getD i ml0 by simp [List.getD, List.getElem?_append_left hi]]
theorem mlL_last (ms : List Ml) (m : Ml) : mlL (ms ++ [m]) ms.length = m.log := by simp [mlL, List.getD]
def SentAt (w : World) (base : Nat) (v : Value) (Km : Nat → Hd) (ms : List Ml) : Prop := GrowAt 15 w base 46 v ms.length (mlF Km ms) Km (mlL ms)
theorem sent_snoc {W : World} {base b1 : Nat} {v : Value} {Km : Nat → Hd} {ms : List Ml} {m : Ml} {hd : Hd} (G : SentAt W base v Km ms) (X1 : Bx W b1 (mlV hd m)) (R : RowAt W true base W.heap.size 6 hd.1 hd.2.1 hd.2.2 (sixs m.log)) (hsep : hd.2.1 ≠ 0 → v.ownBlock ≠ some (sb hd.1) ∧ ∀ j, j < ms.length → (Km j).2.1 ≠ 0 → sb (Km j).1 ≠ sb hd.1) (hbase : base ≤ W.heap.size) (hn : ms.length ≤ 1000) :
  ∃ v' w', (∀ ty, (Builtin.append_ #[31, 31] ty #[v, .slice (some ⟨b1, 0, none⟩) 1 1]).run Tryz.prog W = .ok v' w') ∧ SentAt w' base v' (fun j => if j = ms.length then hd else Km j) (ms ++ [m]) ∧ KeptS (fun k => v.ownBlock = some k) W w' ∧ Below base W w' := by
 obtain ⟨i2, hi2, ha2, hb2, hc2⟩ := info_parts Tryz.infoMail
 have LR : RowAt W false b1 (b1 + 1) 15 (some ⟨b1, 0, none⟩) 1 1 (mlV hd m) := ⟨by simp [mlV], Nat.le_refl _, fun _ => ⟨b1, 0, rfl, Nat.le_refl _, Nat.lt_succ_self _, X1.lt, fun i hi => by rw [Nat.zero_add, X1.cell i, List.getD_eq_getElem?_getD, List.getElem?_eq_getElem (by simpa [mlV] using hi)]; rfl, fun z => by cases z⟩⟩
 obtain ⟨K2, hK2⟩ : ∃ K2 : Nat → Hd, K2 = fun j => if j = ms.length then hd else Km j := ⟨_, rfl⟩
 have e1K : K2 ms.length = hd := by rw [hK2]; simp
 have e2K : ∀ j, j < ms.length → K2 j = Km j := fun j hj => by rw [hK2]; simp [Nat.ne_of_lt hj]
 obtain ⟨v', w', hr, G2, KS, BB⟩ := GrowAt.snoc (P := Tryz.prog) G 31 i2 (.agg #[.int .i64 0, .int .i64 0, .int .i64 0, .int .i64 0, .int .i64 0, .bool false, .int .i64 0, .int .i64 0, .int .i64 0, .int .i64 0, .int .i64 0, .int .i64 0, .int .i64 0, .slice none 0 0, .int .i64 0]) 136 Tryz.underlying31 hi2 ha2 hb2 hc2 rfl (by omega) (by omega) ⟨b1, 0, none⟩ 1 (mlV hd m) LR (by simp [mlV, hv, Value.oneCell']) (mlF K2 (ms ++ [m])) K2 (mlL (ms ++ [m])) (fun i j hi _ => by rw [mlF_old _ _ _ hi]; unfold mlF; rw [e2K i hi]) (by rw [mlF_last, e1K]) e2K (fun i hi => mlL_old _ _ hi) (by rw [e1K, mlL_last]; exact R) (fun h0 => by rw [e1K] at h0 ⊢; exact hsep h0) (by omega) hbase
 refine ⟨v', w', hr, ?_, KS, BB⟩
 rw [← hK2]
 unfold SentAt
 rw [List.length_append]; exact G2
theorem sendOf_is (r : Rep) (h : RH) (s : Hd) (view tgt : Int) (m : Ml) (hd : Hd) (base b0 : Nat) (w : World) (Km : Nat → Hd) (ms : List Ml) (X0 : Bx w b0 [.int .i64 r.id, .int .i64 r.size, .int .i64 r.view, .bool r.normal, .int .i64 r.last, .slice h.L.1 h.L.2.1 h.L.2.2, .int .i64 r.commit, .slice h.O.1 h.O.2.1 h.O.2.2, .slice h.A.1 h.A.2.1 h.A.2.2, .slice h.D.1 h.D.2.1 h.D.2.2, .slice s.1 s.2.1 s.2.2]) (G : SentAt w base (.slice s.1 s.2.1 s.2.2) Km ms) (R : RowAt w true base w.heap.size 6 hd.1 hd.2.1 hd.2.2 (sixs m.log)) (hsep : hd.2.1 ≠ 0 → (Value.slice s.1 s.2.1 s.2.2).ownBlock ≠ some (sb hd.1) ∧ ∀ j, j < ms.length → (Km j).2.1 ≠ 0 → sb (Km j).1 ≠ sb hd.1) (hb : b0 < base) (hbase : base ≤ w.heap.size) (hn : ms.length ≤ 1000) :
  Calls Tryz.prog 186 #[.pointer (some ⟨b0, 0, none⟩), .int .i64 view, .int .i64 tgt, .agg #[.int .i64 m.kind, .int .i64 m.fr, .int .i64 m.to, .int .i64 m.view, .int .i64 m.at_, .bool m.has, .int .i64 m.en.1, .int .i64 m.en.2.1, .int .i64 m.en.2.2.1, .int .i64 m.en.2.2.2.1, .int .i64 m.en.2.2.2.2.1, .int .i64 m.en.2.2.2.2.2, .int .i64 m.last, .slice hd.1 hd.2.1 hd.2.2, .int .i64 m.commit]] w fun e w' => ∃ s' : Hd, e = .returned (.tuple #[]) ∧ Bx w' b0 [.int .i64 r.id, .int .i64 r.size, .int .i64 r.view, .bool r.normal, .int .i64 r.last, .slice h.L.1 h.L.2.1 h.L.2.2, .int .i64 r.commit, .slice h.O.1 h.O.2.1 h.O.2.2, .slice h.A.1 h.A.2.1 h.A.2.2, .slice h.D.1 h.D.2.1 h.D.2.2, .slice s'.1 s'.2.1 s'.2.2] ∧ SentAt w' base (.slice s'.1 s'.2.1 s'.2.2) (fun j => if j = ms.length then hd else Km j) (ms ++ [putM m r.id tgt view]) ∧ s'.2.1 = ms.length + 1 ∧ KeptS (fun k => k = b0 ∨ (Value.slice s.1 s.2.1 s.2.2).ownBlock = some k) w w' := by
 have c0 := X0.cell
 have f0 := X0.froz
 have ob0 := X0.lt
 have lG : w.heap.size ≤ w.heap.size := Nat.le_refl _
 have HG : Hid _ := G
 have HR : Hid _ := R
 have HSEP : Hid _ := hsep
 clear G R hsep
 go_enter Tryz.func186, Tryz.ntmps186
 go_upto_region 4 with (first | ((with_reducible refine so 2 X1 3 (.int .i64 view) ?_); intro V3 S; replace X0 := X0.kp S.kept; replace c0 := X0.cell; replace f0 := X0.froz; replace X1 : Bx V3 b1 [.int .i64 m.kind, .int .i64 r.id, .int .i64 tgt, .int .i64 view, .int .i64 m.at_, .bool m.has, .int .i64 m.en.1, .int .i64 m.en.2.1, .int .i64 m.en.2.2.1, .int .i64 m.en.2.2.2.1, .int .i64 m.en.2.2.2.2.1, .int .i64 m.en.2.2.2.2.2, .int .i64 m.last, .slice hd.1 hd.2.1 hd.2.2, .int .i64 m.commit] := S.bx; replace c1 := X1.cell; replace f1 := X1.froz; replace B := bkp B S.kept; clear S) | ((with_reducible refine so 2 X1 2 (.int .i64 tgt) ?_); intro V2 S; replace X0 := X0.kp S.kept; replace c0 := X0.cell; replace f0 := X0.froz; replace X1 : Bx V2 b1 [.int .i64 m.kind, .int .i64 r.id, .int .i64 tgt, .int .i64 m.view, .int .i64 m.at_, .bool m.has, .int .i64 m.en.1, .int .i64 m.en.2.1, .int .i64 m.en.2.2.1, .int .i64 m.en.2.2.2.1, .int .i64 m.en.2.2.2.2.1, .int .i64 m.en.2.2.2.2.2, .int .i64 m.last, .slice hd.1 hd.2.1 hd.2.2, .int .i64 m.commit] := S.bx; replace c1 := X1.cell; replace f1 := X1.froz; replace B := bkp B S.kept; clear S) | ((with_reducible refine so 2 X1 1 (.int .i64 r.id) ?_); intro V1 S; replace X0 := X0.kp S.kept; replace c0 := X0.cell; replace f0 := X0.froz; replace X1 : Bx V1 b1 [.int .i64 m.kind, .int .i64 r.id, .int .i64 m.to, .int .i64 m.view, .int .i64 m.at_, .bool m.has, .int .i64 m.en.1, .int .i64 m.en.2.1, .int .i64 m.en.2.2.1, .int .i64 m.en.2.2.2.1, .int .i64 m.en.2.2.2.2.1, .int .i64 m.en.2.2.2.2.2, .int .i64 m.last, .slice hd.1 hd.2.1 hd.2.2, .int .i64 m.commit] := S.bx; replace c1 := X1.cell; replace f1 := X1.froz; replace B := bkp B S.kept; clear S) | ((have g := ob0); clear g; (with_reducible refine box_newX 46 [.int .i64 m.kind, .int .i64 m.fr, .int .i64 m.to, .int .i64 m.view, .int .i64 m.at_, .bool m.has, .int .i64 m.en.1, .int .i64 m.en.2.1, .int .i64 m.en.2.2.1, .int .i64 m.en.2.2.2.1, .int .i64 m.en.2.2.2.2.1, .int .i64 m.en.2.2.2.2.2, .int .i64 m.last, .slice hd.1 hd.2.1 hd.2.2, .int .i64 m.commit] rfl ?_); intro b1 W1 N1; have ob1 := N1.ge; have o0_b1 := N1.u X0; replace X0 := N1.r X0; replace c0 := X0.cell; replace f0 := X0.froz; have B := N1.below; obtain ⟨X1, c1, f1⟩ := N1.a; clear N1) | fail)
 have DA : Below V3.heap.size V3 (V3.alloc (.cells #[.int .i64 m.kind, .int .i64 r.id, .int .i64 tgt, .int .i64 view, .int .i64 m.at_, .bool m.has, .int .i64 m.en.1, .int .i64 m.en.2.1, .int .i64 m.en.2.2.1, .int .i64 m.en.2.2.2.1, .int .i64 m.en.2.2.2.2.1, .int .i64 m.en.2.2.2.2.2, .int .i64 m.last, .slice hd.1 hd.2.1 hd.2.2, .int .i64 m.commit] 46)).drew := ((Below.refl _ _).alloc (Nat.le_refl _) _).drew
 have DB : Below V3.heap.size V3 (V3.alloc (.cells #[.int .i64 m.kind, .int .i64 r.id, .int .i64 tgt, .int .i64 view, .int .i64 m.at_, .bool m.has, .int .i64 m.en.1, .int .i64 m.en.2.1, .int .i64 m.en.2.2.1, .int .i64 m.en.2.2.2.1, .int .i64 m.en.2.2.2.2.1, .int .i64 m.en.2.2.2.2.2, .int .i64 m.last, .slice hd.1 hd.2.1 hd.2.2, .int .i64 m.commit] 46)) := (Below.refl _ _).alloc (Nat.le_refl _) _
 have LX : Bx (V3.alloc (.cells #[.int .i64 m.kind, .int .i64 r.id, .int .i64 tgt, .int .i64 view, .int .i64 m.at_, .bool m.has, .int .i64 m.en.1, .int .i64 m.en.2.1, .int .i64 m.en.2.2.1, .int .i64 m.en.2.2.2.1, .int .i64 m.en.2.2.2.2.1, .int .i64 m.en.2.2.2.2.2, .int .i64 m.last, .slice hd.1 hd.2.1 hd.2.2, .int .i64 m.commit] 46)).drew V3.heap.size (mlV hd (putM m r.id tgt view)) := bx_alloc V3.drew (mlV hd (putM m r.id tgt view)) 46
 have SB := Nat.le_trans hbase B.size
 obtain ⟨v', w', hr, G2, KS, BB⟩ := sent_snoc (hd := hd) (m := putM m r.id tgt view) ((HG.out : GrowAt _ _ _ _ _ _ _ _ _).below (below_next B DA)) LX ((HR.out.below (below_next B DA)).widen (Nat.le_refl _) (below_next B DA).size) HSEP.out (Nat.le_trans SB DA.size) hn
 have nb : ¬ ((Value.slice s.1 s.2.1 s.2.2).ownBlock = some b0) := fun z => by have := (GrowAt.own (HG.out : GrowAt _ _ _ _ _ _ _ _ _)).lt b0 z; omega
 have XA := X0.below DB
 have XD := X0.below DA
 have XN := XD.keptS KS nb
 have cA := XA.cell
 have cN := XN.cell
 have fN := XN.froz
 have YA := X1.below DB
 have dA := YA.cell
 obtain ⟨sa, sc, e9, _, _⟩ := owns_slice (GrowAt.own (G2 : GrowAt _ _ _ _ _ _ _ _ _))
 rw [show (ms ++ [putM m r.id tgt view]).length = ms.length + 1 by simp] at e9
 subst e9
 have HG2 : Hid _ := G2
 have KF : Hid (KeptS (fun k => k = b0 ∨ (Value.slice s.1 s.2.1 s.2.2).ownBlock = some k) w w') := (KeptS.below (below_next B DA)).trans (KS.mono fun k hk => Or.inr hk)
 clear G2 KS BB LX
 go_wp2_with fail
 go_region_law (first | (refine step_append_run rfl _ _ _ _ rfl _ _ rfl rfl _ _ (hr _) ?_))
 all_goals
  clear cA cN fN dA hr
  have KC : Kept b0 (b0 + 1) w' (w'.setCell ⟨b0, 10, none⟩ (.slice sa (ms.length + 1) sc)) := Kept.setCell (p := ⟨b0, 10, none⟩) (Kept.refl _ _ _) (Nat.le_refl _) (Nat.lt_succ_self _) _
  have X9 := XN.set 10 (by simp) (.slice sa (ms.length + 1) sc)
  have G9 := GrowAt.kept HG2.out KC (by omega)
  have K9 := KF.out.setCell (p := ⟨b0, 10, none⟩) (Or.inl rfl) (.slice sa (ms.length + 1) sc)
  have HX9 : Hid _ := X9
  have HG9 : Hid _ := G9
  have HK9 : Hid _ := K9
  clear KC X9 G9 K9 XN XA XD YA
  go_wp2
  exact bodyPost_end (v := .tuple #[]) (by simp [results, Tryz.results186, go_sem]) rfl ⟨(sa, (ms.length + 1), sc), rfl, HX9.out, HG9.out, by simp, HK9.out⟩
theorem send_is (r : Rep) (h : RH) (s : Hd) (tgt : Int) (m : Ml) (hd : Hd) (base b0 : Nat) (w : World) (Km : Nat → Hd) (ms : List Ml) (X0 : Bx w b0 [.int .i64 r.id, .int .i64 r.size, .int .i64 r.view, .bool r.normal, .int .i64 r.last, .slice h.L.1 h.L.2.1 h.L.2.2, .int .i64 r.commit, .slice h.O.1 h.O.2.1 h.O.2.2, .slice h.A.1 h.A.2.1 h.A.2.2, .slice h.D.1 h.D.2.1 h.D.2.2, .slice s.1 s.2.1 s.2.2]) (G : SentAt w base (.slice s.1 s.2.1 s.2.2) Km ms) (R : RowAt w true base w.heap.size 6 hd.1 hd.2.1 hd.2.2 (sixs m.log)) (hsep : hd.2.1 ≠ 0 → (Value.slice s.1 s.2.1 s.2.2).ownBlock ≠ some (sb hd.1) ∧ ∀ j, j < ms.length → (Km j).2.1 ≠ 0 → sb (Km j).1 ≠ sb hd.1) (hb : b0 < base) (hbase : base ≤ w.heap.size) (hn : ms.length ≤ 1000) :
  Calls Tryz.prog 125 #[.pointer (some ⟨b0, 0, none⟩), .int .i64 tgt, .agg #[.int .i64 m.kind, .int .i64 m.fr, .int .i64 m.to, .int .i64 m.view, .int .i64 m.at_, .bool m.has, .int .i64 m.en.1, .int .i64 m.en.2.1, .int .i64 m.en.2.2.1, .int .i64 m.en.2.2.2.1, .int .i64 m.en.2.2.2.2.1, .int .i64 m.en.2.2.2.2.2, .int .i64 m.last, .slice hd.1 hd.2.1 hd.2.2, .int .i64 m.commit]] w fun e w' => ∃ s' : Hd, e = .returned (.tuple #[]) ∧ Bx w' b0 [.int .i64 r.id, .int .i64 r.size, .int .i64 r.view, .bool r.normal, .int .i64 r.last, .slice h.L.1 h.L.2.1 h.L.2.2, .int .i64 r.commit, .slice h.O.1 h.O.2.1 h.O.2.2, .slice h.A.1 h.A.2.1 h.A.2.2, .slice h.D.1 h.D.2.1 h.D.2.2, .slice s'.1 s'.2.1 s'.2.2] ∧ SentAt w' base (.slice s'.1 s'.2.1 s'.2.2) (fun j => if j = ms.length then hd else Km j) (ms ++ [putM m r.id tgt r.view]) ∧ s'.2.1 = ms.length + 1 ∧ KeptS (fun k => k = b0 ∨ base ≤ k) w w' := by
 have c0 := X0.cell
 have ob0 := X0.lt
 have HG : Hid (GrowAt _ _ _ _ _ _ _ _ _) := G
 have HR : Hid _ := R
 have HSEP : Hid _ := hsep
 clear G R hsep
 go_enter Tryz.func125, Tryz.ntmps125
 go_wp2_with (first | ((have g := ob0); clear g; (with_reducible refine box_newX 46 [.int .i64 m.kind, .int .i64 m.fr, .int .i64 m.to, .int .i64 m.view, .int .i64 m.at_, .bool m.has, .int .i64 m.en.1, .int .i64 m.en.2.1, .int .i64 m.en.2.2.1, .int .i64 m.en.2.2.2.1, .int .i64 m.en.2.2.2.2.1, .int .i64 m.en.2.2.2.2.2, .int .i64 m.last, .slice hd.1 hd.2.1 hd.2.2, .int .i64 m.commit] rfl ?_); intro b1 W1 N1; have ob1 := N1.ge; have o0_b1 := N1.u X0; replace X0 := N1.r X0; replace c0 := X0.cell; have B := N1.below; obtain ⟨X1, c1⟩ := N1.c; clear N1) | fail)
 have DQ : Below W1.heap.size W1 W1.drew := (Below.refl _ _).drew
 replace X0 := X0.below DQ
 replace c0 := X0.cell
 replace X1 := X1.below DQ
 replace c1 := X1.cell
 replace B := below_next B DQ
 clear DQ
 have cv := X0.cell 2
 simp only [List.getElem?_cons_succ, List.getElem?_cons_zero] at cv
 have nb1 : Hid (¬ (Value.slice s.1 s.2.1 s.2.2).ownBlock = some b1) := fun z => by have := (HG.out.own.lt b1 z).2; omega
 refine wp_region_held_drew (S := (fun w' => w'.cell? ⟨b0, 2, none⟩ = some (.int .i64 r.view) ∧ ∀ k : Nat, w'.cell? ⟨b1, k, none⟩ = [.int .i64 m.kind, .int .i64 m.fr, .int .i64 m.to, .int .i64 m.view, .int .i64 m.at_, .bool m.has, .int .i64 m.en.1, .int .i64 m.en.2.1, .int .i64 m.en.2.2.1, .int .i64 m.en.2.2.2.1, .int .i64 m.en.2.2.2.2.1, .int .i64 m.en.2.2.2.2.2, .int .i64 m.last, .slice hd.1 hd.2.1 hd.2.2, .int .i64 m.commit][k]?)) (by kernel_rfl) ⟨cv, c1⟩ (fun hZq => ?_)
 refine tk 0 hZq ?_
 refine tk 1 hZq ?_
 refine tk 2 hZq ?_
 refine tk 3 hZq ?_
 refine tk 4 hZq ?_
 refine tk 5 hZq ?_
 refine tk 6 hZq ?_
 refine tk 7 hZq ?_
 refine rd1 8 (fun KK hKK => ?_)
 go_simp
 go_at_call 186
 refine (sendOf_is r h s r.view tgt m hd base b0 _ Km ms X0 (HG.out.below B) ((HR.out.below B).widen (Nat.le_refl _) B.size) HSEP.out hb (Nat.le_trans hbase B.size) hn).mono ?_
 rintro e w2 ⟨s', rfl, X2, G2, hs2, KS2⟩
 have cv := X2.cell 2
 simp only [List.getElem?_cons_succ, List.getElem?_cons_zero] at cv
 have c1 := (X1.keptS KS2 (fun z => z.elim (fun q => by omega) nb1.out)).cell
 have K9 : Hid (KeptS (fun q => q = b0 ∨ base ≤ q) w w2) := (KeptS.below B).trans (KS2.mono fun k hk => hk.imp id fun z => (HG.out.own.lt k z).1)
 have H1 : Hid _ := X2
 have H2 : Hid _ := G2
 clear X2 G2 KS2 X0 X1
 clear hZq
 refine hKK _ _ ⟨cv, c1⟩ (fun hZq => ?_)
 clear hKK KK
 refine wpAnyH_done (by kernel_rfl) ?_ _
 go_wp2
 exact bodyPost_end (v := .tuple #[]) (by simp [results, Tryz.results125, go_sem]) rfl ⟨s', rfl, H1.out, H2.out, hs2, K9.out⟩
def chg0 : Ml := ⟨3, 0, 0, 0, 0, false, en0, 0, [], 0⟩
def chgM (r : Rep) (t : Int) : Ml := putM chg0 r.id t r.view
def chgL (r : Rep) : List Ml := (othL r.id.toNat r.size.toNat).map (chgM r)
theorem take_map_succ {xs : List Int} {k : Nat} (h : k < xs.length) (f : Int → Ml) : (xs.take (k + 1)).map f = (xs.take k).map f ++ [f (xs.getD k 0)] := by
 have e : xs.getD k 0 = xs[k] := by simp [List.getD, h]
 rw [e, List.take_add_one, List.getElem?_eq_getElem h, List.map_append]; rfl
def NilK (Km : Nat → Hd) (n : Nat) : Prop := ∀ j, j < n → (Km j).2.1 = 0
theorem sendChanges_is (r : Rep) (h : RH) (b0 : Nat) (w : World) (X0 : Bx w b0 [.int .i64 r.id, .int .i64 r.size, .int .i64 r.view, .bool r.normal, .int .i64 r.last, .slice h.L.1 h.L.2.1 h.L.2.2, .int .i64 r.commit, .slice h.O.1 h.O.2.1 h.O.2.2, .slice h.A.1 h.A.2.1 h.A.2.2, .slice h.D.1 h.D.2.1 h.D.2.2, .slice none 0 0]) (hs : 1 ≤ r.size ∧ r.size ≤ 5) (hid : 0 ≤ r.id ∧ r.id ≤ r.size - 1) :
  Calls Tryz.prog 54 #[.pointer (some ⟨b0, 0, none⟩)] w fun e w' => ∃ (s : Hd) (Km : Nat → Hd) (base : Nat), e = .returned (.tuple #[]) ∧ Bx w' b0 [.int .i64 r.id, .int .i64 r.size, .int .i64 r.view, .bool r.normal, .int .i64 r.last, .slice h.L.1 h.L.2.1 h.L.2.2, .int .i64 r.commit, .slice h.O.1 h.O.2.1 h.O.2.2, .slice h.A.1 h.A.2.1 h.A.2.2, .slice h.D.1 h.D.2.1 h.D.2.2, .slice s.1 s.2.1 s.2.2] ∧ SentAt w' base (.slice s.1 s.2.1 s.2.2) Km (chgL r) ∧ s.2.1 = (chgL r).length ∧ NilK Km s.2.1 ∧ w.heap.size ≤ base ∧ KeptS (fun k => k = b0) w w' := by
 obtain ⟨m, hm⟩ : ∃ m : Nat, r.size = m := ⟨r.size.toNat, by omega⟩
 obtain ⟨i, hi0⟩ : ∃ i : Nat, r.id = i := ⟨r.id.toNat, by omega⟩
 have HC : Hid (chgL r = (othL i m).map (chgM r)) := by show _ = _; unfold chgL; rw [hm, hi0]; rfl
 have hlen := othL_len i m
 have hm5 : m ≤ 5 := by omega
 have c0 := X0.cell
 have ob0 := X0.lt
 go_enter Tryz.func54, Tryz.ntmps54
 go_wp2_with fail
 refine (others_is r h (none, 0, 0) b0 _ X0 m i hm hi0 hm5).mono ?_
 rintro e w1 ⟨ra, rc, z, ue, rfl, Gz, zu, hR, R, BB⟩
 clear hm hi0 hs hid
 have lb : b0 < w1.heap.size := Nat.lt_of_lt_of_le ob0 BB.size
 have HX : Hid _ := X0.below BB
 have hRn := R.le
 have HW : Hid _ := BB.size
 have HBB : Hid _ := BB
 have HZB : Hid (b0 < z) := Nat.lt_of_lt_of_le ob0 Gz
 clear X0 c0 BB Gz zu
 generalize hxs : othL i m = xs at *
 have HXS : Hid _ := hxs
 clear hxs
 go_wp2
 have HNR : Hid (∀ q, inR ra xs.length q → ¬ (q = b0 ∨ w1.heap.size ≤ q)) := fun q hq hs => by
  have hb := R.inB hq
  have := HZB.out
  omega
 go_loopw [3, 7] (fun _ iv wr => ∃ (k : Nat) (s : Hd) (Km : Nat → Hd), k ≤ xs.length ∧ iv = .int .i64 k ∧ Bx wr b0 [.int .i64 r.id, .int .i64 r.size, .int .i64 r.view, .bool r.normal, .int .i64 r.last, .slice h.L.1 h.L.2.1 h.L.2.2, .int .i64 r.commit, .slice h.O.1 h.O.2.1 h.O.2.2, .slice h.A.1 h.A.2.1 h.A.2.2, .slice h.D.1 h.D.2.1 h.D.2.2, .slice s.1 s.2.1 s.2.2] ∧ SentAt wr w1.heap.size (.slice s.1 s.2.1 s.2.2) Km ((xs.take k).map (chgM r)) ∧ s.2.1 = k ∧ NilK Km k ∧ w1.heap.size ≤ wr.heap.size ∧ KeptS (fun q => q = b0 ∨ w1.heap.size ≤ q) w1 wr) (fun _ iv _ => xs.length - (intOf iv).toNat)
 case atStart => exact ⟨0, (none, 0, 0), kd0, Nat.zero_le _, rfl, HX.out, GrowAt.nil _ _ _ _ _ _ _, rfl, fun j hj => absurd hj (Nat.not_lt_zero _), Nat.le_refl _, KeptS.refl _ _⟩
 case round =>
  obtain ⟨k, s, Km, hk, rfl, X0, G, hsk, NK, LZ, KS⟩ := hrel
  clear HX
  by_cases hlt : k < xs.length
  ·have hlk : (k : Int) < (xs.length : Int) := by omega
   have R2 : RowAt wr true z ue 1 ra xs.length rc (ints xs) := R.keptR KS (fun q hq hs => HNR.out q hq hs)
   obtain ⟨b, off, rfl, _, _, _, e0, _⟩ := R2.int hlt
   clear R2
   obtain ⟨t, ht⟩ : ∃ t, xs.getD k 0 = t := ⟨_, rfl⟩
   rw [ht] at e0
   have HT : Hid _ := take_map_succ hlt (chgM r)
   rw [ht] at HT
   clear ht
   have hml : ((xs.take k).map (chgM r)).length = k := by simp; omega
   have HML : Hid _ := hml
   go_wp2_with fail
   refine (send_is r h s t chg0 (none, 0, 0) w1.heap.size b0 _ Km _ X0 G (RowAt.nilR _ _ _ _ _ _ _) (fun h0 => absurd rfl h0) lb LZ (by rw [HML.out]; omega)).mono ?_
   rintro e w2 ⟨s', rfl, X2, G2, hs2, KS2⟩
   rw [HML.out] at G2 hs2
   have G3 : SentAt w2 w1.heap.size (.slice s'.1 s'.2.1 s'.2.2) (fun j => if j = k then (none, 0, 0) else Km j) ((xs.take (k + 1)).map (chgM r)) := by rw [HT.out]; exact G2
   have NK2 : NilK (fun j => if j = k then ((none : Option Addr), 0, 0) else Km j) (k + 1) := fun j hj => by
    by_cases e : j = k
    ·simp [e]
    ·simp only [if_neg e]; exact NK j (by omega)
   have H1 : Hid _ := X2
   have H2 : Hid _ := G3
   have H3 : Hid _ := hs2
   have H4 : Hid _ := NK2
   have H5 : Hid (w1.heap.size ≤ w2.heap.size) := Nat.le_trans LZ KS2.size
   have H6 : Hid _ := KS.trans KS2
   clear X0 X2 G G2 G3 hs2 NK2 KS KS2 HT hml HML e0
   go_wp2
   go_roundw
   case rel => exact ⟨k + 1, s', (fun j => if j = k then (none, 0, 0) else Km j), by omega, by go_num, H1.out, H2.out, H3.out, H4.out, H5.out, H6.out⟩
   case measure => simp [intOf]; omega
  ·obtain rfl : k = xs.length := by omega
   have K9 : KeptS (fun q => q = b0) w wr := ⟨KS.os.trans HBB.out.os, KS.tape.trans HBB.out.tape, KS.output.trans HBB.out.output, Nat.le_trans HW.out LZ, fun q hq hn => (KS.block q (Nat.lt_of_lt_of_le hq HW.out) (fun z => z.elim hn fun z => by have := HW.out; omega)).trans (HBB.out.block q hq)⟩
   rw [List.take_length] at G
   have H1 : Hid _ := X0
   have H2 : Hid _ := G
   have H3 : Hid _ := K9
   have H4 : Hid _ := NK
   clear X0 G KS K9 NK
   go_wp2
   refine bodyPost_end (v := .tuple #[]) (by simp [results, Tryz.results54, go_sem]) rfl ⟨s, Km, w1.heap.size, rfl, H1.out, ?_, ?_, ?_, HW.out, H3.out⟩
   ·rw [HC.out]; exact H2.out
   ·rw [HC.out, hsk]; simp
   ·rw [hsk]; exact H4.out
theorem chgL_len (r : Rep) : (chgL r).length ≤ r.size.toNat := by unfold chgL; rw [List.length_map]; exact othL_len _ _
theorem ans_of {w : World} {lo mid hi base : Nat} {h : RH} {s : Hd} {Km : Nat → Hd} {r : Rep} {ms : List Ml} (R : RepAt w true lo mid h r) (G : SentAt w base (.slice s.1 s.2.1 s.2.2) Km ms) (h1 : mid ≤ base) (h2 : mid ≤ hi) (h3 : lo ≤ base) (h4 : hi = w.heap.size) : AnsAt w true lo hi h s Km r ms := by
 obtain ⟨ao, cap, e, E⟩ := GrowAt.els G
 simp only [Value.slice.injEq] at e
 obtain ⟨e1, e2, e3⟩ := e
 subst h4
 refine ⟨R.widen (Nat.le_refl _) h2, ⟨e2.symm, ?_⟩, fun _ k k1 k2 => ?_⟩
 ·rw [e1, e2, e3]; exact E.widen h3 (Nat.le_refl _)
 ·rw [e1, e2] at k2
  have a1 := R.inB k1
  have a2 := E.inB k2
  omega
theorem step_litX {P : Program} {ops : Array Oper} {dst : Option Tmp} {type : TypeId} {pos : String} {after : Array Edge} {a : Act} {w : World} {K : Act → World → Prop} {Q : Exit → Act → World → Prop} {E : Prop} (t : TypeId) (n : Nat) (parts : Array (Nat × Operand)) (cs : List Value) (T : TypeId) (hb : ∀ w : World, (Instr.buildSlice t n (parts.map fun (i, x) => (i, a.eval x))).run P w = .ok (.slice (some ⟨w.heap.size, 0, none⟩) n n) (w.alloc (.cells cs.toArray T)))
  (h : ∀ (b : Nat) (W : World), NewX w W b cs → K (a.put dst (.slice (some ⟨b, 0, none⟩) n n)) W) : if Region.wanted ⟨dst, .buildSlice t n parts, type, pos, after, none⟩ (yielded ops a.tmps) = true then Oper.wp P ⟨dst, .buildSlice t n parts, type, pos, after, none⟩ a w K Q else E := by
 have hw : Region.wanted ⟨dst, .buildSlice t n parts, type, pos, after, none⟩ (yielded ops a.tmps) = true := by simp [Region.wanted]
 rw [if_pos hw]
 have hK2 := h _ _ (by simpa using newX_mk w cs.toArray T)
 have hb' : (Instr.buildSlice t n (Array.map (fun x => (x.fst, a.eval x.snd)) parts)).run P w = _ := hb w
 unfold Oper.wp execOp
 simp only [Sem.run_bind, Sem.run_pure, Result.andThen_ok, hb']
 exact hK2
theorem AnsAt.ro {w : World} {own : Bool} {lo hi : Nat} {h : RH} {s : Hd} {Km : Nat → Hd} {r : Rep} {ms : List Ml} (x : AnsAt w own lo hi h s Km r ms) : AnsAt w false lo hi h s Km r ms := ⟨x.rep.ro, ⟨x.send.len, x.send.els.ro⟩, fun q => by cases q⟩
def casV (r : Rep) : Int := if repF r = 0 then cntB r.asks else 0
def telB (r : Rep) (k : Nat) : Prop := (k : Int) = r.id ∨ r.normal = false ∧ (r.doers.getD k dr0).1 = true
instance (r : Rep) (k : Nat) : Decidable (telB r k) := inferInstanceAs (Decidable (_ ∨ _))
structure Rows3 (w : World) (base : Nat) (v1 v2 v3 : Value) (n1 n2 n3 : Nat) (c1 c2 c3 : List Value) : Prop where
 a : w.ownsRow base 2 1 v1 n1 c1
 b : w.ownsRow base 2 1 v2 n2 c2
 c : w.ownsRow base 24 1 v3 n3 c3
 ab : ∀ g, v1.ownBlock = some g → v2.ownBlock ≠ some g
 ac : ∀ g, v1.ownBlock = some g → v3.ownBlock ≠ some g
 bc : ∀ g, v2.ownBlock = some g → v3.ownBlock ≠ some g
theorem owns_keptS {w w' : World} {base : Nat} {T : TypeId} {sz n : Nat} {v : Value} {cs : List Value} {S : Nat → Prop} (h : w.ownsRow base T sz v n cs) (hk : KeptS S w w') (hd : ∀ g, v.ownBlock = some g → ¬ S g) : w'.ownsRow base T sz v n cs := by
 refine ⟨h.1, ?_⟩
 rcases h.2 with q | ⟨g, cap, cur, hv, hg, hh, rest⟩
 ·exact .inl q
 ·have hlt := (h.lt g (by rw [hv]; rfl)).2
  exact .inr ⟨g, cap, cur, hv, hg, by rw [hk.block g hlt (hd g (by rw [hv]; rfl))]; exact hh, rest⟩
theorem own_snoc {w : World} {base b1 : Nat} {T : TypeId} {v : Value} {n : Nat} {cs : List Value} (h : w.ownsRow base T 1 v n cs) (t : TypeId) (i0 : TypeInfo) (z : Value) (bytes : Nat) (ht : Tryz.prog.underlying t = some (.slice T)) (hi0 : Tryz.prog.info? T = some i0) (hz0 : i0.zero = some z) (hz1 : i0.size = 1) (hz2 : i0.bytes = bytes) (hzs : z.cells.size = 1) (hby : bytes ≤ 1000) (y : Value) (h1 : y.oneCell' = true) (X1 : Bx w b1 [y]) (hn : n ≤ 1000) (hbase : base ≤ w.heap.size) :
  ∃ v' w', (∀ ty, (Builtin.append_ #[t, t] ty #[v, .slice (some ⟨b1, 0, none⟩) 1 1]).run Tryz.prog w = .ok v' w') ∧ w'.ownsRow base T 1 v' (n + 1) (cs ++ [y]) ∧ KeptS (fun k => v.ownBlock = some k) w w' ∧ (v'.ownBlock = v.ownBlock ∨ v'.ownBlock = some w.heap.size) := by
 have hsrc : ∀ j u, [y][j]? = some u → w.cell? ((⟨b1, 0, none⟩ : Addr).add j) = some u := fun j u hj => by
  rw [Addr.add_lit, Nat.zero_add, X1.cell j]; exact hj
 have hby2 : (n + 1) * bytes ≤ 140737488355328 := Nat.le_trans (Nat.mul_le_mul (Nat.succ_le_succ hn) hby) (by decide)
 obtain ⟨v', w', hr, ho, hg, _, hat⟩ := run_append_own_at (P := Tryz.prog) w base t T T i0 z 1 bytes ht hi0 hz0 hz1 hz2 hzs (by decide) v n _ h ⟨b1, 0, none⟩ 1 1 [y] (by simp) hsrc (by simpa using h1) (by unfold maxLen; omega) hby2 hbase
 refine ⟨v', w', fun ty => ?_, ho, ⟨hg.os, hg.tape, hg.output, hg.size, fun k hk hs => hg.block k hk (fun e => hs e.symm)⟩, hat⟩
 have : ∀ ty, Builtin.append_ #[t, t] ty #[v, .slice (some ⟨b1, 0, none⟩) 1 1] = Builtin.append_ #[t, t] T #[v, .slice (some ⟨b1, 0, none⟩) 1 1] := fun _ => rfl
 rw [this]; exact hr
section
variable {w w' : World} {base b1 : Nat} {v1 v2 v3 : Value} {n1 n2 n3 : Nat} {c1 c2 c3 : List Value}
end
theorem ints_snoc (xs : List Int) (y : Int) : ints (xs ++ [y]) = ints xs ++ [.int .i64 y] := by simp [ints]
def CS (w w' : World) : Prop := w'.there (w.heap.size + 1) 0 2 ∧ Below w.heap.size w w' ∧ w.heap.size + 1 < w'.heap.size
def CpS (w : World) (v0 v1 : Value) (w' : World) : Prop := w'.cell? ⟨w.heap.size, 0, none⟩ = some v0 ∧ w'.cell? ⟨w.heap.size, 1, none⟩ = some v1 ∧ CS w w'
end Go.Proofs.YtonclmbihhdkpaaGreat

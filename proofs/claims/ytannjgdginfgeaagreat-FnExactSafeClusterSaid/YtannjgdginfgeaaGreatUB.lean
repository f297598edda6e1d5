/- Chapter 13: SealedRight of the model. -/
import Derived.Test.YtannjgdginfgeaaGreatQAH
import Derived.Test.YtannjgdginfgeaaGreatQAB
import Derived.Test.YtannjgdginfgeaaGreatQAR
import Derived.Test.YtannjgdginfgeaaGreatCF4
import Derived.Test.YtannjgdginfgeaaGreatCA
set_option maxRecDepth 20000
set_option maxHeartbeats 16000000
namespace Go.Proofs.YtannjgdginfgeaaGreat
open Go.RowKit
theorem auMSealed_is (b0 : Nat) {own : Bool} {lo hi : Nat} (N M Sl : Hd) (xs : List Nod) (ms : List Mal) (es : List En) (w : World) (X0 : Bx w b0 [.slice N.1 N.2.1 N.2.2, .slice M.1 M.2.1 M.2.2, .slice Sl.1 Sl.2.1 Sl.2.2]) (x : ClAt w own lo hi N M Sl xs ms es) (hs : ClSz N M Sl xs ms 1048576) (hr : cluF (xs.map (·.1)) (ms.map (·.1)) es = 0) (d : Bool) (hd : (xs.map (·.1)).all (auSeal es) = d) :
  Calls Tryz.prog 13 #[.pointer (some ⟨b0, 0, none⟩)] w fun e w' => e = .returned (.bool d) ∧ Below w.heap.size w w' := by
 obtain ⟨⟨ao, n, cap⟩, hN⟩ : ∃ q : Hd, N = q := ⟨N, rfl⟩
 subst hN
 have hl : (xs.map (·.1)).length = n := by simpa using x.nodes.len
 have hes := x.slog.nSixs
 have hn := hs.n
 have HRt : Hid _ := auRight x hr
 have HD : Hid _ := hd
 have HS : Hid _ := hs
 have Hx : Hid _ := x
 clear hd hr hs x
 obtain ⟨rs, hrs⟩ : ∃ rs, (xs.map (·.1)) = rs := ⟨_, rfl⟩
 have HR : Hid (∀ (i : Nat) (a : Nod), xs[i]? = some a → rs.getD i rep0 = a.1) := fun i a e => by rw [← hrs]; exact mapD e
 have HD2 := HD.out
 rw [hrs] at hl HD2
 replace HD : Hid _ := HD2
 have HL : Hid _ := hl
 have HES : Hid _ := hes
 clear HD2 hrs hl hes
 simp only at hn X0 ⊢
 have HX0 : Hid _ := X0
 have c0 := X0.cell
 go_enter Tryz.func13, Tryz.ntmps13
 clear c0
 go_wp2_with fail
 go_loopw [3] (fun i wr => ∃ k : Nat, k ≤ n ∧ i = .int .i64 k ∧ Hid (∀ j, j < k → auSeal es (rs.getD j rep0) = true) ∧ Below w.heap.size w wr) (fun i _ => n - (intOf i).toNat)
 case atStart => exact ⟨0, Nat.zero_le _, rfl, fun j hj => absurd hj (Nat.not_lt_zero _), Below.refl _ _⟩
 case round =>
  obtain ⟨k, hk, rfl, H0, hb⟩ := hrel
  have X0 := HX0.out.below hb
  have c0 := X0.cell
  by_cases hlt : k < n
  ·have hlk : (k : Int) < (n : Int) := by omega
   obtain ⟨r, h, b, off, ex, rfl, _, _, XN, y, _⟩ := LAt.node (NAt.below Hx.out.nodes hb) (i := k) (by show _ < n; omega)
   have cN := XN.cell
   have HE : Hid (rs.getD k rep0 = r) := HR.out k _ ex
   have hcm := (HRt.out.2 k r h ex).1
   have HCM : Hid _ := hcm
   have hln := (HS.out.nodes _ _ ex).L
   have HY : Hid _ := y
   have HEX : Hid _ := ex
   clear ex hcm y
   simp only at hln
   obtain ⟨cn, hcn⟩ : ∃ q, commN r.log es = q := ⟨_, rfl⟩
   have HCN : Hid _ := hcn
   clear hcn
   have HNO : Hid (auSeal es r = false → d = false) := fun z => by rw [← HD.out]; exact auAll_no (by rw [HL.out]; exact hlt) (by rw [HE.out]; exact z)
   have HYES : Hid (auSeal es r = true → ∀ j, j < k + 1 → auSeal es (rs.getD j rep0) = true) := fun z j hj => by
    by_cases e : j = k
    ·rw [e, HE.out]; exact z
    ·exact H0.out j (by omega)
   clear HY
   go_wp2_with fail
   have DQ : Below wr.heap.size wr wr.drew := (Below.refl _ _).drew
   replace X0 := X0.below DQ
   replace c0 := X0.cell
   replace XN := XN.below DQ
   replace cN := XN.cell
   replace hb := below_next hb DQ
   clear DQ
   by_cases q0 : (Sl.2.1 : Int) < r.commit
   ·refine wp_region_held_drew (S := (fun w' => (∀ k : Nat, w'.cell? ⟨b0, k, none⟩ = [.slice (some ⟨b, off, none⟩) n cap, .slice M.1 M.2.1 M.2.2, .slice Sl.1 Sl.2.1 Sl.2.2][k]?) ∧ (w'.cell? ⟨b, off + k * 10, none⟩ = [.int .i64 r.id, .int .i64 r.size, .int .i64 r.view, .bool r.normal, .int .i64 r.last, .slice h.L.1 h.L.2.1 h.L.2.2, .int .i64 r.commit, .slice h.O.1 h.O.2.1 h.O.2.2, .slice h.A.1 h.A.2.1 h.A.2.2, .slice h.D.1 h.D.2.1 h.D.2.2][0]? ∧ ∀ k_1 : Nat, k_1 < 10 → w'.cell? ⟨b, off + k * 10 + k_1, none⟩ = [.int .i64 r.id, .int .i64 r.size, .int .i64 r.view, .bool r.normal, .int .i64 r.last, .slice h.L.1 h.L.2.1 h.L.2.2, .int .i64 r.commit, .slice h.O.1 h.O.2.1 h.O.2.2, .slice h.A.1 h.A.2.1 h.A.2.2, .slice h.D.1 h.D.2.1 h.D.2.2][k_1]?))) (by kernel_rfl) ⟨c0, cN⟩ (fun hZq => ?_)
    refine tk 0 hZq ?_
    refine tk 1 hZq ?_
    refine tk 2 hZq ?_
    refine tk 3 hZq ?_
    refine tk 4 hZq ?_
    refine tk 5 hZq ?_
    refine tk 6 hZq ?_
    refine tk 7 hZq ?_
    refine tk 8 hZq ?_
    refine tk 9 hZq ?_
    refine tk 10 hZq ?_
    refine tks 11 hZq ?_
    refine tks 12 hZq ?_
    refine tks 13 hZq ?_
    refine tks 14 hZq ?_
    refine tks 15 hZq ?_
    refine tks 16 hZq ?_
    refine tks 17 hZq ?_
    refine tks 18 hZq ?_
    refine tks 19 hZq ?_
    refine tks 20 hZq ?_
    refine tks 21 hZq ?_
    refine tks 22 hZq ?_
    refine tks 23 hZq ?_
    refine tks 24 hZq ?_
    refine tk 25 hZq ?_
    refine wpAnyH_done (by kernel_rfl) ?_ _
    have e : d = false := HNO.out (auSeal_le (by rw [HES.out]; exact q0))
    subst e
    clear HNO HYES HD
    go_wp2
    go_ret
    exact ⟨rfl, hb⟩
   by_cases q1 : (cn : Int) < r.commit
   ·refine wp_region_held_drew (S := (fun w' => (∀ k : Nat, w'.cell? ⟨b0, k, none⟩ = [.slice (some ⟨b, off, none⟩) n cap, .slice M.1 M.2.1 M.2.2, .slice Sl.1 Sl.2.1 Sl.2.2][k]?) ∧ (w'.cell? ⟨b, off + k * 10, none⟩ = [.int .i64 r.id, .int .i64 r.size, .int .i64 r.view, .bool r.normal, .int .i64 r.last, .slice h.L.1 h.L.2.1 h.L.2.2, .int .i64 r.commit, .slice h.O.1 h.O.2.1 h.O.2.2, .slice h.A.1 h.A.2.1 h.A.2.2, .slice h.D.1 h.D.2.1 h.D.2.2][0]? ∧ ∀ k_1 : Nat, k_1 < 10 → w'.cell? ⟨b, off + k * 10 + k_1, none⟩ = [.int .i64 r.id, .int .i64 r.size, .int .i64 r.view, .bool r.normal, .int .i64 r.last, .slice h.L.1 h.L.2.1 h.L.2.2, .int .i64 r.commit, .slice h.O.1 h.O.2.1 h.O.2.2, .slice h.A.1 h.A.2.1 h.A.2.2, .slice h.D.1 h.D.2.1 h.D.2.2][k_1]?))) (by kernel_rfl) ⟨c0, cN⟩ (fun hZq => ?_)
    refine tk 0 hZq ?_
    refine tk 1 hZq ?_
    refine tk 2 hZq ?_
    refine tk 3 hZq ?_
    refine tk 4 hZq ?_
    refine tk 5 hZq ?_
    refine tk 6 hZq ?_
    refine tk 7 hZq ?_
    refine tk 8 hZq ?_
    refine tk 9 hZq ?_
    refine tk 10 hZq ?_
    refine tk 11 hZq ?_
    refine tk 12 hZq ?_
    refine tk 13 hZq ?_
    refine tk 14 hZq ?_
    refine tk 15 hZq ?_
    refine tk 16 hZq ?_
    refine tk 17 hZq ?_
    refine tk 18 hZq ?_
    refine tk 20 hZq ?_
    refine tk 21 hZq ?_
    refine tk 22 hZq ?_
    refine tk 23 hZq ?_
    refine rd1 19 (fun KK hKK => ?_)
    go_simp
    go_at_call 30
    refine (specCommon_is h.L.1 Sl.1 h.L.2.1 h.L.2.2 Sl.2.1 Sl.2.2 r.log es _ ((Hx.out.nodes.below hb).each k _ HEX.out).log (Hx.out.slog.below hb) (by omega) cn HCN.out).mono ?_
    rintro e w1 ⟨rfl, BB⟩
    replace X0 := X0.below BB
    replace c0 := X0.cell
    replace XN := XN.below BB
    replace cN := XN.cell
    replace hb := below_next hb BB
    clear BB
    clear hZq
    refine hKK _ _ ⟨c0, cN⟩ (fun hZq => ?_)
    clear hKK KK
    refine tk 24 hZq ?_
    refine tk 25 hZq ?_
    refine wpAnyH_done (by kernel_rfl) ?_ _
    have e : d = false := HNO.out (by
     cases z : auSeal es r with
     | false => rfl
     | true => have := (auSeal_eq HCM.out.1 z).1 rfl; rw [HCN.out] at this; omega)
    subst e
    clear HNO HYES HD
    go_wp2
    go_ret
    exact ⟨rfl, hb⟩
   refine wp_region_held_drew (S := (fun w' => (∀ k : Nat, w'.cell? ⟨b0, k, none⟩ = [.slice (some ⟨b, off, none⟩) n cap, .slice M.1 M.2.1 M.2.2, .slice Sl.1 Sl.2.1 Sl.2.2][k]?) ∧ (w'.cell? ⟨b, off + k * 10, none⟩ = [.int .i64 r.id, .int .i64 r.size, .int .i64 r.view, .bool r.normal, .int .i64 r.last, .slice h.L.1 h.L.2.1 h.L.2.2, .int .i64 r.commit, .slice h.O.1 h.O.2.1 h.O.2.2, .slice h.A.1 h.A.2.1 h.A.2.2, .slice h.D.1 h.D.2.1 h.D.2.2][0]? ∧ ∀ k_1 : Nat, k_1 < 10 → w'.cell? ⟨b, off + k * 10 + k_1, none⟩ = [.int .i64 r.id, .int .i64 r.size, .int .i64 r.view, .bool r.normal, .int .i64 r.last, .slice h.L.1 h.L.2.1 h.L.2.2, .int .i64 r.commit, .slice h.O.1 h.O.2.1 h.O.2.2, .slice h.A.1 h.A.2.1 h.A.2.2, .slice h.D.1 h.D.2.1 h.D.2.2][k_1]?))) (by kernel_rfl) ⟨c0, cN⟩ (fun hZq => ?_)
   refine tk 0 hZq ?_
   refine tk 1 hZq ?_
   refine tk 2 hZq ?_
   refine tk 3 hZq ?_
   refine tk 4 hZq ?_
   refine tk 5 hZq ?_
   refine tk 6 hZq ?_
   refine tk 7 hZq ?_
   refine tk 8 hZq ?_
   refine tk 9 hZq ?_
   refine tk 10 hZq ?_
   refine tk 11 hZq ?_
   refine tk 12 hZq ?_
   refine tk 13 hZq ?_
   refine tk 14 hZq ?_
   refine tk 15 hZq ?_
   refine tk 16 hZq ?_
   refine tk 17 hZq ?_
   refine tk 18 hZq ?_
   refine tk 20 hZq ?_
   refine tk 21 hZq ?_
   refine tk 22 hZq ?_
   refine tk 23 hZq ?_
   refine rd1 19 (fun KK hKK => ?_)
   go_simp
   go_at_call 30
   refine (specCommon_is h.L.1 Sl.1 h.L.2.1 h.L.2.2 Sl.2.1 Sl.2.2 r.log es _ ((Hx.out.nodes.below hb).each k _ HEX.out).log (Hx.out.slog.below hb) (by omega) cn HCN.out).mono ?_
   rintro e w1 ⟨rfl, BB⟩
   replace X0 := X0.below BB
   replace c0 := X0.cell
   replace XN := XN.below BB
   replace cN := XN.cell
   replace hb := below_next hb BB
   clear BB
   clear hZq
   refine hKK _ _ ⟨c0, cN⟩ (fun hZq => ?_)
   clear hKK KK
   refine tk 24 hZq ?_
   refine tk 25 hZq ?_
   refine wpAnyH_done (by kernel_rfl) ?_ _
   have HN : Hid _ := HYES.out (by
    cases z : auSeal es r with
    | true => rfl
    | false => exact absurd ((auSeal_eq HCM.out.1 z).2 (by rw [HCN.out]; omega)) (by decide))
   have HB : Hid _ := hb
   clear HNO HYES hb
   go_wp2
   go_roundw
   case rel => exact ⟨k + 1, by omega, by go_num, HN, HB.out⟩
   case measure => simp [intOf]; omega
  ·obtain rfl : k = n := by omega
   have e : d = true := by rw [← HD.out]; exact auAll_yes (by rw [HL.out]; exact H0.out)
   subst e
   clear HD
   go_wp2
   go_ret
   exact ⟨rfl, hb⟩
theorem auMMatch_is (b0 : Nat) {own : Bool} {lo hi : Nat} (N M Sl : Hd) (xs : List Nod) (ms : List Mal) (es : List En) (w : World) (X0 : Bx w b0 [.slice N.1 N.2.1 N.2.2, .slice M.1 M.2.1 M.2.2, .slice Sl.1 Sl.2.1 Sl.2.2]) (x : ClAt w own lo hi N M Sl xs ms es) (hs : ClSz N M Sl xs ms 1048576) (hr : cluF (xs.map (·.1)) (ms.map (·.1)) es = 0) (d : Bool) (hd : auMatch (xs.map (·.1)) = d) :
  Calls Tryz.prog 14 #[.pointer (some ⟨b0, 0, none⟩)] w fun e w' => e = .returned (.bool d) ∧ Below w.heap.size w w' := by
 obtain ⟨⟨ao, n, cap⟩, hN⟩ : ∃ q : Hd, N = q := ⟨N, rfl⟩
 subst hN
 have hl : (xs.map (·.1)).length = n := by simpa using x.nodes.len
 have hes := x.slog.nSixs
 have hn := hs.n
 have HRt : Hid _ := auRight x hr
 have HD : Hid _ := hd
 have HS : Hid _ := hs
 have Hx : Hid _ := x
 clear hd hr hs x
 obtain ⟨rs, hrs⟩ : ∃ rs, (xs.map (·.1)) = rs := ⟨_, rfl⟩
 have HR : Hid (∀ (i : Nat) (a : Nod), xs[i]? = some a → rs.getD i rep0 = a.1) := fun i a e => by rw [← hrs]; exact mapD e
 have HD2 := HD.out
 rw [hrs] at hl HD2
 replace HD : Hid _ := HD2
 have HL : Hid _ := hl
 have HES : Hid _ := hes
 clear HD2 hrs hl hes
 simp only at hn X0 ⊢
 have HX0 : Hid _ := X0
 have c0 := X0.cell
 go_enter Tryz.func14, Tryz.ntmps14
 clear c0
 go_wp2_with fail
 go_loopw [3] (fun i wr => ∃ k : Nat, k ≤ n ∧ i = .int .i64 k ∧ Hid (∀ i, i < k → ∀ j, j < i → auPair (rs.getD i rep0) (rs.getD j rep0) = true) ∧ Below w.heap.size w wr) (fun i _ => n - (intOf i).toNat)
 case atStart => exact ⟨0, Nat.zero_le _, rfl, fun j hj => absurd hj (Nat.not_lt_zero _), Below.refl _ _⟩
 case round =>
  obtain ⟨k, hk, rfl, H0, hb0⟩ := hrel
  have X0 := HX0.out.below hb0
  have c0 := X0.cell
  by_cases hlt : k < n
  ·have hlk : (k : Int) < (n : Int) := by omega
   have HB0 : Hid _ := hb0
   go_wp2_with fail
   clear X0 c0 hb0
   go_loopw [4] (fun i wq => ∃ j : Nat, j ≤ k ∧ i = .int .i64 j ∧ Hid (∀ q, q < j → auPair (rs.getD k rep0) (rs.getD q rep0) = true) ∧ Below w.heap.size w wq) (fun i _ => k - (intOf i).toNat)
   case atStart => exact ⟨0, Nat.zero_le _, rfl, fun j hj => absurd hj (Nat.not_lt_zero _), HB0.out⟩
   case round =>
    obtain ⟨j, hj, rfl, H1, hb⟩ := hrel
    have X0 := HX0.out.below hb
    have c0 := X0.cell
    by_cases hlj : j < k
    ·have hjk : (j : Int) < (k : Int) := by omega
     have hjn : (j : Int) < (n : Int) := by omega
     obtain ⟨r, h, b, off, ex, rfl, _, _, XN, y, _⟩ := LAt.node (NAt.below Hx.out.nodes hb) (i := k) (by show _ < n; omega)
     have cN := XN.cell
     obtain ⟨r2, h2, b', off', ex2, eN, _, _, XN2, y2, _⟩ := LAt.node (NAt.below Hx.out.nodes hb) (i := j) (by show _ < n; omega)
     simp only [Option.some.injEq, Addr.mk.injEq, and_true] at eN
     obtain ⟨rfl, rfl⟩ := eN
     have cN2 := XN2.cell
     have HE : Hid (rs.getD k rep0 = r) := HR.out k _ ex
     have HE2 : Hid (rs.getD j rep0 = r2) := HR.out j _ ex2
     have hs1 := (HS.out.nodes _ _ ex).L
     have hs2 := (HS.out.nodes _ _ ex2).L
     have HEX : Hid _ := ex
     have HEX2 : Hid _ := ex2
     simp only at hs1 hs2
     obtain ⟨d1, hd1⟩ : ∃ q, decide (commN r.log r2.log = h.L.2.1) = q := ⟨_, rfl⟩
     obtain ⟨d2, hd2⟩ : ∃ q, decide (commN r2.log r.log = h2.L.2.1) = q := ⟨_, rfl⟩
     have HD1 : Hid _ := hd1
     have HD2 : Hid _ := hd2
     have HP : Hid (r.last = r2.last → auPair r r2 = (d1 || d2)) := fun z => auPair_near z (by rw [y.log.nSixs]; exact hd1) (by rw [y2.log.nSixs]; exact hd2)
     have HF : Hid (¬ r.last = r2.last → auPair r r2 = true) := fun z => auPair_far z
     clear ex ex2 y y2 hd1 hd2
     have HNO : Hid (auPair r r2 = false → d = false) := fun z => by rw [← HD.out]; exact auMatch_no (i := k) (j := j) (by rw [HL.out]; exact hlt) hlj (by rw [HE.out, HE2.out]; exact z)
     have HYES : Hid (auPair r r2 = true → ∀ q, q < j + 1 → auPair (rs.getD k rep0) (rs.getD q rep0) = true) := fun z q h1 => by
      by_cases e : q = j
      ·rw [e, HE.out, HE2.out]; exact z
      ·exact H1.out q (by omega)
     clear H1
     go_wp2_with fail
     have DQ : Below wr.heap.size wr wr.drew := (Below.refl _ _).drew
     replace X0 := X0.below DQ
     replace c0 := X0.cell
     replace XN := XN.below DQ
     replace cN := XN.cell
     replace XN2 := XN2.below DQ
     replace cN2 := XN2.cell
     replace hb := below_next hb DQ
     clear DQ
     by_cases q0 : r.last = r2.last
     rotate_left 1
     ·have q0' : (r.last == r2.last) = false := by simp [q0]
      have HN : Hid _ := HYES.out (HF.out q0)
      clear q0
      refine wp_region_held_drew (S := (fun w' => (∀ k : Nat, w'.cell? ⟨b0, k, none⟩ = [.slice (some ⟨b, off, none⟩) n cap, .slice M.1 M.2.1 M.2.2, .slice Sl.1 Sl.2.1 Sl.2.2][k]?) ∧ (w'.cell? ⟨b, off + k * 10, none⟩ = [.int .i64 r.id, .int .i64 r.size, .int .i64 r.view, .bool r.normal, .int .i64 r.last, .slice h.L.1 h.L.2.1 h.L.2.2, .int .i64 r.commit, .slice h.O.1 h.O.2.1 h.O.2.2, .slice h.A.1 h.A.2.1 h.A.2.2, .slice h.D.1 h.D.2.1 h.D.2.2][0]? ∧ ∀ k_1 : Nat, k_1 < 10 → w'.cell? ⟨b, off + k * 10 + k_1, none⟩ = [.int .i64 r.id, .int .i64 r.size, .int .i64 r.view, .bool r.normal, .int .i64 r.last, .slice h.L.1 h.L.2.1 h.L.2.2, .int .i64 r.commit, .slice h.O.1 h.O.2.1 h.O.2.2, .slice h.A.1 h.A.2.1 h.A.2.2, .slice h.D.1 h.D.2.1 h.D.2.2][k_1]?) ∧ (w'.cell? ⟨b, off + j * 10, none⟩ = [.int .i64 r2.id, .int .i64 r2.size, .int .i64 r2.view, .bool r2.normal, .int .i64 r2.last, .slice h2.L.1 h2.L.2.1 h2.L.2.2, .int .i64 r2.commit, .slice h2.O.1 h2.O.2.1 h2.O.2.2, .slice h2.A.1 h2.A.2.1 h2.A.2.2, .slice h2.D.1 h2.D.2.1 h2.D.2.2][0]? ∧ ∀ k_1 : Nat, k_1 < 10 → w'.cell? ⟨b, off + j * 10 + k_1, none⟩ = [.int .i64 r2.id, .int .i64 r2.size, .int .i64 r2.view, .bool r2.normal, .int .i64 r2.last, .slice h2.L.1 h2.L.2.1 h2.L.2.2, .int .i64 r2.commit, .slice h2.O.1 h2.O.2.1 h2.O.2.2, .slice h2.A.1 h2.A.2.1 h2.A.2.2, .slice h2.D.1 h2.D.2.1 h2.D.2.2][k_1]?))) (by kernel_rfl) ⟨c0, cN, cN2⟩ (fun hZq => ?_)
      refine tk 0 hZq ?_
      refine tk 1 hZq ?_
      refine tk 2 hZq ?_
      refine tk 3 hZq ?_
      refine tk 4 hZq ?_
      refine tk 5 hZq ?_
      refine tk 6 hZq ?_
      refine tk 7 hZq ?_
      refine tk 8 hZq ?_
      refine tk 9 hZq ?_
      refine tk 10 hZq ?_
      refine tk 11 hZq ?_
      refine tk 12 hZq ?_
      refine tk 13 hZq ?_
      refine tk 14 hZq ?_
      refine tk 15 hZq ?_
      refine tk 16 hZq ?_
      refine tk 17 hZq ?_
      refine tks 18 hZq ?_
      refine tks 19 hZq ?_
      refine tks 20 hZq ?_
      refine tks 21 hZq ?_
      refine tk 22 hZq ?_
      refine tk 23 hZq ?_
      refine tks 24 hZq ?_
      refine tks 25 hZq ?_
      refine tks 26 hZq ?_
      refine tks 27 hZq ?_
      refine tk 28 hZq ?_
      refine wpAnyH_done (by kernel_rfl) ?_ _
      have HB : Hid _ := hb
      clear HNO HYES hb
      go_wp2
      go_roundw
      case rel => exact ⟨j + 1, by omega, by go_num, HN, HB.out⟩
      case measure => simp [intOf]; omega
     have q0' : (r.last == r2.last) = true := by simp [q0]
     have HP2 : Hid _ := HP.out q0
     clear q0 HP HF
     cases d1 with
     | true =>
      refine wp_region_held_drew (S := (fun w' => (∀ k : Nat, w'.cell? ⟨b0, k, none⟩ = [.slice (some ⟨b, off, none⟩) n cap, .slice M.1 M.2.1 M.2.2, .slice Sl.1 Sl.2.1 Sl.2.2][k]?) ∧ (w'.cell? ⟨b, off + k * 10, none⟩ = [.int .i64 r.id, .int .i64 r.size, .int .i64 r.view, .bool r.normal, .int .i64 r.last, .slice h.L.1 h.L.2.1 h.L.2.2, .int .i64 r.commit, .slice h.O.1 h.O.2.1 h.O.2.2, .slice h.A.1 h.A.2.1 h.A.2.2, .slice h.D.1 h.D.2.1 h.D.2.2][0]? ∧ ∀ k_1 : Nat, k_1 < 10 → w'.cell? ⟨b, off + k * 10 + k_1, none⟩ = [.int .i64 r.id, .int .i64 r.size, .int .i64 r.view, .bool r.normal, .int .i64 r.last, .slice h.L.1 h.L.2.1 h.L.2.2, .int .i64 r.commit, .slice h.O.1 h.O.2.1 h.O.2.2, .slice h.A.1 h.A.2.1 h.A.2.2, .slice h.D.1 h.D.2.1 h.D.2.2][k_1]?) ∧ (w'.cell? ⟨b, off + j * 10, none⟩ = [.int .i64 r2.id, .int .i64 r2.size, .int .i64 r2.view, .bool r2.normal, .int .i64 r2.last, .slice h2.L.1 h2.L.2.1 h2.L.2.2, .int .i64 r2.commit, .slice h2.O.1 h2.O.2.1 h2.O.2.2, .slice h2.A.1 h2.A.2.1 h2.A.2.2, .slice h2.D.1 h2.D.2.1 h2.D.2.2][0]? ∧ ∀ k_1 : Nat, k_1 < 10 → w'.cell? ⟨b, off + j * 10 + k_1, none⟩ = [.int .i64 r2.id, .int .i64 r2.size, .int .i64 r2.view, .bool r2.normal, .int .i64 r2.last, .slice h2.L.1 h2.L.2.1 h2.L.2.2, .int .i64 r2.commit, .slice h2.O.1 h2.O.2.1 h2.O.2.2, .slice h2.A.1 h2.A.2.1 h2.A.2.2, .slice h2.D.1 h2.D.2.1 h2.D.2.2][k_1]?))) (by kernel_rfl) ⟨c0, cN, cN2⟩ (fun hZq => ?_)
      refine tk 0 hZq ?_
      refine tk 1 hZq ?_
      refine tk 2 hZq ?_
      refine tk 3 hZq ?_
      refine tk 4 hZq ?_
      refine tk 5 hZq ?_
      refine tk 6 hZq ?_
      refine tk 7 hZq ?_
      refine tk 8 hZq ?_
      refine tk 9 hZq ?_
      refine tk 10 hZq ?_
      refine tk 11 hZq ?_
      refine tk 12 hZq ?_
      refine tk 13 hZq ?_
      refine tk 14 hZq ?_
      refine tk 15 hZq ?_
      refine tk 16 hZq ?_
      refine tk 17 hZq ?_
      refine tk 18 hZq ?_
      refine tk 19 hZq ?_
      refine rd1 20 (fun KK hKK => ?_)
      go_simp
      go_at_call 31
      refine (specIsB_is h.L.1 h2.L.1 h.L.2.1 h.L.2.2 h2.L.2.1 h2.L.2.2 r.log r2.log _ ((Hx.out.nodes.below hb).each k _ HEX.out).log ((Hx.out.nodes.below hb).each j _ HEX2.out).log (by omega) true HD1.out).mono ?_
      rintro e w1 ⟨rfl, BB⟩
      replace X0 := X0.below BB
      replace c0 := X0.cell
      replace XN := XN.below BB
      replace cN := XN.cell
      replace XN2 := XN2.below BB
      replace cN2 := XN2.cell
      replace hb := below_next hb BB
      clear BB
      clear hZq
      refine hKK _ _ ⟨c0, cN, cN2⟩ (fun hZq => ?_)
      clear hKK KK
      refine tk 21 hZq ?_
      refine tk 22 hZq ?_
      refine tk 23 hZq ?_
      refine tks 24 hZq ?_
      refine tks 25 hZq ?_
      refine tks 26 hZq ?_
      refine tks 27 hZq ?_
      refine tk 28 hZq ?_
      refine wpAnyH_done (by kernel_rfl) ?_ _
      have HN : Hid _ := HYES.out HP2.out
      have HB : Hid _ := hb
      clear HNO HYES hb
      go_wp2
      go_roundw
      case rel => exact ⟨j + 1, by omega, by go_num, HN, HB.out⟩
      case measure => simp [intOf]; omega
     | false =>
      cases d2 with
      | true =>
       refine wp_region_held_drew (S := (fun w' => (∀ k : Nat, w'.cell? ⟨b0, k, none⟩ = [.slice (some ⟨b, off, none⟩) n cap, .slice M.1 M.2.1 M.2.2, .slice Sl.1 Sl.2.1 Sl.2.2][k]?) ∧ (w'.cell? ⟨b, off + k * 10, none⟩ = [.int .i64 r.id, .int .i64 r.size, .int .i64 r.view, .bool r.normal, .int .i64 r.last, .slice h.L.1 h.L.2.1 h.L.2.2, .int .i64 r.commit, .slice h.O.1 h.O.2.1 h.O.2.2, .slice h.A.1 h.A.2.1 h.A.2.2, .slice h.D.1 h.D.2.1 h.D.2.2][0]? ∧ ∀ k_1 : Nat, k_1 < 10 → w'.cell? ⟨b, off + k * 10 + k_1, none⟩ = [.int .i64 r.id, .int .i64 r.size, .int .i64 r.view, .bool r.normal, .int .i64 r.last, .slice h.L.1 h.L.2.1 h.L.2.2, .int .i64 r.commit, .slice h.O.1 h.O.2.1 h.O.2.2, .slice h.A.1 h.A.2.1 h.A.2.2, .slice h.D.1 h.D.2.1 h.D.2.2][k_1]?) ∧ (w'.cell? ⟨b, off + j * 10, none⟩ = [.int .i64 r2.id, .int .i64 r2.size, .int .i64 r2.view, .bool r2.normal, .int .i64 r2.last, .slice h2.L.1 h2.L.2.1 h2.L.2.2, .int .i64 r2.commit, .slice h2.O.1 h2.O.2.1 h2.O.2.2, .slice h2.A.1 h2.A.2.1 h2.A.2.2, .slice h2.D.1 h2.D.2.1 h2.D.2.2][0]? ∧ ∀ k_1 : Nat, k_1 < 10 → w'.cell? ⟨b, off + j * 10 + k_1, none⟩ = [.int .i64 r2.id, .int .i64 r2.size, .int .i64 r2.view, .bool r2.normal, .int .i64 r2.last, .slice h2.L.1 h2.L.2.1 h2.L.2.2, .int .i64 r2.commit, .slice h2.O.1 h2.O.2.1 h2.O.2.2, .slice h2.A.1 h2.A.2.1 h2.A.2.2, .slice h2.D.1 h2.D.2.1 h2.D.2.2][k_1]?))) (by kernel_rfl) ⟨c0, cN, cN2⟩ (fun hZq => ?_)
       refine tk 0 hZq ?_
       refine tk 1 hZq ?_
       refine tk 2 hZq ?_
       refine tk 3 hZq ?_
       refine tk 4 hZq ?_
       refine tk 5 hZq ?_
       refine tk 6 hZq ?_
       refine tk 7 hZq ?_
       refine tk 8 hZq ?_
       refine tk 9 hZq ?_
       refine tk 10 hZq ?_
       refine tk 11 hZq ?_
       refine tk 12 hZq ?_
       refine tk 13 hZq ?_
       refine tk 14 hZq ?_
       refine tk 15 hZq ?_
       refine tk 16 hZq ?_
       refine tk 17 hZq ?_
       refine tk 18 hZq ?_
       refine tk 19 hZq ?_
       refine rd1 20 (fun KK hKK => ?_)
       go_simp
       go_at_call 31
       refine (specIsB_is h.L.1 h2.L.1 h.L.2.1 h.L.2.2 h2.L.2.1 h2.L.2.2 r.log r2.log _ ((Hx.out.nodes.below hb).each k _ HEX.out).log ((Hx.out.nodes.below hb).each j _ HEX2.out).log (by omega) false HD1.out).mono ?_
       rintro e w1 ⟨rfl, BB⟩
       replace X0 := X0.below BB
       replace c0 := X0.cell
       replace XN := XN.below BB
       replace cN := XN.cell
       replace XN2 := XN2.below BB
       replace cN2 := XN2.cell
       replace hb := below_next hb BB
       clear BB
       clear hZq
       refine hKK _ _ ⟨c0, cN, cN2⟩ (fun hZq => ?_)
       clear hKK KK
       refine tk 21 hZq ?_
       refine tk 22 hZq ?_
       refine tk 23 hZq ?_
       refine tk 24 hZq ?_
       refine tk 25 hZq ?_
       refine rd1 26 (fun KK hKK => ?_)
       go_simp
       go_at_call 31
       refine (specIsB_is h2.L.1 h.L.1 h2.L.2.1 h2.L.2.2 h.L.2.1 h.L.2.2 r2.log r.log _ ((Hx.out.nodes.below hb).each j _ HEX2.out).log ((Hx.out.nodes.below hb).each k _ HEX.out).log (by omega) true HD2.out).mono ?_
       rintro e w2 ⟨rfl, BB⟩
       replace X0 := X0.below BB
       replace c0 := X0.cell
       replace XN := XN.below BB
       replace cN := XN.cell
       replace XN2 := XN2.below BB
       replace cN2 := XN2.cell
       replace hb := below_next hb BB
       clear BB
       clear hZq
       refine hKK _ _ ⟨c0, cN, cN2⟩ (fun hZq => ?_)
       clear hKK KK
       refine tk 27 hZq ?_
       refine tk 28 hZq ?_
       refine wpAnyH_done (by kernel_rfl) ?_ _
       have HN : Hid _ := HYES.out HP2.out
       have HB : Hid _ := hb
       clear HNO HYES hb
       go_wp2
       go_roundw
       case rel => exact ⟨j + 1, by omega, by go_num, HN, HB.out⟩
       case measure => simp [intOf]; omega
      | false =>
       refine wp_region_held_drew (S := (fun w' => (∀ k : Nat, w'.cell? ⟨b0, k, none⟩ = [.slice (some ⟨b, off, none⟩) n cap, .slice M.1 M.2.1 M.2.2, .slice Sl.1 Sl.2.1 Sl.2.2][k]?) ∧ (w'.cell? ⟨b, off + k * 10, none⟩ = [.int .i64 r.id, .int .i64 r.size, .int .i64 r.view, .bool r.normal, .int .i64 r.last, .slice h.L.1 h.L.2.1 h.L.2.2, .int .i64 r.commit, .slice h.O.1 h.O.2.1 h.O.2.2, .slice h.A.1 h.A.2.1 h.A.2.2, .slice h.D.1 h.D.2.1 h.D.2.2][0]? ∧ ∀ k_1 : Nat, k_1 < 10 → w'.cell? ⟨b, off + k * 10 + k_1, none⟩ = [.int .i64 r.id, .int .i64 r.size, .int .i64 r.view, .bool r.normal, .int .i64 r.last, .slice h.L.1 h.L.2.1 h.L.2.2, .int .i64 r.commit, .slice h.O.1 h.O.2.1 h.O.2.2, .slice h.A.1 h.A.2.1 h.A.2.2, .slice h.D.1 h.D.2.1 h.D.2.2][k_1]?) ∧ (w'.cell? ⟨b, off + j * 10, none⟩ = [.int .i64 r2.id, .int .i64 r2.size, .int .i64 r2.view, .bool r2.normal, .int .i64 r2.last, .slice h2.L.1 h2.L.2.1 h2.L.2.2, .int .i64 r2.commit, .slice h2.O.1 h2.O.2.1 h2.O.2.2, .slice h2.A.1 h2.A.2.1 h2.A.2.2, .slice h2.D.1 h2.D.2.1 h2.D.2.2][0]? ∧ ∀ k_1 : Nat, k_1 < 10 → w'.cell? ⟨b, off + j * 10 + k_1, none⟩ = [.int .i64 r2.id, .int .i64 r2.size, .int .i64 r2.view, .bool r2.normal, .int .i64 r2.last, .slice h2.L.1 h2.L.2.1 h2.L.2.2, .int .i64 r2.commit, .slice h2.O.1 h2.O.2.1 h2.O.2.2, .slice h2.A.1 h2.A.2.1 h2.A.2.2, .slice h2.D.1 h2.D.2.1 h2.D.2.2][k_1]?))) (by kernel_rfl) ⟨c0, cN, cN2⟩ (fun hZq => ?_)
       refine tk 0 hZq ?_
       refine tk 1 hZq ?_
       refine tk 2 hZq ?_
       refine tk 3 hZq ?_
       refine tk 4 hZq ?_
       refine tk 5 hZq ?_
       refine tk 6 hZq ?_
       refine tk 7 hZq ?_
       refine tk 8 hZq ?_
       refine tk 9 hZq ?_
       refine tk 10 hZq ?_
       refine tk 11 hZq ?_
       refine tk 12 hZq ?_
       refine tk 13 hZq ?_
       refine tk 14 hZq ?_
       refine tk 15 hZq ?_
       refine tk 16 hZq ?_
       refine tk 17 hZq ?_
       refine tk 18 hZq ?_
       refine tk 19 hZq ?_
       refine rd1 20 (fun KK hKK => ?_)
       go_simp
       go_at_call 31
       refine (specIsB_is h.L.1 h2.L.1 h.L.2.1 h.L.2.2 h2.L.2.1 h2.L.2.2 r.log r2.log _ ((Hx.out.nodes.below hb).each k _ HEX.out).log ((Hx.out.nodes.below hb).each j _ HEX2.out).log (by omega) false HD1.out).mono ?_
       rintro e w1 ⟨rfl, BB⟩
       replace X0 := X0.below BB
       replace c0 := X0.cell
       replace XN := XN.below BB
       replace cN := XN.cell
       replace XN2 := XN2.below BB
       replace cN2 := XN2.cell
       replace hb := below_next hb BB
       clear BB
       clear hZq
       refine hKK _ _ ⟨c0, cN, cN2⟩ (fun hZq => ?_)
       clear hKK KK
       refine tk 21 hZq ?_
       refine tk 22 hZq ?_
       refine tk 23 hZq ?_
       refine tk 24 hZq ?_
       refine tk 25 hZq ?_
       refine rd1 26 (fun KK hKK => ?_)
       go_simp
       go_at_call 31
       refine (specIsB_is h2.L.1 h.L.1 h2.L.2.1 h2.L.2.2 h.L.2.1 h.L.2.2 r2.log r.log _ ((Hx.out.nodes.below hb).each j _ HEX2.out).log ((Hx.out.nodes.below hb).each k _ HEX.out).log (by omega) false HD2.out).mono ?_
       rintro e w2 ⟨rfl, BB⟩
       replace X0 := X0.below BB
       replace c0 := X0.cell
       replace XN := XN.below BB
       replace cN := XN.cell
       replace XN2 := XN2.below BB
       replace cN2 := XN2.cell
       replace hb := below_next hb BB
       clear BB
       clear hZq
       refine hKK _ _ ⟨c0, cN, cN2⟩ (fun hZq => ?_)
       clear hKK KK
       refine tk 27 hZq ?_
       refine tk 28 hZq ?_
       refine wpAnyH_done (by kernel_rfl) ?_ _
       have e : d = false := HNO.out HP2.out
       subst e
       clear HNO HYES HD
       go_wp2
       go_ret
       exact ⟨rfl, hb⟩
    ·obtain rfl : j = k := by omega
     have HN : Hid (∀ i, i < (j + 1) → ∀ j, j < i → auPair (rs.getD i rep0) (rs.getD j rep0) = true) := fun i hi q hq => by
      by_cases e : i = j
      ·subst e; exact H1.out q hq
      ·exact H0.out i (by omega) q hq
     have HB : Hid _ := hb
     clear hb HB0
     go_wp2
     go_roundw
     case rel => exact ⟨j + 1, by omega, by go_num, HN, HB.out⟩
     case measure => simp [intOf]; omega
  ·obtain rfl : k = n := by omega
   have e : d = true := by rw [← HD.out]; exact auMatch_yes (fun i hi j hj => H0.out i (by rw [HL.out] at hi; exact hi) j hj)
   subst e
   clear HD
   go_wp2
   go_ret
   exact ⟨rfl, hb0⟩
theorem auMax_is (x y : Int) (w : World) : Calls Tryz.prog 32 #[.int .i64 x, .int .i64 y] w fun e w' => e = .returned (.int .i64 (max x y)) ∧ w' = w := by
 by_cases h : y < x
 ·have h' : max x y = x := by omega
  rw [h']
  go_enter Tryz.func32, Tryz.ntmps32
  go_wp2
  go_ret
  exact ⟨rfl, rfl⟩
 ·have h' : max x y = y := by omega
  rw [h']
  go_enter Tryz.func32, Tryz.ntmps32
  go_wp2
  go_ret
  exact ⟨rfl, rfl⟩
theorem auMHave_is (b0 : Nat) {own : Bool} {lo hi : Nat} (N M Sl : Hd) (xs : List Nod) (ms : List Mal) (es : List En) (w : World) (X0 : Bx w b0 [.slice N.1 N.2.1 N.2.2, .slice M.1 M.2.1 M.2.2, .slice Sl.1 Sl.2.1 Sl.2.2]) (x : ClAt w own lo hi N M Sl xs ms es) (hs : ClSz N M Sl xs ms 1048576) (hr : cluF (xs.map (·.1)) (ms.map (·.1)) es = 0) (d : Bool) (hd : (xs.map (·.1)).all (auHas (auG (xs.map (·.1))) es) = d) :
  Calls Tryz.prog 15 #[.pointer (some ⟨b0, 0, none⟩)] w fun e w' => e = .returned (.bool d) ∧ Below w.heap.size w w' := by
 obtain ⟨⟨ao, n, cap⟩, hN⟩ : ∃ q : Hd, N = q := ⟨N, rfl⟩
 subst hN
 have hl : (xs.map (·.1)).length = n := by simpa using x.nodes.len
 have hes := x.slog.nSixs
 have hn := hs.n
 have HRt : Hid _ := auRight x hr
 have HD : Hid _ := hd
 have HS : Hid _ := hs
 have Hx : Hid _ := x
 clear hd hr hs x
 obtain ⟨rs, hrs⟩ : ∃ rs, (xs.map (·.1)) = rs := ⟨_, rfl⟩
 have HR : Hid (∀ (i : Nat) (a : Nod), xs[i]? = some a → rs.getD i rep0 = a.1) := fun i a e => by rw [← hrs]; exact mapD e
 have HD2 := HD.out
 rw [hrs] at hl HD2
 replace HD : Hid _ := HD2
 have HL : Hid _ := hl
 have HES : Hid _ := hes
 clear HD2 hrs hl hes
 obtain ⟨gv, hgv⟩ : ∃ q, auG rs = q := ⟨_, rfl⟩
 have HG : Hid (auGTo rs n = gv) := by show _ = _; rw [← hgv, ← HL.out]; rfl
 have HGG : Hid _ := hgv
 have HD2 := HD.out
 rw [hgv] at HD2
 replace HD : Hid _ := HD2
 clear HD2 hgv
 simp only at hn X0 ⊢
 have HX0 : Hid _ := X0
 have c0 := X0.cell
 go_enter Tryz.func15, Tryz.ntmps15
 clear c0
 go_wp2_with fail
 go_loopw [3, 4] (fun v i wr => ∃ (k : Nat) (g : Int), k ≤ n ∧ v = .int .i64 g ∧ i = .int .i64 k ∧ Hid (auGTo rs k = g) ∧ Below w.heap.size w wr) (fun _ i _ => n - (intOf i).toNat)
 case atStart => exact ⟨0, -1, Nat.zero_le _, rfl, rfl, rfl, Below.refl _ _⟩
 case round =>
  obtain ⟨k, g, hk, rfl, rfl, H0, hb⟩ := hrel
  have X0 := HX0.out.below hb
  have c0 := X0.cell
  by_cases hlt : k < n
  ·have hlk : (k : Int) < (n : Int) := by omega
   obtain ⟨r, h, b, off, ex, rfl, _, _, XN, y, _⟩ := LAt.node (NAt.below Hx.out.nodes hb) (i := k) (by show _ < n; omega)
   have cN := XN.cell
   have HE : Hid (rs.getD k rep0 = r) := HR.out k _ ex
   clear ex y
   obtain ⟨nm, hnm⟩ : ∃ q, r.normal = q := ⟨_, rfl⟩
   have HNm : Hid _ := hnm
   rw [hnm] at cN
   clear XN hnm
   cases nm with
   | false =>
    go_wp2_with fail
    have HN : Hid _ := auGTo_no HE.out HNm.out H0.out
    have HB : Hid _ := hb
    clear hb cN X0 c0
    go_wp2
    go_roundw
    case rel => exact ⟨k + 1, _, by omega, rfl, by go_num, HN, HB.out⟩
    case measure => simp [intOf]; omega
   | true =>
    go_wp2_with fail
    refine (auMax_is g r.view _).mono ?_
    rintro e w1 ⟨rfl, rfl⟩
    have HN : Hid _ := auGTo_yes HE.out HNm.out H0.out
    have HB : Hid _ := hb
    clear hb cN X0 c0
    go_wp2
    go_roundw
    case rel => exact ⟨k + 1, _, by omega, rfl, by go_num, HN, HB.out⟩
    case measure => simp [intOf]; omega
  ·obtain rfl : k = n := by omega
   obtain rfl : g = gv := by rw [← HG.out]; exact H0.out.symm
   clear H0 HG
   have HB0 : Hid _ := hb
   go_wp2_with fail
   clear hb X0 c0
   go_loopw [5] (fun i wr => ∃ j : Nat, j ≤ k ∧ i = .int .i64 j ∧ Hid (∀ q, q < j → auHas g es (rs.getD q rep0) = true) ∧ Below w.heap.size w wr) (fun i _ => k - (intOf i).toNat)
   case atStart => exact ⟨0, Nat.zero_le _, rfl, fun j hj => absurd hj (Nat.not_lt_zero _), HB0.out⟩
   case round =>
    obtain ⟨j, hj, rfl, H0, hb⟩ := hrel
    have X0 := HX0.out.below hb
    have c0 := X0.cell
    by_cases hlj : j < k
    ·have hjk : (j : Int) < (k : Int) := by omega
     obtain ⟨r, h, b, off, ex, rfl, _, _, XN, y, _⟩ := LAt.node (NAt.below Hx.out.nodes hb) (i := j) (by show _ < k; omega)
     have HE : Hid (rs.getD j rep0 = r) := HR.out j _ ex
     have hrt := HRt.out.2 j r h ex
     have hsz := hrt.2.1
     have hvw := hrt.2.2.1
     have hs1 := (HS.out.nodes _ _ ex).L
     have HEX : Hid _ := ex
     simp only at hs1
     have HHs : Hid (Sl.2.1 ≤ 1048576) := HS.out.s
     clear ex y hrt
     have HNO : Hid (auHas g es r = false → d = false) := fun z => by rw [← HD.out]; exact auAll_no (by rw [HL.out]; exact hlj) (by rw [HE.out]; exact z)
     have HYES : Hid (auHas g es r = true → ∀ q, q < j + 1 → auHas g es (rs.getD q rep0) = true) := fun z q hq => by
      by_cases e : q = j
      ·rw [e, HE.out]; exact z
      ·exact H0.out q (by omega)
     have HQ : Hid (leadsB r = true → auHas g es r = (!(decide (r.view = g)) || decide (commN es r.log = es.length))) := fun z => by have := auHas_eq (es := es) (k := j) (by rw [HL.out]; exact hlj) HE.out z; rw [HGG.out] at this; exact this
     clear H0
     obtain ⟨nm, hnm⟩ : ∃ q, r.normal = q := ⟨_, rfl⟩
     have HNm : Hid _ := hnm
     obtain ⟨pr, hpr⟩ : ∃ q, (r.view % r.size == r.id) = q := ⟨_, rfl⟩
     have HPr : Hid _ := hpr
     have HLd : Hid (leadsB r = (nm && pr)) := by show _ = _; unfold leadsB; rw [hnm, hpr]
     rw [hnm] at XN
     have cN := XN.cell
     clear hnm hpr
     go_wp2_with fail
     have DQ : Below wr.heap.size wr wr.drew := (Below.refl _ _).drew
     replace X0 := X0.below DQ
     replace c0 := X0.cell
     replace XN := XN.below DQ
     replace cN := XN.cell
     replace hb := below_next hb DQ
     clear DQ
     cases nm with
     | false =>
      refine wp_region_held_drew (S := (fun w' => (∀ k_2 : Nat, w'.cell? ⟨b0, k_2, none⟩ = [.slice (some ⟨b, off, none⟩) k cap, .slice M.1 M.2.1 M.2.2, .slice Sl.1 Sl.2.1 Sl.2.2][k_2]?) ∧ (w'.cell? ⟨b, off + j * 10, none⟩ = [.int .i64 r.id, .int .i64 r.size, .int .i64 r.view, .bool false, .int .i64 r.last, .slice h.L.1 h.L.2.1 h.L.2.2, .int .i64 r.commit, .slice h.O.1 h.O.2.1 h.O.2.2, .slice h.A.1 h.A.2.1 h.A.2.2, .slice h.D.1 h.D.2.1 h.D.2.2][0]? ∧ ∀ k_1 : Nat, k_1 < 10 → w'.cell? ⟨b, off + j * 10 + k_1, none⟩ = [.int .i64 r.id, .int .i64 r.size, .int .i64 r.view, .bool false, .int .i64 r.last, .slice h.L.1 h.L.2.1 h.L.2.2, .int .i64 r.commit, .slice h.O.1 h.O.2.1 h.O.2.2, .slice h.A.1 h.A.2.1 h.A.2.2, .slice h.D.1 h.D.2.1 h.D.2.2][k_1]?))) (by kernel_rfl) ⟨c0, cN⟩ (fun hZq => ?_)
      refine tk 0 hZq ?_
      refine tk 1 hZq ?_
      refine tk 2 hZq ?_
      refine tk 3 hZq ?_
      refine tk 4 hZq ?_
      refine tks 5 hZq ?_
      refine tks 6 hZq ?_
      refine tk 7 hZq ?_
      refine tk 8 hZq ?_
      refine tks 9 hZq ?_
      refine tks 10 hZq ?_
      refine tks 11 hZq ?_
      refine tks 12 hZq ?_
      refine tks 13 hZq ?_
      refine tks 14 hZq ?_
      refine tk 15 hZq ?_
      refine tk 16 hZq ?_
      refine tks 17 hZq ?_
      refine tks 18 hZq ?_
      refine tks 19 hZq ?_
      refine tks 20 hZq ?_
      refine tks 21 hZq ?_
      refine tks 22 hZq ?_
      refine tks 23 hZq ?_
      refine tks 24 hZq ?_
      refine tks 25 hZq ?_
      refine tks 26 hZq ?_
      refine tk 27 hZq ?_
      refine wpAnyH_done (by kernel_rfl) ?_ _
      have HN : Hid _ := HYES.out (auHas_not HLd.out)
      have HB : Hid _ := hb
      clear HNO HYES hb
      go_wp2
      go_roundw
      case rel => exact ⟨j + 1, by omega, by go_num, HN, HB.out⟩
      case measure => simp [intOf]; omega
     | true =>
      cases pr with
      | false =>
       refine wp_region_held_drew (S := (fun w' => (∀ k_2 : Nat, w'.cell? ⟨b0, k_2, none⟩ = [.slice (some ⟨b, off, none⟩) k cap, .slice M.1 M.2.1 M.2.2, .slice Sl.1 Sl.2.1 Sl.2.2][k_2]?) ∧ (w'.cell? ⟨b, off + j * 10, none⟩ = [.int .i64 r.id, .int .i64 r.size, .int .i64 r.view, .bool true, .int .i64 r.last, .slice h.L.1 h.L.2.1 h.L.2.2, .int .i64 r.commit, .slice h.O.1 h.O.2.1 h.O.2.2, .slice h.A.1 h.A.2.1 h.A.2.2, .slice h.D.1 h.D.2.1 h.D.2.2][0]? ∧ ∀ k_1 : Nat, k_1 < 10 → w'.cell? ⟨b, off + j * 10 + k_1, none⟩ = [.int .i64 r.id, .int .i64 r.size, .int .i64 r.view, .bool true, .int .i64 r.last, .slice h.L.1 h.L.2.1 h.L.2.2, .int .i64 r.commit, .slice h.O.1 h.O.2.1 h.O.2.2, .slice h.A.1 h.A.2.1 h.A.2.2, .slice h.D.1 h.D.2.1 h.D.2.2][k_1]?))) (by kernel_rfl) ⟨c0, cN⟩ (fun hZq => ?_)
       refine tk 0 hZq ?_
       refine tk 1 hZq ?_
       refine tk 2 hZq ?_
       refine tk 3 hZq ?_
       refine tk 4 hZq ?_
       refine tk 5 hZq ?_
       refine rd1 6 (fun KK hKK => ?_)
       go_simp
       go_at_call 33
       refine (l9PrimaryO_is b (off + j * 10) r.id r.size r.view true r.last h.L r.commit h.O h.A h.D hsz hvw _ XN).mono ?_
       rintro e w1 ⟨rfl, BB⟩
       rw [HPr.out]
       replace X0 := X0.below BB
       replace c0 := X0.cell
       replace XN := XN.below BB
       replace cN := XN.cell
       replace hb := below_next hb BB
       clear BB
       clear hZq
       refine hKK _ _ ⟨c0, cN⟩ (fun hZq => ?_)
       clear hKK KK
       refine tk 7 hZq ?_
       refine tk 8 hZq ?_
       refine tks 9 hZq ?_
       refine tks 10 hZq ?_
       refine tks 11 hZq ?_
       refine tks 12 hZq ?_
       refine tks 13 hZq ?_
       refine tks 14 hZq ?_
       refine tk 15 hZq ?_
       refine tk 16 hZq ?_
       refine tks 17 hZq ?_
       refine tks 18 hZq ?_
       refine tks 19 hZq ?_
       refine tks 20 hZq ?_
       refine tks 21 hZq ?_
       refine tks 22 hZq ?_
       refine tks 23 hZq ?_
       refine tks 24 hZq ?_
       refine tks 25 hZq ?_
       refine tks 26 hZq ?_
       refine tk 27 hZq ?_
       refine wpAnyH_done (by kernel_rfl) ?_ _
       have HN : Hid _ := HYES.out (auHas_not HLd.out)
       have HB : Hid _ := hb
       clear HNO HYES hb
       go_wp2
       go_roundw
       case rel => exact ⟨j + 1, by omega, by go_num, HN, HB.out⟩
       case measure => simp [intOf]; omega
      | true =>
       have HQ2 := HQ.out HLd.out
       by_cases q0 : r.view = g
       rotate_left 1
       ·have q0' : (r.view == g) = false := by simp [q0]
        rw [decide_eq_false q0] at HQ2
        have HQ3 : Hid (auHas g es r = true) := HQ2
        clear HQ2 q0
        refine wp_region_held_drew (S := (fun w' => (∀ k_2 : Nat, w'.cell? ⟨b0, k_2, none⟩ = [.slice (some ⟨b, off, none⟩) k cap, .slice M.1 M.2.1 M.2.2, .slice Sl.1 Sl.2.1 Sl.2.2][k_2]?) ∧ (w'.cell? ⟨b, off + j * 10, none⟩ = [.int .i64 r.id, .int .i64 r.size, .int .i64 r.view, .bool true, .int .i64 r.last, .slice h.L.1 h.L.2.1 h.L.2.2, .int .i64 r.commit, .slice h.O.1 h.O.2.1 h.O.2.2, .slice h.A.1 h.A.2.1 h.A.2.2, .slice h.D.1 h.D.2.1 h.D.2.2][0]? ∧ ∀ k_1 : Nat, k_1 < 10 → w'.cell? ⟨b, off + j * 10 + k_1, none⟩ = [.int .i64 r.id, .int .i64 r.size, .int .i64 r.view, .bool true, .int .i64 r.last, .slice h.L.1 h.L.2.1 h.L.2.2, .int .i64 r.commit, .slice h.O.1 h.O.2.1 h.O.2.2, .slice h.A.1 h.A.2.1 h.A.2.2, .slice h.D.1 h.D.2.1 h.D.2.2][k_1]?))) (by kernel_rfl) ⟨c0, cN⟩ (fun hZq => ?_)
        refine tk 0 hZq ?_
        refine tk 1 hZq ?_
        refine tk 2 hZq ?_
        refine tk 3 hZq ?_
        refine tk 4 hZq ?_
        refine tk 5 hZq ?_
        refine rd1 6 (fun KK hKK => ?_)
        go_simp
        go_at_call 33
        refine (l9PrimaryO_is b (off + j * 10) r.id r.size r.view true r.last h.L r.commit h.O h.A h.D hsz hvw _ XN).mono ?_
        rintro e w1 ⟨rfl, BB⟩
        rw [HPr.out]
        replace X0 := X0.below BB
        replace c0 := X0.cell
        replace XN := XN.below BB
        replace cN := XN.cell
        replace hb := below_next hb BB
        clear BB
        clear hZq
        refine hKK _ _ ⟨c0, cN⟩ (fun hZq => ?_)
        clear hKK KK
        refine tk 7 hZq ?_
        refine tk 8 hZq ?_
        refine tk 9 hZq ?_
        refine tk 10 hZq ?_
        refine tk 11 hZq ?_
        refine tk 12 hZq ?_
        refine tk 13 hZq ?_
        refine tk 14 hZq ?_
        refine tk 15 hZq ?_
        refine tk 16 hZq ?_
        refine tks 17 hZq ?_
        refine tks 18 hZq ?_
        refine tks 19 hZq ?_
        refine tks 20 hZq ?_
        refine tks 21 hZq ?_
        refine tks 22 hZq ?_
        refine tks 23 hZq ?_
        refine tks 24 hZq ?_
        refine tks 25 hZq ?_
        refine tks 26 hZq ?_
        refine tk 27 hZq ?_
        refine wpAnyH_done (by kernel_rfl) ?_ _
        have HN : Hid _ := HYES.out HQ3.out
        have HB : Hid _ := hb
        clear HNO HYES hb
        go_wp2
        go_roundw
        case rel => exact ⟨j + 1, by omega, by go_num, HN, HB.out⟩
        case measure => simp [intOf]; omega
       have q0' : (r.view == g) = true := by simp [q0]
       rw [decide_eq_true q0] at HQ2
       obtain ⟨d3, hd3⟩ : ∃ q, decide (commN es r.log = Sl.2.1) = q := ⟨_, rfl⟩
       have HD3 : Hid _ := hd3
       rw [HES.out, hd3] at HQ2
       have HQ3 : Hid (auHas g es r = d3) := HQ2
       clear HQ2 q0 hd3
       cases d3 with
       | true =>
        refine wp_region_held_drew (S := (fun w' => (∀ k_2 : Nat, w'.cell? ⟨b0, k_2, none⟩ = [.slice (some ⟨b, off, none⟩) k cap, .slice M.1 M.2.1 M.2.2, .slice Sl.1 Sl.2.1 Sl.2.2][k_2]?) ∧ (w'.cell? ⟨b, off + j * 10, none⟩ = [.int .i64 r.id, .int .i64 r.size, .int .i64 r.view, .bool true, .int .i64 r.last, .slice h.L.1 h.L.2.1 h.L.2.2, .int .i64 r.commit, .slice h.O.1 h.O.2.1 h.O.2.2, .slice h.A.1 h.A.2.1 h.A.2.2, .slice h.D.1 h.D.2.1 h.D.2.2][0]? ∧ ∀ k_1 : Nat, k_1 < 10 → w'.cell? ⟨b, off + j * 10 + k_1, none⟩ = [.int .i64 r.id, .int .i64 r.size, .int .i64 r.view, .bool true, .int .i64 r.last, .slice h.L.1 h.L.2.1 h.L.2.2, .int .i64 r.commit, .slice h.O.1 h.O.2.1 h.O.2.2, .slice h.A.1 h.A.2.1 h.A.2.2, .slice h.D.1 h.D.2.1 h.D.2.2][k_1]?))) (by kernel_rfl) ⟨c0, cN⟩ (fun hZq => ?_)
        refine tk 0 hZq ?_
        refine tk 1 hZq ?_
        refine tk 2 hZq ?_
        refine tk 3 hZq ?_
        refine tk 4 hZq ?_
        refine tk 5 hZq ?_
        refine rd1 6 (fun KK hKK => ?_)
        go_simp
        go_at_call 33
        refine (l9PrimaryO_is b (off + j * 10) r.id r.size r.view true r.last h.L r.commit h.O h.A h.D hsz hvw _ XN).mono ?_
        rintro e w1 ⟨rfl, BB⟩
        rw [HPr.out]
        replace X0 := X0.below BB
        replace c0 := X0.cell
        replace XN := XN.below BB
        replace cN := XN.cell
        replace hb := below_next hb BB
        clear BB
        clear hZq
        refine hKK _ _ ⟨c0, cN⟩ (fun hZq => ?_)
        clear hKK KK
        refine tk 7 hZq ?_
        refine tk 8 hZq ?_
        refine tk 9 hZq ?_
        refine tk 10 hZq ?_
        refine tk 11 hZq ?_
        refine tk 12 hZq ?_
        refine tk 13 hZq ?_
        refine tk 14 hZq ?_
        refine tk 15 hZq ?_
        refine tk 16 hZq ?_
        refine tk 17 hZq ?_
        refine tk 18 hZq ?_
        refine tk 19 hZq ?_
        refine tk 20 hZq ?_
        refine tk 21 hZq ?_
        refine tk 22 hZq ?_
        refine tk 23 hZq ?_
        refine tk 24 hZq ?_
        refine rd1 25 (fun KK hKK => ?_)
        go_simp
        go_at_call 31
        refine (specIsB_is Sl.1 h.L.1 Sl.2.1 Sl.2.2 h.L.2.1 h.L.2.2 es r.log _ (Hx.out.slog.below hb) ((Hx.out.nodes.below hb).each j _ HEX.out).log (by have := HHs.out; omega) true HD3.out).mono ?_
        rintro e w2 ⟨rfl, BB⟩
        replace X0 := X0.below BB
        replace c0 := X0.cell
        replace XN := XN.below BB
        replace cN := XN.cell
        replace hb := below_next hb BB
        clear BB
        clear hZq
        refine hKK _ _ ⟨c0, cN⟩ (fun hZq => ?_)
        clear hKK KK
        refine tk 26 hZq ?_
        refine tk 27 hZq ?_
        refine wpAnyH_done (by kernel_rfl) ?_ _
        have HN : Hid _ := HYES.out HQ3.out
        have HB : Hid _ := hb
        clear HNO HYES hb
        go_wp2
        go_roundw
        case rel => exact ⟨j + 1, by omega, by go_num, HN, HB.out⟩
        case measure => simp [intOf]; omega
       | false =>
        refine wp_region_held_drew (S := (fun w' => (∀ k_2 : Nat, w'.cell? ⟨b0, k_2, none⟩ = [.slice (some ⟨b, off, none⟩) k cap, .slice M.1 M.2.1 M.2.2, .slice Sl.1 Sl.2.1 Sl.2.2][k_2]?) ∧ (w'.cell? ⟨b, off + j * 10, none⟩ = [.int .i64 r.id, .int .i64 r.size, .int .i64 r.view, .bool true, .int .i64 r.last, .slice h.L.1 h.L.2.1 h.L.2.2, .int .i64 r.commit, .slice h.O.1 h.O.2.1 h.O.2.2, .slice h.A.1 h.A.2.1 h.A.2.2, .slice h.D.1 h.D.2.1 h.D.2.2][0]? ∧ ∀ k_1 : Nat, k_1 < 10 → w'.cell? ⟨b, off + j * 10 + k_1, none⟩ = [.int .i64 r.id, .int .i64 r.size, .int .i64 r.view, .bool true, .int .i64 r.last, .slice h.L.1 h.L.2.1 h.L.2.2, .int .i64 r.commit, .slice h.O.1 h.O.2.1 h.O.2.2, .slice h.A.1 h.A.2.1 h.A.2.2, .slice h.D.1 h.D.2.1 h.D.2.2][k_1]?))) (by kernel_rfl) ⟨c0, cN⟩ (fun hZq => ?_)
        refine tk 0 hZq ?_
        refine tk 1 hZq ?_
        refine tk 2 hZq ?_
        refine tk 3 hZq ?_
        refine tk 4 hZq ?_
        refine tk 5 hZq ?_
        refine rd1 6 (fun KK hKK => ?_)
        go_simp
        go_at_call 33
        refine (l9PrimaryO_is b (off + j * 10) r.id r.size r.view true r.last h.L r.commit h.O h.A h.D hsz hvw _ XN).mono ?_
        rintro e w1 ⟨rfl, BB⟩
        rw [HPr.out]
        replace X0 := X0.below BB
        replace c0 := X0.cell
        replace XN := XN.below BB
        replace cN := XN.cell
        replace hb := below_next hb BB
        clear BB
        clear hZq
        refine hKK _ _ ⟨c0, cN⟩ (fun hZq => ?_)
        clear hKK KK
        refine tk 7 hZq ?_
        refine tk 8 hZq ?_
        refine tk 9 hZq ?_
        refine tk 10 hZq ?_
        refine tk 11 hZq ?_
        refine tk 12 hZq ?_
        refine tk 13 hZq ?_
        refine tk 14 hZq ?_
        refine tk 15 hZq ?_
        refine tk 16 hZq ?_
        refine tk 17 hZq ?_
        refine tk 18 hZq ?_
        refine tk 19 hZq ?_
        refine tk 20 hZq ?_
        refine tk 21 hZq ?_
        refine tk 22 hZq ?_
        refine tk 23 hZq ?_
        refine tk 24 hZq ?_
        refine rd1 25 (fun KK hKK => ?_)
        go_simp
        go_at_call 31
        refine (specIsB_is Sl.1 h.L.1 Sl.2.1 Sl.2.2 h.L.2.1 h.L.2.2 es r.log _ (Hx.out.slog.below hb) ((Hx.out.nodes.below hb).each j _ HEX.out).log (by have := HHs.out; omega) false HD3.out).mono ?_
        rintro e w2 ⟨rfl, BB⟩
        replace X0 := X0.below BB
        replace c0 := X0.cell
        replace XN := XN.below BB
        replace cN := XN.cell
        replace hb := below_next hb BB
        clear BB
        clear hZq
        refine hKK _ _ ⟨c0, cN⟩ (fun hZq => ?_)
        clear hKK KK
        refine tk 26 hZq ?_
        refine tk 27 hZq ?_
        refine wpAnyH_done (by kernel_rfl) ?_ _
        have e : d = false := HNO.out HQ3.out
        subst e
        clear HNO HYES HD
        go_wp2
        go_ret
        exact ⟨rfl, hb⟩
    ·obtain rfl : j = k := by omega
     have e : d = true := by rw [← HD.out]; exact auAll_yes (by rw [HL.out]; exact H0.out)
     subst e
     clear HD
     go_wp2
     go_ret
     exact ⟨rfl, hb⟩
theorem auMSC_is {own : Bool} {lo hi : Nat} (N M Sl : Hd) (xs : List Nod) (ms : List Mal) (es : List En) (w : World) (x : ClAt w own lo hi N M Sl xs ms es) (hs : ClSz N M Sl xs ms 1048576) (d : Bool) (hd : (decide (cluF (xs.map (·.1)) (ms.map (·.1)) es = 0) && (((xs.map (·.1)).all (auSeal es) && auMatch (xs.map (·.1))) && (xs.map (·.1)).all (auHas (auG (xs.map (·.1))) es))) = d) :
  Calls Tryz.prog 5 #[.agg #[.slice N.1 N.2.1 N.2.2, .slice M.1 M.2.1 M.2.2, .slice Sl.1 Sl.2.1 Sl.2.2]] w fun e w' => e = .returned (.bool d) ∧ Below w.heap.size w w' := by
 obtain ⟨cd, hcd⟩ : ∃ cd, cluF (xs.map (·.1)) (ms.map (·.1)) es = cd := ⟨_, rfl⟩
 have HC : Hid _ := hcd
 obtain ⟨e0, he0⟩ : ∃ q, (xs.map (·.1)).all (auSeal es) = q := ⟨_, rfl⟩
 have HE0 : Hid _ := he0
 obtain ⟨e1, he1⟩ : ∃ q, auMatch (xs.map (·.1)) = q := ⟨_, rfl⟩
 have HE1 : Hid _ := he1
 obtain ⟨e2, he2⟩ : ∃ q, (xs.map (·.1)).all (auHas (auG (xs.map (·.1))) es) = q := ⟨_, rfl⟩
 have HE2 : Hid _ := he2
 rw [hcd, he0, he1, he2] at hd
 have HD : Hid _ := hd
 clear hd hcd he0 he1 he2
 go_enter Tryz.func5, Tryz.ntmps5
 go_wp2_with (first | ((with_reducible refine box_newX 33 [.slice N.1 N.2.1 N.2.2, .slice M.1 M.2.1 M.2.2, .slice Sl.1 Sl.2.1 Sl.2.2] rfl ?_); intro b0 W0 N0; have ob0 := N0.ge; have B := N0.below; have X0 := N0.bx; have c0 := X0.cell; clear N0) | fail)
 refine (l11Fault_is b0 N M Sl xs ms es _ X0 (x.below B) hs cd HC.out).mono ?_
 rintro e w1 ⟨rfl, BB⟩
 replace X0 := X0.below BB
 replace c0 := X0.cell
 replace B := below_next B BB
 clear BB
 by_cases q0 : cd = 0
 rotate_left 1
 ·have q0' : (cd == 0) = false := by simp [q0]
  have e : d = false := by rw [← HD.out, decide_eq_false q0, Bool.false_and]
  subst e
  go_wp2
  go_ret
  exact ⟨rfl, B⟩
 subst q0
 go_wp2_with fail
 refine (auMSealed_is b0 N M Sl xs ms es _ X0 (x.below B) hs HC.out e0 HE0.out).mono ?_
 rintro e w2 ⟨rfl, BB⟩
 replace X0 := X0.below BB
 replace c0 := X0.cell
 replace B := below_next B BB
 clear BB
 cases e0 with
 | false =>
  have e : d = false := by rw [← HD.out]; rfl
  subst e
  go_wp2
  go_ret
  exact ⟨rfl, B⟩
 | true =>
  go_wp2_with fail
  refine (auMMatch_is b0 N M Sl xs ms es _ X0 (x.below B) hs HC.out e1 HE1.out).mono ?_
  rintro e w3 ⟨rfl, BB⟩
  replace X0 := X0.below BB
  replace c0 := X0.cell
  replace B := below_next B BB
  clear BB
  cases e1 with
  | false =>
   have e : d = false := by rw [← HD.out]; rfl
   subst e
   go_wp2
   go_ret
   exact ⟨rfl, B⟩
  | true =>
   go_wp2_with fail
   refine (auMHave_is b0 N M Sl xs ms es _ X0 (x.below B) hs HC.out e2 HE2.out).mono ?_
   rintro e w4 ⟨rfl, BB⟩
   replace X0 := X0.below BB
   replace c0 := X0.cell
   replace B := below_next B BB
   clear BB
   cases e2 with
   | false =>
    have e : d = false := by rw [← HD.out]; rfl
    subst e
    go_wp2
    go_ret
    exact ⟨rfl, B⟩
   | true =>
    have e : d = true := by rw [← HD.out]; rfl
    subst e
    go_wp2
    go_ret
    exact ⟨rfl, B⟩
end Go.Proofs.YtannjgdginfgeaaGreat

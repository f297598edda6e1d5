/- Chapter 5: a volume created, by the program. -/
import Derived.Test.YtikjndmgljkhhaaYF
import Derived.Test.YtikjndmgljkhhaaYE
import Derived.Test.YtikjndmgljkhhaaZH
import Derived.Test.YtikjndmgljkhhaaGG
import Derived.Test.YtikjndmgljkhhaaZV
import Derived.Test.YtikjndmgljkhhaaYP
namespace Go.Proofs.Ytikjndmgljkhhaa
open Go.RowKit

set_option maxRecDepth 20000 in
set_option maxHeartbeats 2000000 in
theorem createVol_is {o o2 : Bool} {l u l2 u2 : Nat} (an : Option Addr) (nn cn : Nat) (ab : Option Addr) (nb cb : Nat) (av : Option Addr) (nv cv : Nat) (K : Nat → KS) (f : Fo) (vs : List Vo) (w : World) (h : FoAt w o l u an nn cn ab nb cb K f) (hv : RowAt w o2 l2 u2 3 av nv cv (trips vs)) (hn : nn ≤ 1048576) (hb : nb ≤ 1048576) (hK : ∀ i, i < nn → (K i).2.1 ≤ 1048576) (hvn : nv ≤ 1048576) (ap ok ov oa ox : Int) (d : Int × Fo × List Vo) (hd : createR f vs ov ox = d) :
    Calls Try.prog 95 #[.agg #[.slice an nn cn, .slice ab nb cb, .slice av nv cv], .int .i64 ap, .agg #[.int .i64 ok, .int .i64 ov, .int .i64 oa, .int .i64 ox]] w fun e w' => PoRes w w' e 0 d.1 0 d.2.1 d.2.2 := by
  unfold createR at hd
  obtain ⟨nr, hnr⟩ : ∃ nr, newVR vs ov = nr := ⟨_, rfl⟩
  rw [hnr] at hd
  have HN : Hid _ := hnr
  have HD : Hid _ := hd
  clear hd hnr
  go_enter Try.func95, Try.ntmps95
  go_wp2_with (first | ((with_reducible refine box_new 31 #[.slice an nn cn, .slice ab nb cb, .slice av nv cv] rfl ?_); intro b0 W0 N0; have O0 : Hid (w.heap.size ≤ b0) := N0.ge; have B := N0.below; have H0 : Hid (b0 < W0.heap.size) := N0.lt; have c0_0 : W0.cell? ⟨b0, 0, none⟩ = some (.slice an nn cn) := N0.cell 0 _ rfl; have c0_1 : W0.cell? ⟨b0, 1, none⟩ = some (.slice ab nb cb) := N0.cell 1 _ rfl; have c0_2 : W0.cell? ⟨b0, 2, none⟩ = some (.slice av nv cv) := N0.cell 2 _ rfl; clear N0) | ((with_reducible refine box_new 37 #[.int .i64 ok, .int .i64 ov, .int .i64 oa, .int .i64 ox] rfl ?_); intro b1 W1 N1; have O1 : Hid (b0 < b1) := Nat.lt_of_lt_of_le H0.out N1.ge; replace c0_0 := cell_later N1.below c0_0; replace c0_1 := cell_later N1.below c0_1; replace c0_2 := cell_later N1.below c0_2; replace H0 : Hid (b0 < W1.heap.size) := Nat.lt_of_lt_of_le H0.out N1.below.size; replace B := below_next B N1.below; have H1 : Hid (b1 < W1.heap.size) := N1.lt; have c1_0 : W1.cell? ⟨b1, 0, none⟩ = some (.int .i64 ok) := N1.cell 0 _ rfl; have c1_1 : W1.cell? ⟨b1, 1, none⟩ = some (.int .i64 ov) := N1.cell 1 _ rfl; have c1_2 : W1.cell? ⟨b1, 2, none⟩ = some (.int .i64 oa) := N1.cell 2 _ rfl; have c1_3 : W1.cell? ⟨b1, 3, none⟩ = some (.int .i64 ox) := N1.cell 3 _ rfl; clear N1) | ((with_reducible refine alloc_new 33 #[.int .i64 0, .int .i64 0, .int .i64 0, .slice none 0 0, .slice none 0 0, .slice none 0 0] (fun _ => by kernel_rfl) ?_); intro b2 W2 N2; have O2 : Hid (b1 < b2) := Nat.lt_of_lt_of_le H1.out N2.ge; replace c0_0 := cell_later N2.below c0_0; replace c0_1 := cell_later N2.below c0_1; replace c0_2 := cell_later N2.below c0_2; replace H0 : Hid (b0 < W2.heap.size) := Nat.lt_of_lt_of_le H0.out N2.below.size; replace c1_0 := cell_later N2.below c1_0; replace c1_1 := cell_later N2.below c1_1; replace c1_2 := cell_later N2.below c1_2; replace c1_3 := cell_later N2.below c1_3; replace H1 : Hid (b1 < W2.heap.size) := Nat.lt_of_lt_of_le H1.out N2.below.size; replace B := below_next B N2.below; have H2 : Hid (b2 < W2.heap.size) := N2.lt; have c2_0 : W2.cell? ⟨b2, 0, none⟩ = some (.int .i64 0) := N2.cell 0 _ rfl; have c2_1 : W2.cell? ⟨b2, 1, none⟩ = some (.int .i64 0) := N2.cell 1 _ rfl; have c2_2 : W2.cell? ⟨b2, 2, none⟩ = some (.int .i64 0) := N2.cell 2 _ rfl; have c2_3 : W2.cell? ⟨b2, 3, none⟩ = some (.slice none 0 0) := N2.cell 3 _ rfl; have c2_4 : W2.cell? ⟨b2, 4, none⟩ = some (.slice none 0 0) := N2.cell 4 _ rfl; have c2_5 : W2.cell? ⟨b2, 5, none⟩ = some (.slice none 0 0) := N2.cell 5 _ rfl; have y2_0 : W2.frozen? ⟨b2, 0, none⟩ = false := N2.froz 0; have y2_1 : W2.frozen? ⟨b2, 1, none⟩ = false := N2.froz 1; have y2_2 : W2.frozen? ⟨b2, 2, none⟩ = false := N2.froz 2; have y2_3 : W2.frozen? ⟨b2, 3, none⟩ = false := N2.froz 3; have y2_4 : W2.frozen? ⟨b2, 4, none⟩ = false := N2.froz 4; have y2_5 : W2.frozen? ⟨b2, 5, none⟩ = false := N2.froz 5; clear N2) | fail)
  refine (newVR_is av nv cv vs _ (hv.below B) (by omega) ov nr HN.out).mono ?_
  rintro e w1 ⟨rfl, BB⟩
  replace c0_0 := cell_later BB c0_0
  replace c0_1 := cell_later BB c0_1
  replace c0_2 := cell_later BB c0_2
  replace H0 : Hid (b0 < w1.heap.size) := Nat.lt_of_lt_of_le H0.out BB.size
  replace c1_0 := cell_later BB c1_0
  replace c1_1 := cell_later BB c1_1
  replace c1_2 := cell_later BB c1_2
  replace c1_3 := cell_later BB c1_3
  replace H1 : Hid (b1 < w1.heap.size) := Nat.lt_of_lt_of_le H1.out BB.size
  replace c2_0 := cell_later BB c2_0
  replace c2_1 := cell_later BB c2_1
  replace c2_2 := cell_later BB c2_2
  replace c2_3 := cell_later BB c2_3
  replace c2_4 := cell_later BB c2_4
  replace c2_5 := cell_later BB c2_5
  replace y2_0 := frozen_later BB H2.out y2_0
  replace y2_1 := frozen_later BB H2.out y2_1
  replace y2_2 := frozen_later BB H2.out y2_2
  replace y2_3 := frozen_later BB H2.out y2_3
  replace y2_4 := frozen_later BB H2.out y2_4
  replace y2_5 := frozen_later BB H2.out y2_5
  replace H2 : Hid (b2 < w1.heap.size) := Nat.lt_of_lt_of_le H2.out BB.size
  replace B := below_next B BB
  clear BB
  by_cases h0 : nr = 0
  · subst h0
    have ed : d = (0, f, putV vs (ov, ox, -1)) := by rw [← HD.out, if_pos rfl]
    subst ed
    clear HD
    go_wp2_with fail
    refine (volsWith_is av nv cv vs _ (hv.below B) hvn ov ox (-1)).mono ?_
    rintro e w2 ⟨v2, rfl, O2, BB⟩
    have QV : Hid (b2 < w1.heap.size) := H2.out
    have QB : Hid (w.heap.size ≤ w1.heap.size) := B.size
    obtain ⟨va, vc, rfl, V2⟩ := RowAt.of_owned O2
    clear O2
    replace c0_0 := cell_later BB c0_0
    replace c0_1 := cell_later BB c0_1
    replace c0_2 := cell_later BB c0_2
    replace H0 : Hid (b0 < w2.heap.size) := Nat.lt_of_lt_of_le H0.out BB.size
    replace c1_0 := cell_later BB c1_0
    replace c1_1 := cell_later BB c1_1
    replace c1_2 := cell_later BB c1_2
    replace c1_3 := cell_later BB c1_3
    replace H1 : Hid (b1 < w2.heap.size) := Nat.lt_of_lt_of_le H1.out BB.size
    replace c2_0 := cell_later BB c2_0
    replace c2_1 := cell_later BB c2_1
    replace c2_2 := cell_later BB c2_2
    replace c2_3 := cell_later BB c2_3
    replace c2_4 := cell_later BB c2_4
    replace c2_5 := cell_later BB c2_5
    replace y2_0 := frozen_later BB H2.out y2_0
    replace y2_1 := frozen_later BB H2.out y2_1
    replace y2_2 := frozen_later BB H2.out y2_2
    replace y2_3 := frozen_later BB H2.out y2_3
    replace y2_4 := frozen_later BB H2.out y2_4
    replace y2_5 := frozen_later BB H2.out y2_5
    replace H2 : Hid (b2 < w2.heap.size) := Nat.lt_of_lt_of_le H2.out BB.size
    replace B := below_next B BB
    clear BB
    go_wp2_with fail
    refine (copyForest_is an nn cn ab nb cb K f _ (h.below B) hn hb hK).mono ?_
    rintro e w3 ⟨ra, rc, qb, qc, K', rfl, F1, BB⟩
    have Q1 : Hid (b2 < w2.heap.size) := H2.out
    replace V2 := V2.below BB
    have QC : Hid (w.heap.size ≤ w2.heap.size) := B.size
    have QD : Hid (w2.heap.size ≤ w3.heap.size) := BB.size
    replace c0_0 := cell_later BB c0_0
    replace c0_1 := cell_later BB c0_1
    replace c0_2 := cell_later BB c0_2
    replace H0 : Hid (b0 < w3.heap.size) := Nat.lt_of_lt_of_le H0.out BB.size
    replace c1_0 := cell_later BB c1_0
    replace c1_1 := cell_later BB c1_1
    replace c1_2 := cell_later BB c1_2
    replace c1_3 := cell_later BB c1_3
    replace H1 : Hid (b1 < w3.heap.size) := Nat.lt_of_lt_of_le H1.out BB.size
    replace c2_0 := cell_later BB c2_0
    replace c2_1 := cell_later BB c2_1
    replace c2_2 := cell_later BB c2_2
    replace c2_3 := cell_later BB c2_3
    replace c2_4 := cell_later BB c2_4
    replace c2_5 := cell_later BB c2_5
    replace y2_0 := frozen_later BB H2.out y2_0
    replace y2_1 := frozen_later BB H2.out y2_1
    replace y2_2 := frozen_later BB H2.out y2_2
    replace y2_3 := frozen_later BB H2.out y2_3
    replace y2_4 := frozen_later BB H2.out y2_4
    replace y2_5 := frozen_later BB H2.out y2_5
    replace H2 : Hid (b2 < w3.heap.size) := Nat.lt_of_lt_of_le H2.out BB.size
    replace B := below_next B BB
    clear BB
    go_wp2
    refine bodyPost_ret (v := .agg #[.int .i64 0, .int .i64 0, .int .i64 0, .slice ra nn rc, .slice qb nb qc, .slice va (nv + 1) vc]) (by simp [results, Try.results95, go_sem, c2_0, c2_1, c2_2, c2_3, c2_4, c2_5]) rfl ?_
    have KZ : Kept b2 (b2 + 1) w3 ((((((w3.setCell ⟨b2, 0, none⟩ (.int .i64 0)).setCell ⟨b2, 1, none⟩ (.int .i64 0)).setCell ⟨b2, 2, none⟩ (.int .i64 0)).setCell ⟨b2, 3, none⟩ (.slice ra nn rc)).setCell ⟨b2, 4, none⟩ (.slice qb nb qc)).setCell ⟨b2, 5, none⟩ (.slice va (nv + 1) vc)) := by refine Kept.setCell (Kept.setCell (Kept.setCell (Kept.setCell (Kept.setCell (Kept.setCell (Kept.refl _ _ _) ?_ ?_ _) ?_ ?_ _) ?_ ?_ _) ?_ ?_ _) ?_ ?_ _) ?_ ?_ _ <;> simp
    have q1 := KZ.size
    exact ⟨_, _, _, _, _, _, _, _, _, _, _, _, _, _, rfl, ⟨F1.kept KZ (Or.inr Q1.out), V2.kept KZ (Or.inr QV.out), Or.inr (Nat.le_refl _), QC.out, QB.out, q1, Nat.le_trans QD.out q1⟩, B.trans (KZ.below _ (Nat.le_trans O0.out (Nat.le_of_lt (Nat.lt_trans O1.out O2.out))) B.size)⟩
  · have ed : d = (nr, f, vs) := by rw [← HD.out, if_neg h0]
    subst ed
    have hne : (nr != 0) = true := by simp [h0]
    clear HD h0
    go_wp2_with fail
    refine (replied_is an nn cn ab nb cb av nv cv K f vs _ (h.below B) (hv.below B) hn hb hK hvn nr).mono ?_
    rintro e w2 ⟨pa, pn, pc, pb, qn, qc, va, vn, vc, l1, u1, l2, u2, K', rfl, P, BB⟩
    have Q1 : Hid (b2 < l1) := Nat.lt_of_lt_of_le H2.out P.lo1
    have Q2 : Hid (b2 < l2) := Nat.lt_of_lt_of_le H2.out P.lo2
    replace P := P.from (w := w) B.size
    replace c0_0 := cell_later BB c0_0
    replace c0_1 := cell_later BB c0_1
    replace c0_2 := cell_later BB c0_2
    replace H0 : Hid (b0 < w2.heap.size) := Nat.lt_of_lt_of_le H0.out BB.size
    replace c1_0 := cell_later BB c1_0
    replace c1_1 := cell_later BB c1_1
    replace c1_2 := cell_later BB c1_2
    replace c1_3 := cell_later BB c1_3
    replace H1 : Hid (b1 < w2.heap.size) := Nat.lt_of_lt_of_le H1.out BB.size
    replace c2_0 := cell_later BB c2_0
    replace c2_1 := cell_later BB c2_1
    replace c2_2 := cell_later BB c2_2
    replace c2_3 := cell_later BB c2_3
    replace c2_4 := cell_later BB c2_4
    replace c2_5 := cell_later BB c2_5
    replace y2_0 := frozen_later BB H2.out y2_0
    replace y2_1 := frozen_later BB H2.out y2_1
    replace y2_2 := frozen_later BB H2.out y2_2
    replace y2_3 := frozen_later BB H2.out y2_3
    replace y2_4 := frozen_later BB H2.out y2_4
    replace y2_5 := frozen_later BB H2.out y2_5
    replace H2 : Hid (b2 < w2.heap.size) := Nat.lt_of_lt_of_le H2.out BB.size
    replace B := below_next B BB
    clear BB
    go_wp2
    refine bodyPost_ret (v := .agg #[.int .i64 0, .int .i64 nr, .int .i64 0, .slice pa pn pc, .slice pb qn qc, .slice va vn vc]) (by simp [results, Try.results95, go_sem, c2_0, c2_1, c2_2, c2_3, c2_4, c2_5]) rfl ?_
    have KZ : Kept b2 (b2 + 1) w2 ((((((w2.setCell ⟨b2, 0, none⟩ (.int .i64 0)).setCell ⟨b2, 1, none⟩ (.int .i64 nr)).setCell ⟨b2, 2, none⟩ (.int .i64 0)).setCell ⟨b2, 3, none⟩ (.slice pa pn pc)).setCell ⟨b2, 4, none⟩ (.slice pb qn qc)).setCell ⟨b2, 5, none⟩ (.slice va vn vc)) := by refine Kept.setCell (Kept.setCell (Kept.setCell (Kept.setCell (Kept.setCell (Kept.setCell (Kept.refl _ _ _) ?_ ?_ _) ?_ ?_ _) ?_ ?_ _) ?_ ?_ _) ?_ ?_ _) ?_ ?_ _ <;> simp
    exact ⟨_, _, _, _, _, _, _, _, _, _, _, _, _, _, rfl, P.keep KZ (Or.inr Q1.out) (Or.inr Q2.out), B.trans (KZ.below _ (Nat.le_trans O0.out (Nat.le_of_lt (Nat.lt_trans O1.out O2.out))) B.size)⟩

end Go.Proofs.Ytikjndmgljkhhaa

/- Chapter 5: a discard, by the program. -/
namespace Go.Proofs.Ytikjndmgljkhhaa
open Go.RowKit

set_option maxRecDepth 20000 in
set_option maxHeartbeats 2000000 in
theorem discardVol_is {o o2 : Bool} {l u l2 u2 : Nat} (an : Option Addr) (nn cn : Nat) (ab : Option Addr) (nb cb : Nat) (av : Option Addr) (nv cv : Nat) (K : Nat → KS) (f : Fo) (vs : List Vo) (w : World) (h : FoAt w o l u an nn cn ab nb cb K f) (hv : RowAt w o2 l2 u2 3 av nv cv (trips vs)) (hn : nn ≤ 1048576) (hb : nb ≤ 1048576) (hK : ∀ i, i < nn → (K i).2.1 ≤ 1048576) (hvn : nv ≤ 1048576) (m : Nat) (hm : m < nv) (ok ov oa ox : Int) (d : Int × Fo × List Vo) (hd : clearR f vs m oa = d) :
    Calls Try.prog 97 #[.agg #[.slice an nn cn, .slice ab nb cb, .slice av nv cv], .int .i64 (m : Int), .agg #[.int .i64 ok, .int .i64 ov, .int .i64 oa, .int .i64 ox]] w fun e w' => PoRes w w' e 0 d.1 0 d.2.1 d.2.2 := by
  have hnn : nn ≤ 2097152 := by omega
  have hnb : nb ≤ 2097152 := by omega
  have HKK : Hid (∀ i, i < nn → (K i).2.1 ≤ 2097152) := fun i hi => Nat.le_trans (hK i hi) (by omega)
  have hvl := hv.nTrips
  have hlm : (m : Int) < (nv : Int) := by omega
  obtain ⟨b, off, rfl, _, _, hbs, e0, e1, e2, _⟩ := hv.trip hm
  have HBS : Hid _ := hbs
  clear hbs
  obtain ⟨⟨id, qu, rt⟩, hvo⟩ : ∃ v, vs.getD m vo0 = v := ⟨_, rfl⟩
  rw [hvo] at e0 e1 e2
  simp only at e0 e1 e2
  unfold clearR at hd
  rw [hvo] at hd
  simp only at hd
  clear hvo
  obtain ⟨cd, hcd⟩ : ∃ cd, clearTCode f rt oa = cd := ⟨_, rfl⟩
  obtain ⟨r2, hr2⟩ : ∃ r2, clearRootT f rt oa = r2 := ⟨_, rfl⟩
  obtain ⟨g, hg⟩ : ∃ g, clearFo f rt oa = g := ⟨_, rfl⟩
  rw [hcd, hr2, hg] at hd
  have HD2 : Hid _ := hd
  have HCD : Hid _ := hcd
  have HR2 : Hid _ := hr2
  have HG : Hid _ := hg
  clear hd hcd hr2 hg
  go_enter Try.func97, Try.ntmps97
  go_wp2_with (first | ((with_reducible refine box_new 31 #[.slice an nn cn, .slice ab nb cb, .slice (some ⟨b, off, none⟩) nv cv] rfl ?_); intro b0 W0 N0; have O0 : Hid (w.heap.size ≤ b0) := N0.ge; have B := N0.below; replace e0 := cell_later N0.below e0; replace e1 := cell_later N0.below e1; replace e2 := cell_later N0.below e2; have H0 : Hid (b0 < W0.heap.size) := N0.lt; have c0_0 : W0.cell? ⟨b0, 0, none⟩ = some (.slice an nn cn) := N0.cell 0 _ rfl; have c0_1 : W0.cell? ⟨b0, 1, none⟩ = some (.slice ab nb cb) := N0.cell 1 _ rfl; have c0_2 : W0.cell? ⟨b0, 2, none⟩ = some (.slice (some ⟨b, off, none⟩) nv cv) := N0.cell 2 _ rfl; clear N0) | ((with_reducible refine box_new 37 #[.int .i64 ok, .int .i64 ov, .int .i64 oa, .int .i64 ox] rfl ?_); intro b1 W1 N1; have O1 : Hid (b0 < b1) := Nat.lt_of_lt_of_le H0.out N1.ge; replace e0 := cell_later N1.below e0; replace e1 := cell_later N1.below e1; replace e2 := cell_later N1.below e2; replace c0_0 := cell_later N1.below c0_0; replace c0_1 := cell_later N1.below c0_1; replace c0_2 := cell_later N1.below c0_2; replace H0 : Hid (b0 < W1.heap.size) := Nat.lt_of_lt_of_le H0.out N1.below.size; replace B := below_next B N1.below; have H1 : Hid (b1 < W1.heap.size) := N1.lt; have c1_0 : W1.cell? ⟨b1, 0, none⟩ = some (.int .i64 ok) := N1.cell 0 _ rfl; have c1_1 : W1.cell? ⟨b1, 1, none⟩ = some (.int .i64 ov) := N1.cell 1 _ rfl; have c1_2 : W1.cell? ⟨b1, 2, none⟩ = some (.int .i64 oa) := N1.cell 2 _ rfl; have c1_3 : W1.cell? ⟨b1, 3, none⟩ = some (.int .i64 ox) := N1.cell 3 _ rfl; clear N1) | ((with_reducible refine alloc_new 33 #[.int .i64 0, .int .i64 0, .int .i64 0, .slice none 0 0, .slice none 0 0, .slice none 0 0] (fun _ => by kernel_rfl) ?_); intro b2 W2 N2; have O2 : Hid (b1 < b2) := Nat.lt_of_lt_of_le H1.out N2.ge; replace e0 := cell_later N2.below e0; replace e1 := cell_later N2.below e1; replace e2 := cell_later N2.below e2; replace c0_0 := cell_later N2.below c0_0; replace c0_1 := cell_later N2.below c0_1; replace c0_2 := cell_later N2.below c0_2; replace H0 : Hid (b0 < W2.heap.size) := Nat.lt_of_lt_of_le H0.out N2.below.size; replace c1_0 := cell_later N2.below c1_0; replace c1_1 := cell_later N2.below c1_1; replace c1_2 := cell_later N2.below c1_2; replace c1_3 := cell_later N2.below c1_3; replace H1 : Hid (b1 < W2.heap.size) := Nat.lt_of_lt_of_le H1.out N2.below.size; replace B := below_next B N2.below; have H2 : Hid (b2 < W2.heap.size) := N2.lt; have c2_0 : W2.cell? ⟨b2, 0, none⟩ = some (.int .i64 0) := N2.cell 0 _ rfl; have c2_1 : W2.cell? ⟨b2, 1, none⟩ = some (.int .i64 0) := N2.cell 1 _ rfl; have c2_2 : W2.cell? ⟨b2, 2, none⟩ = some (.int .i64 0) := N2.cell 2 _ rfl; have c2_3 : W2.cell? ⟨b2, 3, none⟩ = some (.slice none 0 0) := N2.cell 3 _ rfl; have c2_4 : W2.cell? ⟨b2, 4, none⟩ = some (.slice none 0 0) := N2.cell 4 _ rfl; have c2_5 : W2.cell? ⟨b2, 5, none⟩ = some (.slice none 0 0) := N2.cell 5 _ rfl; have y2_0 : W2.frozen? ⟨b2, 0, none⟩ = false := N2.froz 0; have y2_1 : W2.frozen? ⟨b2, 1, none⟩ = false := N2.froz 1; have y2_2 : W2.frozen? ⟨b2, 2, none⟩ = false := N2.froz 2; have y2_3 : W2.frozen? ⟨b2, 3, none⟩ = false := N2.froz 3; have y2_4 : W2.frozen? ⟨b2, 4, none⟩ = false := N2.froz 4; have y2_5 : W2.frozen? ⟨b2, 5, none⟩ = false := N2.froz 5; clear N2) | fail)
  have n02 : b0 ≠ b2 := by have q1 := O1.out; have q2 := O2.out; omega
  have n12 : b1 ≠ b2 := by have q2 := O2.out; omega
  have nb2 : b ≠ b2 := by have q0 := O0.out; have q1 := O1.out; have q2 := O2.out; have q3 := HBS.out; omega
  by_cases hcd : cd = 0
  rotate_left 1
  · have ed : d = (cd, f, vs) := by rw [← HD2.out, if_neg hcd]
    subst ed
    skip
    have D : Below W2.heap.size W2 W2.drew := (Below.refl _ _).drew
    replace e0 := cell_later D e0
    replace e1 := cell_later D e1
    replace e2 := cell_later D e2
    replace c0_0 := cell_later D c0_0
    replace c0_1 := cell_later D c0_1
    replace c0_2 := cell_later D c0_2
    replace H0 : Hid (b0 < W2.drew.heap.size) := Nat.lt_of_lt_of_le H0.out D.size
    replace c1_0 := cell_later D c1_0
    replace c1_1 := cell_later D c1_1
    replace c1_2 := cell_later D c1_2
    replace c1_3 := cell_later D c1_3
    replace H1 : Hid (b1 < W2.drew.heap.size) := Nat.lt_of_lt_of_le H1.out D.size
    replace c2_0 := cell_later D c2_0
    replace c2_1 := cell_later D c2_1
    replace c2_2 := cell_later D c2_2
    replace c2_3 := cell_later D c2_3
    replace c2_4 := cell_later D c2_4
    replace c2_5 := cell_later D c2_5
    replace y2_0 := frozen_later D H2.out y2_0
    replace y2_1 := frozen_later D H2.out y2_1
    replace y2_2 := frozen_later D H2.out y2_2
    replace y2_3 := frozen_later D H2.out y2_3
    replace y2_4 := frozen_later D H2.out y2_4
    replace y2_5 := frozen_later D H2.out y2_5
    replace H2 : Hid (b2 < W2.drew.heap.size) := Nat.lt_of_lt_of_le H2.out D.size
    replace B := below_next B D
    clear D
    go_region_held3 (fun w' => w'.cell? ⟨b0, 0, none⟩ = some (.slice an nn cn) ∧ w'.cell? ⟨b0, 1, none⟩ = some (.slice ab nb cb) ∧ w'.cell? ⟨b0, 2, none⟩ = some (.slice (some ⟨b, off, none⟩) nv cv) ∧ w'.cell? ⟨b, off + m * 3 + 2, none⟩ = some (.int .i64 rt) ∧ w'.cell? ⟨b1, 2, none⟩ = some (.int .i64 oa)) (first | with_reducible exact ⟨c0_0, c0_1, c0_2, e2, c1_2⟩ | with_reducible exact ⟨(six_other _ _ _ _ _ _ _ _ _ _ n02).trans c0_0, (six_other _ _ _ _ _ _ _ _ _ _ n02).trans c0_1, (six_other _ _ _ _ _ _ _ _ _ _ n02).trans c0_2, (six_other _ _ _ _ _ _ _ _ _ _ nb2).trans e2, (six_other _ _ _ _ _ _ _ _ _ _ n12).trans c1_2⟩)
      (first | (go_at_call 160; (with_reducible refine (implClearT_is an nn cn ab nb cb K f _ (h.below B) hnn hnb HKK.out rt oa cd r2 g HCD.out HR2.out HG.out).mono ?_); rintro e w5 ⟨sn, s1, s2, sb', s3, s4, sK, rfl, F5, B5⟩; have Q5 : Hid (b2 < W2.drew.heap.size) := H2.out; have QB : Hid (w.heap.size ≤ W2.drew.heap.size) := B.size; replace e0 := cell_later B5 e0; replace e1 := cell_later B5 e1; replace e2 := cell_later B5 e2; replace c0_0 := cell_later B5 c0_0; replace c0_1 := cell_later B5 c0_1; replace c0_2 := cell_later B5 c0_2; replace H0 : Hid (b0 < w5.heap.size) := Nat.lt_of_lt_of_le H0.out B5.size; replace c1_0 := cell_later B5 c1_0; replace c1_1 := cell_later B5 c1_1; replace c1_2 := cell_later B5 c1_2; replace c1_3 := cell_later B5 c1_3; replace H1 : Hid (b1 < w5.heap.size) := Nat.lt_of_lt_of_le H1.out B5.size; replace c2_0 := cell_later B5 c2_0; replace c2_1 := cell_later B5 c2_1; replace c2_2 := cell_later B5 c2_2; replace c2_3 := cell_later B5 c2_3; replace c2_4 := cell_later B5 c2_4; replace c2_5 := cell_later B5 c2_5; replace y2_0 := frozen_later B5 H2.out y2_0; replace y2_1 := frozen_later B5 H2.out y2_1; replace y2_2 := frozen_later B5 H2.out y2_2; replace y2_3 := frozen_later B5 H2.out y2_3; replace y2_4 := frozen_later B5 H2.out y2_4; replace y2_5 := frozen_later B5 H2.out y2_5; replace H2 : Hid (b2 < w5.heap.size) := Nat.lt_of_lt_of_le H2.out B5.size; replace B := below_next B B5; clear B5) | (go_at_call 158; (with_reducible refine (withTree_no an nn cn ab nb cb (some ⟨b, off, none⟩) nv cv K f vs _ (h.below B) (hv.below B) hn hb hK hvn sn s1 s2 sb' s3 s4 m cd r2 hcd).mono ?_); rintro e w6 ⟨pa, pn, pc, pb, qn, qc, va, vn, vc, l1, u1, l2, u2, K', rfl, P, BB⟩; have Q1 : Hid (b2 < l1) := Nat.lt_of_lt_of_le H2.out P.lo1; have Q2 : Hid (b2 < l2) := Nat.lt_of_lt_of_le H2.out P.lo2; replace P := P.from (w := w) B.size; replace e0 := cell_later BB e0; replace e1 := cell_later BB e1; replace e2 := cell_later BB e2; replace c0_0 := cell_later BB c0_0; replace c0_1 := cell_later BB c0_1; replace c0_2 := cell_later BB c0_2; replace H0 : Hid (b0 < w6.heap.size) := Nat.lt_of_lt_of_le H0.out BB.size; replace c1_0 := cell_later BB c1_0; replace c1_1 := cell_later BB c1_1; replace c1_2 := cell_later BB c1_2; replace c1_3 := cell_later BB c1_3; replace H1 : Hid (b1 < w6.heap.size) := Nat.lt_of_lt_of_le H1.out BB.size; replace c2_0 := cell_later BB c2_0; replace c2_1 := cell_later BB c2_1; replace c2_2 := cell_later BB c2_2; replace c2_3 := cell_later BB c2_3; replace c2_4 := cell_later BB c2_4; replace c2_5 := cell_later BB c2_5; replace y2_0 := frozen_later BB H2.out y2_0; replace y2_1 := frozen_later BB H2.out y2_1; replace y2_2 := frozen_later BB H2.out y2_2; replace y2_3 := frozen_later BB H2.out y2_3; replace y2_4 := frozen_later BB H2.out y2_4; replace y2_5 := frozen_later BB H2.out y2_5; replace H2 : Hid (b2 < w6.heap.size) := Nat.lt_of_lt_of_le H2.out BB.size; replace B := below_next B BB; clear BB))
    go_wp2
    refine bodyPost_ret (v := .agg #[.int .i64 0, .int .i64 cd, .int .i64 0, .slice pa pn pc, .slice pb qn qc, .slice va vn vc]) (by simp [results, Try.results97, go_sem, c2_0, c2_1, c2_2, c2_3, c2_4, c2_5]) rfl ?_
    have KZ : Kept b2 (b2 + 1) w6 ((((((w6.setCell ⟨b2, 0, none⟩ (.int .i64 0)).setCell ⟨b2, 1, none⟩ (.int .i64 cd)).setCell ⟨b2, 2, none⟩ (.int .i64 0)).setCell ⟨b2, 3, none⟩ (.slice pa pn pc)).setCell ⟨b2, 4, none⟩ (.slice pb qn qc)).setCell ⟨b2, 5, none⟩ (.slice va vn vc)) := by refine Kept.setCell (Kept.setCell (Kept.setCell (Kept.setCell (Kept.setCell (Kept.setCell (Kept.refl _ _ _) ?_ ?_ _) ?_ ?_ _) ?_ ?_ _) ?_ ?_ _) ?_ ?_ _) ?_ ?_ _ <;> simp
    exact ⟨_, _, _, _, _, _, _, _, _, _, _, _, _, _, rfl, P.keep KZ (Or.inr Q1.out) (Or.inr Q2.out), B.trans (KZ.below _ (Nat.le_trans O0.out (Nat.le_of_lt (Nat.lt_trans O1.out O2.out))) B.size)⟩
  · subst hcd
    have ed : d = (0, g, setRootV vs m r2) := by rw [← HD2.out, if_pos rfl]
    subst ed
    skip
    have D : Below W2.heap.size W2 W2.drew := (Below.refl _ _).drew
    replace e0 := cell_later D e0
    replace e1 := cell_later D e1
    replace e2 := cell_later D e2
    replace c0_0 := cell_later D c0_0
    replace c0_1 := cell_later D c0_1
    replace c0_2 := cell_later D c0_2
    replace H0 : Hid (b0 < W2.drew.heap.size) := Nat.lt_of_lt_of_le H0.out D.size
    replace c1_0 := cell_later D c1_0
    replace c1_1 := cell_later D c1_1
    replace c1_2 := cell_later D c1_2
    replace c1_3 := cell_later D c1_3
    replace H1 : Hid (b1 < W2.drew.heap.size) := Nat.lt_of_lt_of_le H1.out D.size
    replace c2_0 := cell_later D c2_0
    replace c2_1 := cell_later D c2_1
    replace c2_2 := cell_later D c2_2
    replace c2_3 := cell_later D c2_3
    replace c2_4 := cell_later D c2_4
    replace c2_5 := cell_later D c2_5
    replace y2_0 := frozen_later D H2.out y2_0
    replace y2_1 := frozen_later D H2.out y2_1
    replace y2_2 := frozen_later D H2.out y2_2
    replace y2_3 := frozen_later D H2.out y2_3
    replace y2_4 := frozen_later D H2.out y2_4
    replace y2_5 := frozen_later D H2.out y2_5
    replace H2 : Hid (b2 < W2.drew.heap.size) := Nat.lt_of_lt_of_le H2.out D.size
    replace B := below_next B D
    clear D
    go_region_held3 (fun w' => w'.cell? ⟨b0, 0, none⟩ = some (.slice an nn cn) ∧ w'.cell? ⟨b0, 1, none⟩ = some (.slice ab nb cb) ∧ w'.cell? ⟨b0, 2, none⟩ = some (.slice (some ⟨b, off, none⟩) nv cv) ∧ w'.cell? ⟨b, off + m * 3 + 2, none⟩ = some (.int .i64 rt) ∧ w'.cell? ⟨b1, 2, none⟩ = some (.int .i64 oa)) (first | with_reducible exact ⟨c0_0, c0_1, c0_2, e2, c1_2⟩ | with_reducible exact ⟨(six_other _ _ _ _ _ _ _ _ _ _ n02).trans c0_0, (six_other _ _ _ _ _ _ _ _ _ _ n02).trans c0_1, (six_other _ _ _ _ _ _ _ _ _ _ n02).trans c0_2, (six_other _ _ _ _ _ _ _ _ _ _ nb2).trans e2, (six_other _ _ _ _ _ _ _ _ _ _ n12).trans c1_2⟩)
      (first | (go_at_call 160; (with_reducible refine (implClearT_is an nn cn ab nb cb K f _ (h.below B) hnn hnb HKK.out rt oa 0 r2 g HCD.out HR2.out HG.out).mono ?_); rintro e w5 ⟨sn, s1, s2, sb', s3, s4, sK, rfl, F5, B5⟩; have Q5 : Hid (b2 < W2.drew.heap.size) := H2.out; have QB : Hid (w.heap.size ≤ W2.drew.heap.size) := B.size; replace e0 := cell_later B5 e0; replace e1 := cell_later B5 e1; replace e2 := cell_later B5 e2; replace c0_0 := cell_later B5 c0_0; replace c0_1 := cell_later B5 c0_1; replace c0_2 := cell_later B5 c0_2; replace H0 : Hid (b0 < w5.heap.size) := Nat.lt_of_lt_of_le H0.out B5.size; replace c1_0 := cell_later B5 c1_0; replace c1_1 := cell_later B5 c1_1; replace c1_2 := cell_later B5 c1_2; replace c1_3 := cell_later B5 c1_3; replace H1 : Hid (b1 < w5.heap.size) := Nat.lt_of_lt_of_le H1.out B5.size; replace c2_0 := cell_later B5 c2_0; replace c2_1 := cell_later B5 c2_1; replace c2_2 := cell_later B5 c2_2; replace c2_3 := cell_later B5 c2_3; replace c2_4 := cell_later B5 c2_4; replace c2_5 := cell_later B5 c2_5; replace y2_0 := frozen_later B5 H2.out y2_0; replace y2_1 := frozen_later B5 H2.out y2_1; replace y2_2 := frozen_later B5 H2.out y2_2; replace y2_3 := frozen_later B5 H2.out y2_3; replace y2_4 := frozen_later B5 H2.out y2_4; replace y2_5 := frozen_later B5 H2.out y2_5; replace H2 : Hid (b2 < w5.heap.size) := Nat.lt_of_lt_of_le H2.out B5.size; replace B := below_next B B5; clear B5) | (go_at_call 158; (with_reducible refine (withTree_ok an nn cn ab nb cb (some ⟨b, off, none⟩) nv cv vs _ (hv.below B) hvn sn s1 s2 sb' s3 s4 m hm r2).mono ?_); rintro e w6 ⟨va, vc, l1, rfl, V, hl1, B3⟩; have Q6 : Hid (b2 < l1) := Nat.lt_of_lt_of_le H2.out hl1; have QL : Hid (w5.heap.size ≤ l1) := hl1; have QC : Hid (w.heap.size ≤ l1) := Nat.le_trans B.size hl1; have QD : Hid (w5.heap.size ≤ w6.heap.size) := B3.size; replace F5 := F5.below B3; replace e0 := cell_later B3 e0; replace e1 := cell_later B3 e1; replace e2 := cell_later B3 e2; replace c0_0 := cell_later B3 c0_0; replace c0_1 := cell_later B3 c0_1; replace c0_2 := cell_later B3 c0_2; replace H0 : Hid (b0 < w6.heap.size) := Nat.lt_of_lt_of_le H0.out B3.size; replace c1_0 := cell_later B3 c1_0; replace c1_1 := cell_later B3 c1_1; replace c1_2 := cell_later B3 c1_2; replace c1_3 := cell_later B3 c1_3; replace H1 : Hid (b1 < w6.heap.size) := Nat.lt_of_lt_of_le H1.out B3.size; replace c2_0 := cell_later B3 c2_0; replace c2_1 := cell_later B3 c2_1; replace c2_2 := cell_later B3 c2_2; replace c2_3 := cell_later B3 c2_3; replace c2_4 := cell_later B3 c2_4; replace c2_5 := cell_later B3 c2_5; replace y2_0 := frozen_later B3 H2.out y2_0; replace y2_1 := frozen_later B3 H2.out y2_1; replace y2_2 := frozen_later B3 H2.out y2_2; replace y2_3 := frozen_later B3 H2.out y2_3; replace y2_4 := frozen_later B3 H2.out y2_4; replace y2_5 := frozen_later B3 H2.out y2_5; replace H2 : Hid (b2 < w6.heap.size) := Nat.lt_of_lt_of_le H2.out B3.size; replace B := below_next B B3; clear B3 hl1))
    go_wp2
    refine bodyPost_ret (v := .agg #[.int .i64 0, .int .i64 0, .int .i64 0, .slice sn s1 s2, .slice sb' s3 s4, .slice va nv vc]) (by simp [results, Try.results97, go_sem, c2_0, c2_1, c2_2, c2_3, c2_4, c2_5]) rfl ?_
    have KZ : Kept b2 (b2 + 1) w6 ((((((w6.setCell ⟨b2, 0, none⟩ (.int .i64 0)).setCell ⟨b2, 1, none⟩ (.int .i64 0)).setCell ⟨b2, 2, none⟩ (.int .i64 0)).setCell ⟨b2, 3, none⟩ (.slice sn s1 s2)).setCell ⟨b2, 4, none⟩ (.slice sb' s3 s4)).setCell ⟨b2, 5, none⟩ (.slice va nv vc)) := by refine Kept.setCell (Kept.setCell (Kept.setCell (Kept.setCell (Kept.setCell (Kept.setCell (Kept.refl _ _ _) ?_ ?_ _) ?_ ?_ _) ?_ ?_ _) ?_ ?_ _) ?_ ?_ _) ?_ ?_ _ <;> simp
    have q1 := KZ.size
    exact ⟨_, _, _, _, _, _, _, _, _, _, _, _, _, _, rfl, ⟨F5.kept KZ (Or.inr Q5.out), V.kept KZ (Or.inr Q6.out), Or.inl QL.out, QB.out, QC.out, Nat.le_trans QD.out q1, q1⟩, B.trans (KZ.below _ (Nat.le_trans O0.out (Nat.le_of_lt (Nat.lt_trans O1.out O2.out))) B.size)⟩

end Go.Proofs.Ytikjndmgljkhhaa

/- Chapter 5: a write, by the program. -/
namespace Go.Proofs.Ytikjndmgljkhhaa
open Go.RowKit

set_option maxRecDepth 20000 in
set_option maxHeartbeats 2000000 in
theorem writeVol_is {o o2 : Bool} {l u l2 u2 : Nat} (an : Option Addr) (nn cn : Nat) (ab : Option Addr) (nb cb : Nat) (av : Option Addr) (nv cv : Nat) (K : Nat → KS) (f : Fo) (vs : List Vo) (w : World) (h : FoAt w o l u an nn cn ab nb cb K f) (hv : RowAt w o2 l2 u2 3 av nv cv (trips vs)) (hn : nn ≤ 1048576) (hb : nb ≤ 1048576) (hK : ∀ i, i < nn → (K i).2.1 ≤ 1048576) (hvn : nv ≤ 1048576) (hpo : poFault f vs = 0) (m : Nat) (hm : m < nv) (ok ov : Int) (a : Nat) (ha : a ≤ 15) (ox : Int) (d : Int × Fo × List Vo) (hd : writeR f vs m (a : Int) ox = d) :
    Calls Try.prog 96 #[.agg #[.slice an nn cn, .slice ab nb cb, .slice av nv cv], .int .i64 (m : Int), .agg #[.int .i64 ok, .int .i64 ov, .int .i64 (a : Int), .int .i64 ox]] w fun e w' => PoRes w w' e 0 d.1 0 d.2.1 d.2.2 := by
  have hnn : nn ≤ 2097152 := by omega
  have hnb : nb ≤ 2097152 := by omega
  have HKK : Hid (∀ i, i < nn → (K i).2.1 ≤ 2097152) := fun i hi => Nat.le_trans (hK i hi) (by omega)
  have hvl := hv.nTrips
  have hlm : (m : Int) < (nv : Int) := by omega
  obtain ⟨b, off, rfl, _, _, hbs, e0, e1, e2, _⟩ := hv.trip hm
  have HBS : Hid _ := hbs
  clear hbs
  obtain ⟨⟨id, qu, rt⟩, hvo⟩ : ∃ v, vs.getD m vo0 = v := ⟨_, rfl⟩
  rw [hvo] at e0 e1 e2
  simp only at e0 e1 e2
  have HRO : Hid (RootIs f rt) := by show RootIs f rt; have q := vol_root hpo (m := m) (by omega); rw [hvo] at q; exact q
  have HI : Hid (Inv f) := (po_right hpo).1.inv
  unfold writeR at hd
  rw [hvo] at hd
  simp only at hd
  clear hvo
  obtain ⟨bk, hbk⟩ : ∃ bk, blockAt f rt (a : Int) = bk := ⟨_, rfl⟩
  obtain ⟨us, hus⟩ : ∃ us, (usedN f rt : Int) = us := ⟨_, rfl⟩
  rw [hbk, hus] at hd
  have HBK : Hid _ := hbk
  have HU : Hid _ := hus
  clear hbk hus
  obtain ⟨cd, hcd⟩ : ∃ cd, setTCode f rt (a : Int) ox = cd := ⟨_, rfl⟩
  obtain ⟨r2, hr2⟩ : ∃ r2, setRootT f rt (a : Int) ox = r2 := ⟨_, rfl⟩
  obtain ⟨g, hg⟩ : ∃ g, setFo f rt (a : Int) ox = g := ⟨_, rfl⟩
  rw [hcd, hr2, hg] at hd
  have HD : Hid _ := hd
  have HCD : Hid _ := hcd
  have HR2 : Hid _ := hr2
  have HG : Hid _ := hg
  clear hd hcd hr2 hg
  go_enter Try.func96, Try.ntmps96
  go_wp2_with (first | ((with_reducible refine box_new 31 #[.slice an nn cn, .slice ab nb cb, .slice (some ⟨b, off, none⟩) nv cv] rfl ?_); intro b0 W0 N0; have O0 : Hid (w.heap.size ≤ b0) := N0.ge; have B := N0.below; replace e0 := cell_later N0.below e0; replace e1 := cell_later N0.below e1; replace e2 := cell_later N0.below e2; have H0 : Hid (b0 < W0.heap.size) := N0.lt; have c0_0 : W0.cell? ⟨b0, 0, none⟩ = some (.slice an nn cn) := N0.cell 0 _ rfl; have c0_1 : W0.cell? ⟨b0, 1, none⟩ = some (.slice ab nb cb) := N0.cell 1 _ rfl; have c0_2 : W0.cell? ⟨b0, 2, none⟩ = some (.slice (some ⟨b, off, none⟩) nv cv) := N0.cell 2 _ rfl; clear N0) | ((with_reducible refine box_new 37 #[.int .i64 ok, .int .i64 ov, .int .i64 (a : Int), .int .i64 ox] rfl ?_); intro b1 W1 N1; have O1 : Hid (b0 < b1) := Nat.lt_of_lt_of_le H0.out N1.ge; replace e0 := cell_later N1.below e0; replace e1 := cell_later N1.below e1; replace e2 := cell_later N1.below e2; replace c0_0 := cell_later N1.below c0_0; replace c0_1 := cell_later N1.below c0_1; replace c0_2 := cell_later N1.below c0_2; replace H0 : Hid (b0 < W1.heap.size) := Nat.lt_of_lt_of_le H0.out N1.below.size; replace B := below_next B N1.below; have H1 : Hid (b1 < W1.heap.size) := N1.lt; have c1_0 : W1.cell? ⟨b1, 0, none⟩ = some (.int .i64 ok) := N1.cell 0 _ rfl; have c1_1 : W1.cell? ⟨b1, 1, none⟩ = some (.int .i64 ov) := N1.cell 1 _ rfl; have c1_2 : W1.cell? ⟨b1, 2, none⟩ = some (.int .i64 (a : Int)) := N1.cell 2 _ rfl; have c1_3 : W1.cell? ⟨b1, 3, none⟩ = some (.int .i64 ox) := N1.cell 3 _ rfl; clear N1) | ((with_reducible refine alloc_new 33 #[.int .i64 0, .int .i64 0, .int .i64 0, .slice none 0 0, .slice none 0 0, .slice none 0 0] (fun _ => by kernel_rfl) ?_); intro b2 W2 N2; have O2 : Hid (b1 < b2) := Nat.lt_of_lt_of_le H1.out N2.ge; replace e0 := cell_later N2.below e0; replace e1 := cell_later N2.below e1; replace e2 := cell_later N2.below e2; replace c0_0 := cell_later N2.below c0_0; replace c0_1 := cell_later N2.below c0_1; replace c0_2 := cell_later N2.below c0_2; replace H0 : Hid (b0 < W2.heap.size) := Nat.lt_of_lt_of_le H0.out N2.below.size; replace c1_0 := cell_later N2.below c1_0; replace c1_1 := cell_later N2.below c1_1; replace c1_2 := cell_later N2.below c1_2; replace c1_3 := cell_later N2.below c1_3; replace H1 : Hid (b1 < W2.heap.size) := Nat.lt_of_lt_of_le H1.out N2.below.size; replace B := below_next B N2.below; have H2 : Hid (b2 < W2.heap.size) := N2.lt; have c2_0 : W2.cell? ⟨b2, 0, none⟩ = some (.int .i64 0) := N2.cell 0 _ rfl; have c2_1 : W2.cell? ⟨b2, 1, none⟩ = some (.int .i64 0) := N2.cell 1 _ rfl; have c2_2 : W2.cell? ⟨b2, 2, none⟩ = some (.int .i64 0) := N2.cell 2 _ rfl; have c2_3 : W2.cell? ⟨b2, 3, none⟩ = some (.slice none 0 0) := N2.cell 3 _ rfl; have c2_4 : W2.cell? ⟨b2, 4, none⟩ = some (.slice none 0 0) := N2.cell 4 _ rfl; have c2_5 : W2.cell? ⟨b2, 5, none⟩ = some (.slice none 0 0) := N2.cell 5 _ rfl; have y2_0 : W2.frozen? ⟨b2, 0, none⟩ = false := N2.froz 0; have y2_1 : W2.frozen? ⟨b2, 1, none⟩ = false := N2.froz 1; have y2_2 : W2.frozen? ⟨b2, 2, none⟩ = false := N2.froz 2; have y2_3 : W2.frozen? ⟨b2, 3, none⟩ = false := N2.froz 3; have y2_4 : W2.frozen? ⟨b2, 4, none⟩ = false := N2.froz 4; have y2_5 : W2.frozen? ⟨b2, 5, none⟩ = false := N2.froz 5; clear N2) | ((with_reducible refine alloc_new 92 #[.int .i64 0, .int .i64 0, .int .i64 0] (fun _ => by kernel_rfl) ?_); intro b3 W3 N3; have O3 : Hid (b2 < b3) := Nat.lt_of_lt_of_le H2.out N3.ge; replace e0 := cell_later N3.below e0; replace e1 := cell_later N3.below e1; replace e2 := cell_later N3.below e2; replace c0_0 := cell_later N3.below c0_0; replace c0_1 := cell_later N3.below c0_1; replace c0_2 := cell_later N3.below c0_2; replace H0 : Hid (b0 < W3.heap.size) := Nat.lt_of_lt_of_le H0.out N3.below.size; replace c1_0 := cell_later N3.below c1_0; replace c1_1 := cell_later N3.below c1_1; replace c1_2 := cell_later N3.below c1_2; replace c1_3 := cell_later N3.below c1_3; replace H1 : Hid (b1 < W3.heap.size) := Nat.lt_of_lt_of_le H1.out N3.below.size; replace c2_0 := cell_later N3.below c2_0; replace c2_1 := cell_later N3.below c2_1; replace c2_2 := cell_later N3.below c2_2; replace c2_3 := cell_later N3.below c2_3; replace c2_4 := cell_later N3.below c2_4; replace c2_5 := cell_later N3.below c2_5; replace y2_0 := frozen_later N3.below H2.out y2_0; replace y2_1 := frozen_later N3.below H2.out y2_1; replace y2_2 := frozen_later N3.below H2.out y2_2; replace y2_3 := frozen_later N3.below H2.out y2_3; replace y2_4 := frozen_later N3.below H2.out y2_4; replace y2_5 := frozen_later N3.below H2.out y2_5; replace H2 : Hid (b2 < W3.heap.size) := Nat.lt_of_lt_of_le H2.out N3.below.size; replace B := below_next B N3.below; have H3 : Hid (b3 < W3.heap.size) := N3.lt; have c3_0 : W3.cell? ⟨b3, 0, none⟩ = some (.int .i64 0) := N3.cell 0 _ rfl; have c3_1 : W3.cell? ⟨b3, 1, none⟩ = some (.int .i64 0) := N3.cell 1 _ rfl; have c3_2 : W3.cell? ⟨b3, 2, none⟩ = some (.int .i64 0) := N3.cell 2 _ rfl; have y3_0 : W3.frozen? ⟨b3, 0, none⟩ = false := N3.froz 0; have y3_1 : W3.frozen? ⟨b3, 1, none⟩ = false := N3.froz 1; have y3_2 : W3.frozen? ⟨b3, 2, none⟩ = false := N3.froz 2; clear N3) | ((with_reducible refine store_box 92 b3 [.int .i64 id, .int .i64 qu, .int .i64 rt] (by simp) (there3 c3_0 c3_1 c3_2 y3_0 y3_1 y3_2) (by kernel_rfl) (by simp [Value.oneCell']) rfl rfl ?_); intro W4 S3; replace e0 := S3.at e0 (by have q9 := HBS.out; have q0 := O0.out; have q1 := O1.out; have q2 := O2.out; have q3 := O3.out; omega); replace e1 := S3.at e1 (by have q9 := HBS.out; have q0 := O0.out; have q1 := O1.out; have q2 := O2.out; have q3 := O3.out; omega); replace e2 := S3.at e2 (by have q9 := HBS.out; have q0 := O0.out; have q1 := O1.out; have q2 := O2.out; have q3 := O3.out; omega); replace c0_0 := S3.at c0_0 (by have q1 := O1.out; have q2 := O2.out; have q3 := O3.out; omega); replace c0_1 := S3.at c0_1 (by have q1 := O1.out; have q2 := O2.out; have q3 := O3.out; omega); replace c0_2 := S3.at c0_2 (by have q1 := O1.out; have q2 := O2.out; have q3 := O3.out; omega); replace H0 : Hid (b0 < W4.heap.size) := Nat.lt_of_lt_of_le H0.out S3.kept.size; replace c1_0 := S3.at c1_0 (by have q2 := O2.out; have q3 := O3.out; omega); replace c1_1 := S3.at c1_1 (by have q2 := O2.out; have q3 := O3.out; omega); replace c1_2 := S3.at c1_2 (by have q2 := O2.out; have q3 := O3.out; omega); replace c1_3 := S3.at c1_3 (by have q2 := O2.out; have q3 := O3.out; omega); replace H1 : Hid (b1 < W4.heap.size) := Nat.lt_of_lt_of_le H1.out S3.kept.size; replace c2_0 := S3.at c2_0 (by have q3 := O3.out; omega); replace c2_1 := S3.at c2_1 (by have q3 := O3.out; omega); replace c2_2 := S3.at c2_2 (by have q3 := O3.out; omega); replace c2_3 := S3.at c2_3 (by have q3 := O3.out; omega); replace c2_4 := S3.at c2_4 (by have q3 := O3.out; omega); replace c2_5 := S3.at c2_5 (by have q3 := O3.out; omega); replace y2_0 := S3.fr y2_0; replace y2_1 := S3.fr y2_1; replace y2_2 := S3.fr y2_2; replace y2_3 := S3.fr y2_3; replace y2_4 := S3.fr y2_4; replace y2_5 := S3.fr y2_5; replace H2 : Hid (b2 < W4.heap.size) := Nat.lt_of_lt_of_le H2.out S3.kept.size; replace c3_0 : W4.cell? ⟨b3, 0, none⟩ = some (.int .i64 id) := S3.cell 0 _ rfl; replace c3_1 : W4.cell? ⟨b3, 1, none⟩ = some (.int .i64 qu) := S3.cell 1 _ rfl; replace c3_2 : W4.cell? ⟨b3, 2, none⟩ = some (.int .i64 rt) := S3.cell 2 _ rfl; replace y3_0 := S3.fr y3_0; replace y3_1 := S3.fr y3_1; replace y3_2 := S3.fr y3_2; replace H3 : Hid (b3 < W4.heap.size) := Nat.lt_of_lt_of_le H3.out S3.kept.size; replace B := B.trans (S3.kept.below _ (Nat.le_trans O0.out (by have q1 := O1.out; have q2 := O2.out; have q3 := O3.out; omega)) B.size); clear S3) | fail)
  refine (blockAt_is an nn cn ab nb cb K f _ (h.below B) rt a ha HI.out HRO.out bk HBK.out).mono ?_
  rintro e w1 ⟨rfl, BB⟩
  replace e0 := cell_later BB e0
  replace e1 := cell_later BB e1
  replace e2 := cell_later BB e2
  replace c0_0 := cell_later BB c0_0
  replace c0_1 := cell_later BB c0_1
  replace c0_2 := cell_later BB c0_2
  replace H0 : Hid (b0 < w1.heap.size) := Nat.lt_of_lt_of_le H0.out BB.size
  replace c1_0 := cell_later BB c1_0
  replace c1_1 := cell_later BB c1_1
  replace c1_2 := cell_later BB c1_2
  replace c1_3 := cell_later BB c1_3
  replace H1 : Hid (b1 < w1.heap.size) := Nat.lt_of_lt_of_le H1.out BB.size
  replace c2_0 := cell_later BB c2_0
  replace c2_1 := cell_later BB c2_1
  replace c2_2 := cell_later BB c2_2
  replace c2_3 := cell_later BB c2_3
  replace c2_4 := cell_later BB c2_4
  replace c2_5 := cell_later BB c2_5
  replace y2_0 := frozen_later BB H2.out y2_0
  replace y2_1 := frozen_later BB H2.out y2_1
  replace y2_2 := frozen_later BB H2.out y2_2
  replace y2_3 := frozen_later BB H2.out y2_3
  replace y2_4 := frozen_later BB H2.out y2_4
  replace y2_5 := frozen_later BB H2.out y2_5
  replace H2 : Hid (b2 < w1.heap.size) := Nat.lt_of_lt_of_le H2.out BB.size
  replace c3_0 := cell_later BB c3_0
  replace c3_1 := cell_later BB c3_1
  replace c3_2 := cell_later BB c3_2
  replace y3_0 := frozen_later BB H3.out y3_0
  replace y3_1 := frozen_later BB H3.out y3_1
  replace y3_2 := frozen_later BB H3.out y3_2
  replace H3 : Hid (b3 < w1.heap.size) := Nat.lt_of_lt_of_le H3.out BB.size
  replace B := below_next B BB
  clear BB
  have n02 : b0 ≠ b2 := by have q1 := O1.out; have q2 := O2.out; omega
  have n12 : b1 ≠ b2 := by have q2 := O2.out; omega
  have nb2 : b ≠ b2 := by have q0 := O0.out; have q1 := O1.out; have q2 := O2.out; have q3 := HBS.out; omega
  have n32 : b3 ≠ b2 := by have q3 := O3.out; omega
  by_cases hb1 : bk = -1
  · subst hb1
    have hd0 : ((-1 : Int) == -1) = true := rfl
    by_cases hu : us = qu
    · have ed : d = (9, f, vs) := HD.out.symm.trans (if_pos ⟨rfl, hu⟩)
      subst ed
      clear HD
      subst hu
      have he : (us == us) = true := by simp
      go_wp2_with fail
      have D : Below w1.heap.size w1 w1.drew := (Below.refl _ _).drew
      replace e0 := cell_later D e0
      replace e1 := cell_later D e1
      replace e2 := cell_later D e2
      replace c0_0 := cell_later D c0_0
      replace c0_1 := cell_later D c0_1
      replace c0_2 := cell_later D c0_2
      replace H0 : Hid (b0 < w1.drew.heap.size) := Nat.lt_of_lt_of_le H0.out D.size
      replace c1_0 := cell_later D c1_0
      replace c1_1 := cell_later D c1_1
      replace c1_2 := cell_later D c1_2
      replace c1_3 := cell_later D c1_3
      replace H1 : Hid (b1 < w1.drew.heap.size) := Nat.lt_of_lt_of_le H1.out D.size
      replace c2_0 := cell_later D c2_0
      replace c2_1 := cell_later D c2_1
      replace c2_2 := cell_later D c2_2
      replace c2_3 := cell_later D c2_3
      replace c2_4 := cell_later D c2_4
      replace c2_5 := cell_later D c2_5
      replace y2_0 := frozen_later D H2.out y2_0
      replace y2_1 := frozen_later D H2.out y2_1
      replace y2_2 := frozen_later D H2.out y2_2
      replace y2_3 := frozen_later D H2.out y2_3
      replace y2_4 := frozen_later D H2.out y2_4
      replace y2_5 := frozen_later D H2.out y2_5
      replace H2 : Hid (b2 < w1.drew.heap.size) := Nat.lt_of_lt_of_le H2.out D.size
      replace c3_0 := cell_later D c3_0
      replace c3_1 := cell_later D c3_1
      replace c3_2 := cell_later D c3_2
      replace y3_0 := frozen_later D H3.out y3_0
      replace y3_1 := frozen_later D H3.out y3_1
      replace y3_2 := frozen_later D H3.out y3_2
      replace H3 : Hid (b3 < w1.drew.heap.size) := Nat.lt_of_lt_of_le H3.out D.size
      replace B := below_next B D
      clear D
      go_region_held3 (fun w' => w'.cell? ⟨b0, 0, none⟩ = some (.slice an nn cn) ∧ w'.cell? ⟨b0, 1, none⟩ = some (.slice ab nb cb) ∧ w'.cell? ⟨b3, 1, none⟩ = some (.int .i64 us) ∧ w'.cell? ⟨b3, 2, none⟩ = some (.int .i64 rt)) (first | with_reducible exact ⟨c0_0, c0_1, c3_1, c3_2⟩ | with_reducible exact ⟨(six_other _ _ _ _ _ _ _ _ _ _ n02).trans c0_0, (six_other _ _ _ _ _ _ _ _ _ _ n02).trans c0_1, (six_other _ _ _ _ _ _ _ _ _ _ n32).trans c3_1, (six_other _ _ _ _ _ _ _ _ _ _ n32).trans c3_2⟩)
        (first | (go_at_call 50; (with_reducible refine (usedBy_is an nn cn ab nb cb K f _ (h.below B) rt HI.out HRO.out us HU.out).mono ?_); rintro e w2 ⟨rfl, B2⟩; replace e0 := cell_later B2 e0; replace e1 := cell_later B2 e1; replace e2 := cell_later B2 e2; replace c0_0 := cell_later B2 c0_0; replace c0_1 := cell_later B2 c0_1; replace c0_2 := cell_later B2 c0_2; replace H0 : Hid (b0 < w2.heap.size) := Nat.lt_of_lt_of_le H0.out B2.size; replace c1_0 := cell_later B2 c1_0; replace c1_1 := cell_later B2 c1_1; replace c1_2 := cell_later B2 c1_2; replace c1_3 := cell_later B2 c1_3; replace H1 : Hid (b1 < w2.heap.size) := Nat.lt_of_lt_of_le H1.out B2.size; replace c2_0 := cell_later B2 c2_0; replace c2_1 := cell_later B2 c2_1; replace c2_2 := cell_later B2 c2_2; replace c2_3 := cell_later B2 c2_3; replace c2_4 := cell_later B2 c2_4; replace c2_5 := cell_later B2 c2_5; replace y2_0 := frozen_later B2 H2.out y2_0; replace y2_1 := frozen_later B2 H2.out y2_1; replace y2_2 := frozen_later B2 H2.out y2_2; replace y2_3 := frozen_later B2 H2.out y2_3; replace y2_4 := frozen_later B2 H2.out y2_4; replace y2_5 := frozen_later B2 H2.out y2_5; replace H2 : Hid (b2 < w2.heap.size) := Nat.lt_of_lt_of_le H2.out B2.size; replace c3_0 := cell_later B2 c3_0; replace c3_1 := cell_later B2 c3_1; replace c3_2 := cell_later B2 c3_2; replace y3_0 := frozen_later B2 H3.out y3_0; replace y3_1 := frozen_later B2 H3.out y3_1; replace y3_2 := frozen_later B2 H3.out y3_2; replace H3 : Hid (b3 < w2.heap.size) := Nat.lt_of_lt_of_le H3.out B2.size; replace B := below_next B B2; clear B2))
      go_wp2_with fail
      refine (replied_is an nn cn ab nb cb (some ⟨b, off, none⟩) nv cv K f vs _ (h.below B) (hv.below B) hn hb hK hvn 9).mono ?_
      rintro e w6 ⟨pa, pn, pc, pb, qn, qc, va, vn, vc, l1, u1, l2, u2, K', rfl, P, BB⟩
      have Q1 : Hid (b2 < l1) := Nat.lt_of_lt_of_le H2.out P.lo1
      have Q2 : Hid (b2 < l2) := Nat.lt_of_lt_of_le H2.out P.lo2
      replace P := P.from (w := w) B.size
      replace e0 := cell_later BB e0
      replace e1 := cell_later BB e1
      replace e2 := cell_later BB e2
      replace c0_0 := cell_later BB c0_0
      replace c0_1 := cell_later BB c0_1
      replace c0_2 := cell_later BB c0_2
      replace H0 : Hid (b0 < w6.heap.size) := Nat.lt_of_lt_of_le H0.out BB.size
      replace c1_0 := cell_later BB c1_0
      replace c1_1 := cell_later BB c1_1
      replace c1_2 := cell_later BB c1_2
      replace c1_3 := cell_later BB c1_3
      replace H1 : Hid (b1 < w6.heap.size) := Nat.lt_of_lt_of_le H1.out BB.size
      replace c2_0 := cell_later BB c2_0
      replace c2_1 := cell_later BB c2_1
      replace c2_2 := cell_later BB c2_2
      replace c2_3 := cell_later BB c2_3
      replace c2_4 := cell_later BB c2_4
      replace c2_5 := cell_later BB c2_5
      replace y2_0 := frozen_later BB H2.out y2_0
      replace y2_1 := frozen_later BB H2.out y2_1
      replace y2_2 := frozen_later BB H2.out y2_2
      replace y2_3 := frozen_later BB H2.out y2_3
      replace y2_4 := frozen_later BB H2.out y2_4
      replace y2_5 := frozen_later BB H2.out y2_5
      replace H2 : Hid (b2 < w6.heap.size) := Nat.lt_of_lt_of_le H2.out BB.size
      replace c3_0 := cell_later BB c3_0
      replace c3_1 := cell_later BB c3_1
      replace c3_2 := cell_later BB c3_2
      replace y3_0 := frozen_later BB H3.out y3_0
      replace y3_1 := frozen_later BB H3.out y3_1
      replace y3_2 := frozen_later BB H3.out y3_2
      replace H3 : Hid (b3 < w6.heap.size) := Nat.lt_of_lt_of_le H3.out BB.size
      replace B := below_next B BB
      clear BB
      go_wp2
      refine bodyPost_ret (v := .agg #[.int .i64 0, .int .i64 9, .int .i64 0, .slice pa pn pc, .slice pb qn qc, .slice va vn vc]) (by simp [results, Try.results96, go_sem, c2_0, c2_1, c2_2, c2_3, c2_4, c2_5]) rfl ?_
      have KZ : Kept b2 (b2 + 1) w6 ((((((w6.setCell ⟨b2, 0, none⟩ (.int .i64 0)).setCell ⟨b2, 1, none⟩ (.int .i64 9)).setCell ⟨b2, 2, none⟩ (.int .i64 0)).setCell ⟨b2, 3, none⟩ (.slice pa pn pc)).setCell ⟨b2, 4, none⟩ (.slice pb qn qc)).setCell ⟨b2, 5, none⟩ (.slice va vn vc)) := by refine Kept.setCell (Kept.setCell (Kept.setCell (Kept.setCell (Kept.setCell (Kept.setCell (Kept.refl _ _ _) ?_ ?_ _) ?_ ?_ _) ?_ ?_ _) ?_ ?_ _) ?_ ?_ _) ?_ ?_ _ <;> simp
      exact ⟨_, _, _, _, _, _, _, _, _, _, _, _, _, _, rfl, P.keep KZ (Or.inr Q1.out) (Or.inr Q2.out), B.trans (KZ.below _ (Nat.le_trans O0.out (Nat.le_of_lt (Nat.lt_trans O1.out O2.out))) B.size)⟩
    · have HD2 : Hid ((if cd = 0 then ((0 : Int), g, setRootV vs m r2) else (cd, f, vs)) = d) := (if_neg (fun e => hu e.2)).symm.trans HD.out
      clear HD
      have he : (us == qu) = false := by simp [hu]
      go_wp2_with fail
      have D : Below w1.heap.size w1 w1.drew := (Below.refl _ _).drew
      replace e0 := cell_later D e0
      replace e1 := cell_later D e1
      replace e2 := cell_later D e2
      replace c0_0 := cell_later D c0_0
      replace c0_1 := cell_later D c0_1
      replace c0_2 := cell_later D c0_2
      replace H0 : Hid (b0 < w1.drew.heap.size) := Nat.lt_of_lt_of_le H0.out D.size
      replace c1_0 := cell_later D c1_0
      replace c1_1 := cell_later D c1_1
      replace c1_2 := cell_later D c1_2
      replace c1_3 := cell_later D c1_3
      replace H1 : Hid (b1 < w1.drew.heap.size) := Nat.lt_of_lt_of_le H1.out D.size
      replace c2_0 := cell_later D c2_0
      replace c2_1 := cell_later D c2_1
      replace c2_2 := cell_later D c2_2
      replace c2_3 := cell_later D c2_3
      replace c2_4 := cell_later D c2_4
      replace c2_5 := cell_later D c2_5
      replace y2_0 := frozen_later D H2.out y2_0
      replace y2_1 := frozen_later D H2.out y2_1
      replace y2_2 := frozen_later D H2.out y2_2
      replace y2_3 := frozen_later D H2.out y2_3
      replace y2_4 := frozen_later D H2.out y2_4
      replace y2_5 := frozen_later D H2.out y2_5
      replace H2 : Hid (b2 < w1.drew.heap.size) := Nat.lt_of_lt_of_le H2.out D.size
      replace c3_0 := cell_later D c3_0
      replace c3_1 := cell_later D c3_1
      replace c3_2 := cell_later D c3_2
      replace y3_0 := frozen_later D H3.out y3_0
      replace y3_1 := frozen_later D H3.out y3_1
      replace y3_2 := frozen_later D H3.out y3_2
      replace H3 : Hid (b3 < w1.drew.heap.size) := Nat.lt_of_lt_of_le H3.out D.size
      replace B := below_next B D
      clear D
      go_region_held3 (fun w' => w'.cell? ⟨b0, 0, none⟩ = some (.slice an nn cn) ∧ w'.cell? ⟨b0, 1, none⟩ = some (.slice ab nb cb) ∧ w'.cell? ⟨b3, 1, none⟩ = some (.int .i64 qu) ∧ w'.cell? ⟨b3, 2, none⟩ = some (.int .i64 rt)) (first | with_reducible exact ⟨c0_0, c0_1, c3_1, c3_2⟩ | with_reducible exact ⟨(six_other _ _ _ _ _ _ _ _ _ _ n02).trans c0_0, (six_other _ _ _ _ _ _ _ _ _ _ n02).trans c0_1, (six_other _ _ _ _ _ _ _ _ _ _ n32).trans c3_1, (six_other _ _ _ _ _ _ _ _ _ _ n32).trans c3_2⟩)
        (first | (go_at_call 50; (with_reducible refine (usedBy_is an nn cn ab nb cb K f _ (h.below B) rt HI.out HRO.out us HU.out).mono ?_); rintro e w2 ⟨rfl, B2⟩; replace e0 := cell_later B2 e0; replace e1 := cell_later B2 e1; replace e2 := cell_later B2 e2; replace c0_0 := cell_later B2 c0_0; replace c0_1 := cell_later B2 c0_1; replace c0_2 := cell_later B2 c0_2; replace H0 : Hid (b0 < w2.heap.size) := Nat.lt_of_lt_of_le H0.out B2.size; replace c1_0 := cell_later B2 c1_0; replace c1_1 := cell_later B2 c1_1; replace c1_2 := cell_later B2 c1_2; replace c1_3 := cell_later B2 c1_3; replace H1 : Hid (b1 < w2.heap.size) := Nat.lt_of_lt_of_le H1.out B2.size; replace c2_0 := cell_later B2 c2_0; replace c2_1 := cell_later B2 c2_1; replace c2_2 := cell_later B2 c2_2; replace c2_3 := cell_later B2 c2_3; replace c2_4 := cell_later B2 c2_4; replace c2_5 := cell_later B2 c2_5; replace y2_0 := frozen_later B2 H2.out y2_0; replace y2_1 := frozen_later B2 H2.out y2_1; replace y2_2 := frozen_later B2 H2.out y2_2; replace y2_3 := frozen_later B2 H2.out y2_3; replace y2_4 := frozen_later B2 H2.out y2_4; replace y2_5 := frozen_later B2 H2.out y2_5; replace H2 : Hid (b2 < w2.heap.size) := Nat.lt_of_lt_of_le H2.out B2.size; replace c3_0 := cell_later B2 c3_0; replace c3_1 := cell_later B2 c3_1; replace c3_2 := cell_later B2 c3_2; replace y3_0 := frozen_later B2 H3.out y3_0; replace y3_1 := frozen_later B2 H3.out y3_1; replace y3_2 := frozen_later B2 H3.out y3_2; replace H3 : Hid (b3 < w2.heap.size) := Nat.lt_of_lt_of_le H3.out B2.size; replace B := below_next B B2; clear B2))
      by_cases hcd : cd = 0
      rotate_left 1
      · have ed : d = (cd, f, vs) := by rw [← HD2.out, if_neg hcd]
        subst ed
        go_wp2_with fail
        have D : Below w2.heap.size w2 w2.drew := (Below.refl _ _).drew
        replace e0 := cell_later D e0
        replace e1 := cell_later D e1
        replace e2 := cell_later D e2
        replace c0_0 := cell_later D c0_0
        replace c0_1 := cell_later D c0_1
        replace c0_2 := cell_later D c0_2
        replace H0 : Hid (b0 < w2.drew.heap.size) := Nat.lt_of_lt_of_le H0.out D.size
        replace c1_0 := cell_later D c1_0
        replace c1_1 := cell_later D c1_1
        replace c1_2 := cell_later D c1_2
        replace c1_3 := cell_later D c1_3
        replace H1 : Hid (b1 < w2.drew.heap.size) := Nat.lt_of_lt_of_le H1.out D.size
        replace c2_0 := cell_later D c2_0
        replace c2_1 := cell_later D c2_1
        replace c2_2 := cell_later D c2_2
        replace c2_3 := cell_later D c2_3
        replace c2_4 := cell_later D c2_4
        replace c2_5 := cell_later D c2_5
        replace y2_0 := frozen_later D H2.out y2_0
        replace y2_1 := frozen_later D H2.out y2_1
        replace y2_2 := frozen_later D H2.out y2_2
        replace y2_3 := frozen_later D H2.out y2_3
        replace y2_4 := frozen_later D H2.out y2_4
        replace y2_5 := frozen_later D H2.out y2_5
        replace H2 : Hid (b2 < w2.drew.heap.size) := Nat.lt_of_lt_of_le H2.out D.size
        replace c3_0 := cell_later D c3_0
        replace c3_1 := cell_later D c3_1
        replace c3_2 := cell_later D c3_2
        replace y3_0 := frozen_later D H3.out y3_0
        replace y3_1 := frozen_later D H3.out y3_1
        replace y3_2 := frozen_later D H3.out y3_2
        replace H3 : Hid (b3 < w2.drew.heap.size) := Nat.lt_of_lt_of_le H3.out D.size
        replace B := below_next B D
        clear D
        go_region_held3 (fun w' => w'.cell? ⟨b0, 0, none⟩ = some (.slice an nn cn) ∧ w'.cell? ⟨b0, 1, none⟩ = some (.slice ab nb cb) ∧ w'.cell? ⟨b0, 2, none⟩ = some (.slice (some ⟨b, off, none⟩) nv cv) ∧ w'.cell? ⟨b1, 2, none⟩ = some (.int .i64 (a : Int)) ∧ w'.cell? ⟨b1, 3, none⟩ = some (.int .i64 ox) ∧ w'.cell? ⟨b3, 2, none⟩ = some (.int .i64 rt)) (first | with_reducible exact ⟨c0_0, c0_1, c0_2, c1_2, c1_3, c3_2⟩ | with_reducible exact ⟨(six_other _ _ _ _ _ _ _ _ _ _ n02).trans c0_0, (six_other _ _ _ _ _ _ _ _ _ _ n02).trans c0_1, (six_other _ _ _ _ _ _ _ _ _ _ n02).trans c0_2, (six_other _ _ _ _ _ _ _ _ _ _ n12).trans c1_2, (six_other _ _ _ _ _ _ _ _ _ _ n12).trans c1_3, (six_other _ _ _ _ _ _ _ _ _ _ n32).trans c3_2⟩)
          (first | (go_at_call 159; (with_reducible refine (implSetT_is an nn cn ab nb cb K f _ (h.below B) hnn hnb HKK.out rt (a : Int) ox cd r2 g HCD.out HR2.out HG.out).mono ?_); rintro e w5 ⟨sn, s1, s2, sb', s3, s4, sK, rfl, F5, B5⟩; have Q5 : Hid (b2 < w2.drew.heap.size) := H2.out; have QB : Hid (w.heap.size ≤ w2.drew.heap.size) := B.size; replace e0 := cell_later B5 e0; replace e1 := cell_later B5 e1; replace e2 := cell_later B5 e2; replace c0_0 := cell_later B5 c0_0; replace c0_1 := cell_later B5 c0_1; replace c0_2 := cell_later B5 c0_2; replace H0 : Hid (b0 < w5.heap.size) := Nat.lt_of_lt_of_le H0.out B5.size; replace c1_0 := cell_later B5 c1_0; replace c1_1 := cell_later B5 c1_1; replace c1_2 := cell_later B5 c1_2; replace c1_3 := cell_later B5 c1_3; replace H1 : Hid (b1 < w5.heap.size) := Nat.lt_of_lt_of_le H1.out B5.size; replace c2_0 := cell_later B5 c2_0; replace c2_1 := cell_later B5 c2_1; replace c2_2 := cell_later B5 c2_2; replace c2_3 := cell_later B5 c2_3; replace c2_4 := cell_later B5 c2_4; replace c2_5 := cell_later B5 c2_5; replace y2_0 := frozen_later B5 H2.out y2_0; replace y2_1 := frozen_later B5 H2.out y2_1; replace y2_2 := frozen_later B5 H2.out y2_2; replace y2_3 := frozen_later B5 H2.out y2_3; replace y2_4 := frozen_later B5 H2.out y2_4; replace y2_5 := frozen_later B5 H2.out y2_5; replace H2 : Hid (b2 < w5.heap.size) := Nat.lt_of_lt_of_le H2.out B5.size; replace c3_0 := cell_later B5 c3_0; replace c3_1 := cell_later B5 c3_1; replace c3_2 := cell_later B5 c3_2; replace y3_0 := frozen_later B5 H3.out y3_0; replace y3_1 := frozen_later B5 H3.out y3_1; replace y3_2 := frozen_later B5 H3.out y3_2; replace H3 : Hid (b3 < w5.heap.size) := Nat.lt_of_lt_of_le H3.out B5.size; replace B := below_next B B5; clear B5) | (go_at_call 158; (with_reducible refine (withTree_no an nn cn ab nb cb (some ⟨b, off, none⟩) nv cv K f vs _ (h.below B) (hv.below B) hn hb hK hvn sn s1 s2 sb' s3 s4 m cd r2 hcd).mono ?_); rintro e w6 ⟨pa, pn, pc, pb, qn, qc, va, vn, vc, l1, u1, l2, u2, K', rfl, P, BB⟩; have Q1 : Hid (b2 < l1) := Nat.lt_of_lt_of_le H2.out P.lo1; have Q2 : Hid (b2 < l2) := Nat.lt_of_lt_of_le H2.out P.lo2; replace P := P.from (w := w) B.size; replace e0 := cell_later BB e0; replace e1 := cell_later BB e1; replace e2 := cell_later BB e2; replace c0_0 := cell_later BB c0_0; replace c0_1 := cell_later BB c0_1; replace c0_2 := cell_later BB c0_2; replace H0 : Hid (b0 < w6.heap.size) := Nat.lt_of_lt_of_le H0.out BB.size; replace c1_0 := cell_later BB c1_0; replace c1_1 := cell_later BB c1_1; replace c1_2 := cell_later BB c1_2; replace c1_3 := cell_later BB c1_3; replace H1 : Hid (b1 < w6.heap.size) := Nat.lt_of_lt_of_le H1.out BB.size; replace c2_0 := cell_later BB c2_0; replace c2_1 := cell_later BB c2_1; replace c2_2 := cell_later BB c2_2; replace c2_3 := cell_later BB c2_3; replace c2_4 := cell_later BB c2_4; replace c2_5 := cell_later BB c2_5; replace y2_0 := frozen_later BB H2.out y2_0; replace y2_1 := frozen_later BB H2.out y2_1; replace y2_2 := frozen_later BB H2.out y2_2; replace y2_3 := frozen_later BB H2.out y2_3; replace y2_4 := frozen_later BB H2.out y2_4; replace y2_5 := frozen_later BB H2.out y2_5; replace H2 : Hid (b2 < w6.heap.size) := Nat.lt_of_lt_of_le H2.out BB.size; replace c3_0 := cell_later BB c3_0; replace c3_1 := cell_later BB c3_1; replace c3_2 := cell_later BB c3_2; replace y3_0 := frozen_later BB H3.out y3_0; replace y3_1 := frozen_later BB H3.out y3_1; replace y3_2 := frozen_later BB H3.out y3_2; replace H3 : Hid (b3 < w6.heap.size) := Nat.lt_of_lt_of_le H3.out BB.size; replace B := below_next B BB; clear BB))
        go_wp2
        refine bodyPost_ret (v := .agg #[.int .i64 0, .int .i64 cd, .int .i64 0, .slice pa pn pc, .slice pb qn qc, .slice va vn vc]) (by simp [results, Try.results96, go_sem, c2_0, c2_1, c2_2, c2_3, c2_4, c2_5]) rfl ?_
        have KZ : Kept b2 (b2 + 1) w6 ((((((w6.setCell ⟨b2, 0, none⟩ (.int .i64 0)).setCell ⟨b2, 1, none⟩ (.int .i64 cd)).setCell ⟨b2, 2, none⟩ (.int .i64 0)).setCell ⟨b2, 3, none⟩ (.slice pa pn pc)).setCell ⟨b2, 4, none⟩ (.slice pb qn qc)).setCell ⟨b2, 5, none⟩ (.slice va vn vc)) := by refine Kept.setCell (Kept.setCell (Kept.setCell (Kept.setCell (Kept.setCell (Kept.setCell (Kept.refl _ _ _) ?_ ?_ _) ?_ ?_ _) ?_ ?_ _) ?_ ?_ _) ?_ ?_ _) ?_ ?_ _ <;> simp
        exact ⟨_, _, _, _, _, _, _, _, _, _, _, _, _, _, rfl, P.keep KZ (Or.inr Q1.out) (Or.inr Q2.out), B.trans (KZ.below _ (Nat.le_trans O0.out (Nat.le_of_lt (Nat.lt_trans O1.out O2.out))) B.size)⟩
      · subst hcd
        have ed : d = (0, g, setRootV vs m r2) := by rw [← HD2.out, if_pos rfl]
        subst ed
        go_wp2_with fail
        have D : Below w2.heap.size w2 w2.drew := (Below.refl _ _).drew
        replace e0 := cell_later D e0
        replace e1 := cell_later D e1
        replace e2 := cell_later D e2
        replace c0_0 := cell_later D c0_0
        replace c0_1 := cell_later D c0_1
        replace c0_2 := cell_later D c0_2
        replace H0 : Hid (b0 < w2.drew.heap.size) := Nat.lt_of_lt_of_le H0.out D.size
        replace c1_0 := cell_later D c1_0
        replace c1_1 := cell_later D c1_1
        replace c1_2 := cell_later D c1_2
        replace c1_3 := cell_later D c1_3
        replace H1 : Hid (b1 < w2.drew.heap.size) := Nat.lt_of_lt_of_le H1.out D.size
        replace c2_0 := cell_later D c2_0
        replace c2_1 := cell_later D c2_1
        replace c2_2 := cell_later D c2_2
        replace c2_3 := cell_later D c2_3
        replace c2_4 := cell_later D c2_4
        replace c2_5 := cell_later D c2_5
        replace y2_0 := frozen_later D H2.out y2_0
        replace y2_1 := frozen_later D H2.out y2_1
        replace y2_2 := frozen_later D H2.out y2_2
        replace y2_3 := frozen_later D H2.out y2_3
        replace y2_4 := frozen_later D H2.out y2_4
        replace y2_5 := frozen_later D H2.out y2_5
        replace H2 : Hid (b2 < w2.drew.heap.size) := Nat.lt_of_lt_of_le H2.out D.size
        replace c3_0 := cell_later D c3_0
        replace c3_1 := cell_later D c3_1
        replace c3_2 := cell_later D c3_2
        replace y3_0 := frozen_later D H3.out y3_0
        replace y3_1 := frozen_later D H3.out y3_1
        replace y3_2 := frozen_later D H3.out y3_2
        replace H3 : Hid (b3 < w2.drew.heap.size) := Nat.lt_of_lt_of_le H3.out D.size
        replace B := below_next B D
        clear D
        go_region_held3 (fun w' => w'.cell? ⟨b0, 0, none⟩ = some (.slice an nn cn) ∧ w'.cell? ⟨b0, 1, none⟩ = some (.slice ab nb cb) ∧ w'.cell? ⟨b0, 2, none⟩ = some (.slice (some ⟨b, off, none⟩) nv cv) ∧ w'.cell? ⟨b1, 2, none⟩ = some (.int .i64 (a : Int)) ∧ w'.cell? ⟨b1, 3, none⟩ = some (.int .i64 ox) ∧ w'.cell? ⟨b3, 2, none⟩ = some (.int .i64 rt)) (first | with_reducible exact ⟨c0_0, c0_1, c0_2, c1_2, c1_3, c3_2⟩ | with_reducible exact ⟨(six_other _ _ _ _ _ _ _ _ _ _ n02).trans c0_0, (six_other _ _ _ _ _ _ _ _ _ _ n02).trans c0_1, (six_other _ _ _ _ _ _ _ _ _ _ n02).trans c0_2, (six_other _ _ _ _ _ _ _ _ _ _ n12).trans c1_2, (six_other _ _ _ _ _ _ _ _ _ _ n12).trans c1_3, (six_other _ _ _ _ _ _ _ _ _ _ n32).trans c3_2⟩)
          (first | (go_at_call 159; (with_reducible refine (implSetT_is an nn cn ab nb cb K f _ (h.below B) hnn hnb HKK.out rt (a : Int) ox 0 r2 g HCD.out HR2.out HG.out).mono ?_); rintro e w5 ⟨sn, s1, s2, sb', s3, s4, sK, rfl, F5, B5⟩; have Q5 : Hid (b2 < w2.drew.heap.size) := H2.out; have QB : Hid (w.heap.size ≤ w2.drew.heap.size) := B.size; replace e0 := cell_later B5 e0; replace e1 := cell_later B5 e1; replace e2 := cell_later B5 e2; replace c0_0 := cell_later B5 c0_0; replace c0_1 := cell_later B5 c0_1; replace c0_2 := cell_later B5 c0_2; replace H0 : Hid (b0 < w5.heap.size) := Nat.lt_of_lt_of_le H0.out B5.size; replace c1_0 := cell_later B5 c1_0; replace c1_1 := cell_later B5 c1_1; replace c1_2 := cell_later B5 c1_2; replace c1_3 := cell_later B5 c1_3; replace H1 : Hid (b1 < w5.heap.size) := Nat.lt_of_lt_of_le H1.out B5.size; replace c2_0 := cell_later B5 c2_0; replace c2_1 := cell_later B5 c2_1; replace c2_2 := cell_later B5 c2_2; replace c2_3 := cell_later B5 c2_3; replace c2_4 := cell_later B5 c2_4; replace c2_5 := cell_later B5 c2_5; replace y2_0 := frozen_later B5 H2.out y2_0; replace y2_1 := frozen_later B5 H2.out y2_1; replace y2_2 := frozen_later B5 H2.out y2_2; replace y2_3 := frozen_later B5 H2.out y2_3; replace y2_4 := frozen_later B5 H2.out y2_4; replace y2_5 := frozen_later B5 H2.out y2_5; replace H2 : Hid (b2 < w5.heap.size) := Nat.lt_of_lt_of_le H2.out B5.size; replace c3_0 := cell_later B5 c3_0; replace c3_1 := cell_later B5 c3_1; replace c3_2 := cell_later B5 c3_2; replace y3_0 := frozen_later B5 H3.out y3_0; replace y3_1 := frozen_later B5 H3.out y3_1; replace y3_2 := frozen_later B5 H3.out y3_2; replace H3 : Hid (b3 < w5.heap.size) := Nat.lt_of_lt_of_le H3.out B5.size; replace B := below_next B B5; clear B5) | (go_at_call 158; (with_reducible refine (withTree_ok an nn cn ab nb cb (some ⟨b, off, none⟩) nv cv vs _ (hv.below B) hvn sn s1 s2 sb' s3 s4 m hm r2).mono ?_); rintro e w6 ⟨va, vc, l1, rfl, V, hl1, B3⟩; have Q6 : Hid (b2 < l1) := Nat.lt_of_lt_of_le H2.out hl1; have QL : Hid (w5.heap.size ≤ l1) := hl1; have QC : Hid (w.heap.size ≤ l1) := Nat.le_trans B.size hl1; have QD : Hid (w5.heap.size ≤ w6.heap.size) := B3.size; replace F5 := F5.below B3; replace e0 := cell_later B3 e0; replace e1 := cell_later B3 e1; replace e2 := cell_later B3 e2; replace c0_0 := cell_later B3 c0_0; replace c0_1 := cell_later B3 c0_1; replace c0_2 := cell_later B3 c0_2; replace H0 : Hid (b0 < w6.heap.size) := Nat.lt_of_lt_of_le H0.out B3.size; replace c1_0 := cell_later B3 c1_0; replace c1_1 := cell_later B3 c1_1; replace c1_2 := cell_later B3 c1_2; replace c1_3 := cell_later B3 c1_3; replace H1 : Hid (b1 < w6.heap.size) := Nat.lt_of_lt_of_le H1.out B3.size; replace c2_0 := cell_later B3 c2_0; replace c2_1 := cell_later B3 c2_1; replace c2_2 := cell_later B3 c2_2; replace c2_3 := cell_later B3 c2_3; replace c2_4 := cell_later B3 c2_4; replace c2_5 := cell_later B3 c2_5; replace y2_0 := frozen_later B3 H2.out y2_0; replace y2_1 := frozen_later B3 H2.out y2_1; replace y2_2 := frozen_later B3 H2.out y2_2; replace y2_3 := frozen_later B3 H2.out y2_3; replace y2_4 := frozen_later B3 H2.out y2_4; replace y2_5 := frozen_later B3 H2.out y2_5; replace H2 : Hid (b2 < w6.heap.size) := Nat.lt_of_lt_of_le H2.out B3.size; replace c3_0 := cell_later B3 c3_0; replace c3_1 := cell_later B3 c3_1; replace c3_2 := cell_later B3 c3_2; replace y3_0 := frozen_later B3 H3.out y3_0; replace y3_1 := frozen_later B3 H3.out y3_1; replace y3_2 := frozen_later B3 H3.out y3_2; replace H3 : Hid (b3 < w6.heap.size) := Nat.lt_of_lt_of_le H3.out B3.size; replace B := below_next B B3; clear B3 hl1))
        go_wp2
        refine bodyPost_ret (v := .agg #[.int .i64 0, .int .i64 0, .int .i64 0, .slice sn s1 s2, .slice sb' s3 s4, .slice va nv vc]) (by simp [results, Try.results96, go_sem, c2_0, c2_1, c2_2, c2_3, c2_4, c2_5]) rfl ?_
        have KZ : Kept b2 (b2 + 1) w6 ((((((w6.setCell ⟨b2, 0, none⟩ (.int .i64 0)).setCell ⟨b2, 1, none⟩ (.int .i64 0)).setCell ⟨b2, 2, none⟩ (.int .i64 0)).setCell ⟨b2, 3, none⟩ (.slice sn s1 s2)).setCell ⟨b2, 4, none⟩ (.slice sb' s3 s4)).setCell ⟨b2, 5, none⟩ (.slice va nv vc)) := by refine Kept.setCell (Kept.setCell (Kept.setCell (Kept.setCell (Kept.setCell (Kept.setCell (Kept.refl _ _ _) ?_ ?_ _) ?_ ?_ _) ?_ ?_ _) ?_ ?_ _) ?_ ?_ _) ?_ ?_ _ <;> simp
        have q1 := KZ.size
        exact ⟨_, _, _, _, _, _, _, _, _, _, _, _, _, _, rfl, ⟨F5.kept KZ (Or.inr Q5.out), V.kept KZ (Or.inr Q6.out), Or.inl QL.out, QB.out, QC.out, Nat.le_trans QD.out q1, q1⟩, B.trans (KZ.below _ (Nat.le_trans O0.out (Nat.le_of_lt (Nat.lt_trans O1.out O2.out))) B.size)⟩
  · have HD2 : Hid ((if cd = 0 then ((0 : Int), g, setRootV vs m r2) else (cd, f, vs)) = d) := (if_neg (fun e => hb1 e.1)).symm.trans HD.out
    clear HD
    have hd0 : (bk == -1) = false := by simp [hb1]
    have hd1 : decide (bk = -1) = false := decide_eq_false hb1
    go_wp2_with fail
    go_quiet (fail)
    have D0 := below_drewN (Below.refl w1.heap.size w1) nq
    obtain ⟨w2, hw2⟩ : ∃ w2, w2 = w1.drewN nq := ⟨_, rfl⟩
    rw [← hw2] at D0
    rw [← hw2]
    clear hw2
    replace e0 := cell_later D0 e0
    replace e1 := cell_later D0 e1
    replace e2 := cell_later D0 e2
    replace c0_0 := cell_later D0 c0_0
    replace c0_1 := cell_later D0 c0_1
    replace c0_2 := cell_later D0 c0_2
    replace H0 : Hid (b0 < w2.heap.size) := Nat.lt_of_lt_of_le H0.out D0.size
    replace c1_0 := cell_later D0 c1_0
    replace c1_1 := cell_later D0 c1_1
    replace c1_2 := cell_later D0 c1_2
    replace c1_3 := cell_later D0 c1_3
    replace H1 : Hid (b1 < w2.heap.size) := Nat.lt_of_lt_of_le H1.out D0.size
    replace c2_0 := cell_later D0 c2_0
    replace c2_1 := cell_later D0 c2_1
    replace c2_2 := cell_later D0 c2_2
    replace c2_3 := cell_later D0 c2_3
    replace c2_4 := cell_later D0 c2_4
    replace c2_5 := cell_later D0 c2_5
    replace y2_0 := frozen_later D0 H2.out y2_0
    replace y2_1 := frozen_later D0 H2.out y2_1
    replace y2_2 := frozen_later D0 H2.out y2_2
    replace y2_3 := frozen_later D0 H2.out y2_3
    replace y2_4 := frozen_later D0 H2.out y2_4
    replace y2_5 := frozen_later D0 H2.out y2_5
    replace H2 : Hid (b2 < w2.heap.size) := Nat.lt_of_lt_of_le H2.out D0.size
    replace c3_0 := cell_later D0 c3_0
    replace c3_1 := cell_later D0 c3_1
    replace c3_2 := cell_later D0 c3_2
    replace y3_0 := frozen_later D0 H3.out y3_0
    replace y3_1 := frozen_later D0 H3.out y3_1
    replace y3_2 := frozen_later D0 H3.out y3_2
    replace H3 : Hid (b3 < w2.heap.size) := Nat.lt_of_lt_of_le H3.out D0.size
    replace B := below_next B D0
    clear D0
    by_cases hcd : cd = 0
    rotate_left 1
    · have ed : d = (cd, f, vs) := by rw [← HD2.out, if_neg hcd]
      subst ed
      go_wp2_with fail
      have D : Below w2.heap.size w2 w2.drew := (Below.refl _ _).drew
      replace e0 := cell_later D e0
      replace e1 := cell_later D e1
      replace e2 := cell_later D e2
      replace c0_0 := cell_later D c0_0
      replace c0_1 := cell_later D c0_1
      replace c0_2 := cell_later D c0_2
      replace H0 : Hid (b0 < w2.drew.heap.size) := Nat.lt_of_lt_of_le H0.out D.size
      replace c1_0 := cell_later D c1_0
      replace c1_1 := cell_later D c1_1
      replace c1_2 := cell_later D c1_2
      replace c1_3 := cell_later D c1_3
      replace H1 : Hid (b1 < w2.drew.heap.size) := Nat.lt_of_lt_of_le H1.out D.size
      replace c2_0 := cell_later D c2_0
      replace c2_1 := cell_later D c2_1
      replace c2_2 := cell_later D c2_2
      replace c2_3 := cell_later D c2_3
      replace c2_4 := cell_later D c2_4
      replace c2_5 := cell_later D c2_5
      replace y2_0 := frozen_later D H2.out y2_0
      replace y2_1 := frozen_later D H2.out y2_1
      replace y2_2 := frozen_later D H2.out y2_2
      replace y2_3 := frozen_later D H2.out y2_3
      replace y2_4 := frozen_later D H2.out y2_4
      replace y2_5 := frozen_later D H2.out y2_5
      replace H2 : Hid (b2 < w2.drew.heap.size) := Nat.lt_of_lt_of_le H2.out D.size
      replace c3_0 := cell_later D c3_0
      replace c3_1 := cell_later D c3_1
      replace c3_2 := cell_later D c3_2
      replace y3_0 := frozen_later D H3.out y3_0
      replace y3_1 := frozen_later D H3.out y3_1
      replace y3_2 := frozen_later D H3.out y3_2
      replace H3 : Hid (b3 < w2.drew.heap.size) := Nat.lt_of_lt_of_le H3.out D.size
      replace B := below_next B D
      clear D
      go_region_held3 (fun w' => w'.cell? ⟨b0, 0, none⟩ = some (.slice an nn cn) ∧ w'.cell? ⟨b0, 1, none⟩ = some (.slice ab nb cb) ∧ w'.cell? ⟨b0, 2, none⟩ = some (.slice (some ⟨b, off, none⟩) nv cv) ∧ w'.cell? ⟨b1, 2, none⟩ = some (.int .i64 (a : Int)) ∧ w'.cell? ⟨b1, 3, none⟩ = some (.int .i64 ox) ∧ w'.cell? ⟨b3, 2, none⟩ = some (.int .i64 rt)) (first | with_reducible exact ⟨c0_0, c0_1, c0_2, c1_2, c1_3, c3_2⟩ | with_reducible exact ⟨(six_other _ _ _ _ _ _ _ _ _ _ n02).trans c0_0, (six_other _ _ _ _ _ _ _ _ _ _ n02).trans c0_1, (six_other _ _ _ _ _ _ _ _ _ _ n02).trans c0_2, (six_other _ _ _ _ _ _ _ _ _ _ n12).trans c1_2, (six_other _ _ _ _ _ _ _ _ _ _ n12).trans c1_3, (six_other _ _ _ _ _ _ _ _ _ _ n32).trans c3_2⟩)
        (first | (go_at_call 159; (with_reducible refine (implSetT_is an nn cn ab nb cb K f _ (h.below B) hnn hnb HKK.out rt (a : Int) ox cd r2 g HCD.out HR2.out HG.out).mono ?_); rintro e w5 ⟨sn, s1, s2, sb', s3, s4, sK, rfl, F5, B5⟩; have Q5 : Hid (b2 < w2.drew.heap.size) := H2.out; have QB : Hid (w.heap.size ≤ w2.drew.heap.size) := B.size; replace e0 := cell_later B5 e0; replace e1 := cell_later B5 e1; replace e2 := cell_later B5 e2; replace c0_0 := cell_later B5 c0_0; replace c0_1 := cell_later B5 c0_1; replace c0_2 := cell_later B5 c0_2; replace H0 : Hid (b0 < w5.heap.size) := Nat.lt_of_lt_of_le H0.out B5.size; replace c1_0 := cell_later B5 c1_0; replace c1_1 := cell_later B5 c1_1; replace c1_2 := cell_later B5 c1_2; replace c1_3 := cell_later B5 c1_3; replace H1 : Hid (b1 < w5.heap.size) := Nat.lt_of_lt_of_le H1.out B5.size; replace c2_0 := cell_later B5 c2_0; replace c2_1 := cell_later B5 c2_1; replace c2_2 := cell_later B5 c2_2; replace c2_3 := cell_later B5 c2_3; replace c2_4 := cell_later B5 c2_4; replace c2_5 := cell_later B5 c2_5; replace y2_0 := frozen_later B5 H2.out y2_0; replace y2_1 := frozen_later B5 H2.out y2_1; replace y2_2 := frozen_later B5 H2.out y2_2; replace y2_3 := frozen_later B5 H2.out y2_3; replace y2_4 := frozen_later B5 H2.out y2_4; replace y2_5 := frozen_later B5 H2.out y2_5; replace H2 : Hid (b2 < w5.heap.size) := Nat.lt_of_lt_of_le H2.out B5.size; replace c3_0 := cell_later B5 c3_0; replace c3_1 := cell_later B5 c3_1; replace c3_2 := cell_later B5 c3_2; replace y3_0 := frozen_later B5 H3.out y3_0; replace y3_1 := frozen_later B5 H3.out y3_1; replace y3_2 := frozen_later B5 H3.out y3_2; replace H3 : Hid (b3 < w5.heap.size) := Nat.lt_of_lt_of_le H3.out B5.size; replace B := below_next B B5; clear B5) | (go_at_call 158; (with_reducible refine (withTree_no an nn cn ab nb cb (some ⟨b, off, none⟩) nv cv K f vs _ (h.below B) (hv.below B) hn hb hK hvn sn s1 s2 sb' s3 s4 m cd r2 hcd).mono ?_); rintro e w6 ⟨pa, pn, pc, pb, qn, qc, va, vn, vc, l1, u1, l2, u2, K', rfl, P, BB⟩; have Q1 : Hid (b2 < l1) := Nat.lt_of_lt_of_le H2.out P.lo1; have Q2 : Hid (b2 < l2) := Nat.lt_of_lt_of_le H2.out P.lo2; replace P := P.from (w := w) B.size; replace e0 := cell_later BB e0; replace e1 := cell_later BB e1; replace e2 := cell_later BB e2; replace c0_0 := cell_later BB c0_0; replace c0_1 := cell_later BB c0_1; replace c0_2 := cell_later BB c0_2; replace H0 : Hid (b0 < w6.heap.size) := Nat.lt_of_lt_of_le H0.out BB.size; replace c1_0 := cell_later BB c1_0; replace c1_1 := cell_later BB c1_1; replace c1_2 := cell_later BB c1_2; replace c1_3 := cell_later BB c1_3; replace H1 : Hid (b1 < w6.heap.size) := Nat.lt_of_lt_of_le H1.out BB.size; replace c2_0 := cell_later BB c2_0; replace c2_1 := cell_later BB c2_1; replace c2_2 := cell_later BB c2_2; replace c2_3 := cell_later BB c2_3; replace c2_4 := cell_later BB c2_4; replace c2_5 := cell_later BB c2_5; replace y2_0 := frozen_later BB H2.out y2_0; replace y2_1 := frozen_later BB H2.out y2_1; replace y2_2 := frozen_later BB H2.out y2_2; replace y2_3 := frozen_later BB H2.out y2_3; replace y2_4 := frozen_later BB H2.out y2_4; replace y2_5 := frozen_later BB H2.out y2_5; replace H2 : Hid (b2 < w6.heap.size) := Nat.lt_of_lt_of_le H2.out BB.size; replace c3_0 := cell_later BB c3_0; replace c3_1 := cell_later BB c3_1; replace c3_2 := cell_later BB c3_2; replace y3_0 := frozen_later BB H3.out y3_0; replace y3_1 := frozen_later BB H3.out y3_1; replace y3_2 := frozen_later BB H3.out y3_2; replace H3 : Hid (b3 < w6.heap.size) := Nat.lt_of_lt_of_le H3.out BB.size; replace B := below_next B BB; clear BB))
      go_wp2
      refine bodyPost_ret (v := .agg #[.int .i64 0, .int .i64 cd, .int .i64 0, .slice pa pn pc, .slice pb qn qc, .slice va vn vc]) (by simp [results, Try.results96, go_sem, c2_0, c2_1, c2_2, c2_3, c2_4, c2_5]) rfl ?_
      have KZ : Kept b2 (b2 + 1) w6 ((((((w6.setCell ⟨b2, 0, none⟩ (.int .i64 0)).setCell ⟨b2, 1, none⟩ (.int .i64 cd)).setCell ⟨b2, 2, none⟩ (.int .i64 0)).setCell ⟨b2, 3, none⟩ (.slice pa pn pc)).setCell ⟨b2, 4, none⟩ (.slice pb qn qc)).setCell ⟨b2, 5, none⟩ (.slice va vn vc)) := by refine Kept.setCell (Kept.setCell (Kept.setCell (Kept.setCell (Kept.setCell (Kept.setCell (Kept.refl _ _ _) ?_ ?_ _) ?_ ?_ _) ?_ ?_ _) ?_ ?_ _) ?_ ?_ _) ?_ ?_ _ <;> simp
      exact ⟨_, _, _, _, _, _, _, _, _, _, _, _, _, _, rfl, P.keep KZ (Or.inr Q1.out) (Or.inr Q2.out), B.trans (KZ.below _ (Nat.le_trans O0.out (Nat.le_of_lt (Nat.lt_trans O1.out O2.out))) B.size)⟩
    · subst hcd
      have ed : d = (0, g, setRootV vs m r2) := by rw [← HD2.out, if_pos rfl]
      subst ed
      go_wp2_with fail
      have D : Below w2.heap.size w2 w2.drew := (Below.refl _ _).drew
      replace e0 := cell_later D e0
      replace e1 := cell_later D e1
      replace e2 := cell_later D e2
      replace c0_0 := cell_later D c0_0
      replace c0_1 := cell_later D c0_1
      replace c0_2 := cell_later D c0_2
      replace H0 : Hid (b0 < w2.drew.heap.size) := Nat.lt_of_lt_of_le H0.out D.size
      replace c1_0 := cell_later D c1_0
      replace c1_1 := cell_later D c1_1
      replace c1_2 := cell_later D c1_2
      replace c1_3 := cell_later D c1_3
      replace H1 : Hid (b1 < w2.drew.heap.size) := Nat.lt_of_lt_of_le H1.out D.size
      replace c2_0 := cell_later D c2_0
      replace c2_1 := cell_later D c2_1
      replace c2_2 := cell_later D c2_2
      replace c2_3 := cell_later D c2_3
      replace c2_4 := cell_later D c2_4
      replace c2_5 := cell_later D c2_5
      replace y2_0 := frozen_later D H2.out y2_0
      replace y2_1 := frozen_later D H2.out y2_1
      replace y2_2 := frozen_later D H2.out y2_2
      replace y2_3 := frozen_later D H2.out y2_3
      replace y2_4 := frozen_later D H2.out y2_4
      replace y2_5 := frozen_later D H2.out y2_5
      replace H2 : Hid (b2 < w2.drew.heap.size) := Nat.lt_of_lt_of_le H2.out D.size
      replace c3_0 := cell_later D c3_0
      replace c3_1 := cell_later D c3_1
      replace c3_2 := cell_later D c3_2
      replace y3_0 := frozen_later D H3.out y3_0
      replace y3_1 := frozen_later D H3.out y3_1
      replace y3_2 := frozen_later D H3.out y3_2
      replace H3 : Hid (b3 < w2.drew.heap.size) := Nat.lt_of_lt_of_le H3.out D.size
      replace B := below_next B D
      clear D
      go_region_held3 (fun w' => w'.cell? ⟨b0, 0, none⟩ = some (.slice an nn cn) ∧ w'.cell? ⟨b0, 1, none⟩ = some (.slice ab nb cb) ∧ w'.cell? ⟨b0, 2, none⟩ = some (.slice (some ⟨b, off, none⟩) nv cv) ∧ w'.cell? ⟨b1, 2, none⟩ = some (.int .i64 (a : Int)) ∧ w'.cell? ⟨b1, 3, none⟩ = some (.int .i64 ox) ∧ w'.cell? ⟨b3, 2, none⟩ = some (.int .i64 rt)) (first | with_reducible exact ⟨c0_0, c0_1, c0_2, c1_2, c1_3, c3_2⟩ | with_reducible exact ⟨(six_other _ _ _ _ _ _ _ _ _ _ n02).trans c0_0, (six_other _ _ _ _ _ _ _ _ _ _ n02).trans c0_1, (six_other _ _ _ _ _ _ _ _ _ _ n02).trans c0_2, (six_other _ _ _ _ _ _ _ _ _ _ n12).trans c1_2, (six_other _ _ _ _ _ _ _ _ _ _ n12).trans c1_3, (six_other _ _ _ _ _ _ _ _ _ _ n32).trans c3_2⟩)
        (first | (go_at_call 159; (with_reducible refine (implSetT_is an nn cn ab nb cb K f _ (h.below B) hnn hnb HKK.out rt (a : Int) ox 0 r2 g HCD.out HR2.out HG.out).mono ?_); rintro e w5 ⟨sn, s1, s2, sb', s3, s4, sK, rfl, F5, B5⟩; have Q5 : Hid (b2 < w2.drew.heap.size) := H2.out; have QB : Hid (w.heap.size ≤ w2.drew.heap.size) := B.size; replace e0 := cell_later B5 e0; replace e1 := cell_later B5 e1; replace e2 := cell_later B5 e2; replace c0_0 := cell_later B5 c0_0; replace c0_1 := cell_later B5 c0_1; replace c0_2 := cell_later B5 c0_2; replace H0 : Hid (b0 < w5.heap.size) := Nat.lt_of_lt_of_le H0.out B5.size; replace c1_0 := cell_later B5 c1_0; replace c1_1 := cell_later B5 c1_1; replace c1_2 := cell_later B5 c1_2; replace c1_3 := cell_later B5 c1_3; replace H1 : Hid (b1 < w5.heap.size) := Nat.lt_of_lt_of_le H1.out B5.size; replace c2_0 := cell_later B5 c2_0; replace c2_1 := cell_later B5 c2_1; replace c2_2 := cell_later B5 c2_2; replace c2_3 := cell_later B5 c2_3; replace c2_4 := cell_later B5 c2_4; replace c2_5 := cell_later B5 c2_5; replace y2_0 := frozen_later B5 H2.out y2_0; replace y2_1 := frozen_later B5 H2.out y2_1; replace y2_2 := frozen_later B5 H2.out y2_2; replace y2_3 := frozen_later B5 H2.out y2_3; replace y2_4 := frozen_later B5 H2.out y2_4; replace y2_5 := frozen_later B5 H2.out y2_5; replace H2 : Hid (b2 < w5.heap.size) := Nat.lt_of_lt_of_le H2.out B5.size; replace c3_0 := cell_later B5 c3_0; replace c3_1 := cell_later B5 c3_1; replace c3_2 := cell_later B5 c3_2; replace y3_0 := frozen_later B5 H3.out y3_0; replace y3_1 := frozen_later B5 H3.out y3_1; replace y3_2 := frozen_later B5 H3.out y3_2; replace H3 : Hid (b3 < w5.heap.size) := Nat.lt_of_lt_of_le H3.out B5.size; replace B := below_next B B5; clear B5) | (go_at_call 158; (with_reducible refine (withTree_ok an nn cn ab nb cb (some ⟨b, off, none⟩) nv cv vs _ (hv.below B) hvn sn s1 s2 sb' s3 s4 m hm r2).mono ?_); rintro e w6 ⟨va, vc, l1, rfl, V, hl1, B3⟩; have Q6 : Hid (b2 < l1) := Nat.lt_of_lt_of_le H2.out hl1; have QL : Hid (w5.heap.size ≤ l1) := hl1; have QC : Hid (w.heap.size ≤ l1) := Nat.le_trans B.size hl1; have QD : Hid (w5.heap.size ≤ w6.heap.size) := B3.size; replace F5 := F5.below B3; replace e0 := cell_later B3 e0; replace e1 := cell_later B3 e1; replace e2 := cell_later B3 e2; replace c0_0 := cell_later B3 c0_0; replace c0_1 := cell_later B3 c0_1; replace c0_2 := cell_later B3 c0_2; replace H0 : Hid (b0 < w6.heap.size) := Nat.lt_of_lt_of_le H0.out B3.size; replace c1_0 := cell_later B3 c1_0; replace c1_1 := cell_later B3 c1_1; replace c1_2 := cell_later B3 c1_2; replace c1_3 := cell_later B3 c1_3; replace H1 : Hid (b1 < w6.heap.size) := Nat.lt_of_lt_of_le H1.out B3.size; replace c2_0 := cell_later B3 c2_0; replace c2_1 := cell_later B3 c2_1; replace c2_2 := cell_later B3 c2_2; replace c2_3 := cell_later B3 c2_3; replace c2_4 := cell_later B3 c2_4; replace c2_5 := cell_later B3 c2_5; replace y2_0 := frozen_later B3 H2.out y2_0; replace y2_1 := frozen_later B3 H2.out y2_1; replace y2_2 := frozen_later B3 H2.out y2_2; replace y2_3 := frozen_later B3 H2.out y2_3; replace y2_4 := frozen_later B3 H2.out y2_4; replace y2_5 := frozen_later B3 H2.out y2_5; replace H2 : Hid (b2 < w6.heap.size) := Nat.lt_of_lt_of_le H2.out B3.size; replace c3_0 := cell_later B3 c3_0; replace c3_1 := cell_later B3 c3_1; replace c3_2 := cell_later B3 c3_2; replace y3_0 := frozen_later B3 H3.out y3_0; replace y3_1 := frozen_later B3 H3.out y3_1; replace y3_2 := frozen_later B3 H3.out y3_2; replace H3 : Hid (b3 < w6.heap.size) := Nat.lt_of_lt_of_le H3.out B3.size; replace B := below_next B B3; clear B3 hl1))
      go_wp2
      refine bodyPost_ret (v := .agg #[.int .i64 0, .int .i64 0, .int .i64 0, .slice sn s1 s2, .slice sb' s3 s4, .slice va nv vc]) (by simp [results, Try.results96, go_sem, c2_0, c2_1, c2_2, c2_3, c2_4, c2_5]) rfl ?_
      have KZ : Kept b2 (b2 + 1) w6 ((((((w6.setCell ⟨b2, 0, none⟩ (.int .i64 0)).setCell ⟨b2, 1, none⟩ (.int .i64 0)).setCell ⟨b2, 2, none⟩ (.int .i64 0)).setCell ⟨b2, 3, none⟩ (.slice sn s1 s2)).setCell ⟨b2, 4, none⟩ (.slice sb' s3 s4)).setCell ⟨b2, 5, none⟩ (.slice va nv vc)) := by refine Kept.setCell (Kept.setCell (Kept.setCell (Kept.setCell (Kept.setCell (Kept.setCell (Kept.refl _ _ _) ?_ ?_ _) ?_ ?_ _) ?_ ?_ _) ?_ ?_ _) ?_ ?_ _) ?_ ?_ _ <;> simp
      have q1 := KZ.size
      exact ⟨_, _, _, _, _, _, _, _, _, _, _, _, _, _, rfl, ⟨F5.kept KZ (Or.inr Q5.out), V.kept KZ (Or.inr Q6.out), Or.inl QL.out, QB.out, QC.out, Nat.le_trans QD.out q1, q1⟩, B.trans (KZ.below _ (Nat.le_trans O0.out (Nat.le_of_lt (Nat.lt_trans O1.out O2.out))) B.size)⟩

end Go.Proofs.Ytikjndmgljkhhaa

/- Chapter 5: a snapshot, by the program. -/
namespace Go.Proofs.Ytikjndmgljkhhaa
open Go.RowKit

set_option maxRecDepth 20000 in
set_option maxHeartbeats 2000000 in
theorem snapVol_is {o o2 : Bool} {l u l2 u2 : Nat} (an : Option Addr) (nn cn : Nat) (ab : Option Addr) (nb cb : Nat) (av : Option Addr) (nv cv : Nat) (K : Nat → KS) (f : Fo) (vs : List Vo) (w : World) (h : FoAt w o l u an nn cn ab nb cb K f) (hv : RowAt w o2 l2 u2 3 av nv cv (trips vs)) (hn : nn ≤ 1048576) (hb : nb ≤ 1048576) (hK : ∀ i, i < nn → (K i).2.1 ≤ 1048576) (hvn : nv ≤ 1048576) (m : Nat) (hm : m < nv) (ok ov oa ox : Int) (d : Int × Fo × List Vo) (hd : snapR f vs m ox = d) :
    Calls Try.prog 99 #[.agg #[.slice an nn cn, .slice ab nb cb, .slice av nv cv], .int .i64 (m : Int), .agg #[.int .i64 ok, .int .i64 ov, .int .i64 oa, .int .i64 ox]] w fun e w' => PoRes w w' e 0 d.1 0 d.2.1 d.2.2 := by
  have hnn : nn ≤ 2097152 := by omega
  have hnb : nb ≤ 2097152 := by omega
  have HKK : Hid (∀ i, i < nn → (K i).2.1 ≤ 2097152) := fun i hi => Nat.le_trans (hK i hi) (by omega)
  have hvl := hv.nTrips
  have hlm : (m : Int) < (nv : Int) := by omega
  obtain ⟨b, off, rfl, _, _, hbs, e0, e1, e2, _⟩ := hv.trip hm
  have HBS : Hid _ := hbs
  clear hbs
  obtain ⟨⟨id, qu, rt⟩, hvo⟩ : ∃ v, vs.getD m vo0 = v := ⟨_, rfl⟩
  rw [hvo] at e0 e1 e2
  simp only at e0 e1 e2
  unfold snapR at hd
  rw [hvo] at hd
  simp only at hd
  clear hvo
  obtain ⟨nr, hnr⟩ : ∃ nr, newVR vs ox = nr := ⟨_, rfl⟩
  obtain ⟨cd, hcd⟩ : ∃ cd, shareTCode f rt = cd := ⟨_, rfl⟩
  obtain ⟨r2, hr2⟩ : ∃ r2, atIf (shareTCode f rt) rt = r2 := ⟨_, rfl⟩
  obtain ⟨g, hg⟩ : ∃ g, shareFo f rt = g := ⟨_, rfl⟩
  have HR0 : Hid (cd = 0 → r2 = rt) := fun e => by rw [← hr2, hcd, e]; rfl
  rw [hnr, hcd, hg] at hd
  have HN : Hid _ := hnr
  have HD : Hid _ := hd
  have HCD : Hid _ := hcd
  have HR2 : Hid _ := hr2
  have HG : Hid _ := hg
  clear hd hnr hcd hr2 hg
  go_enter Try.func99, Try.ntmps99
  go_wp2_with (first | ((with_reducible refine box_new 31 #[.slice an nn cn, .slice ab nb cb, .slice (some ⟨b, off, none⟩) nv cv] rfl ?_); intro b0 W0 N0; have O0 : Hid (w.heap.size ≤ b0) := N0.ge; have B := N0.below; replace e0 := cell_later N0.below e0; replace e1 := cell_later N0.below e1; replace e2 := cell_later N0.below e2; have H0 : Hid (b0 < W0.heap.size) := N0.lt; have c0_0 : W0.cell? ⟨b0, 0, none⟩ = some (.slice an nn cn) := N0.cell 0 _ rfl; have c0_1 : W0.cell? ⟨b0, 1, none⟩ = some (.slice ab nb cb) := N0.cell 1 _ rfl; have c0_2 : W0.cell? ⟨b0, 2, none⟩ = some (.slice (some ⟨b, off, none⟩) nv cv) := N0.cell 2 _ rfl; clear N0) | ((with_reducible refine box_new 37 #[.int .i64 ok, .int .i64 ov, .int .i64 oa, .int .i64 ox] rfl ?_); intro b1 W1 N1; have O1 : Hid (b0 < b1) := Nat.lt_of_lt_of_le H0.out N1.ge; replace e0 := cell_later N1.below e0; replace e1 := cell_later N1.below e1; replace e2 := cell_later N1.below e2; replace c0_0 := cell_later N1.below c0_0; replace c0_1 := cell_later N1.below c0_1; replace c0_2 := cell_later N1.below c0_2; replace H0 : Hid (b0 < W1.heap.size) := Nat.lt_of_lt_of_le H0.out N1.below.size; replace B := below_next B N1.below; have H1 : Hid (b1 < W1.heap.size) := N1.lt; have c1_0 : W1.cell? ⟨b1, 0, none⟩ = some (.int .i64 ok) := N1.cell 0 _ rfl; have c1_1 : W1.cell? ⟨b1, 1, none⟩ = some (.int .i64 ov) := N1.cell 1 _ rfl; have c1_2 : W1.cell? ⟨b1, 2, none⟩ = some (.int .i64 oa) := N1.cell 2 _ rfl; have c1_3 : W1.cell? ⟨b1, 3, none⟩ = some (.int .i64 ox) := N1.cell 3 _ rfl; clear N1) | ((with_reducible refine alloc_new 33 #[.int .i64 0, .int .i64 0, .int .i64 0, .slice none 0 0, .slice none 0 0, .slice none 0 0] (fun _ => by kernel_rfl) ?_); intro b2 W2 N2; have O2 : Hid (b1 < b2) := Nat.lt_of_lt_of_le H1.out N2.ge; replace e0 := cell_later N2.below e0; replace e1 := cell_later N2.below e1; replace e2 := cell_later N2.below e2; replace c0_0 := cell_later N2.below c0_0; replace c0_1 := cell_later N2.below c0_1; replace c0_2 := cell_later N2.below c0_2; replace H0 : Hid (b0 < W2.heap.size) := Nat.lt_of_lt_of_le H0.out N2.below.size; replace c1_0 := cell_later N2.below c1_0; replace c1_1 := cell_later N2.below c1_1; replace c1_2 := cell_later N2.below c1_2; replace c1_3 := cell_later N2.below c1_3; replace H1 : Hid (b1 < W2.heap.size) := Nat.lt_of_lt_of_le H1.out N2.below.size; replace B := below_next B N2.below; have H2 : Hid (b2 < W2.heap.size) := N2.lt; have c2_0 : W2.cell? ⟨b2, 0, none⟩ = some (.int .i64 0) := N2.cell 0 _ rfl; have c2_1 : W2.cell? ⟨b2, 1, none⟩ = some (.int .i64 0) := N2.cell 1 _ rfl; have c2_2 : W2.cell? ⟨b2, 2, none⟩ = some (.int .i64 0) := N2.cell 2 _ rfl; have c2_3 : W2.cell? ⟨b2, 3, none⟩ = some (.slice none 0 0) := N2.cell 3 _ rfl; have c2_4 : W2.cell? ⟨b2, 4, none⟩ = some (.slice none 0 0) := N2.cell 4 _ rfl; have c2_5 : W2.cell? ⟨b2, 5, none⟩ = some (.slice none 0 0) := N2.cell 5 _ rfl; have y2_0 : W2.frozen? ⟨b2, 0, none⟩ = false := N2.froz 0; have y2_1 : W2.frozen? ⟨b2, 1, none⟩ = false := N2.froz 1; have y2_2 : W2.frozen? ⟨b2, 2, none⟩ = false := N2.froz 2; have y2_3 : W2.frozen? ⟨b2, 3, none⟩ = false := N2.froz 3; have y2_4 : W2.frozen? ⟨b2, 4, none⟩ = false := N2.froz 4; have y2_5 : W2.frozen? ⟨b2, 5, none⟩ = false := N2.froz 5; clear N2) | fail)
  refine (newVR_is (some ⟨b, off, none⟩) nv cv vs _ (hv.below B) (by omega) ox nr HN.out).mono ?_
  rintro e w1 ⟨rfl, BB⟩
  replace e0 := cell_later BB e0
  replace e1 := cell_later BB e1
  replace e2 := cell_later BB e2
  replace c0_0 := cell_later BB c0_0
  replace c0_1 := cell_later BB c0_1
  replace c0_2 := cell_later BB c0_2
  replace H0 : Hid (b0 < w1.heap.size) := Nat.lt_of_lt_of_le H0.out BB.size
  replace c1_0 := cell_later BB c1_0
  replace c1_1 := cell_later BB c1_1
  replace c1_2 := cell_later BB c1_2
  replace c1_3 := cell_later BB c1_3
  replace H1 : Hid (b1 < w1.heap.size) := Nat.lt_of_lt_of_le H1.out BB.size
  replace c2_0 := cell_later BB c2_0
  replace c2_1 := cell_later BB c2_1
  replace c2_2 := cell_later BB c2_2
  replace c2_3 := cell_later BB c2_3
  replace c2_4 := cell_later BB c2_4
  replace c2_5 := cell_later BB c2_5
  replace y2_0 := frozen_later BB H2.out y2_0
  replace y2_1 := frozen_later BB H2.out y2_1
  replace y2_2 := frozen_later BB H2.out y2_2
  replace y2_3 := frozen_later BB H2.out y2_3
  replace y2_4 := frozen_later BB H2.out y2_4
  replace y2_5 := frozen_later BB H2.out y2_5
  replace H2 : Hid (b2 < w1.heap.size) := Nat.lt_of_lt_of_le H2.out BB.size
  replace B := below_next B BB
  clear BB
  by_cases h0 : nr = 0
  · subst h0
    have HD1 : Hid ((if cd = 0 then ((0 : Int), g, putV vs (ox, qu, rt)) else (cd, f, vs)) = d) := (if_pos rfl).symm.trans HD.out
    clear HD
    go_wp2_with (first | ((with_reducible refine alloc_new 92 #[.int .i64 0, .int .i64 0, .int .i64 0] (fun _ => by kernel_rfl) ?_); intro b3 W3 N3; have O3 : Hid (b2 < b3) := Nat.lt_of_lt_of_le H2.out N3.ge; replace e0 := cell_later N3.below e0; replace e1 := cell_later N3.below e1; replace e2 := cell_later N3.below e2; replace c0_0 := cell_later N3.below c0_0; replace c0_1 := cell_later N3.below c0_1; replace c0_2 := cell_later N3.below c0_2; replace H0 : Hid (b0 < W3.heap.size) := Nat.lt_of_lt_of_le H0.out N3.below.size; replace c1_0 := cell_later N3.below c1_0; replace c1_1 := cell_later N3.below c1_1; replace c1_2 := cell_later N3.below c1_2; replace c1_3 := cell_later N3.below c1_3; replace H1 : Hid (b1 < W3.heap.size) := Nat.lt_of_lt_of_le H1.out N3.below.size; replace c2_0 := cell_later N3.below c2_0; replace c2_1 := cell_later N3.below c2_1; replace c2_2 := cell_later N3.below c2_2; replace c2_3 := cell_later N3.below c2_3; replace c2_4 := cell_later N3.below c2_4; replace c2_5 := cell_later N3.below c2_5; replace y2_0 := frozen_later N3.below H2.out y2_0; replace y2_1 := frozen_later N3.below H2.out y2_1; replace y2_2 := frozen_later N3.below H2.out y2_2; replace y2_3 := frozen_later N3.below H2.out y2_3; replace y2_4 := frozen_later N3.below H2.out y2_4; replace y2_5 := frozen_later N3.below H2.out y2_5; replace H2 : Hid (b2 < W3.heap.size) := Nat.lt_of_lt_of_le H2.out N3.below.size; replace B := below_next B N3.below; have H3 : Hid (b3 < W3.heap.size) := N3.lt; have c3_0 : W3.cell? ⟨b3, 0, none⟩ = some (.int .i64 0) := N3.cell 0 _ rfl; have c3_1 : W3.cell? ⟨b3, 1, none⟩ = some (.int .i64 0) := N3.cell 1 _ rfl; have c3_2 : W3.cell? ⟨b3, 2, none⟩ = some (.int .i64 0) := N3.cell 2 _ rfl; have y3_0 : W3.frozen? ⟨b3, 0, none⟩ = false := N3.froz 0; have y3_1 : W3.frozen? ⟨b3, 1, none⟩ = false := N3.froz 1; have y3_2 : W3.frozen? ⟨b3, 2, none⟩ = false := N3.froz 2; clear N3) | ((with_reducible refine store_box 92 b3 [.int .i64 id, .int .i64 qu, .int .i64 rt] (by simp) (there3 c3_0 c3_1 c3_2 y3_0 y3_1 y3_2) (by kernel_rfl) (by simp [Value.oneCell']) rfl rfl ?_); intro W4 S3; replace e0 := S3.at e0 (by have q9 := HBS.out; have q0 := O0.out; have q1 := O1.out; have q2 := O2.out; have q3 := O3.out; omega); replace e1 := S3.at e1 (by have q9 := HBS.out; have q0 := O0.out; have q1 := O1.out; have q2 := O2.out; have q3 := O3.out; omega); replace e2 := S3.at e2 (by have q9 := HBS.out; have q0 := O0.out; have q1 := O1.out; have q2 := O2.out; have q3 := O3.out; omega); replace c0_0 := S3.at c0_0 (by have q1 := O1.out; have q2 := O2.out; have q3 := O3.out; omega); replace c0_1 := S3.at c0_1 (by have q1 := O1.out; have q2 := O2.out; have q3 := O3.out; omega); replace c0_2 := S3.at c0_2 (by have q1 := O1.out; have q2 := O2.out; have q3 := O3.out; omega); replace H0 : Hid (b0 < W4.heap.size) := Nat.lt_of_lt_of_le H0.out S3.kept.size; replace c1_0 := S3.at c1_0 (by have q2 := O2.out; have q3 := O3.out; omega); replace c1_1 := S3.at c1_1 (by have q2 := O2.out; have q3 := O3.out; omega); replace c1_2 := S3.at c1_2 (by have q2 := O2.out; have q3 := O3.out; omega); replace c1_3 := S3.at c1_3 (by have q2 := O2.out; have q3 := O3.out; omega); replace H1 : Hid (b1 < W4.heap.size) := Nat.lt_of_lt_of_le H1.out S3.kept.size; replace c2_0 := S3.at c2_0 (by have q3 := O3.out; omega); replace c2_1 := S3.at c2_1 (by have q3 := O3.out; omega); replace c2_2 := S3.at c2_2 (by have q3 := O3.out; omega); replace c2_3 := S3.at c2_3 (by have q3 := O3.out; omega); replace c2_4 := S3.at c2_4 (by have q3 := O3.out; omega); replace c2_5 := S3.at c2_5 (by have q3 := O3.out; omega); replace y2_0 := S3.fr y2_0; replace y2_1 := S3.fr y2_1; replace y2_2 := S3.fr y2_2; replace y2_3 := S3.fr y2_3; replace y2_4 := S3.fr y2_4; replace y2_5 := S3.fr y2_5; replace H2 : Hid (b2 < W4.heap.size) := Nat.lt_of_lt_of_le H2.out S3.kept.size; replace c3_0 : W4.cell? ⟨b3, 0, none⟩ = some (.int .i64 id) := S3.cell 0 _ rfl; replace c3_1 : W4.cell? ⟨b3, 1, none⟩ = some (.int .i64 qu) := S3.cell 1 _ rfl; replace c3_2 : W4.cell? ⟨b3, 2, none⟩ = some (.int .i64 rt) := S3.cell 2 _ rfl; replace y3_0 := S3.fr y3_0; replace y3_1 := S3.fr y3_1; replace y3_2 := S3.fr y3_2; replace H3 : Hid (b3 < W4.heap.size) := Nat.lt_of_lt_of_le H3.out S3.kept.size; replace B := B.trans (S3.kept.below _ (Nat.le_trans O0.out (by have q1 := O1.out; have q2 := O2.out; have q3 := O3.out; omega)) B.size); clear S3) | fail)
    refine (implShareT_is an nn cn ab nb cb K f _ (h.below B) hnn hnb HKK.out rt cd r2 g HCD.out HR2.out HG.out).mono ?_
    rintro e w2 ⟨sn, s1, s2, sb', s3, s4, sK, rfl, F5, BB⟩
    have Q5 : Hid (b2 < W4.heap.size) := H2.out
    have QB : Hid (w.heap.size ≤ W4.heap.size) := B.size
    replace e0 := cell_later BB e0
    replace e1 := cell_later BB e1
    replace e2 := cell_later BB e2
    replace c0_0 := cell_later BB c0_0
    replace c0_1 := cell_later BB c0_1
    replace c0_2 := cell_later BB c0_2
    replace H0 : Hid (b0 < w2.heap.size) := Nat.lt_of_lt_of_le H0.out BB.size
    replace c1_0 := cell_later BB c1_0
    replace c1_1 := cell_later BB c1_1
    replace c1_2 := cell_later BB c1_2
    replace c1_3 := cell_later BB c1_3
    replace H1 : Hid (b1 < w2.heap.size) := Nat.lt_of_lt_of_le H1.out BB.size
    replace c2_0 := cell_later BB c2_0
    replace c2_1 := cell_later BB c2_1
    replace c2_2 := cell_later BB c2_2
    replace c2_3 := cell_later BB c2_3
    replace c2_4 := cell_later BB c2_4
    replace c2_5 := cell_later BB c2_5
    replace y2_0 := frozen_later BB H2.out y2_0
    replace y2_1 := frozen_later BB H2.out y2_1
    replace y2_2 := frozen_later BB H2.out y2_2
    replace y2_3 := frozen_later BB H2.out y2_3
    replace y2_4 := frozen_later BB H2.out y2_4
    replace y2_5 := frozen_later BB H2.out y2_5
    replace H2 : Hid (b2 < w2.heap.size) := Nat.lt_of_lt_of_le H2.out BB.size
    replace c3_0 := cell_later BB c3_0
    replace c3_1 := cell_later BB c3_1
    replace c3_2 := cell_later BB c3_2
    replace y3_0 := frozen_later BB H3.out y3_0
    replace y3_1 := frozen_later BB H3.out y3_1
    replace y3_2 := frozen_later BB H3.out y3_2
    replace H3 : Hid (b3 < w2.heap.size) := Nat.lt_of_lt_of_le H3.out BB.size
    replace B := below_next B BB
    clear BB
    have QU : Hid (w2.heap.size ≤ w2.heap.size) := Nat.le_refl _
    by_cases hcd : cd = 0
    · subst hcd
      have ed : d = (0, g, putV vs (ox, qu, rt)) := HD1.out.symm.trans (if_pos rfl)
      subst ed
      clear HD1
      obtain rfl := HR0.out rfl
      go_wp2_with (first | ((with_reducible refine alloc_new 88 #[.int .i64 0, .int .i64 0, .slice none 0 0, .slice none 0 0] (fun _ => by kernel_rfl) ?_); intro b4 W4 N4; have O4 : Hid (b3 < b4) := Nat.lt_of_lt_of_le H3.out N4.ge; replace e0 := cell_later N4.below e0; replace e1 := cell_later N4.below e1; replace e2 := cell_later N4.below e2; replace c0_0 := cell_later N4.below c0_0; replace c0_1 := cell_later N4.below c0_1; replace c0_2 := cell_later N4.below c0_2; replace H0 : Hid (b0 < W4.heap.size) := Nat.lt_of_lt_of_le H0.out N4.below.size; replace c1_0 := cell_later N4.below c1_0; replace c1_1 := cell_later N4.below c1_1; replace c1_2 := cell_later N4.below c1_2; replace c1_3 := cell_later N4.below c1_3; replace H1 : Hid (b1 < W4.heap.size) := Nat.lt_of_lt_of_le H1.out N4.below.size; replace c2_0 := cell_later N4.below c2_0; replace c2_1 := cell_later N4.below c2_1; replace c2_2 := cell_later N4.below c2_2; replace c2_3 := cell_later N4.below c2_3; replace c2_4 := cell_later N4.below c2_4; replace c2_5 := cell_later N4.below c2_5; replace y2_0 := frozen_later N4.below H2.out y2_0; replace y2_1 := frozen_later N4.below H2.out y2_1; replace y2_2 := frozen_later N4.below H2.out y2_2; replace y2_3 := frozen_later N4.below H2.out y2_3; replace y2_4 := frozen_later N4.below H2.out y2_4; replace y2_5 := frozen_later N4.below H2.out y2_5; replace H2 : Hid (b2 < W4.heap.size) := Nat.lt_of_lt_of_le H2.out N4.below.size; replace c3_0 := cell_later N4.below c3_0; replace c3_1 := cell_later N4.below c3_1; replace c3_2 := cell_later N4.below c3_2; replace y3_0 := frozen_later N4.below H3.out y3_0; replace y3_1 := frozen_later N4.below H3.out y3_1; replace y3_2 := frozen_later N4.below H3.out y3_2; replace H3 : Hid (b3 < W4.heap.size) := Nat.lt_of_lt_of_le H3.out N4.below.size; replace B := below_next B N4.below; have F6 := F5.below N4.below; have QN : Hid (w2.heap.size ≤ b4) := N4.ge; have H4 : Hid (b4 < W4.heap.size) := N4.lt; have c4_0 : W4.cell? ⟨b4, 0, none⟩ = some (.int .i64 0) := N4.cell 0 _ rfl; have c4_1 : W4.cell? ⟨b4, 1, none⟩ = some (.int .i64 0) := N4.cell 1 _ rfl; have c4_2 : W4.cell? ⟨b4, 2, none⟩ = some (.slice none 0 0) := N4.cell 2 _ rfl; have c4_3 : W4.cell? ⟨b4, 3, none⟩ = some (.slice none 0 0) := N4.cell 3 _ rfl; have y4_0 : W4.frozen? ⟨b4, 0, none⟩ = false := N4.froz 0; have y4_1 : W4.frozen? ⟨b4, 1, none⟩ = false := N4.froz 1; have y4_2 : W4.frozen? ⟨b4, 2, none⟩ = false := N4.froz 2; have y4_3 : W4.frozen? ⟨b4, 3, none⟩ = false := N4.froz 3; clear N4) | ((with_reducible refine store_box 88 b4 [.int .i64 0, .int .i64 r2, .slice sn s1 s2, .slice sb' s3 s4] (by simp) (there4 c4_0 c4_1 c4_2 c4_3 y4_0 y4_1 y4_2 y4_3) (by kernel_rfl) (by simp [Value.oneCell']) rfl rfl ?_); intro W6 S4; replace e0 := S4.at e0 (by have q9 := HBS.out; have q0 := O0.out; have q1 := O1.out; have q2 := O2.out; have q3 := O3.out; have q4 := O4.out; omega); replace e1 := S4.at e1 (by have q9 := HBS.out; have q0 := O0.out; have q1 := O1.out; have q2 := O2.out; have q3 := O3.out; have q4 := O4.out; omega); replace e2 := S4.at e2 (by have q9 := HBS.out; have q0 := O0.out; have q1 := O1.out; have q2 := O2.out; have q3 := O3.out; have q4 := O4.out; omega); replace c0_0 := S4.at c0_0 (by have q1 := O1.out; have q2 := O2.out; have q3 := O3.out; have q4 := O4.out; omega); replace c0_1 := S4.at c0_1 (by have q1 := O1.out; have q2 := O2.out; have q3 := O3.out; have q4 := O4.out; omega); replace c0_2 := S4.at c0_2 (by have q1 := O1.out; have q2 := O2.out; have q3 := O3.out; have q4 := O4.out; omega); replace H0 : Hid (b0 < W6.heap.size) := Nat.lt_of_lt_of_le H0.out S4.kept.size; replace c1_0 := S4.at c1_0 (by have q2 := O2.out; have q3 := O3.out; have q4 := O4.out; omega); replace c1_1 := S4.at c1_1 (by have q2 := O2.out; have q3 := O3.out; have q4 := O4.out; omega); replace c1_2 := S4.at c1_2 (by have q2 := O2.out; have q3 := O3.out; have q4 := O4.out; omega); replace c1_3 := S4.at c1_3 (by have q2 := O2.out; have q3 := O3.out; have q4 := O4.out; omega); replace H1 : Hid (b1 < W6.heap.size) := Nat.lt_of_lt_of_le H1.out S4.kept.size; replace c2_0 := S4.at c2_0 (by have q3 := O3.out; have q4 := O4.out; omega); replace c2_1 := S4.at c2_1 (by have q3 := O3.out; have q4 := O4.out; omega); replace c2_2 := S4.at c2_2 (by have q3 := O3.out; have q4 := O4.out; omega); replace c2_3 := S4.at c2_3 (by have q3 := O3.out; have q4 := O4.out; omega); replace c2_4 := S4.at c2_4 (by have q3 := O3.out; have q4 := O4.out; omega); replace c2_5 := S4.at c2_5 (by have q3 := O3.out; have q4 := O4.out; omega); replace y2_0 := S4.fr y2_0; replace y2_1 := S4.fr y2_1; replace y2_2 := S4.fr y2_2; replace y2_3 := S4.fr y2_3; replace y2_4 := S4.fr y2_4; replace y2_5 := S4.fr y2_5; replace H2 : Hid (b2 < W6.heap.size) := Nat.lt_of_lt_of_le H2.out S4.kept.size; replace c3_0 := S4.at c3_0 (by have q4 := O4.out; omega); replace c3_1 := S4.at c3_1 (by have q4 := O4.out; omega); replace c3_2 := S4.at c3_2 (by have q4 := O4.out; omega); replace y3_0 := S4.fr y3_0; replace y3_1 := S4.fr y3_1; replace y3_2 := S4.fr y3_2; replace H3 : Hid (b3 < W6.heap.size) := Nat.lt_of_lt_of_le H3.out S4.kept.size; replace c4_0 : W6.cell? ⟨b4, 0, none⟩ = some (.int .i64 0) := S4.cell 0 _ rfl; replace c4_1 : W6.cell? ⟨b4, 1, none⟩ = some (.int .i64 r2) := S4.cell 1 _ rfl; replace c4_2 : W6.cell? ⟨b4, 2, none⟩ = some (.slice sn s1 s2) := S4.cell 2 _ rfl; replace c4_3 : W6.cell? ⟨b4, 3, none⟩ = some (.slice sb' s3 s4) := S4.cell 3 _ rfl; replace y4_0 := S4.fr y4_0; replace y4_1 := S4.fr y4_1; replace y4_2 := S4.fr y4_2; replace y4_3 := S4.fr y4_3; replace H4 : Hid (b4 < W6.heap.size) := Nat.lt_of_lt_of_le H4.out S4.kept.size; have F7 := F6.kept S4.kept (Or.inl QN.out); replace B := B.trans (S4.kept.below _ (Nat.le_trans O0.out (by have q1 := O1.out; have q2 := O2.out; have q3 := O3.out; have q4 := O4.out; omega)) B.size); clear S4) | fail)
      refine (volsWith_is (some ⟨b, off, none⟩) nv cv vs _ (hv.below B) hvn ox qu r2).mono ?_
      rintro e w7 ⟨v2, rfl, O9, BB⟩
      have QV : Hid (b2 < W6.heap.size) := H2.out
      have QW : Hid (w.heap.size ≤ W6.heap.size) := B.size
      have QX : Hid (w2.heap.size ≤ W6.heap.size) := by show _ ≤ _; have q1 := QN.out; have q2 := H4.out; omega
      obtain ⟨va, vc, rfl, V2⟩ := RowAt.of_owned O9
      clear O9
      have F8 := F7.below BB
      have QY : Hid (W6.heap.size ≤ w7.heap.size) := BB.size
      replace e0 := cell_later BB e0
      replace e1 := cell_later BB e1
      replace e2 := cell_later BB e2
      replace c0_0 := cell_later BB c0_0
      replace c0_1 := cell_later BB c0_1
      replace c0_2 := cell_later BB c0_2
      replace H0 : Hid (b0 < w7.heap.size) := Nat.lt_of_lt_of_le H0.out BB.size
      replace c1_0 := cell_later BB c1_0
      replace c1_1 := cell_later BB c1_1
      replace c1_2 := cell_later BB c1_2
      replace c1_3 := cell_later BB c1_3
      replace H1 : Hid (b1 < w7.heap.size) := Nat.lt_of_lt_of_le H1.out BB.size
      replace c2_0 := cell_later BB c2_0
      replace c2_1 := cell_later BB c2_1
      replace c2_2 := cell_later BB c2_2
      replace c2_3 := cell_later BB c2_3
      replace c2_4 := cell_later BB c2_4
      replace c2_5 := cell_later BB c2_5
      replace y2_0 := frozen_later BB H2.out y2_0
      replace y2_1 := frozen_later BB H2.out y2_1
      replace y2_2 := frozen_later BB H2.out y2_2
      replace y2_3 := frozen_later BB H2.out y2_3
      replace y2_4 := frozen_later BB H2.out y2_4
      replace y2_5 := frozen_later BB H2.out y2_5
      replace H2 : Hid (b2 < w7.heap.size) := Nat.lt_of_lt_of_le H2.out BB.size
      replace c3_0 := cell_later BB c3_0
      replace c3_1 := cell_later BB c3_1
      replace c3_2 := cell_later BB c3_2
      replace y3_0 := frozen_later BB H3.out y3_0
      replace y3_1 := frozen_later BB H3.out y3_1
      replace y3_2 := frozen_later BB H3.out y3_2
      replace H3 : Hid (b3 < w7.heap.size) := Nat.lt_of_lt_of_le H3.out BB.size
      replace c4_0 := cell_later BB c4_0
      replace c4_1 := cell_later BB c4_1
      replace c4_2 := cell_later BB c4_2
      replace c4_3 := cell_later BB c4_3
      replace y4_0 := frozen_later BB H4.out y4_0
      replace y4_1 := frozen_later BB H4.out y4_1
      replace y4_2 := frozen_later BB H4.out y4_2
      replace y4_3 := frozen_later BB H4.out y4_3
      replace H4 : Hid (b4 < w7.heap.size) := Nat.lt_of_lt_of_le H4.out BB.size
      replace B := below_next B BB
      clear BB
      go_wp2
      refine bodyPost_ret (v := .agg #[.int .i64 0, .int .i64 0, .int .i64 0, .slice sn s1 s2, .slice sb' s3 s4, .slice va (nv + 1) vc]) (by simp [results, Try.results99, go_sem, c2_0, c2_1, c2_2, c2_3, c2_4, c2_5]) rfl ?_
      have KZ : Kept b2 (b2 + 1) w7 ((((((w7.setCell ⟨b2, 0, none⟩ (.int .i64 0)).setCell ⟨b2, 1, none⟩ (.int .i64 0)).setCell ⟨b2, 2, none⟩ (.int .i64 0)).setCell ⟨b2, 3, none⟩ (.slice sn s1 s2)).setCell ⟨b2, 4, none⟩ (.slice sb' s3 s4)).setCell ⟨b2, 5, none⟩ (.slice va (nv + 1) vc)) := by refine Kept.setCell (Kept.setCell (Kept.setCell (Kept.setCell (Kept.setCell (Kept.setCell (Kept.refl _ _ _) ?_ ?_ _) ?_ ?_ _) ?_ ?_ _) ?_ ?_ _) ?_ ?_ _) ?_ ?_ _ <;> simp
      have q1 := KZ.size
      have q2 := QX.out
      have q3 := QY.out
      exact ⟨_, _, _, _, _, _, _, _, _, _, _, _, _, _, rfl, ⟨F8.kept KZ (Or.inr Q5.out), V2.kept KZ (Or.inr QV.out), Or.inl q2, QB.out, QW.out, by omega, q1⟩, B.trans (KZ.below _ (Nat.le_trans O0.out (Nat.le_of_lt (Nat.lt_trans O1.out O2.out))) B.size)⟩
    · have ed : d = (cd, f, vs) := HD1.out.symm.trans (if_neg hcd)
      subst ed
      clear HD1
      have hne : (cd != 0) = true := by simp [hcd]
      go_wp2_with (first | ((with_reducible refine alloc_new 88 #[.int .i64 0, .int .i64 0, .slice none 0 0, .slice none 0 0] (fun _ => by kernel_rfl) ?_); intro b4 W4 N4; have O4 : Hid (b3 < b4) := Nat.lt_of_lt_of_le H3.out N4.ge; replace e0 := cell_later N4.below e0; replace e1 := cell_later N4.below e1; replace e2 := cell_later N4.below e2; replace c0_0 := cell_later N4.below c0_0; replace c0_1 := cell_later N4.below c0_1; replace c0_2 := cell_later N4.below c0_2; replace H0 : Hid (b0 < W4.heap.size) := Nat.lt_of_lt_of_le H0.out N4.below.size; replace c1_0 := cell_later N4.below c1_0; replace c1_1 := cell_later N4.below c1_1; replace c1_2 := cell_later N4.below c1_2; replace c1_3 := cell_later N4.below c1_3; replace H1 : Hid (b1 < W4.heap.size) := Nat.lt_of_lt_of_le H1.out N4.below.size; replace c2_0 := cell_later N4.below c2_0; replace c2_1 := cell_later N4.below c2_1; replace c2_2 := cell_later N4.below c2_2; replace c2_3 := cell_later N4.below c2_3; replace c2_4 := cell_later N4.below c2_4; replace c2_5 := cell_later N4.below c2_5; replace y2_0 := frozen_later N4.below H2.out y2_0; replace y2_1 := frozen_later N4.below H2.out y2_1; replace y2_2 := frozen_later N4.below H2.out y2_2; replace y2_3 := frozen_later N4.below H2.out y2_3; replace y2_4 := frozen_later N4.below H2.out y2_4; replace y2_5 := frozen_later N4.below H2.out y2_5; replace H2 : Hid (b2 < W4.heap.size) := Nat.lt_of_lt_of_le H2.out N4.below.size; replace c3_0 := cell_later N4.below c3_0; replace c3_1 := cell_later N4.below c3_1; replace c3_2 := cell_later N4.below c3_2; replace y3_0 := frozen_later N4.below H3.out y3_0; replace y3_1 := frozen_later N4.below H3.out y3_1; replace y3_2 := frozen_later N4.below H3.out y3_2; replace H3 : Hid (b3 < W4.heap.size) := Nat.lt_of_lt_of_le H3.out N4.below.size; replace B := below_next B N4.below; have F6 := F5.below N4.below; have QN : Hid (w2.heap.size ≤ b4) := N4.ge; have H4 : Hid (b4 < W4.heap.size) := N4.lt; have c4_0 : W4.cell? ⟨b4, 0, none⟩ = some (.int .i64 0) := N4.cell 0 _ rfl; have c4_1 : W4.cell? ⟨b4, 1, none⟩ = some (.int .i64 0) := N4.cell 1 _ rfl; have c4_2 : W4.cell? ⟨b4, 2, none⟩ = some (.slice none 0 0) := N4.cell 2 _ rfl; have c4_3 : W4.cell? ⟨b4, 3, none⟩ = some (.slice none 0 0) := N4.cell 3 _ rfl; have y4_0 : W4.frozen? ⟨b4, 0, none⟩ = false := N4.froz 0; have y4_1 : W4.frozen? ⟨b4, 1, none⟩ = false := N4.froz 1; have y4_2 : W4.frozen? ⟨b4, 2, none⟩ = false := N4.froz 2; have y4_3 : W4.frozen? ⟨b4, 3, none⟩ = false := N4.froz 3; clear N4) | ((with_reducible refine store_box 88 b4 [.int .i64 cd, .int .i64 r2, .slice sn s1 s2, .slice sb' s3 s4] (by simp) (there4 c4_0 c4_1 c4_2 c4_3 y4_0 y4_1 y4_2 y4_3) (by kernel_rfl) (by simp [Value.oneCell']) rfl rfl ?_); intro W6 S4; replace e0 := S4.at e0 (by have q9 := HBS.out; have q0 := O0.out; have q1 := O1.out; have q2 := O2.out; have q3 := O3.out; have q4 := O4.out; omega); replace e1 := S4.at e1 (by have q9 := HBS.out; have q0 := O0.out; have q1 := O1.out; have q2 := O2.out; have q3 := O3.out; have q4 := O4.out; omega); replace e2 := S4.at e2 (by have q9 := HBS.out; have q0 := O0.out; have q1 := O1.out; have q2 := O2.out; have q3 := O3.out; have q4 := O4.out; omega); replace c0_0 := S4.at c0_0 (by have q1 := O1.out; have q2 := O2.out; have q3 := O3.out; have q4 := O4.out; omega); replace c0_1 := S4.at c0_1 (by have q1 := O1.out; have q2 := O2.out; have q3 := O3.out; have q4 := O4.out; omega); replace c0_2 := S4.at c0_2 (by have q1 := O1.out; have q2 := O2.out; have q3 := O3.out; have q4 := O4.out; omega); replace H0 : Hid (b0 < W6.heap.size) := Nat.lt_of_lt_of_le H0.out S4.kept.size; replace c1_0 := S4.at c1_0 (by have q2 := O2.out; have q3 := O3.out; have q4 := O4.out; omega); replace c1_1 := S4.at c1_1 (by have q2 := O2.out; have q3 := O3.out; have q4 := O4.out; omega); replace c1_2 := S4.at c1_2 (by have q2 := O2.out; have q3 := O3.out; have q4 := O4.out; omega); replace c1_3 := S4.at c1_3 (by have q2 := O2.out; have q3 := O3.out; have q4 := O4.out; omega); replace H1 : Hid (b1 < W6.heap.size) := Nat.lt_of_lt_of_le H1.out S4.kept.size; replace c2_0 := S4.at c2_0 (by have q3 := O3.out; have q4 := O4.out; omega); replace c2_1 := S4.at c2_1 (by have q3 := O3.out; have q4 := O4.out; omega); replace c2_2 := S4.at c2_2 (by have q3 := O3.out; have q4 := O4.out; omega); replace c2_3 := S4.at c2_3 (by have q3 := O3.out; have q4 := O4.out; omega); replace c2_4 := S4.at c2_4 (by have q3 := O3.out; have q4 := O4.out; omega); replace c2_5 := S4.at c2_5 (by have q3 := O3.out; have q4 := O4.out; omega); replace y2_0 := S4.fr y2_0; replace y2_1 := S4.fr y2_1; replace y2_2 := S4.fr y2_2; replace y2_3 := S4.fr y2_3; replace y2_4 := S4.fr y2_4; replace y2_5 := S4.fr y2_5; replace H2 : Hid (b2 < W6.heap.size) := Nat.lt_of_lt_of_le H2.out S4.kept.size; replace c3_0 := S4.at c3_0 (by have q4 := O4.out; omega); replace c3_1 := S4.at c3_1 (by have q4 := O4.out; omega); replace c3_2 := S4.at c3_2 (by have q4 := O4.out; omega); replace y3_0 := S4.fr y3_0; replace y3_1 := S4.fr y3_1; replace y3_2 := S4.fr y3_2; replace H3 : Hid (b3 < W6.heap.size) := Nat.lt_of_lt_of_le H3.out S4.kept.size; replace c4_0 : W6.cell? ⟨b4, 0, none⟩ = some (.int .i64 cd) := S4.cell 0 _ rfl; replace c4_1 : W6.cell? ⟨b4, 1, none⟩ = some (.int .i64 r2) := S4.cell 1 _ rfl; replace c4_2 : W6.cell? ⟨b4, 2, none⟩ = some (.slice sn s1 s2) := S4.cell 2 _ rfl; replace c4_3 : W6.cell? ⟨b4, 3, none⟩ = some (.slice sb' s3 s4) := S4.cell 3 _ rfl; replace y4_0 := S4.fr y4_0; replace y4_1 := S4.fr y4_1; replace y4_2 := S4.fr y4_2; replace y4_3 := S4.fr y4_3; replace H4 : Hid (b4 < W6.heap.size) := Nat.lt_of_lt_of_le H4.out S4.kept.size; have F7 := F6.kept S4.kept (Or.inl QN.out); replace B := B.trans (S4.kept.below _ (Nat.le_trans O0.out (by have q1 := O1.out; have q2 := O2.out; have q3 := O3.out; have q4 := O4.out; omega)) B.size); clear S4) | fail)
      refine (replied_is an nn cn ab nb cb (some ⟨b, off, none⟩) nv cv K f vs _ (h.below B) (hv.below B) hn hb hK hvn cd).mono ?_
      rintro e w7 ⟨pa, pn, pc, pb, qn, qc, va, vn, vc, l1, u1, l2, u2, K', rfl, P, BB⟩
      have Q1 : Hid (b2 < l1) := Nat.lt_of_lt_of_le H2.out P.lo1
      have Q2 : Hid (b2 < l2) := Nat.lt_of_lt_of_le H2.out P.lo2
      replace P := P.from (w := w) B.size
      replace e0 := cell_later BB e0
      replace e1 := cell_later BB e1
      replace e2 := cell_later BB e2
      replace c0_0 := cell_later BB c0_0
      replace c0_1 := cell_later BB c0_1
      replace c0_2 := cell_later BB c0_2
      replace H0 : Hid (b0 < w7.heap.size) := Nat.lt_of_lt_of_le H0.out BB.size
      replace c1_0 := cell_later BB c1_0
      replace c1_1 := cell_later BB c1_1
      replace c1_2 := cell_later BB c1_2
      replace c1_3 := cell_later BB c1_3
      replace H1 : Hid (b1 < w7.heap.size) := Nat.lt_of_lt_of_le H1.out BB.size
      replace c2_0 := cell_later BB c2_0
      replace c2_1 := cell_later BB c2_1
      replace c2_2 := cell_later BB c2_2
      replace c2_3 := cell_later BB c2_3
      replace c2_4 := cell_later BB c2_4
      replace c2_5 := cell_later BB c2_5
      replace y2_0 := frozen_later BB H2.out y2_0
      replace y2_1 := frozen_later BB H2.out y2_1
      replace y2_2 := frozen_later BB H2.out y2_2
      replace y2_3 := frozen_later BB H2.out y2_3
      replace y2_4 := frozen_later BB H2.out y2_4
      replace y2_5 := frozen_later BB H2.out y2_5
      replace H2 : Hid (b2 < w7.heap.size) := Nat.lt_of_lt_of_le H2.out BB.size
      replace c3_0 := cell_later BB c3_0
      replace c3_1 := cell_later BB c3_1
      replace c3_2 := cell_later BB c3_2
      replace y3_0 := frozen_later BB H3.out y3_0
      replace y3_1 := frozen_later BB H3.out y3_1
      replace y3_2 := frozen_later BB H3.out y3_2
      replace H3 : Hid (b3 < w7.heap.size) := Nat.lt_of_lt_of_le H3.out BB.size
      replace c4_0 := cell_later BB c4_0
      replace c4_1 := cell_later BB c4_1
      replace c4_2 := cell_later BB c4_2
      replace c4_3 := cell_later BB c4_3
      replace y4_0 := frozen_later BB H4.out y4_0
      replace y4_1 := frozen_later BB H4.out y4_1
      replace y4_2 := frozen_later BB H4.out y4_2
      replace y4_3 := frozen_later BB H4.out y4_3
      replace H4 : Hid (b4 < w7.heap.size) := Nat.lt_of_lt_of_le H4.out BB.size
      replace B := below_next B BB
      clear BB
      go_wp2
      refine bodyPost_ret (v := .agg #[.int .i64 0, .int .i64 cd, .int .i64 0, .slice pa pn pc, .slice pb qn qc, .slice va vn vc]) (by simp [results, Try.results99, go_sem, c2_0, c2_1, c2_2, c2_3, c2_4, c2_5]) rfl ?_
      have KZ : Kept b2 (b2 + 1) w7 ((((((w7.setCell ⟨b2, 0, none⟩ (.int .i64 0)).setCell ⟨b2, 1, none⟩ (.int .i64 cd)).setCell ⟨b2, 2, none⟩ (.int .i64 0)).setCell ⟨b2, 3, none⟩ (.slice pa pn pc)).setCell ⟨b2, 4, none⟩ (.slice pb qn qc)).setCell ⟨b2, 5, none⟩ (.slice va vn vc)) := by refine Kept.setCell (Kept.setCell (Kept.setCell (Kept.setCell (Kept.setCell (Kept.setCell (Kept.refl _ _ _) ?_ ?_ _) ?_ ?_ _) ?_ ?_ _) ?_ ?_ _) ?_ ?_ _) ?_ ?_ _ <;> simp
      exact ⟨_, _, _, _, _, _, _, _, _, _, _, _, _, _, rfl, P.keep KZ (Or.inr Q1.out) (Or.inr Q2.out), B.trans (KZ.below _ (Nat.le_trans O0.out (Nat.le_of_lt (Nat.lt_trans O1.out O2.out))) B.size)⟩
  · have ed : d = (nr, f, vs) := HD.out.symm.trans (if_neg h0)
    subst ed
    have hne : (nr != 0) = true := by simp [h0]
    clear HD
    go_wp2_with fail
    refine (replied_is an nn cn ab nb cb (some ⟨b, off, none⟩) nv cv K f vs _ (h.below B) (hv.below B) hn hb hK hvn nr).mono ?_
    rintro e w2 ⟨pa, pn, pc, pb, qn, qc, va, vn, vc, l1, u1, l2, u2, K', rfl, P, BB⟩
    have Q1 : Hid (b2 < l1) := Nat.lt_of_lt_of_le H2.out P.lo1
    have Q2 : Hid (b2 < l2) := Nat.lt_of_lt_of_le H2.out P.lo2
    replace P := P.from (w := w) B.size
    replace e0 := cell_later BB e0
    replace e1 := cell_later BB e1
    replace e2 := cell_later BB e2
    replace c0_0 := cell_later BB c0_0
    replace c0_1 := cell_later BB c0_1
    replace c0_2 := cell_later BB c0_2
    replace H0 : Hid (b0 < w2.heap.size) := Nat.lt_of_lt_of_le H0.out BB.size
    replace c1_0 := cell_later BB c1_0
    replace c1_1 := cell_later BB c1_1
    replace c1_2 := cell_later BB c1_2
    replace c1_3 := cell_later BB c1_3
    replace H1 : Hid (b1 < w2.heap.size) := Nat.lt_of_lt_of_le H1.out BB.size
    replace c2_0 := cell_later BB c2_0
    replace c2_1 := cell_later BB c2_1
    replace c2_2 := cell_later BB c2_2
    replace c2_3 := cell_later BB c2_3
    replace c2_4 := cell_later BB c2_4
    replace c2_5 := cell_later BB c2_5
    replace y2_0 := frozen_later BB H2.out y2_0
    replace y2_1 := frozen_later BB H2.out y2_1
    replace y2_2 := frozen_later BB H2.out y2_2
    replace y2_3 := frozen_later BB H2.out y2_3
    replace y2_4 := frozen_later BB H2.out y2_4
    replace y2_5 := frozen_later BB H2.out y2_5
    replace H2 : Hid (b2 < w2.heap.size) := Nat.lt_of_lt_of_le H2.out BB.size
    replace B := below_next B BB
    clear BB
    go_wp2
    refine bodyPost_ret (v := .agg #[.int .i64 0, .int .i64 nr, .int .i64 0, .slice pa pn pc, .slice pb qn qc, .slice va vn vc]) (by simp [results, Try.results99, go_sem, c2_0, c2_1, c2_2, c2_3, c2_4, c2_5]) rfl ?_
    have KZ : Kept b2 (b2 + 1) w2 ((((((w2.setCell ⟨b2, 0, none⟩ (.int .i64 0)).setCell ⟨b2, 1, none⟩ (.int .i64 nr)).setCell ⟨b2, 2, none⟩ (.int .i64 0)).setCell ⟨b2, 3, none⟩ (.slice pa pn pc)).setCell ⟨b2, 4, none⟩ (.slice pb qn qc)).setCell ⟨b2, 5, none⟩ (.slice va vn vc)) := by refine Kept.setCell (Kept.setCell (Kept.setCell (Kept.setCell (Kept.setCell (Kept.setCell (Kept.refl _ _ _) ?_ ?_ _) ?_ ?_ _) ?_ ?_ _) ?_ ?_ _) ?_ ?_ _) ?_ ?_ _ <;> simp
    exact ⟨_, _, _, _, _, _, _, _, _, _, _, _, _, _, rfl, P.keep KZ (Or.inr Q1.out) (Or.inr Q2.out), B.trans (KZ.below _ (Nat.le_trans O0.out (Nat.le_of_lt (Nat.lt_trans O1.out O2.out))) B.size)⟩

end Go.Proofs.Ytikjndmgljkhhaa

/- Chapter 5: a volume deleted, by the program. -/
namespace Go.Proofs.Ytikjndmgljkhhaa
open Go.RowKit

set_option maxRecDepth 20000 in
set_option maxHeartbeats 2000000 in
theorem deleteVol_is {o o2 : Bool} {l u l2 u2 : Nat} (an : Option Addr) (nn cn : Nat) (ab : Option Addr) (nb cb : Nat) (av : Option Addr) (nv cv : Nat) (K : Nat → KS) (f : Fo) (vs : List Vo) (w : World) (h : FoAt w o l u an nn cn ab nb cb K f) (hv : RowAt w o2 l2 u2 3 av nv cv (trips vs)) (hn : nn ≤ 1048576) (hb : nb ≤ 1048576) (hK : ∀ i, i < nn → (K i).2.1 ≤ 1048576) (hvn : nv ≤ 1048576) (m : Nat) (hm : m < nv) (ok ov oa ox : Int) (d : Int × Fo × List Vo) (hd : deleteR f vs m = d) :
    Calls Try.prog 100 #[.agg #[.slice an nn cn, .slice ab nb cb, .slice av nv cv], .int .i64 (m : Int), .agg #[.int .i64 ok, .int .i64 ov, .int .i64 oa, .int .i64 ox]] w fun e w' => PoRes w w' e 0 d.1 0 d.2.1 d.2.2 := by
  have hnn : nn ≤ 2097152 := by omega
  have hnb : nb ≤ 2097152 := by omega
  have HKK : Hid (∀ i, i < nn → (K i).2.1 ≤ 2097152) := fun i hi => Nat.le_trans (hK i hi) (by omega)
  have hvl := hv.nTrips
  have hlm : (m : Int) < (nv : Int) := by omega
  obtain ⟨b, off, rfl, _, _, hbs, e0, e1, e2, _⟩ := hv.trip hm
  have HBS : Hid _ := hbs
  clear hbs
  obtain ⟨⟨id, qu, rt⟩, hvo⟩ : ∃ v, vs.getD m vo0 = v := ⟨_, rfl⟩
  rw [hvo] at e0 e1 e2
  simp only at e0 e1 e2
  unfold deleteR at hd
  rw [hvo] at hd
  simp only at hd
  clear hvo
  obtain ⟨cd, hcd⟩ : ∃ cd, treeCode f rt 0 = cd := ⟨_, rfl⟩
  obtain ⟨r2, hr2⟩ : ∃ r2, dropRoot f rt = r2 := ⟨_, rfl⟩
  obtain ⟨g, hg⟩ : ∃ g, dropFo f rt = g := ⟨_, rfl⟩
  rw [hg] at hd
  subst hd
  have HCD : Hid _ := hcd
  have HR2 : Hid _ := hr2
  have HG : Hid _ := hg
  clear hcd hr2 hg
  have hw1 : IntKind.i64.wrap ((m : Int) + 1) = (m : Int) + 1 := by rw [IntKind.wrap_i64]; omega
  go_enter Try.func100, Try.ntmps100
  go_wp2_with (first | ((with_reducible refine box_new 31 #[.slice an nn cn, .slice ab nb cb, .slice (some ⟨b, off, none⟩) nv cv] rfl ?_); intro b0 W0 N0; have O0 : Hid (w.heap.size ≤ b0) := N0.ge; have B := N0.below; replace e0 := cell_later N0.below e0; replace e1 := cell_later N0.below e1; replace e2 := cell_later N0.below e2; have H0 : Hid (b0 < W0.heap.size) := N0.lt; have c0_0 : W0.cell? ⟨b0, 0, none⟩ = some (.slice an nn cn) := N0.cell 0 _ rfl; have c0_1 : W0.cell? ⟨b0, 1, none⟩ = some (.slice ab nb cb) := N0.cell 1 _ rfl; have c0_2 : W0.cell? ⟨b0, 2, none⟩ = some (.slice (some ⟨b, off, none⟩) nv cv) := N0.cell 2 _ rfl; clear N0) | ((with_reducible refine box_new 37 #[.int .i64 ok, .int .i64 ov, .int .i64 oa, .int .i64 ox] rfl ?_); intro b1 W1 N1; have O1 : Hid (b0 < b1) := Nat.lt_of_lt_of_le H0.out N1.ge; replace e0 := cell_later N1.below e0; replace e1 := cell_later N1.below e1; replace e2 := cell_later N1.below e2; replace c0_0 := cell_later N1.below c0_0; replace c0_1 := cell_later N1.below c0_1; replace c0_2 := cell_later N1.below c0_2; replace H0 : Hid (b0 < W1.heap.size) := Nat.lt_of_lt_of_le H0.out N1.below.size; replace B := below_next B N1.below; have H1 : Hid (b1 < W1.heap.size) := N1.lt; have c1_0 : W1.cell? ⟨b1, 0, none⟩ = some (.int .i64 ok) := N1.cell 0 _ rfl; have c1_1 : W1.cell? ⟨b1, 1, none⟩ = some (.int .i64 ov) := N1.cell 1 _ rfl; have c1_2 : W1.cell? ⟨b1, 2, none⟩ = some (.int .i64 oa) := N1.cell 2 _ rfl; have c1_3 : W1.cell? ⟨b1, 3, none⟩ = some (.int .i64 ox) := N1.cell 3 _ rfl; clear N1) | ((with_reducible refine alloc_new 33 #[.int .i64 0, .int .i64 0, .int .i64 0, .slice none 0 0, .slice none 0 0, .slice none 0 0] (fun _ => by kernel_rfl) ?_); intro b2 W2 N2; have O2 : Hid (b1 < b2) := Nat.lt_of_lt_of_le H1.out N2.ge; replace e0 := cell_later N2.below e0; replace e1 := cell_later N2.below e1; replace e2 := cell_later N2.below e2; replace c0_0 := cell_later N2.below c0_0; replace c0_1 := cell_later N2.below c0_1; replace c0_2 := cell_later N2.below c0_2; replace H0 : Hid (b0 < W2.heap.size) := Nat.lt_of_lt_of_le H0.out N2.below.size; replace c1_0 := cell_later N2.below c1_0; replace c1_1 := cell_later N2.below c1_1; replace c1_2 := cell_later N2.below c1_2; replace c1_3 := cell_later N2.below c1_3; replace H1 : Hid (b1 < W2.heap.size) := Nat.lt_of_lt_of_le H1.out N2.below.size; replace B := below_next B N2.below; have H2 : Hid (b2 < W2.heap.size) := N2.lt; have c2_0 : W2.cell? ⟨b2, 0, none⟩ = some (.int .i64 0) := N2.cell 0 _ rfl; have c2_1 : W2.cell? ⟨b2, 1, none⟩ = some (.int .i64 0) := N2.cell 1 _ rfl; have c2_2 : W2.cell? ⟨b2, 2, none⟩ = some (.int .i64 0) := N2.cell 2 _ rfl; have c2_3 : W2.cell? ⟨b2, 3, none⟩ = some (.slice none 0 0) := N2.cell 3 _ rfl; have c2_4 : W2.cell? ⟨b2, 4, none⟩ = some (.slice none 0 0) := N2.cell 4 _ rfl; have c2_5 : W2.cell? ⟨b2, 5, none⟩ = some (.slice none 0 0) := N2.cell 5 _ rfl; have y2_0 : W2.frozen? ⟨b2, 0, none⟩ = false := N2.froz 0; have y2_1 : W2.frozen? ⟨b2, 1, none⟩ = false := N2.froz 1; have y2_2 : W2.frozen? ⟨b2, 2, none⟩ = false := N2.froz 2; have y2_3 : W2.frozen? ⟨b2, 3, none⟩ = false := N2.froz 3; have y2_4 : W2.frozen? ⟨b2, 4, none⟩ = false := N2.froz 4; have y2_5 : W2.frozen? ⟨b2, 5, none⟩ = false := N2.froz 5; clear N2) | fail)
  have n02 : b0 ≠ b2 := by have q1 := O1.out; have q2 := O2.out; omega
  have n12 : b1 ≠ b2 := by have q2 := O2.out; omega
  have nb2 : b ≠ b2 := by have q0 := O0.out; have q1 := O1.out; have q2 := O2.out; have q3 := HBS.out; omega
  have HX2 : Hid (b2 < W2.heap.size) := H2.out
  have HXB : Hid (w.heap.size ≤ W2.heap.size) := B.size
  have NZ := newB_mk W2 #[.int .i64 0, .int .i64 0, .slice none 0 0, .slice none 0 0] 88
  have BA : Below W2.drew.heap.size W2.drew (W2.alloc (.cells #[.int .i64 0, .int .i64 0, .slice none 0 0, .slice none 0 0] 88)).drew := ((Below.refl _ _).alloc (Nat.le_refl _) _ : Below W2.drew.heap.size W2.drew (W2.drew.alloc (.cells #[.int .i64 0, .int .i64 0, .slice none 0 0, .slice none 0 0] 88)))
  have z0 : (W2.alloc (.cells #[.int .i64 0, .int .i64 0, .slice none 0 0, .slice none 0 0] 88)).drew.cell? ⟨W2.heap.size, 0, none⟩ = some (.int .i64 0) := NZ.cell 0 _ rfl
  have z1 : (W2.alloc (.cells #[.int .i64 0, .int .i64 0, .slice none 0 0, .slice none 0 0] 88)).drew.cell? ⟨W2.heap.size, 1, none⟩ = some (.int .i64 0) := NZ.cell 1 _ rfl
  have z2 : (W2.alloc (.cells #[.int .i64 0, .int .i64 0, .slice none 0 0, .slice none 0 0] 88)).drew.cell? ⟨W2.heap.size, 2, none⟩ = some (.slice none 0 0) := NZ.cell 2 _ rfl
  have z3 : (W2.alloc (.cells #[.int .i64 0, .int .i64 0, .slice none 0 0, .slice none 0 0] 88)).drew.cell? ⟨W2.heap.size, 3, none⟩ = some (.slice none 0 0) := NZ.cell 3 _ rfl
  have f0 : (W2.alloc (.cells #[.int .i64 0, .int .i64 0, .slice none 0 0, .slice none 0 0] 88)).drew.frozen? ⟨W2.heap.size, 0, none⟩ = false := NZ.froz 0
  have f1 : (W2.alloc (.cells #[.int .i64 0, .int .i64 0, .slice none 0 0, .slice none 0 0] 88)).drew.frozen? ⟨W2.heap.size, 1, none⟩ = false := NZ.froz 1
  have f2 : (W2.alloc (.cells #[.int .i64 0, .int .i64 0, .slice none 0 0, .slice none 0 0] 88)).drew.frozen? ⟨W2.heap.size, 2, none⟩ = false := NZ.froz 2
  have f3 : (W2.alloc (.cells #[.int .i64 0, .int .i64 0, .slice none 0 0, .slice none 0 0] 88)).drew.frozen? ⟨W2.heap.size, 3, none⟩ = false := NZ.froz 3
  have HZ : Hid (W2.heap.size < (W2.alloc (.cells #[.int .i64 0, .int .i64 0, .slice none 0 0, .slice none 0 0] 88)).drew.heap.size) := NZ.lt
  clear NZ
  have HI0 : Hid (b0 ≠ W2.heap.size) := Nat.ne_of_lt H0.out
  have HI1 : Hid (b1 ≠ W2.heap.size) := Nat.ne_of_lt H1.out
  have HI2 : Hid (b2 ≠ W2.heap.size) := Nat.ne_of_lt H2.out
  have HIB : Hid (b ≠ W2.heap.size) := by show _ ≠ _; have q1 := HBS.out; have q2 := B.size; omega
  have D : Below W2.heap.size W2 W2.drew := (Below.refl _ _).drew
  replace e0 := cell_later D e0
  replace e1 := cell_later D e1
  replace e2 := cell_later D e2
  replace c0_0 := cell_later D c0_0
  replace c0_1 := cell_later D c0_1
  replace c0_2 := cell_later D c0_2
  replace H0 : Hid (b0 < W2.drew.heap.size) := Nat.lt_of_lt_of_le H0.out D.size
  replace c1_0 := cell_later D c1_0
  replace c1_1 := cell_later D c1_1
  replace c1_2 := cell_later D c1_2
  replace c1_3 := cell_later D c1_3
  replace H1 : Hid (b1 < W2.drew.heap.size) := Nat.lt_of_lt_of_le H1.out D.size
  replace c2_0 := cell_later D c2_0
  replace c2_1 := cell_later D c2_1
  replace c2_2 := cell_later D c2_2
  replace c2_3 := cell_later D c2_3
  replace c2_4 := cell_later D c2_4
  replace c2_5 := cell_later D c2_5
  replace y2_0 := frozen_later D H2.out y2_0
  replace y2_1 := frozen_later D H2.out y2_1
  replace y2_2 := frozen_later D H2.out y2_2
  replace y2_3 := frozen_later D H2.out y2_3
  replace y2_4 := frozen_later D H2.out y2_4
  replace y2_5 := frozen_later D H2.out y2_5
  replace H2 : Hid (b2 < W2.drew.heap.size) := Nat.lt_of_lt_of_le H2.out D.size
  replace B := below_next B D
  clear D
  go_region_held3 (fun w' => w'.cell? ⟨b0, 0, none⟩ = some (.slice an nn cn) ∧ w'.cell? ⟨b0, 1, none⟩ = some (.slice ab nb cb) ∧ w'.cell? ⟨b0, 2, none⟩ = some (.slice (some ⟨b, off, none⟩) nv cv) ∧ w'.cell? ⟨b, off + m * 3 + 2, none⟩ = some (.int .i64 rt)) (first | with_reducible exact ⟨c0_0, c0_1, c0_2, e2⟩ | with_reducible exact ⟨cell_later BA c0_0, cell_later BA c0_1, cell_later BA c0_2, cell_later BA e2⟩ | with_reducible exact ⟨cell_later BZ c0_0, cell_later BZ c0_1, cell_later BZ c0_2, cell_later BZ e2⟩ | with_reducible exact ⟨cell_later BR c0_0, cell_later BR c0_1, cell_later BR c0_2, cell_later BR e2⟩ | with_reducible exact ⟨SB.at c0_0 HI0.out, SB.at c0_1 HI0.out, SB.at c0_2 HI0.out, SB.at e2 HIB.out⟩)
    (first | (go_at_call 163; (with_reducible refine (implDropT_is an nn cn ab nb cb K f _ (h.below B) hnn hnb HKK.out rt cd r2 g HCD.out HR2.out HG.out).mono ?_); rintro e w5 ⟨sn, s1, s2, sb', s3, s4, sK, rfl, F5, B5⟩; have Q5 : Hid (b2 < _) := H2.out; have QB : Hid (w.heap.size ≤ _) := B.size; have HX5 : Hid (b2 < w5.heap.size) := Nat.lt_of_lt_of_le H2.out B5.size; replace e0 := cell_later B5 e0; replace e1 := cell_later B5 e1; replace e2 := cell_later B5 e2; replace c0_0 := cell_later B5 c0_0; replace c0_1 := cell_later B5 c0_1; replace c0_2 := cell_later B5 c0_2; replace H0 : Hid (b0 < w5.heap.size) := Nat.lt_of_lt_of_le H0.out B5.size; replace c1_0 := cell_later B5 c1_0; replace c1_1 := cell_later B5 c1_1; replace c1_2 := cell_later B5 c1_2; replace c1_3 := cell_later B5 c1_3; replace H1 : Hid (b1 < w5.heap.size) := Nat.lt_of_lt_of_le H1.out B5.size; replace c2_0 := cell_later B5 c2_0; replace c2_1 := cell_later B5 c2_1; replace c2_2 := cell_later B5 c2_2; replace c2_3 := cell_later B5 c2_3; replace c2_4 := cell_later B5 c2_4; replace c2_5 := cell_later B5 c2_5; replace y2_0 := frozen_later B5 H2.out y2_0; replace y2_1 := frozen_later B5 H2.out y2_1; replace y2_2 := frozen_later B5 H2.out y2_2; replace y2_3 := frozen_later B5 H2.out y2_3; replace y2_4 := frozen_later B5 H2.out y2_4; replace y2_5 := frozen_later B5 H2.out y2_5; replace H2 : Hid (b2 < w5.heap.size) := Nat.lt_of_lt_of_le H2.out B5.size; replace B := below_next B B5; have BZ := (newB_mk w5 #[.int .i64 0, .int .i64 0, .slice none 0 0, .slice none 0 0] 88).below; have BR := (newB_mk w5 #[.int .i64 cd, .int .i64 r2, .slice sn s1 s2, .slice sb' s3 s4] 88).below; clear B5) | (go_at_call 163; (with_reducible refine (implDropT_is an nn cn ab nb cb K f _ (h.below (below_next B BA)) hnn hnb HKK.out rt cd r2 g HCD.out HR2.out HG.out).mono ?_); rintro e w5 ⟨sn, s1, s2, sb', s3, s4, sK, rfl, F5, B5⟩; have Q5 : Hid (b2 < _) := (Nat.lt_of_lt_of_le H2.out BA.size); have QB : Hid (w.heap.size ≤ _) := (below_next B BA).size; have HX5 : Hid (b2 < w5.heap.size) := Nat.lt_of_lt_of_le (Nat.lt_of_lt_of_le H2.out BA.size) B5.size; replace e0 := cell_later BA e0; replace e1 := cell_later BA e1; replace e2 := cell_later BA e2; replace c0_0 := cell_later BA c0_0; replace c0_1 := cell_later BA c0_1; replace c0_2 := cell_later BA c0_2; replace H0 : Hid (b0 < (W2.alloc (.cells #[.int .i64 0, .int .i64 0, .slice none 0 0, .slice none 0 0] 88)).drew.heap.size) := Nat.lt_of_lt_of_le H0.out BA.size; replace c1_0 := cell_later BA c1_0; replace c1_1 := cell_later BA c1_1; replace c1_2 := cell_later BA c1_2; replace c1_3 := cell_later BA c1_3; replace H1 : Hid (b1 < (W2.alloc (.cells #[.int .i64 0, .int .i64 0, .slice none 0 0, .slice none 0 0] 88)).drew.heap.size) := Nat.lt_of_lt_of_le H1.out BA.size; replace c2_0 := cell_later BA c2_0; replace c2_1 := cell_later BA c2_1; replace c2_2 := cell_later BA c2_2; replace c2_3 := cell_later BA c2_3; replace c2_4 := cell_later BA c2_4; replace c2_5 := cell_later BA c2_5; replace y2_0 := frozen_later BA H2.out y2_0; replace y2_1 := frozen_later BA H2.out y2_1; replace y2_2 := frozen_later BA H2.out y2_2; replace y2_3 := frozen_later BA H2.out y2_3; replace y2_4 := frozen_later BA H2.out y2_4; replace y2_5 := frozen_later BA H2.out y2_5; replace H2 : Hid (b2 < (W2.alloc (.cells #[.int .i64 0, .int .i64 0, .slice none 0 0, .slice none 0 0] 88)).drew.heap.size) := Nat.lt_of_lt_of_le H2.out BA.size; replace B := below_next B BA; replace e0 := cell_later B5 e0; replace e1 := cell_later B5 e1; replace e2 := cell_later B5 e2; replace c0_0 := cell_later B5 c0_0; replace c0_1 := cell_later B5 c0_1; replace c0_2 := cell_later B5 c0_2; replace H0 : Hid (b0 < w5.heap.size) := Nat.lt_of_lt_of_le H0.out B5.size; replace c1_0 := cell_later B5 c1_0; replace c1_1 := cell_later B5 c1_1; replace c1_2 := cell_later B5 c1_2; replace c1_3 := cell_later B5 c1_3; replace H1 : Hid (b1 < w5.heap.size) := Nat.lt_of_lt_of_le H1.out B5.size; replace c2_0 := cell_later B5 c2_0; replace c2_1 := cell_later B5 c2_1; replace c2_2 := cell_later B5 c2_2; replace c2_3 := cell_later B5 c2_3; replace c2_4 := cell_later B5 c2_4; replace c2_5 := cell_later B5 c2_5; replace y2_0 := frozen_later B5 H2.out y2_0; replace y2_1 := frozen_later B5 H2.out y2_1; replace y2_2 := frozen_later B5 H2.out y2_2; replace y2_3 := frozen_later B5 H2.out y2_3; replace y2_4 := frozen_later B5 H2.out y2_4; replace y2_5 := frozen_later B5 H2.out y2_5; replace H2 : Hid (b2 < w5.heap.size) := Nat.lt_of_lt_of_le H2.out B5.size; replace B := below_next B B5; replace f0 := frozen_later B5 HZ.out f0; replace f1 := frozen_later B5 HZ.out f1; replace f2 := frozen_later B5 HZ.out f2; replace f3 := frozen_later B5 HZ.out f3; replace z0 := cell_later B5 z0; replace z1 := cell_later B5 z1; replace z2 := cell_later B5 z2; replace z3 := cell_later B5 z3; have SB : SetB w5 ((((w5.setCell ⟨W2.heap.size, 0, none⟩ (.int .i64 cd)).setCell ⟨W2.heap.size, 1, none⟩ (.int .i64 r2)).setCell ⟨W2.heap.size, 2, none⟩ (.slice sn s1 s2)).setCell ⟨W2.heap.size, 3, none⟩ (.slice sb' s3 s4)) W2.heap.size [.int .i64 cd, .int .i64 r2, .slice sn s1 s2, .slice sb' s3 s4] := setB_cells (cs := [.int .i64 cd, .int .i64 r2, .slice sn s1 s2, .slice sb' s3 s4]) (by simp) (there4 z0 z1 z2 z3 f0 f1 f2 f3); clear B5))
  · have NR := newB_mk w5 #[.int .i64 cd, .int .i64 r2, .slice sn s1 s2, .slice sb' s3 s4] 88
    obtain ⟨W6, hW6⟩ : ∃ W6, W6 = w5.alloc (.cells #[.int .i64 cd, .int .i64 r2, .slice sn s1 s2, .slice sb' s3 s4] 88) := ⟨_, rfl⟩
    rw [← hW6] at NR
    rw [← hW6]
    clear hW6
    replace e0 := cell_later NR.below e0
    replace e1 := cell_later NR.below e1
    replace e2 := cell_later NR.below e2
    replace c0_0 := cell_later NR.below c0_0
    replace c0_1 := cell_later NR.below c0_1
    replace c0_2 := cell_later NR.below c0_2
    replace H0 : Hid (b0 < W6.heap.size) := Nat.lt_of_lt_of_le H0.out NR.below.size
    replace c1_0 := cell_later NR.below c1_0
    replace c1_1 := cell_later NR.below c1_1
    replace c1_2 := cell_later NR.below c1_2
    replace c1_3 := cell_later NR.below c1_3
    replace H1 : Hid (b1 < W6.heap.size) := Nat.lt_of_lt_of_le H1.out NR.below.size
    replace c2_0 := cell_later NR.below c2_0
    replace c2_1 := cell_later NR.below c2_1
    replace c2_2 := cell_later NR.below c2_2
    replace c2_3 := cell_later NR.below c2_3
    replace c2_4 := cell_later NR.below c2_4
    replace c2_5 := cell_later NR.below c2_5
    replace y2_0 := frozen_later NR.below H2.out y2_0
    replace y2_1 := frozen_later NR.below H2.out y2_1
    replace y2_2 := frozen_later NR.below H2.out y2_2
    replace y2_3 := frozen_later NR.below H2.out y2_3
    replace y2_4 := frozen_later NR.below H2.out y2_4
    replace y2_5 := frozen_later NR.below H2.out y2_5
    replace H2 : Hid (b2 < W6.heap.size) := Nat.lt_of_lt_of_le H2.out NR.below.size
    replace B := below_next B NR.below
    have F6 := F5.below NR.below
    have QL : Hid (w5.heap.size ≤ W6.heap.size) := NR.below.size
    have x0 : W6.cell? ⟨w5.heap.size, 0, none⟩ = some (.int .i64 cd) := NR.cell 0 _ rfl
    have x1 : W6.cell? ⟨w5.heap.size, 1, none⟩ = some (.int .i64 r2) := NR.cell 1 _ rfl
    have x2 : W6.cell? ⟨w5.heap.size, 2, none⟩ = some (.slice sn s1 s2) := NR.cell 2 _ rfl
    have x3 : W6.cell? ⟨w5.heap.size, 3, none⟩ = some (.slice sb' s3 s4) := NR.cell 3 _ rfl
    have XN : Hid (b2 < w5.heap.size) := by show _ < _; have q1 := NR.sz; have q2 := HX5.out; omega
    obtain ⟨xb, hxb⟩ : ∃ xb, xb = w5.heap.size := ⟨_, rfl⟩
    rw [← hxb] at XN x0 x1 x2 x3
    rw [← hxb]
    clear hxb NR
    have XS0 : Hid (xb < W6.heap.size) := World.block_lt_of_cell? W6 ⟨xb, 0, none⟩ x0
    go_wp2_with fail
    refine (cloneV_own (some ⟨b, off, none⟩) nv cv vs _ (hv.below B) hvn).mono ?_
    rintro e w7 ⟨v2, rfl, O9, BB⟩
    have F7 := F6.below BB
    have QZ : Hid (W6.heap.size ≤ w7.heap.size) := BB.size
    have QW : Hid (b2 < W6.heap.size) := H2.out
    have QX : Hid (w.heap.size ≤ W6.heap.size) := B.size
    replace x0 := cell_later BB x0
    replace x1 := cell_later BB x1
    replace x2 := cell_later BB x2
    replace x3 := cell_later BB x3
    have XS : Hid (xb < W6.heap.size) := XS0.out
    replace e0 := cell_later BB e0
    replace e1 := cell_later BB e1
    replace e2 := cell_later BB e2
    replace c0_0 := cell_later BB c0_0
    replace c0_1 := cell_later BB c0_1
    replace c0_2 := cell_later BB c0_2
    replace H0 : Hid (b0 < w7.heap.size) := Nat.lt_of_lt_of_le H0.out BB.size
    replace c1_0 := cell_later BB c1_0
    replace c1_1 := cell_later BB c1_1
    replace c1_2 := cell_later BB c1_2
    replace c1_3 := cell_later BB c1_3
    replace H1 : Hid (b1 < w7.heap.size) := Nat.lt_of_lt_of_le H1.out BB.size
    replace c2_0 := cell_later BB c2_0
    replace c2_1 := cell_later BB c2_1
    replace c2_2 := cell_later BB c2_2
    replace c2_3 := cell_later BB c2_3
    replace c2_4 := cell_later BB c2_4
    replace c2_5 := cell_later BB c2_5
    replace y2_0 := frozen_later BB H2.out y2_0
    replace y2_1 := frozen_later BB H2.out y2_1
    replace y2_2 := frozen_later BB H2.out y2_2
    replace y2_3 := frozen_later BB H2.out y2_3
    replace y2_4 := frozen_later BB H2.out y2_4
    replace y2_5 := frozen_later BB H2.out y2_5
    replace H2 : Hid (b2 < w7.heap.size) := Nat.lt_of_lt_of_le H2.out BB.size
    replace B := below_next B BB
    clear BB
    go_wp2_with fail
    refine (deleteV_is (trips_one vs) hvn v2 O9 m (by omega)).mono ?_
    rintro e w8 ⟨v8, rfl, O8, G8⟩
    have KD : Kept W6.heap.size w7.heap.size w7 w8 := grown_kept G8 fun k hk => (O9.lt k hk).1
    have KB : Below w.heap.size w7 w8 := KD.below _ QX.out B.size
    clear G8 O9
    replace c2_0 := KD.cell c2_0 (Or.inl QW.out)
    replace c2_1 := KD.cell c2_1 (Or.inl QW.out)
    replace c2_2 := KD.cell c2_2 (Or.inl QW.out)
    replace c2_3 := KD.cell c2_3 (Or.inl QW.out)
    replace c2_4 := KD.cell c2_4 (Or.inl QW.out)
    replace c2_5 := KD.cell c2_5 (Or.inl QW.out)
    replace y2_0 := KD.fr y2_0 (Or.inl QW.out) (Nat.lt_of_lt_of_le QW.out QZ.out)
    replace y2_1 := KD.fr y2_1 (Or.inl QW.out) (Nat.lt_of_lt_of_le QW.out QZ.out)
    replace y2_2 := KD.fr y2_2 (Or.inl QW.out) (Nat.lt_of_lt_of_le QW.out QZ.out)
    replace y2_3 := KD.fr y2_3 (Or.inl QW.out) (Nat.lt_of_lt_of_le QW.out QZ.out)
    replace y2_4 := KD.fr y2_4 (Or.inl QW.out) (Nat.lt_of_lt_of_le QW.out QZ.out)
    replace y2_5 := KD.fr y2_5 (Or.inl QW.out) (Nat.lt_of_lt_of_le QW.out QZ.out)
    replace x0 := KD.cell x0 (Or.inl XS.out)
    replace x1 := KD.cell x1 (Or.inl XS.out)
    replace x2 := KD.cell x2 (Or.inl XS.out)
    replace x3 := KD.cell x3 (Or.inl XS.out)
    have F8 := F7.kept KD (Or.inl QL.out)
    replace B := B.trans KB
    rw [trips_erase vs m (by omega)] at O8
    obtain ⟨va, vc, rfl, V8⟩ := RowAt.of_owned O8
    have QY : Hid (W6.heap.size ≤ w8.heap.size) := Nat.le_trans QZ.out KD.size
    clear KD KB O8
    clear c0_0
    clear c0_1
    clear c0_2
    clear c1_0
    clear c1_1
    clear c1_2
    clear c1_3
    clear e0 e1 e2
    go_wp2
    refine bodyPost_ret (v := .agg #[.int .i64 0, .int .i64 0, .int .i64 0, .slice sn s1 s2, .slice sb' s3 s4, .slice va (nv - 1) vc]) (by simp [results, Try.results100, go_sem, c2_0, c2_1, c2_2, c2_3, c2_4, c2_5]) rfl ?_
    have KZ : Kept b2 (b2 + 1) w8 ((((((w8.setCell ⟨b2, 0, none⟩ (.int .i64 0)).setCell ⟨b2, 1, none⟩ (.int .i64 0)).setCell ⟨b2, 2, none⟩ (.int .i64 0)).setCell ⟨b2, 3, none⟩ (.slice sn s1 s2)).setCell ⟨b2, 4, none⟩ (.slice sb' s3 s4)).setCell ⟨b2, 5, none⟩ (.slice va (nv - 1) vc)) := by refine Kept.setCell (Kept.setCell (Kept.setCell (Kept.setCell (Kept.setCell (Kept.setCell (Kept.refl _ _ _) ?_ ?_ _) ?_ ?_ _) ?_ ?_ _) ?_ ?_ _) ?_ ?_ _) ?_ ?_ _ <;> simp
    have q1 := KZ.size
    have q2 := QL.out
    have q3 := QY.out
    exact ⟨_, _, _, _, _, _, _, _, _, _, _, _, _, _, rfl, ⟨F8.kept KZ (Or.inr Q5.out), V8.kept KZ (Or.inr QW.out), Or.inl q2, QB.out, QX.out, by omega, q1⟩, B.trans (KZ.below _ (Nat.le_trans O0.out (Nat.le_of_lt (Nat.lt_trans O1.out O2.out))) B.size)⟩
  · obtain ⟨W6, hW6⟩ : ∃ W6, W6 = ((((w5.setCell ⟨W2.heap.size, 0, none⟩ (.int .i64 cd)).setCell ⟨W2.heap.size, 1, none⟩ (.int .i64 r2)).setCell ⟨W2.heap.size, 2, none⟩ (.slice sn s1 s2)).setCell ⟨W2.heap.size, 3, none⟩ (.slice sb' s3 s4)) := ⟨_, rfl⟩
    rw [← hW6] at SB
    rw [← hW6]
    clear hW6
    replace e0 := SB.at e0 HIB.out
    replace e1 := SB.at e1 HIB.out
    replace e2 := SB.at e2 HIB.out
    replace c0_0 := SB.at c0_0 HI0.out
    replace c0_1 := SB.at c0_1 HI0.out
    replace c0_2 := SB.at c0_2 HI0.out
    replace c1_0 := SB.at c1_0 HI1.out
    replace c1_1 := SB.at c1_1 HI1.out
    replace c1_2 := SB.at c1_2 HI1.out
    replace c1_3 := SB.at c1_3 HI1.out
    replace c2_0 := SB.at c2_0 HI2.out
    replace c2_1 := SB.at c2_1 HI2.out
    replace c2_2 := SB.at c2_2 HI2.out
    replace c2_3 := SB.at c2_3 HI2.out
    replace c2_4 := SB.at c2_4 HI2.out
    replace c2_5 := SB.at c2_5 HI2.out
    replace y2_0 := SB.fr y2_0
    replace y2_1 := SB.fr y2_1
    replace y2_2 := SB.fr y2_2
    replace y2_3 := SB.fr y2_3
    replace y2_4 := SB.fr y2_4
    replace y2_5 := SB.fr y2_5
    replace H0 : Hid (b0 < W6.heap.size) := Nat.lt_of_lt_of_le H0.out SB.kept.size
    replace H1 : Hid (b1 < W6.heap.size) := Nat.lt_of_lt_of_le H1.out SB.kept.size
    replace H2 : Hid (b2 < W6.heap.size) := Nat.lt_of_lt_of_le H2.out SB.kept.size
    have XN : Hid (b2 < W2.heap.size) := HX2.out
    have F6 := F5.kept SB.kept (Or.inr HZ.out)
    have QL : Hid (w5.heap.size ≤ W6.heap.size) := SB.kept.size
    replace B := B.trans (SB.kept.below _ HXB.out B.size)
    have x0 : W6.cell? ⟨W2.heap.size, 0, none⟩ = some (.int .i64 cd) := SB.cell 0 _ rfl
    have x1 : W6.cell? ⟨W2.heap.size, 1, none⟩ = some (.int .i64 r2) := SB.cell 1 _ rfl
    have x2 : W6.cell? ⟨W2.heap.size, 2, none⟩ = some (.slice sn s1 s2) := SB.cell 2 _ rfl
    have x3 : W6.cell? ⟨W2.heap.size, 3, none⟩ = some (.slice sb' s3 s4) := SB.cell 3 _ rfl
    obtain ⟨xb, hxb⟩ : ∃ xb, xb = W2.heap.size := ⟨_, rfl⟩
    rw [← hxb] at XN x0 x1 x2 x3
    rw [← hxb]
    clear hxb SB
    have XS0 : Hid (xb < W6.heap.size) := World.block_lt_of_cell? W6 ⟨xb, 0, none⟩ x0
    go_wp2_with fail
    refine (cloneV_own (some ⟨b, off, none⟩) nv cv vs _ (hv.below B) hvn).mono ?_
    rintro e w7 ⟨v2, rfl, O9, BB⟩
    have F7 := F6.below BB
    have QZ : Hid (W6.heap.size ≤ w7.heap.size) := BB.size
    have QW : Hid (b2 < W6.heap.size) := H2.out
    have QX : Hid (w.heap.size ≤ W6.heap.size) := B.size
    replace x0 := cell_later BB x0
    replace x1 := cell_later BB x1
    replace x2 := cell_later BB x2
    replace x3 := cell_later BB x3
    have XS : Hid (xb < W6.heap.size) := XS0.out
    replace e0 := cell_later BB e0
    replace e1 := cell_later BB e1
    replace e2 := cell_later BB e2
    replace c0_0 := cell_later BB c0_0
    replace c0_1 := cell_later BB c0_1
    replace c0_2 := cell_later BB c0_2
    replace H0 : Hid (b0 < w7.heap.size) := Nat.lt_of_lt_of_le H0.out BB.size
    replace c1_0 := cell_later BB c1_0
    replace c1_1 := cell_later BB c1_1
    replace c1_2 := cell_later BB c1_2
    replace c1_3 := cell_later BB c1_3
    replace H1 : Hid (b1 < w7.heap.size) := Nat.lt_of_lt_of_le H1.out BB.size
    replace c2_0 := cell_later BB c2_0
    replace c2_1 := cell_later BB c2_1
    replace c2_2 := cell_later BB c2_2
    replace c2_3 := cell_later BB c2_3
    replace c2_4 := cell_later BB c2_4
    replace c2_5 := cell_later BB c2_5
    replace y2_0 := frozen_later BB H2.out y2_0
    replace y2_1 := frozen_later BB H2.out y2_1
    replace y2_2 := frozen_later BB H2.out y2_2
    replace y2_3 := frozen_later BB H2.out y2_3
    replace y2_4 := frozen_later BB H2.out y2_4
    replace y2_5 := frozen_later BB H2.out y2_5
    replace H2 : Hid (b2 < w7.heap.size) := Nat.lt_of_lt_of_le H2.out BB.size
    replace B := below_next B BB
    clear BB
    go_wp2_with fail
    refine (deleteV_is (trips_one vs) hvn v2 O9 m (by omega)).mono ?_
    rintro e w8 ⟨v8, rfl, O8, G8⟩
    have KD : Kept W6.heap.size w7.heap.size w7 w8 := grown_kept G8 fun k hk => (O9.lt k hk).1
    have KB : Below w.heap.size w7 w8 := KD.below _ QX.out B.size
    clear G8 O9
    replace c2_0 := KD.cell c2_0 (Or.inl QW.out)
    replace c2_1 := KD.cell c2_1 (Or.inl QW.out)
    replace c2_2 := KD.cell c2_2 (Or.inl QW.out)
    replace c2_3 := KD.cell c2_3 (Or.inl QW.out)
    replace c2_4 := KD.cell c2_4 (Or.inl QW.out)
    replace c2_5 := KD.cell c2_5 (Or.inl QW.out)
    replace y2_0 := KD.fr y2_0 (Or.inl QW.out) (Nat.lt_of_lt_of_le QW.out QZ.out)
    replace y2_1 := KD.fr y2_1 (Or.inl QW.out) (Nat.lt_of_lt_of_le QW.out QZ.out)
    replace y2_2 := KD.fr y2_2 (Or.inl QW.out) (Nat.lt_of_lt_of_le QW.out QZ.out)
    replace y2_3 := KD.fr y2_3 (Or.inl QW.out) (Nat.lt_of_lt_of_le QW.out QZ.out)
    replace y2_4 := KD.fr y2_4 (Or.inl QW.out) (Nat.lt_of_lt_of_le QW.out QZ.out)
    replace y2_5 := KD.fr y2_5 (Or.inl QW.out) (Nat.lt_of_lt_of_le QW.out QZ.out)
    replace x0 := KD.cell x0 (Or.inl XS.out)
    replace x1 := KD.cell x1 (Or.inl XS.out)
    replace x2 := KD.cell x2 (Or.inl XS.out)
    replace x3 := KD.cell x3 (Or.inl XS.out)
    have F8 := F7.kept KD (Or.inl QL.out)
    replace B := B.trans KB
    rw [trips_erase vs m (by omega)] at O8
    obtain ⟨va, vc, rfl, V8⟩ := RowAt.of_owned O8
    have QY : Hid (W6.heap.size ≤ w8.heap.size) := Nat.le_trans QZ.out KD.size
    clear KD KB O8
    clear c0_0
    clear c0_1
    clear c0_2
    clear c1_0
    clear c1_1
    clear c1_2
    clear c1_3
    clear e0 e1 e2
    go_wp2
    refine bodyPost_ret (v := .agg #[.int .i64 0, .int .i64 0, .int .i64 0, .slice sn s1 s2, .slice sb' s3 s4, .slice va (nv - 1) vc]) (by simp [results, Try.results100, go_sem, c2_0, c2_1, c2_2, c2_3, c2_4, c2_5]) rfl ?_
    have KZ : Kept b2 (b2 + 1) w8 ((((((w8.setCell ⟨b2, 0, none⟩ (.int .i64 0)).setCell ⟨b2, 1, none⟩ (.int .i64 0)).setCell ⟨b2, 2, none⟩ (.int .i64 0)).setCell ⟨b2, 3, none⟩ (.slice sn s1 s2)).setCell ⟨b2, 4, none⟩ (.slice sb' s3 s4)).setCell ⟨b2, 5, none⟩ (.slice va (nv - 1) vc)) := by refine Kept.setCell (Kept.setCell (Kept.setCell (Kept.setCell (Kept.setCell (Kept.setCell (Kept.refl _ _ _) ?_ ?_ _) ?_ ?_ _) ?_ ?_ _) ?_ ?_ _) ?_ ?_ _) ?_ ?_ _ <;> simp
    have q1 := KZ.size
    have q2 := QL.out
    have q3 := QY.out
    exact ⟨_, _, _, _, _, _, _, _, _, _, _, _, _, _, rfl, ⟨F8.kept KZ (Or.inr Q5.out), V8.kept KZ (Or.inr QW.out), Or.inl q2, QB.out, QX.out, by omega, q1⟩, B.trans (KZ.below _ (Nat.le_trans O0.out (Nat.le_of_lt (Nat.lt_trans O1.out O2.out))) B.size)⟩

end Go.Proofs.Ytikjndmgljkhhaa

/- Chapter 5: a read, by the program. -/
namespace Go.Proofs.Ytikjndmgljkhhaa
open Go.RowKit

set_option maxRecDepth 20000 in
set_option maxHeartbeats 2000000 in
theorem readVol_is {o o2 : Bool} {l u l2 u2 : Nat} (an : Option Addr) (nn cn : Nat) (ab : Option Addr) (nb cb : Nat) (av : Option Addr) (nv cv : Nat) (K : Nat → KS) (f : Fo) (vs : List Vo) (w : World) (h : FoAt w o l u an nn cn ab nb cb K f) (hv : RowAt w o2 l2 u2 3 av nv cv (trips vs)) (hn : nn ≤ 1048576) (hb : nb ≤ 1048576) (hK : ∀ i, i < nn → (K i).2.1 ≤ 1048576) (hvn : nv ≤ 1048576) (m : Nat) (hm : m < nv) (ok ov oa ox : Int) (cd vl : Int) (hc : lookCode f (vs.getD m vo0).2.2 oa = cd) (hl : lookVal f (vs.getD m vo0).2.2 oa = vl) :
    Calls Try.prog 98 #[.agg #[.slice an nn cn, .slice ab nb cb, .slice av nv cv], .int .i64 (m : Int), .agg #[.int .i64 ok, .int .i64 ov, .int .i64 oa, .int .i64 ox]] w fun e w' => PoRes w w' e 0 cd vl f vs := by
  have hnn : nn ≤ 2097152 := by omega
  have hnb : nb ≤ 2097152 := by omega
  have HKK : Hid (∀ i, i < nn → (K i).2.1 ≤ 2097152) := fun i hi => Nat.le_trans (hK i hi) (by omega)
  have hvl := hv.nTrips
  have hlm : (m : Int) < (nv : Int) := by omega
  obtain ⟨b, off, rfl, _, _, hbs, e0, e1, e2, _⟩ := hv.trip hm
  have HBS : Hid _ := hbs
  clear hbs
  obtain ⟨⟨id, qu, rt⟩, hvo⟩ : ∃ v, vs.getD m vo0 = v := ⟨_, rfl⟩
  rw [hvo] at e0 e1 e2
  simp only at e0 e1 e2
  rw [hvo] at hc hl
  simp only at hc hl
  clear hvo
  have HC : Hid _ := hc
  have HL : Hid _ := hl
  clear hc hl
  go_enter Try.func98, Try.ntmps98
  go_wp2_with (first | ((with_reducible refine box_new 31 #[.slice an nn cn, .slice ab nb cb, .slice (some ⟨b, off, none⟩) nv cv] rfl ?_); intro b0 W0 N0; have O0 : Hid (w.heap.size ≤ b0) := N0.ge; have B := N0.below; replace e0 := cell_later N0.below e0; replace e1 := cell_later N0.below e1; replace e2 := cell_later N0.below e2; have H0 : Hid (b0 < W0.heap.size) := N0.lt; have c0_0 : W0.cell? ⟨b0, 0, none⟩ = some (.slice an nn cn) := N0.cell 0 _ rfl; have c0_1 : W0.cell? ⟨b0, 1, none⟩ = some (.slice ab nb cb) := N0.cell 1 _ rfl; have c0_2 : W0.cell? ⟨b0, 2, none⟩ = some (.slice (some ⟨b, off, none⟩) nv cv) := N0.cell 2 _ rfl; clear N0) | ((with_reducible refine box_new 37 #[.int .i64 ok, .int .i64 ov, .int .i64 oa, .int .i64 ox] rfl ?_); intro b1 W1 N1; have O1 : Hid (b0 < b1) := Nat.lt_of_lt_of_le H0.out N1.ge; replace e0 := cell_later N1.below e0; replace e1 := cell_later N1.below e1; replace e2 := cell_later N1.below e2; replace c0_0 := cell_later N1.below c0_0; replace c0_1 := cell_later N1.below c0_1; replace c0_2 := cell_later N1.below c0_2; replace H0 : Hid (b0 < W1.heap.size) := Nat.lt_of_lt_of_le H0.out N1.below.size; replace B := below_next B N1.below; have H1 : Hid (b1 < W1.heap.size) := N1.lt; have c1_0 : W1.cell? ⟨b1, 0, none⟩ = some (.int .i64 ok) := N1.cell 0 _ rfl; have c1_1 : W1.cell? ⟨b1, 1, none⟩ = some (.int .i64 ov) := N1.cell 1 _ rfl; have c1_2 : W1.cell? ⟨b1, 2, none⟩ = some (.int .i64 oa) := N1.cell 2 _ rfl; have c1_3 : W1.cell? ⟨b1, 3, none⟩ = some (.int .i64 ox) := N1.cell 3 _ rfl; clear N1) | ((with_reducible refine alloc_new 33 #[.int .i64 0, .int .i64 0, .int .i64 0, .slice none 0 0, .slice none 0 0, .slice none 0 0] (fun _ => by kernel_rfl) ?_); intro b2 W2 N2; have O2 : Hid (b1 < b2) := Nat.lt_of_lt_of_le H1.out N2.ge; replace e0 := cell_later N2.below e0; replace e1 := cell_later N2.below e1; replace e2 := cell_later N2.below e2; replace c0_0 := cell_later N2.below c0_0; replace c0_1 := cell_later N2.below c0_1; replace c0_2 := cell_later N2.below c0_2; replace H0 : Hid (b0 < W2.heap.size) := Nat.lt_of_lt_of_le H0.out N2.below.size; replace c1_0 := cell_later N2.below c1_0; replace c1_1 := cell_later N2.below c1_1; replace c1_2 := cell_later N2.below c1_2; replace c1_3 := cell_later N2.below c1_3; replace H1 : Hid (b1 < W2.heap.size) := Nat.lt_of_lt_of_le H1.out N2.below.size; replace B := below_next B N2.below; have H2 : Hid (b2 < W2.heap.size) := N2.lt; have c2_0 : W2.cell? ⟨b2, 0, none⟩ = some (.int .i64 0) := N2.cell 0 _ rfl; have c2_1 : W2.cell? ⟨b2, 1, none⟩ = some (.int .i64 0) := N2.cell 1 _ rfl; have c2_2 : W2.cell? ⟨b2, 2, none⟩ = some (.int .i64 0) := N2.cell 2 _ rfl; have c2_3 : W2.cell? ⟨b2, 3, none⟩ = some (.slice none 0 0) := N2.cell 3 _ rfl; have c2_4 : W2.cell? ⟨b2, 4, none⟩ = some (.slice none 0 0) := N2.cell 4 _ rfl; have c2_5 : W2.cell? ⟨b2, 5, none⟩ = some (.slice none 0 0) := N2.cell 5 _ rfl; have y2_0 : W2.frozen? ⟨b2, 0, none⟩ = false := N2.froz 0; have y2_1 : W2.frozen? ⟨b2, 1, none⟩ = false := N2.froz 1; have y2_2 : W2.frozen? ⟨b2, 2, none⟩ = false := N2.froz 2; have y2_3 : W2.frozen? ⟨b2, 3, none⟩ = false := N2.froz 3; have y2_4 : W2.frozen? ⟨b2, 4, none⟩ = false := N2.froz 4; have y2_5 : W2.frozen? ⟨b2, 5, none⟩ = false := N2.froz 5; clear N2) | fail)
  have n02 : b0 ≠ b2 := by have q1 := O1.out; have q2 := O2.out; omega
  have n12 : b1 ≠ b2 := by have q2 := O2.out; omega
  have nb2 : b ≠ b2 := by have q0 := O0.out; have q1 := O1.out; have q2 := O2.out; have q3 := HBS.out; omega
  have HX2 : Hid (b2 < W2.heap.size) := H2.out
  have HXB : Hid (w.heap.size ≤ W2.heap.size) := B.size
  have NZ := newB_mk W2 #[.int .i64 0, .int .i64 0] 40
  have BA : Below W2.drew.heap.size W2.drew (W2.alloc (.cells #[.int .i64 0, .int .i64 0] 40)).drew := ((Below.refl _ _).alloc (Nat.le_refl _) _ : Below W2.drew.heap.size W2.drew (W2.drew.alloc (.cells #[.int .i64 0, .int .i64 0] 40)))
  have z0 : (W2.alloc (.cells #[.int .i64 0, .int .i64 0] 40)).drew.cell? ⟨W2.heap.size, 0, none⟩ = some (.int .i64 0) := NZ.cell 0 _ rfl
  have z1 : (W2.alloc (.cells #[.int .i64 0, .int .i64 0] 40)).drew.cell? ⟨W2.heap.size, 1, none⟩ = some (.int .i64 0) := NZ.cell 1 _ rfl
  have f0 : (W2.alloc (.cells #[.int .i64 0, .int .i64 0] 40)).drew.frozen? ⟨W2.heap.size, 0, none⟩ = false := NZ.froz 0
  have f1 : (W2.alloc (.cells #[.int .i64 0, .int .i64 0] 40)).drew.frozen? ⟨W2.heap.size, 1, none⟩ = false := NZ.froz 1
  have HZ : Hid (W2.heap.size < (W2.alloc (.cells #[.int .i64 0, .int .i64 0] 40)).drew.heap.size) := NZ.lt
  clear NZ
  have HI0 : Hid (b0 ≠ W2.heap.size) := Nat.ne_of_lt H0.out
  have HI1 : Hid (b1 ≠ W2.heap.size) := Nat.ne_of_lt H1.out
  have HI2 : Hid (b2 ≠ W2.heap.size) := Nat.ne_of_lt H2.out
  have HIB : Hid (b ≠ W2.heap.size) := by show _ ≠ _; have q1 := HBS.out; have q2 := B.size; omega
  have D : Below W2.heap.size W2 W2.drew := (Below.refl _ _).drew
  replace e0 := cell_later D e0
  replace e1 := cell_later D e1
  replace e2 := cell_later D e2
  replace c0_0 := cell_later D c0_0
  replace c0_1 := cell_later D c0_1
  replace c0_2 := cell_later D c0_2
  replace H0 : Hid (b0 < W2.drew.heap.size) := Nat.lt_of_lt_of_le H0.out D.size
  replace c1_0 := cell_later D c1_0
  replace c1_1 := cell_later D c1_1
  replace c1_2 := cell_later D c1_2
  replace c1_3 := cell_later D c1_3
  replace H1 : Hid (b1 < W2.drew.heap.size) := Nat.lt_of_lt_of_le H1.out D.size
  replace c2_0 := cell_later D c2_0
  replace c2_1 := cell_later D c2_1
  replace c2_2 := cell_later D c2_2
  replace c2_3 := cell_later D c2_3
  replace c2_4 := cell_later D c2_4
  replace c2_5 := cell_later D c2_5
  replace y2_0 := frozen_later D H2.out y2_0
  replace y2_1 := frozen_later D H2.out y2_1
  replace y2_2 := frozen_later D H2.out y2_2
  replace y2_3 := frozen_later D H2.out y2_3
  replace y2_4 := frozen_later D H2.out y2_4
  replace y2_5 := frozen_later D H2.out y2_5
  replace H2 : Hid (b2 < W2.drew.heap.size) := Nat.lt_of_lt_of_le H2.out D.size
  replace B := below_next B D
  clear D
  go_region_held3 (fun w' => w'.cell? ⟨b0, 0, none⟩ = some (.slice an nn cn) ∧ w'.cell? ⟨b0, 1, none⟩ = some (.slice ab nb cb) ∧ w'.cell? ⟨b0, 2, none⟩ = some (.slice (some ⟨b, off, none⟩) nv cv) ∧ w'.cell? ⟨b, off + m * 3 + 2, none⟩ = some (.int .i64 rt) ∧ w'.cell? ⟨b1, 2, none⟩ = some (.int .i64 oa)) (first | with_reducible exact ⟨c0_0, c0_1, c0_2, e2, c1_2⟩ | with_reducible exact ⟨cell_later BA c0_0, cell_later BA c0_1, cell_later BA c0_2, cell_later BA e2, cell_later BA c1_2⟩ | with_reducible exact ⟨cell_later BZ c0_0, cell_later BZ c0_1, cell_later BZ c0_2, cell_later BZ e2, cell_later BZ c1_2⟩ | with_reducible exact ⟨cell_later BR c0_0, cell_later BR c0_1, cell_later BR c0_2, cell_later BR e2, cell_later BR c1_2⟩ | with_reducible exact ⟨SB.at c0_0 HI0.out, SB.at c0_1 HI0.out, SB.at c0_2 HI0.out, SB.at e2 HIB.out, SB.at c1_2 HI1.out⟩)
    (first | (go_at_call 161; (with_reducible refine (implLook_is an nn cn ab nb cb K f _ (h.below B) hnn hnb HKK.out rt oa cd vl HC.out HL.out).mono ?_); rintro e w5 ⟨rfl, B5⟩; have HX5 : Hid (b2 < w5.heap.size) := Nat.lt_of_lt_of_le H2.out B5.size; replace e0 := cell_later B5 e0; replace e1 := cell_later B5 e1; replace e2 := cell_later B5 e2; replace c0_0 := cell_later B5 c0_0; replace c0_1 := cell_later B5 c0_1; replace c0_2 := cell_later B5 c0_2; replace H0 : Hid (b0 < w5.heap.size) := Nat.lt_of_lt_of_le H0.out B5.size; replace c1_0 := cell_later B5 c1_0; replace c1_1 := cell_later B5 c1_1; replace c1_2 := cell_later B5 c1_2; replace c1_3 := cell_later B5 c1_3; replace H1 : Hid (b1 < w5.heap.size) := Nat.lt_of_lt_of_le H1.out B5.size; replace c2_0 := cell_later B5 c2_0; replace c2_1 := cell_later B5 c2_1; replace c2_2 := cell_later B5 c2_2; replace c2_3 := cell_later B5 c2_3; replace c2_4 := cell_later B5 c2_4; replace c2_5 := cell_later B5 c2_5; replace y2_0 := frozen_later B5 H2.out y2_0; replace y2_1 := frozen_later B5 H2.out y2_1; replace y2_2 := frozen_later B5 H2.out y2_2; replace y2_3 := frozen_later B5 H2.out y2_3; replace y2_4 := frozen_later B5 H2.out y2_4; replace y2_5 := frozen_later B5 H2.out y2_5; replace H2 : Hid (b2 < w5.heap.size) := Nat.lt_of_lt_of_le H2.out B5.size; replace B := below_next B B5; have BZ := (newB_mk w5 #[.int .i64 0, .int .i64 0] 40).below; have BR := (newB_mk w5 #[.int .i64 cd, .int .i64 vl] 40).below; clear B5) | (go_at_call 161; (with_reducible refine (implLook_is an nn cn ab nb cb K f _ (h.below (below_next B BA)) hnn hnb HKK.out rt oa cd vl HC.out HL.out).mono ?_); rintro e w5 ⟨rfl, B5⟩; have HX5 : Hid (b2 < w5.heap.size) := Nat.lt_of_lt_of_le (Nat.lt_of_lt_of_le H2.out BA.size) B5.size; replace e0 := cell_later BA e0; replace e1 := cell_later BA e1; replace e2 := cell_later BA e2; replace c0_0 := cell_later BA c0_0; replace c0_1 := cell_later BA c0_1; replace c0_2 := cell_later BA c0_2; replace H0 : Hid (b0 < (W2.alloc (.cells #[.int .i64 0, .int .i64 0] 40)).drew.heap.size) := Nat.lt_of_lt_of_le H0.out BA.size; replace c1_0 := cell_later BA c1_0; replace c1_1 := cell_later BA c1_1; replace c1_2 := cell_later BA c1_2; replace c1_3 := cell_later BA c1_3; replace H1 : Hid (b1 < (W2.alloc (.cells #[.int .i64 0, .int .i64 0] 40)).drew.heap.size) := Nat.lt_of_lt_of_le H1.out BA.size; replace c2_0 := cell_later BA c2_0; replace c2_1 := cell_later BA c2_1; replace c2_2 := cell_later BA c2_2; replace c2_3 := cell_later BA c2_3; replace c2_4 := cell_later BA c2_4; replace c2_5 := cell_later BA c2_5; replace y2_0 := frozen_later BA H2.out y2_0; replace y2_1 := frozen_later BA H2.out y2_1; replace y2_2 := frozen_later BA H2.out y2_2; replace y2_3 := frozen_later BA H2.out y2_3; replace y2_4 := frozen_later BA H2.out y2_4; replace y2_5 := frozen_later BA H2.out y2_5; replace H2 : Hid (b2 < (W2.alloc (.cells #[.int .i64 0, .int .i64 0] 40)).drew.heap.size) := Nat.lt_of_lt_of_le H2.out BA.size; replace B := below_next B BA; replace e0 := cell_later B5 e0; replace e1 := cell_later B5 e1; replace e2 := cell_later B5 e2; replace c0_0 := cell_later B5 c0_0; replace c0_1 := cell_later B5 c0_1; replace c0_2 := cell_later B5 c0_2; replace H0 : Hid (b0 < w5.heap.size) := Nat.lt_of_lt_of_le H0.out B5.size; replace c1_0 := cell_later B5 c1_0; replace c1_1 := cell_later B5 c1_1; replace c1_2 := cell_later B5 c1_2; replace c1_3 := cell_later B5 c1_3; replace H1 : Hid (b1 < w5.heap.size) := Nat.lt_of_lt_of_le H1.out B5.size; replace c2_0 := cell_later B5 c2_0; replace c2_1 := cell_later B5 c2_1; replace c2_2 := cell_later B5 c2_2; replace c2_3 := cell_later B5 c2_3; replace c2_4 := cell_later B5 c2_4; replace c2_5 := cell_later B5 c2_5; replace y2_0 := frozen_later B5 H2.out y2_0; replace y2_1 := frozen_later B5 H2.out y2_1; replace y2_2 := frozen_later B5 H2.out y2_2; replace y2_3 := frozen_later B5 H2.out y2_3; replace y2_4 := frozen_later B5 H2.out y2_4; replace y2_5 := frozen_later B5 H2.out y2_5; replace H2 : Hid (b2 < w5.heap.size) := Nat.lt_of_lt_of_le H2.out B5.size; replace B := below_next B B5; replace f0 := frozen_later B5 HZ.out f0; replace f1 := frozen_later B5 HZ.out f1; replace z0 := cell_later B5 z0; replace z1 := cell_later B5 z1; have SB : SetB w5 ((w5.setCell ⟨W2.heap.size, 0, none⟩ (.int .i64 cd)).setCell ⟨W2.heap.size, 1, none⟩ (.int .i64 vl)) W2.heap.size [.int .i64 cd, .int .i64 vl] := setB_cells (cs := [.int .i64 cd, .int .i64 vl]) (by simp) (there2 z0 z1 f0 f1); clear B5))
  · have NR := newB_mk w5 #[.int .i64 cd, .int .i64 vl] 40
    obtain ⟨W6, hW6⟩ : ∃ W6, W6 = w5.alloc (.cells #[.int .i64 cd, .int .i64 vl] 40) := ⟨_, rfl⟩
    rw [← hW6] at NR
    rw [← hW6]
    clear hW6
    replace e0 := cell_later NR.below e0
    replace e1 := cell_later NR.below e1
    replace e2 := cell_later NR.below e2
    replace c0_0 := cell_later NR.below c0_0
    replace c0_1 := cell_later NR.below c0_1
    replace c0_2 := cell_later NR.below c0_2
    replace H0 : Hid (b0 < W6.heap.size) := Nat.lt_of_lt_of_le H0.out NR.below.size
    replace c1_0 := cell_later NR.below c1_0
    replace c1_1 := cell_later NR.below c1_1
    replace c1_2 := cell_later NR.below c1_2
    replace c1_3 := cell_later NR.below c1_3
    replace H1 : Hid (b1 < W6.heap.size) := Nat.lt_of_lt_of_le H1.out NR.below.size
    replace c2_0 := cell_later NR.below c2_0
    replace c2_1 := cell_later NR.below c2_1
    replace c2_2 := cell_later NR.below c2_2
    replace c2_3 := cell_later NR.below c2_3
    replace c2_4 := cell_later NR.below c2_4
    replace c2_5 := cell_later NR.below c2_5
    replace y2_0 := frozen_later NR.below H2.out y2_0
    replace y2_1 := frozen_later NR.below H2.out y2_1
    replace y2_2 := frozen_later NR.below H2.out y2_2
    replace y2_3 := frozen_later NR.below H2.out y2_3
    replace y2_4 := frozen_later NR.below H2.out y2_4
    replace y2_5 := frozen_later NR.below H2.out y2_5
    replace H2 : Hid (b2 < W6.heap.size) := Nat.lt_of_lt_of_le H2.out NR.below.size
    replace B := below_next B NR.below
    have x0 : W6.cell? ⟨w5.heap.size, 0, none⟩ = some (.int .i64 cd) := NR.cell 0 _ rfl
    have x1 : W6.cell? ⟨w5.heap.size, 1, none⟩ = some (.int .i64 vl) := NR.cell 1 _ rfl
    have XN : Hid (b2 < w5.heap.size) := by show _ < _; have q1 := NR.sz; have q2 := HX5.out; omega
    obtain ⟨xb, hxb⟩ : ∃ xb, xb = w5.heap.size := ⟨_, rfl⟩
    rw [← hxb] at XN x0 x1
    rw [← hxb]
    clear hxb NR
    have XS0 : Hid (xb < W6.heap.size) := World.block_lt_of_cell? W6 ⟨xb, 0, none⟩ x0
    have nx2 : xb ≠ b2 := by have q := XN.out; omega
    go_wp2_with fail
    have D : Below W6.heap.size W6 W6.drew := (Below.refl _ _).drew
    replace e0 := cell_later D e0
    replace e1 := cell_later D e1
    replace e2 := cell_later D e2
    replace c0_0 := cell_later D c0_0
    replace c0_1 := cell_later D c0_1
    replace c0_2 := cell_later D c0_2
    replace H0 : Hid (b0 < W6.drew.heap.size) := Nat.lt_of_lt_of_le H0.out D.size
    replace c1_0 := cell_later D c1_0
    replace c1_1 := cell_later D c1_1
    replace c1_2 := cell_later D c1_2
    replace c1_3 := cell_later D c1_3
    replace H1 : Hid (b1 < W6.drew.heap.size) := Nat.lt_of_lt_of_le H1.out D.size
    replace c2_0 := cell_later D c2_0
    replace c2_1 := cell_later D c2_1
    replace c2_2 := cell_later D c2_2
    replace c2_3 := cell_later D c2_3
    replace c2_4 := cell_later D c2_4
    replace c2_5 := cell_later D c2_5
    replace y2_0 := frozen_later D H2.out y2_0
    replace y2_1 := frozen_later D H2.out y2_1
    replace y2_2 := frozen_later D H2.out y2_2
    replace y2_3 := frozen_later D H2.out y2_3
    replace y2_4 := frozen_later D H2.out y2_4
    replace y2_5 := frozen_later D H2.out y2_5
    replace H2 : Hid (b2 < W6.drew.heap.size) := Nat.lt_of_lt_of_le H2.out D.size
    replace B := below_next B D
    clear D
    replace x0 := cell_later ((Below.refl _ _).drew : Below W6.heap.size W6 W6.drew) x0
    replace x1 := cell_later ((Below.refl _ _).drew : Below W6.heap.size W6 W6.drew) x1
    go_region_held3 (fun w' => w'.cell? ⟨b0, 0, none⟩ = some (.slice an nn cn) ∧ w'.cell? ⟨b0, 1, none⟩ = some (.slice ab nb cb) ∧ w'.cell? ⟨b0, 2, none⟩ = some (.slice (some ⟨b, off, none⟩) nv cv) ∧ w'.cell? ⟨xb, 0, none⟩ = some (.int .i64 cd) ∧ w'.cell? ⟨xb, 1, none⟩ = some (.int .i64 vl)) (first | with_reducible exact ⟨c0_0, c0_1, c0_2, x0, x1⟩ | with_reducible exact ⟨(six_other _ _ _ _ _ _ _ _ _ _ n02).trans c0_0, (six_other _ _ _ _ _ _ _ _ _ _ n02).trans c0_1, (six_other _ _ _ _ _ _ _ _ _ _ n02).trans c0_2, (six_other _ _ _ _ _ _ _ _ _ _ nx2).trans x0, (six_other _ _ _ _ _ _ _ _ _ _ nx2).trans x1⟩)
      (first | (go_at_call 94; (with_reducible refine (copyPool_is an nn cn ab nb cb (some ⟨b, off, none⟩) nv cv K f vs _ (h.below B) (hv.below B) hn hb hK hvn).mono ?_); rintro e w7 ⟨ra, rc, qb, qc, va, vc, l1, u1, l2, u2, K', rfl, P, k1, k2, BB⟩; clear k1 k2; have Q1 : Hid (b2 < l1) := Nat.lt_of_lt_of_le H2.out P.lo1; have Q2 : Hid (b2 < l2) := Nat.lt_of_lt_of_le H2.out P.lo2; replace P := P.from (w := w) B.size; replace x0 := cell_later BB x0; replace x1 := cell_later BB x1; replace e0 := cell_later BB e0; replace e1 := cell_later BB e1; replace e2 := cell_later BB e2; replace c0_0 := cell_later BB c0_0; replace c0_1 := cell_later BB c0_1; replace c0_2 := cell_later BB c0_2; replace H0 : Hid (b0 < w7.heap.size) := Nat.lt_of_lt_of_le H0.out BB.size; replace c1_0 := cell_later BB c1_0; replace c1_1 := cell_later BB c1_1; replace c1_2 := cell_later BB c1_2; replace c1_3 := cell_later BB c1_3; replace H1 : Hid (b1 < w7.heap.size) := Nat.lt_of_lt_of_le H1.out BB.size; replace c2_0 := cell_later BB c2_0; replace c2_1 := cell_later BB c2_1; replace c2_2 := cell_later BB c2_2; replace c2_3 := cell_later BB c2_3; replace c2_4 := cell_later BB c2_4; replace c2_5 := cell_later BB c2_5; replace y2_0 := frozen_later BB H2.out y2_0; replace y2_1 := frozen_later BB H2.out y2_1; replace y2_2 := frozen_later BB H2.out y2_2; replace y2_3 := frozen_later BB H2.out y2_3; replace y2_4 := frozen_later BB H2.out y2_4; replace y2_5 := frozen_later BB H2.out y2_5; replace H2 : Hid (b2 < w7.heap.size) := Nat.lt_of_lt_of_le H2.out BB.size; replace B := below_next B BB; clear BB))
    go_wp2
    refine bodyPost_ret (v := .agg #[.int .i64 0, .int .i64 cd, .int .i64 vl, .slice ra nn rc, .slice qb nb qc, .slice va nv vc]) (by simp [results, Try.results98, go_sem, c2_0, c2_1, c2_2, c2_3, c2_4, c2_5]) rfl ?_
    have KZ : Kept b2 (b2 + 1) w7 ((((((w7.setCell ⟨b2, 0, none⟩ (.int .i64 0)).setCell ⟨b2, 1, none⟩ (.int .i64 cd)).setCell ⟨b2, 2, none⟩ (.int .i64 vl)).setCell ⟨b2, 3, none⟩ (.slice ra nn rc)).setCell ⟨b2, 4, none⟩ (.slice qb nb qc)).setCell ⟨b2, 5, none⟩ (.slice va nv vc)) := by refine Kept.setCell (Kept.setCell (Kept.setCell (Kept.setCell (Kept.setCell (Kept.setCell (Kept.refl _ _ _) ?_ ?_ _) ?_ ?_ _) ?_ ?_ _) ?_ ?_ _) ?_ ?_ _) ?_ ?_ _ <;> simp
    exact ⟨_, _, _, _, _, _, _, _, _, _, _, _, _, _, rfl, P.keep KZ (Or.inr Q1.out) (Or.inr Q2.out), B.trans (KZ.below _ (Nat.le_trans O0.out (Nat.le_of_lt (Nat.lt_trans O1.out O2.out))) B.size)⟩
  · obtain ⟨W6, hW6⟩ : ∃ W6, W6 = ((w5.setCell ⟨W2.heap.size, 0, none⟩ (.int .i64 cd)).setCell ⟨W2.heap.size, 1, none⟩ (.int .i64 vl)) := ⟨_, rfl⟩
    rw [← hW6] at SB
    rw [← hW6]
    clear hW6
    replace e0 := SB.at e0 HIB.out
    replace e1 := SB.at e1 HIB.out
    replace e2 := SB.at e2 HIB.out
    replace c0_0 := SB.at c0_0 HI0.out
    replace c0_1 := SB.at c0_1 HI0.out
    replace c0_2 := SB.at c0_2 HI0.out
    replace c1_0 := SB.at c1_0 HI1.out
    replace c1_1 := SB.at c1_1 HI1.out
    replace c1_2 := SB.at c1_2 HI1.out
    replace c1_3 := SB.at c1_3 HI1.out
    replace c2_0 := SB.at c2_0 HI2.out
    replace c2_1 := SB.at c2_1 HI2.out
    replace c2_2 := SB.at c2_2 HI2.out
    replace c2_3 := SB.at c2_3 HI2.out
    replace c2_4 := SB.at c2_4 HI2.out
    replace c2_5 := SB.at c2_5 HI2.out
    replace y2_0 := SB.fr y2_0
    replace y2_1 := SB.fr y2_1
    replace y2_2 := SB.fr y2_2
    replace y2_3 := SB.fr y2_3
    replace y2_4 := SB.fr y2_4
    replace y2_5 := SB.fr y2_5
    replace H0 : Hid (b0 < W6.heap.size) := Nat.lt_of_lt_of_le H0.out SB.kept.size
    replace H1 : Hid (b1 < W6.heap.size) := Nat.lt_of_lt_of_le H1.out SB.kept.size
    replace H2 : Hid (b2 < W6.heap.size) := Nat.lt_of_lt_of_le H2.out SB.kept.size
    have XN : Hid (b2 < W2.heap.size) := HX2.out
    replace B := B.trans (SB.kept.below _ HXB.out B.size)
    have x0 : W6.cell? ⟨W2.heap.size, 0, none⟩ = some (.int .i64 cd) := SB.cell 0 _ rfl
    have x1 : W6.cell? ⟨W2.heap.size, 1, none⟩ = some (.int .i64 vl) := SB.cell 1 _ rfl
    obtain ⟨xb, hxb⟩ : ∃ xb, xb = W2.heap.size := ⟨_, rfl⟩
    rw [← hxb] at XN x0 x1
    rw [← hxb]
    clear hxb SB
    have XS0 : Hid (xb < W6.heap.size) := World.block_lt_of_cell? W6 ⟨xb, 0, none⟩ x0
    have nx2 : xb ≠ b2 := by have q := XN.out; omega
    go_wp2_with fail
    have D : Below W6.heap.size W6 W6.drew := (Below.refl _ _).drew
    replace e0 := cell_later D e0
    replace e1 := cell_later D e1
    replace e2 := cell_later D e2
    replace c0_0 := cell_later D c0_0
    replace c0_1 := cell_later D c0_1
    replace c0_2 := cell_later D c0_2
    replace H0 : Hid (b0 < W6.drew.heap.size) := Nat.lt_of_lt_of_le H0.out D.size
    replace c1_0 := cell_later D c1_0
    replace c1_1 := cell_later D c1_1
    replace c1_2 := cell_later D c1_2
    replace c1_3 := cell_later D c1_3
    replace H1 : Hid (b1 < W6.drew.heap.size) := Nat.lt_of_lt_of_le H1.out D.size
    replace c2_0 := cell_later D c2_0
    replace c2_1 := cell_later D c2_1
    replace c2_2 := cell_later D c2_2
    replace c2_3 := cell_later D c2_3
    replace c2_4 := cell_later D c2_4
    replace c2_5 := cell_later D c2_5
    replace y2_0 := frozen_later D H2.out y2_0
    replace y2_1 := frozen_later D H2.out y2_1
    replace y2_2 := frozen_later D H2.out y2_2
    replace y2_3 := frozen_later D H2.out y2_3
    replace y2_4 := frozen_later D H2.out y2_4
    replace y2_5 := frozen_later D H2.out y2_5
    replace H2 : Hid (b2 < W6.drew.heap.size) := Nat.lt_of_lt_of_le H2.out D.size
    replace B := below_next B D
    clear D
    replace x0 := cell_later ((Below.refl _ _).drew : Below W6.heap.size W6 W6.drew) x0
    replace x1 := cell_later ((Below.refl _ _).drew : Below W6.heap.size W6 W6.drew) x1
    go_region_held3 (fun w' => w'.cell? ⟨b0, 0, none⟩ = some (.slice an nn cn) ∧ w'.cell? ⟨b0, 1, none⟩ = some (.slice ab nb cb) ∧ w'.cell? ⟨b0, 2, none⟩ = some (.slice (some ⟨b, off, none⟩) nv cv) ∧ w'.cell? ⟨xb, 0, none⟩ = some (.int .i64 cd) ∧ w'.cell? ⟨xb, 1, none⟩ = some (.int .i64 vl)) (first | with_reducible exact ⟨c0_0, c0_1, c0_2, x0, x1⟩ | with_reducible exact ⟨(six_other _ _ _ _ _ _ _ _ _ _ n02).trans c0_0, (six_other _ _ _ _ _ _ _ _ _ _ n02).trans c0_1, (six_other _ _ _ _ _ _ _ _ _ _ n02).trans c0_2, (six_other _ _ _ _ _ _ _ _ _ _ nx2).trans x0, (six_other _ _ _ _ _ _ _ _ _ _ nx2).trans x1⟩)
      (first | (go_at_call 94; (with_reducible refine (copyPool_is an nn cn ab nb cb (some ⟨b, off, none⟩) nv cv K f vs _ (h.below B) (hv.below B) hn hb hK hvn).mono ?_); rintro e w7 ⟨ra, rc, qb, qc, va, vc, l1, u1, l2, u2, K', rfl, P, k1, k2, BB⟩; clear k1 k2; have Q1 : Hid (b2 < l1) := Nat.lt_of_lt_of_le H2.out P.lo1; have Q2 : Hid (b2 < l2) := Nat.lt_of_lt_of_le H2.out P.lo2; replace P := P.from (w := w) B.size; replace x0 := cell_later BB x0; replace x1 := cell_later BB x1; replace e0 := cell_later BB e0; replace e1 := cell_later BB e1; replace e2 := cell_later BB e2; replace c0_0 := cell_later BB c0_0; replace c0_1 := cell_later BB c0_1; replace c0_2 := cell_later BB c0_2; replace H0 : Hid (b0 < w7.heap.size) := Nat.lt_of_lt_of_le H0.out BB.size; replace c1_0 := cell_later BB c1_0; replace c1_1 := cell_later BB c1_1; replace c1_2 := cell_later BB c1_2; replace c1_3 := cell_later BB c1_3; replace H1 : Hid (b1 < w7.heap.size) := Nat.lt_of_lt_of_le H1.out BB.size; replace c2_0 := cell_later BB c2_0; replace c2_1 := cell_later BB c2_1; replace c2_2 := cell_later BB c2_2; replace c2_3 := cell_later BB c2_3; replace c2_4 := cell_later BB c2_4; replace c2_5 := cell_later BB c2_5; replace y2_0 := frozen_later BB H2.out y2_0; replace y2_1 := frozen_later BB H2.out y2_1; replace y2_2 := frozen_later BB H2.out y2_2; replace y2_3 := frozen_later BB H2.out y2_3; replace y2_4 := frozen_later BB H2.out y2_4; replace y2_5 := frozen_later BB H2.out y2_5; replace H2 : Hid (b2 < w7.heap.size) := Nat.lt_of_lt_of_le H2.out BB.size; replace B := below_next B BB; clear BB))
    go_wp2
    refine bodyPost_ret (v := .agg #[.int .i64 0, .int .i64 cd, .int .i64 vl, .slice ra nn rc, .slice qb nb qc, .slice va nv vc]) (by simp [results, Try.results98, go_sem, c2_0, c2_1, c2_2, c2_3, c2_4, c2_5]) rfl ?_
    have KZ : Kept b2 (b2 + 1) w7 ((((((w7.setCell ⟨b2, 0, none⟩ (.int .i64 0)).setCell ⟨b2, 1, none⟩ (.int .i64 cd)).setCell ⟨b2, 2, none⟩ (.int .i64 vl)).setCell ⟨b2, 3, none⟩ (.slice ra nn rc)).setCell ⟨b2, 4, none⟩ (.slice qb nb qc)).setCell ⟨b2, 5, none⟩ (.slice va nv vc)) := by refine Kept.setCell (Kept.setCell (Kept.setCell (Kept.setCell (Kept.setCell (Kept.setCell (Kept.refl _ _ _) ?_ ?_ _) ?_ ?_ _) ?_ ?_ _) ?_ ?_ _) ?_ ?_ _) ?_ ?_ _ <;> simp
    exact ⟨_, _, _, _, _, _, _, _, _, _, _, _, _, _, rfl, P.keep KZ (Or.inr Q1.out) (Or.inr Q2.out), B.trans (KZ.below _ (Nat.le_trans O0.out (Nat.le_of_lt (Nat.lt_trans O1.out O2.out))) B.size)⟩

end Go.Proofs.Ytikjndmgljkhhaa

/- Chapter 5: an operation applied, by the program. -/
namespace Go.Proofs.Ytikjndmgljkhhaa
open Go.RowKit

theorem PoIs.nil {w w' : World} (h : w.heap.size ≤ w'.heap.size) : PoIs w w' none 0 0 none 0 0 none 0 0 w'.heap.size w'.heap.size w'.heap.size w'.heap.size (fun _ => (none, 0, 0)) ([], []) [] :=
  ⟨FoAt.nil _ _ _ _, RowAt.nil _ _ _ _ _, Or.inl (Nat.le_refl _), h, h, Nat.le_refl _, Nat.le_refl _⟩
theorem spot_nat {a : Int} (h : spotB a = true) : ∃ n : Nat, a = n ∧ n ≤ 15 := by
  have h1 : 0 ≤ a ∧ a ≤ 15 := by simpa [spotB] using h
  exact ⟨a.toNat, by omega, by omega⟩
theorem op_ok {k v a x : Int} (h : opF k v a x = 0) : (k = 1 ∧ True) ∨ (k = 2 ∧ ∃ n : Nat, a = n ∧ n ≤ 15) ∨ (k = 3 ∧ ∃ n : Nat, a = n ∧ n ≤ 15) ∨ (k = 4 ∧ ∃ n : Nat, a = n ∧ n ≤ 15) ∨ (k = 5 ∧ True) ∨ (k = 6 ∧ True) := by
  unfold opF at h
  split at h
  case isFalse => exact absurd h (by decide)
  case isTrue hk =>
    split at h
    case isFalse => exact absurd h (by decide)
    case isTrue hc =>
      have hs : opAt k = true → ∃ n : Nat, a = n ∧ n ≤ 15 := fun e => by
        rw [e] at hc
        simp at hc
        exact spot_nat hc.1.2
      rcases (by omega : k = 1 ∨ k = 2 ∨ k = 3 ∨ k = 4 ∨ k = 5 ∨ k = 6) with rfl | rfl | rfl | rfl | rfl | rfl
      · exact Or.inl ⟨rfl, trivial⟩
      · exact Or.inr (Or.inl ⟨rfl, hs rfl⟩)
      · exact Or.inr (Or.inr (Or.inl ⟨rfl, hs rfl⟩))
      · exact Or.inr (Or.inr (Or.inr (Or.inl ⟨rfl, hs rfl⟩)))
      · exact Or.inr (Or.inr (Or.inr (Or.inr (Or.inl ⟨rfl, trivial⟩))))
      · exact Or.inr (Or.inr (Or.inr (Or.inr (Or.inr ⟨rfl, trivial⟩))))

set_option maxRecDepth 20000 in
set_option maxHeartbeats 2000000 in
theorem implApply_is {o o2 : Bool} {l u l2 u2 : Nat} (an : Option Addr) (nn cn : Nat) (ab : Option Addr) (nb cb : Nat) (av : Option Addr) (nv cv : Nat) (K : Nat → KS) (f : Fo) (vs : List Vo) (w : World) (h : FoAt w o l u an nn cn ab nb cb K f) (hv : RowAt w o2 l2 u2 3 av nv cv (trips vs)) (hn : nn ≤ 1048576) (hb : nb ≤ 1048576) (hK : ∀ i, i < nn → (K i).2.1 ≤ 1048576) (hvn : nv ≤ 1048576) (ok ov oa ox : Int) (c : Int) (d : Int × Int × Fo × List Vo) (hc : applyC f vs ok ov oa ox = c) (hd : applyA f vs ok ov oa ox = d) :
    Calls Try.prog 12 #[.agg #[.slice an nn cn, .slice ab nb cb, .slice av nv cv], .agg #[.int .i64 ok, .int .i64 ov, .int .i64 oa, .int .i64 ox]] w fun e w' => PoRes w w' e c d.1 d.2.1 d.2.2.1 d.2.2.2 := by
  have hnn : nn ≤ 2097152 := by omega
  have hnb : nb ≤ 2097152 := by omega
  have HKK : Hid (∀ i, i < nn → (K i).2.1 ≤ 2097152) := fun i hi => Nat.le_trans (hK i hi) (by omega)
  have hvl := hv.nTrips
  obtain ⟨pf, hpf⟩ : ∃ pf, poFault f vs = pf := ⟨_, rfl⟩
  obtain ⟨of, hof⟩ : ∃ of, opF ok ov oa ox = of := ⟨_, rfl⟩
  have HC : Hid ((if pf = 0 then of else pf) = c) := by show _ = _; rw [← hc, applyC, hpf, hof]
  have HD : Hid ((if c = 0 then applyR f vs ok ov oa ox else (0, 0, ([], []), [])) = d) := by show _ = _; rw [← hd, applyA, hc]
  have HPF : Hid _ := hpf
  have HOF : Hid _ := hof
  clear hc hd hpf hof
  go_enter Try.func12, Try.ntmps12
  go_wp2_with (first | ((with_reducible refine box_new 31 #[.slice an nn cn, .slice ab nb cb, .slice av nv cv] rfl ?_); intro b0 W0 N0; have O0 : Hid (w.heap.size ≤ b0) := N0.ge; have B := N0.below; have H0 : Hid (b0 < W0.heap.size) := N0.lt; have c0_0 : W0.cell? ⟨b0, 0, none⟩ = some (.slice an nn cn) := N0.cell 0 _ rfl; have c0_1 : W0.cell? ⟨b0, 1, none⟩ = some (.slice ab nb cb) := N0.cell 1 _ rfl; have c0_2 : W0.cell? ⟨b0, 2, none⟩ = some (.slice av nv cv) := N0.cell 2 _ rfl; clear N0) | ((with_reducible refine box_new 37 #[.int .i64 ok, .int .i64 ov, .int .i64 oa, .int .i64 ox] rfl ?_); intro b1 W1 N1; have O1 : Hid (b0 < b1) := Nat.lt_of_lt_of_le H0.out N1.ge; replace c0_0 := cell_later N1.below c0_0; replace c0_1 := cell_later N1.below c0_1; replace c0_2 := cell_later N1.below c0_2; replace H0 : Hid (b0 < W1.heap.size) := Nat.lt_of_lt_of_le H0.out N1.below.size; replace B := below_next B N1.below; have H1 : Hid (b1 < W1.heap.size) := N1.lt; have c1_0 : W1.cell? ⟨b1, 0, none⟩ = some (.int .i64 ok) := N1.cell 0 _ rfl; have c1_1 : W1.cell? ⟨b1, 1, none⟩ = some (.int .i64 ov) := N1.cell 1 _ rfl; have c1_2 : W1.cell? ⟨b1, 2, none⟩ = some (.int .i64 oa) := N1.cell 2 _ rfl; have c1_3 : W1.cell? ⟨b1, 3, none⟩ = some (.int .i64 ox) := N1.cell 3 _ rfl; clear N1) | ((with_reducible refine alloc_new 33 #[.int .i64 0, .int .i64 0, .int .i64 0, .slice none 0 0, .slice none 0 0, .slice none 0 0] (fun _ => by kernel_rfl) ?_); intro b2 W2 N2; have O2 : Hid (b1 < b2) := Nat.lt_of_lt_of_le H1.out N2.ge; replace c0_0 := cell_later N2.below c0_0; replace c0_1 := cell_later N2.below c0_1; replace c0_2 := cell_later N2.below c0_2; replace H0 : Hid (b0 < W2.heap.size) := Nat.lt_of_lt_of_le H0.out N2.below.size; replace c1_0 := cell_later N2.below c1_0; replace c1_1 := cell_later N2.below c1_1; replace c1_2 := cell_later N2.below c1_2; replace c1_3 := cell_later N2.below c1_3; replace H1 : Hid (b1 < W2.heap.size) := Nat.lt_of_lt_of_le H1.out N2.below.size; replace B := below_next B N2.below; have H2 : Hid (b2 < W2.heap.size) := N2.lt; have c2_0 : W2.cell? ⟨b2, 0, none⟩ = some (.int .i64 0) := N2.cell 0 _ rfl; have c2_1 : W2.cell? ⟨b2, 1, none⟩ = some (.int .i64 0) := N2.cell 1 _ rfl; have c2_2 : W2.cell? ⟨b2, 2, none⟩ = some (.int .i64 0) := N2.cell 2 _ rfl; have c2_3 : W2.cell? ⟨b2, 3, none⟩ = some (.slice none 0 0) := N2.cell 3 _ rfl; have c2_4 : W2.cell? ⟨b2, 4, none⟩ = some (.slice none 0 0) := N2.cell 4 _ rfl; have c2_5 : W2.cell? ⟨b2, 5, none⟩ = some (.slice none 0 0) := N2.cell 5 _ rfl; have y2_0 : W2.frozen? ⟨b2, 0, none⟩ = false := N2.froz 0; have y2_1 : W2.frozen? ⟨b2, 1, none⟩ = false := N2.froz 1; have y2_2 : W2.frozen? ⟨b2, 2, none⟩ = false := N2.froz 2; have y2_3 : W2.frozen? ⟨b2, 3, none⟩ = false := N2.froz 3; have y2_4 : W2.frozen? ⟨b2, 4, none⟩ = false := N2.froz 4; have y2_5 : W2.frozen? ⟨b2, 5, none⟩ = false := N2.froz 5; clear N2) | fail)
  refine (implPF_is an nn cn ab nb cb av nv cv K f vs _ (h.below B) (hv.below B) hnn hnb HKK.out (by omega) pf HPF.out).mono ?_
  rintro e w1 ⟨rfl, BB⟩
  replace c0_0 := cell_later BB c0_0
  replace c0_1 := cell_later BB c0_1
  replace c0_2 := cell_later BB c0_2
  replace H0 : Hid (b0 < w1.heap.size) := Nat.lt_of_lt_of_le H0.out BB.size
  replace c1_0 := cell_later BB c1_0
  replace c1_1 := cell_later BB c1_1
  replace c1_2 := cell_later BB c1_2
  replace c1_3 := cell_later BB c1_3
  replace H1 : Hid (b1 < w1.heap.size) := Nat.lt_of_lt_of_le H1.out BB.size
  replace c2_0 := cell_later BB c2_0
  replace c2_1 := cell_later BB c2_1
  replace c2_2 := cell_later BB c2_2
  replace c2_3 := cell_later BB c2_3
  replace c2_4 := cell_later BB c2_4
  replace c2_5 := cell_later BB c2_5
  replace y2_0 := frozen_later BB H2.out y2_0
  replace y2_1 := frozen_later BB H2.out y2_1
  replace y2_2 := frozen_later BB H2.out y2_2
  replace y2_3 := frozen_later BB H2.out y2_3
  replace y2_4 := frozen_later BB H2.out y2_4
  replace y2_5 := frozen_later BB H2.out y2_5
  replace H2 : Hid (b2 < w1.heap.size) := Nat.lt_of_lt_of_le H2.out BB.size
  replace B := below_next B BB
  clear BB
  by_cases h0 : pf = 0
  rotate_left 1
  · have ec : c = pf := HC.out.symm.trans (if_neg h0)
    subst ec
    have ed : d = (0, 0, ([], []), []) := HD.out.symm.trans (if_neg h0)
    subst ed
    have hne : (c != 0) = true := by simp [h0]
    clear HC HD
    go_wp2
    refine bodyPost_ret (v := .agg #[.int .i64 c, .int .i64 0, .int .i64 0, .slice none 0 0, .slice none 0 0, .slice none 0 0]) (by simp [results, Try.results12, go_sem, c2_0, c2_1, c2_2, c2_3, c2_4, c2_5]) rfl ?_
    have KZ : Kept b2 (b2 + 1) w1 ((((((w1.setCell ⟨b2, 0, none⟩ (.int .i64 c)).setCell ⟨b2, 1, none⟩ (.int .i64 0)).setCell ⟨b2, 2, none⟩ (.int .i64 0)).setCell ⟨b2, 3, none⟩ (.slice none 0 0)).setCell ⟨b2, 4, none⟩ (.slice none 0 0)).setCell ⟨b2, 5, none⟩ (.slice none 0 0)) := by refine Kept.setCell (Kept.setCell (Kept.setCell (Kept.setCell (Kept.setCell (Kept.setCell (Kept.refl _ _ _) ?_ ?_ _) ?_ ?_ _) ?_ ?_ _) ?_ ?_ _) ?_ ?_ _) ?_ ?_ _ <;> simp
    exact ⟨_, _, _, _, _, _, _, _, _, _, _, _, _, _, rfl, PoIs.nil (Nat.le_trans B.size KZ.size), B.trans (KZ.below _ (Nat.le_trans O0.out (Nat.le_of_lt (Nat.lt_trans O1.out O2.out))) B.size)⟩
  subst h0
  have HC2 : Hid (of = c) := (if_pos rfl).symm.trans HC.out
  clear HC
  go_wp2_with fail
  refine (implOpF_is ok ov oa ox _ of HOF.out).mono ?_
  rintro e w2 ⟨rfl, BB⟩
  replace c0_0 := cell_later BB c0_0
  replace c0_1 := cell_later BB c0_1
  replace c0_2 := cell_later BB c0_2
  replace H0 : Hid (b0 < w2.heap.size) := Nat.lt_of_lt_of_le H0.out BB.size
  replace c1_0 := cell_later BB c1_0
  replace c1_1 := cell_later BB c1_1
  replace c1_2 := cell_later BB c1_2
  replace c1_3 := cell_later BB c1_3
  replace H1 : Hid (b1 < w2.heap.size) := Nat.lt_of_lt_of_le H1.out BB.size
  replace c2_0 := cell_later BB c2_0
  replace c2_1 := cell_later BB c2_1
  replace c2_2 := cell_later BB c2_2
  replace c2_3 := cell_later BB c2_3
  replace c2_4 := cell_later BB c2_4
  replace c2_5 := cell_later BB c2_5
  replace y2_0 := frozen_later BB H2.out y2_0
  replace y2_1 := frozen_later BB H2.out y2_1
  replace y2_2 := frozen_later BB H2.out y2_2
  replace y2_3 := frozen_later BB H2.out y2_3
  replace y2_4 := frozen_later BB H2.out y2_4
  replace y2_5 := frozen_later BB H2.out y2_5
  replace H2 : Hid (b2 < w2.heap.size) := Nat.lt_of_lt_of_le H2.out BB.size
  replace B := below_next B BB
  clear BB
  obtain rfl := HC2.out
  clear HC2
  by_cases h1 : of = 0
  rotate_left 1
  · have ed : d = (0, 0, ([], []), []) := HD.out.symm.trans (if_neg h1)
    subst ed
    have hne : (of != 0) = true := by simp [h1]
    clear HD
    go_wp2
    refine bodyPost_ret (v := .agg #[.int .i64 of, .int .i64 0, .int .i64 0, .slice none 0 0, .slice none 0 0, .slice none 0 0]) (by simp [results, Try.results12, go_sem, c2_0, c2_1, c2_2, c2_3, c2_4, c2_5]) rfl ?_
    have KZ : Kept b2 (b2 + 1) w2 ((((((w2.setCell ⟨b2, 0, none⟩ (.int .i64 of)).setCell ⟨b2, 1, none⟩ (.int .i64 0)).setCell ⟨b2, 2, none⟩ (.int .i64 0)).setCell ⟨b2, 3, none⟩ (.slice none 0 0)).setCell ⟨b2, 4, none⟩ (.slice none 0 0)).setCell ⟨b2, 5, none⟩ (.slice none 0 0)) := by refine Kept.setCell (Kept.setCell (Kept.setCell (Kept.setCell (Kept.setCell (Kept.setCell (Kept.refl _ _ _) ?_ ?_ _) ?_ ?_ _) ?_ ?_ _) ?_ ?_ _) ?_ ?_ _) ?_ ?_ _ <;> simp
    exact ⟨_, _, _, _, _, _, _, _, _, _, _, _, _, _, rfl, PoIs.nil (Nat.le_trans B.size KZ.size), B.trans (KZ.below _ (Nat.le_trans O0.out (Nat.le_of_lt (Nat.lt_trans O1.out O2.out))) B.size)⟩
  subst h1
  have HD2 : Hid (applyR f vs ok ov oa ox = d) := (if_pos rfl).symm.trans HD.out
  clear HD
  obtain ⟨q, hq⟩ : ∃ q, volPl vs ov = q := ⟨_, rfl⟩
  have HQ : Hid _ := hq
  have HQM : Hid (q = -1 ∨ ∃ m : Nat, q = m ∧ m < nv) := by
    rcases volPl_is vs ov with e | ⟨m, e, e2, _⟩
    · exact Or.inl (hq.symm.trans e)
    · exact Or.inr ⟨m, hq.symm.trans e, by omega⟩
  clear hq
  go_wp2_with fail
  refine (volPlace_is av nv cv vs _ (hv.below B) (by omega) ov q HQ.out).mono ?_
  rintro e w3 ⟨rfl, BB⟩
  replace c0_0 := cell_later BB c0_0
  replace c0_1 := cell_later BB c0_1
  replace c0_2 := cell_later BB c0_2
  replace H0 : Hid (b0 < w3.heap.size) := Nat.lt_of_lt_of_le H0.out BB.size
  replace c1_0 := cell_later BB c1_0
  replace c1_1 := cell_later BB c1_1
  replace c1_2 := cell_later BB c1_2
  replace c1_3 := cell_later BB c1_3
  replace H1 : Hid (b1 < w3.heap.size) := Nat.lt_of_lt_of_le H1.out BB.size
  replace c2_0 := cell_later BB c2_0
  replace c2_1 := cell_later BB c2_1
  replace c2_2 := cell_later BB c2_2
  replace c2_3 := cell_later BB c2_3
  replace c2_4 := cell_later BB c2_4
  replace c2_5 := cell_later BB c2_5
  replace y2_0 := frozen_later BB H2.out y2_0
  replace y2_1 := frozen_later BB H2.out y2_1
  replace y2_2 := frozen_later BB H2.out y2_2
  replace y2_3 := frozen_later BB H2.out y2_3
  replace y2_4 := frozen_later BB H2.out y2_4
  replace y2_5 := frozen_later BB H2.out y2_5
  replace H2 : Hid (b2 < w3.heap.size) := Nat.lt_of_lt_of_le H2.out BB.size
  replace B := below_next B BB
  clear BB
  have HOK := op_ok HOF.out
  rcases HOK with ⟨rfl, -⟩ | ⟨rfl, ⟨a, rfl, ha⟩⟩ | ⟨rfl, ⟨a, rfl, ha⟩⟩ | ⟨rfl, ⟨a, rfl, ha⟩⟩ | ⟨rfl, -⟩ | ⟨rfl, -⟩
  · have n02 : b0 ≠ b2 := by have q1 := O1.out; have q2 := O2.out; omega
    have n12 : b1 ≠ b2 := by have q2 := O2.out; omega
    have HD3 : Hid (((createR f vs ov ox).1, (0 : Int), (createR f vs ov ox).2) = d) := (if_pos rfl).symm.trans HD2.out
    clear HD2
    obtain ⟨e1, he1⟩ : ∃ e1, createR f vs ov ox = e1 := ⟨_, rfl⟩
    rw [he1] at HD3
    obtain rfl := HD3.out
    clear HD3
    have HE : Hid _ := he1
    clear he1
    have hk1 : ((1 : Int) != 1) = false := rfl
    by_cases hqq : q = -1
    · subst hqq
      go_wp2_with fail
      have D : Below w3.heap.size w3 w3.drew := (Below.refl _ _).drew
      replace c0_0 := cell_later D c0_0
      replace c0_1 := cell_later D c0_1
      replace c0_2 := cell_later D c0_2
      replace H0 : Hid (b0 < w3.drew.heap.size) := Nat.lt_of_lt_of_le H0.out D.size
      replace c1_0 := cell_later D c1_0
      replace c1_1 := cell_later D c1_1
      replace c1_2 := cell_later D c1_2
      replace c1_3 := cell_later D c1_3
      replace H1 : Hid (b1 < w3.drew.heap.size) := Nat.lt_of_lt_of_le H1.out D.size
      replace c2_0 := cell_later D c2_0
      replace c2_1 := cell_later D c2_1
      replace c2_2 := cell_later D c2_2
      replace c2_3 := cell_later D c2_3
      replace c2_4 := cell_later D c2_4
      replace c2_5 := cell_later D c2_5
      replace y2_0 := frozen_later D H2.out y2_0
      replace y2_1 := frozen_later D H2.out y2_1
      replace y2_2 := frozen_later D H2.out y2_2
      replace y2_3 := frozen_later D H2.out y2_3
      replace y2_4 := frozen_later D H2.out y2_4
      replace y2_5 := frozen_later D H2.out y2_5
      replace H2 : Hid (b2 < w3.drew.heap.size) := Nat.lt_of_lt_of_le H2.out D.size
      replace B := below_next B D
      clear D
      go_region_held3 (fun w' => w'.cell? ⟨b0, 0, none⟩ = some (.slice an nn cn) ∧ w'.cell? ⟨b0, 1, none⟩ = some (.slice ab nb cb) ∧ w'.cell? ⟨b0, 2, none⟩ = some (.slice av nv cv) ∧ w'.cell? ⟨b1, 0, none⟩ = some (.int .i64 1) ∧ w'.cell? ⟨b1, 1, none⟩ = some (.int .i64 ov) ∧ w'.cell? ⟨b1, 2, none⟩ = some (.int .i64 oa) ∧ w'.cell? ⟨b1, 3, none⟩ = some (.int .i64 ox)) (first | with_reducible exact ⟨c0_0, c0_1, c0_2, c1_0, c1_1, c1_2, c1_3⟩ | with_reducible exact ⟨(six_other _ _ _ _ _ _ _ _ _ _ n02).trans c0_0, (six_other _ _ _ _ _ _ _ _ _ _ n02).trans c0_1, (six_other _ _ _ _ _ _ _ _ _ _ n02).trans c0_2, (six_other _ _ _ _ _ _ _ _ _ _ n12).trans c1_0, (six_other _ _ _ _ _ _ _ _ _ _ n12).trans c1_1, (six_other _ _ _ _ _ _ _ _ _ _ n12).trans c1_2, (six_other _ _ _ _ _ _ _ _ _ _ n12).trans c1_3⟩)
        (first | (go_at_call 44; (with_reducible refine (doneBy1 _).mono ?_); rintro e w4 ⟨rfl, B4⟩; replace c0_0 := cell_later B4 c0_0; replace c0_1 := cell_later B4 c0_1; replace c0_2 := cell_later B4 c0_2; replace H0 : Hid (b0 < w4.heap.size) := Nat.lt_of_lt_of_le H0.out B4.size; replace c1_0 := cell_later B4 c1_0; replace c1_1 := cell_later B4 c1_1; replace c1_2 := cell_later B4 c1_2; replace c1_3 := cell_later B4 c1_3; replace H1 : Hid (b1 < w4.heap.size) := Nat.lt_of_lt_of_le H1.out B4.size; replace c2_0 := cell_later B4 c2_0; replace c2_1 := cell_later B4 c2_1; replace c2_2 := cell_later B4 c2_2; replace c2_3 := cell_later B4 c2_3; replace c2_4 := cell_later B4 c2_4; replace c2_5 := cell_later B4 c2_5; replace y2_0 := frozen_later B4 H2.out y2_0; replace y2_1 := frozen_later B4 H2.out y2_1; replace y2_2 := frozen_later B4 H2.out y2_2; replace y2_3 := frozen_later B4 H2.out y2_3; replace y2_4 := frozen_later B4 H2.out y2_4; replace y2_5 := frozen_later B4 H2.out y2_5; replace H2 : Hid (b2 < w4.heap.size) := Nat.lt_of_lt_of_le H2.out B4.size; replace B := below_next B B4; clear B4) | (go_at_call 95; (with_reducible refine (createVol_is an nn cn ab nb cb av nv cv K f vs _ (h.below B) (hv.below B) hn hb hK hvn (-1) 1 ov oa ox e1 HE.out).mono ?_); rintro e w5 ⟨pa, pn, pc, pb, qn, qc, va, vn, vc, l1, u1, l2, u2, K', rfl, P, BB⟩; have Q1 : Hid (b2 < l1) := Nat.lt_of_lt_of_le H2.out P.lo1; have Q2 : Hid (b2 < l2) := Nat.lt_of_lt_of_le H2.out P.lo2; replace P := P.from (w := w) B.size; replace c0_0 := cell_later BB c0_0; replace c0_1 := cell_later BB c0_1; replace c0_2 := cell_later BB c0_2; replace H0 : Hid (b0 < w5.heap.size) := Nat.lt_of_lt_of_le H0.out BB.size; replace c1_0 := cell_later BB c1_0; replace c1_1 := cell_later BB c1_1; replace c1_2 := cell_later BB c1_2; replace c1_3 := cell_later BB c1_3; replace H1 : Hid (b1 < w5.heap.size) := Nat.lt_of_lt_of_le H1.out BB.size; replace c2_0 := cell_later BB c2_0; replace c2_1 := cell_later BB c2_1; replace c2_2 := cell_later BB c2_2; replace c2_3 := cell_later BB c2_3; replace c2_4 := cell_later BB c2_4; replace c2_5 := cell_later BB c2_5; replace y2_0 := frozen_later BB H2.out y2_0; replace y2_1 := frozen_later BB H2.out y2_1; replace y2_2 := frozen_later BB H2.out y2_2; replace y2_3 := frozen_later BB H2.out y2_3; replace y2_4 := frozen_later BB H2.out y2_4; replace y2_5 := frozen_later BB H2.out y2_5; replace H2 : Hid (b2 < w5.heap.size) := Nat.lt_of_lt_of_le H2.out BB.size; replace B := below_next B BB; clear BB))
      go_wp2
      refine bodyPost_ret (v := .agg #[.int .i64 0, .int .i64 e1.1, .int .i64 0, .slice pa pn pc, .slice pb qn qc, .slice va vn vc]) (by simp [results, Try.results12, go_sem, c2_0, c2_1, c2_2, c2_3, c2_4, c2_5]) rfl ?_
      have KZ : Kept b2 (b2 + 1) w5 ((((((w5.setCell ⟨b2, 0, none⟩ (.int .i64 0)).setCell ⟨b2, 1, none⟩ (.int .i64 e1.1)).setCell ⟨b2, 2, none⟩ (.int .i64 0)).setCell ⟨b2, 3, none⟩ (.slice pa pn pc)).setCell ⟨b2, 4, none⟩ (.slice pb qn qc)).setCell ⟨b2, 5, none⟩ (.slice va vn vc)) := by refine Kept.setCell (Kept.setCell (Kept.setCell (Kept.setCell (Kept.setCell (Kept.setCell (Kept.refl _ _ _) ?_ ?_ _) ?_ ?_ _) ?_ ?_ _) ?_ ?_ _) ?_ ?_ _) ?_ ?_ _ <;> simp
      exact ⟨_, _, _, _, _, _, _, _, _, _, _, _, _, _, rfl, P.keep KZ (Or.inr Q1.out) (Or.inr Q2.out), B.trans (KZ.below _ (Nat.le_trans O0.out (Nat.le_of_lt (Nat.lt_trans O1.out O2.out))) B.size)⟩
    · have hqn : (q == -1) = false := by simp [hqq]
      have hqd : decide (q = -1) = false := decide_eq_false hqq
      go_wp2_with fail
      have D : Below w3.heap.size w3 w3.drew := (Below.refl _ _).drew
      replace c0_0 := cell_later D c0_0
      replace c0_1 := cell_later D c0_1
      replace c0_2 := cell_later D c0_2
      replace H0 : Hid (b0 < w3.drew.heap.size) := Nat.lt_of_lt_of_le H0.out D.size
      replace c1_0 := cell_later D c1_0
      replace c1_1 := cell_later D c1_1
      replace c1_2 := cell_later D c1_2
      replace c1_3 := cell_later D c1_3
      replace H1 : Hid (b1 < w3.drew.heap.size) := Nat.lt_of_lt_of_le H1.out D.size
      replace c2_0 := cell_later D c2_0
      replace c2_1 := cell_later D c2_1
      replace c2_2 := cell_later D c2_2
      replace c2_3 := cell_later D c2_3
      replace c2_4 := cell_later D c2_4
      replace c2_5 := cell_later D c2_5
      replace y2_0 := frozen_later D H2.out y2_0
      replace y2_1 := frozen_later D H2.out y2_1
      replace y2_2 := frozen_later D H2.out y2_2
      replace y2_3 := frozen_later D H2.out y2_3
      replace y2_4 := frozen_later D H2.out y2_4
      replace y2_5 := frozen_later D H2.out y2_5
      replace H2 : Hid (b2 < w3.drew.heap.size) := Nat.lt_of_lt_of_le H2.out D.size
      replace B := below_next B D
      clear D
      go_region_held3 (fun w' => w'.cell? ⟨b0, 0, none⟩ = some (.slice an nn cn) ∧ w'.cell? ⟨b0, 1, none⟩ = some (.slice ab nb cb) ∧ w'.cell? ⟨b0, 2, none⟩ = some (.slice av nv cv) ∧ w'.cell? ⟨b1, 0, none⟩ = some (.int .i64 1) ∧ w'.cell? ⟨b1, 1, none⟩ = some (.int .i64 ov) ∧ w'.cell? ⟨b1, 2, none⟩ = some (.int .i64 oa) ∧ w'.cell? ⟨b1, 3, none⟩ = some (.int .i64 ox)) (first | with_reducible exact ⟨c0_0, c0_1, c0_2, c1_0, c1_1, c1_2, c1_3⟩ | with_reducible exact ⟨(six_other _ _ _ _ _ _ _ _ _ _ n02).trans c0_0, (six_other _ _ _ _ _ _ _ _ _ _ n02).trans c0_1, (six_other _ _ _ _ _ _ _ _ _ _ n02).trans c0_2, (six_other _ _ _ _ _ _ _ _ _ _ n12).trans c1_0, (six_other _ _ _ _ _ _ _ _ _ _ n12).trans c1_1, (six_other _ _ _ _ _ _ _ _ _ _ n12).trans c1_2, (six_other _ _ _ _ _ _ _ _ _ _ n12).trans c1_3⟩)
        (first | (go_at_call 44; (with_reducible refine (doneBy1 _).mono ?_); rintro e w4 ⟨rfl, B4⟩; replace c0_0 := cell_later B4 c0_0; replace c0_1 := cell_later B4 c0_1; replace c0_2 := cell_later B4 c0_2; replace H0 : Hid (b0 < w4.heap.size) := Nat.lt_of_lt_of_le H0.out B4.size; replace c1_0 := cell_later B4 c1_0; replace c1_1 := cell_later B4 c1_1; replace c1_2 := cell_later B4 c1_2; replace c1_3 := cell_later B4 c1_3; replace H1 : Hid (b1 < w4.heap.size) := Nat.lt_of_lt_of_le H1.out B4.size; replace c2_0 := cell_later B4 c2_0; replace c2_1 := cell_later B4 c2_1; replace c2_2 := cell_later B4 c2_2; replace c2_3 := cell_later B4 c2_3; replace c2_4 := cell_later B4 c2_4; replace c2_5 := cell_later B4 c2_5; replace y2_0 := frozen_later B4 H2.out y2_0; replace y2_1 := frozen_later B4 H2.out y2_1; replace y2_2 := frozen_later B4 H2.out y2_2; replace y2_3 := frozen_later B4 H2.out y2_3; replace y2_4 := frozen_later B4 H2.out y2_4; replace y2_5 := frozen_later B4 H2.out y2_5; replace H2 : Hid (b2 < w4.heap.size) := Nat.lt_of_lt_of_le H2.out B4.size; replace B := below_next B B4; clear B4) | (go_at_call 95; (with_reducible refine (createVol_is an nn cn ab nb cb av nv cv K f vs _ (h.below B) (hv.below B) hn hb hK hvn q 1 ov oa ox e1 HE.out).mono ?_); rintro e w5 ⟨pa, pn, pc, pb, qn, qc, va, vn, vc, l1, u1, l2, u2, K', rfl, P, BB⟩; have Q1 : Hid (b2 < l1) := Nat.lt_of_lt_of_le H2.out P.lo1; have Q2 : Hid (b2 < l2) := Nat.lt_of_lt_of_le H2.out P.lo2; replace P := P.from (w := w) B.size; replace c0_0 := cell_later BB c0_0; replace c0_1 := cell_later BB c0_1; replace c0_2 := cell_later BB c0_2; replace H0 : Hid (b0 < w5.heap.size) := Nat.lt_of_lt_of_le H0.out BB.size; replace c1_0 := cell_later BB c1_0; replace c1_1 := cell_later BB c1_1; replace c1_2 := cell_later BB c1_2; replace c1_3 := cell_later BB c1_3; replace H1 : Hid (b1 < w5.heap.size) := Nat.lt_of_lt_of_le H1.out BB.size; replace c2_0 := cell_later BB c2_0; replace c2_1 := cell_later BB c2_1; replace c2_2 := cell_later BB c2_2; replace c2_3 := cell_later BB c2_3; replace c2_4 := cell_later BB c2_4; replace c2_5 := cell_later BB c2_5; replace y2_0 := frozen_later BB H2.out y2_0; replace y2_1 := frozen_later BB H2.out y2_1; replace y2_2 := frozen_later BB H2.out y2_2; replace y2_3 := frozen_later BB H2.out y2_3; replace y2_4 := frozen_later BB H2.out y2_4; replace y2_5 := frozen_later BB H2.out y2_5; replace H2 : Hid (b2 < w5.heap.size) := Nat.lt_of_lt_of_le H2.out BB.size; replace B := below_next B BB; clear BB))
      go_wp2
      refine bodyPost_ret (v := .agg #[.int .i64 0, .int .i64 e1.1, .int .i64 0, .slice pa pn pc, .slice pb qn qc, .slice va vn vc]) (by simp [results, Try.results12, go_sem, c2_0, c2_1, c2_2, c2_3, c2_4, c2_5]) rfl ?_
      have KZ : Kept b2 (b2 + 1) w5 ((((((w5.setCell ⟨b2, 0, none⟩ (.int .i64 0)).setCell ⟨b2, 1, none⟩ (.int .i64 e1.1)).setCell ⟨b2, 2, none⟩ (.int .i64 0)).setCell ⟨b2, 3, none⟩ (.slice pa pn pc)).setCell ⟨b2, 4, none⟩ (.slice pb qn qc)).setCell ⟨b2, 5, none⟩ (.slice va vn vc)) := by refine Kept.setCell (Kept.setCell (Kept.setCell (Kept.setCell (Kept.setCell (Kept.setCell (Kept.refl _ _ _) ?_ ?_ _) ?_ ?_ _) ?_ ?_ _) ?_ ?_ _) ?_ ?_ _) ?_ ?_ _ <;> simp
      exact ⟨_, _, _, _, _, _, _, _, _, _, _, _, _, _, rfl, P.keep KZ (Or.inr Q1.out) (Or.inr Q2.out), B.trans (KZ.below _ (Nat.le_trans O0.out (Nat.le_of_lt (Nat.lt_trans O1.out O2.out))) B.size)⟩
  · have n02 : b0 ≠ b2 := by have q1 := O1.out; have q2 := O2.out; omega
    have n12 : b1 ≠ b2 := by have q2 := O2.out; omega
    unfold applyR at HD2
    rw [HQ.out] at HD2
    have hkn : ((2 : Int) != 1) = true := rfl
    rcases HQM.out with rfl | ⟨m, rfl, hm⟩
    · have ed : d = (4, 0, f, vs) := HD2.out.symm.trans (by rw [if_neg (by decide), if_pos rfl])
      subst ed
      clear HD2
      go_wp2_with fail
      refine (replied_is an nn cn ab nb cb av nv cv K f vs _ (h.below B) (hv.below B) hn hb hK hvn 4).mono ?_
      rintro e w4 ⟨pa, pn, pc, pb, qn, qc, va, vn, vc, l1, u1, l2, u2, K', rfl, P, BB⟩
      have Q1 : Hid (b2 < l1) := Nat.lt_of_lt_of_le H2.out P.lo1
      have Q2 : Hid (b2 < l2) := Nat.lt_of_lt_of_le H2.out P.lo2
      replace P := P.from (w := w) B.size
      replace c0_0 := cell_later BB c0_0
      replace c0_1 := cell_later BB c0_1
      replace c0_2 := cell_later BB c0_2
      replace H0 : Hid (b0 < w4.heap.size) := Nat.lt_of_lt_of_le H0.out BB.size
      replace c1_0 := cell_later BB c1_0
      replace c1_1 := cell_later BB c1_1
      replace c1_2 := cell_later BB c1_2
      replace c1_3 := cell_later BB c1_3
      replace H1 : Hid (b1 < w4.heap.size) := Nat.lt_of_lt_of_le H1.out BB.size
      replace c2_0 := cell_later BB c2_0
      replace c2_1 := cell_later BB c2_1
      replace c2_2 := cell_later BB c2_2
      replace c2_3 := cell_later BB c2_3
      replace c2_4 := cell_later BB c2_4
      replace c2_5 := cell_later BB c2_5
      replace y2_0 := frozen_later BB H2.out y2_0
      replace y2_1 := frozen_later BB H2.out y2_1
      replace y2_2 := frozen_later BB H2.out y2_2
      replace y2_3 := frozen_later BB H2.out y2_3
      replace y2_4 := frozen_later BB H2.out y2_4
      replace y2_5 := frozen_later BB H2.out y2_5
      replace H2 : Hid (b2 < w4.heap.size) := Nat.lt_of_lt_of_le H2.out BB.size
      replace B := below_next B BB
      clear BB
      go_wp2
      refine bodyPost_ret (v := .agg #[.int .i64 0, .int .i64 4, .int .i64 0, .slice pa pn pc, .slice pb qn qc, .slice va vn vc]) (by simp [results, Try.results12, go_sem, c2_0, c2_1, c2_2, c2_3, c2_4, c2_5]) rfl ?_
      have KZ : Kept b2 (b2 + 1) w4 ((((((w4.setCell ⟨b2, 0, none⟩ (.int .i64 0)).setCell ⟨b2, 1, none⟩ (.int .i64 4)).setCell ⟨b2, 2, none⟩ (.int .i64 0)).setCell ⟨b2, 3, none⟩ (.slice pa pn pc)).setCell ⟨b2, 4, none⟩ (.slice pb qn qc)).setCell ⟨b2, 5, none⟩ (.slice va vn vc)) := by refine Kept.setCell (Kept.setCell (Kept.setCell (Kept.setCell (Kept.setCell (Kept.setCell (Kept.refl _ _ _) ?_ ?_ _) ?_ ?_ _) ?_ ?_ _) ?_ ?_ _) ?_ ?_ _) ?_ ?_ _ <;> simp
      exact ⟨_, _, _, _, _, _, _, _, _, _, _, _, _, _, rfl, P.keep KZ (Or.inr Q1.out) (Or.inr Q2.out), B.trans (KZ.below _ (Nat.le_trans O0.out (Nat.le_of_lt (Nat.lt_trans O1.out O2.out))) B.size)⟩
    · have HD3 : Hid (((writeR f vs m (a : Int) ox).1, (0 : Int), (writeR f vs m (a : Int) ox).2) = d) := by show _ = _; rw [← HD2.out, if_neg (by decide), if_neg (by omega), if_pos rfl, Int.toNat_natCast]
      clear HD2
      obtain ⟨e1, he1⟩ : ∃ e1, writeR f vs m (a : Int) ox = e1 := ⟨_, rfl⟩
      rw [he1] at HD3
      obtain rfl := HD3.out
      clear HD3
      have HE : Hid _ := he1
      clear he1
      have hqn : ((m : Int) == -1) = false := by simp
      have hqd : decide ((m : Int) = -1) = false := decide_eq_false (by omega)
      go_wp2_with fail
      have D : Below w3.heap.size w3 w3.drew := (Below.refl _ _).drew
      replace c0_0 := cell_later D c0_0
      replace c0_1 := cell_later D c0_1
      replace c0_2 := cell_later D c0_2
      replace H0 : Hid (b0 < w3.drew.heap.size) := Nat.lt_of_lt_of_le H0.out D.size
      replace c1_0 := cell_later D c1_0
      replace c1_1 := cell_later D c1_1
      replace c1_2 := cell_later D c1_2
      replace c1_3 := cell_later D c1_3
      replace H1 : Hid (b1 < w3.drew.heap.size) := Nat.lt_of_lt_of_le H1.out D.size
      replace c2_0 := cell_later D c2_0
      replace c2_1 := cell_later D c2_1
      replace c2_2 := cell_later D c2_2
      replace c2_3 := cell_later D c2_3
      replace c2_4 := cell_later D c2_4
      replace c2_5 := cell_later D c2_5
      replace y2_0 := frozen_later D H2.out y2_0
      replace y2_1 := frozen_later D H2.out y2_1
      replace y2_2 := frozen_later D H2.out y2_2
      replace y2_3 := frozen_later D H2.out y2_3
      replace y2_4 := frozen_later D H2.out y2_4
      replace y2_5 := frozen_later D H2.out y2_5
      replace H2 : Hid (b2 < w3.drew.heap.size) := Nat.lt_of_lt_of_le H2.out D.size
      replace B := below_next B D
      clear D
      go_region_held3 (fun w' => w'.cell? ⟨b0, 0, none⟩ = some (.slice an nn cn) ∧ w'.cell? ⟨b0, 1, none⟩ = some (.slice ab nb cb) ∧ w'.cell? ⟨b0, 2, none⟩ = some (.slice av nv cv) ∧ w'.cell? ⟨b1, 0, none⟩ = some (.int .i64 2) ∧ w'.cell? ⟨b1, 1, none⟩ = some (.int .i64 ov) ∧ w'.cell? ⟨b1, 2, none⟩ = some (.int .i64 (a : Int)) ∧ w'.cell? ⟨b1, 3, none⟩ = some (.int .i64 ox)) (first | with_reducible exact ⟨c0_0, c0_1, c0_2, c1_0, c1_1, c1_2, c1_3⟩ | with_reducible exact ⟨(six_other _ _ _ _ _ _ _ _ _ _ n02).trans c0_0, (six_other _ _ _ _ _ _ _ _ _ _ n02).trans c0_1, (six_other _ _ _ _ _ _ _ _ _ _ n02).trans c0_2, (six_other _ _ _ _ _ _ _ _ _ _ n12).trans c1_0, (six_other _ _ _ _ _ _ _ _ _ _ n12).trans c1_1, (six_other _ _ _ _ _ _ _ _ _ _ n12).trans c1_2, (six_other _ _ _ _ _ _ _ _ _ _ n12).trans c1_3⟩)
        (first | (go_at_call 44; (with_reducible refine (doneBy2 _).mono ?_); rintro e w4 ⟨rfl, B4⟩; replace c0_0 := cell_later B4 c0_0; replace c0_1 := cell_later B4 c0_1; replace c0_2 := cell_later B4 c0_2; replace H0 : Hid (b0 < w4.heap.size) := Nat.lt_of_lt_of_le H0.out B4.size; replace c1_0 := cell_later B4 c1_0; replace c1_1 := cell_later B4 c1_1; replace c1_2 := cell_later B4 c1_2; replace c1_3 := cell_later B4 c1_3; replace H1 : Hid (b1 < w4.heap.size) := Nat.lt_of_lt_of_le H1.out B4.size; replace c2_0 := cell_later B4 c2_0; replace c2_1 := cell_later B4 c2_1; replace c2_2 := cell_later B4 c2_2; replace c2_3 := cell_later B4 c2_3; replace c2_4 := cell_later B4 c2_4; replace c2_5 := cell_later B4 c2_5; replace y2_0 := frozen_later B4 H2.out y2_0; replace y2_1 := frozen_later B4 H2.out y2_1; replace y2_2 := frozen_later B4 H2.out y2_2; replace y2_3 := frozen_later B4 H2.out y2_3; replace y2_4 := frozen_later B4 H2.out y2_4; replace y2_5 := frozen_later B4 H2.out y2_5; replace H2 : Hid (b2 < w4.heap.size) := Nat.lt_of_lt_of_le H2.out B4.size; replace B := below_next B B4; clear B4) | (go_at_call 96; (with_reducible refine (writeVol_is an nn cn ab nb cb av nv cv K f vs _ (h.below B) (hv.below B) hn hb hK hvn HPF.out m hm 2 ov a ha ox e1 HE.out).mono ?_); rintro e w5 ⟨pa, pn, pc, pb, qn, qc, va, vn, vc, l1, u1, l2, u2, K', rfl, P, BB⟩; have Q1 : Hid (b2 < l1) := Nat.lt_of_lt_of_le H2.out P.lo1; have Q2 : Hid (b2 < l2) := Nat.lt_of_lt_of_le H2.out P.lo2; replace P := P.from (w := w) B.size; replace c0_0 := cell_later BB c0_0; replace c0_1 := cell_later BB c0_1; replace c0_2 := cell_later BB c0_2; replace H0 : Hid (b0 < w5.heap.size) := Nat.lt_of_lt_of_le H0.out BB.size; replace c1_0 := cell_later BB c1_0; replace c1_1 := cell_later BB c1_1; replace c1_2 := cell_later BB c1_2; replace c1_3 := cell_later BB c1_3; replace H1 : Hid (b1 < w5.heap.size) := Nat.lt_of_lt_of_le H1.out BB.size; replace c2_0 := cell_later BB c2_0; replace c2_1 := cell_later BB c2_1; replace c2_2 := cell_later BB c2_2; replace c2_3 := cell_later BB c2_3; replace c2_4 := cell_later BB c2_4; replace c2_5 := cell_later BB c2_5; replace y2_0 := frozen_later BB H2.out y2_0; replace y2_1 := frozen_later BB H2.out y2_1; replace y2_2 := frozen_later BB H2.out y2_2; replace y2_3 := frozen_later BB H2.out y2_3; replace y2_4 := frozen_later BB H2.out y2_4; replace y2_5 := frozen_later BB H2.out y2_5; replace H2 : Hid (b2 < w5.heap.size) := Nat.lt_of_lt_of_le H2.out BB.size; replace B := below_next B BB; clear BB))
      go_wp2
      refine bodyPost_ret (v := .agg #[.int .i64 0, .int .i64 e1.1, .int .i64 0, .slice pa pn pc, .slice pb qn qc, .slice va vn vc]) (by simp [results, Try.results12, go_sem, c2_0, c2_1, c2_2, c2_3, c2_4, c2_5]) rfl ?_
      have KZ : Kept b2 (b2 + 1) w5 ((((((w5.setCell ⟨b2, 0, none⟩ (.int .i64 0)).setCell ⟨b2, 1, none⟩ (.int .i64 e1.1)).setCell ⟨b2, 2, none⟩ (.int .i64 0)).setCell ⟨b2, 3, none⟩ (.slice pa pn pc)).setCell ⟨b2, 4, none⟩ (.slice pb qn qc)).setCell ⟨b2, 5, none⟩ (.slice va vn vc)) := by refine Kept.setCell (Kept.setCell (Kept.setCell (Kept.setCell (Kept.setCell (Kept.setCell (Kept.refl _ _ _) ?_ ?_ _) ?_ ?_ _) ?_ ?_ _) ?_ ?_ _) ?_ ?_ _) ?_ ?_ _ <;> simp
      exact ⟨_, _, _, _, _, _, _, _, _, _, _, _, _, _, rfl, P.keep KZ (Or.inr Q1.out) (Or.inr Q2.out), B.trans (KZ.below _ (Nat.le_trans O0.out (Nat.le_of_lt (Nat.lt_trans O1.out O2.out))) B.size)⟩
  · have n02 : b0 ≠ b2 := by have q1 := O1.out; have q2 := O2.out; omega
    have n12 : b1 ≠ b2 := by have q2 := O2.out; omega
    unfold applyR at HD2
    rw [HQ.out] at HD2
    have hkn : ((3 : Int) != 1) = true := rfl
    rcases HQM.out with rfl | ⟨m, rfl, hm⟩
    · have ed : d = (4, 0, f, vs) := HD2.out.symm.trans (by rw [if_neg (by decide), if_pos rfl])
      subst ed
      clear HD2
      go_wp2_with fail
      refine (replied_is an nn cn ab nb cb av nv cv K f vs _ (h.below B) (hv.below B) hn hb hK hvn 4).mono ?_
      rintro e w4 ⟨pa, pn, pc, pb, qn, qc, va, vn, vc, l1, u1, l2, u2, K', rfl, P, BB⟩
      have Q1 : Hid (b2 < l1) := Nat.lt_of_lt_of_le H2.out P.lo1
      have Q2 : Hid (b2 < l2) := Nat.lt_of_lt_of_le H2.out P.lo2
      replace P := P.from (w := w) B.size
      replace c0_0 := cell_later BB c0_0
      replace c0_1 := cell_later BB c0_1
      replace c0_2 := cell_later BB c0_2
      replace H0 : Hid (b0 < w4.heap.size) := Nat.lt_of_lt_of_le H0.out BB.size
      replace c1_0 := cell_later BB c1_0
      replace c1_1 := cell_later BB c1_1
      replace c1_2 := cell_later BB c1_2
      replace c1_3 := cell_later BB c1_3
      replace H1 : Hid (b1 < w4.heap.size) := Nat.lt_of_lt_of_le H1.out BB.size
      replace c2_0 := cell_later BB c2_0
      replace c2_1 := cell_later BB c2_1
      replace c2_2 := cell_later BB c2_2
      replace c2_3 := cell_later BB c2_3
      replace c2_4 := cell_later BB c2_4
      replace c2_5 := cell_later BB c2_5
      replace y2_0 := frozen_later BB H2.out y2_0
      replace y2_1 := frozen_later BB H2.out y2_1
      replace y2_2 := frozen_later BB H2.out y2_2
      replace y2_3 := frozen_later BB H2.out y2_3
      replace y2_4 := frozen_later BB H2.out y2_4
      replace y2_5 := frozen_later BB H2.out y2_5
      replace H2 : Hid (b2 < w4.heap.size) := Nat.lt_of_lt_of_le H2.out BB.size
      replace B := below_next B BB
      clear BB
      go_wp2
      refine bodyPost_ret (v := .agg #[.int .i64 0, .int .i64 4, .int .i64 0, .slice pa pn pc, .slice pb qn qc, .slice va vn vc]) (by simp [results, Try.results12, go_sem, c2_0, c2_1, c2_2, c2_3, c2_4, c2_5]) rfl ?_
      have KZ : Kept b2 (b2 + 1) w4 ((((((w4.setCell ⟨b2, 0, none⟩ (.int .i64 0)).setCell ⟨b2, 1, none⟩ (.int .i64 4)).setCell ⟨b2, 2, none⟩ (.int .i64 0)).setCell ⟨b2, 3, none⟩ (.slice pa pn pc)).setCell ⟨b2, 4, none⟩ (.slice pb qn qc)).setCell ⟨b2, 5, none⟩ (.slice va vn vc)) := by refine Kept.setCell (Kept.setCell (Kept.setCell (Kept.setCell (Kept.setCell (Kept.setCell (Kept.refl _ _ _) ?_ ?_ _) ?_ ?_ _) ?_ ?_ _) ?_ ?_ _) ?_ ?_ _) ?_ ?_ _ <;> simp
      exact ⟨_, _, _, _, _, _, _, _, _, _, _, _, _, _, rfl, P.keep KZ (Or.inr Q1.out) (Or.inr Q2.out), B.trans (KZ.below _ (Nat.le_trans O0.out (Nat.le_of_lt (Nat.lt_trans O1.out O2.out))) B.size)⟩
    · have HD3 : Hid (((clearR f vs m (a : Int)).1, (0 : Int), (clearR f vs m (a : Int)).2) = d) := by show _ = _; rw [← HD2.out, if_neg (by decide), if_neg (by omega), if_neg (by decide), if_pos rfl, Int.toNat_natCast]
      clear HD2
      obtain ⟨e1, he1⟩ : ∃ e1, clearR f vs m (a : Int) = e1 := ⟨_, rfl⟩
      rw [he1] at HD3
      obtain rfl := HD3.out
      clear HD3
      have HE : Hid _ := he1
      clear he1
      have hqn : ((m : Int) == -1) = false := by simp
      have hqd : decide ((m : Int) = -1) = false := decide_eq_false (by omega)
      go_wp2_with fail
      have D : Below w3.heap.size w3 w3.drew := (Below.refl _ _).drew
      replace c0_0 := cell_later D c0_0
      replace c0_1 := cell_later D c0_1
      replace c0_2 := cell_later D c0_2
      replace H0 : Hid (b0 < w3.drew.heap.size) := Nat.lt_of_lt_of_le H0.out D.size
      replace c1_0 := cell_later D c1_0
      replace c1_1 := cell_later D c1_1
      replace c1_2 := cell_later D c1_2
      replace c1_3 := cell_later D c1_3
      replace H1 : Hid (b1 < w3.drew.heap.size) := Nat.lt_of_lt_of_le H1.out D.size
      replace c2_0 := cell_later D c2_0
      replace c2_1 := cell_later D c2_1
      replace c2_2 := cell_later D c2_2
      replace c2_3 := cell_later D c2_3
      replace c2_4 := cell_later D c2_4
      replace c2_5 := cell_later D c2_5
      replace y2_0 := frozen_later D H2.out y2_0
      replace y2_1 := frozen_later D H2.out y2_1
      replace y2_2 := frozen_later D H2.out y2_2
      replace y2_3 := frozen_later D H2.out y2_3
      replace y2_4 := frozen_later D H2.out y2_4
      replace y2_5 := frozen_later D H2.out y2_5
      replace H2 : Hid (b2 < w3.drew.heap.size) := Nat.lt_of_lt_of_le H2.out D.size
      replace B := below_next B D
      clear D
      go_region_held3 (fun w' => w'.cell? ⟨b0, 0, none⟩ = some (.slice an nn cn) ∧ w'.cell? ⟨b0, 1, none⟩ = some (.slice ab nb cb) ∧ w'.cell? ⟨b0, 2, none⟩ = some (.slice av nv cv) ∧ w'.cell? ⟨b1, 0, none⟩ = some (.int .i64 3) ∧ w'.cell? ⟨b1, 1, none⟩ = some (.int .i64 ov) ∧ w'.cell? ⟨b1, 2, none⟩ = some (.int .i64 (a : Int)) ∧ w'.cell? ⟨b1, 3, none⟩ = some (.int .i64 ox)) (first | with_reducible exact ⟨c0_0, c0_1, c0_2, c1_0, c1_1, c1_2, c1_3⟩ | with_reducible exact ⟨(six_other _ _ _ _ _ _ _ _ _ _ n02).trans c0_0, (six_other _ _ _ _ _ _ _ _ _ _ n02).trans c0_1, (six_other _ _ _ _ _ _ _ _ _ _ n02).trans c0_2, (six_other _ _ _ _ _ _ _ _ _ _ n12).trans c1_0, (six_other _ _ _ _ _ _ _ _ _ _ n12).trans c1_1, (six_other _ _ _ _ _ _ _ _ _ _ n12).trans c1_2, (six_other _ _ _ _ _ _ _ _ _ _ n12).trans c1_3⟩)
        (first | (go_at_call 44; (with_reducible refine (doneBy3 _).mono ?_); rintro e w4 ⟨rfl, B4⟩; replace c0_0 := cell_later B4 c0_0; replace c0_1 := cell_later B4 c0_1; replace c0_2 := cell_later B4 c0_2; replace H0 : Hid (b0 < w4.heap.size) := Nat.lt_of_lt_of_le H0.out B4.size; replace c1_0 := cell_later B4 c1_0; replace c1_1 := cell_later B4 c1_1; replace c1_2 := cell_later B4 c1_2; replace c1_3 := cell_later B4 c1_3; replace H1 : Hid (b1 < w4.heap.size) := Nat.lt_of_lt_of_le H1.out B4.size; replace c2_0 := cell_later B4 c2_0; replace c2_1 := cell_later B4 c2_1; replace c2_2 := cell_later B4 c2_2; replace c2_3 := cell_later B4 c2_3; replace c2_4 := cell_later B4 c2_4; replace c2_5 := cell_later B4 c2_5; replace y2_0 := frozen_later B4 H2.out y2_0; replace y2_1 := frozen_later B4 H2.out y2_1; replace y2_2 := frozen_later B4 H2.out y2_2; replace y2_3 := frozen_later B4 H2.out y2_3; replace y2_4 := frozen_later B4 H2.out y2_4; replace y2_5 := frozen_later B4 H2.out y2_5; replace H2 : Hid (b2 < w4.heap.size) := Nat.lt_of_lt_of_le H2.out B4.size; replace B := below_next B B4; clear B4) | (go_at_call 97; (with_reducible refine (discardVol_is an nn cn ab nb cb av nv cv K f vs _ (h.below B) (hv.below B) hn hb hK hvn m hm 3 ov (a : Int) ox e1 HE.out).mono ?_); rintro e w5 ⟨pa, pn, pc, pb, qn, qc, va, vn, vc, l1, u1, l2, u2, K', rfl, P, BB⟩; have Q1 : Hid (b2 < l1) := Nat.lt_of_lt_of_le H2.out P.lo1; have Q2 : Hid (b2 < l2) := Nat.lt_of_lt_of_le H2.out P.lo2; replace P := P.from (w := w) B.size; replace c0_0 := cell_later BB c0_0; replace c0_1 := cell_later BB c0_1; replace c0_2 := cell_later BB c0_2; replace H0 : Hid (b0 < w5.heap.size) := Nat.lt_of_lt_of_le H0.out BB.size; replace c1_0 := cell_later BB c1_0; replace c1_1 := cell_later BB c1_1; replace c1_2 := cell_later BB c1_2; replace c1_3 := cell_later BB c1_3; replace H1 : Hid (b1 < w5.heap.size) := Nat.lt_of_lt_of_le H1.out BB.size; replace c2_0 := cell_later BB c2_0; replace c2_1 := cell_later BB c2_1; replace c2_2 := cell_later BB c2_2; replace c2_3 := cell_later BB c2_3; replace c2_4 := cell_later BB c2_4; replace c2_5 := cell_later BB c2_5; replace y2_0 := frozen_later BB H2.out y2_0; replace y2_1 := frozen_later BB H2.out y2_1; replace y2_2 := frozen_later BB H2.out y2_2; replace y2_3 := frozen_later BB H2.out y2_3; replace y2_4 := frozen_later BB H2.out y2_4; replace y2_5 := frozen_later BB H2.out y2_5; replace H2 : Hid (b2 < w5.heap.size) := Nat.lt_of_lt_of_le H2.out BB.size; replace B := below_next B BB; clear BB))
      go_wp2
      refine bodyPost_ret (v := .agg #[.int .i64 0, .int .i64 e1.1, .int .i64 0, .slice pa pn pc, .slice pb qn qc, .slice va vn vc]) (by simp [results, Try.results12, go_sem, c2_0, c2_1, c2_2, c2_3, c2_4, c2_5]) rfl ?_
      have KZ : Kept b2 (b2 + 1) w5 ((((((w5.setCell ⟨b2, 0, none⟩ (.int .i64 0)).setCell ⟨b2, 1, none⟩ (.int .i64 e1.1)).setCell ⟨b2, 2, none⟩ (.int .i64 0)).setCell ⟨b2, 3, none⟩ (.slice pa pn pc)).setCell ⟨b2, 4, none⟩ (.slice pb qn qc)).setCell ⟨b2, 5, none⟩ (.slice va vn vc)) := by refine Kept.setCell (Kept.setCell (Kept.setCell (Kept.setCell (Kept.setCell (Kept.setCell (Kept.refl _ _ _) ?_ ?_ _) ?_ ?_ _) ?_ ?_ _) ?_ ?_ _) ?_ ?_ _) ?_ ?_ _ <;> simp
      exact ⟨_, _, _, _, _, _, _, _, _, _, _, _, _, _, rfl, P.keep KZ (Or.inr Q1.out) (Or.inr Q2.out), B.trans (KZ.below _ (Nat.le_trans O0.out (Nat.le_of_lt (Nat.lt_trans O1.out O2.out))) B.size)⟩
  · have n02 : b0 ≠ b2 := by have q1 := O1.out; have q2 := O2.out; omega
    have n12 : b1 ≠ b2 := by have q2 := O2.out; omega
    unfold applyR at HD2
    rw [HQ.out] at HD2
    have hkn : ((4 : Int) != 1) = true := rfl
    rcases HQM.out with rfl | ⟨m, rfl, hm⟩
    · have ed : d = (4, 0, f, vs) := HD2.out.symm.trans (by rw [if_neg (by decide), if_pos rfl])
      subst ed
      clear HD2
      go_wp2_with fail
      refine (replied_is an nn cn ab nb cb av nv cv K f vs _ (h.below B) (hv.below B) hn hb hK hvn 4).mono ?_
      rintro e w4 ⟨pa, pn, pc, pb, qn, qc, va, vn, vc, l1, u1, l2, u2, K', rfl, P, BB⟩
      have Q1 : Hid (b2 < l1) := Nat.lt_of_lt_of_le H2.out P.lo1
      have Q2 : Hid (b2 < l2) := Nat.lt_of_lt_of_le H2.out P.lo2
      replace P := P.from (w := w) B.size
      replace c0_0 := cell_later BB c0_0
      replace c0_1 := cell_later BB c0_1
      replace c0_2 := cell_later BB c0_2
      replace H0 : Hid (b0 < w4.heap.size) := Nat.lt_of_lt_of_le H0.out BB.size
      replace c1_0 := cell_later BB c1_0
      replace c1_1 := cell_later BB c1_1
      replace c1_2 := cell_later BB c1_2
      replace c1_3 := cell_later BB c1_3
      replace H1 : Hid (b1 < w4.heap.size) := Nat.lt_of_lt_of_le H1.out BB.size
      replace c2_0 := cell_later BB c2_0
      replace c2_1 := cell_later BB c2_1
      replace c2_2 := cell_later BB c2_2
      replace c2_3 := cell_later BB c2_3
      replace c2_4 := cell_later BB c2_4
      replace c2_5 := cell_later BB c2_5
      replace y2_0 := frozen_later BB H2.out y2_0
      replace y2_1 := frozen_later BB H2.out y2_1
      replace y2_2 := frozen_later BB H2.out y2_2
      replace y2_3 := frozen_later BB H2.out y2_3
      replace y2_4 := frozen_later BB H2.out y2_4
      replace y2_5 := frozen_later BB H2.out y2_5
      replace H2 : Hid (b2 < w4.heap.size) := Nat.lt_of_lt_of_le H2.out BB.size
      replace B := below_next B BB
      clear BB
      go_wp2
      refine bodyPost_ret (v := .agg #[.int .i64 0, .int .i64 4, .int .i64 0, .slice pa pn pc, .slice pb qn qc, .slice va vn vc]) (by simp [results, Try.results12, go_sem, c2_0, c2_1, c2_2, c2_3, c2_4, c2_5]) rfl ?_
      have KZ : Kept b2 (b2 + 1) w4 ((((((w4.setCell ⟨b2, 0, none⟩ (.int .i64 0)).setCell ⟨b2, 1, none⟩ (.int .i64 4)).setCell ⟨b2, 2, none⟩ (.int .i64 0)).setCell ⟨b2, 3, none⟩ (.slice pa pn pc)).setCell ⟨b2, 4, none⟩ (.slice pb qn qc)).setCell ⟨b2, 5, none⟩ (.slice va vn vc)) := by refine Kept.setCell (Kept.setCell (Kept.setCell (Kept.setCell (Kept.setCell (Kept.setCell (Kept.refl _ _ _) ?_ ?_ _) ?_ ?_ _) ?_ ?_ _) ?_ ?_ _) ?_ ?_ _) ?_ ?_ _ <;> simp
      exact ⟨_, _, _, _, _, _, _, _, _, _, _, _, _, _, rfl, P.keep KZ (Or.inr Q1.out) (Or.inr Q2.out), B.trans (KZ.below _ (Nat.le_trans O0.out (Nat.le_of_lt (Nat.lt_trans O1.out O2.out))) B.size)⟩
    · have HD3 : Hid ((lookCode f (vs.getD m vo0).2.2 (a : Int), lookVal f (vs.getD m vo0).2.2 (a : Int), f, vs) = d) := by show _ = _; rw [← HD2.out, if_neg (by decide), if_neg (by omega), if_neg (by decide), if_neg (by decide), if_pos rfl, Int.toNat_natCast]
      clear HD2
      obtain ⟨cd, hcd⟩ : ∃ cd, lookCode f (vs.getD m vo0).2.2 (a : Int) = cd := ⟨_, rfl⟩
      obtain ⟨vl, hvl2⟩ : ∃ vl, lookVal f (vs.getD m vo0).2.2 (a : Int) = vl := ⟨_, rfl⟩
      rw [hcd, hvl2] at HD3
      obtain rfl := HD3.out
      clear HD3
      have HE : Hid _ := hcd
      have HE2 : Hid _ := hvl2
      clear hcd hvl2
      have hqn : ((m : Int) == -1) = false := by simp
      have hqd : decide ((m : Int) = -1) = false := decide_eq_false (by omega)
      go_wp2_with fail
      have D : Below w3.heap.size w3 w3.drew := (Below.refl _ _).drew
      replace c0_0 := cell_later D c0_0
      replace c0_1 := cell_later D c0_1
      replace c0_2 := cell_later D c0_2
      replace H0 : Hid (b0 < w3.drew.heap.size) := Nat.lt_of_lt_of_le H0.out D.size
      replace c1_0 := cell_later D c1_0
      replace c1_1 := cell_later D c1_1
      replace c1_2 := cell_later D c1_2
      replace c1_3 := cell_later D c1_3
      replace H1 : Hid (b1 < w3.drew.heap.size) := Nat.lt_of_lt_of_le H1.out D.size
      replace c2_0 := cell_later D c2_0
      replace c2_1 := cell_later D c2_1
      replace c2_2 := cell_later D c2_2
      replace c2_3 := cell_later D c2_3
      replace c2_4 := cell_later D c2_4
      replace c2_5 := cell_later D c2_5
      replace y2_0 := frozen_later D H2.out y2_0
      replace y2_1 := frozen_later D H2.out y2_1
      replace y2_2 := frozen_later D H2.out y2_2
      replace y2_3 := frozen_later D H2.out y2_3
      replace y2_4 := frozen_later D H2.out y2_4
      replace y2_5 := frozen_later D H2.out y2_5
      replace H2 : Hid (b2 < w3.drew.heap.size) := Nat.lt_of_lt_of_le H2.out D.size
      replace B := below_next B D
      clear D
      go_region_held3 (fun w' => w'.cell? ⟨b0, 0, none⟩ = some (.slice an nn cn) ∧ w'.cell? ⟨b0, 1, none⟩ = some (.slice ab nb cb) ∧ w'.cell? ⟨b0, 2, none⟩ = some (.slice av nv cv) ∧ w'.cell? ⟨b1, 0, none⟩ = some (.int .i64 4) ∧ w'.cell? ⟨b1, 1, none⟩ = some (.int .i64 ov) ∧ w'.cell? ⟨b1, 2, none⟩ = some (.int .i64 (a : Int)) ∧ w'.cell? ⟨b1, 3, none⟩ = some (.int .i64 ox)) (first | with_reducible exact ⟨c0_0, c0_1, c0_2, c1_0, c1_1, c1_2, c1_3⟩ | with_reducible exact ⟨(six_other _ _ _ _ _ _ _ _ _ _ n02).trans c0_0, (six_other _ _ _ _ _ _ _ _ _ _ n02).trans c0_1, (six_other _ _ _ _ _ _ _ _ _ _ n02).trans c0_2, (six_other _ _ _ _ _ _ _ _ _ _ n12).trans c1_0, (six_other _ _ _ _ _ _ _ _ _ _ n12).trans c1_1, (six_other _ _ _ _ _ _ _ _ _ _ n12).trans c1_2, (six_other _ _ _ _ _ _ _ _ _ _ n12).trans c1_3⟩)
        (first | (go_at_call 44; (with_reducible refine (doneBy4 _).mono ?_); rintro e w4 ⟨rfl, B4⟩; replace c0_0 := cell_later B4 c0_0; replace c0_1 := cell_later B4 c0_1; replace c0_2 := cell_later B4 c0_2; replace H0 : Hid (b0 < w4.heap.size) := Nat.lt_of_lt_of_le H0.out B4.size; replace c1_0 := cell_later B4 c1_0; replace c1_1 := cell_later B4 c1_1; replace c1_2 := cell_later B4 c1_2; replace c1_3 := cell_later B4 c1_3; replace H1 : Hid (b1 < w4.heap.size) := Nat.lt_of_lt_of_le H1.out B4.size; replace c2_0 := cell_later B4 c2_0; replace c2_1 := cell_later B4 c2_1; replace c2_2 := cell_later B4 c2_2; replace c2_3 := cell_later B4 c2_3; replace c2_4 := cell_later B4 c2_4; replace c2_5 := cell_later B4 c2_5; replace y2_0 := frozen_later B4 H2.out y2_0; replace y2_1 := frozen_later B4 H2.out y2_1; replace y2_2 := frozen_later B4 H2.out y2_2; replace y2_3 := frozen_later B4 H2.out y2_3; replace y2_4 := frozen_later B4 H2.out y2_4; replace y2_5 := frozen_later B4 H2.out y2_5; replace H2 : Hid (b2 < w4.heap.size) := Nat.lt_of_lt_of_le H2.out B4.size; replace B := below_next B B4; clear B4) | (go_at_call 98; (with_reducible refine (readVol_is an nn cn ab nb cb av nv cv K f vs _ (h.below B) (hv.below B) hn hb hK hvn m hm 4 ov (a : Int) ox cd vl HE.out HE2.out).mono ?_); rintro e w5 ⟨pa, pn, pc, pb, qn, qc, va, vn, vc, l1, u1, l2, u2, K', rfl, P, BB⟩; have Q1 : Hid (b2 < l1) := Nat.lt_of_lt_of_le H2.out P.lo1; have Q2 : Hid (b2 < l2) := Nat.lt_of_lt_of_le H2.out P.lo2; replace P := P.from (w := w) B.size; replace c0_0 := cell_later BB c0_0; replace c0_1 := cell_later BB c0_1; replace c0_2 := cell_later BB c0_2; replace H0 : Hid (b0 < w5.heap.size) := Nat.lt_of_lt_of_le H0.out BB.size; replace c1_0 := cell_later BB c1_0; replace c1_1 := cell_later BB c1_1; replace c1_2 := cell_later BB c1_2; replace c1_3 := cell_later BB c1_3; replace H1 : Hid (b1 < w5.heap.size) := Nat.lt_of_lt_of_le H1.out BB.size; replace c2_0 := cell_later BB c2_0; replace c2_1 := cell_later BB c2_1; replace c2_2 := cell_later BB c2_2; replace c2_3 := cell_later BB c2_3; replace c2_4 := cell_later BB c2_4; replace c2_5 := cell_later BB c2_5; replace y2_0 := frozen_later BB H2.out y2_0; replace y2_1 := frozen_later BB H2.out y2_1; replace y2_2 := frozen_later BB H2.out y2_2; replace y2_3 := frozen_later BB H2.out y2_3; replace y2_4 := frozen_later BB H2.out y2_4; replace y2_5 := frozen_later BB H2.out y2_5; replace H2 : Hid (b2 < w5.heap.size) := Nat.lt_of_lt_of_le H2.out BB.size; replace B := below_next B BB; clear BB))
      go_wp2
      refine bodyPost_ret (v := .agg #[.int .i64 0, .int .i64 cd, .int .i64 vl, .slice pa pn pc, .slice pb qn qc, .slice va vn vc]) (by simp [results, Try.results12, go_sem, c2_0, c2_1, c2_2, c2_3, c2_4, c2_5]) rfl ?_
      have KZ : Kept b2 (b2 + 1) w5 ((((((w5.setCell ⟨b2, 0, none⟩ (.int .i64 0)).setCell ⟨b2, 1, none⟩ (.int .i64 cd)).setCell ⟨b2, 2, none⟩ (.int .i64 vl)).setCell ⟨b2, 3, none⟩ (.slice pa pn pc)).setCell ⟨b2, 4, none⟩ (.slice pb qn qc)).setCell ⟨b2, 5, none⟩ (.slice va vn vc)) := by refine Kept.setCell (Kept.setCell (Kept.setCell (Kept.setCell (Kept.setCell (Kept.setCell (Kept.refl _ _ _) ?_ ?_ _) ?_ ?_ _) ?_ ?_ _) ?_ ?_ _) ?_ ?_ _) ?_ ?_ _ <;> simp
      exact ⟨_, _, _, _, _, _, _, _, _, _, _, _, _, _, rfl, P.keep KZ (Or.inr Q1.out) (Or.inr Q2.out), B.trans (KZ.below _ (Nat.le_trans O0.out (Nat.le_of_lt (Nat.lt_trans O1.out O2.out))) B.size)⟩
  · have n02 : b0 ≠ b2 := by have q1 := O1.out; have q2 := O2.out; omega
    have n12 : b1 ≠ b2 := by have q2 := O2.out; omega
    unfold applyR at HD2
    rw [HQ.out] at HD2
    have hkn : ((5 : Int) != 1) = true := rfl
    rcases HQM.out with rfl | ⟨m, rfl, hm⟩
    · have ed : d = (4, 0, f, vs) := HD2.out.symm.trans (by rw [if_neg (by decide), if_pos rfl])
      subst ed
      clear HD2
      go_wp2_with fail
      refine (replied_is an nn cn ab nb cb av nv cv K f vs _ (h.below B) (hv.below B) hn hb hK hvn 4).mono ?_
      rintro e w4 ⟨pa, pn, pc, pb, qn, qc, va, vn, vc, l1, u1, l2, u2, K', rfl, P, BB⟩
      have Q1 : Hid (b2 < l1) := Nat.lt_of_lt_of_le H2.out P.lo1
      have Q2 : Hid (b2 < l2) := Nat.lt_of_lt_of_le H2.out P.lo2
      replace P := P.from (w := w) B.size
      replace c0_0 := cell_later BB c0_0
      replace c0_1 := cell_later BB c0_1
      replace c0_2 := cell_later BB c0_2
      replace H0 : Hid (b0 < w4.heap.size) := Nat.lt_of_lt_of_le H0.out BB.size
      replace c1_0 := cell_later BB c1_0
      replace c1_1 := cell_later BB c1_1
      replace c1_2 := cell_later BB c1_2
      replace c1_3 := cell_later BB c1_3
      replace H1 : Hid (b1 < w4.heap.size) := Nat.lt_of_lt_of_le H1.out BB.size
      replace c2_0 := cell_later BB c2_0
      replace c2_1 := cell_later BB c2_1
      replace c2_2 := cell_later BB c2_2
      replace c2_3 := cell_later BB c2_3
      replace c2_4 := cell_later BB c2_4
      replace c2_5 := cell_later BB c2_5
      replace y2_0 := frozen_later BB H2.out y2_0
      replace y2_1 := frozen_later BB H2.out y2_1
      replace y2_2 := frozen_later BB H2.out y2_2
      replace y2_3 := frozen_later BB H2.out y2_3
      replace y2_4 := frozen_later BB H2.out y2_4
      replace y2_5 := frozen_later BB H2.out y2_5
      replace H2 : Hid (b2 < w4.heap.size) := Nat.lt_of_lt_of_le H2.out BB.size
      replace B := below_next B BB
      clear BB
      go_wp2
      refine bodyPost_ret (v := .agg #[.int .i64 0, .int .i64 4, .int .i64 0, .slice pa pn pc, .slice pb qn qc, .slice va vn vc]) (by simp [results, Try.results12, go_sem, c2_0, c2_1, c2_2, c2_3, c2_4, c2_5]) rfl ?_
      have KZ : Kept b2 (b2 + 1) w4 ((((((w4.setCell ⟨b2, 0, none⟩ (.int .i64 0)).setCell ⟨b2, 1, none⟩ (.int .i64 4)).setCell ⟨b2, 2, none⟩ (.int .i64 0)).setCell ⟨b2, 3, none⟩ (.slice pa pn pc)).setCell ⟨b2, 4, none⟩ (.slice pb qn qc)).setCell ⟨b2, 5, none⟩ (.slice va vn vc)) := by refine Kept.setCell (Kept.setCell (Kept.setCell (Kept.setCell (Kept.setCell (Kept.setCell (Kept.refl _ _ _) ?_ ?_ _) ?_ ?_ _) ?_ ?_ _) ?_ ?_ _) ?_ ?_ _) ?_ ?_ _ <;> simp
      exact ⟨_, _, _, _, _, _, _, _, _, _, _, _, _, _, rfl, P.keep KZ (Or.inr Q1.out) (Or.inr Q2.out), B.trans (KZ.below _ (Nat.le_trans O0.out (Nat.le_of_lt (Nat.lt_trans O1.out O2.out))) B.size)⟩
    · have HD3 : Hid (((snapR f vs m ox).1, (0 : Int), (snapR f vs m ox).2) = d) := by show _ = _; rw [← HD2.out, if_neg (by decide), if_neg (by omega), if_neg (by decide), if_neg (by decide), if_neg (by decide), if_pos rfl, Int.toNat_natCast]
      clear HD2
      obtain ⟨e1, he1⟩ : ∃ e1, snapR f vs m ox = e1 := ⟨_, rfl⟩
      rw [he1] at HD3
      obtain rfl := HD3.out
      clear HD3
      have HE : Hid _ := he1
      clear he1
      have hqn : ((m : Int) == -1) = false := by simp
      have hqd : decide ((m : Int) = -1) = false := decide_eq_false (by omega)
      go_wp2_with fail
      have D : Below w3.heap.size w3 w3.drew := (Below.refl _ _).drew
      replace c0_0 := cell_later D c0_0
      replace c0_1 := cell_later D c0_1
      replace c0_2 := cell_later D c0_2
      replace H0 : Hid (b0 < w3.drew.heap.size) := Nat.lt_of_lt_of_le H0.out D.size
      replace c1_0 := cell_later D c1_0
      replace c1_1 := cell_later D c1_1
      replace c1_2 := cell_later D c1_2
      replace c1_3 := cell_later D c1_3
      replace H1 : Hid (b1 < w3.drew.heap.size) := Nat.lt_of_lt_of_le H1.out D.size
      replace c2_0 := cell_later D c2_0
      replace c2_1 := cell_later D c2_1
      replace c2_2 := cell_later D c2_2
      replace c2_3 := cell_later D c2_3
      replace c2_4 := cell_later D c2_4
      replace c2_5 := cell_later D c2_5
      replace y2_0 := frozen_later D H2.out y2_0
      replace y2_1 := frozen_later D H2.out y2_1
      replace y2_2 := frozen_later D H2.out y2_2
      replace y2_3 := frozen_later D H2.out y2_3
      replace y2_4 := frozen_later D H2.out y2_4
      replace y2_5 := frozen_later D H2.out y2_5
      replace H2 : Hid (b2 < w3.drew.heap.size) := Nat.lt_of_lt_of_le H2.out D.size
      replace B := below_next B D
      clear D
      go_region_held3 (fun w' => w'.cell? ⟨b0, 0, none⟩ = some (.slice an nn cn) ∧ w'.cell? ⟨b0, 1, none⟩ = some (.slice ab nb cb) ∧ w'.cell? ⟨b0, 2, none⟩ = some (.slice av nv cv) ∧ w'.cell? ⟨b1, 0, none⟩ = some (.int .i64 5) ∧ w'.cell? ⟨b1, 1, none⟩ = some (.int .i64 ov) ∧ w'.cell? ⟨b1, 2, none⟩ = some (.int .i64 oa) ∧ w'.cell? ⟨b1, 3, none⟩ = some (.int .i64 ox)) (first | with_reducible exact ⟨c0_0, c0_1, c0_2, c1_0, c1_1, c1_2, c1_3⟩ | with_reducible exact ⟨(six_other _ _ _ _ _ _ _ _ _ _ n02).trans c0_0, (six_other _ _ _ _ _ _ _ _ _ _ n02).trans c0_1, (six_other _ _ _ _ _ _ _ _ _ _ n02).trans c0_2, (six_other _ _ _ _ _ _ _ _ _ _ n12).trans c1_0, (six_other _ _ _ _ _ _ _ _ _ _ n12).trans c1_1, (six_other _ _ _ _ _ _ _ _ _ _ n12).trans c1_2, (six_other _ _ _ _ _ _ _ _ _ _ n12).trans c1_3⟩)
        (first | (go_at_call 44; (with_reducible refine (doneBy5 _).mono ?_); rintro e w4 ⟨rfl, B4⟩; replace c0_0 := cell_later B4 c0_0; replace c0_1 := cell_later B4 c0_1; replace c0_2 := cell_later B4 c0_2; replace H0 : Hid (b0 < w4.heap.size) := Nat.lt_of_lt_of_le H0.out B4.size; replace c1_0 := cell_later B4 c1_0; replace c1_1 := cell_later B4 c1_1; replace c1_2 := cell_later B4 c1_2; replace c1_3 := cell_later B4 c1_3; replace H1 : Hid (b1 < w4.heap.size) := Nat.lt_of_lt_of_le H1.out B4.size; replace c2_0 := cell_later B4 c2_0; replace c2_1 := cell_later B4 c2_1; replace c2_2 := cell_later B4 c2_2; replace c2_3 := cell_later B4 c2_3; replace c2_4 := cell_later B4 c2_4; replace c2_5 := cell_later B4 c2_5; replace y2_0 := frozen_later B4 H2.out y2_0; replace y2_1 := frozen_later B4 H2.out y2_1; replace y2_2 := frozen_later B4 H2.out y2_2; replace y2_3 := frozen_later B4 H2.out y2_3; replace y2_4 := frozen_later B4 H2.out y2_4; replace y2_5 := frozen_later B4 H2.out y2_5; replace H2 : Hid (b2 < w4.heap.size) := Nat.lt_of_lt_of_le H2.out B4.size; replace B := below_next B B4; clear B4) | (go_at_call 99; (with_reducible refine (snapVol_is an nn cn ab nb cb av nv cv K f vs _ (h.below B) (hv.below B) hn hb hK hvn m hm 5 ov oa ox e1 HE.out).mono ?_); rintro e w5 ⟨pa, pn, pc, pb, qn, qc, va, vn, vc, l1, u1, l2, u2, K', rfl, P, BB⟩; have Q1 : Hid (b2 < l1) := Nat.lt_of_lt_of_le H2.out P.lo1; have Q2 : Hid (b2 < l2) := Nat.lt_of_lt_of_le H2.out P.lo2; replace P := P.from (w := w) B.size; replace c0_0 := cell_later BB c0_0; replace c0_1 := cell_later BB c0_1; replace c0_2 := cell_later BB c0_2; replace H0 : Hid (b0 < w5.heap.size) := Nat.lt_of_lt_of_le H0.out BB.size; replace c1_0 := cell_later BB c1_0; replace c1_1 := cell_later BB c1_1; replace c1_2 := cell_later BB c1_2; replace c1_3 := cell_later BB c1_3; replace H1 : Hid (b1 < w5.heap.size) := Nat.lt_of_lt_of_le H1.out BB.size; replace c2_0 := cell_later BB c2_0; replace c2_1 := cell_later BB c2_1; replace c2_2 := cell_later BB c2_2; replace c2_3 := cell_later BB c2_3; replace c2_4 := cell_later BB c2_4; replace c2_5 := cell_later BB c2_5; replace y2_0 := frozen_later BB H2.out y2_0; replace y2_1 := frozen_later BB H2.out y2_1; replace y2_2 := frozen_later BB H2.out y2_2; replace y2_3 := frozen_later BB H2.out y2_3; replace y2_4 := frozen_later BB H2.out y2_4; replace y2_5 := frozen_later BB H2.out y2_5; replace H2 : Hid (b2 < w5.heap.size) := Nat.lt_of_lt_of_le H2.out BB.size; replace B := below_next B BB; clear BB))
      go_wp2
      refine bodyPost_ret (v := .agg #[.int .i64 0, .int .i64 e1.1, .int .i64 0, .slice pa pn pc, .slice pb qn qc, .slice va vn vc]) (by simp [results, Try.results12, go_sem, c2_0, c2_1, c2_2, c2_3, c2_4, c2_5]) rfl ?_
      have KZ : Kept b2 (b2 + 1) w5 ((((((w5.setCell ⟨b2, 0, none⟩ (.int .i64 0)).setCell ⟨b2, 1, none⟩ (.int .i64 e1.1)).setCell ⟨b2, 2, none⟩ (.int .i64 0)).setCell ⟨b2, 3, none⟩ (.slice pa pn pc)).setCell ⟨b2, 4, none⟩ (.slice pb qn qc)).setCell ⟨b2, 5, none⟩ (.slice va vn vc)) := by refine Kept.setCell (Kept.setCell (Kept.setCell (Kept.setCell (Kept.setCell (Kept.setCell (Kept.refl _ _ _) ?_ ?_ _) ?_ ?_ _) ?_ ?_ _) ?_ ?_ _) ?_ ?_ _) ?_ ?_ _ <;> simp
      exact ⟨_, _, _, _, _, _, _, _, _, _, _, _, _, _, rfl, P.keep KZ (Or.inr Q1.out) (Or.inr Q2.out), B.trans (KZ.below _ (Nat.le_trans O0.out (Nat.le_of_lt (Nat.lt_trans O1.out O2.out))) B.size)⟩
  · have n02 : b0 ≠ b2 := by have q1 := O1.out; have q2 := O2.out; omega
    have n12 : b1 ≠ b2 := by have q2 := O2.out; omega
    unfold applyR at HD2
    rw [HQ.out] at HD2
    have hkn : ((6 : Int) != 1) = true := rfl
    rcases HQM.out with rfl | ⟨m, rfl, hm⟩
    · have ed : d = (4, 0, f, vs) := HD2.out.symm.trans (by rw [if_neg (by decide), if_pos rfl])
      subst ed
      clear HD2
      go_wp2_with fail
      refine (replied_is an nn cn ab nb cb av nv cv K f vs _ (h.below B) (hv.below B) hn hb hK hvn 4).mono ?_
      rintro e w4 ⟨pa, pn, pc, pb, qn, qc, va, vn, vc, l1, u1, l2, u2, K', rfl, P, BB⟩
      have Q1 : Hid (b2 < l1) := Nat.lt_of_lt_of_le H2.out P.lo1
      have Q2 : Hid (b2 < l2) := Nat.lt_of_lt_of_le H2.out P.lo2
      replace P := P.from (w := w) B.size
      replace c0_0 := cell_later BB c0_0
      replace c0_1 := cell_later BB c0_1
      replace c0_2 := cell_later BB c0_2
      replace H0 : Hid (b0 < w4.heap.size) := Nat.lt_of_lt_of_le H0.out BB.size
      replace c1_0 := cell_later BB c1_0
      replace c1_1 := cell_later BB c1_1
      replace c1_2 := cell_later BB c1_2
      replace c1_3 := cell_later BB c1_3
      replace H1 : Hid (b1 < w4.heap.size) := Nat.lt_of_lt_of_le H1.out BB.size
      replace c2_0 := cell_later BB c2_0
      replace c2_1 := cell_later BB c2_1
      replace c2_2 := cell_later BB c2_2
      replace c2_3 := cell_later BB c2_3
      replace c2_4 := cell_later BB c2_4
      replace c2_5 := cell_later BB c2_5
      replace y2_0 := frozen_later BB H2.out y2_0
      replace y2_1 := frozen_later BB H2.out y2_1
      replace y2_2 := frozen_later BB H2.out y2_2
      replace y2_3 := frozen_later BB H2.out y2_3
      replace y2_4 := frozen_later BB H2.out y2_4
      replace y2_5 := frozen_later BB H2.out y2_5
      replace H2 : Hid (b2 < w4.heap.size) := Nat.lt_of_lt_of_le H2.out BB.size
      replace B := below_next B BB
      clear BB
      go_wp2
      refine bodyPost_ret (v := .agg #[.int .i64 0, .int .i64 4, .int .i64 0, .slice pa pn pc, .slice pb qn qc, .slice va vn vc]) (by simp [results, Try.results12, go_sem, c2_0, c2_1, c2_2, c2_3, c2_4, c2_5]) rfl ?_
      have KZ : Kept b2 (b2 + 1) w4 ((((((w4.setCell ⟨b2, 0, none⟩ (.int .i64 0)).setCell ⟨b2, 1, none⟩ (.int .i64 4)).setCell ⟨b2, 2, none⟩ (.int .i64 0)).setCell ⟨b2, 3, none⟩ (.slice pa pn pc)).setCell ⟨b2, 4, none⟩ (.slice pb qn qc)).setCell ⟨b2, 5, none⟩ (.slice va vn vc)) := by refine Kept.setCell (Kept.setCell (Kept.setCell (Kept.setCell (Kept.setCell (Kept.setCell (Kept.refl _ _ _) ?_ ?_ _) ?_ ?_ _) ?_ ?_ _) ?_ ?_ _) ?_ ?_ _) ?_ ?_ _ <;> simp
      exact ⟨_, _, _, _, _, _, _, _, _, _, _, _, _, _, rfl, P.keep KZ (Or.inr Q1.out) (Or.inr Q2.out), B.trans (KZ.below _ (Nat.le_trans O0.out (Nat.le_of_lt (Nat.lt_trans O1.out O2.out))) B.size)⟩
    · have HD3 : Hid (((deleteR f vs m).1, (0 : Int), (deleteR f vs m).2) = d) := by show _ = _; rw [← HD2.out, if_neg (by decide), if_neg (by omega), if_neg (by decide), if_neg (by decide), if_neg (by decide), if_neg (by decide), Int.toNat_natCast]
      clear HD2
      obtain ⟨e1, he1⟩ : ∃ e1, deleteR f vs m = e1 := ⟨_, rfl⟩
      rw [he1] at HD3
      obtain rfl := HD3.out
      clear HD3
      have HE : Hid _ := he1
      clear he1
      have hqn : ((m : Int) == -1) = false := by simp
      have hqd : decide ((m : Int) = -1) = false := decide_eq_false (by omega)
      go_wp2_with fail
      have D : Below w3.heap.size w3 w3.drew := (Below.refl _ _).drew
      replace c0_0 := cell_later D c0_0
      replace c0_1 := cell_later D c0_1
      replace c0_2 := cell_later D c0_2
      replace H0 : Hid (b0 < w3.drew.heap.size) := Nat.lt_of_lt_of_le H0.out D.size
      replace c1_0 := cell_later D c1_0
      replace c1_1 := cell_later D c1_1
      replace c1_2 := cell_later D c1_2
      replace c1_3 := cell_later D c1_3
      replace H1 : Hid (b1 < w3.drew.heap.size) := Nat.lt_of_lt_of_le H1.out D.size
      replace c2_0 := cell_later D c2_0
      replace c2_1 := cell_later D c2_1
      replace c2_2 := cell_later D c2_2
      replace c2_3 := cell_later D c2_3
      replace c2_4 := cell_later D c2_4
      replace c2_5 := cell_later D c2_5
      replace y2_0 := frozen_later D H2.out y2_0
      replace y2_1 := frozen_later D H2.out y2_1
      replace y2_2 := frozen_later D H2.out y2_2
      replace y2_3 := frozen_later D H2.out y2_3
      replace y2_4 := frozen_later D H2.out y2_4
      replace y2_5 := frozen_later D H2.out y2_5
      replace H2 : Hid (b2 < w3.drew.heap.size) := Nat.lt_of_lt_of_le H2.out D.size
      replace B := below_next B D
      clear D
      go_region_held3 (fun w' => w'.cell? ⟨b0, 0, none⟩ = some (.slice an nn cn) ∧ w'.cell? ⟨b0, 1, none⟩ = some (.slice ab nb cb) ∧ w'.cell? ⟨b0, 2, none⟩ = some (.slice av nv cv) ∧ w'.cell? ⟨b1, 0, none⟩ = some (.int .i64 6) ∧ w'.cell? ⟨b1, 1, none⟩ = some (.int .i64 ov) ∧ w'.cell? ⟨b1, 2, none⟩ = some (.int .i64 oa) ∧ w'.cell? ⟨b1, 3, none⟩ = some (.int .i64 ox)) (first | with_reducible exact ⟨c0_0, c0_1, c0_2, c1_0, c1_1, c1_2, c1_3⟩ | with_reducible exact ⟨(six_other _ _ _ _ _ _ _ _ _ _ n02).trans c0_0, (six_other _ _ _ _ _ _ _ _ _ _ n02).trans c0_1, (six_other _ _ _ _ _ _ _ _ _ _ n02).trans c0_2, (six_other _ _ _ _ _ _ _ _ _ _ n12).trans c1_0, (six_other _ _ _ _ _ _ _ _ _ _ n12).trans c1_1, (six_other _ _ _ _ _ _ _ _ _ _ n12).trans c1_2, (six_other _ _ _ _ _ _ _ _ _ _ n12).trans c1_3⟩)
        (first | (go_at_call 44; (with_reducible refine (doneBy6 _).mono ?_); rintro e w4 ⟨rfl, B4⟩; replace c0_0 := cell_later B4 c0_0; replace c0_1 := cell_later B4 c0_1; replace c0_2 := cell_later B4 c0_2; replace H0 : Hid (b0 < w4.heap.size) := Nat.lt_of_lt_of_le H0.out B4.size; replace c1_0 := cell_later B4 c1_0; replace c1_1 := cell_later B4 c1_1; replace c1_2 := cell_later B4 c1_2; replace c1_3 := cell_later B4 c1_3; replace H1 : Hid (b1 < w4.heap.size) := Nat.lt_of_lt_of_le H1.out B4.size; replace c2_0 := cell_later B4 c2_0; replace c2_1 := cell_later B4 c2_1; replace c2_2 := cell_later B4 c2_2; replace c2_3 := cell_later B4 c2_3; replace c2_4 := cell_later B4 c2_4; replace c2_5 := cell_later B4 c2_5; replace y2_0 := frozen_later B4 H2.out y2_0; replace y2_1 := frozen_later B4 H2.out y2_1; replace y2_2 := frozen_later B4 H2.out y2_2; replace y2_3 := frozen_later B4 H2.out y2_3; replace y2_4 := frozen_later B4 H2.out y2_4; replace y2_5 := frozen_later B4 H2.out y2_5; replace H2 : Hid (b2 < w4.heap.size) := Nat.lt_of_lt_of_le H2.out B4.size; replace B := below_next B B4; clear B4) | (go_at_call 100; (with_reducible refine (deleteVol_is an nn cn ab nb cb av nv cv K f vs _ (h.below B) (hv.below B) hn hb hK hvn m hm 6 ov oa ox e1 HE.out).mono ?_); rintro e w5 ⟨pa, pn, pc, pb, qn, qc, va, vn, vc, l1, u1, l2, u2, K', rfl, P, BB⟩; have Q1 : Hid (b2 < l1) := Nat.lt_of_lt_of_le H2.out P.lo1; have Q2 : Hid (b2 < l2) := Nat.lt_of_lt_of_le H2.out P.lo2; replace P := P.from (w := w) B.size; replace c0_0 := cell_later BB c0_0; replace c0_1 := cell_later BB c0_1; replace c0_2 := cell_later BB c0_2; replace H0 : Hid (b0 < w5.heap.size) := Nat.lt_of_lt_of_le H0.out BB.size; replace c1_0 := cell_later BB c1_0; replace c1_1 := cell_later BB c1_1; replace c1_2 := cell_later BB c1_2; replace c1_3 := cell_later BB c1_3; replace H1 : Hid (b1 < w5.heap.size) := Nat.lt_of_lt_of_le H1.out BB.size; replace c2_0 := cell_later BB c2_0; replace c2_1 := cell_later BB c2_1; replace c2_2 := cell_later BB c2_2; replace c2_3 := cell_later BB c2_3; replace c2_4 := cell_later BB c2_4; replace c2_5 := cell_later BB c2_5; replace y2_0 := frozen_later BB H2.out y2_0; replace y2_1 := frozen_later BB H2.out y2_1; replace y2_2 := frozen_later BB H2.out y2_2; replace y2_3 := frozen_later BB H2.out y2_3; replace y2_4 := frozen_later BB H2.out y2_4; replace y2_5 := frozen_later BB H2.out y2_5; replace H2 : Hid (b2 < w5.heap.size) := Nat.lt_of_lt_of_le H2.out BB.size; replace B := below_next B BB; clear BB))
      go_wp2
      refine bodyPost_ret (v := .agg #[.int .i64 0, .int .i64 e1.1, .int .i64 0, .slice pa pn pc, .slice pb qn qc, .slice va vn vc]) (by simp [results, Try.results12, go_sem, c2_0, c2_1, c2_2, c2_3, c2_4, c2_5]) rfl ?_
      have KZ : Kept b2 (b2 + 1) w5 ((((((w5.setCell ⟨b2, 0, none⟩ (.int .i64 0)).setCell ⟨b2, 1, none⟩ (.int .i64 e1.1)).setCell ⟨b2, 2, none⟩ (.int .i64 0)).setCell ⟨b2, 3, none⟩ (.slice pa pn pc)).setCell ⟨b2, 4, none⟩ (.slice pb qn qc)).setCell ⟨b2, 5, none⟩ (.slice va vn vc)) := by refine Kept.setCell (Kept.setCell (Kept.setCell (Kept.setCell (Kept.setCell (Kept.setCell (Kept.refl _ _ _) ?_ ?_ _) ?_ ?_ _) ?_ ?_ _) ?_ ?_ _) ?_ ?_ _) ?_ ?_ _ <;> simp
      exact ⟨_, _, _, _, _, _, _, _, _, _, _, _, _, _, rfl, P.keep KZ (Or.inr Q1.out) (Or.inr Q2.out), B.trans (KZ.below _ (Nat.le_trans O0.out (Nat.le_of_lt (Nat.lt_trans O1.out O2.out))) B.size)⟩

end Go.Proofs.Ytikjndmgljkhhaa

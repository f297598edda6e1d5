/- At every list of words the program's UnpackDelta answers as its model does, field by field, writes into no argument and owns what it answers: the law FnExactUnpackDelta is true at every argument, with no condition. -/
import Derived.Test.YtcbfmjanjciodaaEX
import Derived.Test.YtcbfmjanjciodaaRows
import Derived.Test.YtcbfmjanjciodaaYX
import Derived.Test.YtcbfmjanjciodaaYW
import Derived.Test.YtcbfmjanjciodaaDR
import Derived.Test.YtcbfmjanjciodaaAll
import Derived.Test.YtcbfmjanjciodaaZR
namespace Go.Proofs.Ytcbfmjanjciodaa
open Go.RowKit

theorem toIntsU_ex {own : Bool} {lo hi : Nat} (ao : Option Addr) (n cap : Nat) (xs : List Int) (w : World) (h : RowAt w own lo hi 1 ao n cap (ints xs)) (hn : n ≤ 1048576) :
    Calls Try.prog 56 #[.slice ao n cap] w fun e w' => ∃ g, e = .returned (.slice (some ⟨g, 0, none⟩) n n) ∧ RowAt w' true w.heap.size w'.heap.size 1 (some ⟨g, 0, none⟩) n n (ints xs) ∧ Below w.heap.size w w' :=
  (toInts_any ao n cap xs w h hn).mono fun _ _ h => ⟨_, h⟩
theorem unVs_len (ws : List Int) : (unVs ws).length ≤ 6 := by
  unfold unVs
  split
  · rw [rdV_len]; unfold rdN; omega
  · exact Nat.zero_le _
theorem unSs_len (ws : List Int) : (unSs ws).length ≤ 120 := by
  unfold unSs
  split
  · rw [rdS_len]; unfold rdM; omega
  · exact Nat.zero_le _
theorem deU_of {w : World} {o : Bool} {lo mid hi : Nat} {av : Option Addr} {nv cv : Nat} {aq : Option Addr} {nq cq : Nat} {vs : List Vo} {ss : List St} (hv : RowAt w o lo mid 3 av nv cv (trips vs)) (hs : RowAt w o mid hi 4 aq nq cq (quads ss)) (h1 : lo ≤ mid) (h2 : mid ≤ hi) : DeAt w o lo hi av nv cv aq nq cq vs ss := ⟨hv.widen (Nat.le_refl _) h2, hs.widen h1 (Nat.le_refl _)⟩

set_option maxRecDepth 20000 in
set_option maxHeartbeats 4000000 in
theorem lawUnpackDelta {o0 : Bool} (a0 : Option Addr) (n0 c0 : Nat) (xs : List Int) (w : World) (h0 : RowAt w o0 0 w.heap.size 1 a0 n0 c0 (ints xs)) (hn : n0 ≤ maxLen) :
    Calls Try.prog 12 #[.slice a0 n0 c0] w fun e w' => e = .returned (.bool true) ∧ Below w.heap.size w w' := by
  have _ := hn
  have B : Below w.heap.size w w := Below.refl _ _
  have hyl := h0.nInts
  obtain ⟨cd, hcd⟩ : ∃ x, unC xs = x := ⟨_, rfl⟩
  obtain ⟨fr, hfr⟩ : ∃ x, unFr xs = x := ⟨_, rfl⟩
  obtain ⟨tt, htt⟩ : ∃ x, unTo xs = x := ⟨_, rfl⟩
  obtain ⟨vs, hvs⟩ : ∃ x, unVs xs = x := ⟨_, rfl⟩
  obtain ⟨ss, hss⟩ : ∃ x, unSs xs = x := ⟨_, rfl⟩
  have hb1 : vs.length ≤ 6 := by rw [← hvs]; exact unVs_len xs
  have hb2 : ss.length ≤ 120 := by rw [← hss]; exact unSs_len xs
  have Hcd : Hid _ := hcd
  have Hfr : Hid _ := hfr
  have Htt : Hid _ := htt
  have Hvs : Hid _ := hvs
  have Hss : Hid _ := hss
  clear hcd hfr htt hvs hss
  go_enter Try.func12, Try.ntmps12
  by_cases hbig : 1048576 < n0
  · have hbi : (1048576 : Int) < (n0 : Int) := by omega
    go_wp2
    go_ret
    exact ⟨rfl, B⟩
  have hbi : ¬ (1048576 : Int) < (n0 : Int) := by omega
  have hsz : n0 ≤ 1048576 := by omega
  have hn0 : n0 ≤ 2097152 := by omega
  go_wp2_with fail
  refine (toIntsU_ex _ _ _ xs _ (by exact h0.below B) hsz).mono ?_
  rintro e w2 ⟨ta, rfl, rT, hb⟩
  replace B := below_next B hb
  have S1 := hb.size
  clear hb
  go_wp2_with fail
  refine (specUn_is ta 0 n0 n0 xs _ rT hn0 cd fr tt vs ss Hcd.out Hfr.out Htt.out Hvs.out Hss.out).mono ?_
  rintro e w3 ⟨pa, pn, pb, pc, pk, pd, pm, rfl, vp, sp, m1p, m2p, hb⟩
  replace B := below_next B hb
  have S2 := hb.size
  clear hb
  have pL : pn ≤ 6 := by rw [← vp.nTrips]; exact hb1
  have pK : pk ≤ 120 := by rw [← sp.nQuads]; exact hb2
  clear rT
  go_wp2_with fail
  have A3 : Below w3.heap.size w3 (w3.alloc (.cells #[.int .i64 cd, .int .i64 fr, .int .i64 tt, .slice pa pn pb, .slice pc pk pd] 83)) := (Below.refl _ _).alloc (Nat.le_refl _) _
  replace vp := vp.below A3
  replace sp := sp.below A3
  replace B := below_next B A3
  have S4 := A3.size
  clear A3
  have E4 : w3.heap.size + 1 ≤ (w3.alloc (.cells #[.int .i64 cd, .int .i64 fr, .int .i64 tt, .slice pa pn pb, .slice pc pk pd] 83)).heap.size := by simp
  have pb0 : (w3.alloc (.cells #[.int .i64 cd, .int .i64 fr, .int .i64 tt, .slice pa pn pb, .slice pc pk pd] 83)).cell? ⟨w3.heap.size, 0, none⟩ = some (.int .i64 cd) := by simp
  have pb1 : (w3.alloc (.cells #[.int .i64 cd, .int .i64 fr, .int .i64 tt, .slice pa pn pb, .slice pc pk pd] 83)).cell? ⟨w3.heap.size, 1, none⟩ = some (.int .i64 fr) := by simp
  have pb2 : (w3.alloc (.cells #[.int .i64 cd, .int .i64 fr, .int .i64 tt, .slice pa pn pb, .slice pc pk pd] 83)).cell? ⟨w3.heap.size, 2, none⟩ = some (.int .i64 tt) := by simp
  have pb3 : (w3.alloc (.cells #[.int .i64 cd, .int .i64 fr, .int .i64 tt, .slice pa pn pb, .slice pc pk pd] 83)).cell? ⟨w3.heap.size, 3, none⟩ = some (.slice pa pn pb) := by simp
  have pb4 : (w3.alloc (.cells #[.int .i64 cd, .int .i64 fr, .int .i64 tt, .slice pa pn pb, .slice pc pk pd] 83)).cell? ⟨w3.heap.size, 4, none⟩ = some (.slice pc pk pd) := by simp
  have lpb : w3.heap.size < (w3.alloc (.cells #[.int .i64 cd, .int .i64 fr, .int .i64 tt, .slice pa pn pb, .slice pc pk pd] 83)).heap.size := by simp
  go_wp2_with fail
  refine (toIntsU_ex _ _ _ xs _ (by exact h0.below B) hsz).mono ?_
  rintro e w4 ⟨xa, rfl, rX, hb⟩
  replace pb0 := cell_later hb pb0
  replace pb1 := cell_later hb pb1
  replace pb2 := cell_later hb pb2
  replace pb3 := cell_later hb pb3
  replace pb4 := cell_later hb pb4
  replace vp := vp.below hb
  replace sp := sp.below hb
  replace lpb := Nat.lt_of_lt_of_le lpb hb.size
  replace B := below_next B hb
  have S5 := hb.size
  clear hb
  go_wp2_with fail
  refine (implUn_is xa 0 n0 n0 xs _ rX hn0 cd fr tt vs ss Hcd.out Hfr.out Htt.out Hvs.out Hss.out).mono ?_
  rintro e w5 ⟨qa, qn, qb, qc, qk, qd, qm, rfl, vq, sq, m1q, m2q, hb⟩
  replace pb0 := cell_later hb pb0
  replace pb1 := cell_later hb pb1
  replace pb2 := cell_later hb pb2
  replace pb3 := cell_later hb pb3
  replace pb4 := cell_later hb pb4
  replace vp := vp.below hb
  replace sp := sp.below hb
  replace rX := rX.below hb
  replace lpb := Nat.lt_of_lt_of_le lpb hb.size
  replace B := below_next B hb
  have S6 := hb.size
  clear hb
  have qL : qn ≤ 6 := by rw [← vq.nTrips]; exact hb1
  have qK : qk ≤ 120 := by rw [← sq.nQuads]; exact hb2
  go_wp2_with fail
  have A7 : Below w5.heap.size w5 (w5.alloc (.cells #[.int .i64 cd, .int .i64 fr, .int .i64 tt, .slice qa qn qb, .slice qc qk qd] 83)) := (Below.refl _ _).alloc (Nat.le_refl _) _
  replace pb0 := cell_later A7 pb0
  replace pb1 := cell_later A7 pb1
  replace pb2 := cell_later A7 pb2
  replace pb3 := cell_later A7 pb3
  replace pb4 := cell_later A7 pb4
  replace vp := vp.below A7
  replace sp := sp.below A7
  replace rX := rX.below A7
  replace vq := vq.below A7
  replace sq := sq.below A7
  replace lpb := Nat.lt_of_lt_of_le lpb A7.size
  replace B := below_next B A7
  have S8 := A7.size
  clear A7
  have E8 : w5.heap.size + 1 ≤ (w5.alloc (.cells #[.int .i64 cd, .int .i64 fr, .int .i64 tt, .slice qa qn qb, .slice qc qk qd] 83)).heap.size := by simp
  have qb0 : (w5.alloc (.cells #[.int .i64 cd, .int .i64 fr, .int .i64 tt, .slice qa qn qb, .slice qc qk qd] 83)).cell? ⟨w5.heap.size, 0, none⟩ = some (.int .i64 cd) := by simp
  have qb1 : (w5.alloc (.cells #[.int .i64 cd, .int .i64 fr, .int .i64 tt, .slice qa qn qb, .slice qc qk qd] 83)).cell? ⟨w5.heap.size, 1, none⟩ = some (.int .i64 fr) := by simp
  have qb2 : (w5.alloc (.cells #[.int .i64 cd, .int .i64 fr, .int .i64 tt, .slice qa qn qb, .slice qc qk qd] 83)).cell? ⟨w5.heap.size, 2, none⟩ = some (.int .i64 tt) := by simp
  have qb3 : (w5.alloc (.cells #[.int .i64 cd, .int .i64 fr, .int .i64 tt, .slice qa qn qb, .slice qc qk qd] 83)).cell? ⟨w5.heap.size, 3, none⟩ = some (.slice qa qn qb) := by simp
  have qb4 : (w5.alloc (.cells #[.int .i64 cd, .int .i64 fr, .int .i64 tt, .slice qa qn qb, .slice qc qk qd] 83)).cell? ⟨w5.heap.size, 4, none⟩ = some (.slice qc qk qd) := by simp
  have lqb : w5.heap.size < (w5.alloc (.cells #[.int .i64 cd, .int .i64 fr, .int .i64 tt, .slice qa qn qb, .slice qc qk qd] 83)).heap.size := by simp
  go_wp2_with fail
  refine (eqDRes_yes cd fr tt qa qn qb qc qk qd vs ss _ (deU_of vq sq m1q m2q) pa pn pb pc pk pd (deU_of vp sp m1p m2p) (by omega) (by omega)).mono ?_
  rintro e w6 ⟨rfl, hb⟩
  replace pb0 := cell_later hb pb0
  replace pb1 := cell_later hb pb1
  replace pb2 := cell_later hb pb2
  replace pb3 := cell_later hb pb3
  replace pb4 := cell_later hb pb4
  replace qb0 := cell_later hb qb0
  replace qb1 := cell_later hb qb1
  replace qb2 := cell_later hb qb2
  replace qb3 := cell_later hb qb3
  replace qb4 := cell_later hb qb4
  replace vp := vp.below hb
  replace sp := sp.below hb
  replace rX := rX.below hb
  replace vq := vq.below hb
  replace sq := sq.below hb
  replace lpb := Nat.lt_of_lt_of_le lpb hb.size
  replace lqb := Nat.lt_of_lt_of_le lqb hb.size
  replace B := below_next B hb
  have S9 := hb.size
  clear hb
  go_wp2_with fail
  refine (toIntsU_ex _ _ _ xs _ (by exact h0.below B) hsz).mono ?_
  rintro e w7 ⟨ya, rfl, rY, hb⟩
  replace pb0 := cell_later hb pb0
  replace pb1 := cell_later hb pb1
  replace pb2 := cell_later hb pb2
  replace pb3 := cell_later hb pb3
  replace pb4 := cell_later hb pb4
  replace qb0 := cell_later hb qb0
  replace qb1 := cell_later hb qb1
  replace qb2 := cell_later hb qb2
  replace qb3 := cell_later hb qb3
  replace qb4 := cell_later hb qb4
  replace vp := vp.below hb
  replace sp := sp.below hb
  replace rX := rX.below hb
  replace vq := vq.below hb
  replace sq := sq.below hb
  replace lpb := Nat.lt_of_lt_of_le lpb hb.size
  replace lqb := Nat.lt_of_lt_of_le lqb hb.size
  replace B := below_next B hb
  have S10 := hb.size
  clear hb
  go_wp2_with fail
  refine (eqInts_is _ _ _ _ _ _ xs xs _ rX rY hn0 hn0 true (by simp)).mono ?_
  rintro e w8 ⟨rfl, hb⟩
  replace pb0 := cell_later hb pb0
  replace pb1 := cell_later hb pb1
  replace pb2 := cell_later hb pb2
  replace pb3 := cell_later hb pb3
  replace pb4 := cell_later hb pb4
  replace qb0 := cell_later hb qb0
  replace qb1 := cell_later hb qb1
  replace qb2 := cell_later hb qb2
  replace qb3 := cell_later hb qb3
  replace qb4 := cell_later hb qb4
  replace vp := vp.below hb
  replace sp := sp.below hb
  replace rX := rX.below hb
  replace vq := vq.below hb
  replace sq := sq.below hb
  replace lpb := Nat.lt_of_lt_of_le lpb hb.size
  replace lqb := Nat.lt_of_lt_of_le lqb hb.size
  replace B := below_next B hb
  have S11 := hb.size
  clear hb
  clear rY
  go_wp2_with fail
  refine (markInts_any _ _ _ xs _ _ rX (by omega) (by omega) (by omega)).mono ?_
  rintro e w9 ⟨rfl, rX', K⟩
  replace pb0 := K.cell pb0 (by omega)
  replace pb1 := K.cell pb1 (by omega)
  replace pb2 := K.cell pb2 (by omega)
  replace pb3 := K.cell pb3 (by omega)
  replace pb4 := K.cell pb4 (by omega)
  replace qb0 := K.cell qb0 (by omega)
  replace qb1 := K.cell qb1 (by omega)
  replace qb2 := K.cell qb2 (by omega)
  replace qb3 := K.cell qb3 (by omega)
  replace qb4 := K.cell qb4 (by omega)
  replace vp := vp.kept K (by omega)
  replace sp := sp.kept K (by omega)
  replace vq := vq.kept K (by omega)
  replace sq := sq.kept K (by omega)
  replace lpb := Nat.lt_of_lt_of_le lpb K.size
  replace lqb := Nat.lt_of_lt_of_le lqb K.size
  replace B := B.trans (K.below _ (by omega) (by omega))
  have S12 := K.size
  clear rX rX' K
  have hk : ¬ ((1 : Int) + n0 < 0) := by omega
  go_wp2_with fail
  refine (eqDRes_yes cd fr tt qa qn qb qc qk qd vs ss _ (deU_of vq sq m1q m2q) pa pn pb pc pk pd (deU_of vp sp m1p m2p) (by omega) (by omega)).mono ?_
  rintro e w10 ⟨rfl, hb⟩
  replace pb0 := cell_later hb pb0
  replace pb1 := cell_later hb pb1
  replace pb2 := cell_later hb pb2
  replace pb3 := cell_later hb pb3
  replace pb4 := cell_later hb pb4
  replace qb0 := cell_later hb qb0
  replace qb1 := cell_later hb qb1
  replace qb2 := cell_later hb qb2
  replace qb3 := cell_later hb qb3
  replace qb4 := cell_later hb qb4
  replace vp := vp.below hb
  replace sp := sp.below hb
  replace vq := vq.below hb
  replace sq := sq.below hb
  replace lpb := Nat.lt_of_lt_of_le lpb hb.size
  replace lqb := Nat.lt_of_lt_of_le lqb hb.size
  replace B := below_next B hb
  have S13 := hb.size
  clear hb
  go_wp2_with fail
  refine (markDRes_any cd fr tt qa qn qb qc qk qd vs ss _ vq sq (by omega) (by omega) m1q m2q (by omega)).mono ?_
  rintro e w11 ⟨rfl, vM, sM, K⟩
  replace pb0 := K.cell pb0 (by omega)
  replace pb1 := K.cell pb1 (by omega)
  replace pb2 := K.cell pb2 (by omega)
  replace pb3 := K.cell pb3 (by omega)
  replace pb4 := K.cell pb4 (by omega)
  replace qb0 := K.cell qb0 (by omega)
  replace qb1 := K.cell qb1 (by omega)
  replace qb2 := K.cell qb2 (by omega)
  replace qb3 := K.cell qb3 (by omega)
  replace qb4 := K.cell qb4 (by omega)
  replace vp := vp.kept K (by omega)
  replace sp := sp.kept K (by omega)
  replace lpb := Nat.lt_of_lt_of_le lpb K.size
  replace lqb := Nat.lt_of_lt_of_le lqb K.size
  replace B := B.trans (K.below _ (by omega) (by omega))
  have S14 := K.size
  clear vq sq K
  go_wp2_with fail
  refine (heldDRes_any cd fr tt qa qn qb qc qk qd _ vM sM (by omega) (by omega)).mono ?_
  rintro e w12 ⟨rfl, hb⟩
  replace pb0 := cell_later hb pb0
  replace pb1 := cell_later hb pb1
  replace pb2 := cell_later hb pb2
  replace pb3 := cell_later hb pb3
  replace pb4 := cell_later hb pb4
  replace qb0 := cell_later hb qb0
  replace qb1 := cell_later hb qb1
  replace qb2 := cell_later hb qb2
  replace qb3 := cell_later hb qb3
  replace qb4 := cell_later hb qb4
  replace vp := vp.below hb
  replace sp := sp.below hb
  replace vM := vM.below hb
  replace sM := sM.below hb
  replace lpb := Nat.lt_of_lt_of_le lpb hb.size
  replace lqb := Nat.lt_of_lt_of_le lqb hb.size
  replace B := below_next B hb
  have S15 := hb.size
  clear hb
  have hq : ¬ ((1 : Int) + 3 * qn + 4 * qk < 0) := by omega
  have he : (((1 : Int) + 3 * qn + 4 * qk) != ((1 : Int) + 3 * qn + 4 * qk)) = false := by simp
  go_wp2_with fail
  refine (toIntsU_ex _ _ _ xs _ (by exact h0.below B) hsz).mono ?_
  rintro e w13 ⟨tb, rfl, rT, hb⟩
  replace pb0 := cell_later hb pb0
  replace pb1 := cell_later hb pb1
  replace pb2 := cell_later hb pb2
  replace pb3 := cell_later hb pb3
  replace pb4 := cell_later hb pb4
  replace qb0 := cell_later hb qb0
  replace qb1 := cell_later hb qb1
  replace qb2 := cell_later hb qb2
  replace qb3 := cell_later hb qb3
  replace qb4 := cell_later hb qb4
  replace vp := vp.below hb
  replace sp := sp.below hb
  replace vM := vM.below hb
  replace sM := sM.below hb
  replace lpb := Nat.lt_of_lt_of_le lpb hb.size
  replace lqb := Nat.lt_of_lt_of_le lqb hb.size
  replace B := below_next B hb
  have S16 := hb.size
  clear hb
  go_wp2_with fail
  refine (implUn_is tb 0 n0 n0 xs _ rT hn0 cd fr tt vs ss Hcd.out Hfr.out Htt.out Hvs.out Hss.out).mono ?_
  rintro e w14 ⟨ha, hn, hb, hc, hk, hd, hm, rfl, vh, sh, m1h, m2h, hb⟩
  replace pb0 := cell_later hb pb0
  replace pb1 := cell_later hb pb1
  replace pb2 := cell_later hb pb2
  replace pb3 := cell_later hb pb3
  replace pb4 := cell_later hb pb4
  replace qb0 := cell_later hb qb0
  replace qb1 := cell_later hb qb1
  replace qb2 := cell_later hb qb2
  replace qb3 := cell_later hb qb3
  replace qb4 := cell_later hb qb4
  replace vp := vp.below hb
  replace sp := sp.below hb
  replace vM := vM.below hb
  replace sM := sM.below hb
  replace lpb := Nat.lt_of_lt_of_le lpb hb.size
  replace lqb := Nat.lt_of_lt_of_le lqb hb.size
  replace B := below_next B hb
  have S17 := hb.size
  clear hb
  have hL : hn ≤ 6 := by rw [← vh.nTrips]; exact hb1
  have hK : hk ≤ 120 := by rw [← sh.nQuads]; exact hb2
  clear rT
  go_wp2_with fail
  have A18 : Below w14.heap.size w14 (w14.alloc (.cells #[.int .i64 cd, .int .i64 fr, .int .i64 tt, .slice ha hn hb, .slice hc hk hd] 83)) := (Below.refl _ _).alloc (Nat.le_refl _) _
  replace pb0 := cell_later A18 pb0
  replace pb1 := cell_later A18 pb1
  replace pb2 := cell_later A18 pb2
  replace pb3 := cell_later A18 pb3
  replace pb4 := cell_later A18 pb4
  replace qb0 := cell_later A18 qb0
  replace qb1 := cell_later A18 qb1
  replace qb2 := cell_later A18 qb2
  replace qb3 := cell_later A18 qb3
  replace qb4 := cell_later A18 qb4
  replace vp := vp.below A18
  replace sp := sp.below A18
  replace vM := vM.below A18
  replace sM := sM.below A18
  replace vh := vh.below A18
  replace sh := sh.below A18
  replace lpb := Nat.lt_of_lt_of_le lpb A18.size
  replace lqb := Nat.lt_of_lt_of_le lqb A18.size
  replace B := below_next B A18
  have S19 := A18.size
  clear A18
  have E19 : w14.heap.size + 1 ≤ (w14.alloc (.cells #[.int .i64 cd, .int .i64 fr, .int .i64 tt, .slice ha hn hb, .slice hc hk hd] 83)).heap.size := by simp
  have hb0 : (w14.alloc (.cells #[.int .i64 cd, .int .i64 fr, .int .i64 tt, .slice ha hn hb, .slice hc hk hd] 83)).cell? ⟨w14.heap.size, 0, none⟩ = some (.int .i64 cd) := by simp
  have hb1 : (w14.alloc (.cells #[.int .i64 cd, .int .i64 fr, .int .i64 tt, .slice ha hn hb, .slice hc hk hd] 83)).cell? ⟨w14.heap.size, 1, none⟩ = some (.int .i64 fr) := by simp
  have hb2 : (w14.alloc (.cells #[.int .i64 cd, .int .i64 fr, .int .i64 tt, .slice ha hn hb, .slice hc hk hd] 83)).cell? ⟨w14.heap.size, 2, none⟩ = some (.int .i64 tt) := by simp
  have hb3 : (w14.alloc (.cells #[.int .i64 cd, .int .i64 fr, .int .i64 tt, .slice ha hn hb, .slice hc hk hd] 83)).cell? ⟨w14.heap.size, 3, none⟩ = some (.slice ha hn hb) := by simp
  have hb4 : (w14.alloc (.cells #[.int .i64 cd, .int .i64 fr, .int .i64 tt, .slice ha hn hb, .slice hc hk hd] 83)).cell? ⟨w14.heap.size, 4, none⟩ = some (.slice hc hk hd) := by simp
  have lhb : w14.heap.size < (w14.alloc (.cells #[.int .i64 cd, .int .i64 fr, .int .i64 tt, .slice ha hn hb, .slice hc hk hd] 83)).heap.size := by simp
  go_wp2_with fail
  refine (eqDRes_yes cd fr tt ha hn hb hc hk hd vs ss _ (deU_of vh sh m1h m2h) pa pn pb pc pk pd (deU_of vp sp m1p m2p) (by omega) (by omega)).mono ?_
  rintro e w15 ⟨rfl, hb⟩
  replace pb0 := cell_later hb pb0
  replace pb1 := cell_later hb pb1
  replace pb2 := cell_later hb pb2
  replace pb3 := cell_later hb pb3
  replace pb4 := cell_later hb pb4
  replace qb0 := cell_later hb qb0
  replace qb1 := cell_later hb qb1
  replace qb2 := cell_later hb qb2
  replace qb3 := cell_later hb qb3
  replace qb4 := cell_later hb qb4
  replace hb0 := cell_later hb hb0
  replace hb1 := cell_later hb hb1
  replace hb2 := cell_later hb hb2
  replace hb3 := cell_later hb hb3
  replace hb4 := cell_later hb hb4
  replace vp := vp.below hb
  replace sp := sp.below hb
  replace vM := vM.below hb
  replace sM := sM.below hb
  replace vh := vh.below hb
  replace sh := sh.below hb
  replace lpb := Nat.lt_of_lt_of_le lpb hb.size
  replace lqb := Nat.lt_of_lt_of_le lqb hb.size
  replace lhb := Nat.lt_of_lt_of_le lhb hb.size
  replace B := below_next B hb
  have S20 := hb.size
  clear hb
  go_wp2_with fail
  refine (heldDRes_any cd fr tt qa qn qb qc qk qd _ vM sM (by omega) (by omega)).mono ?_
  rintro e w16 ⟨rfl, hb⟩
  replace pb0 := cell_later hb pb0
  replace pb1 := cell_later hb pb1
  replace pb2 := cell_later hb pb2
  replace pb3 := cell_later hb pb3
  replace pb4 := cell_later hb pb4
  replace qb0 := cell_later hb qb0
  replace qb1 := cell_later hb qb1
  replace qb2 := cell_later hb qb2
  replace qb3 := cell_later hb qb3
  replace qb4 := cell_later hb qb4
  replace hb0 := cell_later hb hb0
  replace hb1 := cell_later hb hb1
  replace hb2 := cell_later hb hb2
  replace hb3 := cell_later hb hb3
  replace hb4 := cell_later hb hb4
  replace vp := vp.below hb
  replace sp := sp.below hb
  replace vM := vM.below hb
  replace sM := sM.below hb
  replace vh := vh.below hb
  replace sh := sh.below hb
  replace lpb := Nat.lt_of_lt_of_le lpb hb.size
  replace lqb := Nat.lt_of_lt_of_le lqb hb.size
  replace lhb := Nat.lt_of_lt_of_le lhb hb.size
  replace B := below_next B hb
  have S21 := hb.size
  clear hb
  go_wp2
  go_ret
  exact ⟨rfl, B⟩

open Go.ChangeShapes Go.WideShapes Go.ChangeAt Go.Joins

set_option maxRecDepth 100000 in
theorem liftedUnpackDelta (os : Os) (started : os.Started) (H : Type) (enc : TypeId × Value → H) :
    ReturnsInHanded {} Try.checked os 12 .any (Rows.fnExactUnpackDeltaSpec.pre6 enc Try.prog Try.f12 Rows.fnExactUnpackDeltaRow.domain false) (Rows.fnExactUnpackDeltaSpec.post enc Try.prog Try.f12 false true false false) := by
  refine returnsInHanded_of_change (C := Try.checked) Try.own started (by kernel_rfl) Try.func12
    (ChangeSpec.witness6 (enc := enc) (C := Try.checked) false ⟨#[], #[.slice none 0 0], []⟩ 8 (by kernel_rfl) (by kernel_rfl) (by kernel_rfl) (by kernel_rfl)) ?_
  intro W base args ds gs before hval0 hW hcnd _
  have hval : ∀ (j : Nat) t v, Try.f12.params[j]? = some t → args[j]? = some v → Value.okWide Try.prog W .any base t v := hval0
  have hW' := hW
  obtain ⟨p, q, hA0, hV, rfl, hfz, hnd⟩ := hW
  have hA : DataW.TrodAll enc Try.prog W 0 (fun _ => true) true Try.f12.params.toList args.toList ds p := hA0
  rw [Try.params12] at hA hval
  obtain ⟨v0, vs0, d0, ds0, p0, q0, hargs, rfl, rfl, h0, r0⟩ := trodAll_cons hA
  obtain ⟨rfl, rfl, rfl⟩ := trodAll_nil r0
  obtain rfl : args = #[v0] := by cases args; simp_all
  obtain ⟨rfl, rfl⟩ := trodVars_none hV
  have lt0 : ∀ x ∈ p0, x.block < W.heap.size := by obtain ⟨m, hm⟩ := h0; exact DataW.trod_lt m _ _ _ hm
  have k0 := h0
  obtain ⟨fuel, hf⟩ := h0
  obtain ⟨av, lv, cv, rfl⟩ := okWide_slice Try.underlying32 (hval 0 32 v0 rfl rfl)
  obtain ⟨a2, n2, c2, zs, hv, hn2, s2⟩ := read_ints Try.underlying32 Try.underlying2 Try.cellsInt (v := .slice av lv cv) (by simpa [Value.cells] using hf)
  obtain ⟨rfl, rfl, rfl⟩ := Value.slice.inj hv
  clear hA0 hval0
  refine (lawUnpackDelta _ _ _ zs W s2 hn2).mono fun e W' ⟨he, bel⟩ => ?_
  subst he
  exact ⟨_, rfl, _, _, _, [], _, [], hW', trodAll_mk1 (shut_bool Try.underlying4 _), (trodAll_cons_mk (Below.trod Try.laidOut (by kernel_rfl) (of_decide_eq_true (by kernel_rfl)) k0 bel lt0) trodAll_mk0), rfl, bel.frame _, fun h => by cases h⟩

set_option maxRecDepth 100000 in
set_option maxHeartbeats 0 in
theorem closedUnpackDelta : joinedFacts Try.prog 12 Try.f12 Rows.fnExactUnpackDeltaSpec Rows.fnExactUnpackDeltaRow = true := by
  have q1 : (Rows.fnExactUnpackDeltaRow.inPlace == Try.prog.inPlace 12) = true := by rw [inPlace_at leads_is inp_is]; kernel_rfl
  have q2 : (Rows.fnExactUnpackDeltaRow.unfollowed == Try.prog.unfollowed 12) = true := by rw [unfollowed_at leads_is unf_is]; kernel_rfl
  have q3 : (Rows.fnExactUnpackDeltaRow.recurses == Try.prog.recurses 12) = true := (by rw [recurses_no leads_is (by rw [unfollowed_at leads_is unf_is]; kernel_rfl) ranks_ok (by kernel_rfl)]; rfl)
  have q4 : (Rows.fnExactUnpackDeltaRow.named == Try.prog.varsNamed 12) = true := by rw [varsNamed_at leads_is var_ok ent_is]; kernel_rfl
  have q5 : (Try.prog.make == some Rows.fnExactUnpackDeltaRow.make) = true := by rw [made_cut]; rfl
  have q6 : (Rows.fnExactUnpackDeltaRow.lifted == Try.prog.liftsFinal) = true := by rw [lifts_no]; rfl
  have q7 : Try.prog.mayEnter = true := may_enter
  have q8 : laidOutB Try.prog = true := Try.laidOut
  unfold joinedFacts
  repeat' (with_reducible refine Bool.and_eq_true_iff.2 ⟨?_, ?_⟩)
  all_goals (first | with_reducible exact q1 | with_reducible exact q2 | with_reducible exact q3 | with_reducible exact q4 | with_reducible exact q5 | with_reducible exact q6 | with_reducible exact q7 | with_reducible exact q8 | (as_aux_lemma => kernel_rfl))

theorem unpackDelta_holds : Rows.FnExactUnpackDeltaSaid :=
  OpenClaim.holds_of_wide 12 Try.f12 rfl rfl rfl rfl rfl rfl rfl ⟨rfl, rfl, rfl, rfl, rfl⟩ rfl rfl rfl rfl rfl (by as_aux_lemma => kernel_rfl) Try.func12 closedUnpackDelta
    (of_decide_eq_true (by as_aux_lemma => kernel_rfl)) (by unfold Func.isWrapper; first | (rw [if_pos (by decide +kernel)]; kernel_rfl) | (rw [if_neg (by decide +kernel)]; exact ⟨rfl, rfl⟩))
    (fun os started H enc _ => liftedUnpackDelta os started H enc)

#print axioms unpackDelta_holds

end Go.Proofs.Ytcbfmjanjciodaa

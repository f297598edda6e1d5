/- Chapter 11: NewCluster of the program. -/
import Derived.Test.YtikplcpgocgogaaCN0
import Derived.Test.YtikplcpgocgogaaWF
import Derived.Test.YtikplcpgocgogaaWR
import Derived.Test.YtikplcpgocgogaaCO2
namespace Go.Proofs.Ytikplcpgocgogaa
open Go.RowKit

theorem new_snoc {m : Int} {wr W : World} {zz b1 k : Nat} {v : Value} {q : Rep} {oa : Option Addr} {on oc : Nat} {z1 : Nat} (G : NewSt m wr zz 29 v k) (B : Below wr.heap.size wr W) (X1 : Bx W b1 [.int .i64 q.id, .int .i64 q.size, .int .i64 q.view, .bool q.normal, .int .i64 q.last, .slice none 0 0, .int .i64 q.commit, .slice oa on oc, .slice none 0 0, .slice none 0 0]) (R1 : RowAt W true z1 W.heap.size 1 oa on oc (ints q.oks)) (hz1 : wr.heap.size ≤ z1) (hzz : zz ≤ wr.heap.size) (hq : newRep (k : Int) m = q) (hon : on ≤ 5) (hk : k ≤ 1000) :
    ∃ v' w', (∀ ty, (Builtin.append_ #[76, 76] ty #[v, .slice (some ⟨b1, 0, none⟩) 1 1]).run Try.prog W = .ok v' w') ∧ NewSt m w' zz 29 v' (k + 1) ∧ Below zz W w' := by
  obtain ⟨ys, G, e, s⟩ := G
  obtain ⟨i9, hi9, ha9, hb9, hc9⟩ := info_parts Try.infReplica
  have hb := newRep_bare (k : Int) m
  rw [hq] at hb
  have y : RepAt W true z1 W.heap.size (oH oa on oc) q := rep_oks hb.1 hb.2.1 hb.2.2 R1
  have hsz := B.size
  have LR : RowAt W false b1 (b1 + 1) 10 (some ⟨b1, 0, none⟩) 1 1 (nodeK.cells (q, oH oa on oc)) := ⟨rfl, Nat.le_refl _, fun _ => ⟨b1, 0, rfl, Nat.le_refl _, Nat.lt_succ_self _, X1.lt, fun i hi => by
    have hi' : i < 10 := hi
    rw [Nat.zero_add, X1.cell i, List.getD_eq_getElem?_getD]
    show _ = some (([.int .i64 q.id, .int .i64 q.size, .int .i64 q.view, .bool q.normal, .int .i64 q.last, .slice none 0 0, .int .i64 q.commit, .slice oa on oc, .slice none 0 0, .slice none 0 0] : List Value)[i]?.getD default)
    rw [List.getElem?_eq_getElem (by simpa using hi')]; rfl, fun z => by cases z⟩⟩
  have inb : ∀ q', inRep (oH oa on oc) q' → z1 ≤ q' := fun q' hq' => (y.inB hq').1
  obtain ⟨v', w', hr, G2, _, BB⟩ := GrowL.snoc (P := Try.prog) nodeOk (G.below nodeOk B) 76 i9 (.agg #[.int .i64 0, .int .i64 0, .int .i64 0, .bool false, .int .i64 0, .slice none 0 0, .int .i64 0, .slice none 0 0, .slice none 0 0, .slice none 0 0]) 144 Try.underlying76 hi9 ha9 hb9 hc9 rfl (by omega) ⟨b1, 0, none⟩ 1 (q, oH oa on oc) LR (by intro u hu; simp only [nodeK, repC, hv, oH, List.mem_cons, List.not_mem_nil, or_false] at hu; rcases hu with rfl | rfl | rfl | rfl | rfl | rfl | rfl | rfl | rfl | rfl <;> rfl) (nodeOk.widen (a := (q, oH oa on oc)) y (by omega) (Nat.le_refl _)) (fun q' hq' ee => by
    have h1 := inb q' hq'
    have h2 := (G.own.lt q' ee).2
    omega) (fun i b eb q' hq' hb' => by
    have h1 := inb q' hq'
    have h2 := (nodeOk.inB (G.each i b eb) hb').2.2
    omega) (by omega) (by omega)
  refine ⟨v', w', hr, ⟨_, G2, ?_, fun i a ea => ?_⟩, BB⟩
  · rw [List.map_append, e, newK_snoc, hq]; rfl
  · rcases Nat.lt_or_ge i ys.length with p | p
    · rw [List.getElem?_append_left p] at ea; exact s i a ea
    · rw [List.getElem?_append_right p] at ea
      have : a ∈ [(q, oH oa on oc)] := List.mem_of_getElem? ea
      have e3 : a = (q, oH oa on oc) := by simpa using this
      rw [e3, oH_sum]; exact hon
set_option maxRecDepth 20000 in
set_option maxHeartbeats 2000000 in
theorem implNewCl_is (m : Int) (w : World) : Calls Try.prog 36 #[.int .i64 m] w fun e w' => NewAns m w w' e := by
  go_enter Try.func36, Try.ntmps36
  go_wp2_with (first | ((with_reducible refine alloc_newX 83 [.int .i64 0, .slice none 0 0, .slice none 0 0, .slice none 0 0] (fun _ => by kernel_rfl) ?_); intro b0 W0 N0; have ob0 : w.heap.size ≤ b0 := N0.ge; have B := N0.below; have X0 := N0.bx; have c0 := X0.cell; have f0 := X0.froz; clear N0) | fail)
  by_cases q0 : 1 ≤ m ∧ m ≤ 5
  rotate_left 1
  · refine (isSize_is m _ false (by simp only [decide_eq_false_eq]; exact q0)).mono ?_
    rintro e W9 ⟨rfl, rfl⟩
    go_wp2_with (first | ((with_reducible refine store_midX 83 X0 0 [.int .i64 3, .slice none 0 0, .slice none 0 0, .slice none 0 0] (by simp) (by kernel_rfl) (by simp [Value.oneCell']) rfl rfl ?_); intro V1 S; replace X0 : Bx V1 b0 [.int .i64 3, .slice none 0 0, .slice none 0 0, .slice none 0 0] := S.bx; replace c0 := X0.cell; replace f0 := X0.froz; replace B := B.trans (S.kept.below _ (by omega) B.size); clear S))
    refine bodyPost_ret (v := .agg #[.int .i64 3, .slice none 0 0, .slice none 0 0, .slice none 0 0]) (by simp [results, Try.results36, go_sem, *]) rfl ⟨(none, 0, 0), [], by unfold nclC; rw [if_neg q0], LAt.nil _ _ _ _ _ _ _, by unfold newL; rw [if_neg q0]; rfl, fun i a e => by simp at e, B⟩
  refine (isSize_is m _ true (by simp only [decide_eq_true_eq]; exact q0)).mono ?_
  rintro e W9 ⟨rfl, rfl⟩
  obtain ⟨mm, hmm⟩ : ∃ mm : Nat, m = (mm : Int) := ⟨m.toNat, by omega⟩
  subst hmm
  have hm5 : mm ≤ 5 := by omega
  obtain ⟨zz, hzz⟩ : ∃ zz, zz = W9.heap.size := ⟨_, rfl⟩
  have lz : b0 < zz := by rw [hzz]; exact X0.lt
  have lw : w.heap.size ≤ zz := by rw [hzz]; exact B.size
  have hzl : zz ≤ W9.heap.size := Nat.le_of_eq hzz
  have HX0 : Hid _ := X0
  have HB : Hid _ := B
  clear hzz X0 B c0 f0
  go_wp2
  go_loopw [3, 4, 10] (fun v _ iv wr => ∃ k : Nat, k ≤ mm ∧ iv = .int .i64 k ∧ NewSt (mm : Int) wr zz 29 v k ∧ zz ≤ wr.heap.size ∧ Below zz W9 wr) (fun _ _ iv _ => mm - (intOf iv).toNat)
  case atStart => exact ⟨0, Nat.zero_le _, rfl, ⟨[], GrowL.nil _ _ _ _, rfl, fun i a e => by simp at e⟩, hzl, Below.refl _ _⟩
  case round =>
    obtain ⟨k, hk, rfl, G, LZ, BL⟩ := hrel
    by_cases hlt : k < mm
    · have hlk : (k : Int) < (mm : Int) := by omega
      have HG : Hid _ := G
      have HBL : Hid _ := BL
      clear G BL
      obtain ⟨q, hq⟩ : ∃ q, newRep (k : Int) (mm : Int) = q := ⟨_, rfl⟩
      have HQ : Hid _ := hq
      clear hq
      obtain ⟨c, hc⟩ : ∃ c, newC (k : Int) (mm : Int) = c := ⟨_, rfl⟩
      have HC : Hid _ := hc
      clear hc
      go_wp2_with fail
      refine (implNewR_is (k : Int) (mm : Int) _ c q HC.out HQ.out).mono ?_
      rintro e w1 ⟨oa, on, oc, rfl, hon, R1, BB⟩
      have B := BB
      have HR1 : Hid _ := R1
      clear R1
      clear BB
      have hfi : ∀ W, (Instr.field 38 (.agg #[.int .i64 c, .int .i64 q.id, .int .i64 q.size, .int .i64 q.view, .bool q.normal, .int .i64 q.last, .slice none 0 0, .int .i64 q.commit, .slice oa on oc, .slice none 0 0, .slice none 0 0, .slice none 0 0]) 1).run Try.prog W = .ok (.agg #[.int .i64 q.id, .int .i64 q.size, .int .i64 q.view, .bool q.normal, .int .i64 q.last, .slice none 0 0, .int .i64 q.commit, .slice oa on oc, .slice none 0 0, .slice none 0 0]) W := fun W => by kernel_rfl
      go_wp2_with (first | (at_builtin; refine Lib.wpList_append_run _ rfl _ _ _ _ rfl _ _ rfl rfl _ _ (hr _) ?_) | ((with_reducible refine lit_newX 76 1 _ [.int .i64 q.id, .int .i64 q.size, .int .i64 q.view, .bool q.normal, .int .i64 q.last, .slice none 0 0, .int .i64 q.commit, .slice oa on oc, .slice none 0 0, .slice none 0 0] 29 (fun _ => by kernel_rfl)  ?_); intro b0 W0 N0; have ob0 : wr.heap.size ≤ b0 := Nat.le_trans B.size N0.ge; replace B := below_next B N0.below; have X0 := N0.bx; have R1 := HR1.out.below N0.below; have c0 := X0.cell; have hw0 := N0.below.size; clear N0; obtain ⟨v', w', hr, G2, BB⟩ := new_snoc HG.out B X0 (R1.widen (Nat.le_refl _) hw0) (Nat.le_refl _) LZ HQ.out hon (by omega); have HG2 : Hid _ := G2; clear G2) | fail)
      have BL2 : Hid (Below zz W9 w') := (HBL.out.trans (B.mono LZ)).trans BB
      have LZ3 : Hid (zz ≤ w'.heap.size) := Nat.le_trans LZ (Nat.le_trans B.size BB.size)
      clear X0 c0 R1 HR1 B BB hr hfi HG HBL
      go_wp2
      go_roundw
      case rel => exact ⟨k + 1, by omega, by go_num, HG2.out, LZ3.out, BL2.out⟩
      case measure => simp [intOf]; omega
    · obtain rfl : k = mm := by omega
      obtain ⟨ys, G, hys, hsz⟩ := G
      obtain ⟨ao, cap, rfl, L⟩ := G.els
      have X0 := HX0.out.low BL lz
      have c0 := X0.cell
      have f0 := X0.froz
      have B : Below w.heap.size w wr := HB.out.trans (BL.mono lw)
      have HL : Hid (LAt nodeK wr true zz wr.heap.size ao k cap ys) := L
      have HY : Hid _ := hys
      have HZ : Hid _ := hsz
      clear L G hys hsz HX0 HB BL LZ hzl
      go_wp2_with (first | ((with_reducible refine store_midX 83 X0 0 [.int .i64 0, .slice ao k cap, .slice none 0 0, .slice none 0 0] (by simp) (by kernel_rfl) (by simp [Value.oneCell']) rfl rfl ?_); intro V10 S; replace X0 : Bx V10 b0 [.int .i64 0, .slice ao k cap, .slice none 0 0, .slice none 0 0] := S.bx; replace c0 := X0.cell; replace f0 := X0.froz; replace B := B.trans (S.kept.below _ (by omega) B.size); have hk2 := S.kept; clear S))
      have L2 := (HL.out.kept nodeOk hk2 (Or.inr lz)).widen nodeOk lw hk2.size
      refine bodyPost_ret (v := .agg #[.int .i64 0, .slice ao k cap, .slice none 0 0, .slice none 0 0]) (by simp [results, Try.results36, go_sem, *]) rfl ⟨(ao, k, cap), ys, by unfold nclC; rw [if_pos q0], L2, by unfold newL; rw [if_pos q0]; exact HY.out, HZ.out, B⟩

end Go.Proofs.Ytikplcpgocgogaa

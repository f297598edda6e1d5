/- What this law needs of the texts before it beyond what stands in them. -/
import Derived.Test.YtikjndmgljkhhaaBase
import Derived.Test.YtikjndmgljkhhaaZT
import Derived.Test.YtikjndmgljkhhaaCopy
import Derived.Test.YtikjndmgljkhhaaMark
import Derived.Test.YtikjndmgljkhhaaEq
import Derived.Test.YtikjndmgljkhhaaMark2
import Derived.Test.YtikjndmgljkhhaaBC
import Derived.Test.YtikjndmgljkhhaaSm
import Derived.Test.YtikjndmgljkhhaaFault
import Derived.Test.YtikjndmgljkhhaaArr
import Derived.Test.YtikjndmgljkhhaaFlush
import Derived.Test.YtikjndmgljkhhaaSpec1
import Derived.Test.YtikjndmgljkhhaaSFlush
import Derived.Test.YtikjndmgljkhhaaAll
import Derived.Test.YtikjndmgljkhhaaPutS
import Derived.Test.YtikjndmgljkhhaaFacts
import Derived.Test.YtikjndmgljkhhaaZM
import Derived.Test.YtikjndmgljkhhaaP1
import Derived.Test.YtikjndmgljkhhaaP2
import Derived.Test.YtikjndmgljkhhaaP4
import Derived.Test.YtikjndmgljkhhaaP3
import Derived.Test.YtikjndmgljkhhaaQ0
import Derived.Test.YtikjndmgljkhhaaZU
import Derived.Test.YtikjndmgljkhhaaZQ
import Derived.Test.YtikjndmgljkhhaaZV
import Derived.Test.YtikjndmgljkhhaaT8
import Derived.Test.YtikjndmgljkhhaaZW
import Derived.Test.YtikjndmgljkhhaaZG
import Derived.Test.YtikjndmgljkhhaaZY
import Derived.Test.YtikjndmgljkhhaaZX
import Derived.Test.YtikjndmgljkhhaaZZ
import Derived.Test.YtikjndmgljkhhaaYP
import Derived.Test.YtikjndmgljkhhaaY0
import Derived.Test.YtikjndmgljkhhaaO1b
import Derived.Test.YtikjndmgljkhhaaO1
import Derived.Test.YtikjndmgljkhhaaA1
import Derived.Test.YtikjndmgljkhhaaYF
import Derived.Test.YtikjndmgljkhhaaYE
import Derived.Test.YtikjndmgljkhhaaGG
import Derived.Test.YtikjndmgljkhhaaZH
import Derived.Test.YtikjndmgljkhhaaYG
import Derived.Test.YtikjndmgljkhhaaYI
import Derived.Test.YtikjndmgljkhhaaZR
import Derived.Test.YtikjndmgljkhhaaBools
import Derived.Test.YtikjndmgljkhhaaPutC
import Derived.Test.YtikjndmgljkhhaaPutG
import Derived.Test.YtikjndmgljkhhaaDrawA
import Derived.Test.YtikjndmgljkhhaaLW
import Derived.Test.YtikjndmgljkhhaaNP
import Derived.Test.YtikjndmgljkhhaaPS
import Derived.Test.YtikjndmgljkhhaaCrashD
import Derived.Test.YtikjndmgljkhhaaFacts2
import Derived.Test.YtikjndmgljkhhaaYS
import Derived.Test.YtikjndmgljkhhaaW6
namespace Go.Proofs.Ytikjndmgljkhhaa
open Go.RowKit

theorem freeN_le (bs : List (Int × Int)) : freeN bs ≤ bs.length := List.length_filter_le _ _
def freeVal (bs : List (Int × Int)) : Int := if blkFault bs = 0 then (freeN bs : Int) else 0

end Go.Proofs.Ytikjndmgljkhhaa

namespace Go.Proofs.Ytikjndmgljkhhaa
open Go.RowKit

theorem ord_all : (List.range 257).all (fun n => decide ((FloatKind.f64.format.order (floatOfInt .f64 n) (floatOfInt .f64 0) == some .eq) = decide (n = 0))) = true := by decide +kernel
section
variable {x : Int} (h0 : 0 ≤ x) (h1 : x ≤ 256)
include h0 h1
theorem fb_ord : (FloatKind.f64.format.order (floatOfInt .f64 x) 0 == some .eq) = decide (x = 0) := by
  have := of_decide_eq_true (of_all ord_all h0 h1)
  rw [Int.toNat_of_nonneg h0, fb_zero] at this
  rw [this]
  exact decide_eq_decide.2 (by omega)
end
theorem num_free {p : Int × Int} (h : Small p) (hz : p.1 = 0 → p.2 = 0) : ((FloatKind.f64.format.order (floatOfInt .f64 p.1) 0 == some .eq) && (FloatKind.f64.format.order (floatOfInt .f64 p.2) 0 == some .eq)) = decide (p.1 = 0) := by
  rw [fb_ord h.1.1 h.1.2, fb_ord h.2.1 h.2.2]
  by_cases e : p.1 = 0
  · simp [e, hz e]
  · simp [e]
end Go.Proofs.Ytikjndmgljkhhaa

namespace Go.Proofs.Ytikjndmgljkhhaa
open Go.RowKit

set_option maxRecDepth 20000 in
set_option maxHeartbeats 2000000 in
theorem implFree_is {o : Bool} {l u : Nat} (ao : Option Addr) (n cap : Nat) (bs : List (Int × Int)) (w : World) (h : RowAt w o l u 2 ao n cap (pairs bs)) (hn : n ≤ 2097152) (cd vl : Int) (hc : blkFault bs = cd) (hv : freeVal bs = vl) :
    Calls Try.prog 15 #[.slice ao n cap] w fun e w' => e = .returned (.agg #[.int .i64 cd, .int .i64 vl]) ∧ Below w.heap.size w w' := by
  have hl := h.nPairs
  have B : Below w.heap.size w (w.alloc (.cells #[.int .i64 0, .int .i64 0] 40)) := (Below.refl _ _).alloc (Nat.le_refl _) _
  have z0 : (w.alloc (.cells #[.int .i64 0, .int .i64 0] 40)).cell? ⟨w.heap.size, 0, none⟩ = some (.int .i64 0) := by simp
  have z1 : (w.alloc (.cells #[.int .i64 0, .int .i64 0] 40)).cell? ⟨w.heap.size, 1, none⟩ = some (.int .i64 0) := by simp
  have y0 : (w.alloc (.cells #[.int .i64 0, .int .i64 0] 40)).frozen? ⟨w.heap.size, 0, none⟩ = false := by simp
  have y1 : (w.alloc (.cells #[.int .i64 0, .int .i64 0] 40)).frozen? ⟨w.heap.size, 1, none⟩ = false := by simp
  have hz : w.heap.size < (w.alloc (.cells #[.int .i64 0, .int .i64 0] 40)).heap.size := by simp
  have r := h.below B
  by_cases h0 : cd = 0
  · have HV : Hid ((freeN bs : Int) = vl) := by show _ = _; rw [← hv, freeVal, hc, if_pos h0]
    subst h0
    have h24 := (blkFault_zero hc).1
    have HG : Hid (Fine bs) := fine_of (blkFault_zero hc).2
    have HC : Hid _ := hc
    clear hc hv
    go_enter Try.func15, Try.ntmps15
    go_wp2_with fail
    refine (implBF_b _ n cap bs _ (by exact r) hn 0 HC.out).mono ?_
    rintro e w1 ⟨rfl, hb⟩
    replace z0 := cell_later hb z0
    replace z1 := cell_later hb z1
    replace y0 := frozen_later hb hz y0
    replace y1 := frozen_later hb hz y1
    replace hz := Nat.lt_of_lt_of_le hz hb.size
    replace B := below_next B hb
    replace r := r.below hb
    clear hb
    go_wp2_with fail
    refine (numbersOf_any _ n cap bs _ (by exact r) (by omega)).mono ?_
    rintro e w2 ⟨rfl, RN, hb⟩
    replace z0 := cell_later hb z0
    replace z1 := cell_later hb z1
    replace y0 := frozen_later hb hz y0
    replace y1 := frozen_later hb hz y1
    replace hz := Nat.lt_of_lt_of_le hz hb.size
    replace B := below_next B hb
    clear hb r
    go_wp2
    go_loop [4, 16] (fun v i => ∃ k : Nat, k ≤ n ∧ i = .int .i64 k ∧ v = .int .i64 (freeN (bs.take k) : Int)) (fun _ i => n - (intOf i).toNat)
    case atStart => exact ⟨0, by omega, rfl, rfl⟩
    case round =>
      obtain ⟨k, hk, rfl, rfl⟩ := hrel
      by_cases hlt : k < n
      · obtain ⟨b, f, e', _, _, _, e1, _⟩ := RN.one hlt
        cases e'
        have hlk : (k : Int) < (n : Int) := by omega
        have HS : Hid _ := freeN_snoc bs k (by omega)
        have hle := freeN_le (bs.take k)
        rw [List.length_take] at hle
        obtain ⟨g1, g2⟩ := HG.out.at (k := k) (by omega)
        have hq := num_free g1 g2
        rw [nums_getD bs k (by omega), numOf, Nat.zero_add] at e1
        obtain ⟨⟨p, q⟩, hxy⟩ : ∃ p, bs.getD k (0, 0) = p := ⟨_, rfl⟩
        rw [hxy] at e1 hq HS
        simp only at e1 hq HS
        clear hxy g1 g2
        generalize freeN (bs.take k) = m at *
        by_cases hz' : p = 0
        · rw [decide_eq_true hz'] at hq
          rw [if_pos hz'] at HS
          clear hz'
          go_wp2
          go_round
          case rel => exact ⟨k + 1, by omega, by go_num, by rw [HS.out]; simp⟩
          case measure => simp [intOf]; omega
        · rw [decide_eq_false hz'] at hq
          rw [if_neg hz'] at HS
          clear hz'
          go_wp2
          go_round
          case rel => exact ⟨k + 1, by omega, by go_num, by rw [HS.out]; simp⟩
          case measure => simp [intOf]; omega
      · obtain rfl : k = n := by omega
        have HE : Hid (freeN (bs.take k) = freeN bs) := by show _ = _; rw [List.take_of_length_le (by omega)]
        rw [HE.out, HV.out]
        go_wp2
        refine bodyPost_ret (v := .agg #[.int .i64 0, .int .i64 vl]) (by simp [results, Try.results15, go_sem, z0, z1]) rfl ⟨rfl, ?_⟩
        refine Below.setCell (Below.setCell B ?_ _) ?_ _ <;> simp
  · have hvl : vl = 0 := by rw [← hv, freeVal, hc, if_neg h0]
    subst hvl
    have HC : Hid _ := hc
    have hne : (cd != 0) = true := by simp [h0]
    clear hc hv h0
    go_enter Try.func15, Try.ntmps15
    go_wp2_with fail
    refine (implBF_b _ n cap bs _ (by exact r) hn cd HC.out).mono ?_
    rintro e w1 ⟨rfl, hb⟩
    replace z0 := cell_later hb z0
    replace z1 := cell_later hb z1
    replace y0 := frozen_later hb hz y0
    replace y1 := frozen_later hb hz y1
    replace B := below_next B hb
    clear hb
    go_wp2
    refine bodyPost_ret (v := .agg #[.int .i64 cd, .int .i64 0]) (by simp [results, Try.results15, go_sem, z0, z1]) rfl ⟨rfl, ?_⟩
    refine Below.setCell (Below.setCell B ?_ _) ?_ _ <;> simp

end Go.Proofs.Ytikjndmgljkhhaa

namespace Go.Proofs.Ytikjndmgljkhhaa
open Go.RowKit

theorem clear_parts {f : Fo} {root at' : Int} (h : clearTCode f root at' = 0) : TreeOk f root at' ∧ 0 ≤ blockAt f root at' ∧ (setPlace f root at' (-1)).2.1 = 0 := by
  unfold clearTCode at h
  by_cases h0 : treeCode f root at' = 0
  · rw [if_pos h0] at h
    by_cases h1 : blockAt f root at' < 0
    · rw [if_pos h1] at h; exact absurd h (by decide)
    · rw [if_neg h1] at h; exact ⟨tree_of h0, by omega, h⟩
  · rw [if_neg h0] at h; exact absurd h h0
theorem clear_place {f : Fo} {root at' : Int} (h : clearTCode f root at' = 0) : TreeOk f root at' ∧ 0 ≤ blockAt f root at' ∧ PlaceSet f root at' (-1) (setPlace f root at' (-1)).1 (setPlace f root at' (-1)).2.2 ∧ Right (setPlace f root at' (-1)).2.2 := by
  obtain ⟨T, h1, hc⟩ := clear_parts h
  have A := ask_clear T
  have P := place_ok A hc
  exact ⟨T, h1, P, right_after A.ex (fun hr => ext_root A.inv A.ro hr) P⟩

end Go.Proofs.Ytikjndmgljkhhaa

namespace Go.Proofs.Ytikjndmgljkhhaa
open Go.RowKit

/-- a discard -/
theorem clear_ok {f : Fo} {vs : List Vo} {m a : Nat} (P : PoolOk f vs) (hm : m < vs.length) (ha : a ≤ 15) (h : clearTCode f (vs.getD m vo0).2.2 a = 0) :
    Turned f vs m (clearFo f (vs.getD m vo0).2.2 a) (clearRootT f (vs.getD m vo0).2.2 a) ∧
    (∀ i, i < vs.length → ∀ k : Int, 0 ≤ k → k ≤ 15 → val (clearFo f (vs.getD m vo0).2.2 a) ((setRootV vs m (clearRootT f (vs.getD m vo0).2.2 a)).getD i vo0).2.2 k = if i = m ∧ k = a then none else val f (vs.getD i vo0).2.2 k) ∧
    (0 ≤ blockAt f (vs.getD m vo0).2.2 a ∧ ∀ k : Int, 0 ≤ k → k ≤ 15 → blockAt (clearFo f (vs.getD m vo0).2.2 a) (clearRootT f (vs.getD m vo0).2.2 a) k = if k = a then -1 else blockAt f (vs.getD m vo0).2.2 k) := by
  have V := P.vol _ (vo_mem hm)
  obtain ⟨r, hr⟩ : ∃ r, (vs.getD m vo0).2.2 = r := ⟨_, rfl⟩
  have VU := V.us
  have VR := V.ro
  rw [hr] at h VU VR
  obtain ⟨T, x0, e2⟩ := clear_parts h
  obtain ⟨_, _, S, Rg⟩ := clear_place h
  have eg : clearFo f r a = (setPlace f r a (-1)).2.2 := by unfold clearFo foIf; rw [if_pos h]
  have eR : clearRootT f r a = (setPlace f r a (-1)).1 := by unfold clearRootT atIf; rw [if_pos h]
  have A := ask_clear T
  rw [← hr] at A e2
  rw [hr, eg, eR]
  obtain ⟨g, hg⟩ : ∃ g, (setPlace f r a (-1)).2.2 = g := ⟨_, rfl⟩
  obtain ⟨R, hR⟩ : ∃ R, (setPlace f r a (-1)).1 = R := ⟨_, rfl⟩
  rw [hg, hR] at S
  rw [hg] at Rg
  rw [hg, hR]
  have hg' : (setPlace f (vs.getD m vo0).2.2 a (-1)).2.2 = g := by rw [hr]; exact hg
  have hR' : (setPlace f (vs.getD m vo0).2.2 a (-1)).1 = R := by rw [hr]; exact hR
  have look := S.look
  have us := used_turn ha look
  rw [if_pos (by decide : (-1 : Int) < 0), if_neg (by omega)] at us
  have TT := turn_ok P hm rfl A e2 hR' hg' Rg (by omega)
  refine ⟨TT, fun i hi k k0 k1 => ?_, x0, look⟩
  rw [setRootV_get hm]
  by_cases c : i = m
  · subst c
    rw [if_pos rfl]
    show val g R k = _
    by_cases ck : k = a
    · subst ck
      rw [if_pos ⟨rfl, rfl⟩]
      unfold val
      rw [look a k0 k1, if_pos rfl, if_pos (by decide)]
    · rw [if_neg (fun h => ck h.2), hr]
      exact val_same Rg.inv S.rt P.right.inv VR S.bk (fun _ _ => rfl) k0 k1 (by rw [look k k0 k1, if_neg ck])
  · rw [if_neg c, if_neg (fun h => c h.1)]
    obtain ⟨o1, o2⟩ := TT.oth i hi c
    exact val_same Rg.inv o1 P.right.inv (P.vol _ (vo_mem hi)).ro S.bk (fun _ _ => rfl) k0 k1 (o2 k k0 k1)

end Go.Proofs.Ytikjndmgljkhhaa

namespace Go.Proofs.Ytikjndmgljkhhaa
open Go.RowKit

theorem clear_code {f : Fo} {vs : List Vo} (P : PoolOk f vs) {v : Vo} (hv : v ∈ vs) {a : Nat} (ha : a ≤ 15) : clearTCode f v.2.2 a = if blockAt f v.2.2 a < 0 then 4 else 0 := by
  have T : TreeOk f v.2.2 a := ⟨P.right, (P.vol v hv).ro, by omega, by omega⟩
  unfold clearTCode
  rw [if_pos (tree_is T)]
  split
  · rfl
  · have A := ask_clear T
    have hl := live_parts f
    have h1 := root_few P
    have h2 := leaf_few P
    obtain ⟨r1, r2⟩ := refs_few P
    exact setPlace_code (by omega) h2 (fun i => ⟨by have := r1 i; omega, by have := r2 i; omega⟩) A
end Go.Proofs.Ytikjndmgljkhhaa

namespace Go.Proofs.Ytikjndmgljkhhaa
open Go.RowKit

theorem le_sum {x : Nat} {l : List Nat} (h : x ∈ l) : x ≤ l.sum := by
  induction l with
  | nil => cases h
  | cons y r ih =>
    rw [List.sum_cons]
    rcases List.mem_cons.1 h with rfl | h
    · omega
    · have := ih h; omega
/-- not more blocks are in use than volumes have places -/
theorem liveB_le {f : Fo} {vs : List Vo} (P : PoolOk f vs) : liveB f ≤ (vs.map fun v => usedN f v.2.2).sum := by
  have hu : ∀ (r : Int) n, sumN (fun j => sumN (fun k => if blockAt f r k = (j : Int) then 1 else 0) n) 24 ≤ usedTo f r n := fun r n => by
    induction n with
    | zero =>
      have e : (fun j : Nat => sumN (fun k => if blockAt f r (k : Int) = (j : Int) then 1 else 0) 0) = fun _ => 0 := rfl
      rw [e, sumN_zero]; exact Nat.zero_le _
    | succ n ih =>
      have e : (fun j : Nat => sumN (fun k => if blockAt f r (k : Int) = (j : Int) then 1 else 0) (n + 1)) = fun j : Nat => sumN (fun k => if blockAt f r (k : Int) = (j : Int) then 1 else 0) n + (if blockAt f r (n : Int) = (j : Int) then 1 else 0) := rfl
      rw [e, sumN_add, sumN_one, usedTo_next]
      split
      · rename_i c; rw [if_neg (by omega)]; omega
      · omega
  have hs : ∀ ws : List Vo, sumN (fun j => (ws.map fun v => sumN (fun k => if blockAt f v.2.2 k = (j : Int) then 1 else 0) 16).sum) 24 ≤ (ws.map fun v => usedN f v.2.2).sum := fun ws => by
    induction ws with
    | nil =>
      have e : (fun j : Nat => (([] : List Vo).map fun v => sumN (fun k => if blockAt f v.2.2 (k : Int) = (j : Int) then 1 else 0) 16).sum) = fun _ => 0 := rfl
      rw [e, sumN_zero]; exact Nat.zero_le _
    | cons v r ih =>
      have e : (fun j : Nat => ((v :: r).map fun v => sumN (fun k => if blockAt f v.2.2 (k : Int) = (j : Int) then 1 else 0) 16).sum) = fun j : Nat => sumN (fun k => if blockAt f v.2.2 (k : Int) = (j : Int) then 1 else 0) 16 + (r.map fun v => sumN (fun k => if blockAt f v.2.2 (k : Int) = (j : Int) then 1 else 0) 16).sum := funext fun j => by simp
      rw [e, sumN_add, List.map_cons, List.sum_cons]
      have := hu v.2.2 16
      unfold usedN at ih ⊢
      omega
  refine Nat.le_trans (sumN_le fun j _ => ?_) (hs vs)
  split
  · rename_i c
    obtain ⟨i, hi, k, hk, e⟩ := live_place P c
    have h1 : 1 ≤ sumN (fun k => if blockAt f (vs.getD i vo0).2.2 (k : Int) = (j : Int) then 1 else 0) 16 := by
      have key : ∀ n, k < n → 1 ≤ sumN (fun k => if blockAt f (vs.getD i vo0).2.2 (k : Int) = (j : Int) then 1 else 0) n := fun n => by
        induction n with
        | zero => intro h; omega
        | succ n ih =>
          intro h
          unfold sumN
          by_cases c : k = n
          · subst c; rw [if_pos e]; omega
          · have := ih (by omega); omega
      exact key 16 (by omega)
    have h2 : sumN (fun k => if blockAt f (vs.getD i vo0).2.2 (k : Int) = (j : Int) then 1 else 0) 16 ≤ (vs.map fun v => sumN (fun k => if blockAt f v.2.2 (k : Int) = (j : Int) then 1 else 0) 16).sum := le_sum (List.mem_map.2 ⟨_, vo_mem hi, rfl⟩)
    omega
  · exact Nat.zero_le _
theorem free_none {bs : List (Int × Int)} (h : freeN bs = 0) : freeAt bs = none := by
  cases e : freeAt bs with
  | none => rfl
  | some k =>
    obtain ⟨h1, h2⟩ := freeAt_is e
    unfold freeN at h
    have := List.eq_nil_of_length_eq_zero h
    rw [List.filter_eq_nil_iff] at this
    have hm : bs.getD k (0, 0) ∈ bs := by rw [List.getD_eq_getElem?_getD, List.getElem?_eq_getElem h1, Option.getD_some]; exact List.getElem_mem h1
    exact absurd (by simpa using h2) (this _ hm)

theorem clear_len {f : Fo} {r a : Int} (h : clearTCode f r a = 0) : (clearFo f r a).2.length = f.2.length := by
  unfold clearFo foIf
  rw [if_pos h, setPlace_len]
/-- a discard frees at most one block -/
theorem clear_free {f : Fo} {vs : List Vo} {m a : Nat} (P : PoolOk f vs) (hm : m < vs.length) (ha : a ≤ 15) (h : clearTCode f (vs.getD m vo0).2.2 a = 0) : freeN f.2 ≤ freeN (clearFo f (vs.getD m vo0).2.2 a).2 ∧ freeN (clearFo f (vs.getD m vo0).2.2 a).2 ≤ freeN f.2 + 1 := by
  obtain ⟨T, _, h0, look⟩ := clear_ok P hm ha h
  have hln := clear_len h
  obtain ⟨g, hg⟩ : ∃ g, clearFo f (vs.getD m vo0).2.2 a = g := ⟨_, rfl⟩
  obtain ⟨R, hR⟩ : ∃ R, clearRootT f (vs.getD m vo0).2.2 a = R := ⟨_, rfl⟩
  rw [hg, hR] at T look
  rw [hg] at hln ⊢
  have Pg := T.ok
  have hb24 := P.right.inv.nb
  obtain ⟨b, hb⟩ : ∃ b : Nat, blockAt f (vs.getD m vo0).2.2 a = (b : Int) := ⟨(blockAt f (vs.getD m vo0).2.2 a).toNat, by omega⟩
  have root : ∀ i, i < vs.length → ((setRootV vs m R).getD i vo0).2.2 = if i = m then R else (vs.getD i vo0).2.2 := fun i _ => by rw [setRootV_get hm]; split <;> rfl
  have k1 : ∀ j : Nat, (blockOf g j).1 ≠ 0 → (blockOf f j).1 ≠ 0 := fun j hj => by
    obtain ⟨i, hi, k, hk, e⟩ := live_place Pg hj
    rw [setRootV_len] at hi
    rw [root i hi] at e
    by_cases c : i = m
    · rw [if_pos c, look k (by omega) (by omega)] at e
      by_cases ck : (k : Int) = a
      · rw [if_pos ck] at e; omega
      · rw [if_neg ck] at e; exact place_live P hm (by omega) (by omega) e
    · rw [if_neg c, (T.oth i hi c).2 k (by omega) (by omega)] at e
      exact place_live P hi (by omega) (by omega) e
  have k2 : ∀ j : Nat, (blockOf f j).1 ≠ 0 → j ≠ b → (blockOf g j).1 ≠ 0 := fun j hj hjb => by
    obtain ⟨i, hi, k, hk, e⟩ := live_place P hj
    refine place_live Pg (i := i) (by rw [setRootV_len]; exact hi) (k := k) (by omega) (by omega) ?_
    rw [root i hi]
    by_cases c : i = m
    · rw [c] at e
      have ck : (k : Int) ≠ a := fun e2 => by rw [e2, hb] at e; omega
      rw [if_pos c, look k (by omega) (by omega), if_neg ck]; exact e
    · rw [if_neg c, (T.oth i hi c).2 k (by omega) (by omega)]; exact e
  have l1 : liveB g ≤ liveB f := sumN_le fun j _ => by
    split
    · rename_i c; rw [if_pos (k1 j c)]; exact Nat.le_refl _
    · exact Nat.zero_le _
  have l2 : liveB f ≤ liveB g + 1 := by
    have e : liveB f ≤ sumN (fun j => (if (blockOf g j).1 ≠ 0 then 1 else 0) + (if (b : Int) = (j : Int) then 1 else 0)) 24 := sumN_le fun j _ => by
      by_cases c : j = b
      · subst c; rw [if_pos (c := ((j : Nat) : Int) = (j : Int)) rfl]; split <;> omega
      · split
        · rename_i c2; rw [if_pos (k2 j c2 c)]; omega
        · omega
    rw [sumN_add, sumN_one] at e
    unfold liveB at e ⊢
    split at e <;> omega
  have a1 := free_live (f := f) hb24
  have a2 := free_live (f := g) (by omega)
  omega

end Go.Proofs.Ytikjndmgljkhhaa

namespace Go.Proofs.Ytikjndmgljkhhaa
open Go.RowKit

theorem op_clear {j : Nat} (hj : j ≤ 15) : opF 3 1 j 0 = 0 := by
  have h1 : spotB j = true := by unfold spotB; exact decide_eq_true (by omega)
  unfold opF
  rw [if_pos (by decide), if_pos (by rw [h1]; rfl), if_neg (by simp [opAt, opVal])]
theorem write_full {f : Fo} {q R : Int} {k : Nat} (h : One f q R k k) (hkq : (k : Int) < q) {j : Nat} (hj : j ≤ 15) {x : Int} (x0 : 0 ≤ x) (x1 : x ≤ 255) (hk : k ≤ 16) : applyC f [(1, q, R)] 2 1 j x = 0 ∧ applyA f [(1, q, R)] 2 1 j x = (8, 0, f, [(1, q, R)]) := by
  obtain ⟨c1, c2⟩ := write_is h.ok hj x0 x1
  have hu := h.used hk
  have hc : setTCode f R j x = 8 := by
    have := set_code h.ok (v := (1, q, R)) (by simp) hj x0 x1
    rw [if_pos (free_none (by have := h.free; omega))] at this
    exact this
  refine ⟨c1, ?_⟩
  rw [c2]
  have e : writeR f [(1, q, R)] 0 j x = (8, f, [(1, q, R)]) := by
    unfold writeR
    show (if blockAt f R j = -1 ∧ (usedN f R : Int) = q then _ else _) = _
    rw [if_neg (fun e => by rw [hu] at e; omega)]
    show (if setTCode f R j x = 0 then _ else (setTCode f R j x, f, [(1, q, R)])) = _
    rw [hc, if_neg (by decide)]
  rw [e]
/-- a discard in a full pool, then a write -/
theorem clear_write {f : Fo} {q R : Int} {k : Nat} (h : One f q R k k) (hkq : (k : Int) < q) (hk : k ≤ 15) {j : Nat} (hjk : j < k) {x : Int} (x0 : 0 ≤ x) (x1 : x ≤ 255) : ∃ g T, applyC f [(1, q, R)] 3 1 j 0 = 0 ∧ applyA f [(1, q, R)] 3 1 j 0 = (0, 0, g, [(1, q, T)]) ∧ ∃ g2 T2, applyC g [(1, q, T)] 2 1 15 x = 0 ∧ applyA g [(1, q, T)] 2 1 15 x = (0, 0, g2, [(1, q, T2)]) ∧ PoolOk g2 [(1, q, T2)] ∧ freeN g2.2 = 0 := by
  have hj : j ≤ 15 := by omega
  have o3 := op_clear hj
  have hb := (h.has j hj).2 hjk
  have hc : clearTCode f R j = 0 := by
    have := clear_code h.ok (v := (1, q, R)) (by simp) hj
    rw [if_neg (by show ¬ blockAt f R j < 0; omega)] at this
    exact this
  obtain ⟨T, _, _, look⟩ := clear_ok (m := 0) h.ok (by simp) hj hc
  have P2 : PoolOk (clearFo f R j) [(1, q, clearRootT f R j)] := T.ok
  have look' : ∀ k : Int, 0 ≤ k → k ≤ 15 → blockAt (clearFo f R j) (clearRootT f R j) k = if k = (j : Int) then -1 else blockAt f R k := look
  have hu := used_turn hj look'
  have hu0 := h.used (by omega)
  rw [if_neg (by omega), if_pos (by decide), hu0] at hu
  obtain ⟨f1, f2⟩ := clear_free (m := 0) h.ok (by simp) hj hc
  have hl := clear_len hc
  have hf0 : freeN f.2 = 0 := by have := h.free; omega
  have hlen := h.len
  have hlb := liveB_le P2
  have hlb' : liveB (clearFo f R j) ≤ usedN (clearFo f R j) (clearRootT f R j) := by simpa using hlb
  have hfl := free_live (f := clearFo f R j) P2.right.inv.nb
  have g2 : freeN (clearFo f R j).2 ≤ freeN f.2 + 1 := f2
  have hfr : freeN (clearFo f R j).2 = 1 := by omega
  refine ⟨clearFo f R j, clearRootT f R j, apply_code h.ok o3, ?_, ?_⟩
  · rw [apply_ans h.ok o3]
    unfold applyR
    rw [if_neg (by decide), at_one, if_neg (by decide), if_neg (by decide), if_pos rfl]
    have e : clearR f [(1, q, R)] (0 : Int).toNat j = (0, clearFo f R j, [(1, q, clearRootT f R j)]) := by
      unfold clearR
      show (if clearTCode f R j = 0 then _ else _) = _
      rw [if_pos hc]
      rfl
    rw [e]
  · obtain ⟨c1, c2⟩ := write_is P2 (j := 15) (Nat.le_refl _) x0 x1
    have hb15 : blockAt (clearFo f R j) (clearRootT f R j) (15 : Nat) = -1 := by
      have e := look' ((15 : Nat) : Int) (by omega) (by omega)
      by_cases c : j = 15
      · rw [if_pos (by omega)] at e; exact e
      · rw [if_neg (by omega)] at e
        rw [e]
        rcases block_cases h.ok.right.inv (h.ok.vol (1, q, R) (by simp)).ro (x := ((15 : Nat) : Int)) (by omega) (by omega) with e2 | ⟨e2, _⟩
        · exact e2
        · have := (h.has 15 (by omega)).1 e2; omega
    have hfree : freeAt (clearFo f R j).2 ≠ none := free_some (by omega)
    have hc2 : setTCode (clearFo f R j) (clearRootT f R j) (15 : Nat) x = 0 := by
      have := set_code P2 (v := (1, q, clearRootT f R j)) (by simp) (a := 15) (by omega) x0 x1
      rw [if_neg hfree] at this
      exact this
    have hq : blockAt (clearFo f R j) (clearRootT f R j) (15 : Nat) = -1 → (usedN (clearFo f R j) (clearRootT f R j) : Int) ≠ q := fun _ => by omega
    obtain ⟨T2, _, _⟩ := write_ok (m := 0) P2 (by simp) (a := 15) (by omega) hc2 hq
    have hf := write_free (m := 0) P2 (by simp) (a := 15) (by omega) hc2 hq hb15
    have hf' : freeN (setFo (clearFo f R j) (clearRootT f R j) (15 : Nat) x).2 + 1 = freeN (clearFo f R j).2 := hf
    refine ⟨setFo (clearFo f R j) (clearRootT f R j) (15 : Nat) x, setRootT (clearFo f R j) (clearRootT f R j) (15 : Nat) x, c1, ?_, T2.ok, by omega⟩
    have c2' : applyA (clearFo f R j) [(1, q, clearRootT f R j)] 2 1 ((15 : Nat) : Int) x = _ := c2
    rw [show ((15 : Int)) = ((15 : Nat) : Int) from rfl, c2']
    have e : writeR (clearFo f R j) [(1, q, clearRootT f R j)] 0 ((15 : Nat) : Int) x = (0, setFo (clearFo f R j) (clearRootT f R j) (15 : Nat) x, [(1, q, setRootT (clearFo f R j) (clearRootT f R j) (15 : Nat) x)]) := by
      unfold writeR
      show (if blockAt (clearFo f R j) (clearRootT f R j) (15 : Nat) = -1 ∧ (usedN (clearFo f R j) (clearRootT f R j) : Int) = q then _ else _) = _
      rw [if_neg (fun e => hq e.1 e.2)]
      show (if setTCode (clearFo f R j) (clearRootT f R j) (15 : Nat) x = 0 then _ else _) = _
      rw [if_pos hc2]
      rfl
    rw [e]

end Go.Proofs.Ytikjndmgljkhhaa


/- Chapter 4: the program finds a place for a new node, and shares what the node names. -/
import Derived.Test.YtikjndmgljkhhaaZG
import Derived.Test.YtikjndmgljkhhaaZW
import Derived.Deep.AppendLies
import Derived.Test.YtikjndmgljkhhaaZX
import Derived.Test.YtikjndmgljkhhaaZY
import Derived.Test.YtikjndmgljkhhaaGG
namespace Go.Proofs.Ytikjndmgljkhhaa
open Go.RowKit

theorem moreStep_set {lf : Bool} {but i : Nat} {nd : Nd} {F : Fo} {j : Nat} {k : Int} (hk : lf = false → j ≠ but → k < 0 ∨ k.toNat ≠ i) : moreStep lf but (F.1.set i nd, F.2) j k = (moreStep lf but F j k).map fun F => (F.1.set i nd, F.2) := by
  unfold moreStep
  by_cases hc : j = but ∨ k < 0
  · rw [if_pos hc, if_pos hc]; rfl
  · rw [if_neg hc, if_neg hc]
    cases lf with
    | true =>
      rw [if_pos rfl, if_pos rfl]
      show (if 200 ≤ (blockOf F k.toNat).1 then none else some (F.1.set i nd, moreB F.2 k.toNat)) = _
      split <;> rfl
    | false =>
      have hne : k.toNat ≠ i := (hk rfl (fun e => hc (Or.inl e))).resolve_left (fun e => hc (Or.inr e))
      have e1 : nodeOf (F.1.set i nd, F.2) k.toNat = nodeOf F k.toNat := by
        unfold nodeOf
        rw [List.getD_eq_getElem?_getD, List.getElem?_set_ne (Ne.symm hne), ← List.getD_eq_getElem?_getD]
      show (if 200 ≤ (nodeOf (F.1.set i nd, F.2) k.toNat).1 then none else some (moreAt (F.1.set i nd, F.2) k.toNat)) = (if 200 ≤ (nodeOf F k.toNat).1 then none else some (moreAt F k.toNat)).map _
      rw [e1]
      split
      · rfl
      · show some ((F.1.set i nd).set k.toNat (moreNd (nodeOf (F.1.set i nd, F.2) k.toNat)), F.2) = some ((F.1.set k.toNat (moreNd (nodeOf F k.toNat))).set i nd, F.2)
        rw [e1, List.set_comm _ _ (Ne.symm hne)]
theorem more_set {lf : Bool} {ks : List Int} {but i : Nat} {nd : Nd} {f : Fo} (hk : lf = false → ∀ p, p < 4 → p ≠ but → ks.getD p 0 < 0 ∨ (ks.getD p 0).toNat ≠ i) : ∀ j, j ≤ 4 → moreTo lf but ks j (f.1.set i nd, f.2) = (moreTo lf but ks j f).map fun F => (F.1.set i nd, F.2) := by
  intro j
  induction j with
  | zero => intro _; rfl
  | succ j ih =>
    intro hj
    rw [moreTo, moreTo, ih (by omega)]
    cases moreTo lf but ks j f with
    | none => rfl
    | some F => exact moreStep_set fun e hb => hk e j (by omega) hb

section
variable {w : World} {S H : Nat → Prop} {base g : Nat} {vn : Value} {ab : Option Addr} {nb cb : Nat} {P : Nat → Option Nat} {f : Fo} (I : GAt w S H base g vn ab nb cb P f)
theorem shareKid_none (g : Nat) (lf : Bool) (w : World) : Calls Try.prog 216 #[.pointer (some ⟨g, 0, none⟩), .bool lf, .int .i64 (-1)] w fun e w' => e = .returned (.int .i64 0) ∧ w' = w := by
  go_enter Try.func216, Try.ntmps216
  go_wp2
  go_ret
  exact ⟨rfl, rfl⟩
include I
set_option maxRecDepth 20000 in
set_option maxHeartbeats 1000000 in
theorem shareKid_many {i : Nat} (hi : i < f.1.length) (hH : ¬ H i) (hq : (nodeOf f i).1 = 200) :
    Calls Try.prog 216 #[.pointer (some ⟨g, 0, none⟩), .bool false, .int .i64 (i : Int)] w fun e w' => e = .returned (.int .i64 2) ∧ KeptS S w w' := by
  have HI : Hid _ := I
  have HQ : Hid _ := hq
  have hi1 : ((i : Int) == -1) = false := by simp
  clear I hq
  go_enter Try.func216, Try.ntmps216
  go_wp2_with fail
  refine (share_many HI.out hi hH HQ.out).mono ?_
  rintro e w1 ⟨rfl, rfl⟩
  go_wp2
  go_ret
  exact ⟨rfl, KeptS.refl _ _⟩
set_option maxRecDepth 20000 in
set_option maxHeartbeats 1000000 in
theorem shareKid_node {i : Nat} (hi : i < f.1.length) (hH : ¬ H i) (h0 : 0 < (nodeOf f i).1) (hq : (nodeOf f i).1 < 200) :
    Calls Try.prog 216 #[.pointer (some ⟨g, 0, none⟩), .bool false, .int .i64 (i : Int)] w fun e w' => e = .returned (.int .i64 0) ∧ GRes S H base g w w' (moreAt f i) := by
  have HI : Hid _ := I
  have H0 : Hid _ := h0
  have HQ : Hid _ := hq
  have hi1 : ((i : Int) == -1) = false := by simp
  clear I hq h0
  go_enter Try.func216, Try.ntmps216
  go_wp2_with fail
  refine (share_is HI.out hi hH H0.out HQ.out).mono ?_
  rintro e w1 ⟨rfl, hr⟩
  have HR : Hid _ := hr
  clear hr
  go_wp2
  go_ret
  exact ⟨rfl, HR.out⟩
set_option maxRecDepth 20000 in
set_option maxHeartbeats 1000000 in
theorem shareKid_block (hS : ∀ k, w.heap.size ≤ k → S k) (hbase : base ≤ w.heap.size) (h24 : f.2.length ≤ 24) (hbo : ∀ m, blkOne (f.2.getD m (0, 0)) = 0) (k : Nat) (hk : k < f.2.length) (h0 : (f.2.getD k (0, 0)).1 ≠ 0) (c : Int) (hc : (if 200 ≤ (f.2.getD k (0, 0)).1 then (2 : Int) else 0) = c) :
    Calls Try.prog 216 #[.pointer (some ⟨g, 0, none⟩), .bool true, .int .i64 (k : Int)] w fun e w' => e = .returned (.int .i64 c) ∧ KeptS S w w' ∧ (c = 0 → GRes S H base g w w' (f.1, moreB f.2 k)) := by
  have hbl := I.blk.nPairs
  have hbf : blkFault f.2 = 0 := noFault_of h24 hbo
  have ha : askCode f.2 (k : Int) = 0 := by
    unfold askCode
    rw [if_pos hbf, if_pos (by omega), Int.toNat_natCast, if_neg h0]
  have hs : shareCode f.2 (k : Int) = c := by
    unfold shareCode
    rw [if_pos ha, Int.toNat_natCast]; exact hc
  obtain ⟨bl, hd⟩ : ∃ bl, shareList f.2 (k : Int) = bl := ⟨_, rfl⟩
  obtain ⟨at', hat⟩ : ∃ a, atIf (shareCode f.2 (k : Int)) (k : Int) = a := ⟨_, rfl⟩
  have HB : Hid (c = 0 → bl = moreB f.2 k) := fun e => by
    rw [← hd]
    unfold shareList moreB
    rw [hs, if_pos e, Int.toNat_natCast]
  have HS : Hid _ := hs
  have HD : Hid _ := hd
  have HT : Hid _ := hat
  have HI : Hid _ := I
  have c1 := I.c1
  have hgl := I.hg.2
  have hk1 : ((k : Int) == -1) = false := by simp
  clear ha hd hbf hs hat hc
  go_enter Try.func216, Try.ntmps216
  go_wp2_with fail
  refine (implShareBlock_is ab nb cb f.2 _ I.blk (by omega) (k : Int) c at' bl HS.out HT.out HD.out).mono ?_
  rintro e w1 ⟨ra, rn, rc, rfl, RR, hb1⟩
  have A : Below w1.heap.size w1 (w1.alloc (.cells #[.int .i64 c, .int .i64 at', .slice ra rn rc] 144)) := (Below.refl _ _).alloc (Nat.le_refl _) _
  have n0 : (w1.alloc (.cells #[.int .i64 c, .int .i64 at', .slice ra rn rc] 144)).cell? ⟨w1.heap.size, 0, none⟩ = some (.int .i64 c) := by simp
  have n2 : (w1.alloc (.cells #[.int .i64 c, .int .i64 at', .slice ra rn rc] 144)).cell? ⟨w1.heap.size, 2, none⟩ = some (.slice ra rn rc) := by simp
  have hgw : g < w1.heap.size := Nat.lt_of_lt_of_le hgl hb1.size
  have hb2 := below_next hb1 A
  have J := HI.out.blocks hb2 ((RR.below A).widen (Nat.le_refl _) A.size) hS hbase
  have z1 := (HI.out.below hb2).z1
  replace c1 := cell_later hb2 c1
  have hgw2 := Nat.lt_of_lt_of_le hgw A.size
  have K1 : KeptS S w ((w1.alloc (.cells #[.int .i64 c, .int .i64 at', .slice ra rn rc] 144)).setCell ⟨g, 1, none⟩ (.slice ra rn rc)) := (KeptS.below hb2).setCell (p := ⟨g, 1, none⟩) HI.out.hg.1 _
  have HK : Hid _ := K1
  have HJ : Hid _ := J
  generalize hW : w1.alloc (.cells #[.int .i64 c, .int .i64 at', .slice ra rn rc] 144) = W at *
  have HW : Hid _ := hW
  have n0' : (W.setCell ⟨g, 1, none⟩ (.slice ra rn rc)).cell? ⟨w1.heap.size, 0, none⟩ = some (.int .i64 c) := by rw [World.cell?_setCell_other _ _ _ _ (by intro e; have := congrArg Addr.block e; simp at this; omega)]; exact n0
  clear hb1 RR J K1 A hb2 hW
  go_wp2_with (simp only [HW.out])
  go_ret
  exact ⟨rfl, HK.out, fun e => ⟨⟨_, _, _, _, _, by rw [← HB.out e]; exact HJ.out⟩, HK.out⟩⟩
end

theorem gfree_none {ns : List Nd} (h : ∀ j, j < ns.length → (ns.getD j nd0).1 ≠ 0) : freeNd ns = none := by
  induction ns with
  | nil => rfl
  | cons p r ih =>
    have h0 : p.1 ≠ 0 := h 0 (by simp)
    rw [freeNd, if_neg h0, ih fun j hj => by simpa using h (j + 1) (by simpa using hj)]
    rfl
theorem gfree_first {ns : List Nd} : ∀ (k : Nat), k < ns.length → (∀ j, j < k → (ns.getD j nd0).1 ≠ 0) → (ns.getD k nd0).1 = 0 → freeNd ns = some k := by
  induction ns with
  | nil => intro k hk; simp at hk
  | cons p r ih =>
    intro k hk h hn
    cases k with
    | zero => rw [freeNd, if_pos (by simpa using hn)]
    | succ k =>
      have h0 : p.1 ≠ 0 := h 0 (by omega)
      rw [freeNd, if_neg h0, ih k (by simpa using hk) (fun j hj => by simpa using h (j + 1) (by omega)) (by simpa using hn)]
      rfl
set_option maxRecDepth 20000 in
set_option maxHeartbeats 1000000 in
theorem indexP_is {w : World} {S : Nat → Prop} {base g : Nat} {vn : Value} {ab : Option Addr} {nb cb : Nat} {P : Nat → Option Nat} {f : Fo} (I : GAt w S (fun _ => False) base g vn ab nb cb P f) (hn : f.1.length ≤ 60) (d : Int) (hd : (match freeNd f.1 with | some i => (i : Int) | none => -1) = d) :
    Calls Try.prog 215 #[vn, .pointer none] w fun e w' => e = .returned (.int .i64 d) ∧ w' = w := by
  obtain ⟨m, hm⟩ : ∃ m, f.1.length = m := ⟨_, rfl⟩
  obtain ⟨ar, cr, hv, RV⟩ := RowAt.of_owned I.own
  subst hv
  have HD : Hid _ := hd
  have HM : Hid _ := hm
  have HI : Hid _ := I
  rw [hm] at hn ⊢
  clear hd I RV hm
  go_enter Try.func215, Try.ntmps215
  go_wp2
  go_loop [8] (fun i => ∃ k : Nat, k ≤ m ∧ i = .int .i64 k ∧ ∀ j, j < k → (f.1.getD j nd0).1 ≠ 0) (fun i => m - (intOf i).toNat)
  case atStart => exact ⟨0, Nat.zero_le _, rfl, fun j hj => absurd hj (by omega)⟩
  case round =>
    obtain ⟨k, hk, rfl, ha⟩ := hrel
    have HA : Hid _ := ha
    clear ha
    by_cases hlt : k < m
    · have hkf : k < f.1.length := by rw [HM.out]; exact hlt
      have hlk : (k : Int) < (m : Int) := by omega
      obtain ⟨r, cap, e', hrr, -, -, q0, -⟩ := HI.out.ptr hkf
      have er := (Value.slice.inj e').1
      subst er
      clear e'
      cases hp : P k with
      | none =>
        rw [hp] at q0
        simp only [ptrV] at q0
        have HE : Hid ((k : Int) = d) := by
          have h0 := HI.out.no k hkf (fun x => x) hp
          have := gfree_first (ns := f.1) k hkf HA.out (by rw [h0]; rfl)
          show _ = _
          rw [← HD.out, this]
        clear hp
        go_wp2
        go_ret
        exact ⟨ret_int HE.out, rfl⟩
      | some b =>
        rw [hp] at q0
        simp only [ptrV] at q0
        have HN : Hid (∀ j, j < k + 1 → (f.1.getD j nd0).1 ≠ 0) := fun j hj => by
          by_cases e : j = k
          · rw [e]; exact (HI.out.yes k hkf (fun x => x) b hp).2.1
          · exact HA.out j (by omega)
        have hq : ∀ W, (binOp .eql 243 (.pointer none) (.pointer (some ⟨b, 0, none⟩))).run Try.prog W = .ok (.bool false) W := fun W => by kernel_rfl
        clear hp
        go_wp2
        go_round
        case rel => exact ⟨k + 1, by omega, by go_num, HN.out⟩
        case measure => simp [intOf]; omega
    · obtain rfl : k = m := by omega
      have HE : Hid (-1 = d) := by
        have := gfree_none (ns := f.1) (fun j hj => HA.out j (by rw [← HM.out]; exact hj))
        show _ = _
        rw [← HD.out, this]
      go_wp2
      go_ret
      exact ⟨ret_int HE.out, rfl⟩

/-- a place for a node behind all others -/
theorem GAt.grow {w w' : World} {S H : Nat → Prop} {base g : Nat} {vn : Value} {ab : Option Addr} {nb cb : Nat} {P : Nat → Option Nat} {f : Fo} (h : GAt w S H base g vn ab nb cb P f) (hk : w.grownBy w' vn.ownBlock) {r cap : Nat} (ho : w'.ownsRow base 243 1 (.slice (some ⟨r, 0, none⟩) (f.1.length + 1) cap) (f.1.length + 1) (ptrs P f.1.length ++ [.pointer none])) (hr : vn.ownBlock = some r ∨ r = w.heap.size) (hS : ∀ k, w.heap.size ≤ k → S k) :
    GAt (w'.setCell ⟨g, 0, none⟩ (.slice (some ⟨r, 0, none⟩) (f.1.length + 1) cap)) S H base g (.slice (some ⟨r, 0, none⟩) (f.1.length + 1) cap) ab nb cb (updP P f.1.length none) (f.1 ++ [nd0], f.2) ∧ KeptS S w (w'.setCell ⟨g, 0, none⟩ (.slice (some ⟨r, 0, none⟩) (f.1.length + 1) cap)) := by
  have SG := grown_S hk
  have hgl := h.hg.2
  have nV : ¬ vn.ownBlock = some g := fun e => (h.ownS g e).2 rfl
  have hrg : r ≠ g := by
    rcases hr with e | e
    · exact (h.ownS r e).2
    · omega
  have hrS : S r := by
    rcases hr with e | e
    · exact (h.ownS r e).1
    · exact hS r (by omega)
  have c0 := SG.cell h.c0 hgl nV
  have c1 := SG.cell h.c1 hgl nV
  have z0 := SG.frozen h.z0 hgl nV
  have z1 := SG.frozen h.z1 hgl nV
  have SP : KeptS (fun x => x = g) w' (w'.setCell ⟨g, 0, none⟩ (.slice (some ⟨r, 0, none⟩) (f.1.length + 1) cap)) := by
    refine KeptS.setCell (KeptS.refl _ _) ?_ _; rfl
  have hsz : (w'.setCell ⟨g, 0, none⟩ (.slice (some ⟨r, 0, none⟩) (f.1.length + 1) cap)).heap.size = w'.heap.size := by simp
  have hl : (f.1 ++ [nd0]).length = f.1.length + 1 := by simp
  have hget : ∀ j, j < f.1.length → (f.1 ++ [nd0]).getD j nd0 = f.1.getD j nd0 := fun j hj => by rw [List.getD_eq_getElem?_getD, List.getElem?_append_left hj, ← List.getD_eq_getElem?_getD]
  have hlast : (f.1 ++ [nd0]).getD f.1.length nd0 = nd0 := by simp [List.getD]
  refine ⟨⟨World.cell?_setCell_same _ _ _ c0, ?_, by simpa using z0, by simpa using z1, ⟨h.hg.1, by rw [hsz]; exact Nat.lt_of_lt_of_le hgl hk.size⟩, ?_, fun x e => ?_, ?_, fun hne => ?_, fun j hj hJ hp => ?_, fun j hj hJ c hc => ?_, fun i j b hi hj hI hJ e1 e2 => ?_⟩, ?_⟩
  · rw [World.cell?_setCell_other _ _ _ _ (by intro e; simp at e)]; exact c1
  · show World.ownsRow _ _ _ _ _ (f.1 ++ [nd0]).length (ptrs (updP P f.1.length none) (f.1 ++ [nd0]).length)
    rw [hl, ptrs_snoc]
    refine owns_keptS ho SP fun k e e2 => ?_
    simp [Value.ownBlock] at e
    omega
  · simp [Value.ownBlock] at e
    subst e
    exact ⟨hrS, hrg⟩
  · rw [hsz]
    refine RowAt.widen ((h.blk.keptS SG fun a hn e => ?_).keptS SP fun a hn e => ?_) (Nat.le_refl _) hk.size
    · have := (h.blkS hn).2.2; rw [e] at this; exact this
    · have := (h.blkS hn).2.1; rw [e] at this; exact this
  · obtain ⟨b1, b2, b3⟩ := h.blkS hne
    refine ⟨b1, b2, fun e => ?_⟩
    simp [Value.ownBlock] at e
    rcases hr with e2 | e2
    · exact b3 (by rw [e2, e])
    · have := (h.blk.block_lt hne).2.2; omega
  · show (f.1 ++ [nd0]).getD j nd0 = nd0
    by_cases e : j = f.1.length
    · rw [e]; exact hlast
    · have hj' : j < f.1.length := by have : j < (f.1 ++ [nd0]).length := hj; omega
      rw [hget j hj']
      simp only [updP, if_neg e] at hp
      exact h.no j hj' hJ hp
  · have e : j ≠ f.1.length := fun e => by simp only [updP, if_pos e] at hc; cases hc
    have hj' : j < f.1.length := by have : j < (f.1 ++ [nd0]).length := hj; omega
    simp only [updP, if_neg e] at hc
    obtain ⟨y1, y2, y3, y4, y5, y6⟩ := h.yes j hj' hJ c hc
    show BoxAt _ c ((f.1 ++ [nd0]).getD j nd0) ∧ ((f.1 ++ [nd0]).getD j nd0).1 ≠ 0 ∧ _
    rw [hget j hj']
    refine ⟨(y1.keptS SG y5).keptS SP y4, y2, y3, y4, fun e2 => ?_, y6⟩
    simp [Value.ownBlock] at e2
    rcases hr with e3 | e3
    · exact y5 (by rw [e3, e2])
    · have := y1.lt; omega
  · have a1 : i ≠ f.1.length := fun e => by simp only [updP, if_pos e] at e1; cases e1
    have a2 : j ≠ f.1.length := fun e => by simp only [updP, if_pos e] at e2; cases e2
    simp only [updP, if_neg a1] at e1
    simp only [updP, if_neg a2] at e2
    have hi' : i < (f.1 ++ [nd0]).length := hi
    have hj' : j < (f.1 ++ [nd0]).length := hj
    exact h.inj i j b (by omega) (by omega) hI hJ e1 e2
  · exact KeptS.setCell (SG.mono fun k e => (h.ownS k e).1) (p := ⟨g, 0, none⟩) h.hg.1 _

end Go.Proofs.Ytikjndmgljkhhaa

/- Chapter 4: the program plants a new node. -/
namespace Go.Proofs.Ytikjndmgljkhhaa
open Go.RowKit

def plantO (f : Fo) (lf : Bool) (ks : List Int) (but : Nat) : Option (Nat × Fo) := (newNd f.1 (1, lf, ks)).bind fun p => (moreKids (p.2, f.2) lf ks but).map fun F => (p.1, F)
def PlantRes (S : Nat → Prop) (base g : Nat) (w w' : World) (e : Ending) : Option (Nat × Fo) → Prop
  | none => e = .returned (.agg #[.int .i64 2, .int .i64 0]) ∧ KeptS S w w'
  | some (i, F) => e = .returned (.agg #[.int .i64 0, .int .i64 (i : Int)]) ∧ GRes S (fun _ => False) base g w w' F
/-- where a new node goes: what the nodes are ahead of it -/
theorem plant_free {f : Fo} {lf : Bool} {ks : List Int} {but i : Nat} (h : freeNd f.1 = some i) (hk : lf = false → ∀ p, p < 4 → p ≠ but → ks.getD p 0 < 0 ∨ (ks.getD p 0).toNat ≠ i) : plantO f lf ks but = (moreTo lf but ks 4 f).map fun F => (i, (F.1.set i (1, lf, ks), F.2)) := by
  unfold plantO newNd
  rw [h]
  show (moreTo lf but ks 4 (f.1.set i (1, lf, ks), f.2)).map _ = _
  rw [more_set hk 4 (Nat.le_refl _), Option.map_map]
  rfl
theorem plant_new {f : Fo} {lf : Bool} {ks : List Int} {but : Nat} (h : freeNd f.1 = none) (h60 : ¬ 60 ≤ f.1.length) (hk : lf = false → ∀ p, p < 4 → p ≠ but → ks.getD p 0 < 0 ∨ (ks.getD p 0).toNat ≠ f.1.length) : plantO f lf ks but = (moreTo lf but ks 4 (f.1 ++ [nd0], f.2)).map fun F => (f.1.length, (F.1.set f.1.length (1, lf, ks), F.2)) := by
  unfold plantO newNd
  rw [h]
  simp only
  rw [if_neg h60]
  show (moreTo lf but ks 4 (f.1 ++ [(1, lf, ks)], f.2)).map _ = _
  have e : f.1 ++ [(1, lf, ks)] = (f.1 ++ [nd0]).set f.1.length (1, lf, ks) := by simp
  rw [e, more_set (f := (f.1 ++ [nd0], f.2)) hk 4 (Nat.le_refl _), Option.map_map]
  rfl
theorem plant_full {f : Fo} {lf : Bool} {ks : List Int} {but : Nat} (h : freeNd f.1 = none) (h60 : 60 ≤ f.1.length) : plantO f lf ks but = none := by
  unfold plantO newNd
  rw [h]
  simp only
  rw [if_pos h60]
  rfl
theorem moreTo_nil {lf : Bool} {but : Nat} {ks : List Int} {f : Fo} {j : Nat} (h : moreTo lf but ks j f = none) : ∀ m, j ≤ m → moreTo lf but ks m f = none := by
  intro m hm
  induction m with
  | zero => obtain rfl : j = 0 := by omega
            exact h
  | succ m ih =>
    by_cases e : j = m + 1
    · rw [← e]; exact h
    · rw [moreTo, ih (by omega)]; rfl
theorem inv_new {f : Fo} (h : Inv f) (h60 : f.1.length < 60) : Inv (f.1 ++ [nd0], f.2) := h.append h60 (nd0_ok _)
theorem node_new (f : Fo) (m : Nat) : nodeOf (f.1 ++ [nd0], f.2) m = nodeOf f m := by
  rw [nodeOf_append]
  by_cases e : m = f.1.length
  · rw [if_pos e, e]; exact (nodeOf_out (Nat.le_refl _)).symm
  · rw [if_neg e]; rfl

set_option maxRecDepth 20000 in
set_option maxHeartbeats 8000000 in
theorem plant_leaf {w : World} {S : Nat → Prop} {base g : Nat} {vn : Value} {ab : Option Addr} {nb cb : Nat} {P : Nat → Option Nat} {f : Fo} (I : GAt w S (fun _ => False) base g vn ab nb cb P f) (hS : ∀ k, w.heap.size ≤ k → S k) (hbase : base ≤ w.heap.size) (hV : Inv f) (k0 k1 k2 k3 : Int) (but : Nat) (hng : ∀ p, p < 4 → p = but ∨ ([k0, k1, k2, k3].getD p 0 < 0 → [k0, k1, k2, k3].getD p 0 = -1)) (hlv : ∀ p, p < 4 → p = but ∨ ([k0, k1, k2, k3].getD p 0 < 0 ∨ (blockOf f ([k0, k1, k2, k3].getD p 0).toNat).1 ≠ 0)) :
    Calls Try.prog 212 #[.pointer (some ⟨g, 0, none⟩), .agg #[.int .i64 0, .bool true, .int .i64 k0, .int .i64 k1, .int .i64 k2, .int .i64 k3], .int .i64 (but : Int)] w fun e w' => PlantRes S base g w w' e (plantO f true [k0, k1, k2, k3] but) := by
  have B0 : Below w.heap.size w ((w.alloc (.cells #[.int .i64 0, .bool true, .int .i64 k0, .int .i64 k1, .int .i64 k2, .int .i64 k3] 245)).alloc (.cells #[.int .i64 0, .int .i64 0] 40)) := ((Below.refl _ _).alloc (Nat.le_refl _) _).alloc (by simp) _
  have n1 : ((w.alloc (.cells #[.int .i64 0, .bool true, .int .i64 k0, .int .i64 k1, .int .i64 k2, .int .i64 k3] 245)).alloc (.cells #[.int .i64 0, .int .i64 0] 40)).cell? ⟨w.heap.size, 1, none⟩ = some (.bool true) := by simp
  have m2 : ((w.alloc (.cells #[.int .i64 0, .bool true, .int .i64 k0, .int .i64 k1, .int .i64 k2, .int .i64 k3] 245)).alloc (.cells #[.int .i64 0, .int .i64 0] 40)).cell? ⟨w.heap.size, 2, none⟩ = some (.int .i64 k0) := by simp
  have m3 : ((w.alloc (.cells #[.int .i64 0, .bool true, .int .i64 k0, .int .i64 k1, .int .i64 k2, .int .i64 k3] 245)).alloc (.cells #[.int .i64 0, .int .i64 0] 40)).cell? ⟨w.heap.size, 3, none⟩ = some (.int .i64 k1) := by simp
  have m4 : ((w.alloc (.cells #[.int .i64 0, .bool true, .int .i64 k0, .int .i64 k1, .int .i64 k2, .int .i64 k3] 245)).alloc (.cells #[.int .i64 0, .int .i64 0] 40)).cell? ⟨w.heap.size, 4, none⟩ = some (.int .i64 k2) := by simp
  have m5 : ((w.alloc (.cells #[.int .i64 0, .bool true, .int .i64 k0, .int .i64 k1, .int .i64 k2, .int .i64 k3] 245)).alloc (.cells #[.int .i64 0, .int .i64 0] 40)).cell? ⟨w.heap.size, 5, none⟩ = some (.int .i64 k3) := by simp
  have z0 : ((w.alloc (.cells #[.int .i64 0, .bool true, .int .i64 k0, .int .i64 k1, .int .i64 k2, .int .i64 k3] 245)).alloc (.cells #[.int .i64 0, .int .i64 0] 40)).cell? ⟨w.heap.size + 1, 0, none⟩ = some (.int .i64 0) := by simp
  have z1 : ((w.alloc (.cells #[.int .i64 0, .bool true, .int .i64 k0, .int .i64 k1, .int .i64 k2, .int .i64 k3] 245)).alloc (.cells #[.int .i64 0, .int .i64 0] 40)).cell? ⟨w.heap.size + 1, 1, none⟩ = some (.int .i64 0) := by simp
  have y0 : ((w.alloc (.cells #[.int .i64 0, .bool true, .int .i64 k0, .int .i64 k1, .int .i64 k2, .int .i64 k3] 245)).alloc (.cells #[.int .i64 0, .int .i64 0] 40)).frozen? ⟨w.heap.size + 1, 0, none⟩ = false := by simp
  have y1 : ((w.alloc (.cells #[.int .i64 0, .bool true, .int .i64 k0, .int .i64 k1, .int .i64 k2, .int .i64 k3] 245)).alloc (.cells #[.int .i64 0, .int .i64 0] 40)).frozen? ⟨w.heap.size + 1, 1, none⟩ = false := by simp
  have BX0 : BoxAt ((w.alloc (.cells #[.int .i64 0, .bool true, .int .i64 k0, .int .i64 k1, .int .i64 k2, .int .i64 k3] 245)).alloc (.cells #[.int .i64 0, .int .i64 0] 40)) w.heap.size (0, true, [k0, k1, k2, k3]) := RowAt.below (RowAt.of_block (w := w.alloc (.cells #[.int .i64 0, .bool true, .int .i64 k0, .int .i64 k1, .int .i64 k2, .int .i64 k3] 245)) (cs := ndc (0, true, [k0, k1, k2, k3])) (t := 245) (heap_alloc_new w _) (by simp [ndc, ints])) ((Below.refl _ _).alloc (Nat.le_refl _) _)
  have hw1 : w.heap.size + 1 < ((w.alloc (.cells #[.int .i64 0, .bool true, .int .i64 k0, .int .i64 k1, .int .i64 k2, .int .i64 k3] 245)).alloc (.cells #[.int .i64 0, .int .i64 0] 40)).heap.size := by simp
  have hw0 : w.heap.size < ((w.alloc (.cells #[.int .i64 0, .bool true, .int .i64 k0, .int .i64 k1, .int .i64 k2, .int .i64 k3] 245)).alloc (.cells #[.int .i64 0, .int .i64 0] 40)).heap.size := Nat.lt_of_succ_lt hw1
  have hgl := I.hg.2
  have I0 := (I.into (T := (fun k => S k ∧ (k < w.heap.size ∨ w.heap.size + 2 ≤ k))) (fun k hk hl => ⟨hk, Or.inl hl⟩)).below B0
  have hn60 := hV.nn
  have HV : Hid _ := hV
  have HLV : Hid _ := hlv
  have HNG : Hid _ := hng
  obtain ⟨d, hd⟩ : ∃ d, (match freeNd f.1 with | some i => (i : Int) | none => -1) = d := ⟨_, rfl⟩
  have HD : Hid _ := hd
  have c0 := I0.c0
  have KB0 : KeptS S w ((w.alloc (.cells #[.int .i64 0, .bool true, .int .i64 k0, .int .i64 k1, .int .i64 k2, .int .i64 k3] 245)).alloc (.cells #[.int .i64 0, .int .i64 0] 40)) := KeptS.below B0
  clear I hV hlv hng
  go_enter Try.func212, Try.ntmps212
  cases hf : freeNd f.1 with
  | some i =>
    rw [hf] at hd
    simp only at hd
    subst hd
    obtain ⟨hil, hi0⟩ := freeNd_is hf
    have HPO : Hid (plantO f true [k0, k1, k2, k3] but = _) := plant_free (but := but) hf (fun e => by cases e)
    have HF0 : Hid (Inv f) := HV.out
    have J1 := I0
    have K0 := KB0
    have hi2 : ¬ ((i : Int) < 0) := by omega
    clear I0 KB0 hf hi0
    go_wp2_with fail
    refine (indexP_is J1 hn60 (i : Int) HD.out).mono ?_
    rintro e w1 ⟨rfl, rfl⟩
    generalize hW : ((w.alloc (.cells #[.int .i64 0, .bool true, .int .i64 k0, .int .i64 k1, .int .i64 k2, .int .i64 k3] 245)).alloc (.cells #[.int .i64 0, .int .i64 0] 40)) = w1 at *
    clear hW
    go_wp2
    go_loopw [37] (fun x wr => ∃ j : Nat, j ≤ 4 ∧ x = .int .i64 j ∧ (∃ F, moreTo true but [k0, k1, k2, k3] j f = some F ∧ ∃ vn ab nb cb P, GAt wr (fun k => S k ∧ (k < w.heap.size ∨ w.heap.size + 2 ≤ k)) (fun _ => False) base g vn ab nb cb P F) ∧ KeptS (fun k => S k ∧ (k < w.heap.size ∨ w.heap.size + 2 ≤ k)) w1 wr) (fun x _ => 4 - (intOf x).toNat)
    case atStart => exact ⟨0, Nat.zero_le _, rfl, ⟨f, rfl, _, _, _, _, _, J1⟩, KeptS.refl _ _⟩
    case round =>
      clear J1
      obtain ⟨j, hj, rfl, ⟨F, hF, vn', ab', nb', cb', P', J⟩, K⟩ := hrel
      have hsW := K.size
      have nS0 : ¬ (fun k => S k ∧ (k < w.heap.size ∨ w.heap.size + 2 ≤ k)) w.heap.size := fun e => by rcases e.2 with e | e <;> omega
      have nS1 : ¬ (fun k => S k ∧ (k < w.heap.size ∨ w.heap.size + 2 ≤ k)) (w.heap.size + 1) := fun e => by rcases e.2 with e | e <;> omega
      have e1 := K.cell n1 hw0 nS0
      have p0 := K.cell z0 hw1 nS1
      have p1 := K.cell z1 hw1 nS1
      have x0 := K.frozen y0 hw1 nS1
      have x1 := K.frozen y1 hw1 nS1
      have HFF : Hid _ := hF
      have KW : KeptS S w wr := K0.trans (K.mono fun k hk => hk.1)
      have hS2 : ∀ k, wr.heap.size ≤ k → (fun k => S k ∧ (k < w.heap.size ∨ w.heap.size + 2 ≤ k)) k := fun k hk => ⟨hS k (by omega), Or.inr (by omega)⟩
      by_cases hlt : j < 4
      · have hlj : (j : Int) < 4 := by omega
        have hix := idx_run k0 k1 k2 k3 j hlt
        have HSTEP : Hid (moreTo true but [k0, k1, k2, k3] (j + 1) f = moreStep true but F j ([k0, k1, k2, k3].getD j 0)) := by show _ = _; rw [moreTo, hF]; rfl
        have hlv := HLV.out j hlt
        have hng := HNG.out j hlt
        obtain ⟨t1, t2, -, -, t5⟩ := moreTo_leaf HF0.out (fun p hp hpb => (HLV.out p hp).resolve_left (fun e => hpb e)) j hj hF
        obtain ⟨y, hy⟩ : ∃ y, [k0, k1, k2, k3].getD j 0 = y := ⟨_, rfl⟩
        rw [hy] at hix hlv hng HSTEP
        clear hy hF
        by_cases hjb : j = but
        · have hjj : ((j : Int) == (but : Int)) = true := by simp [hjb]
          have HN : Hid _ := HSTEP.out.trans (if_pos (Or.inl hjb))
          have HJ : Hid _ := J
          clear J hlv hng t5 t2 HSTEP hjb t1
          go_wp2_with (first | (simp only [hix]; done) | fail)
          go_roundw
          case rel => exact ⟨j + 1, by omega, by go_num, ⟨F, HN.out, _, _, _, _, _, HJ.out⟩, K⟩
          case measure => simp [intOf]; omega
        · have hjj : ((j : Int) == (but : Int)) = false := by simp; omega
          by_cases hy0 : y < 0
          · obtain rfl : y = -1 := (hng.resolve_left hjb) hy0
            have HN : Hid _ := HSTEP.out.trans (if_pos (Or.inr hy0))
            have HJ : Hid _ := J
            clear J hlv hng t5 t2 HSTEP hy0 t1
            go_wp2_with (first | (simp only [hix]; done) | fail)
            refine (shareKid_none g true _).mono ?_
            rintro e w3 ⟨rfl, rfl⟩
            go_wp2
            go_roundw
            case rel => exact ⟨j + 1, by omega, by go_num, ⟨F, HN.out, _, _, _, _, _, HJ.out⟩, K⟩
            case measure => simp [intOf]; omega
          · obtain ⟨n, rfl⟩ : ∃ n : Nat, y = n := ⟨y.toNat, by omega⟩
            have hl0 := (hlv.resolve_left hjb).resolve_left hy0
            rw [Int.toNat_natCast] at hl0
            have hst := HSTEP.out
            unfold moreStep at hst
            rw [if_neg (fun e => e.elim hjb hy0), Int.toNat_natCast] at hst
            have HJ : Hid _ := J
            have hl1 : (F.2.getD n (0, 0)).1 ≠ 0 := t5 n hl0
            have hnl := liveB_lt (f := F) hl1
            have h24 := t2.inv.nb
            have hbo := t2.inv.bk
            have hr1 := (blkOne_zero (hbo n)).2.1
            simp only [if_true] at hst
            by_cases h200 : 200 ≤ (blockOf F n).1
            · have HNN : Hid _ := hst.trans (if_pos h200)
              have HC : Hid ((if 200 ≤ (F.2.getD n (0, 0)).1 then (2 : Int) else 0) = 2) := if_pos h200
              clear J hlv hng t1 t2 t5 HSTEP hy0 hst h200 hr1
              go_wp2_with (first | (simp only [hix]; done) | fail)
              refine (shareKid_block HJ.out hS2 (by omega) h24 hbo n hnl hl1 2 HC.out).mono ?_
              rintro e w3 ⟨rfl, K3, -⟩
              have KK := K.trans K3
              have q0 := K3.cell p0 (by omega) nS1
              have q1 := K3.cell p1 (by omega) nS1
              have v0 := K3.frozen x0 (by omega) nS1
              have v1 := K3.frozen x1 (by omega) nS1
              have KW2 : KeptS S w w3 := KW.trans (K3.mono fun k hk => hk.1)
              clear e1 KK hl1 hl0
              go_wp2
              rw [HPO.out, moreTo_nil HNN.out 4 (by omega)]
              refine bodyPost_ret (v := .agg #[.int .i64 2, .int .i64 0]) (by simp [results, Try.results212, go_sem, q0, q1]) rfl ⟨rfl, ?_⟩
              refine KeptS.setCell (KeptS.setCell KW2 ?_ _) ?_ _ <;> exact hS _ (by simp)
            · have HN : Hid _ := hst.trans (if_neg h200)
              have HC : Hid ((if 200 ≤ (F.2.getD n (0, 0)).1 then (2 : Int) else 0) = 0) := if_neg h200
              clear J hlv hng t1 t2 t5 HSTEP hy0 hst h200 hr1
              go_wp2_with (first | (simp only [hix]; done) | fail)
              refine (shareKid_block HJ.out hS2 (by omega) h24 hbo n hnl hl1 0 HC.out).mono ?_
              rintro e w3 ⟨rfl, K3, hres⟩
              obtain ⟨⟨vn4, ab4, nb4, cb4, P4, J4⟩, -⟩ := hres rfl
              have HJ4 : Hid _ := J4
              have KK := K.trans K3
              clear J4 hres K3 e1 p0 p1 x0 x1 hl1 hl0 KW
              go_wp2
              go_roundw
              case rel => exact ⟨j + 1, by omega, by go_num, ⟨_, HN.out, _, _, _, _, _, HJ4.out⟩, KK⟩
              case measure => simp [intOf]; omega
      · obtain rfl : j = 4 := by omega
        have hlF : F.1.length = f.1.length := (moreTo_leaf HF0.out (fun p hp hpb => (HLV.out p hp).resolve_left (fun e => hpb e)) 4 hj hF).1 ▸ rfl
        have hiF : i < F.1.length := by rw [hlF]; exact hil
        obtain ⟨r, cap, e', hrr, s1, s2, c3, f3⟩ := J.ptr hiF
        subst e'
        have C0 := J.c0
        obtain ⟨mF, hmF⟩ : ∃ mF, F.1.length = mF := ⟨_, rfl⟩
        have him : i < mF := by omega
        have hlm : ((i : Nat) : Int) < (mF : Int) := by omega
        have HMF : Hid _ := hmF
        rw [hmF] at C0
        have BX := (BX0.keptS K nS0)
        have r0' := BX.cell.1
        have rf := BX.cell.2.2.2 0 (by omega)
        have BX1 : BoxAt (wr.setCell ⟨w.heap.size, 0, none⟩ (.int .i64 1)) w.heap.size (1, true, [k0, k1, k2, k3]) := by
          have := RowAt.stored BX (i := 0) (by decide) (.int .i64 1)
          rw [Nat.add_zero] at this
          exact this
        have KB : KeptS (fun x => x = w.heap.size) wr (wr.setCell ⟨w.heap.size, 0, none⟩ (.int .i64 1)) := by
          refine KeptS.setCell (KeptS.refl _ _) ?_ _; rfl
        have J2 := (J.frame KB (fun k hk e => nS0 (e ▸ hk)))
        have hrw : r ≠ w.heap.size := fun e => nS0 (e ▸ s1)
        have c3' := KB.cell c3 hrr hrw
        have f3' := KB.frozen f3 hrr hrw
        have C0' := J2.c0
        rw [hmF] at C0'
        have J3 := (J2.into (T := fun k => S k ∧ k ≠ w.heap.size + 1) (fun k hk _ => ⟨hk.1, fun e => nS1 (e ▸ hk)⟩)).put (H := fun _ => False) rfl hiF (some w.heap.size) (1, true, [k0, k1, k2, k3]) (fun _ _ h => h) (fun e => by cases e) (fun b' e => by
          cases e
          refine ⟨BX1, (by show (1 : Int) ≠ 0; decide), ⟨hS _ (Nat.le_refl _), by omega⟩, ?_, hrw, fun hne => ?_, fun a ha hai _ e2 => ?_⟩
          · have := hgl; omega
          · exact fun e => nS0 (e ▸ (J2.blkS hne).1)
          · exact nS0 ((J2.yes a ha (fun x => x) _ e2).2.2.1))
        have KF : KeptS S w ((wr.setCell ⟨w.heap.size, 0, none⟩ (.int .i64 1)).setCell ⟨r, i, none⟩ (.pointer (some ⟨w.heap.size, 0, none⟩))) := by
          refine KeptS.setCell (KeptS.setCell KW (p := ⟨w.heap.size, 0, none⟩) (hS _ (Nat.le_refl _)) _) ?_ _
          exact s1.1
        have HJ3 : Hid _ := J3
        have HKF : Hid _ := KF
        have hr1 : r ≠ w.heap.size + 1 := fun e => nS1 (e ▸ s1)
        have KR : KeptS (fun x => x = r ∨ x = w.heap.size) wr ((wr.setCell ⟨w.heap.size, 0, none⟩ (.int .i64 1)).setCell ⟨r, i, none⟩ (.pointer (some ⟨w.heap.size, 0, none⟩))) := by
          refine KeptS.setCell (KeptS.setCell (KeptS.refl _ _) (p := ⟨w.heap.size, 0, none⟩) (Or.inr rfl) _) ?_ _
          exact Or.inl rfl
        have q0 := KR.cell p0 (by omega) (fun e => by rcases e with e | e <;> omega)
        have q1 := KR.cell p1 (by omega) (fun e => by rcases e with e | e <;> omega)
        have v0 := KR.frozen x0 (by omega) (fun e => by rcases e with e | e <;> omega)
        have v1 := KR.frozen x1 (by omega) (fun e => by rcases e with e | e <;> omega)
        have hsf : ((wr.setCell ⟨w.heap.size, 0, none⟩ (.int .i64 1)).setCell ⟨r, i, none⟩ (.pointer (some ⟨w.heap.size, 0, none⟩))).heap.size = wr.heap.size := by simp
        clear J J2 J3 KF KB KR BX BX1 hF K KW e1 p0 p1 x0 x1 hmF
        go_wp2
        rw [HPO.out, HFF.out]
        refine bodyPost_ret (v := .agg #[.int .i64 0, .int .i64 ((i : Nat) : Int)]) (by simp [results, Try.results212, go_sem, q0, q1]) rfl ⟨rfl, ?_, ?_⟩
        · refine ⟨_, _, _, _, _, (HJ3.out.frame (T := fun x => x = w.heap.size + 1) ?_ (fun k hk e => hk.2 e)).into (fun k hk _ => hk.1)⟩
          refine KeptS.setCell (KeptS.setCell (KeptS.refl _ _) ?_ _) ?_ _ <;> rfl
        · refine KeptS.setCell (KeptS.setCell HKF.out ?_ _) ?_ _ <;> exact hS _ (by simp)
  | none =>
    rw [hf] at hd
    simp only at hd
    subst hd
    obtain ⟨ar, cr, hv, RV⟩ := RowAt.of_owned I0.own
    obtain ⟨m, hm⟩ : ∃ m, f.1.length = m := ⟨_, rfl⟩
    have HM : Hid _ := hm
    by_cases h60 : 60 ≤ f.1.length
    · have HPO : Hid (plantO f true [k0, k1, k2, k3] but = none) := plant_full hf h60
      obtain rfl : m = 60 := by omega
      subst hv
      rw [hm] at c0
      have J1 := I0
      rw [hm] at J1
      clear hf I0 RV hm
      go_wp2_with fail
      refine (indexP_is J1 hn60 (-1) HD.out).mono ?_
      rintro e w1 ⟨rfl, rfl⟩
      have HK : Hid _ := KB0
      clear J1 KB0
      generalize hW : ((w.alloc (.cells #[.int .i64 0, .bool true, .int .i64 k0, .int .i64 k1, .int .i64 k2, .int .i64 k3] 245)).alloc (.cells #[.int .i64 0, .int .i64 0] 40)) = w1 at *
      clear hW
      go_wp2
      rw [HPO.out]
      refine bodyPost_ret (v := .agg #[.int .i64 2, .int .i64 0]) (by simp [results, Try.results212, go_sem, z0, z1]) rfl ⟨rfl, ?_⟩
      refine KeptS.setCell (KeptS.setCell HK.out ?_ _) ?_ _ <;> exact hS _ (by simp)
    · have HPO : Hid (plantO f true [k0, k1, k2, k3] but = _) := plant_new (but := but) hf h60 (fun e => by cases e)
      have HF0 : Hid (Inv (f.1 ++ [nd0], f.2)) := inv_new HV.out (by omega)
      replace HLV : Hid (∀ p, p < 4 → p = but ∨ ([k0, k1, k2, k3].getD p 0 < 0 ∨ (blockOf (f.1 ++ [nd0], f.2) ([k0, k1, k2, k3].getD p 0).toNat).1 ≠ 0)) := HLV.out
      obtain ⟨i0, hi0, hx0, hx1, hx2⟩ := info_parts Try.infoPtr
      have hm60 : m < 60 := by omega
      have hm1 : ((m : Int) == 60) = false := by simp; omega
      subst hv
      rw [hm] at c0
      have J0 := I0
      rw [hm] at J0
      clear hf I0 RV hm
      go_wp2_with fail
      refine (indexP_is J0 hn60 (-1) HD.out).mono ?_
      rintro e w1 ⟨rfl, rfl⟩
      generalize hW : ((w.alloc (.cells #[.int .i64 0, .bool true, .int .i64 k0, .int .i64 k1, .int .i64 k2, .int .i64 k3] 245)).alloc (.cells #[.int .i64 0, .int .i64 0] 40)) = w1 at *
      clear hW
      have A : Below w1.heap.size w1 (w1.alloc (.cells #[.pointer none] 243)) := (Below.refl _ _).alloc (Nat.le_refl _) _
      have JA := J0.below A
      have hown := JA.own
      rw [HM.out] at hown
      have cA := JA.c0
      have hbA := B0.size
      have HJA : Hid _ := JA
      clear JA J0
      go_wp2_with (first | (at_builtin; refine wpList_append_lies _ rfl _ _ 240 rfl base 243 i0 (.pointer none) 1 8 Try.underlying240 hi0 hx0 hx1 hx2 rfl (by decide) (.slice ar m cr) m _ rfl hown ⟨w1.heap.size, 0, none⟩ 1 1 [.pointer none] rfl rfl ?c1 ?c2 (by decide) ?c3 ?c4 ?c5 _ rfl ?_))
      case c1 =>
        intro j u hj
        match j, hj with
        | 0, hj => simp at hj; subst hj; simp [Addr.add]
      case c2 => simp [Value.oneCell']
      case c3 => unfold maxLen; omega
      case c4 => omega
      case c5 => simp; omega
      intro r cap w6 hown6 hgrow hgr _
      have hgr' : (Value.slice ar m cr).ownBlock = some r ∨ r = (w1.alloc (.cells #[.pointer none] 243)).heap.size := by simpa using hgr
      have hSA : ∀ k, (w1.alloc (.cells #[.pointer none] 243)).heap.size ≤ k → (fun k => S k ∧ (k < w.heap.size ∨ w.heap.size + 2 ≤ k)) k := fun k hk => ⟨hS k (by simp at hk; omega), Or.inr (by simp at hk; omega)⟩
      have hown7 : w6.ownsRow base 243 1 (.slice (some ⟨r, 0, none⟩) (f.1.length + 1) cap) (f.1.length + 1) (ptrs P f.1.length ++ [.pointer none]) := by rw [HM.out]; exact hown6
      have hgr2 := HJA.out
      obtain ⟨J1, K1⟩ := hgr2.grow hgrow hown7 hgr' hSA
      have S6 := grown_S hgrow
      have nVg : ¬ (Value.slice ar m cr).ownBlock = some g := fun e => (hgr2.ownS g e).2 rfl
      have c6 := S6.cell hgr2.c0 hgr2.hg.2 nVg
      have f6 := S6.frozen hgr2.z0 hgr2.hg.2 nVg
      have KA : KeptS (fun k => S k ∧ (k < w.heap.size ∨ w.heap.size + 2 ≤ k)) w1 (w6.setCell ⟨g, 0, none⟩ (.slice (some ⟨r, 0, none⟩) (f.1.length + 1) cap)) := (KeptS.below A).trans K1
      rw [HM.out] at J1 KA
      have nS0' : ¬ (fun k => S k ∧ (k < w.heap.size ∨ w.heap.size + 2 ≤ k)) w.heap.size := fun e => by rcases e.2 with e | e <;> omega
      have nS1' : ¬ (fun k => S k ∧ (k < w.heap.size ∨ w.heap.size + 2 ≤ k)) (w.heap.size + 1) := fun e => by rcases e.2 with e | e <;> omega
      replace BX0 := BX0.keptS KA nS0'
      replace n1 := KA.cell n1 hw0 nS0'
      replace m2 := KA.cell m2 hw0 nS0'
      replace m3 := KA.cell m3 hw0 nS0'
      replace m4 := KA.cell m4 hw0 nS0'
      replace m5 := KA.cell m5 hw0 nS0'
      replace z0 := KA.cell z0 hw1 nS1'
      replace z1 := KA.cell z1 hw1 nS1'
      replace y0 := KA.frozen y0 hw1 nS1'
      replace y1 := KA.frozen y1 hw1 nS1'
      replace hw0 := Nat.lt_of_lt_of_le hw0 KA.size
      replace hw1 := Nat.lt_of_lt_of_le hw1 KA.size
      have K0 : KeptS S w _ := KB0.trans (KA.mono fun k hk => hk.1)
      have hil : f.1.length < (f.1 ++ [nd0]).length := by simp
      clear hown6 hown7 hgrow hgr hgr' S6 hgr2 hown cA K1 KA HJA A nVg hSA KB0 c0
      generalize hW2 : w6.setCell ⟨g, 0, none⟩ (.slice (some ⟨r, 0, none⟩) (m + 1) cap) = w2 at *
      have HW2 : Hid _ := hW2
      clear hW2
      rw [HM.out] at HPO hil
      go_wp2_with (simp only [HW2.out])
      go_loopw [37] (fun x wr => ∃ j : Nat, j ≤ 4 ∧ x = .int .i64 j ∧ (∃ F, moreTo true but [k0, k1, k2, k3] j (f.1 ++ [nd0], f.2) = some F ∧ ∃ vn ab nb cb P, GAt wr (fun k => S k ∧ (k < w.heap.size ∨ w.heap.size + 2 ≤ k)) (fun _ => False) base g vn ab nb cb P F) ∧ KeptS (fun k => S k ∧ (k < w.heap.size ∨ w.heap.size + 2 ≤ k)) w2 wr) (fun x _ => 4 - (intOf x).toNat)
      case atStart => exact ⟨0, Nat.zero_le _, rfl, ⟨(f.1 ++ [nd0], f.2), rfl, _, _, _, _, _, J1⟩, KeptS.refl _ _⟩
      case round =>
        clear J1
        obtain ⟨j, hj, rfl, ⟨F, hF, vn', ab', nb', cb', P', J⟩, K⟩ := hrel
        have hsW := K.size
        have nS0 : ¬ (fun k => S k ∧ (k < w.heap.size ∨ w.heap.size + 2 ≤ k)) w.heap.size := fun e => by rcases e.2 with e | e <;> omega
        have nS1 : ¬ (fun k => S k ∧ (k < w.heap.size ∨ w.heap.size + 2 ≤ k)) (w.heap.size + 1) := fun e => by rcases e.2 with e | e <;> omega
        have e1 := K.cell n1 hw0 nS0
        have p0 := K.cell z0 hw1 nS1
        have p1 := K.cell z1 hw1 nS1
        have x0 := K.frozen y0 hw1 nS1
        have x1 := K.frozen y1 hw1 nS1
        have HFF : Hid _ := hF
        have KW : KeptS S w wr := K0.trans (K.mono fun k hk => hk.1)
        have hS2 : ∀ k, wr.heap.size ≤ k → (fun k => S k ∧ (k < w.heap.size ∨ w.heap.size + 2 ≤ k)) k := fun k hk => ⟨hS k (by omega), Or.inr (by omega)⟩
        by_cases hlt : j < 4
        · have hlj : (j : Int) < 4 := by omega
          have hix := idx_run k0 k1 k2 k3 j hlt
          have HSTEP : Hid (moreTo true but [k0, k1, k2, k3] (j + 1) (f.1 ++ [nd0], f.2) = moreStep true but F j ([k0, k1, k2, k3].getD j 0)) := by show _ = _; rw [moreTo, hF]; rfl
          have hlv := HLV.out j hlt
          have hng := HNG.out j hlt
          obtain ⟨t1, t2, -, -, t5⟩ := moreTo_leaf HF0.out (fun p hp hpb => (HLV.out p hp).resolve_left (fun e => hpb e)) j hj hF
          obtain ⟨y, hy⟩ : ∃ y, [k0, k1, k2, k3].getD j 0 = y := ⟨_, rfl⟩
          rw [hy] at hix hlv hng HSTEP
          clear hy hF
          by_cases hjb : j = but
          · have hjj : ((j : Int) == (but : Int)) = true := by simp [hjb]
            have HN : Hid _ := HSTEP.out.trans (if_pos (Or.inl hjb))
            have HJ : Hid _ := J
            clear J hlv hng t5 t2 HSTEP hjb t1
            go_wp2_with (first | (simp only [hix]; done) | fail)
            go_roundw
            case rel => exact ⟨j + 1, by omega, by go_num, ⟨F, HN.out, _, _, _, _, _, HJ.out⟩, K⟩
            case measure => simp [intOf]; omega
          · have hjj : ((j : Int) == (but : Int)) = false := by simp; omega
            by_cases hy0 : y < 0
            · obtain rfl : y = -1 := (hng.resolve_left hjb) hy0
              have HN : Hid _ := HSTEP.out.trans (if_pos (Or.inr hy0))
              have HJ : Hid _ := J
              clear J hlv hng t5 t2 HSTEP hy0 t1
              go_wp2_with (first | (simp only [hix]; done) | fail)
              refine (shareKid_none g true _).mono ?_
              rintro e w3 ⟨rfl, rfl⟩
              go_wp2
              go_roundw
              case rel => exact ⟨j + 1, by omega, by go_num, ⟨F, HN.out, _, _, _, _, _, HJ.out⟩, K⟩
              case measure => simp [intOf]; omega
            · obtain ⟨n, rfl⟩ : ∃ n : Nat, y = n := ⟨y.toNat, by omega⟩
              have hl0 := (hlv.resolve_left hjb).resolve_left hy0
              rw [Int.toNat_natCast] at hl0
              have hst := HSTEP.out
              unfold moreStep at hst
              rw [if_neg (fun e => e.elim hjb hy0), Int.toNat_natCast] at hst
              have HJ : Hid _ := J
              have hl1 : (F.2.getD n (0, 0)).1 ≠ 0 := t5 n hl0
              have hnl := liveB_lt (f := F) hl1
              have h24 := t2.inv.nb
              have hbo := t2.inv.bk
              have hr1 := (blkOne_zero (hbo n)).2.1
              simp only [if_true] at hst
              by_cases h200 : 200 ≤ (blockOf F n).1
              · have HNN : Hid _ := hst.trans (if_pos h200)
                have HC : Hid ((if 200 ≤ (F.2.getD n (0, 0)).1 then (2 : Int) else 0) = 2) := if_pos h200
                clear J hlv hng t1 t2 t5 HSTEP hy0 hst h200 hr1
                go_wp2_with (first | (simp only [hix]; done) | fail)
                refine (shareKid_block HJ.out hS2 (by omega) h24 hbo n hnl hl1 2 HC.out).mono ?_
                rintro e w3 ⟨rfl, K3, -⟩
                have KK := K.trans K3
                have q0 := K3.cell p0 (by omega) nS1
                have q1 := K3.cell p1 (by omega) nS1
                have v0 := K3.frozen x0 (by omega) nS1
                have v1 := K3.frozen x1 (by omega) nS1
                have KW2 : KeptS S w w3 := KW.trans (K3.mono fun k hk => hk.1)
                clear e1 KK hl1 hl0
                go_wp2
                rw [HPO.out, moreTo_nil HNN.out 4 (by omega)]
                refine bodyPost_ret (v := .agg #[.int .i64 2, .int .i64 0]) (by simp [results, Try.results212, go_sem, q0, q1]) rfl ⟨rfl, ?_⟩
                refine KeptS.setCell (KeptS.setCell KW2 ?_ _) ?_ _ <;> exact hS _ (by simp)
              · have HN : Hid _ := hst.trans (if_neg h200)
                have HC : Hid ((if 200 ≤ (F.2.getD n (0, 0)).1 then (2 : Int) else 0) = 0) := if_neg h200
                clear J hlv hng t1 t2 t5 HSTEP hy0 hst h200 hr1
                go_wp2_with (first | (simp only [hix]; done) | fail)
                refine (shareKid_block HJ.out hS2 (by omega) h24 hbo n hnl hl1 0 HC.out).mono ?_
                rintro e w3 ⟨rfl, K3, hres⟩
                obtain ⟨⟨vn4, ab4, nb4, cb4, P4, J4⟩, -⟩ := hres rfl
                have HJ4 : Hid _ := J4
                have KK := K.trans K3
                clear J4 hres K3 e1 p0 p1 x0 x1 hl1 hl0 KW
                go_wp2
                go_roundw
                case rel => exact ⟨j + 1, by omega, by go_num, ⟨_, HN.out, _, _, _, _, _, HJ4.out⟩, KK⟩
                case measure => simp [intOf]; omega
        · obtain rfl : j = 4 := by omega
          have hlF : F.1.length = (f.1 ++ [nd0]).length := (moreTo_leaf HF0.out (fun p hp hpb => (HLV.out p hp).resolve_left (fun e => hpb e)) 4 hj hF).1 ▸ rfl
          have hiF : m < F.1.length := by rw [hlF]; exact hil
          obtain ⟨r, cap, e', hrr, s1, s2, c3, f3⟩ := J.ptr hiF
          subst e'
          have C0 := J.c0
          obtain ⟨mF, hmF⟩ : ∃ mF, F.1.length = mF := ⟨_, rfl⟩
          have him : m < mF := by omega
          have hlm : ((m : Nat) : Int) < (mF : Int) := by omega
          have HMF : Hid _ := hmF
          rw [hmF] at C0
          have BX := (BX0.keptS K nS0)
          have r0' := BX.cell.1
          have rf := BX.cell.2.2.2 0 (by omega)
          have BX1 : BoxAt (wr.setCell ⟨w.heap.size, 0, none⟩ (.int .i64 1)) w.heap.size (1, true, [k0, k1, k2, k3]) := by
            have := RowAt.stored BX (i := 0) (by decide) (.int .i64 1)
            rw [Nat.add_zero] at this
            exact this
          have KB : KeptS (fun x => x = w.heap.size) wr (wr.setCell ⟨w.heap.size, 0, none⟩ (.int .i64 1)) := by
            refine KeptS.setCell (KeptS.refl _ _) ?_ _; rfl
          have J2 := (J.frame KB (fun k hk e => nS0 (e ▸ hk)))
          have hrw : r ≠ w.heap.size := fun e => nS0 (e ▸ s1)
          have c3' := KB.cell c3 hrr hrw
          have f3' := KB.frozen f3 hrr hrw
          have C0' := J2.c0
          rw [hmF] at C0'
          have J3 := (J2.into (T := fun k => S k ∧ k ≠ w.heap.size + 1) (fun k hk _ => ⟨hk.1, fun e => nS1 (e ▸ hk)⟩)).put (H := fun _ => False) rfl hiF (some w.heap.size) (1, true, [k0, k1, k2, k3]) (fun _ _ h => h) (fun e => by cases e) (fun b' e => by
            cases e
            refine ⟨BX1, (by show (1 : Int) ≠ 0; decide), ⟨hS _ (Nat.le_refl _), by omega⟩, ?_, hrw, fun hne => ?_, fun a ha hai _ e2 => ?_⟩
            · have := hgl; omega
            · exact fun e => nS0 (e ▸ (J2.blkS hne).1)
            · exact nS0 ((J2.yes a ha (fun x => x) _ e2).2.2.1))
          have KF : KeptS S w ((wr.setCell ⟨w.heap.size, 0, none⟩ (.int .i64 1)).setCell ⟨r, m, none⟩ (.pointer (some ⟨w.heap.size, 0, none⟩))) := by
            refine KeptS.setCell (KeptS.setCell KW (p := ⟨w.heap.size, 0, none⟩) (hS _ (Nat.le_refl _)) _) ?_ _
            exact s1.1
          have HJ3 : Hid _ := J3
          have HKF : Hid _ := KF
          have hr1 : r ≠ w.heap.size + 1 := fun e => nS1 (e ▸ s1)
          have KR : KeptS (fun x => x = r ∨ x = w.heap.size) wr ((wr.setCell ⟨w.heap.size, 0, none⟩ (.int .i64 1)).setCell ⟨r, m, none⟩ (.pointer (some ⟨w.heap.size, 0, none⟩))) := by
            refine KeptS.setCell (KeptS.setCell (KeptS.refl _ _) (p := ⟨w.heap.size, 0, none⟩) (Or.inr rfl) _) ?_ _
            exact Or.inl rfl
          have q0 := KR.cell p0 (by omega) (fun e => by rcases e with e | e <;> omega)
          have q1 := KR.cell p1 (by omega) (fun e => by rcases e with e | e <;> omega)
          have v0 := KR.frozen x0 (by omega) (fun e => by rcases e with e | e <;> omega)
          have v1 := KR.frozen x1 (by omega) (fun e => by rcases e with e | e <;> omega)
          have hsf : ((wr.setCell ⟨w.heap.size, 0, none⟩ (.int .i64 1)).setCell ⟨r, m, none⟩ (.pointer (some ⟨w.heap.size, 0, none⟩))).heap.size = wr.heap.size := by simp
          clear J J2 J3 KF KB KR BX BX1 hF K KW e1 p0 p1 x0 x1 hmF
          go_wp2
          rw [HPO.out, HFF.out]
          refine bodyPost_ret (v := .agg #[.int .i64 0, .int .i64 ((m : Nat) : Int)]) (by simp [results, Try.results212, go_sem, q0, q1]) rfl ⟨rfl, ?_, ?_⟩
          · refine ⟨_, _, _, _, _, (HJ3.out.frame (T := fun x => x = w.heap.size + 1) ?_ (fun k hk e => hk.2 e)).into (fun k hk _ => hk.1)⟩
            refine KeptS.setCell (KeptS.setCell (KeptS.refl _ _) ?_ _) ?_ _ <;> rfl
          · refine KeptS.setCell (KeptS.setCell HKF.out ?_ _) ?_ _ <;> exact hS _ (by simp)

set_option maxRecDepth 20000 in
set_option maxHeartbeats 8000000 in
theorem plant_root {w : World} {S : Nat → Prop} {base g : Nat} {vn : Value} {ab : Option Addr} {nb cb : Nat} {P : Nat → Option Nat} {f : Fo} (I : GAt w S (fun _ => False) base g vn ab nb cb P f) (hS : ∀ k, w.heap.size ≤ k → S k) (hbase : base ≤ w.heap.size) (hV : Inv f) (k0 k1 k2 k3 : Int) (but : Nat) (hng : ∀ p, p < 4 → p = but ∨ ([k0, k1, k2, k3].getD p 0 < 0 → [k0, k1, k2, k3].getD p 0 = -1)) (hlv : ∀ p, p < 4 → p = but ∨ ([k0, k1, k2, k3].getD p 0 < 0 ∨ (nodeOf f ([k0, k1, k2, k3].getD p 0).toNat).1 ≠ 0)) :
    Calls Try.prog 212 #[.pointer (some ⟨g, 0, none⟩), .agg #[.int .i64 0, .bool false, .int .i64 k0, .int .i64 k1, .int .i64 k2, .int .i64 k3], .int .i64 (but : Int)] w fun e w' => PlantRes S base g w w' e (plantO f false [k0, k1, k2, k3] but) := by
  have B0 : Below w.heap.size w ((w.alloc (.cells #[.int .i64 0, .bool false, .int .i64 k0, .int .i64 k1, .int .i64 k2, .int .i64 k3] 245)).alloc (.cells #[.int .i64 0, .int .i64 0] 40)) := ((Below.refl _ _).alloc (Nat.le_refl _) _).alloc (by simp) _
  have n1 : ((w.alloc (.cells #[.int .i64 0, .bool false, .int .i64 k0, .int .i64 k1, .int .i64 k2, .int .i64 k3] 245)).alloc (.cells #[.int .i64 0, .int .i64 0] 40)).cell? ⟨w.heap.size, 1, none⟩ = some (.bool false) := by simp
  have m2 : ((w.alloc (.cells #[.int .i64 0, .bool false, .int .i64 k0, .int .i64 k1, .int .i64 k2, .int .i64 k3] 245)).alloc (.cells #[.int .i64 0, .int .i64 0] 40)).cell? ⟨w.heap.size, 2, none⟩ = some (.int .i64 k0) := by simp
  have m3 : ((w.alloc (.cells #[.int .i64 0, .bool false, .int .i64 k0, .int .i64 k1, .int .i64 k2, .int .i64 k3] 245)).alloc (.cells #[.int .i64 0, .int .i64 0] 40)).cell? ⟨w.heap.size, 3, none⟩ = some (.int .i64 k1) := by simp
  have m4 : ((w.alloc (.cells #[.int .i64 0, .bool false, .int .i64 k0, .int .i64 k1, .int .i64 k2, .int .i64 k3] 245)).alloc (.cells #[.int .i64 0, .int .i64 0] 40)).cell? ⟨w.heap.size, 4, none⟩ = some (.int .i64 k2) := by simp
  have m5 : ((w.alloc (.cells #[.int .i64 0, .bool false, .int .i64 k0, .int .i64 k1, .int .i64 k2, .int .i64 k3] 245)).alloc (.cells #[.int .i64 0, .int .i64 0] 40)).cell? ⟨w.heap.size, 5, none⟩ = some (.int .i64 k3) := by simp
  have z0 : ((w.alloc (.cells #[.int .i64 0, .bool false, .int .i64 k0, .int .i64 k1, .int .i64 k2, .int .i64 k3] 245)).alloc (.cells #[.int .i64 0, .int .i64 0] 40)).cell? ⟨w.heap.size + 1, 0, none⟩ = some (.int .i64 0) := by simp
  have z1 : ((w.alloc (.cells #[.int .i64 0, .bool false, .int .i64 k0, .int .i64 k1, .int .i64 k2, .int .i64 k3] 245)).alloc (.cells #[.int .i64 0, .int .i64 0] 40)).cell? ⟨w.heap.size + 1, 1, none⟩ = some (.int .i64 0) := by simp
  have y0 : ((w.alloc (.cells #[.int .i64 0, .bool false, .int .i64 k0, .int .i64 k1, .int .i64 k2, .int .i64 k3] 245)).alloc (.cells #[.int .i64 0, .int .i64 0] 40)).frozen? ⟨w.heap.size + 1, 0, none⟩ = false := by simp
  have y1 : ((w.alloc (.cells #[.int .i64 0, .bool false, .int .i64 k0, .int .i64 k1, .int .i64 k2, .int .i64 k3] 245)).alloc (.cells #[.int .i64 0, .int .i64 0] 40)).frozen? ⟨w.heap.size + 1, 1, none⟩ = false := by simp
  have BX0 : BoxAt ((w.alloc (.cells #[.int .i64 0, .bool false, .int .i64 k0, .int .i64 k1, .int .i64 k2, .int .i64 k3] 245)).alloc (.cells #[.int .i64 0, .int .i64 0] 40)) w.heap.size (0, false, [k0, k1, k2, k3]) := RowAt.below (RowAt.of_block (w := w.alloc (.cells #[.int .i64 0, .bool false, .int .i64 k0, .int .i64 k1, .int .i64 k2, .int .i64 k3] 245)) (cs := ndc (0, false, [k0, k1, k2, k3])) (t := 245) (heap_alloc_new w _) (by simp [ndc, ints])) ((Below.refl _ _).alloc (Nat.le_refl _) _)
  have hw1 : w.heap.size + 1 < ((w.alloc (.cells #[.int .i64 0, .bool false, .int .i64 k0, .int .i64 k1, .int .i64 k2, .int .i64 k3] 245)).alloc (.cells #[.int .i64 0, .int .i64 0] 40)).heap.size := by simp
  have hw0 : w.heap.size < ((w.alloc (.cells #[.int .i64 0, .bool false, .int .i64 k0, .int .i64 k1, .int .i64 k2, .int .i64 k3] 245)).alloc (.cells #[.int .i64 0, .int .i64 0] 40)).heap.size := Nat.lt_of_succ_lt hw1
  have hgl := I.hg.2
  have I0 := (I.into (T := (fun k => S k ∧ (k < w.heap.size ∨ w.heap.size + 2 ≤ k))) (fun k hk hl => ⟨hk, Or.inl hl⟩)).below B0
  have hn60 := hV.nn
  have HV : Hid _ := hV
  have HLV : Hid _ := hlv
  have HNG : Hid _ := hng
  obtain ⟨d, hd⟩ : ∃ d, (match freeNd f.1 with | some i => (i : Int) | none => -1) = d := ⟨_, rfl⟩
  have HD : Hid _ := hd
  have c0 := I0.c0
  have KB0 : KeptS S w ((w.alloc (.cells #[.int .i64 0, .bool false, .int .i64 k0, .int .i64 k1, .int .i64 k2, .int .i64 k3] 245)).alloc (.cells #[.int .i64 0, .int .i64 0] 40)) := KeptS.below B0
  clear I hV hlv hng
  go_enter Try.func212, Try.ntmps212
  cases hf : freeNd f.1 with
  | some i =>
    rw [hf] at hd
    simp only at hd
    subst hd
    obtain ⟨hil, hi0⟩ := freeNd_is hf
    have HPO : Hid (plantO f false [k0, k1, k2, k3] but = _) := plant_free (but := but) hf (fun _ p hp hpb => by
    rcases (HLV.out p hp).resolve_left hpb with e | e
    · exact Or.inl e
    · exact Or.inr fun e2 => e (by rw [e2]; exact hi0))
    have HF0 : Hid (Inv f) := HV.out
    have J1 := I0
    have K0 := KB0
    have hi2 : ¬ ((i : Int) < 0) := by omega
    clear I0 KB0 hf hi0
    go_wp2_with fail
    refine (indexP_is J1 hn60 (i : Int) HD.out).mono ?_
    rintro e w1 ⟨rfl, rfl⟩
    generalize hW : ((w.alloc (.cells #[.int .i64 0, .bool false, .int .i64 k0, .int .i64 k1, .int .i64 k2, .int .i64 k3] 245)).alloc (.cells #[.int .i64 0, .int .i64 0] 40)) = w1 at *
    clear hW
    go_wp2
    go_loopw [37] (fun x wr => ∃ j : Nat, j ≤ 4 ∧ x = .int .i64 j ∧ (∃ F, moreTo false but [k0, k1, k2, k3] j f = some F ∧ ∃ vn ab nb cb P, GAt wr (fun k => S k ∧ (k < w.heap.size ∨ w.heap.size + 2 ≤ k)) (fun _ => False) base g vn ab nb cb P F) ∧ KeptS (fun k => S k ∧ (k < w.heap.size ∨ w.heap.size + 2 ≤ k)) w1 wr) (fun x _ => 4 - (intOf x).toNat)
    case atStart => exact ⟨0, Nat.zero_le _, rfl, ⟨f, rfl, _, _, _, _, _, J1⟩, KeptS.refl _ _⟩
    case round =>
      clear J1
      obtain ⟨j, hj, rfl, ⟨F, hF, vn', ab', nb', cb', P', J⟩, K⟩ := hrel
      have hsW := K.size
      have nS0 : ¬ (fun k => S k ∧ (k < w.heap.size ∨ w.heap.size + 2 ≤ k)) w.heap.size := fun e => by rcases e.2 with e | e <;> omega
      have nS1 : ¬ (fun k => S k ∧ (k < w.heap.size ∨ w.heap.size + 2 ≤ k)) (w.heap.size + 1) := fun e => by rcases e.2 with e | e <;> omega
      have e1 := K.cell n1 hw0 nS0
      have p0 := K.cell z0 hw1 nS1
      have p1 := K.cell z1 hw1 nS1
      have x0 := K.frozen y0 hw1 nS1
      have x1 := K.frozen y1 hw1 nS1
      have HFF : Hid _ := hF
      have KW : KeptS S w wr := K0.trans (K.mono fun k hk => hk.1)
      have hS2 : ∀ k, wr.heap.size ≤ k → (fun k => S k ∧ (k < w.heap.size ∨ w.heap.size + 2 ≤ k)) k := fun k hk => ⟨hS k (by omega), Or.inr (by omega)⟩
      by_cases hlt : j < 4
      · have hlj : (j : Int) < 4 := by omega
        have hix := idx_run k0 k1 k2 k3 j hlt
        have HSTEP : Hid (moreTo false but [k0, k1, k2, k3] (j + 1) f = moreStep false but F j ([k0, k1, k2, k3].getD j 0)) := by show _ = _; rw [moreTo, hF]; rfl
        have hlv := HLV.out j hlt
        have hng := HNG.out j hlt
        obtain ⟨t2, -, -, t5⟩ := moreTo_root HF0.out (fun p hp hpb => (HLV.out p hp).resolve_left (fun e => hpb e)) j hj hF
        obtain ⟨y, hy⟩ : ∃ y, [k0, k1, k2, k3].getD j 0 = y := ⟨_, rfl⟩
        rw [hy] at hix hlv hng HSTEP
        clear hy hF
        by_cases hjb : j = but
        · have hjj : ((j : Int) == (but : Int)) = true := by simp [hjb]
          have HN : Hid _ := HSTEP.out.trans (if_pos (Or.inl hjb))
          have HJ : Hid _ := J
          clear J hlv hng t5 t2 HSTEP hjb
          go_wp2_with (first | (simp only [hix]; done) | fail)
          go_roundw
          case rel => exact ⟨j + 1, by omega, by go_num, ⟨F, HN.out, _, _, _, _, _, HJ.out⟩, K⟩
          case measure => simp [intOf]; omega
        · have hjj : ((j : Int) == (but : Int)) = false := by simp; omega
          by_cases hy0 : y < 0
          · obtain rfl : y = -1 := (hng.resolve_left hjb) hy0
            have HN : Hid _ := HSTEP.out.trans (if_pos (Or.inr hy0))
            have HJ : Hid _ := J
            clear J hlv hng t5 t2 HSTEP hy0
            go_wp2_with (first | (simp only [hix]; done) | fail)
            refine (shareKid_none g false _).mono ?_
            rintro e w3 ⟨rfl, rfl⟩
            go_wp2
            go_roundw
            case rel => exact ⟨j + 1, by omega, by go_num, ⟨F, HN.out, _, _, _, _, _, HJ.out⟩, K⟩
            case measure => simp [intOf]; omega
          · obtain ⟨n, rfl⟩ : ∃ n : Nat, y = n := ⟨y.toNat, by omega⟩
            have hl0 := (hlv.resolve_left hjb).resolve_left hy0
            rw [Int.toNat_natCast] at hl0
            have hst := HSTEP.out
            unfold moreStep at hst
            rw [if_neg (fun e => e.elim hjb hy0), Int.toNat_natCast] at hst
            have HJ : Hid _ := J
            have hl1 : (nodeOf F n).1 ≠ 0 := t5 n hl0
            have hnl := live_lt (f := F) hl1
            have hr0 := (t2.inv.nd n).r0
            have hr1 := (t2.inv.nd n).r1
            simp only [Bool.false_eq_true, if_false] at hst
            by_cases h200 : 200 ≤ (nodeOf F n).1
            · have HNN : Hid _ := hst.trans (if_pos h200)
              have HC : Hid ((nodeOf F n).1 = 200) := by show _ = _; omega
              clear J hlv hng t2 t5 HSTEP hy0 hst h200 hr1 hr0 hl1 hl0
              go_wp2_with (first | (simp only [hix]; done) | fail)
              refine (shareKid_many HJ.out hnl (fun x => x) HC.out).mono ?_
              rintro e w3 ⟨rfl, K3⟩
              have KK := K.trans K3
              have q0 := K3.cell p0 (by omega) nS1
              have q1 := K3.cell p1 (by omega) nS1
              have v0 := K3.frozen x0 (by omega) nS1
              have v1 := K3.frozen x1 (by omega) nS1
              have KW2 : KeptS S w w3 := KW.trans (K3.mono fun k hk => hk.1)
              clear e1 KK
              go_wp2
              rw [HPO.out, moreTo_nil HNN.out 4 (by omega)]
              refine bodyPost_ret (v := .agg #[.int .i64 2, .int .i64 0]) (by simp [results, Try.results212, go_sem, q0, q1]) rfl ⟨rfl, ?_⟩
              refine KeptS.setCell (KeptS.setCell KW2 ?_ _) ?_ _ <;> exact hS _ (by simp)
            · have HN : Hid _ := hst.trans (if_neg h200)
              have HC : Hid ((nodeOf F n).1 < 200) := by show _ < _; omega
              have HD : Hid (0 < (nodeOf F n).1) := by show _ < _; omega
              clear J hlv hng t2 t5 HSTEP hy0 hst h200 hr1 hr0 hl1 hl0
              go_wp2_with (first | (simp only [hix]; done) | fail)
              refine (shareKid_node HJ.out hnl (fun x => x) HD.out HC.out).mono ?_
              rintro e w3 ⟨rfl, ⟨vn4, ab4, nb4, cb4, P4, J4⟩, K3⟩
              have HJ4 : Hid _ := J4
              have KK := K.trans K3
              clear J4 K3 e1 p0 p1 x0 x1 KW
              go_wp2
              go_roundw
              case rel => exact ⟨j + 1, by omega, by go_num, ⟨_, HN.out, _, _, _, _, _, HJ4.out⟩, KK⟩
              case measure => simp [intOf]; omega
      · obtain rfl : j = 4 := by omega
        have hlF : F.1.length = f.1.length := (moreTo_root HF0.out (fun p hp hpb => (HLV.out p hp).resolve_left (fun e => hpb e)) 4 hj hF).1.ln
        have hiF : i < F.1.length := by rw [hlF]; exact hil
        obtain ⟨r, cap, e', hrr, s1, s2, c3, f3⟩ := J.ptr hiF
        subst e'
        have C0 := J.c0
        obtain ⟨mF, hmF⟩ : ∃ mF, F.1.length = mF := ⟨_, rfl⟩
        have him : i < mF := by omega
        have hlm : ((i : Nat) : Int) < (mF : Int) := by omega
        have HMF : Hid _ := hmF
        rw [hmF] at C0
        have BX := (BX0.keptS K nS0)
        have r0' := BX.cell.1
        have rf := BX.cell.2.2.2 0 (by omega)
        have BX1 : BoxAt (wr.setCell ⟨w.heap.size, 0, none⟩ (.int .i64 1)) w.heap.size (1, false, [k0, k1, k2, k3]) := by
          have := RowAt.stored BX (i := 0) (by decide) (.int .i64 1)
          rw [Nat.add_zero] at this
          exact this
        have KB : KeptS (fun x => x = w.heap.size) wr (wr.setCell ⟨w.heap.size, 0, none⟩ (.int .i64 1)) := by
          refine KeptS.setCell (KeptS.refl _ _) ?_ _; rfl
        have J2 := (J.frame KB (fun k hk e => nS0 (e ▸ hk)))
        have hrw : r ≠ w.heap.size := fun e => nS0 (e ▸ s1)
        have c3' := KB.cell c3 hrr hrw
        have f3' := KB.frozen f3 hrr hrw
        have C0' := J2.c0
        rw [hmF] at C0'
        have J3 := (J2.into (T := fun k => S k ∧ k ≠ w.heap.size + 1) (fun k hk _ => ⟨hk.1, fun e => nS1 (e ▸ hk)⟩)).put (H := fun _ => False) rfl hiF (some w.heap.size) (1, false, [k0, k1, k2, k3]) (fun _ _ h => h) (fun e => by cases e) (fun b' e => by
          cases e
          refine ⟨BX1, (by show (1 : Int) ≠ 0; decide), ⟨hS _ (Nat.le_refl _), by omega⟩, ?_, hrw, fun hne => ?_, fun a ha hai _ e2 => ?_⟩
          · have := hgl; omega
          · exact fun e => nS0 (e ▸ (J2.blkS hne).1)
          · exact nS0 ((J2.yes a ha (fun x => x) _ e2).2.2.1))
        have KF : KeptS S w ((wr.setCell ⟨w.heap.size, 0, none⟩ (.int .i64 1)).setCell ⟨r, i, none⟩ (.pointer (some ⟨w.heap.size, 0, none⟩))) := by
          refine KeptS.setCell (KeptS.setCell KW (p := ⟨w.heap.size, 0, none⟩) (hS _ (Nat.le_refl _)) _) ?_ _
          exact s1.1
        have HJ3 : Hid _ := J3
        have HKF : Hid _ := KF
        have hr1 : r ≠ w.heap.size + 1 := fun e => nS1 (e ▸ s1)
        have KR : KeptS (fun x => x = r ∨ x = w.heap.size) wr ((wr.setCell ⟨w.heap.size, 0, none⟩ (.int .i64 1)).setCell ⟨r, i, none⟩ (.pointer (some ⟨w.heap.size, 0, none⟩))) := by
          refine KeptS.setCell (KeptS.setCell (KeptS.refl _ _) (p := ⟨w.heap.size, 0, none⟩) (Or.inr rfl) _) ?_ _
          exact Or.inl rfl
        have q0 := KR.cell p0 (by omega) (fun e => by rcases e with e | e <;> omega)
        have q1 := KR.cell p1 (by omega) (fun e => by rcases e with e | e <;> omega)
        have v0 := KR.frozen x0 (by omega) (fun e => by rcases e with e | e <;> omega)
        have v1 := KR.frozen x1 (by omega) (fun e => by rcases e with e | e <;> omega)
        have hsf : ((wr.setCell ⟨w.heap.size, 0, none⟩ (.int .i64 1)).setCell ⟨r, i, none⟩ (.pointer (some ⟨w.heap.size, 0, none⟩))).heap.size = wr.heap.size := by simp
        clear J J2 J3 KF KB KR BX BX1 hF K KW e1 p0 p1 x0 x1 hmF
        go_wp2
        rw [HPO.out, HFF.out]
        refine bodyPost_ret (v := .agg #[.int .i64 0, .int .i64 ((i : Nat) : Int)]) (by simp [results, Try.results212, go_sem, q0, q1]) rfl ⟨rfl, ?_, ?_⟩
        · refine ⟨_, _, _, _, _, (HJ3.out.frame (T := fun x => x = w.heap.size + 1) ?_ (fun k hk e => hk.2 e)).into (fun k hk _ => hk.1)⟩
          refine KeptS.setCell (KeptS.setCell (KeptS.refl _ _) ?_ _) ?_ _ <;> rfl
        · refine KeptS.setCell (KeptS.setCell HKF.out ?_ _) ?_ _ <;> exact hS _ (by simp)
  | none =>
    rw [hf] at hd
    simp only at hd
    subst hd
    obtain ⟨ar, cr, hv, RV⟩ := RowAt.of_owned I0.own
    obtain ⟨m, hm⟩ : ∃ m, f.1.length = m := ⟨_, rfl⟩
    have HM : Hid _ := hm
    by_cases h60 : 60 ≤ f.1.length
    · have HPO : Hid (plantO f false [k0, k1, k2, k3] but = none) := plant_full hf h60
      obtain rfl : m = 60 := by omega
      subst hv
      rw [hm] at c0
      have J1 := I0
      rw [hm] at J1
      clear hf I0 RV hm
      go_wp2_with fail
      refine (indexP_is J1 hn60 (-1) HD.out).mono ?_
      rintro e w1 ⟨rfl, rfl⟩
      have HK : Hid _ := KB0
      clear J1 KB0
      generalize hW : ((w.alloc (.cells #[.int .i64 0, .bool false, .int .i64 k0, .int .i64 k1, .int .i64 k2, .int .i64 k3] 245)).alloc (.cells #[.int .i64 0, .int .i64 0] 40)) = w1 at *
      clear hW
      go_wp2
      rw [HPO.out]
      refine bodyPost_ret (v := .agg #[.int .i64 2, .int .i64 0]) (by simp [results, Try.results212, go_sem, z0, z1]) rfl ⟨rfl, ?_⟩
      refine KeptS.setCell (KeptS.setCell HK.out ?_ _) ?_ _ <;> exact hS _ (by simp)
    · have HPO : Hid (plantO f false [k0, k1, k2, k3] but = _) := plant_new (but := but) hf h60 (fun _ p hp hpb => by
      rcases (HLV.out p hp).resolve_left hpb with e | e
      · exact Or.inl e
      · exact Or.inr fun e2 => e (by rw [e2, nodeOf_out (Nat.le_refl _)]; rfl))
      have HF0 : Hid (Inv (f.1 ++ [nd0], f.2)) := inv_new HV.out (by omega)
      replace HLV : Hid (∀ p, p < 4 → p = but ∨ ([k0, k1, k2, k3].getD p 0 < 0 ∨ (nodeOf (f.1 ++ [nd0], f.2) ([k0, k1, k2, k3].getD p 0).toNat).1 ≠ 0)) := fun p hp => by rw [node_new]; exact HLV.out p hp
      obtain ⟨i0, hi0, hx0, hx1, hx2⟩ := info_parts Try.infoPtr
      have hm60 : m < 60 := by omega
      have hm1 : ((m : Int) == 60) = false := by simp; omega
      subst hv
      rw [hm] at c0
      have J0 := I0
      rw [hm] at J0
      clear hf I0 RV hm
      go_wp2_with fail
      refine (indexP_is J0 hn60 (-1) HD.out).mono ?_
      rintro e w1 ⟨rfl, rfl⟩
      generalize hW : ((w.alloc (.cells #[.int .i64 0, .bool false, .int .i64 k0, .int .i64 k1, .int .i64 k2, .int .i64 k3] 245)).alloc (.cells #[.int .i64 0, .int .i64 0] 40)) = w1 at *
      clear hW
      have A : Below w1.heap.size w1 (w1.alloc (.cells #[.pointer none] 243)) := (Below.refl _ _).alloc (Nat.le_refl _) _
      have JA := J0.below A
      have hown := JA.own
      rw [HM.out] at hown
      have cA := JA.c0
      have hbA := B0.size
      have HJA : Hid _ := JA
      clear JA J0
      go_wp2_with (first | (at_builtin; refine wpList_append_lies _ rfl _ _ 240 rfl base 243 i0 (.pointer none) 1 8 Try.underlying240 hi0 hx0 hx1 hx2 rfl (by decide) (.slice ar m cr) m _ rfl hown ⟨w1.heap.size, 0, none⟩ 1 1 [.pointer none] rfl rfl ?c1 ?c2 (by decide) ?c3 ?c4 ?c5 _ rfl ?_))
      case c1 =>
        intro j u hj
        match j, hj with
        | 0, hj => simp at hj; subst hj; simp [Addr.add]
      case c2 => simp [Value.oneCell']
      case c3 => unfold maxLen; omega
      case c4 => omega
      case c5 => simp; omega
      intro r cap w6 hown6 hgrow hgr _
      have hgr' : (Value.slice ar m cr).ownBlock = some r ∨ r = (w1.alloc (.cells #[.pointer none] 243)).heap.size := by simpa using hgr
      have hSA : ∀ k, (w1.alloc (.cells #[.pointer none] 243)).heap.size ≤ k → (fun k => S k ∧ (k < w.heap.size ∨ w.heap.size + 2 ≤ k)) k := fun k hk => ⟨hS k (by simp at hk; omega), Or.inr (by simp at hk; omega)⟩
      have hown7 : w6.ownsRow base 243 1 (.slice (some ⟨r, 0, none⟩) (f.1.length + 1) cap) (f.1.length + 1) (ptrs P f.1.length ++ [.pointer none]) := by rw [HM.out]; exact hown6
      have hgr2 := HJA.out
      obtain ⟨J1, K1⟩ := hgr2.grow hgrow hown7 hgr' hSA
      have S6 := grown_S hgrow
      have nVg : ¬ (Value.slice ar m cr).ownBlock = some g := fun e => (hgr2.ownS g e).2 rfl
      have c6 := S6.cell hgr2.c0 hgr2.hg.2 nVg
      have f6 := S6.frozen hgr2.z0 hgr2.hg.2 nVg
      have KA : KeptS (fun k => S k ∧ (k < w.heap.size ∨ w.heap.size + 2 ≤ k)) w1 (w6.setCell ⟨g, 0, none⟩ (.slice (some ⟨r, 0, none⟩) (f.1.length + 1) cap)) := (KeptS.below A).trans K1
      rw [HM.out] at J1 KA
      have nS0' : ¬ (fun k => S k ∧ (k < w.heap.size ∨ w.heap.size + 2 ≤ k)) w.heap.size := fun e => by rcases e.2 with e | e <;> omega
      have nS1' : ¬ (fun k => S k ∧ (k < w.heap.size ∨ w.heap.size + 2 ≤ k)) (w.heap.size + 1) := fun e => by rcases e.2 with e | e <;> omega
      replace BX0 := BX0.keptS KA nS0'
      replace n1 := KA.cell n1 hw0 nS0'
      replace m2 := KA.cell m2 hw0 nS0'
      replace m3 := KA.cell m3 hw0 nS0'
      replace m4 := KA.cell m4 hw0 nS0'
      replace m5 := KA.cell m5 hw0 nS0'
      replace z0 := KA.cell z0 hw1 nS1'
      replace z1 := KA.cell z1 hw1 nS1'
      replace y0 := KA.frozen y0 hw1 nS1'
      replace y1 := KA.frozen y1 hw1 nS1'
      replace hw0 := Nat.lt_of_lt_of_le hw0 KA.size
      replace hw1 := Nat.lt_of_lt_of_le hw1 KA.size
      have K0 : KeptS S w _ := KB0.trans (KA.mono fun k hk => hk.1)
      have hil : f.1.length < (f.1 ++ [nd0]).length := by simp
      clear hown6 hown7 hgrow hgr hgr' S6 hgr2 hown cA K1 KA HJA A nVg hSA KB0 c0
      generalize hW2 : w6.setCell ⟨g, 0, none⟩ (.slice (some ⟨r, 0, none⟩) (m + 1) cap) = w2 at *
      have HW2 : Hid _ := hW2
      clear hW2
      rw [HM.out] at HPO hil
      go_wp2_with (simp only [HW2.out])
      go_loopw [37] (fun x wr => ∃ j : Nat, j ≤ 4 ∧ x = .int .i64 j ∧ (∃ F, moreTo false but [k0, k1, k2, k3] j (f.1 ++ [nd0], f.2) = some F ∧ ∃ vn ab nb cb P, GAt wr (fun k => S k ∧ (k < w.heap.size ∨ w.heap.size + 2 ≤ k)) (fun _ => False) base g vn ab nb cb P F) ∧ KeptS (fun k => S k ∧ (k < w.heap.size ∨ w.heap.size + 2 ≤ k)) w2 wr) (fun x _ => 4 - (intOf x).toNat)
      case atStart => exact ⟨0, Nat.zero_le _, rfl, ⟨(f.1 ++ [nd0], f.2), rfl, _, _, _, _, _, J1⟩, KeptS.refl _ _⟩
      case round =>
        clear J1
        obtain ⟨j, hj, rfl, ⟨F, hF, vn', ab', nb', cb', P', J⟩, K⟩ := hrel
        have hsW := K.size
        have nS0 : ¬ (fun k => S k ∧ (k < w.heap.size ∨ w.heap.size + 2 ≤ k)) w.heap.size := fun e => by rcases e.2 with e | e <;> omega
        have nS1 : ¬ (fun k => S k ∧ (k < w.heap.size ∨ w.heap.size + 2 ≤ k)) (w.heap.size + 1) := fun e => by rcases e.2 with e | e <;> omega
        have e1 := K.cell n1 hw0 nS0
        have p0 := K.cell z0 hw1 nS1
        have p1 := K.cell z1 hw1 nS1
        have x0 := K.frozen y0 hw1 nS1
        have x1 := K.frozen y1 hw1 nS1
        have HFF : Hid _ := hF
        have KW : KeptS S w wr := K0.trans (K.mono fun k hk => hk.1)
        have hS2 : ∀ k, wr.heap.size ≤ k → (fun k => S k ∧ (k < w.heap.size ∨ w.heap.size + 2 ≤ k)) k := fun k hk => ⟨hS k (by omega), Or.inr (by omega)⟩
        by_cases hlt : j < 4
        · have hlj : (j : Int) < 4 := by omega
          have hix := idx_run k0 k1 k2 k3 j hlt
          have HSTEP : Hid (moreTo false but [k0, k1, k2, k3] (j + 1) (f.1 ++ [nd0], f.2) = moreStep false but F j ([k0, k1, k2, k3].getD j 0)) := by show _ = _; rw [moreTo, hF]; rfl
          have hlv := HLV.out j hlt
          have hng := HNG.out j hlt
          obtain ⟨t2, -, -, t5⟩ := moreTo_root HF0.out (fun p hp hpb => (HLV.out p hp).resolve_left (fun e => hpb e)) j hj hF
          obtain ⟨y, hy⟩ : ∃ y, [k0, k1, k2, k3].getD j 0 = y := ⟨_, rfl⟩
          rw [hy] at hix hlv hng HSTEP
          clear hy hF
          by_cases hjb : j = but
          · have hjj : ((j : Int) == (but : Int)) = true := by simp [hjb]
            have HN : Hid _ := HSTEP.out.trans (if_pos (Or.inl hjb))
            have HJ : Hid _ := J
            clear J hlv hng t5 t2 HSTEP hjb
            go_wp2_with (first | (simp only [hix]; done) | fail)
            go_roundw
            case rel => exact ⟨j + 1, by omega, by go_num, ⟨F, HN.out, _, _, _, _, _, HJ.out⟩, K⟩
            case measure => simp [intOf]; omega
          · have hjj : ((j : Int) == (but : Int)) = false := by simp; omega
            by_cases hy0 : y < 0
            · obtain rfl : y = -1 := (hng.resolve_left hjb) hy0
              have HN : Hid _ := HSTEP.out.trans (if_pos (Or.inr hy0))
              have HJ : Hid _ := J
              clear J hlv hng t5 t2 HSTEP hy0
              go_wp2_with (first | (simp only [hix]; done) | fail)
              refine (shareKid_none g false _).mono ?_
              rintro e w3 ⟨rfl, rfl⟩
              go_wp2
              go_roundw
              case rel => exact ⟨j + 1, by omega, by go_num, ⟨F, HN.out, _, _, _, _, _, HJ.out⟩, K⟩
              case measure => simp [intOf]; omega
            · obtain ⟨n, rfl⟩ : ∃ n : Nat, y = n := ⟨y.toNat, by omega⟩
              have hl0 := (hlv.resolve_left hjb).resolve_left hy0
              rw [Int.toNat_natCast] at hl0
              have hst := HSTEP.out
              unfold moreStep at hst
              rw [if_neg (fun e => e.elim hjb hy0), Int.toNat_natCast] at hst
              have HJ : Hid _ := J
              have hl1 : (nodeOf F n).1 ≠ 0 := t5 n hl0
              have hnl := live_lt (f := F) hl1
              have hr0 := (t2.inv.nd n).r0
              have hr1 := (t2.inv.nd n).r1
              simp only [Bool.false_eq_true, if_false] at hst
              by_cases h200 : 200 ≤ (nodeOf F n).1
              · have HNN : Hid _ := hst.trans (if_pos h200)
                have HC : Hid ((nodeOf F n).1 = 200) := by show _ = _; omega
                clear J hlv hng t2 t5 HSTEP hy0 hst h200 hr1 hr0 hl1 hl0
                go_wp2_with (first | (simp only [hix]; done) | fail)
                refine (shareKid_many HJ.out hnl (fun x => x) HC.out).mono ?_
                rintro e w3 ⟨rfl, K3⟩
                have KK := K.trans K3
                have q0 := K3.cell p0 (by omega) nS1
                have q1 := K3.cell p1 (by omega) nS1
                have v0 := K3.frozen x0 (by omega) nS1
                have v1 := K3.frozen x1 (by omega) nS1
                have KW2 : KeptS S w w3 := KW.trans (K3.mono fun k hk => hk.1)
                clear e1 KK
                go_wp2
                rw [HPO.out, moreTo_nil HNN.out 4 (by omega)]
                refine bodyPost_ret (v := .agg #[.int .i64 2, .int .i64 0]) (by simp [results, Try.results212, go_sem, q0, q1]) rfl ⟨rfl, ?_⟩
                refine KeptS.setCell (KeptS.setCell KW2 ?_ _) ?_ _ <;> exact hS _ (by simp)
              · have HN : Hid _ := hst.trans (if_neg h200)
                have HC : Hid ((nodeOf F n).1 < 200) := by show _ < _; omega
                have HD : Hid (0 < (nodeOf F n).1) := by show _ < _; omega
                clear J hlv hng t2 t5 HSTEP hy0 hst h200 hr1 hr0 hl1 hl0
                go_wp2_with (first | (simp only [hix]; done) | fail)
                refine (shareKid_node HJ.out hnl (fun x => x) HD.out HC.out).mono ?_
                rintro e w3 ⟨rfl, ⟨vn4, ab4, nb4, cb4, P4, J4⟩, K3⟩
                have HJ4 : Hid _ := J4
                have KK := K.trans K3
                clear J4 K3 e1 p0 p1 x0 x1 KW
                go_wp2
                go_roundw
                case rel => exact ⟨j + 1, by omega, by go_num, ⟨_, HN.out, _, _, _, _, _, HJ4.out⟩, KK⟩
                case measure => simp [intOf]; omega
        · obtain rfl : j = 4 := by omega
          have hlF : F.1.length = (f.1 ++ [nd0]).length := (moreTo_root HF0.out (fun p hp hpb => (HLV.out p hp).resolve_left (fun e => hpb e)) 4 hj hF).1.ln
          have hiF : m < F.1.length := by rw [hlF]; exact hil
          obtain ⟨r, cap, e', hrr, s1, s2, c3, f3⟩ := J.ptr hiF
          subst e'
          have C0 := J.c0
          obtain ⟨mF, hmF⟩ : ∃ mF, F.1.length = mF := ⟨_, rfl⟩
          have him : m < mF := by omega
          have hlm : ((m : Nat) : Int) < (mF : Int) := by omega
          have HMF : Hid _ := hmF
          rw [hmF] at C0
          have BX := (BX0.keptS K nS0)
          have r0' := BX.cell.1
          have rf := BX.cell.2.2.2 0 (by omega)
          have BX1 : BoxAt (wr.setCell ⟨w.heap.size, 0, none⟩ (.int .i64 1)) w.heap.size (1, false, [k0, k1, k2, k3]) := by
            have := RowAt.stored BX (i := 0) (by decide) (.int .i64 1)
            rw [Nat.add_zero] at this
            exact this
          have KB : KeptS (fun x => x = w.heap.size) wr (wr.setCell ⟨w.heap.size, 0, none⟩ (.int .i64 1)) := by
            refine KeptS.setCell (KeptS.refl _ _) ?_ _; rfl
          have J2 := (J.frame KB (fun k hk e => nS0 (e ▸ hk)))
          have hrw : r ≠ w.heap.size := fun e => nS0 (e ▸ s1)
          have c3' := KB.cell c3 hrr hrw
          have f3' := KB.frozen f3 hrr hrw
          have C0' := J2.c0
          rw [hmF] at C0'
          have J3 := (J2.into (T := fun k => S k ∧ k ≠ w.heap.size + 1) (fun k hk _ => ⟨hk.1, fun e => nS1 (e ▸ hk)⟩)).put (H := fun _ => False) rfl hiF (some w.heap.size) (1, false, [k0, k1, k2, k3]) (fun _ _ h => h) (fun e => by cases e) (fun b' e => by
            cases e
            refine ⟨BX1, (by show (1 : Int) ≠ 0; decide), ⟨hS _ (Nat.le_refl _), by omega⟩, ?_, hrw, fun hne => ?_, fun a ha hai _ e2 => ?_⟩
            · have := hgl; omega
            · exact fun e => nS0 (e ▸ (J2.blkS hne).1)
            · exact nS0 ((J2.yes a ha (fun x => x) _ e2).2.2.1))
          have KF : KeptS S w ((wr.setCell ⟨w.heap.size, 0, none⟩ (.int .i64 1)).setCell ⟨r, m, none⟩ (.pointer (some ⟨w.heap.size, 0, none⟩))) := by
            refine KeptS.setCell (KeptS.setCell KW (p := ⟨w.heap.size, 0, none⟩) (hS _ (Nat.le_refl _)) _) ?_ _
            exact s1.1
          have HJ3 : Hid _ := J3
          have HKF : Hid _ := KF
          have hr1 : r ≠ w.heap.size + 1 := fun e => nS1 (e ▸ s1)
          have KR : KeptS (fun x => x = r ∨ x = w.heap.size) wr ((wr.setCell ⟨w.heap.size, 0, none⟩ (.int .i64 1)).setCell ⟨r, m, none⟩ (.pointer (some ⟨w.heap.size, 0, none⟩))) := by
            refine KeptS.setCell (KeptS.setCell (KeptS.refl _ _) (p := ⟨w.heap.size, 0, none⟩) (Or.inr rfl) _) ?_ _
            exact Or.inl rfl
          have q0 := KR.cell p0 (by omega) (fun e => by rcases e with e | e <;> omega)
          have q1 := KR.cell p1 (by omega) (fun e => by rcases e with e | e <;> omega)
          have v0 := KR.frozen x0 (by omega) (fun e => by rcases e with e | e <;> omega)
          have v1 := KR.frozen x1 (by omega) (fun e => by rcases e with e | e <;> omega)
          have hsf : ((wr.setCell ⟨w.heap.size, 0, none⟩ (.int .i64 1)).setCell ⟨r, m, none⟩ (.pointer (some ⟨w.heap.size, 0, none⟩))).heap.size = wr.heap.size := by simp
          clear J J2 J3 KF KB KR BX BX1 hF K KW e1 p0 p1 x0 x1 hmF
          go_wp2
          rw [HPO.out, HFF.out]
          refine bodyPost_ret (v := .agg #[.int .i64 0, .int .i64 ((m : Nat) : Int)]) (by simp [results, Try.results212, go_sem, q0, q1]) rfl ⟨rfl, ?_, ?_⟩
          · refine ⟨_, _, _, _, _, (HJ3.out.frame (T := fun x => x = w.heap.size + 1) ?_ (fun k hk e => hk.2 e)).into (fun k hk _ => hk.1)⟩
            refine KeptS.setCell (KeptS.setCell (KeptS.refl _ _) ?_ _) ?_ _ <;> rfl
          · refine KeptS.setCell (KeptS.setCell HKF.out ?_ _) ?_ _ <;> exact hS _ (by simp)

end Go.Proofs.Ytikjndmgljkhhaa

/- Chapter 4: the program lays a block into the leaf of a place. -/
namespace Go.Proofs.Ytikjndmgljkhhaa
open Go.RowKit

def WithRes (S : Nat → Prop) (base g : Nat) (w w' : World) (e : Ending) (r : Int × Int × Fo) : Prop :=
  (r.2.1 ≠ 0 ∧ e = .returned (.agg #[.int .i64 r.2.1, .int .i64 0]) ∧ KeptS S w w') ∨ (r.2.1 = 0 ∧ e = .returned (.agg #[.int .i64 0, .int .i64 r.1]) ∧ GRes S (fun _ => False) base g w w' r.2.2)
def padK (f : Fo) (i : Int) : List Int := if 0 ≤ i then (nodeOf f i.toNat).2.2 else [-1, -1, -1, -1]
theorem kidsAt_all {w : World} {S : Nat → Prop} {base g : Nat} {vn : Value} {ab : Option Addr} {nb cb : Nat} {P : Nat → Option Nat} {f : Fo} (I : GAt w S (fun _ => False) base g vn ab nb cb P f) (i : Int) (hv : i = -1 ∨ (0 ≤ i ∧ (nodeOf f i.toNat).1 ≠ 0)) (a0 a1 a2 a3 : Int) (h : padK f i = [a0, a1, a2, a3]) :
    Calls Try.prog 210 #[.pointer (some ⟨g, 0, none⟩), .int .i64 i] w fun e w' => e = .returned (.agg #[.int .i64 a0, .int .i64 a1, .int .i64 a2, .int .i64 a3]) ∧ Below w.heap.size w w' := by
  rcases hv with rfl | ⟨h0, h1⟩
  · unfold padK at h
    rw [if_neg (by decide)] at h
    simp only [List.cons.injEq, and_true] at h
    obtain ⟨rfl, rfl, rfl, rfl⟩ := h
    exact kidsAt_none g w
  · obtain ⟨n, rfl⟩ : ∃ n : Nat, i = n := ⟨i.toNat, by omega⟩
    unfold padK at h
    rw [if_pos h0] at h
    rw [Int.toNat_natCast] at h h1
    exact kidsAt_is I (live_lt h1) (fun x => x) h1 a0 a1 a2 a3 h
theorem padK_len {f : Fo} (hI : Inv f) {i : Int} (hv : i = -1 ∨ (0 ≤ i ∧ (nodeOf f i.toNat).1 ≠ 0)) : (padK f i).length = 4 := by
  unfold padK
  rcases hv with rfl | ⟨h0, h1⟩
  · rw [if_neg (by decide)]; rfl
  · rw [if_pos h0]; exact (hI.nd _).kl h1
theorem next_pad {f : Fo} {root : Int} {a : Nat} {b : Int} (hA : Ask f root a b) : nextKids f root a b = (padK f (leafAt f root a)).set (a % 4) b := by
  have hl := oldKids_len hA.inv hA.ro hA.at0 hA.at1
  unfold nextKids withKid padK
  unfold oldKids at hl ⊢
  rw [Int.toNat_natCast]
  by_cases h0 : 0 ≤ leafAt f root a
  · rw [if_pos h0] at hl ⊢
    rw [if_pos h0]
    rcases hl with e | e
    · rw [e]; simp
    · rw [e]
      rcases leaf_cases hA.inv hA.ro hA.at0 hA.at1 with e2 | ⟨_, e2, _⟩
      · omega
      · have := (hA.inv.nd _).kl e2; rw [e] at this; simp at this
  · rw [if_neg h0, if_neg h0]; rfl
theorem pad_old {f : Fo} {root : Int} {a : Nat} (h0 : 0 ≤ leafAt f root a) : padK f (leafAt f root a) = oldKids f root a := by
  unfold padK oldKids; rw [if_pos h0, if_pos h0]
theorem leaf_root {f : Fo} {root x : Int} (h : 0 ≤ leafAt f root x) : 0 ≤ root := by
  unfold leafAt at h
  by_cases e : root < 0
  · rw [if_pos e] at h; omega
  · omega
theorem none_eq {a b c d : Int} (h : ∀ p, p < 4 → [a, b, c, d].getD p 0 < 0 → [a, b, c, d].getD p 0 = -1) : (a == -1 && (b == -1 && (c == -1 && d == -1))) = noneOf [a, b, c, d] := by
  have h0 := h 0 (by omega)
  have h1 := h 1 (by omega)
  have h2 := h 2 (by omega)
  have h3 := h 3 (by omega)
  simp at h0 h1 h2 h3
  rw [Bool.eq_iff_iff]
  simp [noneOf]
  omega
theorem plant_leaf_is {f : Fo} {root x b : Int} (h : noneOf (nextKids f root x b) = false) (h2 : ¬ (0 ≤ leafAt f root x ∧ (nodeOf f (leafAt f root x).toNat).1 = 1 ∧ (nodeOf f root.toNat).1 = 1)) : setLeaf f root x b = match plantO f true (nextKids f root x b) (x.toNat % 4) with | none => (-1, 2, f) | some (i, F) => ((i : Int), 0, F) := by
  rw [setLeaf_new h h2]
  unfold plantO
  cases newNd f.1 (1, true, nextKids f root x b) with
  | none => rfl
  | some p =>
    obtain ⟨i, ns⟩ := p
    cases hm : moreKids (ns, f.2) true (nextKids f root x b) (x.toNat % 4) with
    | none => simp [hm]
    | some f2 => simp [hm]
theorem set4_cells (w : World) (a0 a1 a2 a3 b n0 n1 n2 n3 : Int) (s : Nat) (hs : s < 4) (h : [a0, a1, a2, a3].set s b = [n0, n1, n2, n3]) : (w.alloc (.cells ([Value.int .i64 a0, .int .i64 a1, .int .i64 a2, .int .i64 a3].set s (.int .i64 b)).toArray 221)) = w.alloc (.cells #[.int .i64 n0, .int .i64 n1, .int .i64 n2, .int .i64 n3] 221) := by
  rcases (show s = 0 ∨ s = 1 ∨ s = 2 ∨ s = 3 by omega) with rfl | rfl | rfl | rfl <;> (simp at h; obtain ⟨rfl, rfl, rfl, rfl⟩ := h; rfl)
theorem box_kids {w : World} {b : Nat} {nd : Nd} (h : BoxAt w b nd) (n0 n1 n2 n3 : Int) : BoxAt ((((w.setCell ⟨b, 2, none⟩ (.int .i64 n0)).setCell ⟨b, 3, none⟩ (.int .i64 n1)).setCell ⟨b, 4, none⟩ (.int .i64 n2)).setCell ⟨b, 5, none⟩ (.int .i64 n3)) b (nd.1, nd.2.1, [n0, n1, n2, n3]) := by
  obtain ⟨a0, a1, a2, a3, hk⟩ := list4 h.four
  have e : ndc nd = [.int .i64 nd.1, .bool nd.2.1, .int .i64 a0, .int .i64 a1, .int .i64 a2, .int .i64 a3] := by unfold ndc; rw [hk]; rfl
  have h' : RowAt w true b (b + 1) 1 (some ⟨b, 0, none⟩) 6 6 [.int .i64 nd.1, .bool nd.2.1, .int .i64 a0, .int .i64 a1, .int .i64 a2, .int .i64 a3] := e ▸ h
  have := (((h'.stored (i := 2) (by decide) (.int .i64 n0)).stored (i := 3) (by decide) (.int .i64 n1)).stored (i := 4) (by decide) (.int .i64 n2)).stored (i := 5) (by decide) (.int .i64 n3)
  simp only [Nat.zero_add] at this
  exact this
theorem cell4 (w : World) (a0 a1 a2 a3 : Int) (s : Nat) (hs : s < 4) : (w.alloc (.cells #[Value.int .i64 a0, .int .i64 a1, .int .i64 a2, .int .i64 a3] 221)).cell? ⟨w.heap.size, s, none⟩ = some (.int .i64 ([a0, a1, a2, a3].getD s 0)) := by
  rcases (show s = 0 ∨ s = 1 ∨ s = 2 ∨ s = 3 by omega) with rfl | rfl | rfl | rfl <;> simp

set_option maxRecDepth 20000 in
set_option maxHeartbeats 8000000 in
theorem leafWith_is {w : World} {S : Nat → Prop} {base g : Nat} {vn : Value} {ab : Option Addr} {nb cb : Nat} {P : Nat → Option Nat} {f : Fo} (I : GAt w S (fun _ => False) base g vn ab nb cb P f) (hS : ∀ k, w.heap.size ≤ k → S k) (hbase : base ≤ w.heap.size) (root : Int) (a : Nat) (b : Int) (hA : Ask f root a b) (r : Int × Int × Fo) (hr : setLeaf f root a b = r) :
    Calls Try.prog 206 #[.pointer (some ⟨g, 0, none⟩), .int .i64 root, .int .i64 (a : Int), .int .i64 b] w fun e w' => WithRes S base g w w' e r := by
  have B0 : Below w.heap.size w (w.alloc (.cells #[.int .i64 0, .int .i64 0] 40)) := (Below.refl _ _).alloc (Nat.le_refl _) _
  have z0 : (w.alloc (.cells #[.int .i64 0, .int .i64 0] 40)).cell? ⟨w.heap.size, 0, none⟩ = some (.int .i64 0) := by simp
  have z1 : (w.alloc (.cells #[.int .i64 0, .int .i64 0] 40)).cell? ⟨w.heap.size, 1, none⟩ = some (.int .i64 0) := by simp
  have y0 : (w.alloc (.cells #[.int .i64 0, .int .i64 0] 40)).frozen? ⟨w.heap.size, 0, none⟩ = false := by simp
  have y1 : (w.alloc (.cells #[.int .i64 0, .int .i64 0] 40)).frozen? ⟨w.heap.size, 1, none⟩ = false := by simp
  have hz : w.heap.size < (w.alloc (.cells #[.int .i64 0, .int .i64 0] 40)).heap.size := by simp
  have ha : a ≤ 15 := by have := hA.at1; omega
  have hroot : root = -1 ∨ (0 ≤ root ∧ (nodeOf f root.toNat).1 ≠ 0) := hA.ro.imp id fun e => ⟨e.1, e.2.1⟩
  have hleaf : leafAt f root a = -1 ∨ (0 ≤ leafAt f root a ∧ (nodeOf f (leafAt f root a).toNat).1 ≠ 0) := (leaf_cases hA.inv hA.ro hA.at0 hA.at1).imp id fun e => ⟨e.1, e.2.1⟩
  have hlc := leaf_cases hA.inv hA.ro hA.at0 hA.at1
  obtain ⟨r0, r1, r2, r3, hrk⟩ := list4 (padK_len hA.inv hroot)
  obtain ⟨a0, a1, a2, a3, hak⟩ := list4 (padK_len hA.inv hleaf)
  have hnx := next_pad hA
  obtain ⟨n0, n1, n2, n3, hnk⟩ := list4 (show ((padK f (leafAt f root a)).set (a % 4) b).length = 4 by rw [List.length_set]; exact padK_len hA.inv hleaf)
  have hlf : [r0, r1, r2, r3].getD (a / 4) 0 = leafAt f root a := by
    rw [← hrk]
    unfold padK leafAt
    by_cases e : 0 ≤ root
    · rw [if_pos e, if_neg (by omega), Int.toNat_natCast]
    · rw [if_neg e, if_pos (by omega)]
      rcases (show a / 4 = 0 ∨ a / 4 = 1 ∨ a / 4 = 2 ∨ a / 4 = 3 by omega) with h | h | h | h <;> rw [h] <;> rfl
  have hng : ∀ p, p < 4 → [n0, n1, n2, n3].getD p 0 < 0 → [n0, n1, n2, n3].getD p 0 = -1 := fun p hp h0 => by
    rw [← hnk] at h0 ⊢
    by_cases e : p = a % 4
    · subst e
      have : ((padK f (leafAt f root a)).set (a % 4) b).getD (a % 4) 0 = b := by rw [hak]; simp [List.getD, hp]
      rw [this] at h0 ⊢
      rcases hA.bb with e | e <;> omega
    · have : ((padK f (leafAt f root a)).set (a % 4) b).getD p 0 = (padK f (leafAt f root a)).getD p 0 := by rw [List.getD_eq_getElem?_getD, List.getElem?_set_ne (Ne.symm e), ← List.getD_eq_getElem?_getD]
      rw [this] at h0 ⊢
      rcases hleaf with e1 | e1
      · unfold padK; rw [if_neg (by omega)]; rcases (show p = 0 ∨ p = 1 ∨ p = 2 ∨ p = 3 by omega) with rfl | rfl | rfl | rfl <;> rfl
      · rw [pad_old e1.1] at h0 ⊢
        have hm := getD_four (ks := oldKids f root a) (by rw [← pad_old e1.1]; exact padK_len hA.inv (Or.inr e1)) hp
        rcases oldKids_live hA.inv hA.ro hA.at0 hA.at1 hm with e2 | e2 <;> omega
  have hlv : ∀ p, p < 4 → p = a % 4 ∨ ([n0, n1, n2, n3].getD p 0 < 0 ∨ (blockOf f ([n0, n1, n2, n3].getD p 0).toNat).1 ≠ 0) := fun p hp => by
    by_cases e : p = a % 4
    · exact Or.inl e
    · right
      rw [← hnk]
      have : ((padK f (leafAt f root a)).set (a % 4) b).getD p 0 = (padK f (leafAt f root a)).getD p 0 := by rw [List.getD_eq_getElem?_getD, List.getElem?_set_ne (Ne.symm e), ← List.getD_eq_getElem?_getD]
      rw [this]
      rcases hleaf with e1 | e1
      · left; unfold padK; rw [if_neg (by omega)]; rcases (show p = 0 ∨ p = 1 ∨ p = 2 ∨ p = 3 by omega) with rfl | rfl | rfl | rfl <;> decide
      · rw [pad_old e1.1]
        have hm := getD_four (ks := oldKids f root a) (by rw [← pad_old e1.1]; exact padK_len hA.inv (Or.inr e1)) hp
        rcases oldKids_live hA.inv hA.ro hA.at0 hA.at1 hm with e2 | e2
        · left; omega
        · exact Or.inr e2.2
  rw [hnk] at hnx
  have hqe := none_eq hng
  obtain ⟨qn, hqn⟩ : ∃ q, noneOf [n0, n1, n2, n3] = q := ⟨_, rfl⟩
  rw [hqn] at hqe
  have heq : ∀ W, (Op.equalIn 10000 221 (.agg #[.int .i64 n0, .int .i64 n1, .int .i64 n2, .int .i64 n3]) (.agg #[.int .i64 (-1), .int .i64 (-1), .int .i64 (-1), .int .i64 (-1)])).run Try.prog W = .ok qn W := fun W => by rw [eqKids, hqe]
  obtain ⟨y, hy⟩ : ∃ y, leafAt f root a = y := ⟨_, rfl⟩
  obtain ⟨s, hs⟩ : ∃ s, a % 4 = s := ⟨_, rfl⟩
  have hs4 : s < 4 := by omega
  have hq4 : a / 4 < 4 := by omega
  obtain ⟨q, hqq⟩ : ∃ q, a / 4 = q := ⟨_, rfl⟩
  have hix := idx_run r0 r1 r2 r3 q (by omega)
  rw [← hqq, hlf, hy, hqq] at hix
  have hdiv : (a : Int) / 4 = (q : Int) := by omega
  have hq4i : (q : Int) < 4 := by omega
  clear hqq hq4
  have hrem : (a : Int) % 4 = (s : Int) := by omega
  have hsi : (s : Int) < 4 := by omega
  rw [hs] at hnk hlv
  rw [hy] at hleaf hak hnk hlc
  rw [hak] at hnk
  have HN : Hid _ := hnx
  have HQ : Hid _ := hqn
  have HA : Hid _ := hA
  have HY : Hid _ := hy
  have HSS : Hid _ := hs
  have HR : Hid _ := hr
  have HRK : Hid _ := hrk
  have HAK : Hid _ := hak
  have HNK : Hid _ := hnk
  have HNG : Hid _ := hng
  have HLV : Hid _ := hlv
  have HLF : Hid _ := hleaf
  have HRO : Hid _ := hroot
  have HLC : Hid _ := hlc
  have HI : Hid _ := I
  have hgl := I.hg.2
  clear hnx hqn hA hy hs hr hrk hak hnk hng hlv hleaf hroot hlf hqe I hlc
  go_enter Try.func206, Try.ntmps206
  go_wp2_with fail
  refine (kidsAt_all (HI.out.below B0) root HRO.out r0 r1 r2 r3 HRK.out).mono ?_
  rintro e w1 ⟨rfl, hb1⟩
  have B1 := below_next B0 hb1
  replace z0 := cell_later hb1 z0
  replace z1 := cell_later hb1 z1
  replace y0 := frozen_later hb1 hz y0
  replace y1 := frozen_later hb1 hz y1
  replace hz := Nat.lt_of_lt_of_le hz hb1.size
  clear hb1 B0
  go_wp2_with fail
  refine (kidsAt_all (HI.out.below B1) y HLF.out a0 a1 a2 a3 HAK.out).mono ?_
  rintro e w2 ⟨rfl, hb2⟩
  have B2 := below_next B1 hb2
  replace z0 := cell_later hb2 z0
  replace z1 := cell_later hb2 z1
  replace y0 := frozen_later hb2 hz y0
  replace y1 := frozen_later hb2 hz y1
  replace hz := Nat.lt_of_lt_of_le hz hb2.size
  clear hb2 B1
  have cA := cell4 w2 a0 a1 a2 a3 s hs4
  have fA : (w2.alloc (.cells #[.int .i64 a0, .int .i64 a1, .int .i64 a2, .int .i64 a3] 221)).frozen? ⟨w2.heap.size, s, none⟩ = false := by simp
  have hset := set4_cells w2 a0 a1 a2 a3 b n0 n1 n2 n3 s hs4 HNK.out
  have AN : Below w2.heap.size w2 (w2.alloc (.cells #[.int .i64 n0, .int .i64 n1, .int .i64 n2, .int .i64 n3] 221)) := (Below.refl _ _).alloc (Nat.le_refl _) _
  have N0 : (w2.alloc (.cells #[.int .i64 n0, .int .i64 n1, .int .i64 n2, .int .i64 n3] 221)).cell? ⟨w2.heap.size, 0, none⟩ = some (.int .i64 n0) := by simp
  have N1 : (w2.alloc (.cells #[.int .i64 n0, .int .i64 n1, .int .i64 n2, .int .i64 n3] 221)).cell? ⟨w2.heap.size, 1, none⟩ = some (.int .i64 n1) := by simp
  have N2 : (w2.alloc (.cells #[.int .i64 n0, .int .i64 n1, .int .i64 n2, .int .i64 n3] 221)).cell? ⟨w2.heap.size, 2, none⟩ = some (.int .i64 n2) := by simp
  have N3 : (w2.alloc (.cells #[.int .i64 n0, .int .i64 n1, .int .i64 n2, .int .i64 n3] 221)).cell? ⟨w2.heap.size, 3, none⟩ = some (.int .i64 n3) := by simp
  replace z0 := cell_later AN z0
  replace z1 := cell_later AN z1
  replace y0 := frozen_later AN hz y0
  replace y1 := frozen_later AN hz y1
  have hA1 : w2.heap.size < (w2.alloc (.cells #[.int .i64 n0, .int .i64 n1, .int .i64 n2, .int .i64 n3] 221)).heap.size := by simp
  have hA2 : (w2.alloc (.cells #[.int .i64 n0, .int .i64 n1, .int .i64 n2, .int .i64 n3] 221)).heap.size = w2.heap.size + 1 := by simp
  have hzz := Nat.lt_of_lt_of_le hz AN.size
  have B3 := below_next B2 AN
  obtain ⟨bf, hbf⟩ : ∃ x, [a0, a1, a2, a3].getD s 0 = x := ⟨_, rfl⟩
  rw [hbf] at cA
  have HBF : Hid _ := hbf
  clear hbf
  go_wp2_with fail
  generalize hW3 : w2.alloc (.cells #[.int .i64 n0, .int .i64 n1, .int .i64 n2, .int .i64 n3] 221) = W3 at *
  clear hW3 cA fA hset AN
  go_region_held3 (fun w' => w'.cell? ⟨w2.heap.size, 0, none⟩ = some (.int .i64 n0) ∧ w'.cell? ⟨w2.heap.size, 1, none⟩ = some (.int .i64 n1) ∧ w'.cell? ⟨w2.heap.size, 2, none⟩ = some (.int .i64 n2) ∧ w'.cell? ⟨w2.heap.size, 3, none⟩ = some (.int .i64 n3)) (exact ⟨N0, N1, N2, N3⟩) (first | (go_at_call 183; refine (noKids_is _).mono ?_; rintro e w4 ⟨rfl, hb0⟩; have hb4 := drew_next hb0; clear hb0; replace N0 := cell_later hb4 N0; replace N1 := cell_later hb4 N1; replace N2 := cell_later hb4 N2; replace N3 := cell_later hb4 N3; replace z0 := cell_later hb4 z0; replace z1 := cell_later hb4 z1; replace y0 := frozen_later hb4 hzz y0; replace y1 := frozen_later hb4 hzz y1; replace hzz := Nat.lt_of_lt_of_le hzz hb4.size; have B4 := below_next B3 hb4; have hs4w : w2.heap.size + 1 ≤ w4.heap.size := by (have := hb4.size; omega)))
  all_goals (
    clear hb4 B3 B2
    cases qn with
    | true =>
      have HRR : Hid ((-1, 0, f) = r) := by show _ = _; rw [← HR.out]; exact (setLeaf_none (by rw [HN.out]; exact HQ.out)).symm
      have HJ : Hid (GAt w4 (fun k => S k ∧ (k < w.heap.size ∨ w2.heap.size + 1 ≤ k)) (fun _ => False) base g vn ab nb cb P f) := (HI.out.into (fun k hk hl => ⟨hk, Or.inl hl⟩)).below B4
      go_wp2
      rw [← HRR.out]
      refine bodyPost_ret (v := .agg #[.int .i64 0, .int .i64 (-1)]) (by simp [results, Try.results206, go_sem, z0, z1]) rfl (Or.inr ⟨rfl, rfl, ⟨_, _, _, _, _, (HJ.out.frame (T := fun x => x = w.heap.size) ?_ (fun k hk e => by rcases hk.2 with h | h <;> omega)).into (fun k hk _ => hk.1)⟩, ?_⟩)
      · refine KeptS.setCell (KeptS.setCell (KeptS.refl _ _) ?_ _) ?_ _ <;> rfl
      · refine KeptS.setCell (KeptS.setCell (KeptS.below B4) ?_ _) ?_ _ <;> exact hS _ (Nat.le_refl _)
    | false =>
      have HJ : Hid (GAt w4 (fun k => S k ∧ (k < w.heap.size ∨ w2.heap.size + 1 ≤ k)) (fun _ => False) base g vn ab nb cb P f) := (HI.out.into (fun k hk hl => ⟨hk, Or.inl hl⟩)).below B4
      have hT : ∀ k, w4.heap.size ≤ k → (fun k => S k ∧ (k < w.heap.size ∨ w2.heap.size + 1 ≤ k)) k := fun k hk => ⟨hS k (by omega), Or.inr (by omega)⟩
      have nT : ¬ (fun k => S k ∧ (k < w.heap.size ∨ w2.heap.size + 1 ≤ k)) w.heap.size := fun e => by rcases e.2 with h | h <;> omega
      have nA : ¬ (fun k => S k ∧ (k < w.heap.size ∨ w2.heap.size + 1 ≤ k)) w2.heap.size := fun e => by rcases e.2 with h | h <;> omega
      have hbase4 : base ≤ w4.heap.size := by omega
      have HOR : Hid (root = -1 ∨ (0 ≤ root ∧ root.toNat < f.1.length ∧ ¬ (fun _ : Nat => False) root.toNat ∧ (nodeOf f root.toNat).1 ≠ 0)) := HRO.out.imp id fun e => ⟨e.1, live_lt e.2, fun x => x, e.2⟩
      have HOY : Hid (y = -1 ∨ (0 ≤ y ∧ y.toNat < f.1.length ∧ ¬ (fun _ : Nat => False) y.toNat ∧ (nodeOf f y.toNat).1 ≠ 0)) := HLF.out.imp id fun e => ⟨e.1, live_lt e.2, fun x => x, e.2⟩
      have HNF : Hid (noneOf (nextKids f root a b) = false) := by show _ = _; rw [HN.out]; exact HQ.out
      have plantWay : ∀ (h2 : ¬ (0 ≤ leafAt f root a ∧ (nodeOf f (leafAt f root a).toNat).1 = 1 ∧ (nodeOf f root.toNat).1 = 1)), r = match plantO f true [n0, n1, n2, n3] s with | none => (-1, 2, f) | some (i, F) => ((i : Int), 0, F) := fun h2 => by
        rw [← HR.out, plant_leaf_is HNF.out h2, HN.out, Int.toNat_natCast, HSS.out]
      have HPW : Hid _ := plantWay
      clear plantWay
      by_cases hown : (0 ≤ root ∧ (nodeOf f root.toNat).1 = 1) ∧ (0 ≤ y ∧ (nodeOf f y.toNat).1 = 1)
      · obtain ⟨ho1, ho2⟩ := hown
        have HO1 : Hid _ := decide_eq_true ho1
        have HO2 : Hid _ := decide_eq_true ho2
        have HRS := setLeaf_same (b := b) HNF.out (by rw [HY.out]; exact ⟨ho2.1, ho2.2, ho1.2⟩)
        rw [HR.out, HY.out, Int.toNat_natCast, HSS.out, HN.out] at HRS
        obtain ⟨ly, rfl⟩ : ∃ n : Nat, y = n := ⟨y.toNat, by omega⟩
        have hold : oldKids f root a = [a0, a1, a2, a3] := by rw [← pad_old (by rw [HY.out]; exact ho2.1), HY.out]; exact HAK.out
        rw [hold, HBF.out, Int.toNat_natCast] at HRS
        have hlyl : ly < f.1.length := by have := (HLF.out.resolve_left (by omega)).2; rw [Int.toNat_natCast] at this; exact live_lt this
        have hly0 : (nodeOf f ly).1 ≠ 0 := by have := ho2.2; rw [Int.toNat_natCast] at this; omega
        have hbk : bf = -1 ∨ (0 ≤ bf ∧ (blockOf f bf.toNat).1 ≠ 0) := oldKids_live HA.out.inv HA.out.ro HA.out.at0 HA.out.at1 (by rw [hold, ← HBF.out]; exact getD_four (by simp) hs4)
        have HRR : Hid _ := HRS
        clear ho1 ho2 hold HRS HPW
        go_wp2_with fail
        refine (isOwn_is HJ.out root HOR.out true HO1.out).mono ?_
        rintro e w4 ⟨rfl, rfl⟩
        go_wp2_with fail
        refine (isOwn_is HJ.out (ly : Int) HOY.out true HO2.out).mono ?_
        rintro e w4 ⟨rfl, rfl⟩
        go_wp2_with fail
        have DK : Calls Try.prog 208 #[.pointer (some ⟨g, 0, none⟩), .bool true, .int .i64 bf] w4 fun e w' => (∃ v, e = .returned v) ∧ GRes (fun k => S k ∧ (k < w.heap.size ∨ w2.heap.size + 1 ≤ k)) (fun _ => False) base g w4 w' (f.1, if 0 ≤ bf then lessB f.2 bf.toNat else f.2) := by
          rcases hbk with e | ⟨e1, e2⟩
          · rw [e, if_neg (by omega)]
            refine (dropKid_none g true w4).mono ?_
            rintro e w' ⟨h1, rfl⟩
            exact ⟨h1, ⟨_, _, _, _, _, HJ.out⟩, KeptS.refl _ _⟩
          · obtain ⟨n, rfl⟩ : ∃ n : Nat, bf = n := ⟨bf.toNat, by omega⟩
            rw [if_pos e1, Int.toNat_natCast]
            rw [Int.toNat_natCast] at e2
            exact dropKid_block HJ.out hT hbase4 HA.out.inv.nb HA.out.inv.bk n (liveB_lt e2) e2
        refine DK.mono ?_
        rintro e w5 ⟨⟨v, rfl⟩, ⟨vn5, ab5, nb5, cb5, P5, J5⟩, K5⟩
        generalize (if 0 ≤ bf then lessB f.2 bf.toNat else f.2) = bs5 at *
        obtain ⟨rr, cap, bx, rfl, hpb, e1, hrr, hbx, BX, d1, d2, d3, d4, d5⟩ := J5.live (i := ly) hlyl (fun x => x) hly0
        have C0 := J5.c0
        obtain ⟨m, hm⟩ : ∃ m, f.1.length = m := ⟨_, rfl⟩
        have HM : Hid _ := hm
        rw [show (f.1, bs5).1.length = m from hm] at C0
        have hlym : ly < m := by omega
        have hlyi : (ly : Int) < (m : Int) := by omega
        replace N0 := K5.cell N0 (by omega) nA
        replace N1 := K5.cell N1 (by omega) nA
        replace N2 := K5.cell N2 (by omega) nA
        replace N3 := K5.cell N3 (by omega) nA
        replace z0 := K5.cell z0 hzz nT
        replace z1 := K5.cell z1 hzz nT
        replace y0 := K5.frozen y0 hzz nT
        replace y1 := K5.frozen y1 hzz nT
        have hs5 := K5.size
        obtain ⟨-, -, kc, kf⟩ := BX.cell
        have k2 := kc 0 (by omega)
        have k3 := kc 1 (by omega)
        have k4 := kc 2 (by omega)
        have k5 := kc 3 (by omega)
        simp only [Nat.add_zero, Nat.reduceAdd] at k2 k3 k4 k5
        have f2 := kf 2 (by omega)
        have f3 := kf 3 (by omega)
        have f4 := kf 4 (by omega)
        have f5 := kf 5 (by omega)
        have BXN := box_kids BX n0 n1 n2 n3
        have KBX : KeptS (fun x => x = bx) w5 ((((w5.setCell ⟨bx, 2, none⟩ (.int .i64 n0)).setCell ⟨bx, 3, none⟩ (.int .i64 n1)).setCell ⟨bx, 4, none⟩ (.int .i64 n2)).setCell ⟨bx, 5, none⟩ (.int .i64 n3)) := by
          refine KeptS.setCell (KeptS.setCell (KeptS.setCell (KeptS.setCell (KeptS.refl _ _) ?_ _) ?_ _) ?_ _) ?_ _ <;> rfl
        have J6 := J5.box hlyl (fun x => x) hpb KBX (by simp) BXN hly0
        have hAb : w2.heap.size ≠ bx := fun e => nA (e ▸ d5)
        have hwb : w.heap.size ≠ bx := fun e => nT (e ▸ d5)
        have q0 := KBX.cell N0 (by omega) hAb
        have q1 := KBX.cell N1 (by omega) hAb
        have q2 := KBX.cell N2 (by omega) hAb
        have q3 := KBX.cell N3 (by omega) hAb
        have qc := KBX.cell C0 (J5.hg.2) (Ne.symm d2)
        have qe := KBX.cell e1 hrr d3
        have p0 := KBX.cell z0 (by omega) hwb
        have p1 := KBX.cell z1 (by omega) hwb
        have x0 := KBX.frozen y0 (by omega) hwb
        have x1 := KBX.frozen y1 (by omega) hwb
        have KF : KeptS S w ((((w5.setCell ⟨bx, 2, none⟩ (.int .i64 n0)).setCell ⟨bx, 3, none⟩ (.int .i64 n1)).setCell ⟨bx, 4, none⟩ (.int .i64 n2)).setCell ⟨bx, 5, none⟩ (.int .i64 n3)) := ((KeptS.below B4).trans (K5.mono fun k hk => hk.1)).trans (KBX.mono fun k e => e ▸ d5.1)
        have HJ6 : Hid _ := J6
        have HKF : Hid _ := KF
        clear J5 K5 J6 KF BX BXN DK hbk kc kf hm
        go_wp2_with fail
        go_region_held3 (fun w' => w'.cell? ⟨g, 0, none⟩ = some (.slice (some ⟨rr, 0, none⟩) m cap) ∧ w'.cell? ⟨rr, ly, none⟩ = some (.pointer (some ⟨bx, 0, none⟩)) ∧ w'.cell? ⟨w2.heap.size, 0, none⟩ = some (.int .i64 n0) ∧ w'.cell? ⟨w2.heap.size, 1, none⟩ = some (.int .i64 n1) ∧ w'.cell? ⟨w2.heap.size, 2, none⟩ = some (.int .i64 n2) ∧ w'.cell? ⟨w2.heap.size, 3, none⟩ = some (.int .i64 n3)) (first | exact ⟨C0, e1, N0, N1, N2, N3⟩ | exact ⟨qc, qe, q0, q1, q2, q3⟩) (fail)
        have DR : Below ((((w5.setCell ⟨bx, 2, none⟩ (.int .i64 n0)).setCell ⟨bx, 3, none⟩ (.int .i64 n1)).setCell ⟨bx, 4, none⟩ (.int .i64 n2)).setCell ⟨bx, 5, none⟩ (.int .i64 n3)).heap.size ((((w5.setCell ⟨bx, 2, none⟩ (.int .i64 n0)).setCell ⟨bx, 3, none⟩ (.int .i64 n1)).setCell ⟨bx, 4, none⟩ (.int .i64 n2)).setCell ⟨bx, 5, none⟩ (.int .i64 n3)) ((((w5.setCell ⟨bx, 2, none⟩ (.int .i64 n0)).setCell ⟨bx, 3, none⟩ (.int .i64 n1)).setCell ⟨bx, 4, none⟩ (.int .i64 n2)).setCell ⟨bx, 5, none⟩ (.int .i64 n3)).drew := (Below.refl _ _).drew
        have hsx : w.heap.size < ((((w5.setCell ⟨bx, 2, none⟩ (.int .i64 n0)).setCell ⟨bx, 3, none⟩ (.int .i64 n1)).setCell ⟨bx, 4, none⟩ (.int .i64 n2)).setCell ⟨bx, 5, none⟩ (.int .i64 n3)).heap.size := by simp; omega
        replace p0 := cell_later DR p0
        replace p1 := cell_later DR p1
        replace x0 := frozen_later DR hsx x0
        replace x1 := frozen_later DR hsx x1
        have J7 := HJ6.out.below DR
        have K7 := HKF.out.trans (KeptS.below DR)
        have HJ7 : Hid _ := J7
        have HK7 : Hid _ := K7
        clear J7 K7 DR hsx C0 e1 N0 N1 N2 N3 qc qe q0 q1 q2 q3 HJ6 HKF k2 k3 k4 k5 f2 f3 f4 f5 KBX
        generalize ((((w5.setCell ⟨bx, 2, none⟩ (.int .i64 n0)).setCell ⟨bx, 3, none⟩ (.int .i64 n1)).setCell ⟨bx, 4, none⟩ (.int .i64 n2)).setCell ⟨bx, 5, none⟩ (.int .i64 n3)).drew = w6 at *
        go_wp2
        rw [HRR.out]
        refine bodyPost_ret (v := .agg #[.int .i64 0, .int .i64 (ly : Int)]) (by simp [results, Try.results206, go_sem, p0, p1]) rfl (Or.inr ⟨rfl, rfl, ⟨_, _, _, _, _, (HJ7.out.frame (T := fun x => x = w.heap.size) ?_ (fun k hk e => by rcases hk.2 with h | h <;> omega)).into (fun k hk _ => hk.1)⟩, ?_⟩)
        · refine KeptS.setCell (KeptS.setCell (KeptS.refl _ _) ?_ _) ?_ _ <;> rfl
        · refine KeptS.setCell (KeptS.setCell HK7.out ?_ _) ?_ _ <;> exact hS _ (Nat.le_refl _)
      · have HRP : Hid _ := HPW.out (fun e => hown ⟨⟨leaf_root e.1, e.2.2⟩, by rw [HY.out] at e; exact ⟨e.1, e.2.1⟩⟩)
        clear HPW
        by_cases ho1 : 0 ≤ root ∧ (nodeOf f root.toNat).1 = 1
        · have HO1 : Hid _ := decide_eq_true ho1
          have HO2 : Hid (decide (0 ≤ y ∧ (nodeOf f y.toNat).1 = 1) = false) := decide_eq_false (fun e => hown ⟨ho1, e⟩)
          clear hown ho1
          go_wp2_with fail
          refine (isOwn_is HJ.out root HOR.out true HO1.out).mono ?_
          rintro e w4 ⟨rfl, rfl⟩
          go_wp2_with fail
          refine (isOwn_is HJ.out y HOY.out false HO2.out).mono ?_
          rintro e w4 ⟨rfl, rfl⟩
          go_wp2_with fail
          refine (plant_leaf HJ.out hT hbase4 HA.out.inv n0 n1 n2 n3 s (fun p hp => Or.inr (HNG.out p hp)) HLV.out).mono ?_
          rintro e w5 hres
          cases hpo : plantO f true [n0, n1, n2, n3] s with
          | none =>
            rw [hpo] at hres
            obtain ⟨rfl, K5⟩ := hres
            have HRR : Hid ((-1, 2, f) = r) := by show _ = _; rw [HRP.out, hpo]
            replace z0 := K5.cell z0 hzz nT
            replace z1 := K5.cell z1 hzz nT
            replace y0 := K5.frozen y0 hzz nT
            replace y1 := K5.frozen y1 hzz nT
            have HK5 : Hid _ := (KeptS.below B4).trans (K5.mono fun k hk => hk.1)
            clear hpo K5 N0 N1 N2 N3
            go_wp2
            rw [← HRR.out]
            refine bodyPost_ret (v := .agg #[.int .i64 2, .int .i64 0]) (by simp [results, Try.results206, go_sem, z0, z1]) rfl (Or.inl ⟨(by show (2 : Int) ≠ 0; decide), rfl, ?_⟩)
            refine KeptS.setCell (KeptS.setCell HK5.out ?_ _) ?_ _ <;> exact hS _ (Nat.le_refl _)
          | some p =>
            obtain ⟨i, F⟩ := p
            rw [hpo] at hres
            obtain ⟨rfl, ⟨vn5, ab5, nb5, cb5, P5, J5⟩, K5⟩ := hres
            have HRR : Hid (((i : Int), 0, F) = r) := by show _ = _; rw [HRP.out, hpo]
            replace z0 := K5.cell z0 hzz nT
            replace z1 := K5.cell z1 hzz nT
            replace y0 := K5.frozen y0 hzz nT
            replace y1 := K5.frozen y1 hzz nT
            have HK5 : Hid _ := (KeptS.below B4).trans (K5.mono fun k hk => hk.1)
            have HJ5 : Hid _ := J5
            clear hpo K5 J5 N0 N1 N2 N3
            go_wp2
            rw [← HRR.out]
            refine bodyPost_ret (v := .agg #[.int .i64 0, .int .i64 (i : Int)]) (by simp [results, Try.results206, go_sem, z0, z1]) rfl (Or.inr ⟨rfl, rfl, ⟨_, _, _, _, _, (HJ5.out.frame (T := fun x => x = w.heap.size) ?_ (fun k hk e => by rcases hk.2 with h | h <;> omega)).into (fun k hk _ => hk.1)⟩, ?_⟩)
            · refine KeptS.setCell (KeptS.setCell (KeptS.refl _ _) ?_ _) ?_ _ <;> rfl
            · refine KeptS.setCell (KeptS.setCell HK5.out ?_ _) ?_ _ <;> exact hS _ (Nat.le_refl _)
        · have HO1 : Hid _ := decide_eq_false ho1
          clear hown ho1
          go_wp2_with fail
          refine (isOwn_is HJ.out root HOR.out false HO1.out).mono ?_
          rintro e w4 ⟨rfl, rfl⟩
          go_wp2_with fail
          refine (plant_leaf HJ.out hT hbase4 HA.out.inv n0 n1 n2 n3 s (fun p hp => Or.inr (HNG.out p hp)) HLV.out).mono ?_
          rintro e w5 hres
          cases hpo : plantO f true [n0, n1, n2, n3] s with
          | none =>
            rw [hpo] at hres
            obtain ⟨rfl, K5⟩ := hres
            have HRR : Hid ((-1, 2, f) = r) := by show _ = _; rw [HRP.out, hpo]
            replace z0 := K5.cell z0 hzz nT
            replace z1 := K5.cell z1 hzz nT
            replace y0 := K5.frozen y0 hzz nT
            replace y1 := K5.frozen y1 hzz nT
            have HK5 : Hid _ := (KeptS.below B4).trans (K5.mono fun k hk => hk.1)
            clear hpo K5 N0 N1 N2 N3
            go_wp2
            rw [← HRR.out]
            refine bodyPost_ret (v := .agg #[.int .i64 2, .int .i64 0]) (by simp [results, Try.results206, go_sem, z0, z1]) rfl (Or.inl ⟨(by show (2 : Int) ≠ 0; decide), rfl, ?_⟩)
            refine KeptS.setCell (KeptS.setCell HK5.out ?_ _) ?_ _ <;> exact hS _ (Nat.le_refl _)
          | some p =>
            obtain ⟨i, F⟩ := p
            rw [hpo] at hres
            obtain ⟨rfl, ⟨vn5, ab5, nb5, cb5, P5, J5⟩, K5⟩ := hres
            have HRR : Hid (((i : Int), 0, F) = r) := by show _ = _; rw [HRP.out, hpo]
            replace z0 := K5.cell z0 hzz nT
            replace z1 := K5.cell z1 hzz nT
            replace y0 := K5.frozen y0 hzz nT
            replace y1 := K5.frozen y1 hzz nT
            have HK5 : Hid _ := (KeptS.below B4).trans (K5.mono fun k hk => hk.1)
            have HJ5 : Hid _ := J5
            clear hpo K5 J5 N0 N1 N2 N3
            go_wp2
            rw [← HRR.out]
            refine bodyPost_ret (v := .agg #[.int .i64 0, .int .i64 (i : Int)]) (by simp [results, Try.results206, go_sem, z0, z1]) rfl (Or.inr ⟨rfl, rfl, ⟨_, _, _, _, _, (HJ5.out.frame (T := fun x => x = w.heap.size) ?_ (fun k hk e => by rcases hk.2 with h | h <;> omega)).into (fun k hk _ => hk.1)⟩, ?_⟩)
            · refine KeptS.setCell (KeptS.setCell (KeptS.refl _ _) ?_ _) ?_ _ <;> rfl
            · refine KeptS.setCell (KeptS.setCell HK5.out ?_ _) ?_ _ <;> exact hS _ (Nat.le_refl _))

end Go.Proofs.Ytikjndmgljkhhaa

/- Chapter 4: the program lays a leaf into the root. -/
namespace Go.Proofs.Ytikjndmgljkhhaa
open Go.RowKit

theorem nextL_pad {f : Fo} {root : Int} {a : Nat} {L : Int} (hA : AskR f root a L) : nextLeaves f root a L = (padK f root).set (a / 4) L := by
  unfold nextLeaves withKid padK
  have hl := rootKids_len hA.inv hA.ro
  unfold rootKids at hl ⊢
  rw [Int.toNat_natCast]
  by_cases h0 : 0 ≤ root
  · rw [if_pos h0] at hl ⊢
    rw [if_pos h0]
    have h4 := (hA.inv.nd root.toNat).kl (hA.ro.resolve_left (by omega)).2.1
    rw [h4]; simp
  · rw [if_neg h0, if_neg h0]; rfl
theorem plant_root_is {f : Fo} {root x L : Int} (h : noneOf (nextLeaves f root x L) = false) (h2 : ¬ (0 ≤ root ∧ (nodeOf f root.toNat).1 = 1)) : setRoot f root x L = match plantO f false (nextLeaves f root x L) (x.toNat / 4) with | none => (-1, 2, f) | some (i, F) => ((i : Int), 0, if 0 ≤ root then lessRoot F root.toNat else F) := by
  rw [setRoot_new h h2]
  unfold plantO
  cases newNd f.1 (1, false, nextLeaves f root x L) with
  | none => rfl
  | some p =>
    obtain ⟨i, ns⟩ := p
    cases hm : moreKids (ns, f.2) false (nextLeaves f root x L) (x.toNat / 4) with
    | none => simp [hm]
    | some f2 => simp [hm]
theorem plant_rootP {f : Fo} {root x L : Int} (h : AskR f root x L) (hn : noneOf (nextLeaves f root x L) = false) (h2 : ¬ (0 ≤ root ∧ (nodeOf f root.toNat).1 = 1)) {i : Nat} {F : Fo} (hp : plantO f false (nextLeaves f root x L) (x.toNat / 4) = some (i, F)) {r : Nat} (hr : root = r) : RootP F r := by
  unfold plantO at hp
  cases hw : newNd f.1 (1, false, nextLeaves f root x L) with
  | none => rw [hw] at hp; cases hp
  | some p =>
    obtain ⟨j, ns⟩ := p
    rw [hw] at hp
    simp only [Option.bind_some] at hp
    cases hm : moreKids (ns, f.2) false (nextLeaves f root x L) (x.toNat / 4) with
    | none => rw [hm] at hp; cases hp
    | some f2 =>
      rw [hm] at hp
      simp only [Option.map_some, Option.some.injEq, Prod.mk.injEq] at hp
      obtain ⟨rfl, rfl⟩ := hp
      exact new_lessP h hn h2 hw hm hr

set_option maxRecDepth 20000 in
set_option maxHeartbeats 8000000 in
theorem rootWith_is {w : World} {S : Nat → Prop} {base g : Nat} {vn : Value} {ab : Option Addr} {nb cb : Nat} {P : Nat → Option Nat} {f : Fo} (I : GAt w S (fun _ => False) base g vn ab nb cb P f) (hS : ∀ k, w.heap.size ≤ k → S k) (hbase : base ≤ w.heap.size) (root : Int) (a q : Nat) (L : Int) (hq : a / 4 = q) (hA : AskR f root a L) (hL : L = -1 → 0 ≤ root) (r : Int × Int × Fo) (hr : setRoot f root a L = r) :
    Calls Try.prog 207 #[.pointer (some ⟨g, 0, none⟩), .int .i64 root, .int .i64 (q : Int), .int .i64 L] w fun e w' => WithRes S base g w w' e r := by
  have B0 : Below w.heap.size w (w.alloc (.cells #[.int .i64 0, .int .i64 0] 40)) := (Below.refl _ _).alloc (Nat.le_refl _) _
  have z0 : (w.alloc (.cells #[.int .i64 0, .int .i64 0] 40)).cell? ⟨w.heap.size, 0, none⟩ = some (.int .i64 0) := by simp
  have z1 : (w.alloc (.cells #[.int .i64 0, .int .i64 0] 40)).cell? ⟨w.heap.size, 1, none⟩ = some (.int .i64 0) := by simp
  have y0 : (w.alloc (.cells #[.int .i64 0, .int .i64 0] 40)).frozen? ⟨w.heap.size, 0, none⟩ = false := by simp
  have y1 : (w.alloc (.cells #[.int .i64 0, .int .i64 0] 40)).frozen? ⟨w.heap.size, 1, none⟩ = false := by simp
  have hz : w.heap.size < (w.alloc (.cells #[.int .i64 0, .int .i64 0] 40)).heap.size := by simp
  have ha : a ≤ 15 := by have := hA.at1; omega
  have hroot : root = -1 ∨ (0 ≤ root ∧ (nodeOf f root.toNat).1 ≠ 0) := hA.ro.imp id fun e => ⟨e.1, e.2.1⟩
  obtain ⟨r0, r1, r2, r3, hrk⟩ := list4 (padK_len hA.inv hroot)
  have hnx := nextL_pad hA
  have hln : (nextLeaves f root a L).length = 4 := by rw [hnx, List.length_set]; exact padK_len hA.inv hroot
  obtain ⟨n0, n1, n2, n3, hnk⟩ := list4 hln
  have hng : ∀ p, p < 4 → [n0, n1, n2, n3].getD p 0 < 0 → [n0, n1, n2, n3].getD p 0 = -1 := fun p hp h0 => by
    rw [← hnk] at h0 ⊢
    rcases nextLeaves_live hA hp with e | e <;> omega
  have hlv : ∀ p, p < 4 → p = q ∨ ([n0, n1, n2, n3].getD p 0 < 0 ∨ (nodeOf f ([n0, n1, n2, n3].getD p 0).toNat).1 ≠ 0) := fun p hp => by
    right
    rw [← hnk]
    rcases nextLeaves_live hA hp with e | e
    · left; omega
    · exact Or.inr e.2.1
  have hset4 : [r0, r1, r2, r3].set q L = [n0, n1, n2, n3] := by rw [← hrk, ← hnk, hnx, hq]
  have hqe := none_eq hng
  obtain ⟨qn, hqn⟩ : ∃ x, noneOf [n0, n1, n2, n3] = x := ⟨_, rfl⟩
  rw [hqn] at hqe
  have heq : ∀ W, (Op.equalIn 10000 221 (.agg #[.int .i64 n0, .int .i64 n1, .int .i64 n2, .int .i64 n3]) (.agg #[.int .i64 (-1), .int .i64 (-1), .int .i64 (-1), .int .i64 (-1)])).run Try.prog W = .ok qn W := fun W => by rw [eqKids, hqe]
  have hq4 : q < 4 := by omega
  have hqi : (q : Int) < 4 := by omega
  have HN : Hid _ := hnk
  have HQ : Hid _ := hqn
  have HA : Hid _ := hA
  have HQQ : Hid _ := hq
  have HR : Hid _ := hr
  have HRK : Hid _ := hrk
  have HNG : Hid _ := hng
  have HLV : Hid _ := hlv
  have HRO : Hid _ := hroot
  have HLL : Hid _ := hL
  have HS4 : Hid _ := hset4
  have HI : Hid _ := I
  have hgl := I.hg.2
  clear hnx hqn hA hr hrk hnk hng hlv hroot hqe I hq hL hln hset4
  go_enter Try.func207, Try.ntmps207
  go_wp2_with fail
  refine (kidsAt_all (HI.out.below B0) root HRO.out r0 r1 r2 r3 HRK.out).mono ?_
  rintro e w1 ⟨rfl, hb1⟩
  have B1 := below_next B0 hb1
  replace z0 := cell_later hb1 z0
  replace z1 := cell_later hb1 z1
  replace y0 := frozen_later hb1 hz y0
  replace y1 := frozen_later hb1 hz y1
  replace hz := Nat.lt_of_lt_of_le hz hb1.size
  clear hb1 B0
  have cA := cell4 w1 r0 r1 r2 r3 q hq4
  have fA : (w1.alloc (.cells #[.int .i64 r0, .int .i64 r1, .int .i64 r2, .int .i64 r3] 221)).frozen? ⟨w1.heap.size, q, none⟩ = false := by simp
  have hset := set4_cells w1 r0 r1 r2 r3 L n0 n1 n2 n3 q hq4 HS4.out
  have AN : Below w1.heap.size w1 (w1.alloc (.cells #[.int .i64 n0, .int .i64 n1, .int .i64 n2, .int .i64 n3] 221)) := (Below.refl _ _).alloc (Nat.le_refl _) _
  have N0 : (w1.alloc (.cells #[.int .i64 n0, .int .i64 n1, .int .i64 n2, .int .i64 n3] 221)).cell? ⟨w1.heap.size, 0, none⟩ = some (.int .i64 n0) := by simp
  have N1 : (w1.alloc (.cells #[.int .i64 n0, .int .i64 n1, .int .i64 n2, .int .i64 n3] 221)).cell? ⟨w1.heap.size, 1, none⟩ = some (.int .i64 n1) := by simp
  have N2 : (w1.alloc (.cells #[.int .i64 n0, .int .i64 n1, .int .i64 n2, .int .i64 n3] 221)).cell? ⟨w1.heap.size, 2, none⟩ = some (.int .i64 n2) := by simp
  have N3 : (w1.alloc (.cells #[.int .i64 n0, .int .i64 n1, .int .i64 n2, .int .i64 n3] 221)).cell? ⟨w1.heap.size, 3, none⟩ = some (.int .i64 n3) := by simp
  replace z0 := cell_later AN z0
  replace z1 := cell_later AN z1
  replace y0 := frozen_later AN hz y0
  replace y1 := frozen_later AN hz y1
  have hA2 : (w1.alloc (.cells #[.int .i64 n0, .int .i64 n1, .int .i64 n2, .int .i64 n3] 221)).heap.size = w1.heap.size + 1 := by simp
  have hzz := Nat.lt_of_lt_of_le hz AN.size
  have B3 := below_next B1 AN
  obtain ⟨old, hold⟩ : ∃ x, [r0, r1, r2, r3].getD q 0 = x := ⟨_, rfl⟩
  rw [hold] at cA
  have HOLD : Hid _ := hold
  clear hold
  go_wp2_with fail
  generalize hW3 : w1.alloc (.cells #[.int .i64 n0, .int .i64 n1, .int .i64 n2, .int .i64 n3] 221) = W3 at *
  clear hW3 cA fA hset AN
  go_region_held3 (fun w' => w'.cell? ⟨w1.heap.size, 0, none⟩ = some (.int .i64 n0) ∧ w'.cell? ⟨w1.heap.size, 1, none⟩ = some (.int .i64 n1) ∧ w'.cell? ⟨w1.heap.size, 2, none⟩ = some (.int .i64 n2) ∧ w'.cell? ⟨w1.heap.size, 3, none⟩ = some (.int .i64 n3)) (exact ⟨N0, N1, N2, N3⟩) (first | (go_at_call 183; refine (noKids_is _).mono ?_; rintro e w4 ⟨rfl, hb0⟩; have hb4 := drew_next hb0; clear hb0; replace N0 := cell_later hb4 N0; replace N1 := cell_later hb4 N1; replace N2 := cell_later hb4 N2; replace N3 := cell_later hb4 N3; replace z0 := cell_later hb4 z0; replace z1 := cell_later hb4 z1; replace y0 := frozen_later hb4 hzz y0; replace y1 := frozen_later hb4 hzz y1; replace hzz := Nat.lt_of_lt_of_le hzz hb4.size; have B4 := below_next B3 hb4; have hs4w : w1.heap.size + 1 ≤ w4.heap.size := by (have := hb4.size; omega)))
  all_goals (
    clear hb4 B3
    have HJ : Hid (GAt w4 (fun k => S k ∧ (k < w.heap.size ∨ w1.heap.size + 1 ≤ k)) (fun _ => False) base g vn ab nb cb P f) := (HI.out.into (fun k hk hl => ⟨hk, Or.inl hl⟩)).below B4
    have hT : ∀ k, w4.heap.size ≤ k → (fun k => S k ∧ (k < w.heap.size ∨ w1.heap.size + 1 ≤ k)) k := fun k hk => ⟨hS k (by omega), Or.inr (by omega)⟩
    have nT : ¬ (fun k => S k ∧ (k < w.heap.size ∨ w1.heap.size + 1 ≤ k)) w.heap.size := fun e => by rcases e.2 with h | h <;> omega
    have nA : ¬ (fun k => S k ∧ (k < w.heap.size ∨ w1.heap.size + 1 ≤ k)) w1.heap.size := fun e => by rcases e.2 with h | h <;> omega
    have HTS : Hid (∀ k, (fun k => S k ∧ (k < w.heap.size ∨ w1.heap.size + 1 ≤ k)) k → S k) := fun k hk => hk.1
    have HNT : Hid _ := nT
    have hbase4 : base ≤ w4.heap.size := by omega
    cases qn with
    | true =>
      have hr0 : 0 ≤ root := by
        have h1 := (noneOf_iff (ks := [n0, n1, n2, n3]) rfl).1 HQ.out q hq4
        have h2 : [n0, n1, n2, n3].getD q 0 = L := by rw [← HS4.out]; simp [List.getD, hq4]
        rw [h2] at h1
        rcases HA.out.ll with e | e
        · exact HLL.out e
        · omega
      obtain ⟨rt, rfl⟩ : ∃ n : Nat, root = n := ⟨root.toNat, by omega⟩
      have HRR : Hid ((-1, 0, lessRoot f rt) = r) := by show _ = _; rw [← HR.out, setRoot_none (by rw [HN.out]; exact HQ.out), if_pos hr0, Int.toNat_natCast]
      have HP : Hid _ := root_lessP HA.out (r := rt) rfl
      clear hr0
      go_wp2_with fail
      refine (drop_root HJ.out hT hbase4 HP.out (lessRoot f rt) rfl).mono ?_
      rintro e w5 ⟨⟨v, rfl⟩, ⟨vn5, ab5, nb5, cb5, P5, J5⟩, K5⟩
      replace z0 := K5.cell z0 hzz nT
      replace z1 := K5.cell z1 hzz nT
      replace y0 := K5.frozen y0 hzz nT
      replace y1 := K5.frozen y1 hzz nT
      have HJF : Hid _ := J5
      have HKF : Hid _ := (KeptS.below B4).trans (K5.mono fun k hk => hk.1)
      clear J5 K5 N0 N1 N2 N3
      go_wp2
      rw [← HRR.out]
      refine bodyPost_ret (v := .agg #[.int .i64 0, .int .i64 (-1)]) (by simp [results, Try.results207, go_sem, z0, z1]) rfl (Or.inr ⟨rfl, rfl, ⟨_, _, _, _, _, (HJF.out.frame (T := fun x => x = w.heap.size) ?_ (fun k hk e => HNT.out (e ▸ hk))).into (fun k hk _ => HTS.out k hk)⟩, ?_⟩)
      · refine KeptS.setCell (KeptS.setCell (KeptS.refl _ _) ?_ _) ?_ _ <;> rfl
      · refine KeptS.setCell (KeptS.setCell HKF.out ?_ _) ?_ _ <;> exact hS _ (Nat.le_refl _)
    | false =>
      have HNF : Hid (noneOf (nextLeaves f root a L) = false) := by show _ = _; rw [HN.out]; exact HQ.out
      have HOR : Hid (root = -1 ∨ (0 ≤ root ∧ root.toNat < f.1.length ∧ ¬ (fun _ : Nat => False) root.toNat ∧ (nodeOf f root.toNat).1 ≠ 0)) := HRO.out.imp id fun e => ⟨e.1, live_lt e.2, fun x => x, e.2⟩
      by_cases hown : 0 ≤ root ∧ (nodeOf f root.toNat).1 = 1
      · have HO1 : Hid _ := decide_eq_true hown
        have HRS := setRoot_same HNF.out hown
        obtain ⟨rt, rfl⟩ : ∃ n : Nat, root = n := ⟨root.toNat, by omega⟩
        have hrk : rootKids f (rt : Int) = [r0, r1, r2, r3] := by rw [← HRK.out]; unfold rootKids padK; rw [if_pos hown.1, if_pos hown.1]
        have hrt1 := hown.2
        rw [Int.toNat_natCast] at hrt1
        have hro := (HA.out.ro.resolve_left (by omega)).2.2
        rw [Int.toNat_natCast] at hro
        have HLP : Hid (∀ n : Nat, old = (n : Int) → (n : Int) ≠ L → LeafP (f.1.set rt (1, false, [n0, n1, n2, n3]), f.2) n) := fun n e1 e2 => by
          have := leaf_lessP HA.out HNF.out hrt1 (q := n) (by rw [hrk, Int.toNat_natCast, HQQ.out, HOLD.out]; exact e1) e2
          rw [HN.out] at this
          exact this
        have hold1 : old = -1 ∨ 0 ≤ old := by
          have hm : old ∈ rootKids f (rt : Int) := by rw [hrk, ← HOLD.out]; exact getD_four (by simp) hq4
          rcases rootKids_live HA.out.inv HA.out.ro hm with e | e
          · exact Or.inl e
          · exact Or.inr e.1
        rw [HR.out, hrk, HN.out, Int.toNat_natCast, Int.toNat_natCast, HQQ.out, HOLD.out, hrt1, hro] at HRS
        have HRR : Hid _ := HRS
        have hrtl : rt < f.1.length := live_lt (by omega)
        have hrt0 : (nodeOf f rt).1 ≠ 0 := by omega
        clear hown HRS hrk
        go_wp2_with fail
        refine (isOwn_is HJ.out (rt : Int) HOR.out true HO1.out).mono ?_
        rintro e w4 ⟨rfl, rfl⟩
        obtain ⟨rr, cap, bx, rfl, hpb, e1, hrr, hbx, BX, d1, d2, d3, d4, d5⟩ := HJ.out.live (i := rt) hrtl (fun x => x) hrt0
        have C0 := HJ.out.c0
        obtain ⟨m, hm⟩ : ∃ m, f.1.length = m := ⟨_, rfl⟩
        have HM : Hid _ := hm
        rw [hm] at C0
        have hlym : rt < m := by omega
        have hlyi : (rt : Int) < (m : Int) := by omega
        obtain ⟨-, -, kc, kf⟩ := BX.cell
        have k2 := kc 0 (by omega)
        have k3 := kc 1 (by omega)
        have k4 := kc 2 (by omega)
        have k5 := kc 3 (by omega)
        simp only [Nat.add_zero, Nat.reduceAdd] at k2 k3 k4 k5
        have f2 := kf 2 (by omega)
        have f3 := kf 3 (by omega)
        have f4 := kf 4 (by omega)
        have f5 := kf 5 (by omega)
        have BXN := box_kids BX n0 n1 n2 n3
        have KBX : KeptS (fun x => x = bx) w4 ((((w4.setCell ⟨bx, 2, none⟩ (.int .i64 n0)).setCell ⟨bx, 3, none⟩ (.int .i64 n1)).setCell ⟨bx, 4, none⟩ (.int .i64 n2)).setCell ⟨bx, 5, none⟩ (.int .i64 n3)) := by
          refine KeptS.setCell (KeptS.setCell (KeptS.setCell (KeptS.setCell (KeptS.refl _ _) ?_ _) ?_ _) ?_ _) ?_ _ <;> rfl
        have J6 := HJ.out.box hrtl (fun x => x) hpb KBX (by simp) BXN hrt0
        rw [hrt1, hro] at J6
        have hAb : w1.heap.size ≠ bx := fun e => nA (e ▸ d5)
        have hwb : w.heap.size ≠ bx := fun e => nT (e ▸ d5)
        have q0 := KBX.cell N0 (by omega) hAb
        have q1 := KBX.cell N1 (by omega) hAb
        have q2 := KBX.cell N2 (by omega) hAb
        have q3 := KBX.cell N3 (by omega) hAb
        have qc := KBX.cell C0 (HJ.out.hg.2) (Ne.symm d2)
        have qe := KBX.cell e1 hrr d3
        have DR : Below ((((w4.setCell ⟨bx, 2, none⟩ (.int .i64 n0)).setCell ⟨bx, 3, none⟩ (.int .i64 n1)).setCell ⟨bx, 4, none⟩ (.int .i64 n2)).setCell ⟨bx, 5, none⟩ (.int .i64 n3)).heap.size ((((w4.setCell ⟨bx, 2, none⟩ (.int .i64 n0)).setCell ⟨bx, 3, none⟩ (.int .i64 n1)).setCell ⟨bx, 4, none⟩ (.int .i64 n2)).setCell ⟨bx, 5, none⟩ (.int .i64 n3)) ((((w4.setCell ⟨bx, 2, none⟩ (.int .i64 n0)).setCell ⟨bx, 3, none⟩ (.int .i64 n1)).setCell ⟨bx, 4, none⟩ (.int .i64 n2)).setCell ⟨bx, 5, none⟩ (.int .i64 n3)).drew := (Below.refl _ _).drew
        have hsx : w.heap.size < ((((w4.setCell ⟨bx, 2, none⟩ (.int .i64 n0)).setCell ⟨bx, 3, none⟩ (.int .i64 n1)).setCell ⟨bx, 4, none⟩ (.int .i64 n2)).setCell ⟨bx, 5, none⟩ (.int .i64 n3)).heap.size := by simp; omega
        have p0 := cell_later DR (KBX.cell z0 (by omega) hwb)
        have p1 := cell_later DR (KBX.cell z1 (by omega) hwb)
        have x0 := frozen_later DR hsx (KBX.frozen y0 (by omega) hwb)
        have x1 := frozen_later DR hsx (KBX.frozen y1 (by omega) hwb)
        have J7 := J6.below DR
        have K7 : KeptS (fun k => S k ∧ (k < w.heap.size ∨ w1.heap.size + 1 ≤ k)) w4 ((((w4.setCell ⟨bx, 2, none⟩ (.int .i64 n0)).setCell ⟨bx, 3, none⟩ (.int .i64 n1)).setCell ⟨bx, 4, none⟩ (.int .i64 n2)).setCell ⟨bx, 5, none⟩ (.int .i64 n3)).drew := (KBX.mono fun k e => e ▸ d5).trans (KeptS.below DR)
        have HJ7 : Hid _ := J7
        have HK7 : Hid _ := K7
        have hs7 : w4.heap.size ≤ ((((w4.setCell ⟨bx, 2, none⟩ (.int .i64 n0)).setCell ⟨bx, 3, none⟩ (.int .i64 n1)).setCell ⟨bx, 4, none⟩ (.int .i64 n2)).setCell ⟨bx, 5, none⟩ (.int .i64 n3)).drew.heap.size := K7.size
        clear J6 J7 K7 BX BXN kc kf hm DR hsx KBX
        go_wp2_with fail
        go_region_held3 (fun w' => w'.cell? ⟨g, 0, none⟩ = some (.slice (some ⟨rr, 0, none⟩) m cap) ∧ w'.cell? ⟨rr, rt, none⟩ = some (.pointer (some ⟨bx, 0, none⟩)) ∧ w'.cell? ⟨w1.heap.size, 0, none⟩ = some (.int .i64 n0) ∧ w'.cell? ⟨w1.heap.size, 1, none⟩ = some (.int .i64 n1) ∧ w'.cell? ⟨w1.heap.size, 2, none⟩ = some (.int .i64 n2) ∧ w'.cell? ⟨w1.heap.size, 3, none⟩ = some (.int .i64 n3)) (first | exact ⟨C0, e1, N0, N1, N2, N3⟩ | exact ⟨qc, qe, q0, q1, q2, q3⟩) (fail)
        clear C0 e1 N0 N1 N2 N3 qc qe q0 q1 q2 q3 k2 k3 k4 k5 f2 f3 f4 f5 z0 z1 y0 y1
        generalize ((((w4.setCell ⟨bx, 2, none⟩ (.int .i64 n0)).setCell ⟨bx, 3, none⟩ (.int .i64 n1)).setCell ⟨bx, 4, none⟩ (.int .i64 n2)).setCell ⟨bx, 5, none⟩ (.int .i64 n3)).drew = w6 at *
        by_cases hdr : 0 ≤ old ∧ old ≠ L
        · obtain ⟨on, rfl⟩ : ∃ n : Nat, old = n := ⟨old.toNat, by omega⟩
          have ho1 : ((on : Int) != -1) = true := by simp
          have ho2 : ((on : Int) != L) = true := by simp; exact hdr.2
          have HP : Hid _ := HLP.out on rfl hdr.2
          have HR2 : Hid (r = ((rt : Int), 0, lessLeaf (f.1.set rt (1, false, [n0, n1, n2, n3]), f.2) on)) := by show _ = _; rw [HRR.out, if_pos hdr, Int.toNat_natCast]
          have hT6 : ∀ k, w6.heap.size ≤ k → (fun k => S k ∧ (k < w.heap.size ∨ w1.heap.size + 1 ≤ k)) k := fun k hk => hT k (by omega)
          clear hdr HRR HLP
          go_wp2_with fail
          refine (drop_leaf HJ7.out hT6 (by omega) (fun x => x) HP.out _ rfl).mono ?_
          rintro e w5 ⟨⟨v, rfl⟩, ⟨vn5, ab5, nb5, cb5, P5, J5⟩, K5⟩
          replace p0 := K5.cell p0 (by omega) nT
          replace p1 := K5.cell p1 (by omega) nT
          replace x0 := K5.frozen x0 (by omega) nT
          replace x1 := K5.frozen x1 (by omega) nT
          have HJF : Hid _ := J5
          have HKF : Hid _ := (KeptS.below B4).trans ((HK7.out.trans K5).mono fun k hk => hk.1)
          clear J5 K5
          go_wp2
          rw [HR2.out]
          refine bodyPost_ret (v := .agg #[.int .i64 0, .int .i64 (rt : Int)]) (by simp [results, Try.results207, go_sem, p0, p1]) rfl (Or.inr ⟨rfl, rfl, ⟨_, _, _, _, _, (HJF.out.frame (T := fun x => x = w.heap.size) ?_ (fun k hk e => HNT.out (e ▸ hk))).into (fun k hk _ => HTS.out k hk)⟩, ?_⟩)
          · refine KeptS.setCell (KeptS.setCell (KeptS.refl _ _) ?_ _) ?_ _ <;> rfl
          · refine KeptS.setCell (KeptS.setCell HKF.out ?_ _) ?_ _ <;> exact hS _ (Nat.le_refl _)
        · have HR2 : Hid (r = ((rt : Int), 0, (f.1.set rt (1, false, [n0, n1, n2, n3]), f.2))) := by show _ = _; rw [HRR.out, if_neg hdr]
          have HJF : Hid _ := HJ7.out
          have HKF : Hid _ := (KeptS.below B4).trans (HK7.out.mono fun k hk => hk.1)
          by_cases ho : old = -1
          · have ho1 : (old != -1) = false := by simp [ho]
            clear hdr HRR HLP ho
            go_wp2
            rw [HR2.out]
            refine bodyPost_ret (v := .agg #[.int .i64 0, .int .i64 (rt : Int)]) (by simp [results, Try.results207, go_sem, p0, p1]) rfl (Or.inr ⟨rfl, rfl, ⟨_, _, _, _, _, (HJF.out.frame (T := fun x => x = w.heap.size) ?_ (fun k hk e => HNT.out (e ▸ hk))).into (fun k hk _ => HTS.out k hk)⟩, ?_⟩)
            · refine KeptS.setCell (KeptS.setCell (KeptS.refl _ _) ?_ _) ?_ _ <;> rfl
            · refine KeptS.setCell (KeptS.setCell HKF.out ?_ _) ?_ _ <;> exact hS _ (Nat.le_refl _)
          · have ho1 : (old != -1) = true := by simp [ho]
            have ho2 : (old != L) = false := by simp; exact Decidable.byContradiction fun e => hdr ⟨hold1.resolve_left ho, e⟩
            clear hdr HRR HLP ho
            go_wp2
            rw [HR2.out]
            refine bodyPost_ret (v := .agg #[.int .i64 0, .int .i64 (rt : Int)]) (by simp [results, Try.results207, go_sem, p0, p1]) rfl (Or.inr ⟨rfl, rfl, ⟨_, _, _, _, _, (HJF.out.frame (T := fun x => x = w.heap.size) ?_ (fun k hk e => HNT.out (e ▸ hk))).into (fun k hk _ => HTS.out k hk)⟩, ?_⟩)
            · refine KeptS.setCell (KeptS.setCell (KeptS.refl _ _) ?_ _) ?_ _ <;> rfl
            · refine KeptS.setCell (KeptS.setCell HKF.out ?_ _) ?_ _ <;> exact hS _ (Nat.le_refl _)
      · have HO1 : Hid _ := decide_eq_false hown
        have HRP : Hid (r = match plantO f false [n0, n1, n2, n3] q with | none => (-1, 2, f) | some (i, F) => ((i : Int), 0, if 0 ≤ root then lessRoot F root.toNat else F)) := by show _ = _; rw [← HR.out, plant_root_is HNF.out hown, HN.out, Int.toNat_natCast, HQQ.out]
        have HPP : Hid (∀ (i : Nat) (F : Fo), plantO f false [n0, n1, n2, n3] q = some (i, F) → ∀ rt : Nat, root = (rt : Int) → RootP F rt) := fun i F hp rt e => plant_rootP HA.out HNF.out hown (by rw [HN.out, Int.toNat_natCast, HQQ.out]; exact hp) e
        clear hown
        go_wp2_with fail
        refine (isOwn_is HJ.out root HOR.out false HO1.out).mono ?_
        rintro e w4 ⟨rfl, rfl⟩
        go_wp2_with fail
        refine (plant_root HJ.out hT hbase4 HA.out.inv n0 n1 n2 n3 q (fun p hp => Or.inr (HNG.out p hp)) HLV.out).mono ?_
        rintro e w5 hres
        cases hpo : plantO f false [n0, n1, n2, n3] q with
        | none =>
          rw [hpo] at hres
          obtain ⟨rfl, K5⟩ := hres
          have HRR : Hid ((-1, 2, f) = r) := by show _ = _; rw [HRP.out, hpo]
          replace z0 := K5.cell z0 hzz nT
          replace z1 := K5.cell z1 hzz nT
          replace y0 := K5.frozen y0 hzz nT
          replace y1 := K5.frozen y1 hzz nT
          have HK5 : Hid _ := (KeptS.below B4).trans (K5.mono fun k hk => hk.1)
          have hz5 : w.heap.size < w5.heap.size := Nat.lt_of_lt_of_le hzz K5.size
          clear hpo K5 N0 N1 N2 N3 HRP HPP
          go_wp2
          rw [← HRR.out]
          refine bodyPost_ret (v := .agg #[.int .i64 2, .int .i64 0]) (by simp [results, Try.results207, go_sem, z0, z1, hz5]) rfl (Or.inl ⟨(by show (2 : Int) ≠ 0; decide), rfl, ?_⟩)
          refine (KeptS.setCell (KeptS.setCell HK5.out ?_ _) ?_ _).trans (KeptS.below ((Below.refl _ _).alloc (Nat.le_refl _) _)) <;> exact hS _ (Nat.le_refl _)
        | some p =>
          obtain ⟨i, F⟩ := p
          rw [hpo] at hres
          obtain ⟨rfl, ⟨vn5, ab5, nb5, cb5, P5, J5⟩, K5⟩ := hres
          have HRR : Hid (((i : Int), 0, if 0 ≤ root then lessRoot F root.toNat else F) = r) := by show _ = _; rw [HRP.out, hpo]
          replace z0 := K5.cell z0 hzz nT
          replace z1 := K5.cell z1 hzz nT
          replace y0 := K5.frozen y0 hzz nT
          replace y1 := K5.frozen y1 hzz nT
          have A5 : Below w5.heap.size w5 (w5.alloc (.cells #[.int .i64 0, .int .i64 (i : Int)] 40)) := (Below.refl _ _).alloc (Nat.le_refl _) _
          have hz5 : w.heap.size < w5.heap.size := Nat.lt_of_lt_of_le hzz K5.size
          have m0 : (w5.alloc (.cells #[.int .i64 0, .int .i64 (i : Int)] 40)).cell? ⟨w5.heap.size, 0, none⟩ = some (.int .i64 0) := by simp
          have m1 : (w5.alloc (.cells #[.int .i64 0, .int .i64 (i : Int)] 40)).cell? ⟨w5.heap.size, 1, none⟩ = some (.int .i64 (i : Int)) := by simp
          have hs6 : (w5.alloc (.cells #[.int .i64 0, .int .i64 (i : Int)] 40)).heap.size = w5.heap.size + 1 := by simp
          have za0 := cell_later A5 z0
          have za1 := cell_later A5 z1
          have ya0 := frozen_later A5 hz5 y0
          have ya1 := frozen_later A5 hz5 y1
          have HJ5 : Hid _ := J5
          have HK5 : Hid _ := (KeptS.below B4).trans (K5.mono fun k hk => hk.1)
          have J6 := (J5.into (T := (fun k => (S k ∧ (k < w.heap.size ∨ w1.heap.size + 1 ≤ k)) ∧ (k < w5.heap.size ∨ w5.heap.size + 1 ≤ k))) (fun k hk hl => ⟨hk, Or.inl hl⟩)).below A5
          have HJ6 : Hid _ := J6
          have HK6 : Hid _ := ((KeptS.below B4).trans (K5.mono fun k hk => hk.1)).trans (KeptS.below A5)
          have hw45 := K5.size
          have HPP2 : Hid _ := HPP.out i F hpo
          have nT2 : ¬ (fun k => (S k ∧ (k < w.heap.size ∨ w1.heap.size + 1 ≤ k)) ∧ (k < w5.heap.size ∨ w5.heap.size + 1 ≤ k)) w.heap.size := fun e => nT e.1
          have nP2 : ¬ (fun k => (S k ∧ (k < w.heap.size ∨ w1.heap.size + 1 ≤ k)) ∧ (k < w5.heap.size ∨ w5.heap.size + 1 ≤ k)) w5.heap.size := fun e => by rcases e.2 with h | h <;> omega
          replace HNT : Hid (¬ (fun k => (S k ∧ (k < w.heap.size ∨ w1.heap.size + 1 ≤ k)) ∧ (k < w5.heap.size ∨ w5.heap.size + 1 ≤ k)) w.heap.size) := nT2
          replace HTS : Hid (∀ k, (fun k => (S k ∧ (k < w.heap.size ∨ w1.heap.size + 1 ≤ k)) ∧ (k < w5.heap.size ∨ w5.heap.size + 1 ≤ k)) k → S k) := fun k hk => hk.1.1
          clear hpo J5 J6 K5 N0 N1 N2 N3 HPP HRP
          by_cases hm1 : root = -1
          · have ho1 : (root != -1) = false := by simp [hm1]
            have HR2 : Hid (((i : Int), 0, F) = r) := by show _ = _; rw [← HRR.out, if_neg (by omega)]
            clear hm1 HRR za0 za1 ya0 ya1
            go_wp2
            rw [← HR2.out]
            refine bodyPost_ret (v := .agg #[.int .i64 0, .int .i64 (i : Int)]) (by simp [results, Try.results207, go_sem, z0, z1, hz5]) rfl (Or.inr ⟨rfl, rfl, ⟨_, _, _, _, _, ((HJ5.out.frame (T := fun x => x = w.heap.size) ?_ (fun k hk e => nT (e ▸ hk))).below ((Below.refl _ _).alloc (Nat.le_refl _) _)).into (fun k hk _ => hk.1)⟩, ?_⟩)
            · refine KeptS.setCell (KeptS.setCell (KeptS.refl _ _) ?_ _) ?_ _ <;> rfl
            · refine (KeptS.setCell (KeptS.setCell HK5.out ?_ _) ?_ _).trans (KeptS.below ((Below.refl _ _).alloc (Nat.le_refl _) _)) <;> exact hS _ (Nat.le_refl _)
          · have ho1 : (root != -1) = true := by simp [hm1]
            have hr0 : 0 ≤ root := by rcases HRO.out with e | e; exact absurd e hm1; exact e.1
            obtain ⟨rt, rfl⟩ : ∃ n : Nat, root = n := ⟨root.toNat, by omega⟩
            have HR2 : Hid (((i : Int), 0, lessRoot F rt) = r) := by show _ = _; rw [← HRR.out, if_pos hr0, Int.toNat_natCast]
            have HP : Hid _ := HPP2.out rt rfl
            clear hm1 HRR hr0
            go_wp2_with fail
            generalize w5.alloc (.cells #[.int .i64 0, .int .i64 (i : Int)] 40) = w6 at *
            have hT6 : ∀ k, w6.heap.size ≤ k → (fun k => (S k ∧ (k < w.heap.size ∨ w1.heap.size + 1 ≤ k)) ∧ (k < w5.heap.size ∨ w5.heap.size + 1 ≤ k)) k := fun k hk => ⟨hT k (by omega), Or.inr (by omega)⟩
            refine (drop_root HJ6.out hT6 (by omega) HP.out (lessRoot F rt) rfl).mono ?_
            rintro e w7 ⟨⟨v, rfl⟩, ⟨vn7, ab7, nb7, cb7, P7, J7⟩, K7⟩
            replace z0 := K7.cell za0 (by omega) nT2
            replace z1 := K7.cell za1 (by omega) nT2
            replace y0 := K7.frozen ya0 (by omega) nT2
            replace y1 := K7.frozen ya1 (by omega) nT2
            replace m0 := K7.cell m0 (by omega) nP2
            replace m1 := K7.cell m1 (by omega) nP2
            have HJF : Hid _ := J7
            have HKF : Hid _ := HK6.out.trans (K7.mono fun k hk => hk.1.1)
            clear J7 K7
            go_wp2
            rw [← HR2.out]
            refine bodyPost_ret (v := .agg #[.int .i64 0, .int .i64 (i : Int)]) (by simp [results, Try.results207, go_sem, z0, z1]) rfl (Or.inr ⟨rfl, rfl, ⟨_, _, _, _, _, (HJF.out.frame (T := fun x => x = w.heap.size) ?_ (fun k hk e => HNT.out (e ▸ hk))).into (fun k hk _ => HTS.out k hk)⟩, ?_⟩)
            · refine KeptS.setCell (KeptS.setCell (KeptS.refl _ _) ?_ _) ?_ _ <;> rfl
            · refine KeptS.setCell (KeptS.setCell HKF.out ?_ _) ?_ _ <;> exact hS _ (Nat.le_refl _))

end Go.Proofs.Ytikjndmgljkhhaa

/- Chapter 4: the program sets a place of a tree. -/
namespace Go.Proofs.Ytikjndmgljkhhaa
open Go.RowKit

def TreeRes (S : Nat → Prop) (base : Nat) (w w' : World) (e : Ending) (r : Int × Int × Fo) : Prop :=
  (r.2.1 ≠ 0 ∧ e = .returned (.agg #[.int .i64 r.2.1, .int .i64 0, .slice none 0 0, .slice none 0 0]) ∧ KeptS S w w') ∨
  (r.2.1 = 0 ∧ (∃ an nn cn ab nb cb K, e = .returned (.agg #[.int .i64 0, .int .i64 r.1, .slice an nn cn, .slice ab nb cb]) ∧ FoAt w' true base w'.heap.size an nn cn ab nb cb K r.2.2) ∧ KeptS S w w')
theorem FoAt.keptS {w w' : World} {own : Bool} {lo hi : Nat} {an : Option Addr} {nn cn : Nat} {ab : Option Addr} {nb cb : Nat} {K : Nat → KS} {f : Fo} (h : FoAt w own lo hi an nn cn ab nb cb K f) {S : Nat → Prop} (hk : KeptS S w w') (h1 : ∀ k, inN an nn K k → ¬ S k) (h2 : nb ≠ 0 → ¬ S (sb ab)) : FoAt w' own lo hi an nn cn ab nb cb K f :=
  ⟨h.nodes.keptS hk h1, h.blocks.keptS hk fun a hn e => by have := h2 hn; rw [e] at this; exact this, h.sep⟩
theorem leaf_none_b {f : Fo} {root : Int} {a : Nat} {b : Int} (hA : Ask f root a b) (hc : (setLeaf f root a b).2.1 = 0) (hl : (setLeaf f root a b).1 = -1) : b = -1 := by
  cases hn : noneOf (nextKids f root a b) with
  | true =>
    have hl4 : (nextKids f root a b).length = 4 := by rw [next_pad hA, List.length_set]; exact padK_len hA.inv ((leaf_cases hA.inv hA.ro hA.at0 hA.at1).imp id fun e => ⟨e.1, e.2.1⟩)
    have h1 := (noneOf_iff hl4).1 hn (a % 4) (by omega)
    have h2 : (nextKids f root a b).getD (a % 4) 0 = b := by
      rw [next_pad hA] at hl4 ⊢
      rw [List.length_set] at hl4
      rw [List.getD_eq_getElem?_getD, List.getElem?_set_self (by omega)]; rfl
    rw [h2] at h1
    rcases hA.bb with e | e
    · exact e
    · omega
  | false =>
    by_cases h2 : 0 ≤ leafAt f root a ∧ (nodeOf f (leafAt f root a).toNat).1 = 1 ∧ (nodeOf f root.toNat).1 = 1
    · rw [setLeaf_same hn h2] at hl
      have : leafAt f root a = -1 := hl
      omega
    · rw [plant_leaf_is hn h2] at hc hl
      cases hp : plantO f true (nextKids f root a b) ((a : Int).toNat % 4) with
      | none => rw [hp] at hc; cases hc
      | some p =>
        obtain ⟨i, F⟩ := p
        rw [hp] at hl
        have : (i : Int) = -1 := hl
        omega

set_option maxRecDepth 20000 in
set_option maxHeartbeats 8000000 in
theorem treeWith_is {w : World} {S : Nat → Prop} {base g : Nat} {vn : Value} {ab : Option Addr} {nb cb : Nat} {P : Nat → Option Nat} {f : Fo} (I : GAt w S (fun _ => False) base g vn ab nb cb P f) (hS : ∀ k, w.heap.size ≤ k → S k) (hbase : base ≤ w.heap.size) (root : Int) (a : Nat) (b : Int) (hA : Ask f root a b) (hb1 : b = -1 → 0 ≤ root) (r : Int × Int × Fo) (hr : setPlace f root a b = r) :
    Calls Try.prog 192 #[.pointer (some ⟨g, 0, none⟩), .int .i64 root, .int .i64 (a : Int), .int .i64 b] w fun e w' => TreeRes S base w w' e r := by
  have B0 : Below w.heap.size w (w.alloc (.cells #[.int .i64 0, .int .i64 0, .slice none 0 0, .slice none 0 0] 88)) := (Below.refl _ _).alloc (Nat.le_refl _) _
  have z0 : (w.alloc (.cells #[.int .i64 0, .int .i64 0, .slice none 0 0, .slice none 0 0] 88)).cell? ⟨w.heap.size, 0, none⟩ = some (.int .i64 0) := by simp
  have y0 : (w.alloc (.cells #[.int .i64 0, .int .i64 0, .slice none 0 0, .slice none 0 0] 88)).frozen? ⟨w.heap.size, 0, none⟩ = false := by simp
  have z1 : (w.alloc (.cells #[.int .i64 0, .int .i64 0, .slice none 0 0, .slice none 0 0] 88)).cell? ⟨w.heap.size, 1, none⟩ = some (.int .i64 0) := by simp
  have y1 : (w.alloc (.cells #[.int .i64 0, .int .i64 0, .slice none 0 0, .slice none 0 0] 88)).frozen? ⟨w.heap.size, 1, none⟩ = false := by simp
  have z2 : (w.alloc (.cells #[.int .i64 0, .int .i64 0, .slice none 0 0, .slice none 0 0] 88)).cell? ⟨w.heap.size, 2, none⟩ = some (.slice none 0 0) := by simp
  have y2 : (w.alloc (.cells #[.int .i64 0, .int .i64 0, .slice none 0 0, .slice none 0 0] 88)).frozen? ⟨w.heap.size, 2, none⟩ = false := by simp
  have z3 : (w.alloc (.cells #[.int .i64 0, .int .i64 0, .slice none 0 0, .slice none 0 0] 88)).cell? ⟨w.heap.size, 3, none⟩ = some (.slice none 0 0) := by simp
  have y3 : (w.alloc (.cells #[.int .i64 0, .int .i64 0, .slice none 0 0, .slice none 0 0] 88)).frozen? ⟨w.heap.size, 3, none⟩ = false := by simp
  have hz : w.heap.size < (w.alloc (.cells #[.int .i64 0, .int .i64 0, .slice none 0 0, .slice none 0 0] 88)).heap.size := by simp
  have I0 := (I.into (T := (fun k => S k ∧ k ≠ w.heap.size)) (fun k hk hl => ⟨hk, by omega⟩)).below B0
  have hT1 : ∀ k, (w.alloc (.cells #[.int .i64 0, .int .i64 0, .slice none 0 0, .slice none 0 0] 88)).heap.size ≤ k → (fun k => S k ∧ k ≠ w.heap.size) k := fun k hk => ⟨hS k (by simp at hk; omega), by simp at hk; omega⟩
  have nT1 : ¬ (fun k => S k ∧ k ≠ w.heap.size) w.heap.size := fun e => e.2 rfl
  have ha : a ≤ 15 := by have := hA.at1; omega
  have hpl := fun hc => place_ok hA (by rw [hr]; exact hc)
  rw [hr] at hpl
  have HPL : Hid _ := hpl
  have hLN := fun hc hl => hb1 (leaf_none_b hA hc hl)
  have HLN : Hid _ := hLN
  have hAR := fun hc => askR_of hA (setLeaf_ok hA hc)
  have HAR : Hid _ := hAR
  unfold setPlace at hr
  obtain ⟨⟨L, c1, f1⟩, h1⟩ : ∃ x, setLeaf f root a b = x := ⟨_, rfl⟩
  rw [h1] at hr hLN hAR
  replace HLN : Hid _ := hLN
  replace HAR : Hid _ := hAR
  simp only at hr
  have H1 : Hid _ := h1
  have HR : Hid _ := hr
  have HA : Hid _ := hA
  have HI : Hid _ := I0
  have hbase0 : base ≤ (w.alloc (.cells #[.int .i64 0, .int .i64 0, .slice none 0 0, .slice none 0 0] 88)).heap.size := by have := B0.size; omega
  obtain ⟨q, hq⟩ : ∃ q, a / 4 = q := ⟨_, rfl⟩
  have hdiv : (a : Int) / 4 = (q : Int) := by omega
  have HQ : Hid _ := hq
  clear hpl hLN hAR h1 hr hA I I0 hb1 hq
  go_enter Try.func192, Try.ntmps192
  go_wp2_with fail
  refine (leafWith_is HI.out hT1 hbase0 root a b HA.out (L, c1, f1) H1.out).mono ?_
  generalize hWW : (w.alloc (.cells #[.int .i64 0, .int .i64 0, .slice none 0 0, .slice none 0 0] 88)) = W at *
  clear hWW
  rintro e w1 (⟨hc, rfl, K1⟩ | ⟨hc, rfl, ⟨vn1, ab1, nb1, cb1, P1, J1⟩, K1⟩)
  · simp only at hc
    have hcn : (c1 != 0) = true := by simp [hc]
    have HRR : Hid ((-1, c1, f) = r) := by show _ = _; rw [← HR.out, if_neg hc]
    have HC0 : Hid (c1 ≠ 0) := hc
    replace z0 := K1.cell z0 hz nT1
    replace y0 := K1.frozen y0 hz nT1
    replace z1 := K1.cell z1 hz nT1
    replace y1 := K1.frozen y1 hz nT1
    replace z2 := K1.cell z2 hz nT1
    replace y2 := K1.frozen y2 hz nT1
    replace z3 := K1.cell z3 hz nT1
    replace y3 := K1.frozen y3 hz nT1
    have hz1 := Nat.lt_of_lt_of_le hz K1.size
    have A1 : Below w1.heap.size w1 (w1.alloc (.cells #[.int .i64 c1, .int .i64 0] 40)) := (Below.refl _ _).alloc (Nat.le_refl _) _
    have HKW : Hid (KeptS S w w1) := (KeptS.below B0).trans (K1.mono fun k hk => hk.1)
    clear K1 hc HLN HAR
    go_wp2
    rw [← HRR.out]
    refine bodyPost_ret (v := .agg #[.int .i64 c1, .int .i64 0, .slice none 0 0, .slice none 0 0]) (by simp [results, Try.results192, go_sem, z0, z1, z2, z3, hz1]) rfl (Or.inl ⟨HC0.out, rfl, ?_⟩)
    refine (KeptS.setCell (KeptS.setCell (KeptS.setCell (KeptS.setCell HKW.out ?_ _) ?_ _) ?_ _) ?_ _).trans (KeptS.below ((Below.refl _ _).alloc (Nat.le_refl _) _)) <;> exact hS _ (Nat.le_refl _)
  · simp only at hc J1
    subst hc
    have hr2 := HR.out
    rw [if_pos rfl] at hr2
    replace z0 := K1.cell z0 hz nT1
    replace y0 := K1.frozen y0 hz nT1
    replace z1 := K1.cell z1 hz nT1
    replace y1 := K1.frozen y1 hz nT1
    replace z2 := K1.cell z2 hz nT1
    replace y2 := K1.frozen y2 hz nT1
    replace z3 := K1.cell z3 hz nT1
    replace y3 := K1.frozen y3 hz nT1
    have hz1 := Nat.lt_of_lt_of_le hz K1.size
    have A1 : Below w1.heap.size w1 (w1.alloc (.cells #[.int .i64 0, .int .i64 L] 40)) := (Below.refl _ _).alloc (Nat.le_refl _) _
    have m0 : (w1.alloc (.cells #[.int .i64 0, .int .i64 L] 40)).cell? ⟨w1.heap.size, 0, none⟩ = some (.int .i64 0) := by simp
    have m1 : (w1.alloc (.cells #[.int .i64 0, .int .i64 L] 40)).cell? ⟨w1.heap.size, 1, none⟩ = some (.int .i64 L) := by simp
    have hs1 : (w1.alloc (.cells #[.int .i64 0, .int .i64 L] 40)).heap.size = w1.heap.size + 1 := by simp
    have J2 := (J1.into (T := (fun k => (S k ∧ k ≠ w.heap.size) ∧ k ≠ w1.heap.size)) (fun k hk hl => ⟨hk, by omega⟩)).below A1
    replace z0 := cell_later A1 z0
    replace y0 := frozen_later A1 hz1 y0
    replace z1 := cell_later A1 z1
    replace y1 := frozen_later A1 hz1 y1
    replace z2 := cell_later A1 z2
    replace y2 := frozen_later A1 hz1 y2
    replace z3 := cell_later A1 z3
    replace y3 := frozen_later A1 hz1 y3
    have HJ2 : Hid _ := J2
    have hw01 := K1.size
    have HKW : Hid (KeptS S w (w1.alloc (.cells #[.int .i64 0, .int .i64 L] 40))) := ((KeptS.below B0).trans (K1.mono fun k hk => hk.1)).trans (KeptS.below A1)
    have HAR2 : Hid _ := HAR.out rfl
    have HLN2 : Hid (L = -1 → 0 ≤ root) := fun e => HLN.out rfl e
    have HR2 : Hid _ := hr2
    clear J1 J2 K1 HLN HAR hr2 A1
    go_wp2_with fail
    generalize w1.alloc (.cells #[.int .i64 0, .int .i64 L] 40) = W1 at *
    have hT2 : ∀ k, W1.heap.size ≤ k → (fun k => (S k ∧ k ≠ w.heap.size) ∧ k ≠ w1.heap.size) k := fun k hk => ⟨⟨hS k (by have := B0.size; omega), by omega⟩, by omega⟩
    have nT2 : ¬ (fun k => (S k ∧ k ≠ w.heap.size) ∧ k ≠ w1.heap.size) w.heap.size := fun e => e.1.2 rfl
    have nP2 : ¬ (fun k => (S k ∧ k ≠ w.heap.size) ∧ k ≠ w1.heap.size) w1.heap.size := fun e => e.2 rfl
    refine (rootWith_is HJ2.out hT2 (by omega) root a q L HQ.out HAR2.out HLN2.out r HR2.out).mono ?_
    rintro e w2 (⟨hc, rfl, K2⟩ | ⟨hc, rfl, ⟨vn2, ab2, nb2, cb2, P2, J2⟩, K2⟩)
    · obtain ⟨rt, c2, f2⟩ := r
      simp only at hc
      have hcn : (c2 != 0) = true := by simp [hc]
      have HC0 : Hid (c2 ≠ 0) := hc
      replace z0 := K2.cell z0 (by omega) nT2
      replace y0 := K2.frozen y0 (by omega) nT2
      replace z1 := K2.cell z1 (by omega) nT2
      replace y1 := K2.frozen y1 (by omega) nT2
      replace z2 := K2.cell z2 (by omega) nT2
      replace y2 := K2.frozen y2 (by omega) nT2
      replace z3 := K2.cell z3 (by omega) nT2
      replace y3 := K2.frozen y3 (by omega) nT2
      have hz2 : w.heap.size < w2.heap.size := by have := K2.size; omega
      have HKF : Hid (KeptS S w w2) := HKW.out.trans (K2.mono fun k hk => hk.1.1)
      clear K2 hc m0 m1
      go_wp2
      refine bodyPost_ret (v := .agg #[.int .i64 c2, .int .i64 0, .slice none 0 0, .slice none 0 0]) (by simp [results, Try.results192, go_sem, z0, z1, z2, z3, hz2]) rfl (Or.inl ⟨HC0.out, rfl, ?_⟩)
      refine (KeptS.setCell (KeptS.setCell (KeptS.setCell (KeptS.setCell HKF.out ?_ _) ?_ _) ?_ _) ?_ _).trans (KeptS.below ((Below.refl _ _).alloc (Nat.le_refl _) _)) <;> exact hS _ (Nat.le_refl _)
    · obtain ⟨rt, c2, f2⟩ := r
      simp only at hc J2
      subst hc
      have hlen := (HPL.out rfl).inv.nn
      simp only at hlen
      replace z0 := K2.cell z0 (by omega) nT2
      replace y0 := K2.frozen y0 (by omega) nT2
      replace z1 := K2.cell z1 (by omega) nT2
      replace y1 := K2.frozen y1 (by omega) nT2
      replace z2 := K2.cell z2 (by omega) nT2
      replace y2 := K2.frozen y2 (by omega) nT2
      replace z3 := K2.cell z3 (by omega) nT2
      replace y3 := K2.frozen y3 (by omega) nT2
      have hz2 : w.heap.size < w2.heap.size := by have := K2.size; omega
      have A2 : Below w2.heap.size w2 (w2.alloc (.cells #[.int .i64 0, .int .i64 rt] 40)) := (Below.refl _ _).alloc (Nat.le_refl _) _
      have m2 : (w2.alloc (.cells #[.int .i64 0, .int .i64 rt] 40)).cell? ⟨w2.heap.size, 0, none⟩ = some (.int .i64 0) := by simp
      have m3 : (w2.alloc (.cells #[.int .i64 0, .int .i64 rt] 40)).cell? ⟨w2.heap.size, 1, none⟩ = some (.int .i64 rt) := by simp
      have HJ3 : Hid _ := J2.below A2
      replace z0 := cell_later A2 z0
      replace y0 := frozen_later A2 hz2 y0
      replace z1 := cell_later A2 z1
      replace y1 := frozen_later A2 hz2 y1
      replace z2 := cell_later A2 z2
      replace y2 := frozen_later A2 hz2 y2
      replace z3 := cell_later A2 z3
      replace y3 := frozen_later A2 hz2 y3
      have HKF : Hid (KeptS S w (w2.alloc (.cells #[.int .i64 0, .int .i64 rt] 40))) := (HKW.out.trans (K2.mono fun k hk => hk.1.1)).trans (KeptS.below A2)
      have hw12 := K2.size
      have hs2 : (w2.alloc (.cells #[.int .i64 0, .int .i64 rt] 40)).heap.size = w2.heap.size + 1 := by simp
      clear J2 K2 m0 m1 A2
      go_wp2_with fail
      generalize w2.alloc (.cells #[.int .i64 0, .int .i64 rt] 40) = W2 at *
      refine (answer_at HJ3.out hlen (by omega) rt).mono ?_
      rintro e w3 ⟨pa, pn, pc, qa, qn, qc, PK, rfl, FA, hb3, hN, hB⟩
      have hz3 : w.heap.size < W2.heap.size := by omega
      replace z0 := cell_later hb3 z0
      replace y0 := frozen_later hb3 hz3 y0
      replace z1 := cell_later hb3 z1
      replace y1 := frozen_later hb3 hz3 y1
      replace z2 := cell_later hb3 z2
      replace y2 := frozen_later hb3 hz3 y2
      replace z3 := cell_later hb3 z3
      replace y3 := frozen_later hb3 hz3 y3
      have HFA : Hid _ := FA
      have HKG : Hid (KeptS S w w3) := HKF.out.trans (KeptS.below hb3)
      have HN3 : Hid _ := hN
      have HB3 : Hid _ := hB
      clear FA hb3 hN hB m2 m3
      go_wp2
      refine bodyPost_ret (v := .agg #[.int .i64 0, .int .i64 rt, .slice pa pn pc, .slice qa qn qc]) (by simp [results, Try.results192, go_sem, z0, z1, z2, z3]) rfl (Or.inr ⟨rfl, ⟨_, _, _, _, _, _, PK, rfl, (HFA.out.keptS (S := fun x => x = w.heap.size) ?_ (fun k hk e => by have := HN3.out k hk; omega) (fun hne e => nT2 (e ▸ HB3.out hne))).widen (Nat.le_refl _) (by simp)⟩, ?_⟩)
      · refine KeptS.setCell (KeptS.setCell (KeptS.setCell (KeptS.setCell (KeptS.refl _ _) ?_ _) ?_ _) ?_ _) ?_ _ <;> rfl
      · refine KeptS.setCell (KeptS.setCell (KeptS.setCell (KeptS.setCell HKG.out ?_ _) ?_ _) ?_ _) ?_ _ <;> exact hS _ (Nat.le_refl _)

end Go.Proofs.Ytikjndmgljkhhaa

/- Chapter 4: the program sets and clears places of trees. -/
namespace Go.Proofs.Ytikjndmgljkhhaa
open Go.RowKit

section
variable {o : Bool} {l u : Nat} (an : Option Addr) (nn cn : Nat) (ab : Option Addr) (nb cb : Nat) (K : Nat → KS) (f : Fo) (w : World) (h : FoAt w o l u an nn cn ab nb cb K f) (hn : nn ≤ 2097152) (hb : nb ≤ 2097152) (hK : ∀ i, i < nn → (K i).2.1 ≤ 2097152)
include h hn hb hK

set_option maxRecDepth 20000 in
set_option maxHeartbeats 4000000 in
theorem implClearT_is (root : Int) (at' : Int) (cd rt : Int) (g : Fo) (hc : clearTCode f root at' = cd) (hr : clearRootT f root at' = rt) (hf : clearFo f root at' = g) : Calls Try.prog 160 #[.agg #[.slice an nn cn, .slice ab nb cb], .int .i64 root, .int .i64 at'] w fun e w' => FoRes true w w' e cd rt g := by
  have B : Below w.heap.size w ((w.alloc (.cells #[.slice an nn cn, .slice ab nb cb] 28)).alloc (.cells #[.int .i64 0, .int .i64 0, .slice none 0 0, .slice none 0 0] 88)) := ((Below.refl _ _).alloc (Nat.le_refl _) _).alloc (by simp) _
  have g0 : ((w.alloc (.cells #[.slice an nn cn, .slice ab nb cb] 28)).alloc (.cells #[.int .i64 0, .int .i64 0, .slice none 0 0, .slice none 0 0] 88)).cell? ⟨w.heap.size, 0, none⟩ = some (.slice an nn cn) := by simp
  have g1 : ((w.alloc (.cells #[.slice an nn cn, .slice ab nb cb] 28)).alloc (.cells #[.int .i64 0, .int .i64 0, .slice none 0 0, .slice none 0 0] 88)).cell? ⟨w.heap.size, 1, none⟩ = some (.slice ab nb cb) := by simp
  have z0 : ((w.alloc (.cells #[.slice an nn cn, .slice ab nb cb] 28)).alloc (.cells #[.int .i64 0, .int .i64 0, .slice none 0 0, .slice none 0 0] 88)).cell? ⟨w.heap.size + 1, 0, none⟩ = some (.int .i64 0) := by simp
  have y0 : ((w.alloc (.cells #[.slice an nn cn, .slice ab nb cb] 28)).alloc (.cells #[.int .i64 0, .int .i64 0, .slice none 0 0, .slice none 0 0] 88)).frozen? ⟨w.heap.size + 1, 0, none⟩ = false := by simp
  have z1 : ((w.alloc (.cells #[.slice an nn cn, .slice ab nb cb] 28)).alloc (.cells #[.int .i64 0, .int .i64 0, .slice none 0 0, .slice none 0 0] 88)).cell? ⟨w.heap.size + 1, 1, none⟩ = some (.int .i64 0) := by simp
  have y1 : ((w.alloc (.cells #[.slice an nn cn, .slice ab nb cb] 28)).alloc (.cells #[.int .i64 0, .int .i64 0, .slice none 0 0, .slice none 0 0] 88)).frozen? ⟨w.heap.size + 1, 1, none⟩ = false := by simp
  have z2 : ((w.alloc (.cells #[.slice an nn cn, .slice ab nb cb] 28)).alloc (.cells #[.int .i64 0, .int .i64 0, .slice none 0 0, .slice none 0 0] 88)).cell? ⟨w.heap.size + 1, 2, none⟩ = some (.slice none 0 0) := by simp
  have y2 : ((w.alloc (.cells #[.slice an nn cn, .slice ab nb cb] 28)).alloc (.cells #[.int .i64 0, .int .i64 0, .slice none 0 0, .slice none 0 0] 88)).frozen? ⟨w.heap.size + 1, 2, none⟩ = false := by simp
  have z3 : ((w.alloc (.cells #[.slice an nn cn, .slice ab nb cb] 28)).alloc (.cells #[.int .i64 0, .int .i64 0, .slice none 0 0, .slice none 0 0] 88)).cell? ⟨w.heap.size + 1, 3, none⟩ = some (.slice none 0 0) := by simp
  have y3 : ((w.alloc (.cells #[.slice an nn cn, .slice ab nb cb] 28)).alloc (.cells #[.int .i64 0, .int .i64 0, .slice none 0 0, .slice none 0 0] 88)).frozen? ⟨w.heap.size + 1, 3, none⟩ = false := by simp
  have hz : w.heap.size + 1 < ((w.alloc (.cells #[.slice an nn cn, .slice ab nb cb] 28)).alloc (.cells #[.int .i64 0, .int .i64 0, .slice none 0 0, .slice none 0 0] 88)).heap.size := by simp
  have r := h.below B
  obtain ⟨t, ht⟩ : ∃ t, treeCode f root at' = t := ⟨_, rfl⟩
  have HT : Hid _ := ht
  unfold clearRootT at hr
  unfold clearFo at hf
  rw [hc] at hr hf
  unfold clearTCode at hc
  rw [ht] at hc
  by_cases h0 : t = 0
  · subst h0
    rw [if_pos rfl] at hc
    have TR := tree_of ht
    obtain ⟨tr, hro, x0, x1⟩ := TR
    obtain ⟨a, rfl⟩ : ∃ a : Nat, at' = a := ⟨at'.toNat, by omega⟩
    have ha : a ≤ 15 := by omega
    have HV : Hid _ := tr.inv
    have HRO : Hid _ := hro
    have HASK : Hid _ := ask_clear (tree_of ht)
    have hbc := block_cases tr.inv hro x0 x1
    obtain ⟨y, hy⟩ : ∃ y, blockAt f root (a : Int) = y := ⟨_, rfl⟩
    have HY : Hid _ := hy
    rw [hy] at hc hbc
    by_cases hy0 : y < 0
    · rw [if_pos hy0] at hc
      subst hc
      simp only [atIf, foIf] at hr hf
      rw [if_neg (by decide)] at hr hf
      subst hr
      subst hf
      obtain rfl : y = -1 := by rcases hbc with e | e <;> omega
      clear ht tr hro hbc x0 x1 hy hy0
      go_enter Try.func160, Try.ntmps160
      go_wp2_with fail
      refine (treeFault_is an nn cn ab nb cb K f _ (by exact r) hn hb hK root a 0 HT.out).mono ?_
      rintro e w1 ⟨rfl, hb1⟩
      replace r := r.below hb1
      replace g0 := cell_later hb1 g0
      replace g1 := cell_later hb1 g1
      replace z0 := cell_later hb1 z0
      replace y0 := frozen_later hb1 hz y0
      replace z1 := cell_later hb1 z1
      replace y1 := frozen_later hb1 hz y1
      replace z2 := cell_later hb1 z2
      replace y2 := frozen_later hb1 hz y2
      replace z3 := cell_later hb1 z3
      replace y3 := frozen_later hb1 hz y3
      replace hz := Nat.lt_of_lt_of_le hz hb1.size
      replace B := below_next B hb1
      have hz1 := hz
      clear hb1
      go_wp2_with fail
      refine (blockAt_is an nn cn ab nb cb K f _ (by exact r) root a ha HV.out HRO.out (-1) HY.out).mono ?_
      rintro e w2 ⟨rfl, hb2⟩
      replace z0 := cell_later hb2 z0
      replace y0 := frozen_later hb2 hz y0
      replace z1 := cell_later hb2 z1
      replace y1 := frozen_later hb2 hz y1
      replace z2 := cell_later hb2 z2
      replace y2 := frozen_later hb2 hz y2
      replace z3 := cell_later hb2 z3
      replace y3 := frozen_later hb2 hz y3
      replace hz := Nat.lt_of_lt_of_le hz hb2.size
      replace B := below_next B hb2
      clear hb2 g0 g1 r
      go_wp2
      refine bodyPost_ret (v := .agg #[.int .i64 4, .int .i64 0, .slice none 0 0, .slice none 0 0]) (by simp [results, Try.results160, go_sem, z0, z1, z2, z3]) rfl (FoRes.bad 4 ?_)
      refine Below.setCell (Below.setCell (Below.setCell (Below.setCell B ?_ _) ?_ _) ?_ _) ?_ _ <;> simp
    · rw [if_neg hy0] at hc
      have hyn : (y == -1) = false := by simp; omega
      have HROOT : Hid (0 ≤ root) := by
        refine leaf_root (f := f) (x := (a : Int)) (Decidable.byContradiction fun e => ?_)
        have := HY.out
        unfold blockAt at this
        rw [if_pos (by omega)] at this
        omega
      obtain ⟨⟨rt', c', G⟩, hP⟩ : ∃ x, setPlace f root (a : Int) (-1) = x := ⟨_, rfl⟩
      rw [hP] at hc hr hf
      simp only at hc hr hf
      have HP : Hid _ := hP
      have HBAD : Hid (c' ≠ 0 → cd = c' ∧ rt = 0 ∧ g = ([], [])) := fun e => ⟨hc.symm, by rw [← hr, ← hc]; exact if_neg e, by rw [← hf, ← hc]; exact if_neg e⟩
      have HGOOD : Hid (c' = 0 → cd = 0 ∧ rt = rt' ∧ g = G) := fun e => ⟨hc.symm.trans e, by rw [← hr, ← hc]; exact if_pos e, by rw [← hf, ← hc]; exact if_pos e⟩
      clear ht tr hro hbc x0 x1 hy hy0 hc hr hf hP
      go_enter Try.func160, Try.ntmps160
      go_wp2_with fail
      refine (treeFault_is an nn cn ab nb cb K f _ (by exact r) hn hb hK root a 0 HT.out).mono ?_
      rintro e w1 ⟨rfl, hb1⟩
      replace r := r.below hb1
      replace g0 := cell_later hb1 g0
      replace g1 := cell_later hb1 g1
      replace z0 := cell_later hb1 z0
      replace y0 := frozen_later hb1 hz y0
      replace z1 := cell_later hb1 z1
      replace y1 := frozen_later hb1 hz y1
      replace z2 := cell_later hb1 z2
      replace y2 := frozen_later hb1 hz y2
      replace z3 := cell_later hb1 z3
      replace y3 := frozen_later hb1 hz y3
      replace hz := Nat.lt_of_lt_of_le hz hb1.size
      replace B := below_next B hb1
      have hz1 := hz
      clear hb1
      go_wp2_with fail
      refine (blockAt_is an nn cn ab nb cb K f _ (by exact r) root a ha HV.out HRO.out y HY.out).mono ?_
      rintro e w2 ⟨rfl, hb2⟩
      replace r := r.below hb2
      replace g0 := cell_later hb2 g0
      replace g1 := cell_later hb2 g1
      replace z0 := cell_later hb2 z0
      replace y0 := frozen_later hb2 hz y0
      replace z1 := cell_later hb2 z1
      replace y1 := frozen_later hb2 hz y1
      replace z2 := cell_later hb2 z2
      replace y2 := frozen_later hb2 hz y2
      replace z3 := cell_later hb2 z3
      replace y3 := frozen_later hb2 hz y3
      replace hz := Nat.lt_of_lt_of_le hz hb2.size
      replace B := below_next B hb2
      have hz2 := hz
      clear hb2
      go_wp2_with fail
      refine (groveOf_is an nn cn ab nb cb K f _ (by exact r) HV.out).mono ?_
      rintro e w3 ⟨gb, vn, ab2, nb2, cb2, P, rfl, J, hb2⟩
      have hwg := hb2.size
      have HJ : Hid _ := J
      clear J
      go_wp2_with fail
      refine (treeWith_is HJ.out (fun k hk => Nat.le_trans hwg hk) hwg root a (-1) HASK.out (fun _ => HROOT.out) (rt', c', G) HP.out).mono ?_
      rintro e w5 (⟨hcc, rfl, K5⟩ | ⟨hcc, ⟨pa, pn, pc, qa, qn, qc, PK, rfl, FA⟩, K5⟩)
      · simp only at hcc
        obtain ⟨rfl, rfl, rfl⟩ := HBAD.out hcc
        have hb5 := below_S hb2 K5 hwg
        replace z0 := cell_later hb5 z0
        replace y0 := frozen_later hb5 hz y0
        replace z1 := cell_later hb5 z1
        replace y1 := frozen_later hb5 hz y1
        replace z2 := cell_later hb5 z2
        replace y2 := frozen_later hb5 hz y2
        replace z3 := cell_later hb5 z3
        replace y3 := frozen_later hb5 hz y3
        replace hz := Nat.lt_of_lt_of_le hz hb5.size
        replace B := below_next B hb5
        clear hb5 hb2 K5 g0 g1 r
        go_wp2
        refine bodyPost_ret (v := .agg #[.int .i64 cd, .int .i64 0, .slice none 0 0, .slice none 0 0]) (by simp [results, Try.results160, go_sem, z0, z1, z2, z3]) rfl (FoRes.bad cd ?_)
        refine Below.setCell (Below.setCell (Below.setCell (Below.setCell B ?_ _) ?_ _) ?_ _) ?_ _ <;> simp
      · simp only at hcc FA
        subst hcc
        obtain ⟨rfl, rfl, rfl⟩ := HGOOD.out rfl
        have hb5 := below_S hb2 K5 hwg
        replace z0 := cell_later hb5 z0
        replace y0 := frozen_later hb5 hz y0
        replace z1 := cell_later hb5 z1
        replace y1 := frozen_later hb5 hz y1
        replace z2 := cell_later hb5 z2
        replace y2 := frozen_later hb5 hz y2
        replace z3 := cell_later hb5 z3
        replace y3 := frozen_later hb5 hz y3
        replace hz := Nat.lt_of_lt_of_le hz hb5.size
        replace B := below_next B hb5
        clear hb5 hb2 K5 g0 g1 r
        go_wp2
        refine bodyPost_ret (v := .agg #[.int .i64 0, .int .i64 rt, .slice pa pn pc, .slice qa qn qc]) (by simp [results, Try.results160, go_sem, z0, z1, z2, z3]) rfl ⟨_, _, _, _, _, _, PK, rfl, ?_, ?_⟩
        · refine FoAt.widen (FoAt.kept FA (l := w.heap.size + 1) (u := w.heap.size + 2) ?_ (by omega)) (by omega) ?_
          · refine Kept.setCell (Kept.setCell (Kept.setCell (Kept.setCell (Kept.refl _ _ _) ?_ ?_ _) ?_ ?_ _) ?_ ?_ _) ?_ ?_ _ <;> simp
          · simp
        · refine Below.setCell (Below.setCell (Below.setCell (Below.setCell B ?_ _) ?_ _) ?_ _) ?_ _ <;> simp
  · rw [if_neg h0] at hc
    subst hc
    simp only [atIf, foIf] at hr hf
    rw [if_neg h0] at hr hf
    subst hr
    subst hf
    have hne : (t != 0) = true := by simp [h0]
    clear h0 ht
    go_enter Try.func160, Try.ntmps160
    go_wp2_with fail
    refine (treeFault_is an nn cn ab nb cb K f _ (by exact r) hn hb hK root at' t HT.out).mono ?_
    rintro e w1 ⟨rfl, hb1⟩
    replace r := r.below hb1
    replace g0 := cell_later hb1 g0
    replace g1 := cell_later hb1 g1
    replace z0 := cell_later hb1 z0
    replace y0 := frozen_later hb1 hz y0
    replace z1 := cell_later hb1 z1
    replace y1 := frozen_later hb1 hz y1
    replace z2 := cell_later hb1 z2
    replace y2 := frozen_later hb1 hz y2
    replace z3 := cell_later hb1 z3
    replace y3 := frozen_later hb1 hz y3
    replace hz := Nat.lt_of_lt_of_le hz hb1.size
    replace B := below_next B hb1
    have hz1 := hz
    clear hb1
    clear g0 g1 r
    go_wp2
    refine bodyPost_ret (v := .agg #[.int .i64 t, .int .i64 0, .slice none 0 0, .slice none 0 0]) (by simp [results, Try.results160, go_sem, z0, z1, z2, z3]) rfl (FoRes.bad t ?_)
    refine Below.setCell (Below.setCell (Below.setCell (Below.setCell B ?_ _) ?_ _) ?_ _) ?_ _ <;> simp

set_option maxRecDepth 20000 in
set_option maxHeartbeats 4000000 in
theorem implSetT_is (root : Int) (at' : Int) (x : Int) (cd rt : Int) (g : Fo) (hc : setTCode f root at' x = cd) (hr : setRootT f root at' x = rt) (hf : setFo f root at' x = g) : Calls Try.prog 159 #[.agg #[.slice an nn cn, .slice ab nb cb], .int .i64 root, .int .i64 at', .int .i64 x] w fun e w' => FoRes true w w' e cd rt g := by
  have B : Below w.heap.size w ((w.alloc (.cells #[.slice an nn cn, .slice ab nb cb] 28)).alloc (.cells #[.int .i64 0, .int .i64 0, .slice none 0 0, .slice none 0 0] 88)) := ((Below.refl _ _).alloc (Nat.le_refl _) _).alloc (by simp) _
  have g0 : ((w.alloc (.cells #[.slice an nn cn, .slice ab nb cb] 28)).alloc (.cells #[.int .i64 0, .int .i64 0, .slice none 0 0, .slice none 0 0] 88)).cell? ⟨w.heap.size, 0, none⟩ = some (.slice an nn cn) := by simp
  have g1 : ((w.alloc (.cells #[.slice an nn cn, .slice ab nb cb] 28)).alloc (.cells #[.int .i64 0, .int .i64 0, .slice none 0 0, .slice none 0 0] 88)).cell? ⟨w.heap.size, 1, none⟩ = some (.slice ab nb cb) := by simp
  have z0 : ((w.alloc (.cells #[.slice an nn cn, .slice ab nb cb] 28)).alloc (.cells #[.int .i64 0, .int .i64 0, .slice none 0 0, .slice none 0 0] 88)).cell? ⟨w.heap.size + 1, 0, none⟩ = some (.int .i64 0) := by simp
  have y0 : ((w.alloc (.cells #[.slice an nn cn, .slice ab nb cb] 28)).alloc (.cells #[.int .i64 0, .int .i64 0, .slice none 0 0, .slice none 0 0] 88)).frozen? ⟨w.heap.size + 1, 0, none⟩ = false := by simp
  have z1 : ((w.alloc (.cells #[.slice an nn cn, .slice ab nb cb] 28)).alloc (.cells #[.int .i64 0, .int .i64 0, .slice none 0 0, .slice none 0 0] 88)).cell? ⟨w.heap.size + 1, 1, none⟩ = some (.int .i64 0) := by simp
  have y1 : ((w.alloc (.cells #[.slice an nn cn, .slice ab nb cb] 28)).alloc (.cells #[.int .i64 0, .int .i64 0, .slice none 0 0, .slice none 0 0] 88)).frozen? ⟨w.heap.size + 1, 1, none⟩ = false := by simp
  have z2 : ((w.alloc (.cells #[.slice an nn cn, .slice ab nb cb] 28)).alloc (.cells #[.int .i64 0, .int .i64 0, .slice none 0 0, .slice none 0 0] 88)).cell? ⟨w.heap.size + 1, 2, none⟩ = some (.slice none 0 0) := by simp
  have y2 : ((w.alloc (.cells #[.slice an nn cn, .slice ab nb cb] 28)).alloc (.cells #[.int .i64 0, .int .i64 0, .slice none 0 0, .slice none 0 0] 88)).frozen? ⟨w.heap.size + 1, 2, none⟩ = false := by simp
  have z3 : ((w.alloc (.cells #[.slice an nn cn, .slice ab nb cb] 28)).alloc (.cells #[.int .i64 0, .int .i64 0, .slice none 0 0, .slice none 0 0] 88)).cell? ⟨w.heap.size + 1, 3, none⟩ = some (.slice none 0 0) := by simp
  have y3 : ((w.alloc (.cells #[.slice an nn cn, .slice ab nb cb] 28)).alloc (.cells #[.int .i64 0, .int .i64 0, .slice none 0 0, .slice none 0 0] 88)).frozen? ⟨w.heap.size + 1, 3, none⟩ = false := by simp
  have hz : w.heap.size + 1 < ((w.alloc (.cells #[.slice an nn cn, .slice ab nb cb] 28)).alloc (.cells #[.int .i64 0, .int .i64 0, .slice none 0 0, .slice none 0 0] 88)).heap.size := by simp
  have r := h.below B
  obtain ⟨t, ht⟩ : ∃ t, treeCode f root at' = t := ⟨_, rfl⟩
  have HT : Hid _ := ht
  unfold setRootT at hr
  unfold setFo at hf
  rw [hc] at hr hf
  unfold setTCode at hc
  rw [ht] at hc
  by_cases h0 : t = 0
  · subst h0
    rw [if_pos rfl] at hc
    have TR := tree_of ht
    obtain ⟨tr, hro, x0, x1⟩ := TR
    obtain ⟨a, rfl⟩ : ∃ a : Nat, at' = a := ⟨at'.toNat, by omega⟩
    have ha : a ≤ 15 := by omega
    have hbf : blkFault f.2 = 0 := noFault_of tr.inv.nb tr.inv.bk
    obtain ⟨tc, htc⟩ : ∃ c, takeCode f.2 x = c := ⟨_, rfl⟩
    obtain ⟨ta, hta⟩ : ∃ c : Int, (takeAt f.2 x : Int) = c := ⟨_, rfl⟩
    obtain ⟨tl, htl⟩ : ∃ c, takeList f.2 x = c := ⟨_, rfl⟩
    have HTC : Hid _ := htc
    have HTA : Hid _ := hta
    have HTL : Hid _ := htl
    by_cases ht0 : tc = 0
    · subst ht0
      have hdb : dataB x = true := by
        unfold takeCode at htc
        rw [if_pos hbf] at htc
        cases hd : dataB x with
        | true => rfl
        | false => rw [hd] at htc; cases htc
      rw [hdb, if_pos rfl] at hc
      obtain ⟨k, hk⟩ : ∃ k, freeAt f.2 = some k := by
        cases hk : freeAt f.2 with
        | some k => exact ⟨k, rfl⟩
        | none => unfold takeCode at htc; rw [if_pos hbf, hdb, hk] at htc; cases htc
      have hta' : ta = (k : Int) := by rw [← hta]; unfold takeAt; rw [htc, if_pos rfl, hk]; rfl
      have htl' : tl = f.2.set k (1, x) := by rw [← htl]; unfold takeList; rw [htc, if_pos rfl, hk]; rfl
      unfold dataB at hdb
      have hdx := of_decide_eq_true hdb
      have HASK : Hid _ := ask_take (tree_of ht) hk hdx.1 hdx.2
      subst hta'
      subst htl'
      unfold setTF at hr hf
      rw [hk] at hc hr hf
      simp only at hc hr hf
      obtain ⟨⟨rt', c', G⟩, hP⟩ : ∃ y, setPlace (f.1, f.2.set k (1, x)) root (a : Int) (k : Int) = y := ⟨_, rfl⟩
      rw [hP] at hc hr hf
      simp only at hc hr hf
      have HP : Hid _ := hP
      have HBAD : Hid (c' ≠ 0 → cd = c' ∧ rt = 0 ∧ g = ([], [])) := fun e => ⟨hc.symm, by rw [← hr, ← hc]; exact if_neg e, by rw [← hf, ← hc]; exact if_neg e⟩
      have HGOOD : Hid (c' = 0 → cd = 0 ∧ rt = rt' ∧ g = G) := fun e => ⟨hc.symm.trans e, by rw [← hr, ← hc]; exact if_pos e, by rw [← hf, ← hc]; exact if_pos e⟩
      clear ht tr hro x0 x1 hc hr hf hP htc hta htl hk hdb hdx hbf
      go_enter Try.func159, Try.ntmps159
      go_wp2_with fail
      refine (treeFault_is an nn cn ab nb cb K f _ (by exact r) hn hb hK root a 0 HT.out).mono ?_
      rintro e w1 ⟨rfl, hb1⟩
      replace r := r.below hb1
      replace g0 := cell_later hb1 g0
      replace g1 := cell_later hb1 g1
      replace z0 := cell_later hb1 z0
      replace y0 := frozen_later hb1 hz y0
      replace z1 := cell_later hb1 z1
      replace y1 := frozen_later hb1 hz y1
      replace z2 := cell_later hb1 z2
      replace y2 := frozen_later hb1 hz y2
      replace z3 := cell_later hb1 z3
      replace y3 := frozen_later hb1 hz y3
      replace hz := Nat.lt_of_lt_of_le hz hb1.size
      replace B := below_next B hb1
      have hz1 := hz
      clear hb1
      go_wp2_with fail
      refine (implTakeBlock_is ab nb cb f.2 _ (by exact r.blocks) hb x 0 (k : Int) _ HTC.out HTA.out HTL.out).mono ?_
      rintro e w2 ⟨ra, rn, rc, rfl, RR, hb2⟩
      replace r := r.below hb2
      replace g0 := cell_later hb2 g0
      replace g1 := cell_later hb2 g1
      replace z0 := cell_later hb2 z0
      replace y0 := frozen_later hb2 hz y0
      replace z1 := cell_later hb2 z1
      replace y1 := frozen_later hb2 hz y1
      replace z2 := cell_later hb2 z2
      replace y2 := frozen_later hb2 hz y2
      replace z3 := cell_later hb2 z3
      replace y3 := frozen_later hb2 hz y3
      replace hz := Nat.lt_of_lt_of_le hz hb2.size
      replace B := below_next B hb2
      have hz2 := hz
      have A2 : Below w2.heap.size w2 (w2.alloc (.cells #[.int .i64 0, .int .i64 (k : Int), .slice ra rn rc] 144)) := (Below.refl _ _).alloc (Nat.le_refl _) _
      have q0 : (w2.alloc (.cells #[.int .i64 0, .int .i64 (k : Int), .slice ra rn rc] 144)).cell? ⟨w2.heap.size, 0, none⟩ = some (.int .i64 0) := by simp
      have q1 : (w2.alloc (.cells #[.int .i64 0, .int .i64 (k : Int), .slice ra rn rc] 144)).cell? ⟨w2.heap.size, 1, none⟩ = some (.int .i64 (k : Int)) := by simp
      have q2 : (w2.alloc (.cells #[.int .i64 0, .int .i64 (k : Int), .slice ra rn rc] 144)).cell? ⟨w2.heap.size, 2, none⟩ = some (.slice ra rn rc) := by simp
      have RR2 := RR.below A2
      clear hb2
      replace r := r.below A2
      replace g0 := cell_later A2 g0
      replace g1 := cell_later A2 g1
      replace z0 := cell_later A2 z0
      replace y0 := frozen_later A2 hz y0
      replace z1 := cell_later A2 z1
      replace y1 := frozen_later A2 hz y1
      replace z2 := cell_later A2 z2
      replace y2 := frozen_later A2 hz y2
      replace z3 := cell_later A2 z3
      replace y3 := frozen_later A2 hz y3
      replace hz := Nat.lt_of_lt_of_le hz A2.size
      replace B := below_next B A2
      have hz3 := hz
      have hA2s : (w2.alloc (.cells #[.int .i64 0, .int .i64 (k : Int), .slice ra rn rc] 144)).heap.size = w2.heap.size + 1 := by simp
      go_wp2_with fail
      generalize w2.alloc (.cells #[.int .i64 0, .int .i64 (k : Int), .slice ra rn rc] 144) = w3 at *
      have RF : FoAt w3 false 0 (max u w3.heap.size) an nn cn ra rn rc K (f.1, f.2.set k (1, x)) := ⟨⟨r.nodes.len, (r.nodes.row.weak).widen (Nat.zero_le _) (Nat.le_max_left _ _), fun i hi => ((r.nodes.kids i hi).weak).widen (Nat.zero_le _) (Nat.le_max_left _ _), fun hx => by cases hx⟩, (RR2.weak).widen (Nat.zero_le _) (Nat.le_trans (by omega) (Nat.le_max_right _ _)), fun hx => by cases hx⟩
      refine (groveOf_is an nn cn ra rn rc K (f.1, f.2.set k (1, x)) w3 RF HASK.out.inv).mono ?_
      rintro e w4 ⟨gb, vn, ab2, nb2, cb2, P, rfl, J, hb2⟩
      have hwg := hb2.size
      replace q1 := cell_later hb2 q1
      have HJ : Hid _ := J
      clear J RF RR RR2 A2 q0 q2
      go_wp2_with fail
      refine (treeWith_is HJ.out (fun k hk => Nat.le_trans hwg hk) hwg root a (k : Int) HASK.out (fun e => by omega) (rt', c', G) HP.out).mono ?_
      rintro e w5 (⟨hcc, rfl, K5⟩ | ⟨hcc, ⟨pa, pn, pc, qa, qn, qc, PK, rfl, FA⟩, K5⟩)
      · simp only at hcc
        obtain ⟨rfl, rfl, rfl⟩ := HBAD.out hcc
        have hb5 := below_S hb2 K5 hwg
        replace z0 := cell_later hb5 z0
        replace y0 := frozen_later hb5 hz y0
        replace z1 := cell_later hb5 z1
        replace y1 := frozen_later hb5 hz y1
        replace z2 := cell_later hb5 z2
        replace y2 := frozen_later hb5 hz y2
        replace z3 := cell_later hb5 z3
        replace y3 := frozen_later hb5 hz y3
        replace hz := Nat.lt_of_lt_of_le hz hb5.size
        replace B := below_next B hb5
        clear hb5 hb2 K5 g0 g1 r
        go_wp2
        refine bodyPost_ret (v := .agg #[.int .i64 cd, .int .i64 0, .slice none 0 0, .slice none 0 0]) (by simp [results, Try.results159, go_sem, z0, z1, z2, z3]) rfl (FoRes.bad cd ?_)
        refine Below.setCell (Below.setCell (Below.setCell (Below.setCell B ?_ _) ?_ _) ?_ _) ?_ _ <;> simp
      · simp only at hcc FA
        subst hcc
        obtain ⟨rfl, rfl, rfl⟩ := HGOOD.out rfl
        have hb5 := below_S hb2 K5 hwg
        replace z0 := cell_later hb5 z0
        replace y0 := frozen_later hb5 hz y0
        replace z1 := cell_later hb5 z1
        replace y1 := frozen_later hb5 hz y1
        replace z2 := cell_later hb5 z2
        replace y2 := frozen_later hb5 hz y2
        replace z3 := cell_later hb5 z3
        replace y3 := frozen_later hb5 hz y3
        replace hz := Nat.lt_of_lt_of_le hz hb5.size
        replace B := below_next B hb5
        clear hb5 hb2 K5 g0 g1 r
        go_wp2
        refine bodyPost_ret (v := .agg #[.int .i64 0, .int .i64 rt, .slice pa pn pc, .slice qa qn qc]) (by simp [results, Try.results159, go_sem, z0, z1, z2, z3]) rfl ⟨_, _, _, _, _, _, PK, rfl, ?_, ?_⟩
        · refine FoAt.widen (FoAt.kept FA (l := w.heap.size + 1) (u := w.heap.size + 2) ?_ (by omega)) (by omega) ?_
          · refine Kept.setCell (Kept.setCell (Kept.setCell (Kept.setCell (Kept.refl _ _ _) ?_ ?_ _) ?_ ?_ _) ?_ ?_ _) ?_ ?_ _ <;> simp
          · simp
        · refine Below.setCell (Below.setCell (Below.setCell (Below.setCell B ?_ _) ?_ _) ?_ _) ?_ _ <;> simp
    · have hcd : cd = tc := by
        rw [← hc, ← htc]
        unfold takeCode
        rw [if_pos hbf]
        cases hd : dataB x with
        | false => rfl
        | true =>
          rw [if_pos rfl, if_pos rfl]
          cases hk : freeAt f.2 with
          | none => rfl
          | some k =>
            unfold takeCode at htc
            rw [if_pos hbf, hd, if_pos rfl, hk, if_neg (by simp)] at htc
            exact absurd htc.symm ht0
      subst hcd
      simp only [atIf, foIf] at hr hf
      rw [if_neg ht0] at hr hf
      subst hr
      subst hf
      have hne : (cd != 0) = true := by simp [ht0]
      clear ht tr hro x0 x1 hc htc hta htl hbf ht0
      go_enter Try.func159, Try.ntmps159
      go_wp2_with fail
      refine (treeFault_is an nn cn ab nb cb K f _ (by exact r) hn hb hK root a 0 HT.out).mono ?_
      rintro e w1 ⟨rfl, hb1⟩
      replace r := r.below hb1
      replace g0 := cell_later hb1 g0
      replace g1 := cell_later hb1 g1
      replace z0 := cell_later hb1 z0
      replace y0 := frozen_later hb1 hz y0
      replace z1 := cell_later hb1 z1
      replace y1 := frozen_later hb1 hz y1
      replace z2 := cell_later hb1 z2
      replace y2 := frozen_later hb1 hz y2
      replace z3 := cell_later hb1 z3
      replace y3 := frozen_later hb1 hz y3
      replace hz := Nat.lt_of_lt_of_le hz hb1.size
      replace B := below_next B hb1
      have hz1 := hz
      clear hb1
      go_wp2_with fail
      refine (implTakeBlock_is ab nb cb f.2 _ (by exact r.blocks) hb x cd ta tl HTC.out HTA.out HTL.out).mono ?_
      rintro e w2 ⟨ra, rn, rc, rfl, RR, hb2⟩
      replace z0 := cell_later hb2 z0
      replace y0 := frozen_later hb2 hz y0
      replace z1 := cell_later hb2 z1
      replace y1 := frozen_later hb2 hz y1
      replace z2 := cell_later hb2 z2
      replace y2 := frozen_later hb2 hz y2
      replace z3 := cell_later hb2 z3
      replace y3 := frozen_later hb2 hz y3
      replace hz := Nat.lt_of_lt_of_le hz hb2.size
      replace B := below_next B hb2
      have hz2 := hz
      clear hb2 RR g0 g1 r
      go_wp2
      refine bodyPost_ret (v := .agg #[.int .i64 cd, .int .i64 0, .slice none 0 0, .slice none 0 0]) (by simp [results, Try.results159, go_sem, z0, z1, z2, z3, hz2]) rfl (FoRes.bad cd ?_)
      refine Below.alloc (Below.setCell (Below.setCell (Below.setCell (Below.setCell B ?_ _) ?_ _) ?_ _) ?_ _) ?_ _ <;> simp <;> omega
  · rw [if_neg h0] at hc
    subst hc
    simp only [atIf, foIf] at hr hf
    rw [if_neg h0] at hr hf
    subst hr
    subst hf
    have hne : (t != 0) = true := by simp [h0]
    clear h0 ht
    go_enter Try.func159, Try.ntmps159
    go_wp2_with fail
    refine (treeFault_is an nn cn ab nb cb K f _ (by exact r) hn hb hK root at' t HT.out).mono ?_
    rintro e w1 ⟨rfl, hb1⟩
    replace r := r.below hb1
    replace g0 := cell_later hb1 g0
    replace g1 := cell_later hb1 g1
    replace z0 := cell_later hb1 z0
    replace y0 := frozen_later hb1 hz y0
    replace z1 := cell_later hb1 z1
    replace y1 := frozen_later hb1 hz y1
    replace z2 := cell_later hb1 z2
    replace y2 := frozen_later hb1 hz y2
    replace z3 := cell_later hb1 z3
    replace y3 := frozen_later hb1 hz y3
    replace hz := Nat.lt_of_lt_of_le hz hb1.size
    replace B := below_next B hb1
    have hz1 := hz
    clear hb1
    clear g0 g1 r
    go_wp2
    refine bodyPost_ret (v := .agg #[.int .i64 t, .int .i64 0, .slice none 0 0, .slice none 0 0]) (by simp [results, Try.results159, go_sem, z0, z1, z2, z3]) rfl (FoRes.bad t ?_)
    refine Below.setCell (Below.setCell (Below.setCell (Below.setCell B ?_ _) ?_ _) ?_ _) ?_ _ <;> simp
end

end Go.Proofs.Ytikjndmgljkhhaa

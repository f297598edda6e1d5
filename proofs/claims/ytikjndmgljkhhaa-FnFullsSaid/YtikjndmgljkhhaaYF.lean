/- Chapter 5: a forest copied by the program. -/
import Derived.Test.YtikjndmgljkhhaaA1
import Derived.Test.YtikjndmgljkhhaaZM
namespace Go.Proofs.Ytikjndmgljkhhaa
open Go.RowKit

theorem ncells_one (K : Nat → KS) (ns : List Nd) : ∀ u ∈ ncells K ns, u.oneCell' = true := fun u hu => by
  unfold ncells flat3 at hu
  rw [List.mem_map] at hu
  obtain ⟨j, _, e⟩ := hu
  rw [← e]
  split
  · rfl
  · split <;> rfl
theorem ints_one' (xs : List Int) : ∀ u ∈ ints xs, u.oneCell' = true := fun u hu => by
  unfold ints at hu
  rw [List.mem_map] at hu
  obtain ⟨j, _, e⟩ := hu
  rw [← e]
  rfl
theorem flat3_third {n : Nat} {g0 g1 g2 : Nat → Value} {i : Nat} (_ : i < n) (c : Value) : (flat3 n g0 g1 g2).set (i * 3 + 2) c = flat3 n g0 g1 (fun j => if j = i then c else g2 j) := by
  apply List.ext_getElem (by simp [flat3])
  intro j h1 h2
  simp only [List.getElem_set, flat3, List.getElem_map, List.getElem_range]
  by_cases e : i * 3 + 2 = j
  · subst e
    rw [if_pos rfl, if_neg (by omega), if_neg (by omega), if_pos (by omega)]
  · rw [if_neg e]
    by_cases e0 : j % 3 = 0
    · rw [if_pos e0, if_pos e0]
    · rw [if_neg e0, if_neg e0]
      by_cases e1 : j % 3 = 1
      · rw [if_pos e1, if_pos e1]
      · rw [if_neg e1, if_neg e1, if_neg (by omega)]
set_option maxRecDepth 20000 in
set_option maxHeartbeats 1000000 in
theorem cloneN_is {o : Bool} {l u : Nat} (ab : Option Addr) (nb cb : Nat) (K : Nat → KS) (ns : List Nd) (w : World) (h : RowAt w o l u 3 ab nb cb (ncells K ns)) (hn : nb ≤ 1048576) :
    Calls Try.prog 186 #[.slice ab nb cb] w fun e w' => ∃ ra rc, e = .returned (.slice ra nb rc) ∧ RowAt w' true w.heap.size w'.heap.size 3 ra nb rc (ncells K ns) ∧ Below w.heap.size w w' := by
  obtain ⟨j0, hj0, hy0, hy1, hy2⟩ := info_parts Try.infoNode
  have hq : ∀ W, (binOp .eql 25 (.slice ab nb cb) (.slice none 0 0)).run Try.prog W = .ok (.bool ab.isNone) W := fun W => Lib.run_eql_slice_nil W _ _ ab nb cb 0 0 Try.underlying25
  cases ab with
  | none =>
    simp only [Option.isNone_none] at hq
    have hz : nb = 0 := Decidable.byContradiction fun hne => by obtain ⟨_, _, e, _⟩ := h.cells hne; cases e
    subst hz
    have hbs : ncells K ns = [] := List.eq_nil_of_length_eq_zero (by have := h.len; omega)
    rw [hbs]
    go_enter Try.func186, Try.ntmps186
    go_wp2
    go_ret
    exact ⟨none, 0, rfl, RowAt.nil _ _ _ _ _, Below.refl _ _⟩
  | some ad =>
    simp only [Option.isNone_some] at hq
    have B3 : Below w.heap.size w (w.alloc (.cells #[] 148)) := (Below.refl _ _).alloc (Nat.le_refl _) _
    obtain ⟨ad', cp, w4, hr4, R4, B4, -⟩ := run_append_fresh (P := Try.prog) (w.alloc (.cells #[] 148)) 25 25 148 j0 (.agg #[.int .i64 0, .bool false, .slice none 0 0]) 3 40 Try.underlying25 hj0 hy0 hy1 hy2 (by rw [hy1]; rfl) w.heap.size (some ad) nb cb (ncells K ns) (h.below B3) (ncells_one K ns) hn (by omega)
    go_enter Try.func186, Try.ntmps186
    go_wp2_with (at_builtin; refine Lib.wpList_append_run _ rfl _ _ _ _ rfl _ _ rfl rfl _ _ hr4 ?_)
    have B5 := below_next B3 B4
    have R5 : RowAt w4 true w.heap.size w4.heap.size 3 (some ad') nb cp (ncells K ns) := R4.widen (by simp) (Nat.le_refl _)
    clear B3 B4 R4 hr4
    go_wp2
    go_ret
    exact ⟨some ad', cp, rfl, R5, B5⟩
set_option maxRecDepth 20000 in
set_option maxHeartbeats 1000000 in
theorem cloneI_any {o : Bool} {l u : Nat} (ab : Option Addr) (nb cb : Nat) (bs : List Int) (w : World) (h : RowAt w o l u 1 ab nb cb (ints bs)) (hn : nb ≤ 1048576) :
    Calls Try.prog 81 #[.slice ab nb cb] w fun e w' => ∃ ra rc, e = .returned (.slice ra nb rc) ∧ RowAt w' true w.heap.size w'.heap.size 1 ra nb rc (ints bs) ∧ Below w.heap.size w w' := by
  obtain ⟨j0, hj0, hy0, hy1, hy2⟩ := info_parts Try.info2'
  have hq : ∀ W, (binOp .eql 52 (.slice ab nb cb) (.slice none 0 0)).run Try.prog W = .ok (.bool ab.isNone) W := fun W => Lib.run_eql_slice_nil W _ _ ab nb cb 0 0 Try.underlying52
  cases ab with
  | none =>
    simp only [Option.isNone_none] at hq
    have hz : nb = 0 := Decidable.byContradiction fun hne => by obtain ⟨_, _, e, _⟩ := h.cells hne; cases e
    subst hz
    have hbs : ints bs = [] := List.eq_nil_of_length_eq_zero (by have := h.len; omega)
    rw [hbs]
    go_enter Try.func81, Try.ntmps81
    go_wp2
    go_ret
    exact ⟨none, 0, rfl, RowAt.nil _ _ _ _ _, Below.refl _ _⟩
  | some ad =>
    simp only [Option.isNone_some] at hq
    have B3 : Below w.heap.size w (w.alloc (.cells #[] 2)) := (Below.refl _ _).alloc (Nat.le_refl _) _
    obtain ⟨ad', cp, w4, hr4, R4, B4, -⟩ := run_append_fresh (P := Try.prog) (w.alloc (.cells #[] 2)) 52 52 2 j0 (.int .i64 0) 1 8 Try.underlying52 hj0 hy0 hy1 hy2 (by rw [hy1]; rfl) w.heap.size (some ad) nb cb (ints bs) (h.below B3) (ints_one' bs) hn (by omega)
    go_enter Try.func81, Try.ntmps81
    go_wp2_with (at_builtin; refine Lib.wpList_append_run _ rfl _ _ _ _ rfl _ _ rfl rfl _ _ hr4 ?_)
    have B5 := below_next B3 B4
    have R5 : RowAt w4 true w.heap.size w4.heap.size 1 (some ad') nb cp (ints bs) := R4.widen (by simp) (Nat.le_refl _)
    clear B3 B4 R4 hr4
    go_wp2
    go_ret
    exact ⟨some ad', cp, rfl, R5, B5⟩

end Go.Proofs.Ytikjndmgljkhhaa

/- Chapter 5: a forest copied by the program, whole. -/
namespace Go.Proofs.Ytikjndmgljkhhaa
open Go.RowKit

theorem ncells_same {K K' : Nat → KS} {ns : List Nd} (h : ∀ j, j < ns.length → K j = K' j) : ncells K ns = ncells K' ns := flat3_congr fun j hj => ⟨rfl, rfl, by rw [h j hj]⟩
theorem ncells_third {K : Nat → KS} {ns : List Nd} {i : Nat} (h : i < ns.length) (k : KS) : (ncells K ns).set (i * 3 + 2) (ksv k) = ncells (fun j => if j = i then k else K j) ns := by
  unfold ncells
  rw [flat3_third h]
  exact flat3_congr fun j _ => ⟨rfl, rfl, by by_cases e : j = i <;> simp [e]⟩

theorem RowAt.below' {w w' : World} {own : Bool} {lo hi size : Nat} {ao : Option Addr} {n cap : Nat} {cs : List Value} (h : RowAt w own lo hi size ao n cap cs) (hk : Below w.heap.size w w') : RowAt w' own lo hi size ao n cap cs := h.below hk
set_option maxRecDepth 20000 in
set_option maxHeartbeats 4000000 in
theorem copyForest_is {o : Bool} {l u : Nat} (an : Option Addr) (nn cn : Nat) (ab : Option Addr) (nb cb : Nat) (K : Nat → KS) (f : Fo) (w : World) (h : FoAt w o l u an nn cn ab nb cb K f) (hn : nn ≤ 1048576) (hb : nb ≤ 1048576) (hK : ∀ i, i < nn → (K i).2.1 ≤ 1048576) :
    Calls Try.prog 155 #[.agg #[.slice an nn cn, .slice ab nb cb]] w fun e w' => ∃ ra rc qb qc K', e = .returned (.agg #[.slice ra nn rc, .slice qb nb qc]) ∧ FoAt w' true w.heap.size w'.heap.size ra nn rc qb nb qc K' f ∧ Below w.heap.size w w' := by
  have hl := h.nodes.len
  have B0 : Below w.heap.size w ((w.alloc (.cells #[.slice an nn cn, .slice ab nb cb] 28)).alloc (.cells #[.slice none 0 0, .slice none 0 0] 28)) := ((Below.refl _ _).alloc (Nat.le_refl _) _).alloc (by simp) _
  have s0 : ((w.alloc (.cells #[.slice an nn cn, .slice ab nb cb] 28)).alloc (.cells #[.slice none 0 0, .slice none 0 0] 28)).heap.size = w.heap.size + 2 := by simp
  have G1 : ((w.alloc (.cells #[.slice an nn cn, .slice ab nb cb] 28)).alloc (.cells #[.slice none 0 0, .slice none 0 0] 28)).cell? ⟨w.heap.size, 1, none⟩ = some (.slice ab nb cb) := by simp
  have Z0 : ((w.alloc (.cells #[.slice an nn cn, .slice ab nb cb] 28)).alloc (.cells #[.slice none 0 0, .slice none 0 0] 28)).cell? ⟨w.heap.size + 1, 0, none⟩ = some (.slice none 0 0) := by simp
  have Z1 : ((w.alloc (.cells #[.slice an nn cn, .slice ab nb cb] 28)).alloc (.cells #[.slice none 0 0, .slice none 0 0] 28)).cell? ⟨w.heap.size + 1, 1, none⟩ = some (.slice none 0 0) := by simp
  have Y0 : ((w.alloc (.cells #[.slice an nn cn, .slice ab nb cb] 28)).alloc (.cells #[.slice none 0 0, .slice none 0 0] 28)).frozen? ⟨w.heap.size + 1, 0, none⟩ = false := by simp
  have Y1 : ((w.alloc (.cells #[.slice an nn cn, .slice ab nb cb] 28)).alloc (.cells #[.slice none 0 0, .slice none 0 0] 28)).frozen? ⟨w.heap.size + 1, 1, none⟩ = false := by simp
  have hz : w.heap.size + 1 < ((w.alloc (.cells #[.slice an nn cn, .slice ab nb cb] 28)).alloc (.cells #[.slice none 0 0, .slice none 0 0] 28)).heap.size := by simp
  have HK : Hid _ := hK
  clear hK
  go_enter Try.func155, Try.ntmps155
  go_wp2_with fail
  refine (cloneN_is an nn cn K f.1 _ (h.nodes.row.below B0) hn).mono ?_
  rintro e w1 ⟨ra, rc, rfl, R, B1⟩
  rw [s0] at R
  replace G1 := cell_later B1 G1
  replace Z0 := cell_later B1 Z0
  replace Z1 := cell_later B1 Z1
  replace Y0 := frozen_later B1 hz Y0
  replace Y1 := frozen_later B1 hz Y1
  have s1 : w.heap.size + 2 ≤ w1.heap.size := by have := B1.size; omega
  have Bw := below_next B0 B1
  clear B0 B1 hz s0
  have S1 : Hid _ := s1
  have WL : Hid (w.heap.size + 1 < w1.heap.size) := by show _ < _; omega
  clear s1
  go_wp2
  go_loopw [11] (fun i wr => ∃ (k : Nat) (K' : Nat → KS), k ≤ nn ∧ i = .int .i64 k ∧ RowAt wr true (w.heap.size + 2) w1.heap.size 3 ra nn rc (ncells (fun j => if j < k then K' j else K j) f.1) ∧ (∀ j, j < k → RowAt wr true w1.heap.size wr.heap.size 1 (K' j).1 (K' j).2.1 (K' j).2.2 (ints (f.1.getD j nd0).2.2)) ∧ (∀ j j', j < k → j' < k → j ≠ j' → (K' j).2.1 ≠ 0 → (K' j').2.1 ≠ 0 → sb (K' j).1 ≠ sb (K' j').1) ∧ Kept (w.heap.size + 2) w1.heap.size w1 wr) (fun i _ => nn - (intOf i).toNat)
  case atStart => exact ⟨0, K, Nat.zero_le _, rfl, by simpa using R, fun j hj => absurd hj (Nat.not_lt_zero _), fun j _ hj => absurd hj (Nat.not_lt_zero _), Kept.refl _ _ _⟩
  case round =>
    clear R
    obtain ⟨k, K', hk, rfl, R, hr, hs, KK⟩ := hrel
    have HR : Hid _ := hr
    have HS : Hid _ := hs
    clear hr hs
    have B : Below w.heap.size w wr := Bw.trans (KK.below _ (by omega) Bw.size)
    have WR := KK.size
    have WRH : Hid _ := WR
    clear WR
    by_cases hlt : k < nn
    · have r1 := (h.nodes.kids k hlt).below' B
      have q1 := HK.out k hlt
      have HR2 : Hid _ := R
      obtain ⟨b, off, rfl, hlo, hhi, hbs, cs, fz⟩ := R.cells (by omega)
      have e1 := cs (k * 3) (by omega)
      have e2 := cs (k * 3 + 1) (by omega)
      have e3 := cs (k * 3 + 2) (by omega)
      have y3 := fz rfl (k * 3 + 2) (by omega)
      rw [ncells, flat3_get0 _ _ _ _ _ (by omega)] at e1
      rw [ncells, flat3_get1 _ _ _ _ _ (by omega)] at e2
      rw [ncells, flat3_get2 _ _ _ _ _ (by omega), if_neg (Nat.lt_irrefl _)] at e3
      rw [← Nat.add_assoc] at e2 e3 y3
      obtain ⟨⟨r, lf, ks⟩, hx1⟩ : ∃ x, f.1.getD k nd0 = x := ⟨_, rfl⟩
      obtain ⟨⟨ka, kn, kc⟩, hw1⟩ : ∃ x, K k = x := ⟨_, rfl⟩
      simp only [hx1, hw1, ksv] at e1 e2 e3 r1 q1
      have HX1 : Hid _ := hx1
      clear hx1 hw1 R cs fz
      have hlk : (k : Int) < (nn : Int) := by omega
      have A : Below wr.heap.size wr (wr.alloc (.cells #[.int .i64 r, .bool lf, .slice ka kn kc] 148)) := (Below.refl _ _).alloc (Nat.le_refl _) _
      go_wp2_with fail
      refine (cloneI_any ka kn kc ks _ (r1.below A) q1).mono ?_
      rintro e w2 ⟨qa, qc, rfl, Q, B2⟩
      have B3 := below_next A B2
      have sX : wr.heap.size ≤ (wr.alloc (.cells #[.int .i64 r, .bool lf, .slice ka kn kc] 148)).heap.size := A.size
      have f3 := cell_later B3 e3
      have y3' := frozen_later B3 hbs y3
      have KS : Kept b (b + 1) w2 (w2.setCell ⟨b, off + k * 3 + 2, none⟩ (.slice qa kn qc)) := by refine Kept.setCell (Kept.refl _ _ _) ?_ ?_ _ <;> simp
      have R2 := (HR2.out.below B3).stored (i := k * 3 + 2) (by omega) (.slice qa kn qc)
      have ek : (ncells (fun j => if j < k then K' j else K j) f.1).set (k * 3 + 2) (.slice qa kn qc) = ncells (fun j => if j < k + 1 then (if j = k then (qa, kn, qc) else K' j) else K j) f.1 := by
        rw [show (Value.slice qa kn qc) = ksv (qa, kn, qc) from rfl, ncells_third (by omega)]
        refine ncells_same fun j _ => ?_
        by_cases e : j = k
        · rw [if_pos e, if_pos (by omega), if_pos e]
        · rw [if_neg e]
          by_cases e2 : j < k
          · rw [if_pos e2, if_pos (by omega), if_neg e]
          · rw [if_neg e2, if_neg (by omega)]
      rw [ek, ← Nat.add_assoc] at R2
      have hb1 : b < w1.heap.size := hhi
      have s2 := B3.size
      have s3 := KS.size
      have HQ : Hid (∀ j, j < k + 1 → RowAt (w2.setCell ⟨b, off + k * 3 + 2, none⟩ (.slice qa kn qc)) true w1.heap.size (w2.setCell ⟨b, off + k * 3 + 2, none⟩ (.slice qa kn qc)).heap.size 1 (if j = k then (qa, kn, qc) else K' j).1 (if j = k then (qa, kn, qc) else K' j).2.1 (if j = k then (qa, kn, qc) else K' j).2.2 (ints (f.1.getD j nd0).2.2)) := fun j hj => by
        by_cases e : j = k
        · subst e
          simp only [if_true]
          rw [HX1.out]
          exact (Q.kept KS (Or.inr (by have := WRH.out; omega))).widen (by have := WRH.out; omega) s3
        · simp only [if_neg e]
          exact (((HR.out j (by omega)).below B3).kept KS (Or.inr (by omega))).widen (Nat.le_refl _) (by omega)
      have HT : Hid (∀ j j', j < k + 1 → j' < k + 1 → j ≠ j' → (if j = k then (qa, kn, qc) else K' j).2.1 ≠ 0 → (if j' = k then (qa, kn, qc) else K' j').2.1 ≠ 0 → sb (if j = k then (qa, kn, qc) else K' j).1 ≠ sb (if j' = k then (qa, kn, qc) else K' j').1) := fun j j' h1 h2 h3 n1 n2 => by
        by_cases e : j = k
        · have e' : j' ≠ k := by omega
          simp only [if_pos e, if_neg e'] at n1 n2 ⊢
          have g1 := (HR.out j' (by omega)).block_lt n2
          have g2 := Q.block_lt n1
          omega
        · by_cases e' : j' = k
          · simp only [if_neg e, if_pos e'] at n1 n2 ⊢
            have g1 := (HR.out j (by omega)).block_lt n1
            have g2 := Q.block_lt n2
            omega
          · simp only [if_neg e, if_neg e'] at n1 n2 ⊢
            exact HS.out j j' (by omega) (by omega) h3 n1 n2
      have K2 : Kept (w.heap.size + 2) w1.heap.size w1 (w2.setCell ⟨b, off + k * 3 + 2, none⟩ (.slice qa kn qc)) := (KK.next B3).setCell (p := ⟨b, off + k * 3 + 2, none⟩) hlo hhi _
      have HR3 : Hid _ := R2
      have HK2 : Hid _ := K2
      clear R2 K2 KS Q B2 B3 A ek s2 s3 sX e1 e2 e3 y3 r1
      go_wp2
      go_roundw
      case rel => exact ⟨k + 1, fun j => if j = k then (qa, kn, qc) else K' j, by omega, by go_num, HR3.out, HQ.out, HT.out, HK2.out⟩
      case measure => simp [intOf]; omega
    · obtain rfl : k = nn := by omega
      have g1 := KK.cell G1 (Or.inl (by omega))
      have z0 := KK.cell Z0 (Or.inl (by omega))
      have z1 := KK.cell Z1 (Or.inl (by omega))
      have y0 := KK.frozen WL.out (Or.inl (by omega)) Y0
      have y1 := KK.frozen WL.out (Or.inl (by omega)) Y1
      rw [ncells_same (K' := K') (fun j hj => if_pos (by omega))] at R
      go_wp2_with fail
      refine (cloneB_is ab nb cb f.2 _ (h.blocks.below' B) hb).mono ?_
      rintro e w2 ⟨qb, qc, rfl, Q, B2⟩
      replace z0 := cell_later B2 z0
      replace z1 := cell_later B2 z1
      have wl : w.heap.size + 1 < wr.heap.size := by have := WL.out; have := WRH.out; omega
      replace y0 := frozen_later B2 wl y0
      replace y1 := frozen_later B2 wl y1
      have sz := B2.size
      have B5 := below_step B B.size B2
      have R5 := R.below B2
      have HR5 : Hid _ := fun j hj => (HR.out j hj).below B2
      have HSZ : Hid _ := sz
      have HWL : Hid _ := wl
      clear sz wl B2 g1 R
      go_wp2
      refine bodyPost_ret (v := .agg #[.slice ra k rc, .slice qb nb qc]) (by simp [results, Try.results155, go_sem, z0, z1]) rfl ?_
      have KZ : Kept (w.heap.size + 1) (w.heap.size + 2) w2 ((w2.setCell ⟨w.heap.size + 1, 0, none⟩ (.slice ra k rc)).setCell ⟨w.heap.size + 1, 1, none⟩ (.slice qb nb qc)) := by refine Kept.setCell (Kept.setCell (Kept.refl _ _ _) ?_ ?_ _) ?_ ?_ _ <;> simp
      have q1 := S1.out
      have q2 := WRH.out
      have q3 := HSZ.out
      have q4 := KZ.size
      have NN : NodesAt ((w2.setCell ⟨w.heap.size + 1, 0, none⟩ (.slice ra k rc)).setCell ⟨w.heap.size + 1, 1, none⟩ (.slice qb nb qc)) true w.heap.size wr.heap.size ra k rc K' f.1 := by
        refine ⟨hl, (R5.kept KZ (by omega)).widen (by omega) (by omega), fun j hj => ((HR5.out j hj).kept KZ (by omega)).widen (by omega) (Nat.le_refl _), fun _ j hj hne => ⟨?_, fun j' hj' hd hne' => HS.out j' j hj' hj hd hne' hne⟩⟩
        have g2 := (HR.out j hj).block_lt hne
        have g3 := R5.block_lt (by omega)
        omega
      refine ⟨ra, rc, qb, qc, K', rfl, ⟨NN.widen (Nat.le_refl _) (by omega), (Q.kept KZ (by omega)).widen (by omega) q4, fun _ hne hin => ?_⟩, B5.trans (KZ.below _ (by omega) B5.size)⟩
      have g4 := (NN.within hin).2.1
      have g5 := Q.block_lt hne
      omega

end Go.Proofs.Ytikjndmgljkhhaa

/- Chapter 5: a pool copied by the program; an answer that leaves the pool. -/
namespace Go.Proofs.Ytikjndmgljkhhaa
open Go.RowKit

/-- a pool that is the call's own -/
structure PoIs (w w' : World) (an : Option Addr) (nn cn : Nat) (ab : Option Addr) (nb cb : Nat) (av : Option Addr) (nv cv : Nat) (l1 u1 l2 u2 : Nat) (K : Nat → KS) (f : Fo) (vs : List Vo) : Prop where
  fo : FoAt w' true l1 u1 an nn cn ab nb cb K f
  vol : RowAt w' true l2 u2 3 av nv cv (trips vs)
  far : u1 ≤ l2 ∨ u2 ≤ l1
  lo1 : w.heap.size ≤ l1
  lo2 : w.heap.size ≤ l2
  hi1 : u1 ≤ w'.heap.size
  hi2 : u2 ≤ w'.heap.size
theorem PoIs.keep {w w' w'' : World} {an : Option Addr} {nn cn : Nat} {ab : Option Addr} {nb cb : Nat} {av : Option Addr} {nv cv : Nat} {l1 u1 l2 u2 : Nat} {K : Nat → KS} {f : Fo} {vs : List Vo} (p : PoIs w w' an nn cn ab nb cb av nv cv l1 u1 l2 u2 K f vs) {a b : Nat} (k : Kept a b w' w'') (c1 : u1 ≤ a ∨ b ≤ l1) (c2 : u2 ≤ a ∨ b ≤ l2) : PoIs w w'' an nn cn ab nb cb av nv cv l1 u1 l2 u2 K f vs :=
  ⟨p.fo.kept k c1, p.vol.kept k c2, p.far, p.lo1, p.lo2, Nat.le_trans p.hi1 k.size, Nat.le_trans p.hi2 k.size⟩
theorem PoIs.from {w v w' : World} {an : Option Addr} {nn cn : Nat} {ab : Option Addr} {nb cb : Nat} {av : Option Addr} {nv cv : Nat} {l1 u1 l2 u2 : Nat} {K : Nat → KS} {f : Fo} {vs : List Vo} (p : PoIs v w' an nn cn ab nb cb av nv cv l1 u1 l2 u2 K f vs) (h : w.heap.size ≤ v.heap.size) : PoIs w w' an nn cn ab nb cb av nv cv l1 u1 l2 u2 K f vs :=
  ⟨p.fo, p.vol, p.far, Nat.le_trans h p.lo1, Nat.le_trans h p.lo2, p.hi1, p.hi2⟩

set_option maxRecDepth 20000 in
set_option maxHeartbeats 2000000 in
theorem copyPool_is {o o2 : Bool} {l u l2 u2 : Nat} (an : Option Addr) (nn cn : Nat) (ab : Option Addr) (nb cb : Nat) (av : Option Addr) (nv cv : Nat) (K : Nat → KS) (f : Fo) (vs : List Vo) (w : World) (h : FoAt w o l u an nn cn ab nb cb K f) (hv : RowAt w o2 l2 u2 3 av nv cv (trips vs)) (hn : nn ≤ 1048576) (hb : nb ≤ 1048576) (hK : ∀ i, i < nn → (K i).2.1 ≤ 1048576) (hvn : nv ≤ 1048576) :
    Calls Try.prog 94 #[.agg #[.slice an nn cn, .slice ab nb cb, .slice av nv cv]] w fun e w' => ∃ ra rc qb qc va vc l1 u1 l2 u2 K', e = .returned (.agg #[.slice ra nn rc, .slice qb nb qc, .slice va nv vc]) ∧ PoIs w w' ra nn rc qb nb qc va nv vc l1 u1 l2 u2 K' f vs ∧ w.heap.size + 2 ≤ l1 ∧ w.heap.size + 2 ≤ l2 ∧ Below w.heap.size w w' := by
  have B : Below w.heap.size w ((w.alloc (.cells #[.slice an nn cn, .slice ab nb cb, .slice av nv cv] 31)).alloc (.cells #[.slice none 0 0, .slice none 0 0, .slice none 0 0] 31)) := ((Below.refl _ _).alloc (Nat.le_refl _) _).alloc (by simp) _
  have g0 : ((w.alloc (.cells #[.slice an nn cn, .slice ab nb cb, .slice av nv cv] 31)).alloc (.cells #[.slice none 0 0, .slice none 0 0, .slice none 0 0] 31)).cell? ⟨w.heap.size, 0, none⟩ = some (.slice an nn cn) := by simp
  have g1 : ((w.alloc (.cells #[.slice an nn cn, .slice ab nb cb, .slice av nv cv] 31)).alloc (.cells #[.slice none 0 0, .slice none 0 0, .slice none 0 0] 31)).cell? ⟨w.heap.size, 1, none⟩ = some (.slice ab nb cb) := by simp
  have g2 : ((w.alloc (.cells #[.slice an nn cn, .slice ab nb cb, .slice av nv cv] 31)).alloc (.cells #[.slice none 0 0, .slice none 0 0, .slice none 0 0] 31)).cell? ⟨w.heap.size, 2, none⟩ = some (.slice av nv cv) := by simp
  have z0 : ((w.alloc (.cells #[.slice an nn cn, .slice ab nb cb, .slice av nv cv] 31)).alloc (.cells #[.slice none 0 0, .slice none 0 0, .slice none 0 0] 31)).cell? ⟨w.heap.size + 1, 0, none⟩ = some (.slice none 0 0) := by simp
  have y0 : ((w.alloc (.cells #[.slice an nn cn, .slice ab nb cb, .slice av nv cv] 31)).alloc (.cells #[.slice none 0 0, .slice none 0 0, .slice none 0 0] 31)).frozen? ⟨w.heap.size + 1, 0, none⟩ = false := by simp
  have z1 : ((w.alloc (.cells #[.slice an nn cn, .slice ab nb cb, .slice av nv cv] 31)).alloc (.cells #[.slice none 0 0, .slice none 0 0, .slice none 0 0] 31)).cell? ⟨w.heap.size + 1, 1, none⟩ = some (.slice none 0 0) := by simp
  have y1 : ((w.alloc (.cells #[.slice an nn cn, .slice ab nb cb, .slice av nv cv] 31)).alloc (.cells #[.slice none 0 0, .slice none 0 0, .slice none 0 0] 31)).frozen? ⟨w.heap.size + 1, 1, none⟩ = false := by simp
  have z2 : ((w.alloc (.cells #[.slice an nn cn, .slice ab nb cb, .slice av nv cv] 31)).alloc (.cells #[.slice none 0 0, .slice none 0 0, .slice none 0 0] 31)).cell? ⟨w.heap.size + 1, 2, none⟩ = some (.slice none 0 0) := by simp
  have y2 : ((w.alloc (.cells #[.slice an nn cn, .slice ab nb cb, .slice av nv cv] 31)).alloc (.cells #[.slice none 0 0, .slice none 0 0, .slice none 0 0] 31)).frozen? ⟨w.heap.size + 1, 2, none⟩ = false := by simp
  have hz : w.heap.size + 1 < ((w.alloc (.cells #[.slice an nn cn, .slice ab nb cb, .slice av nv cv] 31)).alloc (.cells #[.slice none 0 0, .slice none 0 0, .slice none 0 0] 31)).heap.size := by simp
  have s0 : ((w.alloc (.cells #[.slice an nn cn, .slice ab nb cb, .slice av nv cv] 31)).alloc (.cells #[.slice none 0 0, .slice none 0 0, .slice none 0 0] 31)).heap.size = w.heap.size + 2 := by simp
  go_enter Try.func94, Try.ntmps94
  go_wp2_with fail
  have D : Below ((w.alloc (.cells #[.slice an nn cn, .slice ab nb cb, .slice av nv cv] 31)).alloc (.cells #[.slice none 0 0, .slice none 0 0, .slice none 0 0] 31)).heap.size ((w.alloc (.cells #[.slice an nn cn, .slice ab nb cb, .slice av nv cv] 31)).alloc (.cells #[.slice none 0 0, .slice none 0 0, .slice none 0 0] 31)) ((w.alloc (.cells #[.slice an nn cn, .slice ab nb cb, .slice av nv cv] 31)).alloc (.cells #[.slice none 0 0, .slice none 0 0, .slice none 0 0] 31)).drew := (Below.refl _ _).drew
  replace g0 := cell_later D g0
  replace g1 := cell_later D g1
  replace g2 := cell_later D g2
  replace z0 := cell_later D z0
  replace z1 := cell_later D z1
  replace z2 := cell_later D z2
  replace y0 := frozen_later D hz y0
  replace y1 := frozen_later D hz y1
  replace y2 := frozen_later D hz y2
  replace hz := Nat.lt_of_lt_of_le hz D.size
  replace B := below_step B B.size D
  clear D
  have hso : ∀ (W : World) (v0 v1 v2 : Value) (b i : Nat), b ≠ w.heap.size + 1 → (((W.setCell ⟨w.heap.size + 1, 0, none⟩ v0).setCell ⟨w.heap.size + 1, 1, none⟩ v1).setCell ⟨w.heap.size + 1, 2, none⟩ v2).cell? ⟨b, i, none⟩ = W.cell? ⟨b, i, none⟩ := fun W v0 v1 v2 b i hb => by
    have hn : ∀ k, (⟨w.heap.size + 1, k, none⟩ : Addr) ≠ ⟨b, i, none⟩ := fun k e => hb (by injection e with e _; exact e.symm)
    rw [World.cell?_setCell_other _ _ _ _ (hn _), World.cell?_setCell_other _ _ _ _ (hn _), World.cell?_setCell_other _ _ _ _ (hn _)]
  have n1 : w.heap.size ≠ w.heap.size + 1 := by omega
  go_region_held3 (fun w' => w'.cell? ⟨w.heap.size, 0, none⟩ = some (.slice an nn cn) ∧ w'.cell? ⟨w.heap.size, 1, none⟩ = some (.slice ab nb cb) ∧ w'.cell? ⟨w.heap.size, 2, none⟩ = some (.slice av nv cv)) (first | exact ⟨g0, g1, g2⟩ | exact ⟨(hso _ _ _ _ _ _ n1).trans g0, (hso _ _ _ _ _ _ n1).trans g1, (hso _ _ _ _ _ _ n1).trans g2⟩)
    (first | (go_at_call 155; (refine (copyForest_is an nn cn ab nb cb K f _ (h.below B) hn hb hK).mono ?_); rintro e w1 ⟨ra, rc, qb, qc, K', rfl, F1, B1⟩; replace g0 := cell_later B1 g0; replace g1 := cell_later B1 g1; replace g2 := cell_later B1 g2; replace z0 := cell_later B1 z0; replace z1 := cell_later B1 z1; replace z2 := cell_later B1 z2; replace y0 := frozen_later B1 hz y0; replace y1 := frozen_later B1 hz y1; replace y2 := frozen_later B1 hz y2; replace hz := Nat.lt_of_lt_of_le hz B1.size; replace B := below_step B B.size B1; have t1 := B1.size; clear B1) | (go_at_call 120; (refine (cloneV_is av nv cv vs _ (hv.below B) hvn).mono ?_); rintro e w2 ⟨va, vc, rfl, V2, B2⟩; replace F1 := F1.below B2; replace g0 := cell_later B2 g0; replace g1 := cell_later B2 g1; replace g2 := cell_later B2 g2; replace z0 := cell_later B2 z0; replace z1 := cell_later B2 z1; replace z2 := cell_later B2 z2; replace y0 := frozen_later B2 hz y0; replace y1 := frozen_later B2 hz y1; replace y2 := frozen_later B2 hz y2; replace hz := Nat.lt_of_lt_of_le hz B2.size; replace B := below_step B B.size B2; have t2 := B2.size; clear B2))
  go_wp2
  refine bodyPost_ret (v := .agg #[.slice ra nn rc, .slice qb nb qc, .slice va nv vc]) (by simp [results, Try.results94, go_sem, z0, z1, z2]) rfl ?_
  have KZ : Kept (w.heap.size + 1) (w.heap.size + 2) w2 (((w2.setCell ⟨w.heap.size + 1, 0, none⟩ (.slice ra nn rc)).setCell ⟨w.heap.size + 1, 1, none⟩ (.slice qb nb qc)).setCell ⟨w.heap.size + 1, 2, none⟩ (.slice va nv vc)) := by refine Kept.setCell (Kept.setCell (Kept.setCell (Kept.refl _ _ _) ?_ ?_ _) ?_ ?_ _) ?_ ?_ _ <;> simp
  have q4 := KZ.size
  have s0' : ((w.alloc (.cells #[.slice an nn cn, .slice ab nb cb, .slice av nv cv] 31)).alloc (.cells #[.slice none 0 0, .slice none 0 0, .slice none 0 0] 31)).drew.heap.size = w.heap.size + 2 := s0
  rw [s0'] at F1 t1
  exact ⟨ra, rc, qb, qc, va, vc, w.heap.size + 2, w1.heap.size, w1.heap.size, w2.heap.size, K', rfl, ⟨F1.kept KZ (Or.inr (Nat.le_refl _)), V2.kept KZ (Or.inr (by omega)), Or.inl (Nat.le_refl _), by omega, by omega, by omega, by omega⟩, Nat.le_refl _, by omega, B.trans (KZ.below _ (by omega) B.size)⟩

def PoRes (w w' : World) (e : Ending) (code reply value : Int) (f : Fo) (vs : List Vo) : Prop :=
  ∃ an nn cn ab nb cb av nv cv l1 u1 l2 u2 K, e = .returned (.agg #[.int .i64 code, .int .i64 reply, .int .i64 value, .slice an nn cn, .slice ab nb cb, .slice av nv cv]) ∧ PoIs w w' an nn cn ab nb cb av nv cv l1 u1 l2 u2 K f vs ∧ Below w.heap.size w w'

set_option maxRecDepth 20000 in
set_option maxHeartbeats 2000000 in
theorem replied_is {o o2 : Bool} {l u l2 u2 : Nat} (an : Option Addr) (nn cn : Nat) (ab : Option Addr) (nb cb : Nat) (av : Option Addr) (nv cv : Nat) (K : Nat → KS) (f : Fo) (vs : List Vo) (w : World) (h : FoAt w o l u an nn cn ab nb cb K f) (hv : RowAt w o2 l2 u2 3 av nv cv (trips vs)) (hn : nn ≤ 1048576) (hb : nb ≤ 1048576) (hK : ∀ i, i < nn → (K i).2.1 ≤ 1048576) (hvn : nv ≤ 1048576) (rp : Int) :
    Calls Try.prog 43 #[.agg #[.slice an nn cn, .slice ab nb cb, .slice av nv cv], .int .i64 rp] w fun e w' => PoRes w w' e 0 rp 0 f vs := by
  have B : Below w.heap.size w ((w.alloc (.cells #[.slice an nn cn, .slice ab nb cb, .slice av nv cv] 31)).alloc (.cells #[.int .i64 0, .int .i64 0, .int .i64 0, .slice none 0 0, .slice none 0 0, .slice none 0 0] 33)) := ((Below.refl _ _).alloc (Nat.le_refl _) _).alloc (by simp) _
  have z0 : ((w.alloc (.cells #[.slice an nn cn, .slice ab nb cb, .slice av nv cv] 31)).alloc (.cells #[.int .i64 0, .int .i64 0, .int .i64 0, .slice none 0 0, .slice none 0 0, .slice none 0 0] 33)).cell? ⟨w.heap.size + 1, 0, none⟩ = some (.int .i64 0) := by simp
  have y0 : ((w.alloc (.cells #[.slice an nn cn, .slice ab nb cb, .slice av nv cv] 31)).alloc (.cells #[.int .i64 0, .int .i64 0, .int .i64 0, .slice none 0 0, .slice none 0 0, .slice none 0 0] 33)).frozen? ⟨w.heap.size + 1, 0, none⟩ = false := by simp
  have z1 : ((w.alloc (.cells #[.slice an nn cn, .slice ab nb cb, .slice av nv cv] 31)).alloc (.cells #[.int .i64 0, .int .i64 0, .int .i64 0, .slice none 0 0, .slice none 0 0, .slice none 0 0] 33)).cell? ⟨w.heap.size + 1, 1, none⟩ = some (.int .i64 0) := by simp
  have y1 : ((w.alloc (.cells #[.slice an nn cn, .slice ab nb cb, .slice av nv cv] 31)).alloc (.cells #[.int .i64 0, .int .i64 0, .int .i64 0, .slice none 0 0, .slice none 0 0, .slice none 0 0] 33)).frozen? ⟨w.heap.size + 1, 1, none⟩ = false := by simp
  have z2 : ((w.alloc (.cells #[.slice an nn cn, .slice ab nb cb, .slice av nv cv] 31)).alloc (.cells #[.int .i64 0, .int .i64 0, .int .i64 0, .slice none 0 0, .slice none 0 0, .slice none 0 0] 33)).cell? ⟨w.heap.size + 1, 2, none⟩ = some (.int .i64 0) := by simp
  have y2 : ((w.alloc (.cells #[.slice an nn cn, .slice ab nb cb, .slice av nv cv] 31)).alloc (.cells #[.int .i64 0, .int .i64 0, .int .i64 0, .slice none 0 0, .slice none 0 0, .slice none 0 0] 33)).frozen? ⟨w.heap.size + 1, 2, none⟩ = false := by simp
  have z3 : ((w.alloc (.cells #[.slice an nn cn, .slice ab nb cb, .slice av nv cv] 31)).alloc (.cells #[.int .i64 0, .int .i64 0, .int .i64 0, .slice none 0 0, .slice none 0 0, .slice none 0 0] 33)).cell? ⟨w.heap.size + 1, 3, none⟩ = some (.slice none 0 0) := by simp
  have y3 : ((w.alloc (.cells #[.slice an nn cn, .slice ab nb cb, .slice av nv cv] 31)).alloc (.cells #[.int .i64 0, .int .i64 0, .int .i64 0, .slice none 0 0, .slice none 0 0, .slice none 0 0] 33)).frozen? ⟨w.heap.size + 1, 3, none⟩ = false := by simp
  have z4 : ((w.alloc (.cells #[.slice an nn cn, .slice ab nb cb, .slice av nv cv] 31)).alloc (.cells #[.int .i64 0, .int .i64 0, .int .i64 0, .slice none 0 0, .slice none 0 0, .slice none 0 0] 33)).cell? ⟨w.heap.size + 1, 4, none⟩ = some (.slice none 0 0) := by simp
  have y4 : ((w.alloc (.cells #[.slice an nn cn, .slice ab nb cb, .slice av nv cv] 31)).alloc (.cells #[.int .i64 0, .int .i64 0, .int .i64 0, .slice none 0 0, .slice none 0 0, .slice none 0 0] 33)).frozen? ⟨w.heap.size + 1, 4, none⟩ = false := by simp
  have z5 : ((w.alloc (.cells #[.slice an nn cn, .slice ab nb cb, .slice av nv cv] 31)).alloc (.cells #[.int .i64 0, .int .i64 0, .int .i64 0, .slice none 0 0, .slice none 0 0, .slice none 0 0] 33)).cell? ⟨w.heap.size + 1, 5, none⟩ = some (.slice none 0 0) := by simp
  have y5 : ((w.alloc (.cells #[.slice an nn cn, .slice ab nb cb, .slice av nv cv] 31)).alloc (.cells #[.int .i64 0, .int .i64 0, .int .i64 0, .slice none 0 0, .slice none 0 0, .slice none 0 0] 33)).frozen? ⟨w.heap.size + 1, 5, none⟩ = false := by simp
  have hz : w.heap.size + 1 < ((w.alloc (.cells #[.slice an nn cn, .slice ab nb cb, .slice av nv cv] 31)).alloc (.cells #[.int .i64 0, .int .i64 0, .int .i64 0, .slice none 0 0, .slice none 0 0, .slice none 0 0] 33)).heap.size := by simp
  have s0 : ((w.alloc (.cells #[.slice an nn cn, .slice ab nb cb, .slice av nv cv] 31)).alloc (.cells #[.int .i64 0, .int .i64 0, .int .i64 0, .slice none 0 0, .slice none 0 0, .slice none 0 0] 33)).heap.size = w.heap.size + 2 := by simp
  go_enter Try.func43, Try.ntmps43
  go_wp2_with fail
  refine (copyPool_is an nn cn ab nb cb av nv cv K f vs _ (h.below B) (hv.below B) hn hb hK hvn).mono ?_
  rintro e w1 ⟨ra, rc, qb, qc, va, vc, l1, u1, l2, u2, K', rfl, P, p1, p2, B1⟩
  rw [s0] at p1 p2
  have hs : w.heap.size ≤ ((w.alloc (.cells #[.slice an nn cn, .slice ab nb cb, .slice av nv cv] 31)).alloc (.cells #[.int .i64 0, .int .i64 0, .int .i64 0, .slice none 0 0, .slice none 0 0, .slice none 0 0] 33)).heap.size := by omega
  replace P := P.from (w := w) hs
  replace z0 := cell_later B1 z0
  replace y0 := frozen_later B1 hz y0
  replace z1 := cell_later B1 z1
  replace y1 := frozen_later B1 hz y1
  replace z2 := cell_later B1 z2
  replace y2 := frozen_later B1 hz y2
  replace z3 := cell_later B1 z3
  replace y3 := frozen_later B1 hz y3
  replace z4 := cell_later B1 z4
  replace y4 := frozen_later B1 hz y4
  replace z5 := cell_later B1 z5
  replace y5 := frozen_later B1 hz y5
  replace B := below_step B B.size B1
  clear B1 hz s0 hs
  go_wp2
  refine bodyPost_ret (v := .agg #[.int .i64 0, .int .i64 rp, .int .i64 0, .slice ra nn rc, .slice qb nb qc, .slice va nv vc]) (by simp [results, Try.results43, go_sem, z0, z1, z2, z3, z4, z5]) rfl ?_
  have KZ : Kept (w.heap.size + 1) (w.heap.size + 2) w1 ((((((w1.setCell ⟨w.heap.size + 1, 0, none⟩ (.int .i64 0)).setCell ⟨w.heap.size + 1, 1, none⟩ (.int .i64 rp)).setCell ⟨w.heap.size + 1, 2, none⟩ (.int .i64 0)).setCell ⟨w.heap.size + 1, 3, none⟩ (.slice ra nn rc)).setCell ⟨w.heap.size + 1, 4, none⟩ (.slice qb nb qc)).setCell ⟨w.heap.size + 1, 5, none⟩ (.slice va nv vc)) := by refine Kept.setCell (Kept.setCell (Kept.setCell (Kept.setCell (Kept.setCell (Kept.setCell (Kept.refl _ _ _) ?_ ?_ _) ?_ ?_ _) ?_ ?_ _) ?_ ?_ _) ?_ ?_ _) ?_ ?_ _ <;> simp
  exact ⟨ra, nn, rc, qb, nb, qc, va, nv, vc, l1, u1, l2, u2, K', rfl, P.keep KZ (Or.inr (by omega)) (Or.inr (by omega)), B.trans (KZ.below _ (by omega) B.size)⟩

end Go.Proofs.Ytikjndmgljkhhaa

/- Chapter 5: a volume's tree turned, by the program. -/
namespace Go.Proofs.Ytikjndmgljkhhaa
open Go.RowKit

theorem new_cell (W : World) (cs : Array Value) (t : TypeId) (k : Nat) {v : Value} (h : cs[k]? = some v) : (W.alloc (.cells cs t)).cell? ⟨W.heap.size, k, none⟩ = some v := by simpa using h
theorem new_frozen (W : World) (cs : Array Value) (t : TypeId) (k : Nat) : (W.alloc (.cells cs t)).frozen? ⟨W.heap.size, k, none⟩ = false := by simp
theorem trips_third (vs : List Vo) (m : Nat) (h : m < vs.length) (rt : Int) : (trips vs).set (m * 3 + 2) (.int .i64 rt) = trips (setRootV vs m rt) := by
  unfold trips setRootV
  rw [flat3_third h, List.length_set]
  refine flat3_congr fun j hj => ?_
  by_cases e : j = m
  · subst e
    simp [List.getD, List.getElem?_set_self h]
  · simp [List.getD, List.getElem?_set_ne (Ne.symm e), e]

set_option maxRecDepth 20000 in
set_option maxHeartbeats 2000000 in
theorem withTree_no {o o2 : Bool} {l u l2 u2 : Nat} (an : Option Addr) (nn cn : Nat) (ab : Option Addr) (nb cb : Nat) (av : Option Addr) (nv cv : Nat) (K : Nat → KS) (f : Fo) (vs : List Vo) (w : World) (h : FoAt w o l u an nn cn ab nb cb K f) (hv : RowAt w o2 l2 u2 3 av nv cv (trips vs)) (hn : nn ≤ 1048576) (hb : nb ≤ 1048576) (hK : ∀ i, i < nn → (K i).2.1 ≤ 1048576) (hvn : nv ≤ 1048576) (a1 : Option Addr) (x1 ca : Nat) (b1 : Option Addr) (x2 ce : Nat) (m : Nat) (cd rt : Int) (hc : cd ≠ 0) :
    Calls Try.prog 158 #[.agg #[.slice an nn cn, .slice ab nb cb, .slice av nv cv], .int .i64 (m : Int), .agg #[.int .i64 cd, .int .i64 rt, .slice a1 x1 ca, .slice b1 x2 ce]] w fun e w' => PoRes w w' e 0 cd 0 f vs := by
  have B : Below w.heap.size w (((w.alloc (.cells #[.slice an nn cn, .slice ab nb cb, .slice av nv cv] 31)).alloc (.cells #[.int .i64 cd, .int .i64 rt, .slice a1 x1 ca, .slice b1 x2 ce] 88)).alloc (.cells #[.int .i64 0, .int .i64 0, .int .i64 0, .slice none 0 0, .slice none 0 0, .slice none 0 0] 33)) := (((Below.refl _ _).alloc (Nat.le_refl _) _).alloc (by simp) _).alloc (by simp; omega) _
  have A3 : Below ((w.alloc (.cells #[.slice an nn cn, .slice ab nb cb, .slice av nv cv] 31)).alloc (.cells #[.int .i64 cd, .int .i64 rt, .slice a1 x1 ca, .slice b1 x2 ce] 88)).heap.size ((w.alloc (.cells #[.slice an nn cn, .slice ab nb cb, .slice av nv cv] 31)).alloc (.cells #[.int .i64 cd, .int .i64 rt, .slice a1 x1 ca, .slice b1 x2 ce] 88)) (((w.alloc (.cells #[.slice an nn cn, .slice ab nb cb, .slice av nv cv] 31)).alloc (.cells #[.int .i64 cd, .int .i64 rt, .slice a1 x1 ca, .slice b1 x2 ce] 88)).alloc (.cells #[.int .i64 0, .int .i64 0, .int .i64 0, .slice none 0 0, .slice none 0 0, .slice none 0 0] 33)) := (Below.refl _ _).alloc (Nat.le_refl _) _
  have ez : ((w.alloc (.cells #[.slice an nn cn, .slice ab nb cb, .slice av nv cv] 31)).alloc (.cells #[.int .i64 cd, .int .i64 rt, .slice a1 x1 ca, .slice b1 x2 ce] 88)).heap.size = w.heap.size + 1 + 1 := by simp
  have g0 : (((w.alloc (.cells #[.slice an nn cn, .slice ab nb cb, .slice av nv cv] 31)).alloc (.cells #[.int .i64 cd, .int .i64 rt, .slice a1 x1 ca, .slice b1 x2 ce] 88)).alloc (.cells #[.int .i64 0, .int .i64 0, .int .i64 0, .slice none 0 0, .slice none 0 0, .slice none 0 0] 33)).cell? ⟨w.heap.size, 0, none⟩ = some (.slice an nn cn) := cell_later A3 (by simp)
  have g1 : (((w.alloc (.cells #[.slice an nn cn, .slice ab nb cb, .slice av nv cv] 31)).alloc (.cells #[.int .i64 cd, .int .i64 rt, .slice a1 x1 ca, .slice b1 x2 ce] 88)).alloc (.cells #[.int .i64 0, .int .i64 0, .int .i64 0, .slice none 0 0, .slice none 0 0, .slice none 0 0] 33)).cell? ⟨w.heap.size, 1, none⟩ = some (.slice ab nb cb) := cell_later A3 (by simp)
  have g2 : (((w.alloc (.cells #[.slice an nn cn, .slice ab nb cb, .slice av nv cv] 31)).alloc (.cells #[.int .i64 cd, .int .i64 rt, .slice a1 x1 ca, .slice b1 x2 ce] 88)).alloc (.cells #[.int .i64 0, .int .i64 0, .int .i64 0, .slice none 0 0, .slice none 0 0, .slice none 0 0] 33)).cell? ⟨w.heap.size, 2, none⟩ = some (.slice av nv cv) := cell_later A3 (by simp)
  have t0 : (((w.alloc (.cells #[.slice an nn cn, .slice ab nb cb, .slice av nv cv] 31)).alloc (.cells #[.int .i64 cd, .int .i64 rt, .slice a1 x1 ca, .slice b1 x2 ce] 88)).alloc (.cells #[.int .i64 0, .int .i64 0, .int .i64 0, .slice none 0 0, .slice none 0 0, .slice none 0 0] 33)).cell? ⟨w.heap.size + 1, 0, none⟩ = some (.int .i64 cd) := cell_later A3 (by simp)
  have t1 : (((w.alloc (.cells #[.slice an nn cn, .slice ab nb cb, .slice av nv cv] 31)).alloc (.cells #[.int .i64 cd, .int .i64 rt, .slice a1 x1 ca, .slice b1 x2 ce] 88)).alloc (.cells #[.int .i64 0, .int .i64 0, .int .i64 0, .slice none 0 0, .slice none 0 0, .slice none 0 0] 33)).cell? ⟨w.heap.size + 1, 1, none⟩ = some (.int .i64 rt) := cell_later A3 (by simp)
  have t2 : (((w.alloc (.cells #[.slice an nn cn, .slice ab nb cb, .slice av nv cv] 31)).alloc (.cells #[.int .i64 cd, .int .i64 rt, .slice a1 x1 ca, .slice b1 x2 ce] 88)).alloc (.cells #[.int .i64 0, .int .i64 0, .int .i64 0, .slice none 0 0, .slice none 0 0, .slice none 0 0] 33)).cell? ⟨w.heap.size + 1, 2, none⟩ = some (.slice a1 x1 ca) := cell_later A3 (by simp)
  have t3 : (((w.alloc (.cells #[.slice an nn cn, .slice ab nb cb, .slice av nv cv] 31)).alloc (.cells #[.int .i64 cd, .int .i64 rt, .slice a1 x1 ca, .slice b1 x2 ce] 88)).alloc (.cells #[.int .i64 0, .int .i64 0, .int .i64 0, .slice none 0 0, .slice none 0 0, .slice none 0 0] 33)).cell? ⟨w.heap.size + 1, 3, none⟩ = some (.slice b1 x2 ce) := cell_later A3 (by simp)
  have z0 : (((w.alloc (.cells #[.slice an nn cn, .slice ab nb cb, .slice av nv cv] 31)).alloc (.cells #[.int .i64 cd, .int .i64 rt, .slice a1 x1 ca, .slice b1 x2 ce] 88)).alloc (.cells #[.int .i64 0, .int .i64 0, .int .i64 0, .slice none 0 0, .slice none 0 0, .slice none 0 0] 33)).cell? ⟨w.heap.size + 1 + 1, 0, none⟩ = some (.int .i64 0) := by rw [← ez]; exact new_cell _ _ _ _ rfl
  have y0 : (((w.alloc (.cells #[.slice an nn cn, .slice ab nb cb, .slice av nv cv] 31)).alloc (.cells #[.int .i64 cd, .int .i64 rt, .slice a1 x1 ca, .slice b1 x2 ce] 88)).alloc (.cells #[.int .i64 0, .int .i64 0, .int .i64 0, .slice none 0 0, .slice none 0 0, .slice none 0 0] 33)).frozen? ⟨w.heap.size + 1 + 1, 0, none⟩ = false := by rw [← ez]; exact new_frozen _ _ _ _
  have z1 : (((w.alloc (.cells #[.slice an nn cn, .slice ab nb cb, .slice av nv cv] 31)).alloc (.cells #[.int .i64 cd, .int .i64 rt, .slice a1 x1 ca, .slice b1 x2 ce] 88)).alloc (.cells #[.int .i64 0, .int .i64 0, .int .i64 0, .slice none 0 0, .slice none 0 0, .slice none 0 0] 33)).cell? ⟨w.heap.size + 1 + 1, 1, none⟩ = some (.int .i64 0) := by rw [← ez]; exact new_cell _ _ _ _ rfl
  have y1 : (((w.alloc (.cells #[.slice an nn cn, .slice ab nb cb, .slice av nv cv] 31)).alloc (.cells #[.int .i64 cd, .int .i64 rt, .slice a1 x1 ca, .slice b1 x2 ce] 88)).alloc (.cells #[.int .i64 0, .int .i64 0, .int .i64 0, .slice none 0 0, .slice none 0 0, .slice none 0 0] 33)).frozen? ⟨w.heap.size + 1 + 1, 1, none⟩ = false := by rw [← ez]; exact new_frozen _ _ _ _
  have z2 : (((w.alloc (.cells #[.slice an nn cn, .slice ab nb cb, .slice av nv cv] 31)).alloc (.cells #[.int .i64 cd, .int .i64 rt, .slice a1 x1 ca, .slice b1 x2 ce] 88)).alloc (.cells #[.int .i64 0, .int .i64 0, .int .i64 0, .slice none 0 0, .slice none 0 0, .slice none 0 0] 33)).cell? ⟨w.heap.size + 1 + 1, 2, none⟩ = some (.int .i64 0) := by rw [← ez]; exact new_cell _ _ _ _ rfl
  have y2 : (((w.alloc (.cells #[.slice an nn cn, .slice ab nb cb, .slice av nv cv] 31)).alloc (.cells #[.int .i64 cd, .int .i64 rt, .slice a1 x1 ca, .slice b1 x2 ce] 88)).alloc (.cells #[.int .i64 0, .int .i64 0, .int .i64 0, .slice none 0 0, .slice none 0 0, .slice none 0 0] 33)).frozen? ⟨w.heap.size + 1 + 1, 2, none⟩ = false := by rw [← ez]; exact new_frozen _ _ _ _
  have z3 : (((w.alloc (.cells #[.slice an nn cn, .slice ab nb cb, .slice av nv cv] 31)).alloc (.cells #[.int .i64 cd, .int .i64 rt, .slice a1 x1 ca, .slice b1 x2 ce] 88)).alloc (.cells #[.int .i64 0, .int .i64 0, .int .i64 0, .slice none 0 0, .slice none 0 0, .slice none 0 0] 33)).cell? ⟨w.heap.size + 1 + 1, 3, none⟩ = some (.slice none 0 0) := by rw [← ez]; exact new_cell _ _ _ _ rfl
  have y3 : (((w.alloc (.cells #[.slice an nn cn, .slice ab nb cb, .slice av nv cv] 31)).alloc (.cells #[.int .i64 cd, .int .i64 rt, .slice a1 x1 ca, .slice b1 x2 ce] 88)).alloc (.cells #[.int .i64 0, .int .i64 0, .int .i64 0, .slice none 0 0, .slice none 0 0, .slice none 0 0] 33)).frozen? ⟨w.heap.size + 1 + 1, 3, none⟩ = false := by rw [← ez]; exact new_frozen _ _ _ _
  have z4 : (((w.alloc (.cells #[.slice an nn cn, .slice ab nb cb, .slice av nv cv] 31)).alloc (.cells #[.int .i64 cd, .int .i64 rt, .slice a1 x1 ca, .slice b1 x2 ce] 88)).alloc (.cells #[.int .i64 0, .int .i64 0, .int .i64 0, .slice none 0 0, .slice none 0 0, .slice none 0 0] 33)).cell? ⟨w.heap.size + 1 + 1, 4, none⟩ = some (.slice none 0 0) := by rw [← ez]; exact new_cell _ _ _ _ rfl
  have y4 : (((w.alloc (.cells #[.slice an nn cn, .slice ab nb cb, .slice av nv cv] 31)).alloc (.cells #[.int .i64 cd, .int .i64 rt, .slice a1 x1 ca, .slice b1 x2 ce] 88)).alloc (.cells #[.int .i64 0, .int .i64 0, .int .i64 0, .slice none 0 0, .slice none 0 0, .slice none 0 0] 33)).frozen? ⟨w.heap.size + 1 + 1, 4, none⟩ = false := by rw [← ez]; exact new_frozen _ _ _ _
  have z5 : (((w.alloc (.cells #[.slice an nn cn, .slice ab nb cb, .slice av nv cv] 31)).alloc (.cells #[.int .i64 cd, .int .i64 rt, .slice a1 x1 ca, .slice b1 x2 ce] 88)).alloc (.cells #[.int .i64 0, .int .i64 0, .int .i64 0, .slice none 0 0, .slice none 0 0, .slice none 0 0] 33)).cell? ⟨w.heap.size + 1 + 1, 5, none⟩ = some (.slice none 0 0) := by rw [← ez]; exact new_cell _ _ _ _ rfl
  have y5 : (((w.alloc (.cells #[.slice an nn cn, .slice ab nb cb, .slice av nv cv] 31)).alloc (.cells #[.int .i64 cd, .int .i64 rt, .slice a1 x1 ca, .slice b1 x2 ce] 88)).alloc (.cells #[.int .i64 0, .int .i64 0, .int .i64 0, .slice none 0 0, .slice none 0 0, .slice none 0 0] 33)).frozen? ⟨w.heap.size + 1 + 1, 5, none⟩ = false := by rw [← ez]; exact new_frozen _ _ _ _
  have s0 : (((w.alloc (.cells #[.slice an nn cn, .slice ab nb cb, .slice av nv cv] 31)).alloc (.cells #[.int .i64 cd, .int .i64 rt, .slice a1 x1 ca, .slice b1 x2 ce] 88)).alloc (.cells #[.int .i64 0, .int .i64 0, .int .i64 0, .slice none 0 0, .slice none 0 0, .slice none 0 0] 33)).heap.size = w.heap.size + 3 := by simp
  have hz : w.heap.size + 1 + 1 < (((w.alloc (.cells #[.slice an nn cn, .slice ab nb cb, .slice av nv cv] 31)).alloc (.cells #[.int .i64 cd, .int .i64 rt, .slice a1 x1 ca, .slice b1 x2 ce] 88)).alloc (.cells #[.int .i64 0, .int .i64 0, .int .i64 0, .slice none 0 0, .slice none 0 0, .slice none 0 0] 33)).heap.size := by omega
  clear A3 ez
  have hne : (cd != 0) = true := by simp [hc]
  clear hc
  go_enter Try.func158, Try.ntmps158
  go_wp2_with fail
  refine (replied_is an nn cn ab nb cb av nv cv K f vs _ (h.below B) (hv.below B) hn hb hK hvn cd).mono ?_
  rintro e w1 ⟨pa, pn, pc, pb, qn, qc, va, vn, vc, l1, u1, l2, u2, K', rfl, P, B1⟩
  have p1 := P.lo1
  have p2 := P.lo2
  rw [s0] at p1 p2
  have hs : w.heap.size ≤ (((w.alloc (.cells #[.slice an nn cn, .slice ab nb cb, .slice av nv cv] 31)).alloc (.cells #[.int .i64 cd, .int .i64 rt, .slice a1 x1 ca, .slice b1 x2 ce] 88)).alloc (.cells #[.int .i64 0, .int .i64 0, .int .i64 0, .slice none 0 0, .slice none 0 0, .slice none 0 0] 33)).heap.size := by omega
  replace P := P.from (w := w) hs
  replace g0 := cell_later B1 g0
  replace g1 := cell_later B1 g1
  replace g2 := cell_later B1 g2
  replace t0 := cell_later B1 t0
  replace t1 := cell_later B1 t1
  replace t2 := cell_later B1 t2
  replace t3 := cell_later B1 t3
  replace z0 := cell_later B1 z0
  replace y0 := frozen_later B1 hz y0
  replace z1 := cell_later B1 z1
  replace y1 := frozen_later B1 hz y1
  replace z2 := cell_later B1 z2
  replace y2 := frozen_later B1 hz y2
  replace z3 := cell_later B1 z3
  replace y3 := frozen_later B1 hz y3
  replace z4 := cell_later B1 z4
  replace y4 := frozen_later B1 hz y4
  replace z5 := cell_later B1 z5
  replace y5 := frozen_later B1 hz y5
  replace hz := Nat.lt_of_lt_of_le hz B1.size
  replace B := below_step B B.size B1
  clear B1 hs s0 hz
  go_wp2
  refine bodyPost_ret (v := .agg #[.int .i64 0, .int .i64 cd, .int .i64 0, .slice pa pn pc, .slice pb qn qc, .slice va vn vc]) (by simp [results, Try.results158, go_sem, z0, z1, z2, z3, z4, z5]) rfl ?_
  have KZ : Kept (w.heap.size + 2) (w.heap.size + 3) w1 (((((((w1.setCell ⟨w.heap.size + 1 + 1, 0, none⟩ (.int .i64 0)).setCell ⟨w.heap.size + 1 + 1, 1, none⟩ (.int .i64 cd)).setCell ⟨w.heap.size + 1 + 1, 2, none⟩ (.int .i64 0)).setCell ⟨w.heap.size + 1 + 1, 3, none⟩ (.slice pa pn pc)).setCell ⟨w.heap.size + 1 + 1, 4, none⟩ (.slice pb qn qc)).setCell ⟨w.heap.size + 1 + 1, 5, none⟩ (.slice va vn vc))) := by refine Kept.setCell (Kept.setCell (Kept.setCell (Kept.setCell (Kept.setCell (Kept.setCell (Kept.refl _ _ _) ?_ ?_ _) ?_ ?_ _) ?_ ?_ _) ?_ ?_ _) ?_ ?_ _) ?_ ?_ _ <;> simp
  exact ⟨pa, pn, pc, pb, qn, qc, va, vn, vc, l1, u1, l2, u2, K', rfl, P.keep KZ (Or.inr (by omega)) (Or.inr (by omega)), B.trans (KZ.below _ (by omega) B.size)⟩

set_option maxRecDepth 20000 in
set_option maxHeartbeats 2000000 in
theorem withTree_ok {o2 : Bool} {l2 u2 : Nat} (an : Option Addr) (nn cn : Nat) (ab : Option Addr) (nb cb : Nat) (av : Option Addr) (nv cv : Nat) (vs : List Vo) (w : World) (hv : RowAt w o2 l2 u2 3 av nv cv (trips vs)) (hvn : nv ≤ 1048576) (a1 : Option Addr) (x1 ca : Nat) (b1 : Option Addr) (x2 ce : Nat) (m : Nat) (hm : m < nv) (rt : Int) :
    Calls Try.prog 158 #[.agg #[.slice an nn cn, .slice ab nb cb, .slice av nv cv], .int .i64 (m : Int), .agg #[.int .i64 0, .int .i64 rt, .slice a1 x1 ca, .slice b1 x2 ce]] w fun e w' => ∃ va vc l1, e = .returned (.agg #[.int .i64 0, .int .i64 0, .int .i64 0, .slice a1 x1 ca, .slice b1 x2 ce, .slice va nv vc]) ∧ RowAt w' true l1 w'.heap.size 3 va nv vc (trips (setRootV vs m rt)) ∧ w.heap.size ≤ l1 ∧ Below w.heap.size w w' := by
  have hvl := hv.nTrips
  obtain ⟨cd, hcd⟩ : ∃ cd : Int, cd = 0 := ⟨_, rfl⟩
  rw [← hcd]
  have B : Below w.heap.size w (((w.alloc (.cells #[.slice an nn cn, .slice ab nb cb, .slice av nv cv] 31)).alloc (.cells #[.int .i64 cd, .int .i64 rt, .slice a1 x1 ca, .slice b1 x2 ce] 88)).alloc (.cells #[.int .i64 0, .int .i64 0, .int .i64 0, .slice none 0 0, .slice none 0 0, .slice none 0 0] 33)) := (((Below.refl _ _).alloc (Nat.le_refl _) _).alloc (by simp) _).alloc (by simp; omega) _
  have A3 : Below ((w.alloc (.cells #[.slice an nn cn, .slice ab nb cb, .slice av nv cv] 31)).alloc (.cells #[.int .i64 cd, .int .i64 rt, .slice a1 x1 ca, .slice b1 x2 ce] 88)).heap.size ((w.alloc (.cells #[.slice an nn cn, .slice ab nb cb, .slice av nv cv] 31)).alloc (.cells #[.int .i64 cd, .int .i64 rt, .slice a1 x1 ca, .slice b1 x2 ce] 88)) (((w.alloc (.cells #[.slice an nn cn, .slice ab nb cb, .slice av nv cv] 31)).alloc (.cells #[.int .i64 cd, .int .i64 rt, .slice a1 x1 ca, .slice b1 x2 ce] 88)).alloc (.cells #[.int .i64 0, .int .i64 0, .int .i64 0, .slice none 0 0, .slice none 0 0, .slice none 0 0] 33)) := (Below.refl _ _).alloc (Nat.le_refl _) _
  have ez : ((w.alloc (.cells #[.slice an nn cn, .slice ab nb cb, .slice av nv cv] 31)).alloc (.cells #[.int .i64 cd, .int .i64 rt, .slice a1 x1 ca, .slice b1 x2 ce] 88)).heap.size = w.heap.size + 1 + 1 := by simp
  have g0 : (((w.alloc (.cells #[.slice an nn cn, .slice ab nb cb, .slice av nv cv] 31)).alloc (.cells #[.int .i64 cd, .int .i64 rt, .slice a1 x1 ca, .slice b1 x2 ce] 88)).alloc (.cells #[.int .i64 0, .int .i64 0, .int .i64 0, .slice none 0 0, .slice none 0 0, .slice none 0 0] 33)).cell? ⟨w.heap.size, 0, none⟩ = some (.slice an nn cn) := cell_later A3 (by simp)
  have g1 : (((w.alloc (.cells #[.slice an nn cn, .slice ab nb cb, .slice av nv cv] 31)).alloc (.cells #[.int .i64 cd, .int .i64 rt, .slice a1 x1 ca, .slice b1 x2 ce] 88)).alloc (.cells #[.int .i64 0, .int .i64 0, .int .i64 0, .slice none 0 0, .slice none 0 0, .slice none 0 0] 33)).cell? ⟨w.heap.size, 1, none⟩ = some (.slice ab nb cb) := cell_later A3 (by simp)
  have g2 : (((w.alloc (.cells #[.slice an nn cn, .slice ab nb cb, .slice av nv cv] 31)).alloc (.cells #[.int .i64 cd, .int .i64 rt, .slice a1 x1 ca, .slice b1 x2 ce] 88)).alloc (.cells #[.int .i64 0, .int .i64 0, .int .i64 0, .slice none 0 0, .slice none 0 0, .slice none 0 0] 33)).cell? ⟨w.heap.size, 2, none⟩ = some (.slice av nv cv) := cell_later A3 (by simp)
  have t0 : (((w.alloc (.cells #[.slice an nn cn, .slice ab nb cb, .slice av nv cv] 31)).alloc (.cells #[.int .i64 cd, .int .i64 rt, .slice a1 x1 ca, .slice b1 x2 ce] 88)).alloc (.cells #[.int .i64 0, .int .i64 0, .int .i64 0, .slice none 0 0, .slice none 0 0, .slice none 0 0] 33)).cell? ⟨w.heap.size + 1, 0, none⟩ = some (.int .i64 cd) := cell_later A3 (by simp)
  have t1 : (((w.alloc (.cells #[.slice an nn cn, .slice ab nb cb, .slice av nv cv] 31)).alloc (.cells #[.int .i64 cd, .int .i64 rt, .slice a1 x1 ca, .slice b1 x2 ce] 88)).alloc (.cells #[.int .i64 0, .int .i64 0, .int .i64 0, .slice none 0 0, .slice none 0 0, .slice none 0 0] 33)).cell? ⟨w.heap.size + 1, 1, none⟩ = some (.int .i64 rt) := cell_later A3 (by simp)
  have t2 : (((w.alloc (.cells #[.slice an nn cn, .slice ab nb cb, .slice av nv cv] 31)).alloc (.cells #[.int .i64 cd, .int .i64 rt, .slice a1 x1 ca, .slice b1 x2 ce] 88)).alloc (.cells #[.int .i64 0, .int .i64 0, .int .i64 0, .slice none 0 0, .slice none 0 0, .slice none 0 0] 33)).cell? ⟨w.heap.size + 1, 2, none⟩ = some (.slice a1 x1 ca) := cell_later A3 (by simp)
  have t3 : (((w.alloc (.cells #[.slice an nn cn, .slice ab nb cb, .slice av nv cv] 31)).alloc (.cells #[.int .i64 cd, .int .i64 rt, .slice a1 x1 ca, .slice b1 x2 ce] 88)).alloc (.cells #[.int .i64 0, .int .i64 0, .int .i64 0, .slice none 0 0, .slice none 0 0, .slice none 0 0] 33)).cell? ⟨w.heap.size + 1, 3, none⟩ = some (.slice b1 x2 ce) := cell_later A3 (by simp)
  have z0 : (((w.alloc (.cells #[.slice an nn cn, .slice ab nb cb, .slice av nv cv] 31)).alloc (.cells #[.int .i64 cd, .int .i64 rt, .slice a1 x1 ca, .slice b1 x2 ce] 88)).alloc (.cells #[.int .i64 0, .int .i64 0, .int .i64 0, .slice none 0 0, .slice none 0 0, .slice none 0 0] 33)).cell? ⟨w.heap.size + 1 + 1, 0, none⟩ = some (.int .i64 0) := by rw [← ez]; exact new_cell _ _ _ _ rfl
  have y0 : (((w.alloc (.cells #[.slice an nn cn, .slice ab nb cb, .slice av nv cv] 31)).alloc (.cells #[.int .i64 cd, .int .i64 rt, .slice a1 x1 ca, .slice b1 x2 ce] 88)).alloc (.cells #[.int .i64 0, .int .i64 0, .int .i64 0, .slice none 0 0, .slice none 0 0, .slice none 0 0] 33)).frozen? ⟨w.heap.size + 1 + 1, 0, none⟩ = false := by rw [← ez]; exact new_frozen _ _ _ _
  have z1 : (((w.alloc (.cells #[.slice an nn cn, .slice ab nb cb, .slice av nv cv] 31)).alloc (.cells #[.int .i64 cd, .int .i64 rt, .slice a1 x1 ca, .slice b1 x2 ce] 88)).alloc (.cells #[.int .i64 0, .int .i64 0, .int .i64 0, .slice none 0 0, .slice none 0 0, .slice none 0 0] 33)).cell? ⟨w.heap.size + 1 + 1, 1, none⟩ = some (.int .i64 0) := by rw [← ez]; exact new_cell _ _ _ _ rfl
  have y1 : (((w.alloc (.cells #[.slice an nn cn, .slice ab nb cb, .slice av nv cv] 31)).alloc (.cells #[.int .i64 cd, .int .i64 rt, .slice a1 x1 ca, .slice b1 x2 ce] 88)).alloc (.cells #[.int .i64 0, .int .i64 0, .int .i64 0, .slice none 0 0, .slice none 0 0, .slice none 0 0] 33)).frozen? ⟨w.heap.size + 1 + 1, 1, none⟩ = false := by rw [← ez]; exact new_frozen _ _ _ _
  have z2 : (((w.alloc (.cells #[.slice an nn cn, .slice ab nb cb, .slice av nv cv] 31)).alloc (.cells #[.int .i64 cd, .int .i64 rt, .slice a1 x1 ca, .slice b1 x2 ce] 88)).alloc (.cells #[.int .i64 0, .int .i64 0, .int .i64 0, .slice none 0 0, .slice none 0 0, .slice none 0 0] 33)).cell? ⟨w.heap.size + 1 + 1, 2, none⟩ = some (.int .i64 0) := by rw [← ez]; exact new_cell _ _ _ _ rfl
  have y2 : (((w.alloc (.cells #[.slice an nn cn, .slice ab nb cb, .slice av nv cv] 31)).alloc (.cells #[.int .i64 cd, .int .i64 rt, .slice a1 x1 ca, .slice b1 x2 ce] 88)).alloc (.cells #[.int .i64 0, .int .i64 0, .int .i64 0, .slice none 0 0, .slice none 0 0, .slice none 0 0] 33)).frozen? ⟨w.heap.size + 1 + 1, 2, none⟩ = false := by rw [← ez]; exact new_frozen _ _ _ _
  have z3 : (((w.alloc (.cells #[.slice an nn cn, .slice ab nb cb, .slice av nv cv] 31)).alloc (.cells #[.int .i64 cd, .int .i64 rt, .slice a1 x1 ca, .slice b1 x2 ce] 88)).alloc (.cells #[.int .i64 0, .int .i64 0, .int .i64 0, .slice none 0 0, .slice none 0 0, .slice none 0 0] 33)).cell? ⟨w.heap.size + 1 + 1, 3, none⟩ = some (.slice none 0 0) := by rw [← ez]; exact new_cell _ _ _ _ rfl
  have y3 : (((w.alloc (.cells #[.slice an nn cn, .slice ab nb cb, .slice av nv cv] 31)).alloc (.cells #[.int .i64 cd, .int .i64 rt, .slice a1 x1 ca, .slice b1 x2 ce] 88)).alloc (.cells #[.int .i64 0, .int .i64 0, .int .i64 0, .slice none 0 0, .slice none 0 0, .slice none 0 0] 33)).frozen? ⟨w.heap.size + 1 + 1, 3, none⟩ = false := by rw [← ez]; exact new_frozen _ _ _ _
  have z4 : (((w.alloc (.cells #[.slice an nn cn, .slice ab nb cb, .slice av nv cv] 31)).alloc (.cells #[.int .i64 cd, .int .i64 rt, .slice a1 x1 ca, .slice b1 x2 ce] 88)).alloc (.cells #[.int .i64 0, .int .i64 0, .int .i64 0, .slice none 0 0, .slice none 0 0, .slice none 0 0] 33)).cell? ⟨w.heap.size + 1 + 1, 4, none⟩ = some (.slice none 0 0) := by rw [← ez]; exact new_cell _ _ _ _ rfl
  have y4 : (((w.alloc (.cells #[.slice an nn cn, .slice ab nb cb, .slice av nv cv] 31)).alloc (.cells #[.int .i64 cd, .int .i64 rt, .slice a1 x1 ca, .slice b1 x2 ce] 88)).alloc (.cells #[.int .i64 0, .int .i64 0, .int .i64 0, .slice none 0 0, .slice none 0 0, .slice none 0 0] 33)).frozen? ⟨w.heap.size + 1 + 1, 4, none⟩ = false := by rw [← ez]; exact new_frozen _ _ _ _
  have z5 : (((w.alloc (.cells #[.slice an nn cn, .slice ab nb cb, .slice av nv cv] 31)).alloc (.cells #[.int .i64 cd, .int .i64 rt, .slice a1 x1 ca, .slice b1 x2 ce] 88)).alloc (.cells #[.int .i64 0, .int .i64 0, .int .i64 0, .slice none 0 0, .slice none 0 0, .slice none 0 0] 33)).cell? ⟨w.heap.size + 1 + 1, 5, none⟩ = some (.slice none 0 0) := by rw [← ez]; exact new_cell _ _ _ _ rfl
  have y5 : (((w.alloc (.cells #[.slice an nn cn, .slice ab nb cb, .slice av nv cv] 31)).alloc (.cells #[.int .i64 cd, .int .i64 rt, .slice a1 x1 ca, .slice b1 x2 ce] 88)).alloc (.cells #[.int .i64 0, .int .i64 0, .int .i64 0, .slice none 0 0, .slice none 0 0, .slice none 0 0] 33)).frozen? ⟨w.heap.size + 1 + 1, 5, none⟩ = false := by rw [← ez]; exact new_frozen _ _ _ _
  have s0 : (((w.alloc (.cells #[.slice an nn cn, .slice ab nb cb, .slice av nv cv] 31)).alloc (.cells #[.int .i64 cd, .int .i64 rt, .slice a1 x1 ca, .slice b1 x2 ce] 88)).alloc (.cells #[.int .i64 0, .int .i64 0, .int .i64 0, .slice none 0 0, .slice none 0 0, .slice none 0 0] 33)).heap.size = w.heap.size + 3 := by simp
  have hz : w.heap.size + 1 + 1 < (((w.alloc (.cells #[.slice an nn cn, .slice ab nb cb, .slice av nv cv] 31)).alloc (.cells #[.int .i64 cd, .int .i64 rt, .slice a1 x1 ca, .slice b1 x2 ce] 88)).alloc (.cells #[.int .i64 0, .int .i64 0, .int .i64 0, .slice none 0 0, .slice none 0 0, .slice none 0 0] 33)).heap.size := by omega
  clear A3 ez
  subst hcd
  go_enter Try.func158, Try.ntmps158
  go_wp2_with fail
  refine (cloneV_is av nv cv vs _ (hv.below B) hvn).mono ?_
  rintro e w1 ⟨va, vc, rfl, V, B1⟩
  rw [s0] at V
  replace g0 := cell_later B1 g0
  replace g1 := cell_later B1 g1
  replace g2 := cell_later B1 g2
  replace t0 := cell_later B1 t0
  replace t1 := cell_later B1 t1
  replace t2 := cell_later B1 t2
  replace t3 := cell_later B1 t3
  replace z0 := cell_later B1 z0
  replace y0 := frozen_later B1 hz y0
  replace z1 := cell_later B1 z1
  replace y1 := frozen_later B1 hz y1
  replace z2 := cell_later B1 z2
  replace y2 := frozen_later B1 hz y2
  replace z3 := cell_later B1 z3
  replace y3 := frozen_later B1 hz y3
  replace z4 := cell_later B1 z4
  replace y4 := frozen_later B1 hz y4
  replace z5 := cell_later B1 z5
  replace y5 := frozen_later B1 hz y5
  replace hz := Nat.lt_of_lt_of_le hz B1.size
  replace B := below_step B B.size B1
  clear B1 s0
  have hlm : (m : Int) < (nv : Int) := by omega
  have V0 : Hid _ := V
  obtain ⟨b, off, rfl, hlo, hhi, hbs, c0, c1, c2, fz⟩ := V.trip hm
  have f2 := (fz rfl).2.2
  have KS : Kept (w.heap.size + 3) w1.heap.size w1 (w1.setCell ⟨b, off + m * 3 + 2, none⟩ (.int .i64 rt)) := Kept.setCell (Kept.refl _ _ _) (p := ⟨b, off + m * 3 + 2, none⟩) hlo hhi _
  have V2 := V0.out.stored (i := m * 3 + 2) (by omega) (.int .i64 rt)
  rw [trips_third vs m (by omega), ← Nat.add_assoc] at V2
  have sS : (w1.setCell ⟨b, off + m * 3 + 2, none⟩ (.int .i64 rt)).heap.size = w1.heap.size := by simp
  have gt2 : (w1.setCell ⟨b, off + m * 3 + 2, none⟩ (.int .i64 rt)).cell? ⟨w.heap.size + 1, 2, none⟩ = _ := KS.cell t2 (Or.inl (by omega))
  have gt3 : (w1.setCell ⟨b, off + m * 3 + 2, none⟩ (.int .i64 rt)).cell? ⟨w.heap.size + 1, 3, none⟩ = _ := KS.cell t3 (Or.inl (by omega))
  have v0 : (w1.setCell ⟨b, off + m * 3 + 2, none⟩ (.int .i64 rt)).cell? ⟨w.heap.size + 1 + 1, 0, none⟩ = _ := KS.cell z0 (Or.inl (by omega))
  have u0 : (w1.setCell ⟨b, off + m * 3 + 2, none⟩ (.int .i64 rt)).frozen? ⟨w.heap.size + 1 + 1, 0, none⟩ = false := KS.frozen hz (Or.inl (by omega)) y0
  have v1 : (w1.setCell ⟨b, off + m * 3 + 2, none⟩ (.int .i64 rt)).cell? ⟨w.heap.size + 1 + 1, 1, none⟩ = _ := KS.cell z1 (Or.inl (by omega))
  have u1 : (w1.setCell ⟨b, off + m * 3 + 2, none⟩ (.int .i64 rt)).frozen? ⟨w.heap.size + 1 + 1, 1, none⟩ = false := KS.frozen hz (Or.inl (by omega)) y1
  have v2 : (w1.setCell ⟨b, off + m * 3 + 2, none⟩ (.int .i64 rt)).cell? ⟨w.heap.size + 1 + 1, 2, none⟩ = _ := KS.cell z2 (Or.inl (by omega))
  have u2 : (w1.setCell ⟨b, off + m * 3 + 2, none⟩ (.int .i64 rt)).frozen? ⟨w.heap.size + 1 + 1, 2, none⟩ = false := KS.frozen hz (Or.inl (by omega)) y2
  have v3 : (w1.setCell ⟨b, off + m * 3 + 2, none⟩ (.int .i64 rt)).cell? ⟨w.heap.size + 1 + 1, 3, none⟩ = _ := KS.cell z3 (Or.inl (by omega))
  have u3 : (w1.setCell ⟨b, off + m * 3 + 2, none⟩ (.int .i64 rt)).frozen? ⟨w.heap.size + 1 + 1, 3, none⟩ = false := KS.frozen hz (Or.inl (by omega)) y3
  have v4 : (w1.setCell ⟨b, off + m * 3 + 2, none⟩ (.int .i64 rt)).cell? ⟨w.heap.size + 1 + 1, 4, none⟩ = _ := KS.cell z4 (Or.inl (by omega))
  have u4 : (w1.setCell ⟨b, off + m * 3 + 2, none⟩ (.int .i64 rt)).frozen? ⟨w.heap.size + 1 + 1, 4, none⟩ = false := KS.frozen hz (Or.inl (by omega)) y4
  have v5 : (w1.setCell ⟨b, off + m * 3 + 2, none⟩ (.int .i64 rt)).cell? ⟨w.heap.size + 1 + 1, 5, none⟩ = _ := KS.cell z5 (Or.inl (by omega))
  have u5 : (w1.setCell ⟨b, off + m * 3 + 2, none⟩ (.int .i64 rt)).frozen? ⟨w.heap.size + 1 + 1, 5, none⟩ = false := KS.frozen hz (Or.inl (by omega)) y5
  have HV2 : Hid _ := V2
  have HKS : Hid _ := KS
  have HSS : Hid _ := sS
  clear V V2 KS V0 sS fz
  go_wp2
  refine bodyPost_ret (v := .agg #[.int .i64 0, .int .i64 0, .int .i64 0, .slice a1 x1 ca, .slice b1 x2 ce, .slice (some ⟨b, off, none⟩) nv vc]) (by simp [results, Try.results158, go_sem, v0, v1, v2, v3, v4, v5]) rfl ?_
  have KZ : Kept (w.heap.size + 2) (w.heap.size + 3) (w1.setCell ⟨b, off + m * 3 + 2, none⟩ (.int .i64 rt)) ((((((((w1.setCell ⟨b, off + m * 3 + 2, none⟩ (.int .i64 rt)).setCell ⟨w.heap.size + 1 + 1, 0, none⟩ (.int .i64 0)).setCell ⟨w.heap.size + 1 + 1, 1, none⟩ (.int .i64 0)).setCell ⟨w.heap.size + 1 + 1, 2, none⟩ (.int .i64 0)).setCell ⟨w.heap.size + 1 + 1, 3, none⟩ (.slice a1 x1 ca)).setCell ⟨w.heap.size + 1 + 1, 4, none⟩ (.slice b1 x2 ce)).setCell ⟨w.heap.size + 1 + 1, 5, none⟩ (.slice (some ⟨b, off, none⟩) nv vc))) := by refine Kept.setCell (Kept.setCell (Kept.setCell (Kept.setCell (Kept.setCell (Kept.setCell (Kept.refl _ _ _) ?_ ?_ _) ?_ ?_ _) ?_ ?_ _) ?_ ?_ _) ?_ ?_ _) ?_ ?_ _ <;> simp
  have q0 := HSS.out
  have q1 := KZ.size
  have BB : Below w.heap.size w (w1.setCell ⟨b, off + m * 3 + 2, none⟩ (.int .i64 rt)) := B.trans (HKS.out.below _ (by omega) B.size)
  exact ⟨_, vc, w.heap.size + 3, rfl, (HV2.out.kept KZ (Or.inr (Nat.le_refl _))).widen (Nat.le_refl _) (by omega), by omega, BB.trans (KZ.below _ (by omega) BB.size)⟩

end Go.Proofs.Ytikjndmgljkhhaa

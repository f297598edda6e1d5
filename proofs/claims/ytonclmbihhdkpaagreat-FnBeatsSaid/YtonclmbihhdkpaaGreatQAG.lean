/- Chapter 9: lists cloned by the program, each into new memory. -/
import Derived.Test.YtonclmbihhdkpaaGreatQAF
import Derived.Test.YtonclmbihhdkpaaGreatQAB
import Derived.Lib.AppendZeros
import Derived.Test.YtonclmbihhdkpaaGreatQAE
import Derived.Test.YtonclmbihhdkpaaGreatQAC
import Derived.Deep.MidRow
import Derived.Deep.RegionHeld3
import Derived.Deep.WholeRow
import Derived.Maps.AppendAt
set_option maxRecDepth 20000
set_option maxHeartbeats 16000000
namespace Go.Proofs.YtonclmbihhdkpaaGreat
open Go.RowKit
def CloR (w w' : World) (e : Ending) (sz n : Nat) (cs : List Value) : Prop := ∃ ra rc z u, e = .returned (.slice ra n rc) ∧ w.heap.size ≤ z ∧ z ≤ u ∧ u ≤ w'.heap.size ∧ RowAt w' true z u sz ra n rc cs ∧ Below w.heap.size w w'
theorem bls_one (xs : List Bool) : ∀ u ∈ bls xs, u.oneCell' = true := fun u hu => by
 obtain ⟨b, _, rfl⟩ := List.mem_map.1 hu; rfl
theorem sixs_oneX (xs : List En) : ∀ u ∈ sixs xs, u.oneCell' = true := fun u hu => by
 obtain ⟨j, _, rfl⟩ := List.mem_map.1 hu; rfl
theorem ints_oneX (xs : List Int) : ∀ u ∈ ints xs, u.oneCell' = true := fun u hu => by
 obtain ⟨j, _, rfl⟩ := List.mem_map.1 hu; rfl
theorem cloneE_z {o : Bool} {l u : Nat} (ab : Option Addr) (nb cb : Nat) (xs : List En) (w : World) (h : RowAt w o l u 6 ab nb cb (sixs xs)) (hn : nb ≤ 1048576) :
  Calls Tryz.prog 137 #[.slice ab nb cb] w fun e w' => CloR w w' e 6 nb (sixs xs) := by
 obtain ⟨j0, hj0, hy0, hy1, hy2⟩ := info_parts Tryz.infoEntry
 have hq : ∀ W, (binOp .eql 24 (.slice ab nb cb) (.slice none 0 0)).run Tryz.prog W = .ok (.bool ab.isNone) W := fun W => Lib.run_eql_slice_nil W _ _ ab nb cb 0 0 Tryz.underlying24
 cases ab with
 | none =>
  simp only [Option.isNone_none] at hq
  have hz : nb = 0 := Decidable.byContradiction fun hne => by obtain ⟨_, _, e, _⟩ := h.cells hne; cases e
  subst hz
  have hbs : (sixs xs) = [] := List.eq_nil_of_length_eq_zero (by have := h.len; omega)
  rw [hbs]
  go_enter Tryz.func137, Tryz.ntmps137
  go_wp2
  go_ret
  exact ⟨none, 0, _, _, rfl, Nat.le_refl _, Nat.le_refl _, Nat.le_refl _, RowAt.nil _ _ _ _ _, Below.refl _ _⟩
 | some ad =>
  simp only [Option.isNone_some] at hq
  have B3 : Below w.heap.size w (w.alloc (.cells #[] 44)) := (Below.refl _ _).alloc (Nat.le_refl _) _
  obtain ⟨ad', cp, w4, hr4, R4, B4, -⟩ := run_append_fresh (P := Tryz.prog) (w.alloc (.cells #[] 44)) 24 24 44 j0 (.agg #[.int .i64 0, .int .i64 0, .int .i64 0, .int .i64 0, .int .i64 0, .int .i64 0]) 6 48 Tryz.underlying24 hj0 hy0 hy1 hy2 (by rw [hy1]; rfl) w.heap.size (some ad) nb cb (sixs xs) (h.below B3) (sixs_oneX xs) hn (by omega)
  go_enter Tryz.func137, Tryz.ntmps137
  go_wp2_with (at_builtin; refine Lib.wpList_append_run _ rfl _ _ _ _ rfl _ _ rfl rfl _ _ hr4 ?_)
  have B5 := below_next B3 B4
  have R5 : RowAt w4 true w.heap.size w4.heap.size 6 (some ad') nb cp (sixs xs) := R4.widen (by simp) (Nat.le_refl _)
  clear B3 B4 R4 hr4
  go_wp2
  go_ret
  exact ⟨some ad', cp, _, _, rfl, Nat.le_refl _, B5.size, Nat.le_refl _, R5, B5⟩
theorem cloneI_z {o : Bool} {l u : Nat} (ab : Option Addr) (nb cb : Nat) (bs : List Int) (w : World) (h : RowAt w o l u 1 ab nb cb (ints bs)) (hn : nb ≤ 1048576) :
  Calls Tryz.prog 183 #[.slice ab nb cb] w fun e w' => CloR w w' e 1 nb (ints bs) := by
 obtain ⟨j0, hj0, hy0, hy1, hy2⟩ := info_parts Tryz.info2'
 have hq : ∀ W, (binOp .eql 25 (.slice ab nb cb) (.slice none 0 0)).run Tryz.prog W = .ok (.bool ab.isNone) W := fun W => Lib.run_eql_slice_nil W _ _ ab nb cb 0 0 Tryz.underlying25
 cases ab with
 | none =>
  simp only [Option.isNone_none] at hq
  have hz : nb = 0 := Decidable.byContradiction fun hne => by obtain ⟨_, _, e, _⟩ := h.cells hne; cases e
  subst hz
  have hbs : (ints bs) = [] := List.eq_nil_of_length_eq_zero (by have := h.len; omega)
  rw [hbs]
  go_enter Tryz.func183, Tryz.ntmps183
  go_wp2
  go_ret
  exact ⟨none, 0, _, _, rfl, Nat.le_refl _, Nat.le_refl _, Nat.le_refl _, RowAt.nil _ _ _ _ _, Below.refl _ _⟩
 | some ad =>
  simp only [Option.isNone_some] at hq
  have B3 : Below w.heap.size w (w.alloc (.cells #[] 2)) := (Below.refl _ _).alloc (Nat.le_refl _) _
  obtain ⟨ad', cp, w4, hr4, R4, B4, -⟩ := run_append_fresh (P := Tryz.prog) (w.alloc (.cells #[] 2)) 25 25 2 j0 (.int .i64 0) 1 8 Tryz.underlying25 hj0 hy0 hy1 hy2 (by rw [hy1]; rfl) w.heap.size (some ad) nb cb (ints bs) (h.below B3) (ints_oneX bs) hn (by omega)
  go_enter Tryz.func183, Tryz.ntmps183
  go_wp2_with (at_builtin; refine Lib.wpList_append_run _ rfl _ _ _ _ rfl _ _ rfl rfl _ _ hr4 ?_)
  have B5 := below_next B3 B4
  have R5 : RowAt w4 true w.heap.size w4.heap.size 1 (some ad') nb cp (ints bs) := R4.widen (by simp) (Nat.le_refl _)
  clear B3 B4 R4 hr4
  go_wp2
  go_ret
  exact ⟨some ad', cp, _, _, rfl, Nat.le_refl _, B5.size, Nat.le_refl _, R5, B5⟩
theorem cloneB_z {o : Bool} {l u : Nat} (ab : Option Addr) (nb cb : Nat) (xs : List Bool) (w : World) (h : RowAt w o l u 1 ab nb cb (bls xs)) (hn : nb ≤ 1048576) :
  Calls Tryz.prog 184 #[.slice ab nb cb] w fun e w' => CloR w w' e 1 nb (bls xs) := by
 obtain ⟨j0, hj0, hy0, hy1, hy2⟩ := info_parts Tryz.info4'
 have hq : ∀ W, (binOp .eql 26 (.slice ab nb cb) (.slice none 0 0)).run Tryz.prog W = .ok (.bool ab.isNone) W := fun W => Lib.run_eql_slice_nil W _ _ ab nb cb 0 0 Tryz.underlying26
 cases ab with
 | none =>
  simp only [Option.isNone_none] at hq
  have hz : nb = 0 := Decidable.byContradiction fun hne => by obtain ⟨_, _, e, _⟩ := h.cells hne; cases e
  subst hz
  have hbs : (bls xs) = [] := List.eq_nil_of_length_eq_zero (by have := h.len; omega)
  rw [hbs]
  go_enter Tryz.func184, Tryz.ntmps184
  go_wp2
  go_ret
  exact ⟨none, 0, _, _, rfl, Nat.le_refl _, Nat.le_refl _, Nat.le_refl _, RowAt.nil _ _ _ _ _, Below.refl _ _⟩
 | some ad =>
  simp only [Option.isNone_some] at hq
  have B3 : Below w.heap.size w (w.alloc (.cells #[] 4)) := (Below.refl _ _).alloc (Nat.le_refl _) _
  obtain ⟨ad', cp, w4, hr4, R4, B4, -⟩ := run_append_fresh (P := Tryz.prog) (w.alloc (.cells #[] 4)) 26 26 4 j0 (.bool false) 1 1 Tryz.underlying26 hj0 hy0 hy1 hy2 (by rw [hy1]; rfl) w.heap.size (some ad) nb cb (bls xs) (h.below B3) (bls_one xs) hn (by omega)
  go_enter Tryz.func184, Tryz.ntmps184
  go_wp2_with (at_builtin; refine Lib.wpList_append_run _ rfl _ _ _ _ rfl _ _ rfl rfl _ _ hr4 ?_)
  have B5 := below_next B3 B4
  have R5 : RowAt w4 true w.heap.size w4.heap.size 1 (some ad') nb cp (bls xs) := R4.widen (by simp) (Nat.le_refl _)
  clear B3 B4 R4 hr4
  go_wp2
  go_ret
  exact ⟨some ad', cp, _, _, rfl, Nat.le_refl _, B5.size, Nat.le_refl _, R5, B5⟩
theorem cloneD_z {o : Bool} {l u : Nat} (ab : Option Addr) (nb cb : Nat) (cs : List Value) (w : World) (h : RowAt w o l u 4 ab nb cb cs) (h1 : ∀ u ∈ cs, u.oneCell' = true) (hn : nb ≤ 1048576) :
  Calls Tryz.prog 219 #[.slice ab nb cb] w fun e w' => CloR w w' e 4 nb cs := by
 obtain ⟨j0, hj0, hy0, hy1, hy2⟩ := info_parts Tryz.infoDoer
 have hq : ∀ W, (binOp .eql 27 (.slice ab nb cb) (.slice none 0 0)).run Tryz.prog W = .ok (.bool ab.isNone) W := fun W => Lib.run_eql_slice_nil W _ _ ab nb cb 0 0 Tryz.underlying27
 cases ab with
 | none =>
  simp only [Option.isNone_none] at hq
  have hz : nb = 0 := Decidable.byContradiction fun hne => by obtain ⟨_, _, e, _⟩ := h.cells hne; cases e
  subst hz
  have hbs : cs = [] := List.eq_nil_of_length_eq_zero (by have := h.len; omega)
  rw [hbs]
  go_enter Tryz.func219, Tryz.ntmps219
  go_wp2
  go_ret
  exact ⟨none, 0, _, _, rfl, Nat.le_refl _, Nat.le_refl _, Nat.le_refl _, RowAt.nil _ _ _ _ _, Below.refl _ _⟩
 | some ad =>
  simp only [Option.isNone_some] at hq
  have B3 : Below w.heap.size w (w.alloc (.cells #[] 158)) := (Below.refl _ _).alloc (Nat.le_refl _) _
  obtain ⟨ad', cp, w4, hr4, R4, B4, -⟩ := run_append_fresh (P := Tryz.prog) (w.alloc (.cells #[] 158)) 27 27 158 j0 (.agg #[.bool false, .int .i64 0, .slice none 0 0, .int .i64 0]) 4 48 Tryz.underlying27 hj0 hy0 hy1 hy2 (by rw [hy1]; rfl) w.heap.size (some ad) nb cb cs (h.below B3) h1 hn (by omega)
  go_enter Tryz.func219, Tryz.ntmps219
  go_wp2_with (at_builtin; refine Lib.wpList_append_run _ rfl _ _ _ _ rfl _ _ rfl rfl _ _ hr4 ?_)
  have B5 := below_next B3 B4
  have R5 : RowAt w4 true w.heap.size w4.heap.size 4 (some ad') nb cp cs := R4.widen (by simp) (Nat.le_refl _)
  clear B3 B4 R4 hr4
  go_wp2
  go_ret
  exact ⟨some ad', cp, _, _, rfl, Nat.le_refl _, B5.size, Nat.le_refl _, R5, B5⟩
def cpF (K K' : Nat → Hd) (ds : List Dr) (k i j : Nat) : Value := if i < k then drF K' ds i j else drF K ds i j
theorem drF_one (K : Nat → Hd) (ds : List Dr) (i j : Nat) : (drF K ds i j).oneCell' = true := by
 unfold drF; split <;> (try rfl); split <;> (try rfl); split <;> rfl
theorem flat_one (n : Nat) (K : Nat → Hd) (ds : List Dr) : ∀ u ∈ flatF 4 n (drF K ds), u.oneCell' = true := fun u hu => by
 obtain ⟨j, _, rfl⟩ := List.mem_map.1 hu; exact drF_one K ds _ _
theorem ElsAt.of_clone {w : World} {lo hi : Nat} {ra : Option Addr} {n rc : Nat} {K : Nat → Hd} {ds : List Dr} (h : RowAt w true lo hi 4 ra n rc (flatF 4 n (drF K ds))) : ElsAt 4 w true lo hi ra n rc (cpF K kd0 ds 0) kd0 (paL ds 0) :=
 ElsAt.congr (F := drF K ds) (L := fun _ => []) ⟨h, fun i _ => RowAt.nilR _ _ _ _ _ _ _, fun _ i _ h0 => absurd rfl h0⟩ (fun i j _ _ => by simp [cpF]) (fun i _ => by simp [paL])
theorem copy_put {w : World} {lo b off n cap k : Nat} {K K' : Nat → Hd} {ds : List Dr} (h : ElsAt 4 w true lo w.heap.size (some ⟨b, off, none⟩) n cap (cpF K K' ds k) K' (paL ds k)) (hk : k < n) {w1 : World} (hb : Below w.heap.size w w1) {z1 u1 : Nat} (ra : Option Addr) (m c : Nat) (hz : w.heap.size ≤ z1) (hu : u1 ≤ w1.heap.size) (hlo : lo ≤ w.heap.size) (hr : RowAt w1 true z1 u1 6 ra m c (sixs (drL ds k))) :
  ElsAt 4 (w1.setCell ⟨b, off + (k * 4 + 2), none⟩ (.slice ra m c)) true lo w1.heap.size (some ⟨b, off, none⟩) n cap (cpF K (fun j => if j = k then (ra, m, c) else K' j) ds (k + 1)) (fun j => if j = k then (ra, m, c) else K' j) (paL ds (k + 1)) := by
 have E1 := ((h.below hb).widen (Nat.le_refl _) hb.size).newLog k (ra, m, c) (drL ds k) (hr.widen (by omega) hu) (fun h0 q hq e => by
  have h1 := h.inB hq
  have h2 := hr.inB (k := sb ra) ⟨h0, rfl⟩
  simp only at e
  omega)
 have E2 := E1.store (i := k) (j := 2) hk (by omega) (.slice ra m c)
 refine E2.congr (fun i j hi hj => ?_) (fun i hi => ?_)
 ·by_cases e : i = k
  ·subst e
   rcases (by omega : j = 0 ∨ j = 1 ∨ j = 2 ∨ j = 3) with rfl | rfl | rfl | rfl <;> simp [updF, cpF, drF, hv]
  ·rcases (by omega : j = 0 ∨ j = 1 ∨ j = 2 ∨ j = 3) with rfl | rfl | rfl | rfl <;> simp only [updF, cpF, drF] <;> by_cases e2 : i < k <;> simp [e, e2, show i < k + 1 ↔ i < k by omega]
 ·by_cases e : i = k
  ·subst e; unfold paL; rw [if_pos (by omega)]; simp
  ·simp [paL, e, show i < k + 1 ↔ i < k by omega]
theorem copyDoers_z {own : Bool} {lo hi : Nat} (ao : Option Addr) (n cap : Nat) (K : Nat → Hd) (ds : List Dr) (w : World) (h : DoersAt w own lo hi ao n cap K ds) (hn : n ≤ 1048576) (hm : ∀ i, i < n → (K i).2.1 ≤ 1048576) :
  Calls Tryz.prog 185 #[.slice ao n cap] w fun e w' => ∃ ra rc z u K', e = .returned (.slice ra n rc) ∧ w.heap.size ≤ z ∧ u ≤ w'.heap.size ∧ DoersAt w' true z u ra n rc K' ds ∧ (∀ i, i < n → (K' i).2.1 = (K i).2.1) ∧ Below w.heap.size w w' := by
 have hx := h.len
 have HM : Hid _ := hm
 clear hm
 go_enter Tryz.func185, Tryz.ntmps185
 go_wp2_with fail
 refine (cloneD_z ao n cap _ w h.els.row (flat_one n K ds) hn).mono ?_
 rintro e w1 ⟨ra, rc, z, u, rfl, Gz, zu, hR, R, B⟩
 have E0 := (ElsAt.of_clone R).widen (Nat.le_refl _) hR
 have hrc := R.le
 have hz0 := Nat.le_trans zu hR
 clear R zu hR
 go_wp2
 go_loopw [4, 5, 10] (fun _ _ i wr => ∃ k : Nat, k ≤ n ∧ i = .int .i64 k ∧ (∃ K', ElsAt 4 wr true z wr.heap.size ra n rc (cpF K K' ds k) K' (paL ds k) ∧ (∀ i, i < k → (K' i).2.1 = (K i).2.1)) ∧ z ≤ wr.heap.size ∧ Below w.heap.size w wr) (fun _ _ i _ => n - (intOf i).toNat)
 case atStart => exact ⟨0, Nat.zero_le _, rfl, ⟨kd0, E0, fun i hi => absurd hi (Nat.not_lt_zero _)⟩, hz0, B⟩
 case round =>
  obtain ⟨k, hk, rfl, ⟨K', E, HE⟩, hzl, hb⟩ := hrel
  clear E0 B hz0
  by_cases hlt : k < n
  ·have hlk : (k : Int) < (n : Int) := by omega
   obtain ⟨b, off, rfl, hb1, hb2, hbs, hc, hf⟩ := E.el hlt (by omega)
   have e0 : wr.cell? ⟨b, off + k * 4, none⟩ = some (.bool (ds.getD k dr0).1) := by have := hc 0 (by omega); simpa [cpF, drF] using this
   have e1 : wr.cell? ⟨b, off + k * 4 + 1, none⟩ = some (.int .i64 (ds.getD k dr0).2.1) := by have := hc 1 (by omega); rw [← Nat.add_assoc] at this; simpa [cpF, drF] using this
   have e2 : wr.cell? ⟨b, off + k * 4 + 2, none⟩ = some (.slice (K k).1 (K k).2.1 (K k).2.2) := by have := hc 2 (by omega); rw [← Nat.add_assoc] at this; simpa [cpF, drF, hv] using this
   have e3 : wr.cell? ⟨b, off + k * 4 + 3, none⟩ = some (.int .i64 (ds.getD k dr0).2.2.2) := by have := hc 3 (by omega); rw [← Nat.add_assoc] at this; simpa [cpF, drF] using this
   have f2 : wr.frozen? ⟨b, off + k * 4 + 2, none⟩ = false := by have := hf rfl 2 (by omega); rwa [← Nat.add_assoc] at this
   have R := (h.els.logs k hlt).below hb
   have hmk := HM.out k hlt
   have HP : Hid (∀ w1 z1 u1 ra m c, Below wr.heap.size wr w1 → wr.heap.size ≤ z1 → u1 ≤ w1.heap.size → RowAt w1 true z1 u1 6 ra m c (sixs (drL ds k)) → ElsAt 4 (w1.setCell ⟨b, off + (k * 4 + 2), none⟩ (.slice ra m c)) true z w1.heap.size (some ⟨b, off, none⟩) n rc (cpF K (fun j => if j = k then (ra, m, c) else K' j) ds (k + 1)) (fun j => if j = k then (ra, m, c) else K' j) (paL ds (k + 1))) := fun w1 z1 u1 ra m c q1 q2 q3 q4 => copy_put E hlt q1 ra m c q2 q3 hzl q4
   have HE2 : Hid (∀ (ra : Option Addr) (c i : Nat), i < k + 1 → ((fun j => if j = k then (ra, (K k).2.1, c) else K' j) i).2.1 = (K i).2.1) := fun ra c i hi => by
    by_cases e : i = k
    ·simp [e]
    ·simp only [if_neg e]; exact HE i (by omega)
   clear E HE hc hf
   generalize (ds.getD k dr0).1 = kn at *
   generalize (ds.getD k dr0).2.1 = la at *
   generalize (ds.getD k dr0).2.2.2 = cm at *
   generalize K k = q at *
   obtain ⟨qa, qm, qc⟩ := q
   simp only at e2 R hmk HE2
   go_wp2_with (first | ((with_reducible refine sm 158 X0 0 [.bool kn, .int .i64 la, .slice qa qm qc, .int .i64 cm] ?_); intro V1 S; replace X0 : Bx V1 b0 [.bool kn, .int .i64 la, .slice qa qm qc, .int .i64 cm] := S.bx; replace c0 := X0.cell; replace f0 := X0.froz; replace B := bkp B S.kept; clear S) | ((with_reducible refine al 158 [.bool false, .int .i64 0, .slice none 0 0, .int .i64 0] ?_); intro b0 W0 N0; have ob0 := N0.ge; have B := N0.below; obtain ⟨X0, c0, f0⟩ := N0.a; clear N0) | fail)
   refine (cloneE_z qa qm qc (drL ds k) _ (R.below B) hmk).mono ?_
   rintro e w1 ⟨ra1, rc1, z1, u1, rfl, Gz1, _, hu1, R1, BB⟩
   have Gz2 := Nat.le_trans B.size Gz1
   replace B := below_next B BB
   have P := HP.out w1 z1 u1 ra1 qm rc1 B Gz2 hu1 R1
   have HP1 : Hid _ := P
   have HE3 : Hid _ := HE2.out ra1 rc1
   replace e2 := cell_later B e2
   replace f2 := frozen_later B hbs f2
   replace hb := below_next hb B
   have hzl' := Nat.le_trans hzl B.size
   clear P HP HE2 R1 BB B X0 c0 f0 ob0 e0 e1 e3 R Gz1 Gz2 hu1 hbs
   have hS : Below w.heap.size w (w1.setCell ⟨b, off + k * 4 + 2, none⟩ (.slice ra1 qm rc1)) := Below.setCell hb (p := ⟨b, off + k * 4 + 2, none⟩) (by show _ ≤ b; omega) _
   have HS : Hid _ := hS
   clear hS hb
   go_wp2
   go_roundw
   case rel => exact ⟨k + 1, by omega, by go_num, ⟨_, by have := HP1.out.widen (Nat.le_refl _) (show w1.heap.size ≤ (w1.setCell ⟨b, off + (k * 4 + 2), none⟩ (.slice ra1 qm rc1)).heap.size by simp); simpa [Nat.add_assoc] using this, HE3.out⟩, by simpa using hzl', HS.out⟩
   case measure => simp [intOf]; omega
  ·obtain rfl : k = n := by omega
   go_wp2
   go_ret
   exact ⟨ra, rc, z, _, K', rfl, Gz, Nat.le_refl _, ⟨hx, E.congr (fun i j hi hj => by simp [cpF, hi]) (fun i hi => by simp [paL, hi])⟩, HE, hb⟩
theorem repAt_ofZ {w : World} {r : Rep} {h : RH} {lo hi z5 u5 z7 u7 z8 u8 z9 u9 : Nat} (R5 : RowAt w true z5 u5 6 h.L.1 h.L.2.1 h.L.2.2 (sixs r.log)) (R7 : RowAt w true z7 u7 1 h.O.1 h.O.2.1 h.O.2.2 (ints r.oks)) (R8 : RowAt w true z8 u8 1 h.A.1 h.A.2.1 h.A.2.2 (bls r.asks)) (D : DoersAt w true z9 u9 h.D.1 h.D.2.1 h.D.2.2 h.K r.doers)
  (h5 : lo ≤ z5 ∧ u5 ≤ hi) (h7 : lo ≤ z7 ∧ u7 ≤ hi) (h8 : lo ≤ z8 ∧ u8 ≤ hi) (h9 : lo ≤ z9 ∧ u9 ≤ hi) (o57 : u5 ≤ z7 ∨ u7 ≤ z5) (o58 : u5 ≤ z8 ∨ u8 ≤ z5) (o59 : u5 ≤ z9 ∨ u9 ≤ z5) (o78 : u7 ≤ z8 ∨ u8 ≤ z7) (o79 : u7 ≤ z9 ∨ u9 ≤ z7) (o89 : u8 ≤ z9 ∨ u9 ≤ z8) : RepAt w true lo hi h r :=
 ⟨R5.widen h5.1 h5.2, R7.widen h7.1 h7.2, R8.widen h8.1 h8.2, D.widen h9.1 h9.2, fun _ => ⟨fun x h1 h2 => by have a := R5.inB h1; have b := R7.inB h2; omega, fun x h1 h2 => by have a := R5.inB h1; have b := R8.inB h2; omega, fun x h1 h2 => by have a := R5.inB h1; have b := D.els.inB h2; omega, fun x h1 h2 => by have a := R7.inB h1; have b := R8.inB h2; omega, fun x h1 h2 => by have a := R7.inB h1; have b := D.els.inB h2; omega, fun x h1 h2 => by have a := R8.inB h1; have b := D.els.inB h2; omega⟩⟩
theorem copyReplica_z {own : Bool} {lo hi : Nat} (r : Rep) (h : RH) (w : World) (x : RepAt w own lo hi h r) (hs : RSz h 1048576) :
  Calls Tryz.prog 123 #[.agg #[.int .i64 r.id, .int .i64 r.size, .int .i64 r.view, .bool r.normal, .int .i64 r.last, .slice h.L.1 h.L.2.1 h.L.2.2, .int .i64 r.commit, .slice h.O.1 h.O.2.1 h.O.2.2, .slice h.A.1 h.A.2.1 h.A.2.2, .slice h.D.1 h.D.2.1 h.D.2.2]] w fun e w' => ∃ (z u : Nat) (h' : RH), e = .returned (.agg #[.int .i64 r.id, .int .i64 r.size, .int .i64 r.view, .bool r.normal, .int .i64 r.last, .slice h'.L.1 h'.L.2.1 h'.L.2.2, .int .i64 r.commit, .slice h'.O.1 h'.O.2.1 h'.O.2.2, .slice h'.A.1 h'.A.2.1 h'.A.2.2, .slice h'.D.1 h'.D.2.1 h'.D.2.2]) ∧ w.heap.size ≤ z ∧ u ≤ w'.heap.size ∧ RepAt w' true z u h' r ∧ RSz h' 1048576 ∧ Below w.heap.size w w' := by
 have HS : Hid (∀ i, i < h.D.2.1 → (h.K i).2.1 ≤ 1048576) := hs.K
 go_enter Tryz.func123, Tryz.ntmps123
 go_wp2_with (first | ((have g := ob0); clear g; (with_reducible refine al 29 [.int .i64 0, .int .i64 0, .int .i64 0, .bool false, .int .i64 0, .slice none 0 0, .int .i64 0, .slice none 0 0, .slice none 0 0, .slice none 0 0] ?_); intro b1 W1 N1; have ob1 := N1.o B; have o0_b1 := N1.u X0; replace X0 := N1.r X0; replace c0 := X0.cell; replace f0 := X0.froz; replace B := N1.n B; obtain ⟨X1, c1, f1⟩ := N1.a; clear N1) | ((with_reducible refine box_newX 29 [.int .i64 r.id, .int .i64 r.size, .int .i64 r.view, .bool r.normal, .int .i64 r.last, .slice h.L.1 h.L.2.1 h.L.2.2, .int .i64 r.commit, .slice h.O.1 h.O.2.1 h.O.2.2, .slice h.A.1 h.A.2.1 h.A.2.2, .slice h.D.1 h.D.2.1 h.D.2.2] rfl ?_); intro b0 W0 N0; have ob0 := N0.ge; have B := N0.below; obtain ⟨X0, c0, f0⟩ := N0.a; clear N0) | fail)
 refine (cloneE_z _ _ _ r.log _ (by exact x.log.below B) hs.L).mono ?_
 rintro e w5 ⟨ra5, rc5, z5, u5, rfl, Gz5, _, hR5, R5, BB⟩
 have oz5 : w.heap.size ≤ z5 := Nat.le_trans B.size Gz5
 have o0_z5 := ltl X0.lt Gz5
 have o1_z5 := ltl X1.lt Gz5
 clear Gz5
 replace X0 := X0.below BB
 replace c0 := X0.cell
 replace f0 := X0.froz
 replace X1 := X1.below BB
 replace c1 := X1.cell
 replace f1 := X1.froz
 replace B := below_next B BB
 clear BB
 go_wp2_with (first | ((with_reducible refine so 24 X0 5 (.slice ra5 h.L.2.1 rc5) ?_); intro V1 S; replace X0 : Bx V1 b0 [.int .i64 r.id, .int .i64 r.size, .int .i64 r.view, .bool r.normal, .int .i64 r.last, .slice ra5 h.L.2.1 rc5, .int .i64 r.commit, .slice h.O.1 h.O.2.1 h.O.2.2, .slice h.A.1 h.A.2.1 h.A.2.2, .slice h.D.1 h.D.2.1 h.D.2.2] := S.bx; replace c0 := X0.cell; replace f0 := X0.froz; replace X1 := X1.kp S.kept; replace c1 := X1.cell; replace f1 := X1.froz; replace R5 := R5.kept S.kept (by omega); replace hR5 := Nat.le_trans hR5 S.kept.size; replace B := bkp B S.kept; clear S) | fail)
 refine (cloneI_z _ _ _ r.oks _ (by exact x.oks.below B) hs.O).mono ?_
 rintro e w7 ⟨ra7, rc7, z7, u7, rfl, Gz7, _, hR7, R7, BB⟩
 have oz7 : w.heap.size ≤ z7 := Nat.le_trans B.size Gz7
 have o0_z7 := ltl X0.lt Gz7
 have o1_z7 := ltl X1.lt Gz7
 have oR5_z7 : u5 ≤ z7 := Nat.le_trans hR5 Gz7
 clear Gz7
 replace X0 := X0.below BB
 replace c0 := X0.cell
 replace f0 := X0.froz
 replace X1 := X1.below BB
 replace c1 := X1.cell
 replace f1 := X1.froz
 replace R5 := R5.below BB
 replace hR5 := Nat.le_trans hR5 BB.size
 replace B := below_next B BB
 clear BB
 go_wp2_with (first | ((with_reducible refine so 25 X0 7 (.slice ra7 h.O.2.1 rc7) ?_); intro V2 S; replace X0 : Bx V2 b0 [.int .i64 r.id, .int .i64 r.size, .int .i64 r.view, .bool r.normal, .int .i64 r.last, .slice ra5 h.L.2.1 rc5, .int .i64 r.commit, .slice ra7 h.O.2.1 rc7, .slice h.A.1 h.A.2.1 h.A.2.2, .slice h.D.1 h.D.2.1 h.D.2.2] := S.bx; replace c0 := X0.cell; replace f0 := X0.froz; replace X1 := X1.kp S.kept; replace c1 := X1.cell; replace f1 := X1.froz; replace R5 := R5.kept S.kept (by omega); replace hR5 := Nat.le_trans hR5 S.kept.size; replace R7 := R7.kept S.kept (by omega); replace hR7 := Nat.le_trans hR7 S.kept.size; replace B := bkp B S.kept; clear S) | fail)
 refine (cloneB_z _ _ _ r.asks _ (by exact x.asks.below B) hs.A).mono ?_
 rintro e w8 ⟨ra8, rc8, z8, u8, rfl, Gz8, _, hR8, R8, BB⟩
 have oz8 : w.heap.size ≤ z8 := Nat.le_trans B.size Gz8
 have o0_z8 := ltl X0.lt Gz8
 have o1_z8 := ltl X1.lt Gz8
 have oR5_z8 : u5 ≤ z8 := Nat.le_trans hR5 Gz8
 have oR7_z8 : u7 ≤ z8 := Nat.le_trans hR7 Gz8
 clear Gz8
 replace X0 := X0.below BB
 replace c0 := X0.cell
 replace f0 := X0.froz
 replace X1 := X1.below BB
 replace c1 := X1.cell
 replace f1 := X1.froz
 replace R5 := R5.below BB
 replace hR5 := Nat.le_trans hR5 BB.size
 replace R7 := R7.below BB
 replace hR7 := Nat.le_trans hR7 BB.size
 replace B := below_next B BB
 clear BB
 go_wp2_with (first | ((with_reducible refine so 26 X0 8 (.slice ra8 h.A.2.1 rc8) ?_); intro V3 S; replace X0 : Bx V3 b0 [.int .i64 r.id, .int .i64 r.size, .int .i64 r.view, .bool r.normal, .int .i64 r.last, .slice ra5 h.L.2.1 rc5, .int .i64 r.commit, .slice ra7 h.O.2.1 rc7, .slice ra8 h.A.2.1 rc8, .slice h.D.1 h.D.2.1 h.D.2.2] := S.bx; replace c0 := X0.cell; replace f0 := X0.froz; replace X1 := X1.kp S.kept; replace c1 := X1.cell; replace f1 := X1.froz; replace R5 := R5.kept S.kept (by omega); replace hR5 := Nat.le_trans hR5 S.kept.size; replace R7 := R7.kept S.kept (by omega); replace hR7 := Nat.le_trans hR7 S.kept.size; replace R8 := R8.kept S.kept (by omega); replace hR8 := Nat.le_trans hR8 S.kept.size; replace B := bkp B S.kept; clear S) | fail)
 refine (copyDoers_z _ _ _ h.K r.doers _ (by exact x.doers.below B) hs.D HS.out).mono ?_
 rintro e w9 ⟨ra9, rc9, z9, u9, K', rfl, Gz9, hR9, R9, HK, BB⟩
 have HK' : Hid _ := HK
 clear HK
 have oz9 : w.heap.size ≤ z9 := Nat.le_trans B.size Gz9
 have o0_z9 := ltl X0.lt Gz9
 have o1_z9 := ltl X1.lt Gz9
 have oR5_z9 : u5 ≤ z9 := Nat.le_trans hR5 Gz9
 have oR7_z9 : u7 ≤ z9 := Nat.le_trans hR7 Gz9
 have oR8_z9 : u8 ≤ z9 := Nat.le_trans hR8 Gz9
 clear Gz9
 replace X0 := X0.below BB
 replace c0 := X0.cell
 replace f0 := X0.froz
 replace X1 := X1.below BB
 replace c1 := X1.cell
 replace f1 := X1.froz
 replace R5 := R5.below BB
 replace hR5 := Nat.le_trans hR5 BB.size
 replace R7 := R7.below BB
 replace hR7 := Nat.le_trans hR7 BB.size
 replace R8 := R8.below BB
 replace hR8 := Nat.le_trans hR8 BB.size
 replace B := below_next B BB
 clear BB
 go_wp2_with (first | ((with_reducible refine sm 29 X1 0 [.int .i64 r.id, .int .i64 r.size, .int .i64 r.view, .bool r.normal, .int .i64 r.last, .slice ra5 h.L.2.1 rc5, .int .i64 r.commit, .slice ra7 h.O.2.1 rc7, .slice ra8 h.A.2.1 rc8, .slice ra9 h.D.2.1 rc9] ?_); intro V5 S; replace X0 := X0.kp S.kept; replace c0 := X0.cell; replace f0 := X0.froz; replace X1 : Bx V5 b1 [.int .i64 r.id, .int .i64 r.size, .int .i64 r.view, .bool r.normal, .int .i64 r.last, .slice ra5 h.L.2.1 rc5, .int .i64 r.commit, .slice ra7 h.O.2.1 rc7, .slice ra8 h.A.2.1 rc8, .slice ra9 h.D.2.1 rc9] := S.bx; replace c1 := X1.cell; replace f1 := X1.froz; replace R5 := R5.kept S.kept (by omega); replace hR5 := Nat.le_trans hR5 S.kept.size; replace R7 := R7.kept S.kept (by omega); replace hR7 := Nat.le_trans hR7 S.kept.size; replace R8 := R8.kept S.kept (by omega); replace hR8 := Nat.le_trans hR8 S.kept.size; replace R9 := R9.kept S.kept (by omega); replace hR9 := Nat.le_trans hR9 S.kept.size; replace B := bkp B S.kept; clear S) | ((with_reducible refine so 27 X0 9 (.slice ra9 h.D.2.1 rc9) ?_); intro V4 S; replace X0 : Bx V4 b0 [.int .i64 r.id, .int .i64 r.size, .int .i64 r.view, .bool r.normal, .int .i64 r.last, .slice ra5 h.L.2.1 rc5, .int .i64 r.commit, .slice ra7 h.O.2.1 rc7, .slice ra8 h.A.2.1 rc8, .slice ra9 h.D.2.1 rc9] := S.bx; replace c0 := X0.cell; replace f0 := X0.froz; replace X1 := X1.kp S.kept; replace c1 := X1.cell; replace f1 := X1.froz; replace R5 := R5.kept S.kept (by omega); replace hR5 := Nat.le_trans hR5 S.kept.size; replace R7 := R7.kept S.kept (by omega); replace hR7 := Nat.le_trans hR7 S.kept.size; replace R8 := R8.kept S.kept (by omega); replace hR8 := Nat.le_trans hR8 S.kept.size; replace R9 := R9.kept S.kept (by omega); replace hR9 := Nat.le_trans hR9 S.kept.size; replace B := bkp B S.kept; clear S))
 refine bodyPost_ret (v := .agg #[.int .i64 r.id, .int .i64 r.size, .int .i64 r.view, .bool r.normal, .int .i64 r.last, .slice ra5 h.L.2.1 rc5, .int .i64 r.commit, .slice ra7 h.O.2.1 rc7, .slice ra8 h.A.2.1 rc8, .slice ra9 h.D.2.1 rc9]) (by simp [results, Tryz.results123, go_sem, *]) rfl ⟨w.heap.size, V5.heap.size, ⟨(ra5, h.L.2.1, rc5), (ra7, h.O.2.1, rc7), (ra8, h.A.2.1, rc8), (ra9, h.D.2.1, rc9), K'⟩, rfl, Nat.le_refl _, Nat.le_refl _, ?_, ?_, B⟩
 ·exact repAt_ofZ R5 R7 R8 R9 ⟨by omega, by omega⟩ ⟨by omega, by omega⟩ ⟨by omega, by omega⟩ ⟨by omega, by omega⟩ (by omega) (by omega) (by omega) (by omega) (by omega) (by omega)
 ·exact ⟨hs.L, hs.O, hs.A, hs.D, fun i hi => by rw [HK'.out i hi]; exact HS.out i hi⟩
theorem nodeOf_z {own : Bool} {lo hi : Nat} (r : Rep) (h : RH) (w : World) (x : RepAt w own lo hi h r) (hs : RSz h 1048576) :
  Calls Tryz.prog 47 #[.agg #[.int .i64 r.id, .int .i64 r.size, .int .i64 r.view, .bool r.normal, .int .i64 r.last, .slice h.L.1 h.L.2.1 h.L.2.2, .int .i64 r.commit, .slice h.O.1 h.O.2.1 h.O.2.2, .slice h.A.1 h.A.2.1 h.A.2.2, .slice h.D.1 h.D.2.1 h.D.2.2]] w fun e w' => ∃ (bq z u : Nat) (h' : RH), e = .returned (.pointer (some ⟨bq, 0, none⟩)) ∧ w.heap.size ≤ z ∧ u ≤ bq ∧ w.heap.size ≤ bq ∧ Bx w' bq [.int .i64 r.id, .int .i64 r.size, .int .i64 r.view, .bool r.normal, .int .i64 r.last, .slice h'.L.1 h'.L.2.1 h'.L.2.2, .int .i64 r.commit, .slice h'.O.1 h'.O.2.1 h'.O.2.2, .slice h'.A.1 h'.A.2.1 h'.A.2.2, .slice h'.D.1 h'.D.2.1 h'.D.2.2, .slice none 0 0] ∧ RepAt w' true z u h' r ∧ RSz h' 1048576 ∧ Below w.heap.size w w' := by
 go_enter Tryz.func47, Tryz.ntmps47
 go_wp2_with (first | ((with_reducible refine box_newX 29 [.int .i64 r.id, .int .i64 r.size, .int .i64 r.view, .bool r.normal, .int .i64 r.last, .slice h.L.1 h.L.2.1 h.L.2.2, .int .i64 r.commit, .slice h.O.1 h.O.2.1 h.O.2.2, .slice h.A.1 h.A.2.1 h.A.2.2, .slice h.D.1 h.D.2.1 h.D.2.2] rfl ?_); intro b0 W0 N0; have ob0 := N0.ge; have B := N0.below; obtain ⟨X0, c0⟩ := N0.c; clear N0) | fail)
 refine (copyReplica_z r h _ (x.below B) hs).mono ?_
 rintro e w1 ⟨z, u, h', rfl, Gz, hR, R, HZ, BB⟩
 have oz : w.heap.size ≤ z := Nat.le_trans B.size Gz
 have o0_z := ltl X0.lt Gz
 clear Gz
 replace X0 := X0.below BB
 replace c0 := X0.cell
 replace B := below_next B BB
 clear BB
 go_wp2_with (first | ((have g := ob0); clear g; (with_reducible refine box_newX 109 [.int .i64 r.id, .int .i64 r.size, .int .i64 r.view, .bool r.normal, .int .i64 r.last, .slice h'.L.1 h'.L.2.1 h'.L.2.2, .int .i64 r.commit, .slice h'.O.1 h'.O.2.1 h'.O.2.2, .slice h'.A.1 h'.A.2.1 h'.A.2.2, .slice h'.D.1 h'.D.2.1 h'.D.2.2, .slice none 0 0] rfl ?_); intro b1 W1 N1; have ob1 := N1.o B; have o0_b1 := N1.u X0; have oR_b1 : u ≤ b1 := Nat.le_trans hR N1.ge; replace X0 := N1.r X0; replace c0 := X0.cell; replace R := R.below N1.below; replace hR := Nat.le_trans hR N1.below.size; replace B := N1.n B; obtain ⟨X1, c1⟩ := N1.c; clear N1))
 go_ret
 exact ⟨b1, z, u, h', rfl, oz, oR_b1, ob1, X1, R, HZ, B⟩
theorem primaryFor_z {own : Bool} {lo hi : Nat} (r : Rep) (h : RH) (w : World) (x : RepAt w own lo hi h r) (hs : RSz h 1048576) :
  Calls Tryz.prog 66 #[.agg #[.int .i64 r.id, .int .i64 r.size, .int .i64 r.view, .bool r.normal, .int .i64 r.last, .slice h.L.1 h.L.2.1 h.L.2.2, .int .i64 r.commit, .slice h.O.1 h.O.2.1 h.O.2.2, .slice h.A.1 h.A.2.1 h.A.2.2, .slice h.D.1 h.D.2.1 h.D.2.2]] w fun e w' => ∃ (bq z u : Nat) (h' : RH), e = .returned (.agg #[.pointer (some ⟨bq, 0, none⟩)]) ∧ w.heap.size ≤ z ∧ u ≤ bq ∧ w.heap.size ≤ bq ∧ Bx w' bq [.int .i64 r.id, .int .i64 r.size, .int .i64 r.view, .bool r.normal, .int .i64 r.last, .slice h'.L.1 h'.L.2.1 h'.L.2.2, .int .i64 r.commit, .slice h'.O.1 h'.O.2.1 h'.O.2.2, .slice h'.A.1 h'.A.2.1 h'.A.2.2, .slice h'.D.1 h'.D.2.1 h'.D.2.2, .slice none 0 0] ∧ RepAt w' true z u h' r ∧ RSz h' 1048576 ∧ Below w.heap.size w w' := by
 go_enter Tryz.func66, Tryz.ntmps66
 go_wp2_with (first | ((have g := ob0); clear g; (with_reducible refine al 106 [.pointer none] ?_); intro b1 W1 N1; have ob1 := N1.o B; have o0_b1 := N1.u X0; replace X0 := N1.r X0; replace c0 := X0.cell; replace B := N1.n B; obtain ⟨X1, c1, f1⟩ := N1.a; clear N1) | ((with_reducible refine box_newX 29 [.int .i64 r.id, .int .i64 r.size, .int .i64 r.view, .bool r.normal, .int .i64 r.last, .slice h.L.1 h.L.2.1 h.L.2.2, .int .i64 r.commit, .slice h.O.1 h.O.2.1 h.O.2.2, .slice h.A.1 h.A.2.1 h.A.2.2, .slice h.D.1 h.D.2.1 h.D.2.2] rfl ?_); intro b0 W0 N0; have ob0 := N0.ge; have B := N0.below; obtain ⟨X0, c0⟩ := N0.c; clear N0) | fail)
 refine (nodeOf_z r h _ (x.below B) hs).mono ?_
 rintro e w1 ⟨bq, z, u, h', rfl, Gz, uq, Gq, XQ, R, HZ, BB⟩
 have oz := Nat.le_trans B.size Gz
 have oq := Nat.le_trans B.size Gq
 have o1_z := ltl X1.lt Gz
 have o1_q := ltl X1.lt Gq
 clear Gz Gq
 replace X0 := X0.below BB
 replace c0 := X0.cell
 replace X1 := X1.below BB
 replace c1 := X1.cell
 replace f1 := X1.froz
 replace B := below_next B BB
 clear BB
 go_wp2_with (first | ((with_reducible refine sm 106 X1 0 [.pointer (some ⟨bq, 0, none⟩)] ?_); intro V1 S; replace X1 : Bx V1 b1 [.pointer (some ⟨bq, 0, none⟩)] := S.bx; replace c1 := X1.cell; replace R := R.kept S.kept (by omega); replace XQ := XQ.kept S.kept (by omega); replace B := bkp B S.kept; clear S))
 refine bodyPost_ret (v := .agg #[.pointer (some ⟨bq, 0, none⟩)]) (by simp [results, Tryz.results66, go_sem, *]) rfl ⟨bq, z, u, h', rfl, oz, uq, oq, XQ, R, HZ, B⟩
def mark6 (k : Int) (j : Nat) : En := (k + 6 * (j : Int), k + 6 * (j : Int) + 1, k + 6 * (j : Int) + 2, k + 6 * (j : Int) + 3, k + 6 * (j : Int) + 4, k + 6 * (j : Int) + 5)
def marks6 (k : Int) (n : Nat) : List En := (List.range n).map (mark6 k)
def kE (t : Int) (K : Nat → Hd) (k : Int) : Nat → Int
 | 0 => k
 | i + 1 => kE t K k i + t + 6 * ((K i).2.1 : Int)
def paM (t base : Int) (K : Nat → Hd) (k : Int) (L : Nat → List En) (i0 a : Nat) : List En := if a < i0 then marks6 (kE t K k a + base) (K a).2.1 else L a
def mkDF (K : Nat → Hd) (k : Int) (i c : Nat) : Value := [.bool ((kE 3 K k i) % 3 == 0), .int .i64 (kE 3 K k i + 1), hv (K i), .int .i64 (kE 3 K k i + 2 + 6 * ((K i).2.1 : Int))].getD c default
structure PlAt (w : World) (o : Bool) (lo hi : Nat) (av : Option Addr) (nv cv : Nat) (ac : Option Addr) (nc cc : Nat) (ah : Option Addr) (nh ch : Nat) (vs ce : List Vo) (sh : List Int) : Prop where
 vol : RowAt w o lo hi 3 av nv cv (trips vs)
 cel : RowAt w o lo hi 3 ac nc cc (trips ce)
 sha : RowAt w o lo hi 1 ah nh ch (ints sh)
structure SetC (w W : World) (b k : Nat) (v : Value) : Prop where
 kept : Kept b (b + 1) w W
 cell : W.cell? ⟨b, k, none⟩ = some v
 fr : ∀ {q i : Nat}, w.frozen? ⟨q, i, none⟩ = false → W.frozen? ⟨q, i, none⟩ = false
 oth : ∀ {q i : Nat} {u : Value}, w.cell? ⟨q, i, none⟩ = some u → (q ≠ b ∨ i ≠ k) → W.cell? ⟨q, i, none⟩ = some u
def sumStep (h x : Int) : Int := (h * 263 + x % 65521 + 1) % 65521
def sumOf (xs : List Int) : Int := xs.foldl sumStep 9
def recAt (ws : List Int) (at' k : Nat) : Option (List Int) :=
 if at' + 2 < ws.length ∧ 1 ≤ ws.getD at' 0 ∧ ws.getD at' 0 ≤ 8 ∧ at' + 2 + (ws.getD at' 0).toNat ≤ ws.length ∧ ws.getD (at' + 1) 0 = sumOf ((k : Int) :: (ws.drop (at' + 2)).take (ws.getD at' 0).toNat)
 then some ((ws.drop (at' + 2)).take (ws.getD at' 0).toNat) else none
def lay : Nat → List (List Int) → List Int
 | _, [] => []
 | k, r :: rs => (r.length : Int) :: sumOf ((k : Int) :: r) :: (r ++ lay (k + 1) rs)
def okRec (r : List Int) : Prop := 1 ≤ r.length ∧ r.length ≤ 8
def Scanned (ws : List Int) (a : Nat) (out : List (List Int)) : Prop := ws.take a = lay 0 out ∧ a ≤ ws.length ∧ ∀ r ∈ out, okRec r
structure RecsAt (w : World) (lo : Nat) (vs : List Value) (rs : List (List Int)) : Prop where
 len : vs.length = rs.length
 each : ∀ i, i < rs.length → ∃ (a : Option Addr) (n c l u : Nat), vs.getD i default = .slice a n c ∧ lo ≤ l ∧ u ≤ w.heap.size ∧ RowAt w true l u 1 a n c (ints (rs.getD i []))
structure RecsBut (w : World) (lo : Nat) (b : Option Nat) (vs : List Value) (rs : List (List Int)) : Prop where
 len : vs.length = rs.length
 each : ∀ i, i < rs.length → ∃ (g n c : Nat), vs.getD i default = .slice (some ⟨g, 0, none⟩) n c ∧ b ≠ some g ∧ lo ≤ g ∧ g < w.heap.size ∧ RowAt w true g (g + 1) 1 (some ⟨g, 0, none⟩) n c (ints (rs.getD i []))
structure Told (w : World) (pb : Nat) (n : Nat) (xs : List Int) : Prop where
 lt : pb < w.heap.size
 ok : ∃ v, w.cell? ⟨pb, 0, none⟩ = some v ∧ w.ownsRow (pb + 1) 2 1 v n (ints xs)
 fr : w.frozen? ⟨pb, 0, none⟩ = false
end Go.Proofs.YtonclmbihhdkpaaGreat

/- Chapter 9: lists cloned by the program, each into new memory. -/
import Derived.Test.YtcefhlkbbipmmaaGreatWB
import Derived.Test.YtcefhlkbbipmmaaGreatPutS
import Derived.Lib.AppendZeros
namespace Go.Proofs.YtcefhlkbbipmmaaGreat
open Go.RowKit

/-- a list that was cloned: its row lies in new memory -/
def CloR (w w' : World) (e : Ending) (sz n : Nat) (cs : List Value) : Prop := ∃ ra rc z u, e = .returned (.slice ra n rc) ∧ w.heap.size ≤ z ∧ z ≤ u ∧ u ≤ w'.heap.size ∧ RowAt w' true z u sz ra n rc cs ∧ Below w.heap.size w w'
theorem bls_one (xs : List Bool) : ∀ u ∈ bls xs, u.oneCell' = true := fun u hu => by
  obtain ⟨b, _, rfl⟩ := List.mem_map.1 hu; rfl
theorem sixs_oneX (xs : List En) : ∀ u ∈ sixs xs, u.oneCell' = true := fun u hu => by
  obtain ⟨j, _, rfl⟩ := List.mem_map.1 hu; rfl
theorem ints_oneX (xs : List Int) : ∀ u ∈ ints xs, u.oneCell' = true := fun u hu => by
  obtain ⟨j, _, rfl⟩ := List.mem_map.1 hu; rfl
set_option maxRecDepth 20000 in
set_option maxHeartbeats 1000000 in
theorem cloneE_z {o : Bool} {l u : Nat} (ab : Option Addr) (nb cb : Nat) (xs : List En) (w : World) (h : RowAt w o l u 6 ab nb cb (sixs xs)) (hn : nb ≤ 1048576) :
    Calls Tryz.prog 116 #[.slice ab nb cb] w fun e w' => CloR w w' e 6 nb (sixs xs) := by
  obtain ⟨j0, hj0, hy0, hy1, hy2⟩ := info_parts Tryz.infoEntry
  have hq : ∀ W, (binOp .eql 24 (.slice ab nb cb) (.slice none 0 0)).run Tryz.prog W = .ok (.bool ab.isNone) W := fun W => Lib.run_eql_slice_nil W _ _ ab nb cb 0 0 Tryz.underlying24
  cases ab with
  | none =>
    simp only [Option.isNone_none] at hq
    have hz : nb = 0 := Decidable.byContradiction fun hne => by obtain ⟨_, _, e, _⟩ := h.cells hne; cases e
    subst hz
    have hbs : (sixs xs) = [] := List.eq_nil_of_length_eq_zero (by have := h.len; omega)
    rw [hbs]
    go_enter Tryz.func116, Tryz.ntmps116
    go_wp2
    go_ret
    exact ⟨none, 0, _, _, rfl, Nat.le_refl _, Nat.le_refl _, Nat.le_refl _, RowAt.nil _ _ _ _ _, Below.refl _ _⟩
  | some ad =>
    simp only [Option.isNone_some] at hq
    have B3 : Below w.heap.size w (w.alloc (.cells #[] 33)) := (Below.refl _ _).alloc (Nat.le_refl _) _
    obtain ⟨ad', cp, w4, hr4, R4, B4, -⟩ := run_append_fresh (P := Tryz.prog) (w.alloc (.cells #[] 33)) 24 24 33 j0 (.agg #[.int .i64 0, .int .i64 0, .int .i64 0, .int .i64 0, .int .i64 0, .int .i64 0]) 6 48 Tryz.underlying24 hj0 hy0 hy1 hy2 (by rw [hy1]; rfl) w.heap.size (some ad) nb cb (sixs xs) (h.below B3) (sixs_oneX xs) hn (by omega)
    go_enter Tryz.func116, Tryz.ntmps116
    go_wp2_with (at_builtin; refine Lib.wpList_append_run _ rfl _ _ _ _ rfl _ _ rfl rfl _ _ hr4 ?_)
    have B5 := below_next B3 B4
    have R5 : RowAt w4 true w.heap.size w4.heap.size 6 (some ad') nb cp (sixs xs) := R4.widen (by simp) (Nat.le_refl _)
    clear B3 B4 R4 hr4
    go_wp2
    go_ret
    exact ⟨some ad', cp, _, _, rfl, Nat.le_refl _, B5.size, Nat.le_refl _, R5, B5⟩
set_option maxRecDepth 20000 in
set_option maxHeartbeats 1000000 in
theorem cloneI_z {o : Bool} {l u : Nat} (ab : Option Addr) (nb cb : Nat) (bs : List Int) (w : World) (h : RowAt w o l u 1 ab nb cb (ints bs)) (hn : nb ≤ 1048576) :
    Calls Tryz.prog 160 #[.slice ab nb cb] w fun e w' => CloR w w' e 1 nb (ints bs) := by
  obtain ⟨j0, hj0, hy0, hy1, hy2⟩ := info_parts Tryz.info2'
  have hq : ∀ W, (binOp .eql 25 (.slice ab nb cb) (.slice none 0 0)).run Tryz.prog W = .ok (.bool ab.isNone) W := fun W => Lib.run_eql_slice_nil W _ _ ab nb cb 0 0 Tryz.underlying25
  cases ab with
  | none =>
    simp only [Option.isNone_none] at hq
    have hz : nb = 0 := Decidable.byContradiction fun hne => by obtain ⟨_, _, e, _⟩ := h.cells hne; cases e
    subst hz
    have hbs : (ints bs) = [] := List.eq_nil_of_length_eq_zero (by have := h.len; omega)
    rw [hbs]
    go_enter Tryz.func160, Tryz.ntmps160
    go_wp2
    go_ret
    exact ⟨none, 0, _, _, rfl, Nat.le_refl _, Nat.le_refl _, Nat.le_refl _, RowAt.nil _ _ _ _ _, Below.refl _ _⟩
  | some ad =>
    simp only [Option.isNone_some] at hq
    have B3 : Below w.heap.size w (w.alloc (.cells #[] 2)) := (Below.refl _ _).alloc (Nat.le_refl _) _
    obtain ⟨ad', cp, w4, hr4, R4, B4, -⟩ := run_append_fresh (P := Tryz.prog) (w.alloc (.cells #[] 2)) 25 25 2 j0 (.int .i64 0) 1 8 Tryz.underlying25 hj0 hy0 hy1 hy2 (by rw [hy1]; rfl) w.heap.size (some ad) nb cb (ints bs) (h.below B3) (ints_oneX bs) hn (by omega)
    go_enter Tryz.func160, Tryz.ntmps160
    go_wp2_with (at_builtin; refine Lib.wpList_append_run _ rfl _ _ _ _ rfl _ _ rfl rfl _ _ hr4 ?_)
    have B5 := below_next B3 B4
    have R5 : RowAt w4 true w.heap.size w4.heap.size 1 (some ad') nb cp (ints bs) := R4.widen (by simp) (Nat.le_refl _)
    clear B3 B4 R4 hr4
    go_wp2
    go_ret
    exact ⟨some ad', cp, _, _, rfl, Nat.le_refl _, B5.size, Nat.le_refl _, R5, B5⟩
set_option maxRecDepth 20000 in
set_option maxHeartbeats 1000000 in
theorem cloneB_z {o : Bool} {l u : Nat} (ab : Option Addr) (nb cb : Nat) (xs : List Bool) (w : World) (h : RowAt w o l u 1 ab nb cb (bls xs)) (hn : nb ≤ 1048576) :
    Calls Tryz.prog 161 #[.slice ab nb cb] w fun e w' => CloR w w' e 1 nb (bls xs) := by
  obtain ⟨j0, hj0, hy0, hy1, hy2⟩ := info_parts Tryz.info4'
  have hq : ∀ W, (binOp .eql 26 (.slice ab nb cb) (.slice none 0 0)).run Tryz.prog W = .ok (.bool ab.isNone) W := fun W => Lib.run_eql_slice_nil W _ _ ab nb cb 0 0 Tryz.underlying26
  cases ab with
  | none =>
    simp only [Option.isNone_none] at hq
    have hz : nb = 0 := Decidable.byContradiction fun hne => by obtain ⟨_, _, e, _⟩ := h.cells hne; cases e
    subst hz
    have hbs : (bls xs) = [] := List.eq_nil_of_length_eq_zero (by have := h.len; omega)
    rw [hbs]
    go_enter Tryz.func161, Tryz.ntmps161
    go_wp2
    go_ret
    exact ⟨none, 0, _, _, rfl, Nat.le_refl _, Nat.le_refl _, Nat.le_refl _, RowAt.nil _ _ _ _ _, Below.refl _ _⟩
  | some ad =>
    simp only [Option.isNone_some] at hq
    have B3 : Below w.heap.size w (w.alloc (.cells #[] 4)) := (Below.refl _ _).alloc (Nat.le_refl _) _
    obtain ⟨ad', cp, w4, hr4, R4, B4, -⟩ := run_append_fresh (P := Tryz.prog) (w.alloc (.cells #[] 4)) 26 26 4 j0 (.bool false) 1 1 Tryz.underlying26 hj0 hy0 hy1 hy2 (by rw [hy1]; rfl) w.heap.size (some ad) nb cb (bls xs) (h.below B3) (bls_one xs) hn (by omega)
    go_enter Tryz.func161, Tryz.ntmps161
    go_wp2_with (at_builtin; refine Lib.wpList_append_run _ rfl _ _ _ _ rfl _ _ rfl rfl _ _ hr4 ?_)
    have B5 := below_next B3 B4
    have R5 : RowAt w4 true w.heap.size w4.heap.size 1 (some ad') nb cp (bls xs) := R4.widen (by simp) (Nat.le_refl _)
    clear B3 B4 R4 hr4
    go_wp2
    go_ret
    exact ⟨some ad', cp, _, _, rfl, Nat.le_refl _, B5.size, Nat.le_refl _, R5, B5⟩
set_option maxRecDepth 20000 in
set_option maxHeartbeats 1000000 in
theorem cloneD_z {o : Bool} {l u : Nat} (ab : Option Addr) (nb cb : Nat) (cs : List Value) (w : World) (h : RowAt w o l u 4 ab nb cb cs) (h1 : ∀ u ∈ cs, u.oneCell' = true) (hn : nb ≤ 1048576) :
    Calls Tryz.prog 187 #[.slice ab nb cb] w fun e w' => CloR w w' e 4 nb cs := by
  obtain ⟨j0, hj0, hy0, hy1, hy2⟩ := info_parts Tryz.infoDoer
  have hq : ∀ W, (binOp .eql 27 (.slice ab nb cb) (.slice none 0 0)).run Tryz.prog W = .ok (.bool ab.isNone) W := fun W => Lib.run_eql_slice_nil W _ _ ab nb cb 0 0 Tryz.underlying27
  cases ab with
  | none =>
    simp only [Option.isNone_none] at hq
    have hz : nb = 0 := Decidable.byContradiction fun hne => by obtain ⟨_, _, e, _⟩ := h.cells hne; cases e
    subst hz
    have hbs : cs = [] := List.eq_nil_of_length_eq_zero (by have := h.len; omega)
    rw [hbs]
    go_enter Tryz.func187, Tryz.ntmps187
    go_wp2
    go_ret
    exact ⟨none, 0, _, _, rfl, Nat.le_refl _, Nat.le_refl _, Nat.le_refl _, RowAt.nil _ _ _ _ _, Below.refl _ _⟩
  | some ad =>
    simp only [Option.isNone_some] at hq
    have B3 : Below w.heap.size w (w.alloc (.cells #[] 147)) := (Below.refl _ _).alloc (Nat.le_refl _) _
    obtain ⟨ad', cp, w4, hr4, R4, B4, -⟩ := run_append_fresh (P := Tryz.prog) (w.alloc (.cells #[] 147)) 27 27 147 j0 (.agg #[.bool false, .int .i64 0, .slice none 0 0, .int .i64 0]) 4 48 Tryz.underlying27 hj0 hy0 hy1 hy2 (by rw [hy1]; rfl) w.heap.size (some ad) nb cb cs (h.below B3) h1 hn (by omega)
    go_enter Tryz.func187, Tryz.ntmps187
    go_wp2_with (at_builtin; refine Lib.wpList_append_run _ rfl _ _ _ _ rfl _ _ rfl rfl _ _ hr4 ?_)
    have B5 := below_next B3 B4
    have R5 : RowAt w4 true w.heap.size w4.heap.size 4 (some ad') nb cp cs := R4.widen (by simp) (Nat.le_refl _)
    clear B3 B4 R4 hr4
    go_wp2
    go_ret
    exact ⟨some ad', cp, _, _, rfl, Nat.le_refl _, B5.size, Nat.le_refl _, R5, B5⟩

end Go.Proofs.YtcefhlkbbipmmaaGreat

/- Chapter 9: doers copied by the program, each log into new memory. -/
namespace Go.Proofs.YtcefhlkbbipmmaaGreat
open Go.RowKit

/-- doers that are being copied: k of them have logs of their own -/
def cpF (K K' : Nat → Hd) (ds : List Dr) (k i j : Nat) : Value := if i < k then drF K' ds i j else drF K ds i j
theorem drF_one (K : Nat → Hd) (ds : List Dr) (i j : Nat) : (drF K ds i j).oneCell' = true := by
  unfold drF; split <;> (try rfl); split <;> (try rfl); split <;> rfl
theorem flat_one (n : Nat) (K : Nat → Hd) (ds : List Dr) : ∀ u ∈ flatF 4 n (drF K ds), u.oneCell' = true := fun u hu => by
  obtain ⟨j, _, rfl⟩ := List.mem_map.1 hu; exact drF_one K ds _ _
theorem ElsAt.of_clone {w : World} {lo hi : Nat} {ra : Option Addr} {n rc : Nat} {K : Nat → Hd} {ds : List Dr} (h : RowAt w true lo hi 4 ra n rc (flatF 4 n (drF K ds))) : ElsAt 4 w true lo hi ra n rc (cpF K kd0 ds 0) kd0 (paL ds 0) :=
  ElsAt.congr (F := drF K ds) (L := fun _ => []) ⟨h, fun i _ => RowAt.nilR _ _ _ _ _ _ _, fun _ i _ h0 => absurd rfl h0⟩ (fun i j _ _ => by simp [cpF]) (fun i _ => by simp [paL])
theorem copy_put {w : World} {lo b off n cap k : Nat} {K K' : Nat → Hd} {ds : List Dr} (h : ElsAt 4 w true lo w.heap.size (some ⟨b, off, none⟩) n cap (cpF K K' ds k) K' (paL ds k)) (hk : k < n) {w1 : World} (hb : Below w.heap.size w w1) {z1 u1 : Nat} (ra : Option Addr) (m c : Nat) (hz : w.heap.size ≤ z1) (hu : u1 ≤ w1.heap.size) (hlo : lo ≤ w.heap.size) (hr : RowAt w1 true z1 u1 6 ra m c (sixs (drL ds k))) :
    ElsAt 4 (w1.setCell ⟨b, off + (k * 4 + 2), none⟩ (.slice ra m c)) true lo w1.heap.size (some ⟨b, off, none⟩) n cap (cpF K (fun j => if j = k then (ra, m, c) else K' j) ds (k + 1)) (fun j => if j = k then (ra, m, c) else K' j) (paL ds (k + 1)) := by
  have E1 := ((h.below hb).widen (Nat.le_refl _) hb.size).newLog k (ra, m, c) (drL ds k) (hr.widen (by omega) hu) (fun h0 q hq e => by
    have h1 := h.inB hq
    have h2 := hr.inB (k := sb ra) ⟨h0, rfl⟩
    simp only at e
    omega)
  have E2 := E1.store (i := k) (j := 2) hk (by omega) (.slice ra m c)
  refine E2.congr (fun i j hi hj => ?_) (fun i hi => ?_)
  · by_cases e : i = k
    · subst e
      rcases (by omega : j = 0 ∨ j = 1 ∨ j = 2 ∨ j = 3) with rfl | rfl | rfl | rfl <;> simp [updF, cpF, drF, hv]
    · rcases (by omega : j = 0 ∨ j = 1 ∨ j = 2 ∨ j = 3) with rfl | rfl | rfl | rfl <;> simp only [updF, cpF, drF] <;> by_cases e2 : i < k <;> simp [e, e2, show i < k + 1 ↔ i < k by omega]
  · by_cases e : i = k
    · subst e; unfold paL; rw [if_pos (by omega)]; simp
    · simp [paL, e, show i < k + 1 ↔ i < k by omega]
set_option maxRecDepth 20000 in
set_option maxHeartbeats 2000000 in
theorem copyDoers_z {own : Bool} {lo hi : Nat} (ao : Option Addr) (n cap : Nat) (K : Nat → Hd) (ds : List Dr) (w : World) (h : DoersAt w own lo hi ao n cap K ds) (hn : n ≤ 1048576) (hm : ∀ i, i < n → (K i).2.1 ≤ 1048576) :
    Calls Tryz.prog 162 #[.slice ao n cap] w fun e w' => ∃ ra rc z u K', e = .returned (.slice ra n rc) ∧ w.heap.size ≤ z ∧ u ≤ w'.heap.size ∧ DoersAt w' true z u ra n rc K' ds ∧ (∀ i, i < n → (K' i).2.1 = (K i).2.1) ∧ Below w.heap.size w w' := by
  have hx := h.len
  have HM : Hid _ := hm
  clear hm
  go_enter Tryz.func162, Tryz.ntmps162
  go_wp2_with fail
  refine (cloneD_z ao n cap _ w h.els.row (flat_one n K ds) hn).mono ?_
  rintro e w1 ⟨ra, rc, z, u, rfl, Gz, zu, hR, R, B⟩
  have E0 := (ElsAt.of_clone R).widen (Nat.le_refl _) hR
  have hrc := R.le
  have hz0 := Nat.le_trans zu hR
  clear R zu hR
  go_wp2
  go_loopw [4, 5, 10] (fun _ _ i wr => ∃ k : Nat, k ≤ n ∧ i = .int .i64 k ∧ (∃ K', ElsAt 4 wr true z wr.heap.size ra n rc (cpF K K' ds k) K' (paL ds k) ∧ (∀ i, i < k → (K' i).2.1 = (K i).2.1)) ∧ z ≤ wr.heap.size ∧ Below w.heap.size w wr) (fun _ _ i _ => n - (intOf i).toNat)
  case atStart => exact ⟨0, Nat.zero_le _, rfl, ⟨kd0, E0, fun i hi => absurd hi (Nat.not_lt_zero _)⟩, hz0, B⟩
  case round =>
    obtain ⟨k, hk, rfl, ⟨K', E, HE⟩, hzl, hb⟩ := hrel
    clear E0 B hz0
    by_cases hlt : k < n
    · have hlk : (k : Int) < (n : Int) := by omega
      obtain ⟨b, off, rfl, hb1, hb2, hbs, hc, hf⟩ := E.el hlt (by omega)
      have e0 : wr.cell? ⟨b, off + k * 4, none⟩ = some (.bool (ds.getD k dr0).1) := by have := hc 0 (by omega); simpa [cpF, drF] using this
      have e1 : wr.cell? ⟨b, off + k * 4 + 1, none⟩ = some (.int .i64 (ds.getD k dr0).2.1) := by have := hc 1 (by omega); rw [← Nat.add_assoc] at this; simpa [cpF, drF] using this
      have e2 : wr.cell? ⟨b, off + k * 4 + 2, none⟩ = some (.slice (K k).1 (K k).2.1 (K k).2.2) := by have := hc 2 (by omega); rw [← Nat.add_assoc] at this; simpa [cpF, drF, hv] using this
      have e3 : wr.cell? ⟨b, off + k * 4 + 3, none⟩ = some (.int .i64 (ds.getD k dr0).2.2.2) := by have := hc 3 (by omega); rw [← Nat.add_assoc] at this; simpa [cpF, drF] using this
      have f2 : wr.frozen? ⟨b, off + k * 4 + 2, none⟩ = false := by have := hf rfl 2 (by omega); rwa [← Nat.add_assoc] at this
      have R := (h.els.logs k hlt).below hb
      have hmk := HM.out k hlt
      have HP : Hid (∀ w1 z1 u1 ra m c, Below wr.heap.size wr w1 → wr.heap.size ≤ z1 → u1 ≤ w1.heap.size → RowAt w1 true z1 u1 6 ra m c (sixs (drL ds k)) → ElsAt 4 (w1.setCell ⟨b, off + (k * 4 + 2), none⟩ (.slice ra m c)) true z w1.heap.size (some ⟨b, off, none⟩) n rc (cpF K (fun j => if j = k then (ra, m, c) else K' j) ds (k + 1)) (fun j => if j = k then (ra, m, c) else K' j) (paL ds (k + 1))) := fun w1 z1 u1 ra m c q1 q2 q3 q4 => copy_put E hlt q1 ra m c q2 q3 hzl q4
      have HE2 : Hid (∀ (ra : Option Addr) (c i : Nat), i < k + 1 → ((fun j => if j = k then (ra, (K k).2.1, c) else K' j) i).2.1 = (K i).2.1) := fun ra c i hi => by
        by_cases e : i = k
        · simp [e]
        · simp only [if_neg e]; exact HE i (by omega)
      clear E HE hc hf
      generalize (ds.getD k dr0).1 = kn at *
      generalize (ds.getD k dr0).2.1 = la at *
      generalize (ds.getD k dr0).2.2.2 = cm at *
      generalize K k = q at *
      obtain ⟨qa, qm, qc⟩ := q
      simp only at e2 R hmk HE2
      go_wp2_with (first | ((with_reducible refine store_midX 147 X0 0 [.bool kn, .int .i64 la, .slice qa qm qc, .int .i64 cm] (by simp) (by kernel_rfl) (by simp [Value.oneCell']) rfl rfl ?_); intro V1 S; replace X0 : Bx V1 b0 [.bool kn, .int .i64 la, .slice qa qm qc, .int .i64 cm] := S.bx; replace c0 := X0.cell; replace f0 := X0.froz; replace B := B.trans (S.kept.below _ (by omega) B.size); clear S) | ((with_reducible refine alloc_newX 147 [.bool false, .int .i64 0, .slice none 0 0, .int .i64 0] (fun _ => by kernel_rfl) ?_); intro b0 W0 N0; have ob0 : wr.heap.size ≤ b0 := N0.ge; have B := N0.below; have X0 := N0.bx; have c0 := X0.cell; have f0 := X0.froz; clear N0) | fail)
      refine (cloneE_z qa qm qc (drL ds k) _ (R.below B) hmk).mono ?_
      rintro e w1 ⟨ra1, rc1, z1, u1, rfl, Gz1, _, hu1, R1, BB⟩
      have Gz2 := Nat.le_trans B.size Gz1
      replace B := below_next B BB
      have P := HP.out w1 z1 u1 ra1 qm rc1 B Gz2 hu1 R1
      have HP1 : Hid _ := P
      have HE3 : Hid _ := HE2.out ra1 rc1
      replace e2 := cell_later B e2
      replace f2 := frozen_later B hbs f2
      replace hb := below_next hb B
      have hzl' := Nat.le_trans hzl B.size
      clear P HP HE2 R1 BB B X0 c0 f0 ob0 e0 e1 e3 R Gz1 Gz2 hu1 hbs
      have hS : Below w.heap.size w (w1.setCell ⟨b, off + k * 4 + 2, none⟩ (.slice ra1 qm rc1)) := Below.setCell hb (p := ⟨b, off + k * 4 + 2, none⟩) (by show _ ≤ b; omega) _
      have HS : Hid _ := hS
      clear hS hb
      go_wp2
      go_roundw
      case rel => exact ⟨k + 1, by omega, by go_num, ⟨_, by have := HP1.out.widen (Nat.le_refl _) (show w1.heap.size ≤ (w1.setCell ⟨b, off + (k * 4 + 2), none⟩ (.slice ra1 qm rc1)).heap.size by simp); simpa [Nat.add_assoc] using this, HE3.out⟩, by simpa using hzl', HS.out⟩
      case measure => simp [intOf]; omega
    · obtain rfl : k = n := by omega
      go_wp2
      go_ret
      exact ⟨ra, rc, z, _, K', rfl, Gz, Nat.le_refl _, ⟨hx, E.congr (fun i j hi hj => by simp [cpF, hi]) (fun i hi => by simp [paL, hi])⟩, HE, hb⟩

end Go.Proofs.YtcefhlkbbipmmaaGreat

/- Chapter 9: a replica copied by the program; a node that is about to change. -/
namespace Go.Proofs.YtcefhlkbbipmmaaGreat
open Go.RowKit

/-- a replica's lists, each in memory of its own -/
theorem repAt_ofZ {w : World} {r : Rep} {h : RH} {lo hi z5 u5 z7 u7 z8 u8 z9 u9 : Nat} (R5 : RowAt w true z5 u5 6 h.L.1 h.L.2.1 h.L.2.2 (sixs r.log)) (R7 : RowAt w true z7 u7 1 h.O.1 h.O.2.1 h.O.2.2 (ints r.oks)) (R8 : RowAt w true z8 u8 1 h.A.1 h.A.2.1 h.A.2.2 (bls r.asks)) (D : DoersAt w true z9 u9 h.D.1 h.D.2.1 h.D.2.2 h.K r.doers)
    (h5 : lo ≤ z5 ∧ u5 ≤ hi) (h7 : lo ≤ z7 ∧ u7 ≤ hi) (h8 : lo ≤ z8 ∧ u8 ≤ hi) (h9 : lo ≤ z9 ∧ u9 ≤ hi) (o57 : u5 ≤ z7 ∨ u7 ≤ z5) (o58 : u5 ≤ z8 ∨ u8 ≤ z5) (o59 : u5 ≤ z9 ∨ u9 ≤ z5) (o78 : u7 ≤ z8 ∨ u8 ≤ z7) (o79 : u7 ≤ z9 ∨ u9 ≤ z7) (o89 : u8 ≤ z9 ∨ u9 ≤ z8) : RepAt w true lo hi h r :=
  ⟨R5.widen h5.1 h5.2, R7.widen h7.1 h7.2, R8.widen h8.1 h8.2, D.widen h9.1 h9.2, fun _ => ⟨fun x h1 h2 => by have a := R5.inB h1; have b := R7.inB h2; omega, fun x h1 h2 => by have a := R5.inB h1; have b := R8.inB h2; omega, fun x h1 h2 => by have a := R5.inB h1; have b := D.els.inB h2; omega, fun x h1 h2 => by have a := R7.inB h1; have b := R8.inB h2; omega, fun x h1 h2 => by have a := R7.inB h1; have b := D.els.inB h2; omega, fun x h1 h2 => by have a := R8.inB h1; have b := D.els.inB h2; omega⟩⟩
end Go.Proofs.YtcefhlkbbipmmaaGreat

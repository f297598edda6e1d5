/- Chapter 5, plain: volumes, how many blocks a tree has, the fault of a pool. -/
import Derived.Test.YtikjndmgljkhhaaZZ
import Derived.Test.YtikjndmgljkhhaaZM
import Derived.Test.YtikjndmgljkhhaaZV
import Derived.Test.YtikjndmgljkhhaaZU
import Derived.BigQuiet
namespace Go.Proofs.Ytikjndmgljkhhaa
open Go.RowKit

abbrev Vo := Int × Int × Int
def vo0 : Vo := (0, 0, 0)
def trips (vs : List Vo) : List Value := flat3 vs.length (fun i => .int .i64 (vs.getD i vo0).1) (fun i => .int .i64 (vs.getD i vo0).2.1) (fun i => .int .i64 (vs.getD i vo0).2.2)
theorem trips_len (vs : List Vo) : (trips vs).length = vs.length * 3 := flat3_len _ _ _ _
theorem trips_get0 (vs : List Vo) (k : Nat) (h : k < vs.length) : (trips vs).getD (k * 3) default = .int .i64 (vs.getD k vo0).1 := by rw [trips, flat3_get0 _ _ _ _ _ h]
theorem trips_get1 (vs : List Vo) (k : Nat) (h : k < vs.length) : (trips vs).getD (k * 3 + 1) default = .int .i64 (vs.getD k vo0).2.1 := by rw [trips, flat3_get1 _ _ _ _ _ h]
theorem trips_get2 (vs : List Vo) (k : Nat) (h : k < vs.length) : (trips vs).getD (k * 3 + 2) default = .int .i64 (vs.getD k vo0).2.2 := by rw [trips, flat3_get2 _ _ _ _ _ h]
theorem RowAt.nTrips {w : World} {own : Bool} {lo hi : Nat} {ao : Option Addr} {n cap : Nat} {vs : List Vo} (h : RowAt w own lo hi 3 ao n cap (trips vs)) : vs.length = n := by
  have hl := h.len; rw [trips_len] at hl; omega
theorem RowAt.trip {w : World} {own : Bool} {lo hi : Nat} {ao : Option Addr} {n cap : Nat} {vs : List Vo} (h : RowAt w own lo hi 3 ao n cap (trips vs)) {i : Nat} (hi' : i < n) :
    ∃ b off, ao = some ⟨b, off, none⟩ ∧ lo ≤ b ∧ b < hi ∧ b < w.heap.size ∧ w.cell? ⟨b, off + i * 3, none⟩ = some (.int .i64 (vs.getD i vo0).1) ∧ w.cell? ⟨b, off + i * 3 + 1, none⟩ = some (.int .i64 (vs.getD i vo0).2.1) ∧ w.cell? ⟨b, off + i * 3 + 2, none⟩ = some (.int .i64 (vs.getD i vo0).2.2) ∧
      (own = true → w.frozen? ⟨b, off + i * 3, none⟩ = false ∧ w.frozen? ⟨b, off + i * 3 + 1, none⟩ = false ∧ w.frozen? ⟨b, off + i * 3 + 2, none⟩ = false) := by
  obtain ⟨b, off, rfl, h1, h2, h3, h4, h5⟩ := h.cells (by omega)
  have hl := h.nTrips
  refine ⟨b, off, rfl, h1, h2, h3, ?_, ?_, ?_, fun ho => ⟨h5 ho _ (by omega), by rw [Nat.add_assoc]; exact h5 ho _ (by omega), by rw [Nat.add_assoc]; exact h5 ho _ (by omega)⟩⟩
  · rw [h4 _ (by omega), trips, flat3_get0 _ _ _ _ _ (by omega)]
  · rw [Nat.add_assoc, h4 _ (by omega), trips, flat3_get1 _ _ _ _ _ (by omega)]
  · rw [Nat.add_assoc, h4 _ (by omega), trips, flat3_get2 _ _ _ _ _ (by omega)]

def volIdB (x : Int) : Bool := decide (1 ≤ x ∧ x ≤ 99)
def quotaB (x : Int) : Bool := decide (1 ≤ x ∧ x ≤ 16)
/-- how many places below k of a tree have a block -/
def usedTo (f : Fo) (root : Int) : Nat → Nat
  | 0 => 0
  | k + 1 => usedTo f root k + (if blockAt f root k < 0 then 0 else 1)
def usedN (f : Fo) (root : Int) : Nat := usedTo f root 16
theorem usedTo_le (f : Fo) (root : Int) (k : Nat) : usedTo f root k ≤ k := by
  induction k with
  | zero => exact Nat.le_refl _
  | succ k ih => unfold usedTo; split <;> omega
def volOne (f : Fo) (ahead : Int) (v : Vo) : Int :=
  if volIdB v.1 && quotaB v.2.1 && rootOk f v.2.2 then (if v.1 ≤ ahead then 1 else if v.2.1 < (usedN f v.2.2 : Int) then 9 else 0) else 3
def idAhead (vs : List Vo) : Nat → Int
  | 0 => 0
  | k + 1 => (vs.getD k vo0).1
/-- the fault of the volumes from place k on; n: how many are left -/
def volsFrom (f : Fo) (vs : List Vo) : Nat → Nat → Int
  | 0, _ => 0
  | n + 1, k => if volOne f (idAhead vs k) (vs.getD k vo0) = 0 then volsFrom f vs n (k + 1) else volOne f (idAhead vs k) (vs.getD k vo0)
def volsFault (f : Fo) (vs : List Vo) : Int := volsFrom f vs vs.length 0
def rootsIn (vs : List Vo) (i : Int) : Nat := vs.countP fun v => v.2.2 == i
def exactNd (f : Fo) (vs : List Vo) (i : Nat) : Bool := (nodeOf f i).1 == 0 || (nodeOf f i).1 == (if (nodeOf f i).2.1 then (named f false i : Int) else (rootsIn vs i : Int))
def exactB (f : Fo) (vs : List Vo) : Bool := (List.range f.1.length).all (exactNd f vs)
def poFault (f : Fo) (vs : List Vo) : Int :=
  if foFault f = 0 then
    (if 6 < vs.length then 2 else if volsFault f vs = 0 then (if exactB f vs then 0 else 1) else volsFault f vs)
  else foFault f
theorem exact_iff (f : Fo) (vs : List Vo) : exactB f vs = true ↔ ∀ i, i < f.1.length → exactNd f vs i = true := by
  unfold exactB; rw [List.all_eq_true]; exact ⟨fun h i hi => h i (List.mem_range.2 hi), fun h i hi => h i (List.mem_range.1 hi)⟩
theorem volOne_ok {f : Fo} {a : Int} {v : Vo} (h : volOne f a v = 0) : (1 ≤ v.1 ∧ v.1 ≤ 99) ∧ (1 ≤ v.2.1 ∧ v.2.1 ≤ 16) ∧ rootOk f v.2.2 = true ∧ a < v.1 ∧ (usedN f v.2.2 : Int) ≤ v.2.1 := by
  unfold volOne at h
  split at h
  case isTrue hc =>
    simp [volIdB, quotaB] at hc
    split at h
    · exact absurd h (by decide)
    · split at h
      · exact absurd h (by decide)
      · exact ⟨hc.1.1, hc.1.2, hc.2, by omega, by omega⟩
  case isFalse => exact absurd h (by decide)
theorem volsFrom_ok {f : Fo} {vs : List Vo} {n k : Nat} (h : volsFrom f vs n k = 0) : ∀ i, k ≤ i → i < k + n → volOne f (idAhead vs i) (vs.getD i vo0) = 0 := by
  induction n generalizing k with
  | zero => intro i h1 h2; omega
  | succ n ih =>
    unfold volsFrom at h
    split at h
    case isTrue hc =>
      intro i h1 h2
      by_cases e : i = k
      · subst e; exact hc
      · exact ih h i (by omega) (by omega)
    case isFalse hc => exact absurd h hc
theorem vols_ok {f : Fo} {vs : List Vo} (h : volsFault f vs = 0) : ∀ i, i < vs.length → volOne f (idAhead vs i) (vs.getD i vo0) = 0 := fun i hi => volsFrom_ok h i (Nat.zero_le _) (by omega)
theorem volsFrom_step {f : Fo} {vs : List Vo} {k : Nat} (h : k < vs.length) : volsFrom f vs (vs.length - k) k = if volOne f (idAhead vs k) (vs.getD k vo0) = 0 then volsFrom f vs (vs.length - (k + 1)) (k + 1) else volOne f (idAhead vs k) (vs.getD k vo0) := by
  rw [show vs.length - k = vs.length - (k + 1) + 1 by omega]; rfl
theorem volsFrom_end {f : Fo} {vs : List Vo} {k : Nat} (h : vs.length ≤ k) : volsFrom f vs (vs.length - k) k = 0 := by
  rw [show vs.length - k = 0 by omega]; rfl
theorem rootsIn_take {vs : List Vo} {k : Nat} (h : k < vs.length) (i : Int) : rootsIn (vs.take (k + 1)) i = rootsIn (vs.take k) i + (if (vs.getD k vo0).2.2 = i then 1 else 0) := by
  unfold rootsIn
  rw [List.take_succ_eq_append_getElem h, List.countP_append, List.countP_cons, List.countP_nil, List.getD_eq_getElem?_getD, List.getElem?_eq_getElem h, Option.getD_some]
  simp
theorem rootsIn_le (vs : List Vo) (i : Int) : rootsIn vs i ≤ vs.length := List.countP_le_length
theorem usedTo_next (f : Fo) (root : Int) (k : Nat) : usedTo f root (k + 1) = usedTo f root k + (if blockAt f root k < 0 then 0 else 1) := rfl
theorem exactNd_of {f : Fo} {vs : List Vo} {i : Nat} (h : (nodeOf f i).1 ≠ 0) {m : Int} (hm : (if (nodeOf f i).2.1 then (named f false i : Int) else (rootsIn vs i : Int)) = m) : exactNd f vs i = decide ((nodeOf f i).1 = m) := by
  unfold exactNd
  rw [hm, beq_eq_false_iff_ne.2 h, Bool.false_or]; rfl
theorem exact_not {f : Fo} {vs : List Vo} {i : Nat} (hi : i < f.1.length) (h : exactNd f vs i = false) : exactB f vs = false := by
  cases e : exactB f vs with
  | false => rfl
  | true => rw [(exact_iff f vs).1 e i hi] at h; cases h

end Go.Proofs.Ytikjndmgljkhhaa

/- Chapter 5: the fault of an operation, plain, and the ids of volumes. -/
namespace Go.Proofs.Ytikjndmgljkhhaa
open Go.RowKit

def opAt (k : Int) : Bool := k == 2 || k == 3 || k == 4
def opVal (k : Int) : Bool := k == 1 || k == 2 || k == 5
def opValB (k x : Int) : Bool := if k = 1 then quotaB x else if k = 2 then dataB x else if k = 5 then volIdB x else true
def opF (k v a x : Int) : Int :=
  if 1 ≤ k ∧ k ≤ 6 then
    (if volIdB v && (!opAt k || spotB a) && opValB k x then
      (if (!opAt k && a != 0) || (!opVal k && x != 0) then 1 else 0)
    else 3)
  else 1

theorem isVolId_is (x : Int) (w : World) (d : Bool) (h : volIdB x = d) : Calls Try.prog 90 #[.int .i64 x] w fun e w' => e = .returned (.bool d) ∧ w' = w := by
  unfold volIdB at h
  by_cases h1 : 1 ≤ x
  · by_cases h2 : x ≤ 99
    · have e : d = true := by rw [← h]; exact decide_eq_true ⟨h1, h2⟩
      subst e
      clear h
      go_enter Try.func90, Try.ntmps90
      go_wp2
      go_ret
      exact ⟨rfl, rfl⟩
    · have e : d = false := by rw [← h]; exact decide_eq_false (by omega)
      subst e
      clear h
      go_enter Try.func90, Try.ntmps90
      go_wp2
      go_ret
      exact ⟨rfl, rfl⟩
  · have e : d = false := by rw [← h]; exact decide_eq_false (by omega)
    subst e
    clear h
    go_enter Try.func90, Try.ntmps90
    go_wp2
    go_ret
    exact ⟨rfl, rfl⟩

end Go.Proofs.Ytikjndmgljkhhaa

/- Chapter 5: the model's fault of a pool. -/
namespace Go.Proofs.Ytikjndmgljkhhaa
open Go.RowKit

section
variable {o : Bool} {l u : Nat} (p : Nat) (an : Option Addr) (nn cn : Nat) (ab : Option Addr) (nb cb : Nat) (K : Nat → KS) (f : Fo) (w : World) (h : FoAt w o l u an nn cn ab nb cb K f) (hp0 : w.cell? ⟨p, 0, none⟩ = some (.slice an nn cn)) (hp1 : w.cell? ⟨p, 1, none⟩ = some (.slice ab nb cb)) (hn : nn ≤ 2097152)
include h hp0 hp1 hn
end

section
variable {o o2 : Bool} {l u l2 u2 : Nat} (p : Nat) (an : Option Addr) (nn cn : Nat) (ab : Option Addr) (nb cb : Nat) (av : Option Addr) (nv cv : Nat) (K : Nat → KS) (f : Fo) (vs : List Vo) (w : World) (h : FoAt w o l u an nn cn ab nb cb K f) (hv : RowAt w o2 l2 u2 3 av nv cv (trips vs)) (hp0 : w.cell? ⟨p, 0, none⟩ = some (.slice an nn cn)) (hp1 : w.cell? ⟨p, 1, none⟩ = some (.slice ab nb cb)) (hp2 : w.cell? ⟨p, 2, none⟩ = some (.slice av nv cv)) (hn : nn ≤ 2097152) (hb : nb ≤ 2097152) (hK : ∀ i, i < nn → (K i).2.1 ≤ 2097152)
include h hv hp0 hp1 hp2 hn hb hK

end

end Go.Proofs.Ytikjndmgljkhhaa

/- Chapter 5: the model's fault of a pool, whole. -/
namespace Go.Proofs.Ytikjndmgljkhhaa
open Go.RowKit

section
variable {o o2 : Bool} {l u l2 u2 : Nat} (p : Nat) (an : Option Addr) (nn cn : Nat) (ab : Option Addr) (nb cb : Nat) (av : Option Addr) (nv cv : Nat) (K : Nat → KS) (f : Fo) (vs : List Vo) (w : World) (h : FoAt w o l u an nn cn ab nb cb K f) (hv : RowAt w o2 l2 u2 3 av nv cv (trips vs)) (hp0 : w.cell? ⟨p, 0, none⟩ = some (.slice an nn cn)) (hp1 : w.cell? ⟨p, 1, none⟩ = some (.slice ab nb cb)) (hp2 : w.cell? ⟨p, 2, none⟩ = some (.slice av nv cv)) (hn : nn ≤ 2097152) (hb : nb ≤ 2097152) (hK : ∀ i, i < nn → (K i).2.1 ≤ 2097152)
include h hv hp0 hp1 hp2 hn hb hK

end
section
variable {o o2 : Bool} {l u l2 u2 : Nat} (an : Option Addr) (nn cn : Nat) (ab : Option Addr) (nb cb : Nat) (av : Option Addr) (nv cv : Nat) (K : Nat → KS) (f : Fo) (vs : List Vo) (w : World) (h : FoAt w o l u an nn cn ab nb cb K f) (hv : RowAt w o2 l2 u2 3 av nv cv (trips vs)) (hn : nn ≤ 2097152) (hb : nb ≤ 2097152) (hK : ∀ i, i < nn → (K i).2.1 ≤ 2097152) (hvn : nv ≤ 2097152)
include h hv hn hb hK hvn
end

end Go.Proofs.Ytikjndmgljkhhaa

/- Chapter 5: the program's fault of a pool. -/
namespace Go.Proofs.Ytikjndmgljkhhaa
open Go.RowKit

theorem named_kid {f : Fo} (h : ∀ j, j < f.1.length → ndOne f (f.1.getD j nd0) = 0) {i : Nat} (hn : named f false i ≠ 0) : (nodeOf f i).1 ≠ 0 ∧ (nodeOf f i).2.1 = true := by
  obtain ⟨m, hm, h0, e, hk⟩ := named_pos hn
  have ok := (ndOne_iff _ _).1 (h m hm)
  have := ok.ks h0 _ hk
  rcases this with x | ⟨_, x⟩
  · omega
  · rw [show (f.1.getD m nd0).2.1 = false from e] at x
    simp at x
    exact ⟨by omega, x.2.2⟩
theorem rootsIn_zero {vs : List Vo} {i : Int} (h : ∀ k, k < vs.length → (vs.getD k vo0).2.2 ≠ i) : rootsIn vs i = 0 := by
  unfold rootsIn
  refine List.countP_eq_zero.2 fun v hv => ?_
  obtain ⟨k, hk, e⟩ := List.mem_iff_getElem.1 hv
  have := h k hk
  rw [List.getD_eq_getElem?_getD, List.getElem?_eq_getElem hk, Option.getD_some, e] at this
  simpa using this
theorem exact_sum {f : Fo} {vs : List Vo} (h : ∀ j, j < f.1.length → ndOne f (f.1.getD j nd0) = 0) (hr : ∀ k, k < vs.length → rootOk f (vs.getD k vo0).2.2 = true) (i : Nat) : exactNd f vs i = decide ((nodeOf f i).1 = (named f false i : Int) + (rootsIn vs i : Int)) := by
  have key : ∀ k, k < vs.length → (vs.getD k vo0).2.2 = (i : Int) → (nodeOf f i).1 ≠ 0 ∧ (nodeOf f i).2.1 = false := fun k hk e => by
    rcases root_of (hr k hk) with x | ⟨_, x1, x2⟩
    · omega
    · rw [e, Int.toNat_natCast] at x1 x2; exact ⟨x1, x2⟩
  by_cases h0 : (nodeOf f i).1 = 0
  · have e1 : named f false i = 0 := Decidable.byContradiction fun hn => (named_kid h hn).1 h0
    have e2 : rootsIn vs i = 0 := rootsIn_zero fun k hk e => (key k hk e).1 h0
    unfold exactNd
    rw [h0, e1, e2]
    rfl
  · cases hl : (nodeOf f i).2.1 with
    | true =>
      have e2 : rootsIn vs i = 0 := rootsIn_zero fun k hk e => by have := (key k hk e).2; rw [hl] at this; cases this
      rw [exactNd_of h0 (m := (named f false i : Int)) (by rw [hl]; rfl), e2]
      simp
    | false =>
      have e1 : named f false i = 0 := Decidable.byContradiction fun hn => by have := (named_kid h hn).2; rw [hl] at this; cases this
      rw [exactNd_of h0 (m := (rootsIn vs i : Int)) (by rw [hl]; rfl), e1]
      simp

section
variable {o : Bool} {l u : Nat} (an : Option Addr) (nn cn : Nat) (ab : Option Addr) (nb cb : Nat) (K : Nat → KS) (f : Fo) (w : World) (h : FoAt w o l u an nn cn ab nb cb K f)
include h
set_option maxRecDepth 20000 in
set_option maxHeartbeats 2000000 in
theorem usedBy_is (root : Int) (hI : Inv f) (hro : RootIs f root) (d : Int) (hd : (usedN f root : Int) = d) : Calls Try.prog 50 #[.agg #[.slice an nn cn, .slice ab nb cb], .int .i64 root] w fun e w' => e = .returned (.int .i64 d) ∧ Below w.heap.size w w' := by
  have A0 : Below w.heap.size w (w.alloc (.cells #[.slice an nn cn, .slice ab nb cb] 28)) := (Below.refl _ _).alloc (Nat.le_refl _) _
  have G0 : (w.alloc (.cells #[.slice an nn cn, .slice ab nb cb] 28)).cell? ⟨w.heap.size, 0, none⟩ = some (.slice an nn cn) := by simp
  have G1 : (w.alloc (.cells #[.slice an nn cn, .slice ab nb cb] 28)).cell? ⟨w.heap.size, 1, none⟩ = some (.slice ab nb cb) := by simp
  have HD : Hid _ := hd
  have HI : Hid _ := hI
  have HR : Hid _ := hro
  clear hd hI hro
  go_enter Try.func50, Try.ntmps50
  go_wp2
  generalize hW : w.alloc (.cells #[.slice an nn cn, .slice ab nb cb] 28) = W at *
  clear hW
  go_loopw [5, 7] (fun c i wr => ∃ k : Nat, k ≤ 16 ∧ i = .int .i64 k ∧ c = .int .i64 (usedTo f root k : Nat) ∧ Below W.heap.size W wr) (fun _ i _ => 16 - (intOf i).toNat)
  case atStart => exact ⟨0, Nat.zero_le _, rfl, rfl, Below.refl _ _⟩
  case round =>
    obtain ⟨k, hk, rfl, rfl, B⟩ := hrel
    have g0 := cell_later B G0
    have g1 := cell_later B G1
    have hu := usedTo_le f root k
    have HU : Hid _ := usedTo_next f root k
    by_cases hlt : k < 16
    · have hlk : (k : Int) < 16 := by omega
      have hw1 : IntKind.i64.wrap ((k : Int) + 1) = (k : Int) + 1 := wrapI_same _ (by omega)
      obtain ⟨c, hc⟩ : ∃ c, usedTo f root k = c := ⟨_, rfl⟩
      rw [hc] at hu HU ⊢
      clear hc
      have hw2 : IntKind.i64.wrap ((c : Int) + 1) = (c : Int) + 1 := wrapI_same _ (by omega)
      obtain ⟨b, hbk⟩ : ∃ b, blockAt f root k = b := ⟨_, rfl⟩
      have hbc : b = -1 ∨ 0 ≤ b := by
        have := block_cases HI.out HR.out (x := (k : Int)) (by omega) (by omega)
        rw [hbk] at this
        rcases this with e | e
        · exact Or.inl e
        · exact Or.inr e.1
      have HB : Hid _ := hbk
      rw [hbk] at HU
      clear hbk
      go_wp2_with fail
      refine (blockAt_is an nn cn ab nb cb K f _ ((h.below A0).below B) root k (by omega) HI.out HR.out b HB.out).mono ?_
      rintro e w1 ⟨rfl, B1⟩
      replace B := below_next B B1
      clear B1 g0 g1
      by_cases hb1 : b = -1
      · have hne : (b != -1) = false := by simp [hb1]
        have HU2 : Hid (usedTo f root (k + 1) = c) := by show _ = _; rw [HU.out, if_pos (by omega)]; rfl
        clear HU hb1 hbc
        go_wp2
        go_roundw
        case rel => exact ⟨k + 1, by omega, by go_num, by rw [HU2.out], B⟩
        case measure => simp [intOf]; omega
      · have hne : (b != -1) = true := by simp [hb1]
        have HU2 : Hid (usedTo f root (k + 1) = c + 1) := by show _ = _; rw [HU.out, if_neg (by omega)]
        clear HU hb1 hbc
        go_wp2
        go_roundw
        case rel => exact ⟨k + 1, by omega, by go_num, by rw [HU2.out]; go_num, B⟩
        case measure => simp [intOf]; omega
    · obtain rfl : k = 16 := by omega
      go_wp2
      go_ret
      exact ⟨ret_int (by rw [← HD.out]; rfl), below_next A0 B⟩

set_option maxRecDepth 20000 in
set_option maxHeartbeats 2000000 in
theorem isVol_is (hn : nn ≤ 2097152) (hb : nb ≤ 2097152) (id qu rt : Int) (d : Bool) (hd : (volIdB id && quotaB qu && rootOk f rt) = d) : Calls Try.prog 87 #[.agg #[.slice an nn cn, .slice ab nb cb], .agg #[.int .i64 id, .int .i64 qu, .int .i64 rt]] w fun e w' => e = .returned (.bool d) ∧ Below w.heap.size w w' := by
  have A : Below w.heap.size w ((w.alloc (.cells #[.slice an nn cn, .slice ab nb cb] 28)).alloc (.cells #[.int .i64 id, .int .i64 qu, .int .i64 rt] 92)) := ((Below.refl _ _).alloc (Nat.le_refl _) _).alloc (by simp) _
  have HD : Hid _ := hd
  clear hd
  obtain ⟨b1, h1⟩ : ∃ b, volIdB id = b := ⟨_, rfl⟩
  go_enter Try.func87, Try.ntmps87
  go_wp2_with fail
  refine (isVolId_is id _ b1 h1).mono ?_
  rintro e _ ⟨rfl, rfl⟩
  cases b1 with
  | false =>
    go_wp2
    go_ret
    exact ⟨by rw [← HD.out, h1]; rfl, A⟩
  | true =>
    by_cases q1 : 1 ≤ qu
    · by_cases q2 : qu ≤ 16
      · have hq : quotaB qu = true := decide_eq_true ⟨q1, q2⟩
        have d1 : decide (1 ≤ qu) = true := decide_eq_true q1
        have d2 : decide (qu ≤ 16) = true := decide_eq_true q2
        have HE : Hid (rootOk f rt = d) := by show _ = _; rw [← HD.out, h1, hq]; rfl
        go_wp2_with fail
        refine (isRoot_is an nn cn ab nb cb K f _ (h.below A) hn hb rt d HE.out).mono ?_
        rintro e w1 ⟨rfl, B1⟩
        replace B1 := below_next A B1
        go_wp2
        go_ret
        exact ⟨rfl, B1⟩
      · have hq : quotaB qu = false := decide_eq_false (by omega)
        have d1 : decide (1 ≤ qu) = true := decide_eq_true q1
        have d2 : decide (qu ≤ 16) = false := decide_eq_false q2
        go_wp2
        go_ret
        exact ⟨by rw [← HD.out, h1, hq]; rfl, A⟩
    · have hq : quotaB qu = false := decide_eq_false (by omega)
      have d1 : decide (1 ≤ qu) = false := decide_eq_false q1
      go_wp2
      go_ret
      exact ⟨by rw [← HD.out, h1, hq]; rfl, A⟩
end

section
variable {o o2 : Bool} {l u l2 u2 : Nat} (an : Option Addr) (nn cn : Nat) (ab : Option Addr) (nb cb : Nat) (av : Option Addr) (nv cv : Nat) (K : Nat → KS) (f : Fo) (vs : List Vo) (w : World) (h : FoAt w o l u an nn cn ab nb cb K f) (hv : RowAt w o2 l2 u2 3 av nv cv (trips vs))
include h hv
set_option maxRecDepth 20000 in
set_option maxHeartbeats 4000000 in
theorem refsFault_is (hn : nn ≤ 60) (hb : nb ≤ 24) (hn6 : nv ≤ 6) (hall : ∀ j, j < f.1.length → ndOne f (f.1.getD j nd0) = 0) (hr : ∀ k, k < vs.length → rootOk f (vs.getD k vo0).2.2 = true) (d : Int) (hd : (if exactB f vs then (0 : Int) else 1) = d) :
    Calls Try.prog 88 #[.agg #[.slice an nn cn, .slice ab nb cb, .slice av nv cv]] w fun e w' => e = .returned (.int .i64 d) ∧ Below w.heap.size w w' := by
  have hl := h.nodes.len
  have hvl := hv.nTrips
  have HD : Hid _ := hd
  have HR : Hid (∀ k, k < vs.length → (vs.getD k vo0).2.2 = -1 ∨ (0 ≤ (vs.getD k vo0).2.2 ∧ (vs.getD k vo0).2.2 < nn)) := fun k hk => by
    rcases root_of (hr k hk) with e | ⟨h0, h1, _⟩
    · exact Or.inl e
    · refine Or.inr ⟨h0, ?_⟩
      by_cases hlt : (vs.getD k vo0).2.2.toNat < f.1.length
      · omega
      · rw [nodeOf_out (by omega)] at h1; exact absurd rfl h1
  have HX : Hid _ := fun i => exact_sum hall hr i
  have HLE : Hid (∀ x : Int, namedIn f.1 false x ≤ 240) := fun x => by
    have := namedIn_le (ns := f.1) false x (kids_four hall) f.1.length (Nat.le_refl _)
    rw [List.take_length] at this
    omega
  have A0 : Below w.heap.size w (w.alloc (.cells #[.slice an nn cn, .slice ab nb cb, .slice av nv cv] 31)) := (Below.refl _ _).alloc (Nat.le_refl _) _
  have G0 : (w.alloc (.cells #[.slice an nn cn, .slice ab nb cb, .slice av nv cv] 31)).cell? ⟨w.heap.size, 0, none⟩ = some (.slice an nn cn) := by simp
  have G2 : (w.alloc (.cells #[.slice an nn cn, .slice ab nb cb, .slice av nv cv] 31)).cell? ⟨w.heap.size, 2, none⟩ = some (.slice av nv cv) := by simp
  have sW : (w.alloc (.cells #[.slice an nn cn, .slice ab nb cb, .slice av nv cv] 31)).heap.size = w.heap.size + 1 := by simp
  go_enter Try.func88, Try.ntmps88
  go_wp2_with fail
  refine (namesOf_is an nn cn ab nb cb K f _ (h.below A0) hn hb hall).mono ?_
  rintro e W0 ⟨gb, gl, rfl, RB, RL, q1, q2, hgs, B⟩
  rw [sW] at B q1
  clear hd hall hr RB
  generalize hW : (w.alloc (.cells #[.slice an nn cn, .slice ab nb cb, .slice av nv cv] 31)) = W at *
  clear hW
  have g2 := (B.cell (p := ⟨w.heap.size, 2, none⟩) (by simp)).trans G2
  go_wp2
  go_loopw [18] (fun i wr => ∃ k : Nat, k ≤ nv ∧ i = .int .i64 k ∧ RowAt wr true gl (gl + 1) 1 (some ⟨gl, 0, none⟩) nn nn (ints (fn nn fun x => (namedIn f.1 false (x : Int) : Int) + (rootsIn (vs.take k) (x : Int) : Int))) ∧ Below (w.heap.size + 1) W wr ∧ gl < wr.heap.size) (fun i _ => nv - (intOf i).toNat)
  case atStart => exact ⟨0, Nat.zero_le _, rfl, by simpa [rootsIn] using RL, B, hgs⟩
  case round =>
    clear RL B g2 hgs
    obtain ⟨k, hk, rfl, RL, B, hgs⟩ := hrel
    by_cases hlt : k < nv
    · obtain ⟨b, off, rfl, _, _, hbs, v0, v1, v2, _⟩ := hv.trip hlt
      replace v0 := (B.cell (p := ⟨b, off + k * 3, none⟩) (by simp; omega)).trans (cell_later A0 v0)
      replace v1 := (B.cell (p := ⟨b, off + k * 3 + 1, none⟩) (by simp; omega)).trans (cell_later A0 v1)
      replace v2 := (B.cell (p := ⟨b, off + k * 3 + 2, none⟩) (by simp; omega)).trans (cell_later A0 v2)
      have hlk : (k : Int) < (nv : Int) := by omega
      have HS : Hid _ := fun i : Int => rootsIn_take (vs := vs) (k := k) (by omega) i
      have hrt := HR.out k (by omega)
      obtain ⟨⟨id, qu, rt⟩, hvo⟩ : ∃ v, vs.getD k vo0 = v := ⟨_, rfl⟩
      rw [hvo] at v0 v1 v2 HS hrt
      simp only at v0 v1 v2 HS hrt
      clear hvo
      have A : Below wr.heap.size wr (wr.alloc (.cells #[.int .i64 id, .int .i64 qu, .int .i64 rt] 92)) := (Below.refl _ _).alloc (Nat.le_refl _) _
      have R1 := RL.below A
      have B1 := B.trans (A.mono (by omega))
      have hgs1 := Nat.lt_of_lt_of_le hgs A.size
      by_cases hr1 : rt = -1
      · have hne : (rt != -1) = false := by simp [hr1]
        have HS2 : Hid (∀ x : Nat, rootsIn (vs.take (k + 1)) (x : Int) = rootsIn (vs.take k) (x : Int)) := fun x => by rw [HS.out, if_neg (by omega)]; rfl
        clear HS hrt hr1
        go_wp2
        go_roundw
        case rel => exact ⟨k + 1, by omega, by go_num, by simp only [HS2.out]; exact R1, B1, hgs1⟩
        case measure => simp [intOf]; omega
      · have hne : (rt != -1) = true := by simp [hr1]
        obtain ⟨m, rfl⟩ : ∃ m : Nat, rt = m := ⟨rt.toNat, by omega⟩
        have hmn : m < nn := by omega
        have hlm : (m : Int) < (nn : Int) := by omega
        have hv1 := HLE.out (m : Int)
        have hv2 := rootsIn_le (vs.take k) (m : Int)
        have hv3 : (vs.take k).length ≤ 6 := by rw [List.length_take]; omega
        obtain ⟨_, _, e', _, _, _, c0, f0⟩ := R1.int hmn
        cases e'
        replace f0 := f0 rfl
        rw [fn_get hmn, Nat.zero_add] at c0
        rw [Nat.zero_add] at f0
        have S1 := RL.stored (i := m) (by omega) (.int .i64 ((namedIn f.1 false (m : Int) : Int) + (rootsIn (vs.take k) (m : Int) : Int) + 1))
        rw [ints_set, fn_set hmn, Nat.zero_add] at S1
        have S3 := B.setCell (p := ⟨gl, m, none⟩) (by show w.heap.size + 1 ≤ gl; omega) (.int .i64 ((namedIn f.1 false (m : Int) : Int) + (rootsIn (vs.take k) (m : Int) : Int) + 1))
        rw [fn_congr (g' := fun x => (namedIn f.1 false (x : Int) : Int) + (rootsIn (vs.take (k + 1)) (x : Int) : Int)) (fun x _ => by
          rw [HS.out]
          by_cases e : x = m
          · rw [if_pos e, if_pos (by omega), e]; omega
          · rw [if_neg e, if_neg (by omega)]; rfl)] at S1
        replace S3 := S3.trans (((Below.refl _ _).alloc (Nat.le_refl _) (.cells #[.int .i64 id, .int .i64 qu, .int .i64 (m : Int)] 92)).mono (by simp; omega))
        replace S1 := S1.below ((Below.refl _ _).alloc (Nat.le_refl _) (.cells #[.int .i64 id, .int .i64 qu, .int .i64 (m : Int)] 92))
        have HS1 : Hid _ := S1
        have HS3 : Hid _ := S3
        generalize hvv : (namedIn f.1 false (m : Int) : Int) + (rootsIn (vs.take k) (m : Int) : Int) = v at *
        have hw1 : IntKind.i64.wrap (v + 1) = v + 1 := wrapI_same _ (by omega)
        clear S1 S3 RL R1 B B1 HS hv1 hv2 hv3 hvv hrt hr1
        go_wp2
        go_roundw
        case rel => exact ⟨k + 1, by omega, by go_num, HS1.out, HS3.out, by simpa using hgs1⟩
        case measure => simp [intOf]; omega
    · obtain rfl : k = nv := by omega
      rw [show vs.take k = vs from List.take_of_length_le (by omega)] at RL
      have g0 := (B.cell (p := ⟨w.heap.size, 0, none⟩) (by simp)).trans G0
      obtain ⟨W1, hW1⟩ : ∃ W1, wr = W1 := ⟨_, rfl⟩
      subst hW1
      rename World => W1
      go_wp2
      go_loopw [37] (fun i wr => ∃ j : Nat, j ≤ nn ∧ i = .int .i64 j ∧ (∀ m, m < j → exactNd f vs m = true) ∧ Below W1.heap.size W1 wr) (fun i _ => nn - (intOf i).toNat)
      case atStart => exact ⟨0, Nat.zero_le _, rfl, fun m hm => absurd hm (by omega), Below.refl _ _⟩
      case round =>
        obtain ⟨i, hi, rfl, ha, C⟩ := hrel
        have HA : Hid _ := ha
        clear ha
        by_cases hil : i < nn
        · obtain ⟨b2, f2, rfl, _, _, hs2, e1, e2, e3, _⟩ := h.nodes.node hil
          replace e1 := cell_later C ((B.cell (p := ⟨b2, f2 + i * 3, none⟩) (by simp; omega)).trans (cell_later A0 e1))
          replace e2 := cell_later C ((B.cell (p := ⟨b2, f2 + i * 3 + 1, none⟩) (by simp; omega)).trans (cell_later A0 e2))
          replace e3 := cell_later C ((B.cell (p := ⟨b2, f2 + i * 3 + 2, none⟩) (by simp; omega)).trans (cell_later A0 e3))
          have hli : (i : Int) < (nn : Int) := by omega
          have R1 := RL.below C
          obtain ⟨_, _, e', _, _, _, c0, _⟩ := R1.int hil
          cases e'
          rw [fn_get hil, Nat.zero_add] at c0
          have HB : Hid (exactNd f vs i = false → exactB f vs = false) := fun hx => exact_not (by omega) hx
          have HN : Hid (exactNd f vs i = true → ∀ m, m < i + 1 → exactNd f vs m = true) := fun h0 m hm => by
            by_cases e : m = i
            · subst e; exact h0
            · exact HA.out m (by omega)
          have HE : Hid (exactNd f vs i = decide ((f.1.getD i nd0).1 = (namedIn f.1 false (i : Int) : Int) + (rootsIn vs (i : Int) : Int))) := HX.out i
          rw [HE.out] at HB HN
          clear HE
          obtain ⟨⟨r, lf, ks⟩, hnd⟩ : ∃ nd, f.1.getD i nd0 = nd := ⟨_, rfl⟩
          obtain ⟨⟨ka, kn, kc⟩, hks⟩ : ∃ q, K i = q := ⟨_, rfl⟩
          obtain ⟨q, hq⟩ : ∃ q, (namedIn f.1 false (i : Int) : Int) + (rootsIn vs (i : Int) : Int) = q := ⟨_, rfl⟩
          rw [hnd] at e1 e2 HB HN
          rw [hks] at e3
          rw [hq] at c0 HB HN
          simp only at e1 e2 e3 HB HN
          clear hnd hks hq R1
          have A : Below wr.heap.size wr (wr.alloc (.cells #[.int .i64 r, .bool lf, .slice ka kn kc] 148)) := (Below.refl _ _).alloc (Nat.le_refl _) _
          have z0 : (wr.alloc (.cells #[.int .i64 r, .bool lf, .slice ka kn kc] 148)).cell? ⟨wr.heap.size, 0, none⟩ = some (.int .i64 r) := by simp
          replace c0 := cell_later A c0
          have C2 := below_next C A
          have C3 := B.trans (C2.mono (by omega))
          by_cases hrq : r = q
          · have hd0 : (r != q) = false := by simp [hrq]
            have HN2 : Hid _ := HN.out (decide_eq_true hrq)
            clear HB HN hrq
            go_wp2_with fail
            go_quiet (fail)
            go_wp2
            go_roundw
            case rel => exact ⟨i + 1, by omega, by go_num, HN2.out, below_drewN C2 _⟩
            case measure => simp [intOf]; omega
          · have hd0 : (r != q) = true := by simp [hrq]
            have HF : Hid _ := HB.out (decide_eq_false hrq)
            clear HB HN hrq
            go_wp2_with fail
            go_quiet (fail)
            go_wp2
            go_ret
            refine ⟨ret_int (by rw [← HD.out, HF.out]; rfl), below_drewN ?_ _⟩
            exact below_up A0 C3
        · obtain rfl : i = nn := by omega
          have HF : Hid (exactB f vs = true) := (exact_iff f vs).2 fun m hm => HA.out m (by omega)
          have C3 := B.trans (C.mono (by omega))
          go_wp2
          go_ret
          refine ⟨ret_int (by rw [← HD.out, HF.out]; rfl), ?_⟩
          exact below_up A0 C3

set_option maxRecDepth 20000 in
set_option maxHeartbeats 4000000 in
theorem implPF_is (hn : nn ≤ 2097152) (hb : nb ≤ 2097152) (hK : ∀ i, i < nn → (K i).2.1 ≤ 2097152) (hvn : nv ≤ 2097152) (c : Int) (hc : poFault f vs = c) : Calls Try.prog 40 #[.agg #[.slice an nn cn, .slice ab nb cb, .slice av nv cv]] w fun e w' => e = .returned (.int .i64 c) ∧ Below w.heap.size w w' := by
  have hl := h.nodes.len
  have hbl := h.blocks.nPairs
  have hvl := hv.nTrips
  have HC : Hid _ := hc
  have HK : Hid _ := hK
  clear hc hK
  have A0 : Below w.heap.size w (w.alloc (.cells #[.slice an nn cn, .slice ab nb cb, .slice av nv cv] 31)) := (Below.refl _ _).alloc (Nat.le_refl _) _
  have G0 : (w.alloc (.cells #[.slice an nn cn, .slice ab nb cb, .slice av nv cv] 31)).cell? ⟨w.heap.size, 0, none⟩ = some (.slice an nn cn) := by simp
  have G1 : (w.alloc (.cells #[.slice an nn cn, .slice ab nb cb, .slice av nv cv] 31)).cell? ⟨w.heap.size, 1, none⟩ = some (.slice ab nb cb) := by simp
  have G2 : (w.alloc (.cells #[.slice an nn cn, .slice ab nb cb, .slice av nv cv] 31)).cell? ⟨w.heap.size, 2, none⟩ = some (.slice av nv cv) := by simp
  go_enter Try.func40, Try.ntmps40
  go_wp2_with fail
  refine (implFF_b an nn cn ab nb cb K f _ (h.below A0) hn hb HK.out _ rfl).mono ?_
  rintro e w1 ⟨rfl, B⟩
  have g0 := cell_later B G0
  have g1 := cell_later B G1
  have g2 := cell_later B G2
  replace B := below_next A0 B
  clear A0 G0 G1 G2
  obtain ⟨q, hq⟩ : ∃ q, foFault f = q := ⟨_, rfl⟩
  have HQ : Hid _ := hq
  rw [hq]
  clear hq
  by_cases hq0 : q = 0
  rotate_left 1
  · have hne : (q != 0) = true := by simp [hq0]
    have HE : Hid (poFault f vs = q) := by show _ = _; unfold poFault; rw [HQ.out, if_neg hq0]
    clear hq0 HQ
    go_wp2
    go_ret
    exact ⟨ret_int (by rw [← HC.out, HE.out]), B⟩
  subst hq0
  have hI : Inv f := (right_of HQ.out).inv
  have HALL : Hid (∀ j, j < f.1.length → ndOne f (f.1.getD j nd0) = 0) := fun j _ => (ndOne_iff _ _).2 (hI.nd j)
  have hi1 := hI.nn
  have hi2 := hI.nb
  have HI : Hid _ := hI
  clear hI
  have HP : Hid (poFault f vs = if 6 < vs.length then 2 else if volsFault f vs = 0 then (if exactB f vs then 0 else 1) else volsFault f vs) := if_pos HQ.out
  by_cases h6 : 6 < nv
  · have h6' : (6 : Int) < (nv : Int) := by omega
    have HE : Hid (poFault f vs = 2) := HP.out.trans (if_pos (by omega))
    go_wp2
    go_ret
    exact ⟨ret_int (by rw [← HC.out, HE.out]), B⟩
  have h6' : ¬ (6 : Int) < (nv : Int) := by omega
  replace HP : Hid (poFault f vs = if volsFault f vs = 0 then (if exactB f vs then 0 else 1) else volsFault f vs) := HP.out.trans (if_neg (by omega))
  have B1 : Below w1.heap.size w1 w1 := Below.refl _ _
  go_wp2
  obtain ⟨bp, hbp⟩ : ∃ bp, w.heap.size = bp := ⟨_, rfl⟩
  rw [hbp] at g0 g1 g2
  simp only [hbp]
  have HBP : Hid _ := hbp
  clear hbp
  go_loopw [4, 20] (fun a i wr => ∃ k : Nat, k ≤ nv ∧ i = .int .i64 k ∧ a = .int .i64 (idAhead vs k) ∧ volsFault f vs = volsFrom f vs (nv - k) k ∧ Below w1.heap.size w1 wr) (fun _ i _ => nv - (intOf i).toNat)
  case atStart => exact ⟨0, Nat.zero_le _, rfl, rfl, by rw [Nat.sub_zero, ← hvl]; rfl, B1⟩
  case round =>
    obtain ⟨k, hk, rfl, rfl, ha, C⟩ := hrel
    replace g0 := cell_later C g0
    replace g1 := cell_later C g1
    replace g2 := cell_later C g2
    replace B := below_step B B.size C
    have HA : Hid _ := ha
    clear ha B1
    by_cases hlt : k < nv
    rotate_left 1
    · obtain rfl : k = nv := by omega
      have HV : Hid (volsFault f vs = 0) := by show _ = _; rw [HA.out, ← hvl]; exact volsFrom_end (Nat.le_refl _)
      obtain ⟨x, hx⟩ : ∃ x : Int, (if exactB f vs then (0 : Int) else 1) = x := ⟨_, rfl⟩
      have HE : Hid (poFault f vs = x) := HP.out.trans ((if_pos HV.out).trans hx)
      have HX : Hid _ := hx
      clear hx
      go_wp2_with fail
      refine (refsFault_is an nn cn ab nb cb av k cv K f vs wr (h.below B) (hv.below B) (by omega) (by omega) (by omega) HALL.out (fun j hj => (volOne_ok (vols_ok HV.out j hj)).2.2.1) x HX.out).mono ?_
      rintro e w2 ⟨rfl, B2⟩
      replace B := below_step B B.size B2
      go_wp2
      go_ret
      exact ⟨ret_int (by rw [← HC.out, HE.out]), B⟩
    have HS : Hid _ := volsFrom_step (f := f) (vs := vs) (k := k) (by omega)
    rw [hvl] at HS
    have HNX : Hid (idAhead vs (k + 1) = (vs.getD k vo0).1) := rfl
    obtain ⟨b, off, rfl, _, _, hbs, v0, v1, v2, _⟩ := hv.trip hlt
    replace v0 := (B.cell (p := ⟨b, off + k * 3, none⟩) hbs).trans v0
    replace v1 := (B.cell (p := ⟨b, off + k * 3 + 1, none⟩) hbs).trans v1
    replace v2 := (B.cell (p := ⟨b, off + k * 3 + 2, none⟩) hbs).trans v2
    have hlk : (k : Int) < (nv : Int) := by omega
    obtain ⟨⟨id, qu, rt⟩, hvo⟩ : ∃ v, vs.getD k vo0 = v := ⟨_, rfl⟩
    rw [hvo] at v0 v1 v2 HS HNX
    simp only at v0 v1 v2 HNX
    clear hvo
    obtain ⟨ah, hah⟩ : ∃ a, idAhead vs k = a := ⟨_, rfl⟩
    rw [hah] at HS ⊢
    clear hah
    have A : Below wr.heap.size wr (wr.alloc (.cells #[.int .i64 id, .int .i64 qu, .int .i64 rt] 92)) := (Below.refl _ _).alloc (Nat.le_refl _) _
    have x0 : (wr.alloc (.cells #[.int .i64 id, .int .i64 qu, .int .i64 rt] 92)).cell? ⟨wr.heap.size, 0, none⟩ = some (.int .i64 id) := by simp
    have x1 : (wr.alloc (.cells #[.int .i64 id, .int .i64 qu, .int .i64 rt] 92)).cell? ⟨wr.heap.size, 1, none⟩ = some (.int .i64 qu) := by simp
    have x2 : (wr.alloc (.cells #[.int .i64 id, .int .i64 qu, .int .i64 rt] 92)).cell? ⟨wr.heap.size, 2, none⟩ = some (.int .i64 rt) := by simp
    replace g0 := cell_later A g0
    replace g1 := cell_later A g1
    have HBAD : Hid (volOne f ah (id, qu, rt) ≠ 0 → poFault f vs = volOne f ah (id, qu, rt)) := fun hx => by rw [HP.out, HA.out, HS.out, if_neg hx, if_neg hx]
    obtain ⟨bv, hbv⟩ : ∃ b, (volIdB id && quotaB qu && rootOk f rt) = b := ⟨_, rfl⟩
    have HBV : Hid _ := hbv
    clear hbv
    go_wp2_with fail
    refine (isVol_is an nn cn ab nb cb K f _ ((h.below B).below A) hn hb id qu rt bv HBV.out).mono ?_
    rintro e w2 ⟨rfl, B2⟩
    replace x0 := cell_later B2 x0
    replace x1 := cell_later B2 x1
    replace x2 := cell_later B2 x2
    replace g0 := cell_later B2 g0
    replace g1 := cell_later B2 g1
    replace B := below_step (below_step B B.size A) (below_step B B.size A).size B2
    have C2 := below_next (below_next C A) B2
    clear v0 v1 v2 A B2 g2
    cases bv with
    | false =>
      have HE : Hid (poFault f vs = 3) := by
        have hx : volOne f ah (id, qu, rt) = 3 := by unfold volOne; rw [if_neg (by rw [HBV.out]; decide)]
        show _ = _
        rw [HBAD.out (by rw [hx]; decide), hx]
      clear HBAD HS HA
      go_wp2
      go_ret
      exact ⟨ret_int (by rw [← HC.out, HE.out]), B⟩
    | true =>
      have HV : Hid (volOne f ah (id, qu, rt) = if id ≤ ah then 1 else if qu < (usedN f rt : Int) then 9 else 0) := by show _ = _; unfold volOne; rw [if_pos HBV.out]
      have HRT : Hid (rootOk f rt = true) := by have := HBV.out; rw [Bool.and_eq_true] at this; exact this.2
      by_cases hle : id ≤ ah
      · have hd1 : decide (id ≤ ah) = true := decide_eq_true hle
        have HE : Hid (poFault f vs = 1) := by show _ = _; rw [HBAD.out (by rw [HV.out, if_pos hle]; decide), HV.out, if_pos hle]
        clear HBAD HS HA HV
        go_wp2
        go_ret
        exact ⟨ret_int (by rw [← HC.out, HE.out]), B⟩
      have hd1 : decide (id ≤ ah) = false := decide_eq_false hle
      have HV2 : Hid (volOne f ah (id, qu, rt) = if qu < (usedN f rt : Int) then 9 else 0) := HV.out.trans (if_neg hle)
      clear HV
      obtain ⟨us, hus⟩ : ∃ us, (usedN f rt : Int) = us := ⟨_, rfl⟩
      rw [hus] at HV2
      have HU : Hid _ := hus
      clear hus
      go_wp2_with fail
      have D : Below w2.heap.size w2 w2.drew := (Below.refl _ _).drew
      replace x0 := cell_later D x0
      replace x1 := cell_later D x1
      replace x2 := cell_later D x2
      replace g0 := cell_later D g0
      replace g1 := cell_later D g1
      replace B := below_step B B.size D
      replace C2 := below_next C2 D
      clear D
      go_region_held3 (fun w' => w'.cell? ⟨bp, 0, none⟩ = some (.slice an nn cn) ∧ w'.cell? ⟨bp, 1, none⟩ = some (.slice ab nb cb) ∧ w'.cell? ⟨wr.heap.size, 1, none⟩ = some (.int .i64 qu) ∧ w'.cell? ⟨wr.heap.size, 2, none⟩ = some (.int .i64 rt)) (exact ⟨g0, g1, x1, x2⟩) (first | (go_at_call 50; refine (usedBy_is an nn cn ab nb cb K f _ (h.below B) rt HI.out (root_of HRT.out) us HU.out).mono ?_; rintro e w5 ⟨rfl, B5⟩; replace x0 := cell_later B5 x0; replace x1 := cell_later B5 x1; replace x2 := cell_later B5 x2; replace g0 := cell_later B5 g0; replace g1 := cell_later B5 g1; replace B := below_step B B.size B5; replace C2 := below_next C2 B5; clear B5))
      by_cases hqu : qu < us
      · have hqd : decide (qu < us) = true := decide_eq_true hqu
        have HE : Hid (poFault f vs = 9) := by show _ = _; rw [HBAD.out (by rw [HV2.out, if_pos hqu]; decide), HV2.out, if_pos hqu]
        clear HBAD HS HA HV2
        go_wp2
        go_ret
        exact ⟨ret_int (by rw [← HC.out, HE.out]), B⟩
      · have hqd : decide (qu < us) = false := decide_eq_false hqu
        have HN : Hid _ := HA.out.trans (HS.out.trans (if_pos (HV2.out.trans (if_neg hqu))))
        clear HBAD HS HA HV2
        go_wp2
        go_roundw
        case rel => exact ⟨k + 1, by omega, by go_num, by rw [HNX.out], HN.out, C2⟩
        case measure => simp [intOf]; omega
end

end Go.Proofs.Ytikjndmgljkhhaa

/- Chapter 5: the place of a volume, by the model. -/
namespace Go.Proofs.Ytikjndmgljkhhaa
open Go.RowKit

def volFrom (vs : List Vo) (id : Int) : Nat → Nat → Int
  | 0, _ => -1
  | n + 1, k => if (vs.getD k vo0).1 = id then (k : Int) else volFrom vs id n (k + 1)
def volPl (vs : List Vo) (id : Int) : Int := volFrom vs id vs.length 0
theorem volFrom_step {vs : List Vo} {id : Int} {k : Nat} (h : k < vs.length) : volFrom vs id (vs.length - k) k = if (vs.getD k vo0).1 = id then (k : Int) else volFrom vs id (vs.length - (k + 1)) (k + 1) := by
  rw [show vs.length - k = vs.length - (k + 1) + 1 by omega]; rfl
theorem volFrom_end {vs : List Vo} {id : Int} {k : Nat} (h : vs.length ≤ k) : volFrom vs id (vs.length - k) k = -1 := by
  rw [show vs.length - k = 0 by omega]; rfl
theorem volFrom_is (vs : List Vo) (id : Int) (n k : Nat) : volFrom vs id n k = -1 ∨ ∃ m : Nat, volFrom vs id n k = m ∧ k ≤ m ∧ m < k + n ∧ (vs.getD m vo0).1 = id := by
  induction n generalizing k with
  | zero => exact Or.inl rfl
  | succ n ih =>
    unfold volFrom
    by_cases h : (vs.getD k vo0).1 = id
    · rw [if_pos h]; exact Or.inr ⟨k, rfl, Nat.le_refl _, by omega, h⟩
    · rw [if_neg h]
      rcases ih (k + 1) with e | ⟨m, e, h1, h2, h3⟩
      · exact Or.inl e
      · exact Or.inr ⟨m, e, by omega, by omega, h3⟩
theorem volPl_is (vs : List Vo) (id : Int) : volPl vs id = -1 ∨ ∃ m : Nat, volPl vs id = m ∧ m < vs.length ∧ (vs.getD m vo0).1 = id := by
  rcases volFrom_is vs id vs.length 0 with e | ⟨m, e, _, h2, h3⟩
  · exact Or.inl e
  · exact Or.inr ⟨m, e, by omega, h3⟩
def volAtC (f : Fo) (vs : List Vo) (id : Int) : Int := if poFault f vs = 0 then (if volPl vs id < 0 then 4 else 0) else poFault f vs
def volAtV (f : Fo) (vs : List Vo) (id : Int) : Int := if volAtC f vs id = 0 then volPl vs id else 0
def usedOfV (f : Fo) (vs : List Vo) (id : Int) : Int := if volAtC f vs id = 0 then (usedN f (vs.getD (volPl vs id).toNat vo0).2.2 : Int) else 0
theorem volAt_0 {f : Fo} {vs : List Vo} {id : Int} (h : volAtC f vs id = 0) : poFault f vs = 0 ∧ ∃ m : Nat, volPl vs id = m ∧ m < vs.length ∧ (vs.getD m vo0).1 = id := by
  unfold volAtC at h
  by_cases hp : poFault f vs = 0
  · rw [if_pos hp] at h
    refine ⟨hp, ?_⟩
    rcases volPl_is vs id with e | e
    · rw [e] at h; exact absurd h (by decide)
    · exact e
  · rw [if_neg hp] at h; exact absurd h hp
theorem po_right {f : Fo} {vs : List Vo} (h : poFault f vs = 0) : Right f ∧ vs.length ≤ 6 ∧ volsFault f vs = 0 ∧ exactB f vs = true := by
  unfold poFault at h
  by_cases h0 : foFault f = 0
  · rw [if_pos h0] at h
    by_cases h6 : 6 < vs.length
    · rw [if_pos h6] at h; exact absurd h (by decide)
    · rw [if_neg h6] at h
      by_cases hv : volsFault f vs = 0
      · rw [if_pos hv] at h
        refine ⟨right_of h0, by omega, hv, ?_⟩
        cases hx : exactB f vs with
        | true => rfl
        | false => rw [hx] at h; exact absurd h (by decide)
      · rw [if_neg hv] at h; exact absurd h hv
  · rw [if_neg h0] at h; exact absurd h h0
theorem vol_root {f : Fo} {vs : List Vo} (h : poFault f vs = 0) {m : Nat} (hm : m < vs.length) : RootIs f (vs.getD m vo0).2.2 := root_of (volOne_ok (vols_ok (po_right h).2.2.1 m hm)).2.2.1

section
variable {o2 : Bool} {l2 u2 : Nat} (p : Nat) (av : Option Addr) (nv cv : Nat) (vs : List Vo) (w : World) (hv : RowAt w o2 l2 u2 3 av nv cv (trips vs)) (hp2 : w.cell? ⟨p, 2, none⟩ = some (.slice av nv cv)) (hvn : nv ≤ 2097152)
include hv hp2 hvn
end

section
variable {o o2 : Bool} {l u l2 u2 : Nat} (an : Option Addr) (nn cn : Nat) (ab : Option Addr) (nb cb : Nat) (av : Option Addr) (nv cv : Nat) (K : Nat → KS) (f : Fo) (vs : List Vo) (w : World) (h : FoAt w o l u an nn cn ab nb cb K f) (hv : RowAt w o2 l2 u2 3 av nv cv (trips vs)) (hn : nn ≤ 2097152) (hb : nb ≤ 2097152) (hK : ∀ i, i < nn → (K i).2.1 ≤ 2097152) (hvn : nv ≤ 2097152)
include h hv hn hb hK hvn
end

end Go.Proofs.Ytikjndmgljkhhaa

/- Chapter 5: the place of a volume, by the program. -/
namespace Go.Proofs.Ytikjndmgljkhhaa
open Go.RowKit
theorem volIs (x y z id : Int) (pb : Nat) (w : World) (hp : w.cell? ⟨pb, 0, none⟩ = some (.int .i64 id)) (d : Bool) (hd : decide (x = id) = d) : Calls Try.prog 93 #[.agg #[.int .i64 x, .int .i64 y, .int .i64 z], .pointer (some ⟨pb, 0, none⟩)] w fun e w' => e = .returned (.bool d) ∧ Below w.heap.size w w' := by
  have A : Below w.heap.size w (w.alloc (.cells #[.int .i64 x, .int .i64 y, .int .i64 z] 92)) := (Below.refl _ _).alloc (Nat.le_refl _) _
  have g := cell_later A hp
  subst hd
  go_enter Try.func93, Try.ntmps93
  go_wp2
  go_ret
  exact ⟨rfl, A⟩
set_option maxRecDepth 20000 in
set_option maxHeartbeats 1000000 in
theorem indexFunc_is {o2 : Bool} {l2 u2 : Nat} (av : Option Addr) (nv cv : Nat) (vs : List Vo) (w : World) (hv : RowAt w o2 l2 u2 3 av nv cv (trips vs)) (hvn : nv ≤ 2097152) (pb : Nat) (id : Int) (hp : w.cell? ⟨pb, 0, none⟩ = some (.int .i64 id)) (d : Int) (hd : volPl vs id = d) : Calls Try.prog 92 #[.slice av nv cv, .func (.func 93) #[] #[.pointer (some ⟨pb, 0, none⟩)]] w fun e w' => e = .returned (.int .i64 d) ∧ Below w.heap.size w w' := by
  have hvl := hv.nTrips
  have HD : Hid _ := hd
  clear hd
  go_enter Try.func92, Try.ntmps92
  go_wp2
  go_loopw [8] (fun i wr => ∃ k : Nat, k ≤ nv ∧ i = .int .i64 k ∧ volPl vs id = volFrom vs id (nv - k) k ∧ Below w.heap.size w wr) (fun i _ => nv - (intOf i).toNat)
  case atStart => exact ⟨0, Nat.zero_le _, rfl, by rw [Nat.sub_zero, ← hvl]; rfl, Below.refl _ _⟩
  case round =>
    obtain ⟨k, hk, rfl, ha, B⟩ := hrel
    have HA : Hid _ := ha
    clear ha
    have g := cell_later B hp
    by_cases hlt : k < nv
    · have HS : Hid _ := volFrom_step (vs := vs) (id := id) (k := k) (by omega)
      rw [hvl] at HS
      obtain ⟨b, off, rfl, _, _, hbs, v0, v1, v2, _⟩ := hv.trip hlt
      replace v0 := (B.cell (p := ⟨b, off + k * 3, none⟩) hbs).trans v0
      replace v1 := (B.cell (p := ⟨b, off + k * 3 + 1, none⟩) hbs).trans v1
      replace v2 := (B.cell (p := ⟨b, off + k * 3 + 2, none⟩) hbs).trans v2
      have hlk : (k : Int) < (nv : Int) := by omega
      obtain ⟨⟨x, y, z⟩, hx⟩ : ∃ x, vs.getD k vo0 = x := ⟨_, rfl⟩
      rw [hx] at v0 v1 v2 HS
      simp only at v0 v1 v2 HS
      clear hx
      obtain ⟨dd, hdd⟩ : ∃ dd, decide (x = id) = dd := ⟨_, rfl⟩
      go_wp2_with fail
      refine (volIs x y z id pb _ g dd hdd).mono ?_
      rintro e w1 ⟨rfl, B1⟩
      replace B := below_step B B.size B1
      clear B1 g v0 v1 v2
      cases dd with
      | true =>
        have HE : Hid (volPl vs id = (k : Int)) := HA.out.trans (HS.out.trans (if_pos (of_decide_eq_true hdd)))
        clear HS HA hdd
        go_wp2
        go_ret
        exact ⟨ret_int (by rw [← HD.out, HE.out]), B⟩
      | false =>
        have HE : Hid _ := HA.out.trans (HS.out.trans (if_neg (of_decide_eq_false hdd)))
        clear HS HA hdd
        go_wp2
        go_roundw
        case rel => exact ⟨k + 1, by omega, by go_num, HE.out, B⟩
        case measure => simp [intOf]; omega
    · obtain rfl : k = nv := by omega
      have HE : Hid (volPl vs id = -1) := by show _ = _; rw [HA.out, ← hvl]; exact volFrom_end (Nat.le_refl _)
      go_wp2
      go_ret
      exact ⟨ret_int (by rw [← HD.out, HE.out]), B⟩
theorem volPlace_is {o2 : Bool} {l2 u2 : Nat} (av : Option Addr) (nv cv : Nat) (vs : List Vo) (w : World) (hv : RowAt w o2 l2 u2 3 av nv cv (trips vs)) (hvn : nv ≤ 2097152) (id : Int) (d : Int) (hd : volPl vs id = d) : Calls Try.prog 42 #[.slice av nv cv, .int .i64 id] w fun e w' => e = .returned (.int .i64 d) ∧ Below w.heap.size w w' := by
  have A : Below w.heap.size w (w.alloc (.cells #[.int .i64 id] 2)) := (Below.refl _ _).alloc (Nat.le_refl _) _
  go_enter Try.func42, Try.ntmps42
  go_wp2_with fail
  refine (indexFunc_is av nv cv vs _ (hv.below A) hvn w.heap.size id (by simp) d hd).mono ?_
  rintro e w1 ⟨rfl, B1⟩
  replace B1 := below_next A B1
  go_wp2
  go_ret
  exact ⟨rfl, B1⟩

end Go.Proofs.Ytikjndmgljkhhaa

/- Chapter 5: volumes and pools copied, compared and counted by the laws. -/
namespace Go.Proofs.Ytikjndmgljkhhaa
open Go.RowKit

theorem Try.infoVol : (Try.prog.info? 92).map (fun i => (i.zero, i.size, i.bytes)) = some (some (.agg #[.int .i64 0, .int .i64 0, .int .i64 0]), 3, 24) := by kernel_rfl
section
variable {o o2 : Bool} {l u l2 u2 : Nat} (an : Option Addr) (nn cn : Nat) (ab : Option Addr) (nb cb : Nat) (av : Option Addr) (nv cv : Nat) (K : Nat → KS) (f : Fo) (vs : List Vo) (w : World) (h : FoAt w o l u an nn cn ab nb cb K f) (hv : RowAt w o2 l2 u2 3 av nv cv (trips vs))
include h hv
end

section
variable {o o2 : Bool} {l u l2 u2 : Nat} (an : Option Addr) (nn cn : Nat) (ab : Option Addr) (nb cb : Nat) (av : Option Addr) (nv cv : Nat) (K : Nat → KS) (f : Fo) (vs : List Vo) (w : World) (h : FoAt w o l u an nn cn ab nb cb K f) (hv : RowAt w o2 l2 u2 3 av nv cv (trips vs))
include h hv
end

end Go.Proofs.Ytikjndmgljkhhaa

/- Chapter 5, plain: volumes, how many blocks a tree has, the fault of a pool. -/
import Derived.Test.YtedgppggaceopaaZZ
import Derived.Test.YtedgppggaceopaaZM
import Derived.Test.YtedgppggaceopaaZV
import Derived.Test.YtedgppggaceopaaZU
import Derived.BigQuiet
namespace Go.Proofs.Ytedgppggaceopaa
open Go.RowKit

abbrev Vo := Int × Int × Int
def vo0 : Vo := (0, 0, 0)
def trips (vs : List Vo) : List Value := flat3 vs.length (fun i => .int .i64 (vs.getD i vo0).1) (fun i => .int .i64 (vs.getD i vo0).2.1) (fun i => .int .i64 (vs.getD i vo0).2.2)
theorem trips_len (vs : List Vo) : (trips vs).length = vs.length * 3 := flat3_len _ _ _ _
theorem trips_get0 (vs : List Vo) (k : Nat) (h : k < vs.length) : (trips vs).getD (k * 3) default = .int .i64 (vs.getD k vo0).1 := by rw [trips, flat3_get0 _ _ _ _ _ h]
theorem trips_get1 (vs : List Vo) (k : Nat) (h : k < vs.length) : (trips vs).getD (k * 3 + 1) default = .int .i64 (vs.getD k vo0).2.1 := by rw [trips, flat3_get1 _ _ _ _ _ h]
theorem trips_get2 (vs : List Vo) (k : Nat) (h : k < vs.length) : (trips vs).getD (k * 3 + 2) default = .int .i64 (vs.getD k vo0).2.2 := by rw [trips, flat3_get2 _ _ _ _ _ h]
theorem RowAt.nTrips {w : World} {own : Bool} {lo hi : Nat} {ao : Option Addr} {n cap : Nat} {vs : List Vo} (h : RowAt w own lo hi 3 ao n cap (trips vs)) : vs.length = n := by
  have hl := h.len; rw [trips_len] at hl; omega
theorem RowAt.trip {w : World} {own : Bool} {lo hi : Nat} {ao : Option Addr} {n cap : Nat} {vs : List Vo} (h : RowAt w own lo hi 3 ao n cap (trips vs)) {i : Nat} (hi' : i < n) :
    ∃ b off, ao = some ⟨b, off, none⟩ ∧ lo ≤ b ∧ b < hi ∧ b < w.heap.size ∧ w.cell? ⟨b, off + i * 3, none⟩ = some (.int .i64 (vs.getD i vo0).1) ∧ w.cell? ⟨b, off + i * 3 + 1, none⟩ = some (.int .i64 (vs.getD i vo0).2.1) ∧ w.cell? ⟨b, off + i * 3 + 2, none⟩ = some (.int .i64 (vs.getD i vo0).2.2) ∧
      (own = true → w.frozen? ⟨b, off + i * 3, none⟩ = false ∧ w.frozen? ⟨b, off + i * 3 + 1, none⟩ = false ∧ w.frozen? ⟨b, off + i * 3 + 2, none⟩ = false) := by
  obtain ⟨b, off, rfl, h1, h2, h3, h4, h5⟩ := h.cells (by omega)
  have hl := h.nTrips
  refine ⟨b, off, rfl, h1, h2, h3, ?_, ?_, ?_, fun ho => ⟨h5 ho _ (by omega), by rw [Nat.add_assoc]; exact h5 ho _ (by omega), by rw [Nat.add_assoc]; exact h5 ho _ (by omega)⟩⟩
  · rw [h4 _ (by omega), trips, flat3_get0 _ _ _ _ _ (by omega)]
  · rw [Nat.add_assoc, h4 _ (by omega), trips, flat3_get1 _ _ _ _ _ (by omega)]
  · rw [Nat.add_assoc, h4 _ (by omega), trips, flat3_get2 _ _ _ _ _ (by omega)]

def volIdB (x : Int) : Bool := decide (1 ≤ x ∧ x ≤ 99)
def quotaB (x : Int) : Bool := decide (1 ≤ x ∧ x ≤ 16)
/-- how many places below k of a tree have a block -/
def usedTo (f : Fo) (root : Int) : Nat → Nat
  | 0 => 0
  | k + 1 => usedTo f root k + (if blockAt f root k < 0 then 0 else 1)
def usedN (f : Fo) (root : Int) : Nat := usedTo f root 16
theorem usedTo_le (f : Fo) (root : Int) (k : Nat) : usedTo f root k ≤ k := by
  induction k with
  | zero => exact Nat.le_refl _
  | succ k ih => unfold usedTo; split <;> omega
theorem walkTo_used (f : Fo) (root : Int) (k : Nat) : (walkTo f root k).length = 2 * usedTo f root k := by
  induction k with
  | zero => rfl
  | succ k ih =>
    unfold walkTo at ih ⊢
    rw [List.range_succ, List.flatMap_append, List.length_append, ih]
    simp only [List.flatMap_cons, List.flatMap_nil, List.append_nil]
    show _ = 2 * (usedTo f root k + (if blockAt f root k < 0 then 0 else 1))
    unfold walkOne
    split <;> simp <;> omega
def volOne (f : Fo) (ahead : Int) (v : Vo) : Int :=
  if volIdB v.1 && quotaB v.2.1 && rootOk f v.2.2 then (if v.1 ≤ ahead then 1 else if v.2.1 < (usedN f v.2.2 : Int) then 9 else 0) else 3
def idAhead (vs : List Vo) : Nat → Int
  | 0 => 0
  | k + 1 => (vs.getD k vo0).1
/-- the fault of the volumes from place k on; n: how many are left -/
def volsFrom (f : Fo) (vs : List Vo) : Nat → Nat → Int
  | 0, _ => 0
  | n + 1, k => if volOne f (idAhead vs k) (vs.getD k vo0) = 0 then volsFrom f vs n (k + 1) else volOne f (idAhead vs k) (vs.getD k vo0)
def volsFault (f : Fo) (vs : List Vo) : Int := volsFrom f vs vs.length 0
def rootsIn (vs : List Vo) (i : Int) : Nat := vs.countP fun v => v.2.2 == i
def exactNd (f : Fo) (vs : List Vo) (i : Nat) : Bool := (nodeOf f i).1 == 0 || (nodeOf f i).1 == (if (nodeOf f i).2.1 then (named f false i : Int) else (rootsIn vs i : Int))
def exactB (f : Fo) (vs : List Vo) : Bool := (List.range f.1.length).all (exactNd f vs)
def poFault (f : Fo) (vs : List Vo) : Int :=
  if foFault f = 0 then
    (if 6 < vs.length then 2 else if volsFault f vs = 0 then (if exactB f vs then 0 else 1) else volsFault f vs)
  else foFault f
theorem exact_iff (f : Fo) (vs : List Vo) : exactB f vs = true ↔ ∀ i, i < f.1.length → exactNd f vs i = true := by
  unfold exactB; rw [List.all_eq_true]; exact ⟨fun h i hi => h i (List.mem_range.2 hi), fun h i hi => h i (List.mem_range.1 hi)⟩
theorem volOne_ok {f : Fo} {a : Int} {v : Vo} (h : volOne f a v = 0) : (1 ≤ v.1 ∧ v.1 ≤ 99) ∧ (1 ≤ v.2.1 ∧ v.2.1 ≤ 16) ∧ rootOk f v.2.2 = true ∧ a < v.1 ∧ (usedN f v.2.2 : Int) ≤ v.2.1 := by
  unfold volOne at h
  split at h
  case isTrue hc =>
    simp [volIdB, quotaB] at hc
    split at h
    · exact absurd h (by decide)
    · split at h
      · exact absurd h (by decide)
      · exact ⟨hc.1.1, hc.1.2, hc.2, by omega, by omega⟩
  case isFalse => exact absurd h (by decide)
theorem volsFrom_ok {f : Fo} {vs : List Vo} {n k : Nat} (h : volsFrom f vs n k = 0) : ∀ i, k ≤ i → i < k + n → volOne f (idAhead vs i) (vs.getD i vo0) = 0 := by
  induction n generalizing k with
  | zero => intro i h1 h2; omega
  | succ n ih =>
    unfold volsFrom at h
    split at h
    case isTrue hc =>
      intro i h1 h2
      by_cases e : i = k
      · subst e; exact hc
      · exact ih h i (by omega) (by omega)
    case isFalse hc => exact absurd h hc
theorem vols_ok {f : Fo} {vs : List Vo} (h : volsFault f vs = 0) : ∀ i, i < vs.length → volOne f (idAhead vs i) (vs.getD i vo0) = 0 := fun i hi => volsFrom_ok h i (Nat.zero_le _) (by omega)
theorem volsFrom_step {f : Fo} {vs : List Vo} {k : Nat} (h : k < vs.length) : volsFrom f vs (vs.length - k) k = if volOne f (idAhead vs k) (vs.getD k vo0) = 0 then volsFrom f vs (vs.length - (k + 1)) (k + 1) else volOne f (idAhead vs k) (vs.getD k vo0) := by
  rw [show vs.length - k = vs.length - (k + 1) + 1 by omega]; rfl
theorem volsFrom_end {f : Fo} {vs : List Vo} {k : Nat} (h : vs.length ≤ k) : volsFrom f vs (vs.length - k) k = 0 := by
  rw [show vs.length - k = 0 by omega]; rfl
theorem rootsIn_take {vs : List Vo} {k : Nat} (h : k < vs.length) (i : Int) : rootsIn (vs.take (k + 1)) i = rootsIn (vs.take k) i + (if (vs.getD k vo0).2.2 = i then 1 else 0) := by
  unfold rootsIn
  rw [List.take_succ_eq_append_getElem h, List.countP_append, List.countP_cons, List.countP_nil, List.getD_eq_getElem?_getD, List.getElem?_eq_getElem h, Option.getD_some]
  simp
theorem rootsIn_le (vs : List Vo) (i : Int) : rootsIn vs i ≤ vs.length := List.countP_le_length
theorem used_le (f : Fo) (root : Int) : usedN f root ≤ 16 := usedTo_le f root 16
theorem walk_used (f : Fo) (root : Int) : (walkTo f root 16).length = 2 * usedN f root := walkTo_used f root 16
theorem usedTo_next (f : Fo) (root : Int) (k : Nat) : usedTo f root (k + 1) = usedTo f root k + (if blockAt f root k < 0 then 0 else 1) := rfl
theorem exactNd_of {f : Fo} {vs : List Vo} {i : Nat} (h : (nodeOf f i).1 ≠ 0) {m : Int} (hm : (if (nodeOf f i).2.1 then (named f false i : Int) else (rootsIn vs i : Int)) = m) : exactNd f vs i = decide ((nodeOf f i).1 = m) := by
  unfold exactNd
  rw [hm, beq_eq_false_iff_ne.2 h, Bool.false_or]; rfl
theorem exact_not {f : Fo} {vs : List Vo} {i : Nat} (hi : i < f.1.length) (h : exactNd f vs i = false) : exactB f vs = false := by
  cases e : exactB f vs with
  | false => rfl
  | true => rw [(exact_iff f vs).1 e i hi] at h; cases h

end Go.Proofs.Ytedgppggaceopaa

/- Chapter 5: the fault of an operation, plain, and the ids of volumes. -/
namespace Go.Proofs.Ytedgppggaceopaa
open Go.RowKit

theorem l5Id_is (x : Int) (w : World) (d : Bool) (h : volIdB x = d) : Calls Try.prog 74 #[.int .i64 x] w fun e w' => e = .returned (.bool d) ∧ w' = w := by
  go_enter Try.func74, Try.ntmps74
  go_wp2_with fail
  refine (l1In_any x 1 99 _).mono ?_
  rintro e w1 ⟨rfl, rfl⟩
  go_wp2
  go_ret
  exact ⟨by rw [← h, volIdB, Bool.decide_and]; rfl, rfl⟩
theorem isVolId_is (x : Int) (w : World) (d : Bool) (h : volIdB x = d) : Calls Try.prog 84 #[.int .i64 x] w fun e w' => e = .returned (.bool d) ∧ w' = w := by
  unfold volIdB at h
  by_cases h1 : 1 ≤ x
  · by_cases h2 : x ≤ 99
    · have e : d = true := by rw [← h]; exact decide_eq_true ⟨h1, h2⟩
      subst e
      clear h
      go_enter Try.func84, Try.ntmps84
      go_wp2
      go_ret
      exact ⟨rfl, rfl⟩
    · have e : d = false := by rw [← h]; exact decide_eq_false (by omega)
      subst e
      clear h
      go_enter Try.func84, Try.ntmps84
      go_wp2
      go_ret
      exact ⟨rfl, rfl⟩
  · have e : d = false := by rw [← h]; exact decide_eq_false (by omega)
    subst e
    clear h
    go_enter Try.func84, Try.ntmps84
    go_wp2
    go_ret
    exact ⟨rfl, rfl⟩

end Go.Proofs.Ytedgppggaceopaa

/- Chapter 5: the model's fault of a pool. -/
namespace Go.Proofs.Ytedgppggaceopaa
open Go.RowKit

section
variable {o : Bool} {l u : Nat} (p : Nat) (an : Option Addr) (nn cn : Nat) (ab : Option Addr) (nb cb : Nat) (K : Nat → KS) (f : Fo) (w : World) (h : FoAt w o l u an nn cn ab nb cb K f) (hp0 : w.cell? ⟨p, 0, none⟩ = some (.slice an nn cn)) (hp1 : w.cell? ⟨p, 1, none⟩ = some (.slice ab nb cb)) (hn : nn ≤ 2097152)
include h hp0 hp1 hn
theorem l5Used_is (root : Int) (hI : Inv f) (hro : RootIs f root) (d : Int) (hd : (usedN f root : Int) = d) : Calls Try.prog 76 #[.pointer (some ⟨p, 0, none⟩), .int .i64 root] w fun e w' => e = .returned (.int .i64 d) ∧ Below w.heap.size w w' := by
  have h16 := used_le f root
  go_enter Try.func76, Try.ntmps76
  go_wp2_with fail
  refine (l4Walk_any p an nn cn ab nb cb K f w h hp0 hp1 hn root hI hro).mono ?_
  rintro e w1 ⟨ao, n, cap, rfl, R, B⟩
  have hl := R.nInts
  rw [walk_used] at hl
  obtain ⟨m, hm⟩ : ∃ m, usedN f root = m := ⟨_, rfl⟩
  rw [hm] at hl hd h16
  subst hl
  have hq : (((2 * m : Nat) : Int)).tdiv 2 = (m : Int) := by rw [show (((2 * m : Nat) : Int)) = (m : Int) * 2 by omega]; exact Int.mul_tdiv_cancel _ (by decide)
  have hw : IntKind.i64.wrap (m : Int) = (m : Int) := wrapI_same _ (by omega)
  go_wp2
  go_ret
  exact ⟨ret_int (by rw [← hd]), B⟩
end

section
variable {o o2 : Bool} {l u l2 u2 : Nat} (p : Nat) (an : Option Addr) (nn cn : Nat) (ab : Option Addr) (nb cb : Nat) (av : Option Addr) (nv cv : Nat) (K : Nat → KS) (f : Fo) (vs : List Vo) (w : World) (h : FoAt w o l u an nn cn ab nb cb K f) (hv : RowAt w o2 l2 u2 3 av nv cv (trips vs)) (hp0 : w.cell? ⟨p, 0, none⟩ = some (.slice an nn cn)) (hp1 : w.cell? ⟨p, 1, none⟩ = some (.slice ab nb cb)) (hp2 : w.cell? ⟨p, 2, none⟩ = some (.slice av nv cv)) (hn : nn ≤ 2097152) (hb : nb ≤ 2097152) (hK : ∀ i, i < nn → (K i).2.1 ≤ 2097152)
include h hv hp0 hp1 hp2 hn hb hK

set_option maxRecDepth 20000 in
set_option maxHeartbeats 4000000 in
theorem l5Exact_is (hI : Inv f) (hn6 : nv ≤ 6) (d : Bool) (hd : exactB f vs = d) : Calls Try.prog 77 #[.pointer (some ⟨p, 0, none⟩)] w fun e w' => e = .returned (.bool d) ∧ Below w.heap.size w w' := by
  have hl := h.nodes.len
  have hvl := hv.nTrips
  have h60 : nn ≤ 60 := by have := hI.nn; omega
  have HD : Hid _ := hd
  have HI : Hid _ := hI
  have H4 : Hid (∀ i, i < f.1.length → (f.1.getD i nd0).1 ≠ 0 → (f.1.getD i nd0).2.2.length = 4) := fun i _ h0 => (hI.nd i).kl h0
  have HK : Hid _ := hK
  clear hd hI hK
  go_enter Try.func77, Try.ntmps77
  go_wp2
  go_loopw [3] (fun i wr => ∃ k : Nat, k ≤ nn ∧ i = .int .i64 k ∧ (∀ m, m < k → exactNd f vs m = true) ∧ Below w.heap.size w wr) (fun i _ => nn - (intOf i).toNat)
  case atStart => exact ⟨0, Nat.zero_le _, rfl, fun m hm => absurd hm (by omega), Below.refl _ _⟩
  case round =>
    obtain ⟨k, hk, rfl, ha, B⟩ := hrel
    have HA : Hid _ := ha
    clear ha
    have g0 := (B.cell (p := ⟨p, 0, none⟩) (cell_lt hp0)).trans hp0
    have g1 := (B.cell (p := ⟨p, 1, none⟩) (cell_lt hp1)).trans hp1
    have g2 := (B.cell (p := ⟨p, 2, none⟩) (cell_lt hp2)).trans hp2
    by_cases hlt : k < nn
    · obtain ⟨b, off, rfl, _, _, hbs, e1, e2, _⟩ := h.nodes.node hlt
      replace e1 := (B.cell (p := ⟨b, off + k * 3, none⟩) hbs).trans e1
      replace e2 := (B.cell (p := ⟨b, off + k * 3 + 1, none⟩) hbs).trans e2
      have hlk : (k : Int) < (nn : Int) := by omega
      have HN : Hid (exactNd f vs k = true → ∀ m, m < k + 1 → exactNd f vs m = true) := fun h0 m hm => by
        by_cases e : m = k
        · subst e; exact h0
        · exact HA.out m (by omega)
      have HB : Hid (exactNd f vs k = false → exactB f vs = false) := fun hx => exact_not (by omega) hx
      have HE : Hid (∀ m : Int, (nodeOf f k).1 ≠ 0 → (if (nodeOf f k).2.1 then (named f false k : Int) else (rootsIn vs k : Int)) = m → exactNd f vs k = decide ((nodeOf f k).1 = m)) := fun m h0 hm => exactNd_of h0 hm
      have HZ : Hid ((nodeOf f k).1 = 0 → exactNd f vs k = true) := fun h0 => by unfold exactNd; rw [h0]; rfl
      unfold nodeOf at HE HZ
      obtain ⟨⟨r, lf, ks⟩, hnd⟩ : ∃ nd, f.1.getD k nd0 = nd := ⟨_, rfl⟩
      rw [hnd] at e1 e2 HE HZ
      simp only at e1 e2 HE HZ
      clear hnd
      by_cases hr0 : r = 0
      · subst hr0
        have HN2 : Hid _ := HN.out (HZ.out rfl)
        clear HN HB HE HZ
        go_wp2
        go_roundw
        case rel => exact ⟨k + 1, by omega, by go_num, HN2.out, B⟩
        case measure => simp [intOf]; omega
      · have hr1 : (r == 0) = false := by simp [hr0]
        have hr2 : decide (r = 0) = false := decide_eq_false hr0
        go_wp2_with fail
        refine (l4Named_b p _ nn cn ab nb cb K f _ (h.kept2 B) g0 g1 hn hb HK.out false (k : Int) h60 H4.out _ rfl).mono ?_
        rintro e w1 ⟨rfl, B1⟩
        replace e1 := cell_later B1 e1
        replace e2 := cell_later B1 e2
        replace g0 := cell_later B1 g0
        replace g2 := cell_later B1 g2
        replace B := below_step B B.size B1
        clear B1 g1 HZ
        obtain ⟨q, hq⟩ : ∃ q, (named f false (k : Int) : Int) = q := ⟨_, rfl⟩
        rw [hq] at HE ⊢
        clear hq
        cases lf with
        | true =>
          have HE2 : Hid _ := HE.out q hr0 rfl
          clear HE
          by_cases hrq : r = q
          · have hd0 : (r != q) = false := by simp [hrq]
            have HN2 : Hid _ := HN.out (HE2.out.trans (decide_eq_true hrq))
            clear HN HB HE2
            go_wp2
            go_roundw
            case rel => exact ⟨k + 1, by omega, by go_num, HN2.out, B⟩
            case measure => simp [intOf]; omega
          · have hd0 : (r != q) = true := by simp [hrq]
            have HF : Hid _ := HB.out (HE2.out.trans (decide_eq_false hrq))
            clear HN HB HE2
            go_wp2
            go_ret
            exact ⟨by rw [← HD.out, HF.out]; rfl, B⟩
        | false =>
          have HE2 : Hid _ := HE.out _ hr0 rfl
          clear HE
          obtain ⟨W0, hW0⟩ : ∃ W0, w1 = W0 := ⟨_, rfl⟩
          subst hW0
          rename World => W0
          go_wp2
          go_loopw [5, 6] (fun c i wr => ∃ j : Nat, j ≤ nv ∧ i = .int .i64 j ∧ c = .int .i64 (rootsIn (vs.take j) (k : Int) : Nat) ∧ wr = W0) (fun _ i _ => nv - (intOf i).toNat)
          case atStart => exact ⟨0, Nat.zero_le _, rfl, rfl, rfl⟩
          case round =>
            obtain ⟨j, hj, rfl, rfl, rfl⟩ := hrel
            by_cases hjl : j < nv
            · obtain ⟨b2, f2, rfl, _, _, hs2, _, _, v2, _⟩ := hv.trip hjl
              replace v2 := (B.cell (p := ⟨b2, f2 + j * 3 + 2, none⟩) hs2).trans v2
              have hlj : (j : Int) < (nv : Int) := by omega
              have HS : Hid _ := rootsIn_take (vs := vs) (k := j) (by omega) (k : Int)
              have hle := rootsIn_le (vs.take j) (k : Int)
              have hle2 : (vs.take j).length ≤ 6 := by rw [List.length_take]; omega
              obtain ⟨t, ht⟩ : ∃ t, (vs.getD j vo0).2.2 = t := ⟨_, rfl⟩
              rw [ht] at v2 HS
              clear ht
              obtain ⟨c, hc⟩ : ∃ c, rootsIn (vs.take j) (k : Int) = c := ⟨_, rfl⟩
              rw [hc] at HS hle ⊢
              clear hc
              have hw : IntKind.i64.wrap ((c : Int) + 1) = (c : Int) + 1 := wrapI_same _ (by omega)
              by_cases htk : t = (k : Int)
              · have hd0 : (t == (k : Int)) = true := by simp [htk]
                have HS2 : Hid (rootsIn (vs.take (j + 1)) (k : Int) = c + 1) := by show _ = _; rw [HS.out, if_pos htk]
                clear HS
                go_wp2
                go_roundw
                case rel => exact ⟨j + 1, by omega, by go_num, by rw [HS2.out]; rfl, trivial⟩
                case measure => simp [intOf]; omega
              · have hd0 : (t == (k : Int)) = false := by simp [htk]
                have hd1 : decide (t = (k : Int)) = false := decide_eq_false htk
                have HS2 : Hid (rootsIn (vs.take (j + 1)) (k : Int) = c) := by show _ = _; rw [HS.out, if_neg htk]; rfl
                clear HS
                go_wp2
                go_roundw
                case rel => exact ⟨j + 1, by omega, by go_num, by rw [HS2.out], trivial⟩
                case measure => simp [intOf]; omega
            · obtain rfl : j = nv := by omega
              rw [show vs.take j = vs from List.take_of_length_le (by omega)]
              obtain ⟨q, hq⟩ : ∃ q, (rootsIn vs (k : Int) : Int) = q := ⟨_, rfl⟩
              have HE3 : Hid (exactNd f vs k = decide (r = q)) := by show _ = _; rw [HE2.out]; simp [hq]
              rw [show ((rootsIn vs (k : Int) : Nat) : Int) = q from hq]
              clear hq HE2
              by_cases hrq : r = q
              · have hd0 : (r != q) = false := by simp [hrq]
                have HN2 : Hid _ := HN.out (HE3.out.trans (decide_eq_true hrq))
                clear HN HB HE3
                go_wp2
                go_roundw
                case rel => exact ⟨k + 1, by omega, by go_num, HN2.out, B⟩
                case measure => simp [intOf]; omega
              · have hd0 : (r != q) = true := by simp [hrq]
                have HF : Hid _ := HB.out (HE3.out.trans (decide_eq_false hrq))
                clear HN HB HE3
                go_wp2
                go_ret
                exact ⟨by rw [← HD.out, HF.out]; rfl, B⟩
    · obtain rfl : k = nn := by omega
      have HF : Hid (exactB f vs = true) := (exact_iff f vs).2 fun i hi => HA.out i (by omega)
      go_wp2
      go_ret
      exact ⟨by rw [← HD.out, HF.out]; rfl, B⟩
end

end Go.Proofs.Ytedgppggaceopaa

/- Chapter 5: the model's fault of a pool, whole. -/
namespace Go.Proofs.Ytedgppggaceopaa
open Go.RowKit

theorem cell_later2 {w w' : World} {b i : Nat} {v : Value} (B : Below w.heap.size w w') (h : w.cell? ⟨b, i, none⟩ = some v) : w'.cell? ⟨b, i, none⟩ = some v := cell_later B h
theorem RowAt.keptB {w w' : World} {own : Bool} {lo hi size : Nat} {ao : Option Addr} {n cap : Nat} {cs : List Value} (h : RowAt w own lo hi size ao n cap cs) (B : Below w.heap.size w w') : RowAt w' own lo hi size ao n cap cs := h.below B
theorem below_drew1 (w : World) (n : Nat) : Below w.heap.size w (w.drewN n).drew := (below_drewN (Below.refl _ _) n).drew
theorem below_drew2 (w : World) (n m : Nat) : Below w.heap.size w ((w.drewN n).drewN m).drew := (below_drewN (below_drewN (Below.refl _ _) n) m).drew

section
variable {o o2 : Bool} {l u l2 u2 : Nat} (p : Nat) (an : Option Addr) (nn cn : Nat) (ab : Option Addr) (nb cb : Nat) (av : Option Addr) (nv cv : Nat) (K : Nat → KS) (f : Fo) (vs : List Vo) (w : World) (h : FoAt w o l u an nn cn ab nb cb K f) (hv : RowAt w o2 l2 u2 3 av nv cv (trips vs)) (hp0 : w.cell? ⟨p, 0, none⟩ = some (.slice an nn cn)) (hp1 : w.cell? ⟨p, 1, none⟩ = some (.slice ab nb cb)) (hp2 : w.cell? ⟨p, 2, none⟩ = some (.slice av nv cv)) (hn : nn ≤ 2097152) (hb : nb ≤ 2097152) (hK : ∀ i, i < nn → (K i).2.1 ≤ 2097152)
include h hv hp0 hp1 hp2 hn hb hK

set_option maxRecDepth 20000 in
set_option maxHeartbeats 8000000 in
theorem l5Fault_is (hvn : nv ≤ 2097152) (c : Int) (hc : poFault f vs = c) : Calls Try.prog 44 #[.pointer (some ⟨p, 0, none⟩)] w fun e w' => e = .returned (.int .i64 c) ∧ Below w.heap.size w w' := by
  have hl := h.nodes.len
  have hvl := hv.nTrips
  have HC : Hid _ := hc
  clear hc
  have HK : Hid _ := hK
  clear hK
  go_enter Try.func44, Try.ntmps44
  go_wp2_with fail
  refine (l4Fault_is p an nn cn ab nb cb K f w h hp0 hp1 hn hb HK.out _ rfl).mono ?_
  rintro e w1 ⟨rfl, B⟩
  obtain ⟨q, hq⟩ : ∃ q, foFault f = q := ⟨_, rfl⟩
  have HQ : Hid _ := hq
  rw [hq]
  clear hq
  by_cases hq0 : q = 0
  rotate_left 1
  · have hne : (q != 0) = true := by simp [hq0]
    have HE : Hid (poFault f vs = q) := by show _ = _; unfold poFault; rw [HQ.out, if_neg hq0]
    clear hq0 HQ
    go_wp2
    go_ret
    exact ⟨ret_int (by rw [← HC.out, HE.out]), B⟩
  subst hq0
  have hI : Inv f := (right_of HQ.out).inv
  have g0 := cell_later B hp0
  have g1 := cell_later B hp1
  have g2 := cell_later B hp2
  have HP : Hid (poFault f vs = if 6 < vs.length then 2 else if volsFault f vs = 0 then (if exactB f vs then 0 else 1) else volsFault f vs) := if_pos HQ.out
  by_cases h6 : 6 < nv
  · have h6' : (6 : Int) < (nv : Int) := by omega
    have HE : Hid (poFault f vs = 2) := HP.out.trans (if_pos (by omega))
    go_wp2
    go_ret
    exact ⟨ret_int (by rw [← HC.out, HE.out]), B⟩
  have h6' : ¬ (6 : Int) < (nv : Int) := by omega
  replace HP : Hid (poFault f vs = if volsFault f vs = 0 then (if exactB f vs then 0 else 1) else volsFault f vs) := HP.out.trans (if_neg (by omega))
  have HI : Hid _ := hI
  clear hI
  go_wp2
  go_loopw [4] (fun i wr => ∃ k : Nat, k ≤ nv ∧ i = .int .i64 k ∧ volsFault f vs = volsFrom f vs (nv - k) k ∧ Below w.heap.size w wr) (fun i _ => nv - (intOf i).toNat)
  case atStart => exact ⟨0, Nat.zero_le _, rfl, by rw [Nat.sub_zero, ← hvl]; rfl, B⟩
  case round =>
    clear B g0 g1 g2
    obtain ⟨k, hk, rfl, ha, B⟩ := hrel
    have HA : Hid _ := ha
    clear ha
    have g0 := cell_later2 B hp0
    have g1 := cell_later2 B hp1
    have g2 := cell_later2 B hp2
    by_cases hlt : k < nv
    rotate_left 1
    · obtain rfl : k = nv := by omega
      have HV : Hid (volsFault f vs = 0) := by show _ = _; rw [HA.out, ← hvl]; exact volsFrom_end (Nat.le_refl _)
      clear HA
      go_wp2_with fail
      refine (l5Exact_is p an nn cn ab nb cb av k cv K f vs wr (h.kept2 B) (hv.keptB B) g0 g1 g2 hn hb HK.out HI.out (by omega) _ rfl).mono ?_
      rintro e w2 ⟨rfl, B2⟩
      replace B := below_step B B.size B2
      clear B2
      cases hx : exactB f vs with
      | false =>
        have HE : Hid (poFault f vs = 1) := by show _ = _; rw [HP.out, if_pos HV.out, hx]; rfl
        clear hx
        go_wp2
        go_ret
        exact ⟨ret_int (by rw [← HC.out, HE.out]), B⟩
      | true =>
        have HE : Hid (poFault f vs = 0) := by show _ = _; rw [HP.out, if_pos HV.out, hx]; rfl
        clear hx
        go_wp2
        go_ret
        exact ⟨ret_int (by rw [← HC.out, HE.out]), B⟩
    have HS : Hid _ := volsFrom_step (f := f) (vs := vs) (k := k) (by omega)
    rw [hvl] at HS
    have hpre : ∀ j, k = j + 1 → ∃ b off, av = some ⟨b, off, none⟩ ∧ wr.cell? ⟨b, off + j * 3, none⟩ = some (.int .i64 (idAhead vs k)) := fun j e => by
      obtain ⟨b, off, e1, _, _, hbs, c, _⟩ := hv.trip (i := j) (by omega)
      exact ⟨b, off, e1, by rw [e]; exact (B.cell (p := ⟨b, off + j * 3, none⟩) hbs).trans c⟩
    have hpz : k = 0 → idAhead vs k = 0 := fun e => by rw [e]; rfl
    obtain ⟨b, off, rfl, _, _, hbs, v0, v1, v2, _⟩ := hv.trip hlt
    replace v0 := (B.cell (p := ⟨b, off + k * 3, none⟩) hbs).trans v0
    replace v1 := (B.cell (p := ⟨b, off + k * 3 + 1, none⟩) hbs).trans v1
    replace v2 := (B.cell (p := ⟨b, off + k * 3 + 2, none⟩) hbs).trans v2
    have hlk : (k : Int) < (nv : Int) := by omega
    obtain ⟨⟨id, qu, rt⟩, hvo⟩ : ∃ v, vs.getD k vo0 = v := ⟨_, rfl⟩
    rw [hvo] at v0 v1 v2 HS
    simp only at v0 v1 v2
    clear hvo
    obtain ⟨ah, hah⟩ : ∃ a, idAhead vs k = a := ⟨_, rfl⟩
    rw [hah] at hpre hpz HS
    clear hah
    have A : Below wr.heap.size wr (wr.alloc (.cells #[.int .i64 id, .int .i64 qu, .int .i64 rt] 90)) := (Below.refl _ _).alloc (Nat.le_refl _) _
    have x0 : (wr.alloc (.cells #[.int .i64 id, .int .i64 qu, .int .i64 rt] 90)).cell? ⟨wr.heap.size, 0, none⟩ = some (.int .i64 id) := by simp
    have x1 : (wr.alloc (.cells #[.int .i64 id, .int .i64 qu, .int .i64 rt] 90)).cell? ⟨wr.heap.size, 1, none⟩ = some (.int .i64 qu) := by simp
    have x2 : (wr.alloc (.cells #[.int .i64 id, .int .i64 qu, .int .i64 rt] 90)).cell? ⟨wr.heap.size, 2, none⟩ = some (.int .i64 rt) := by simp
    have g0' := cell_later A g0
    have g1' := cell_later A g1
    have g2' := cell_later A g2
    have BX := below_step B B.size A
    have HF : Hid _ := (h.kept2 BX)
    have HBAD : Hid (volOne f ah (id, qu, rt) ≠ 0 → poFault f vs = volOne f ah (id, qu, rt)) := fun hx => by rw [HP.out, HA.out, HS.out, if_neg hx, if_neg hx]
    obtain ⟨b1, h1⟩ : ∃ b, volIdB id = b := ⟨_, rfl⟩
    obtain ⟨b2, h2⟩ : ∃ b, quotaB qu = b := ⟨_, rfl⟩
    obtain ⟨b3, h3⟩ : ∃ b, rootOk f rt = b := ⟨_, rfl⟩
    have H1 : Hid _ := h1
    have H2 : Hid _ := h2
    have H3 : Hid _ := h3
    clear h1 h2 h3
    cases b1 with
    | false =>
      have HE : Hid (poFault f vs = 3) := by
        have hx : volOne f ah (id, qu, rt) = 3 := by unfold volOne; simp [H1.out]
        show _ = _
        rw [HBAD.out (by rw [hx]; decide), hx]
      clear HBAD HS HA
      go_wp2_with fail
      go_quiet (first | (go_at_call 74; refine Calls.quiet_of_same (l5Id_is id _ false H1.out)))
      go_wp2
      go_ret
      exact ⟨ret_int (by rw [← HC.out, HE.out]), below_drewN BX _⟩
    | true =>
      cases b2 with
      | false =>
        have HE : Hid (poFault f vs = 3) := by
          have hx : volOne f ah (id, qu, rt) = 3 := by unfold volOne; simp [H2.out]
          show _ = _
          rw [HBAD.out (by rw [hx]; decide), hx]
        clear HBAD HS HA
        go_wp2_with fail
        go_quiet (first | (go_at_call 74; refine Calls.quiet_of_same (l5Id_is id _ true H1.out)) | (go_at_call 45; refine Calls.quiet_of_same (l1In_bool qu 1 16 _ false H2.out)))
        go_wp2
        go_ret
        exact ⟨ret_int (by rw [← HC.out, HE.out]), below_drewN BX _⟩
      | true =>
        cases b3 with
        | false =>
          have HE : Hid (poFault f vs = 3) := by
            have hx : volOne f ah (id, qu, rt) = 3 := by unfold volOne; simp [H3.out]
            show _ = _
            rw [HBAD.out (by rw [hx]; decide), hx]
          clear HBAD HS HA
          go_wp2_with fail
          go_quiet (first | (go_at_call 74; refine Calls.quiet_of_same (l5Id_is id _ true H1.out)) | (go_at_call 45; refine Calls.quiet_of_same (l1In_bool qu 1 16 _ true H2.out)) | (go_at_call 75; refine Calls.quiet_of_same (l4Root_is p an nn cn ab nb cb K f _ (HF.out.below (below_drewN (Below.refl _ _) _)) g0' g1' hn hb rt false H3.out)))
          go_wp2
          go_ret
          exact ⟨ret_int (by rw [← HC.out, HE.out]), below_drewN BX _⟩
        | true =>
          have HV : Hid (volOne f ah (id, qu, rt) = if id ≤ ah then 1 else if qu < (usedN f rt : Int) then 9 else 0) := by show _ = _; unfold volOne; rw [if_pos (by simp [H1.out, H2.out, H3.out])]
          have hid : 1 ≤ id := by have := of_decide_eq_true H1.out; omega
          go_wp2_with fail
          go_quiet (first | (go_at_call 74; refine Calls.quiet_of_same (l5Id_is id _ true H1.out)) | (go_at_call 45; refine Calls.quiet_of_same (l1In_bool qu 1 16 _ true H2.out)) | (go_at_call 75; refine Calls.quiet_of_same (l4Root_is p an nn cn ab nb cb K f _ (HF.out.below (below_drewN (Below.refl _ _) _)) g0' g1' hn hb rt true H3.out)))
          cases k with
          | zero =>
            have hle : ¬ id ≤ ah := by have := hpz rfl; omega
            have hz0 : decide ((0 : Int) < ((0 : Nat) : Int)) = false := rfl
            go_wp2_with fail
            go_quiet (fail)
            skip
            have HV2 : Hid (volOne f ah (id, qu, rt) = if qu < (usedN f rt : Int) then 9 else 0) := HV.out.trans (if_neg (by omega))
            clear HV hpre hpz v0 v1 v2
            obtain ⟨us, hus⟩ : ∃ us, (usedN f rt : Int) = us := ⟨_, rfl⟩
            rw [hus] at HV2
            have HU : Hid _ := hus
            clear hus
            by_cases hqu : qu < us
            · have hqd : decide (qu < us) = true := decide_eq_true hqu
              go_wp2_with fail
              skip
              go_region_held3 (fun w' => w'.cell? ⟨wr.heap.size, 1, none⟩ = some (.int .i64 qu) ∧ w'.cell? ⟨wr.heap.size, 2, none⟩ = some (.int .i64 rt)) (go_keep) (first | (go_at_call 76; refine (l5Used_is p an nn cn ab nb cb K f _ (HF.out.below (by first | exact below_drew2 _ _ | exact below_drew1 _ _)) (by exact g0') (by exact g1') hn rt HI.out (root_of H3.out) us HU.out).mono ?_; rintro e w5 ⟨rfl, B5⟩; replace x1 := cell_later B5 x1; replace x2 := cell_later B5 x2; replace BX := below_step (below_drewN BX _) (below_drewN BX _).size B5; clear B5 g0' g1' g2'))
              have HE : Hid (poFault f vs = 9) := by show _ = _; rw [HBAD.out (by rw [HV2.out, if_pos hqu]; decide), HV2.out, if_pos hqu]
              clear HBAD HS HA HV2 HF
              go_wp2
              go_ret
              exact ⟨ret_int (by rw [← HC.out, HE.out]), BX⟩
            · have hqd : decide (qu < us) = false := decide_eq_false hqu
              go_wp2_with fail
              skip
              go_region_held3 (fun w' => w'.cell? ⟨wr.heap.size, 1, none⟩ = some (.int .i64 qu) ∧ w'.cell? ⟨wr.heap.size, 2, none⟩ = some (.int .i64 rt)) (go_keep) (first | (go_at_call 76; refine (l5Used_is p an nn cn ab nb cb K f _ (HF.out.below (by first | exact below_drew2 _ _ | exact below_drew1 _ _)) (by exact g0') (by exact g1') hn rt HI.out (root_of H3.out) us HU.out).mono ?_; rintro e w5 ⟨rfl, B5⟩; replace x1 := cell_later B5 x1; replace x2 := cell_later B5 x2; replace BX := below_step (below_drewN BX _) (below_drewN BX _).size B5; clear B5 g0' g1' g2'))
              have HN : Hid _ := HA.out.trans (HS.out.trans (if_pos (HV2.out.trans (if_neg (by omega)))))
              clear HBAD HS HA HV2 HF
              go_wp2
              go_roundw
              case rel => exact ⟨0 + 1, by omega, by go_num, HN.out, BX⟩
              case measure => simp [intOf]; omega
          | succ j =>
            obtain ⟨bb, oo, e', hpc⟩ := hpre j rfl
            cases e'
            have hz0 : decide ((0 : Int) < ((j + 1 : Nat) : Int)) = true := decide_eq_true (by omega)
            have hz1 : (0 : Int) < ((j + 1 : Nat) : Int) := by omega
            have hw : IntKind.i64.wrap (((j + 1 : Nat) : Int) - 1) = (j : Int) := by rw [show ((j + 1 : Nat) : Int) - 1 = (j : Int) by omega]; exact wrapI_same _ (by omega)
            have hlj : (j : Int) < (nv : Int) := by omega
            have hpc' := cell_later A hpc
            by_cases hle : id ≤ ah
            · have hd : decide (id ≤ ah) = true := decide_eq_true hle
              have HE : Hid (poFault f vs = 1) := by show _ = _; rw [HBAD.out (by rw [HV.out, if_pos hle]; decide), HV.out, if_pos hle]
              clear HBAD HS HA HV
              go_wp2_with fail
              go_quiet (fail)
              go_wp2
              go_ret
              exact ⟨ret_int (by rw [← HC.out, HE.out]), below_drewN (below_drewN BX _) _⟩
            have hd : decide (id ≤ ah) = false := decide_eq_false hle
            go_wp2_with fail
            go_quiet (fail)
            have HV2 : Hid (volOne f ah (id, qu, rt) = if qu < (usedN f rt : Int) then 9 else 0) := HV.out.trans (if_neg (by omega))
            clear HV hpre hpz v0 v1 v2
            obtain ⟨us, hus⟩ : ∃ us, (usedN f rt : Int) = us := ⟨_, rfl⟩
            rw [hus] at HV2
            have HU : Hid _ := hus
            clear hus
            by_cases hqu : qu < us
            · have hqd : decide (qu < us) = true := decide_eq_true hqu
              go_wp2_with fail
              skip
              go_region_held3 (fun w' => w'.cell? ⟨wr.heap.size, 1, none⟩ = some (.int .i64 qu) ∧ w'.cell? ⟨wr.heap.size, 2, none⟩ = some (.int .i64 rt)) (go_keep) (first | (go_at_call 76; refine (l5Used_is p an nn cn ab nb cb K f _ (HF.out.below (by first | exact below_drew2 _ _ | exact below_drew1 _ _)) (by exact g0') (by exact g1') hn rt HI.out (root_of H3.out) us HU.out).mono ?_; rintro e w5 ⟨rfl, B5⟩; replace x1 := cell_later B5 x1; replace x2 := cell_later B5 x2; replace BX := below_step (below_drewN BX _) (below_drewN BX _).size B5; clear B5 g0' g1' g2'))
              have HE : Hid (poFault f vs = 9) := by show _ = _; rw [HBAD.out (by rw [HV2.out, if_pos hqu]; decide), HV2.out, if_pos hqu]
              clear HBAD HS HA HV2 HF
              go_wp2
              go_ret
              exact ⟨ret_int (by rw [← HC.out, HE.out]), BX⟩
            · have hqd : decide (qu < us) = false := decide_eq_false hqu
              go_wp2_with fail
              skip
              go_region_held3 (fun w' => w'.cell? ⟨wr.heap.size, 1, none⟩ = some (.int .i64 qu) ∧ w'.cell? ⟨wr.heap.size, 2, none⟩ = some (.int .i64 rt)) (go_keep) (first | (go_at_call 76; refine (l5Used_is p an nn cn ab nb cb K f _ (HF.out.below (by first | exact below_drew2 _ _ | exact below_drew1 _ _)) (by exact g0') (by exact g1') hn rt HI.out (root_of H3.out) us HU.out).mono ?_; rintro e w5 ⟨rfl, B5⟩; replace x1 := cell_later B5 x1; replace x2 := cell_later B5 x2; replace BX := below_step (below_drewN BX _) (below_drewN BX _).size B5; clear B5 g0' g1' g2'))
              have HN : Hid _ := HA.out.trans (HS.out.trans (if_pos (HV2.out.trans (if_neg (by omega)))))
              clear HBAD HS HA HV2 HF
              go_wp2
              go_roundw
              case rel => exact ⟨(j + 1) + 1, by omega, by go_num, HN.out, BX⟩
              case measure => simp [intOf]; omega
end
section
variable {o o2 : Bool} {l u l2 u2 : Nat} (an : Option Addr) (nn cn : Nat) (ab : Option Addr) (nb cb : Nat) (av : Option Addr) (nv cv : Nat) (K : Nat → KS) (f : Fo) (vs : List Vo) (w : World) (h : FoAt w o l u an nn cn ab nb cb K f) (hv : RowAt w o2 l2 u2 3 av nv cv (trips vs)) (hn : nn ≤ 2097152) (hb : nb ≤ 2097152) (hK : ∀ i, i < nn → (K i).2.1 ≤ 2097152) (hvn : nv ≤ 2097152)
include h hv hn hb hK hvn
end

end Go.Proofs.Ytedgppggaceopaa

/- Chapter 5: the program's fault of a pool. -/
namespace Go.Proofs.Ytedgppggaceopaa
open Go.RowKit

theorem named_kid {f : Fo} (h : ∀ j, j < f.1.length → ndOne f (f.1.getD j nd0) = 0) {i : Nat} (hn : named f false i ≠ 0) : (nodeOf f i).1 ≠ 0 ∧ (nodeOf f i).2.1 = true := by
  obtain ⟨m, hm, h0, e, hk⟩ := named_pos hn
  have ok := (ndOne_iff _ _).1 (h m hm)
  have := ok.ks h0 _ hk
  rcases this with x | ⟨_, x⟩
  · omega
  · rw [show (f.1.getD m nd0).2.1 = false from e] at x
    simp at x
    exact ⟨by omega, x.2.2⟩
theorem rootsIn_zero {vs : List Vo} {i : Int} (h : ∀ k, k < vs.length → (vs.getD k vo0).2.2 ≠ i) : rootsIn vs i = 0 := by
  unfold rootsIn
  refine List.countP_eq_zero.2 fun v hv => ?_
  obtain ⟨k, hk, e⟩ := List.mem_iff_getElem.1 hv
  have := h k hk
  rw [List.getD_eq_getElem?_getD, List.getElem?_eq_getElem hk, Option.getD_some, e] at this
  simpa using this
theorem exact_sum {f : Fo} {vs : List Vo} (h : ∀ j, j < f.1.length → ndOne f (f.1.getD j nd0) = 0) (hr : ∀ k, k < vs.length → rootOk f (vs.getD k vo0).2.2 = true) (i : Nat) : exactNd f vs i = decide ((nodeOf f i).1 = (named f false i : Int) + (rootsIn vs i : Int)) := by
  have key : ∀ k, k < vs.length → (vs.getD k vo0).2.2 = (i : Int) → (nodeOf f i).1 ≠ 0 ∧ (nodeOf f i).2.1 = false := fun k hk e => by
    rcases root_of (hr k hk) with x | ⟨_, x1, x2⟩
    · omega
    · rw [e, Int.toNat_natCast] at x1 x2; exact ⟨x1, x2⟩
  by_cases h0 : (nodeOf f i).1 = 0
  · have e1 : named f false i = 0 := Decidable.byContradiction fun hn => (named_kid h hn).1 h0
    have e2 : rootsIn vs i = 0 := rootsIn_zero fun k hk e => (key k hk e).1 h0
    unfold exactNd
    rw [h0, e1, e2]
    rfl
  · cases hl : (nodeOf f i).2.1 with
    | true =>
      have e2 : rootsIn vs i = 0 := rootsIn_zero fun k hk e => by have := (key k hk e).2; rw [hl] at this; cases this
      rw [exactNd_of h0 (m := (named f false i : Int)) (by rw [hl]; rfl), e2]
      simp
    | false =>
      have e1 : named f false i = 0 := Decidable.byContradiction fun hn => by have := (named_kid h hn).2; rw [hl] at this; cases this
      rw [exactNd_of h0 (m := (rootsIn vs i : Int)) (by rw [hl]; rfl), e1]
      simp

section
variable {o : Bool} {l u : Nat} (an : Option Addr) (nn cn : Nat) (ab : Option Addr) (nb cb : Nat) (K : Nat → KS) (f : Fo) (w : World) (h : FoAt w o l u an nn cn ab nb cb K f)
include h
set_option maxRecDepth 20000 in
set_option maxHeartbeats 2000000 in
theorem usedBy_is (root : Int) (hI : Inv f) (hro : RootIs f root) (d : Int) (hd : (usedN f root : Int) = d) : Calls Try.prog 52 #[.agg #[.slice an nn cn, .slice ab nb cb], .int .i64 root] w fun e w' => e = .returned (.int .i64 d) ∧ Below w.heap.size w w' := by
  have A0 : Below w.heap.size w (w.alloc (.cells #[.slice an nn cn, .slice ab nb cb] 37)) := (Below.refl _ _).alloc (Nat.le_refl _) _
  have G0 : (w.alloc (.cells #[.slice an nn cn, .slice ab nb cb] 37)).cell? ⟨w.heap.size, 0, none⟩ = some (.slice an nn cn) := by simp
  have G1 : (w.alloc (.cells #[.slice an nn cn, .slice ab nb cb] 37)).cell? ⟨w.heap.size, 1, none⟩ = some (.slice ab nb cb) := by simp
  have HD : Hid _ := hd
  have HI : Hid _ := hI
  have HR : Hid _ := hro
  clear hd hI hro
  go_enter Try.func52, Try.ntmps52
  go_wp2
  generalize hW : w.alloc (.cells #[.slice an nn cn, .slice ab nb cb] 37) = W at *
  clear hW
  go_loopw [5, 7] (fun c i wr => ∃ k : Nat, k ≤ 16 ∧ i = .int .i64 k ∧ c = .int .i64 (usedTo f root k : Nat) ∧ Below W.heap.size W wr) (fun _ i _ => 16 - (intOf i).toNat)
  case atStart => exact ⟨0, Nat.zero_le _, rfl, rfl, Below.refl _ _⟩
  case round =>
    obtain ⟨k, hk, rfl, rfl, B⟩ := hrel
    have g0 := cell_later B G0
    have g1 := cell_later B G1
    have hu := usedTo_le f root k
    have HU : Hid _ := usedTo_next f root k
    by_cases hlt : k < 16
    · have hlk : (k : Int) < 16 := by omega
      have hw1 : IntKind.i64.wrap ((k : Int) + 1) = (k : Int) + 1 := wrapI_same _ (by omega)
      obtain ⟨c, hc⟩ : ∃ c, usedTo f root k = c := ⟨_, rfl⟩
      rw [hc] at hu HU ⊢
      clear hc
      have hw2 : IntKind.i64.wrap ((c : Int) + 1) = (c : Int) + 1 := wrapI_same _ (by omega)
      obtain ⟨b, hbk⟩ : ∃ b, blockAt f root k = b := ⟨_, rfl⟩
      have hbc : b = -1 ∨ 0 ≤ b := by
        have := block_cases HI.out HR.out (x := (k : Int)) (by omega) (by omega)
        rw [hbk] at this
        rcases this with e | e
        · exact Or.inl e
        · exact Or.inr e.1
      have HB : Hid _ := hbk
      rw [hbk] at HU
      clear hbk
      go_wp2_with fail
      refine (blockAt_is an nn cn ab nb cb K f _ ((h.below A0).below B) root k (by omega) HI.out HR.out b HB.out).mono ?_
      rintro e w1 ⟨rfl, B1⟩
      replace B := below_next B B1
      clear B1 g0 g1
      by_cases hb1 : b = -1
      · have hne : (b != -1) = false := by simp [hb1]
        have HU2 : Hid (usedTo f root (k + 1) = c) := by show _ = _; rw [HU.out, if_pos (by omega)]; rfl
        clear HU hb1 hbc
        go_wp2
        go_roundw
        case rel => exact ⟨k + 1, by omega, by go_num, by rw [HU2.out], B⟩
        case measure => simp [intOf]; omega
      · have hne : (b != -1) = true := by simp [hb1]
        have HU2 : Hid (usedTo f root (k + 1) = c + 1) := by show _ = _; rw [HU.out, if_neg (by omega)]
        clear HU hb1 hbc
        go_wp2
        go_roundw
        case rel => exact ⟨k + 1, by omega, by go_num, by rw [HU2.out]; go_num, B⟩
        case measure => simp [intOf]; omega
    · obtain rfl : k = 16 := by omega
      go_wp2
      go_ret
      exact ⟨ret_int (by rw [← HD.out]; rfl), below_next A0 B⟩

set_option maxRecDepth 20000 in
set_option maxHeartbeats 2000000 in
theorem isVol_is (hn : nn ≤ 2097152) (hb : nb ≤ 2097152) (id qu rt : Int) (d : Bool) (hd : (volIdB id && quotaB qu && rootOk f rt) = d) : Calls Try.prog 51 #[.agg #[.slice an nn cn, .slice ab nb cb], .agg #[.int .i64 id, .int .i64 qu, .int .i64 rt]] w fun e w' => e = .returned (.bool d) ∧ Below w.heap.size w w' := by
  have A : Below w.heap.size w ((w.alloc (.cells #[.slice an nn cn, .slice ab nb cb] 37)).alloc (.cells #[.int .i64 id, .int .i64 qu, .int .i64 rt] 90)) := ((Below.refl _ _).alloc (Nat.le_refl _) _).alloc (by simp) _
  have HD : Hid _ := hd
  clear hd
  obtain ⟨b1, h1⟩ : ∃ b, volIdB id = b := ⟨_, rfl⟩
  go_enter Try.func51, Try.ntmps51
  go_wp2_with fail
  refine (isVolId_is id _ b1 h1).mono ?_
  rintro e _ ⟨rfl, rfl⟩
  cases b1 with
  | false =>
    go_wp2
    go_ret
    exact ⟨by rw [← HD.out, h1]; rfl, A⟩
  | true =>
    by_cases q1 : 1 ≤ qu
    · by_cases q2 : qu ≤ 16
      · have hq : quotaB qu = true := decide_eq_true ⟨q1, q2⟩
        have d1 : decide (1 ≤ qu) = true := decide_eq_true q1
        have d2 : decide (qu ≤ 16) = true := decide_eq_true q2
        have HE : Hid (rootOk f rt = d) := by show _ = _; rw [← HD.out, h1, hq]; rfl
        go_wp2_with fail
        refine (isRoot_is an nn cn ab nb cb K f _ (h.below A) hn hb rt d HE.out).mono ?_
        rintro e w1 ⟨rfl, B1⟩
        replace B1 := below_next A B1
        go_wp2
        go_ret
        exact ⟨rfl, B1⟩
      · have hq : quotaB qu = false := decide_eq_false (by omega)
        have d1 : decide (1 ≤ qu) = true := decide_eq_true q1
        have d2 : decide (qu ≤ 16) = false := decide_eq_false q2
        go_wp2
        go_ret
        exact ⟨by rw [← HD.out, h1, hq]; rfl, A⟩
    · have hq : quotaB qu = false := decide_eq_false (by omega)
      have d1 : decide (1 ≤ qu) = false := decide_eq_false q1
      go_wp2
      go_ret
      exact ⟨by rw [← HD.out, h1, hq]; rfl, A⟩
end

section
variable {o o2 : Bool} {l u l2 u2 : Nat} (an : Option Addr) (nn cn : Nat) (ab : Option Addr) (nb cb : Nat) (av : Option Addr) (nv cv : Nat) (K : Nat → KS) (f : Fo) (vs : List Vo) (w : World) (h : FoAt w o l u an nn cn ab nb cb K f) (hv : RowAt w o2 l2 u2 3 av nv cv (trips vs))
include h hv
set_option maxRecDepth 20000 in
set_option maxHeartbeats 4000000 in
theorem refsFault_is (hn : nn ≤ 60) (hb : nb ≤ 24) (hn6 : nv ≤ 6) (hall : ∀ j, j < f.1.length → ndOne f (f.1.getD j nd0) = 0) (hr : ∀ k, k < vs.length → rootOk f (vs.getD k vo0).2.2 = true) (d : Int) (hd : (if exactB f vs then (0 : Int) else 1) = d) :
    Calls Try.prog 53 #[.agg #[.slice an nn cn, .slice ab nb cb, .slice av nv cv]] w fun e w' => e = .returned (.int .i64 d) ∧ Below w.heap.size w w' := by
  have hl := h.nodes.len
  have hvl := hv.nTrips
  have HD : Hid _ := hd
  have HR : Hid (∀ k, k < vs.length → (vs.getD k vo0).2.2 = -1 ∨ (0 ≤ (vs.getD k vo0).2.2 ∧ (vs.getD k vo0).2.2 < nn)) := fun k hk => by
    rcases root_of (hr k hk) with e | ⟨h0, h1, _⟩
    · exact Or.inl e
    · refine Or.inr ⟨h0, ?_⟩
      by_cases hlt : (vs.getD k vo0).2.2.toNat < f.1.length
      · omega
      · rw [nodeOf_out (by omega)] at h1; exact absurd rfl h1
  have HX : Hid _ := fun i => exact_sum hall hr i
  have HLE : Hid (∀ x : Int, namedIn f.1 false x ≤ 240) := fun x => by
    have := namedIn_le (ns := f.1) false x (kids_four hall) f.1.length (Nat.le_refl _)
    rw [List.take_length] at this
    omega
  have A0 : Below w.heap.size w (w.alloc (.cells #[.slice an nn cn, .slice ab nb cb, .slice av nv cv] 40)) := (Below.refl _ _).alloc (Nat.le_refl _) _
  have G0 : (w.alloc (.cells #[.slice an nn cn, .slice ab nb cb, .slice av nv cv] 40)).cell? ⟨w.heap.size, 0, none⟩ = some (.slice an nn cn) := by simp
  have G2 : (w.alloc (.cells #[.slice an nn cn, .slice ab nb cb, .slice av nv cv] 40)).cell? ⟨w.heap.size, 2, none⟩ = some (.slice av nv cv) := by simp
  have sW : (w.alloc (.cells #[.slice an nn cn, .slice ab nb cb, .slice av nv cv] 40)).heap.size = w.heap.size + 1 := by simp
  go_enter Try.func53, Try.ntmps53
  go_wp2_with fail
  refine (namesOf_is an nn cn ab nb cb K f _ (h.below A0) hn hb hall).mono ?_
  rintro e W0 ⟨gb, gl, rfl, RB, RL, q1, q2, hgs, B⟩
  rw [sW] at B q1
  clear hd hall hr RB
  generalize hW : (w.alloc (.cells #[.slice an nn cn, .slice ab nb cb, .slice av nv cv] 40)) = W at *
  clear hW
  have g2 := (B.cell (p := ⟨w.heap.size, 2, none⟩) (by simp)).trans G2
  go_wp2
  go_loopw [18] (fun i wr => ∃ k : Nat, k ≤ nv ∧ i = .int .i64 k ∧ RowAt wr true gl (gl + 1) 1 (some ⟨gl, 0, none⟩) nn nn (ints (fn nn fun x => (namedIn f.1 false (x : Int) : Int) + (rootsIn (vs.take k) (x : Int) : Int))) ∧ Below (w.heap.size + 1) W wr ∧ gl < wr.heap.size) (fun i _ => nv - (intOf i).toNat)
  case atStart => exact ⟨0, Nat.zero_le _, rfl, by simpa [rootsIn] using RL, B, hgs⟩
  case round =>
    clear RL B g2 hgs
    obtain ⟨k, hk, rfl, RL, B, hgs⟩ := hrel
    by_cases hlt : k < nv
    · obtain ⟨b, off, rfl, _, _, hbs, v0, v1, v2, _⟩ := hv.trip hlt
      replace v0 := (B.cell (p := ⟨b, off + k * 3, none⟩) (by simp; omega)).trans (cell_later A0 v0)
      replace v1 := (B.cell (p := ⟨b, off + k * 3 + 1, none⟩) (by simp; omega)).trans (cell_later A0 v1)
      replace v2 := (B.cell (p := ⟨b, off + k * 3 + 2, none⟩) (by simp; omega)).trans (cell_later A0 v2)
      have hlk : (k : Int) < (nv : Int) := by omega
      have HS : Hid _ := fun i : Int => rootsIn_take (vs := vs) (k := k) (by omega) i
      have hrt := HR.out k (by omega)
      obtain ⟨⟨id, qu, rt⟩, hvo⟩ : ∃ v, vs.getD k vo0 = v := ⟨_, rfl⟩
      rw [hvo] at v0 v1 v2 HS hrt
      simp only at v0 v1 v2 HS hrt
      clear hvo
      have A : Below wr.heap.size wr (wr.alloc (.cells #[.int .i64 id, .int .i64 qu, .int .i64 rt] 90)) := (Below.refl _ _).alloc (Nat.le_refl _) _
      have R1 := RL.below A
      have B1 := B.trans (A.mono (by omega))
      have hgs1 := Nat.lt_of_lt_of_le hgs A.size
      by_cases hr1 : rt = -1
      · have hne : (rt != -1) = false := by simp [hr1]
        have HS2 : Hid (∀ x : Nat, rootsIn (vs.take (k + 1)) (x : Int) = rootsIn (vs.take k) (x : Int)) := fun x => by rw [HS.out, if_neg (by omega)]; rfl
        clear HS hrt hr1
        go_wp2
        go_roundw
        case rel => exact ⟨k + 1, by omega, by go_num, by simp only [HS2.out]; exact R1, B1, hgs1⟩
        case measure => simp [intOf]; omega
      · have hne : (rt != -1) = true := by simp [hr1]
        obtain ⟨m, rfl⟩ : ∃ m : Nat, rt = m := ⟨rt.toNat, by omega⟩
        have hmn : m < nn := by omega
        have hlm : (m : Int) < (nn : Int) := by omega
        have hv1 := HLE.out (m : Int)
        have hv2 := rootsIn_le (vs.take k) (m : Int)
        have hv3 : (vs.take k).length ≤ 6 := by rw [List.length_take]; omega
        obtain ⟨_, _, e', _, _, _, c0, f0⟩ := R1.int hmn
        cases e'
        replace f0 := f0 rfl
        rw [fn_get hmn, Nat.zero_add] at c0
        rw [Nat.zero_add] at f0
        have S1 := RL.stored (i := m) (by omega) (.int .i64 ((namedIn f.1 false (m : Int) : Int) + (rootsIn (vs.take k) (m : Int) : Int) + 1))
        rw [ints_set, fn_set hmn, Nat.zero_add] at S1
        have S3 := B.setCell (p := ⟨gl, m, none⟩) (by show w.heap.size + 1 ≤ gl; omega) (.int .i64 ((namedIn f.1 false (m : Int) : Int) + (rootsIn (vs.take k) (m : Int) : Int) + 1))
        rw [fn_congr (g' := fun x => (namedIn f.1 false (x : Int) : Int) + (rootsIn (vs.take (k + 1)) (x : Int) : Int)) (fun x _ => by
          rw [HS.out]
          by_cases e : x = m
          · rw [if_pos e, if_pos (by omega), e]; omega
          · rw [if_neg e, if_neg (by omega)]; rfl)] at S1
        replace S3 := S3.trans (((Below.refl _ _).alloc (Nat.le_refl _) (.cells #[.int .i64 id, .int .i64 qu, .int .i64 (m : Int)] 90)).mono (by simp; omega))
        replace S1 := S1.below ((Below.refl _ _).alloc (Nat.le_refl _) (.cells #[.int .i64 id, .int .i64 qu, .int .i64 (m : Int)] 90))
        have HS1 : Hid _ := S1
        have HS3 : Hid _ := S3
        generalize hvv : (namedIn f.1 false (m : Int) : Int) + (rootsIn (vs.take k) (m : Int) : Int) = v at *
        have hw1 : IntKind.i64.wrap (v + 1) = v + 1 := wrapI_same _ (by omega)
        clear S1 S3 RL R1 B B1 HS hv1 hv2 hv3 hvv hrt hr1
        go_wp2
        go_roundw
        case rel => exact ⟨k + 1, by omega, by go_num, HS1.out, HS3.out, by simpa using hgs1⟩
        case measure => simp [intOf]; omega
    · obtain rfl : k = nv := by omega
      rw [show vs.take k = vs from List.take_of_length_le (by omega)] at RL
      have g0 := (B.cell (p := ⟨w.heap.size, 0, none⟩) (by simp)).trans G0
      obtain ⟨W1, hW1⟩ : ∃ W1, wr = W1 := ⟨_, rfl⟩
      subst hW1
      rename World => W1
      go_wp2
      go_loopw [37] (fun i wr => ∃ j : Nat, j ≤ nn ∧ i = .int .i64 j ∧ (∀ m, m < j → exactNd f vs m = true) ∧ Below W1.heap.size W1 wr) (fun i _ => nn - (intOf i).toNat)
      case atStart => exact ⟨0, Nat.zero_le _, rfl, fun m hm => absurd hm (by omega), Below.refl _ _⟩
      case round =>
        obtain ⟨i, hi, rfl, ha, C⟩ := hrel
        have HA : Hid _ := ha
        clear ha
        by_cases hil : i < nn
        · obtain ⟨b2, f2, rfl, _, _, hs2, e1, e2, e3, _⟩ := h.nodes.node hil
          replace e1 := cell_later C ((B.cell (p := ⟨b2, f2 + i * 3, none⟩) (by simp; omega)).trans (cell_later A0 e1))
          replace e2 := cell_later C ((B.cell (p := ⟨b2, f2 + i * 3 + 1, none⟩) (by simp; omega)).trans (cell_later A0 e2))
          replace e3 := cell_later C ((B.cell (p := ⟨b2, f2 + i * 3 + 2, none⟩) (by simp; omega)).trans (cell_later A0 e3))
          have hli : (i : Int) < (nn : Int) := by omega
          have R1 := RL.below C
          obtain ⟨_, _, e', _, _, _, c0, _⟩ := R1.int hil
          cases e'
          rw [fn_get hil, Nat.zero_add] at c0
          have HB : Hid (exactNd f vs i = false → exactB f vs = false) := fun hx => exact_not (by omega) hx
          have HN : Hid (exactNd f vs i = true → ∀ m, m < i + 1 → exactNd f vs m = true) := fun h0 m hm => by
            by_cases e : m = i
            · subst e; exact h0
            · exact HA.out m (by omega)
          have HE : Hid (exactNd f vs i = decide ((f.1.getD i nd0).1 = (namedIn f.1 false (i : Int) : Int) + (rootsIn vs (i : Int) : Int))) := HX.out i
          rw [HE.out] at HB HN
          clear HE
          obtain ⟨⟨r, lf, ks⟩, hnd⟩ : ∃ nd, f.1.getD i nd0 = nd := ⟨_, rfl⟩
          obtain ⟨⟨ka, kn, kc⟩, hks⟩ : ∃ q, K i = q := ⟨_, rfl⟩
          obtain ⟨q, hq⟩ : ∃ q, (namedIn f.1 false (i : Int) : Int) + (rootsIn vs (i : Int) : Int) = q := ⟨_, rfl⟩
          rw [hnd] at e1 e2 HB HN
          rw [hks] at e3
          rw [hq] at c0 HB HN
          simp only at e1 e2 e3 HB HN
          clear hnd hks hq R1
          have A : Below wr.heap.size wr (wr.alloc (.cells #[.int .i64 r, .bool lf, .slice ka kn kc] 109)) := (Below.refl _ _).alloc (Nat.le_refl _) _
          have z0 : (wr.alloc (.cells #[.int .i64 r, .bool lf, .slice ka kn kc] 109)).cell? ⟨wr.heap.size, 0, none⟩ = some (.int .i64 r) := by simp
          replace c0 := cell_later A c0
          have C2 := below_next C A
          have C3 := B.trans (C2.mono (by omega))
          by_cases hrq : r = q
          · have hd0 : (r != q) = false := by simp [hrq]
            have HN2 : Hid _ := HN.out (decide_eq_true hrq)
            clear HB HN hrq
            go_wp2_with fail
            go_quiet (fail)
            go_wp2
            go_roundw
            case rel => exact ⟨i + 1, by omega, by go_num, HN2.out, below_drewN C2 _⟩
            case measure => simp [intOf]; omega
          · have hd0 : (r != q) = true := by simp [hrq]
            have HF : Hid _ := HB.out (decide_eq_false hrq)
            clear HB HN hrq
            go_wp2_with fail
            go_quiet (fail)
            go_wp2
            go_ret
            refine ⟨ret_int (by rw [← HD.out, HF.out]; rfl), below_drewN ?_ _⟩
            exact below_up A0 C3
        · obtain rfl : i = nn := by omega
          have HF : Hid (exactB f vs = true) := (exact_iff f vs).2 fun m hm => HA.out m (by omega)
          have C3 := B.trans (C.mono (by omega))
          go_wp2
          go_ret
          refine ⟨ret_int (by rw [← HD.out, HF.out]; rfl), ?_⟩
          exact below_up A0 C3

set_option maxRecDepth 20000 in
set_option maxHeartbeats 4000000 in
theorem implPF_is (hn : nn ≤ 2097152) (hb : nb ≤ 2097152) (hK : ∀ i, i < nn → (K i).2.1 ≤ 2097152) (hvn : nv ≤ 2097152) (c : Int) (hc : poFault f vs = c) : Calls Try.prog 27 #[.agg #[.slice an nn cn, .slice ab nb cb, .slice av nv cv]] w fun e w' => e = .returned (.int .i64 c) ∧ Below w.heap.size w w' := by
  have hl := h.nodes.len
  have hbl := h.blocks.nPairs
  have hvl := hv.nTrips
  have HC : Hid _ := hc
  have HK : Hid _ := hK
  clear hc hK
  have A0 : Below w.heap.size w (w.alloc (.cells #[.slice an nn cn, .slice ab nb cb, .slice av nv cv] 40)) := (Below.refl _ _).alloc (Nat.le_refl _) _
  have G0 : (w.alloc (.cells #[.slice an nn cn, .slice ab nb cb, .slice av nv cv] 40)).cell? ⟨w.heap.size, 0, none⟩ = some (.slice an nn cn) := by simp
  have G1 : (w.alloc (.cells #[.slice an nn cn, .slice ab nb cb, .slice av nv cv] 40)).cell? ⟨w.heap.size, 1, none⟩ = some (.slice ab nb cb) := by simp
  have G2 : (w.alloc (.cells #[.slice an nn cn, .slice ab nb cb, .slice av nv cv] 40)).cell? ⟨w.heap.size, 2, none⟩ = some (.slice av nv cv) := by simp
  go_enter Try.func27, Try.ntmps27
  go_wp2_with fail
  refine (implFF_b an nn cn ab nb cb K f _ (h.below A0) hn hb HK.out _ rfl).mono ?_
  rintro e w1 ⟨rfl, B⟩
  have g0 := cell_later B G0
  have g1 := cell_later B G1
  have g2 := cell_later B G2
  replace B := below_next A0 B
  clear A0 G0 G1 G2
  obtain ⟨q, hq⟩ : ∃ q, foFault f = q := ⟨_, rfl⟩
  have HQ : Hid _ := hq
  rw [hq]
  clear hq
  by_cases hq0 : q = 0
  rotate_left 1
  · have hne : (q != 0) = true := by simp [hq0]
    have HE : Hid (poFault f vs = q) := by show _ = _; unfold poFault; rw [HQ.out, if_neg hq0]
    clear hq0 HQ
    go_wp2
    go_ret
    exact ⟨ret_int (by rw [← HC.out, HE.out]), B⟩
  subst hq0
  have hI : Inv f := (right_of HQ.out).inv
  have HALL : Hid (∀ j, j < f.1.length → ndOne f (f.1.getD j nd0) = 0) := fun j _ => (ndOne_iff _ _).2 (hI.nd j)
  have hi1 := hI.nn
  have hi2 := hI.nb
  have HI : Hid _ := hI
  clear hI
  have HP : Hid (poFault f vs = if 6 < vs.length then 2 else if volsFault f vs = 0 then (if exactB f vs then 0 else 1) else volsFault f vs) := if_pos HQ.out
  by_cases h6 : 6 < nv
  · have h6' : (6 : Int) < (nv : Int) := by omega
    have HE : Hid (poFault f vs = 2) := HP.out.trans (if_pos (by omega))
    go_wp2
    go_ret
    exact ⟨ret_int (by rw [← HC.out, HE.out]), B⟩
  have h6' : ¬ (6 : Int) < (nv : Int) := by omega
  replace HP : Hid (poFault f vs = if volsFault f vs = 0 then (if exactB f vs then 0 else 1) else volsFault f vs) := HP.out.trans (if_neg (by omega))
  have B1 : Below w1.heap.size w1 w1 := Below.refl _ _
  go_wp2
  obtain ⟨bp, hbp⟩ : ∃ bp, w.heap.size = bp := ⟨_, rfl⟩
  rw [hbp] at g0 g1 g2
  simp only [hbp]
  have HBP : Hid _ := hbp
  clear hbp
  go_loopw [4, 20] (fun a i wr => ∃ k : Nat, k ≤ nv ∧ i = .int .i64 k ∧ a = .int .i64 (idAhead vs k) ∧ volsFault f vs = volsFrom f vs (nv - k) k ∧ Below w1.heap.size w1 wr) (fun _ i _ => nv - (intOf i).toNat)
  case atStart => exact ⟨0, Nat.zero_le _, rfl, rfl, by rw [Nat.sub_zero, ← hvl]; rfl, B1⟩
  case round =>
    obtain ⟨k, hk, rfl, rfl, ha, C⟩ := hrel
    replace g0 := cell_later C g0
    replace g1 := cell_later C g1
    replace g2 := cell_later C g2
    replace B := below_step B B.size C
    have HA : Hid _ := ha
    clear ha B1
    by_cases hlt : k < nv
    rotate_left 1
    · obtain rfl : k = nv := by omega
      have HV : Hid (volsFault f vs = 0) := by show _ = _; rw [HA.out, ← hvl]; exact volsFrom_end (Nat.le_refl _)
      obtain ⟨x, hx⟩ : ∃ x : Int, (if exactB f vs then (0 : Int) else 1) = x := ⟨_, rfl⟩
      have HE : Hid (poFault f vs = x) := HP.out.trans ((if_pos HV.out).trans hx)
      have HX : Hid _ := hx
      clear hx
      go_wp2_with fail
      refine (refsFault_is an nn cn ab nb cb av k cv K f vs wr (h.below B) (hv.below B) (by omega) (by omega) (by omega) HALL.out (fun j hj => (volOne_ok (vols_ok HV.out j hj)).2.2.1) x HX.out).mono ?_
      rintro e w2 ⟨rfl, B2⟩
      replace B := below_step B B.size B2
      go_wp2
      go_ret
      exact ⟨ret_int (by rw [← HC.out, HE.out]), B⟩
    have HS : Hid _ := volsFrom_step (f := f) (vs := vs) (k := k) (by omega)
    rw [hvl] at HS
    have HNX : Hid (idAhead vs (k + 1) = (vs.getD k vo0).1) := rfl
    obtain ⟨b, off, rfl, _, _, hbs, v0, v1, v2, _⟩ := hv.trip hlt
    replace v0 := (B.cell (p := ⟨b, off + k * 3, none⟩) hbs).trans v0
    replace v1 := (B.cell (p := ⟨b, off + k * 3 + 1, none⟩) hbs).trans v1
    replace v2 := (B.cell (p := ⟨b, off + k * 3 + 2, none⟩) hbs).trans v2
    have hlk : (k : Int) < (nv : Int) := by omega
    obtain ⟨⟨id, qu, rt⟩, hvo⟩ : ∃ v, vs.getD k vo0 = v := ⟨_, rfl⟩
    rw [hvo] at v0 v1 v2 HS HNX
    simp only at v0 v1 v2 HNX
    clear hvo
    obtain ⟨ah, hah⟩ : ∃ a, idAhead vs k = a := ⟨_, rfl⟩
    rw [hah] at HS ⊢
    clear hah
    have A : Below wr.heap.size wr (wr.alloc (.cells #[.int .i64 id, .int .i64 qu, .int .i64 rt] 90)) := (Below.refl _ _).alloc (Nat.le_refl _) _
    have x0 : (wr.alloc (.cells #[.int .i64 id, .int .i64 qu, .int .i64 rt] 90)).cell? ⟨wr.heap.size, 0, none⟩ = some (.int .i64 id) := by simp
    have x1 : (wr.alloc (.cells #[.int .i64 id, .int .i64 qu, .int .i64 rt] 90)).cell? ⟨wr.heap.size, 1, none⟩ = some (.int .i64 qu) := by simp
    have x2 : (wr.alloc (.cells #[.int .i64 id, .int .i64 qu, .int .i64 rt] 90)).cell? ⟨wr.heap.size, 2, none⟩ = some (.int .i64 rt) := by simp
    replace g0 := cell_later A g0
    replace g1 := cell_later A g1
    have HBAD : Hid (volOne f ah (id, qu, rt) ≠ 0 → poFault f vs = volOne f ah (id, qu, rt)) := fun hx => by rw [HP.out, HA.out, HS.out, if_neg hx, if_neg hx]
    obtain ⟨bv, hbv⟩ : ∃ b, (volIdB id && quotaB qu && rootOk f rt) = b := ⟨_, rfl⟩
    have HBV : Hid _ := hbv
    clear hbv
    go_wp2_with fail
    refine (isVol_is an nn cn ab nb cb K f _ ((h.below B).below A) hn hb id qu rt bv HBV.out).mono ?_
    rintro e w2 ⟨rfl, B2⟩
    replace x0 := cell_later B2 x0
    replace x1 := cell_later B2 x1
    replace x2 := cell_later B2 x2
    replace g0 := cell_later B2 g0
    replace g1 := cell_later B2 g1
    replace B := below_step (below_step B B.size A) (below_step B B.size A).size B2
    have C2 := below_next (below_next C A) B2
    clear v0 v1 v2 A B2 g2
    cases bv with
    | false =>
      have HE : Hid (poFault f vs = 3) := by
        have hx : volOne f ah (id, qu, rt) = 3 := by unfold volOne; rw [if_neg (by rw [HBV.out]; decide)]
        show _ = _
        rw [HBAD.out (by rw [hx]; decide), hx]
      clear HBAD HS HA
      go_wp2
      go_ret
      exact ⟨ret_int (by rw [← HC.out, HE.out]), B⟩
    | true =>
      have HV : Hid (volOne f ah (id, qu, rt) = if id ≤ ah then 1 else if qu < (usedN f rt : Int) then 9 else 0) := by show _ = _; unfold volOne; rw [if_pos HBV.out]
      have HRT : Hid (rootOk f rt = true) := by have := HBV.out; rw [Bool.and_eq_true] at this; exact this.2
      by_cases hle : id ≤ ah
      · have hd1 : decide (id ≤ ah) = true := decide_eq_true hle
        have HE : Hid (poFault f vs = 1) := by show _ = _; rw [HBAD.out (by rw [HV.out, if_pos hle]; decide), HV.out, if_pos hle]
        clear HBAD HS HA HV
        go_wp2
        go_ret
        exact ⟨ret_int (by rw [← HC.out, HE.out]), B⟩
      have hd1 : decide (id ≤ ah) = false := decide_eq_false hle
      have HV2 : Hid (volOne f ah (id, qu, rt) = if qu < (usedN f rt : Int) then 9 else 0) := HV.out.trans (if_neg hle)
      clear HV
      obtain ⟨us, hus⟩ : ∃ us, (usedN f rt : Int) = us := ⟨_, rfl⟩
      rw [hus] at HV2
      have HU : Hid _ := hus
      clear hus
      go_wp2_with fail
      have D : Below w2.heap.size w2 w2.drew := (Below.refl _ _).drew
      replace x0 := cell_later D x0
      replace x1 := cell_later D x1
      replace x2 := cell_later D x2
      replace g0 := cell_later D g0
      replace g1 := cell_later D g1
      replace B := below_step B B.size D
      replace C2 := below_next C2 D
      clear D
      go_region_held3 (fun w' => w'.cell? ⟨bp, 0, none⟩ = some (.slice an nn cn) ∧ w'.cell? ⟨bp, 1, none⟩ = some (.slice ab nb cb) ∧ w'.cell? ⟨wr.heap.size, 1, none⟩ = some (.int .i64 qu) ∧ w'.cell? ⟨wr.heap.size, 2, none⟩ = some (.int .i64 rt)) (exact ⟨g0, g1, x1, x2⟩) (first | (go_at_call 52; refine (usedBy_is an nn cn ab nb cb K f _ (h.below B) rt HI.out (root_of HRT.out) us HU.out).mono ?_; rintro e w5 ⟨rfl, B5⟩; replace x0 := cell_later B5 x0; replace x1 := cell_later B5 x1; replace x2 := cell_later B5 x2; replace g0 := cell_later B5 g0; replace g1 := cell_later B5 g1; replace B := below_step B B.size B5; replace C2 := below_next C2 B5; clear B5))
      by_cases hqu : qu < us
      · have hqd : decide (qu < us) = true := decide_eq_true hqu
        have HE : Hid (poFault f vs = 9) := by show _ = _; rw [HBAD.out (by rw [HV2.out, if_pos hqu]; decide), HV2.out, if_pos hqu]
        clear HBAD HS HA HV2
        go_wp2
        go_ret
        exact ⟨ret_int (by rw [← HC.out, HE.out]), B⟩
      · have hqd : decide (qu < us) = false := decide_eq_false hqu
        have HN : Hid _ := HA.out.trans (HS.out.trans (if_pos (HV2.out.trans (if_neg hqu))))
        clear HBAD HS HA HV2
        go_wp2
        go_roundw
        case rel => exact ⟨k + 1, by omega, by go_num, by rw [HNX.out], HN.out, C2⟩
        case measure => simp [intOf]; omega
end

end Go.Proofs.Ytedgppggaceopaa

/- Chapter 5: volumes and pools copied, compared and counted by the laws. -/
namespace Go.Proofs.Ytedgppggaceopaa
open Go.RowKit

theorem toVol_any (x y z : Int) (w : World) :
    Calls Try.prog 80 #[.agg #[.int .i64 x, .int .i64 y, .int .i64 z]] w fun e w' => e = .returned (.agg #[.int .i64 x, .int .i64 y, .int .i64 z]) ∧ Below w.heap.size w w' := by
  go_enter Try.func80, Try.ntmps80
  go_wp2
  refine bodyPost_ret (v := .agg #[.int .i64 x, .int .i64 y, .int .i64 z]) (by simp [results, Try.results80, go_sem]) rfl ⟨rfl, ?_⟩
  exact ((((Below.refl _ _).alloc (Nat.le_refl _) _).alloc (by simp) _).alloc (by simp; omega) _)
theorem Try.infoVol : (Try.prog.info? 90).map (fun i => (i.zero, i.size, i.bytes)) = some (some (.agg #[.int .i64 0, .int .i64 0, .int .i64 0]), 3, 24) := by kernel_rfl
theorem made3 (n : Nat) : (madeCells #[.int .i64 0, .int .i64 0, .int .i64 0] (n * 3)).toList = List.replicate (n * 3) (.int .i64 0) := by
  apply List.ext_getElem?
  intro j
  by_cases hj : j < n * 3
  · have : j % 3 = 0 ∨ j % 3 = 1 ∨ j % 3 = 2 := by omega
    rcases this with e | e | e <;> simp [madeCells, hj, e]
  · simp [madeCells, hj]
theorem trips_getD0 (vs : List Vo) (k : Nat) (h : k < vs.length) : (trips vs).getD (k * 3) default = .int .i64 (vs.getD k vo0).1 := by rw [trips, flat3_get0 _ _ _ _ _ h]
theorem trips_getD1 (vs : List Vo) (k : Nat) (h : k < vs.length) : (trips vs).getD (k * 3 + 1) default = .int .i64 (vs.getD k vo0).2.1 := by rw [trips, flat3_get1 _ _ _ _ _ h]
theorem trips_getD2 (vs : List Vo) (k : Nat) (h : k < vs.length) : (trips vs).getD (k * 3 + 2) default = .int .i64 (vs.getD k vo0).2.2 := by rw [trips, flat3_get2 _ _ _ _ _ h]

set_option maxHeartbeats 800000 in
theorem toVols_any {own : Bool} {lo hi : Nat} (ao : Option Addr) (n cap : Nat) (xs : List Vo) (w : World) (h : RowAt w own lo hi 3 ao n cap (trips xs)) (hn : n ≤ 1048576) :
    Calls Try.prog 48 #[.slice ao n cap] w fun e w' => e = .returned (.slice (some ⟨w.heap.size, 0, none⟩) n n) ∧ RowAt w' true w.heap.size w'.heap.size 3 (some ⟨w.heap.size, 0, none⟩) n n (trips xs) ∧ Below w.heap.size w w' := by
  have hx := h.nTrips
  obtain ⟨i0, hi0, hz0, hz1, hz2⟩ := info_parts Try.infoVol
  go_enter Try.func48, Try.ntmps48
  go_wp2_with (first | (at_make; refine wpList_make_full _ rfl _ _ 38 rfl w.heap.size 90 i0 (.agg #[.int .i64 0, .int .i64 0, .int .i64 0]) 3 Try.underlying38 hi0 hz0 hz1 _ _ _ _ n rfl rfl rfl rfl ?b1 ?b2 ?b3 ?_))
  case b1 => rw [hz2]; omega
  case b2 => unfold maxLen; omega
  case b3 => exact Nat.le_refl _
  intro w1 hown hgrow
  have hb1 : Below w.heap.size w w1 := (Below.refl _ _).grown hgrow (Nat.le_refl _) (fun k hk => by cases hk)
  have hown0 : w1.ownsRow w.heap.size 90 3 (.slice (some ⟨w.heap.size, 0, none⟩) n n) n (cop (trips xs) (.int .i64 0) (0 * 3)) := by
    rw [Nat.zero_mul, cop_zero, trips_len, hx]; simpa [Value.cells, made3] using hown
  clear hown hgrow
  go_wp2
  go_loopw [4] (fun i wr => ∃ k : Nat, k ≤ n ∧ i = .int .i64 k ∧ wr.ownsRow w.heap.size 90 3 (.slice (some ⟨w.heap.size, 0, none⟩) n n) n (cop (trips xs) (.int .i64 0) (k * 3)) ∧ Below w.heap.size w wr) (fun i _ => n - (intOf i).toNat)
  case atStart => exact ⟨0, Nat.zero_le _, rfl, hown0, hb1⟩
  case round =>
    obtain ⟨k, hk, rfl, hown, hb⟩ := hrel
    clear hown0 hb1
    by_cases hlt : k < n
    · obtain ⟨b, off, rfl, _, _, hbs, hc0, hc1, hc2, _⟩ := h.trip hlt
      have hcr0 := (hb.cell (p := ⟨b, off + k * 3, none⟩) hbs).trans hc0
      have hcr1 := (hb.cell (p := ⟨b, off + k * 3 + 1, none⟩) hbs).trans hc1
      have hcr2 := (hb.cell (p := ⟨b, off + k * 3 + 2, none⟩) hbs).trans hc2
      have R : ∀ w1, Below wr.heap.size wr w1 → w1.cell? ⟨w.heap.size, k * 3, none⟩ = some (.int .i64 0) ∧ w1.cell? ⟨w.heap.size, k * 3 + 1, none⟩ = some (.int .i64 0) ∧ w1.cell? ⟨w.heap.size, k * 3 + 2, none⟩ = some (.int .i64 0) ∧ w1.frozen? ⟨w.heap.size, k * 3, none⟩ = false ∧ w1.frozen? ⟨w.heap.size, k * 3 + 1, none⟩ = false ∧ w1.frozen? ⟨w.heap.size, k * 3 + 2, none⟩ = false ∧
          (((w1.setCell ⟨w.heap.size, k * 3, none⟩ (.int .i64 (xs.getD k vo0).1)).setCell ⟨w.heap.size, k * 3 + 1, none⟩ (.int .i64 (xs.getD k vo0).2.1)).setCell ⟨w.heap.size, k * 3 + 2, none⟩ (.int .i64 (xs.getD k vo0).2.2)).ownsRow w.heap.size 90 3 (.slice (some ⟨w.heap.size, 0, none⟩) n n) n (cop (trips xs) (.int .i64 0) ((k + 1) * 3)) ∧
          Below w.heap.size w (((w1.setCell ⟨w.heap.size, k * 3, none⟩ (.int .i64 (xs.getD k vo0).1)).setCell ⟨w.heap.size, k * 3 + 1, none⟩ (.int .i64 (xs.getD k vo0).2.1)).setCell ⟨w.heap.size, k * 3 + 2, none⟩ (.int .i64 (xs.getD k vo0).2.2)) := by
        intro w1 hb1
        have ho := owns_below hown hb1
        have hl : (trips xs).length = n * 3 := by rw [trips_len, hx]
        refine ⟨?_, ?_, ?_, ho.frozenAt _, ho.frozenAt _, ho.frozenAt _, ?_, ?_⟩
        · rw [ho.cellAt _ (by omega), cop_get _ _ _ _ (by omega) (by omega)]
        · rw [ho.cellAt _ (by omega), cop_get _ _ _ _ (by omega) (by omega)]
        · rw [ho.cellAt _ (by omega), cop_get _ _ _ _ (by omega) (by omega)]
        · have r := (((ho.stored (k * 3) (.int .i64 (xs.getD k vo0).1)).1.stored (k * 3 + 1) (.int .i64 (xs.getD k vo0).2.1)).1.stored (k * 3 + 2) (.int .i64 (xs.getD k vo0).2.2)).1
          rwa [cop_set _ _ _ (k * 3) (by omega) (trips_getD0 xs k (by omega)), cop_set _ _ _ (k * 3 + 1) (by omega) (trips_getD1 xs k (by omega)), cop_set _ _ _ (k * 3 + 2) (by omega) (trips_getD2 xs k (by omega)), show k * 3 + 2 + 1 = (k + 1) * 3 by omega] at r
        · exact (((below_step hb hb.size hb1).setCell (p := ⟨w.heap.size, k * 3, none⟩) (Nat.le_refl _) _).setCell (p := ⟨w.heap.size, k * 3 + 1, none⟩) (Nat.le_refl _) _).setCell (p := ⟨w.heap.size, k * 3 + 2, none⟩) (Nat.le_refl _) _
      clear hc0 hc1 hc2 hown hb
      generalize (xs.getD k vo0).1 = x at *
      generalize (xs.getD k vo0).2.1 = y at *
      generalize (xs.getD k vo0).2.2 = z at *
      have HR : Hid _ := R
      clear R
      go_wp2_with fail
      refine (toVol_any _ _ _ _).mono ?_
      rintro e w1 ⟨rfl, hb1⟩
      obtain ⟨a0, a1, a2, a3, a4, a5, a6, a7⟩ := HR.out w1 hb1
      clear HR hb1 hcr0 hcr1 hcr2
      go_wp2
      go_roundw
      case rel => exact ⟨k + 1, by omega, by go_num, a6, a7⟩
      case measure => simp [intOf]; omega
    · go_wp2
      go_ret
      have hkn : k * 3 = (trips xs).length := by rw [trips_len]; omega
      rw [hkn, cop_all] at hown
      exact ⟨rfl, RowAt.of_owns hown (Nat.le_refl _), hb⟩

theorem eqVol_yes (x y z : Int) (w : World) :
    Calls Try.prog 90 #[.agg #[.int .i64 x, .int .i64 y, .int .i64 z], .agg #[.int .i64 x, .int .i64 y, .int .i64 z]] w fun e w' => e = .returned (.bool true) ∧ Below w.heap.size w w' := by
  have e1 : (x != x) = false := by simp
  have e2 : (y != y) = false := by simp
  have e3 : (z != z) = false := by simp
  go_enter Try.func90, Try.ntmps90
  go_wp2
  go_ret
  exact ⟨rfl, (((Below.refl _ _).alloc (Nat.le_refl _) _).alloc (by simp) _)⟩

set_option maxRecDepth 20000 in
set_option maxHeartbeats 1600000 in
theorem eqVols_yes {o1 o2 : Bool} {l1 u1 l2 u2 : Nat} (a1 a2 : Option Addr) (n c1 m c2 : Nat) (xs : List Vo) (w : World) (h1 : RowAt w o1 l1 u1 3 a1 n c1 (trips xs)) (h2 : RowAt w o2 l2 u2 3 a2 m c2 (trips xs)) (hn : n ≤ 2097152) :
    Calls Try.prog 59 #[.slice a1 n c1, .slice a2 m c2] w fun e w' => e = .returned (.bool true) ∧ Below w.heap.size w w' := by
  obtain rfl : n = m := by rw [← h1.nTrips, ← h2.nTrips]
  have hb0 : ((n : Int) != (n : Int)) = false := by simp
  go_enter Try.func59, Try.ntmps59
  go_wp2
  go_loopw [5] (fun i wr => ∃ k : Nat, k ≤ n ∧ i = .int .i64 k ∧ Below w.heap.size w wr) (fun i _ => n - (intOf i).toNat)
  case atStart => exact ⟨0, Nat.zero_le _, rfl, Below.refl _ _⟩
  case round =>
    obtain ⟨k, hk, rfl, hb⟩ := hrel
    by_cases hlt : k < n
    · obtain ⟨b1, o1, rfl, _, _, hs1, e1, e2, e3, _⟩ := h1.trip hlt
      obtain ⟨b2, o2, rfl, _, _, hs2, f1, f2, f3, _⟩ := h2.trip hlt
      replace e1 := (hb.cell (p := ⟨b1, o1 + k * 3, none⟩) hs1).trans e1
      replace e2 := (hb.cell (p := ⟨b1, o1 + k * 3 + 1, none⟩) hs1).trans e2
      replace e3 := (hb.cell (p := ⟨b1, o1 + k * 3 + 2, none⟩) hs1).trans e3
      replace f1 := (hb.cell (p := ⟨b2, o2 + k * 3, none⟩) hs2).trans f1
      replace f2 := (hb.cell (p := ⟨b2, o2 + k * 3 + 1, none⟩) hs2).trans f2
      replace f3 := (hb.cell (p := ⟨b2, o2 + k * 3 + 2, none⟩) hs2).trans f3
      have hl : (k : Int) < (n : Int) := by omega
      generalize (xs.getD k vo0).1 = x at *
      generalize (xs.getD k vo0).2.1 = y at *
      generalize (xs.getD k vo0).2.2 = z at *
      go_wp2_with fail
      have D : Below wr.heap.size wr wr.drew := (Below.refl _ _).drew
      replace e1 := cell_later D e1
      replace e2 := cell_later D e2
      replace e3 := cell_later D e3
      replace f1 := cell_later D f1
      replace f2 := cell_later D f2
      replace f3 := cell_later D f3
      replace hb := below_step hb hb.size D
      clear D
      go_region_held3 (fun w' => w'.cell? ⟨b1, o1 + k * 3, none⟩ = some (.int .i64 x) ∧ w'.cell? ⟨b1, o1 + k * 3 + 1, none⟩ = some (.int .i64 y) ∧ w'.cell? ⟨b1, o1 + k * 3 + 2, none⟩ = some (.int .i64 z) ∧ w'.cell? ⟨b2, o2 + k * 3, none⟩ = some (.int .i64 x) ∧ w'.cell? ⟨b2, o2 + k * 3 + 1, none⟩ = some (.int .i64 y) ∧ w'.cell? ⟨b2, o2 + k * 3 + 2, none⟩ = some (.int .i64 z)) (exact ⟨e1, e2, e3, f1, f2, f3⟩) (first | (go_at_call 90; refine (eqVol_yes x y z _).mono ?_; rintro e w1 ⟨rfl, B1⟩; replace e1 := cell_later B1 e1; replace e2 := cell_later B1 e2; replace e3 := cell_later B1 e3; replace f1 := cell_later B1 f1; replace f2 := cell_later B1 f2; replace f3 := cell_later B1 f3; replace hb := below_step hb hb.size B1; clear B1))
      clear e1 e2 e3 f1 f2 f3
      go_wp2
      go_roundw
      case rel => exact ⟨k + 1, by omega, by go_num, hb⟩
      case measure => simp [intOf]; omega
    · go_wp2
      go_ret
      exact ⟨rfl, hb⟩

theorem szVols_left (ao : Option Addr) (n c : Nat) (lt : Int) (w : World) (hn : n ≤ maxLen) (h0 : 0 ≤ lt) (h1 : lt ≤ 1048576) :
    Calls Try.prog 43 #[.slice ao n c, .int .i64 lt] w fun e w' => e = .returned (.int .i64 (if lt < n then -1 else lt - n)) ∧ w' = w := by
  unfold maxLen at hn
  by_cases h : lt < n
  all_goals
    go_enter Try.func43, Try.ntmps43
    go_wp2
    go_ret
    exact ⟨by simp, rfl⟩

section
variable {o o2 : Bool} {l u l2 u2 : Nat} (an : Option Addr) (nn cn : Nat) (ab : Option Addr) (nb cb : Nat) (av : Option Addr) (nv cv : Nat) (K : Nat → KS) (f : Fo) (vs : List Vo) (w : World) (h : FoAt w o l u an nn cn ab nb cb K f) (hv : RowAt w o2 l2 u2 3 av nv cv (trips vs))
include h hv
end

section
variable {o o2 : Bool} {l u l2 u2 : Nat} (an : Option Addr) (nn cn : Nat) (ab : Option Addr) (nb cb : Nat) (av : Option Addr) (nv cv : Nat) (K : Nat → KS) (f : Fo) (vs : List Vo) (w : World) (h : FoAt w o l u an nn cn ab nb cb K f) (hv : RowAt w o2 l2 u2 3 av nv cv (trips vs))
include h hv
set_option maxRecDepth 20000 in
set_option maxHeartbeats 1000000 in
theorem toPool_any (hn : nn ≤ 1048576) (hb : nb ≤ 1048576) (hK : ∀ i, i < nn → (K i).2.1 ≤ 1048576) (hvn : nv ≤ 1048576) :
    Calls Try.prog 25 #[.agg #[.slice an nn cn, .slice ab nb cb, .slice av nv cv]] w fun e w' => ∃ bn bb bv mid K', e = .returned (.agg #[.slice bn nn nn, .slice bb nb nb, .slice bv nv nv]) ∧ FoAt w' true w.heap.size mid bn nn nn bb nb nb K' f ∧ RowAt w' true mid w'.heap.size 3 bv nv nv (trips vs) ∧ w.heap.size ≤ mid ∧ mid ≤ w'.heap.size ∧ Below w.heap.size w w' := by
  have B3 : Below w.heap.size w (((w.alloc (.cells #[.slice an nn cn, .slice ab nb cb, .slice av nv cv] 28)).alloc (.cells #[.slice none 0 0, .slice none 0 0, .slice none 0 0] 40)).alloc (.cells #[.slice none 0 0, .slice none 0 0, .slice none 0 0] 40)) := (((Below.refl _ _).alloc (Nat.le_refl _) _).alloc (by simp) _).alloc (by simp; omega) _
  have hz0 : (((w.alloc (.cells #[.slice an nn cn, .slice ab nb cb, .slice av nv cv] 28)).alloc (.cells #[.slice none 0 0, .slice none 0 0, .slice none 0 0] 40)).alloc (.cells #[.slice none 0 0, .slice none 0 0, .slice none 0 0] 40)).heap.size = w.heap.size + 3 := by simp
  go_enter Try.func25, Try.ntmps25
  go_wp2_with fail
  refine (toForest_any an nn cn ab nb cb K f _ (by exact h.below B3) hn hb hK).mono ?_
  rintro e w1 ⟨bn, bb, K', rfl, r1, hb1⟩
  rw [hz0] at r1
  have B4 := below_next B3 hb1
  have s1 : w.heap.size + 3 ≤ w1.heap.size := by have := hb1.size; omega
  obtain ⟨hc, hf⟩ := bcell hb1
  have hz : w.heap.size + 1 + 1 < w1.heap.size := by omega
  have hz' : w.heap.size + 1 < w1.heap.size := by omega
  have hz'' : w.heap.size < w1.heap.size := by omega
  go_wp2_with fail
  have B5 : Below w.heap.size w ((w1.setCell ⟨w.heap.size + 1 + 1, 0, none⟩ (.slice bn nn nn)).setCell ⟨w.heap.size + 1 + 1, 1, none⟩ (.slice bb nb nb)) := (B4.setCell (by simp; omega) _).setCell (by simp; omega) _
  refine (toVols_any _ _ _ vs _ (by exact hv.below B5) hvn).mono ?_
  rintro e w2 ⟨rfl, r2, hb2⟩
  have B6 := below_next B5 hb2
  obtain ⟨hc2, hf2⟩ := bcell hb2
  have e1 : ((w1.setCell ⟨w.heap.size + 1 + 1, 0, none⟩ (.slice bn nn nn)).setCell ⟨w.heap.size + 1 + 1, 1, none⟩ (.slice bb nb nb)).heap.size = w1.heap.size := by simp
  rw [e1] at r2
  have hz2 : w1.heap.size ≤ w2.heap.size := by have := hb2.size; rw [e1] at this; exact this
  go_wp2
  refine bodyPost_ret (v := .agg #[.slice bn nn nn, .slice bb nb nb, .slice (some ⟨w1.heap.size, 0, none⟩) nv nv]) (by simp [results, Try.results25, go_sem, hc, hc2, hz']) rfl ?_
  have K1 : Kept w.heap.size (w.heap.size + 3) w1 w2 := by
    refine Kept.next (Kept.setCell (Kept.setCell (Kept.refl _ _ _) ?_ ?_ _) ?_ ?_ _) hb2 <;> simp <;> omega
  refine ⟨bn, bb, _, w1.heap.size, K', rfl, ?_, ?_, by omega, by simpa using hz2, ?_⟩
  · refine (FoAt.kept (l := w.heap.size) (u := w.heap.size + 3) r1 ?_ (by omega)).widen (by omega) (by omega)
    refine Kept.setCell (Kept.setCell (Kept.setCell (Kept.setCell K1 ?_ ?_ _) ?_ ?_ _) ?_ ?_ _) ?_ ?_ _ <;> simp <;> omega
  · refine RowAt.widen (RowAt.kept (l := w.heap.size) (u := w.heap.size + 3) r2 ?_ (by omega)) (by omega) (by simp)
    refine Kept.setCell (Kept.setCell (Kept.setCell (Kept.setCell (Kept.refl _ _ _) ?_ ?_ _) ?_ ?_ _) ?_ ?_ _) ?_ ?_ _ <;> simp <;> omega
  · refine Below.setCell (Below.setCell (Below.setCell (Below.setCell B6 ?_ _) ?_ _) ?_ _) ?_ _ <;> simp <;> omega
end

set_option maxRecDepth 20000 in
set_option maxHeartbeats 1000000 in
theorem eqPool_yes {o1 o2 o3 o4 : Bool} {l1 u1 l2 u2 l3 u3 l4 u4 : Nat} (an1 : Option Addr) (n1 cn1 : Nat) (ab1 : Option Addr) (m1 cb1 : Nat) (av1 : Option Addr) (k1 cv1 : Nat) (an2 : Option Addr) (n2 cn2 : Nat) (ab2 : Option Addr) (m2 cb2 : Nat) (av2 : Option Addr) (k2 cv2 : Nat) (K1 K2 : Nat → KS) (f : Fo) (vs : List Vo) (w : World) (h1 : FoAt w o1 l1 u1 an1 n1 cn1 ab1 m1 cb1 K1 f) (g1 : RowAt w o3 l3 u3 3 av1 k1 cv1 (trips vs)) (h2 : FoAt w o2 l2 u2 an2 n2 cn2 ab2 m2 cb2 K2 f) (g2 : RowAt w o4 l4 u4 3 av2 k2 cv2 (trips vs)) (hn : n1 ≤ 2097152) (hm : m1 ≤ 2097152) (hK : ∀ i, i < n1 → (K1 i).2.1 ≤ 2097152) (hk : k1 ≤ 2097152) :
    Calls Try.prog 29 #[.agg #[.slice an1 n1 cn1, .slice ab1 m1 cb1, .slice av1 k1 cv1], .agg #[.slice an2 n2 cn2, .slice ab2 m2 cb2, .slice av2 k2 cv2]] w fun e w' => e = .returned (.bool true) ∧ Below w.heap.size w w' := by
  have A : Below w.heap.size w ((w.alloc (.cells #[.slice an1 n1 cn1, .slice ab1 m1 cb1, .slice av1 k1 cv1] 40)).alloc (.cells #[.slice an2 n2 cn2, .slice ab2 m2 cb2, .slice av2 k2 cv2] 40)) := ((Below.refl _ _).alloc (Nat.le_refl _) _).alloc (by simp) _
  have z1 : ((w.alloc (.cells #[.slice an1 n1 cn1, .slice ab1 m1 cb1, .slice av1 k1 cv1] 40)).alloc (.cells #[.slice an2 n2 cn2, .slice ab2 m2 cb2, .slice av2 k2 cv2] 40)).cell? ⟨w.heap.size, 2, none⟩ = some (.slice av1 k1 cv1) := by simp
  have z2 : ((w.alloc (.cells #[.slice an1 n1 cn1, .slice ab1 m1 cb1, .slice av1 k1 cv1] 40)).alloc (.cells #[.slice an2 n2 cn2, .slice ab2 m2 cb2, .slice av2 k2 cv2] 40)).cell? ⟨w.heap.size + 1, 2, none⟩ = some (.slice av2 k2 cv2) := by simp
  go_enter Try.func29, Try.ntmps29
  go_wp2_with fail
  refine (eqForest_yes _ _ _ _ _ _ _ _ _ _ _ _ K1 K2 f _ (by exact h1.below A) (by exact h2.below A) hn hm hK).mono ?_
  rintro e w1 ⟨rfl, hb⟩
  replace z1 := cell_later hb z1
  replace z2 := cell_later hb z2
  replace A := below_next A hb
  clear hb
  go_wp2_with fail
  refine (eqVols_yes _ _ _ _ _ _ vs _ (by exact g1.below A) (by exact g2.below A) hk).mono ?_
  rintro e w2 ⟨rfl, hb⟩
  replace A := below_next A hb
  clear hb z1 z2
  go_wp2
  go_ret
  exact ⟨rfl, A⟩

end Go.Proofs.Ytedgppggaceopaa

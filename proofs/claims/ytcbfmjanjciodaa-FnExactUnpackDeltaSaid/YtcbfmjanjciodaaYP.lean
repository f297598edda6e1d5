/- Chapter 5, plain: volumes, how many blocks a tree has, the fault of a pool. -/
import Derived.Test.YtcbfmjanjciodaaZZ
import Derived.Test.YtcbfmjanjciodaaZM
import Derived.Test.YtcbfmjanjciodaaZV
import Derived.Test.YtcbfmjanjciodaaZU
import Derived.BigQuiet
namespace Go.Proofs.Ytcbfmjanjciodaa
open Go.RowKit

abbrev Vo := Int × Int × Int
def vo0 : Vo := (0, 0, 0)
def trips (vs : List Vo) : List Value := flat3 vs.length (fun i => .int .i64 (vs.getD i vo0).1) (fun i => .int .i64 (vs.getD i vo0).2.1) (fun i => .int .i64 (vs.getD i vo0).2.2)
theorem trips_len (vs : List Vo) : (trips vs).length = vs.length * 3 := flat3_len _ _ _ _
theorem trips_get0 (vs : List Vo) (k : Nat) (h : k < vs.length) : (trips vs).getD (k * 3) default = .int .i64 (vs.getD k vo0).1 := by rw [trips, flat3_get0 _ _ _ _ _ h]
theorem trips_get1 (vs : List Vo) (k : Nat) (h : k < vs.length) : (trips vs).getD (k * 3 + 1) default = .int .i64 (vs.getD k vo0).2.1 := by rw [trips, flat3_get1 _ _ _ _ _ h]
theorem trips_get2 (vs : List Vo) (k : Nat) (h : k < vs.length) : (trips vs).getD (k * 3 + 2) default = .int .i64 (vs.getD k vo0).2.2 := by rw [trips, flat3_get2 _ _ _ _ _ h]
theorem RowAt.nTrips {w : World} {own : Bool} {lo hi : Nat} {ao : Option Addr} {n cap : Nat} {vs : List Vo} (h : RowAt w own lo hi 3 ao n cap (trips vs)) : vs.length = n := by
  have hl := h.len; rw [trips_len] at hl; omega
theorem RowAt.trip {w : World} {own : Bool} {lo hi : Nat} {ao : Option Addr} {n cap : Nat} {vs : List Vo} (h : RowAt w own lo hi 3 ao n cap (trips vs)) {i : Nat} (hi' : i < n) :
    ∃ b off, ao = some ⟨b, off, none⟩ ∧ lo ≤ b ∧ b < hi ∧ b < w.heap.size ∧ w.cell? ⟨b, off + i * 3, none⟩ = some (.int .i64 (vs.getD i vo0).1) ∧ w.cell? ⟨b, off + i * 3 + 1, none⟩ = some (.int .i64 (vs.getD i vo0).2.1) ∧ w.cell? ⟨b, off + i * 3 + 2, none⟩ = some (.int .i64 (vs.getD i vo0).2.2) ∧
      (own = true → w.frozen? ⟨b, off + i * 3, none⟩ = false ∧ w.frozen? ⟨b, off + i * 3 + 1, none⟩ = false ∧ w.frozen? ⟨b, off + i * 3 + 2, none⟩ = false) := by
  obtain ⟨b, off, rfl, h1, h2, h3, h4, h5⟩ := h.cells (by omega)
  have hl := h.nTrips
  refine ⟨b, off, rfl, h1, h2, h3, ?_, ?_, ?_, fun ho => ⟨h5 ho _ (by omega), by rw [Nat.add_assoc]; exact h5 ho _ (by omega), by rw [Nat.add_assoc]; exact h5 ho _ (by omega)⟩⟩
  · rw [h4 _ (by omega), trips, flat3_get0 _ _ _ _ _ (by omega)]
  · rw [Nat.add_assoc, h4 _ (by omega), trips, flat3_get1 _ _ _ _ _ (by omega)]
  · rw [Nat.add_assoc, h4 _ (by omega), trips, flat3_get2 _ _ _ _ _ (by omega)]

def volIdB (x : Int) : Bool := decide (1 ≤ x ∧ x ≤ 99)
def quotaB (x : Int) : Bool := decide (1 ≤ x ∧ x ≤ 16)
def idAhead (vs : List Vo) : Nat → Int
  | 0 => 0
  | k + 1 => (vs.getD k vo0).1
end Go.Proofs.Ytcbfmjanjciodaa

/- Chapter 5: the fault of an operation, plain, and the ids of volumes. -/
namespace Go.Proofs.Ytcbfmjanjciodaa
open Go.RowKit

theorem l5Id_is (x : Int) (w : World) (d : Bool) (h : volIdB x = d) : Calls Try.prog 100 #[.int .i64 x] w fun e w' => e = .returned (.bool d) ∧ w' = w := by
  go_enter Try.func100, Try.ntmps100
  go_wp2_with fail
  refine (l1In_any x 1 99 _).mono ?_
  rintro e w1 ⟨rfl, rfl⟩
  go_wp2
  go_ret
  exact ⟨by rw [← h, volIdB, Bool.decide_and]; rfl, rfl⟩
theorem isVolId_is (x : Int) (w : World) (d : Bool) (h : volIdB x = d) : Calls Try.prog 168 #[.int .i64 x] w fun e w' => e = .returned (.bool d) ∧ w' = w := by
  unfold volIdB at h
  by_cases h1 : 1 ≤ x
  · by_cases h2 : x ≤ 99
    · have e : d = true := by rw [← h]; exact decide_eq_true ⟨h1, h2⟩
      subst e
      clear h
      go_enter Try.func168, Try.ntmps168
      go_wp2
      go_ret
      exact ⟨rfl, rfl⟩
    · have e : d = false := by rw [← h]; exact decide_eq_false (by omega)
      subst e
      clear h
      go_enter Try.func168, Try.ntmps168
      go_wp2
      go_ret
      exact ⟨rfl, rfl⟩
  · have e : d = false := by rw [← h]; exact decide_eq_false (by omega)
    subst e
    clear h
    go_enter Try.func168, Try.ntmps168
    go_wp2
    go_ret
    exact ⟨rfl, rfl⟩

end Go.Proofs.Ytcbfmjanjciodaa

/- Chapter 5: the model's fault of a pool. -/
namespace Go.Proofs.Ytcbfmjanjciodaa
open Go.RowKit

section
variable {o : Bool} {l u : Nat} (p : Nat) (an : Option Addr) (nn cn : Nat) (ab : Option Addr) (nb cb : Nat) (K : Nat → KS) (f : Fo) (w : World) (h : FoAt w o l u an nn cn ab nb cb K f) (hp0 : w.cell? ⟨p, 0, none⟩ = some (.slice an nn cn)) (hp1 : w.cell? ⟨p, 1, none⟩ = some (.slice ab nb cb)) (hn : nn ≤ 2097152)
include h hp0 hp1 hn
end

section
variable {o o2 : Bool} {l u l2 u2 : Nat} (p : Nat) (an : Option Addr) (nn cn : Nat) (ab : Option Addr) (nb cb : Nat) (av : Option Addr) (nv cv : Nat) (K : Nat → KS) (f : Fo) (vs : List Vo) (w : World) (h : FoAt w o l u an nn cn ab nb cb K f) (hv : RowAt w o2 l2 u2 3 av nv cv (trips vs)) (hp0 : w.cell? ⟨p, 0, none⟩ = some (.slice an nn cn)) (hp1 : w.cell? ⟨p, 1, none⟩ = some (.slice ab nb cb)) (hp2 : w.cell? ⟨p, 2, none⟩ = some (.slice av nv cv)) (hn : nn ≤ 2097152) (hb : nb ≤ 2097152) (hK : ∀ i, i < nn → (K i).2.1 ≤ 2097152)
include h hv hp0 hp1 hp2 hn hb hK

end

end Go.Proofs.Ytcbfmjanjciodaa

/- Chapter 5: the model's fault of a pool, whole. -/
namespace Go.Proofs.Ytcbfmjanjciodaa
open Go.RowKit

section
variable {o o2 : Bool} {l u l2 u2 : Nat} (p : Nat) (an : Option Addr) (nn cn : Nat) (ab : Option Addr) (nb cb : Nat) (av : Option Addr) (nv cv : Nat) (K : Nat → KS) (f : Fo) (vs : List Vo) (w : World) (h : FoAt w o l u an nn cn ab nb cb K f) (hv : RowAt w o2 l2 u2 3 av nv cv (trips vs)) (hp0 : w.cell? ⟨p, 0, none⟩ = some (.slice an nn cn)) (hp1 : w.cell? ⟨p, 1, none⟩ = some (.slice ab nb cb)) (hp2 : w.cell? ⟨p, 2, none⟩ = some (.slice av nv cv)) (hn : nn ≤ 2097152) (hb : nb ≤ 2097152) (hK : ∀ i, i < nn → (K i).2.1 ≤ 2097152)
include h hv hp0 hp1 hp2 hn hb hK

end
section
variable {o o2 : Bool} {l u l2 u2 : Nat} (an : Option Addr) (nn cn : Nat) (ab : Option Addr) (nb cb : Nat) (av : Option Addr) (nv cv : Nat) (K : Nat → KS) (f : Fo) (vs : List Vo) (w : World) (h : FoAt w o l u an nn cn ab nb cb K f) (hv : RowAt w o2 l2 u2 3 av nv cv (trips vs)) (hn : nn ≤ 2097152) (hb : nb ≤ 2097152) (hK : ∀ i, i < nn → (K i).2.1 ≤ 2097152) (hvn : nv ≤ 2097152)
include h hv hn hb hK hvn
end

end Go.Proofs.Ytcbfmjanjciodaa

/- Chapter 5: the program's fault of a pool. -/
namespace Go.Proofs.Ytcbfmjanjciodaa
open Go.RowKit

section
variable {o : Bool} {l u : Nat} (an : Option Addr) (nn cn : Nat) (ab : Option Addr) (nb cb : Nat) (K : Nat → KS) (f : Fo) (w : World) (h : FoAt w o l u an nn cn ab nb cb K f)
include h
set_option maxRecDepth 20000 in
set_option maxHeartbeats 2000000 in
theorem isVol_is (hn : nn ≤ 2097152) (hb : nb ≤ 2097152) (id qu rt : Int) (d : Bool) (hd : (volIdB id && quotaB qu && rootOk f rt) = d) : Calls Try.prog 141 #[.agg #[.slice an nn cn, .slice ab nb cb], .agg #[.int .i64 id, .int .i64 qu, .int .i64 rt]] w fun e w' => e = .returned (.bool d) ∧ Below w.heap.size w w' := by
  have A : Below w.heap.size w ((w.alloc (.cells #[.slice an nn cn, .slice ab nb cb] 41)).alloc (.cells #[.int .i64 id, .int .i64 qu, .int .i64 rt] 149)) := ((Below.refl _ _).alloc (Nat.le_refl _) _).alloc (by simp) _
  have HD : Hid _ := hd
  clear hd
  obtain ⟨b1, h1⟩ : ∃ b, volIdB id = b := ⟨_, rfl⟩
  go_enter Try.func141, Try.ntmps141
  go_wp2_with fail
  refine (isVolId_is id _ b1 h1).mono ?_
  rintro e _ ⟨rfl, rfl⟩
  cases b1 with
  | false =>
    go_wp2
    go_ret
    exact ⟨by rw [← HD.out, h1]; rfl, A⟩
  | true =>
    by_cases q1 : 1 ≤ qu
    · by_cases q2 : qu ≤ 16
      · have hq : quotaB qu = true := decide_eq_true ⟨q1, q2⟩
        have d1 : decide (1 ≤ qu) = true := decide_eq_true q1
        have d2 : decide (qu ≤ 16) = true := decide_eq_true q2
        have HE : Hid (rootOk f rt = d) := by show _ = _; rw [← HD.out, h1, hq]; rfl
        go_wp2_with fail
        refine (isRoot_is an nn cn ab nb cb K f _ (h.below A) hn hb rt d HE.out).mono ?_
        rintro e w1 ⟨rfl, B1⟩
        replace B1 := below_next A B1
        go_wp2
        go_ret
        exact ⟨rfl, B1⟩
      · have hq : quotaB qu = false := decide_eq_false (by omega)
        have d1 : decide (1 ≤ qu) = true := decide_eq_true q1
        have d2 : decide (qu ≤ 16) = false := decide_eq_false q2
        go_wp2
        go_ret
        exact ⟨by rw [← HD.out, h1, hq]; rfl, A⟩
    · have hq : quotaB qu = false := decide_eq_false (by omega)
      have d1 : decide (1 ≤ qu) = false := decide_eq_false q1
      go_wp2
      go_ret
      exact ⟨by rw [← HD.out, h1, hq]; rfl, A⟩
end

section
variable {o o2 : Bool} {l u l2 u2 : Nat} (an : Option Addr) (nn cn : Nat) (ab : Option Addr) (nb cb : Nat) (av : Option Addr) (nv cv : Nat) (K : Nat → KS) (f : Fo) (vs : List Vo) (w : World) (h : FoAt w o l u an nn cn ab nb cb K f) (hv : RowAt w o2 l2 u2 3 av nv cv (trips vs))
include h hv
end

end Go.Proofs.Ytcbfmjanjciodaa

/- Chapter 5: the place of a volume, by the model. -/
namespace Go.Proofs.Ytcbfmjanjciodaa
open Go.RowKit

def volFrom (vs : List Vo) (id : Int) : Nat → Nat → Int
  | 0, _ => -1
  | n + 1, k => if (vs.getD k vo0).1 = id then (k : Int) else volFrom vs id n (k + 1)
def volPl (vs : List Vo) (id : Int) : Int := volFrom vs id vs.length 0
theorem volFrom_step {vs : List Vo} {id : Int} {k : Nat} (h : k < vs.length) : volFrom vs id (vs.length - k) k = if (vs.getD k vo0).1 = id then (k : Int) else volFrom vs id (vs.length - (k + 1)) (k + 1) := by
  rw [show vs.length - k = vs.length - (k + 1) + 1 by omega]; rfl
theorem volFrom_end {vs : List Vo} {id : Int} {k : Nat} (h : vs.length ≤ k) : volFrom vs id (vs.length - k) k = -1 := by
  rw [show vs.length - k = 0 by omega]; rfl
theorem volFrom_is (vs : List Vo) (id : Int) (n k : Nat) : volFrom vs id n k = -1 ∨ ∃ m : Nat, volFrom vs id n k = m ∧ k ≤ m ∧ m < k + n ∧ (vs.getD m vo0).1 = id := by
  induction n generalizing k with
  | zero => exact Or.inl rfl
  | succ n ih =>
    unfold volFrom
    by_cases h : (vs.getD k vo0).1 = id
    · rw [if_pos h]; exact Or.inr ⟨k, rfl, Nat.le_refl _, by omega, h⟩
    · rw [if_neg h]
      rcases ih (k + 1) with e | ⟨m, e, h1, h2, h3⟩
      · exact Or.inl e
      · exact Or.inr ⟨m, e, by omega, by omega, h3⟩
theorem volPl_is (vs : List Vo) (id : Int) : volPl vs id = -1 ∨ ∃ m : Nat, volPl vs id = m ∧ m < vs.length ∧ (vs.getD m vo0).1 = id := by
  rcases volFrom_is vs id vs.length 0 with e | ⟨m, e, _, h2, h3⟩
  · exact Or.inl e
  · exact Or.inr ⟨m, e, by omega, h3⟩
section
variable {o2 : Bool} {l2 u2 : Nat} (p : Nat) (av : Option Addr) (nv cv : Nat) (vs : List Vo) (w : World) (hv : RowAt w o2 l2 u2 3 av nv cv (trips vs)) (hp2 : w.cell? ⟨p, 2, none⟩ = some (.slice av nv cv)) (hvn : nv ≤ 2097152)
include hv hp2 hvn
end

section
variable {o o2 : Bool} {l u l2 u2 : Nat} (an : Option Addr) (nn cn : Nat) (ab : Option Addr) (nb cb : Nat) (av : Option Addr) (nv cv : Nat) (K : Nat → KS) (f : Fo) (vs : List Vo) (w : World) (h : FoAt w o l u an nn cn ab nb cb K f) (hv : RowAt w o2 l2 u2 3 av nv cv (trips vs)) (hn : nn ≤ 2097152) (hb : nb ≤ 2097152) (hK : ∀ i, i < nn → (K i).2.1 ≤ 2097152) (hvn : nv ≤ 2097152)
include h hv hn hb hK hvn
end

end Go.Proofs.Ytcbfmjanjciodaa

/- Chapter 5: the place of a volume, by the program. -/
namespace Go.Proofs.Ytcbfmjanjciodaa
open Go.RowKit
theorem volIs (x y z id : Int) (pb : Nat) (w : World) (hp : w.cell? ⟨pb, 0, none⟩ = some (.int .i64 id)) (d : Bool) (hd : decide (x = id) = d) : Calls Try.prog 204 #[.agg #[.int .i64 x, .int .i64 y, .int .i64 z], .pointer (some ⟨pb, 0, none⟩)] w fun e w' => e = .returned (.bool d) ∧ Below w.heap.size w w' := by
  have A : Below w.heap.size w (w.alloc (.cells #[.int .i64 x, .int .i64 y, .int .i64 z] 149)) := (Below.refl _ _).alloc (Nat.le_refl _) _
  have g := cell_later A hp
  subst hd
  go_enter Try.func204, Try.ntmps204
  go_wp2
  go_ret
  exact ⟨rfl, A⟩
set_option maxRecDepth 20000 in
set_option maxHeartbeats 1000000 in
theorem indexFunc_is {o2 : Bool} {l2 u2 : Nat} (av : Option Addr) (nv cv : Nat) (vs : List Vo) (w : World) (hv : RowAt w o2 l2 u2 3 av nv cv (trips vs)) (hvn : nv ≤ 2097152) (pb : Nat) (id : Int) (hp : w.cell? ⟨pb, 0, none⟩ = some (.int .i64 id)) (d : Int) (hd : volPl vs id = d) : Calls Try.prog 203 #[.slice av nv cv, .func (.func 204) #[] #[.pointer (some ⟨pb, 0, none⟩)]] w fun e w' => e = .returned (.int .i64 d) ∧ Below w.heap.size w w' := by
  have hvl := hv.nTrips
  have HD : Hid _ := hd
  clear hd
  go_enter Try.func203, Try.ntmps203
  go_wp2
  go_loopw [8] (fun i wr => ∃ k : Nat, k ≤ nv ∧ i = .int .i64 k ∧ volPl vs id = volFrom vs id (nv - k) k ∧ Below w.heap.size w wr) (fun i _ => nv - (intOf i).toNat)
  case atStart => exact ⟨0, Nat.zero_le _, rfl, by rw [Nat.sub_zero, ← hvl]; rfl, Below.refl _ _⟩
  case round =>
    obtain ⟨k, hk, rfl, ha, B⟩ := hrel
    have HA : Hid _ := ha
    clear ha
    have g := cell_later B hp
    by_cases hlt : k < nv
    · have HS : Hid _ := volFrom_step (vs := vs) (id := id) (k := k) (by omega)
      rw [hvl] at HS
      obtain ⟨b, off, rfl, _, _, hbs, v0, v1, v2, _⟩ := hv.trip hlt
      replace v0 := (B.cell (p := ⟨b, off + k * 3, none⟩) hbs).trans v0
      replace v1 := (B.cell (p := ⟨b, off + k * 3 + 1, none⟩) hbs).trans v1
      replace v2 := (B.cell (p := ⟨b, off + k * 3 + 2, none⟩) hbs).trans v2
      have hlk : (k : Int) < (nv : Int) := by omega
      obtain ⟨⟨x, y, z⟩, hx⟩ : ∃ x, vs.getD k vo0 = x := ⟨_, rfl⟩
      rw [hx] at v0 v1 v2 HS
      simp only at v0 v1 v2 HS
      clear hx
      obtain ⟨dd, hdd⟩ : ∃ dd, decide (x = id) = dd := ⟨_, rfl⟩
      go_wp2_with fail
      refine (volIs x y z id pb _ g dd hdd).mono ?_
      rintro e w1 ⟨rfl, B1⟩
      replace B := below_step B B.size B1
      clear B1 g v0 v1 v2
      cases dd with
      | true =>
        have HE : Hid (volPl vs id = (k : Int)) := HA.out.trans (HS.out.trans (if_pos (of_decide_eq_true hdd)))
        clear HS HA hdd
        go_wp2
        go_ret
        exact ⟨ret_int (by rw [← HD.out, HE.out]), B⟩
      | false =>
        have HE : Hid _ := HA.out.trans (HS.out.trans (if_neg (of_decide_eq_false hdd)))
        clear HS HA hdd
        go_wp2
        go_roundw
        case rel => exact ⟨k + 1, by omega, by go_num, HE.out, B⟩
        case measure => simp [intOf]; omega
    · obtain rfl : k = nv := by omega
      have HE : Hid (volPl vs id = -1) := by show _ = _; rw [HA.out, ← hvl]; exact volFrom_end (Nat.le_refl _)
      go_wp2
      go_ret
      exact ⟨ret_int (by rw [← HD.out, HE.out]), B⟩
theorem volPlace_is {o2 : Bool} {l2 u2 : Nat} (av : Option Addr) (nv cv : Nat) (vs : List Vo) (w : World) (hv : RowAt w o2 l2 u2 3 av nv cv (trips vs)) (hvn : nv ≤ 2097152) (id : Int) (d : Int) (hd : volPl vs id = d) : Calls Try.prog 160 #[.slice av nv cv, .int .i64 id] w fun e w' => e = .returned (.int .i64 d) ∧ Below w.heap.size w w' := by
  have A : Below w.heap.size w (w.alloc (.cells #[.int .i64 id] 2)) := (Below.refl _ _).alloc (Nat.le_refl _) _
  go_enter Try.func160, Try.ntmps160
  go_wp2_with fail
  refine (indexFunc_is av nv cv vs _ (hv.below A) hvn w.heap.size id (by simp) d hd).mono ?_
  rintro e w1 ⟨rfl, B1⟩
  replace B1 := below_next A B1
  go_wp2
  go_ret
  exact ⟨rfl, B1⟩

end Go.Proofs.Ytcbfmjanjciodaa

/- Chapter 5: volumes and pools copied, compared and counted by the laws. -/
namespace Go.Proofs.Ytcbfmjanjciodaa
open Go.RowKit

theorem toVol_any (x y z : Int) (w : World) :
    Calls Try.prog 139 #[.agg #[.int .i64 x, .int .i64 y, .int .i64 z]] w fun e w' => e = .returned (.agg #[.int .i64 x, .int .i64 y, .int .i64 z]) ∧ Below w.heap.size w w' := by
  go_enter Try.func139, Try.ntmps139
  go_wp2
  refine bodyPost_ret (v := .agg #[.int .i64 x, .int .i64 y, .int .i64 z]) (by simp [results, Try.results139, go_sem]) rfl ⟨rfl, ?_⟩
  exact ((((Below.refl _ _).alloc (Nat.le_refl _) _).alloc (by simp) _).alloc (by simp; omega) _)
theorem Try.infoVol : (Try.prog.info? 149).map (fun i => (i.zero, i.size, i.bytes)) = some (some (.agg #[.int .i64 0, .int .i64 0, .int .i64 0]), 3, 24) := by kernel_rfl
theorem made3 (n : Nat) : (madeCells #[.int .i64 0, .int .i64 0, .int .i64 0] (n * 3)).toList = List.replicate (n * 3) (.int .i64 0) := by
  apply List.ext_getElem?
  intro j
  by_cases hj : j < n * 3
  · have : j % 3 = 0 ∨ j % 3 = 1 ∨ j % 3 = 2 := by omega
    rcases this with e | e | e <;> simp [madeCells, hj, e]
  · simp [madeCells, hj]
theorem trips_getD0 (vs : List Vo) (k : Nat) (h : k < vs.length) : (trips vs).getD (k * 3) default = .int .i64 (vs.getD k vo0).1 := by rw [trips, flat3_get0 _ _ _ _ _ h]
theorem trips_getD1 (vs : List Vo) (k : Nat) (h : k < vs.length) : (trips vs).getD (k * 3 + 1) default = .int .i64 (vs.getD k vo0).2.1 := by rw [trips, flat3_get1 _ _ _ _ _ h]
theorem trips_getD2 (vs : List Vo) (k : Nat) (h : k < vs.length) : (trips vs).getD (k * 3 + 2) default = .int .i64 (vs.getD k vo0).2.2 := by rw [trips, flat3_get2 _ _ _ _ _ h]

set_option maxHeartbeats 800000 in
theorem toVols_any {own : Bool} {lo hi : Nat} (ao : Option Addr) (n cap : Nat) (xs : List Vo) (w : World) (h : RowAt w own lo hi 3 ao n cap (trips xs)) (hn : n ≤ 1048576) :
    Calls Try.prog 67 #[.slice ao n cap] w fun e w' => e = .returned (.slice (some ⟨w.heap.size, 0, none⟩) n n) ∧ RowAt w' true w.heap.size w'.heap.size 3 (some ⟨w.heap.size, 0, none⟩) n n (trips xs) ∧ Below w.heap.size w w' := by
  have hx := h.nTrips
  obtain ⟨i0, hi0, hz0, hz1, hz2⟩ := info_parts Try.infoVol
  go_enter Try.func67, Try.ntmps67
  go_wp2_with (first | (at_make; refine wpList_make_full _ rfl _ _ 30 rfl w.heap.size 149 i0 (.agg #[.int .i64 0, .int .i64 0, .int .i64 0]) 3 Try.underlying30 hi0 hz0 hz1 _ _ _ _ n rfl rfl rfl rfl ?b1 ?b2 ?b3 ?_))
  case b1 => rw [hz2]; omega
  case b2 => unfold maxLen; omega
  case b3 => exact Nat.le_refl _
  intro w1 hown hgrow
  have hb1 : Below w.heap.size w w1 := (Below.refl _ _).grown hgrow (Nat.le_refl _) (fun k hk => by cases hk)
  have hown0 : w1.ownsRow w.heap.size 149 3 (.slice (some ⟨w.heap.size, 0, none⟩) n n) n (cop (trips xs) (.int .i64 0) (0 * 3)) := by
    rw [Nat.zero_mul, cop_zero, trips_len, hx]; simpa [Value.cells, made3] using hown
  clear hown hgrow
  go_wp2
  go_loopw [4] (fun i wr => ∃ k : Nat, k ≤ n ∧ i = .int .i64 k ∧ wr.ownsRow w.heap.size 149 3 (.slice (some ⟨w.heap.size, 0, none⟩) n n) n (cop (trips xs) (.int .i64 0) (k * 3)) ∧ Below w.heap.size w wr) (fun i _ => n - (intOf i).toNat)
  case atStart => exact ⟨0, Nat.zero_le _, rfl, hown0, hb1⟩
  case round =>
    obtain ⟨k, hk, rfl, hown, hb⟩ := hrel
    clear hown0 hb1
    by_cases hlt : k < n
    · obtain ⟨b, off, rfl, _, _, hbs, hc0, hc1, hc2, _⟩ := h.trip hlt
      have hcr0 := (hb.cell (p := ⟨b, off + k * 3, none⟩) hbs).trans hc0
      have hcr1 := (hb.cell (p := ⟨b, off + k * 3 + 1, none⟩) hbs).trans hc1
      have hcr2 := (hb.cell (p := ⟨b, off + k * 3 + 2, none⟩) hbs).trans hc2
      have R : ∀ w1, Below wr.heap.size wr w1 → w1.cell? ⟨w.heap.size, k * 3, none⟩ = some (.int .i64 0) ∧ w1.cell? ⟨w.heap.size, k * 3 + 1, none⟩ = some (.int .i64 0) ∧ w1.cell? ⟨w.heap.size, k * 3 + 2, none⟩ = some (.int .i64 0) ∧ w1.frozen? ⟨w.heap.size, k * 3, none⟩ = false ∧ w1.frozen? ⟨w.heap.size, k * 3 + 1, none⟩ = false ∧ w1.frozen? ⟨w.heap.size, k * 3 + 2, none⟩ = false ∧
          (((w1.setCell ⟨w.heap.size, k * 3, none⟩ (.int .i64 (xs.getD k vo0).1)).setCell ⟨w.heap.size, k * 3 + 1, none⟩ (.int .i64 (xs.getD k vo0).2.1)).setCell ⟨w.heap.size, k * 3 + 2, none⟩ (.int .i64 (xs.getD k vo0).2.2)).ownsRow w.heap.size 149 3 (.slice (some ⟨w.heap.size, 0, none⟩) n n) n (cop (trips xs) (.int .i64 0) ((k + 1) * 3)) ∧
          Below w.heap.size w (((w1.setCell ⟨w.heap.size, k * 3, none⟩ (.int .i64 (xs.getD k vo0).1)).setCell ⟨w.heap.size, k * 3 + 1, none⟩ (.int .i64 (xs.getD k vo0).2.1)).setCell ⟨w.heap.size, k * 3 + 2, none⟩ (.int .i64 (xs.getD k vo0).2.2)) := by
        intro w1 hb1
        have ho := owns_below hown hb1
        have hl : (trips xs).length = n * 3 := by rw [trips_len, hx]
        refine ⟨?_, ?_, ?_, ho.frozenAt _, ho.frozenAt _, ho.frozenAt _, ?_, ?_⟩
        · rw [ho.cellAt _ (by omega), cop_get _ _ _ _ (by omega) (by omega)]
        · rw [ho.cellAt _ (by omega), cop_get _ _ _ _ (by omega) (by omega)]
        · rw [ho.cellAt _ (by omega), cop_get _ _ _ _ (by omega) (by omega)]
        · have r := (((ho.stored (k * 3) (.int .i64 (xs.getD k vo0).1)).1.stored (k * 3 + 1) (.int .i64 (xs.getD k vo0).2.1)).1.stored (k * 3 + 2) (.int .i64 (xs.getD k vo0).2.2)).1
          rwa [cop_set _ _ _ (k * 3) (by omega) (trips_getD0 xs k (by omega)), cop_set _ _ _ (k * 3 + 1) (by omega) (trips_getD1 xs k (by omega)), cop_set _ _ _ (k * 3 + 2) (by omega) (trips_getD2 xs k (by omega)), show k * 3 + 2 + 1 = (k + 1) * 3 by omega] at r
        · exact (((below_step hb hb.size hb1).setCell (p := ⟨w.heap.size, k * 3, none⟩) (Nat.le_refl _) _).setCell (p := ⟨w.heap.size, k * 3 + 1, none⟩) (Nat.le_refl _) _).setCell (p := ⟨w.heap.size, k * 3 + 2, none⟩) (Nat.le_refl _) _
      clear hc0 hc1 hc2 hown hb
      generalize (xs.getD k vo0).1 = x at *
      generalize (xs.getD k vo0).2.1 = y at *
      generalize (xs.getD k vo0).2.2 = z at *
      have HR : Hid _ := R
      clear R
      go_wp2_with fail
      refine (toVol_any _ _ _ _).mono ?_
      rintro e w1 ⟨rfl, hb1⟩
      obtain ⟨a0, a1, a2, a3, a4, a5, a6, a7⟩ := HR.out w1 hb1
      clear HR hb1 hcr0 hcr1 hcr2
      go_wp2
      go_roundw
      case rel => exact ⟨k + 1, by omega, by go_num, a6, a7⟩
      case measure => simp [intOf]; omega
    · go_wp2
      go_ret
      have hkn : k * 3 = (trips xs).length := by rw [trips_len]; omega
      rw [hkn, cop_all] at hown
      exact ⟨rfl, RowAt.of_owns hown (Nat.le_refl _), hb⟩

theorem eqVol_yes (x y z : Int) (w : World) :
    Calls Try.prog 150 #[.agg #[.int .i64 x, .int .i64 y, .int .i64 z], .agg #[.int .i64 x, .int .i64 y, .int .i64 z]] w fun e w' => e = .returned (.bool true) ∧ Below w.heap.size w w' := by
  have e1 : (x != x) = false := by simp
  have e2 : (y != y) = false := by simp
  have e3 : (z != z) = false := by simp
  go_enter Try.func150, Try.ntmps150
  go_wp2
  go_ret
  exact ⟨rfl, (((Below.refl _ _).alloc (Nat.le_refl _) _).alloc (by simp) _)⟩

set_option maxRecDepth 20000 in
set_option maxHeartbeats 1600000 in
theorem eqVols_yes {o1 o2 : Bool} {l1 u1 l2 u2 : Nat} (a1 a2 : Option Addr) (n c1 m c2 : Nat) (xs : List Vo) (w : World) (h1 : RowAt w o1 l1 u1 3 a1 n c1 (trips xs)) (h2 : RowAt w o2 l2 u2 3 a2 m c2 (trips xs)) (hn : n ≤ 2097152) :
    Calls Try.prog 73 #[.slice a1 n c1, .slice a2 m c2] w fun e w' => e = .returned (.bool true) ∧ Below w.heap.size w w' := by
  obtain rfl : n = m := by rw [← h1.nTrips, ← h2.nTrips]
  have hb0 : ((n : Int) != (n : Int)) = false := by simp
  go_enter Try.func73, Try.ntmps73
  go_wp2
  go_loopw [5] (fun i wr => ∃ k : Nat, k ≤ n ∧ i = .int .i64 k ∧ Below w.heap.size w wr) (fun i _ => n - (intOf i).toNat)
  case atStart => exact ⟨0, Nat.zero_le _, rfl, Below.refl _ _⟩
  case round =>
    obtain ⟨k, hk, rfl, hb⟩ := hrel
    by_cases hlt : k < n
    · obtain ⟨b1, o1, rfl, _, _, hs1, e1, e2, e3, _⟩ := h1.trip hlt
      obtain ⟨b2, o2, rfl, _, _, hs2, f1, f2, f3, _⟩ := h2.trip hlt
      replace e1 := (hb.cell (p := ⟨b1, o1 + k * 3, none⟩) hs1).trans e1
      replace e2 := (hb.cell (p := ⟨b1, o1 + k * 3 + 1, none⟩) hs1).trans e2
      replace e3 := (hb.cell (p := ⟨b1, o1 + k * 3 + 2, none⟩) hs1).trans e3
      replace f1 := (hb.cell (p := ⟨b2, o2 + k * 3, none⟩) hs2).trans f1
      replace f2 := (hb.cell (p := ⟨b2, o2 + k * 3 + 1, none⟩) hs2).trans f2
      replace f3 := (hb.cell (p := ⟨b2, o2 + k * 3 + 2, none⟩) hs2).trans f3
      have hl : (k : Int) < (n : Int) := by omega
      generalize (xs.getD k vo0).1 = x at *
      generalize (xs.getD k vo0).2.1 = y at *
      generalize (xs.getD k vo0).2.2 = z at *
      go_wp2_with fail
      have D : Below wr.heap.size wr wr.drew := (Below.refl _ _).drew
      replace e1 := cell_later D e1
      replace e2 := cell_later D e2
      replace e3 := cell_later D e3
      replace f1 := cell_later D f1
      replace f2 := cell_later D f2
      replace f3 := cell_later D f3
      replace hb := below_step hb hb.size D
      clear D
      go_region_held3 (fun w' => w'.cell? ⟨b1, o1 + k * 3, none⟩ = some (.int .i64 x) ∧ w'.cell? ⟨b1, o1 + k * 3 + 1, none⟩ = some (.int .i64 y) ∧ w'.cell? ⟨b1, o1 + k * 3 + 2, none⟩ = some (.int .i64 z) ∧ w'.cell? ⟨b2, o2 + k * 3, none⟩ = some (.int .i64 x) ∧ w'.cell? ⟨b2, o2 + k * 3 + 1, none⟩ = some (.int .i64 y) ∧ w'.cell? ⟨b2, o2 + k * 3 + 2, none⟩ = some (.int .i64 z)) (exact ⟨e1, e2, e3, f1, f2, f3⟩) (first | (go_at_call 150; refine (eqVol_yes x y z _).mono ?_; rintro e w1 ⟨rfl, B1⟩; replace e1 := cell_later B1 e1; replace e2 := cell_later B1 e2; replace e3 := cell_later B1 e3; replace f1 := cell_later B1 f1; replace f2 := cell_later B1 f2; replace f3 := cell_later B1 f3; replace hb := below_step hb hb.size B1; clear B1))
      clear e1 e2 e3 f1 f2 f3
      go_wp2
      go_roundw
      case rel => exact ⟨k + 1, by omega, by go_num, hb⟩
      case measure => simp [intOf]; omega
    · go_wp2
      go_ret
      exact ⟨rfl, hb⟩

theorem szVols_left (ao : Option Addr) (n c : Nat) (lt : Int) (w : World) (hn : n ≤ maxLen) (h0 : 0 ≤ lt) (h1 : lt ≤ 1048576) :
    Calls Try.prog 63 #[.slice ao n c, .int .i64 lt] w fun e w' => e = .returned (.int .i64 (if lt < n then -1 else lt - n)) ∧ w' = w := by
  unfold maxLen at hn
  by_cases h : lt < n
  all_goals
    go_enter Try.func63, Try.ntmps63
    go_wp2
    go_ret
    exact ⟨by simp, rfl⟩

section
variable {o o2 : Bool} {l u l2 u2 : Nat} (an : Option Addr) (nn cn : Nat) (ab : Option Addr) (nb cb : Nat) (av : Option Addr) (nv cv : Nat) (K : Nat → KS) (f : Fo) (vs : List Vo) (w : World) (h : FoAt w o l u an nn cn ab nb cb K f) (hv : RowAt w o2 l2 u2 3 av nv cv (trips vs))
include h hv
end

section
variable {o o2 : Bool} {l u l2 u2 : Nat} (an : Option Addr) (nn cn : Nat) (ab : Option Addr) (nb cb : Nat) (av : Option Addr) (nv cv : Nat) (K : Nat → KS) (f : Fo) (vs : List Vo) (w : World) (h : FoAt w o l u an nn cn ab nb cb K f) (hv : RowAt w o2 l2 u2 3 av nv cv (trips vs))
include h hv
end

end Go.Proofs.Ytcbfmjanjciodaa

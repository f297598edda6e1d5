/- What the program's inner functions over its array of words answer. -/
import Derived.Test.YtkdaphfmhdkhfaaFault
import Derived.Deep.MidRow
import Derived.Deep.RegionHeld3
namespace Go.Proofs.Ytkdaphfmhdkhfaa
open Go.RowKit

def pad (xs : List Int) : List Int := xs ++ List.replicate (64 - xs.length) 0
theorem pad_len {xs : List Int} (h : xs.length ≤ 64) : (pad xs).length = 64 := by simp [pad]; omega
theorem pad_same {xs : List Int} (h : xs.length = 64) : pad xs = xs := by simp [pad, h]
theorem ints_pad (xs : List Int) (h : xs.length ≤ 64) : cop (ints (pad xs)) (.int .i64 0) xs.length = ints (pad xs) := by
  have hl := pad_len h
  unfold cop
  rw [ints_length, hl]
  simp [ints, pad]
theorem pad_getD {xs : List Int} {k : Nat} (h : k < xs.length) : (pad xs).getD k 0 = xs.getD k 0 := by
  simp [pad, List.getD, List.getElem?_append_left h]

theorem Try.infoSec : (Try.prog.info? 153).map (·.size) = some 64 := by kernel_rfl
theorem ints_one (zs : List Int) : (ints zs).toArray.all (·.oneCell') = true := all_oneCell_toArray (ints_oneCell _ _)
theorem below_setRow' {B g : Nat} {a w : World} (h : Below B a w) (hg : B ≤ g) (cs : Array Value) : Below B a (w.setRow g cs) :=
  h.trans ⟨rfl, rfl, rfl, by simp, fun k hk => setRow_other w g k cs (by omega)⟩

set_option maxHeartbeats 1000000 in
theorem sectorsOf_any {o0 : Bool} {l0 u0 : Nat} (a0 : Option Addr) (n0 c0 : Nat) (xs : List Int) (w : World) (h0 : RowAt w o0 l0 u0 1 a0 n0 c0 (ints xs)) (hn : n0 ≤ 64) :
    Calls Try.prog 142 #[.slice a0 n0 c0] w fun e w' => e = .returned (.agg (ints (pad xs)).toArray) ∧ Below w.heap.size w w' := by
  have hx := h0.nInts
  have hp : (ints (pad xs)).length = 64 := by rw [ints_length]; exact pad_len (by omega)
  go_enter Try.func142, Try.ntmps142
  go_wp2
  go_loopw [7] (fun i wr => ∃ k : Nat, k ≤ n0 ∧ i = .int .i64 k ∧ wr.heap[w.heap.size + 1]? = some (.cells (cop (ints (pad xs)) (.int .i64 0) k).toArray 153 (0, 0)) ∧ wr.heap[w.heap.size]? = some (.cells (List.replicate 64 (.int .i64 0)).toArray 153 (0, 0)) ∧ Below w.heap.size w wr) (fun i _ => n0 - (intOf i).toNat)
  case atStart =>
    refine ⟨0, Nat.zero_le _, rfl, ?_, ?_, ((Below.refl _ _).alloc (Nat.le_refl _) _).alloc (by simp) _⟩
    · rw [cop_zero, hp]; exact heap_alloc2_new _ _ _
    · exact heap_alloc2_old _ _ _
  case round =>
    obtain ⟨k, hk, rfl, g1, g0, hb⟩ := hrel
    have hcl : (cop (ints (pad xs)) (.int .i64 0) k).length = 64 := by rw [cop_length _ _ _ (by omega), hp]
    by_cases hlt : k < n0
    · obtain ⟨b, off, rfl, _, _, hbs, hc, _⟩ := h0.int hlt
      have hcr : wr.cell? ⟨b, off + k, none⟩ = some (.int .i64 (xs.getD k 0)) := (hb.cell (p := ⟨b, off + k, none⟩) hbs).trans hc
      have hcw : wr.cell? ⟨w.heap.size + 1, k, none⟩ = some (.int .i64 0) := by
        rw [cell_of_row wr _ k _ _ _ g1]
        simpa using cop_get _ _ _ _ (Nat.le_refl _) (by omega)
      have hfw : wr.frozen? ⟨w.heap.size + 1, k, none⟩ = false := frozen_of_row wr _ k _ _ g1
      have G1 := heap_setCell_same wr (w.heap.size + 1) k _ _ (.int .i64 (xs.getD k 0)) g1
      rw [List.setIfInBounds_toArray, cop_set _ _ _ k (by omega) (by rw [ints_getD _ _ (by rw [pad_len (by omega)]; omega), pad_getD (by omega)])] at G1
      have G0 : (wr.setCell ⟨w.heap.size + 1, k, none⟩ (.int .i64 (xs.getD k 0))).heap[w.heap.size]? = some (.cells (List.replicate 64 (.int .i64 0)).toArray 153 (0, 0)) := by
        rw [heap_setCell_other _ _ _ _ (by simp)]; exact g0
      have hb2 : Below w.heap.size w (wr.setCell ⟨w.heap.size + 1, k, none⟩ (.int .i64 (xs.getD k 0))) := hb.setCell (p := ⟨w.heap.size + 1, k, none⟩) (by simp) _
      have hl : (k : Int) < n0 := by omega
      have hl64 : (k : Int) < 64 := by omega
      clear hc g1 g0 hb hcl
      generalize xs.getD k 0 = x at *
      have H1 : Hid _ := G1
      have H0 : Hid _ := G0
      clear G1 G0
      go_wp2
      go_roundw
      case rel => exact ⟨k + 1, by omega, by go_num, H1.out, H0.out, hb2⟩
      case measure => simp [intOf]; omega
    · have hk' : k = xs.length := by omega
      rw [hk', ints_pad xs (by omega)] at g1
      have hsz : (Try.prog.info? 153).map (·.size) = some (ints (pad xs)).toArray.size := by rw [List.size_toArray, hp]; exact Try.infoSec
      have H1 : Hid _ := g1
      have H0 : Hid _ := g0
      have HZ : Hid _ := hsz
      clear g1 g0 hsz hcl hk'
      generalize hA : (ints (pad xs)).toArray = A at *
      have ho : A.all (·.oneCell') = true := by rw [← hA]; exact ints_one _
      have hs : A.size = 64 := by rw [← hA]; simpa using hp
      have HO : Hid _ := ho
      have HS : Hid ((List.replicate 64 (Value.int .i64 0)).toArray.size = A.size) := by show _ = _; rw [hs]; simp
      have HA : Hid _ := hA
      clear hA ho hs
      go_wp2_with (first | ((with_reducible refine load_row 153 (w.heap.size + 1) 153 A H1.out Try.underlying153 HZ.out ?_ ?_); rfl) | ((with_reducible refine store_row 153 (w.heap.size) A 153 _ H0.out HZ.out HS.out HO.out ?_ ?_ ?_); rfl; rfl))
      refine bodyPost_ret (results_cell_row rfl _ _ w.heap.size 153 A (0, 0) _ rfl (setRow_heap _ _ _ _ _ _ H0.out) Try.underlying153 rfl HZ.out) rfl ?_
      exact ⟨by rw [HA.out], below_setRow' hb (Nat.le_refl _) _⟩

def putAll (zs : List Int) (ys : List (Int × Int)) : List Int := ys.foldl (fun a p => a.set p.1.toNat p.2) zs
theorem putAll_len (zs : List Int) (ys : List (Int × Int)) : (putAll zs ys).length = zs.length := by
  induction ys generalizing zs with
  | nil => rfl
  | cons p r ih => simp [putAll] at ih ⊢; rw [ih]; simp
theorem putAll_snoc (zs : List Int) (ys : List (Int × Int)) (p : Int × Int) : putAll zs (ys ++ [p]) = (putAll zs ys).set p.1.toNat p.2 := by simp [putAll]
theorem take_snoc_getD {α : Type} (l : List α) (d : α) (k : Nat) (h : k < l.length) : l.take (k + 1) = l.take k ++ [l.getD k d] := by
  rw [List.take_succ_eq_append_getElem h]; simp [List.getD, h]
def placesB (ys : List (Int × Int)) : Bool := ys.all fun p => placeB p.1
theorem places_at {ys : List (Int × Int)} (h : placesB ys = true) {k : Nat} (hk : k < ys.length) : ∃ m : Nat, (ys.getD k (0, 0)).1 = m ∧ m < 64 := by
  have := List.all_eq_true.1 h ys[k] (List.getElem_mem _)
  have e : ys.getD k (0, 0) = ys[k] := by simp [List.getD, hk]
  rw [e]
  simp [placeB] at this
  exact ⟨(ys[k]).1.toNat, by omega, by omega⟩

set_option maxHeartbeats 1000000 in
theorem afterPuts_any {o1 : Bool} {l1 u1 : Nat} (zs : List Int) (hz : zs.length = 64) (a1 : Option Addr) (n1 c1 : Nat) (ys : List (Int × Int)) (w : World) (h1 : RowAt w o1 l1 u1 2 a1 n1 c1 (pairs ys)) (hn : n1 ≤ 2097152) (hpl : placesB ys = true) :
    Calls Try.prog 141 #[.agg (ints zs).toArray, .slice a1 n1 c1] w fun e w' => e = .returned (.agg (ints (putAll zs ys)).toArray) ∧ Below w.heap.size w w' := by
  have hy := h1.nPairs
  go_enter Try.func141, Try.ntmps141
  go_wp2
  go_loopw [8] (fun i wr => ∃ k : Nat, k ≤ n1 ∧ i = .int .i64 k ∧ wr.heap[w.heap.size]? = some (.cells (ints (putAll zs (ys.take k))).toArray 153 (0, 0)) ∧ wr.heap[w.heap.size + 1]? = some (.cells (List.replicate 64 (.int .i64 0)).toArray 153 (0, 0)) ∧ Below w.heap.size w wr) (fun i _ => n1 - (intOf i).toNat)
  case atStart =>
    refine ⟨0, Nat.zero_le _, rfl, ?_, ?_, ((Below.refl _ _).alloc (Nat.le_refl _) _).alloc (by simp) _⟩
    · exact heap_alloc2_old _ _ _
    · exact heap_alloc2_new _ _ _
  case round =>
    obtain ⟨k, hk, rfl, g1, g0, hb⟩ := hrel
    have hcl : (putAll zs (ys.take k)).length = 64 := by rw [putAll_len, hz]
    by_cases hlt : k < n1
    · obtain ⟨b, off, rfl, _, _, hbs, hc, hc', _⟩ := h1.pair hlt
      have hcr : wr.cell? ⟨b, off + k * 2, none⟩ = some (.int .i64 (ys.getD k (0, 0)).1) := (hb.cell (p := ⟨b, off + k * 2, none⟩) hbs).trans hc
      have hcr' : wr.cell? ⟨b, off + k * 2 + 1, none⟩ = some (.int .i64 (ys.getD k (0, 0)).2) := (hb.cell (p := ⟨b, off + k * 2 + 1, none⟩) hbs).trans hc'
      obtain ⟨m, hm, hm64⟩ := places_at hpl (show k < ys.length by omega)
      have hcw : wr.cell? ⟨w.heap.size, m, none⟩ = some (.int .i64 ((putAll zs (ys.take k)).getD m 0)) := by
        rw [cell_of_row wr _ m _ _ _ g1]
        simp [ints, List.getD, hcl, hm64]
      have hfw : wr.frozen? ⟨w.heap.size, m, none⟩ = false := frozen_of_row wr _ m _ _ g1
      have G1 := heap_setCell_same wr w.heap.size m _ _ (.int .i64 (ys.getD k (0, 0)).2) g1
      have hset : (ints (putAll zs (ys.take k))).toArray.setIfInBounds m (.int .i64 (ys.getD k (0, 0)).2) = (ints (putAll zs (ys.take (k + 1)))).toArray := by
        rw [take_snoc_getD ys (0, 0) k (by omega), putAll_snoc, hm, Int.toNat_natCast, List.setIfInBounds_toArray, ints, ints, List.map_set]
      rw [hset] at G1
      have G0 : (wr.setCell ⟨w.heap.size, m, none⟩ (.int .i64 (ys.getD k (0, 0)).2)).heap[w.heap.size + 1]? = some (.cells (List.replicate 64 (.int .i64 0)).toArray 153 (0, 0)) := by
        rw [heap_setCell_other _ _ _ _ (by simp)]; exact g0
      have hb2 : Below w.heap.size w (wr.setCell ⟨w.heap.size, m, none⟩ (.int .i64 (ys.getD k (0, 0)).2)) := hb.setCell (p := ⟨w.heap.size, m, none⟩) (by simp) _
      have hl : (k : Int) < n1 := by omega
      have hl64 : (m : Int) < 64 := by omega
      rw [hm] at hcr
      clear hc hc' g1 g0 hb hcl hset hm
      generalize (ys.getD k (0, 0)).2 = x at *
      generalize (putAll zs (ys.take k)).getD m 0 = old at *
      have H1 : Hid _ := G1
      have H0 : Hid _ := G0
      clear G1 G0
      have s1 : (wr.setCell ⟨w.heap.size, m, none⟩ (.int .i64 x)).cell? ⟨b, off + k * 2, none⟩ = some (.int .i64 m) := by
        rw [World.cell?_setCell_other _ _ _ _ (by intro e; simp at e <;> omega)]; exact hcr
      have s2 : (wr.setCell ⟨w.heap.size, m, none⟩ (.int .i64 x)).cell? ⟨b, off + k * 2 + 1, none⟩ = some (.int .i64 x) := by
        rw [World.cell?_setCell_other _ _ _ _ (by intro e; simp at e <;> omega)]; exact hcr'
      go_wp2_with fail
      go_region_held3 (fun w' => w'.cell? ⟨b, off + k * 2, none⟩ = some (.int .i64 m) ∧ w'.cell? ⟨b, off + k * 2 + 1, none⟩ = some (.int .i64 x)) (go_keep) (fail)
      go_wp2
      go_roundw
      case rel => exact ⟨k + 1, by omega, by go_num, H1.out, H0.out, hb2.drew⟩
      case measure => simp [intOf]; omega
    · have hk' : k = ys.length := by omega
      rw [hk', List.take_length] at g1
      have hs : (ints (putAll zs ys)).toArray.size = 64 := by rw [List.size_toArray, ints_length, putAll_len, hz]
      have hsz : (Try.prog.info? 153).map (·.size) = some (ints (putAll zs ys)).toArray.size := by rw [hs]; exact Try.infoSec
      have H1 : Hid _ := g1
      have H0 : Hid _ := g0
      have HZ : Hid _ := hsz
      clear g1 g0 hsz hcl hk'
      generalize hA : (ints (putAll zs ys)).toArray = A at *
      have ho : A.all (·.oneCell') = true := by rw [← hA]; exact ints_one _
      have HO : Hid _ := ho
      have HS : Hid ((List.replicate 64 (Value.int .i64 0)).toArray.size = A.size) := by show _ = _; rw [hs]; simp
      have HA : Hid _ := hA
      clear hA ho hs
      go_wp2_with (first | ((with_reducible refine load_row 153 w.heap.size 153 A H1.out Try.underlying153 HZ.out ?_ ?_); rfl) | ((with_reducible refine store_row 153 (w.heap.size + 1) A 153 _ H0.out HZ.out HS.out HO.out ?_ ?_ ?_); rfl; rfl))
      refine bodyPost_ret (results_cell_row rfl _ _ (w.heap.size + 1) 153 A (0, 0) _ rfl (setRow_heap _ _ _ _ _ _ H0.out) Try.underlying153 rfl HZ.out) rfl ?_
      exact ⟨by rw [HA.out], below_setRow' hb (Nat.le_succ _) _⟩

theorem afterPuts_is {o1 : Bool} {l1 u1 : Nat} (zs : List Int) (hz : zs.length = 64) (a1 : Option Addr) (n1 c1 : Nat) (ys : List (Int × Int)) (w : World) (h1 : RowAt w o1 l1 u1 2 a1 n1 c1 (pairs ys)) (hn : n1 ≤ 2097152) (hpl : placesB ys = true) (cs : List Value) (hc : ints (putAll zs ys) = cs) :
    Calls Try.prog 141 #[.agg (ints zs).toArray, .slice a1 n1 c1] w fun e w' => e = .returned (.agg cs.toArray) ∧ Below w.heap.size w w' := by
  rw [← hc]; exact afterPuts_any zs hz a1 n1 c1 ys w h1 hn hpl

theorem sectorsOf_full {o0 : Bool} {l0 u0 : Nat} (a0 : Option Addr) (n0 c0 : Nat) (xs : List Int) (w : World) (h0 : RowAt w o0 l0 u0 1 a0 n0 c0 (ints xs)) (hx : xs.length = 64) :
    Calls Try.prog 142 #[.slice a0 n0 c0] w fun e w' => e = .returned (.agg (ints xs).toArray) ∧ Below w.heap.size w w' := by
  have := sectorsOf_any a0 n0 c0 xs w h0 (by rw [← h0.nInts]; omega)
  rwa [pad_same hx] at this

theorem there_later {W w1 : World} {b o n : Nat} (hb : Below W.heap.size W w1) (h : W.there b o n) : w1.there b o n := fun j hj => by
  obtain ⟨h1, h2⟩ := h j hj
  obtain ⟨u, hu⟩ := Option.isSome_iff_exists.1 h1
  have hlt := World.block_lt_of_cell? W _ hu
  exact ⟨by rw [hb.cell (p := ⟨b, o + j, none⟩) hlt]; exact h1, by rw [hb.frozen (p := ⟨b, o + j, none⟩) hlt]; exact h2⟩
theorem there_of_block {w : World} {b n : Nat} {C : Array Value} {t : TypeId} (hb : w.heap[b]? = some (.cells C t (0, 0))) (hn : C.size = n) : w.there b 0 n := fun j hj => by
  refine ⟨?_, frozen_of_row w b _ C t hb⟩
  rw [cell_of_row w b _ C t (0, 0) hb]; simp; omega

set_option maxRecDepth 20000 in
set_option maxHeartbeats 1000000 in
theorem seenOf_any {o0 o1 : Bool} {l0 u0 l1 u1 : Nat} (a0 a1 : Option Addr) (n0 c0 n1 c1 : Nat) (xs : List Int) (ys : List (Int × Int)) (w : World) (h0 : RowAt w o0 l0 u0 1 a0 n0 c0 (ints xs)) (h1 : RowAt w o1 l1 u1 2 a1 n1 c1 (pairs ys)) (hx : xs.length = 64) (hn : n1 ≤ 2097152) (hpl : placesB ys = true) :
    Calls Try.prog 144 #[.agg #[.slice a0 n0 c0, .slice a1 n1 c1]] w fun e w' => e = .returned (.agg (ints (putAll xs ys)).toArray) ∧ Below w.heap.size w w' := by
  have hn0 := h0.nInts
  have B1 : Below w.heap.size w ((w.alloc (.cells #[.slice a0 n0 c0, .slice a1 n1 c1] 27)).alloc (.cells (List.replicate 64 (.int .i64 0)).toArray 153)) := ((Below.refl _ _).alloc (Nat.le_refl _) _).alloc (by simp) _
  have T1 : ((w.alloc (.cells #[.slice a0 n0 c0, .slice a1 n1 c1] 27)).alloc (.cells (List.replicate 64 (.int .i64 0)).toArray 153)).there (w.heap.size + 1) 0 64 := there_of_block (heap_alloc2_new _ _ _) (by simp)
  have k0 : ((w.alloc (.cells #[.slice a0 n0 c0, .slice a1 n1 c1] 27)).alloc (.cells (List.replicate 64 (.int .i64 0)).toArray 153)).cell? ⟨w.heap.size, 0, none⟩ = some (.slice a0 n0 c0) := by simp
  have k1 : ((w.alloc (.cells #[.slice a0 n0 c0, .slice a1 n1 c1] 27)).alloc (.cells (List.replicate 64 (.int .i64 0)).toArray 153)).cell? ⟨w.heap.size, 1, none⟩ = some (.slice a1 n1 c1) := by simp
  go_enter Try.func144, Try.ntmps144
  go_wp2_with fail
  generalize hW : (w.alloc (.cells #[.slice a0 n0 c0, .slice a1 n1 c1] 27)).alloc _ = W
  have hW2 : ((w.alloc (.cells #[.slice a0 n0 c0, .slice a1 n1 c1] 27)).alloc (.cells (List.replicate 64 (.int .i64 0)).toArray 153)) = W := hW
  rw [hW2] at B1 T1 k0 k1
  clear hW hW2
  have D1 : Below W.heap.size W W.drew := (Below.refl _ _).drew
  have B2 := below_next B1 D1
  have q0 := h0.below B2
  have hl : (ints (putAll xs ys)).length = 64 := by rw [ints_length, putAll_len, hx]
  have h1c : ∀ v ∈ ints (putAll xs ys), v.oneCell' = true := ints_oneCell _ _
  obtain ⟨cs, hcs⟩ : ∃ cs, cs = ints (putAll xs ys) := ⟨_, rfl⟩
  rw [← hcs] at hl h1c
  rw [← hl] at T1
  have hi : (Try.prog.info? 153).map (·.size) = some cs.length := by rw [hl]; exact Try.infoSec
  have hso : ∀ (W' : World) (vs : List Value) (i : Nat), (W'.setCells (w.heap.size + 1) 0 vs).cell? ⟨w.heap.size, i, none⟩ = W'.cell? ⟨w.heap.size, i, none⟩ := fun W' vs i => World.cell?_setCells_out _ vs _ W' _ (fun e => by simp at e)
  clear hl
  have HX : Hid _ := hx
  have HC : Hid (ints (putAll xs ys) = cs) := hcs.symm
  clear hx hn0 hcs
  have T1d := (World.there_drew W (w.heap.size + 1) 0 cs.length).2 T1
  have k0d : W.drew.cell? ⟨w.heap.size, 0, none⟩ = some (.slice a0 n0 c0) := k0
  have k1d : W.drew.cell? ⟨w.heap.size, 1, none⟩ = some (.slice a1 n1 c1) := k1
  go_region_held3 (fun w' => w'.cell? ⟨w.heap.size, 0, none⟩ = some (.slice a0 n0 c0) ∧ w'.cell? ⟨w.heap.size, 1, none⟩ = some (.slice a1 n1 c1) ∧ w'.there (w.heap.size + 1) 0 cs.length) (first | exact ⟨k0d, k1d, T1d⟩ | exact ⟨k0, k1, T1⟩ | exact ⟨(hso _ _ _).trans k0, (hso _ _ _).trans k1, World.there_setCells T1 _ _ _⟩)
    (first | (go_at_call 142; refine (sectorsOf_full _ _ _ xs _ q0 HX.out).mono ?_; rintro e w1 ⟨rfl, hb1⟩; have k0 := cell_later hb1 k0; have k1 := cell_later hb1 k1; have T1 := there_later hb1 T1; have B3 := below_next B2 hb1; have q1 := h1.below B3; clear hb1) | (go_at_call 141; refine (afterPuts_is xs HX.out _ _ _ ys _ q1 hn hpl cs HC.out).mono ?_; rintro e w2 ⟨rfl, hb2⟩; have k0 := cell_later hb2 k0; have k1 := cell_later hb2 k1; have T1 := there_later hb2 T1; have B4 := below_next B3 hb2; clear hb2))
  go_wp2
  refine bodyPost_ret (results_cell_mid rfl _ _ (w.heap.size + 1) cs _ rfl (World.rangeAt_setCells_same _ _ _ _ T1) Try.underlying153 rfl hi) rfl ?_
  exact ⟨by rw [HC.out], below_setCells (Nat.le_succ _) _ _ B4⟩

set_option maxRecDepth 20000 in
set_option maxHeartbeats 1000000 in
theorem cleanDisk_any (zs : List Int) (hz : zs.length = 64) (w : World) :
    Calls Try.prog 140 #[.agg (ints zs).toArray] w fun e w' => e = .returned (.agg #[.int .i64 0, .slice (some ⟨w.heap.size, 0, none⟩) 64 64, .slice none 0 0]) ∧ RowAt w' true w.heap.size w'.heap.size 1 (some ⟨w.heap.size, 0, none⟩) 64 64 (ints zs) ∧ Below w.heap.size w w' := by
  have hl : (ints zs).length = 64 := by rw [ints_length, hz]
  go_enter Try.func140, Try.ntmps140
  go_wp2
  refine bodyPost_ret (v := .agg #[.int .i64 0, .slice (some ⟨w.heap.size, 0, none⟩) 64 64, .slice none 0 0]) (by simp [results, Try.results140, go_sem]) rfl ⟨rfl, ?_, ?_⟩
  · exact (RowAt.of_block (heap_alloc2_old _ _ _) hl).widen (Nat.le_refl _) (by simp)
  · exact ((Below.refl _ _).alloc (Nat.le_refl _) _).alloc (by simp) _

end Go.Proofs.Ytkdaphfmhdkhfaa

/- Chapter 2: the records of a scan are few and short; the scans of the program and of the model, their answers named. -/
import Derived.Test.YtkpbmffklcgecaaM1
import Derived.Test.YtkpbmffklcgecaaK4
namespace Go.Proofs.Ytkpbmffklcgecaa
open Go.RowKit

theorem lay_many (rs : List (List Int)) : ∀ k, rs.length ≤ (lay k rs).length := by
  induction rs with
  | nil => intro k; simp
  | cons r rs ih => intro k; have := ih (k + 1); simp [lay]; omega
theorem scanRecs_ok (xs : List Int) (ys : List (Int × Int)) : (∀ r ∈ scanRecs xs ys, r.length ≤ 8) ∧ (scanRecs xs ys).length ≤ 64 := by
  unfold scanRecs
  split
  · rename_i h
    obtain ⟨hx, _, _⟩ := fault_zero h
    have hs := scan_inv (putAll xs ys)
    refine ⟨fun r hr => (hs.2.2 r hr).2, ?_⟩
    have h1 := hs.2.1
    have h2 := hs.len
    have h3 := lay_many (scanOf (putAll xs ys)).1 0
    rw [putAll_len, hx] at h1
    show (scanOf (putAll xs ys)).1.length ≤ 64
    omega
  · exact ⟨fun r hr => absurd hr (by simp), by simp⟩

structure RecsIn (w : World) (lo hi : Nat) (vs : List Value) (rs : List (List Int)) : Prop where
  len : vs.length = rs.length
  each : ∀ i, i < rs.length → ∃ (a : Option Addr) (n c l u : Nat), vs.getD i default = .slice a n c ∧ lo ≤ l ∧ u ≤ hi ∧ RowAt w true l u 1 a n c (ints (rs.getD i []))
theorem RecsAt.into {w : World} {lo : Nat} {vs : List Value} {rs : List (List Int)} (h : RecsAt w lo vs rs) : RecsIn w lo w.heap.size vs rs := ⟨h.len, h.each⟩
theorem RecsIn.at {w : World} {lo hi : Nat} {vs : List Value} {rs : List (List Int)} (h : RecsIn w lo hi vs rs) (hh : hi ≤ w.heap.size) : RecsAt w lo vs rs := by
  refine ⟨h.len, fun i hi' => ?_⟩
  obtain ⟨a, n, c, l, u, e, h1, h2, r⟩ := h.each i hi'
  exact ⟨a, n, c, l, u, e, h1, Nat.le_trans h2 hh, r⟩
theorem RecsIn.kept {w w' : World} {lo hi : Nat} {vs : List Value} {rs : List (List Int)} (h : RecsIn w lo hi vs rs) {x y : Nat} (hk : Kept x y w w') (hd : hi ≤ x ∨ y ≤ lo) : RecsIn w' lo hi vs rs := by
  refine ⟨h.len, fun i hi' => ?_⟩
  obtain ⟨a, n, c, l, u, e, h1, h2, r⟩ := h.each i hi'
  exact ⟨a, n, c, l, u, e, h1, h2, r.kept hk (by omega)⟩
theorem RecsIn.below {w w' : World} {lo hi : Nat} {vs : List Value} {rs : List (List Int)} (h : RecsIn w lo hi vs rs) (hb : Below w.heap.size w w') : RecsIn w' lo hi vs rs := by
  refine ⟨h.len, fun i hi' => ?_⟩
  obtain ⟨a, n, c, l, u, e, h1, h2, r⟩ := h.each i hi'
  exact ⟨a, n, c, l, u, e, h1, h2, r.below hb⟩
theorem RecsBut.low {w : World} {lo : Nat} {b : Option Nat} {vs : List Value} {rs : List (List Int)} (h : RecsBut w lo b vs rs) : ∀ j, j < rs.length → blkOf (vs.getD j default) < w.heap.size := fun j hj => by
  obtain ⟨g, n, c, h1, _, _, h4, _⟩ := h.each j hj
  rw [h1]; exact h4

section
variable {o0 o1 : Bool} {l0 u0 l1 u1 : Nat} (a0 a1 : Option Addr) (n0 c0 n1 c1 : Nat) (xs : List Int) (ys : List (Int × Int)) (w : World) (h0 : RowAt w o0 l0 u0 1 a0 n0 c0 (ints xs)) (h1 : RowAt w o1 l1 u1 2 a1 n1 c1 (pairs ys)) (hn : n0 ≤ 2097152) (hm : n1 ≤ 2097152) (cd : Int) (uu : Nat) (rs : List (List Int)) (hc : faultOf xs ys = cd) (hu : scanUsed xs ys = uu) (hr : scanRecs xs ys = rs)
include h0 h1 hn hm hc hu hr
theorem specScan_is : Calls Try.prog 63 #[.agg #[.slice a0 n0 c0, .slice a1 n1 c1]] w fun e w' => ∃ a c vs, e = .returned (.agg #[.int .i64 cd, .int .i64 (uu : Int), .slice a rs.length c]) ∧ RowAt w' true w.heap.size w'.heap.size 1 a rs.length c vs ∧ RecsIn w' w.heap.size w'.heap.size vs rs ∧ Below w.heap.size w w' := by
  refine (specScan_any a0 a1 n0 c0 n1 c1 xs ys w h0 h1 hn hm).mono ?_
  rintro e w' ⟨a, n, c, vs, rfl, rfl, r, q, hb⟩
  rw [hc, hu, hr] 
  rw [hr] at r q
  exact ⟨a, c, vs, rfl, r, q.into, hb⟩
theorem implScan_is : Calls Try.prog 53 #[.agg #[.slice a0 n0 c0, .slice a1 n1 c1]] w fun e w' => ∃ a c vs, e = .returned (.agg #[.int .i64 cd, .int .i64 (uu : Int), .slice a rs.length c]) ∧ RecsOwn w' w.heap.size (.slice a rs.length c) vs rs ∧ (∀ j, j < rs.length → blkOf (vs.getD j default) < w'.heap.size) ∧ Below w.heap.size w w' := by
  refine (implScan_any a0 a1 n0 c0 n1 c1 xs ys w h0 h1 hn hm).mono ?_
  rintro e w' ⟨a, c, vs, rfl, ow, bu, inc, hb⟩
  rw [hc, hu, hr] at *
  exact ⟨a, c, vs, rfl, ⟨ow, bu, inc⟩, bu.low, hb⟩
end

end Go.Proofs.Ytkpbmffklcgecaa

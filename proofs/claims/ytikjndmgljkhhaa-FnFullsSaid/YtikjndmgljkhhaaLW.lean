/- The laws' own choices, by their value. -/
import Derived.Test.YtikjndmgljkhhaaDrawA
namespace Go.Proofs.Ytikjndmgljkhhaa
open Go.RowKit

/-- the i-th choice out of n (at most 200) that the bytes make -/
def lwN (bs : List Nat) (i n : Nat) : Nat := if n ≤ 1 then 0 else if bs.length = 0 then (i * 7) % n else (bs.getD (i % bs.length) 0 + i / bs.length * 3) % n
theorem lwN_lt (bs : List Nat) (i n : Nat) (h : 0 < n) : lwN bs i n < n := by
  unfold lwN
  split
  · omega
  · split
    · exact Nat.mod_lt _ h
    · exact Nat.mod_lt _ h
set_option maxRecDepth 20000 in
set_option maxHeartbeats 1000000 in
theorem lwAt_is {o : Bool} {lo hi : Nat} (ac : Option Addr) (nc cc : Nat) (bs : List Nat) (i n : Nat) (w : World) (hr : RowAt w o lo hi 1 ac nc cc (bys bs)) (hb : ∀ i, bs.getD i 0 < 256) (hi : i ≤ 100000) (hc : nc ≤ 1048576) (hn : n ≤ 200) (d : Nat) (hd : lwN bs i n = d) :
    Calls Try.prog 11 #[.slice ac nc cc, .int .i64 (i : Int), .int .i64 (n : Int)] w fun e w' => e = .returned (.int .i64 (d : Int)) ∧ Below w.heap.size w w' := by
  have hx := hr.nBytes
  have HD : Hid _ := hd
  clear hd
  by_cases hn1 : n ≤ 1
  · have hn1' : (n : Int) ≤ 1 := by omega
    obtain rfl : d = 0 := by rw [← HD.out]; unfold lwN; rw [if_pos hn1]
    clear HD
    go_enter Try.func11, Try.ntmps11
    go_wp2
    go_ret
    exact ⟨rfl, Below.refl _ _⟩
  have hn2 : ¬ (n : Int) ≤ 1 := by omega
  have hn3 : ¬ (n : Int) = 0 := by omega
  have hn4 : ¬ (200 : Int) < (n : Int) := by omega
  by_cases h0 : nc = 0
  · subst h0
    have ed : d = (i * 7) % n := by rw [← HD.out]; unfold lwN; rw [if_neg hn1, if_pos hx]
    have hw : IntKind.i64.wrap ((i : Int) * 7) = (i : Int) * 7 := by rw [IntKind.wrap_i64]; omega
    have ht : ((i : Int) * 7).tmod (n : Int) = (d : Int) := by rw [Int.tmod_eq_emod_of_nonneg (by omega), ed, Int.natCast_emod, Int.natCast_mul]; rfl
    have hw2 : IntKind.i64.wrap (d : Int) = d := by rw [IntKind.wrap_i64]; have := Nat.mod_lt (i * 7) (show n > 0 by omega); omega
    clear ed HD
    go_enter Try.func11, Try.ntmps11
    go_wp2
    go_ret
    exact ⟨rfl, Below.refl _ _⟩
  · obtain ⟨m, hm⟩ : ∃ m, i % nc = m := ⟨_, rfl⟩
    obtain ⟨q, hq⟩ : ∃ q, i / nc = q := ⟨_, rfl⟩
    have hm' : (i : Int) % (nc : Int) = (m : Int) := by rw [← hm]; rfl
    have hq' : (i : Int) / (nc : Int) = (q : Int) := by rw [← hq]; rfl
    have hk : m < nc := by rw [← hm]; exact Nat.mod_lt _ (by omega)
    have hq2 : q ≤ i := by rw [← hq]; exact Nat.div_le_self _ _
    have D : Below w.heap.size w w.drew := (Below.refl _ _).drew
    obtain ⟨b, off, rfl, _, _, _, e1⟩ := (hr.below D).byte hk
    obtain ⟨v, hv⟩ : ∃ v, bs.getD m 0 = v := ⟨_, rfl⟩
    have hv2 := hb m
    rw [hv] at e1 hv2
    have ed : d = (v + q * 3) % n := by rw [← HD.out]; unfold lwN; rw [if_neg hn1, if_neg (by omega), hx, hm, hq, hv]
    have h0i : ¬ (nc : Int) = 0 := by omega
    have t7 : (i : Int).tmod (nc : Int) = (m : Int) := by rw [Int.tmod_eq_emod_of_nonneg (by omega)]; exact hm'
    have t8 : (i : Int).tdiv (nc : Int) = (q : Int) := by rw [Int.tdiv_eq_ediv_of_nonneg (by omega)]; exact hq'
    have hk2 : (m : Int) < nc := by omega
    have w1 : IntKind.i64.wrap ((q : Int) * 3) = (q : Int) * 3 := by rw [IntKind.wrap_i64]; omega
    have w2 : IntKind.i64.wrap ((v : Int) + (q : Int) * 3) = (v : Int) + (q : Int) * 3 := by rw [IntKind.wrap_i64]; omega
    have w3 : IntKind.i64.wrap (q : Int) = (q : Int) := by rw [IntKind.wrap_i64]; omega
    have w4 : IntKind.i64.wrap (v : Int) = (v : Int) := by rw [IntKind.wrap_i64]; omega
    have w5 : IntKind.i64.wrap (m : Int) = (m : Int) := by rw [IntKind.wrap_i64]; omega
    have t9 : ((v : Int) + (q : Int) * 3).tmod (n : Int) = (d : Int) := by rw [Int.tmod_eq_emod_of_nonneg (by omega), ed, Int.natCast_emod, Int.natCast_add, Int.natCast_mul]; rfl
    have w6 : IntKind.i64.wrap (d : Int) = d := by rw [IntKind.wrap_i64]; have := Nat.mod_lt (v + q * 3) (show n > 0 by omega); omega
    clear ed HD hm hq hv hm' hq'
    go_enter Try.func11, Try.ntmps11
    go_wp2
    go_region_held3 (fun w' => w'.cell? ⟨b, off + m, none⟩ = some (.int .u8 v)) (exact e1) (fail)
    go_wp2
    go_ret
    exact ⟨rfl, D⟩

end Go.Proofs.Ytikjndmgljkhhaa

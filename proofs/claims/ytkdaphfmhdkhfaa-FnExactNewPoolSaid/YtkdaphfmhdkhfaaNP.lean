/- Chapter 5: new pools; the answers of pools compared, marked and held. -/
import Derived.Test.YtkdaphfmhdkhfaaYP
import Derived.Test.YtkdaphfmhdkhfaaZM
import Derived.Test.YtkdaphfmhdkhfaaZV
import Derived.Test.YtkdaphfmhdkhfaaZU
namespace Go.Proofs.Ytkdaphfmhdkhfaa
open Go.RowKit

def PoRes0 (o : Bool) (w w' : World) (e : Ending) (code : Int) (f : Fo) : Prop :=
  ∃ an nn cn ab nb cb lo mid K, e = .returned (.agg #[.int .i64 code, .int .i64 0, .int .i64 0, .slice an nn cn, .slice ab nb cb, .slice none 0 0]) ∧ FoAt w' o lo mid an nn cn ab nb cb K f ∧ w.heap.size ≤ lo ∧ mid ≤ w'.heap.size ∧ Below w.heap.size w w'
theorem fo_nil (o : Bool) (w : World) (lo hi : Nat) : FoAt w o lo hi none 0 0 none 0 0 (fun _ => (none, 0, 0)) ([], []) := ⟨⟨rfl, RowAt.nil _ _ _ _ _, fun i hi => absurd hi (by omega), fun _ i hi => absurd hi (by omega)⟩, RowAt.nil _ _ _ _ _, fun _ h => absurd rfl h⟩

set_option maxRecDepth 20000 in
set_option maxHeartbeats 1000000 in
theorem specNewP_is (x : Int) (w : World) (cd : Int) (g : Fo) (hc : newBCode x = cd) (hf : newFoList x = g) : Calls Try.prog 128 #[.int .i64 x] w fun e w' => PoRes0 false w w' e cd g := by
  have A : Below w.heap.size w (w.alloc (.cells #[.int .i64 0, .int .i64 0, .int .i64 0, .slice none 0 0, .slice none 0 0, .slice none 0 0] 79)) := (Below.refl _ _).alloc (Nat.le_refl _) _
  have z0 : (w.alloc (.cells #[.int .i64 0, .int .i64 0, .int .i64 0, .slice none 0 0, .slice none 0 0, .slice none 0 0] 79)).cell? ⟨w.heap.size, 0, none⟩ = some (.int .i64 0) := by simp
  have y0 : (w.alloc (.cells #[.int .i64 0, .int .i64 0, .int .i64 0, .slice none 0 0, .slice none 0 0, .slice none 0 0] 79)).frozen? ⟨w.heap.size, 0, none⟩ = false := by simp
  have z1 : (w.alloc (.cells #[.int .i64 0, .int .i64 0, .int .i64 0, .slice none 0 0, .slice none 0 0, .slice none 0 0] 79)).cell? ⟨w.heap.size, 1, none⟩ = some (.int .i64 0) := by simp
  have y1 : (w.alloc (.cells #[.int .i64 0, .int .i64 0, .int .i64 0, .slice none 0 0, .slice none 0 0, .slice none 0 0] 79)).frozen? ⟨w.heap.size, 1, none⟩ = false := by simp
  have z2 : (w.alloc (.cells #[.int .i64 0, .int .i64 0, .int .i64 0, .slice none 0 0, .slice none 0 0, .slice none 0 0] 79)).cell? ⟨w.heap.size, 2, none⟩ = some (.int .i64 0) := by simp
  have y2 : (w.alloc (.cells #[.int .i64 0, .int .i64 0, .int .i64 0, .slice none 0 0, .slice none 0 0, .slice none 0 0] 79)).frozen? ⟨w.heap.size, 2, none⟩ = false := by simp
  have z3 : (w.alloc (.cells #[.int .i64 0, .int .i64 0, .int .i64 0, .slice none 0 0, .slice none 0 0, .slice none 0 0] 79)).cell? ⟨w.heap.size, 3, none⟩ = some (.slice none 0 0) := by simp
  have y3 : (w.alloc (.cells #[.int .i64 0, .int .i64 0, .int .i64 0, .slice none 0 0, .slice none 0 0, .slice none 0 0] 79)).frozen? ⟨w.heap.size, 3, none⟩ = false := by simp
  have z4 : (w.alloc (.cells #[.int .i64 0, .int .i64 0, .int .i64 0, .slice none 0 0, .slice none 0 0, .slice none 0 0] 79)).cell? ⟨w.heap.size, 4, none⟩ = some (.slice none 0 0) := by simp
  have y4 : (w.alloc (.cells #[.int .i64 0, .int .i64 0, .int .i64 0, .slice none 0 0, .slice none 0 0, .slice none 0 0] 79)).frozen? ⟨w.heap.size, 4, none⟩ = false := by simp
  have z5 : (w.alloc (.cells #[.int .i64 0, .int .i64 0, .int .i64 0, .slice none 0 0, .slice none 0 0, .slice none 0 0] 79)).cell? ⟨w.heap.size, 5, none⟩ = some (.slice none 0 0) := by simp
  have y5 : (w.alloc (.cells #[.int .i64 0, .int .i64 0, .int .i64 0, .slice none 0 0, .slice none 0 0, .slice none 0 0] 79)).frozen? ⟨w.heap.size, 5, none⟩ = false := by simp
  have hz : w.heap.size < (w.alloc (.cells #[.int .i64 0, .int .i64 0, .int .i64 0, .slice none 0 0, .slice none 0 0, .slice none 0 0] 79)).heap.size := by simp
  have hs0 : (w.alloc (.cells #[.int .i64 0, .int .i64 0, .int .i64 0, .slice none 0 0, .slice none 0 0, .slice none 0 0] 79)).heap.size = w.heap.size + 1 := by simp
  obtain ⟨rt, hrt⟩ : ∃ rt, (if newBCode x = 0 then (-1 : Int) else 0) = rt := ⟨_, rfl⟩
  have HC : Hid _ := hc
  have HF : Hid _ := hf
  have HR : Hid _ := hrt
  clear hc hf hrt
  go_enter Try.func128, Try.ntmps128
  go_wp2_with fail
  refine (specNewF_is x _ cd rt g HC.out HR.out HF.out).mono ?_
  rintro e w1 ⟨an, nn, cn, ab, nb, cb, K, rfl, D, B⟩
  rw [hs0] at D
  replace z0 := cell_later B z0
  replace y0 := frozen_later B hz y0
  replace z1 := cell_later B z1
  replace y1 := frozen_later B hz y1
  replace z2 := cell_later B z2
  replace y2 := frozen_later B hz y2
  replace z3 := cell_later B z3
  replace y3 := frozen_later B hz y3
  replace z4 := cell_later B z4
  replace y4 := frozen_later B hz y4
  replace z5 := cell_later B z5
  replace y5 := frozen_later B hz y5
  have s1 : w.heap.size + 1 ≤ w1.heap.size := by have := B.size; omega
  replace hz := Nat.lt_of_lt_of_le hz B.size
  replace B := below_next A B
  clear A
  have A2 : Below w1.heap.size w1 (w1.alloc (.cells #[.int .i64 cd, .int .i64 rt, .slice an nn cn, .slice ab nb cb] 64)) := (Below.refl _ _).alloc (Nat.le_refl _) _
  have x0 : (w1.alloc (.cells #[.int .i64 cd, .int .i64 rt, .slice an nn cn, .slice ab nb cb] 64)).cell? ⟨w1.heap.size, 0, none⟩ = some (.int .i64 cd) := by simp
  have x2 : (w1.alloc (.cells #[.int .i64 cd, .int .i64 rt, .slice an nn cn, .slice ab nb cb] 64)).cell? ⟨w1.heap.size, 2, none⟩ = some (.slice an nn cn) := by simp
  have x3 : (w1.alloc (.cells #[.int .i64 cd, .int .i64 rt, .slice an nn cn, .slice ab nb cb] 64)).cell? ⟨w1.heap.size, 3, none⟩ = some (.slice ab nb cb) := by simp
  replace z0 := cell_later A2 z0
  replace y0 := frozen_later A2 hz y0
  replace z1 := cell_later A2 z1
  replace y1 := frozen_later A2 hz y1
  replace z2 := cell_later A2 z2
  replace y2 := frozen_later A2 hz y2
  replace z3 := cell_later A2 z3
  replace y3 := frozen_later A2 hz y3
  replace z4 := cell_later A2 z4
  replace y4 := frozen_later A2 hz y4
  replace z5 := cell_later A2 z5
  replace y5 := frozen_later A2 hz y5
  replace D := D.below A2
  have s2 := A2.size
  replace hz := Nat.lt_of_lt_of_le hz A2.size
  replace B := below_step B B.size A2
  clear A2 hz
  by_cases hc0 : cd = 0
  · subst hc0
    clear HC HF HR
    go_wp2
    refine bodyPost_ret (v := .agg #[.int .i64 0, .int .i64 0, .int .i64 0, .slice an nn cn, .slice ab nb cb, .slice none 0 0]) (by simp [results, Try.results128, go_sem, z0, z1, z2, z3, z4, z5]) rfl ?_
    refine ⟨an, nn, cn, ab, nb, cb, w.heap.size + 1, w1.heap.size, K, rfl, FoAt.kept (l := w.heap.size) (u := w.heap.size + 1) D ?_ (by omega), by omega, ?_, ?_⟩
    · refine Kept.setCell (Kept.setCell (Kept.setCell (Kept.setCell (Kept.setCell (Kept.setCell (Kept.refl _ _ _) ?_ ?_ _) ?_ ?_ _) ?_ ?_ _) ?_ ?_ _) ?_ ?_ _) ?_ ?_ _ <;> simp
    · simp
    · refine Below.setCell (Below.setCell (Below.setCell (Below.setCell (Below.setCell (Below.setCell B ?_ _) ?_ _) ?_ _) ?_ _) ?_ _) ?_ _ <;> simp
  · have hne : (cd != 0) = true := by simp [hc0]
    have hg : g = ([], []) := by
      rw [← HF.out]
      unfold newFoList newBList
      rw [if_neg (by rw [HC.out]; exact hc0)]
    subst hg
    clear HC HF HR hc0
    go_wp2
    refine bodyPost_ret (v := .agg #[.int .i64 cd, .int .i64 0, .int .i64 0, .slice none 0 0, .slice none 0 0, .slice none 0 0]) (by simp [results, Try.results128, go_sem, z0, z1, z2, z3, z4, z5]) rfl ?_
    refine ⟨none, 0, 0, none, 0, 0, w.heap.size + 1, w.heap.size + 1, fun _ => (none, 0, 0), rfl, fo_nil _ _ _ _, by omega, ?_, ?_⟩
    · have := Nat.le_trans s1 s2; simpa using this
    · refine Below.setCell (Below.setCell (Below.setCell (Below.setCell (Below.setCell (Below.setCell B ?_ _) ?_ _) ?_ _) ?_ _) ?_ _) ?_ _ <;> simp

set_option maxRecDepth 20000 in
set_option maxHeartbeats 1000000 in
theorem implNewP_is (x : Int) (w : World) (cd : Int) (g : Fo) (hc : newBCode x = cd) (hf : newFoList x = g) : Calls Try.prog 71 #[.int .i64 x] w fun e w' => PoRes0 true w w' e cd g := by
  have A : Below w.heap.size w (w.alloc (.cells #[.int .i64 0, .int .i64 0, .int .i64 0, .slice none 0 0, .slice none 0 0, .slice none 0 0] 79)) := (Below.refl _ _).alloc (Nat.le_refl _) _
  have z0 : (w.alloc (.cells #[.int .i64 0, .int .i64 0, .int .i64 0, .slice none 0 0, .slice none 0 0, .slice none 0 0] 79)).cell? ⟨w.heap.size, 0, none⟩ = some (.int .i64 0) := by simp
  have y0 : (w.alloc (.cells #[.int .i64 0, .int .i64 0, .int .i64 0, .slice none 0 0, .slice none 0 0, .slice none 0 0] 79)).frozen? ⟨w.heap.size, 0, none⟩ = false := by simp
  have z1 : (w.alloc (.cells #[.int .i64 0, .int .i64 0, .int .i64 0, .slice none 0 0, .slice none 0 0, .slice none 0 0] 79)).cell? ⟨w.heap.size, 1, none⟩ = some (.int .i64 0) := by simp
  have y1 : (w.alloc (.cells #[.int .i64 0, .int .i64 0, .int .i64 0, .slice none 0 0, .slice none 0 0, .slice none 0 0] 79)).frozen? ⟨w.heap.size, 1, none⟩ = false := by simp
  have z2 : (w.alloc (.cells #[.int .i64 0, .int .i64 0, .int .i64 0, .slice none 0 0, .slice none 0 0, .slice none 0 0] 79)).cell? ⟨w.heap.size, 2, none⟩ = some (.int .i64 0) := by simp
  have y2 : (w.alloc (.cells #[.int .i64 0, .int .i64 0, .int .i64 0, .slice none 0 0, .slice none 0 0, .slice none 0 0] 79)).frozen? ⟨w.heap.size, 2, none⟩ = false := by simp
  have z3 : (w.alloc (.cells #[.int .i64 0, .int .i64 0, .int .i64 0, .slice none 0 0, .slice none 0 0, .slice none 0 0] 79)).cell? ⟨w.heap.size, 3, none⟩ = some (.slice none 0 0) := by simp
  have y3 : (w.alloc (.cells #[.int .i64 0, .int .i64 0, .int .i64 0, .slice none 0 0, .slice none 0 0, .slice none 0 0] 79)).frozen? ⟨w.heap.size, 3, none⟩ = false := by simp
  have z4 : (w.alloc (.cells #[.int .i64 0, .int .i64 0, .int .i64 0, .slice none 0 0, .slice none 0 0, .slice none 0 0] 79)).cell? ⟨w.heap.size, 4, none⟩ = some (.slice none 0 0) := by simp
  have y4 : (w.alloc (.cells #[.int .i64 0, .int .i64 0, .int .i64 0, .slice none 0 0, .slice none 0 0, .slice none 0 0] 79)).frozen? ⟨w.heap.size, 4, none⟩ = false := by simp
  have z5 : (w.alloc (.cells #[.int .i64 0, .int .i64 0, .int .i64 0, .slice none 0 0, .slice none 0 0, .slice none 0 0] 79)).cell? ⟨w.heap.size, 5, none⟩ = some (.slice none 0 0) := by simp
  have y5 : (w.alloc (.cells #[.int .i64 0, .int .i64 0, .int .i64 0, .slice none 0 0, .slice none 0 0, .slice none 0 0] 79)).frozen? ⟨w.heap.size, 5, none⟩ = false := by simp
  have hz : w.heap.size < (w.alloc (.cells #[.int .i64 0, .int .i64 0, .int .i64 0, .slice none 0 0, .slice none 0 0, .slice none 0 0] 79)).heap.size := by simp
  have hs0 : (w.alloc (.cells #[.int .i64 0, .int .i64 0, .int .i64 0, .slice none 0 0, .slice none 0 0, .slice none 0 0] 79)).heap.size = w.heap.size + 1 := by simp
  obtain ⟨rt, hrt⟩ : ∃ rt, (if newBCode x = 0 then (-1 : Int) else 0) = rt := ⟨_, rfl⟩
  have HC : Hid _ := hc
  have HF : Hid _ := hf
  have HR : Hid _ := hrt
  clear hc hf hrt
  go_enter Try.func71, Try.ntmps71
  go_wp2_with fail
  refine (implNewF_is x _ cd rt g HC.out HR.out HF.out).mono ?_
  rintro e w1 ⟨an, nn, cn, ab, nb, cb, K, rfl, D, B⟩
  rw [hs0] at D
  replace z0 := cell_later B z0
  replace y0 := frozen_later B hz y0
  replace z1 := cell_later B z1
  replace y1 := frozen_later B hz y1
  replace z2 := cell_later B z2
  replace y2 := frozen_later B hz y2
  replace z3 := cell_later B z3
  replace y3 := frozen_later B hz y3
  replace z4 := cell_later B z4
  replace y4 := frozen_later B hz y4
  replace z5 := cell_later B z5
  replace y5 := frozen_later B hz y5
  have s1 : w.heap.size + 1 ≤ w1.heap.size := by have := B.size; omega
  replace hz := Nat.lt_of_lt_of_le hz B.size
  replace B := below_next A B
  clear A
  have A2 : Below w1.heap.size w1 (w1.alloc (.cells #[.int .i64 cd, .int .i64 rt, .slice an nn cn, .slice ab nb cb] 64)) := (Below.refl _ _).alloc (Nat.le_refl _) _
  have x0 : (w1.alloc (.cells #[.int .i64 cd, .int .i64 rt, .slice an nn cn, .slice ab nb cb] 64)).cell? ⟨w1.heap.size, 0, none⟩ = some (.int .i64 cd) := by simp
  have x2 : (w1.alloc (.cells #[.int .i64 cd, .int .i64 rt, .slice an nn cn, .slice ab nb cb] 64)).cell? ⟨w1.heap.size, 2, none⟩ = some (.slice an nn cn) := by simp
  have x3 : (w1.alloc (.cells #[.int .i64 cd, .int .i64 rt, .slice an nn cn, .slice ab nb cb] 64)).cell? ⟨w1.heap.size, 3, none⟩ = some (.slice ab nb cb) := by simp
  replace z0 := cell_later A2 z0
  replace y0 := frozen_later A2 hz y0
  replace z1 := cell_later A2 z1
  replace y1 := frozen_later A2 hz y1
  replace z2 := cell_later A2 z2
  replace y2 := frozen_later A2 hz y2
  replace z3 := cell_later A2 z3
  replace y3 := frozen_later A2 hz y3
  replace z4 := cell_later A2 z4
  replace y4 := frozen_later A2 hz y4
  replace z5 := cell_later A2 z5
  replace y5 := frozen_later A2 hz y5
  replace D := D.below A2
  have s2 := A2.size
  replace hz := Nat.lt_of_lt_of_le hz A2.size
  replace B := below_step B B.size A2
  clear A2 hz
  by_cases hc0 : cd = 0
  · subst hc0
    clear HC HF HR
    go_wp2
    refine bodyPost_ret (v := .agg #[.int .i64 0, .int .i64 0, .int .i64 0, .slice an nn cn, .slice ab nb cb, .slice none 0 0]) (by simp [results, Try.results71, go_sem, z0, z1, z2, z3, z4, z5]) rfl ?_
    refine ⟨an, nn, cn, ab, nb, cb, w.heap.size + 1, w1.heap.size, K, rfl, FoAt.kept (l := w.heap.size) (u := w.heap.size + 1) D ?_ (by omega), by omega, ?_, ?_⟩
    · refine Kept.setCell (Kept.setCell (Kept.setCell (Kept.setCell (Kept.setCell (Kept.setCell (Kept.refl _ _ _) ?_ ?_ _) ?_ ?_ _) ?_ ?_ _) ?_ ?_ _) ?_ ?_ _) ?_ ?_ _ <;> simp
    · simp
    · refine Below.setCell (Below.setCell (Below.setCell (Below.setCell (Below.setCell (Below.setCell B ?_ _) ?_ _) ?_ _) ?_ _) ?_ _) ?_ _ <;> simp
  · have hne : (cd != 0) = true := by simp [hc0]
    have hg : g = ([], []) := by
      rw [← HF.out]
      unfold newFoList newBList
      rw [if_neg (by rw [HC.out]; exact hc0)]
    subst hg
    clear HC HF HR hc0
    go_wp2
    refine bodyPost_ret (v := .agg #[.int .i64 cd, .int .i64 0, .int .i64 0, .slice none 0 0, .slice none 0 0, .slice none 0 0]) (by simp [results, Try.results71, go_sem, z0, z1, z2, z3, z4, z5]) rfl ?_
    refine ⟨none, 0, 0, none, 0, 0, w.heap.size + 1, w.heap.size + 1, fun _ => (none, 0, 0), rfl, fo_nil _ _ _ _, by omega, ?_, ?_⟩
    · have := Nat.le_trans s1 s2; simpa using this
    · refine Below.setCell (Below.setCell (Below.setCell (Below.setCell (Below.setCell (Below.setCell B ?_ _) ?_ _) ?_ _) ?_ _) ?_ _) ?_ _ <;> simp

set_option maxRecDepth 20000 in
set_option maxHeartbeats 1000000 in
theorem eqPRes_yes {o1 o2 o3 o4 : Bool} {l1 u1 l2 u2 l3 u3 l4 u4 : Nat} (cd rp vl : Int) (an1 : Option Addr) (n1 cn1 : Nat) (ab1 : Option Addr) (m1 cb1 : Nat) (av1 : Option Addr) (k1 cv1 : Nat) (an2 : Option Addr) (n2 cn2 : Nat) (ab2 : Option Addr) (m2 cb2 : Nat) (av2 : Option Addr) (k2 cv2 : Nat) (K1 K2 : Nat → KS) (f : Fo) (vs : List Vo) (w : World) (h1 : FoAt w o1 l1 u1 an1 n1 cn1 ab1 m1 cb1 K1 f) (g1 : RowAt w o3 l3 u3 3 av1 k1 cv1 (trips vs)) (h2 : FoAt w o2 l2 u2 an2 n2 cn2 ab2 m2 cb2 K2 f) (g2 : RowAt w o4 l4 u4 3 av2 k2 cv2 (trips vs)) (hn : n1 ≤ 2097152) (hm : m1 ≤ 2097152) (hK : ∀ i, i < n1 → (K1 i).2.1 ≤ 2097152) (hk : k1 ≤ 2097152) :
    Calls Try.prog 129 #[.agg #[.int .i64 cd, .int .i64 rp, .int .i64 vl, .slice an1 n1 cn1, .slice ab1 m1 cb1, .slice av1 k1 cv1], .agg #[.int .i64 cd, .int .i64 rp, .int .i64 vl, .slice an2 n2 cn2, .slice ab2 m2 cb2, .slice av2 k2 cv2]] w fun e w' => e = .returned (.bool true) ∧ Below w.heap.size w w' := by
  have A : Below w.heap.size w ((w.alloc (.cells #[.int .i64 cd, .int .i64 rp, .int .i64 vl, .slice an1 n1 cn1, .slice ab1 m1 cb1, .slice av1 k1 cv1] 79)).alloc (.cells #[.int .i64 cd, .int .i64 rp, .int .i64 vl, .slice an2 n2 cn2, .slice ab2 m2 cb2, .slice av2 k2 cv2] 79)) := ((Below.refl _ _).alloc (Nat.le_refl _) _).alloc (by simp) _
  have e1 : (cd != cd) = false := by simp
  have e2 : (rp != rp) = false := by simp
  have e3 : (vl != vl) = false := by simp
  go_enter Try.func129, Try.ntmps129
  go_wp2_with fail
  refine (eqPool_yes _ _ _ _ _ _ _ _ _ _ _ _ _ _ _ _ _ _ K1 K2 f vs _ (by exact h1.below A) (by exact g1.below A) (by exact h2.below A) (by exact g2.below A) hn hm hK hk).mono ?_
  rintro e w1 ⟨rfl, hb⟩
  replace A := below_next A hb
  clear hb
  go_wp2
  go_ret
  exact ⟨rfl, A⟩

theorem markVols_nil (k : Int) (w : World) : Calls Try.prog 269 #[.slice none 0 0, .int .i64 k] w fun e w' => e = .returned (.int .i64 k) ∧ w' = w := by
  go_enter Try.func269, Try.ntmps269
  go_wp2
  go_loopw [1, 5] (fun q i wr => q = .int .i64 k ∧ i = .int .i64 0 ∧ wr = w) (fun _ _ _ => 0)
  case atStart => exact ⟨rfl, rfl, rfl⟩
  case round =>
    obtain ⟨rfl, rfl, rfl⟩ := hrel
    go_wp2
    go_ret
    exact ⟨rfl, rfl⟩

theorem heldVols_nil (k : Int) (w : World) : Calls Try.prog 270 #[.slice none 0 0, .int .i64 k] w fun e w' => e = .returned (.int .i64 k) ∧ w' = w := by
  go_enter Try.func270, Try.ntmps270
  go_wp2
  go_loopw [1, 5] (fun q i wr => q = .int .i64 k ∧ i = .int .i64 0 ∧ wr = w) (fun _ _ _ => 0)
  case atStart => exact ⟨rfl, rfl, rfl⟩
  case round =>
    obtain ⟨rfl, rfl, rfl⟩ := hrel
    go_wp2
    go_ret
    exact ⟨rfl, rfl⟩

set_option maxRecDepth 20000 in
set_option maxHeartbeats 1000000 in
theorem markPRes_nil {lo hi : Nat} (cd : Int) (an : Option Addr) (nn cn : Nat) (ab : Option Addr) (nb cb : Nat) (K : Nat → KS) (f : Fo) (w : World) (h : FoAt w true lo hi an nn cn ab nb cb K f) (hhi : hi ≤ w.heap.size) (hk1 : kOf f.1 1 nn ≤ 4194304) (hnb : nb ≤ 4194304) :
    Calls Try.prog 130 #[.agg #[.int .i64 cd, .int .i64 0, .int .i64 0, .slice an nn cn, .slice ab nb cb, .slice none 0 0], .int .i64 1] w fun e w' => e = .returned (.int .i64 (endF f nn nb)) ∧ FoAt w' true lo hi an nn cn ab nb cb K (mkF f nn nb) ∧ Kept lo hi w w' := by
  have A : Below w.heap.size w (w.alloc (.cells #[.int .i64 cd, .int .i64 0, .int .i64 0, .slice an nn cn, .slice ab nb cb, .slice none 0 0] 79)) := (Below.refl _ _).alloc (Nat.le_refl _) _
  have s0 : (w.alloc (.cells #[.int .i64 cd, .int .i64 0, .int .i64 0, .slice an nn cn, .slice ab nb cb, .slice none 0 0] 79)).heap.size = w.heap.size + 1 := by simp
  have key : ∀ W : World, FoAt W true lo hi an nn cn ab nb cb K f → hi ≤ W.heap.size → Calls Try.prog 221 #[.agg #[.slice an nn cn, .slice ab nb cb, .slice none 0 0], .int .i64 1] W fun e w' => e = .returned (.int .i64 (endF f nn nb)) ∧ FoAt w' true lo hi an nn cn ab nb cb K (mkF f nn nb) ∧ Kept lo hi W w' := fun W hW hh => by
    have A : Below W.heap.size W (W.alloc (.cells #[.slice an nn cn, .slice ab nb cb, .slice none 0 0] 77)) := (Below.refl _ _).alloc (Nat.le_refl _) _
    have z2 : (W.alloc (.cells #[.slice an nn cn, .slice ab nb cb, .slice none 0 0] 77)).cell? ⟨W.heap.size, 2, none⟩ = some (.slice none 0 0) := by simp
    go_enter Try.func221, Try.ntmps221
    go_wp2_with fail
    refine (markForest_any an nn cn ab nb cb K f _ (by exact hW.below A) hk1 hnb).mono ?_
    rintro e w1 ⟨rfl, D, K1⟩
    replace z2 := K1.cell z2 (Or.inr hh)
    have K2 : Kept lo hi W w1 := (Kept.of_below A).trans K1
    clear K1 A
    go_wp2_with fail
    refine (markVols_nil _ _).mono ?_
    rintro e _ ⟨rfl, rfl⟩
    go_wp2
    go_ret
    exact ⟨rfl, D, K2⟩
  go_enter Try.func130, Try.ntmps130
  go_wp2_with fail
  refine (key _ (h.below A) (by omega)).mono ?_
  rintro e w1 ⟨rfl, D, K1⟩
  have K2 : Kept lo hi w w1 := (Kept.of_below A).trans K1
  clear K1 A key
  go_wp2
  go_ret
  exact ⟨rfl, D, K2⟩
set_option maxRecDepth 20000 in
set_option maxHeartbeats 1000000 in
theorem heldPRes_nil {o : Bool} {lo hi : Nat} (cd : Int) (an : Option Addr) (nn cn : Nat) (ab : Option Addr) (nb cb : Nat) (K : Nat → KS) (f : Fo) (w : World) (h : FoAt w o lo hi an nn cn ab nb cb K (mkF f nn nb)) (hk1 : kOf f.1 1 nn ≤ 4194304) (hnb : nb ≤ 4194304) :
    Calls Try.prog 131 #[.agg #[.int .i64 cd, .int .i64 0, .int .i64 0, .slice an nn cn, .slice ab nb cb, .slice none 0 0], .int .i64 1] w fun e w' => e = .returned (.int .i64 (endF f nn nb)) ∧ Below w.heap.size w w' := by
  have A : Below w.heap.size w (w.alloc (.cells #[.int .i64 cd, .int .i64 0, .int .i64 0, .slice an nn cn, .slice ab nb cb, .slice none 0 0] 79)) := (Below.refl _ _).alloc (Nat.le_refl _) _
  have d1 : ¬ (endF f nn nb < 0) := by unfold endF kOf; omega
  have key : ∀ W : World, FoAt W o lo hi an nn cn ab nb cb K (mkF f nn nb) → Calls Try.prog 222 #[.agg #[.slice an nn cn, .slice ab nb cb, .slice none 0 0], .int .i64 1] W fun e w' => e = .returned (.int .i64 (endF f nn nb)) ∧ Below W.heap.size W w' := fun W hW => by
    have A : Below W.heap.size W (W.alloc (.cells #[.slice an nn cn, .slice ab nb cb, .slice none 0 0] 77)) := (Below.refl _ _).alloc (Nat.le_refl _) _
    have z2 : (W.alloc (.cells #[.slice an nn cn, .slice ab nb cb, .slice none 0 0] 77)).cell? ⟨W.heap.size, 2, none⟩ = some (.slice none 0 0) := by simp
    go_enter Try.func222, Try.ntmps222
    go_wp2_with fail
    refine (heldForest_any an nn cn ab nb cb K f _ (by exact hW.below A) hk1 hnb).mono ?_
    rintro e w1 ⟨rfl, hb⟩
    replace z2 := cell_later hb z2
    replace A := below_next A hb
    clear hb
    go_wp2_with fail
    refine (heldVols_nil _ _).mono ?_
    rintro e _ ⟨rfl, rfl⟩
    go_wp2
    go_ret
    exact ⟨rfl, A⟩
  go_enter Try.func131, Try.ntmps131
  go_wp2_with fail
  refine (key _ (h.below A)).mono ?_
  rintro e w1 ⟨rfl, hb⟩
  replace A := below_next A hb
  clear hb key
  go_wp2
  go_ret
  exact ⟨rfl, A⟩

end Go.Proofs.Ytkdaphfmhdkhfaa

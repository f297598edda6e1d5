/- Chapter 8: entries in memory: rows of six cells. -/
import Derived.Test.YtgldocaohcoleaaGreatQACB
import Derived.ProofKit
import Derived.OpenShut
import Derived.Lib.SmallJoins
import Derived.Deep.SlicePairs
import Derived.Test.YtgldocaohcoleaaGreatRows
set_option maxRecDepth 20000
set_option maxHeartbeats 16000000
namespace Go.Proofs.YtgldocaohcoleaaGreat
open Go.RowKit
abbrev En := Int × Int × Int × Int × Int × Int
def en0 : En := (0, 0, 0, 0, 0, 0)
def enF (x : En) (j : Nat) : Int := if j = 0 then x.1 else if j = 1 then x.2.1 else if j = 2 then x.2.2.1 else if j = 3 then x.2.2.2.1 else if j = 4 then x.2.2.2.2.1 else x.2.2.2.2.2
def sixs (xs : List En) : List Value := (List.range (xs.length * 6)).map fun j => .int .i64 (enF (xs.getD (j / 6) en0) (j % 6))
theorem sixs_len (xs : List En) : (sixs xs).length = xs.length * 6 := by simp [sixs]
theorem sixs_get (xs : List En) (k j : Nat) (h : k < xs.length) (hj : j < 6) : (sixs xs).getD (k * 6 + j) default = .int .i64 (enF (xs.getD k en0) j) := by
 have h1 : k * 6 + j < xs.length * 6 := by omega
 have h2 : (k * 6 + j) / 6 = k := by omega
 have h3 : (k * 6 + j) % 6 = j := by omega
 have : (sixs xs).getD (k * 6 + j) default = .int .i64 (enF (xs.getD ((k * 6 + j) / 6) en0) ((k * 6 + j) % 6)) := by simp [sixs, List.getD, h1]
 rw [this, h2, h3]
theorem RowAt.nSixs {w : World} {own : Bool} {lo hi : Nat} {ao : Option Addr} {n cap : Nat} {vs : List En} (h : RowAt w own lo hi 6 ao n cap (sixs vs)) : vs.length = n := by
 have hl := h.len;rw [sixs_len] at hl;omega
theorem RowAt.six {w : World} {own : Bool} {lo hi : Nat} {ao : Option Addr} {n cap : Nat} {vs : List En} (h : RowAt w own lo hi 6 ao n cap (sixs vs)) {i : Nat} (hi' : i < n) :
  ∃ b off, ao = some ⟨b, off, none⟩ ∧ lo ≤ b ∧ b < hi ∧ b < w.heap.size ∧ w.cell? ⟨b, off + i * 6, none⟩ = some (.int .i64 (vs.getD i en0).1) ∧ w.cell? ⟨b, off + i * 6 + 1, none⟩ = some (.int .i64 (vs.getD i en0).2.1) ∧ w.cell? ⟨b, off + i * 6 + 2, none⟩ = some (.int .i64 (vs.getD i en0).2.2.1) ∧ w.cell? ⟨b, off + i * 6 + 3, none⟩ = some (.int .i64 (vs.getD i en0).2.2.2.1) ∧ w.cell? ⟨b, off + i * 6 + 4, none⟩ = some (.int .i64 (vs.getD i en0).2.2.2.2.1) ∧ w.cell? ⟨b, off + i * 6 + 5, none⟩ = some (.int .i64 (vs.getD i en0).2.2.2.2.2) ∧ (own = true → ∀ j, j < 6 → w.frozen? ⟨b, off + (i * 6 + j), none⟩ = false) := by
 obtain ⟨b, off, rfl, g1, g2, g3, g4, g5⟩ := h.cells (by omega)
 have hl := h.nSixs
 have G : ∀ j, j < 6 → w.cell? ⟨b, off + (i * 6 + j), none⟩ = some (.int .i64 (enF (vs.getD i en0) j)) := fun j hj => by
  rw [g4 (i * 6 + j) (by omega), sixs_get vs i j (by omega) hj]
 exact ⟨b, off, rfl, g1, g2, g3, G 0 (by omega), G 1 (by omega), G 2 (by omega), G 3 (by omega), G 4 (by omega), G 5 (by omega), fun ho j hj => g5 ho _ (by omega)⟩
theorem toOp8_any (k v a x : Int) (w : World) :
  Calls Tryz.prog 89 #[.agg #[.int .i64 k, .int .i64 v, .int .i64 a, .int .i64 x]] w fun e w' => e = .returned (.agg #[.int .i64 k, .int .i64 v, .int .i64 a, .int .i64 x]) ∧ Below w.heap.size w w' := by
 go_enter Tryz.func89, Tryz.ntmps89
 go_wp2
 refine bodyPost_ret (v := .agg #[.int .i64 k, .int .i64 v, .int .i64 a, .int .i64 x]) (by simp [results, Tryz.results89, go_sem]) rfl ⟨rfl, ?_⟩
 exact ((((Below.refl _ _).alloc (Nat.le_refl _) _).alloc (by simp) _).alloc (by simp;omega) _)
theorem toEntry_any (p q k v a x : Int) (w : World) :
  Calls Tryz.prog 28 #[.agg #[.int .i64 p, .int .i64 q, .int .i64 k, .int .i64 v, .int .i64 a, .int .i64 x]] w fun e w' => e = .returned (.agg #[.int .i64 p, .int .i64 q, .int .i64 k, .int .i64 v, .int .i64 a, .int .i64 x]) ∧ Below w.heap.size w w' := by
 go_enter Tryz.func28, Tryz.ntmps28
 go_wp2_with fail
 have B : Below w.heap.size w (((w.alloc (.cells #[.int .i64 p, .int .i64 q, .int .i64 k, .int .i64 v, .int .i64 a, .int .i64 x] 45)).alloc (.cells #[.int .i64 0, .int .i64 0, .int .i64 0, .int .i64 0, .int .i64 0, .int .i64 0] 49)).alloc (.cells #[.int .i64 p, .int .i64 q, .int .i64 0, .int .i64 0, .int .i64 0, .int .i64 0] 49)) := ((Below.refl _ _).alloc (Nat.le_refl _) _ |>.alloc (by simp) _ |>.alloc (by simp;omega) _)
 have H2 : Hid (w.heap.size + 1 + 1 < (((w.alloc (.cells #[.int .i64 p, .int .i64 q, .int .i64 k, .int .i64 v, .int .i64 a, .int .i64 x] 45)).alloc (.cells #[.int .i64 0, .int .i64 0, .int .i64 0, .int .i64 0, .int .i64 0, .int .i64 0] 49)).alloc (.cells #[.int .i64 p, .int .i64 q, .int .i64 0, .int .i64 0, .int .i64 0, .int .i64 0] 49)).heap.size) := by show _ < _;simp
 have c0 : (((w.alloc (.cells #[.int .i64 p, .int .i64 q, .int .i64 k, .int .i64 v, .int .i64 a, .int .i64 x] 45)).alloc (.cells #[.int .i64 0, .int .i64 0, .int .i64 0, .int .i64 0, .int .i64 0, .int .i64 0] 49)).alloc (.cells #[.int .i64 p, .int .i64 q, .int .i64 0, .int .i64 0, .int .i64 0, .int .i64 0] 49)).cell? ⟨w.heap.size + 1, 0, none⟩ = some (.int .i64 0) := by simp [go_sem]
 have d0 : (((w.alloc (.cells #[.int .i64 p, .int .i64 q, .int .i64 k, .int .i64 v, .int .i64 a, .int .i64 x] 45)).alloc (.cells #[.int .i64 0, .int .i64 0, .int .i64 0, .int .i64 0, .int .i64 0, .int .i64 0] 49)).alloc (.cells #[.int .i64 p, .int .i64 q, .int .i64 0, .int .i64 0, .int .i64 0, .int .i64 0] 49)).cell? ⟨w.heap.size + 1 + 1, 0, none⟩ = some (.int .i64 p) := by simp [go_sem]
 have y0 : (((w.alloc (.cells #[.int .i64 p, .int .i64 q, .int .i64 k, .int .i64 v, .int .i64 a, .int .i64 x] 45)).alloc (.cells #[.int .i64 0, .int .i64 0, .int .i64 0, .int .i64 0, .int .i64 0, .int .i64 0] 49)).alloc (.cells #[.int .i64 p, .int .i64 q, .int .i64 0, .int .i64 0, .int .i64 0, .int .i64 0] 49)).frozen? ⟨w.heap.size + 1, 0, none⟩ = false := by simp [go_sem]
 have z0 : (((w.alloc (.cells #[.int .i64 p, .int .i64 q, .int .i64 k, .int .i64 v, .int .i64 a, .int .i64 x] 45)).alloc (.cells #[.int .i64 0, .int .i64 0, .int .i64 0, .int .i64 0, .int .i64 0, .int .i64 0] 49)).alloc (.cells #[.int .i64 p, .int .i64 q, .int .i64 0, .int .i64 0, .int .i64 0, .int .i64 0] 49)).frozen? ⟨w.heap.size + 1 + 1, 0, none⟩ = false := by simp [go_sem]
 have c1 : (((w.alloc (.cells #[.int .i64 p, .int .i64 q, .int .i64 k, .int .i64 v, .int .i64 a, .int .i64 x] 45)).alloc (.cells #[.int .i64 0, .int .i64 0, .int .i64 0, .int .i64 0, .int .i64 0, .int .i64 0] 49)).alloc (.cells #[.int .i64 p, .int .i64 q, .int .i64 0, .int .i64 0, .int .i64 0, .int .i64 0] 49)).cell? ⟨w.heap.size + 1, 1, none⟩ = some (.int .i64 0) := by simp [go_sem]
 have d1 : (((w.alloc (.cells #[.int .i64 p, .int .i64 q, .int .i64 k, .int .i64 v, .int .i64 a, .int .i64 x] 45)).alloc (.cells #[.int .i64 0, .int .i64 0, .int .i64 0, .int .i64 0, .int .i64 0, .int .i64 0] 49)).alloc (.cells #[.int .i64 p, .int .i64 q, .int .i64 0, .int .i64 0, .int .i64 0, .int .i64 0] 49)).cell? ⟨w.heap.size + 1 + 1, 1, none⟩ = some (.int .i64 q) := by simp [go_sem]
 have y1 : (((w.alloc (.cells #[.int .i64 p, .int .i64 q, .int .i64 k, .int .i64 v, .int .i64 a, .int .i64 x] 45)).alloc (.cells #[.int .i64 0, .int .i64 0, .int .i64 0, .int .i64 0, .int .i64 0, .int .i64 0] 49)).alloc (.cells #[.int .i64 p, .int .i64 q, .int .i64 0, .int .i64 0, .int .i64 0, .int .i64 0] 49)).frozen? ⟨w.heap.size + 1, 1, none⟩ = false := by simp [go_sem]
 have z1 : (((w.alloc (.cells #[.int .i64 p, .int .i64 q, .int .i64 k, .int .i64 v, .int .i64 a, .int .i64 x] 45)).alloc (.cells #[.int .i64 0, .int .i64 0, .int .i64 0, .int .i64 0, .int .i64 0, .int .i64 0] 49)).alloc (.cells #[.int .i64 p, .int .i64 q, .int .i64 0, .int .i64 0, .int .i64 0, .int .i64 0] 49)).frozen? ⟨w.heap.size + 1 + 1, 1, none⟩ = false := by simp [go_sem]
 have c2 : (((w.alloc (.cells #[.int .i64 p, .int .i64 q, .int .i64 k, .int .i64 v, .int .i64 a, .int .i64 x] 45)).alloc (.cells #[.int .i64 0, .int .i64 0, .int .i64 0, .int .i64 0, .int .i64 0, .int .i64 0] 49)).alloc (.cells #[.int .i64 p, .int .i64 q, .int .i64 0, .int .i64 0, .int .i64 0, .int .i64 0] 49)).cell? ⟨w.heap.size + 1, 2, none⟩ = some (.int .i64 0) := by simp [go_sem]
 have d2 : (((w.alloc (.cells #[.int .i64 p, .int .i64 q, .int .i64 k, .int .i64 v, .int .i64 a, .int .i64 x] 45)).alloc (.cells #[.int .i64 0, .int .i64 0, .int .i64 0, .int .i64 0, .int .i64 0, .int .i64 0] 49)).alloc (.cells #[.int .i64 p, .int .i64 q, .int .i64 0, .int .i64 0, .int .i64 0, .int .i64 0] 49)).cell? ⟨w.heap.size + 1 + 1, 2, none⟩ = some (.int .i64 0) := by simp [go_sem]
 have y2 : (((w.alloc (.cells #[.int .i64 p, .int .i64 q, .int .i64 k, .int .i64 v, .int .i64 a, .int .i64 x] 45)).alloc (.cells #[.int .i64 0, .int .i64 0, .int .i64 0, .int .i64 0, .int .i64 0, .int .i64 0] 49)).alloc (.cells #[.int .i64 p, .int .i64 q, .int .i64 0, .int .i64 0, .int .i64 0, .int .i64 0] 49)).frozen? ⟨w.heap.size + 1, 2, none⟩ = false := by simp [go_sem]
 have z2 : (((w.alloc (.cells #[.int .i64 p, .int .i64 q, .int .i64 k, .int .i64 v, .int .i64 a, .int .i64 x] 45)).alloc (.cells #[.int .i64 0, .int .i64 0, .int .i64 0, .int .i64 0, .int .i64 0, .int .i64 0] 49)).alloc (.cells #[.int .i64 p, .int .i64 q, .int .i64 0, .int .i64 0, .int .i64 0, .int .i64 0] 49)).frozen? ⟨w.heap.size + 1 + 1, 2, none⟩ = false := by simp [go_sem]
 have c3 : (((w.alloc (.cells #[.int .i64 p, .int .i64 q, .int .i64 k, .int .i64 v, .int .i64 a, .int .i64 x] 45)).alloc (.cells #[.int .i64 0, .int .i64 0, .int .i64 0, .int .i64 0, .int .i64 0, .int .i64 0] 49)).alloc (.cells #[.int .i64 p, .int .i64 q, .int .i64 0, .int .i64 0, .int .i64 0, .int .i64 0] 49)).cell? ⟨w.heap.size + 1, 3, none⟩ = some (.int .i64 0) := by simp [go_sem]
 have d3 : (((w.alloc (.cells #[.int .i64 p, .int .i64 q, .int .i64 k, .int .i64 v, .int .i64 a, .int .i64 x] 45)).alloc (.cells #[.int .i64 0, .int .i64 0, .int .i64 0, .int .i64 0, .int .i64 0, .int .i64 0] 49)).alloc (.cells #[.int .i64 p, .int .i64 q, .int .i64 0, .int .i64 0, .int .i64 0, .int .i64 0] 49)).cell? ⟨w.heap.size + 1 + 1, 3, none⟩ = some (.int .i64 0) := by simp [go_sem]
 have y3 : (((w.alloc (.cells #[.int .i64 p, .int .i64 q, .int .i64 k, .int .i64 v, .int .i64 a, .int .i64 x] 45)).alloc (.cells #[.int .i64 0, .int .i64 0, .int .i64 0, .int .i64 0, .int .i64 0, .int .i64 0] 49)).alloc (.cells #[.int .i64 p, .int .i64 q, .int .i64 0, .int .i64 0, .int .i64 0, .int .i64 0] 49)).frozen? ⟨w.heap.size + 1, 3, none⟩ = false := by simp [go_sem]
 have z3 : (((w.alloc (.cells #[.int .i64 p, .int .i64 q, .int .i64 k, .int .i64 v, .int .i64 a, .int .i64 x] 45)).alloc (.cells #[.int .i64 0, .int .i64 0, .int .i64 0, .int .i64 0, .int .i64 0, .int .i64 0] 49)).alloc (.cells #[.int .i64 p, .int .i64 q, .int .i64 0, .int .i64 0, .int .i64 0, .int .i64 0] 49)).frozen? ⟨w.heap.size + 1 + 1, 3, none⟩ = false := by simp [go_sem]
 have c4 : (((w.alloc (.cells #[.int .i64 p, .int .i64 q, .int .i64 k, .int .i64 v, .int .i64 a, .int .i64 x] 45)).alloc (.cells #[.int .i64 0, .int .i64 0, .int .i64 0, .int .i64 0, .int .i64 0, .int .i64 0] 49)).alloc (.cells #[.int .i64 p, .int .i64 q, .int .i64 0, .int .i64 0, .int .i64 0, .int .i64 0] 49)).cell? ⟨w.heap.size + 1, 4, none⟩ = some (.int .i64 0) := by simp [go_sem]
 have d4 : (((w.alloc (.cells #[.int .i64 p, .int .i64 q, .int .i64 k, .int .i64 v, .int .i64 a, .int .i64 x] 45)).alloc (.cells #[.int .i64 0, .int .i64 0, .int .i64 0, .int .i64 0, .int .i64 0, .int .i64 0] 49)).alloc (.cells #[.int .i64 p, .int .i64 q, .int .i64 0, .int .i64 0, .int .i64 0, .int .i64 0] 49)).cell? ⟨w.heap.size + 1 + 1, 4, none⟩ = some (.int .i64 0) := by simp [go_sem]
 have y4 : (((w.alloc (.cells #[.int .i64 p, .int .i64 q, .int .i64 k, .int .i64 v, .int .i64 a, .int .i64 x] 45)).alloc (.cells #[.int .i64 0, .int .i64 0, .int .i64 0, .int .i64 0, .int .i64 0, .int .i64 0] 49)).alloc (.cells #[.int .i64 p, .int .i64 q, .int .i64 0, .int .i64 0, .int .i64 0, .int .i64 0] 49)).frozen? ⟨w.heap.size + 1, 4, none⟩ = false := by simp [go_sem]
 have z4 : (((w.alloc (.cells #[.int .i64 p, .int .i64 q, .int .i64 k, .int .i64 v, .int .i64 a, .int .i64 x] 45)).alloc (.cells #[.int .i64 0, .int .i64 0, .int .i64 0, .int .i64 0, .int .i64 0, .int .i64 0] 49)).alloc (.cells #[.int .i64 p, .int .i64 q, .int .i64 0, .int .i64 0, .int .i64 0, .int .i64 0] 49)).frozen? ⟨w.heap.size + 1 + 1, 4, none⟩ = false := by simp [go_sem]
 have c5 : (((w.alloc (.cells #[.int .i64 p, .int .i64 q, .int .i64 k, .int .i64 v, .int .i64 a, .int .i64 x] 45)).alloc (.cells #[.int .i64 0, .int .i64 0, .int .i64 0, .int .i64 0, .int .i64 0, .int .i64 0] 49)).alloc (.cells #[.int .i64 p, .int .i64 q, .int .i64 0, .int .i64 0, .int .i64 0, .int .i64 0] 49)).cell? ⟨w.heap.size + 1, 5, none⟩ = some (.int .i64 0) := by simp [go_sem]
 have d5 : (((w.alloc (.cells #[.int .i64 p, .int .i64 q, .int .i64 k, .int .i64 v, .int .i64 a, .int .i64 x] 45)).alloc (.cells #[.int .i64 0, .int .i64 0, .int .i64 0, .int .i64 0, .int .i64 0, .int .i64 0] 49)).alloc (.cells #[.int .i64 p, .int .i64 q, .int .i64 0, .int .i64 0, .int .i64 0, .int .i64 0] 49)).cell? ⟨w.heap.size + 1 + 1, 5, none⟩ = some (.int .i64 0) := by simp [go_sem]
 have y5 : (((w.alloc (.cells #[.int .i64 p, .int .i64 q, .int .i64 k, .int .i64 v, .int .i64 a, .int .i64 x] 45)).alloc (.cells #[.int .i64 0, .int .i64 0, .int .i64 0, .int .i64 0, .int .i64 0, .int .i64 0] 49)).alloc (.cells #[.int .i64 p, .int .i64 q, .int .i64 0, .int .i64 0, .int .i64 0, .int .i64 0] 49)).frozen? ⟨w.heap.size + 1, 5, none⟩ = false := by simp [go_sem]
 have z5 : (((w.alloc (.cells #[.int .i64 p, .int .i64 q, .int .i64 k, .int .i64 v, .int .i64 a, .int .i64 x] 45)).alloc (.cells #[.int .i64 0, .int .i64 0, .int .i64 0, .int .i64 0, .int .i64 0, .int .i64 0] 49)).alloc (.cells #[.int .i64 p, .int .i64 q, .int .i64 0, .int .i64 0, .int .i64 0, .int .i64 0] 49)).frozen? ⟨w.heap.size + 1 + 1, 5, none⟩ = false := by simp [go_sem]
 generalize ((w.alloc (.cells #[.int .i64 p, .int .i64 q, .int .i64 k, .int .i64 v, .int .i64 a, .int .i64 x] 45)).alloc (.cells #[.int .i64 0, .int .i64 0, .int .i64 0, .int .i64 0, .int .i64 0, .int .i64 0] 49)).alloc (.cells #[.int .i64 p, .int .i64 q, .int .i64 0, .int .i64 0, .int .i64 0, .int .i64 0] 49) = W at *;refine (toOp8_any k v a x _).mono ?_;rintro e w1 ⟨rfl, hb⟩;replace c0 := cell_later hb c0;replace d0 := cell_later hb d0
 replace y0 := frozen_later hb (by have := H2.out;omega) y0
 replace z0 := frozen_later hb H2.out z0;replace c1 := cell_later hb c1;replace d1 := cell_later hb d1
 replace y1 := frozen_later hb (by have := H2.out;omega) y1
 replace z1 := frozen_later hb H2.out z1;replace c2 := cell_later hb c2;replace d2 := cell_later hb d2
 replace y2 := frozen_later hb (by have := H2.out;omega) y2
 replace z2 := frozen_later hb H2.out z2;replace c3 := cell_later hb c3;replace d3 := cell_later hb d3
 replace y3 := frozen_later hb (by have := H2.out;omega) y3
 replace z3 := frozen_later hb H2.out z3;replace c4 := cell_later hb c4;replace d4 := cell_later hb d4
 replace y4 := frozen_later hb (by have := H2.out;omega) y4
 replace z4 := frozen_later hb H2.out z4;replace c5 := cell_later hb c5;replace d5 := cell_later hb d5
 replace y5 := frozen_later hb (by have := H2.out;omega) y5
 replace z5 := frozen_later hb H2.out z5;replace B := below_next B hb;clear hb H2;go_wp2
 refine bodyPost_ret (v := .agg #[.int .i64 p, .int .i64 q, .int .i64 k, .int .i64 v, .int .i64 a, .int .i64 x]) (by simp [results, Tryz.results28, go_sem, *]) rfl ⟨rfl, ?_⟩
 repeat (with_reducible refine Below.setCell ?_ (by simp <;> omega) _)
 exact B
theorem Tryz.infoEntry : (Tryz.prog.info? 49).map (fun i => (i.zero, i.size, i.bytes)) = some (some (.agg #[.int .i64 0, .int .i64 0, .int .i64 0, .int .i64 0, .int .i64 0, .int .i64 0]), 6, 48) := by kernel_rfl
theorem made6 (n : Nat) : (madeCells #[.int .i64 0, .int .i64 0, .int .i64 0, .int .i64 0, .int .i64 0, .int .i64 0] (n * 6)).toList = List.replicate (n * 6) (.int .i64 0) := by
 apply List.ext_getElem?
 intro j
 by_cases hj : j < n * 6
 ·have : j % 6 = 0 ∨ j % 6 = 1 ∨ j % 6 = 2 ∨ j % 6 = 3 ∨ j % 6 = 4 ∨ j % 6 = 5 := by omega
  rcases this with e | e | e | e | e | e <;> simp [madeCells, hj, e]
 ·simp [madeCells, hj]
theorem sixs_getD0 (vs : List En) (k : Nat) (h : k < vs.length) : (sixs vs).getD (k * 6) default = .int .i64 (vs.getD k en0).1 := sixs_get vs k 0 h (by omega)
theorem sixs_getD1 (vs : List En) (k : Nat) (h : k < vs.length) : (sixs vs).getD (k * 6 + 1) default = .int .i64 (vs.getD k en0).2.1 := sixs_get vs k 1 h (by omega)
theorem sixs_getD2 (vs : List En) (k : Nat) (h : k < vs.length) : (sixs vs).getD (k * 6 + 2) default = .int .i64 (vs.getD k en0).2.2.1 := sixs_get vs k 2 h (by omega)
theorem sixs_getD3 (vs : List En) (k : Nat) (h : k < vs.length) : (sixs vs).getD (k * 6 + 3) default = .int .i64 (vs.getD k en0).2.2.2.1 := sixs_get vs k 3 h (by omega)
theorem sixs_getD4 (vs : List En) (k : Nat) (h : k < vs.length) : (sixs vs).getD (k * 6 + 4) default = .int .i64 (vs.getD k en0).2.2.2.2.1 := sixs_get vs k 4 h (by omega)
theorem sixs_getD5 (vs : List En) (k : Nat) (h : k < vs.length) : (sixs vs).getD (k * 6 + 5) default = .int .i64 (vs.getD k en0).2.2.2.2.2 := sixs_get vs k 5 h (by omega)
theorem eqOp8_yes (k v a x : Int) (w : World) :
  Calls Tryz.prog 226 #[.agg #[.int .i64 k, .int .i64 v, .int .i64 a, .int .i64 x], .agg #[.int .i64 k, .int .i64 v, .int .i64 a, .int .i64 x]] w fun e w' => e = .returned (.bool true) ∧ Below w.heap.size w w' := by
 have e1 : (k != k) = false := by simp
 have e2 : (v != v) = false := by simp
 have e3 : (a != a) = false := by simp
 have e4 : (x != x) = false := by simp
 go_enter Tryz.func226, Tryz.ntmps226
 go_wp2;go_ret
 exact ⟨rfl, (((Below.refl _ _).alloc (Nat.le_refl _) _).alloc (by simp) _)⟩
theorem eqEntry_yes (p q k v a x : Int) (w : World) :
  Calls Tryz.prog 151 #[.agg #[.int .i64 p, .int .i64 q, .int .i64 k, .int .i64 v, .int .i64 a, .int .i64 x], .agg #[.int .i64 p, .int .i64 q, .int .i64 k, .int .i64 v, .int .i64 a, .int .i64 x]] w fun e w' => e = .returned (.bool true) ∧ Below w.heap.size w w' := by
 have e1 : (p != p) = false := by simp
 have e2 : (q != q) = false := by simp
 go_enter Tryz.func151, Tryz.ntmps151
 go_wp2_with fail;refine (eqOp8_yes k v a x _).mono ?_;rintro e w1 ⟨rfl, hb⟩
 have B : Below w.heap.size w w1 := below_next (((Below.refl _ _).alloc (Nat.le_refl _) _).alloc (by simp) _) hb
 clear hb;go_wp2;go_ret;exact ⟨rfl, B⟩
theorem eqEntries_yes {o1 o2 : Bool} {l1 u1 l2 u2 : Nat} (a1 a2 : Option Addr) (n c1 m c2 : Nat) (xs : List En) (w : World) (h1 : RowAt w o1 l1 u1 6 a1 n c1 (sixs xs)) (h2 : RowAt w o2 l2 u2 6 a2 m c2 (sixs xs)) (hn : n ≤ 2097152) :
  Calls Tryz.prog 82 #[.slice a1 n c1, .slice a2 m c2] w fun e w' => e = .returned (.bool true) ∧ Below w.heap.size w w' := by
 obtain rfl : n = m := by rw [← h1.nSixs, ← h2.nSixs]
 have hb0 : ((n : Int) != (n : Int)) = false := by simp
 go_enter Tryz.func82, Tryz.ntmps82
 go_wp2
 go_loopw [5] (fun i wr => ∃ k : Nat, k ≤ n ∧ i = .int .i64 k ∧ Below w.heap.size w wr) (fun i _ => n - (intOf i).toNat)
 case atStart => exact ⟨0, Nat.zero_le _, rfl, Below.refl _ _⟩
 case round =>
  obtain ⟨k, hk, rfl, hb⟩ := hrel
  by_cases hlt : k < n
  ·obtain ⟨b1, o1, rfl, _, _, hs1, e0, e1, e2, e3, e4, e5, _⟩ := h1.six hlt
   obtain ⟨b2, o2, rfl, _, _, hs2, f0, f1, f2, f3, f4, f5, _⟩ := h2.six hlt
   replace e0 := cell_later hb e0;replace f0 := cell_later hb f0;replace e1 := cell_later hb e1;replace f1 := cell_later hb f1;replace e2 := cell_later hb e2;replace f2 := cell_later hb f2;replace e3 := cell_later hb e3;replace f3 := cell_later hb f3;replace e4 := cell_later hb e4;replace f4 := cell_later hb f4;replace e5 := cell_later hb e5;replace f5 := cell_later hb f5
   have hl : (k : Int) < (n : Int) := by omega
   generalize (xs.getD k en0).1 = x0 at *;generalize (xs.getD k en0).2.1 = x1 at *;generalize (xs.getD k en0).2.2.1 = x2 at *;generalize (xs.getD k en0).2.2.2.1 = x3 at *;generalize (xs.getD k en0).2.2.2.2.1 = x4 at *;generalize (xs.getD k en0).2.2.2.2.2 = x5 at *;go_wp2_with fail
   have D : Below wr.heap.size wr wr.drew := (Below.refl _ _).drew
   replace e0 := cell_later D e0;replace f0 := cell_later D f0;replace e1 := cell_later D e1;replace f1 := cell_later D f1;replace e2 := cell_later D e2;replace f2 := cell_later D f2;replace e3 := cell_later D e3;replace f3 := cell_later D f3;replace e4 := cell_later D e4;replace f4 := cell_later D f4;replace e5 := cell_later D e5;replace f5 := cell_later D f5;replace hb := below_step hb hb.size D;clear D
   go_region_held3 (fun w' => w'.cell? ⟨b1, o1 + k * 6, none⟩ = some (.int .i64 x0) ∧ w'.cell? ⟨b1, o1 + k * 6 + 1, none⟩ = some (.int .i64 x1) ∧ w'.cell? ⟨b1, o1 + k * 6 + 2, none⟩ = some (.int .i64 x2) ∧ w'.cell? ⟨b1, o1 + k * 6 + 3, none⟩ = some (.int .i64 x3) ∧ w'.cell? ⟨b1, o1 + k * 6 + 4, none⟩ = some (.int .i64 x4) ∧ w'.cell? ⟨b1, o1 + k * 6 + 5, none⟩ = some (.int .i64 x5) ∧ w'.cell? ⟨b2, o2 + k * 6, none⟩ = some (.int .i64 x0) ∧ w'.cell? ⟨b2, o2 + k * 6 + 1, none⟩ = some (.int .i64 x1) ∧ w'.cell? ⟨b2, o2 + k * 6 + 2, none⟩ = some (.int .i64 x2) ∧ w'.cell? ⟨b2, o2 + k * 6 + 3, none⟩ = some (.int .i64 x3) ∧ w'.cell? ⟨b2, o2 + k * 6 + 4, none⟩ = some (.int .i64 x4) ∧ w'.cell? ⟨b2, o2 + k * 6 + 5, none⟩ = some (.int .i64 x5)) (exact ⟨e0, e1, e2, e3, e4, e5, f0, f1, f2, f3, f4, f5⟩) (first | (go_at_call 151;refine (eqEntry_yes x0 x1 x2 x3 x4 x5 _).mono ?_;rintro e w1 ⟨rfl, B1⟩;replace e0 := cell_later B1 e0;replace e1 := cell_later B1 e1;replace e2 := cell_later B1 e2;replace e3 := cell_later B1 e3;replace e4 := cell_later B1 e4;replace e5 := cell_later B1 e5;replace f0 := cell_later B1 f0;replace f1 := cell_later B1 f1;replace f2 := cell_later B1 f2;replace f3 := cell_later B1 f3;replace f4 := cell_later B1 f4;replace f5 := cell_later B1 f5;replace hb := below_step hb hb.size B1;clear B1))
   clear e0 e1 e2 e3 e4 e5 f0 f1 f2 f3 f4 f5;go_wp2
   go_roundw
   case rel => exact ⟨k + 1, by omega, by go_num, hb⟩
   case measure => simp [intOf];omega
  ·go_wp2;go_ret;exact ⟨rfl, hb⟩
theorem szEntries_left (ao : Option Addr) (n c : Nat) (lt : Int) (w : World) (hn : n ≤ maxLen) (h0 : 0 ≤ lt) (h1 : lt ≤ 1048576) :
  Calls Tryz.prog 71 #[.slice ao n c, .int .i64 lt] w fun e w' => e = .returned (.int .i64 (if lt < n then -1 else lt - n)) ∧ w' = w := by
 unfold maxLen at hn
 by_cases h : lt < n
 all_goals
  go_enter Tryz.func71, Tryz.ntmps71
  go_wp2;go_ret
  exact ⟨by simp, rfl⟩
def enFault (x : En) : Int := if (1 ≤ x.1 ∧ x.1 ≤ 99) ∧ (1 ≤ x.2.1 ∧ x.2.1 ≤ 999) then opF x.2.2.1 x.2.2.2.1 x.2.2.2.2.1 x.2.2.2.2.2 else 3
theorem decide_eq_false_eq {q : Prop} [Decidable q] : (decide q = false) = ¬ q := by simp
theorem isClient_is (x : Int) (w : World) (d : Bool) (h : decide (1 ≤ x ∧ x ≤ 99) = d) : Calls Tryz.prog 235 #[.int .i64 x] w fun e w' => e = .returned (.bool d) ∧ w' = w := by
 by_cases h1 : 1 ≤ x
 ·by_cases h2 : x ≤ 99
  ·have e : d = true := by rw [← h];exact decide_eq_true ⟨h1, h2⟩
   subst e;clear h
   go_enter Tryz.func235, Tryz.ntmps235
   go_wp2;go_ret;exact ⟨rfl, rfl⟩
  ·have e : d = false := by rw [← h];exact decide_eq_false (by omega)
   subst e;clear h
   go_enter Tryz.func235, Tryz.ntmps235
   go_wp2;go_ret;exact ⟨rfl, rfl⟩
 ·have e : d = false := by rw [← h];exact decide_eq_false (by omega)
  subst e;clear h
  go_enter Tryz.func235, Tryz.ntmps235
  go_wp2;go_ret;exact ⟨rfl, rfl⟩
theorem isSeq_is (x : Int) (w : World) (d : Bool) (h : decide (1 ≤ x ∧ x ≤ 999) = d) : Calls Tryz.prog 236 #[.int .i64 x] w fun e w' => e = .returned (.bool d) ∧ w' = w := by
 by_cases h1 : 1 ≤ x
 ·by_cases h2 : x ≤ 999
  ·have e : d = true := by rw [← h];exact decide_eq_true ⟨h1, h2⟩
   subst e;clear h
   go_enter Tryz.func236, Tryz.ntmps236
   go_wp2;go_ret;exact ⟨rfl, rfl⟩
  ·have e : d = false := by rw [← h];exact decide_eq_false (by omega)
   subst e;clear h
   go_enter Tryz.func236, Tryz.ntmps236
   go_wp2;go_ret;exact ⟨rfl, rfl⟩
 ·have e : d = false := by rw [← h];exact decide_eq_false (by omega)
  subst e;clear h
  go_enter Tryz.func236, Tryz.ntmps236
  go_wp2;go_ret;exact ⟨rfl, rfl⟩
theorem specEF_is (p q k v a x : Int) (w : World) (d : Int) (hd : enFault (p, q, k, v, a, x) = d) : Calls Tryz.prog 172 #[.agg #[.int .i64 p, .int .i64 q, .int .i64 k, .int .i64 v, .int .i64 a, .int .i64 x]] w fun e w' => e = .returned (.int .i64 d) ∧ Below w.heap.size w w' := by
 have HD : Hid _ := hd
 clear hd
 have B : Below w.heap.size w (w.alloc (.cells #[.int .i64 p, .int .i64 q, .int .i64 k, .int .i64 v, .int .i64 a, .int .i64 x] 49)) := (Below.refl _ _).alloc (Nat.le_refl _) _
 have c0 : (w.alloc (.cells #[.int .i64 p, .int .i64 q, .int .i64 k, .int .i64 v, .int .i64 a, .int .i64 x] 49)).cell? ⟨w.heap.size, 0, none⟩ = some (.int .i64 p) := by simp
 have c1 : (w.alloc (.cells #[.int .i64 p, .int .i64 q, .int .i64 k, .int .i64 v, .int .i64 a, .int .i64 x] 49)).cell? ⟨w.heap.size, 1, none⟩ = some (.int .i64 q) := by simp
 have c2 : (w.alloc (.cells #[.int .i64 p, .int .i64 q, .int .i64 k, .int .i64 v, .int .i64 a, .int .i64 x] 49)).cell? ⟨w.heap.size, 2, none⟩ = some (.int .i64 k) := by simp
 have c3 : (w.alloc (.cells #[.int .i64 p, .int .i64 q, .int .i64 k, .int .i64 v, .int .i64 a, .int .i64 x] 49)).cell? ⟨w.heap.size, 3, none⟩ = some (.int .i64 v) := by simp
 have c4 : (w.alloc (.cells #[.int .i64 p, .int .i64 q, .int .i64 k, .int .i64 v, .int .i64 a, .int .i64 x] 49)).cell? ⟨w.heap.size, 4, none⟩ = some (.int .i64 a) := by simp
 have c5 : (w.alloc (.cells #[.int .i64 p, .int .i64 q, .int .i64 k, .int .i64 v, .int .i64 a, .int .i64 x] 49)).cell? ⟨w.heap.size, 5, none⟩ = some (.int .i64 x) := by simp
 go_enter Tryz.func172, Tryz.ntmps172
 by_cases h1 : 1 ≤ p ∧ p ≤ 99
 ·by_cases h2 : 1 ≤ q ∧ q ≤ 999
  ·have H : Hid (opF k v a x = d) := by show _ = _;rw [← HD.out];unfold enFault;rw [if_pos ⟨h1, h2⟩]
   go_wp2_with fail
   refine (l1In_is' p 1 99 _ true (by simp only [decide_eq_true_eq];omega)).mono ?_
   rintro e1 W ⟨rfl, rfl⟩;go_wp2_with fail
   refine (l1In_is' q 1 999 _ true (by simp only [decide_eq_true_eq];omega)).mono ?_
   rintro e1 W ⟨rfl, rfl⟩;clear HD;go_wp2_with fail;refine (specOpF_is k v a x _ d H.out).mono ?_;rintro e2 w2 ⟨rfl, hb⟩;replace B := below_next B hb;clear hb c0 c1 c2 c3 c4 c5;go_wp2;go_ret;exact ⟨rfl, B⟩
  ·have H : d = 3 := by rw [← HD.out];unfold enFault;rw [if_neg (fun h => h2 h.2)]
   subst H;go_wp2_with fail
   refine (l1In_is' p 1 99 _ true (by simp only [decide_eq_true_eq];omega)).mono ?_
   rintro e1 W ⟨rfl, rfl⟩;go_wp2_with fail
   refine (l1In_is' q 1 999 _ false (by simp only [decide_eq_false_eq];omega)).mono ?_
   rintro e1 W ⟨rfl, rfl⟩;go_wp2;go_ret;exact ⟨rfl, B⟩
 ·have H : d = 3 := by rw [← HD.out];unfold enFault;rw [if_neg (fun h => h1 h.1)]
  subst H;go_wp2_with fail
  refine (l1In_is' p 1 99 _ false (by simp only [decide_eq_false_eq];omega)).mono ?_
  rintro e1 W ⟨rfl, rfl⟩;go_wp2;go_ret;exact ⟨rfl, B⟩
theorem implEF_is (p q k v a x : Int) (w : World) (d : Int) (hd : enFault (p, q, k, v, a, x) = d) : Calls Tryz.prog 174 #[.agg #[.int .i64 p, .int .i64 q, .int .i64 k, .int .i64 v, .int .i64 a, .int .i64 x]] w fun e w' => e = .returned (.int .i64 d) ∧ Below w.heap.size w w' := by
 have HD : Hid _ := hd
 clear hd
 have B : Below w.heap.size w (w.alloc (.cells #[.int .i64 p, .int .i64 q, .int .i64 k, .int .i64 v, .int .i64 a, .int .i64 x] 49)) := (Below.refl _ _).alloc (Nat.le_refl _) _
 have c0 : (w.alloc (.cells #[.int .i64 p, .int .i64 q, .int .i64 k, .int .i64 v, .int .i64 a, .int .i64 x] 49)).cell? ⟨w.heap.size, 0, none⟩ = some (.int .i64 p) := by simp
 have c1 : (w.alloc (.cells #[.int .i64 p, .int .i64 q, .int .i64 k, .int .i64 v, .int .i64 a, .int .i64 x] 49)).cell? ⟨w.heap.size, 1, none⟩ = some (.int .i64 q) := by simp
 have c2 : (w.alloc (.cells #[.int .i64 p, .int .i64 q, .int .i64 k, .int .i64 v, .int .i64 a, .int .i64 x] 49)).cell? ⟨w.heap.size, 2, none⟩ = some (.int .i64 k) := by simp
 have c3 : (w.alloc (.cells #[.int .i64 p, .int .i64 q, .int .i64 k, .int .i64 v, .int .i64 a, .int .i64 x] 49)).cell? ⟨w.heap.size, 3, none⟩ = some (.int .i64 v) := by simp
 have c4 : (w.alloc (.cells #[.int .i64 p, .int .i64 q, .int .i64 k, .int .i64 v, .int .i64 a, .int .i64 x] 49)).cell? ⟨w.heap.size, 4, none⟩ = some (.int .i64 a) := by simp
 have c5 : (w.alloc (.cells #[.int .i64 p, .int .i64 q, .int .i64 k, .int .i64 v, .int .i64 a, .int .i64 x] 49)).cell? ⟨w.heap.size, 5, none⟩ = some (.int .i64 x) := by simp
 go_enter Tryz.func174, Tryz.ntmps174
 by_cases h1 : 1 ≤ p ∧ p ≤ 99
 ·by_cases h2 : 1 ≤ q ∧ q ≤ 999
  ·have H : Hid (opF k v a x = d) := by show _ = _;rw [← HD.out];unfold enFault;rw [if_pos ⟨h1, h2⟩]
   go_wp2_with fail
   refine (isClient_is p _ true (by simp only [decide_eq_true_eq];omega)).mono ?_
   rintro e1 W ⟨rfl, rfl⟩;go_wp2_with fail
   refine (isSeq_is q _ true (by simp only [decide_eq_true_eq];omega)).mono ?_
   rintro e1 W ⟨rfl, rfl⟩;clear HD;go_wp2_with fail;refine (implOpF_is k v a x _ d H.out).mono ?_;rintro e2 w2 ⟨rfl, hb⟩;replace B := below_next B hb;clear hb c0 c1 c2 c3 c4 c5;go_wp2;go_ret;exact ⟨rfl, B⟩
  ·have H : d = 3 := by rw [← HD.out];unfold enFault;rw [if_neg (fun h => h2 h.2)]
   subst H;go_wp2_with fail
   refine (isClient_is p _ true (by simp only [decide_eq_true_eq];omega)).mono ?_
   rintro e1 W ⟨rfl, rfl⟩;go_wp2_with fail
   refine (isSeq_is q _ false (by simp only [decide_eq_false_eq];omega)).mono ?_
   rintro e1 W ⟨rfl, rfl⟩;go_wp2;go_ret;exact ⟨rfl, B⟩
 ·have H : d = 3 := by rw [← HD.out];unfold enFault;rw [if_neg (fun h => h1 h.1)]
  subst H;go_wp2_with fail
  refine (isClient_is p _ false (by simp only [decide_eq_false_eq];omega)).mono ?_
  rintro e1 W ⟨rfl, rfl⟩;go_wp2;go_ret;exact ⟨rfl, B⟩
end Go.Proofs.YtgldocaohcoleaaGreat
namespace Go.Proofs.YtgldocaohcoleaaGreat
open Go.RowKit Go.ChangeShapes Go.WideShapes Go.Deep
theorem addr_add (b off i : Nat) : (⟨b, off, none⟩ : Addr).add i = ⟨b, off + i, none⟩ := by
 simp [Addr.add]
section
variable {H : Type} {enc : TypeId × Value → H} {P : Program} {w : World}
theorem read_ints {t e : TypeId} {fuel : Nat} {v : Value} {x : DataW H × List MemPlace} (ht : P.underlying t = some (.slice e)) (he : P.underlying e = some (.int .i64)) (hc : P.cellsOf e = 1)
  (h : DataW.trod enc P w 0 (fun _ => true) true fuel t [v] = some x) :
  ∃ ao n cap xs, v = .slice ao n cap ∧ n ≤ maxLen ∧ RowAt w false 0 w.heap.size 1 ao n cap (ints xs) := by
 rcases open_ints ht he hc h with ⟨hcs, _⟩ | ⟨a, len, cap, zs, hcs, _, hl, hm, hz, _, hcell, _⟩
 ·simp only [List.cons.injEq, and_true] at hcs
  exact ⟨none, 0, 0, [], hcs, Nat.zero_le _, rfl, Nat.le_refl _, fun h => absurd rfl h⟩
 ·simp only [List.cons.injEq, and_true] at hcs;simp only [if_true] at hz
  refine ⟨some a, len, cap, zs.take len, hcs, Nat.le_trans hl hm, ?_, hl, fun hn => ?_⟩
  ·rw [ints_length];simp;omega
  ·have h0 := hcell 0 (by omega)
   obtain ⟨b, off, spot⟩ := a
   have hspot : spot = none := by simpa [Addr.add] using World.cell?_spot h0
   subst hspot
   refine ⟨b, off, rfl, Nat.zero_le _, ?_, ?_, fun i hi => ?_, fun h => by cases h⟩
   ·exact World.block_lt_of_cell? w _ h0
   ·exact World.block_lt_of_cell? w _ h0
   ·rw [← addr_add, hcell i (by omega), ints_getD _ _ (by simp;omega)]
    simp [List.getD, show i < len by omega]
end
end Go.Proofs.YtgldocaohcoleaaGreat
namespace Go.Proofs.YtgldocaohcoleaaGreat
open Go.RowKit Go.ChangeShapes Go.WideShapes Go.Deep
section
variable {H : Type} {enc : TypeId × Value → H} {P : Program} {w : World}
end
theorem Tryz.own : ownKnob Tryz.prog.godebug = none := by kernel_rfl
theorem Tryz.laidOut : laidOutB Tryz.prog = true := by kernel_rfl
theorem Tryz.cellsInt : Tryz.prog.cellsOf 2 = 1 := by kernel_rfl
theorem Tryz.cellsBool : Tryz.prog.cellsOf 4 = 1 := by kernel_rfl
def clT (tab : List (List Nat)) : Nat → List Nat → List Nat → List Nat
 | 0, _, seen => seen.reverse
 | _, [], seen => seen.reverse
 | n + 1, f :: todo, seen => if seen.contains f then clT tab n todo seen else clT tab n (tab.getD f [] ++ todo) (f :: seen)
def fuelT (tab : List (List Nat)) : Nat := 1 + (tab.map fun l => l.length + 1).sum
section
variable {P : Program} {tab : List (List Nat)} (h : P.funcs.toList.map P.leadsTo = tab)
include h
theorem lead_is (f : Nat) : (P.funcs[f]?).elim [] P.leadsTo = tab.getD f [] := by
 rw [← h, List.getD_eq_getElem?_getD, List.getElem?_map, Array.getElem?_toList]
 cases P.funcs[f]? <;> rfl
theorem clT_is : ∀ (n : Nat) (todo seen : List Nat), P.closureVia n todo seen = clT tab n todo seen
 | 0, _, _ => rfl
 | n + 1, [], _ => rfl
 | n + 1, f :: todo, seen => by
  unfold Program.closureVia clT;rw [lead_is h]
  by_cases hs : seen.contains f = true
  ·rw [if_pos hs, if_pos hs];exact clT_is n _ _
  ·rw [if_neg hs, if_neg hs];exact clT_is n _ _
theorem closure_is (f : Nat) : P.closure f = clT tab (fuelT tab) [f] [] := by
 unfold Program.closure fuelT;rw [clT_is h, ← h, List.map_map]
 rfl
end
theorem getD_map {α β : Type} (a : Array α) (g : α → β) (d : β) (i : Nat) : (a.toList.map g).getD i d = (a[i]?).elim d g := by
 rw [List.getD_eq_getElem?_getD, List.getElem?_map, Array.getElem?_toList]
 cases a[i]? <;> rfl
section
variable {P : Program} {tab : List (List Nat)} (h : P.funcs.toList.map P.leadsTo = tab)
include h
theorem unfollowed_at {us : List Bool} (hu : P.funcs.toList.map (fun fn => fn.body.elim (entryCalls fn) Code.unfollowed) = us) (f : Nat) : P.unfollowed f = (clT tab (fuelT tab) [f] []).any fun g => us.getD g false := by
 unfold Program.unfollowed;rw [closure_is h]
 congr 1
 funext g
 rw [← hu, getD_map]
 cases P.funcs[g]? with
 | none => rfl
 | some fn =>
  rw [Option.any_some]
  show _ = fn.body.elim (entryCalls fn) Code.unfollowed
  cases fn.body <;> rfl
theorem inPlace_at {ip : List (Option String)} (hi : P.funcs.toList.map (fun fn => if fn.ours || fn.body.isNone || fn.name == "runtime.NumGoroutine" then some fn.name else none) = ip) (f : Nat) : P.inPlace f = (clT tab (fuelT tab) [f] []).filterMap fun g => ip.getD g none := by
 unfold Program.inPlace;rw [closure_is h]
 congr 1
 funext g
 rw [← hi, getD_map]
 cases P.funcs[g]? <;> rfl
theorem varsNamed_at {er : List (Option String)} (hv : (P.funcs.toList.all fun fn => (fn.body.elim [] Code.globalsNamed).isEmpty) = true) (he : P.funcs.toList.map (fun fn => if fn.body.isNone then entryReads.lookup fn.name else none) = er) (f : Nat) : P.varsNamed f = ((clT tab (fuelT tab) [f] []).filterMap fun g => er.getD g none).eraseDups := by
 have key : ∀ g fn, P.funcs[g]? = some fn → fn ∈ P.funcs.toList := fun g fn hg => by
  obtain ⟨hlt, e⟩ := Array.getElem?_eq_some_iff.1 hg
  rw [← e];exact Array.getElem_mem_toList _
 have e1 : ((P.closure f).flatMap fun g => ((P.funcs[g]?).bind (·.body)).elim [] Code.globalsNamed) = [] := by
  rw [List.flatMap_eq_nil_iff];intro g _
  cases hg : P.funcs[g]? with
  | none => rfl
  | some fn =>
   have := List.all_eq_true.1 hv fn (key g fn hg)
   simpa using this
 have e2 : ((P.closure f).filterMap fun g => (P.funcs[g]?).bind fun fn => if fn.body.isNone then entryReads.lookup fn.name else none) = (clT tab (fuelT tab) [f] []).filterMap fun g => er.getD g none := by
  rw [closure_is h]
  congr 1
  funext g
  rw [← he, getD_map]
  cases P.funcs[g]? <;> rfl
 unfold Program.varsNamed;rw [e1, e2]
 rfl
theorem recurses_unf {f : Nat} (hu : P.unfollowed f = true) : P.recurses f = true := by
 have _ := h;unfold Program.recurses;rw [hu, Bool.true_or]
end
theorem ws_app (pre rest : List Char) (h : (pre.all fun c => c != Char.ofNat 32) = true) : wordsSigns (pre ++ Char.ofNat 32 :: rest) = pre :: wordsSigns rest := by
 induction pre with
 | nil => rfl
 | cons c r ih =>
  rw [List.all_cons, Bool.and_eq_true] at h
  have hc : c = Char.ofNat 32 → False := fun e => by rw [e] at h;exact absurd h.1 (by decide)
  rw [List.cons_append, wordsSigns.eq_3 _ _ hc, ih h.2]
theorem signs_of {s : String} {l : List Char} (h : s = String.ofList l) : s.toList = l := by rw [h, String.toList_ofList]
section
variable {P : Program} {c : List Char} {X : List (List Char)} (h : behindMainWord (wordsSigns P.initOrder.toList) = c :: X) (hg : (c == "gc".toList) = false) (hs : (c == "spec".toList) = false) (hc : (c == "cut".toList) = true) (hr : (c == "carried".toList) = false) (hl : stripLifts liftWords (c :: X) = ([], c :: X))
include h hg hs hc hr hl
theorem make_of : P.make = some .cut := by
 have _ := hr;have _ := hl;unfold Program.make;rw [h];simp only [hg, hs, hc, Bool.or_false, Bool.true_or, Bool.false_eq_true, if_false, if_true]
theorem lifts_of (hn : (some c == some "carried".toList) = false) : P.liftsFinal = false := by
 have _ := hg;have _ := hs;have _ := hc;have _ := hr;unfold Program.liftsFinal Program.headLifts;simp only [h, hl, List.head?_cons, hn, Bool.false_and, Bool.false_or]
 split <;> rfl
theorem enter_of (h1 : P.laysLater = false) (h2 : P.bearsReflect = false) (h3 : P.doorFits [] = true) (hn : (some c == some "cut".toList) = true) : P.mayEnter = true := by
 have _ := hc;unfold Program.mayEnter;rw [h];simp only [hl, List.head?_cons, hg, hs, hr, h1, h2, h3, hn, List.contains_nil, Bool.or_false, Bool.false_and, Bool.and_true, Bool.not_false, Bool.or_true]
end
def leadsT : List (List Nat) := [[], [], [1], [14, 16, 15, 16, 17, 18, 16, 19, 20, 18, 21, 22, 16, 17, 18, 22], [14, 16, 23, 16, 24, 18, 16, 19, 20, 18, 21, 22, 16, 24, 18, 22], [14, 16, 25, 16, 26, 18, 16, 19, 20, 18, 21, 22, 16, 26, 18, 22], [14, 16, 28, 27, 16, 28, 29, 18, 16, 19, 20, 18, 21, 22, 16, 28, 29, 18, 22], [14, 16, 30, 16, 31, 18, 16, 19, 20, 18, 21, 22, 16, 31, 18, 22], [32, 33, 34, 35, 36, 37, 26, 24, 37, 17, 38, 39, 38, 38], [32, 40, 41, 42, 43, 44, 45, 46, 47, 44, 48, 49], [32, 50, 46, 49, 51, 52, 49, 44], [53, 54, 56, 57, 55, 56, 57, 58, 59, 56, 60, 57, 61, 62, 63, 59, 64, 65, 56, 57, 58, 59, 65], [14, 16, 66, 16, 67, 18, 16, 19, 20, 18, 21, 22, 16, 67, 18, 22], [32, 68, 58, 55, 44, 52, 45, 45], [69, 70, 71], [72, 73, 75, 74], [76, 77, 78], [79, 42], [19], [80, 81, 82], [83, 84, 85], [20], [86], [72, 73, 49, 74], [79, 46], [72, 73, 87, 74], [79, 41], [72, 73, 88, 74], [89], [90, 79], [92, 73, 93], [94, 95, 96, 97], [], [98, 99], [100, 51], [101, 73, 102], [103, 104], [], [105, 106], [105, 107], [98, 108], [44, 109, 110, 111], [44, 109, 112, 114, 113, 115, 116, 111], [117], [100, 118, 119, 120, 121, 122, 123, 124], [125], [44, 104, 126, 127, 111, 109, 116, 114, 113, 128, 111], [44, 109, 114], [117], [117, 129, 130, 131, 132, 133, 134, 136, 135], [98, 108], [100, 118, 115, 111], [44, 137], [71, 138, 139, 140], [71], [117, 129, 141, 129, 130, 142, 129], [78, 143, 144, 145], [28, 78], [52, 109, 147, 146, 111], [60, 81], [82, 148, 149, 150], [151, 82], [85, 152, 153, 154], [85], [62, 84], [155, 156], [92, 73, 157], [94, 95, 96, 159, 158, 96, 97], [160], [53], [54], [], [161, 162], [], [73, 163, 164, 165], [117, 129, 129, 130, 166, 167, 131], [56], [57], [28], [168, 95, 158, 97], [60], [61], [151], [85, 152, 153, 154], [85], [], [169, 156, 170], [117, 129, 130], [171, 129, 172, 129, 129, 130, 136, 135], [], [91], [173, 174, 126, 175, 111], [161, 101], [163], [103, 176], [177, 178, 179], [180], [], [], [], [], [], [101, 101, 129], [100, 181, 182, 183], [184], [103], [186, 185], [188, 189, 190], [191, 99, 192, 192, 192, 192], [193], [], [], [], [], [], [104], [194, 195], [101, 101, 196, 101, 197, 101, 198, 101, 199], [120], [120], [], [183, 120], [104], [120], [200], [201], [109], [202, 194, 203], [184, 179, 195], [], [165, 165], [], [204], [134, 165], [], [], [204], [205, 118, 119, 206, 207, 174, 208], [], [], [209], [101, 210, 197, 101, 172, 211], [212, 213, 214, 215, 216, 134, 217], [], [], [218], [219, 220, 221, 222, 223, 224], [179, 179], [], [], [225], [226], [], [], [85], [170, 227, 228, 229], [170], [93, 55, 74, 93], [230, 232], [58], [98, 108, 233], [117, 162, 141, 197], [101], [165, 130, 164], [165], [], [], [134], [103, 176], [170, 227, 228, 229], [], [117, 134], [101, 101, 234], [44, 104], [235, 236, 237], [202, 194, 203], [], [238, 193], [239, 179], [], [], [44], [176, 137], [240, 174], [], [], [187], [], [241, 185], [242], [243, 244, 185], [192, 99, 99, 245, 246, 99, 99, 245, 134, 99, 245, 245, 99, 246, 99], [99], [179, 247, 248, 249], [], [250], [101], [172], [134], [196, 197, 101], [119, 121], [], [251], [195], [], [], [120, 120], [121, 120], [], [71], [101, 196, 101, 101, 101], [], [252, 134, 252, 253, 135, 254], [134, 253, 135, 136, 135], [166, 131, 132, 133, 134, 255], [166, 131, 165, 255], [165, 167, 256, 165, 135, 253, 254], [165], [78], [257, 104, 258, 257, 258, 258, 258, 259], [104, 258, 202], [260, 261], [262, 260, 261], [184, 115, 45, 258, 259], [104, 263], [82], [], [], [], [170], [231], [], [179], [99, 192, 135, 135, 99, 135, 192, 253, 135, 245, 264, 99, 99, 165, 245, 264, 245, 246, 99, 99, 99, 192, 192, 192, 192, 192, 265], [101, 266, 267, 101, 268, 266], [], [], [269, 270, 271], [], [], [], [45], [45, 45], [], [104, 45], [99], [99, 264], [], [], [272, 179], [], [247, 273], [], [], [], [274, 204, 275, 165, 135, 165, 253, 167, 217, 136, 135], [276], [250], [], [258, 195], [112, 116], [114, 113, 128, 277], [184], [179, 195], [99, 99, 278], [264, 99, 192, 192, 279], [101], [101], [101], [], [], [], [], [281, 280], [], [282], [], [262, 283, 113, 284, 286, 285, 258, 115, 194, 263, 202], [99, 99, 99, 99, 99, 99, 245, 99, 99], [278, 99, 192, 192, 192, 192], [287, 288, 289, 290, 291, 292, 293, 294, 295, 280, 280], [296, 297], [], [], [283, 285], [], [283, 285, 298], [293], [299, 299], [300, 301], [302, 302, 302, 303], [], [293, 293, 293], [304, 304], [293, 293], [293, 293, 293, 293], [], [], [305], [293, 293], [281], [], [303], [306, 306, 306], [], [308, 309, 307], [293], [], [304, 304], [310, 310], [], [], [], [], [], [], [], [], [], [], [], [], [], [], [], [], [], []]
theorem leads_is : Tryz.prog.funcs.toList.map Tryz.prog.leadsTo = leadsT := by kernel_rfl
def unfT : List Bool := [false, false, false, false, false, false, false, false, false, false, false, false, false, false, false, false, false, false, false, false, false, false, false, false, false, false, false, false, false, false, false, false, false, false, false, false, false, false, false, false, false, false, false, false, false, false, false, false, false, false, false, false, false, false, false, false, false, false, false, false, false, false, false, false, false, false, false, false, false, false, false, false, false, false, false, false, false, false, false, false, false, false, false, false, false, false, false, false, false, false, false, false, false, false, false, false, false, false, false, false, false, false, false, false, false, true, false, false, false, false, false, false, false, false, false, false, false, false, false, false, false, false, false, false, false, false, false, false, false, false, false, false, false, false, false, false, false, false, false, false, false, false, false, false, false, false, true, false, false, false, false, false, false, false, false, false, false, false, true, false, false, false, false, false, false, false, false, false, false, false, false, false, false, false, false, false, false, false, false, false, false, false, false, false, false, true, false, false, false, false, false, false, false, false, false, false, false, false, false, false, false, false, false, false, false, false, false, false, false, false, false, false, false, false, false, false, false, false, false, false, false, false, false, false, false, false, false, false, false, false, false, false, false, false, false, false, false, false, false, false, true, false, false, false, false, false, false, false, false, false, false, false, false, false, false, false, false, false, false, false, false, false, false, false, false, false, false, false, false, false, false, false, false, false, false, false, false, false, false, false, false, false, false, false, false, false, false, false, false, false, false, false, false, false, false, false, false, false, false, false, false, false, false, false, false, false, false, false, false, false, false, false, false, false, false, false, false, false, false, false, false, false, false, false, false, false, false, false]
theorem unf_is : Tryz.prog.funcs.toList.map (fun fn => fn.body.elim (entryCalls fn) Code.unfollowed) = unfT := by kernel_rfl
def inpT : List (Option String) := [some "main.main", some "gosem.cut", none, none, none, none, none, none, none, none, none, none, none, none, none, none, none, none, none, none, none, none, none, none, none, none, none, none, none, none, none, none, none, none, none, none, none, none, none, none, none, none, none, none, none, none, none, none, none, none, none, none, none, none, none, none, none, none, none, none, none, none, none, none, none, none, none, none, none, none, none, none, none, none, none, none, none, none, none, none, none, none, none, none, none, none, none, none, none, none, none, none, none, none, none, none, none, none, none, none, none, none, none, none, none, none, none, none, none, none, none, none, none, none, none, none, none, none, none, none, none, none, none, none, none, none, none, none, none, none, none, none, none, none, none, none, none, none, none, none, none, none, none, none, none, none, none, none, none, none, none, none, none, none, none, none, none, none, none, none, none, none, none, none, none, none, none, none, none, none, none, none, none, none, none, none, none, none, none, none, none, none, none, none, none, none, none, none, none, none, none, none, none, none, none, none, none, none, none, none, none, none, none, none, none, none, none, none, none, none, none, none, none, none, none, none, none, none, none, none, none, none, none, none, none, none, none, none, none, none, none, none, none, none, none, none, none, none, none, none, none, none, none, none, none, none, none, none, none, none, none, none, none, none, none, none, none, none, none, none, none, none, none, none, none, none, none, none, none, none, none, none, none, none, none, none, none, none, none, none, none, none, none, none, none, none, none, none, none, none, none, none, none, none, none, none, none, none, none, none, none, none, none, none, none, none, none, none, none, none, none, some "(runtime.boundsError).Error", some "(runtime.boundsError).RuntimeError", some "(runtime.errorString).Error", some "(runtime.errorString).RuntimeError", some "(runtime.plainError).Error", some "(runtime.plainError).RuntimeError", some "(runtime.errorAddressString).Error", some "(runtime.errorAddressString).RuntimeError", some "(*runtime.TypeAssertionError).Error", some "(*runtime.TypeAssertionError).RuntimeError", some "(*runtime.PanicNilError).Error", some "(*runtime.PanicNilError).RuntimeError", some "(*internal/abi.Type).Align", some "(internal/runtime/maps.unhashableTypeError).Error", some "(internal/runtime/maps.unhashableTypeError).RuntimeError", none, some "(internal/abi.Kind).String"]
theorem inp_is : Tryz.prog.funcs.toList.map (fun fn => if fn.ours || fn.body.isNone || fn.name == "runtime.NumGoroutine" then some fn.name else none) = inpT := by kernel_rfl
theorem var_ok : (Tryz.prog.funcs.toList.all fun fn => (fn.body.elim [] Code.globalsNamed).isEmpty) = true := by kernel_rfl
def entT : List (Option String) := [none, none, none, none, none, none, none, none, none, none, none, none, none, none, none, none, none, none, none, none, none, none, none, none, none, none, none, none, none, none, none, none, none, none, none, none, none, none, none, none, none, none, none, none, none, none, none, none, none, none, none, none, none, none, none, none, none, none, none, none, none, none, none, none, none, none, none, none, none, none, none, none, none, none, none, none, none, none, none, none, none, none, none, none, none, none, none, none, none, none, none, none, none, none, none, none, none, none, none, none, none, none, none, none, none, none, none, none, none, none, none, none, none, none, none, none, none, none, none, none, none, none, none, none, none, none, none, none, none, none, none, none, none, none, none, none, none, none, none, none, none, none, none, none, none, none, none, none, none, none, none, none, none, none, none, none, none, none, none, none, none, none, none, none, none, none, none, none, none, none, none, none, none, none, none, none, none, none, none, none, none, none, none, none, none, none, none, none, none, none, none, none, none, none, none, none, none, none, none, none, none, none, none, none, none, none, none, none, none, none, none, none, none, none, none, none, none, none, none, none, none, none, none, none, none, none, none, none, none, none, none, none, none, none, none, none, none, none, none, none, none, none, none, none, none, none, none, none, none, none, none, none, none, none, none, none, none, none, none, none, none, none, none, none, none, none, none, none, none, none, none, none, none, none, none, none, none, none, none, none, none, none, none, none, none, none, none, none, none, none, none, none, none, none, none, none, none, none, none, none, none, none, none, none, none, none, none, none, none, none, none, none, none, none, none, none, none, none, none, none, none, none, none, none, none, none, none, none]
theorem ent_is : Tryz.prog.funcs.toList.map (fun fn => if fn.body.isNone then entryReads.lookup fn.name else none) = entT := by kernel_rfl
def headH : List Char := [104, 97, 114, 110, 101, 115, 115].map Char.ofNat
def headS : List Char := [98, 56, 57, 100, 48, 53, 99, 99, 98, 57, 56, 99, 50, 55, 102, 50, 50, 100, 49, 53, 49, 102, 50, 52, 49, 54, 100, 99, 53, 55, 52, 102, 98, 98, 56, 101, 97, 102, 56, 50, 101, 53, 102, 56, 102, 54, 56, 49, 54, 49, 57, 52, 98, 50, 100, 52, 100, 56, 97, 97, 54, 97, 97, 98].map Char.ofNat
def headC : List Char := [99, 117, 116].map Char.ofNat
def headR : List Char := [97, 116, 32, 108, 111, 111, 112, 46, 101, 120, 97, 109, 112, 108, 101, 47, 103, 48, 48, 50, 55, 55, 47, 108, 97, 119, 115, 46, 70, 110, 69, 120, 97, 99, 116, 84, 105, 109, 101, 111, 117, 116, 65, 116, 32, 108, 111, 111, 112, 46, 101, 120, 97, 109, 112, 108, 101, 47, 103, 48, 48, 50, 55, 55, 47, 108, 97, 119, 115, 46, 70, 110, 69, 120, 97, 99, 116, 66, 101, 97, 116, 65, 116, 32, 108, 111, 111, 112, 46, 101, 120, 97, 109, 112, 108, 101, 47, 103, 48, 48, 50, 55, 55, 47, 108, 97, 119, 115, 46, 70, 110, 69, 120, 97, 99, 116, 67, 114, 97, 115, 104, 65, 116, 32, 108, 111, 111, 112, 46, 101, 120, 97, 109, 112, 108, 101, 47, 103, 48, 48, 50, 55, 55, 47, 108, 97, 119, 115, 46, 70, 110, 69, 120, 97, 99, 116, 65, 115, 107, 65, 116, 32, 108, 111, 111, 112, 46, 101, 120, 97, 109, 112, 108, 101, 47, 103, 48, 48, 50, 55, 55, 47, 108, 97, 119, 115, 46, 70, 110, 69, 120, 97, 99, 116, 76, 111, 115, 101, 77, 97, 105, 108, 32, 108, 111, 111, 112, 46, 101, 120, 97, 109, 112, 108, 101, 47, 103, 48, 48, 50, 55, 55, 47, 108, 97, 119, 115, 46, 70, 110, 78, 101, 119, 115, 32, 108, 111, 111, 112, 46, 101, 120, 97, 109, 112, 108, 101, 47, 103, 48, 48, 50, 55, 55, 47, 108, 97, 119, 115, 46, 70, 110, 76, 97, 115, 116, 105, 110, 103, 32, 108, 111, 111, 112, 46, 101, 120, 97, 109, 112, 108, 101, 47, 103, 48, 48, 50, 55, 55, 47, 108, 97, 119, 115, 46, 70, 110, 66, 101, 97, 116, 115, 32, 108, 111, 111, 112, 46, 101, 120, 97, 109, 112, 108, 101, 47, 103, 48, 48, 50, 55, 55, 47, 108, 97, 119, 115, 46, 70, 110, 69, 120, 97, 99, 116, 72, 101, 97, 114, 82, 101, 112, 108, 105, 99, 97, 32, 108, 111, 111, 112, 46, 101, 120, 97, 109, 112, 108, 101, 47, 103, 48, 48, 50, 55, 55, 47, 108, 97, 119, 115, 46, 70, 110, 69, 120, 97, 99, 116, 68, 101, 108, 105, 118, 101, 114, 77, 97, 105, 108, 32, 108, 111, 111, 112, 46, 101, 120, 97, 109, 112, 108, 101, 47, 103, 48, 48, 50, 55, 55, 47, 108, 97, 119, 115, 46, 70, 110, 72, 101, 97, 114, 115].map Char.ofNat
theorem init_is : Tryz.prog.initOrder = String.ofList (headH ++ Char.ofNat 32 :: (headS ++ Char.ofNat 32 :: (headC ++ Char.ofNat 32 :: headR))) := by kernel_rfl
theorem init_words : ∃ X, wordsSigns Tryz.prog.initOrder.toList = headH :: headS :: headC :: X := by
 rw [signs_of init_is, ws_app headH _ (by kernel_rfl), ws_app headS _ (by kernel_rfl), ws_app headC _ (by kernel_rfl)]
 exact ⟨_, rfl⟩
theorem behind_is (X : List (List Char)) : behindMainWord (headH :: headS :: headC :: X) = headC :: X := by kernel_rfl
theorem head_gc : (headC == "gc".toList) = false := by kernel_rfl
theorem head_spec : (headC == "spec".toList) = false := by kernel_rfl
theorem head_cut : (headC == "cut".toList) = true := by kernel_rfl
theorem head_carried : (headC == "carried".toList) = false := by kernel_rfl
theorem strip_is (X : List (List Char)) : stripLifts liftWords (headC :: X) = ([], headC :: X) := by kernel_rfl
theorem lays_no : Tryz.prog.laysLater = false := by kernel_rfl
theorem bears_no : Tryz.prog.bearsReflect = false := by kernel_rfl
theorem door_ok : Tryz.prog.doorFits [] = true := by kernel_rfl
theorem head_carried' : (some headC == some "carried".toList) = false := by kernel_rfl
theorem head_cut' : (some headC == some "cut".toList) = true := by kernel_rfl
theorem words_is : ∃ X, behindMainWord (wordsSigns Tryz.prog.initOrder.toList) = headC :: X := by
 obtain ⟨X, hX⟩ := init_words
 exact ⟨X, by rw [hX, behind_is]⟩
theorem made_cut : Tryz.prog.make = some .cut := by
 obtain ⟨X, hX⟩ := words_is
 exact make_of hX head_gc head_spec head_cut head_carried (strip_is X)
theorem lifts_no : Tryz.prog.liftsFinal = false := by
 obtain ⟨X, hX⟩ := words_is
 exact lifts_of hX head_gc head_spec head_cut head_carried (strip_is X) head_carried'
theorem may_enter : Tryz.prog.mayEnter = true := by
 obtain ⟨X, hX⟩ := words_is
 exact enter_of hX head_gc head_spec head_cut head_carried (strip_is X) lays_no bears_no door_ok head_cut'
end Go.Proofs.YtgldocaohcoleaaGreat

/- Chapter 5: where a volume stands and how many blocks it has, by the program and by the model. -/
import Derived.Test.YtikjndmgljkhhaaYP
namespace Go.Proofs.Ytikjndmgljkhhaa
open Go.RowKit

section
variable {o o2 : Bool} {l u l2 u2 : Nat} (an : Option Addr) (nn cn : Nat) (ab : Option Addr) (nb cb : Nat) (av : Option Addr) (nv cv : Nat) (K : Nat → KS) (f : Fo) (vs : List Vo) (w : World) (h : FoAt w o l u an nn cn ab nb cb K f) (hv : RowAt w o2 l2 u2 3 av nv cv (trips vs)) (hn : nn ≤ 2097152) (hb : nb ≤ 2097152) (hK : ∀ i, i < nn → (K i).2.1 ≤ 2097152) (hvn : nv ≤ 2097152)
include h hv hn hb hK hvn
set_option maxRecDepth 20000 in
set_option maxHeartbeats 1000000 in
theorem implVolAt_is (id : Int) (cd vl : Int) (hc : volAtC f vs id = cd) (hl : volAtV f vs id = vl) : Calls Try.prog 49 #[.agg #[.slice an nn cn, .slice ab nb cb, .slice av nv cv], .int .i64 id] w fun e w' => e = .returned (.agg #[.int .i64 cd, .int .i64 vl]) ∧ Below w.heap.size w w' := by
  have A : Below w.heap.size w ((w.alloc (.cells #[.slice an nn cn, .slice ab nb cb, .slice av nv cv] 31)).alloc (.cells #[.int .i64 0, .int .i64 0] 40)) := ((Below.refl _ _).alloc (Nat.le_refl _) _).alloc (by simp) _
  have g0 : ((w.alloc (.cells #[.slice an nn cn, .slice ab nb cb, .slice av nv cv] 31)).alloc (.cells #[.int .i64 0, .int .i64 0] 40)).cell? ⟨w.heap.size, 0, none⟩ = some (.slice an nn cn) := by simp
  have g1 : ((w.alloc (.cells #[.slice an nn cn, .slice ab nb cb, .slice av nv cv] 31)).alloc (.cells #[.int .i64 0, .int .i64 0] 40)).cell? ⟨w.heap.size, 1, none⟩ = some (.slice ab nb cb) := by simp
  have g2 : ((w.alloc (.cells #[.slice an nn cn, .slice ab nb cb, .slice av nv cv] 31)).alloc (.cells #[.int .i64 0, .int .i64 0] 40)).cell? ⟨w.heap.size, 2, none⟩ = some (.slice av nv cv) := by simp
  have z0 : ((w.alloc (.cells #[.slice an nn cn, .slice ab nb cb, .slice av nv cv] 31)).alloc (.cells #[.int .i64 0, .int .i64 0] 40)).cell? ⟨w.heap.size + 1, 0, none⟩ = some (.int .i64 0) := by simp
  have z1 : ((w.alloc (.cells #[.slice an nn cn, .slice ab nb cb, .slice av nv cv] 31)).alloc (.cells #[.int .i64 0, .int .i64 0] 40)).cell? ⟨w.heap.size + 1, 1, none⟩ = some (.int .i64 0) := by simp
  have y0 : ((w.alloc (.cells #[.slice an nn cn, .slice ab nb cb, .slice av nv cv] 31)).alloc (.cells #[.int .i64 0, .int .i64 0] 40)).frozen? ⟨w.heap.size + 1, 0, none⟩ = false := by simp
  have y1 : ((w.alloc (.cells #[.slice an nn cn, .slice ab nb cb, .slice av nv cv] 31)).alloc (.cells #[.int .i64 0, .int .i64 0] 40)).frozen? ⟨w.heap.size + 1, 1, none⟩ = false := by simp
  have hz : w.heap.size + 1 < ((w.alloc (.cells #[.slice an nn cn, .slice ab nb cb, .slice av nv cv] 31)).alloc (.cells #[.int .i64 0, .int .i64 0] 40)).heap.size := by simp
  have HC : Hid _ := hc
  have HL : Hid _ := hl
  clear hc hl
  go_enter Try.func49, Try.ntmps49
  go_wp2_with fail
  refine (implPF_is an nn cn ab nb cb av nv cv K f vs _ (h.below A) (hv.below A) hn hb hK hvn _ rfl).mono ?_
  rintro e w1 ⟨rfl, B⟩
  replace g2 := cell_later B g2
  replace z0 := cell_later B z0
  replace z1 := cell_later B z1
  replace y0 := frozen_later B hz y0
  replace y1 := frozen_later B hz y1
  have hz2 := Nat.lt_of_lt_of_le hz B.size
  replace B := below_next A B
  have hzz := hz2
  clear A g0 g1 hz
  obtain ⟨q, hq⟩ : ∃ q, poFault f vs = q := ⟨_, rfl⟩
  have HQ : Hid _ := hq
  rw [hq]
  clear hq
  by_cases hq0 : q = 0
  rotate_left 1
  · have hne : (q != 0) = true := by simp [hq0]
    have e1 : cd = q := by rw [← HC.out, volAtC, HQ.out, if_neg hq0]
    have e2 : vl = 0 := by rw [← HL.out, volAtV, HC.out, e1, if_neg hq0]
    subst e1 e2
    clear HC HL HQ hq0
    go_wp2
    refine bodyPost_ret (v := .agg #[.int .i64 cd, .int .i64 0]) (by simp [results, Try.results49, go_sem, z0, z1]) rfl ?_
    exact ⟨rfl, (B.setCell (by simp) _).setCell (by simp) _⟩
  subst hq0
  have HC2 : Hid ((if volPl vs id < 0 then (4 : Int) else 0) = cd) := by show _ = _; rw [← HC.out, volAtC, if_pos HQ.out]
  go_wp2_with fail
  refine (volPlace_is av nv cv vs _ (hv.below B) hvn id _ rfl).mono ?_
  rintro e w2 ⟨rfl, B2⟩
  replace z0 := cell_later B2 z0
  replace z1 := cell_later B2 z1
  replace y0 := frozen_later B2 hzz y0
  replace y1 := frozen_later B2 hzz y1
  replace B := below_step B B.size B2
  clear B2 hzz
  have HP := volPl_is vs id
  obtain ⟨q, hq⟩ : ∃ q, volPl vs id = q := ⟨_, rfl⟩
  have HL2 : Hid ((if cd = 0 then q else 0) = vl) := by show _ = _; rw [← HL.out, volAtV, HC.out, hq]
  rw [hq] at HC2 HP ⊢
  clear hq HC HL HQ
  have hqq : q = -1 ∨ 0 ≤ q := by rcases HP with e | ⟨m, e, _⟩ <;> omega
  clear HP
  by_cases hneg : q < 0
  · obtain rfl : q = -1 := by omega
    have e1 : cd = 4 := by rw [← HC2.out, if_pos hneg]
    have e2 : vl = 0 := by rw [← HL2.out, e1]; rfl
    subst e1 e2
    clear HC2 HL2 hneg hqq
    go_wp2
    refine bodyPost_ret (v := .agg #[.int .i64 4, .int .i64 0]) (by simp [results, Try.results49, go_sem, z0, z1]) rfl ?_
    exact ⟨rfl, (B.setCell (by simp) _).setCell (by simp) _⟩
  · have hq1 : (q == -1) = false := by simp; omega
    have hq2 : decide (q = -1) = false := decide_eq_false (by omega)
    have e1 : cd = 0 := by rw [← HC2.out, if_neg hneg]
    have e2 : vl = q := by rw [← HL2.out, e1]; rfl
    subst e1 e2
    clear HC2 HL2 hqq
    go_wp2
    refine bodyPost_ret (v := .agg #[.int .i64 0, .int .i64 vl]) (by simp [results, Try.results49, go_sem, z0, z1]) rfl ?_
    exact ⟨rfl, (B.setCell (by simp) _).setCell (by simp) _⟩

set_option maxRecDepth 20000 in
set_option maxHeartbeats 1000000 in
theorem implUsedOf_is (id : Int) (cd vl : Int) (hc : volAtC f vs id = cd) (hl : usedOfV f vs id = vl) : Calls Try.prog 16 #[.agg #[.slice an nn cn, .slice ab nb cb, .slice av nv cv], .int .i64 id] w fun e w' => e = .returned (.agg #[.int .i64 cd, .int .i64 vl]) ∧ Below w.heap.size w w' := by
  have A : Below w.heap.size w ((w.alloc (.cells #[.slice an nn cn, .slice ab nb cb, .slice av nv cv] 31)).alloc (.cells #[.int .i64 0, .int .i64 0] 40)) := ((Below.refl _ _).alloc (Nat.le_refl _) _).alloc (by simp) _
  have g0 : ((w.alloc (.cells #[.slice an nn cn, .slice ab nb cb, .slice av nv cv] 31)).alloc (.cells #[.int .i64 0, .int .i64 0] 40)).cell? ⟨w.heap.size, 0, none⟩ = some (.slice an nn cn) := by simp
  have g1 : ((w.alloc (.cells #[.slice an nn cn, .slice ab nb cb, .slice av nv cv] 31)).alloc (.cells #[.int .i64 0, .int .i64 0] 40)).cell? ⟨w.heap.size, 1, none⟩ = some (.slice ab nb cb) := by simp
  have g2 : ((w.alloc (.cells #[.slice an nn cn, .slice ab nb cb, .slice av nv cv] 31)).alloc (.cells #[.int .i64 0, .int .i64 0] 40)).cell? ⟨w.heap.size, 2, none⟩ = some (.slice av nv cv) := by simp
  have z0 : ((w.alloc (.cells #[.slice an nn cn, .slice ab nb cb, .slice av nv cv] 31)).alloc (.cells #[.int .i64 0, .int .i64 0] 40)).cell? ⟨w.heap.size + 1, 0, none⟩ = some (.int .i64 0) := by simp
  have y0 : ((w.alloc (.cells #[.slice an nn cn, .slice ab nb cb, .slice av nv cv] 31)).alloc (.cells #[.int .i64 0, .int .i64 0] 40)).frozen? ⟨w.heap.size + 1, 0, none⟩ = false := by simp
  have z1 : ((w.alloc (.cells #[.slice an nn cn, .slice ab nb cb, .slice av nv cv] 31)).alloc (.cells #[.int .i64 0, .int .i64 0] 40)).cell? ⟨w.heap.size + 1, 1, none⟩ = some (.int .i64 0) := by simp
  have y1 : ((w.alloc (.cells #[.slice an nn cn, .slice ab nb cb, .slice av nv cv] 31)).alloc (.cells #[.int .i64 0, .int .i64 0] 40)).frozen? ⟨w.heap.size + 1, 1, none⟩ = false := by simp
  have hz : w.heap.size + 1 < ((w.alloc (.cells #[.slice an nn cn, .slice ab nb cb, .slice av nv cv] 31)).alloc (.cells #[.int .i64 0, .int .i64 0] 40)).heap.size := by simp
  obtain ⟨pl, hpl⟩ : ∃ pl, volAtV f vs id = pl := ⟨_, rfl⟩
  have HC : Hid _ := hc
  have HL : Hid _ := hl
  have HP : Hid _ := hpl
  clear hc hl hpl
  go_enter Try.func16, Try.ntmps16
  go_wp2_with fail
  refine (implVolAt_is an nn cn ab nb cb av nv cv K f vs _ (h.below A) (hv.below A) hn hb hK hvn id cd pl HC.out HP.out).mono ?_
  rintro e w1 ⟨rfl, B⟩
  replace g0 := cell_later B g0
  replace g1 := cell_later B g1
  replace g2 := cell_later B g2
  replace z0 := cell_later B z0
  replace y0 := frozen_later B hz y0
  replace z1 := cell_later B z1
  replace y1 := frozen_later B hz y1
  replace hz := Nat.lt_of_lt_of_le hz B.size
  have hw1 : Hid _ := hz
  replace B := below_next A B
  clear A
  have A2 : Below w1.heap.size w1 (w1.alloc (.cells #[.int .i64 cd, .int .i64 pl] 40)) := (Below.refl _ _).alloc (Nat.le_refl _) _
  have x0 : (w1.alloc (.cells #[.int .i64 cd, .int .i64 pl] 40)).cell? ⟨w1.heap.size, 0, none⟩ = some (.int .i64 cd) := by simp
  have x1 : (w1.alloc (.cells #[.int .i64 cd, .int .i64 pl] 40)).cell? ⟨w1.heap.size, 1, none⟩ = some (.int .i64 pl) := by simp
  replace g0 := cell_later A2 g0
  replace g1 := cell_later A2 g1
  replace g2 := cell_later A2 g2
  replace z0 := cell_later A2 z0
  replace y0 := frozen_later A2 hz y0
  replace z1 := cell_later A2 z1
  replace y1 := frozen_later A2 hz y1
  replace hz := Nat.lt_of_lt_of_le hz A2.size
  replace B := below_step B B.size A2
  clear A2
  by_cases hc0 : cd = 0
  rotate_left 1
  · have hne : (cd != 0) = true := by simp [hc0]
    have e1 : pl = 0 := by rw [← HP.out, volAtV, HC.out, if_neg hc0]
    have e2 : vl = 0 := by rw [← HL.out, usedOfV, HC.out, if_neg hc0]
    subst e1 e2
    clear HC HL HP hc0
    go_wp2
    refine bodyPost_ret (v := .agg #[.int .i64 cd, .int .i64 0]) (by simp [results, Try.results16, go_sem, z0, z1]) rfl ?_
    exact ⟨rfl, (B.setCell (by simp) _).setCell (by simp) _⟩
  subst hc0
  obtain ⟨hpo, m, hm, hml, _⟩ := volAt_0 HC.out
  have e1 : pl = (m : Int) := by rw [← HP.out, volAtV, HC.out, if_pos rfl, hm]
  have HU : Hid ((usedN f (vs.getD m vo0).2.2 : Int) = vl) := by show _ = _; rw [← HL.out, usedOfV, HC.out, if_pos rfl, hm]; rfl
  have HR : Hid _ := vol_root hpo hml
  have HI : Hid _ := (po_right hpo).1.inv
  subst e1
  clear HL HP HC hpo hm
  have hvl := hv.nTrips
  have hmn : m < nv := by omega
  have hlm : (m : Int) < (nv : Int) := by omega
  have hv2 := hv.below B
  obtain ⟨b, off, rfl, _, _, hbs, _, _, v2, _⟩ := hv2.trip hmn
  generalize (vs.getD m vo0).2.2 = rt at *
  go_wp2_with fail
  have D : Below (w1.alloc (.cells #[.int .i64 0, .int .i64 (m : Int)] 40)).heap.size (w1.alloc (.cells #[.int .i64 0, .int .i64 (m : Int)] 40)) (w1.alloc (.cells #[.int .i64 0, .int .i64 (m : Int)] 40)).drew := (Below.refl _ _).drew
  replace g0 := cell_later D g0
  replace g1 := cell_later D g1
  replace g2 := cell_later D g2
  replace x1 := cell_later D x1
  replace v2 := cell_later D v2
  replace z0 := cell_later D z0
  replace z1 := cell_later D z1
  replace y0 := frozen_later D hz y0
  replace y1 := frozen_later D hz y1
  replace hz := Nat.lt_of_lt_of_le hz D.size
  replace B := below_step B B.size D
  clear D
  have hso : ∀ (W : World) (v0 v1 : Value) (b i : Nat), b ≠ w.heap.size + 1 → ((W.setCell ⟨w.heap.size + 1, 0, none⟩ v0).setCell ⟨w.heap.size + 1, 1, none⟩ v1).cell? ⟨b, i, none⟩ = W.cell? ⟨b, i, none⟩ := fun W v0 v1 b i hb => by
    have hn : ∀ k, (⟨w.heap.size + 1, k, none⟩ : Addr) ≠ ⟨b, i, none⟩ := fun k e => hb (by injection e with e _; exact e.symm)
    rw [World.cell?_setCell_other _ _ _ _ (hn _), World.cell?_setCell_other _ _ _ _ (hn _)]
  have hbw : b < w.heap.size := by obtain ⟨_, _, e, _, _, q, _⟩ := hv.trip hmn; cases e; exact q
  have n1 : w.heap.size ≠ w.heap.size + 1 := by omega
  have n2 : w1.heap.size ≠ w.heap.size + 1 := by have := hw1.out; omega
  have n3 : b ≠ w.heap.size + 1 := by omega
  go_region_held3 (fun w' => w'.cell? ⟨w.heap.size, 0, none⟩ = some (.slice an nn cn) ∧ w'.cell? ⟨w.heap.size, 1, none⟩ = some (.slice ab nb cb) ∧ w'.cell? ⟨w.heap.size, 2, none⟩ = some (.slice (some ⟨b, off, none⟩) nv cv) ∧ w'.cell? ⟨w1.heap.size, 1, none⟩ = some (.int .i64 (m : Int)) ∧ w'.cell? ⟨b, off + m * 3 + 2, none⟩ = some (.int .i64 rt)) (first | exact ⟨g0, g1, g2, x1, v2⟩ | exact ⟨(hso _ _ _ _ _ n1).trans g0, (hso _ _ _ _ _ n1).trans g1, (hso _ _ _ _ _ n1).trans g2, (hso _ _ _ _ _ n2).trans x1, (hso _ _ _ _ _ n3).trans v2⟩)
    (first | (go_at_call 50; refine (usedBy_is an nn cn ab nb cb K f _ (h.below B) rt HI.out HR.out vl HU.out).mono ?_; rintro e w2 ⟨rfl, B2⟩; replace g0 := cell_later B2 g0; replace g1 := cell_later B2 g1; replace g2 := cell_later B2 g2; replace x1 := cell_later B2 x1; replace v2 := cell_later B2 v2; replace z0 := cell_later B2 z0; replace z1 := cell_later B2 z1; replace y0 := frozen_later B2 hz y0; replace y1 := frozen_later B2 hz y1; replace hz := Nat.lt_of_lt_of_le hz B2.size; replace B := below_step B B.size B2; clear B2))
  go_wp2
  refine bodyPost_ret (v := .agg #[.int .i64 0, .int .i64 vl]) (by simp [results, Try.results16, go_sem, z0, z1]) rfl ?_
  exact ⟨rfl, (B.setCell (by simp) _).setCell (by simp) _⟩
end

end Go.Proofs.Ytikjndmgljkhhaa

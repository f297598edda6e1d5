/- Chapter 4: the program's small questions on forests. -/
import Derived.Test.YtlmefgpgfdgimaaQAC
import Derived.Laws.StructEq
import Derived.Laws.Cover3
set_option maxRecDepth 20000
set_option maxHeartbeats 16000000
namespace Go.Proofs.Ytlmefgpgfdgimaa
open Go.RowKit
theorem isTreePlace_is (x : Int) (w : World) (d : Bool) (h : spotB x = d) : Calls Try.prog 81 #[.int .i64 x] w fun e w' => e = .returned (.bool d) ∧ w' = w := by
 subst h
 unfold spotB
 by_cases h0 : 0 ≤ x
 ·by_cases h1 : x < 16
  ·go_enter Try.func81, Try.ntmps81
   go_wp2
   go_ret
   exact ⟨ret_bool (by simp; omega), rfl⟩
  ·go_enter Try.func81, Try.ntmps81
   go_wp2
   go_ret
   exact ⟨ret_bool (by simp; omega), rfl⟩
 ·go_enter Try.func81, Try.ntmps81
  go_wp2
  go_ret
  exact ⟨ret_bool (by simp; omega), rfl⟩
section
variable {o : Bool} {l u : Nat} (an : Option Addr) (nn cn : Nat) (ab : Option Addr) (nb cb : Nat) (K : Nat → KS) (f : Fo) (w : World) (h : FoAt w o l u an nn cn ab nb cb K f) (hn : nn ≤ 2097152) (hb : nb ≤ 2097152)
include h hn hb
end
section
variable {o : Bool} {l u : Nat} (an : Option Addr) (nn cn : Nat) (ab : Option Addr) (nb cb : Nat) (K : Nat → KS) (f : Fo) (w : World) (h : FoAt w o l u an nn cn ab nb cb K f) (hn : nn ≤ 2097152) (hb : nb ≤ 2097152)
include h hn hb
end
def fn (n : Nat) (g : Nat → Int) : List Int := (List.range n).map g
section
variable {o : Bool} {l u : Nat} (an : Option Addr) (nn cn : Nat) (ab : Option Addr) (nb cb : Nat) (K : Nat → KS) (f : Fo) (w : World) (h : FoAt w o l u an nn cn ab nb cb K f)
include h
end
section
variable {o : Bool} {l u : Nat} (an : Option Addr) (nn cn : Nat) (ab : Option Addr) (nb cb : Nat) (K : Nat → KS) (f : Fo) (w : World) (h : FoAt w o l u an nn cn ab nb cb K f) (hn : nn ≤ 2097152) (hb : nb ≤ 2097152) (hK : ∀ i, i < nn → (K i).2.1 ≤ 2097152)
include h hn hb hK
end
section
variable {o : Bool} {l u : Nat} (an : Option Addr) (nn cn : Nat) (ab : Option Addr) (nb cb : Nat) (K : Nat → KS) (f : Fo) (w : World) (h : FoAt w o l u an nn cn ab nb cb K f)
include h
end
section
variable {o : Bool} {l u : Nat} (an : Option Addr) (nn cn : Nat) (ab : Option Addr) (nb cb : Nat) (K : Nat → KS) (f : Fo) (w : World) (h : FoAt w o l u an nn cn ab nb cb K f) (hn : nn ≤ 2097152) (hb : nb ≤ 2097152) (hK : ∀ i, i < nn → (K i).2.1 ≤ 2097152)
include h hn hb hK
end
abbrev Vo := Int × Int × Int
def vo0 : Vo := (0, 0, 0)
def trips (vs : List Vo) : List Value := flat3 vs.length (fun i => .int .i64 (vs.getD i vo0).1) (fun i => .int .i64 (vs.getD i vo0).2.1) (fun i => .int .i64 (vs.getD i vo0).2.2)
def volIdB (x : Int) : Bool := decide (1 ≤ x ∧ x ≤ 99)
def quotaB (x : Int) : Bool := decide (1 ≤ x ∧ x ≤ 16)
def opAt (k : Int) : Bool := k == 2 || k == 3 || k == 4
def opVal (k : Int) : Bool := k == 1 || k == 2 || k == 5
def opValB (k x : Int) : Bool := if k = 1 then quotaB x else if k = 2 then dataB x else if k = 5 then volIdB x else true
def opF (k v a x : Int) : Int :=
 if 1 ≤ k ∧ k ≤ 6 then
  (if volIdB v && (!opAt k || spotB a) && opValB k x then
   (if (!opAt k && a != 0) || (!opVal k && x != 0) then 1 else 0)
  else 3)
 else 1
theorem l5Id_is (x : Int) (w : World) (d : Bool) (h : volIdB x = d) : Calls Try.prog 75 #[.int .i64 x] w fun e w' => e = .returned (.bool d) ∧ w' = w := by
 go_enter Try.func75, Try.ntmps75
 go_wp2_with fail
 refine (l1In_any x 1 99 _).mono ?_
 rintro e w1 ⟨rfl, rfl⟩
 go_wp2
 go_ret
 exact ⟨by rw [← h, volIdB, Bool.decide_and]; rfl, rfl⟩
theorem isVolId_is (x : Int) (w : World) (d : Bool) (h : volIdB x = d) : Calls Try.prog 80 #[.int .i64 x] w fun e w' => e = .returned (.bool d) ∧ w' = w := by
 unfold volIdB at h
 by_cases h1 : 1 ≤ x
 ·by_cases h2 : x ≤ 99
  ·have e : d = true := by rw [← h]; exact decide_eq_true ⟨h1, h2⟩
   subst e
   clear h
   go_enter Try.func80, Try.ntmps80
   go_wp2
   go_ret
   exact ⟨rfl, rfl⟩
  ·have e : d = false := by rw [← h]; exact decide_eq_false (by omega)
   subst e
   clear h
   go_enter Try.func80, Try.ntmps80
   go_wp2
   go_ret
   exact ⟨rfl, rfl⟩
 ·have e : d = false := by rw [← h]; exact decide_eq_false (by omega)
  subst e
  clear h
  go_enter Try.func80, Try.ntmps80
  go_wp2
  go_ret
  exact ⟨rfl, rfl⟩
section
variable {o : Bool} {l u : Nat} (p : Nat) (an : Option Addr) (nn cn : Nat) (ab : Option Addr) (nb cb : Nat) (K : Nat → KS) (f : Fo) (w : World) (h : FoAt w o l u an nn cn ab nb cb K f) (hp0 : w.cell? ⟨p, 0, none⟩ = some (.slice an nn cn)) (hp1 : w.cell? ⟨p, 1, none⟩ = some (.slice ab nb cb)) (hn : nn ≤ 2097152)
include h hp0 hp1 hn
end
section
variable {o o2 : Bool} {l u l2 u2 : Nat} (p : Nat) (an : Option Addr) (nn cn : Nat) (ab : Option Addr) (nb cb : Nat) (av : Option Addr) (nv cv : Nat) (K : Nat → KS) (f : Fo) (vs : List Vo) (w : World) (h : FoAt w o l u an nn cn ab nb cb K f) (hv : RowAt w o2 l2 u2 3 av nv cv (trips vs)) (hp0 : w.cell? ⟨p, 0, none⟩ = some (.slice an nn cn)) (hp1 : w.cell? ⟨p, 1, none⟩ = some (.slice ab nb cb)) (hp2 : w.cell? ⟨p, 2, none⟩ = some (.slice av nv cv)) (hn : nn ≤ 2097152) (hb : nb ≤ 2097152) (hK : ∀ i, i < nn → (K i).2.1 ≤ 2097152)
include h hv hp0 hp1 hp2 hn hb hK
end
section
variable {o o2 : Bool} {l u l2 u2 : Nat} (p : Nat) (an : Option Addr) (nn cn : Nat) (ab : Option Addr) (nb cb : Nat) (av : Option Addr) (nv cv : Nat) (K : Nat → KS) (f : Fo) (vs : List Vo) (w : World) (h : FoAt w o l u an nn cn ab nb cb K f) (hv : RowAt w o2 l2 u2 3 av nv cv (trips vs)) (hp0 : w.cell? ⟨p, 0, none⟩ = some (.slice an nn cn)) (hp1 : w.cell? ⟨p, 1, none⟩ = some (.slice ab nb cb)) (hp2 : w.cell? ⟨p, 2, none⟩ = some (.slice av nv cv)) (hn : nn ≤ 2097152) (hb : nb ≤ 2097152) (hK : ∀ i, i < nn → (K i).2.1 ≤ 2097152)
include h hv hp0 hp1 hp2 hn hb hK
end
section
variable {o o2 : Bool} {l u l2 u2 : Nat} (an : Option Addr) (nn cn : Nat) (ab : Option Addr) (nb cb : Nat) (av : Option Addr) (nv cv : Nat) (K : Nat → KS) (f : Fo) (vs : List Vo) (w : World) (h : FoAt w o l u an nn cn ab nb cb K f) (hv : RowAt w o2 l2 u2 3 av nv cv (trips vs)) (hn : nn ≤ 2097152) (hb : nb ≤ 2097152) (hK : ∀ i, i < nn → (K i).2.1 ≤ 2097152) (hvn : nv ≤ 2097152)
include h hv hn hb hK hvn
end
section
variable {o : Bool} {l u : Nat} (an : Option Addr) (nn cn : Nat) (ab : Option Addr) (nb cb : Nat) (K : Nat → KS) (f : Fo) (w : World) (h : FoAt w o l u an nn cn ab nb cb K f)
include h
end
section
variable {o o2 : Bool} {l u l2 u2 : Nat} (an : Option Addr) (nn cn : Nat) (ab : Option Addr) (nb cb : Nat) (av : Option Addr) (nv cv : Nat) (K : Nat → KS) (f : Fo) (vs : List Vo) (w : World) (h : FoAt w o l u an nn cn ab nb cb K f) (hv : RowAt w o2 l2 u2 3 av nv cv (trips vs))
include h hv
end
section
variable {o2 : Bool} {l2 u2 : Nat} (p : Nat) (av : Option Addr) (nv cv : Nat) (vs : List Vo) (w : World) (hv : RowAt w o2 l2 u2 3 av nv cv (trips vs)) (hp2 : w.cell? ⟨p, 2, none⟩ = some (.slice av nv cv)) (hvn : nv ≤ 2097152)
include hv hp2 hvn
end
section
variable {o o2 : Bool} {l u l2 u2 : Nat} (an : Option Addr) (nn cn : Nat) (ab : Option Addr) (nb cb : Nat) (av : Option Addr) (nv cv : Nat) (K : Nat → KS) (f : Fo) (vs : List Vo) (w : World) (h : FoAt w o l u an nn cn ab nb cb K f) (hv : RowAt w o2 l2 u2 3 av nv cv (trips vs)) (hn : nn ≤ 2097152) (hb : nb ≤ 2097152) (hK : ∀ i, i < nn → (K i).2.1 ≤ 2097152) (hvn : nv ≤ 2097152)
include h hv hn hb hK hvn
end
section
variable {o o2 : Bool} {l u l2 u2 : Nat} (an : Option Addr) (nn cn : Nat) (ab : Option Addr) (nb cb : Nat) (av : Option Addr) (nv cv : Nat) (K : Nat → KS) (f : Fo) (vs : List Vo) (w : World) (h : FoAt w o l u an nn cn ab nb cb K f) (hv : RowAt w o2 l2 u2 3 av nv cv (trips vs))
include h hv
end
section
variable {o o2 : Bool} {l u l2 u2 : Nat} (an : Option Addr) (nn cn : Nat) (ab : Option Addr) (nb cb : Nat) (av : Option Addr) (nv cv : Nat) (K : Nat → KS) (f : Fo) (vs : List Vo) (w : World) (h : FoAt w o l u an nn cn ab nb cb K f) (hv : RowAt w o2 l2 u2 3 av nv cv (trips vs))
include h hv
end
end Go.Proofs.Ytlmefgpgfdgimaa

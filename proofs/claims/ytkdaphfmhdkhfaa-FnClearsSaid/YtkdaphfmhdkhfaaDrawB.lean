/- Draws: the source, a chance, a pick, a new disk. -/
import Derived.Test.YtkdaphfmhdkhfaaDrawA
namespace Go.Proofs.Ytkdaphfmhdkhfaa
open Go.RowKit

theorem l1Source_any (ac : Option Addr) (nc cc : Nat) (w : World) :
    Calls Try.prog 136 #[.slice ac nc cc] w fun e w' => e = .returned (.pointer (some ⟨w.heap.size, 0, none⟩)) ∧ SrcAt w' w.heap.size 0 ac nc cc ∧ Below w.heap.size w w' ∧ w'.heap.size = w.heap.size + 1 := by
  go_enter Try.func136, Try.ntmps136
  go_wp2
  go_ret
  exact ⟨rfl, heap_alloc_new _ _, (Below.refl _ _).alloc (Nat.le_refl _) _, by simp⟩

theorem l1Chance_any {o : Bool} {lo hi : Nat} (ac : Option Addr) (nc cc : Nat) (bs : List Nat) (g p n : Nat) (w : World) (hs : SrcAt w g p ac nc cc) (hr : RowAt w o lo hi 1 ac nc cc (bys bs)) (hb : ∀ i, bs.getD i 0 < 256) (hd : hi ≤ g ∨ g < lo) (hp : p ≤ 100000) (hn0 : 0 < n) (hn : n ≤ 200) (hc : nc ≤ 1048576) :
    Calls Try.prog 139 #[.pointer (some ⟨g, 0, none⟩), .int .i64 n] w fun e w' => ∃ b : Bool, e = .returned (.bool b) ∧ SrcAt w' g (p + 1) ac nc cc ∧ Kept g (g + 1) w w' ∧ w'.heap.size = w.heap.size := by
  go_enter Try.func139, Try.ntmps139
  go_wp2_with fail
  refine (l1Next_any ac nc cc bs g p n w hs hr hb hd hp hn0 hn hc).mono ?_
  rintro e w1 ⟨v, _, rfl, h1, h2, h3⟩
  go_wp2
  go_ret
  exact ⟨_, rfl, h1, h2, h3⟩

set_option maxHeartbeats 400000 in
theorem l1Pick_any {o : Bool} {lo hi : Nat} (ac : Option Addr) (nc cc : Nat) (bs : List Nat) (g p n : Nat) (w : World) (hs : SrcAt w g p ac nc cc) (hr : RowAt w o lo hi 1 ac nc cc (bys bs)) (hb : ∀ i, bs.getD i 0 < 256) (hd : hi ≤ g ∨ g < lo) (hp : p ≤ 100000) (hn0 : 0 < n) (hn : n ≤ 200) (hc : nc ≤ 1048576)
    {o2 : Bool} {l2 u2 : Nat} (al : Option Addr) (cl : Nat) (zs : List Int) (hl : RowAt w o2 l2 u2 1 al n cl (ints zs)) (hd2 : u2 ≤ g ∨ g < l2) :
    Calls Try.prog 150 #[.pointer (some ⟨g, 0, none⟩), .slice al n cl] w fun e w' => ∃ v : Int, e = .returned (.int .i64 v) ∧ SrcAt w' g (p + 1) ac nc cc ∧ Kept g (g + 1) w w' ∧ w'.heap.size = w.heap.size := by
  go_enter Try.func150, Try.ntmps150
  go_wp2_with fail
  refine (l1Next_any ac nc cc bs g p n w hs hr hb hd hp hn0 hn hc).mono ?_
  rintro e w1 ⟨v, hv, rfl, h1, h2, h3⟩
  obtain ⟨b, off, rfl, _, _, _, c1, _⟩ := (hl.kept h2 (by omega)).int hv
  have hv2 : (v : Int) < n := by omega
  go_wp2
  go_ret
  exact ⟨_, rfl, h1, h2, h3⟩

end Go.Proofs.Ytkdaphfmhdkhfaa

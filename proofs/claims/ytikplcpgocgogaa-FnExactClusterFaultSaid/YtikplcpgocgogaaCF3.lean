/- Chapter 11: the fault of a cluster, of the program. -/
import Derived.Test.YtikplcpgocgogaaCF1
import Derived.Test.YtikplcpgocgogaaCF2
namespace Go.Proofs.Ytikplcpgocgogaa
open Go.RowKit

set_option maxRecDepth 20000 in
set_option maxHeartbeats 2000000 in
theorem implClF_is {own : Bool} {lo hi : Nat} (N M Sl : Hd) (xs : List Nod) (ms : List Mal) (es : List En) (w : World) (x : ClAt w own lo hi N M Sl xs ms es) (hs : ClSz N M Sl xs ms 1048576) (d : Int) (hd : cluF (xs.map (·.1)) (ms.map (·.1)) es = d) :
    Calls Try.prog 33 #[.agg #[.slice N.1 N.2.1 N.2.2, .slice M.1 M.2.1 M.2.2, .slice Sl.1 Sl.2.1 Sl.2.2]] w fun e w' => e = .returned (.int .i64 d) ∧ Below w.heap.size w w' := by
  have hl : (xs.map (·.1)).length = N.2.1 := by simpa using x.nodes.len
  have hl2 : (ms.map (·.1)).length = M.2.1 := by simpa using x.mails.len
  unfold cluF at hd
  rw [hl, hl2] at hd
  have HD : Hid _ := hd
  have HS : Hid _ := hs
  clear hd hl hl2 hs
  go_enter Try.func33, Try.ntmps33
  go_wp2_with (first | ((with_reducible refine box_newX 78 [.slice N.1 N.2.1 N.2.2, .slice M.1 M.2.1 M.2.2, .slice Sl.1 Sl.2.1 Sl.2.2] rfl ?_); intro b0 W0 N0; have ob0 : w.heap.size ≤ b0 := N0.ge; have B := N0.below; have X0 := N0.bx; have c0 := X0.cell; clear N0) | fail)
  by_cases q0 : 1 ≤ (N.2.1 : Int) ∧ (N.2.1 : Int) ≤ 5
  rotate_left 1
  · have e := HD.out
    rw [if_neg (fun z => q0 z.1)] at e
    subst e
    clear HD
    refine (isSize_is N.2.1 _ false (by simp only [decide_eq_false_eq]; exact q0)).mono ?_
    rintro e W9 ⟨rfl, rfl⟩
    go_wp2
    go_ret
    exact ⟨rfl, B⟩
  refine (isSize_is N.2.1 _ true (by simp only [decide_eq_true_eq]; exact q0)).mono ?_
  rintro e W9 ⟨rfl, rfl⟩
  by_cases q1 : M.2.1 ≤ 120
  rotate_left 1
  · have e := HD.out
    rw [if_neg (fun z => q1 z.2)] at e
    subst e
    clear HD
    have q1' : (120 : Int) < (M.2.1 : Int) := by omega
    go_wp2
    go_ret
    exact ⟨rfl, B⟩
  have q1' : ¬ (120 : Int) < (M.2.1 : Int) := by omega
  have HD2 := HD.out
  rw [if_pos ⟨q0, q1⟩] at HD2
  replace HD : Hid _ := HD2
  clear HD2
  go_wp2_with fail
  obtain ⟨c, hc⟩ : ∃ c, nodesF (xs.map (·.1)) = c := ⟨_, rfl⟩
  have HC : Hid _ := hc
  have HD2 := HD.out
  rw [hc] at HD2
  replace HD : Hid _ := HD2
  clear HD2 hc
  refine (nodesFault_is N xs _ (x.nodes.below B) HS.out.n HS.out.nodes c HC.out).mono ?_
  rintro e w1 ⟨rfl, BB⟩
  replace X0 := X0.below BB
  replace c0 := X0.cell
  replace B := below_next B BB
  clear BB
  by_cases q2 : c = 0
  rotate_left 1
  · have q2' : (c != 0) = true := by simp [q2]
    have e := HD.out
    rw [if_neg q2] at e
    subst e
    clear HD
    go_wp2
    go_ret
    exact ⟨rfl, B⟩
  subst q2
  have HD2 := HD.out
  rw [if_pos rfl] at HD2
  replace HD : Hid _ := HD2
  clear HD2
  obtain ⟨c, hc⟩ : ∃ c, mailsF (xs.map (·.1)) (ms.map (·.1)) = c := ⟨_, rfl⟩
  have HC2 : Hid _ := hc
  have HD2 := HD.out
  rw [hc] at HD2
  replace HD : Hid _ := HD2
  clear HD2 hc
  go_wp2_with fail
  refine (mailsFault_is N M xs ms _ (x.nodes.below B) (x.mails.below B) HS.out.n HS.out.m HC.out c HC2.out).mono ?_
  rintro e w2 ⟨rfl, BB⟩
  replace X0 := X0.below BB
  replace c0 := X0.cell
  replace B := below_next B BB
  clear BB
  by_cases q3 : c = 0
  rotate_left 1
  · have q3' : (c != 0) = true := by simp [q3]
    have e := HD.out
    rw [if_neg q3] at e
    subst e
    clear HD
    go_wp2
    go_ret
    exact ⟨rfl, B⟩
  subst q3
  have HD2 := HD.out
  rw [if_pos rfl] at HD2
  replace HD : Hid _ := HD2
  clear HD2
  go_wp2_with fail
  refine (implLF_is Sl.1 Sl.2.1 Sl.2.2 es _ (x.slog.below B) d HD.out).mono ?_
  rintro e w3 ⟨rfl, BB⟩
  replace X0 := X0.below BB
  replace c0 := X0.cell
  replace B := below_next B BB
  clear BB
  go_wp2
  go_ret
  exact ⟨rfl, B⟩

end Go.Proofs.Ytikplcpgocgogaa

/- Chapter 11: the fault of nodes, of the program. -/
import Derived.Test.YtikplcpgocgogaaCF0
import Derived.Test.YtikplcpgocgogaaWC
import Derived.Test.YtikplcpgocgogaaZV
namespace Go.Proofs.Ytikplcpgocgogaa
open Go.RowKit

set_option maxRecDepth 20000 in
set_option maxHeartbeats 2000000 in
theorem nodesFault_is {own : Bool} {lo hi : Nat} (N : Hd) (xs : List Nod) (w : World) (x : NAt w own lo hi N xs) (hn : N.2.1 ≤ 1048576) (hs : ∀ (i : Nat) (a : Nod), xs[i]? = some a → RSz a.2 1048576) (d : Int) (hd : nodesF (xs.map (·.1)) = d) :
    Calls Try.prog 99 #[.slice N.1 N.2.1 N.2.2] w fun e w' => e = .returned (.int .i64 d) ∧ Below w.heap.size w w' := by
  obtain ⟨ao, n, cap⟩ := N
  simp only at hn ⊢
  have hl : (xs.map (·.1)).length = n := by simpa using x.len
  unfold nodesF at hd
  obtain ⟨rs, hrs⟩ : ∃ rs, xs.map (·.1) = rs := ⟨_, rfl⟩
  have HR : Hid (∀ (i : Nat) (a : Nod), xs[i]? = some a → rs.getD i rep0 = a.1) := fun i a e => by rw [← hrs]; exact mapD e
  rw [hrs] at hd hl
  rw [hl] at hd
  have HL : Hid _ := hl
  have HD : Hid _ := hd
  have HS : Hid _ := hs
  have Hx : Hid (NAt w own lo hi _ xs) := x
  clear hd hs hrs hl x
  go_enter Try.func99, Try.ntmps99
  go_wp2
  go_loopw [8] (fun i wr => ∃ k : Nat, k ≤ n ∧ i = .int .i64 k ∧ Hid (fstF (nodeF rs) k = 0) ∧ Below w.heap.size w wr) (fun i _ => n - (intOf i).toNat)
  case atStart => exact ⟨0, Nat.zero_le _, rfl, rfl, Below.refl _ _⟩
  case round =>
    obtain ⟨k, hk, rfl, H0, hb⟩ := hrel
    by_cases hlt : k < n
    · have hlk : (k : Int) < (n : Int) := by omega
      obtain ⟨r, h, b, off, ex, rfl, _, _, XN, y, _⟩ := LAt.node (NAt.below Hx.out hb) hlt
      have cN := XN.cell
      have hmk := HS.out k _ ex
      have HE : Hid (rs.getD k rep0 = r) := HR.out k _ ex
      clear ex
      simp only at hmk
      obtain ⟨c, hc⟩ : ∃ c, repF r = c := ⟨_, rfl⟩
      have HC : Hid _ := hc
      clear hc
      go_wp2_with (first | ((with_reducible refine store_midX 29 X0 0 [.int .i64 r.id, .int .i64 r.size, .int .i64 r.view, .bool r.normal, .int .i64 r.last, .slice h.L.1 h.L.2.1 h.L.2.2, .int .i64 r.commit, .slice h.O.1 h.O.2.1 h.O.2.2, .slice h.A.1 h.A.2.1 h.A.2.2, .slice h.D.1 h.D.2.1 h.D.2.2] (by simp) (by kernel_rfl) (by simp [Value.oneCell']) rfl rfl ?_); intro V1 S; replace X0 : Bx V1 b0 [.int .i64 r.id, .int .i64 r.size, .int .i64 r.view, .bool r.normal, .int .i64 r.last, .slice h.L.1 h.L.2.1 h.L.2.2, .int .i64 r.commit, .slice h.O.1 h.O.2.1 h.O.2.2, .slice h.A.1 h.A.2.1 h.A.2.2, .slice h.D.1 h.D.2.1 h.D.2.2] := S.bx; replace c0 := X0.cell; replace f0 := X0.froz; replace B := B.trans (S.kept.below _ (by omega) B.size); clear S) | ((with_reducible refine alloc_newX 29 [.int .i64 0, .int .i64 0, .int .i64 0, .bool false, .int .i64 0, .slice none 0 0, .int .i64 0, .slice none 0 0, .slice none 0 0, .slice none 0 0] (fun _ => by kernel_rfl) ?_); intro b0 W0 N0; have ob0 : wr.heap.size ≤ b0 := N0.ge; have B := N0.below; have X0 := N0.bx; have c0 := X0.cell; have f0 := X0.froz; clear N0) | fail)
      clear XN cN
      refine (implRF_is r h _ (y.below B) (hmk.mono (by omega)) c HC.out).mono ?_
      rintro e w1 ⟨rfl, BB⟩
      replace X0 := X0.below BB
      replace c0 := X0.cell
      replace f0 := X0.froz
      replace B := below_next B BB
      clear BB
      by_cases q0 : c = 0
      rotate_left 1
      · have q0' : (c != 0) = true := by simp [q0]
        have e := fstF_stop HD.out H0.out hlt (nodeF_rep HE.out HC.out q0) q0
        subst e
        have hbb := below_next hb B
        clear hb HD
        go_wp2
        go_ret
        exact ⟨rfl, hbb⟩
      subst q0
      by_cases q1 : r.id = k
      rotate_left 1
      · have q1' : (r.id != (k : Int)) = true := by simp [q1]
        have e := fstF_stop HD.out H0.out hlt (nodeF_form HE.out HC.out (fun z => q1 z.1)) (by decide)
        subst e
        have hbb := below_next hb B
        clear hb HD
        go_wp2
        go_ret
        exact ⟨rfl, hbb⟩
      have q1' : (r.id != (k : Int)) = false := by simp [q1]
      have Q1 : Hid _ := q1
      clear q1
      by_cases q2 : r.size = n
      rotate_left 1
      · have q2' : (r.size != (n : Int)) = true := by simp [q2]
        have e := fstF_stop HD.out H0.out hlt (nodeF_form HE.out HC.out (fun z => q2 (by rw [z.2, HL.out]))) (by decide)
        subst e
        have hbb := below_next hb B
        clear hb HD
        go_wp2
        go_ret
        exact ⟨rfl, hbb⟩
      have q2' : (r.size != (n : Int)) = false := by simp [q2]
      have Q2 : Hid _ := q2
      clear q2
      have HN : Hid (fstF (nodeF rs) (k + 1) = 0) := fstF_next H0.out (nodeF_ok HE.out HC.out ⟨Q1.out, by rw [HL.out]; exact Q2.out⟩)
      have HB : Hid _ := below_next hb B
      clear hb
      go_wp2
      go_roundw
      case rel => exact ⟨k + 1, by omega, by go_num, HN, HB.out⟩
      case measure => simp [intOf]; omega
    · obtain rfl : k = n := by omega
      have e : d = 0 := by rw [← HD.out]; exact H0.out
      subst e
      clear HD
      go_wp2
      go_ret
      exact ⟨rfl, hb⟩

end Go.Proofs.Ytikplcpgocgogaa

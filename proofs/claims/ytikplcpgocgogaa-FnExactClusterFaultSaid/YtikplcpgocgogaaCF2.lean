/- Chapter 11: the fault of mails, of the program. -/
import Derived.Test.YtikplcpgocgogaaCF0
import Derived.Test.YtikplcpgocgogaaWI
import Derived.Test.YtikplcpgocgogaaZV
namespace Go.Proofs.Ytikplcpgocgogaa
open Go.RowKit

set_option maxRecDepth 20000 in
set_option maxHeartbeats 2000000 in
theorem mailsFault_is {own o2 : Bool} {lo hi l2 u2 : Nat} (N M : Hd) (xs : List Nod) (ms : List Mal) (w : World) (x : NAt w own lo hi N xs) (y : MAt w o2 l2 u2 M ms) (hn : N.2.1 ≤ 1048576) (hm : M.2.1 ≤ 1048576) (hr : nodesF (xs.map (·.1)) = 0) (d : Int) (hd : mailsF (xs.map (·.1)) (ms.map (·.1)) = d) :
    Calls Try.prog 100 #[.slice M.1 M.2.1 M.2.2, .slice N.1 N.2.1 N.2.2] w fun e w' => e = .returned (.int .i64 d) ∧ Below w.heap.size w w' := by
  obtain ⟨na, nn, nc⟩ := N
  obtain ⟨ao, n, cap⟩ := M
  simp only at hn hm ⊢
  have hl : (xs.map (·.1)).length = nn := by simpa using x.len
  have hl2 : (ms.map (·.1)).length = n := by simpa using y.len
  unfold mailsF at hd
  obtain ⟨rs, hrs⟩ : ∃ rs, xs.map (·.1) = rs := ⟨_, rfl⟩
  obtain ⟨ns, hns⟩ : ∃ ns, ms.map (·.1) = ns := ⟨_, rfl⟩
  have HR : Hid (∀ (i : Nat) (a : Nod), xs[i]? = some a → rs.getD i rep0 = a.1) := fun i a e => by rw [← hrs]; exact mapD e
  have HM : Hid (∀ (i : Nat) (a : Mal), ms[i]? = some a → ns.getD i ml0 = a.1) := fun i a e => by rw [← hns]; exact mapD e
  rw [hns] at hd hl2
  rw [hrs] at hd hl hr
  rw [hl2] at hd
  have HL : Hid _ := hl
  have HD : Hid _ := hd
  have HA : Hid (∀ i, i < nn → 1 ≤ (rs.getD i rep0).size ∧ (rs.getD i rep0).size ≤ 5) := fun i hi => rep_size (nodesF_all hr i (by rw [hl]; exact hi)).1
  have Hx : Hid (NAt w own lo hi _ xs) := x
  have Hy : Hid (MAt w o2 l2 u2 _ ms) := y
  clear hd hrs hns hl hl2 hr x y
  go_enter Try.func100, Try.ntmps100
  go_wp2
  go_loopw [10] (fun i wr => ∃ k : Nat, k ≤ n ∧ i = .int .i64 k ∧ Hid (fstF (fun i => mailIn rs (ns.getD i ml0)) k = 0) ∧ Below w.heap.size w wr) (fun i _ => n - (intOf i).toNat)
  case atStart => exact ⟨0, Nat.zero_le _, rfl, rfl, Below.refl _ _⟩
  case round =>
    obtain ⟨k, hk, rfl, H0, hb⟩ := hrel
    by_cases hlt : k < n
    · have hlk : (k : Int) < (n : Int) := by omega
      obtain ⟨m, h, b, off, ex, rfl, _, _, XN, y, _⟩ := LAt.mail (MAt.below Hy.out hb) hlt
      have HE : Hid (ns.getD k ml0 = m) := HM.out k _ ex
      clear ex
      have HSt : Hid (∀ c : Int, mailIn rs m = c → c ≠ 0 → d = c) := fun c hc h1 => fstF_stop HD.out H0.out hlt (by show mailIn rs (ns.getD k ml0) = c; rw [HE.out]; exact hc) h1
      have HNx : Hid (mailIn rs m = 0 → fstF (fun i => mailIn rs (ns.getD i ml0)) (k + 1) = 0) := fun hc => fstF_next H0.out (by show mailIn rs (ns.getD k ml0) = 0; rw [HE.out]; exact hc)
      obtain ⟨kind, fr, to, view, at_, has, en, last, log, commit⟩ := m
      simp only at XN y
      have cN := XN.cell
      clear HE
      go_wp2_with (first | ((with_reducible refine store_midX 46 X0 0 [.int .i64 kind, .int .i64 fr, .int .i64 to, .int .i64 view, .int .i64 at_, .bool has, .int .i64 en.1, .int .i64 en.2.1, .int .i64 en.2.2.1, .int .i64 en.2.2.2.1, .int .i64 en.2.2.2.2.1, .int .i64 en.2.2.2.2.2, .int .i64 last, .slice h.1 h.2.1 h.2.2, .int .i64 commit] (by simp) (by kernel_rfl) (by simp [Value.oneCell']) rfl rfl ?_); intro V1 S; replace X0 : Bx V1 b0 [.int .i64 kind, .int .i64 fr, .int .i64 to, .int .i64 view, .int .i64 at_, .bool has, .int .i64 en.1, .int .i64 en.2.1, .int .i64 en.2.2.1, .int .i64 en.2.2.2.1, .int .i64 en.2.2.2.2.1, .int .i64 en.2.2.2.2.2, .int .i64 last, .slice h.1 h.2.1 h.2.2, .int .i64 commit] := S.bx; replace c0 := X0.cell; replace f0 := X0.froz; replace B := B.trans (S.kept.below _ (by omega) B.size); clear S) | ((with_reducible refine alloc_newX 46 [.int .i64 0, .int .i64 0, .int .i64 0, .int .i64 0, .int .i64 0, .bool false, .int .i64 0, .int .i64 0, .int .i64 0, .int .i64 0, .int .i64 0, .int .i64 0, .int .i64 0, .slice none 0 0, .int .i64 0] (fun _ => by kernel_rfl) ?_); intro b0 W0 N0; have ob0 : wr.heap.size ≤ b0 := N0.ge; have B := N0.below; have X0 := N0.bx; have c0 := X0.cell; have f0 := X0.froz; clear N0) | fail)
      clear XN cN
      by_cases q0 : 0 ≤ to ∧ to ≤ (nn : Int) - 1
      rotate_left 1
      · have e := HSt.out 3 (by unfold mailIn; rw [HL.out]; exact if_neg q0) (by decide)
        subst e
        have hbb := below_next hb B
        clear hb HD HSt HNx
        refine (isPlaceOf_is nn to _ false (by simp only [decide_eq_false_eq]; exact q0)).mono ?_
        rintro e W9 ⟨rfl, rfl⟩
        go_wp2
        go_ret
        exact ⟨rfl, hbb⟩
      refine (isPlaceOf_is nn to _ true (by simp only [decide_eq_true_eq]; exact q0)).mono ?_
      rintro e W9 ⟨rfl, rfl⟩
      obtain ⟨j, hj⟩ : ∃ j : Nat, to = (j : Int) := ⟨to.toNat, by omega⟩
      have HQ : Hid (∀ c : Int, mailAtF (rs.getD j rep0) ⟨kind, fr, to, view, at_, has, en, last, log, commit⟩ = c → mailIn rs ⟨kind, fr, to, view, at_, has, en, last, log, commit⟩ = c) := fun c hc => by unfold mailIn; rw [HL.out, if_pos q0]; show mailAtF (rs.getD to.toNat rep0) _ = c; rw [hj] at hc ⊢; exact hc
      have hjn : j < nn := by omega
      subst hj
      clear q0
      have hbb := below_next hb B
      clear hb
      obtain ⟨r, hN, b1, f1, ex1, rfl, _, _, XN, _, _⟩ := LAt.node (NAt.below Hx.out hbb) hjn
      have HJ := HR.out j _ ex1
      simp only at HJ
      have HSz := HA.out j hjn
      rw [HJ] at HQ HSz
      have HS5 : Hid _ := HSz
      clear HJ ex1 HSz
      obtain ⟨c, hc⟩ : ∃ c, mailAtF r ⟨kind, fr, (j : Int), view, at_, has, en, last, log, commit⟩ = c := ⟨_, rfl⟩
      have HC : Hid _ := hc
      have HCI : Hid _ := HQ.out c hc
      clear hc HQ
      have hjk : (j : Int) < (nn : Int) := by omega
      have hj0 : (0 : Int) ≤ (j : Int) := by omega
      have cN := XN.cell
      go_wp2_with fail
      have DQ : Below W9.heap.size W9 W9.drew := (Below.refl _ _).drew
      replace XN := XN.below DQ
      replace cN := XN.cell
      replace hbb := below_next hbb DQ
      replace X0 := X0.below DQ
      replace c0 := X0.cell
      replace f0 := X0.froz
      replace B := below_next B DQ
      clear DQ
      refine wp_region_held_drew (S := (fun w' => (∀ k : Nat, w'.cell? ⟨b0, k, none⟩ = [.int .i64 kind, .int .i64 fr, .int .i64 (j : Int), .int .i64 view, .int .i64 at_, .bool has, .int .i64 en.1, .int .i64 en.2.1, .int .i64 en.2.2.1, .int .i64 en.2.2.2.1, .int .i64 en.2.2.2.2.1, .int .i64 en.2.2.2.2.2, .int .i64 last, .slice h.1 h.2.1 h.2.2, .int .i64 commit][k]?) ∧ (w'.cell? ⟨b1, f1 + j * 10, none⟩ = [.int .i64 r.id, .int .i64 r.size, .int .i64 r.view, .bool r.normal, .int .i64 r.last, .slice hN.L.1 hN.L.2.1 hN.L.2.2, .int .i64 r.commit, .slice hN.O.1 hN.O.2.1 hN.O.2.2, .slice hN.A.1 hN.A.2.1 hN.A.2.2, .slice hN.D.1 hN.D.2.1 hN.D.2.2][0]? ∧ ∀ k_1 : Nat, k_1 < 10 → w'.cell? ⟨b1, f1 + j * 10 + k_1, none⟩ = [.int .i64 r.id, .int .i64 r.size, .int .i64 r.view, .bool r.normal, .int .i64 r.last, .slice hN.L.1 hN.L.2.1 hN.L.2.2, .int .i64 r.commit, .slice hN.O.1 hN.O.2.1 hN.O.2.2, .slice hN.A.1 hN.A.2.1 hN.A.2.2, .slice hN.D.1 hN.D.2.1 hN.D.2.2][k_1]?))) (by kernel_rfl) ⟨c0, cN⟩ (fun hHeld => ?_)
      refine wpAnyH_take (i := 0) (v := ?_) rfl (by kernel_rfl) (by kernel_rfl) (by kernel_rfl) (fun _ _ _ h => h) (Or.inl ⟨by rfl, ?_⟩) hHeld ?_
      rotate_left 1
      · intro w hSw
        try dsimp only at hSw
        first | (go_simp; done) | (go_simp; with_reducible rfl)
      simp only [Act.put, List.setIfInBounds_toArray, List.set_cons_zero, List.set_cons_succ, List.getElem_toArray, List.getElem_cons_zero]
      refine wpAnyH_take (i := 1) (v := ?_) rfl (by kernel_rfl) (by kernel_rfl) (by kernel_rfl) (fun _ _ _ h => h) (Or.inl ⟨by rfl, ?_⟩) hHeld ?_
      rotate_left 1
      · intro w hSw
        try dsimp only at hSw
        first | (go_simp; done) | (go_simp; with_reducible rfl)
      simp only [Act.put, List.setIfInBounds_toArray, List.set_cons_zero, List.set_cons_succ, List.getElem_toArray, List.getElem_cons_zero, List.getElem_cons_succ]
      refine wpAnyH_take (i := 2) (v := ?_) rfl (by kernel_rfl) (by kernel_rfl) (by kernel_rfl) (fun _ _ _ h => h) (Or.inl ⟨by rfl, ?_⟩) hHeld ?_
      rotate_left 1
      · intro w hSw
        try dsimp only at hSw
        first | (go_simp; done) | (go_simp; with_reducible rfl)
      simp only [Act.put, List.setIfInBounds_toArray, List.set_cons_zero, List.set_cons_succ, List.getElem_toArray, List.getElem_cons_zero, List.getElem_cons_succ]
      refine wpAnyH_take (i := 3) (v := ?_) rfl (by kernel_rfl) (by kernel_rfl) (by kernel_rfl) (fun _ _ _ h => h) (Or.inl ⟨by rfl, ?_⟩) hHeld ?_
      rotate_left 1
      · intro w hSw
        try dsimp only at hSw
        first | (go_simp; done) | (go_simp; with_reducible rfl)
      simp only [Act.put, List.setIfInBounds_toArray, List.set_cons_zero, List.set_cons_succ, List.getElem_toArray, List.getElem_cons_zero, List.getElem_cons_succ]
      refine wpAnyH_take (i := 4) (v := ?_) rfl (by kernel_rfl) (by kernel_rfl) (by kernel_rfl) (fun _ _ _ h => h) (Or.inl ⟨by rfl, ?_⟩) hHeld ?_
      rotate_left 1
      · intro w hSw
        try dsimp only at hSw
        first | (go_simp; done) | (go_simp; with_reducible rfl)
      simp only [Act.put, List.setIfInBounds_toArray, List.set_cons_zero, List.set_cons_succ, List.getElem_toArray, List.getElem_cons_zero, List.getElem_cons_succ]
      refine wpAnyH_take (i := 5) (v := ?_) rfl (by kernel_rfl) (by kernel_rfl) (by kernel_rfl) (fun _ _ _ h => h) (Or.inl ⟨by rfl, ?_⟩) hHeld ?_
      rotate_left 1
      · intro w hSw
        try dsimp only at hSw
        first | (go_simp; done) | (go_simp; with_reducible rfl)
      simp only [Act.put, List.setIfInBounds_toArray, List.set_cons_zero, List.set_cons_succ, List.getElem_toArray, List.getElem_cons_zero, List.getElem_cons_succ]
      refine wpAnyH_ready (rs := [6]) (by kernel_rfl) (by simp) ?_
      refine AllReadyH.cons rfl (fun KK hKK => ?_) AllReadyH.nil
      go_simp
      go_at_call 88
      refine (mailAt_is r hN ⟨kind, fr, (j : Int), view, at_, has, en, last, log, commit⟩ h HS5.out _ (y.below B) c HC.out).mono ?_
      rintro e w1 ⟨rfl, BB⟩
      replace XN := XN.below BB
      replace cN := XN.cell
      replace hbb := below_next hbb BB
      replace X0 := X0.below BB
      replace c0 := X0.cell
      replace f0 := X0.froz
      replace B := below_next B BB
      clear BB
      clear hHeld
      refine hKK _ _ ⟨c0, cN⟩ (fun hHeld => ?_)
      clear hKK KK
      refine wpAnyH_take (i := 7) (v := ?_) rfl (by kernel_rfl) (by kernel_rfl) (by kernel_rfl) (fun _ _ _ h => h) (Or.inl ⟨by rfl, ?_⟩) hHeld ?_
      rotate_left 1
      · intro w hSw
        try dsimp only at hSw
        first | (go_simp; done) | (go_simp; with_reducible rfl)
      simp only [Act.put, List.setIfInBounds_toArray, List.set_cons_zero, List.set_cons_succ, List.getElem_toArray, List.getElem_cons_zero, List.getElem_cons_succ]
      refine wpAnyH_done (by kernel_rfl) ?_ _
      clear XN cN
      by_cases q1 : c = 0
      rotate_left 1
      · have q1' : (c != 0) = true := by simp [q1]
        have e := HSt.out c HCI.out q1
        subst e
        clear HSt HNx HD
        go_wp2
        go_ret
        exact ⟨rfl, hbb⟩
      subst q1
      have HN : Hid _ := HNx.out HCI.out
      have HB : Hid _ := hbb
      clear hbb HNx HSt
      go_wp2
      go_roundw
      case rel => exact ⟨k + 1, by omega, by go_num, HN, HB.out⟩
      case measure => simp [intOf]; omega
    · obtain rfl : k = n := by omega
      have e : d = 0 := by rw [← HD.out]; exact H0.out
      subst e
      clear HD
      go_wp2
      go_ret
      exact ⟨rfl, hb⟩

end Go.Proofs.Ytikplcpgocgogaa
